/- Texts on the program and its reference, put together (PjB, PjD, PjC, PjF). -/
import Derived.Test.YtjhdjfobbgfpfaaMQP
import Derived.Test.YtjhdjfobbgfpfaaMQT
import Derived.Test.YtjhdjfobbgfpfaaMQG
import Derived.Test.YtjhdjfobbgfpfaaMQI
import Derived.Deep.RegionHeld3
import Derived.Test.YtjhdjfobbgfpfaaMQX
/- Contracts: pulls by the program: k pulls by the reference. -/
namespace Go.Proofs.Ytjhdjfobbgfpfaa
open Go.RowKit

/-- k pulls, one after the other; the items. -/
def manyP (f : PF) (s : PS) : Nat → List Int × PS
  | 0 => ([], s)
  | k + 1 => match f (manyP f s k).2 with
    | (s', none) => ((manyP f s k).1, s')
    | (s', some v) => ((manyP f s k).1 ++ [v], s')
def newPS (n : Nat) : PS := ⟨List.replicate n zeroCl, []⟩

theorem OwnJ.isi {w : World} {base c : Nat} {A : Option Addr} {l : List Int} (h : OwnJ w base A c l) : ∀ g, rowOf A = some g → base ≤ g ∧ ∃ cs, Bk w g 3 cs := fun g hg => by
  obtain ⟨_, ⟨hv, _⟩ | ⟨g', cap, cur, hv, hb, hh, _⟩⟩ := h
  · injection hv with hA; subst hA; cases hg
  · injection hv with hA
    subst hA
    have : g' = g := Option.some.inj hg
    subst this
    exact ⟨hb, cur.toList, by unfold Bk; simpa using hh⟩
theorem OwnJ.fr {n0 pb cb : Nat} {w w' : World} {base c : Nat} {A : Option Addr} {l : List Int} {T : TypeId} {hd tl : List Value} {s : PS} (h : OwnJ w base A c l) (hr : RS n0 pb cb T hd tl s w) (hT : T ≠ 3) (hf : Fr n0 pb cb w w') : OwnJ w' base A c l := by
  obtain ⟨cs, hc, _⟩ := hr.cells
  obtain ⟨R, cR, hb, _⟩ := hr.box
  have hrow := h.isi
  obtain ⟨h1, h2 | ⟨g, cap, cur, hv, hbg, hh, r⟩⟩ := h
  · exact ⟨h1, .inl h2⟩
  · have hv2 := hv
    injection hv with hA
    obtain ⟨_, ds, hg⟩ := hrow g (by rw [hA]; rfl)
    exact ⟨h1, .inr ⟨g, cap, cur, hv2, hbg, (hf.block g hg.lt (fun e => Bk.ne hb hg hT e.symm) (fun e => Bk.ne hc hg (by decide) e.symm) (.inr (IsPl.not hg (by decide)))).trans hh, r⟩⟩
/-- An append to a row of ints does not touch a run. -/
theorem RS.ints {n0 pb cb : Nat} {w w' : World} {base c : Nat} {A : Option Addr} {l : List Int} {T : TypeId} {hd tl : List Value} {s : PS} (hr : RS n0 pb cb T hd tl s w) (h : OwnJ w base A c l) (hT : T ≠ 3) {o : Obj} (hg : (w.alloc o).grownBy w' (rowOf A)) : RS n0 pb cb T hd tl s w' := by
  obtain ⟨cs, hc, hcs⟩ := hr.cells
  obtain ⟨R, cR, hb, ho⟩ := hr.box
  have hgr := hg.block
  have hz : (w.alloc o).heap.size = w.heap.size + 1 := by simp
  have hk : ∀ b, b < w.heap.size → some b ≠ rowOf A → w'.heap[b]? = w.heap[b]? := fun b hb hn => (hgr b (by omega) hn).trans (Below.heap_alloc _ _ _ hb)
  have hrow := h.isi
  refine ⟨hr.tp, hr.tc, hr.lop, hr.loc, ⟨cs, (hk _ hc.lt fun e => ?_).trans hc, hcs⟩, ⟨R, cR, (hk _ hb.lt fun e => ?_).trans hb, ho.keep fun g hlt hp => hk g hlt fun e => ?_⟩⟩
  · obtain ⟨_, ds, hi⟩ := hrow _ e.symm
    exact Bk.ne hc hi (by decide) rfl
  · obtain ⟨_, ds, hi⟩ := hrow _ e.symm
    exact Bk.ne hb hi hT rfl
  · obtain ⟨_, ds, hi⟩ := hrow _ e.symm
    exact IsPl.not hi (by decide) hp
theorem SW.ints {n0 pb cb : Nat} {A : Option Addr} {c : Nat} {l : List Nd} {As : Option Addr} {ca : Nat} {src : List (List Int)} {cc : Nat} {s : PS} {w w' : World} {base cR : Nat} {R : Option Addr} {q : List Int} (h : SW n0 pb cb A c l As ca src cc s w) (ho : OwnJ w base R cR q) (hbase : n0 ≤ base) {o : Obj} (hg : (w.alloc o).grownBy w' (rowOf R)) : SW n0 pb cb A c l As ca src cc s w' := by
  have hz : n0 ≤ w.heap.size := Nat.le_trans h.rs.lop (Nat.le_of_lt h.rs.ltp)
  have hb : Below n0 w w' := Below.grown (((Below.refl n0 w).alloc hz o)) hg (by simp; omega) (fun g e => Nat.le_trans hbase (ho.isi g e).1)
  exact ⟨h.rs.ints ho (by decide) hg, h.nodes.below hb (Nat.le_refl _), h.rows.below hb (Nat.le_refl _)⟩

/-- Between two pulls of the reference. -/
structure PJ (w : World) (pb cb : Nat) (A : Option Addr) (c : Nat) (l : List Nd) (As : Option Addr) (ca : Nat) (src : List (List Int)) (f : PF) (j : Nat) (pre : List Int) (s : PS) (R : Option Addr) (cR : Nat) (wr : World) : Prop where
  sw : SW w.heap.size pb cb A c l As ca src l.length s wr
  ok : StOk l src s.cs
  lg : s.lg.length + s.W l src ≤ 65536
  ow : OwnJ wr w.heap.size R cR pre
  bl : Below w.heap.size w wr
  e : manyP f (newPS l.length) j = (pre, s)
  ke : Bk wr w.heap.size 32 [.slice A l.length c]
  le : pre.length ≤ j
/-- What the reference's pulls leave. -/
def SpPost (A : Option Addr) (c : Nat) (l : List Nd) (As : Option Addr) (ca : Nat) (src : List (List Int)) (f : PF) (k : Nat) (w : World) (e : Ending) (w' : World) : Prop :=
  ∃ pb cb R cR pre s, e = .returned (.tuple #[.pointer (some ⟨pb, 0, none⟩), .slice R pre.length cR]) ∧ PJ w pb cb A c l As ca src f k pre s R cR w'

set_option maxRecDepth 100000 in
set_option maxHeartbeats 6400000 in
theorem specPulled_any {l : List Nd} {src : List (List Int)} {A : Option Addr} {c : Nat} {As : Option Addr} {ca : Nat} (hl12 : l.length ≤ 12) {t : Nat} {f : PF} (hF : Fine l src t f) (hN : ∀ pb cb n0, NextOk n0 pb cb A c l As ca src l.length f t) (hix : t + 1 = l.length) (h0 : StOk l src (newPS l.length).cs) (hw0 : (newPS l.length).W l src ≤ 65536) (k : Nat) (hk : k ≤ 200) (w : World) (hn : RdN w w.heap.size A l) (hsr : RdR w w.heap.size As src) :
    Calls Try.prog 58 #[.agg #[.slice A l.length c], .slice As 3 ca, .int .i64 k] w (SpPost A c l As ca src f k w) := by
  have hln : ((l.length : Int) - 1) = (t : Int) := by omega
  have hlw : IntKind.i64.wrap (t : Int) = (t : Int) := IntWalk.i64_in _ (by omega)
  obtain ⟨W1, hW1⟩ : ∃ X : World, X = w.alloc (.cells #[.slice A l.length c] 32) := ⟨_, rfl⟩
  have hb1 : Below w.heap.size w W1 := by rw [hW1]; exact (Below.refl _ _).alloc (Nat.le_refl _) _
  have kE : Bk W1 w.heap.size 32 [.slice A l.length c] := by rw [hW1]; exact Bk.new _ _ [_]
  have e1 := kE.cell 0
  simp only [List.getElem?_cons_zero] at e1
  have HW1 := Lib.hid hW1
  have Hb1 := Lib.hid hb1
  have HkE := Lib.hid kE
  have HF := Lib.hid hF
  have HN := Lib.hid hN
  have Hn := Lib.hid hn
  have Hsr := Lib.hid hsr
  have H0 := Lib.hid h0
  have Hw0 := Lib.hid hw0
  clear hW1 hb1 kE hF hN hn hsr h0 hw0
  go_enter Try.func58, Try.ntmps58
  go_wp2_with fail
  rw [← HW1.out]
  go_region_held3 (fun w' => w'.cell? ⟨w.heap.size, 0, none⟩ = some (.slice A l.length c)) (first | exact e1 | exact ks | go_keep)
    (first
      | (
        refine (specnewState_any A c l.length W1.drew (by omega)).mono ?_
        rintro e w2 ⟨rfl, kC, hb2⟩
        obtain ⟨cb, hcb⟩ : ∃ cb, W1.drew.heap.size + 2 = cb := ⟨_, rfl⟩
        rw [hcb] at kC ⊢
        have hb12 : Below W1.heap.size W1 w2 := ((Below.refl W1.heap.size W1).drew).trans hb2
        have ks := (HkE.out.below hb12 HkE.out.lt).cell 0
        simp only [List.getElem?_cons_zero] at ks
        have hcb2 : W1.heap.size ≤ cb := by rw [← hcb]; simp
        have HkC := Lib.hid kC
        have Hb12 := Lib.hid hb12
        have HkE2 := Lib.hid (HkE.out.below hb12 HkE.out.lt)
        clear kC hb12 hb2 hcb)
    )
  obtain ⟨W3, hW3⟩ : ∃ X : World, w2.alloc (.cells #[.slice A l.length c, .slice As 3 ca, .slice (some ⟨cb, 0, none⟩) l.length l.length, .slice none 0 0] 71) = X := ⟨_, rfl⟩
  rw [hW3]
  obtain ⟨pb, hpb⟩ : ∃ pb, w2.heap.size = pb := ⟨_, rfl⟩
  rw [hpb]
  have hz12 := Hb12.out.size
  have hz1 := Hb1.out.size
  have kP : Bk W3 pb 71 [.slice A l.length c, .slice As 3 ca, .slice (some ⟨cb, 0, none⟩) l.length l.length, .slice none 0 0] := by rw [← hW3, ← hpb]; exact Bk.new w2 _ [_, _, _, _]
  have hb3 : Below w.heap.size w W3 := by rw [← hW3]; exact (Hb1.out.trans (Hb12.out.mono hz1)).alloc (by omega) _
  have kC3 : Bk W3 cb 79 (madeCl l.length) := by rw [← hW3]; exact HkC.out.alloc _
  have kE3 : Bk W3 w.heap.size 32 [.slice A l.length c] := by rw [← hW3]; exact HkE2.out.alloc _
  have sw3 : SW w.heap.size pb cb A c l As ca src l.length (newPS l.length) W3 := by
    refine ⟨⟨by decide, by decide, by omega, by omega, ⟨madeCl l.length, kC3, fun k x hx => ?_⟩, none, 0, kP, OwnG.nil_ _ _⟩, Hn.out.below hb3 (Nat.le_refl _), Hsr.out.below hb3 (Nat.le_refl _)⟩
    have hk : k < l.length := by have := (List.getElem?_eq_some_iff.1 hx).1; simpa [newPS] using this
    simp only [newPS] at hx
    rw [List.getElem?_replicate, if_pos hk] at hx
    rw [← Option.some.inj hx]
    exact madeCl_in _ k hk
  have HkE3 := Lib.hid kE3
  have Hsw3 := Lib.hid sw3
  have Hb3 := Lib.hid hb3
  clear hW3 hpb kP hb3 kC3 kE3 sw3 ks e1 hcb2
  go_wp2_with fail
  go_loopw [2, 9] (fun kv ov wr => ∃ (j : Nat) (pre : List Int) (s : PS) (R : Option Addr) (cR : Nat), j ≤ k ∧ kv = .int .i64 ((k : Int) - j) ∧ ov = .slice R pre.length cR ∧ PJ w pb cb A c l As ca src f j pre s R cR wr) (fun kv _ _ => (intOf kv).toNat)
  case atStart =>
    have hl0 : W3.heap.size < (W3.alloc (.cells #[] 3)).heap.size := by simp
    exact ⟨0, [], newPS l.length, some ⟨W3.heap.size, 0, none⟩, 0, Nat.zero_le _, by simp, rfl, Hsw3.out.below ((Below.refl _ _).alloc (Nat.le_refl _) _), H0.out, by have := Hw0.out; simpa [newPS] using this, ⟨rfl, .inr ⟨W3.heap.size, 0, #[], rfl, Hb3.out.size, heap_alloc_new W3 _, Nat.le_refl _, Nat.zero_le _, rfl, rfl⟩⟩, Hb3.out.alloc Hb3.out.size _, rfl, HkE3.out.alloc _, Nat.le_refl _⟩
  case round =>
    obtain ⟨j, pre, s, R, cR, hj, rfl, rfl, h⟩ := hrel
    obtain ⟨m0, hm0⟩ : ∃ q0, pre.length = q0 := ⟨_, rfl⟩
    have hmj : m0 ≤ j := by rw [← hm0]; exact h.le
    have hcE := h.ke.cell 0
    simp only [List.getElem?_cons_zero] at hcE
    rw [hm0]
    have Hm0 := Lib.hid hm0
    have H := Lib.hid h
    clear h hm0
    by_cases h1 : j < k
    · have hg0 : (0 : Int) < (k : Int) - j := by omega
      have hw0 : IntKind.i64.wrap ((k : Int) - j - 1) = (k : Int) - j - 1 := IntWalk.i64_in _ (by omega)
      rcases hfs : f s with ⟨s2, o⟩
      have hcall := HN.out pb cb w.heap.size s wr H.out.sw H.out.ok H.out.lg
      have hfine := HF.out s H.out.ok
      rw [hfs] at hcall hfine
      have Hcall := Lib.hid hcall
      have Hfine := Lib.hid hfine
      have Hfs := Lib.hid hfs
      clear hcall hfine hfs
      go_wp2_with fail
      refine Hcall.out.mono ?_
      rintro e w4 ⟨rfl, sw4, fr4⟩
      have hlo := H.out.sw.rs.lop
      have hlc := H.out.sw.rs.loc
      have hb4 : Below w.heap.size w w4 := H.out.bl.trans (fr4.below hlo hlc H.out.bl.size)
      have ow4 := H.out.ow.fr H.out.sw.rs (by decide) fr4
      obtain ⟨R0, cR0, bk0, _⟩ := H.out.sw.rs.box
      obtain ⟨cs0, bc0, _⟩ := H.out.sw.rs.cells
      have ke4 := fr4.bk H.out.ke (by decide) (fun e => Bk.ne bk0 H.out.ke (by decide) e.symm) (fun e => Bk.ne bc0 H.out.ke (by decide) e.symm)
      have Hsw4 := Lib.hid sw4
      have Hb4 := Lib.hid hb4
      have How4 := Lib.hid ow4
      have Hke4 := Lib.hid ke4
      have hz4 := hb4.size
      clear sw4 fr4 hb4 ow4 ke4 bk0 bc0 hlo hlc hcE
      cases o with
      | none =>
        have ht : tup none = .tuple #[.int .i64 0, .bool false] := rfl
        go_wp2_with fail
        go_roundw
        case rel =>
          exact ⟨j + 1, pre, s2, R, cR, by omega, by go_num, by rw [Hm0.out], Hsw4.out, Hfine.out.ok, Nat.le_trans Hfine.out.wle H.out.lg, How4.out, Hb4.out, by simp only [manyP]; rw [H.out.e]; simp only; rw [Hfs.out], Hke4.out, Nat.le_succ_of_le H.out.le⟩
        case measure => simp [intOf]; omega
      | some v =>
        have hv := Hfine.out.item v rfl
        have ht : tup (some v) = .tuple #[.int .i64 v, .bool true] := rfl
        go_wp2_with (at_builtin; go_must (refine wpList_append_int rfl _ _ rfl w.heap.size R cR _ v m0 Hm0.out rfl How4.out _ rfl rfl (by omega) (by omega) ?_; intro R2 c2' w5 ho2 hg2); have hbb := (Hb4.out.alloc hz4 _).grown hg2 (by simp; omega) (fun g hg => (How4.out.row_lt g hg).1); have Hbb := Lib.hid hbb; have Ho2 := Lib.hid ho2; have Hsw5 := Lib.hid (Hsw4.out.ints How4.out (Nat.le_refl _) hg2); have Hke5 := Lib.hid ((Hke4.out.alloc _).grown hg2 (fun e => by obtain ⟨_, ds, hi⟩ := How4.out.isi _ e.symm; exact Bk.ne Hke4.out hi (by decide) rfl)); clear ho2 hg2 hbb)
        go_roundw
        case rel =>
          exact ⟨j + 1, pre ++ [v], s2, R2, c2', by omega, by go_num, by rw [List.length_append, Hm0.out]; rfl, Hsw5.out, Hfine.out.ok, Nat.le_trans Hfine.out.wle H.out.lg, Ho2.out, Hbb.out, by simp only [manyP]; rw [H.out.e]; simp only; rw [Hfs.out], Hke5.out, by rw [List.length_append]; have := H.out.le; simp; omega⟩
        case measure => simp [intOf]; omega
    · have hjk : j = k := by omega
      subst hjk
      have hg0 : ¬ (0 : Int) < (j : Int) - j := by omega
      go_wp2_with fail
      refine bodyPost_ret (v := .tuple #[.pointer (some ⟨pb, 0, none⟩), .slice R m0 cR]) (by simp [results, Try.results58, go_sem]) rfl ?_
      exact ⟨pb, cb, R, cR, pre, s, by rw [Hm0.out], H.out⟩


end Go.Proofs.Ytjhdjfobbgfpfaa

/- Contracts: the state of a pipe that has not been pulled, by its block. -/
namespace Go.Proofs.Ytjhdjfobbgfpfaa
open Go.RowKit

set_option maxRecDepth 100000 in
set_option maxHeartbeats 1600000 in
theorem implNewState_bk (A : Option Addr) (c : Nat) (l : List Nd) (w : World) (B : Nat) (hv : pipeOk l = true) (h : RdN w B A l) (hB : B ≤ w.heap.size) (hn : l.length ≤ 1048576) :
    Calls Try.prog 85 #[.agg #[.slice A l.length c]] w fun e w' => ∃ g, e = .returned (.agg #[.slice (some ⟨g, 0, none⟩) l.length l.length]) ∧ w.heap.size ≤ g ∧ Bk w' g 79 (madeCl l.length) ∧ Below w.heap.size w w' := by
  obtain ⟨W0, hW0⟩ : ∃ W0 : World, W0 = (w.alloc (.cells #[.slice A l.length c] 32)).alloc (.cells #[.slice none 0 0] 43) := ⟨_, rfl⟩
  have hb0 : Below w.heap.size w W0 := by rw [hW0]; exact ((Below.refl w.heap.size w).alloc (Nat.le_refl _) _).alloc (by simp) _
  have hx0 : Bk W0 w.heap.size 32 [.slice A l.length c] := by rw [hW0]; exact (Bk.new _ _ [_]).alloc _
  have hr0 : Bk W0 (w.heap.size + 1) 43 [.slice none 0 0] := by
    rw [hW0]
    have := Bk.new (w.alloc (.cells #[.slice A l.length c] 32)) 43 [.slice none 0 0]
    simpa using this
  have H0 := Lib.hid (h.below hb0 hB)
  have Hb0 := Lib.hid hb0
  have Hx0 := Lib.hid hx0
  have Hr0 := Lib.hid hr0
  have HW0 := Lib.hid hW0
  have hz0 := hb0.size
  clear h hb0 hx0 hr0 hW0
  go_enter Try.func85, Try.ntmps85
  go_wp2_with fail
  rw [← HW0.out]
  refine (implValidPipe_any A c l W0 B H0.out (by omega) hn).mono ?_
  rintro e w1 ⟨rfl, hb1⟩
  rw [hv]
  have Hb1 := Lib.hid (Hb0.out.trans (hb1.mono hz0))
  have Hx1 := Lib.hid (Hx0.out.below hb1 Hx0.out.lt)
  have Hr1 := Lib.hid (Hr0.out.below hb1 Hr0.out.lt)
  have hc1 : w1.cell? ⟨w.heap.size, 0, none⟩ = some (.slice A l.length c) := Hx1.out.cell 0
  have d1 : w1.cell? ⟨w.heap.size + 1, 0, none⟩ = some (.slice none 0 0) := Hr1.out.cell 0
  have f1 := Hr1.out.free 0
  have hz1 := Hb1.out.size
  have hr1 := Hr1.out.lt
  clear hb1 HW0
  clear hv
  have hmk := run_makeCl (P := Try.prog) 41 79 Try.underlying41 Try.infoCl l.length hn
  go_wp2_with fail
  have d2 : ((w1.setCell ⟨w.heap.size + 1, 0, none⟩ (.slice (some ⟨w1.heap.size, 0, none⟩) l.length l.length)).alloc (.cells (madeCl l.length).toArray 79)).cell? ⟨w.heap.size + 1, 0, none⟩ = some (.slice (some ⟨w1.heap.size, 0, none⟩) l.length l.length) := ((Hr1.out.set_ 0 _).alloc _).cell 0
  refine bodyPost_ret (v := .agg #[.slice (some ⟨w1.heap.size, 0, none⟩) l.length l.length]) (by simp [results, Try.results85, go_sem, d2]) rfl ⟨_, rfl, hz1, ?_, ?_⟩
  · have hbn := Bk.new (w1.setCell ⟨w.heap.size + 1, 0, none⟩ (.slice (some ⟨w1.heap.size, 0, none⟩) l.length l.length)) 79 (madeCl l.length)
    have hsz : (w1.setCell ⟨w.heap.size + 1, 0, none⟩ (.slice (some ⟨w1.heap.size, 0, none⟩) l.length l.length)).heap.size = w1.heap.size := by simp [World.setCell]
    rw [hsz] at hbn
    exact hbn
  · exact (Hb1.out.setCell (p := ⟨w.heap.size + 1, 0, none⟩) (by simp) _).alloc (by simp [World.setCell]; omega) _

end Go.Proofs.Ytjhdjfobbgfpfaa

/- Contracts: pulls by the program: k pulls by the program. -/
namespace Go.Proofs.Ytjhdjfobbgfpfaa
open Go.RowKit

attribute [local go_sem] Oper.semAt_some

theorem wpListIn_append_int {F : Fence} {nn : Nat} {ops : Array Oper} {rest : List Oper} {o : Oper} {a : Act} {Q : Exit → Act → World → Prop} {w : World} (hgd : o.guard = none) (s y : Operand)
    (ho : o.op = .call { callee := .builtin .append, args := #[s, y], argTypes := #[28, 28] }) (base : Nat) (A : Option Addr) (c : Nat) (l : List Int) (x : Int) (n : Nat) (hnl : l.length = n) (hs : a.eval s = .slice A n c) (hown : OwnJ w base A c l)
    (g : Nat) (hx : a.eval y = .slice (some ⟨g, 0, none⟩) 1 1) (hg : g = w.heap.size) (hn : n ≤ 1048576) (hb : base ≤ w.heap.size)
    (h : ∀ (A' : Option Addr) (c' : Nat) (w' : World), OwnJ w' base A' c' (l ++ [x]) → (w.alloc (.cells #[.int .i64 x] 3)).grownBy w' (rowOf A) → wpListIn F nn Try.prog ops Q rest (a.put o.dst (.slice A' (n + 1) c')) w') :
    wpListIn F nn Try.prog ops Q (o :: rest) a (w.alloc (.cells #[.int .i64 x] 3)) := by
  refine wpListIn_plain hgd fun K hK => ?_
  exact stepIn_append_int s y ho base A c l x n hnl hs hown g hx hg hn hb fun A' c' w' h1 h2 => hK _ _ (h A' c' w' h1 h2)
theorem OwnJ.keepB {w w' : World} {base c : Nat} {A : Option Addr} {l : List Int} (h : OwnJ w base A c l) (hk : ∀ (g : Nat) (cs : List Value), base ≤ g → Bk w g 3 cs → w'.heap[g]? = w.heap[g]?) : OwnJ w' base A c l := by
  have hrow := h.isi
  obtain ⟨h1, h2 | ⟨g, cap, cur, hv, hbg, hh, r⟩⟩ := h
  · exact ⟨h1, .inl h2⟩
  · have hv2 := hv
    injection hv with hA
    obtain ⟨_, ds, hg⟩ := hrow g (by rw [hA]; rfl)
    exact ⟨h1, .inr ⟨g, cap, cur, hv2, hbg, (hk g ds hbg hg).trans hh, r⟩⟩
theorem Fr.intsG {n0 pb cb : Nat} {w w' v : World} {row : Option Nat} {o : Obj} (h : Fr n0 pb cb w w') (hg : (w'.alloc o).grownBy v row) (hr : ∀ g, row = some g → w.heap.size ≤ g) : Fr n0 pb cb w v :=
  have h1 := h.alloc o
  ⟨hg.os.trans h1.os, hg.tape.trans h1.tape, hg.output.trans h1.output, Nat.le_trans h1.size hg.size, fun b hb h2 h3 h4 => (hg.block b (Nat.lt_of_lt_of_le hb h1.size) (fun e => by have := hr b e.symm; omega)).trans (h1.block b hb h2 h3 h4)⟩
/-- Between two items of the program's pulls: the items lie in the box ib, its row behind it. -/
structure PtJ (n0 rb cb N : Nat) (l : List Nd) (src : List (List Int)) (fe : Value) (W0 : World) (k : Nat) (pre : List Int) (s : PS) (W : World) : Prop where
  fr : Fr n0 rb cb W0 W
  iw : IW n0 rb cb N N fe s W
  ok : StOk l src s.cs
  lg : s.lg.length + s.W l src ≤ 65536
  big : W0.heap.size + 5 ≤ W.heap.size
  own : ∃ R cR, Bk W W0.heap.size 28 [.slice R pre.length cR] ∧ OwnJ W (W0.heap.size + 3) R cR pre
  pl : Bk W (W0.heap.size + 1) 111 [fe]
  num : Bk W (W0.heap.size + 2) 3 [.int .i64 k]
  le : pre.length ≤ k
/-- What the program's pulls leave. -/
def ImPost (l : List Nd) (src : List (List Int)) (f : PF) (k : Nat) (w : World) (e : Ending) (w' : World) : Prop :=
  ∃ rb cb fe pre s R cR Rp cp, e = .returned (.agg #[.slice R pre.length cR, .slice (some ⟨cb, 0, none⟩) l.length l.length, .slice Rp s.lg.length cp]) ∧ runP f k (newPS l.length) = (pre, s) ∧ IW w.heap.size rb cb l.length l.length fe s w' ∧
    Bk w' rb 113 [.slice (some ⟨cb, 0, none⟩) l.length l.length, .slice Rp s.lg.length cp, fe] ∧ OwnG w' w.heap.size Rp cp s.lg ∧ OwnJ w' w.heap.size R cR pre ∧ StOk l src s.cs ∧ Below w.heap.size w w'

theorem fd_state (a : Option Addr) (n m : Nat) (w : World) : (Instr.field 43 (.agg #[.slice a n m]) 0).run Try.prog w = .ok (.slice a n m) w := by kernel_rfl

set_option maxRecDepth 100000 in
set_option maxHeartbeats 6400000 in
theorem pullTimes_any {l : List Nd} {src : List (List Int)} {A : Option Addr} {c : Nat} {As : Option Addr} {ca : Nat} (hp : PipeOk l) (hv : pipeOk l = true) (hs : srcOk src = true) (h3 : src.length = 3) (hl12 : l.length ≤ 12) {t : TI} (ht : IsTI l t) (hix : t.ix + 1 = l.length) (h0 : StOk l src (newPS l.length).cs) (hw0 : (newPS l.length).W l src ≤ 65536) (k : Nat) (hk : k ≤ 200) (w : World) (hn : RdN w w.heap.size A l) (hsr : RdR w w.heap.size As src) :
    Calls Try.prog 60 #[.agg #[.slice A l.length c], .slice As 3 ca, .int .i64 k] w (ImPost l src (pull src (fun s => s.M l src + 1) t) k w) := by
  obtain ⟨W1, hW1⟩ : ∃ X : World, X = (w.alloc (.cells #[.slice A l.length c] 32)).alloc (.cells #[.slice none 0 0, .slice none 0 0, .slice none 0 0] 66) := ⟨_, rfl⟩
  have hb1 : Below w.heap.size w W1 := by rw [hW1]; exact below2 w _ _
  have kE : Bk W1 w.heap.size 32 [.slice A l.length c] := by rw [hW1]; exact (Bk.new _ _ [_]).alloc _
  have kO : Bk W1 (w.heap.size + 1) 66 [.slice none 0 0, .slice none 0 0, .slice none 0 0] := by
    rw [hW1]
    have := Bk.new (w.alloc (.cells #[.slice A l.length c] 32)) 66 [.slice none 0 0, .slice none 0 0, .slice none 0 0]
    simpa using this
  have hm : ∀ r ∈ src, r.length ≤ 1048576 := fun r hr => Nat.le_trans ((src_rows hs).2 r hr) (by omega)
  have hik : inR (k : Int) 0 200 = true := by simp [inR]; omega
  have hvp := implValidPipe_any A c l W1 w.heap.size (hn.below hb1 (Nat.le_refl _)) hb1.size (by omega)
  rw [hv] at hvp
  have HW1 := Lib.hid hW1
  have Hb1 := Lib.hid hb1
  have HkE := Lib.hid kE
  have HkO := Lib.hid kO
  have Hvp := Lib.hid hvp
  have Hn := Lib.hid hn
  have Hsr := Lib.hid hsr
  have Hp := Lib.hid hp
  have Hv := Lib.hid hv
  have Hs := Lib.hid hs
  have Ht := Lib.hid ht
  have H0 := Lib.hid h0
  have Hw0 := Lib.hid hw0
  have Hm := Lib.hid hm
  have Hik := Lib.hid hik
  have H3 := Lib.hid h3
  have Hix := Lib.hid hix
  have e1 := kE.cell 0
  have z1 := hb1.size
  simp only [List.getElem?_cons_zero] at e1
  clear hW1 hb1 kE kO hvp hn hsr hp hv hs ht h0 hw0 hm hik hix
  refine (callsIn_wide (n := 5)).1 ?_
  refine callsIn_of_wp_marks Try.func60 rfl trivial ?_ rfl
  simp only [Try.ntmps60, List.size_toArray, List.length_cons, List.length_nil, Nat.reduceAdd, Nat.reduceSub, Array.replicate_succ, Array.replicate_zero, List.push_toArray, List.append_toArray, List.nil_append, List.cons_append]
  refine wpIn_wide.2 ?_
  go_wp2_with fail
  rw [← HW1.out]
  refine Hvp.out.mono ?_
  rintro e w2 ⟨rfl, hb2⟩
  have hvs := implValidSources_any As ca src w2 w.heap.size (Hsr.out.below (Hb1.out.trans (hb2.mono z1)) (Nat.le_refl _)) (by omega) Hm.out
  rw [Hs.out, h3] at hvs
  have Hvs := Lib.hid hvs
  have Hb2 := Lib.hid (Hb1.out.trans (hb2.mono z1))
  have kE2 := HkE.out.below hb2 HkE.out.lt
  have kO2 := HkO.out.below hb2 HkO.out.lt
  have e2 := kE2.cell 0
  simp only [List.getElem?_cons_zero] at e2
  have HkE2 := Lib.hid kE2
  have HkO2 := Lib.hid kO2
  clear hb2 hvs kE2 kO2 e1
  go_wp2_with fail
  refine Hvs.out.mono ?_
  rintro e w2' ⟨rfl, rfl⟩
  go_wp2_with fail
  refine (within_any (k : Int) 0 200 w2).mono ?_
  rintro e w2' ⟨rfl, rfl⟩
  rw [Hik.out]
  go_wp2_with fail
  have z2 := Hb2.out.size
  have hfd := fd_state
  go_region_held3 (fun w' => w'.cell? ⟨w.heap.size, 0, none⟩ = some (.slice A l.length c)) (first | exact e2 | exact ks | go_keep)
    (first
      | (
        go_at_call 84
        refine (newRun_any (n0 := w.heap.size) (cb := g) (cc := l.length) (c := c) (ca := ca) Hp.out Hs.out hl12 Ht.out Hix.out (cs := (newPS l.length).cs) w3 (Nat.le_trans z2 hz3) (Hn.out.below Hb23.out (Nat.le_refl _)) (Hsr.out.below Hb23.out (Nat.le_refl _)) hcs).mono ?_
        rintro e w4 ⟨⟨rb, kf, lb, rfl, hrb, iw4, eg4, pu4⟩, hb4⟩
        have hb24 : Below w.heap.size w w4 := Hb23.out.trans (hb4.mono (Nat.le_trans z2 hz3))
        have kE4 := HkE3.out.below hb4 HkE3.out.lt
        have kO4 := HkO3.out.below hb4 HkO3.out.lt
        have ks := kE4.cell 0
        simp only [List.getElem?_cons_zero] at ks
        have HkE4 := Lib.hid kE4
        have HkO4 := Lib.hid kO4
        have Hb4 := Lib.hid hb24
        have Hiw4 := Lib.hid iw4
        have Heg4 := Lib.hid eg4
        have Hpu4 := Lib.hid pu4
        clear hb24 kE4 kO4 iw4 eg4 pu4 hb4 hcs)
      | (
        go_at_call 85
        refine (implNewState_bk A c l w2.drew w.heap.size Hv.out (Hn.out.below (Hb2.out.drew) (Nat.le_refl _)) z2 (by omega)).mono ?_
        rintro e w3 ⟨g, rfl, hg, kC, hb3⟩
        have hb23 : Below w2.heap.size w2 w3 := ((Below.refl w2.heap.size w2).drew).trans hb3
        have hz3 := hb23.size
        have kE3 := HkE2.out.below hb23 HkE2.out.lt
        have kO3 := HkO2.out.below hb23 HkO2.out.lt
        have ks := kE3.cell 0
        simp only [List.getElem?_cons_zero] at ks
        have hcs : CsAt w3 w.heap.size g (newPS l.length).cs := ⟨Nat.le_trans z2 hg, madeCl l.length, kC, fun k x hx => by
          have hk : k < l.length := by have := (List.getElem?_eq_some_iff.1 hx).1; simpa [newPS] using this
          simp only [newPS] at hx
          rw [List.getElem?_replicate, if_pos hk] at hx
          rw [← Option.some.inj hx]
          exact madeCl_in _ k hk⟩
        have HkE3 := Lib.hid kE3
        have HkO3 := Lib.hid kO3
        have Hb23 := Lib.hid (Hb2.out.trans (hb23.mono z2))
        clear kE3 kO3 hb23 hb3 kC)
    )
  obtain ⟨Rp, cRp, hbx, hlg⟩ := RS.box Hiw4.out
  have r2 := hbx.cell 2
  simp only [List.cons_append, List.nil_append, List.getElem?_cons_succ, List.getElem?_cons_zero] at r2
  have rlt := hbx.lt
  clear hbx hlg e2 ks
  go_wp2_with fail
  refine (callsIn_wide (n := 5)).1 ?_
  refine (callsIn_wide.2 (pulled_in kf lb k _)).mono ?_
  rintro e w' ⟨rfl, rfl⟩
  go_wp2_with fail
  obtain ⟨W0, hW0⟩ : ∃ W0, ((w4.alloc (.cells #[.slice none 0 0] 28)).alloc (.cells #[.func (.func kf) #[] lb] 111)).alloc (.cells #[.int .i64 (k : Int)] 3) = W0 := ⟨_, rfl⟩
  have hz0 : W0.heap.size = w4.heap.size + 3 := by rw [← hW0]; simp
  have hb0 : Below w4.heap.size w4 W0 := by rw [← hW0]; exact (((Below.refl _ _).alloc (Nat.le_refl _) _).alloc (by simp) _).alloc (by simp; omega) _
  have k0 : Bk W0 w4.heap.size 28 [.slice none 0 0] := by rw [← hW0]; exact ((Bk.new w4 _ [_]).alloc _).alloc _
  have k1 : Bk W0 (w4.heap.size + 1) 111 [.func (.func kf) #[] lb] := by
    rw [← hW0]
    have := Bk.new (w4.alloc (.cells #[.slice none 0 0] 28)) 111 [.func (.func kf) #[] lb]
    rw [World.size_alloc] at this
    exact this.alloc _
  have k2 : Bk W0 (w4.heap.size + 2) 3 [.int .i64 (k : Int)] := by
    rw [← hW0]
    have := Bk.new ((w4.alloc (.cells #[.slice none 0 0] 28)).alloc (.cells #[.func (.func kf) #[] lb] 111)) 3 [.int .i64 (k : Int)]
    simpa using this
  rw [hW0]
  clear hW0 r2
  have hF := pull_fine Hp.out Hs.out (fu := fun s => s.M l src + 1) Ht.out
  have HF := Lib.hid hF
  have rlt4 : rb < w4.heap.size := rlt
  have glt4 : g < w4.heap.size := RS.ltc Hiw4.out
  have z4 := Hb4.out.size
  have g0 : w.heap.size ≤ g := RS.loc Hiw4.out
  have r0 : w.heap.size ≤ rb := RS.lop Hiw4.out
  clear hF
  refine (wpIn_wide (n := 5)).1 ?_
  refine wpIn_rangeFunc_free (F := Fence.wide) (n := 5) rfl (by omega) (gf := 104) (lb := #[.pointer (some ⟨w4.heap.size + 1 + 1, 0, none⟩), .pointer (some ⟨w4.heap.size + 1, 0, none⟩)]) rfl trivial (enters_of Try.func104 (by kernel_rfl) rfl)
    (encs := fun v : Int => #[.int .i64 v]) (fun _ => rfl)
    (fun v : Int => { tmps := #[.agg #[.slice A l.length c], .slice As 3 ca, .int .i64 (k : Int), .pointer (some ⟨w.heap.size, 0, none⟩), undef, undef, .pointer (some ⟨w.heap.size + 1, 0, none⟩), .pointer (some ⟨rb, 0, none⟩), .pointer (some ⟨w4.heap.size, 0, none⟩), .int .i64 v, .agg #[.slice A l.length c], .bool true, .bool false, .bool false, .slice As 3 ca, .bool true, .bool false, .bool false, .bool false, .int .i64 (k : Int), .bool true, .bool false, .bool false, undef, .agg #[.slice A l.length c], .slice As 3 ca, .agg #[.slice A l.length c], .agg #[.slice (some ⟨g, 0, none⟩) l.length l.length], .slice (some ⟨g, 0, none⟩) l.length l.length, .pointer (some ⟨rb, 0, none⟩), .pointer (some ⟨rb, 0, none⟩), .pointer (some ⟨rb, 0, none⟩), .pointer (some ⟨rb, 2, none⟩), .func (.func kf) #[] lb, .int .i64 (k : Int), .func (.func 104) #[] #[.pointer (some ⟨w4.heap.size + 1 + 1, 0, none⟩), .pointer (some ⟨w4.heap.size + 1, 0, none⟩)], .int .i64 v, undef, undef, undef, undef, undef, undef, undef, undef, undef, undef, undef, undef, undef, undef], defers := [] }) ?assign ?iter
  case assign =>
    intro l x W K hK
    gi_wp2
    exact hK
  case iter =>
    intro lr D Wd Rdy Dn hD hl hz1 hbd hr1 hkind hst hstd hyld
    rw [hz0] at hD hl hz1
    have HY := Lib.hid hyld
    have HS := Lib.hid hst
    have HK := Lib.hid hkind
    clear hyld hst hstd hkind
    have fr01 : Fr w.heap.size rb g w4 Wd := Fr.of_below (hb0.trans (hbd.mono hb0.size))
    refine (pulled1_in HF.out kf lb Heg4.out Hpu4.out k (by omega) lr (w4.heap.size + 1 + 1) (w4.heap.size + 1) (.func (.func kf) #[] lb)
      (fun pre s W' => PtJ w.heap.size rb g l.length l src (.func (.func kf) #[] lb) w4 k pre s W' ∧ Rdy W') ?hJ ?hJF ?hY (newPS l.length) Wd ?h0).mono ?done
    case hJ =>
      rintro pre s W' ⟨h, hrd⟩
      exact ⟨h.num.cell 0, h.pl.cell 0, h.fr.fi, h.iw, h.ok, h.lg⟩
    case hJF =>
      rintro pre s W' s' W'' ⟨h, hrd⟩ hf hi hok hlg'
      obtain ⟨⟨ob, hob, hoc⟩, hDd⟩ := HK.out _ hrd
      obtain ⟨R, cR, hbx, how⟩ := h.own
      refine ⟨⟨h.fr.trans hf, hi, hok, hlg', Nat.le_trans h.big hf.size, ⟨R, cR, hf.bk hbx (by decide) (by omega) (by omega), how.fr h.iw (by decide) hf⟩, hf.bk h.pl (by decide) (by omega) (by omega), hf.bk h.num (by decide) (by omega) (by omega), h.le⟩, ?_⟩
      exact HS.out _ _ hrd (hf.far_obj hob hoc (by omega) (by omega)) (hf.far_obj hDd rfl (by omega) (by omega))
    case h0 =>
      refine ⟨⟨fr01, RS.below (RS.below Hiw4.out hb0) hbd, H0.out, by have := Hw0.out; simpa [newPS] using this, by omega, ⟨none, 0, k0.below hbd k0.lt, OwnJ.nil_ _ _⟩, k1.below hbd k1.lt, k2.below hbd k2.lt, Nat.zero_le _⟩, hr1⟩
    case hY =>
      rintro pre s2 W' v ⟨h, hrd⟩ hv hlt
      obtain ⟨hkl, hkD⟩ := HK.out _ hrd
      refine HY.out v W' _ hrd fun ob hob hlo hDo => ?_
      obtain ⟨Wb, hWb⟩ : ∃ Wb, Wb = W'.putObj lr ob := ⟨_, rfl⟩
      rw [← hWb] at hlo hDo ⊢
      have hpo : ∀ k', k' ≠ lr → Wb.heap[k']? = W'.heap[k']? := fun k' hk' => by rw [hWb]; exact World.putObj_heap_other hk'
      have nolr : ∀ {g' : Nat} {t' : TypeId} {cs : List Value}, Bk W' g' t' cs → g' ≠ lr := fun hb' e' => by
        subst e'
        obtain ⟨q, hq, hqc⟩ := hkl
        unfold Bk at hb'
        rw [hb'] at hq
        cases hq
        cases hqc
      obtain ⟨R, cR, hbx, how⟩ := h.own
      obtain ⟨m0, hm0⟩ : ∃ m0, pre.length = m0 := ⟨_, rfl⟩
      rw [hm0] at hbx
      have bx : Bk Wb w4.heap.size 28 [.slice R m0 cR] := (hpo _ (by omega)).trans hbx
      have owb : OwnJ Wb (w4.heap.size + 3) R cR pre := how.keepB fun g' cs _ hb' => hpo g' (nolr hb')
      have b1 : Bk Wb (w4.heap.size + 1) 111 [.func (.func kf) #[] lb] := (hpo _ (by omega)).trans h.pl
      have b2 : Bk Wb (w4.heap.size + 2) 3 [.int .i64 (k : Int)] := (hpo _ (by omega)).trans h.num
      have iwb : IW w.heap.size rb g l.length l.length (.func (.func kf) #[] lb) s2 Wb := by rw [hWb]; exact RS.put_obj h.iw ob hkl
      have frb : Fr w.heap.size rb g w4 Wb := by rw [hWb]; exact h.fr.put_obj (by omega) ob
      have hzb : Wb.heap.size = W'.heap.size := by rw [hWb, World.putObj_size]
      have hbig := h.big
      have hmk : m0 < k := by rw [← hm0]; exact hlt
      have hm2 : m0 ≤ 1048576 := by omega
      have hzw : w4.heap.size + 3 ≤ Wb.heap.size := by omega
      have c0 := bx.cell 0
      have f0 := bx.free 0
      simp only [List.getElem?_cons_zero] at c0
      have Hbx := Lib.hid bx
      have Howb := Lib.hid owb
      have B1 := Lib.hid b1
      have B2 := Lib.hid b2
      have Iwb := Lib.hid iwb
      have Frb := Lib.hid frb
      have Hzb := Lib.hid hzb
      have Hbig := Lib.hid hbig
      have Hm0 := Lib.hid hm0
      have Hlo := Lib.hid hlo
      have HDo := Lib.hid hDo
      have Hob := Lib.hid hob
      have Hok2 := Lib.hid h.ok
      have Hlg2 := Lib.hid h.lg
      have HL := Lib.hid hl
      have HD := Lib.hid hD
      have Hzw := Lib.hid hzw
      have Hmk := Lib.hid hmk
      clear hbx how bx owb b1 b2 iwb frb hzb hbig hm0 hlo hDo hl hD hkl hkD hpo nolr hWb h hz1 hbd hr1 fr01 hb0 k0 k1 k2 hz0 hlt hob hzw hmk hrd
      gi_wp2_with (gi_at_builtin; refine wpListIn_append_int rfl _ _ rfl (w4.heap.size + 3) R cR _ v m0 Hm0.out rfl Howb.out _ rfl rfl hm2 Hzw.out ?_; intro R2 c2' w5 ho2 hg2; have hrow := Howb.out.isi; have bx5 := (Hbx.out.alloc (.cells #[.int .i64 v] 3)).grown hg2 (fun e => by obtain ⟨_, ds, hi⟩ := hrow _ e.symm; exact Bk.ne Hbx.out hi (by decide) rfl); have c5 := bx5.cell 0; have f5 := bx5.free 0; simp only [List.getElem?_cons_zero] at c5; have Hbx5 := Lib.hid bx5; have Ho2 := Lib.hid ho2; have Hg2 := Lib.hid hg2; have Hrow := Lib.hid hrow; clear bx5 ho2 hg2 hrow c0 f0)
      have hl := HL.out
      have hD := HD.out
      have hbig := Hbig.out
      have hzb := Hzb.out
      have hg2 := Hg2.out
      obtain ⟨X1, hX1⟩ : ∃ X1, X1 = w5.setCell ⟨w4.heap.size, 0, none⟩ (.slice R2 (m0 + 1) c2') := ⟨_, rfl⟩
      rw [← hX1]
      have hza : (Wb.alloc (.cells #[.int .i64 v] 3)).heap.size = Wb.heap.size + 1 := by simp
      have h5 : ∀ k', k' < Wb.heap.size → some k' ≠ rowOf R → w5.heap[k']? = Wb.heap[k']? := fun k' h2 h3 => (hg2.block k' (by omega) h3).trans (Below.heap_alloc _ _ _ h2)
      have hx1 : ∀ k', k' ≠ w4.heap.size → k' < Wb.heap.size → some k' ≠ rowOf R → X1.heap[k']? = Wb.heap[k']? := fun k' h1 h2 h3 => by
        rw [hX1]; exact (Below.heap_setCell _ _ _ _ h1).trans (h5 k' h2 h3)
      have hzx : X1.heap.size = w5.heap.size := by rw [hX1]; simp [World.setCell]
      have hz5 := hg2.size
      have nrow : ∀ {k' : Nat} {q : Obj}, Wb.heap[k']? = some q → q.isCells = false → some k' ≠ rowOf R := fun hq hqc e => by
        obtain ⟨_, ds, hi⟩ := Hrow.out _ e.symm
        unfold Bk at hi
        rw [hi] at hq
        cases hq
        cases hqc
      have nlr := nrow Hlo.out Hob.out
      have nD := nrow HDo.out rfl
      refine ⟨hx1 lr (by omega) (by omega) nlr, hx1 D (by omega) (by omega) nD, fun o2 ho2 hrd2 => ⟨rfl, ?_, hrd2⟩⟩
      have hp2 : ∀ k', k' ≠ lr → (X1.putObj lr o2).heap[k']? = X1.heap[k']? := fun k' hk' => World.putObj_heap_other hk'
      have x0 : Bk X1 w4.heap.size 28 [.slice R2 (m0 + 1) c2'] := by rw [hX1]; exact Hbx5.out.set_ 0 _
      have hnl : ∃ q : Obj, X1.heap[lr]? = some q ∧ q.isCells = false := ⟨ob, (hx1 lr (by omega) (by omega) nlr).trans Hlo.out, Hob.out⟩
      have n1 : some (w4.heap.size + 1) ≠ rowOf R := fun e => by obtain ⟨_, ds, hi⟩ := Hrow.out _ e.symm; exact Bk.ne B1.out hi (by decide) rfl
      have hlen : (pre ++ [v]).length = m0 + 1 := by rw [List.length_append, Hm0.out]; rfl
      refine ⟨?_, ?_, Hok2.out, Hlg2.out, by rw [World.putObj_size, hzx]; omega, ⟨R2, c2', ?_, ?_⟩, ?_, ?_, ?_⟩
      · rw [hX1]
        exact ((Frb.out.intsG hg2 (fun g' e => Nat.le_trans (Nat.le_add_right _ 3) (Hrow.out g' e).1)).far_set (Nat.le_refl _) _ _).put_obj (by omega) o2
      · have i1 : IW w.heap.size rb g l.length l.length (.func (.func kf) #[] lb) s2 X1 := by
          rw [hX1]
          exact RS.far (RS.ints Iwb.out Howb.out (by decide) hg2) 0 _ (by omega) (by omega) (IsPl.not Hbx5.out (by decide))
        exact RS.put_obj i1 o2 hnl
      · rw [hlen]; exact (hp2 _ (by omega)).trans x0
      · refine Ho2.out.keepB fun g' cs hg' hb' => ?_
        have e1 : g' ≠ lr := fun e => by
          subst e
          obtain ⟨q, hq, hqc⟩ := hnl
          rw [hX1, Below.heap_setCell _ _ _ _ (show g' ≠ w4.heap.size by omega)] at hq
          unfold Bk at hb'
          rw [hb'] at hq
          cases hq
          cases hqc
        refine (hp2 _ e1).trans ?_
        rw [hX1]
        exact Below.heap_setCell _ _ _ _ (fun e => Bk.ne Hbx5.out hb' (by decide) e.symm)
      · exact (hp2 _ (by omega)).trans ((hx1 _ (by omega) (by omega) n1).trans B1.out)
      · have n2 : some (w4.heap.size + 2) ≠ rowOf R := fun e => by have := (Hrow.out _ e.symm).1; omega
        exact (hp2 _ (by omega)).trans ((hx1 _ (by omega) (by omega) n2).trans B2.out)
      · rw [hlen]; exact Hmk.out
    case done =>
      rintro e W' ⟨hv, h, hrd⟩
      refine ⟨hv, .inl ⟨hrd, fun ob hob hDo => ?_⟩⟩
      obtain ⟨hkl, hkD⟩ := HK.out _ hrd
      obtain ⟨pre, hpre⟩ : ∃ pre, (runP (pull src (fun s => s.M l src + 1) t) k (newPS l.length)).1 = pre := ⟨_, rfl⟩
      obtain ⟨se, hse⟩ : ∃ se, (runP (pull src (fun s => s.M l src + 1) t) k (newPS l.length)).2 = se := ⟨_, rfl⟩
      rw [hpre, hse] at h
      have hres : runP (pull src (fun s => s.M l src + 1) t) k (newPS l.length) = (pre, se) := by rw [← hpre, ← hse]
      have nolr : ∀ {g' : Nat} {t' : TypeId} {cs : List Value}, Bk W' g' t' cs → g' ≠ lr := fun hb' e' => by
        subst e'
        obtain ⟨q, hq, hqc⟩ := hkl
        unfold Bk at hb'
        rw [hb'] at hq
        cases hq
        cases hqc
      have hpo : ∀ k', k' ≠ lr → (W'.putObj lr ob).heap[k']? = W'.heap[k']? := fun k' hk' => World.putObj_heap_other hk'
      obtain ⟨R, cR, hbx, how⟩ := h.own
      obtain ⟨Rq, cRq, hb4x, _⟩ := RS.box Hiw4.out
      obtain ⟨vs4, hc4x, _⟩ := RS.cells Hiw4.out
      have bO : Bk (W'.putObj lr ob) (w.heap.size + 1) 66 [.slice none 0 0, .slice none 0 0, .slice none 0 0] := by
        have := h.fr.bk HkO4.out (by decide) (fun e => Bk.ne hb4x HkO4.out (by decide) e.symm) (fun e => Bk.ne hc4x HkO4.out (by decide) e.symm)
        exact (hpo _ (nolr this)).trans this
      have bx : Bk (W'.putObj lr ob) w4.heap.size 28 [.slice R pre.length cR] := (hpo _ (by omega)).trans hbx
      have owb : OwnJ (W'.putObj lr ob) (w4.heap.size + 3) R cR pre := how.keepB fun g' cs _ hb' => hpo g' (nolr hb')
      have iwb : IW w.heap.size rb g l.length l.length (.func (.func kf) #[] lb) se (W'.putObj lr ob) := RS.put_obj h.iw ob hkl
      have frb : Fr w.heap.size rb g w4 (W'.putObj lr ob) := h.fr.put_obj (by omega) ob
      obtain ⟨W2, hW2⟩ : ∃ W2, W'.putObj lr ob = W2 := ⟨_, rfl⟩
      rw [hW2] at bO bx owb iwb frb hDo ⊢
      obtain ⟨Rz, cz, hbz, hlz⟩ := RS.box iwb
      have x0 := bx.cell 0
      have y0 := hbz.cell 0
      have y1 := hbz.cell 1
      have o0 := bO.cell 0
      have o1 := bO.cell 1
      have o2 := bO.cell 2
      have p0 := bO.free 0
      have p1 := bO.free 1
      have p2 := bO.free 2
      simp only [List.cons_append, List.nil_append, List.getElem?_cons_succ, List.getElem?_cons_zero] at x0 y0 y1 o0 o1 o2
      have olt : w.heap.size + 1 < W2.heap.size := bO.lt
      have o4lt : w.heap.size + 1 < w4.heap.size := HkO4.out.lt
      have rbne : rb ≠ w.heap.size + 1 := Bk.ne hb4x HkO4.out (by decide)
      have gne : g ≠ w.heap.size + 1 := Bk.ne hc4x HkO4.out (by decide)
      have kx := (((bx.far (p := ⟨w.heap.size + 1, 0, none⟩) (by simp only; omega) (.slice R pre.length cR)).far (p := ⟨w.heap.size + 1, 1, none⟩) (by simp only; omega) (.slice (some ⟨g, 0, none⟩) l.length l.length)).far (p := ⟨w.heap.size + 1, 2, none⟩) (by simp only; omega) (.slice Rz se.lg.length cz)).cell 0
      have kz := (((hbz.far (p := ⟨w.heap.size + 1, 0, none⟩) (by simp only; omega) (.slice R pre.length cR)).far (p := ⟨w.heap.size + 1, 1, none⟩) (by simp only; omega) (.slice (some ⟨g, 0, none⟩) l.length l.length)).far (p := ⟨w.heap.size + 1, 2, none⟩) (by simp only; omega) (.slice Rz se.lg.length cz))
      have ks := And.intro kx (And.intro (kz.cell 0) (kz.cell 1))
      simp only [List.cons_append, List.nil_append, List.getElem?_cons_succ, List.getElem?_cons_zero] at ks
      clear kx kz
      have HbO := Lib.hid bO
      have Hbx := Lib.hid bx
      have Howb := Lib.hid owb
      have Iwb := Lib.hid iwb
      have Frb := Lib.hid frb
      have Hbz := Lib.hid hbz
      have Hlz := Lib.hid hlz
      have Hdo := Lib.hid hDo
      have Hres := Lib.hid hres
      have HD := Lib.hid hD
      have Hok := Lib.hid h.ok
      clear hl hz1 hbd hr1 fr01 hb0 k0 k1 k2 hz0 hD hkl hkD hpo nolr hDo hres bO bx owb iwb frb hbz hlz hW2 hpre hse h hbx how hb4x hc4x hob hrd hv
      go_wp2_with fail
      go_region_held3 (fun w' => w'.cell? ⟨w4.heap.size, 0, none⟩ = some (.slice R pre.length cR) ∧ w'.cell? ⟨rb, 0, none⟩ = some (.slice (some ⟨g, 0, none⟩) l.length l.length) ∧ w'.cell? ⟨rb, 1, none⟩ = some (.slice Rz se.lg.length cz)) (first | exact ⟨x0, y0, y1⟩ | exact ks | go_keep) (fail)
      go_wp2_with fail
      obtain ⟨X, hX⟩ : ∃ X : World, (((W2.setCell ⟨w.heap.size + 1, 0, none⟩ (.slice R pre.length cR)).setCell ⟨w.heap.size + 1, 1, none⟩ (.slice (some ⟨g, 0, none⟩) l.length l.length)).setCell ⟨w.heap.size + 1, 2, none⟩ (.slice Rz se.lg.length cz)).drew = X := ⟨_, rfl⟩
      rw [hX]
      have hD := HD.out
      have hkeep : ∀ b, b ≠ w.heap.size + 1 → X.heap[b]? = W2.heap[b]? := fun b hb => by
        rw [← hX]
        exact (Below.heap_setCell _ _ _ _ hb).trans ((Below.heap_setCell _ _ _ _ hb).trans (Below.heap_setCell _ _ _ _ hb))
      have hzX : X.heap.size = W2.heap.size := by rw [← hX]; simp [World.setCell, World.drew]
      have xO : Bk X (w.heap.size + 1) 66 [.slice R pre.length cR, .slice (some ⟨g, 0, none⟩) l.length l.length, .slice Rz se.lg.length cz] := by rw [← hX]; exact ((HbO.out.set_ 0 _).set_ 1 _).set_ 2 _
      have xI : IW w.heap.size rb g l.length l.length (.func (.func kf) #[] lb) se X := by
        obtain ⟨csz, hcz, hcsz⟩ := RS.cells Iwb.out
        exact ⟨(Iwb.out).tp, (Iwb.out).tc, r0, g0, ⟨csz, (hkeep _ gne).trans hcz, hcsz⟩, ⟨Rz, cz, (hkeep _ rbne).trans Hbz.out, Hlz.out.keep fun b _ hp => hkeep b (fun e => IsPl.not HbO.out (by decide) (e ▸ hp))⟩⟩
      have xB : Bk X rb 113 [.slice (some ⟨g, 0, none⟩) l.length l.length, .slice Rz se.lg.length cz, .func (.func kf) #[] lb] := (hkeep _ rbne).trans Hbz.out
      have xG : OwnG X w.heap.size Rz cz se.lg := Hlz.out.keep fun b _ hp => hkeep b (fun e => IsPl.not HbO.out (by decide) (e ▸ hp))
      have xJ : OwnJ X (w4.heap.size + 3) R cR pre := Howb.out.keepB fun g' cs hg' _ => hkeep g' (by omega)
      have xD : X.heap[D]? = some (.deferred (some [])) := (hkeep D (by omega)).trans Hdo.out
      have bW : Below w.heap.size w W2 := Hb4.out.trans (Frb.out.below r0 g0 z4)
      have bX : Below w.heap.size w X := by rw [← hX]; exact (((bW.setCell (p := ⟨w.heap.size + 1, 0, none⟩) (by simp) _).setCell (p := ⟨w.heap.size + 1, 1, none⟩) (by simp) _).setCell (p := ⟨w.heap.size + 1, 2, none⟩) (by simp) _).drew
      have noD : ∀ {g' : Nat} {t' : TypeId} {cs : List Value}, Bk X g' t' cs → g' ≠ D := fun hb' e' => by
        subst e'
        unfold Bk at hb'
        rw [hb'] at xD
        cases xD
      have pk : ∀ (o : Obj) {g' : Nat} {t' : TypeId} {cs : List Value}, Bk X g' t' cs → Bk (X.putObj D o) g' t' cs := fun o g' t' cs hb' => (World.putObj_heap_other (noD hb')).trans hb'
      have q0 : ∀ o : Obj, (X.putObj D o).cell? ⟨w.heap.size + 1, 0, none⟩ = some (.slice R pre.length cR) := fun o => (pk o xO).cell 0
      have q1 : ∀ o : Obj, (X.putObj D o).cell? ⟨w.heap.size + 1, 1, none⟩ = some (.slice (some ⟨g, 0, none⟩) l.length l.length) := fun o => (pk o xO).cell 1
      have q2 : ∀ o : Obj, (X.putObj D o).cell? ⟨w.heap.size + 1, 2, none⟩ = some (.slice Rz se.lg.length cz) := fun o => (pk o xO).cell 2
      refine ⟨by simp, .inl ⟨_, _, rfl, run_takeDeferred (b := D) (ds := []) xD, ?_⟩⟩
      refine ⟨.agg #[.slice R pre.length cR, .slice (some ⟨g, 0, none⟩) l.length l.length, .slice Rz se.lg.length cz], by simp [results, Try.results60, go_sem, q0, q1, q2], rb, g, .func (.func kf) #[] lb, pre, se, R, cR, Rz, cz, rfl, Hres.out, RS.put_obj xI _ ⟨_, xD, rfl⟩, pk _ xB, ?_, ?_, Hok.out, ?_⟩
      · exact xG.keep fun b _ hp => World.putObj_heap_other (fun e => by subst e; obtain ⟨ds, fr, hq⟩ := hp; rw [xD] at hq; cases hq)
      · exact (xJ.keepB fun g' cs _ hb' => World.putObj_heap_other (noD hb')).base_ (by omega)
      · exact ⟨bX.os, bX.tape, bX.output, by rw [World.putObj_size]; exact bX.size, fun b hb => (World.putObj_heap_other (by omega)).trans (bX.block b hb)⟩


end Go.Proofs.Ytjhdjfobbgfpfaa

/- The state before the first pull is one of the pipe. -/
namespace Go.Proofs.Ytjhdjfobbgfpfaa
open Go.RowKit

theorem mostOf_nonneg {x : Nd} {src : List (List Int)} (hn : numsOk x = true) : 0 ≤ mostOf x src := by
  unfold mostOf
  repeat' split
  all_goals first
    | omega
    | exact Int.natCast_nonneg _
    | (simp only [numsOk] at hn; simp_all [inR] <;> omega)
theorem newPS_ok {l : List Nd} {src : List (List Int)} (hp : PipeOk l) : StOk l src (newPS l.length).cs := by
  refine ⟨by simp [newPS], fun i x c hx hc => ?_⟩
  have hn : numsOk x = true := by
    have h1 := hp.node i x hx
    simp only [nodeOk, Bool.and_eq_true] at h1
    exact h1.1
  have hi : i < l.length := (List.getElem?_eq_some_iff.1 hx).1
  simp only [newPS] at hc
  rw [List.getElem?_replicate, if_pos hi] at hc
  obtain rfl := Option.some.inj hc
  exact ⟨⟨by decide, mostOf_nonneg hn⟩, by decide, by decide⟩
theorem wsum_le {f : Nd → Cl → Nat} {b : Nat} (h : ∀ x c, f x c ≤ b) : ∀ (l : List Nd) (cs : List Cl), wsum f l cs ≤ b * l.length
  | [], _ => Nat.zero_le _
  | _ :: _, [] => Nat.zero_le _
  | x :: l, c :: cs => by
    have h1 := h x c
    have h2 := wsum_le h l cs
    simp only [wsum, List.length_cons, Nat.mul_succ]
    omega
theorem wSrc_le {src : List (List Int)} (hs : srcOk src = true) (x : Nd) (c : Cl) : wSrc src x c ≤ 13 := by
  unfold wSrc
  split
  · have : (src.getD x.n.toNat []).length ≤ 12 := by
      rw [List.getD_eq_getElem?_getD]
      cases h : src[x.n.toNat]? with
      | none => simp
      | some r => exact (src_rows hs).2 r (List.mem_of_getElem? h)
    split <;> omega
  · omega
theorem newPS_W {l : List Nd} {src : List (List Int)} (hs : srcOk src = true) (hl : l.length ≤ 12) : (newPS l.length).W l src ≤ 65536 := by
  have h := wsum_le (wSrc_le hs) l (newPS l.length).cs
  unfold PS.W
  omega

end Go.Proofs.Ytjhdjfobbgfpfaa
