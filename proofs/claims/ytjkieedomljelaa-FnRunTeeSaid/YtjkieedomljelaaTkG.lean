/- ReadBy by the reference. -/
import Derived.Test.YtjkieedomljelaaTkE
import Derived.Test.YtjkieedomljelaaTkF
import Derived.Deep.DeepMust
namespace Go.Proofs.Ytjkieedomljelaa
open Go.RowKit Go.Conc Go.Deep

/-- The row that RunTee gives is as long as the turns. -/
def rbLen (l : List Int) (i : Int) (ts : List Int) : Prop := ts.length ≤ (tkR l i ts).length
theorem rbLen_of {l : List Int} {i : Int} {ts : List Int} (h : turnsOk l i ts = true) : rbLen l i ts := by
  unfold rbLen tkR
  rw [if_pos h, readsT_len]
  exact Nat.le_refl _

/-- A slice of the call's own, or an empty one without room that lies anywhere. -/
def OwnE (w : World) (base : Nat) (A : Option Addr) (c : Nat) (l : List Int) : Prop := OwnJ w base A c l ∨ (l = [] ∧ c = 0 ∧ ∃ g, A = some ⟨g, 0, none⟩)
theorem OwnE.ownI {w : World} {base c : Nat} {A : Option Addr} {l : List Int} (h : OwnE w base A c l) : OwnI w base w.heap.size A l := by
  rcases h with h | ⟨rfl, -, -⟩
  · exact h.ownI
  · exact fun hl => absurd hl (by simp)
theorem run_append_empty (w : World) (t ty e : TypeId) (i : TypeInfo) (z : Value) (ht : Try.prog.underlying t = some (.slice e)) (hi : Try.prog.info? e = some i) (hz : i.zero = some z)
    (g : Nat) (a : Addr) (n c : Nat) (news : List Value) (hl : news.length = n * i.size) (hnews : ∀ j v, news[j]? = some v → w.cell? (a.add j) = some v)
    (h0 : 0 < n) (h63 : (n : Int) ≤ 9223372036854775807) (h48 : n * i.bytes ≤ 281474976710656) :
    (Builtin.append_ #[t, t] ty #[.slice (some ⟨g, 0, none⟩) 0 0, .slice (some a) n c]).run Try.prog w = (Builtin.append_ #[t, t] ty #[.slice none 0 0, .slice (some a) n c]).run Try.prog w := by
  have h1 := run_append_nil (P := Try.prog) w t ty e i z ht hi hz a n c news hl hnews h0 h63 h48
  have h2 := run_append_grow (P := Try.prog) w t ty e i z ht hi hz ⟨g, 0, none⟩ 0 0 [] (by simp) (fun j v h => by simp at h) a n c news hl hnews (by omega) (by omega) (by rw [Nat.zero_add, nextslicecap_zero h0]; exact h48)
  rw [h1, h2]
  simp

theorem wpList_append_intE {ops : Array Oper} {rest : List Oper} {o : Oper} {a : Act} {Q : Exit → Act → World → Prop} {w : World} (hgd : o.guard = none) (s y : Operand)
    (ho : o.op = .call { callee := .builtin .append, args := #[s, y], argTypes := #[22, 22] }) (base : Nat) (A : Option Addr) (c : Nat) (l : List Int) (x : Int) (n : Nat) (hnl : l.length = n) (hs : a.eval s = .slice A n c) (hown : OwnE w base A c l)
    (g : Nat) (hx : a.eval y = .slice (some ⟨g, 0, none⟩) 1 1) (hg : g = w.heap.size) (hn : n ≤ 1048576) (hb : base ≤ w.heap.size)
    (h : ∀ (A' : Option Addr) (c' : Nat) (w' : World) (row : Option Nat), OwnJ w' base A' c' (l ++ [x]) → (w.alloc (.cells #[.int .i64 x] 3)).grownBy w' row → (∀ g, row = some g → base ≤ g) → wpList Try.prog ops Q rest (a.put o.dst (.slice A' (n + 1) c')) w') :
    wpList Try.prog ops Q (o :: rest) a (w.alloc (.cells #[.int .i64 x] 3)) := by
  rcases hown with hown | ⟨rfl, rfl, g0, rfl⟩
  · exact wpList_append_int hgd s y ho base A c l x n hnl hs hown g hx hg hn hb fun A' c' w' h1 h2 => h A' c' w' _ h1 h2 fun g hg => (hown.row_lt g hg).1
  subst hg
  subst hnl
  obtain ⟨i, hi, hz0, hz1, hz2⟩ := info_parts Try.infoInt
  have hown2 : OwnJ (w.alloc (.cells #[.int .i64 x] 3)) base none 0 [] := OwnJ.nil_ _ _
  have hb1 : Bk (w.alloc (.cells #[.int .i64 x] 3)) w.heap.size 3 [.int .i64 x] := Bk.new w _ [_]
  have hread : ∀ (j : Nat) (u : Value), (ints [x])[j]? = some u → (w.alloc (.cells #[.int .i64 x] 3)).cell? ((⟨w.heap.size, 0, none⟩ : Addr).add j) = some u := fun j u hj => by
    rw [add_zero_row, hb1.cell]
    exact hj
  have hone : ∀ u ∈ ints [x], u.oneCell' = true := by
    intro u hu
    simp [ints] at hu
    subst hu
    rfl
  refine wpList_plain hgd fun K hK => ?_
  obtain ⟨v', w', hr, h2, h3, _⟩ := run_append_own (P := Try.prog) (w.alloc (.cells #[.int .i64 x] 3)) base 22 o.type 3 i _ 1 8 Try.underlying22 hi hz0 hz1 hz2 rfl (by decide)
    (.slice none 0 0) 0 [] hown2 ⟨w.heap.size, 0, none⟩ 1 1 (ints [x]) rfl hread hone (by unfold maxLen; omega) (by omega) (by simp; omega)
  have hr2 := (run_append_empty (w.alloc (.cells #[.int .i64 x] 3)) 22 o.type 3 i _ Try.underlying22 hi hz0 g0 ⟨w.heap.size, 0, none⟩ 1 1 (ints [x]) (by rw [hz1]; rfl) hread (by decide) (by decide) (by rw [hz2]; decide)).trans hr
  have hv : ∃ A' c', v' = .slice A' (0 + 1) c' := by
    obtain ⟨_, ⟨_, h0⟩ | ⟨g, cap, cur, hv, _⟩⟩ := h2
    · omega
    · exact ⟨_, _, hv⟩
  obtain ⟨A', c', rfl⟩ := hv
  unfold Oper.wp execOp
  simp only [List.length_nil] at hs
  simp only [ho, resolve, invoke, builtin, Sem.run_bind, Sem.run_pure, Result.andThen_ok, List.map_toArray, List.map_cons, List.map_nil, hs, hx, hr2]
  refine hK _ _ (h A' c' w' none ?_ (by simpa [Value.ownBlock] using h3) (fun g hg => by cases hg))
  unfold OwnJ
  exact h2

set_option maxRecDepth 100000 in
set_option maxHeartbeats 12800000 in
theorem specReadBy_any (A : Option Addr) (c : Nat) (l : List Int) (i : Int) (A2 : Option Addr) (c2 : Nat) (ts : List Int) (rd : Int) (w : World) (B : Nat) (h : RdI w B A l) (h2 : RdI w B A2 ts) (hB : B ≤ w.heap.size) (hn : l.length ≤ 1048576) (hn2 : ts.length ≤ 1048576) (q : List Int) (hq : Hid (rbQ l i ts rd = q)) :
    Calls Try.prog 34 #[.slice A l.length c, .int .i64 i, .slice A2 ts.length c2, .int .i64 rd] w fun e w' => ∃ (R : Option Addr) (cR : Nat), e = .returned (.slice R q.length cR) ∧ OwnI w' w.heap.size w'.heap.size R q ∧ Below w.heap.size w w' := by
  cases hv : turnsOk l i ts
  · have e2 : q = [] := by rw [← hq.out]; exact rbQ_no rd hv
    subst e2
    have Hv := Lib.hid hv
    clear hv hq
    go_enter Try.func34, Try.ntmps34
    go_wp2_with fail
    refine (validTurns_any A c l i A2 c2 ts w B h h2 hn hn2).mono ?_
    rintro e w1 ⟨rfl, rfl⟩
    rw [Hv.out]
    go_wp2_with fail
    go_ret
    exact ⟨none, 0, rfl, fun h => absurd h (by simp), Below.refl _ _⟩
  have hri := hv
  unfold turnsOk at hri
  rw [Bool.and_eq_true, Bool.and_eq_true, Bool.and_eq_true] at hri
  obtain ⟨⟨⟨hro, hin⟩, hlen⟩, hall⟩ := hri
  obtain ⟨hi0, hi1⟩ := inR_iff.1 hin
  have Hv := Lib.hid hv
  have hgi : (ts.length : Int) ≤ 60 := by have := of_decide_eq_true hlen; omega
  have HL : Hid (rbLen l i ts) := Lib.hid (rbLen_of hv)
  clear hv hro hin hlen hall
  cases hb : inR rd 0 (i - 1)
  · have e2 : q = [] := by rw [← hq.out]; exact rbQ_out hb
    subst e2
    have Hb := Lib.hid hb
    clear hb hq
    go_enter Try.func34, Try.ntmps34
    go_wp2_with fail
    refine (validTurns_any A c l i A2 c2 ts w B h h2 hn hn2).mono ?_
    rintro e w1 ⟨rfl, rfl⟩
    rw [Hv.out]
    go_wp2_with fail
    refine (specInR_any rd 0 (i - 1) _).mono ?_
    rintro e w1 ⟨rfl, rfl⟩
    rw [Hb.out]
    go_wp2_with fail
    go_ret
    exact ⟨none, 0, rfl, fun h => absurd h (by simp), Below.refl _ _⟩
  have Hb := Lib.hid hb
  clear hb
  go_enter Try.func34, Try.ntmps34
  go_wp2_with fail
  refine (validTurns_any A c l i A2 c2 ts w B h h2 hn hn2).mono ?_
  rintro e w1 ⟨rfl, rfl⟩
  rw [Hv.out]
  go_wp2_with fail
  refine (specInR_any rd 0 (i - 1) _).mono ?_
  rintro e w1 ⟨rfl, rfl⟩
  rw [Hb.out]
  go_wp2_with fail
  generalize hV : World.alloc w _ = V
  have hbV : Below w.heap.size w V := by rw [← hV]; exact (Below.refl _ _).alloc (Nat.le_refl _) _
  have hzV : w.heap.size ≤ V.heap.size := hbV.size
  have H := Lib.hid (h.below hbV hB)
  have H2 := Lib.hid (h2.below hbV hB)
  have HbV := Lib.hid hbV
  clear hV hbV
  refine (specRunTee_any A c l i A2 c2 ts V B H.out H2.out (by omega) hn hn2 _ (Lib.hid rfl)).mono ?_
  rintro e w1 ⟨R0, cR0, rfl, ho1, hb1⟩
  have hz1 := hb1.size
  have Hts := Lib.hid (H2.out.below hb1 (by omega))
  have Hb1 := Lib.hid (HbV.out.trans (hb1.mono hzV))
  obtain ⟨b0, hb0⟩ : ∃ b0, b0 = w1.heap.size := ⟨_, rfl⟩
  have hzb : w1.heap.size ≤ b0 := by omega
  have hzb2 : b0 ≤ w1.heap.size := by omega
  replace ho1 := ho1.wide (Nat.le_refl _) hzb
  have HE : ∀ g, Hid (OwnE w1 b0 (some ⟨g, 0, none⟩) 0 []) := fun g => Lib.hid (.inr ⟨rfl, rfl, g, rfl⟩)
  have Hb1E : Hid (Below b0 w1 w1) := Lib.hid (Below.refl _ _)
  have hlr := HL.out
  unfold rbLen at hlr
  clear hb1 h h2 hb0
  have hrl := (tkR_len l i ts).1
  have hrl6 := (tkR_len l i ts).2
  have hsg := tkR_sign l i ts
  obtain ⟨rs, hrs⟩ : ∃ rs, rs = tkR l i ts := ⟨_, rfl⟩
  rw [← hrs] at hrl hrl6 hsg ho1 hlr
  have Hq : Hid (q = byL rd (ts.zip rs)) := Lib.hid (by rw [← hq.out, hrs]; rfl)
  rw [← hrs]
  have Hrd := Lib.hid (ho1.rd)
  have Hsg := Lib.hid hsg
  clear hrs ho1 hsg hq
  go_wp2_with fail
  go_loopw [9, 11] (fun sl iv wr => ∃ k : Nat, k ≤ rs.length ∧ iv = .int .i64 k ∧ ∃ (R : Option Addr) (cR : Nat) (o : List Int), sl = .slice R o.length cR ∧ Hid (o = byL rd ((ts.zip rs).take k)) ∧ Hid (OwnE wr b0 R cR o) ∧ Hid (Below b0 w1 wr) ∧ b0 ≤ wr.heap.size) (fun _ iv _ => (rs.length - intOf iv).toNat)
  case atStart => exact ⟨0, Nat.zero_le _, rfl, _, _, [], rfl, Lib.hid rfl, HE _, Hb1E, by omega⟩
  case round =>
    obtain ⟨k, hk, rfl, R, cR, o, rfl, Ho, Hown, Hbw, hzw⟩ := hrel
    have hol : o.length ≤ 60 := by
      have h1 := byL_len rd ((ts.zip rs).take k)
      rw [← Ho.out, List.length_take] at h1
      omega
    by_cases hlt : k < ts.length
    · obtain ⟨ad2, cc, hA2, hcc, hccell⟩ := (Hts.out.below Hbw.out (by omega)).at_ (k := k) (by omega)
      obtain ⟨ad3, x, hA3, hx, hxcell⟩ := (Hrd.out.below Hbw.out (by omega)).at_ (k := k) (by omega)
      have hsx := Hsg.out x (List.mem_of_getElem? hx)
      have Hz : Hid ((ts.zip rs).take (k + 1) = (ts.zip rs).take k ++ [(cc, x)]) := Lib.hid (zip_take_snoc hcc hx)
      rw [hA2, hA3]
      have HA2 := Lib.hid hA2
      have HA3 := Lib.hid hA3
      clear hA2 hA3 hcc hx
      cases hb1 : (cc == rd)
      · have Hs : Hid (byL rd ((ts.zip rs).take (k + 1)) = o) := Lib.hid (by rw [Hz.out, byL_snoc, hb1, ← Ho.out]; simp)
        go_wp2_with fail
        go_roundw
        case rel => exact ⟨k + 1, by omega, by go_num, R, cR, o, rfl, Lib.hid Hs.out.symm, Hown, Hbw, hzw⟩
        case measure => simp [intOf]; omega
      · have hb2 : cc = rd := by simpa using hb1
        by_cases hx0 : 0 ≤ x
        · have hxn : ¬ x = -1 := by omega
          have hxb : (x == (-1 : Int)) = false := by simpa using hxn
          have Hs : Hid (byL rd ((ts.zip rs).take (k + 1)) = o ++ [x]) := Lib.hid (by rw [Hz.out, byL_snoc, hb1, decide_eq_true hx0, ← Ho.out]; rfl)
          go_wp2_with (at_builtin; go_must (refine wpList_append_intE rfl _ _ rfl b0 R cR o x _ rfl rfl Hown.out _ rfl rfl (by omega) (by omega) ?_; intro R2 c3 w6 rw6 ho6 hg6 hr6); have hbw6 := Below.own2 (Below.alloc Hbw.out (by omega) _) hg6 hr6 (by rw [World.size_alloc]; omega); have hz6 : wr.heap.size < w6.heap.size := (by have := hg6.size; rw [World.size_alloc] at this; omega); have Ho6 := Lib.hid ho6; have Hbw6 := Lib.hid hbw6; clear ho6 hg6 hbw6 hr6)
          go_roundw
          case rel => exact ⟨k + 1, by omega, by go_num, R2, c3, o ++ [x], by rw [List.length_append]; rfl, Lib.hid Hs.out.symm, Lib.hid (.inl Ho6.out), Hbw6, by omega⟩
          case measure => simp [intOf]; omega
        · have hxn : x = -1 := by omega
          have Hs : Hid (byL rd ((ts.zip rs).take (k + 1)) = o) := Lib.hid (by rw [Hz.out, byL_snoc, hb1, decide_eq_false hx0, ← Ho.out]; simp)
          clear hsx
          subst hxn
          go_wp2_with fail
          go_roundw
          case rel => exact ⟨k + 1, by omega, by go_num, R, cR, o, rfl, Lib.hid Hs.out.symm, Hown, Hbw, hzw⟩
          case measure => simp [intOf]; omega
    · obtain rfl : k = rs.length := by omega
      have Ho2 : Hid (q = o) := Lib.hid (by rw [Hq.out, Ho.out, List.take_of_length_le (by rw [List.length_zip]; omega)])
      go_wp2_with fail
      go_ret
      have hq2 := Ho2.out
      subst hq2
      first | exact ⟨R, cR, rfl, Hown.out.ownI.wide (by omega) (Nat.le_refl _), Hb1.out.trans (Hbw.out.mono (by omega))⟩ | exact ⟨R, ⟨cR, rfl⟩, Hown.out.ownI.wide (by omega) (Nat.le_refl _), Hb1.out.trans (Hbw.out.mono (by omega))⟩

end Go.Proofs.Ytjkieedomljelaa
