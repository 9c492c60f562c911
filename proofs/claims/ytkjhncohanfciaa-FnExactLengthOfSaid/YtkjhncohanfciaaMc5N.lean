/- Texts on the program and its reference, put together (BatA, RowM, OpenN, Open, Len). -/
import Derived.Test.YtkjhncohanfciaaMc5M
import Derived.Test.YtkjhncohanfciaaMc5L
import Derived.Shelf.RegionOpen
import Derived.Shelf.Abstract
import Derived.TacticsInMore
import Derived.LoopNIn
import Derived.LoopIn
import Derived.OwnWalkIn
import Derived.Test.YtkjhncohanfciaaMc5G
import Derived.Test.YtkjhncohanfciaaMc5A
import Derived.ProofKit
import Derived.OpenShut
import Derived.ChangeOld
import Derived.Deep.Slices
import Derived.Deep.Fields
import Derived.ShutString
import Derived.Below
import Derived.Deep.Matrix
/- Contracts: the library's Chunk, and the sums of groups by the program. -/
namespace Go.Proofs.Ytkjhncohanfciaa
open Go.RowKit Go.Shelf

attribute [local go_sem] Oper.semAt_some

theorem batTo_chunk {n : Nat} {a : List Int} {i : Nat} (hi : i % n = 0) : ∀ m : Nat, m < n → i + m < a.length → batTo n a (i + (m + 1)) = batTo n a i ++ [sumL 0 ((a.drop i).take (m + 1))]
  | 0, _, hl => by
    obtain ⟨x, hx⟩ := get_of_lt a hl
    have hd : (a.drop i)[0]? = some x := by rw [List.getElem?_drop]; exact hx
    rw [sumL_succ 0 hd]
    have h1 := batTo_app (n := n) (a := a) (j := i) (m := (batTo n a i).length) (o := batTo n a i ++ [0]) (x := x) (y := 0) (by rw [if_pos hi]) (by simp) (by simp) hx
    rw [Nat.zero_add, h1]
    simp [sumL]
  | m + 1, hm, hl => by
    have ih := batTo_chunk (a := a) hi m (by omega) (by omega)
    obtain ⟨x, hx⟩ := get_of_lt a (k := i + (m + 1)) hl
    have hd : (a.drop i)[m + 1]? = some x := by rw [List.getElem?_drop]; exact hx
    rw [sumL_succ 0 hd]
    have hne : (i + (m + 1)) % n ≠ 0 := by
      rw [Nat.add_mod, hi, Nat.zero_add, Nat.mod_mod, Nat.mod_eq_of_lt hm]; omega
    have h1 := batTo_app (n := n) (a := a) (j := i + (m + 1)) (m := (batTo n a i).length) (o := batTo n a i ++ [sumL 0 ((a.drop i).take (m + 1))]) (x := x) (y := sumL 0 ((a.drop i).take (m + 1)))
      (by rw [if_neg hne, ih]) (by simp) (by simp) hx
    rw [show i + (m + 1 + 1) = i + (m + 1) + 1 by omega, h1]
    simp

/-- The chunk that begins at i. -/
def chunkV (g o : Nat) (len n i : Nat) : Value := .slice (some ⟨g, o + i, none⟩) (min n (len - i)) (min n (len - i))

set_option maxHeartbeats 1600000 in
theorem chunk_in (A : Option Addr) (c : Nat) (len n : Nat) (hn : 0 < n) (hn1 : n ≤ 65536) (w : World) :
    Calls Try.prog 95 #[.slice A len c, .int .i64 n] w fun e w' => e = .returned (.func (.func 98) #[] #[.pointer (some ⟨w.heap.size, 0, none⟩), .pointer (some ⟨w.heap.size + 1, 0, none⟩)]) ∧ w' = (w.alloc (.cells #[.slice A len c] 28)).alloc (.cells #[.int .i64 n] 3) := by
  have h1 : ¬ ((n : Int) < 1) := by omega
  go_enter Try.func95, Try.ntmps95
  go_wp2
  go_ret
  exact ⟨rfl, rfl⟩

set_option maxRecDepth 100000 in
set_option maxHeartbeats 3200000 in
theorem chunk1_in (A : Option Addr) (g o c len n : Nat) (hA : 0 < len → A = some ⟨g, o, none⟩) (hn : 0 < n) (hn1 : n ≤ 65536) (hlen : len ≤ 65536) (hc : len ≤ c) (l : Nat) (Bs Bn : Nat) (J : Nat → World → Prop)
    (hJ : ∀ i W, J i W → W.cell? ⟨Bs, 0, none⟩ = some (.slice A len c) ∧ W.cell? ⟨Bn, 0, none⟩ = some (.int .i64 n))
    (hJd : ∀ i W, J i W → J i W.drew)
    (hY : ∀ i W, J i W → i < len → YieldAt Fence.wide 3 Try.prog l #[chunkV g o len n i] W fun e W' => e = .returned (.bool true) ∧ J (i + n) W')
    (W : World) (h0 : J 0 W) :
    CallsIn Fence.wide 4 Try.prog 98 #[.func (.yield l) #[] #[], .pointer (some ⟨Bs, 0, none⟩), .pointer (some ⟨Bn, 0, none⟩)] W fun e W' => (∃ v, e = .returned v) ∧ ∃ i, len ≤ i ∧ J i W' := by
  have HJ := Lib.hid hJ
  have HJd := Lib.hid hJd
  have HY := Lib.hid hY
  clear hJ hJd hY
  refine callsIn_of_wp Try.func98 rfl trivial ?_ rfl
  simp only [Try.ntmps98, List.size_toArray, List.length_cons, List.length_nil, Nat.reduceAdd, Nat.reduceSub, Array.replicate_succ, Array.replicate_zero, List.push_toArray, List.append_toArray, List.nil_append, List.cons_append]
  gi_wp2
  gi_loopw [4] (fun p wr => ∃ i : Nat, i ≤ 131072 ∧ p = .int .i64 i ∧ J i wr) (fun p _ => len - (intOf p).toNat)
  case atStart => exact ⟨0, by omega, rfl, h0⟩
  case round =>
    obtain ⟨i, hi, rfl, hJs⟩ := hrel
    obtain ⟨hs1, hs2⟩ := HJ.out i wr hJs
    have HJs := Lib.hid hJs
    clear hJs
    by_cases hlt : i < len
    · obtain rfl := hA (by omega)
      have hs3 : wr.drew.cell? ⟨Bs, 0, none⟩ = some (.slice (some ⟨g, o, none⟩) len c) := hs1
      have hs4 : wr.drew.cell? ⟨Bn, 0, none⟩ = some (.int .i64 n) := hs2
      have hi1 : (i : Int) < len := by omega
      have hi2 : (i : Int) ≤ len := by omega
      have hi3 : (len : Int) ≤ c := by omega
      obtain ⟨m, hm⟩ : ∃ m : Nat, m = min n (len - i) := ⟨_, rfl⟩
      have hmin : min (n : Int) ((len - i : Nat) : Int) = (m : Int) := by omega
      have hm1 : (m : Int) ≤ 65536 := by omega
      have hm0 : 0 < m := by omega
      have hw1 : IntKind.i64.wrap ((i : Int) + (m : Int)) = (i : Int) + m := IntWalk.i64_in _ (by omega)
      have hw2 : IntKind.i64.wrap ((i : Int) + (n : Int)) = (i : Int) + n := IntWalk.i64_in _ (by omega)
      have hb1 : (i : Int) ≤ (i : Int) + m := by omega
      have hb2 : (i : Int) + m ≤ c := by omega
      have hcv : chunkV g o len n i = .slice (some ⟨g, o + i, none⟩) m m := by unfold chunkV; rw [← hm]
      obtain ⟨fn, tmps, assign, body, hy, hR⟩ := HY.out i wr.drew (HJd.out _ _ HJs.out) hlt
      rw [hcv] at hy
      have hge : i + m - i = m := by omega
      clear hm hcv
      gi_wp2
      gi_region
      gi_wp2
      refine hR.mono ?_
      rintro e W3 ⟨rfl, hJ3⟩
      obtain ⟨hs5, hs6⟩ := HJ.out _ _ hJ3
      gi_wp2
      go_roundw
      case rel => exact ⟨i + n, by omega, by go_num, hJ3⟩
      case measure => simp [intOf]; omega
    · gi_wp2
      go_end0
      exact ⟨⟨_, rfl⟩, i, by omega, HJs.out⟩


theorem stepIn_append_int {F : Fence} {nn : Nat} {o : Oper} {a : Act} {K : Act → World → Prop} {Q : Exit → Act → World → Prop} {w : World} (s y : Operand)
    (ho : o.op = .call { callee := .builtin .append, args := #[s, y], argTypes := #[28, 28] }) (base : Nat) (A : Option Addr) (c : Nat) (l : List Int) (x : Int) (n : Nat) (hnl : l.length = n) (hs : a.eval s = .slice A n c) (hown : OwnJ w base A c l)
    (g : Nat) (hx : a.eval y = .slice (some ⟨g, 0, none⟩) 1 1) (hg : g = w.heap.size) (hn : n ≤ 1048576) (hb : base ≤ w.heap.size)
    (h : ∀ (A' : Option Addr) (c' : Nat) (w' : World), OwnJ w' base A' c' (l ++ [x]) → (w.alloc (.cells #[.int .i64 x] 3)).grownBy w' (rowOf A) → K (a.put o.dst (.slice A' (n + 1) c')) w') :
    Oper.wpIn F nn Try.prog o a (w.alloc (.cells #[.int .i64 x] 3)) K Q := by
  subst hg
  subst hnl
  obtain ⟨i, hi, hz0, hz1, hz2⟩ := info_parts Try.infoInt
  have hown2 := hown.below ((Below.refl w.heap.size w).alloc (Nat.le_refl _) (.cells #[.int .i64 x] 3)) (Nat.le_refl _)
  have hb1 : Bk (w.alloc (.cells #[.int .i64 x] 3)) w.heap.size 3 [.int .i64 x] := Bk.new w _ [_]
  have hread : ∀ (j : Nat) (u : Value), (ints [x])[j]? = some u → (w.alloc (.cells #[.int .i64 x] 3)).cell? ((⟨w.heap.size, 0, none⟩ : Addr).add j) = some u := fun j u hj => by
    rw [add_zero_row, hb1.cell]
    exact hj
  have hone : ∀ u ∈ ints [x], u.oneCell' = true := by
    intro u hu
    simp [ints] at hu
    subst hu
    rfl
  obtain ⟨v', w', hr, h2, h3, _⟩ := run_append_own (P := Try.prog) (w.alloc (.cells #[.int .i64 x] 3)) base 28 o.type 3 i _ 1 8 Try.underlying28 hi hz0 hz1 hz2 rfl (by decide)
    (.slice A l.length c) l.length (ints l) hown2 ⟨w.heap.size, 0, none⟩ 1 1 (ints [x]) rfl hread hone (by unfold maxLen; omega) (by omega) (by simp; omega)
  have hv : ∃ A' c', v' = .slice A' (l.length + 1) c' := by
    obtain ⟨_, ⟨_, h0⟩ | ⟨g, cap, cur, hv, _⟩⟩ := h2
    · omega
    · exact ⟨_, _, hv⟩
  obtain ⟨A', c', rfl⟩ := hv
  unfold Oper.wpIn
  refine ⟨?_, ?_⟩
  · simp [Oper.about, ho, resolve, Target.leads, Sem.run_pure]
  · rw [Oper.semAt_plain F _ _ (by rw [ho]; intro c hc'; cases hc')]
    simp only [execOp, ho, resolve, invoke, builtin, Sem.run_bind, Sem.run_pure, Result.andThen_ok, List.map_toArray, List.map_cons, List.map_nil, hs, hx, hr]
    refine (h A' c' w' ?_ (by rw [← ownBlock_slice A l.length c]; exact h3))
    unfold OwnJ
    rw [List.length_append, show ints (l ++ [x]) = ints l ++ ints [x] from by simp [ints]]
    exact h2

/-- Between two rounds. -/
structure BatJ (w : World) (A : Option Addr) (c : Nat) (a : List Int) (n : Nat) (i : Nat) (W : World) : Prop where
  mul : i % n = 0
  below : Below w.heap.size w W
  big : w.heap.size + 5 ≤ W.heap.size
  bs : Bk W (w.heap.size + 1) 28 [.slice A a.length c]
  bn : Bk W (w.heap.size + 2) 3 [.int .i64 n]
  out : ∃ R cR, Bk W w.heap.size 28 [.slice R (batTo n a (min i a.length)).length cR] ∧ OwnJ W (w.heap.size + 5) R cR (batTo n a (min i a.length))

set_option maxRecDepth 100000 in
set_option maxHeartbeats 3200000 in
theorem batched_any : BatchOk := by
  intro A c a n w base ha hlen hn0 hn1 ia
  have Ha := Lib.hid ha
  have Ia := Lib.hid ia
  clear ha ia
  refine (callsIn_wide (n := 5)).1 ?_
  refine callsIn_of_wp_marks Try.func86 rfl trivial ?_ rfl
  simp only [Try.ntmps86, List.size_toArray, List.length_cons, List.length_nil, Nat.reduceAdd, Nat.reduceSub, Array.replicate_succ, Array.replicate_zero, List.push_toArray, List.append_toArray, List.nil_append, List.cons_append]
  gi_wp2_with (refine ⟨trivial, ?_⟩; gi_at_call 95; refine (callsIn_wide.2 (chunk_in A c a.length n hn0 (by omega) _)).mono ?_; rintro e w' ⟨rfl, rfl⟩)
  obtain ⟨W0, hW0⟩ : ∃ W0, ((w.alloc (.cells #[.slice none 0 0] 28)).alloc (.cells #[.slice A a.length c] 28)).alloc (.cells #[.int .i64 n] 3) = W0 := ⟨_, rfl⟩
  have hz0 : W0.heap.size = w.heap.size + 3 := by rw [← hW0]; simp
  have hb0 : Below w.heap.size w W0 := by rw [← hW0]; exact (((Below.refl _ w).alloc (Nat.le_refl _) _).alloc (by simp) _).alloc (by simp; omega) _
  have k0 : Bk W0 w.heap.size 28 [.slice none 0 0] := by rw [← hW0]; exact ((Bk.new w _ [_]).alloc _).alloc _
  have k1 : Bk W0 (w.heap.size + 1) 28 [.slice A a.length c] := by
    rw [← hW0]
    have := Bk.new (w.alloc (.cells #[.slice none 0 0] 28)) 28 [.slice A a.length c]
    rw [World.size_alloc] at this
    exact this.alloc _
  have k2 : Bk W0 (w.heap.size + 2) 3 [.int .i64 n] := by
    rw [← hW0]
    have := Bk.new ((w.alloc (.cells #[.slice none 0 0] 28)).alloc (.cells #[.slice A a.length c] 28)) 3 [.int .i64 n]
    simpa using this
  rw [hW0]
  clear hW0
  obtain ⟨g, o, hA⟩ : ∃ g o, 0 < a.length → A = some ⟨g, o, none⟩ := by
    rcases Ha.out with ⟨_, _, rfl⟩ | ⟨g, o, cs, hA, _⟩
    · exact ⟨0, 0, fun h => absurd h (by simp)⟩
    · exact ⟨g, o, fun _ => hA⟩
  have hcap := Ha.out.len_le
  refine wpIn_rangeFunc_free (F := Fence.wide) (n := 5) rfl (by omega) (gf := 98) (lb := #[.pointer (some ⟨w.heap.size + 1, 0, none⟩), .pointer (some ⟨w.heap.size + 2, 0, none⟩)]) rfl trivial (enters_of Try.func98 (by kernel_rfl) rfl)
    (encs := fun i : Nat => #[chunkV g o a.length n i]) (fun _ => rfl)
    (fun i : Nat => { tmps := #[.slice A a.length c, .int .i64 n, undef, undef, .slice none 0 0, .pointer (some ⟨w.heap.size, 0, none⟩), chunkV g o a.length n i, .slice A a.length c, .int .i64 n, .func (.func 98) #[] #[.pointer (some ⟨w.heap.size + 1, 0, none⟩), .pointer (some ⟨w.heap.size + 2, 0, none⟩)], chunkV g o a.length n i, undef, undef, undef, undef, undef, undef], defers := [] }) ?assign ?iter
  case assign =>
    intro l x W K hK
    gi_wp2
    exact hK
  case iter =>
    intro l D W1 Rdy Dn hD hl hz1 hb1 hr1 hkind hst hstd hyld
    rw [hz0] at hD hl hz1
    have HY := Lib.hid hyld
    have HS := Lib.hid hst
    clear hyld hst hstd
    refine (chunk1_in A g o c a.length n hA hn0 (by omega) hlen hcap l (w.heap.size + 1) (w.heap.size + 2) (fun i W => BatJ w A c a n i W ∧ Rdy W) ?hJ ?hJd ?hY W1 ?h0).mono ?done
    case hJ => exact fun i W h => ⟨h.1.bs.cell 0, h.1.bn.cell 0⟩
    case hJd =>
      exact fun i W h => ⟨⟨h.1.mul, h.1.below.drew, h.1.big, h.1.bs, h.1.bn, h.1.out⟩, HS.out _ _ h.2 rfl rfl⟩
    case h0 =>
      have hb2 : Below W0.heap.size W0 W1 := hb1
      refine ⟨⟨Nat.zero_mod _, hb0.trans (hb1.mono hb0.size), by omega, k1.below hb1 k1.lt, k2.below hb1 k2.lt, ⟨none, 0, ?_, ?_⟩⟩, hr1⟩
      · have := k0.below hb1 k0.lt
        simpa [batTo] using this
      · have := OwnJ.nil_ W1 (w.heap.size + 5)
        simpa [batTo] using this
    case hY =>
      rintro i W ⟨hj, hrd⟩ hlt
      refine HY.out i W _ hrd fun ob hob hlo hDo => ?_
      obtain ⟨Wb, hWb⟩ : ∃ Wb, Wb = W.putObj l ob := ⟨_, rfl⟩
      rw [← hWb] at hlo hDo ⊢
      have hgb : W.grownBy Wb (some l) := by rw [hWb]; exact grownBy_putObj' W l ob
      have hll : l < W.heap.size := by have h1 := lt_of_block hlo; rw [hWb, World.putObj_size] at h1; exact h1
      have hne0 : w.heap.size ≠ l := by omega
      have hne1 : w.heap.size + 1 ≠ l := by omega
      have hne2 : w.heap.size + 2 ≠ l := by omega
      obtain ⟨R, cR, hout0, hown0⟩ := hj.out
      have ho0 : Bk Wb w.heap.size 28 [.slice R (batTo n a (min i a.length)).length cR] := by rw [hWb]; exact (World.putObj_heap_other hne0).trans hout0
      have ho1 : Bk Wb (w.heap.size + 1) 28 [.slice A a.length c] := by rw [hWb]; exact (World.putObj_heap_other hne1).trans hj.bs
      have ho2 : Bk Wb (w.heap.size + 2) 3 [.int .i64 n] := by rw [hWb]; exact (World.putObj_heap_other hne2).trans hj.bn
      have hown := hown0.grown hgb (by
        cases hR : rowOf R with
        | none => exact .inl rfl
        | some q => exact .inr (fun e => by have := hown0.row_lt q hR; injection e with e; omega))
      have hbel : Below w.heap.size w Wb := hj.below.grown hgb hj.below.size (fun k e => by injection e with e; omega)
      have hbig : w.heap.size + 5 ≤ Wb.heap.size := Nat.le_trans hj.big hgb.size
      have hmul := hj.mul
      have hmin : min i a.length = i := by omega
      rw [hmin] at ho0 hown
      obtain ⟨m, hm⟩ : ∃ m : Nat, m = min n (a.length - i) := ⟨_, rfl⟩
      have hnext := batTo_chunk (a := a) hmul (m - 1) (by omega) (by omega)
      rw [show m - 1 + 1 = m by omega] at hnext
      have hnext2 : batTo n a (min (i + n) a.length) = batTo n a i ++ [sumL 0 ((a.drop i).take m)] := by rw [← hnext]; congr 1; omega
      have hcv : chunkV g o a.length n i = .slice (some ⟨g, o + i, none⟩) m m := by unfold chunkV; rw [← hm]
      have hA1 := hA (by omega)
      have hsz : w.heap.size ≤ W.heap.size := hj.below.size
      have hrdI : RdI Wb w.heap.size (some ⟨g, o + i, none⟩) ((a.drop i).take m) := by
        have h1 := Ha.out
        rw [hA1] at h1
        exact ((h1.drop i (by omega)).take m).rd.below hbel (Nat.le_refl _)
      have hcl : ((a.drop i).take m).length = m := by rw [List.length_take, List.length_drop]; omega
      have hci : Items ((a.drop i).take m) := (Ia.out.drop i).take m
      obtain ⟨q, hq⟩ : ∃ q, (a.drop i).take m = q := ⟨_, rfl⟩
      obtain ⟨bo, hbo⟩ : ∃ bo, batTo n a i = bo := ⟨_, rfl⟩
      have hblen : bo.length ≤ 65536 := by rw [← hbo]; have := batTo_len n a i; omega
      rw [hq] at hrdI hcl hci hnext2
      rw [hbo] at hnext2 ho0 hown
      obtain ⟨m0, hm0⟩ : ∃ m0, bo.length = m0 := ⟨_, rfl⟩
      rw [hm0] at ho0 hblen
      have hcell := ho0.cell 0
      have hcell2 := (Bk.drewN ho0 1).cell 0
      have hfree := ho0.free 0
      simp only [List.getElem?_cons_zero] at hcell hcell2
      rw [hcv]
      have hqm : m ≤ 65536 := by omega
      clear hm hq hbo hcv hmin hnext
      subst hcl
      have HN := Lib.hid hnext2
      have HR := Lib.hid hrdI
      have Hm0 := Lib.hid hm0
      have Hci := Lib.hid hci
      have Hown := Lib.hid hown
      have Hbel := Lib.hid hbel
      have Hbig := Lib.hid hbig
      have Ho0 := Lib.hid ho0
      have Ho1 := Lib.hid ho1
      have Ho2 := Lib.hid ho2
      have Hlo := Lib.hid hlo
      have HDo := Lib.hid hDo
      have Hmul := Lib.hid hmul
      clear hnext2 hrdI hm0 hci hown hown0 hout0 hbel hbig ho0 ho1 ho2 hlo hDo HY hb1 hr1 hkind hb0 k0 k1 k2 hgb hA hA1 hWb hj hmul
      have HL := Lib.hid hl
      have hcell3 : ∀ z : Int, (Wb.alloc (.cells #[.int .i64 z] 3)).cell? ⟨w.heap.size, 0, none⟩ = some (.slice R m0 cR) := fun z => (Bk.alloc Ho0.out _).cell 0
      have HD := Lib.hid hD
      clear hl hD hz1 hne0 hne1 hne2
      have hmx : Try.prog.follows .mixedOrders = true := by kernel_rfl
      gi_wp2
      have Hfin : Hid (∀ (R2 : Option Addr) (c2 : Nat) (w2 : World), OwnJ w2 (w.heap.size + 5) R2 c2 (bo ++ [sumL 0 q]) → (Wb.drew.alloc (.cells #[.int .i64 (sumL 0 q)] 3)).grownBy w2 (rowOf R) →
          w2.cell? ⟨w.heap.size, 0, none⟩ = some (.slice R m0 cR) ∧ w2.frozen? ⟨w.heap.size, 0, none⟩ = false ∧ freePost l D Rdy Dn (fun e W' => e = .returned (.bool true) ∧ BatJ w A c a n (i + n) W' ∧ Rdy W') Wb .normal { tmps := #[], defers := [] } (w2.setCell ⟨w.heap.size, 0, none⟩ (.slice R2 (m0 + 1) c2))) := by
        intro R2 c2 w2 ho2 hg2
        have hl := HL.out
        have hD := HD.out
        have hbig := Hbig.out
        have hza : (Wb.drew.alloc (.cells #[.int .i64 (sumL 0 q)] 3)).heap.size = Wb.heap.size + 1 := by simp
        have hrow : ∀ k, rowOf R = some k → w.heap.size + 5 ≤ k := fun k hk => (Hown.out.row_lt k hk).1
        have hblk : ∀ k, k < w.heap.size + 5 → w2.heap[k]? = Wb.heap[k]? := fun k hk => by
          rw [hg2.block k (by rw [hza]; omega) (fun e => by have := hrow k e.symm; omega)]
          exact Below.heap_alloc _ _ _ (show k < Wb.heap.size by omega)
        have kb0 : Bk w2 w.heap.size 28 [.slice R m0 cR] := (hblk _ (by omega)).trans Ho0.out
        refine ⟨kb0.cell 0, kb0.free 0, ?_⟩
        obtain ⟨X1, hX1⟩ : ∃ X1, X1 = w2.setCell ⟨w.heap.size, 0, none⟩ (.slice R2 (m0 + 1) c2) := ⟨_, rfl⟩
        rw [← hX1]
        have hx1 : ∀ k, k ≠ w.heap.size → X1.heap[k]? = w2.heap[k]? := fun k hk => by rw [hX1]; exact Below.heap_setCell _ _ _ _ hk
        have hzx : X1.heap.size = w2.heap.size := by rw [hX1]; simp [World.setCell]
        have kx0 : Bk X1 w.heap.size 28 [.slice R2 (m0 + 1) c2] := by rw [hX1]; exact kb0.set_ 0 _
        have hox : OwnJ X1 (w.heap.size + 5) R2 c2 (bo ++ [sumL 0 q]) := by rw [hX1]; exact ownsRow_setCell_below ho2 (by simp) _
        have hbx : Below w.heap.size w X1 := by
          rw [hX1]
          exact (((Hbel.out.drew).alloc (show w.heap.size ≤ Wb.drew.heap.size from Hbel.out.size) _).grown hg2 (by rw [hza]; have := Hbel.out.size; omega) (fun k hk => by have := hrow k hk; omega)).setCell (p := ⟨w.heap.size, 0, none⟩) (Nat.le_refl _) _
        refine ⟨(hx1 l (by omega)).trans (hblk l (by omega)), (hx1 D (by omega)).trans (hblk D (by omega)), fun o2 ho2c hrd2 => ⟨rfl, ?_, hrd2⟩⟩
        have hpo : ∀ k, k ≠ l → (X1.putObj l o2).heap[k]? = X1.heap[k]? := fun k hk => World.putObj_heap_other hk
        have hgp := grownBy_putObj' X1 l o2
        refine ⟨by rw [Nat.add_mod_right]; exact Hmul.out, hbx.grown hgp hbx.size (fun k e => by injection e with e; omega), ?_, ?_, ?_, R2, c2, ?_, ?_⟩
        · rw [World.putObj_size, hzx]; have := hg2.size; rw [hza] at this; omega
        · exact (hpo _ (by omega)).trans ((hx1 _ (by omega)).trans ((hblk _ (by omega)).trans Ho1.out))
        · exact (hpo _ (by omega)).trans ((hx1 _ (by omega)).trans ((hblk _ (by omega)).trans Ho2.out))
        · rw [HN.out, List.length_append, Hm0.out]; exact (hpo _ (by omega)).trans kx0
        · rw [HN.out]
          exact hox.grown hgp (by
            cases hR : rowOf R2 with
            | none => exact .inl rfl
            | some q => exact .inr (fun e => by have := hox.row_lt q hR; injection e with e; omega))
      refine wpIn_region_any (by assumption) ?_
      change wpAnyIn _ _ _ _ _ _ _ _ _ (World.drew _)
      refine wpAnyIn_ready (rs := [0, 1]) (by kernel_rfl) (by simp) ?_
      refine AllReadyIn.cons rfl (fun K hK => ?_) ?_
      · go_simp
        refine hK _ _ ?_
        clear hK K
        refine wpAnyIn_ready (rs := [1]) (by kernel_rfl) (by simp) ?_
        refine AllReadyIn.cons rfl (fun K hK => ?_) ?_
        · go_simp
          refine hK _ _ ?_
          clear hK K
          refine wpAnyIn_ready (rs := [2]) (by kernel_rfl) (by simp) ?_
          refine AllReadyIn.cons rfl (fun K hK => ?_) ?_
          · go_simp
            refine ⟨trivial, ?_⟩
            refine (CallsIn.inRound l (callsIn_wide.2 (implSumOf_any _ _ q _ w.heap.size (show RdI Wb.drew w.heap.size _ q from HR.out) (by omega) Hci.out))).mono ?_
            rintro e w' ⟨rfl, rfl⟩
            refine hK _ _ ?_
            clear hK K
            refine wpAnyIn_ready (rs := [3]) (by kernel_rfl) (by simp) ?_
            refine AllReadyIn.cons rfl (fun K hK => ?_) ?_
            · go_simp
              refine hK _ _ ?_
              clear hK K
              refine wpAnyIn_ready (rs := [4]) (by kernel_rfl) (by simp) ?_
              refine AllReadyIn.cons rfl (fun K hK => ?_) ?_
              · refine stepIn_append_int _ _ rfl (w.heap.size + 5) R cR bo (sumL 0 q) m0 Hm0.out rfl (show OwnJ Wb.drew (w.heap.size + 5) R cR bo from Hown.out) _ rfl rfl (by omega) Hbig.out ?_
                intro R2 c2 w2 ho2 hg2
                refine hK _ _ ?_
                clear hK K
                obtain ⟨hbx, hfx, hrest⟩ := Hfin.out R2 c2 w2 ho2 hg2
                have Hrest := Lib.hid hrest
                clear hrest ho2 hg2
                refine wpAnyIn_ready (rs := [5]) (by kernel_rfl) (by simp) ?_
                refine AllReadyIn.cons rfl (fun K hK => ?_) ?_
                · go_simp
                  refine hK _ _ ?_
                  clear hK K
                  refine wpAnyIn_done (by kernel_rfl) ?_ _
                  exact Hrest.out
                exact AllReadyIn.nil
              exact AllReadyIn.nil
            exact AllReadyIn.nil
          exact AllReadyIn.nil
        exact AllReadyIn.nil
      refine AllReadyIn.cons rfl (fun K hK => ?_) ?_
      · go_simp
        refine hK _ _ ?_
        clear hK K
        refine wpAnyIn_ready (rs := [0, 2]) (by kernel_rfl) (by simp) ?_
        refine AllReadyIn.cons rfl (fun K hK => ?_) ?_
        · go_simp
          refine hK _ _ ?_
          clear hK K
          refine wpAnyIn_ready (rs := [2]) (by kernel_rfl) (by simp) ?_
          refine AllReadyIn.cons rfl (fun K hK => ?_) ?_
          · go_simp
            refine ⟨trivial, ?_⟩
            refine (CallsIn.inRound l (callsIn_wide.2 (implSumOf_any _ _ q _ w.heap.size (show RdI Wb.drew w.heap.size _ q from HR.out) (by omega) Hci.out))).mono ?_
            rintro e w' ⟨rfl, rfl⟩
            refine hK _ _ ?_
            clear hK K
            refine wpAnyIn_ready (rs := [3]) (by kernel_rfl) (by simp) ?_
            refine AllReadyIn.cons rfl (fun K hK => ?_) ?_
            · go_simp
              refine hK _ _ ?_
              clear hK K
              refine wpAnyIn_ready (rs := [4]) (by kernel_rfl) (by simp) ?_
              refine AllReadyIn.cons rfl (fun K hK => ?_) ?_
              · refine stepIn_append_int _ _ rfl (w.heap.size + 5) R cR bo (sumL 0 q) m0 Hm0.out rfl (show OwnJ Wb.drew (w.heap.size + 5) R cR bo from Hown.out) _ rfl rfl (by omega) Hbig.out ?_
                intro R2 c2 w2 ho2 hg2
                refine hK _ _ ?_
                clear hK K
                obtain ⟨hbx, hfx, hrest⟩ := Hfin.out R2 c2 w2 ho2 hg2
                have Hrest := Lib.hid hrest
                clear hrest ho2 hg2
                refine wpAnyIn_ready (rs := [5]) (by kernel_rfl) (by simp) ?_
                refine AllReadyIn.cons rfl (fun K hK => ?_) ?_
                · go_simp
                  refine hK _ _ ?_
                  clear hK K
                  refine wpAnyIn_done (by kernel_rfl) ?_ _
                  exact Hrest.out
                exact AllReadyIn.nil
              exact AllReadyIn.nil
            exact AllReadyIn.nil
          exact AllReadyIn.nil
        refine AllReadyIn.cons rfl (fun K hK => ?_) ?_
        · go_simp
          refine ⟨trivial, ?_⟩
          refine (CallsIn.inRound l (callsIn_wide.2 (implSumOf_any _ _ q _ w.heap.size (show RdI Wb.drew w.heap.size _ q from HR.out) (by omega) Hci.out))).mono ?_
          rintro e w' ⟨rfl, rfl⟩
          refine hK _ _ ?_
          clear hK K
          refine wpAnyIn_ready (rs := [0, 3]) (by kernel_rfl) (by simp) ?_
          refine AllReadyIn.cons rfl (fun K hK => ?_) ?_
          · go_simp
            refine hK _ _ ?_
            clear hK K
            refine wpAnyIn_ready (rs := [3]) (by kernel_rfl) (by simp) ?_
            refine AllReadyIn.cons rfl (fun K hK => ?_) ?_
            · go_simp
              refine hK _ _ ?_
              clear hK K
              refine wpAnyIn_ready (rs := [4]) (by kernel_rfl) (by simp) ?_
              refine AllReadyIn.cons rfl (fun K hK => ?_) ?_
              · refine stepIn_append_int _ _ rfl (w.heap.size + 5) R cR bo (sumL 0 q) m0 Hm0.out rfl (show OwnJ Wb.drew (w.heap.size + 5) R cR bo from Hown.out) _ rfl rfl (by omega) Hbig.out ?_
                intro R2 c2 w2 ho2 hg2
                refine hK _ _ ?_
                clear hK K
                obtain ⟨hbx, hfx, hrest⟩ := Hfin.out R2 c2 w2 ho2 hg2
                have Hrest := Lib.hid hrest
                clear hrest ho2 hg2
                refine wpAnyIn_ready (rs := [5]) (by kernel_rfl) (by simp) ?_
                refine AllReadyIn.cons rfl (fun K hK => ?_) ?_
                · go_simp
                  refine hK _ _ ?_
                  clear hK K
                  refine wpAnyIn_done (by kernel_rfl) ?_ _
                  exact Hrest.out
                exact AllReadyIn.nil
              exact AllReadyIn.nil
            exact AllReadyIn.nil
          refine AllReadyIn.cons rfl (fun K hK => ?_) ?_
          · go_simp
            refine hK _ _ ?_
            clear hK K
            refine wpAnyIn_ready (rs := [0]) (by kernel_rfl) (by simp) ?_
            refine AllReadyIn.cons rfl (fun K hK => ?_) ?_
            · go_simp
              refine hK _ _ ?_
              clear hK K
              refine wpAnyIn_ready (rs := [4]) (by kernel_rfl) (by simp) ?_
              refine AllReadyIn.cons rfl (fun K hK => ?_) ?_
              · refine stepIn_append_int _ _ rfl (w.heap.size + 5) R cR bo (sumL 0 q) m0 Hm0.out rfl (show OwnJ Wb.drew (w.heap.size + 5) R cR bo from Hown.out) _ rfl rfl (by omega) Hbig.out ?_
                intro R2 c2 w2 ho2 hg2
                refine hK _ _ ?_
                clear hK K
                obtain ⟨hbx, hfx, hrest⟩ := Hfin.out R2 c2 w2 ho2 hg2
                have Hrest := Lib.hid hrest
                clear hrest ho2 hg2
                refine wpAnyIn_ready (rs := [5]) (by kernel_rfl) (by simp) ?_
                refine AllReadyIn.cons rfl (fun K hK => ?_) ?_
                · go_simp
                  refine hK _ _ ?_
                  clear hK K
                  refine wpAnyIn_done (by kernel_rfl) ?_ _
                  exact Hrest.out
                exact AllReadyIn.nil
              exact AllReadyIn.nil
            exact AllReadyIn.nil
          exact AllReadyIn.nil
        exact AllReadyIn.nil
      exact AllReadyIn.nil

    case done =>
      rintro e W' ⟨hv, i, hi, hj, hrd⟩
      refine ⟨hv, .inl ⟨hrd, fun ob hob hDo => ?_⟩⟩
      obtain ⟨R, cR, hout, hown⟩ := hj.out
      have hmin : min i a.length = a.length := by omega
      rw [hmin] at hout hown
      have hne : w.heap.size ≠ l := by omega
      have hbk : Bk (W'.putObj l ob) w.heap.size 28 [.slice R (batTo n a a.length).length cR] := (World.putObj_heap_other hne).trans hout
      have hcell := hbk.cell 0
      have Hown := Lib.hid (hown.grown (grownBy_putObj' W' l ob) (by
        cases hR : rowOf R with
        | none => exact .inl rfl
        | some q => exact .inr (fun e => by have := hown.row_lt q hR; injection e with e; omega)))
      have Hb := Lib.hid (hj.below.grown (grownBy_putObj' W' l ob) hj.below.size (fun k e => by injection e with e; omega))
      have Hdo := Lib.hid hDo
      obtain ⟨W2, hW2⟩ : ∃ W2, W'.putObj l ob = W2 := ⟨_, rfl⟩
      rw [hW2] at hcell Hown Hb Hdo ⊢
      have HD := Lib.hid hD
      simp only [List.getElem?_cons_zero] at hcell
      clear hout hown hj hrd hDo hl hW2 hbk hz1 hD hne hmin HY HS hb1 hr1 hkind hb0 k0 k1 k2
      gi_wp2
      refine ⟨by simp, .inl ⟨_, _, rfl, run_takeDeferred Hdo.out, ?_⟩⟩
      refine ⟨_, results_tmp rfl _ _ _, R, cR, rfl, ?_, ?_⟩
      · have h1 := Hown.out.grown (grownBy_putObj' W2 D (.deferred none)) (by
          cases hR : rowOf R with
          | none => exact .inl rfl
          | some q => exact .inr (fun e => by have := Hown.out.row_lt q hR; have := HD.out; injection e with e; omega))
        have h2 := h1.ownV
        exact h2.base_ (by omega)
      · exact Hb.out.grown (grownBy_putObj' W2 D (.deferred none)) Hb.out.size (fun k e => by have := HD.out; injection e with e; omega)

end Go.Proofs.Ytkjhncohanfciaa

/- Slices of slices of numbers that a call made: kept, read and marked. -/
namespace Go.Proofs.Ytkjhncohanfciaa
open Go.RowKit

/-- Rows in memory of a call's own, blocks lo to hi. -/
def OwnS (w : World) (lo hi : Nat) (A : Option Addr) (rows : List (List Int)) : Prop :=
  ∃ g gs, A = some ⟨g, 0, none⟩ ∧ OwnR w 28 3 lo g gs rows ∧ g < hi ∧ ∀ x ∈ gs, x < hi

section
variable {w w' : World} {lo hi : Nat} {A : Option Addr} {rows : List (List Int)}
theorem OwnS.of {g : Nat} (h : ∃ gs, OwnR w 28 3 lo g gs rows) : OwnS w lo w.heap.size (some ⟨g, 0, none⟩) rows := by
  obtain ⟨gs, h⟩ := h
  exact ⟨g, gs, rfl, h, h.top.lt, h.lt_⟩
theorem OwnS.agree (h : OwnS w lo hi A rows) (hag : ∀ b, lo ≤ b → b < hi → w'.heap[b]? = w.heap[b]?) : OwnS w' lo hi A rows := by
  obtain ⟨g, gs, rfl, h, hg, hx⟩ := h
  refine ⟨g, gs, rfl, ⟨h.base_, h.len, h.up, h.asc, (hag g h.base_ hg).trans h.top, fun j x r hj hr => ?_⟩, hg, hx⟩
  have hm := List.mem_of_getElem? hj
  exact (hag x (by have := h.up x hm; have := h.base_; omega) (hx x hm)).trans (h.row j x r hj hr)
theorem OwnS.held (h : OwnS w lo hi A rows) (h1 : lo ≤ hi) (h2 : hi ≤ w.heap.size) : Held w lo hi (fun v => OwnS v lo hi A rows) := ⟨h1, h2, fun _ _ hag => h.agree hag⟩
theorem OwnS.rdt (h : OwnS w lo hi A rows) (_ : hi ≤ w.heap.size) : RdR w w.heap.size A rows := by
  obtain ⟨g, gs, rfl, h, _, _⟩ := h
  exact h.rd (Nat.le_refl _)
end

theorem bulk_len (rows : List (List Int)) : rows.length ≤ bulk rows := Nat.le_add_right _ _
theorem bulk_row {rows : List (List Int)} {r : List Int} (h : r ∈ rows) : r.length ≤ bulk rows := Nat.le_trans (len_le_bulk h) (Nat.le_add_left _ _)

/-- The rows are there, whatever numbers they hold. -/
structure Rowed (w : World) (g : Nat) (gs : List Nat) (rows : List (List Int)) : Prop where
  top : Bk w g 28 (List.zipWith (fun x (r : List Int) => Value.slice (some ⟨x, 0, none⟩) r.length r.length) gs rows)
  row : ∀ (j x : Nat) (r : List Int), gs[j]? = some x → rows[j]? = some r → ∃ r' : List Int, r'.length = r.length ∧ OwnI w x (x + 1) (some ⟨x, 0, none⟩) r'

set_option maxHeartbeats 1600000 in
theorem markIntSS_h {lo hi : Nat} {A : Option Addr} {c : Nat} {rows : List (List Int)} {w : World} (k : Int) (h : OwnS w lo hi A rows) (hn : rows.length ≤ 1048576) (hm : ∀ r ∈ rows, r.length ≤ 1048576) (hbk : bulk rows ≤ 1048576) (hk0 : 0 ≤ k) (hk1 : k ≤ 14680064) :
    Calls Try.prog 19 #[.slice A rows.length c, .int .i64 k] w fun e w' => e = .returned (.int .i64 (k + ((rows.map List.length).sum : Nat))) ∧ Chg lo hi w w' := by
  obtain ⟨g, gs, rfl, h, hg, hx⟩ := h
  have hR : Rowed w g gs rows := ⟨h.top, fun j x r hj hr => ⟨r, rfl, (h.row j x r hj hr).ownI (Nat.le_refl _) (Nat.lt_succ_self _)⟩⟩
  have hsum : (rows.map List.length).sum ≤ 1048576 := by unfold bulk at hbk; omega
  have HR := Lib.hid hR
  have Hh := Lib.hid h
  have Hx := Lib.hid hx
  have Hm := Lib.hid hm
  clear h hR hx hm
  go_enter Try.func19, Try.ntmps19
  go_wp2
  go_loopw [1, 5] (fun s i wr => ∃ j : Nat, j ≤ rows.length ∧ i = .int .i64 j ∧ (∃ m : Int, m = k + (((rows.take j).map List.length).sum : Nat) ∧ s = .int .i64 m) ∧ Rowed wr g gs rows ∧ Chg lo hi w wr) (fun _ i _ => rows.length - (intOf i).toNat)
  case atStart => exact ⟨0, Nat.zero_le _, rfl, ⟨k, by simp, rfl⟩, HR.out, Chg.refl _ _ _⟩
  case round =>
    obtain ⟨j, hj, rfl, ⟨m, hmm, rfl⟩, hR, hc⟩ := hrel
    have hle := sum_take_le rows j
    have hm0 : 0 ≤ m := by omega
    have hm1 : m ≤ 16777216 := by omega
    by_cases hlt : j < rows.length
    · obtain ⟨r, hr⟩ := get_of_lt rows hlt
      obtain ⟨x, hgx⟩ := get_of_lt gs (k := j) (by rw [Hh.out.len]; exact hlt)
      obtain ⟨r', hrl, hown⟩ := hR.row j x r hgx hr
      have htop : wr.cell? ⟨g, j, none⟩ = some (.slice (some ⟨x, 0, none⟩) r.length r.length) := by rw [hR.top.cell, List.getElem?_zipWith, hgx, hr]
      have hrn : r.length ≤ 1048576 := Hm.out r (List.mem_of_getElem? hr)
      have hsucc := sum_take_succ hr
      have HC := Lib.hid (markIntS_h (c := r.length) m hown (by rw [hrl]; exact hrn) hm0 hm1)
      rw [hrl] at HC
      have Hr := Lib.hid hr
      have Hgx := Lib.hid hgx
      have HR2 := Lib.hid hR
      have Hc := Lib.hid hc
      have Hmm := Lib.hid hmm
      have Hsu := Lib.hid hsucc
      have Hrl := Lib.hid hrl
      clear hr hgx hR hc hmm hown hsucc hrl
      go_wp2_with (go_at_call 20; refine HC.out.mono ?_; rintro e w1 ⟨rfl, ho1, hc1⟩; have Ho1 := Lib.hid ho1; have Hc1 := Lib.hid hc1; clear ho1 hc1)
      go_roundw
      case rel =>
        have hxg : g < x := Hh.out.up x (List.mem_of_getElem? Hgx.out)
        have hxl : lo ≤ x := by have := Hh.out.base_; omega
        have hxh : x < hi := Hx.out x (List.mem_of_getElem? Hgx.out)
        refine ⟨j + 1, by omega, by go_num, ⟨_, by rw [Hmm.out, Hsu.out]; omega, rfl⟩, ⟨?_, fun i y q hi hq => ?_⟩, Hc.out.trans (Hc1.out.wide hxl (by omega))⟩
        · exact (Hc1.out.block g HR2.out.top.lt (by omega)).trans HR2.out.top
        · by_cases e : i = j
          · subst e
            obtain rfl := Option.some.inj (Hgx.out.symm.trans hi)
            obtain rfl := Option.some.inj (Hr.out.symm.trans hq)
            exact ⟨mkI r'.length m, by rw [mkI_len]; exact Hrl.out, by rw [Hrl.out]; exact Ho1.out⟩
          · obtain ⟨q', hql, hqo⟩ := HR2.out.row i y q hi hq
            refine ⟨q', hql, fun hpos => ?_⟩
            obtain ⟨gg, oo, cs, hA, h1, h2, hb, hcc⟩ := hqo hpos
            have hne : y ≠ x := by
              intro e2
              subst e2
              have hil : i < gs.length := (List.getElem?_eq_some_iff.1 hi).1
              have hjl : j < gs.length := (List.getElem?_eq_some_iff.1 Hgx.out).1
              have hp := List.pairwise_iff_getElem.1 Hh.out.asc
              have e3 : gs[i] = y := (List.getElem?_eq_some_iff.1 hi).2
              have e4 : gs[j] = y := (List.getElem?_eq_some_iff.1 Hgx.out).2
              rcases Nat.lt_or_gt_of_ne e with h | h
              · have := hp i j hil hjl h; omega
              · have := hp j i hjl hil h; omega
            exact ⟨gg, oo, cs, hA, h1, h2, (Hc1.out.block gg hb.lt (by omega)).trans hb, hcc⟩
      case measure => simp [intOf]; omega
    · obtain rfl : j = rows.length := by omega
      have Hc := Lib.hid hc
      have Hmm := Lib.hid hmm
      clear hR hc hmm
      go_wp2
      go_ret
      exact ⟨ret_int (by rw [Hmm.out, List.take_length]), Hc.out⟩

end Go.Proofs.Ytkjhncohanfciaa

/- Arguments that came in, opened: a slice of nodes, and a pipe, read as a list of nodes. -/
namespace Go.Proofs.Ytkjhncohanfciaa
open Go.ChangeShapes Go.WideShapes Go.ChangeAt Go.RowKit Go.Deep

section
variable {H : Type} {enc : TypeId × Value → H} {P : Program} {W : World}
theorem five_cells {e q : TypeId} {fs : Array Field} {fuel : Nat} {cs : List Value} {x : DataW H × List MemPlace} (he : P.underlying e = some (.struct fs)) (h5 : fs.size = 5) (hone : oneCellFields P fs = true) (hall : fs.all (fun f => f.type == q) = true)
    (hq : P.underlying q = some (.int .i64)) (ce : P.cellsOf e = 5) (h : DataW.trod enc P W 0 (fun _ => true) true fuel e cs = some x) :
    ∃ k a b n m : Int, cs = [.int .i64 k, .int .i64 a, .int .i64 b, .int .i64 n, .int .i64 m] := by
  obtain ⟨xs, n, _, _, hl, hxl, hf⟩ := DataW.trod_struct he h
  rw [ce] at hl
  have one : ∀ j, j < 5 → ∃ v : Int, cs[j]? = some (.int .i64 v) := fun j hj => by
    have hjf : fs[j]? = some (fs[j]'(by omega)) := Array.getElem?_eq_getElem (by omega)
    obtain ⟨ho, hk⟩ := hone_of hone j _ hjf
    have ht : (fs[j]'(by omega)).type = q := by
      have := Array.all_eq_true.1 hall j (by omega)
      simpa using this
    have h1 := hf j _ hjf
    rw [ho, hk, ht] at h1
    have hx : xs[j]? = some (xs[j]'(by omega)) := List.getElem?_eq_getElem (by omega)
    rw [hx] at h1
    obtain ⟨v, hv, _, _⟩ := DataW.trod_int hq h1
    refine ⟨v, ?_⟩
    have : ((cs.drop j).take 1)[0]? = some (.int .i64 v) := by rw [hv]; rfl
    simpa using this
  obtain ⟨k, h0⟩ := one 0 (by omega)
  obtain ⟨a, h1⟩ := one 1 (by omega)
  obtain ⟨b, h2⟩ := one 2 (by omega)
  obtain ⟨n', h3⟩ := one 3 (by omega)
  obtain ⟨m, h4⟩ := one 4 (by omega)
  refine ⟨k, a, b, n', m, ?_⟩
  apply List.ext_getElem?
  intro i
  match i with
  | 0 => rw [h0]; rfl
  | 1 => rw [h1]; rfl
  | 2 => rw [h2]; rfl
  | 3 => rw [h3]; rfl
  | 4 => rw [h4]; rfl
  | i + 5 => rw [List.getElem?_eq_none (by omega), List.getElem?_eq_none (by simp)]

theorem open_nodes {t e q : TypeId} {fs : Array Field} {A : Option Addr} {len cap fuel : Nat} {x : DataW H × List MemPlace} (ht : P.underlying t = some (.slice e)) (he : P.underlying e = some (.struct fs)) (h5 : fs.size = 5) (hone : oneCellFields P fs = true)
    (hall : fs.all (fun f => f.type == q) = true) (hq : P.underlying q = some (.int .i64)) (ce : P.cellsOf e = 5) (h : DataW.trod enc P W 0 (fun _ => true) true fuel t [.slice A len cap] = some x) :
    ∃ l : List Nd, l.length = len ∧ len ≤ maxLen ∧ RdN W W.heap.size A l := by
  rcases open_slice ht h with ⟨hcs, _⟩ | ⟨a, l, c, m, n, D, Pl, hcs, _, hl, hm, hmm, _, hr⟩
  · simp at hcs
    obtain ⟨rfl, rfl, rfl⟩ := hcs
    exact ⟨[], rfl, Nat.zero_le _, fun h => absurd h (by simp)⟩
  · simp at hcs
    obtain ⟨rfl, rfl, rfl⟩ := hcs
    simp only [if_true] at hmm
    subst hmm
    have each : ∀ i, i < len → ∃ x : Nd, W.cell? (a.add (i * 5)) = some (.int .i64 x.k) ∧ W.cell? ((a.add (i * 5)).add 1) = some (.int .i64 x.a) ∧ W.cell? ((a.add (i * 5)).add 2) = some (.int .i64 x.b) ∧
        W.cell? ((a.add (i * 5)).add 3) = some (.int .i64 x.n) ∧ W.cell? ((a.add (i * 5)).add 4) = some (.int .i64 x.m) := fun i hi => by
      obtain ⟨cs', hc, htr⟩ := hr i (by omega)
      rw [ce] at hc
      obtain ⟨k, a', b, n', m', rfl⟩ := five_cells he h5 hone hall hq ce htr
      obtain ⟨_, _, hat⟩ := World.cells?_some hc
      exact ⟨⟨k, a', b, n', m'⟩, by simpa [Addr.add] using hat 0 (by omega), by simpa using hat 1 (by omega), by simpa using hat 2 (by omega), by simpa using hat 3 (by omega), by simpa using hat 4 (by omega)⟩
    have : Inhabited Nd := ⟨⟨0, 0, 0, 0, 0⟩⟩
    obtain ⟨f, hf⟩ := choose_lt each
    refine ⟨(List.range len).map f, by simp, by omega, fun hn => ?_⟩
    simp at hn
    have h00 := (hf 0 hn).1
    have hsp := World.cell?_spot h00
    have hbl := World.block_lt_of_cell? _ _ h00
    obtain ⟨b, o, s⟩ := a
    have hs : s = none := by simpa [Addr.add] using hsp
    subst hs
    refine ⟨b, o, rfl, by simpa [Addr.add] using hbl, fun k x hk => ?_⟩
    have hkl : k < len := by simpa using (List.getElem?_eq_some_iff.1 hk).1
    simp [hkl] at hk
    subst hk
    obtain ⟨c0, c1, c2, c3, c4⟩ := hf k hkl
    have e : ∀ j, (⟨b, o, none⟩ : Addr).add j = ⟨b, o + j, none⟩ := fun j => by
      unfold Addr.add
      split
      · rename_i h; subst h; rfl
      · rfl
    rw [e] at c0 c1 c2 c3 c4
    have e2 : ∀ j, (⟨b, o + k * 5, none⟩ : Addr).add j = ⟨b, o + k * 5 + j, none⟩ := fun j => by
      unfold Addr.add
      split
      · rename_i h; subst h; rfl
      · rfl
    rw [e2] at c1 c2 c3 c4
    exact ⟨c0, c1, c2, c3, c4⟩

theorem open_pipe {r : Reach} {b0 : Nat} {tp t e q : TypeId} {f0 : Field} {fs : Array Field} {v : Value} {d : DataW H} {p : List MemPlace} (hp : P.underlying tp = some (.struct #[f0])) (ho : oneCellFields P #[f0] = true) (hft : f0.type = t) (hc : P.cellsOf tp = 1)
    (ht : P.underlying t = some (.slice e)) (he : P.underlying e = some (.struct fs)) (h5 : fs.size = 5) (hone : oneCellFields P fs = true)
    (hall : fs.all (fun f => f.type == q) = true) (hq : P.underlying q = some (.int .i64)) (ce : P.cellsOf e = 5) (hval : Value.okWide P W r b0 tp v) (h : DataW.Trod enc P W 0 (fun _ => true) true tp v d p) :
    ∃ (A : Option Addr) (len cap : Nat) (l : List Nd), v = .agg #[.slice A len cap] ∧ l.length = len ∧ len ≤ maxLen ∧ RdN W W.heap.size A l := by
  obtain ⟨cs, rfl, hsz⟩ := okWide_struct hp hval
  rw [hc] at hsz
  obtain ⟨c0, rfl⟩ : ∃ c0, cs = #[c0] := by
    obtain ⟨m⟩ := cs
    match m, hsz with
    | [c0], _ => exact ⟨c0, rfl⟩
  obtain ⟨fuel, hf⟩ := h
  obtain ⟨xs, n, _, _, _, hxl, hg⟩ := DataW.trod_struct hp hf
  obtain ⟨o0, k0⟩ := hone_of ho 0 f0 rfl
  have h1 := hg 0 f0 rfl
  rw [hft] at h1 k0
  simp [Value.cells, o0, k0] at h1
  have hx : xs[0]? = some (xs[0]'(by simp [hxl])) := List.getElem?_eq_getElem _
  rw [hx] at h1
  rcases open_slice ht h1 with ⟨hcs, _⟩ | ⟨a, l, c, _, _, _, _, hcs, _⟩
  · simp at hcs
    subst hcs
    obtain ⟨l, h2, h3, h4⟩ := open_nodes ht he h5 hone hall hq ce h1
    exact ⟨_, _, _, l, rfl, h2, h3, h4⟩
  · simp at hcs
    subst hcs
    obtain ⟨l, h2, h3, h4⟩ := open_nodes ht he h5 hone hall hq ce h1
    exact ⟨_, _, _, l, rfl, h2, h3, h4⟩
end

end Go.Proofs.Ytkjhncohanfciaa

/- Arguments that came in, opened: a slice of slices of numbers reads as rows. -/
namespace Go.Proofs.Ytkjhncohanfciaa
open Go.ChangeShapes Go.WideShapes Go.ChangeAt Go.RowKit Go.Deep

section
variable {H : Type} {enc : TypeId × Value → H} {P : Program} {W : World}
theorem open_rows {t e q : TypeId} {A : Option Addr} {len cap : Nat} {d : DataW H} {p : List MemPlace} (ht : P.underlying t = some (.slice e)) (he : P.underlying e = some (.slice q)) (hq : P.underlying q = some (.int .i64)) (ce : P.cellsOf e = 1) (cq : P.cellsOf q = 1)
    (h0 : DataW.Trod enc P W 0 (fun _ => true) true t (.slice A len cap) d p) :
    ∃ rows : List (List Int), rows.length = len ∧ len ≤ maxLen ∧ (∀ r ∈ rows, r.length ≤ maxLen) ∧ RdR W W.heap.size A rows := by
  obtain ⟨fuel, hf⟩ := h0
  rcases open_int_rows ht he hq ce cq hf with ⟨hcs, _⟩ | ⟨a, l, c, Ad, L, C, Z, hcs, _, hl, hm, _, hr⟩
  · simp [Value.cells] at hcs
    obtain ⟨rfl, rfl, rfl⟩ := hcs
    exact ⟨[], rfl, Nat.zero_le _, fun _ h => absurd h (by simp), fun h => absurd h (by simp)⟩
  · simp [Value.cells] at hcs
    obtain ⟨rfl, rfl, rfl⟩ := hcs
    refine ⟨(List.range len).map fun r => (Z r).take (L r), by simp, by omega, fun r h => ?_, fun hn => ?_⟩
    · obtain ⟨i, hi, rfl⟩ := List.mem_map.1 h
      obtain ⟨_, h1, h2, h3, _⟩ := hr i (by have := List.mem_range.1 hi; omega)
      simp; omega
    · simp at hn
      have h00 := (hr 0 (by omega)).1
      refine ⟨a, rfl, by have := World.block_lt_of_cell? _ _ h00; rwa [add_block] at this, fun k r hk => ?_⟩
      have hkl : k < len := by simpa using (List.getElem?_eq_some_iff.1 hk).1
      simp [hkl] at hk
      subst hk
      obtain ⟨h1, h2, _, h4, _, _, h7⟩ := hr k (by omega)
      have e : ((Z k).take (L k)).length = L k := by simp; omega
      refine ⟨Ad k, C k, by rw [e]; exact h1, fun hn2 => ?_⟩
      rw [e] at hn2
      cases hA : Ad k with
      | none => have := (hr k (by omega)).2.2.2.2.2.1 hA; omega
      | some a' =>
        obtain ⟨_, hcell⟩ := h7 a' hA
        refine ⟨a', rfl, by have := World.block_lt_of_cell? _ _ (hcell 0 (by omega)); rwa [add_block] at this, fun j x hj => ?_⟩
        have hjl : j < L k := by have := (List.getElem?_eq_some_iff.1 hj).1; omega
        rw [hcell j (by omega)]
        rw [List.getElem?_take_of_lt hjl] at hj
        simp [List.getD, hj]
end

end Go.Proofs.Ytkjhncohanfciaa

/- Contracts: the length of the list of a pipe, by both. -/
namespace Go.Proofs.Ytkjhncohanfciaa
open Go.RowKit Go.Sort

theorem listOfq_of {l : List Nd} {src : List (List Int)} {t : T} (hv : (pipeOk l && srcOk src) = true) (ht : IsTree l (l.length - 1) t) : ListOfq l src (lst src t) := by
  refine ⟨?_, ?_⟩
  · intro h
    rw [hv] at h
    cases h
  · intro u _ hu
    rw [ht.same hu]

/-- The length of the list of a pipe; -1 if the pipe or the sources are not valid. -/
structure LenOf (l : List Nd) (src : List (List Int)) (d : Int) : Prop where
  no : (pipeOk l && srcOk src) = false → d = -1
  yes : ∀ {q : List Int}, (pipeOk l && srcOk src) = true → ListOfq l src q → d = q.length

set_option maxRecDepth 100000 in
set_option maxHeartbeats 1600000 in
theorem specLengthOf_any (A : Option Addr) (c : Nat) (l : List Nd) (As : Option Addr) (ca : Nat) (src : List (List Int)) (w : World) (B : Nat) (d : Int) (hq : Hid (LenOf l src d)) (h : RdN w B A l) (hs : RdR w B As src) (hB : B ≤ w.heap.size) (hn : l.length ≤ 1048576) (hns : src.length ≤ 1048576) (hm : Hid (∀ r ∈ src, r.length ≤ 1048576)) :
    Calls Try.prog 22 #[.agg #[.slice A l.length c], .slice As src.length ca] w fun e w' => e = .returned (.int .i64 d) ∧ Below w.heap.size w w' := by
  obtain ⟨W0, hW0⟩ : ∃ W0 : World, W0 = w.alloc (.cells #[.slice A l.length c] 32) := ⟨_, rfl⟩
  have hb0 : Below w.heap.size w W0 := by rw [hW0]; exact (Below.refl w.heap.size w).alloc (Nat.le_refl _) _
  have hx0 : Bk W0 w.heap.size 32 [.slice A l.length c] := by rw [hW0]; exact Bk.new _ _ [_]
  have H0 := Lib.hid (h.below hb0 hB)
  have Hs0 := Lib.hid (hs.below hb0 hB)
  have Hb0 := Lib.hid hb0
  have Hx0 := Lib.hid hx0
  have HW0 := Lib.hid hW0
  have hz0 := hb0.size
  clear h hs hb0 hx0 hW0
  go_enter Try.func22, Try.ntmps22
  go_wp2_with fail
  rw [← HW0.out]
  refine (specvalidInput_any A c l As ca src W0 B H0.out Hs0.out (by omega) hn hns hm).mono ?_
  rintro e w1 ⟨rfl, hb1⟩
  have Hb1 := Lib.hid (Hb0.out.trans (hb1.mono hz0))
  have Hx1 := Lib.hid (Hx0.out.below hb1 Hx0.out.lt)
  have H1 := Lib.hid (H0.out.below hb1 (by omega))
  have Hs1 := Lib.hid (Hs0.out.below hb1 (by omega))
  have hc1 : w1.cell? ⟨w.heap.size, 0, none⟩ = some (.slice A l.length c) := Hx1.out.cell 0
  have hz1 := Hb1.out.size
  clear hb1
  cases hv : (pipeOk l && srcOk src)
  · obtain rfl := hq.out.no hv
    have Hv := Lib.hid hv
    clear hv
    go_wp2_with fail
    go_ret
    exact ⟨rfl, Hb1.out⟩
  obtain ⟨t, ht⟩ := tree_of_pipe (Bool.and_eq_true_iff.1 hv).1
  have hqq : d = (lst src t).length := hq.out.yes hv (listOfq_of hv ht)
  subst hqq
  have HC := Lib.hid (specAll_any A c l As ca src w1 B hv ht H1.out Hs1.out (by omega) hn)
  have Hv := Lib.hid hv
  clear hv ht hq
  go_wp2_with fail
  refine HC.out.mono ?_
  rintro e w2 ⟨R, cR, rfl, ho, hb2⟩
  have Hb2 := Lib.hid (Hb1.out.trans (hb2.mono hz1))
  clear ho hb2 HC
  go_wp2_with fail
  go_ret
  exact ⟨rfl, Hb2.out⟩


set_option maxRecDepth 100000 in
set_option maxHeartbeats 1600000 in
theorem implLengthOf_any (hBat : BatchOk) (A : Option Addr) (c : Nat) (l : List Nd) (As : Option Addr) (ca : Nat) (src : List (List Int)) (w : World) (B : Nat) (d : Int) (hq : Hid (LenOf l src d)) (h : RdN w B A l) (hs : RdR w B As src) (hB : B ≤ w.heap.size) (hn : l.length ≤ 1048576) (hns : src.length ≤ 1048576) (hm : Hid (∀ r ∈ src, r.length ≤ 1048576)) :
    Calls Try.prog 23 #[.agg #[.slice A l.length c], .slice As src.length ca] w fun e w' => e = .returned (.int .i64 d) ∧ Below w.heap.size w w' := by
  obtain ⟨W0, hW0⟩ : ∃ W0 : World, W0 = w.alloc (.cells #[.slice A l.length c] 32) := ⟨_, rfl⟩
  have hb0 : Below w.heap.size w W0 := by rw [hW0]; exact (Below.refl w.heap.size w).alloc (Nat.le_refl _) _
  have hx0 : Bk W0 w.heap.size 32 [.slice A l.length c] := by rw [hW0]; exact Bk.new _ _ [_]
  have H0 := Lib.hid (h.below hb0 hB)
  have Hs0 := Lib.hid (hs.below hb0 hB)
  have Hb0 := Lib.hid hb0
  have Hx0 := Lib.hid hx0
  have HW0 := Lib.hid hW0
  have HBat := Lib.hid hBat
  have hz0 := hb0.size
  clear h hs hb0 hx0 hW0 hBat
  go_enter Try.func23, Try.ntmps23
  go_wp2_with fail
  rw [← HW0.out]
  refine (implValidPipe_any A c l W0 B H0.out (by omega) hn).mono ?_
  rintro e w1 ⟨rfl, hb1⟩
  have Hb1 := Lib.hid (Hb0.out.trans (hb1.mono hz0))
  have Hx1 := Lib.hid (Hx0.out.below hb1 Hx0.out.lt)
  have H1 := Lib.hid (H0.out.below hb1 (by omega))
  have Hs1 := Lib.hid (Hs0.out.below hb1 (by omega))
  have hc1 : w1.cell? ⟨w.heap.size, 0, none⟩ = some (.slice A l.length c) := Hx1.out.cell 0
  have hz1 := Hb1.out.size
  clear hb1
  cases hv : pipeOk l
  · obtain rfl := hq.out.no (by rw [hv]; rfl)
    have Hv := Lib.hid hv
    clear hv
    go_wp2_with fail
    go_ret
    exact ⟨rfl, Hb1.out⟩
  have Hv := Lib.hid hv
  clear hv
  go_wp2_with fail
  refine (implValidSources_any As ca src w1 B Hs1.out hns hm.out).mono ?_
  rintro e w2 ⟨rfl, rfl⟩
  cases hvs : srcOk src
  · obtain rfl := hq.out.no (by rw [hvs, Bool.and_false])
    have Hvs := Lib.hid hvs
    clear hvs
    go_wp2_with fail
    go_ret
    exact ⟨rfl, Hb1.out⟩
  obtain ⟨q, hqo⟩ := ListOfq.ex l src
  have hdq : d = q.length := hq.out.yes (by rw [Hv.out, hvs]; rfl) hqo
  subst hdq
  have HL := Lib.hid (implListOf_any HBat.out A c l As ca src w1 B q (Lib.hid hqo) H1.out Hs1.out (by omega) hn hns hm)
  have Hvs := Lib.hid hvs
  clear hvs hqo hq
  go_wp2_with fail
  refine HL.out.mono ?_
  rintro e w3 ⟨R, cR, rfl, _, hb3⟩
  have Hb3 := Lib.hid (Hb1.out.trans (hb3.mono hz1))
  clear hb3 HL
  go_wp2_with fail
  go_ret
  exact ⟨rfl, Hb3.out⟩

end Go.Proofs.Ytkjhncohanfciaa
