/- ReadBy by the program. -/
import Derived.Test.YtjkieedomljelaaTkB
import Derived.Deep.DeepMust
namespace Go.Proofs.Ytjkieedomljelaa
open Go.RowKit Go.Conc Go.Deep

/-- What one reader reads: the items of its turns, without -1. -/
def byL (c : Int) (ps : List (Int × Int)) : List Int := (ps.filter fun p => p.1 == c && decide (0 ≤ p.2)).map (·.2)
theorem byL_snoc (c : Int) (ps : List (Int × Int)) (a x : Int) : byL c (ps ++ [(a, x)]) = byL c ps ++ (if a == c && decide (0 ≤ x) then [x] else []) := by
  unfold byL
  rw [List.filter_append, List.map_append]
  congr 1
  cases h : (a == c && decide (0 ≤ x)) <;> simp [List.filter, h]
theorem byL_len (c : Int) (ps : List (Int × Int)) : (byL c ps).length ≤ ps.length := by
  unfold byL
  rw [List.length_map]
  exact List.length_filter_le _ _
theorem byL_none (c : Int) (ps : List (Int × Int)) (h : ∀ p ∈ ps, p.1 ≠ c) : byL c ps = [] := by
  unfold byL
  rw [List.filter_eq_nil_iff.2 (fun p hp => by have := h p hp; simp [this])]
  rfl
def rbQ (l : List Int) (i : Int) (ts : List Int) (c : Int) : List Int := byL c (ts.zip (tkR l i ts))
theorem tkR_len (l : List Int) (i : Int) (ts : List Int) : (tkR l i ts).length ≤ ts.length ∧ (tkR l i ts).length ≤ 60 := by
  unfold tkR
  split
  · rename_i h
    unfold turnsOk at h
    rw [Bool.and_eq_true, Bool.and_eq_true] at h
    have := of_decide_eq_true h.1.2
    rw [readsT_len]
    exact ⟨Nat.le_refl _, this⟩
  · simp
theorem rbQ_len (l : List Int) (i : Int) (ts : List Int) (c : Int) : (rbQ l i ts c).length ≤ 60 := by
  have h1 := byL_len c (ts.zip (tkR l i ts))
  have h2 := (tkR_len l i ts).2
  rw [List.length_zip] at h1
  unfold rbQ
  omega
theorem readsT_sign : ∀ (ts : List Int) {t : Te}, TeeOk t → ∀ x ∈ readsT t ts, 0 ≤ x ∨ x = -1
  | [], _, _, x, hx => absurd hx (by simp [readsT])
  | c :: ts, t, h, x, hx => by
    rw [readsT, List.mem_cons] at hx
    rcases hx with rfl | hx
    · rcases readR_facts h c.toNat with ⟨h1, -, -⟩ | ⟨h1, -, -⟩
      · exact .inl h1
      · exact .inr h1
    · exact readsT_sign ts (readT_ok h c.toNat) x hx
theorem tkR_sign (l : List Int) (i : Int) (ts : List Int) : ∀ x ∈ tkR l i ts, 0 ≤ x ∨ x = -1 := by
  unfold tkR
  split
  · rename_i h
    unfold turnsOk at h
    rw [Bool.and_eq_true, Bool.and_eq_true, Bool.and_eq_true] at h
    obtain ⟨⟨⟨hro, hin⟩, -⟩, -⟩ := h
    obtain ⟨h0, h1⟩ := inR_iff.1 hin
    exact readsT_sign ts (newT_ok hro (by omega) (by omega))
  · intro x hx
    exact absurd hx (by simp)
theorem rbQ_no {l : List Int} {i : Int} {ts : List Int} (c : Int) (h : turnsOk l i ts = false) : rbQ l i ts c = [] := by
  unfold rbQ tkR
  rw [if_neg (by rw [h]; decide), List.zip_nil_right]
  rfl
theorem rbQ_out {l : List Int} {i : Int} {ts : List Int} {c : Int} (h : inR c 0 (i - 1) = false) : rbQ l i ts c = [] := by
  cases hv : turnsOk l i ts
  · exact rbQ_no c hv
  · unfold rbQ
    refine byL_none _ _ fun p hp => ?_
    have h1 := (List.of_mem_zip (a := p.1) (b := p.2) hp).1
    unfold turnsOk at hv
    rw [Bool.and_eq_true] at hv
    have h2 := hv.2
    rw [allB, List.all_eq_true] at h2
    have h3 := h2 _ h1
    intro e
    rw [e, h] at h3
    cases h3
theorem zip_take_snoc {ts rs : List Int} {k : Nat} {a x : Int} (ha : ts[k]? = some a) (hx : rs[k]? = some x) : (ts.zip rs).take (k + 1) = (ts.zip rs).take k ++ [(a, x)] :=
  take_succ_of (by rw [List.getElem?_zip_eq_some]; exact ⟨ha, hx⟩)

set_option maxRecDepth 100000 in
set_option maxHeartbeats 12800000 in
theorem implReadBy_any (A : Option Addr) (c : Nat) (l : List Int) (i : Int) (A2 : Option Addr) (c2 : Nat) (ts : List Int) (rd : Int) (w : World) (B : Nat) (h : RdI w B A l) (h2 : RdI w B A2 ts) (hB : B ≤ w.heap.size) (hn : l.length ≤ 1048576) (hn2 : ts.length ≤ 1048576) (q : List Int) (hq : Hid (rbQ l i ts rd = q)) :
    Calls Try.prog 35 #[.slice A l.length c, .int .i64 i, .slice A2 ts.length c2, .int .i64 rd] w fun e w' => ∃ (R : Option Addr) (cR : Nat), e = .returned (.slice R q.length cR) ∧ OwnI w' w.heap.size w'.heap.size R q ∧ Below w.heap.size w w' := by
  go_enter Try.func35, Try.ntmps35
  go_wp2_with fail
  refine (implRunTee_any A c l i A2 c2 ts w B h h2 hB hn hn2 _ (Lib.hid rfl)).mono ?_
  rintro e w1 ⟨R0, cR0, rfl, ho1, hb1⟩
  have hz1 := hb1.size
  have Hts := Lib.hid (h2.below hb1 hB)
  have Hb1 := Lib.hid hb1
  obtain ⟨b0, hb0⟩ : ∃ b0, b0 = w1.heap.size := ⟨_, rfl⟩
  have hzb : w1.heap.size ≤ b0 := by omega
  have hzb2 : b0 ≤ w1.heap.size := by omega
  replace ho1 := ho1.wide (Nat.le_refl _) hzb
  clear hb1 h h2 hb0
  have hrl := (tkR_len l i ts).1
  have hrl6 := (tkR_len l i ts).2
  have hsg := tkR_sign l i ts
  obtain ⟨rs, hrs⟩ : ∃ rs, rs = tkR l i ts := ⟨_, rfl⟩
  rw [← hrs] at hrl hrl6 hsg ho1
  have Hq : Hid (q = byL rd (ts.zip rs)) := Lib.hid (by rw [← hq.out, hrs]; rfl)
  rw [← hrs]
  have Hrd := Lib.hid (ho1.rd)
  have Hsg := Lib.hid hsg
  clear hrs ho1 hsg hq
  go_wp2_with fail
  go_loopw [9, 17] (fun sl iv wr => ∃ k : Nat, k ≤ rs.length ∧ iv = .int .i64 k ∧ ∃ (R : Option Addr) (cR : Nat) (o : List Int), sl = .slice R o.length cR ∧ Hid (o = byL rd ((ts.zip rs).take k)) ∧ Hid (OwnJ wr b0 R cR o) ∧ Hid (Below b0 w1 wr) ∧ b0 ≤ wr.heap.size) (fun _ iv _ => (rs.length - intOf iv).toNat)
  case atStart => exact ⟨0, Nat.zero_le _, rfl, _, _, [], rfl, Lib.hid rfl, Lib.hid (OwnJ.nil_ _ _), Lib.hid (Below.refl _ _), by omega⟩
  case round =>
    obtain ⟨k, hk, rfl, R, cR, o, rfl, Ho, Hown, Hbw, hzw⟩ := hrel
    have hol : o.length ≤ 60 := by
      have h1 := byL_len rd ((ts.zip rs).take k)
      rw [← Ho.out, List.length_take] at h1
      omega
    by_cases hlt : k < rs.length
    · obtain ⟨ad2, cc, hA2, hcc, hccell⟩ := (Hts.out.below Hbw.out (by omega)).at_ (k := k) (by omega)
      obtain ⟨ad3, x, hA3, hx, hxcell⟩ := (Hrd.out.below Hbw.out (by omega)).at_ (k := k) (by omega)
      have hsx := Hsg.out x (List.mem_of_getElem? hx)
      have Hz : Hid ((ts.zip rs).take (k + 1) = (ts.zip rs).take k ++ [(cc, x)]) := Lib.hid (zip_take_snoc hcc hx)
      have HR9 : Hid (∀ g, rowOf R = some g → b0 ≤ g) := Lib.hid fun g hg => (Hown.out.row_lt g hg).1
      rw [hA2, hA3]
      have HA2 := Lib.hid hA2
      have HA3 := Lib.hid hA3
      clear hA2 hA3 hcc hx
      cases hb1 : (cc == rd)
      · have Hs : Hid (byL rd ((ts.zip rs).take (k + 1)) = o) := Lib.hid (by rw [Hz.out, byL_snoc, hb1, ← Ho.out]; simp)
        go_wp2_with fail
        go_roundw
        case rel => exact ⟨k + 1, by omega, by go_num, R, cR, o, rfl, Lib.hid Hs.out.symm, Hown, Hbw, hzw⟩
        case measure => simp [intOf]; omega
      · have hb2 : cc = rd := by simpa using hb1
        by_cases hx0 : 0 ≤ x
        · have hxn : ¬ x = -1 := by omega
          have hxb : (x == (-1 : Int)) = false := by simpa using hxn
          have Hs : Hid (byL rd ((ts.zip rs).take (k + 1)) = o ++ [x]) := Lib.hid (by rw [Hz.out, byL_snoc, hb1, decide_eq_true hx0, ← Ho.out]; rfl)
          go_wp2_with (at_builtin; go_must (refine wpList_append_int rfl _ _ rfl b0 R cR o x _ rfl rfl Hown.out _ rfl rfl (by omega) (by omega) ?_; intro R2 c3 w6 ho6 hg6); have hbw6 := Below.own2 (Below.alloc Hbw.out (by omega) _) hg6 (fun g hg => HR9.out g hg) (by rw [World.size_alloc]; omega); have hz6 : wr.heap.size < w6.heap.size := (by have := hg6.size; rw [World.size_alloc] at this; omega); have Ho6 := Lib.hid ho6; have Hbw6 := Lib.hid hbw6; clear ho6 hg6 hbw6)
          go_roundw
          case rel => exact ⟨k + 1, by omega, by go_num, R2, c3, o ++ [x], by rw [List.length_append]; rfl, Lib.hid Hs.out.symm, Ho6, Hbw6, by omega⟩
          case measure => simp [intOf]; omega
        · have hxn : x = -1 := by omega
          have Hs : Hid (byL rd ((ts.zip rs).take (k + 1)) = o) := Lib.hid (by rw [Hz.out, byL_snoc, hb1, decide_eq_false hx0, ← Ho.out]; simp)
          clear hsx
          subst hxn
          go_wp2_with fail
          go_roundw
          case rel => exact ⟨k + 1, by omega, by go_num, R, cR, o, rfl, Lib.hid Hs.out.symm, Hown, Hbw, hzw⟩
          case measure => simp [intOf]; omega
    · obtain rfl : k = rs.length := by omega
      have Ho2 : Hid (q = o) := Lib.hid (by rw [Hq.out, Ho.out, List.take_of_length_le (by rw [List.length_zip]; omega)])
      go_wp2_with fail
      go_ret
      have hq2 := Ho2.out
      subst hq2
      first | exact ⟨R, cR, rfl, Hown.out.ownI.wide (by omega) (Nat.le_refl _), Hb1.out.trans (Hbw.out.mono (by omega))⟩ | exact ⟨R, ⟨cR, rfl⟩, Hown.out.ownI.wide (by omega) (Nat.le_refl _), Hb1.out.trans (Hbw.out.mono (by omega))⟩

end Go.Proofs.Ytjkieedomljelaa
