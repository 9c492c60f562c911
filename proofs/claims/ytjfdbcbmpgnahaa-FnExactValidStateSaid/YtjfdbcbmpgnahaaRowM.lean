/- Slices of slices of numbers that a call made: kept, read and marked. -/
import Derived.Test.YtjfdbcbmpgnahaaHld
namespace Go.Proofs.Ytjfdbcbmpgnahaa
open Go.RowKit

/-- Rows in memory of a call's own, blocks lo to hi. -/
def OwnS (w : World) (lo hi : Nat) (A : Option Addr) (rows : List (List Int)) : Prop :=
  ∃ g gs, A = some ⟨g, 0, none⟩ ∧ OwnR w 28 3 lo g gs rows ∧ g < hi ∧ ∀ x ∈ gs, x < hi

section
variable {w w' : World} {lo hi : Nat} {A : Option Addr} {rows : List (List Int)}
theorem OwnS.of {g : Nat} (h : ∃ gs, OwnR w 28 3 lo g gs rows) : OwnS w lo w.heap.size (some ⟨g, 0, none⟩) rows := by
  obtain ⟨gs, h⟩ := h
  exact ⟨g, gs, rfl, h, h.top.lt, h.lt_⟩
theorem OwnS.agree (h : OwnS w lo hi A rows) (hag : ∀ b, lo ≤ b → b < hi → w'.heap[b]? = w.heap[b]?) : OwnS w' lo hi A rows := by
  obtain ⟨g, gs, rfl, h, hg, hx⟩ := h
  refine ⟨g, gs, rfl, ⟨h.base_, h.len, h.up, h.asc, (hag g h.base_ hg).trans h.top, fun j x r hj hr => ?_⟩, hg, hx⟩
  have hm := List.mem_of_getElem? hj
  exact (hag x (by have := h.up x hm; have := h.base_; omega) (hx x hm)).trans (h.row j x r hj hr)
theorem OwnS.held (h : OwnS w lo hi A rows) (h1 : lo ≤ hi) (h2 : hi ≤ w.heap.size) : Held w lo hi (fun v => OwnS v lo hi A rows) := ⟨h1, h2, fun _ _ hag => h.agree hag⟩
theorem OwnS.rdt (h : OwnS w lo hi A rows) (_ : hi ≤ w.heap.size) : RdR w w.heap.size A rows := by
  obtain ⟨g, gs, rfl, h, _, _⟩ := h
  exact h.rd (Nat.le_refl _)
end

theorem bulk_len (rows : List (List Int)) : rows.length ≤ bulk rows := Nat.le_add_right _ _
theorem bulk_row {rows : List (List Int)} {r : List Int} (h : r ∈ rows) : r.length ≤ bulk rows := Nat.le_trans (len_le_bulk h) (Nat.le_add_left _ _)

/-- The rows are there, whatever numbers they hold. -/
structure Rowed (w : World) (g : Nat) (gs : List Nat) (rows : List (List Int)) : Prop where
  top : Bk w g 28 (List.zipWith (fun x (r : List Int) => Value.slice (some ⟨x, 0, none⟩) r.length r.length) gs rows)
  row : ∀ (j x : Nat) (r : List Int), gs[j]? = some x → rows[j]? = some r → ∃ r' : List Int, r'.length = r.length ∧ OwnI w x (x + 1) (some ⟨x, 0, none⟩) r'

set_option maxHeartbeats 1600000 in
theorem markIntSS_h {lo hi : Nat} {A : Option Addr} {c : Nat} {rows : List (List Int)} {w : World} (k : Int) (h : OwnS w lo hi A rows) (hn : rows.length ≤ 1048576) (hm : ∀ r ∈ rows, r.length ≤ 1048576) (hbk : bulk rows ≤ 1048576) (hk0 : 0 ≤ k) (hk1 : k ≤ 14680064) :
    Calls Try.prog 24 #[.slice A rows.length c, .int .i64 k] w fun e w' => e = .returned (.int .i64 (k + ((rows.map List.length).sum : Nat))) ∧ Chg lo hi w w' := by
  obtain ⟨g, gs, rfl, h, hg, hx⟩ := h
  have hR : Rowed w g gs rows := ⟨h.top, fun j x r hj hr => ⟨r, rfl, (h.row j x r hj hr).ownI (Nat.le_refl _) (Nat.lt_succ_self _)⟩⟩
  have hsum : (rows.map List.length).sum ≤ 1048576 := by unfold bulk at hbk; omega
  have HR := Lib.hid hR
  have Hh := Lib.hid h
  have Hx := Lib.hid hx
  have Hm := Lib.hid hm
  clear h hR hx hm
  go_enter Try.func24, Try.ntmps24
  go_wp2
  go_loopw [1, 5] (fun s i wr => ∃ j : Nat, j ≤ rows.length ∧ i = .int .i64 j ∧ (∃ m : Int, m = k + (((rows.take j).map List.length).sum : Nat) ∧ s = .int .i64 m) ∧ Rowed wr g gs rows ∧ Chg lo hi w wr) (fun _ i _ => rows.length - (intOf i).toNat)
  case atStart => exact ⟨0, Nat.zero_le _, rfl, ⟨k, by simp, rfl⟩, HR.out, Chg.refl _ _ _⟩
  case round =>
    obtain ⟨j, hj, rfl, ⟨m, hmm, rfl⟩, hR, hc⟩ := hrel
    have hle := sum_take_le rows j
    have hm0 : 0 ≤ m := by omega
    have hm1 : m ≤ 16777216 := by omega
    by_cases hlt : j < rows.length
    · obtain ⟨r, hr⟩ := get_of_lt rows hlt
      obtain ⟨x, hgx⟩ := get_of_lt gs (k := j) (by rw [Hh.out.len]; exact hlt)
      obtain ⟨r', hrl, hown⟩ := hR.row j x r hgx hr
      have htop : wr.cell? ⟨g, j, none⟩ = some (.slice (some ⟨x, 0, none⟩) r.length r.length) := by rw [hR.top.cell, List.getElem?_zipWith, hgx, hr]
      have hrn : r.length ≤ 1048576 := Hm.out r (List.mem_of_getElem? hr)
      have hsucc := sum_take_succ hr
      have HC := Lib.hid (markIntS_h (c := r.length) m hown (by rw [hrl]; exact hrn) hm0 hm1)
      rw [hrl] at HC
      have Hr := Lib.hid hr
      have Hgx := Lib.hid hgx
      have HR2 := Lib.hid hR
      have Hc := Lib.hid hc
      have Hmm := Lib.hid hmm
      have Hsu := Lib.hid hsucc
      have Hrl := Lib.hid hrl
      clear hr hgx hR hc hmm hown hsucc hrl
      go_wp2_with (go_at_call 25; refine HC.out.mono ?_; rintro e w1 ⟨rfl, ho1, hc1⟩; have Ho1 := Lib.hid ho1; have Hc1 := Lib.hid hc1; clear ho1 hc1)
      go_roundw
      case rel =>
        have hxg : g < x := Hh.out.up x (List.mem_of_getElem? Hgx.out)
        have hxl : lo ≤ x := by have := Hh.out.base_; omega
        have hxh : x < hi := Hx.out x (List.mem_of_getElem? Hgx.out)
        refine ⟨j + 1, by omega, by go_num, ⟨_, by rw [Hmm.out, Hsu.out]; omega, rfl⟩, ⟨?_, fun i y q hi hq => ?_⟩, Hc.out.trans (Hc1.out.wide hxl (by omega))⟩
        · exact (Hc1.out.block g HR2.out.top.lt (by omega)).trans HR2.out.top
        · by_cases e : i = j
          · subst e
            obtain rfl := Option.some.inj (Hgx.out.symm.trans hi)
            obtain rfl := Option.some.inj (Hr.out.symm.trans hq)
            exact ⟨mkI r'.length m, by rw [mkI_len]; exact Hrl.out, by rw [Hrl.out]; exact Ho1.out⟩
          · obtain ⟨q', hql, hqo⟩ := HR2.out.row i y q hi hq
            refine ⟨q', hql, fun hpos => ?_⟩
            obtain ⟨gg, oo, cs, hA, h1, h2, hb, hcc⟩ := hqo hpos
            have hne : y ≠ x := by
              intro e2
              subst e2
              have hil : i < gs.length := (List.getElem?_eq_some_iff.1 hi).1
              have hjl : j < gs.length := (List.getElem?_eq_some_iff.1 Hgx.out).1
              have hp := List.pairwise_iff_getElem.1 Hh.out.asc
              have e3 : gs[i] = y := (List.getElem?_eq_some_iff.1 hi).2
              have e4 : gs[j] = y := (List.getElem?_eq_some_iff.1 Hgx.out).2
              rcases Nat.lt_or_gt_of_ne e with h | h
              · have := hp i j hil hjl h; omega
              · have := hp j i hjl hil h; omega
            exact ⟨gg, oo, cs, hA, h1, h2, (Hc1.out.block gg hb.lt (by omega)).trans hb, hcc⟩
      case measure => simp [intOf]; omega
    · obtain rfl : j = rows.length := by omega
      have Hc := Lib.hid hc
      have Hmm := Lib.hid hmm
      clear hR hc hmm
      go_wp2
      go_ret
      exact ⟨ret_int (by rw [Hmm.out, List.take_length]), Hc.out⟩

end Go.Proofs.Ytjfdbcbmpgnahaa
