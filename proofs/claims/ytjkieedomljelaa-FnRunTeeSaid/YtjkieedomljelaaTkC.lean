/- TeeAfter by the reference. -/
import Derived.Test.YtjkieedomljelaaTkB
import Derived.Deep.RegionLaw
namespace Go.Proofs.Ytjkieedomljelaa
open Go.RowKit Go.Conc Go.Deep

theorem runT_pl : ∀ (l : List Int) (t : Te), (runT t l).pl.length = t.pl.length
  | [], _ => rfl
  | c :: ts, t => (runT_pl ts (readT t c.toNat)).trans (readT_pl t _)
theorem Chg.of_drew {lo hi : Nat} {w w' : World} (h : Chg lo hi w.drew w') : Chg lo hi w w' := ((Chg.refl lo hi w).drew_).trans h

set_option maxRecDepth 100000 in
set_option maxHeartbeats 6400000 in
theorem specTeeAfter_any (A : Option Addr) (c : Nat) (l : List Int) (i : Int) (A2 : Option Addr) (c2 : Nat) (ts : List Int) (w : World) (B : Nat) (h : RdI w B A l) (h2 : RdI w B A2 ts) (hB : B ≤ w.heap.size) (hn : l.length ≤ 1048576) (hn2 : ts.length ≤ 1048576) (q : Te) (hq : Hid (tkT l i ts = q)) :
    Calls Try.prog 30 #[.slice A l.length c, .int .i64 i, .slice A2 ts.length c2] w fun e w' => ∃ r' : Tr, e = .returned (.agg #[.slice r'.a1 q.it.length r'.c1, .int .i64 q.fd, .slice r'.a2 q.pl.length r'.c2, .slice r'.a3 q.op.length r'.c3]) ∧ OwnT w' w.heap.size w'.heap.size r' q ∧ Below w.heap.size w w' := by
  obtain ⟨W0, hW0⟩ : ∃ W : World, W = w.alloc (.cells #[.slice none 0 0, .int .i64 0, .slice none 0 0, .slice none 0 0] 27) := ⟨_, rfl⟩
  have hb0 : Below w.heap.size w W0 := by rw [hW0]; exact (Below.refl _ _).alloc (Nat.le_refl _) _
  have hs0 : W0.heap.size = w.heap.size + 1 := by rw [hW0]; simp
  have br : Bk W0 w.heap.size 27 [.slice none 0 0, .int .i64 0, .slice none 0 0, .slice none 0 0] := by rw [hW0]; exact Bk.new _ _ [.slice none 0 0, .int .i64 0, .slice none 0 0, .slice none 0 0]
  have H := Lib.hid (h.below hb0 hB)
  have H2 := Lib.hid (h2.below hb0 hB)
  have Hts := Lib.hid h2
  have Hb0 := Lib.hid hb0
  have HW0 := Lib.hid hW0
  have Br := Lib.hid br
  have Hs0 := Lib.hid hs0
  clear h h2 hb0 hW0 hs0 br
  cases hv : turnsOk l i ts
  · have e2 : q = zeroTe := by rw [← hq.out]; unfold tkT; rw [if_neg (by rw [hv]; decide)]
    subst e2
    have Hv := Lib.hid hv
    clear hv hq
    obtain ⟨cr0, cr1, cr2, cr3⟩ := Br.out.cellsT
    obtain ⟨fr0, fr1, fr2, fr3⟩ := Br.out.freeT
    go_enter Try.func30, Try.ntmps30
    go_wp2_with fail
    rw [← HW0.out]
    refine (validTurns_any A c l i A2 c2 ts W0 B H.out H2.out hn hn2).mono ?_
    rintro e w1 ⟨rfl, rfl⟩
    rw [Hv.out]
    go_wp2_with fail
    refine bodyPost_ret (v := .agg #[.slice none 0 0, .int .i64 0, .slice none 0 0, .slice none 0 0]) (by simp [results, Try.results30, go_sem, cr0, cr1, cr2, cr3]) rfl ⟨nilTr, rfl, ?_, ?_⟩
    · exact OwnT.nil_ _ (by have := Hs0.out; simp [World.setCell]; omega) _
    · exact (((Hb0.out.setCell (Nat.le_refl _) _).setCell (Nat.le_refl _) _).setCell (Nat.le_refl _) _).setCell (Nat.le_refl _) _
  have hri := hv
  unfold turnsOk at hri
  rw [Bool.and_eq_true, Bool.and_eq_true, Bool.and_eq_true] at hri
  obtain ⟨⟨⟨hro, hin⟩, hlen⟩, hall⟩ := hri
  obtain ⟨hi0, hi1⟩ := inR_iff.1 hin
  obtain ⟨n, rfl⟩ : ∃ n : Nat, i = n := ⟨i.toNat, by omega⟩
  have hn1 : 1 ≤ n := by omega
  have hn4 : n ≤ 4 := by omega
  obtain ⟨t0, ht0⟩ : ∃ t0, t0 = newT l n := ⟨_, rfl⟩
  have Hok0 : Hid (TeeOk t0) := Lib.hid (by rw [ht0]; exact newT_ok hro hn1 hn4)
  have Hpl0 : Hid (t0.pl.length = n) := Lib.hid (by rw [ht0]; simp [newT])
  have Hv := Lib.hid hv
  have Hall := Lib.hid hall
  have e2 : q = runT t0 ts := by rw [← hq.out]; unfold tkT; rw [if_pos hv, ht0, Int.toNat_natCast]
  subst e2
  have Ht0 := Lib.hid ht0
  have hgi : (ts.length : Int) ≤ 60 := by have := of_decide_eq_true hlen; omega
  clear hv hq hro hin hlen hall hi0 hi1 ht0
  go_enter Try.func30, Try.ntmps30
  go_wp2_with fail
  rw [← HW0.out]
  refine (validTurns_any A c l n A2 c2 ts W0 B H.out H2.out hn hn2).mono ?_
  rintro e w1 ⟨rfl, rfl⟩
  rw [Hv.out]
  go_wp2_with fail
  have hs0 := Hs0.out
  refine (newTee_any A c l n hn1 hn4 W0 B H.out (by omega) hn).mono ?_
  rintro e w1 ⟨r1, rfl, ho1, hb1⟩
  rw [← Ht0.out] at ho1
  rw [← Ht0.out]
  have hz1 := hb1.size
  have Hb1 := Lib.hid (Hb0.out.trans (hb1.mono (by omega)))
  have Br1 := Lib.hid (Br.out.below hb1 (by omega))
  have Ho1 := Lib.hid ho1
  clear ho1 hb1 hs0
  go_wp2_with fail
  generalize hV : World.alloc w1 _ = V
  have hbV : Below w1.heap.size w1 V := by rw [← hV]; exact (Below.refl _ _).alloc (Nat.le_refl _) _
  have hzV : V.heap.size = w1.heap.size + 1 := by rw [← hV]; simp
  have hbx : Bk V w1.heap.size 27 [.slice r1.a1 t0.it.length r1.c1, .int .i64 t0.fd, .slice r1.a2 t0.pl.length r1.c2, .slice r1.a3 t0.op.length r1.c3] := by rw [← hV]; exact Bk.new _ _ [.slice r1.a1 t0.it.length r1.c1, .int .i64 t0.fd, .slice r1.a2 t0.pl.length r1.c2, .slice r1.a3 t0.op.length r1.c3]
  have HbV := Lib.hid (Hb1.out.trans (hbV.mono (by have := Hs0.out; omega)))
  have BrV := Lib.hid (Br1.out.below hbV (by have := Hs0.out; omega))
  have BxV := Lib.hid hbx
  have HoV := Lib.hid (Ho1.out.agree fun b _ h2 => hbV.block b h2)
  clear hV hbV hbx
  go_loopw [8] (fun iv wr => ∃ k : Nat, k ≤ ts.length ∧ iv = .int .i64 k ∧ Hid (OwnT wr W0.heap.size w1.heap.size r1 (runT t0 (ts.take k))) ∧ Hid (Bk wr w1.heap.size 27 [.slice r1.a1 (runT t0 (ts.take k)).it.length r1.c1, .int .i64 (runT t0 (ts.take k)).fd, .slice r1.a2 (runT t0 (ts.take k)).pl.length r1.c2, .slice r1.a3 (runT t0 (ts.take k)).op.length r1.c3]) ∧ Hid (Bk wr w.heap.size 27 [.slice none 0 0, .int .i64 0, .slice none 0 0, .slice none 0 0]) ∧ Hid (Below w.heap.size w wr) ∧ w1.heap.size < wr.heap.size) (fun iv _ => (ts.length - intOf iv).toNat)
  case atStart => exact ⟨0, Nat.zero_le _, rfl, HoV, BxV, BrV, HbV, by omega⟩
  case round =>
    obtain ⟨k, hk, rfl, Hok, Hbx, Hbr, Hbw, hzw⟩ := hrel
    have hs0 := Hs0.out
    by_cases hlt : k < ts.length
    · obtain ⟨ad2, cc, hA2, hcc, hccell⟩ := (Hts.out.below Hbw.out hB).at_ (k := k) hlt
      have hcr : 0 ≤ cc ∧ cc ≤ (n : Int) - 1 := by
        have h9 := Hall.out
        rw [allB, List.all_eq_true] at h9
        exact inR_iff.1 (h9 cc (List.mem_of_getElem? hcc))
      obtain ⟨ci, rfl⟩ : ∃ ci : Nat, cc = ci := ⟨cc.toNat, by omega⟩
      have Htk9 : Hid (ts.take (k + 1) = ts.take k ++ [(ci : Int)]) := Lib.hid (take_succ_of hcc)
      obtain ⟨tk, htk⟩ : ∃ tk, tk = runT t0 (ts.take k) := ⟨_, rfl⟩
      have Htok : Hid (TeeOk tk) := Lib.hid (by rw [htk]; exact runT_ok _ Hok0.out)
      have Hplk : Hid (ci < tk.pl.length) := Lib.hid (by rw [htk, runT_pl, Hpl0.out]; omega)
      rw [← htk] at Hok Hbx
      have HA2 := Lib.hid hA2
      have Htk := Lib.hid htk
      have HS : Hid (∀ W' : World, Chg W0.heap.size w1.heap.size wr W' → (W'.cell? ⟨w1.heap.size, 0, none⟩ = some (.slice r1.a1 tk.it.length r1.c1) ∧ W'.cell? ⟨w1.heap.size, 1, none⟩ = some (.int .i64 tk.fd) ∧ W'.cell? ⟨w1.heap.size, 2, none⟩ = some (.slice r1.a2 tk.pl.length r1.c2) ∧ W'.cell? ⟨w1.heap.size, 3, none⟩ = some (.slice r1.a3 tk.op.length r1.c3) ∧ W'.cell? (ad2.add k) = some (.int .i64 (ci : Int)))) := Lib.hid (fun W' hc => by
        obtain ⟨x0, x1, x2, x3⟩ := Bk.cellsT ((hc.block w1.heap.size hzw (.inr (Nat.le_refl _))).trans Hbx.out)
        obtain ⟨ad3, c3, hA3, hc3, hcell3⟩ := (Hts.out.below (hc.below_ Hbw.out (by omega) (by omega)) hB).at_ (k := k) hlt
        obtain rfl : ad3 = ad2 := Option.some.inj (hA3.symm.trans HA2.out)
        obtain rfl : c3 = (ci : Int) := Option.some.inj (hc3.symm.trans hcc)
        exact ⟨x0, x1, x2, x3, hcell3⟩)
      have HF : Hid (∀ W' : World, Chg W0.heap.size w1.heap.size wr W' → (W'.frozen? ⟨w1.heap.size, 0, none⟩ = false ∧ W'.frozen? ⟨w1.heap.size, 1, none⟩ = false ∧ W'.frozen? ⟨w1.heap.size, 2, none⟩ = false ∧ W'.frozen? ⟨w1.heap.size, 3, none⟩ = false)) := Lib.hid (fun W' hc => Bk.freeT ((hc.block w1.heap.size hzw (.inr (Nat.le_refl _))).trans Hbx.out))
      obtain ⟨k0, k1, k2, k3, k4⟩ := HS.out wr.drew ((Chg.refl _ _ _).drew_)
      rw [hA2]
      clear hA2 hcc htk hcr hccell
      go_wp2_with fail
      go_region_law (first
          | (
          go_simp
          go_at_call 61
          refine (specreadTee_any r1 tk ci wr.drew W0.heap.size w1.heap.size (Hok.out.agree fun _ _ _ => rfl) (by first | omega | (simp; omega)) Htok.out Hplk.out).mono ?_
          rintro e w5 ⟨rfl, ho5, hc50⟩
          have hc5 : Chg W0.heap.size w1.heap.size wr w5 := Chg.of_drew hc50
          have ks := HS.out _ hc5
          obtain ⟨ff0, ff1, ff2, ff3⟩ := HF.out _ hc5
          have hz5 := hc5.size
          have Hc5 := Lib.hid hc5
          have Ho5 := Lib.hid ho5
          clear hc50 hc5 ho5))
      all_goals
        go_wp2_with fail
        go_roundw
        case rel =>
          refine ⟨k + 1, by omega, by go_num, ?_, ?_, ?_, ?_, ?_⟩
          · rw [Htk9.out, runT_snoc, ← Htk.out, Int.toNat_natCast]
            have fn : w1.heap.size < W0.heap.size ∨ w1.heap.size ≤ w1.heap.size := .inr (Nat.le_refl _)
            exact Lib.hid ((((Ho5.out.far fn _).far fn _).far fn _).far fn _)
          · rw [Htk9.out, runT_snoc, ← Htk.out, Int.toNat_natCast]
            have hb5 : Bk w5 w1.heap.size 27 [.slice r1.a1 tk.it.length r1.c1, .int .i64 tk.fd, .slice r1.a2 tk.pl.length r1.c2, .slice r1.a3 tk.op.length r1.c3] := (Hc5.out.block w1.heap.size hzw (.inr (Nat.le_refl _))).trans Hbx.out
            have := (((hb5.set_ 0 (.slice r1.a1 (readT tk ci).it.length r1.c1)).set_ 1 (.int .i64 (readT tk ci).fd)).set_ 2 (.slice r1.a2 (readT tk ci).pl.length r1.c2)).set_ 3 (.slice r1.a3 (readT tk ci).op.length r1.c3)
            exact Lib.hid (by simpa using this)
          · have hb5 : Bk w5 w.heap.size 27 [.slice none 0 0, .int .i64 0, .slice none 0 0, .slice none 0 0] := (Hc5.out.block w.heap.size (by omega) (.inl (by omega))).trans Hbr.out
            have ne : w.heap.size ≠ w1.heap.size := by omega
            exact Lib.hid ((((hb5.far (p := ⟨w1.heap.size, 0, none⟩) ne _).far (p := ⟨w1.heap.size, 1, none⟩) ne _).far (p := ⟨w1.heap.size, 2, none⟩) ne _).far (p := ⟨w1.heap.size, 3, none⟩) ne _)
          · have hle : w.heap.size ≤ w1.heap.size := by omega
            exact Lib.hid (((((Hc5.out.below_ Hbw.out (by omega) (by omega)).setCell (p := ⟨w1.heap.size, 0, none⟩) hle _).setCell (p := ⟨w1.heap.size, 1, none⟩) hle _).setCell (p := ⟨w1.heap.size, 2, none⟩) hle _).setCell (p := ⟨w1.heap.size, 3, none⟩) hle _)
          · simp [World.setCell]; omega
        case measure => simp [intOf]; omega
    · obtain rfl : k = ts.length := by omega
      have htake : ts.take ts.length = ts := List.take_length
      rw [htake] at Hok Hbx
      obtain ⟨cx0, cx1, cx2, cx3⟩ := Bk.cellsT Hbx.out
      obtain ⟨cr0, cr1, cr2, cr3⟩ := Bk.cellsT Hbr.out
      obtain ⟨fr0, fr1, fr2, fr3⟩ := Bk.freeT Hbr.out
      have hs0 := Hs0.out
      clear htake
      go_wp2_with fail
      have fn : w.heap.size < W0.heap.size ∨ w1.heap.size ≤ w.heap.size := by omega
      refine bodyPost_ret (v := .agg #[.slice r1.a1 (runT t0 ts).it.length r1.c1, .int .i64 (runT t0 ts).fd, .slice r1.a2 (runT t0 ts).pl.length r1.c2, .slice r1.a3 (runT t0 ts).op.length r1.c3]) (by simp [results, Try.results30, go_sem, cr0, cr1, cr2, cr3]) rfl ⟨r1, rfl, ?_, ?_⟩
      · have hsz : ((((wr.setCell ⟨w.heap.size, 0, none⟩ (.slice r1.a1 (runT t0 ts).it.length r1.c1)).setCell ⟨w.heap.size, 1, none⟩ (.int .i64 (runT t0 ts).fd)).setCell ⟨w.heap.size, 2, none⟩ (.slice r1.a2 (runT t0 ts).pl.length r1.c2)).setCell ⟨w.heap.size, 3, none⟩ (.slice r1.a3 (runT t0 ts).op.length r1.c3)).heap.size = wr.heap.size := by simp [World.setCell]
        rw [hsz]
        exact ((((Hok.out.far fn _).far fn _).far fn _).far fn _).wide (by omega) (by omega)
      · exact (((Hbw.out.setCell (Nat.le_refl _) _).setCell (Nat.le_refl _) _).setCell (Nat.le_refl _) _).setCell (Nat.le_refl _) _

end Go.Proofs.Ytjkieedomljelaa
