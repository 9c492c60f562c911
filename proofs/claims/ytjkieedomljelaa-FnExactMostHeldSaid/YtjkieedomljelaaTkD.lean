/- MostHeld by the reference. -/
import Derived.Test.YtjkieedomljelaaTkC
import Derived.Test.YtjkieedomljelaaTeeH
import Derived.Deep.RegionLaw
import Derived.Deep.RegionHeld3
namespace Go.Proofs.Ytjkieedomljelaa
open Go.RowKit Go.Conc Go.Deep

theorem heldT_lenEq {t : Te} (h : TeeOk t) : ((heldT t).length : Int) = t.fd - lowT t ∧ 0 ≤ lowT t ∧ lowT t ≤ t.fd ∧ t.fd ≤ 12 := by
  have hmr := lowF_range h t.pl.length (Nat.le_refl _)
  have h0 := h.fed0
  have h1 := h.fed1
  have h2 := h.len
  rw [show lowF t t.pl.length = lowT t from rfl] at hmr
  unfold heldT
  rw [List.length_take, List.length_drop]
  omega

set_option maxRecDepth 100000 in
set_option maxHeartbeats 12800000 in
theorem specMostHeld_any (A : Option Addr) (c : Nat) (l : List Int) (i : Int) (A2 : Option Addr) (c2 : Nat) (ts : List Int) (w : World) (B : Nat) (h : RdI w B A l) (h2 : RdI w B A2 ts) (hB : B ≤ w.heap.size) (hn : l.length ≤ 1048576) (hn2 : ts.length ≤ 1048576) (q : Int) (hq : Hid (tkM l i ts = q)) :
    Calls Try.prog 32 #[.slice A l.length c, .int .i64 i, .slice A2 ts.length c2] w fun e w' => e = .returned (.int .i64 q) ∧ Below w.heap.size w w' := by
  cases hv : turnsOk l i ts
  · have e2 : q = -1 := by rw [← hq.out]; unfold tkM; rw [if_neg (by rw [hv]; decide)]
    subst e2
    have Hv := Lib.hid hv
    clear hv hq
    go_enter Try.func32, Try.ntmps32
    go_wp2_with fail
    refine (validTurns_any A c l i A2 c2 ts w B h h2 hn hn2).mono ?_
    rintro e w1 ⟨rfl, rfl⟩
    rw [Hv.out]
    go_wp2_with fail
    go_ret
    exact ⟨rfl, Below.refl _ _⟩
  have hri := hv
  unfold turnsOk at hri
  rw [Bool.and_eq_true, Bool.and_eq_true, Bool.and_eq_true] at hri
  obtain ⟨⟨⟨hro, hin⟩, hlen⟩, hall⟩ := hri
  obtain ⟨hi0, hi1⟩ := inR_iff.1 hin
  obtain ⟨n, rfl⟩ : ∃ n : Nat, i = n := ⟨i.toNat, by omega⟩
  have hn1 : 1 ≤ n := by omega
  have hn4 : n ≤ 4 := by omega
  obtain ⟨t0, ht0⟩ : ∃ t0, t0 = newT l n := ⟨_, rfl⟩
  have Hok0 : Hid (TeeOk t0) := Lib.hid (by rw [ht0]; exact newT_ok hro hn1 hn4)
  have Hpl0 : Hid (t0.pl.length = n) := Lib.hid (by rw [ht0]; simp [newT])
  have Hv := Lib.hid hv
  have Hall := Lib.hid hall
  have e2 : q = mostT t0 ts := by rw [← hq.out]; unfold tkM; rw [if_pos hv, ht0, Int.toNat_natCast]
  subst e2
  have Ht0 := Lib.hid ht0
  have hgi : (ts.length : Int) ≤ 60 := by have := of_decide_eq_true hlen; omega
  have H := Lib.hid h
  have Hts := Lib.hid h2
  clear hv hq hro hin hlen hall hi0 hi1 ht0 h h2
  go_enter Try.func32, Try.ntmps32
  go_wp2_with fail
  refine (validTurns_any A c l n A2 c2 ts w B H.out Hts.out hn hn2).mono ?_
  rintro e w1 ⟨rfl, rfl⟩
  rw [Hv.out]
  go_wp2_with fail
  refine (newTee_any A c l n hn1 hn4 w B H.out hB hn).mono ?_
  rintro e w1 ⟨r1, rfl, ho1, hb1⟩
  rw [← Ht0.out] at ho1
  rw [← Ht0.out]
  have hz1 := hb1.size
  have Hb1 := Lib.hid hb1
  have Ho1 := Lib.hid ho1
  clear ho1 hb1
  go_wp2_with fail
  generalize hV : World.alloc w1 _ = V
  have hbV : Below w1.heap.size w1 V := by rw [← hV]; exact (Below.refl _ _).alloc (Nat.le_refl _) _
  have hzV : V.heap.size = w1.heap.size + 1 := by rw [← hV]; simp
  have hbx : Bk V w1.heap.size 27 [.slice r1.a1 t0.it.length r1.c1, .int .i64 t0.fd, .slice r1.a2 t0.pl.length r1.c2, .slice r1.a3 t0.op.length r1.c3] := by rw [← hV]; exact Bk.new _ _ [.slice r1.a1 t0.it.length r1.c1, .int .i64 t0.fd, .slice r1.a2 t0.pl.length r1.c2, .slice r1.a3 t0.op.length r1.c3]
  have HbV := Lib.hid (Hb1.out.trans (hbV.mono hz1))
  have BxV := Lib.hid hbx
  have HoV := Lib.hid (Ho1.out.agree fun b _ h2 => hbV.block b h2)
  clear hV hbV hbx
  go_loopw [8, 9] (fun bv iv wr => ∃ k : Nat, k ≤ ts.length ∧ iv = .int .i64 k ∧ ∃ m : Int, bv = .int .i64 m ∧ Hid (m = mostT t0 (ts.take k)) ∧ Hid (OwnT wr w.heap.size w1.heap.size r1 (runT t0 (ts.take k))) ∧ Hid (Bk wr w1.heap.size 27 [.slice r1.a1 (runT t0 (ts.take k)).it.length r1.c1, .int .i64 (runT t0 (ts.take k)).fd, .slice r1.a2 (runT t0 (ts.take k)).pl.length r1.c2, .slice r1.a3 (runT t0 (ts.take k)).op.length r1.c3]) ∧ Hid (Below w.heap.size w wr) ∧ w1.heap.size < wr.heap.size) (fun _ iv _ => (ts.length - intOf iv).toNat)
  case atStart => exact ⟨0, Nat.zero_le _, rfl, 0, rfl, Lib.hid rfl, HoV, BxV, HbV, by omega⟩
  case round =>
    obtain ⟨k, hk, rfl, m, rfl, Hm, Hok, Hbx, Hbw, hzw⟩ := hrel
    by_cases hlt : k < ts.length
    · obtain ⟨ad2, cc, hA2, hcc, hccell⟩ := (Hts.out.below Hbw.out hB).at_ (k := k) hlt
      have hcr : 0 ≤ cc ∧ cc ≤ (n : Int) - 1 := by
        have h9 := Hall.out
        rw [allB, List.all_eq_true] at h9
        exact inR_iff.1 (h9 cc (List.mem_of_getElem? hcc))
      obtain ⟨ci, rfl⟩ : ∃ ci : Nat, cc = ci := ⟨cc.toNat, by omega⟩
      have Htk9 : Hid (ts.take (k + 1) = ts.take k ++ [(ci : Int)]) := Lib.hid (take_succ_of hcc)
      obtain ⟨tk, htk⟩ : ∃ tk, tk = runT t0 (ts.take k) := ⟨_, rfl⟩
      have Htok : Hid (TeeOk tk) := Lib.hid (by rw [htk]; exact runT_ok _ Hok0.out)
      have Hplk : Hid (ci < tk.pl.length) := Lib.hid (by rw [htk, runT_pl, Hpl0.out]; omega)
      rw [← htk] at Hok Hbx
      have HA2 := Lib.hid hA2
      have Htk := Lib.hid htk
      have HS : Hid (∀ W' : World, Chg w.heap.size w1.heap.size wr W' → (W'.cell? ⟨w1.heap.size, 0, none⟩ = some (.slice r1.a1 tk.it.length r1.c1) ∧ W'.cell? ⟨w1.heap.size, 1, none⟩ = some (.int .i64 tk.fd) ∧ W'.cell? ⟨w1.heap.size, 2, none⟩ = some (.slice r1.a2 tk.pl.length r1.c2) ∧ W'.cell? ⟨w1.heap.size, 3, none⟩ = some (.slice r1.a3 tk.op.length r1.c3) ∧ W'.cell? (ad2.add k) = some (.int .i64 (ci : Int)))) := Lib.hid (fun W' hc => by
        obtain ⟨x0, x1, x2, x3⟩ := Bk.cellsT ((hc.block w1.heap.size hzw (.inr (Nat.le_refl _))).trans Hbx.out)
        obtain ⟨ad3, c3, hA3, hc3, hcell3⟩ := (Hts.out.below (hc.below_ Hbw.out (by omega) (by omega)) hB).at_ (k := k) hlt
        obtain rfl : ad3 = ad2 := Option.some.inj (hA3.symm.trans HA2.out)
        obtain rfl : c3 = (ci : Int) := Option.some.inj (hc3.symm.trans hcc)
        exact ⟨x0, x1, x2, x3, hcell3⟩)
      have HF : Hid (∀ W' : World, Chg w.heap.size w1.heap.size wr W' → (W'.frozen? ⟨w1.heap.size, 0, none⟩ = false ∧ W'.frozen? ⟨w1.heap.size, 1, none⟩ = false ∧ W'.frozen? ⟨w1.heap.size, 2, none⟩ = false ∧ W'.frozen? ⟨w1.heap.size, 3, none⟩ = false)) := Lib.hid (fun W' hc => Bk.freeT ((hc.block w1.heap.size hzw (.inr (Nat.le_refl _))).trans Hbx.out))
      obtain ⟨k0, k1, k2, k3, k4⟩ := HS.out wr.drew ((Chg.refl _ _ _).drew_)
      rw [hA2]
      clear hA2 hcc htk hcr hccell
      go_wp2_with fail
      go_region_law (first
          | (
          go_simp
          go_at_call 61
          refine (specreadTee_any r1 tk ci wr.drew w.heap.size w1.heap.size (Hok.out.agree fun _ _ _ => rfl) (by first | omega | (simp; omega)) Htok.out Hplk.out).mono ?_
          rintro e w5 ⟨rfl, ho5, hc50⟩
          have hc5 : Chg w.heap.size w1.heap.size wr w5 := Chg.of_drew hc50
          obtain ⟨ff0, ff1, ff2, ff3⟩ := HF.out _ hc5
          obtain ⟨kk0, kk1, kk2, kk3, kk4⟩ := HS.out _ hc5
          have hz5 := hc5.size
          have Hc5 := Lib.hid hc5
          have Ho5 := Lib.hid ho5
          clear hc50 hc5 ho5))
      all_goals
        go_wp2_with fail
        generalize hU : World.setCell (World.setCell (World.setCell (World.setCell w5 _ _) _ _) _ _) _ _ = U
        obtain ⟨X, hX⟩ : ∃ X, X = readT tk ci := ⟨_, rfl⟩
        obtain ⟨hh1, hh2, hh3, hh4⟩ := heldT_lenEq (readT_ok Htok.out ci)
        rw [← hX] at hh1 hh2 hh3 hh4 hU
        rw [← hX]
        obtain ⟨f, hf⟩ : ∃ f : Nat, X.fd = f := ⟨X.fd.toNat, by omega⟩
        obtain ⟨lw, hlw⟩ : ∃ lw : Nat, lowT X = lw := ⟨(lowT X).toNat, by omega⟩
        have fn : w1.heap.size < w.heap.size ∨ w1.heap.size ≤ w1.heap.size := .inr (Nat.le_refl _)
        have hoU : OwnT U w.heap.size w1.heap.size r1 X := by
          rw [← hU, hX]
          exact ((((Ho5.out.far fn _).far fn _).far fn _).far fn _)
        have hbkU : Bk U w1.heap.size 27 [.slice r1.a1 X.it.length r1.c1, .int .i64 X.fd, .slice r1.a2 X.pl.length r1.c2, .slice r1.a3 X.op.length r1.c3] := by
          have hb5 : Bk w5 w1.heap.size 27 [.slice r1.a1 tk.it.length r1.c1, .int .i64 tk.fd, .slice r1.a2 tk.pl.length r1.c2, .slice r1.a3 tk.op.length r1.c3] := (Hc5.out.block w1.heap.size hzw (.inr (Nat.le_refl _))).trans Hbx.out
          have := (((hb5.set_ 0 (.slice r1.a1 X.it.length r1.c1)).set_ 1 (.int .i64 X.fd)).set_ 2 (.slice r1.a2 X.pl.length r1.c2)).set_ 3 (.slice r1.a3 X.op.length r1.c3)
          rw [← hU]
          simpa using this
        have hbU : Below w.heap.size w U := by
          rw [← hU]
          have hle : w.heap.size ≤ w1.heap.size := hz1
          exact (((((Hc5.out.below_ Hbw.out (Nat.le_refl _) (by omega)).setCell (p := ⟨w1.heap.size, 0, none⟩) hle _).setCell (p := ⟨w1.heap.size, 1, none⟩) hle _).setCell (p := ⟨w1.heap.size, 2, none⟩) hle _).setCell (p := ⟨w1.heap.size, 3, none⟩) hle _)
        have HXok : Hid (TeeOk X) := Lib.hid (by rw [hX]; exact readT_ok Htok.out ci)
        have hsU := hbkU.lt
        rw [hf] at hh1 hh3 hh4
        rw [hlw] at hh1 hh2 hh3
        have HL : Hid (∀ W, Below U.heap.size U W → Calls Try.prog 73 #[.agg #[.slice r1.a1 X.it.length r1.c1, .int .i64 (f : Int), .slice r1.a2 X.pl.length r1.c2, .slice r1.a3 X.op.length r1.c3]] W fun e w' => e = .returned (.int .i64 (lw : Int)) ∧ Below W.heap.size W w') := Lib.hid (fun W hb => by
          have := speclowest_any r1 X W w1.heap.size (hoU.rd.below hb (by omega)) (by have := hb.size; omega) HXok.out
          rwa [hf, hlw] at this)
        have HSX : Hid (∀ W', Below U.heap.size U W' → W'.cell? ⟨w1.heap.size, 0, none⟩ = some (.slice r1.a1 X.it.length r1.c1) ∧ W'.cell? ⟨w1.heap.size, 1, none⟩ = some (.int .i64 (f : Int)) ∧ W'.cell? ⟨w1.heap.size, 2, none⟩ = some (.slice r1.a2 X.pl.length r1.c2) ∧ W'.cell? ⟨w1.heap.size, 3, none⟩ = some (.slice r1.a3 X.op.length r1.c3)) := Lib.hid (fun W' hb => by
          have := (hbkU.below hb hbkU.lt).cellsT
          rwa [hf] at this)
        obtain ⟨u0, u1, u2, u3⟩ := HSX.out U (Below.refl _ _)
        have HoU := Lib.hid hoU
        have HbkU := Lib.hid hbkU
        have HbU := Lib.hid hbU
        have HX := Lib.hid hX
        have Hh1 := Lib.hid hh1
        clear hU hoU hbkU hbU hX hlw hf hh1 kk0 kk1 kk2 kk3 kk4 k0 k1 k2 k3 k4 ff0 ff1 ff2 ff3
        go_region_held3 (fun w' => w'.cell? ⟨w1.heap.size, 0, none⟩ = some (.slice r1.a1 X.it.length r1.c1) ∧ w'.cell? ⟨w1.heap.size, 1, none⟩ = some (.int .i64 (f : Int)) ∧ w'.cell? ⟨w1.heap.size, 2, none⟩ = some (.slice r1.a2 X.pl.length r1.c2) ∧ w'.cell? ⟨w1.heap.size, 3, none⟩ = some (.slice r1.a3 X.op.length r1.c3))
          (first | exact ⟨u0, u1, u2, u3⟩ | exact ks | go_keep)
          (first
          | (
          go_at_call 73
          refine (HL.out _ ((Below.refl _ _).drew)).mono ?_
          rintro e w6 ⟨rfl, hb60⟩
          have hb6 : Below U.heap.size U w6 := ((Below.refl U.heap.size U).drew).trans (hb60.mono (by simp))
          have ks := HSX.out _ hb6
          have hz6 := hb6.size
          have Hb6 := Lib.hid hb6
          clear hb60 hb6))
        all_goals
          have hw : IntKind.i64.wrap ((f : Int) - lw) = (f : Int) - lw := IntWalk.i64_in _ (by omega)
          rw [hw]
          go_wp2_with fail
          go_roundw
          case rel =>
            refine ⟨k + 1, by omega, by go_num, _, rfl, ?_, ?_, ?_, ?_, ?_⟩
            · exact Lib.hid (by rw [Htk9.out, mostT_snoc, ← Htk.out, ← Hm.out, Int.toNat_natCast, ← HX.out, Hh1.out])
            · rw [Htk9.out, runT_snoc, ← Htk.out, Int.toNat_natCast, ← HX.out]
              exact Lib.hid (HoU.out.agree fun b _ h2 => Hb6.out.block b (by omega))
            · rw [Htk9.out, runT_snoc, ← Htk.out, Int.toNat_natCast, ← HX.out]
              exact Lib.hid (Bk.below HbkU.out Hb6.out (by omega))
            · exact Lib.hid (HbU.out.trans (Hb6.out.mono (by omega)))
            · omega
          case measure => simp [intOf]; omega
    · obtain rfl : k = ts.length := by omega
      have htake : ts.take ts.length = ts := List.take_length
      rw [htake] at Hm
      go_wp2_with fail
      go_ret
      first | exact ⟨rfl, Hbw.out⟩ | exact ⟨by rw [Hm.out]; rfl, Hbw.out⟩

end Go.Proofs.Ytjkieedomljelaa
