/- RunTee by the reference. -/
import Derived.Test.YtjkieedomljelaaTkC
import Derived.Test.YtjkieedomljelaaFair
import Derived.Deep.RegionLaw
namespace Go.Proofs.Ytjkieedomljelaa
open Go.RowKit Go.Conc Go.Deep

theorem Bk.below_chg {w w' : World} {lo hi : Nat} {T : TypeId} {cs : List Value} (h : Bk w hi T cs) (hc : Chg lo hi w w') (hz : hi < w.heap.size) : Bk w' hi T cs := (hc.block hi hz (.inr (Nat.le_refl _))).trans h

set_option maxRecDepth 100000 in
set_option maxHeartbeats 12800000 in
theorem specRunTee_any (A : Option Addr) (c : Nat) (l : List Int) (i : Int) (A2 : Option Addr) (c2 : Nat) (ts : List Int) (w : World) (B : Nat) (h : RdI w B A l) (h2 : RdI w B A2 ts) (hB : B ≤ w.heap.size) (hn : l.length ≤ 1048576) (hn2 : ts.length ≤ 1048576) (q : List Int) (hq : Hid (tkR l i ts = q)) :
    Calls Try.prog 24 #[.slice A l.length c, .int .i64 i, .slice A2 ts.length c2] w fun e w' => ∃ (R : Option Addr) (cR : Nat), e = .returned (.slice R q.length cR) ∧ OwnI w' w.heap.size w'.heap.size R q ∧ Below w.heap.size w w' := by
  cases hv : turnsOk l i ts
  · have e2 : q = [] := by rw [← hq.out]; unfold tkR; rw [if_neg (by rw [hv]; decide)]
    subst e2
    have Hv := Lib.hid hv
    clear hv hq
    go_enter Try.func24, Try.ntmps24
    go_wp2_with fail
    refine (validTurns_any A c l i A2 c2 ts w B h h2 hn hn2).mono ?_
    rintro e w1 ⟨rfl, rfl⟩
    rw [Hv.out]
    go_wp2_with fail
    go_ret
    exact ⟨none, 0, rfl, fun h => absurd h (by simp), Below.refl _ _⟩
  have hri := hv
  unfold turnsOk at hri
  rw [Bool.and_eq_true, Bool.and_eq_true, Bool.and_eq_true] at hri
  obtain ⟨⟨⟨hro, hin⟩, hlen⟩, hall⟩ := hri
  obtain ⟨hi0, hi1⟩ := inR_iff.1 hin
  obtain ⟨n, rfl⟩ : ∃ n : Nat, i = n := ⟨i.toNat, by omega⟩
  have hn1 : 1 ≤ n := by omega
  have hn4 : n ≤ 4 := by omega
  obtain ⟨t0, ht0⟩ : ∃ t0, t0 = newT l n := ⟨_, rfl⟩
  have Hok0 : Hid (TeeOk t0) := Lib.hid (by rw [ht0]; exact newT_ok hro hn1 hn4)
  have Hpl0 : Hid (t0.pl.length = n) := Lib.hid (by rw [ht0]; simp [newT])
  have Hv := Lib.hid hv
  have Hall := Lib.hid hall
  have e2 : q = readsT t0 ts := by rw [← hq.out]; unfold tkR; rw [if_pos hv, ht0, Int.toNat_natCast]
  subst e2
  have Ht0 := Lib.hid ht0
  have hgi : (ts.length : Int) ≤ 60 := by have := of_decide_eq_true hlen; omega
  have H := Lib.hid h
  have Hts := Lib.hid h2
  clear hv hq hro hin hlen hall hi0 hi1 ht0 h h2
  go_enter Try.func24, Try.ntmps24
  go_wp2_with fail
  refine (validTurns_any A c l n A2 c2 ts w B H.out Hts.out hn hn2).mono ?_
  rintro e w1 ⟨rfl, rfl⟩
  rw [Hv.out]
  go_wp2_with fail
  refine (newTee_any A c l n hn1 hn4 w B H.out hB hn).mono ?_
  rintro e w1 ⟨r1, rfl, ho1, hb1⟩
  rw [← Ht0.out] at ho1
  rw [← Ht0.out]
  have hz1 := hb1.size
  have Hb1 := Lib.hid hb1
  have Ho1 := Lib.hid ho1
  clear ho1 hb1
  go_wp2_with fail
  generalize hV : World.alloc w1 _ = V
  have hbV : Below w1.heap.size w1 V := by rw [← hV]; exact (Below.refl _ _).alloc (Nat.le_refl _) _
  have hzV : V.heap.size = w1.heap.size + 1 := by rw [← hV]; simp
  have hbx : Bk V w1.heap.size 27 [.slice r1.a1 t0.it.length r1.c1, .int .i64 t0.fd, .slice r1.a2 t0.pl.length r1.c2, .slice r1.a3 t0.op.length r1.c3] := by rw [← hV]; exact Bk.new _ _ [.slice r1.a1 t0.it.length r1.c1, .int .i64 t0.fd, .slice r1.a2 t0.pl.length r1.c2, .slice r1.a3 t0.op.length r1.c3]
  have HbV := Lib.hid (Hb1.out.trans (hbV.mono hz1))
  have BxV := Lib.hid hbx
  have HoV := Lib.hid (Ho1.out.agree fun b _ h2 => hbV.block b h2)
  clear hV hbV hbx
  have HbE := Lib.hid (HbV.out.alloc (by have := HbV.out.size; exact this) (.cells #[] 3))
  have HoE := Lib.hid (HoV.out.agree (w' := V.alloc (.cells #[] 3)) fun b _ h2 => Below.heap_alloc V _ b (by omega))
  have HxE := Lib.hid (BxV.out.alloc (.cells #[] 3))
  have HE : Hid (OwnJ (V.alloc (.cells #[] 3)) (w1.heap.size + 1) (some ⟨w1.heap.size + 1, 0, none⟩) 0 []) := Lib.hid (by have h := emptyJ V; rw [hzV] at h; exact h)
  have hzE : V.heap.size < (V.alloc (.cells #[] 3)).heap.size := by simp
  go_loopw [8, 9] (fun sl iv wr => ∃ k : Nat, k ≤ ts.length ∧ iv = .int .i64 k ∧ ∃ (R : Option Addr) (cR : Nat), sl = .slice R k cR ∧ Hid (OwnJ wr (w1.heap.size + 1) R cR (readsT t0 (ts.take k))) ∧ Hid (OwnT wr w.heap.size w1.heap.size r1 (runT t0 (ts.take k))) ∧ Hid (Bk wr w1.heap.size 27 [.slice r1.a1 (runT t0 (ts.take k)).it.length r1.c1, .int .i64 (runT t0 (ts.take k)).fd, .slice r1.a2 (runT t0 (ts.take k)).pl.length r1.c2, .slice r1.a3 (runT t0 (ts.take k)).op.length r1.c3]) ∧ Hid (Below w.heap.size w wr) ∧ w1.heap.size < wr.heap.size) (fun _ iv _ => (ts.length - intOf iv).toNat)
  case atStart => exact ⟨0, Nat.zero_le _, rfl, _, _, rfl, HE, HoE, HxE, HbE, by omega⟩
  case round =>
    obtain ⟨k, hk, rfl, R, cR, rfl, Hout, Hok, Hbx, Hbw, hzw⟩ := hrel
    by_cases hlt : k < ts.length
    · obtain ⟨ad2, cc, hA2, hcc, hccell⟩ := (Hts.out.below Hbw.out hB).at_ (k := k) hlt
      have hcr : 0 ≤ cc ∧ cc ≤ (n : Int) - 1 := by
        have h9 := Hall.out
        rw [allB, List.all_eq_true] at h9
        exact inR_iff.1 (h9 cc (List.mem_of_getElem? hcc))
      obtain ⟨ci, rfl⟩ : ∃ ci : Nat, cc = ci := ⟨cc.toNat, by omega⟩
      have Htk9 : Hid (ts.take (k + 1) = ts.take k ++ [(ci : Int)]) := Lib.hid (take_succ_of hcc)
      obtain ⟨tk, htk⟩ : ∃ tk, tk = runT t0 (ts.take k) := ⟨_, rfl⟩
      have Htok : Hid (TeeOk tk) := Lib.hid (by rw [htk]; exact runT_ok _ Hok0.out)
      have Hplk : Hid (ci < tk.pl.length) := Lib.hid (by rw [htk, runT_pl, Hpl0.out]; omega)
      rw [← htk] at Hok Hbx
      have HA2 := Lib.hid hA2
      have Htk := Lib.hid htk
      have HS : Hid (∀ W' : World, Chg w.heap.size w1.heap.size wr W' → (W'.cell? ⟨w1.heap.size, 0, none⟩ = some (.slice r1.a1 tk.it.length r1.c1) ∧ W'.cell? ⟨w1.heap.size, 1, none⟩ = some (.int .i64 tk.fd) ∧ W'.cell? ⟨w1.heap.size, 2, none⟩ = some (.slice r1.a2 tk.pl.length r1.c2) ∧ W'.cell? ⟨w1.heap.size, 3, none⟩ = some (.slice r1.a3 tk.op.length r1.c3) ∧ W'.cell? (ad2.add k) = some (.int .i64 (ci : Int)))) := Lib.hid (fun W' hc => by
        obtain ⟨x0, x1, x2, x3⟩ := Bk.cellsT ((hc.block w1.heap.size hzw (.inr (Nat.le_refl _))).trans Hbx.out)
        obtain ⟨ad3, c3, hA3, hc3, hcell3⟩ := (Hts.out.below (hc.below_ Hbw.out (by omega) (by omega)) hB).at_ (k := k) hlt
        obtain rfl : ad3 = ad2 := Option.some.inj (hA3.symm.trans HA2.out)
        obtain rfl : c3 = (ci : Int) := Option.some.inj (hc3.symm.trans hcc)
        exact ⟨x0, x1, x2, x3, hcell3⟩)
      have HF : Hid (∀ W' : World, Chg w.heap.size w1.heap.size wr W' → (W'.frozen? ⟨w1.heap.size, 0, none⟩ = false ∧ W'.frozen? ⟨w1.heap.size, 1, none⟩ = false ∧ W'.frozen? ⟨w1.heap.size, 2, none⟩ = false ∧ W'.frozen? ⟨w1.heap.size, 3, none⟩ = false)) := Lib.hid (fun W' hc => Bk.freeT ((hc.block w1.heap.size hzw (.inr (Nat.le_refl _))).trans Hbx.out))
      obtain ⟨k0, k1, k2, k3, k4⟩ := HS.out wr.drew ((Chg.refl _ _ _).drew_)
      rw [hA2]
      clear hA2 hcc htk hcr hccell
      generalize hRg : Code.region 10 _ false = Rg
      go_wp2_with fail
      obtain ⟨Wa, hWa⟩ : ∃ Wa : World, Wa = (wr.alloc (.cells #[.slice none 0 0, .int .i64 0, .slice none 0 0, .slice none 0 0] 27)).drew := ⟨_, rfl⟩
      have hcA : Chg w.heap.size w1.heap.size wr Wa := by rw [hWa]; exact ((Chg.refl _ _ _).allocNew _).drew_
      have HcA := Lib.hid hcA
      have HoA : Hid (OwnT Wa w.heap.size w1.heap.size r1 tk) := Lib.hid (Hok.out.agree fun b h1 h2 => by rw [hWa]; exact Below.heap_alloc wr _ b (by omega))
      have hbA : Bk Wa wr.heap.size 27 [.slice none 0 0, .int .i64 0, .slice none 0 0, .slice none 0 0] := by rw [hWa]; exact Bk.drewX (Bk.new wr _ [.slice none 0 0, .int .i64 0, .slice none 0 0, .slice none 0 0])
      have HbA := Lib.hid hbA
      have hzA : Wa.heap.size = wr.heap.size + 1 := by rw [hWa]; show (World.alloc _ _).heap.size = _; rw [World.size_alloc]
      have HWa := Lib.hid hWa
      obtain ⟨j0, j1, j2, j3, j4⟩ := HS.out (wr.alloc (.cells #[.slice none 0 0, .int .i64 0, .slice none 0 0, .slice none 0 0] 27)) ((Chg.refl _ _ _).allocNew _)
      clear hWa hcA hbA
      have hne1 : wr.heap.size ≠ w1.heap.size := by omega
      have hne2 : w1.heap.size ≠ wr.heap.size := by omega
      go_region_law (first
          | (
          go_simp
          go_at_call 61
          refine (specreadTee_any r1 tk ci wr.drew w.heap.size w1.heap.size (Hok.out.agree fun _ _ _ => rfl) (by first | omega | (simp; omega)) Htok.out Hplk.out).mono ?_
          rintro e w5 ⟨rfl, ho5, hc50⟩
          have hc5 : Chg w.heap.size w1.heap.size wr w5 := Chg.of_drew hc50
          obtain ⟨ff0, ff1, ff2, ff3⟩ := HF.out _ hc5
          obtain ⟨kk0, kk1, kk2, kk3, kk4⟩ := HS.out _ hc5
          have hz5 := hc5.size
          have Hc5 := Lib.hid hc5
          have Ho5 := Lib.hid ho5
          clear hc50 hc5 ho5)
          | (
          go_simp
          go_at_call 61
          rw [← HWa.out]
          refine (specreadTee_any r1 tk ci Wa w.heap.size w1.heap.size HoA.out (by omega) Htok.out Hplk.out).mono ?_
          rintro e w5 ⟨rfl, ho5, hc50⟩
          have hc5 : Chg w.heap.size w1.heap.size wr w5 := HcA.out.trans hc50
          have hbz : Bk w5 wr.heap.size 27 [.slice none 0 0, .int .i64 0, .slice none 0 0, .slice none 0 0] := (hc50.block wr.heap.size (by omega) (.inr (by omega))).trans HbA.out
          obtain ⟨cz0, cz1, cz2, cz3⟩ := hbz.cellsT
          obtain ⟨fz0, fz1, fz2, fz3⟩ := hbz.freeT
          obtain ⟨ff0, ff1, ff2, ff3⟩ := HF.out _ hc5
          obtain ⟨kk0, kk1, kk2, kk3, kk4⟩ := HS.out _ hc5
          have hz5 := hc5.size
          have Hbz := Lib.hid hbz
          have Hc5 := Lib.hid hc5
          have Ho5 := Lib.hid ho5
          clear hc50 hc5 ho5 hbz))
      all_goals
        have fn : wr.heap.size < w.heap.size ∨ w1.heap.size ≤ wr.heap.size := .inr (by omega)
        have fn5 : w5.heap.size < w.heap.size ∨ w1.heap.size ≤ w5.heap.size := .inr (by omega)
        first
        | (have hbz := Hbz.out
           generalize hU : World.setCell (World.setCell (World.setCell (World.setCell w5 _ _) _ _) _ _) _ _ = U
           have hbT : Bk U wr.heap.size 27 [.slice r1.a1 (readT tk ci).it.length r1.c1, .int .i64 (readT tk ci).fd, .slice r1.a2 (readT tk ci).pl.length r1.c2, .slice r1.a3 (readT tk ci).op.length r1.c3] := by
             have := (((hbz.set_ 0 (.slice r1.a1 (readT tk ci).it.length r1.c1)).set_ 1 (.int .i64 (readT tk ci).fd)).set_ 2 (.slice r1.a2 (readT tk ci).pl.length r1.c2)).set_ 3 (.slice r1.a3 (readT tk ci).op.length r1.c3)
             rw [← hU]
             simpa using this
           have hcU : Chg w.heap.size w1.heap.size wr U := by
             rw [← hU]
             exact (((Hc5.out.setNew (Nat.le_refl _) _ _).setNew (Nat.le_refl _) _ _).setNew (Nat.le_refl _) _ _).setNew (Nat.le_refl _) _ _
           have hoU : OwnT U w.heap.size w1.heap.size r1 (readT tk ci) := by
             rw [← hU]
             exact (((Ho5.out.far fn _).far fn _).far fn _).far fn _
           obtain ⟨v0, v1, v2, v3⟩ := hbT.cellsT
           have hneT : w1.heap.size ≠ wr.heap.size := by omega
           have hneT2 : wr.heap.size ≠ w1.heap.size := by omega
           clear hbz hU hbT)
        | (obtain ⟨U, hU⟩ : ∃ U : World, U = w5.alloc (.cells #[.slice r1.a1 (readT tk ci).it.length r1.c1, .int .i64 (readT tk ci).fd, .slice r1.a2 (readT tk ci).pl.length r1.c2, .slice r1.a3 (readT tk ci).op.length r1.c3] 27) := ⟨_, rfl⟩
           rw [← hU]
           have hbT : Bk U w5.heap.size 27 [.slice r1.a1 (readT tk ci).it.length r1.c1, .int .i64 (readT tk ci).fd, .slice r1.a2 (readT tk ci).pl.length r1.c2, .slice r1.a3 (readT tk ci).op.length r1.c3] := by rw [hU]; exact Bk.new w5 _ [.slice r1.a1 (readT tk ci).it.length r1.c1, .int .i64 (readT tk ci).fd, .slice r1.a2 (readT tk ci).pl.length r1.c2, .slice r1.a3 (readT tk ci).op.length r1.c3]
           have hcU : Chg w.heap.size w1.heap.size wr U := by
             rw [hU]
             exact Hc5.out.allocNew _
           have hoU : OwnT U w.heap.size w1.heap.size r1 (readT tk ci) := by
             rw [hU]
             exact Ho5.out.agree fun b _ h2 => Below.heap_alloc w5 _ b (by omega)
           obtain ⟨v0, v1, v2, v3⟩ := hbT.cellsT
           have hneT : w1.heap.size ≠ w5.heap.size := by omega
           have hneT2 : w5.heap.size ≠ w1.heap.size := by omega
           clear hU hbT)
        | (generalize hU : World.setCell (World.setCell (World.setCell (World.setCell (World.alloc w5 _) _ _) _ _) _ _) _ _ = U
           have hbz : Bk (w5.alloc (.cells #[.slice none 0 0, .int .i64 0, .slice none 0 0, .slice none 0 0] 27)) w5.heap.size 27 [.slice none 0 0, .int .i64 0, .slice none 0 0, .slice none 0 0] := Bk.new w5 _ [.slice none 0 0, .int .i64 0, .slice none 0 0, .slice none 0 0]
           have hbT : Bk U w5.heap.size 27 [.slice r1.a1 (readT tk ci).it.length r1.c1, .int .i64 (readT tk ci).fd, .slice r1.a2 (readT tk ci).pl.length r1.c2, .slice r1.a3 (readT tk ci).op.length r1.c3] := by
             have := (((hbz.set_ 0 (.slice r1.a1 (readT tk ci).it.length r1.c1)).set_ 1 (.int .i64 (readT tk ci).fd)).set_ 2 (.slice r1.a2 (readT tk ci).pl.length r1.c2)).set_ 3 (.slice r1.a3 (readT tk ci).op.length r1.c3)
             rw [← hU]
             simpa using this
           have hcU : Chg w.heap.size w1.heap.size wr U := by
             rw [← hU]
             exact ((((Hc5.out.allocNew _).setNew hz5 _ _).setNew hz5 _ _).setNew hz5 _ _).setNew hz5 _ _
           have hoU : OwnT U w.heap.size w1.heap.size r1 (readT tk ci) := by
             rw [← hU]
             exact ((((Ho5.out.agree fun b _ h2 => Below.heap_alloc w5 _ b (by omega)).far fn5 _).far fn5 _).far fn5 _).far fn5 _
           obtain ⟨v0, v1, v2, v3⟩ := hbT.cellsT
           have hneT : w1.heap.size ≠ w5.heap.size := by omega
           have hneT2 : w5.heap.size ≠ w1.heap.size := by omega
           clear hbz hU hbT)
        obtain ⟨e0, e1, e2, e3, -⟩ := HS.out _ hcU
        obtain ⟨g0, g1, g2, g3⟩ := HF.out _ hcU
        have hbU := Bk.below_chg Hbx.out hcU hzw
        have HcU := Lib.hid hcU
        have HoU := Lib.hid hoU
        have HbU := Lib.hid hbU
        clear hcU hoU hbU
        go_wp2_with fail
        generalize hU2 : World.setCell (World.setCell (World.setCell (World.setCell U _ _) _ _) _ _) _ _ = U2
        have hbT : Bk U2 w1.heap.size 27 [.slice r1.a1 (readT tk ci).it.length r1.c1, .int .i64 (readT tk ci).fd, .slice r1.a2 (readT tk ci).pl.length r1.c2, .slice r1.a3 (readT tk ci).op.length r1.c3] := by
          have := (((HbU.out.set_ 0 (.slice r1.a1 (readT tk ci).it.length r1.c1)).set_ 1 (.int .i64 (readT tk ci).fd)).set_ 2 (.slice r1.a2 (readT tk ci).pl.length r1.c2)).set_ 3 (.slice r1.a3 (readT tk ci).op.length r1.c3)
          rw [← hU2]
          simpa using this
        have hcU2 : Chg w.heap.size (w1.heap.size + 1) wr U2 := by
          have h1 : w.heap.size ≤ w1.heap.size := hz1
          have h2 : w1.heap.size < w1.heap.size + 1 := by omega
          rw [← hU2]
          exact ((((HcU.out.wide (Nat.le_refl _) (by omega)).set h1 h2 _ _).set h1 h2 _ _).set h1 h2 _ _).set h1 h2 _ _
        have hoU2 : OwnT U2 w.heap.size w1.heap.size r1 (readT tk ci) := by
          have fn1 : w1.heap.size < w.heap.size ∨ w1.heap.size ≤ w1.heap.size := .inr (Nat.le_refl _)
          rw [← hU2]
          exact (((HoU.out.far fn1 _).far fn1 _).far fn1 _).far fn1 _
        have HoutU := Lib.hid (Hout.out.chg2 hcU2 (Nat.le_refl _))
        have HbwU := Lib.hid (hcU2.below_ Hbw.out (Nat.le_refl _) (by omega))
        have HoT := Lib.hid hoU2
        have HbT := Lib.hid hbT
        have hzU2 : w1.heap.size < U2.heap.size := by have := hcU2.size; omega
        have Hlk : Hid ((readsT t0 (ts.take k)).length = k) := Lib.hid (by rw [readsT_len, List.length_take]; omega)
        have hR9 : ∀ g, rowOf R = some g → w1.heap.size + 1 ≤ g := fun g hg => (HoutU.out.row_lt g hg).1
        have HR9 := Lib.hid hR9
        obtain ⟨X, hX⟩ : ∃ X, X = readR tk ci := ⟨_, rfl⟩
        rw [← hX, ← hRg]
        have HX := Lib.hid hX
        clear hU2 hcU2 hoU2 hbT hR9 hRg hX e0 e1 e2 e3 g0 g1 g2 g3 v0 v1 v2 v3 kk0 kk1 kk2 kk3 kk4 ff0 ff1 ff2 ff3 j0 j1 j2 j3 j4
        go_wp2_with (at_builtin; go_must (refine wpList_append_int rfl _ _ rfl (w1.heap.size + 1) R cR (readsT t0 (ts.take k)) (X) k Hlk.out rfl HoutU.out _ rfl rfl (by omega) (by omega) ?_; intro R2 c3 w6 ho6 hg6); have hg7 : ∀ b : Nat, b < w1.heap.size + 1 → w6.heap[b]? = U2.heap[b]? := (fun b hb => (hg6.block b (by rw [World.size_alloc]; omega) (fun e => by have := HR9.out b e.symm; omega)).trans (Below.heap_alloc _ _ b (by omega))); have hz6 : U2.heap.size < w6.heap.size := (by have := hg6.size; rw [World.size_alloc] at this; omega); have Ho6 := Lib.hid ho6; have Hg7 := Lib.hid hg7; have Hbw6 := Lib.hid (Below.own2 (Below.alloc HbwU.out (by omega) _) hg6 (fun g hg => by have := HR9.out g hg; omega) (by rw [World.size_alloc]; omega)); clear ho6 hg6 hg7)
        go_roundw
        case rel =>
          refine ⟨k + 1, by omega, by go_num, R2, c3, rfl, ?_, ?_, ?_, Hbw6, by omega⟩
          · exact Lib.hid (by rw [Htk9.out, readsT_snoc, ← Htk.out, Int.toNat_natCast, ← HX.out]; exact Ho6.out)
          · rw [Htk9.out, runT_snoc, ← Htk.out, Int.toNat_natCast]
            exact Lib.hid (HoT.out.agree fun b _ h2 => Hg7.out b (by omega))
          · rw [Htk9.out, runT_snoc, ← Htk.out, Int.toNat_natCast]
            exact Lib.hid ((Hg7.out w1.heap.size (by omega)).trans HbT.out)
        case measure => simp [intOf]; omega
    · obtain rfl : k = ts.length := by omega
      have htake : ts.take ts.length = ts := List.take_length
      rw [htake] at Hout
      clear htake
      go_wp2_with fail
      go_ret
      first | exact ⟨R, cR, ret_slice (readsT_len _ _).symm, Hout.out.ownI.wide (by omega) (Nat.le_refl _), Hbw.out⟩ | exact ⟨R, ⟨cR, ret_slice (readsT_len _ _).symm⟩, Hout.out.ownI.wide (by omega) (Nat.le_refl _), Hbw.out⟩

end Go.Proofs.Ytjkieedomljelaa
