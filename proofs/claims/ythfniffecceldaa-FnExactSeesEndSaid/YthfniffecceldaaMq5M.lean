/- Texts on the program and its reference, put together (PiD, LiB, LiI, SortJ, LiJ, LiK, LiC, LiD, LiE, LiF, LiG, LiH, LiL, BatA, PiE). -/
import Derived.Test.YthfniffecceldaaMq5L
import Derived.Deep.RegionHeldLaw
import Derived.Test.YthfniffecceldaaMq5K
import Derived.Test.YthfniffecceldaaMq5F
import Derived.Test.YthfniffecceldaaShelf
import Derived.Lib.RowBridge
import Derived.Sort.Grow
import Derived.Lib.AppendZerosOnto
import Derived.Deep.QuietTactic
import Derived.BigQuiet
import Derived.Deep.RegionHeld3
import Derived.Test.YthfniffecceldaaMq5G
import Derived.Shelf.RegionOpen
import Derived.Shelf.Abstract
import Derived.TacticsInMore
import Derived.LoopNIn
import Derived.LoopIn
import Derived.OwnWalkIn
/- Contracts: pulls by the program: sources. -/
namespace Go.Proofs.Ythfniffecceldaa
open Go.RowKit

theorem step_append_pl {ops : Array Oper} {o : Oper} {a : Act} {K : Act → World → Prop} {Q : Exit → Act → World → Prop} {E : Prop} {w : World} (hgd : o.guard = none) (s y : Operand)
    (ho : o.op = .call { callee := .builtin .append, args := #[s, y], argTypes := #[62, 62] }) (base : Nat) (R : Option Addr) (cR : Nat) (lg : List Pl) (p : Pl) (n : Nat) (hnl : lg.length = n) (hs : a.eval s = .slice R n cR) (hown : OwnG w base R cR lg)
    (g : Nat) (hx : a.eval y = .slice (some ⟨g, 0, none⟩) 1 1) (hg : g = w.heap.size) (hn : n ≤ 1048576) (hb : base ≤ w.heap.size)
    (h : ∀ (R' : Option Addr) (c' : Nat) (w' : World), OwnG w' base R' c' (lg ++ [p]) → (w.alloc (.cells #[.int .i64 p.s, .int .i64 p.i] 90)).grownBy w' (rowOf R) → K (a.put o.dst (.slice R' (n + 1) c')) w') :
    if Region.wanted o (yielded ops a.tmps) = true then Oper.wp Try.prog o a (w.alloc (.cells #[.int .i64 p.s, .int .i64 p.i] 90)) K Q else E := by
  have hw : Region.wanted o (yielded ops a.tmps) = true := by simp [Region.wanted, hgd]
  rw [if_pos hw]
  subst hg
  subst hnl
  obtain ⟨R', c', w', hr, h2, h3⟩ := run_append_pl hown hb hn p o.type
  unfold Oper.wp execOp
  simp only [ho, resolve, invoke, builtin, Sem.run_bind, Sem.run_pure, Result.andThen_ok, List.map_toArray, List.map_cons, List.map_nil, hs, hx, hr]
  exact h R' c' w' h2 h3

theorem RS.sayfr {n0 pb cb : Nat} {T : TypeId} {hd tl : List Value} {s : PS} {w : World} (_ : RS n0 pb cb T hd tl s w) {R : Option Addr} {cR : Nat} (ho : OwnG w n0 R cR s.lg) {o : Obj} {w1 : World} (hg : (w.alloc o).grownBy w1 (rowOf R)) : Fr n0 pb cb w w1 :=
  (Fr.alloc (Fr.refl _ _ _ w) o).grown hg (fun g hg => ⟨(ho.row g hg).1, by
    obtain ⟨ds, fr, hp⟩ := (ho.row g hg).2.2
    exact ⟨ds, fr, (Below.heap_alloc _ _ _ (ho.row g hg).2.1).trans hp⟩⟩)

set_option maxRecDepth 100000 in
set_option maxHeartbeats 6400000 in
theorem i_source {n0 rb cb N cc : Nat} {l : List Nd} {src : List (List Int)} {i : Nat} {w1 : World} {Ar : Option Addr} {cr k : Nat} {row : List Int} {x : Nd} {bc : Nat} {bs : Nat} {br : Nat} {bn : Nat} (kxc : Bx rb cb w1 bc 122 (.pointer (some ⟨cb, i * 6, none⟩))) (kxs : Bx rb cb w1 bs 23 (.slice Ar row.length cr)) (kxr : Bx rb cb w1 br 75 (.pointer (some ⟨rb, 0, none⟩))) (kxn : Bx rb cb w1 bn 3 (.int .i64 (k : Int))) (hx : l[i]? = some x) (hk0 : x.k = 0) (hk : x.n = (k : Int)) (hrow : src[k]? = some row) (hrl : row.length ≤ 12) (hrd : RdI w1 n0 Ar row) (hz1 : n0 ≤ w1.heap.size) :
    Pulls n0 rb cb N cc l src (srcP src i x) 100 #[.pointer (some ⟨bc, 0, none⟩), .pointer (some ⟨bs, 0, none⟩), .pointer (some ⟨br, 0, none⟩), .pointer (some ⟨bn, 0, none⟩)] w1 := by
  intro fe s W hfr hiw ok hlg
  have cec := (kxc.fr hfr (by decide)).cell
  have ces := (kxs.fr hfr (by decide)).cell
  have cer := (kxr.fr hfr (by decide)).cell
  have cen := (kxn.fr hfr (by decide)).cell
  have hb1 := hfr.below (RS.lop hiw) (RS.loc hiw) hz1
  have hrd2 := hrd.below hb1 (Nat.le_refl _)
  have Hfr := Lib.hid hfr
  have Hiw := Lib.hid hiw
  have Hok := Lib.hid ok
  have Kxc := Lib.hid kxc
  have Kxs := Lib.hid kxs
  have Kxr := Lib.hid kxr
  have Kxn := Lib.hid kxn
  have Hhrd := Lib.hid hrd2
  clear hb1 hrd hrd2
  clear hfr hiw ok   kxc kxs kxr kxn
  have hil : i < s.cs.length := by rw [Hok.out.len]; exact (List.getElem?_eq_some_iff.1 hx).1
  have hat := (StOk.at_ Hok.out hx).1
  have hrowd : src.getD x.n.toNat [] = row := by rw [hk, List.getD_eq_getElem?_getD, Int.toNat_natCast, hrow]; rfl
  have hmo : mostOf x src = (row.length : Int) := by simp only [mostOf, if_pos hk0]; rw [hrowd]
  rw [hmo] at hat
  obtain ⟨q, hq⟩ : ∃ q : Nat, (s.at_ i).n = (q : Int) := ⟨(s.at_ i).n.toNat, by omega⟩
  obtain ⟨d0, d1, d2, d3, d4, d5⟩ := Hiw.out.cl (i := i) hil
  rw [hq] at d0 hat
  obtain ⟨R, cR, hbk, ho⟩ := RS.box Hiw.out
  have hr1 : W.cell? ⟨rb, 1, none⟩ = some (.slice R s.lg.length cR) := hbk.cell 1
  obtain ⟨n, hln⟩ : ∃ n, s.lg.length = n := ⟨_, rfl⟩
  have hrlt : rb < W.heap.size := RS.ltp Hiw.out
  have hne2 : cb ≠ rb := (RS.ne Hiw.out).symm
  have hlop := RS.lop Hiw.out
  have hloc := RS.loc Hiw.out
  have hclt : cb < W.heap.size := RS.ltc Hiw.out
  have hz : n0 ≤ W.heap.size := Nat.le_trans (RS.lop Hiw.out) (Nat.le_of_lt (RS.ltp Hiw.out))
  have Hsay : Hid (∀ (p : Pl) (R2 : Option Addr) (k2 : Nat) (w2 : World), OwnG w2 n0 R2 k2 (s.lg ++ [p]) → (W.drew.drew.alloc (.cells #[.int .i64 p.s, .int .i64 p.i] 90)).grownBy w2 (rowOf R) →
      IW n0 rb cb N cc fe (s.say p) (w2.setCell ⟨rb, 1, none⟩ (.slice R2 (n + 1) k2)) ∧ Fr n0 rb cb W (w2.setCell ⟨rb, 1, none⟩ (.slice R2 (n + 1) k2)) ∧ w2.cell? ⟨rb, 1, none⟩ = some (.slice R n cR) ∧ w2.frozen? ⟨rb, 1, none⟩ = false ∧ Fr n0 rb cb W w2) := Lib.hid fun p R2 k2 w2 h1 h2 => by
    have hD : IW n0 rb cb N cc fe s W.drew.drew := (RS.drew Hiw.out).drew
    have hoD : OwnG W.drew.drew n0 R cR s.lg := ho
    obtain ⟨q1, q2, q3, q4⟩ := RS.said hD (R := R) (cR := cR) hbk hoD h1 h2
    have q5 := RS.sayfr hD hoD h2
    rw [hln] at q1 q2 q3
    exact ⟨q1, ((Fr.refl _ _ _ W).drew.drew).trans q2, q3, q4, ((Fr.refl _ _ _ W).drew.drew).trans q5⟩
  have Ho : Hid (OwnG W.drew.drew n0 R cR s.lg) := Lib.hid ho
  have Hln := Lib.hid hln
  rw [hln] at hr1 hlg
  have Hq := Lib.hid hq
  have Hx := Lib.hid hx
  have Hk := Lib.hid hk
  have Hrowd := Lib.hid hrowd
  clear hbk ho hln hq hx hk hrow hrowd hmo hk0
  by_cases hend : q = row.length
  · have Hend := Lib.hid hend
    subst hend
    have hm : srcP src i x s = (s.say ⟨(k : Int), -1⟩, none) := by unfold srcP; rw [if_pos (by rw [Hq.out, Hrowd.out]), Hk.out]
    have Hm0 := Lib.hid hm
    clear hm
    go_enter Try.func100, Try.ntmps100
    go_wp2_with fail
    go_region
    go_wp2_with fail
    refine wp_region_held_drew (S := fun w' => w'.cell? ⟨br, 0, none⟩ = some (.pointer (some ⟨rb, 0, none⟩)) ∧ w'.cell? ⟨bn, 0, none⟩ = some (.int .i64 (k : Int))) (by kernel_rfl) (by first | exact ⟨cer, cen⟩ | go_keep) (fun hHeld => ?_)
    refine wpAnyH_take (i := 0) (v := ?_) rfl (by kernel_rfl) (by kernel_rfl) (by kernel_rfl) (fun _ _ _ h => h) (Or.inl ⟨by rfl, ?_⟩) (by assumption) ?_
    rotate_left 1
    · intro w hSw
      try dsimp only at hSw
      go_simp
      all_goals with_reducible rfl
    refine wpAnyH_take (i := 1) (v := ?_) rfl (by kernel_rfl) (by kernel_rfl) (by kernel_rfl) (fun _ _ _ h => h) (Or.inl ⟨by rfl, ?_⟩) (by assumption) ?_
    rotate_left 1
    · intro w hSw
      try dsimp only at hSw
      go_simp
      all_goals with_reducible rfl
    refine wpAnyH_take (i := 2) (v := ?_) rfl (by kernel_rfl) (by kernel_rfl) (by kernel_rfl) (fun _ _ _ h => h) (Or.inl ⟨by rfl, ?_⟩) (by assumption) ?_
    rotate_left 1
    · intro w hSw
      try dsimp only at hSw
      go_simp
      all_goals with_reducible rfl
    refine wpAnyH_take (i := 3) (v := ?_) rfl (by kernel_rfl) (by kernel_rfl) (by kernel_rfl) (fun _ _ _ h => h) (Or.inl ⟨by rfl, ?_⟩) (by assumption) ?_
    rotate_left 1
    · intro w hSw
      try dsimp only at hSw
      go_simp
      all_goals with_reducible rfl
    refine wpAnyH_take (i := 5) (v := ?_) rfl (by kernel_rfl) (by kernel_rfl) (by kernel_rfl) (fun _ _ _ h => h) (Or.inl ⟨by rfl, ?_⟩) (by assumption) ?_
    rotate_left 1
    · intro w hSw
      try dsimp only at hSw
      go_simp
      all_goals with_reducible rfl
    refine wpAnyH_take (i := 6) (v := ?_) rfl (by kernel_rfl) (by kernel_rfl) (by kernel_rfl) (fun _ _ _ h => h) (Or.inl ⟨by rfl, ?_⟩) (by assumption) ?_
    rotate_left 1
    · intro w hSw
      try dsimp only at hSw
      go_simp
      all_goals with_reducible rfl
    refine wpAnyH_ready (rs := [4, 7]) (by kernel_rfl) (by simp) ?_
    refine AllReadyH.cons rfl (fun K hK => ?_) ?_
    · go_simp
      refine hK.out _ _ ?_ (fun hHeld => ?_)
      · first | exact ⟨cer, cen⟩ | exact ks | exact ks2 | go_keep
      clear hK K
      refine wpAnyH_ready (rs := [7]) (by kernel_rfl) (by simp) ?_
      refine AllReadyH.cons rfl (fun K hK => ?_) ?_
      · go_simp
        refine hK.out _ _ ?_ (fun hHeld => ?_)
        · first | exact ⟨cer, cen⟩ | exact ks | exact ks2 | go_keep
        clear hK K
        refine wpAnyH_ready (rs := [8]) (by kernel_rfl) (by simp) ?_
        refine AllReadyH.cons rfl (fun K hK => ?_) ?_
        · refine step_append_pl rfl _ _ rfl n0 R cR s.lg ⟨(k : Int), -1⟩ n Hln.out rfl Ho.out _ rfl rfl (by omega) hz ?_
          intro R2 k2 w2 ho2 hg2
          obtain ⟨q1, q2, q3, q4, q5⟩ := Hsay.out _ _ _ _ ho2 hg2
          have ks := And.intro (Kxr.out.fr (Hfr.out.trans q5) (by decide)).cell (Kxn.out.fr (Hfr.out.trans q5) (by decide)).cell
          have ks2 := And.intro (Kxr.out.fr (Hfr.out.trans q2) (by decide)).cell (Kxn.out.fr (Hfr.out.trans q2) (by decide)).cell
          have HS := Lib.hid q1
          have HF := Lib.hid q2
          clear q1 q2 q5 ho2 hg2
          refine hK.out _ _ ?_ (fun hHeld => ?_)
          · first | exact ⟨cer, cen⟩ | exact ks | exact ks2 | go_keep
          clear hK K
          refine wpAnyH_take (i := 9) (v := ?_) rfl (by kernel_rfl) (by kernel_rfl) (by kernel_rfl) (fun _ _ _ h => h) (Or.inl ⟨by rfl, ?_⟩) (by assumption) ?_
          rotate_left 1
          · intro w hSw
            try dsimp only at hSw
            go_simp
            all_goals with_reducible rfl
          refine wpAnyH_take (i := 10) (v := ?_) rfl (by kernel_rfl) (by kernel_rfl) (by kernel_rfl) (fun _ _ _ h => h) (Or.inl ⟨by rfl, ?_⟩) (by assumption) ?_
          rotate_left 1
          · intro w hSw
            try dsimp only at hSw
            go_simp
            all_goals with_reducible rfl
          refine wpAnyH_ready (rs := [11]) (by kernel_rfl) (by simp) ?_
          refine AllReadyH.cons rfl (fun K hK => ?_) ?_
          · go_simp
            refine hK.out _ _ ?_ (fun hHeld => ?_)
            · first | exact ⟨cer, cen⟩ | exact ks | exact ks2 | go_keep
            clear hK K
            refine wpAnyH_done (by kernel_rfl) ?_ _
            go_wp2_with fail
            refine bodyPost_ret (v := .tuple #[.int .i64 0, .bool false]) (by simp [results, Try.results100, go_sem]) rfl ?_
            rw [Hm0.out]
            exact ⟨rfl, HS.out, HF.out⟩
          exact AllReadyH.nil
        exact AllReadyH.nil
      exact AllReadyH.nil
    refine AllReadyH.cons rfl (fun K hK => ?_) ?_
    · go_simp
      refine hK.out _ _ ?_ (fun hHeld => ?_)
      · first | exact ⟨cer, cen⟩ | exact ks | exact ks2 | go_keep
      clear hK K
      refine wpAnyH_ready (rs := [4]) (by kernel_rfl) (by simp) ?_
      refine AllReadyH.cons rfl (fun K hK => ?_) ?_
      · go_simp
        refine hK.out _ _ ?_ (fun hHeld => ?_)
        · first | exact ⟨cer, cen⟩ | exact ks | exact ks2 | go_keep
        clear hK K
        refine wpAnyH_ready (rs := [8]) (by kernel_rfl) (by simp) ?_
        refine AllReadyH.cons rfl (fun K hK => ?_) ?_
        · refine step_append_pl rfl _ _ rfl n0 R cR s.lg ⟨(k : Int), -1⟩ n Hln.out rfl Ho.out _ rfl rfl (by omega) hz ?_
          intro R2 k2 w2 ho2 hg2
          obtain ⟨q1, q2, q3, q4, q5⟩ := Hsay.out _ _ _ _ ho2 hg2
          have ks := And.intro (Kxr.out.fr (Hfr.out.trans q5) (by decide)).cell (Kxn.out.fr (Hfr.out.trans q5) (by decide)).cell
          have ks2 := And.intro (Kxr.out.fr (Hfr.out.trans q2) (by decide)).cell (Kxn.out.fr (Hfr.out.trans q2) (by decide)).cell
          have HS := Lib.hid q1
          have HF := Lib.hid q2
          clear q1 q2 q5 ho2 hg2
          refine hK.out _ _ ?_ (fun hHeld => ?_)
          · first | exact ⟨cer, cen⟩ | exact ks | exact ks2 | go_keep
          clear hK K
          refine wpAnyH_take (i := 9) (v := ?_) rfl (by kernel_rfl) (by kernel_rfl) (by kernel_rfl) (fun _ _ _ h => h) (Or.inl ⟨by rfl, ?_⟩) (by assumption) ?_
          rotate_left 1
          · intro w hSw
            try dsimp only at hSw
            go_simp
            all_goals with_reducible rfl
          refine wpAnyH_take (i := 10) (v := ?_) rfl (by kernel_rfl) (by kernel_rfl) (by kernel_rfl) (fun _ _ _ h => h) (Or.inl ⟨by rfl, ?_⟩) (by assumption) ?_
          rotate_left 1
          · intro w hSw
            try dsimp only at hSw
            go_simp
            all_goals with_reducible rfl
          refine wpAnyH_ready (rs := [11]) (by kernel_rfl) (by simp) ?_
          refine AllReadyH.cons rfl (fun K hK => ?_) ?_
          · go_simp
            refine hK.out _ _ ?_ (fun hHeld => ?_)
            · first | exact ⟨cer, cen⟩ | exact ks | exact ks2 | go_keep
            clear hK K
            refine wpAnyH_done (by kernel_rfl) ?_ _
            go_wp2_with fail
            refine bodyPost_ret (v := .tuple #[.int .i64 0, .bool false]) (by simp [results, Try.results100, go_sem]) rfl ?_
            rw [Hm0.out]
            exact ⟨rfl, HS.out, HF.out⟩
          exact AllReadyH.nil
        exact AllReadyH.nil
      exact AllReadyH.nil
    exact AllReadyH.nil
  · have hlt : q < row.length := by omega
    obtain ⟨ad2, v, rfl, hab2, hv, hvc⟩ := Hhrd.out.at2 hlt
    have hw1 : IntKind.i64.wrap ((q : Int) + 1) = (q : Int) + 1 := IntWalk.i64_in _ (by omega)
    have hw2 : IntKind.i64.wrap ((q : Int) + 1 - 1) = (q : Int) := by rw [show (q : Int) + 1 - 1 = q by omega]; exact IntWalk.i64_in _ (by omega)
    have hne : (q : Int) ≠ row.length := by omega
    have hqlt : (q : Int) < row.length := by omega
    have Hv := Lib.hid hv
    have hm : srcP src i x s = ((s.say ⟨(k : Int), (q : Int)⟩).put i { (s.say ⟨(k : Int), (q : Int)⟩).at_ i with n := (q : Int) + 1 }, some v) := by
      unfold srcP
      rw [if_neg (by rw [Hq.out, Hrowd.out]; exact hne), Hk.out, Hq.out]
      have hv2 : (src.getD ((k : Int)).toNat []).getD ((q : Int)).toNat 0 = v := by
        rw [← Hk.out, Hrowd.out, List.getD_eq_getElem?_getD, Int.toNat_natCast, Hv.out]; rfl
      rw [hv2]
      rfl
    have Hm := Lib.hid hm
    clear hv hend hm
    go_enter Try.func100, Try.ntmps100
    go_wp2_with fail
    go_region
    go_wp2_with fail
    refine wp_region_held_drew (S := fun w' => w'.cell? ⟨br, 0, none⟩ = some (.pointer (some ⟨rb, 0, none⟩)) ∧ w'.cell? ⟨bn, 0, none⟩ = some (.int .i64 (k : Int)) ∧ w'.cell? ⟨bc, 0, none⟩ = some (.pointer (some ⟨cb, i * 6, none⟩)) ∧ w'.cell? ⟨cb, i * 6, none⟩ = some (.int .i64 (q : Int))) (by kernel_rfl) (by first | exact ⟨cer, cen, cec, d0⟩ | go_keep) (fun hHeld => ?_)
    refine wpAnyH_take (i := 0) (v := ?_) rfl (by kernel_rfl) (by kernel_rfl) (by kernel_rfl) (fun _ _ _ h => h) (Or.inl ⟨by rfl, ?_⟩) (by assumption) ?_
    rotate_left 1
    · intro w hSw
      try dsimp only at hSw
      go_simp
      all_goals with_reducible rfl
    refine wpAnyH_take (i := 1) (v := ?_) rfl (by kernel_rfl) (by kernel_rfl) (by kernel_rfl) (fun _ _ _ h => h) (Or.inl ⟨by rfl, ?_⟩) (by assumption) ?_
    rotate_left 1
    · intro w hSw
      try dsimp only at hSw
      go_simp
      all_goals with_reducible rfl
    refine wpAnyH_take (i := 2) (v := ?_) rfl (by kernel_rfl) (by kernel_rfl) (by kernel_rfl) (fun _ _ _ h => h) (Or.inl ⟨by rfl, ?_⟩) (by assumption) ?_
    rotate_left 1
    · intro w hSw
      try dsimp only at hSw
      go_simp
      all_goals with_reducible rfl
    refine wpAnyH_take (i := 3) (v := ?_) rfl (by kernel_rfl) (by kernel_rfl) (by kernel_rfl) (fun _ _ _ h => h) (Or.inl ⟨by rfl, ?_⟩) (by assumption) ?_
    rotate_left 1
    · intro w hSw
      try dsimp only at hSw
      go_simp
      all_goals with_reducible rfl
    refine wpAnyH_take (i := 5) (v := ?_) rfl (by kernel_rfl) (by kernel_rfl) (by kernel_rfl) (fun _ _ _ h => h) (Or.inl ⟨by rfl, ?_⟩) (by assumption) ?_
    rotate_left 1
    · intro w hSw
      try dsimp only at hSw
      go_simp
      all_goals with_reducible rfl
    refine wpAnyH_take (i := 6) (v := ?_) rfl (by kernel_rfl) (by kernel_rfl) (by kernel_rfl) (fun _ _ _ h => h) (Or.inl ⟨by rfl, ?_⟩) (by assumption) ?_
    rotate_left 1
    · intro w hSw
      try dsimp only at hSw
      go_simp
      all_goals with_reducible rfl
    refine wpAnyH_take (i := 7) (v := ?_) rfl (by kernel_rfl) (by kernel_rfl) (by kernel_rfl) (fun _ _ _ h => h) (Or.inl ⟨by rfl, ?_⟩) (by assumption) ?_
    rotate_left 1
    · intro w hSw
      try dsimp only at hSw
      go_simp
      all_goals with_reducible rfl
    refine wpAnyH_take (i := 8) (v := ?_) rfl (by kernel_rfl) (by kernel_rfl) (by kernel_rfl) (fun _ _ _ h => h) (Or.inl ⟨by rfl, ?_⟩) (by assumption) ?_
    rotate_left 1
    · intro w hSw
      try dsimp only at hSw
      go_simp
      all_goals with_reducible rfl
    refine wpAnyH_take (i := 9) (v := ?_) rfl (by kernel_rfl) (by kernel_rfl) (by kernel_rfl) (fun _ _ _ h => h) (Or.inl ⟨by rfl, ?_⟩) (by assumption) ?_
    rotate_left 1
    · intro w hSw
      try dsimp only at hSw
      go_simp
      all_goals with_reducible rfl
    refine wpAnyH_take (i := 10) (v := ?_) rfl (by kernel_rfl) (by kernel_rfl) (by kernel_rfl) (fun _ _ _ h => h) (Or.inl ⟨by rfl, ?_⟩) (by assumption) ?_
    rotate_left 1
    · intro w hSw
      try dsimp only at hSw
      go_simp
      all_goals with_reducible rfl
    refine wpAnyH_ready (rs := [4, 11]) (by kernel_rfl) (by simp) ?_
    refine AllReadyH.cons rfl (fun K hK => ?_) ?_
    · go_simp
      refine hK.out _ _ ?_ (fun hHeld => ?_)
      · first | exact ⟨cer, cen, cec, d0⟩ | exact ks | exact ks2 | go_keep
      clear hK K
      refine wpAnyH_ready (rs := [11]) (by kernel_rfl) (by simp) ?_
      refine AllReadyH.cons rfl (fun K hK => ?_) ?_
      · go_simp
        refine hK.out _ _ ?_ (fun hHeld => ?_)
        · first | exact ⟨cer, cen, cec, d0⟩ | exact ks | exact ks2 | go_keep
        clear hK K
        refine wpAnyH_ready (rs := [12]) (by kernel_rfl) (by simp) ?_
        refine AllReadyH.cons rfl (fun K hK => ?_) ?_
        · refine step_append_pl rfl _ _ rfl n0 R cR s.lg ⟨(k : Int), (q : Int)⟩ n Hln.out rfl Ho.out _ rfl rfl (by omega) hz ?_
          intro R2 k2 w2 ho2 hg2
          obtain ⟨q1, q2, q3, q4, q5⟩ := Hsay.out _ _ _ _ ho2 hg2
          have hil' : i < (s.say ⟨(k : Int), (q : Int)⟩).cs.length := hil
          have e0 := (RS.cl q1 (i := i) hil').c0
          rw [show (s.say ⟨(k : Int), (q : Int)⟩).at_ i = s.at_ i from rfl, Hq.out] at e0
          have e1 : w2.cell? ⟨cb, i * 6, none⟩ = some (.int .i64 (q : Int)) := by rw [← e0]; exact (World.cell?_of_block (Below.heap_setCell w2 ⟨rb, 1, none⟩ _ cb hne2)).symm
          have ks := And.intro (Kxr.out.fr (Hfr.out.trans q5) (by decide)).cell (And.intro (Kxn.out.fr (Hfr.out.trans q5) (by decide)).cell (And.intro (Kxc.out.fr (Hfr.out.trans q5) (by decide)).cell e1))
          have ks2 := And.intro (Kxr.out.fr (Hfr.out.trans q2) (by decide)).cell (And.intro (Kxn.out.fr (Hfr.out.trans q2) (by decide)).cell (And.intro (Kxc.out.fr (Hfr.out.trans q2) (by decide)).cell e0))
          have g0 := RS.free q1 (i * 6)
          have p1 := RS.setN q1 (i := i) hil' ((q : Int) + 1)
          have p2 := q2.trans ((Fr.refl n0 rb cb _).setc (i * 6) (.int .i64 ((q : Int) + 1)))
          have z0 := (RS.cl p1 (i := i) (by simp only [PS.put, List.length_set]; exact hil)).c0
          rw [PS.at_put hil'] at z0
          simp only at z0
          have zc := (Kxc.out.fr (Hfr.out.trans p2) (by decide)).cell
          have zs := (Kxs.out.fr (Hfr.out.trans p2) (by decide)).cell
          have zv := ((p2.below hlop hloc hz).cell hab2).trans hvc
          have HS := Lib.hid p1.drew
          have HF := Lib.hid p2.drew
          have zc0 := (Kxc.out.fr (Hfr.out.trans q2) (by decide)).cell
          clear q1 q2 q5 ho2 hg2 p1 p2 e1
          refine hK.out _ _ ?_ (fun hHeld => ?_)
          · first | exact ⟨cer, cen, cec, d0⟩ | exact ks | exact ks2 | go_keep
          clear hK K
          refine wpAnyH_take (i := 13) (v := ?_) rfl (by kernel_rfl) (by kernel_rfl) (by kernel_rfl) (fun _ _ _ h => h) (Or.inl ⟨by rfl, ?_⟩) (by assumption) ?_
          rotate_left 1
          · intro w hSw
            try dsimp only at hSw
            go_simp
            all_goals with_reducible rfl
          refine wpAnyH_take (i := 14) (v := ?_) rfl (by kernel_rfl) (by kernel_rfl) (by kernel_rfl) (fun _ _ _ h => h) (Or.inl ⟨by rfl, ?_⟩) (by assumption) ?_
          rotate_left 1
          · intro w hSw
            try dsimp only at hSw
            go_simp
            all_goals with_reducible rfl
          refine wpAnyH_ready (rs := [15]) (by kernel_rfl) (by simp) ?_
          refine AllReadyH.cons rfl (fun K hK => ?_) ?_
          · go_simp
            refine hK.out _ _ ?_ (fun hHeld => ?_)
            · first | exact ⟨cer, cen, cec, d0⟩ | exact ks | exact ks2 | go_keep
            clear hK K
            refine wpAnyH_done (by kernel_rfl) ?_ _
            go_wp2_with fail
            go_region
            go_wp2_with fail
            refine bodyPost_ret (v := .tuple #[.int .i64 v, .bool true]) (by simp [results, Try.results100, go_sem]) rfl ?_
            rw [Hm.out]
            exact ⟨rfl, HS.out, HF.out⟩
          exact AllReadyH.nil
        exact AllReadyH.nil
      exact AllReadyH.nil
    refine AllReadyH.cons rfl (fun K hK => ?_) ?_
    · go_simp
      refine hK.out _ _ ?_ (fun hHeld => ?_)
      · first | exact ⟨cer, cen, cec, d0⟩ | exact ks | exact ks2 | go_keep
      clear hK K
      refine wpAnyH_ready (rs := [4]) (by kernel_rfl) (by simp) ?_
      refine AllReadyH.cons rfl (fun K hK => ?_) ?_
      · go_simp
        refine hK.out _ _ ?_ (fun hHeld => ?_)
        · first | exact ⟨cer, cen, cec, d0⟩ | exact ks | exact ks2 | go_keep
        clear hK K
        refine wpAnyH_ready (rs := [12]) (by kernel_rfl) (by simp) ?_
        refine AllReadyH.cons rfl (fun K hK => ?_) ?_
        · refine step_append_pl rfl _ _ rfl n0 R cR s.lg ⟨(k : Int), (q : Int)⟩ n Hln.out rfl Ho.out _ rfl rfl (by omega) hz ?_
          intro R2 k2 w2 ho2 hg2
          obtain ⟨q1, q2, q3, q4, q5⟩ := Hsay.out _ _ _ _ ho2 hg2
          have hil' : i < (s.say ⟨(k : Int), (q : Int)⟩).cs.length := hil
          have e0 := (RS.cl q1 (i := i) hil').c0
          rw [show (s.say ⟨(k : Int), (q : Int)⟩).at_ i = s.at_ i from rfl, Hq.out] at e0
          have e1 : w2.cell? ⟨cb, i * 6, none⟩ = some (.int .i64 (q : Int)) := by rw [← e0]; exact (World.cell?_of_block (Below.heap_setCell w2 ⟨rb, 1, none⟩ _ cb hne2)).symm
          have ks := And.intro (Kxr.out.fr (Hfr.out.trans q5) (by decide)).cell (And.intro (Kxn.out.fr (Hfr.out.trans q5) (by decide)).cell (And.intro (Kxc.out.fr (Hfr.out.trans q5) (by decide)).cell e1))
          have ks2 := And.intro (Kxr.out.fr (Hfr.out.trans q2) (by decide)).cell (And.intro (Kxn.out.fr (Hfr.out.trans q2) (by decide)).cell (And.intro (Kxc.out.fr (Hfr.out.trans q2) (by decide)).cell e0))
          have g0 := RS.free q1 (i * 6)
          have p1 := RS.setN q1 (i := i) hil' ((q : Int) + 1)
          have p2 := q2.trans ((Fr.refl n0 rb cb _).setc (i * 6) (.int .i64 ((q : Int) + 1)))
          have z0 := (RS.cl p1 (i := i) (by simp only [PS.put, List.length_set]; exact hil)).c0
          rw [PS.at_put hil'] at z0
          simp only at z0
          have zc := (Kxc.out.fr (Hfr.out.trans p2) (by decide)).cell
          have zs := (Kxs.out.fr (Hfr.out.trans p2) (by decide)).cell
          have zv := ((p2.below hlop hloc hz).cell hab2).trans hvc
          have HS := Lib.hid p1.drew
          have HF := Lib.hid p2.drew
          have zc0 := (Kxc.out.fr (Hfr.out.trans q2) (by decide)).cell
          clear q1 q2 q5 ho2 hg2 p1 p2 e1
          refine hK.out _ _ ?_ (fun hHeld => ?_)
          · first | exact ⟨cer, cen, cec, d0⟩ | exact ks | exact ks2 | go_keep
          clear hK K
          refine wpAnyH_take (i := 13) (v := ?_) rfl (by kernel_rfl) (by kernel_rfl) (by kernel_rfl) (fun _ _ _ h => h) (Or.inl ⟨by rfl, ?_⟩) (by assumption) ?_
          rotate_left 1
          · intro w hSw
            try dsimp only at hSw
            go_simp
            all_goals with_reducible rfl
          refine wpAnyH_take (i := 14) (v := ?_) rfl (by kernel_rfl) (by kernel_rfl) (by kernel_rfl) (fun _ _ _ h => h) (Or.inl ⟨by rfl, ?_⟩) (by assumption) ?_
          rotate_left 1
          · intro w hSw
            try dsimp only at hSw
            go_simp
            all_goals with_reducible rfl
          refine wpAnyH_ready (rs := [15]) (by kernel_rfl) (by simp) ?_
          refine AllReadyH.cons rfl (fun K hK => ?_) ?_
          · go_simp
            refine hK.out _ _ ?_ (fun hHeld => ?_)
            · first | exact ⟨cer, cen, cec, d0⟩ | exact ks | exact ks2 | go_keep
            clear hK K
            refine wpAnyH_done (by kernel_rfl) ?_ _
            go_wp2_with fail
            go_region
            go_wp2_with fail
            refine bodyPost_ret (v := .tuple #[.int .i64 v, .bool true]) (by simp [results, Try.results100, go_sem]) rfl ?_
            rw [Hm.out]
            exact ⟨rfl, HS.out, HF.out⟩
          exact AllReadyH.nil
        exact AllReadyH.nil
      exact AllReadyH.nil
    exact AllReadyH.nil

end Go.Proofs.Ythfniffecceldaa

/- Contracts: lists out of lists, by the program (item by item). -/
namespace Go.Proofs.Ythfniffecceldaa
open Go.RowKit

end Go.Proofs.Ythfniffecceldaa

/- Contracts: the list of a node with one below, by the program. -/
namespace Go.Proofs.Ythfniffecceldaa
open Go.RowKit

end Go.Proofs.Ythfniffecceldaa

/- Contracts: numbers of the call's own are sorted, and equal neighbours left out. -/
namespace Go.Proofs.Ythfniffecceldaa
open Go.RowKit Go.Sort

/-- The slice at A holds the numbers l from the beginning of a block of the call's own, with room for c. -/
def RowJ (w : World) (base : Nat) (A : Option Addr) (c : Nat) (l : List Int) : Prop :=
  ∃ g cs, A = some ⟨g, 0, none⟩ ∧ base ≤ g ∧ Bk w g 3 cs ∧ l.length ≤ c ∧ ∀ (k : Nat) (x : Int), l[k]? = some x → cs[k]? = some (.int .i64 x)
theorem OwnJ.rowJ {w : World} {base c : Nat} {A : Option Addr} {l : List Int} (h : OwnJ w base A c l) (hl : 0 < l.length) : RowJ w base A c l := by
  obtain ⟨g, cs, e, h1, h2, h3, h4⟩ := h.bk hl
  exact ⟨g, cs, e, h1, h2, h3, h4⟩
theorem RowJ.ownI {w : World} {base c : Nat} {A : Option Addr} {l : List Int} (h : RowJ w base A c l) : OwnI w base w.heap.size A l := fun _ => by
  obtain ⟨g, cs, e, hb, hbk, _, hc⟩ := h
  exact ⟨g, 0, cs, e, hb, hbk.lt, hbk, fun k x hx => by rw [Nat.zero_add]; exact hc k x hx⟩
theorem RowJ.row {w : World} {base c : Nat} {A : Option Addr} {l : List Int} (h : RowJ w base A c l) : ∀ g, rowOf A = some g → base ≤ g := fun g hg => by
  obtain ⟨g', cs, e, hb, _⟩ := h
  subst e
  have : g' = g := Option.some.inj hg
  omega
theorem RowJ.holds {w : World} {g : Nat} {cs : List Value} {l : List Int} (hb : Bk w g 3 cs) (hc : ∀ (k : Nat) (x : Int), l[k]? = some x → cs[k]? = some (.int .i64 x)) : Holds (Value.int .i64) w g 0 l.toArray := fun j hj => by
  have hj' : j < l.length := by simpa using hj
  rw [Nat.zero_add]
  refine ⟨?_, hb.free j⟩
  rw [hb.cell, hc j l[j] (List.getElem?_eq_getElem hj')]
  simp [hj']

/-- The row after numbers were written over its first ones. -/
theorem put_row {w : World} {g : Nat} {cs : List Value} (hb : Bk w g 3 cs) (d : List Int) (hd : d.length ≤ cs.length) (n : Nat) (os : Array Obj) :
    (∃ cs', Bk (grow (putRow (Value.int .i64) (Go.Sort.ahead w n) g 0 d.toArray) os) g 3 cs' ∧ ∀ (k : Nat) (x : Int), d[k]? = some x → cs'[k]? = some (.int .i64 x)) ∧ w.grownBy (grow (putRow (Value.int .i64) (Go.Sort.ahead w n) g 0 d.toArray) os) (some g) := by
  have hlt := hb.lt
  have hh : w.heap[g]? = some (.cells cs.toArray 3 (0, 0)) := hb
  refine ⟨⟨(putCells (Value.int .i64) 0 d.toArray cs.toArray).toList, ?_, fun k x hx => ?_⟩, ⟨rfl, rfl, rfl, ?_, fun k hk hne => ?_⟩⟩
  · unfold Bk grow putRow mapBlock Go.Sort.ahead
    simp only
    rw [Array.getElem?_append_left (by simpa using hlt), Array.getElem?_modify, if_pos rfl, hh]
    simp [onCells]
  · have hk : k < d.length := (List.getElem?_eq_some_iff.1 hx).1
    simp only [putCells]
    rw [Array.getElem?_toList, Array.getElem?_mapIdx]
    have hk2 : k < cs.toArray.size := by simp; omega
    rw [Array.getElem?_eq_getElem hk2]
    simp only [Option.map_some]
    rw [if_pos (by simp; omega)]
    have : d[k] = x := (List.getElem?_eq_some_iff.1 hx).2
    simp [hk, this]
  · simp [grow, putRow, mapBlock, Go.Sort.ahead]
  · unfold grow putRow mapBlock Go.Sort.ahead
    simp only
    rw [Array.getElem?_append_left (by simpa using hk), Array.getElem?_modify, if_neg (fun e => hne (by rw [e]))]

end Go.Proofs.Ythfniffecceldaa

/- Contracts: equal neighbours once, by the program: the library's Compact at a slice of the call's own. -/
namespace Go.Proofs.Ythfniffecceldaa
open Go.RowKit Go.Sort

theorem put_rowV {w : World} {g o : Nat} {cs : List Value} (hb : Bk w g 3 cs) (d : List Int) (hd : o + d.length ≤ cs.length) (n : Nat) :
    (∃ cs', cs'.length = cs.length ∧ Bk (putRow (Value.int .i64) (Go.Sort.ahead w n) g o d.toArray) g 3 cs' ∧ ∀ (k : Nat) (x : Int), d[k]? = some x → cs'[o + k]? = some (.int .i64 x)) ∧ w.grownBy (putRow (Value.int .i64) (Go.Sort.ahead w n) g o d.toArray) (some g) := by
  have hlt := hb.lt
  have hh : w.heap[g]? = some (.cells cs.toArray 3 (0, 0)) := hb
  refine ⟨⟨(putCells (Value.int .i64) o d.toArray cs.toArray).toList, by simp [putCells], ?_, fun k x hx => ?_⟩, ⟨rfl, rfl, rfl, ?_, fun k hk hne => ?_⟩⟩
  · unfold Bk putRow mapBlock Go.Sort.ahead
    simp only
    rw [Array.getElem?_modify, if_pos rfl, hh]
    simp [onCells]
  · have hk : k < d.length := (List.getElem?_eq_some_iff.1 hx).1
    simp only [putCells]
    rw [Array.getElem?_toList, Array.getElem?_mapIdx]
    have hk2 : o + k < cs.toArray.size := by simp; omega
    rw [Array.getElem?_eq_getElem hk2]
    simp only [Option.map_some]
    rw [if_pos (by simp; omega)]
    have : d[k] = x := (List.getElem?_eq_some_iff.1 hx).2
    simp [hk, this]
  · simp [putRow, mapBlock, Go.Sort.ahead]
  · unfold putRow mapBlock Go.Sort.ahead
    simp only
    rw [Array.getElem?_modify, if_neg (fun e => hne (by rw [e]))]

end Go.Proofs.Ythfniffecceldaa

/- Contracts: equal neighbours once, and copies, by the program. -/
namespace Go.Proofs.Ythfniffecceldaa
open Go.RowKit

end Go.Proofs.Ythfniffecceldaa

/- Contracts: lists out of lists, by the program (by turns). -/
namespace Go.Proofs.Ythfniffecceldaa
open Go.RowKit
end Go.Proofs.Ythfniffecceldaa

/- Contracts: lists out of lists, by the program (at equal places). -/
namespace Go.Proofs.Ythfniffecceldaa
open Go.RowKit
end Go.Proofs.Ythfniffecceldaa

/- Contracts: slices put one behind the other (the library's function; what Grow gives is asked of it). -/
namespace Go.Proofs.Ythfniffecceldaa
open Go.RowKit

theorem flat_succ {rows : List (List Int)} {k : Nat} {r : List Int} (h : rows[k]? = some r) : (rows.take (k + 1)).flatten = (rows.take k).flatten ++ r := by
  rw [take_succ_of h, List.flatten_append]; simp

end Go.Proofs.Ythfniffecceldaa

/- Contracts: what the library's Grow gives at a slice that is not there. -/
namespace Go.Proofs.Ythfniffecceldaa
open Go.RowKit

theorem wpList_append_zeros {ops : Array Oper} {rest : List Oper} {o : Oper} {a : Act} {Q : Exit → Act → World → Prop} {w : World} (hgd : o.guard = none) (s y : Operand)
    (ho : o.op = .call { callee := .builtin .append, args := #[s, y], argTypes := #[23, 3] }) (n : Nat) (hs : a.eval s = .slice none 0 0) (hx : a.eval y = .int .i64 n) (G : Nat) (Z : Array Value)
    (hr : ∀ ty, (Builtin.append_ #[23, 3] ty #[.slice none 0 0, .int .i64 n]).run Try.prog w = .ok (.slice (some ⟨w.heap.size, 0, none⟩) n G) (w.drew.alloc (.cells Z 3)))
    (h : wpList Try.prog ops Q rest (a.put o.dst (.slice (some ⟨w.heap.size, 0, none⟩) n G)) (w.drew.alloc (.cells Z 3))) : wpList Try.prog ops Q (o :: rest) a w := by
  refine wpList_plain hgd fun K hK => ?_
  unfold Oper.wp execOp
  simp only [ho, resolve, invoke, builtin, Sem.run_bind, Sem.run_pure, Result.andThen_ok, List.map_toArray, List.map_cons, List.map_nil, hs, hx, hr]
  exact hK _ _ h

end Go.Proofs.Ythfniffecceldaa

/- Contracts: two lists merged, by the program. -/
namespace Go.Proofs.Ythfniffecceldaa
open Go.RowKit

/-- The length of a slice. -/
def slLen : Value → Nat
  | .slice _ n _ => n
  | _ => 0
theorem OwnV.form {w : World} {base c : Nat} {A : Option Addr} {x : Int} {l : List Int} (h : OwnV w base A c (x :: l)) : ∃ g o, A = some ⟨g, o, none⟩ ∧ w.cell? ⟨g, o, none⟩ = some (.int .i64 x) ∧ g < w.heap.size ∧ base ≤ g ∧ l.length + 1 ≤ c := by
  rcases h with ⟨_, _, h⟩ | ⟨g, o, cs, hA, hb, hbk, h1, h2, hc⟩
  · cases h
  · exact ⟨g, o, hA, by rw [hbk.cell]; exact hc 0 x rfl, hbk.lt, hb, h2⟩
theorem OwnV.cell0 {w : World} {base c g o : Nat} {x : Int} {l : List Int} (h : OwnV w base (some ⟨g, o, none⟩) c (x :: l)) : w.cell? ⟨g, o, none⟩ = some (.int .i64 x) := by
  obtain ⟨g', o', e, h2, _⟩ := h.form
  injection e with e
  injection e with e1 e2
  subst e1 e2
  exact h2
theorem OwnV.tail {w : World} {base c g o : Nat} {x : Int} {l : List Int} (h : OwnV w base (some ⟨g, o, none⟩) c (x :: l)) : OwnV w base (some ⟨g, o + 1, none⟩) (c - 1) l := h.drop 1 (by simp)
theorem OwnV.tail0 {w : World} {base g o : Nat} {x : Int} {l : List Int} (h : OwnV w base (some ⟨g, o, none⟩) 1 (x :: l)) : OwnV w base (some ⟨g, o, none⟩) 0 l := h.drop0 1 (by simp) (Nat.le_refl _)

end Go.Proofs.Ythfniffecceldaa

/- Contracts: the list of a node with two below, by the program. -/
namespace Go.Proofs.Ythfniffecceldaa
open Go.RowKit

end Go.Proofs.Ythfniffecceldaa

/- Contracts: the list of a node with one below, and with two, by the program, all kinds. -/
namespace Go.Proofs.Ythfniffecceldaa
open Go.RowKit

end Go.Proofs.Ythfniffecceldaa

/- Contracts: the library's Chunk, and the sums of groups by the program. -/
namespace Go.Proofs.Ythfniffecceldaa
open Go.RowKit Go.Shelf

attribute [local go_sem] Oper.semAt_some

theorem batTo_chunk {n : Nat} {a : List Int} {i : Nat} (hi : i % n = 0) : ∀ m : Nat, m < n → i + m < a.length → batTo n a (i + (m + 1)) = batTo n a i ++ [sumL 0 ((a.drop i).take (m + 1))]
  | 0, _, hl => by
    obtain ⟨x, hx⟩ := get_of_lt a hl
    have hd : (a.drop i)[0]? = some x := by rw [List.getElem?_drop]; exact hx
    rw [sumL_succ 0 hd]
    have h1 := batTo_app (n := n) (a := a) (j := i) (m := (batTo n a i).length) (o := batTo n a i ++ [0]) (x := x) (y := 0) (by rw [if_pos hi]) (by simp) (by simp) hx
    rw [Nat.zero_add, h1]
    simp [sumL]
  | m + 1, hm, hl => by
    have ih := batTo_chunk (a := a) hi m (by omega) (by omega)
    obtain ⟨x, hx⟩ := get_of_lt a (k := i + (m + 1)) hl
    have hd : (a.drop i)[m + 1]? = some x := by rw [List.getElem?_drop]; exact hx
    rw [sumL_succ 0 hd]
    have hne : (i + (m + 1)) % n ≠ 0 := by
      rw [Nat.add_mod, hi, Nat.zero_add, Nat.mod_mod, Nat.mod_eq_of_lt hm]; omega
    have h1 := batTo_app (n := n) (a := a) (j := i + (m + 1)) (m := (batTo n a i).length) (o := batTo n a i ++ [sumL 0 ((a.drop i).take (m + 1))]) (x := x) (y := sumL 0 ((a.drop i).take (m + 1)))
      (by rw [if_neg hne, ih]) (by simp) (by simp) hx
    rw [show i + (m + 1 + 1) = i + (m + 1) + 1 by omega, h1]
    simp

/-- The chunk that begins at i. -/
def chunkV (g o : Nat) (len n i : Nat) : Value := .slice (some ⟨g, o + i, none⟩) (min n (len - i)) (min n (len - i))

theorem stepIn_append_int {F : Fence} {nn : Nat} {o : Oper} {a : Act} {K : Act → World → Prop} {Q : Exit → Act → World → Prop} {w : World} (s y : Operand)
    (ho : o.op = .call { callee := .builtin .append, args := #[s, y], argTypes := #[23, 23] }) (base : Nat) (A : Option Addr) (c : Nat) (l : List Int) (x : Int) (n : Nat) (hnl : l.length = n) (hs : a.eval s = .slice A n c) (hown : OwnJ w base A c l)
    (g : Nat) (hx : a.eval y = .slice (some ⟨g, 0, none⟩) 1 1) (hg : g = w.heap.size) (hn : n ≤ 1048576) (hb : base ≤ w.heap.size)
    (h : ∀ (A' : Option Addr) (c' : Nat) (w' : World), OwnJ w' base A' c' (l ++ [x]) → (w.alloc (.cells #[.int .i64 x] 3)).grownBy w' (rowOf A) → K (a.put o.dst (.slice A' (n + 1) c')) w') :
    Oper.wpIn F nn Try.prog o a (w.alloc (.cells #[.int .i64 x] 3)) K Q := by
  subst hg
  subst hnl
  obtain ⟨i, hi, hz0, hz1, hz2⟩ := info_parts Try.infoInt
  have hown2 := hown.below ((Below.refl w.heap.size w).alloc (Nat.le_refl _) (.cells #[.int .i64 x] 3)) (Nat.le_refl _)
  have hb1 : Bk (w.alloc (.cells #[.int .i64 x] 3)) w.heap.size 3 [.int .i64 x] := Bk.new w _ [_]
  have hread : ∀ (j : Nat) (u : Value), (ints [x])[j]? = some u → (w.alloc (.cells #[.int .i64 x] 3)).cell? ((⟨w.heap.size, 0, none⟩ : Addr).add j) = some u := fun j u hj => by
    rw [add_zero_row, hb1.cell]
    exact hj
  have hone : ∀ u ∈ ints [x], u.oneCell' = true := by
    intro u hu
    simp [ints] at hu
    subst hu
    rfl
  obtain ⟨v', w', hr, h2, h3, _⟩ := run_append_own (P := Try.prog) (w.alloc (.cells #[.int .i64 x] 3)) base 23 o.type 3 i _ 1 8 Try.underlying23 hi hz0 hz1 hz2 rfl (by decide)
    (.slice A l.length c) l.length (ints l) hown2 ⟨w.heap.size, 0, none⟩ 1 1 (ints [x]) rfl hread hone (by unfold maxLen; omega) (by omega) (by simp; omega)
  have hv : ∃ A' c', v' = .slice A' (l.length + 1) c' := by
    obtain ⟨_, ⟨_, h0⟩ | ⟨g, cap, cur, hv, _⟩⟩ := h2
    · omega
    · exact ⟨_, _, hv⟩
  obtain ⟨A', c', rfl⟩ := hv
  unfold Oper.wpIn
  refine ⟨?_, ?_⟩
  · simp [Oper.about, ho, resolve, Target.leads, Sem.run_pure]
  · rw [Oper.semAt_plain F _ _ (by rw [ho]; intro c hc'; cases hc')]
    simp only [execOp, ho, resolve, invoke, builtin, Sem.run_bind, Sem.run_pure, Result.andThen_ok, List.map_toArray, List.map_cons, List.map_nil, hs, hx, hr]
    refine (h A' c' w' ?_ (by rw [← ownBlock_slice A l.length c]; exact h3))
    unfold OwnJ
    rw [List.length_append, show ints (l ++ [x]) = ints l ++ ints [x] from by simp [ints]]
    exact h2

/-- Between two rounds. -/
structure BatJ (w : World) (A : Option Addr) (c : Nat) (a : List Int) (n : Nat) (i : Nat) (W : World) : Prop where
  mul : i % n = 0
  below : Below w.heap.size w W
  big : w.heap.size + 5 ≤ W.heap.size
  bs : Bk W (w.heap.size + 1) 23 [.slice A a.length c]
  bn : Bk W (w.heap.size + 2) 3 [.int .i64 n]
  out : ∃ R cR, Bk W w.heap.size 23 [.slice R (batTo n a (min i a.length)).length cR] ∧ OwnJ W (w.heap.size + 5) R cR (batTo n a (min i a.length))

end Go.Proofs.Ythfniffecceldaa

/- Contracts: pulls by the program: the items of at most k pulls, ranged over; the sums of groups. -/
namespace Go.Proofs.Ythfniffecceldaa
open Go.RowKit Go.Shelf

attribute [local go_sem] Oper.semAt_some

/-- The items of at most k pulls, up to the first one that gives none, and what is left behind. -/
def runP (f : PF) : Nat → PS → List Int × PS
  | 0, s => ([], s)
  | k + 1, s => match f s with
    | (s', none) => ([], s')
    | (s', some v) => (v :: (runP f k s').1, (runP f k s').2)

set_option maxHeartbeats 1600000 in
theorem pulled_in (kp : FuncId) (lbp : Array Value) (k : Int) (w : World) :
    Calls Try.prog 75 #[.func (.func kp) #[] lbp, .int .i64 k] w fun e w' => e = .returned (.func (.func 89) #[] #[.pointer (some ⟨w.heap.size + 1, 0, none⟩), .pointer (some ⟨w.heap.size, 0, none⟩)]) ∧ w' = (w.alloc (.cells #[.func (.func kp) #[] lbp] 114)).alloc (.cells #[.int .i64 k] 3) := by
  go_enter Try.func75, Try.ntmps75
  go_wp2
  go_ret
  exact ⟨rfl, rfl⟩

set_option maxRecDepth 100000 in
set_option maxHeartbeats 6400000 in
theorem pulled1_in {n0 rb cb N cc : Nat} {l : List Nd} {src : List (List Int)} {j : Nat} {f : PF} (hF : Fine l src j f) (kp : FuncId) (lbp : Array Value) (eg : ∀ (args : Array Value) (w : World), (callFunc kp args).run Try.prog w = .ok (.enter kp args) w) {w1 : World} (hp : Pulls n0 rb cb N cc l src f kp lbp w1)
    (k : Nat) (hk : k ≤ 1000) (lr bk bp : Nat) (fe : Value) (J : List Int → PS → World → Prop)
    (hJ : ∀ pre s W, J pre s W → W.cell? ⟨bk, 0, none⟩ = some (.int .i64 k) ∧ W.cell? ⟨bp, 0, none⟩ = some (.func (.func kp) #[] lbp) ∧ Fi n0 rb cb w1 W ∧ IW n0 rb cb N cc fe s W ∧ StOk l src s.cs ∧ s.lg.length + s.W l src ≤ 65536)
    (hJF : ∀ pre s W s' W', J pre s W → Fr n0 rb cb W W' → IW n0 rb cb N cc fe s' W' → StOk l src s'.cs → s'.lg.length + s'.W l src ≤ 65536 → J pre s' W')
    (hY : ∀ pre s W v, J pre s W → (0 ≤ v ∧ v ≤ 99) → pre.length < k → YieldAt Fence.wide 3 Try.prog lr #[.int .i64 v] W fun e W' => e = .returned (.bool true) ∧ J (pre ++ [v]) s W')
    (s : PS) (W : World) (h0 : J [] s W) :
    CallsIn Fence.wide 4 Try.prog 89 #[.func (.yield lr) #[] #[], .pointer (some ⟨bk, 0, none⟩), .pointer (some ⟨bp, 0, none⟩)] W fun e W' => (∃ v, e = .returned v) ∧ J (runP f k s).1 (runP f k s).2 W' := by
  have HJ := Lib.hid hJ
  have HJF := Lib.hid hJF
  have HY := Lib.hid hY
  have HF := Lib.hid hF
  have HP := Lib.hid hp
  obtain ⟨hc1, hc2, _⟩ := hJ _ _ _ h0
  have H0 := Lib.hid h0
  clear hJ hJF hY hF hp h0
  refine callsIn_of_wp Try.func89 rfl trivial ?_ rfl
  simp only [Try.ntmps89, List.size_toArray, List.length_cons, List.length_nil, Nat.reduceAdd, Nat.reduceSub, Array.replicate_succ, Array.replicate_zero, List.push_toArray, List.append_toArray, List.nil_append, List.cons_append]
  gi_wp2
  gi_loopw [7] (fun p wr => ∃ (pre : List Int) (s1 : PS), pre.length ≤ k ∧ p = .int .i64 (pre.length : Nat) ∧ J pre s1 wr ∧ runP f k s = (pre ++ (runP f (k - pre.length) s1).1, (runP f (k - pre.length) s1).2)) (fun p _ => k - (intOf p).toNat)
  case atStart => exact ⟨[], s, Nat.zero_le _, rfl, H0.out, by simp⟩
  case round =>
    obtain ⟨pre, s1, hle, rfl, hj, hrun⟩ := hrel
    obtain ⟨c1, c2, hfr1, hiw1, hok1, hlg1⟩ := HJ.out _ _ _ hj
    obtain ⟨q, hq⟩ : ∃ q, pre.length = q := ⟨_, rfl⟩
    rw [hq] at hle hrun
    rw [hq]
    have Hj := Lib.hid hj
    have Hrun := Lib.hid hrun
    have Hq := Lib.hid hq
    clear hj hrun hq
    by_cases hlt : q < k
    · have hlt2 : (q : Int) < k := by omega
      have hw1 : IntKind.i64.wrap ((q : Int) + 1) = (q : Int) + 1 := IntWalk.i64_in _ (by omega)
      rcases hfs : f s1 with ⟨s2, o⟩
      have hfine := HF.out s1 hok1
      have hcall := HP.out fe s1 wr hfr1 hiw1 hok1 hlg1
      rw [hfs] at hfine hcall
      have Hfine := Lib.hid hfine
      have Hcall := Lib.hid hcall
      have Hfs := Lib.hid hfs
      have Hlg2 : Hid (s2.lg.length + s2.W l src ≤ 65536) := Lib.hid (Nat.le_trans hfine.wle hlg1)
      obtain ⟨k', hk'⟩ : ∃ k', k - q = k' + 1 := ⟨k - q - 1, by omega⟩
      have Hk' := Lib.hid hk'
      clear hfine hcall hfs hfr1 hiw1 hok1 hlg1 hk'
      gi_wp2
      refine ⟨trivial, ?_⟩
      refine (callsIn_wide.2 Hcall.out).mono ?_
      rintro e w2 ⟨rfl, iw2, fr2⟩
      have hj2 := HJF.out _ _ _ _ _ Hj.out fr2 iw2 Hfine.out.ok Hlg2.out
      have Hj2 := Lib.hid hj2
      clear iw2 fr2 hj2
      cases o with
      | none =>
        have ht : tup none = .tuple #[.int .i64 0, .bool false] := rfl
        have hr : runP f k s = (pre, s2) := by rw [Hrun.out, Hk'.out]; simp only [runP]; rw [Hfs.out]; simp
        have Hr := Lib.hid hr
        clear hr
        gi_wp2
        refine ⟨fun _ h => (by cases h), ?_⟩
        gi_wp2
        refine bodyPost_ret (results_none rfl _ _ _) rfl ?_
        exact ⟨⟨_, rfl⟩, by rw [Hr.out]; exact Hj2.out⟩
      | some v =>
        have hv := Hfine.out.item v rfl
        have ht : tup (some v) = .tuple #[.int .i64 v, .bool true] := rfl
        obtain ⟨fn, tmps, assign, body, hy, hR⟩ := HY.out _ _ _ v Hj2.out hv (by rw [Hq.out]; exact hlt)
        gi_wp2
        refine hR.mono ?_
        rintro e w3 ⟨rfl, hj3⟩
        obtain ⟨d1, d2, _⟩ := HJ.out _ _ _ hj3
        have Hj3 := Lib.hid hj3
        clear hj3
        gi_wp2
        go_roundw
        case rel =>
          refine ⟨pre ++ [v], s2, by rw [List.length_append, Hq.out]; simp; omega, by rw [List.length_append, Hq.out]; go_num, Hj3.out, ?_⟩
          rw [Hrun.out, Hk'.out, List.length_append, Hq.out]
          simp only [runP]
          rw [Hfs.out]
          have : k - (q + [v].length) = k' := by have := Hk'.out; simp; omega
          rw [this]
          simp
        case measure => simp [intOf]; omega
    · have hqk : q = k := by omega
      have hr : runP f k s = (pre, s1) := by rw [Hrun.out, show k - q = 0 by omega]; simp [runP]
      have Hr := Lib.hid hr
      clear hr
      gi_wp2
      go_end0
      exact ⟨⟨_, rfl⟩, by rw [Hr.out]; exact Hj.out⟩

theorem runP_none {f : PF} {k : Nat} {s s2 : PS} (h : f s = (s2, none)) : runP f (k + 1) s = ([], s2) := by simp only [runP]; rw [h]
theorem runP_some {f : PF} {k : Nat} {s s2 : PS} {v : Int} (h : f s = (s2, some v)) : runP f (k + 1) s = (v :: (runP f k s2).1, (runP f k s2).2) := by simp only [runP]; rw [h]
theorem batchL_run (f : PF) : ∀ (k : Nat) (sum : Int) (b : Bool) (s : PS), batchL f k sum b s = ((runP f k s).2, if b = true ∨ (runP f k s).1 ≠ [] then some (sumL sum (runP f k s).1) else none)
  | 0, sum, b, s => by simp [batchL, runP, sumL]
  | k + 1, sum, b, s => by
    rcases hfs : f s with ⟨s2, o⟩
    cases o with
    | none => rw [runP_none hfs]; simp only [batchL]; rw [hfs]; simp [sumL]
    | some v => rw [runP_some hfs]; simp only [batchL]; rw [hfs]; simp only; rw [batchL_run f k]; simp [sumL]
theorem sumL_snoc (s : Int) (l : List Int) (v : Int) : sumL s (l ++ [v]) = rst (sumL s l + v) := by simp [sumL]
theorem Fr.put_obj {n0 pb cb : Nat} {w w' : World} (h : Fr n0 pb cb w w') {D : Nat} (hD : w.heap.size ≤ D) (o : Obj) : Fr n0 pb cb w (w'.putObj D o) :=
  ⟨h.os, h.tape, h.output, by rw [World.putObj_size]; exact h.size, fun b hb h1 h2 h3 => (World.putObj_heap_other (by omega)).trans (h.block b hb h1 h2 h3)⟩
theorem Fr.far_obj {n0 pb cb : Nat} {w w' : World} (h : Fr n0 pb cb w w') {D : Nat} {o : Obj} (hD : w.heap[D]? = some o) (hc : o.isCells = false) (h1 : D ≠ pb) (h2 : D ≠ cb) : w'.heap[D]? = w.heap[D]? :=
  h.block D (Array.getElem?_eq_some_iff.1 hD).1 h1 h2 (.inr fun ⟨cs, fr, hp⟩ => by rw [hD] at hp; cases hp; cases hc)

theorem Fr.far_set {n0 pb cb : Nat} {w w' : World} (h : Fr n0 pb cb w w') {b : Nat} (hb : w.heap.size ≤ b) (k : Nat) (u : Value) : Fr n0 pb cb w (w'.setCell ⟨b, k, none⟩ u) :=
  ⟨h.os, h.tape, h.output, by simpa [World.setCell] using h.size, fun c hc h1 h2 h3 => (Below.heap_setCell _ _ _ _ (by simp only; omega)).trans (h.block c hc h1 h2 h3)⟩
/-- Between two rounds of the sum of a group. -/
structure BaJ (n0 rb cb N cc : Nat) (l : List Nd) (src : List (List Int)) (fe : Value) (W0 : World) (n : Int) (fv : Value) (pre : List Int) (s : PS) (W : World) : Prop where
  fr : Fr n0 rb cb W0 W
  iw : IW n0 rb cb N cc fe s W
  ok : StOk l src s.cs
  lg : s.lg.length + s.W l src ≤ 65536
  big : W0.heap.size + 6 ≤ W.heap.size
  sum : Bk W W0.heap.size 3 [.int .i64 (sumL 0 pre)]
  some_ : Bk W (W0.heap.size + 1) 4 [.bool (decide (pre ≠ []))]
  pl : Bk W (W0.heap.size + 2) 114 [fv]
  num : Bk W (W0.heap.size + 3) 3 [.int .i64 n]
  it : 0 ≤ sumL 0 pre ∧ sumL 0 pre ≤ 99

set_option maxRecDepth 100000 in
set_option maxHeartbeats 6400000 in
theorem i_batch {n0 rb cb N cc : Nat} {l : List Nd} {src : List (List Int)} {w1 : World} {ba bn : Nat} {va : Value} {fa : PF} {j : Nat} (hF : Fine l src j fa) (hP : Puller n0 rb cb N cc l src fa va w1) (kxa : Bx rb cb w1 ba 114 va) {n : Int} (kxn : Bx rb cb w1 bn 3 (.int .i64 n)) (hn : 1 ≤ n ∧ n ≤ 30) :
    Pulls n0 rb cb N cc l src (batchP n fa) 123 #[.pointer (some ⟨ba, 0, none⟩), .pointer (some ⟨bn, 0, none⟩)] w1 := by
  intro fe s W hfr hiw ok hlg
  obtain ⟨ka, lba, rfl, ega, hpa⟩ := hP
  have cea := (kxa.fr hfr (by decide)).cell
  have cen := (kxn.fr hfr (by decide)).cell
  have balt := (kxa.fr hfr (by decide)).bk.lt
  have bnlt := (kxn.fr hfr (by decide)).bk.lt
  have hrlt : rb < W.heap.size := RS.ltp hiw
  have hclt : cb < W.heap.size := RS.ltc hiw
  have Hfr := Lib.hid hfr
  have Hiw := Lib.hid hiw
  have Hok := Lib.hid ok
  have HF := Lib.hid hF
  have HP := Lib.hid hpa
  clear hfr hiw ok hF hpa kxa kxn
  refine (callsIn_wide (n := 5)).1 ?_
  refine callsIn_of_wp_marks Try.func123 rfl trivial ?_ rfl
  simp only [Try.ntmps123, List.size_toArray, List.length_cons, List.length_nil, Nat.reduceAdd, Nat.reduceSub, Array.replicate_succ, Array.replicate_zero, List.push_toArray, List.append_toArray, List.nil_append, List.cons_append]
  gi_wp2_with (refine ⟨trivial, ?_⟩; gi_at_call 75; refine (callsIn_wide.2 (pulled_in ka lba n _)).mono ?_; rintro e w' ⟨rfl, rfl⟩)
  obtain ⟨W0, hW0⟩ : ∃ W0, (((W.alloc (.cells #[.int .i64 0] 3)).alloc (.cells #[.bool false] 4)).alloc (.cells #[.func (.func ka) #[] lba] 114)).alloc (.cells #[.int .i64 n] 3) = W0 := ⟨_, rfl⟩
  have hz0 : W0.heap.size = W.heap.size + 4 := by rw [← hW0]; simp
  have hb0 : Below W.heap.size W W0 := by rw [← hW0]; exact ((((Below.refl _ _).alloc (Nat.le_refl _) _).alloc (by simp) _).alloc (by simp; omega) _).alloc (by simp; omega) _
  have k0 : Bk W0 W.heap.size 3 [.int .i64 0] := by rw [← hW0]; exact (((Bk.new W _ [_]).alloc _).alloc _).alloc _
  have k1 : Bk W0 (W.heap.size + 1) 4 [.bool false] := by
    rw [← hW0]
    have := Bk.new (W.alloc (.cells #[.int .i64 0] 3)) 4 [.bool false]
    rw [World.size_alloc] at this
    exact (this.alloc _).alloc _
  have k2 : Bk W0 (W.heap.size + 2) 114 [.func (.func ka) #[] lba] := by
    rw [← hW0]
    have := Bk.new ((W.alloc (.cells #[.int .i64 0] 3)).alloc (.cells #[.bool false] 4)) 114 [.func (.func ka) #[] lba]
    rw [World.size_alloc, World.size_alloc] at this
    exact this.alloc _
  have k3 : Bk W0 (W.heap.size + 3) 3 [.int .i64 n] := by
    rw [← hW0]
    have := Bk.new (((W.alloc (.cells #[.int .i64 0] 3)).alloc (.cells #[.bool false] 4)).alloc (.cells #[.func (.func ka) #[] lba] 114)) 3 [.int .i64 n]
    simpa using this
  rw [hW0]
  clear hW0
  obtain ⟨nn, hnn⟩ : ∃ nn : Nat, n = (nn : Int) := ⟨n.toNat, by omega⟩
  have hnn30 : nn ≤ 1000 := by omega
  have Hnn := Lib.hid hnn
  clear hnn
  refine wpIn_rangeFunc_free (F := Fence.wide) (n := 5) rfl (by omega) (gf := 89) (lb := #[.pointer (some ⟨W.heap.size + 3, 0, none⟩), .pointer (some ⟨W.heap.size + 2, 0, none⟩)]) rfl trivial (enters_of Try.func89 (by kernel_rfl) rfl)
    (encs := fun v : Int => #[.int .i64 v]) (fun _ => rfl)
    (fun v : Int => { tmps := #[.pointer (some ⟨ba, 0, none⟩), .pointer (some ⟨bn, 0, none⟩), .int .i64 0, .bool false, .pointer (some ⟨W.heap.size, 0, none⟩), .pointer (some ⟨W.heap.size + 1, 0, none⟩), .int .i64 v, .func (.func ka) #[] lba, .int .i64 n, .func (.func 89) #[] #[.pointer (some ⟨W.heap.size + 3, 0, none⟩), .pointer (some ⟨W.heap.size + 2, 0, none⟩)], .int .i64 v, undef, undef, undef, undef, undef, undef], defers := [] }) ?assign ?iter
  case assign =>
    intro l x W K hK
    gi_wp2
    exact hK
  case iter =>
    intro lr D W1 Rdy Dn hD hl hz1 hb1 hr1 hkind hst hstd hyld
    rw [hz0] at hD hl hz1
    have HY := Lib.hid hyld
    have HS := Lib.hid hst
    have HK := Lib.hid hkind
    clear hyld hst hstd hkind
    have fr01 : Fr n0 rb cb W W1 := Fr.of_below (hb0.trans (hb1.mono hb0.size))
    refine (pulled1_in HF.out ka lba ega HP.out nn hnn30 lr (W.heap.size + 3) (W.heap.size + 2) fe
      (fun pre s W' => BaJ n0 rb cb N cc l src fe W n (.func (.func ka) #[] lba) pre s W' ∧ Rdy W') ?hJ ?hJF ?hY s W1 ?h0).mono ?done
    case hJ =>
      rintro pre s W' ⟨h, hrd⟩
      exact ⟨by rw [← Hnn.out]; exact h.num.cell 0, h.pl.cell 0, Hfr.out.trans h.fr, h.iw, h.ok, h.lg⟩
    case hJF =>
      rintro pre s W' s' W'' ⟨h, hrd⟩ hf hi hok hlg'
      obtain ⟨⟨ob, hob, hoc⟩, hDd⟩ := HK.out _ hrd
      refine ⟨⟨h.fr.trans hf, hi, hok, hlg', Nat.le_trans h.big hf.size, hf.bk h.sum (by decide) (by omega) (by omega), hf.bk h.some_ (by decide) (by omega) (by omega), hf.bk h.pl (by decide) (by omega) (by omega), hf.bk h.num (by decide) (by omega) (by omega), h.it⟩, ?_⟩
      exact HS.out _ _ hrd (hf.far_obj hob hoc (by omega) (by omega)) (hf.far_obj hDd rfl (by omega) (by omega))
    case h0 =>
      refine ⟨⟨fr01, RS.below (RS.below Hiw.out hb0) (by have := hb1; exact ⟨this.os, this.tape, this.output, this.size, this.block⟩), Hok.out, hlg, by omega, k0.below hb1 k0.lt, k1.below hb1 k1.lt, k2.below hb1 k2.lt, k3.below hb1 k3.lt, by simp [sumL]⟩, hr1⟩
    case hY =>
      rintro pre s2 W' v ⟨h, hrd⟩ hv _
      obtain ⟨hkl, hkD⟩ := HK.out _ hrd
      refine HY.out v W' _ hrd fun ob hob hlo hDo => ?_
      obtain ⟨Wb, hWb⟩ : ∃ Wb, Wb = W'.putObj lr ob := ⟨_, rfl⟩
      rw [← hWb] at hlo hDo ⊢
      have hpo : ∀ k, k ≠ lr → Wb.heap[k]? = W'.heap[k]? := fun k hk => by rw [hWb]; exact World.putObj_heap_other hk
      have b0 : Bk Wb W.heap.size 3 [.int .i64 (sumL 0 pre)] := (hpo _ (by omega)).trans h.sum
      have b1 : Bk Wb (W.heap.size + 1) 4 [.bool (decide (pre ≠ []))] := (hpo _ (by omega)).trans h.some_
      have b2 : Bk Wb (W.heap.size + 2) 114 [.func (.func ka) #[] lba] := (hpo _ (by omega)).trans h.pl
      have b3 : Bk Wb (W.heap.size + 3) 3 [.int .i64 n] := (hpo _ (by omega)).trans h.num
      have iwb : IW n0 rb cb N cc fe s2 Wb := by rw [hWb]; exact RS.put_obj h.iw ob hkl
      have frb : Fr n0 rb cb W Wb := by rw [hWb]; exact h.fr.put_obj (by omega) ob
      have hzb : Wb.heap.size = W'.heap.size := by rw [hWb, World.putObj_size]
      have hbig := h.big
      obtain ⟨sm, hsm⟩ : ∃ sm, sumL 0 pre = sm := ⟨_, rfl⟩
      obtain ⟨bm, hbm⟩ : ∃ bm, decide (pre ≠ []) = bm := ⟨_, rfl⟩
      have hit := h.it
      rw [hsm] at b0 hit
      rw [hbm] at b1
      have c0 := b0.cell 0
      have c1 := b1.cell 0
      have f0 := b0.free 0
      have f1 := b1.free 0
      simp only [List.getElem?_cons_zero] at c0 c1
      have hw1 : IntKind.i64.wrap (sm + v) = sm + v := IntWalk.i64_in _ (by omega)
      have Hlo := Lib.hid hlo
      have Hsm := Lib.hid hsm
      have B0 := Lib.hid b0
      have B1 := Lib.hid b1
      have B2 := Lib.hid b2
      have B3 := Lib.hid b3
      have Iwb := Lib.hid iwb
      have Frb := Lib.hid frb
      have Hok2 := Lib.hid h.ok
      have Hlg2 := Lib.hid h.lg
      have Hzb := Lib.hid hzb
      have Hbig := Lib.hid hbig
      have HL := Lib.hid hl
      have HD := Lib.hid hD
      clear hsm hbm b0 b1 b2 b3 iwb frb hzb hbig hl hD hkl hkD hpo hWb h hlo hDo hz1 hb1 hr1 fr01 hb0 k0 k1 k2 k3 hz0
      gi_wp2_with (refine ⟨trivial, ?_⟩; gi_at_call 103; refine (CallsIn.inRound lr (callsIn_wide.2 (implRest_any (sm + v) _ (by omega)))).mono ?_; rintro e wz ⟨rfl, rfl⟩)
      have hl := HL.out
      have hD := HD.out
      have hbig := Hbig.out
      have hzb := Hzb.out
      obtain ⟨X1, hX1⟩ : ∃ X1, X1 = (Wb.setCell ⟨W.heap.size, 0, none⟩ (.int .i64 (rst (sm + v)))).setCell ⟨W.heap.size + 1, 0, none⟩ (.bool true) := ⟨_, rfl⟩
      rw [← hX1]
      have hx1 : ∀ k, k ≠ W.heap.size → k ≠ W.heap.size + 1 → X1.heap[k]? = Wb.heap[k]? := fun k h1 h2 => by
        rw [hX1]; exact (Below.heap_setCell _ _ _ _ h2).trans (Below.heap_setCell _ _ _ _ h1)
      have hzx : X1.heap.size = Wb.heap.size := by rw [hX1]; simp [World.setCell]
      refine ⟨hx1 lr (by omega) (by omega), hx1 D (by omega) (by omega), fun o2 ho2 hrd2 => ⟨rfl, ?_, hrd2⟩⟩
      have hp2 : ∀ k, k ≠ lr → (X1.putObj lr o2).heap[k]? = X1.heap[k]? := fun k hk => World.putObj_heap_other hk
      have x0 : Bk X1 W.heap.size 3 [.int .i64 (rst (sm + v))] := by rw [hX1]; exact (B0.out.set_ 0 _).far (by simp) _
      have x1 : Bk X1 (W.heap.size + 1) 4 [.bool true] := by rw [hX1]; exact (B1.out.far (by simp) _).set_ 0 _
      have hnl : ∃ q : Obj, X1.heap[lr]? = some q ∧ q.isCells = false := by
        refine ⟨ob, ?_, hob⟩
        rw [hx1 lr (by omega) (by omega)]
        exact Hlo.out
      refine ⟨?_, ?_, Hok2.out, Hlg2.out, by rw [World.putObj_size, hzx, hzb]; exact hbig, ?_, ?_, (hp2 _ (by omega)).trans ((hx1 _ (by omega) (by omega)).trans B2.out), (hp2 _ (by omega)).trans ((hx1 _ (by omega) (by omega)).trans B3.out), ?_⟩
      · rw [hX1]
        exact ((Frb.out.far_set (Nat.le_refl _) _ _).far_set (Nat.le_succ _) _ _).put_obj (by omega) o2
      · have i1 : IW n0 rb cb N cc fe s2 X1 := by
          rw [hX1]
          exact RS.far (RS.far Iwb.out 0 _ (by omega) (by omega) (IsPl.not B0.out (by decide))) 0 _ (by omega) (by omega) (IsPl.not (B1.out.far (by simp) _) (by decide))
        exact RS.put_obj i1 o2 hnl
      · rw [sumL_snoc, Hsm.out]; exact (hp2 _ (by omega)).trans x0
      · rw [show decide (pre ++ [v] ≠ []) = true from by simp]; exact (hp2 _ (by omega)).trans x1
      · rw [sumL_snoc, Hsm.out]; exact rst_in (by omega)
    case done =>
      rintro e W' ⟨hv, h, hrd⟩
      refine ⟨hv, .inl ⟨hrd, fun ob hob hDo => ?_⟩⟩
      obtain ⟨hkl, hkD⟩ := HK.out _ hrd
      obtain ⟨pre, hpre⟩ : ∃ pre, (runP fa nn s).1 = pre := ⟨_, rfl⟩
      obtain ⟨se, hse⟩ : ∃ se, (runP fa nn s).2 = se := ⟨_, rfl⟩
      rw [hpre, hse] at h
      have hres : batchP n fa s = (se, if pre ≠ [] then some (sumL 0 pre) else none) := by
        unfold batchP
        rw [batchL_run, Hnn.out, Int.toNat_natCast, hpre, hse]
        simp
      have hpo : ∀ k, k ≠ lr → (W'.putObj lr ob).heap[k]? = W'.heap[k]? := fun k hk => World.putObj_heap_other hk
      have b0 : Bk (W'.putObj lr ob) W.heap.size 3 [.int .i64 (sumL 0 pre)] := (hpo _ (by omega)).trans h.sum
      have b1 : Bk (W'.putObj lr ob) (W.heap.size + 1) 4 [.bool (decide (pre ≠ []))] := (hpo _ (by omega)).trans h.some_
      have iwb : IW n0 rb cb N cc fe se (W'.putObj lr ob) := RS.put_obj h.iw ob hkl
      have frb : Fr n0 rb cb W (W'.putObj lr ob) := h.fr.put_obj (by omega) ob
      obtain ⟨W2, hW2⟩ : ∃ W2, W'.putObj lr ob = W2 := ⟨_, rfl⟩
      rw [hW2] at b0 b1 iwb frb hDo ⊢
      obtain ⟨sm, hsm⟩ : ∃ sm, sumL 0 pre = sm := ⟨_, rfl⟩
      obtain ⟨bm, hbm⟩ : ∃ bm, decide (pre ≠ []) = bm := ⟨_, rfl⟩
      have htup : tup (batchP n fa s).2 = .tuple #[.int .i64 sm, .bool bm] := by
        rw [hres, ← hsm, ← hbm]
        cases pre with
        | nil => simp [tup, sumL]
        | cons a t => simp [tup]
      rw [hsm] at b0
      rw [hbm] at b1
      have c0 := b0.cell 0
      have c1 := b1.cell 0
      simp only [List.getElem?_cons_zero] at c0 c1
      have Hdo := Lib.hid hDo
      have Htup := Lib.hid htup
      have Hres := Lib.hid hres
      have Iwb := Lib.hid iwb
      have Frb := Lib.hid frb
      have HD := Lib.hid hD
      have hmx : Try.prog.follows .mixedOrders = true := by kernel_rfl
      clear hl hz1 hb1 hr1 fr01 hb0 k0 k1 k2 k3 hz0 hD hkl hkD hpo hDo hres htup iwb frb hW2 hpre hse h b0 b1
      gi_wp2
      gi_region
      gi_wp2
      refine ⟨by simp, .inl ⟨_, _, rfl, run_takeDeferred (b := D) (ds := []) Hdo.out, ?_⟩⟩
      refine ⟨.tuple #[.int .i64 sm, .bool bm], by simp [results, Try.results123, go_sem], by rw [Htup.out], ?_, ?_⟩
      · rw [Hres.out]
        exact RS.put_obj Iwb.out.drew _ ⟨_, Hdo.out, rfl⟩
      · exact Frb.out.drew.put_obj (by have := HD.out; omega) _

end Go.Proofs.Ythfniffecceldaa
