/- Texts on the program and its reference, put together (PiD, LiB, LiI, SortJ, LiJ, LiK, LiC, LiD, LiE, LiF, LiG, LiH, LiL, BatA). -/
import Derived.Test.YtjhdjfobbgfpfaaMQQ
import Derived.Deep.RegionHeldLaw
import Derived.Test.YtjhdjfobbgfpfaaMQP
import Derived.Test.YtjhdjfobbgfpfaaMQJ
import Derived.Test.YtjhdjfobbgfpfaaMQI
import Derived.Test.YtjhdjfobbgfpfaaShelf
import Derived.Lib.RowBridge
import Derived.Sort.Grow
import Derived.Lib.AppendZerosOnto
import Derived.Deep.QuietTactic
import Derived.BigQuiet
import Derived.Deep.RegionHeld3
import Derived.Shelf.RegionOpen
import Derived.Shelf.Abstract
import Derived.TacticsInMore
import Derived.LoopNIn
import Derived.LoopIn
import Derived.OwnWalkIn
/- Contracts: pulls by the program: sources. -/
namespace Go.Proofs.Ytjhdjfobbgfpfaa
open Go.RowKit

theorem step_append_pl {ops : Array Oper} {o : Oper} {a : Act} {K : Act → World → Prop} {Q : Exit → Act → World → Prop} {E : Prop} {w : World} (hgd : o.guard = none) (s y : Operand)
    (ho : o.op = .call { callee := .builtin .append, args := #[s, y], argTypes := #[47, 47] }) (base : Nat) (R : Option Addr) (cR : Nat) (lg : List Pl) (p : Pl) (n : Nat) (hnl : lg.length = n) (hs : a.eval s = .slice R n cR) (hown : OwnG w base R cR lg)
    (g : Nat) (hx : a.eval y = .slice (some ⟨g, 0, none⟩) 1 1) (hg : g = w.heap.size) (hn : n ≤ 1048576) (hb : base ≤ w.heap.size)
    (h : ∀ (R' : Option Addr) (c' : Nat) (w' : World), OwnG w' base R' c' (lg ++ [p]) → (w.alloc (.cells #[.int .i64 p.s, .int .i64 p.i] 76)).grownBy w' (rowOf R) → K (a.put o.dst (.slice R' (n + 1) c')) w') :
    if Region.wanted o (yielded ops a.tmps) = true then Oper.wp Try.prog o a (w.alloc (.cells #[.int .i64 p.s, .int .i64 p.i] 76)) K Q else E := by
  have hw : Region.wanted o (yielded ops a.tmps) = true := by simp [Region.wanted, hgd]
  rw [if_pos hw]
  subst hg
  subst hnl
  obtain ⟨R', c', w', hr, h2, h3⟩ := run_append_pl hown hb hn p o.type
  unfold Oper.wp execOp
  simp only [ho, resolve, invoke, builtin, Sem.run_bind, Sem.run_pure, Result.andThen_ok, List.map_toArray, List.map_cons, List.map_nil, hs, hx, hr]
  exact h R' c' w' h2 h3

theorem RS.sayfr {n0 pb cb : Nat} {T : TypeId} {hd tl : List Value} {s : PS} {w : World} (_ : RS n0 pb cb T hd tl s w) {R : Option Addr} {cR : Nat} (ho : OwnG w n0 R cR s.lg) {o : Obj} {w1 : World} (hg : (w.alloc o).grownBy w1 (rowOf R)) : Fr n0 pb cb w w1 :=
  (Fr.alloc (Fr.refl _ _ _ w) o).grown hg (fun g hg => ⟨(ho.row g hg).1, by
    obtain ⟨ds, fr, hp⟩ := (ho.row g hg).2.2
    exact ⟨ds, fr, (Below.heap_alloc _ _ _ (ho.row g hg).2.1).trans hp⟩⟩)

set_option maxRecDepth 100000 in
set_option maxHeartbeats 6400000 in
theorem i_source {n0 rb cb N cc : Nat} {l : List Nd} {src : List (List Int)} {i : Nat} {w1 : World} {Ar : Option Addr} {cr k : Nat} {row : List Int} {x : Nd} {bc : Nat} {bs : Nat} {br : Nat} {bn : Nat} (kxc : Bx rb cb w1 bc 132 (.pointer (some ⟨cb, i * 6, none⟩))) (kxs : Bx rb cb w1 bs 28 (.slice Ar row.length cr)) (kxr : Bx rb cb w1 br 83 (.pointer (some ⟨rb, 0, none⟩))) (kxn : Bx rb cb w1 bn 3 (.int .i64 (k : Int))) (hx : l[i]? = some x) (hk0 : x.k = 0) (hk : x.n = (k : Int)) (hrow : src[k]? = some row) (hrl : row.length ≤ 12) (hrd : RdI w1 n0 Ar row) (hz1 : n0 ≤ w1.heap.size) :
    Pulls n0 rb cb N cc l src (srcP src i x) 122 #[.pointer (some ⟨bc, 0, none⟩), .pointer (some ⟨bs, 0, none⟩), .pointer (some ⟨br, 0, none⟩), .pointer (some ⟨bn, 0, none⟩)] w1 := by
  intro fe s W hfr hiw ok hlg
  have cec := (kxc.fr hfr (by decide)).cell
  have ces := (kxs.fr hfr (by decide)).cell
  have cer := (kxr.fr hfr (by decide)).cell
  have cen := (kxn.fr hfr (by decide)).cell
  have hb1 := hfr.below (RS.lop hiw) (RS.loc hiw) hz1
  have hrd2 := hrd.below hb1 (Nat.le_refl _)
  have Hfr := Lib.hid hfr
  have Hiw := Lib.hid hiw
  have Hok := Lib.hid ok
  have Kxc := Lib.hid kxc
  have Kxs := Lib.hid kxs
  have Kxr := Lib.hid kxr
  have Kxn := Lib.hid kxn
  have Hhrd := Lib.hid hrd2
  clear hb1 hrd hrd2
  clear hfr hiw ok   kxc kxs kxr kxn
  have hil : i < s.cs.length := by rw [Hok.out.len]; exact (List.getElem?_eq_some_iff.1 hx).1
  have hat := (StOk.at_ Hok.out hx).1
  have hrowd : src.getD x.n.toNat [] = row := by rw [hk, List.getD_eq_getElem?_getD, Int.toNat_natCast, hrow]; rfl
  have hmo : mostOf x src = (row.length : Int) := by simp only [mostOf, if_pos hk0]; rw [hrowd]
  rw [hmo] at hat
  obtain ⟨q, hq⟩ : ∃ q : Nat, (s.at_ i).n = (q : Int) := ⟨(s.at_ i).n.toNat, by omega⟩
  obtain ⟨d0, d1, d2, d3, d4, d5⟩ := Hiw.out.cl (i := i) hil
  rw [hq] at d0 hat
  obtain ⟨R, cR, hbk, ho⟩ := RS.box Hiw.out
  have hr1 : W.cell? ⟨rb, 1, none⟩ = some (.slice R s.lg.length cR) := hbk.cell 1
  obtain ⟨n, hln⟩ : ∃ n, s.lg.length = n := ⟨_, rfl⟩
  have hrlt : rb < W.heap.size := RS.ltp Hiw.out
  have hne2 : cb ≠ rb := (RS.ne Hiw.out).symm
  have hlop := RS.lop Hiw.out
  have hloc := RS.loc Hiw.out
  have hclt : cb < W.heap.size := RS.ltc Hiw.out
  have hz : n0 ≤ W.heap.size := Nat.le_trans (RS.lop Hiw.out) (Nat.le_of_lt (RS.ltp Hiw.out))
  have Hsay : Hid (∀ (p : Pl) (R2 : Option Addr) (k2 : Nat) (w2 : World), OwnG w2 n0 R2 k2 (s.lg ++ [p]) → (W.drew.drew.alloc (.cells #[.int .i64 p.s, .int .i64 p.i] 76)).grownBy w2 (rowOf R) →
      IW n0 rb cb N cc fe (s.say p) (w2.setCell ⟨rb, 1, none⟩ (.slice R2 (n + 1) k2)) ∧ Fr n0 rb cb W (w2.setCell ⟨rb, 1, none⟩ (.slice R2 (n + 1) k2)) ∧ w2.cell? ⟨rb, 1, none⟩ = some (.slice R n cR) ∧ w2.frozen? ⟨rb, 1, none⟩ = false ∧ Fr n0 rb cb W w2) := Lib.hid fun p R2 k2 w2 h1 h2 => by
    have hD : IW n0 rb cb N cc fe s W.drew.drew := (RS.drew Hiw.out).drew
    have hoD : OwnG W.drew.drew n0 R cR s.lg := ho
    obtain ⟨q1, q2, q3, q4⟩ := RS.said hD (R := R) (cR := cR) hbk hoD h1 h2
    have q5 := RS.sayfr hD hoD h2
    rw [hln] at q1 q2 q3
    exact ⟨q1, ((Fr.refl _ _ _ W).drew.drew).trans q2, q3, q4, ((Fr.refl _ _ _ W).drew.drew).trans q5⟩
  have Ho : Hid (OwnG W.drew.drew n0 R cR s.lg) := Lib.hid ho
  have Hln := Lib.hid hln
  rw [hln] at hr1 hlg
  have Hq := Lib.hid hq
  have Hx := Lib.hid hx
  have Hk := Lib.hid hk
  have Hrowd := Lib.hid hrowd
  clear hbk ho hln hq hx hk hrow hrowd hmo hk0
  by_cases hend : q = row.length
  · have Hend := Lib.hid hend
    subst hend
    have hm : srcP src i x s = (s.say ⟨(k : Int), -1⟩, none) := by unfold srcP; rw [if_pos (by rw [Hq.out, Hrowd.out]), Hk.out]
    have Hm0 := Lib.hid hm
    clear hm
    go_enter Try.func122, Try.ntmps122
    go_wp2_with fail
    go_region
    go_wp2_with fail
    refine wp_region_held_drew (S := fun w' => w'.cell? ⟨br, 0, none⟩ = some (.pointer (some ⟨rb, 0, none⟩)) ∧ w'.cell? ⟨bn, 0, none⟩ = some (.int .i64 (k : Int))) (by kernel_rfl) (by first | exact ⟨cer, cen⟩ | go_keep) (fun hHeld => ?_)
    refine wpAnyH_take (i := 0) (v := ?_) rfl (by kernel_rfl) (by kernel_rfl) (by kernel_rfl) (fun _ _ _ h => h) (Or.inl ⟨by rfl, ?_⟩) (by assumption) ?_
    rotate_left 1
    · intro w hSw
      try dsimp only at hSw
      go_simp
      all_goals with_reducible rfl
    refine wpAnyH_take (i := 1) (v := ?_) rfl (by kernel_rfl) (by kernel_rfl) (by kernel_rfl) (fun _ _ _ h => h) (Or.inl ⟨by rfl, ?_⟩) (by assumption) ?_
    rotate_left 1
    · intro w hSw
      try dsimp only at hSw
      go_simp
      all_goals with_reducible rfl
    refine wpAnyH_take (i := 2) (v := ?_) rfl (by kernel_rfl) (by kernel_rfl) (by kernel_rfl) (fun _ _ _ h => h) (Or.inl ⟨by rfl, ?_⟩) (by assumption) ?_
    rotate_left 1
    · intro w hSw
      try dsimp only at hSw
      go_simp
      all_goals with_reducible rfl
    refine wpAnyH_take (i := 3) (v := ?_) rfl (by kernel_rfl) (by kernel_rfl) (by kernel_rfl) (fun _ _ _ h => h) (Or.inl ⟨by rfl, ?_⟩) (by assumption) ?_
    rotate_left 1
    · intro w hSw
      try dsimp only at hSw
      go_simp
      all_goals with_reducible rfl
    refine wpAnyH_take (i := 5) (v := ?_) rfl (by kernel_rfl) (by kernel_rfl) (by kernel_rfl) (fun _ _ _ h => h) (Or.inl ⟨by rfl, ?_⟩) (by assumption) ?_
    rotate_left 1
    · intro w hSw
      try dsimp only at hSw
      go_simp
      all_goals with_reducible rfl
    refine wpAnyH_take (i := 6) (v := ?_) rfl (by kernel_rfl) (by kernel_rfl) (by kernel_rfl) (fun _ _ _ h => h) (Or.inl ⟨by rfl, ?_⟩) (by assumption) ?_
    rotate_left 1
    · intro w hSw
      try dsimp only at hSw
      go_simp
      all_goals with_reducible rfl
    refine wpAnyH_ready (rs := [4, 7]) (by kernel_rfl) (by simp) ?_
    refine AllReadyH.cons rfl (fun K hK => ?_) ?_
    · go_simp
      refine hK.out _ _ ?_ (fun hHeld => ?_)
      · first | exact ⟨cer, cen⟩ | exact ks | exact ks2 | go_keep
      clear hK K
      refine wpAnyH_ready (rs := [7]) (by kernel_rfl) (by simp) ?_
      refine AllReadyH.cons rfl (fun K hK => ?_) ?_
      · go_simp
        refine hK.out _ _ ?_ (fun hHeld => ?_)
        · first | exact ⟨cer, cen⟩ | exact ks | exact ks2 | go_keep
        clear hK K
        refine wpAnyH_ready (rs := [8]) (by kernel_rfl) (by simp) ?_
        refine AllReadyH.cons rfl (fun K hK => ?_) ?_
        · refine step_append_pl rfl _ _ rfl n0 R cR s.lg ⟨(k : Int), -1⟩ n Hln.out rfl Ho.out _ rfl rfl (by omega) hz ?_
          intro R2 k2 w2 ho2 hg2
          obtain ⟨q1, q2, q3, q4, q5⟩ := Hsay.out _ _ _ _ ho2 hg2
          have ks := And.intro (Kxr.out.fr (Hfr.out.trans q5) (by decide)).cell (Kxn.out.fr (Hfr.out.trans q5) (by decide)).cell
          have ks2 := And.intro (Kxr.out.fr (Hfr.out.trans q2) (by decide)).cell (Kxn.out.fr (Hfr.out.trans q2) (by decide)).cell
          have HS := Lib.hid q1
          have HF := Lib.hid q2
          clear q1 q2 q5 ho2 hg2
          refine hK.out _ _ ?_ (fun hHeld => ?_)
          · first | exact ⟨cer, cen⟩ | exact ks | exact ks2 | go_keep
          clear hK K
          refine wpAnyH_take (i := 9) (v := ?_) rfl (by kernel_rfl) (by kernel_rfl) (by kernel_rfl) (fun _ _ _ h => h) (Or.inl ⟨by rfl, ?_⟩) (by assumption) ?_
          rotate_left 1
          · intro w hSw
            try dsimp only at hSw
            go_simp
            all_goals with_reducible rfl
          refine wpAnyH_take (i := 10) (v := ?_) rfl (by kernel_rfl) (by kernel_rfl) (by kernel_rfl) (fun _ _ _ h => h) (Or.inl ⟨by rfl, ?_⟩) (by assumption) ?_
          rotate_left 1
          · intro w hSw
            try dsimp only at hSw
            go_simp
            all_goals with_reducible rfl
          refine wpAnyH_ready (rs := [11]) (by kernel_rfl) (by simp) ?_
          refine AllReadyH.cons rfl (fun K hK => ?_) ?_
          · go_simp
            refine hK.out _ _ ?_ (fun hHeld => ?_)
            · first | exact ⟨cer, cen⟩ | exact ks | exact ks2 | go_keep
            clear hK K
            refine wpAnyH_done (by kernel_rfl) ?_ _
            go_wp2_with fail
            refine bodyPost_ret (v := .tuple #[.int .i64 0, .bool false]) (by simp [results, Try.results122, go_sem]) rfl ?_
            rw [Hm0.out]
            exact ⟨rfl, HS.out, HF.out⟩
          exact AllReadyH.nil
        exact AllReadyH.nil
      exact AllReadyH.nil
    refine AllReadyH.cons rfl (fun K hK => ?_) ?_
    · go_simp
      refine hK.out _ _ ?_ (fun hHeld => ?_)
      · first | exact ⟨cer, cen⟩ | exact ks | exact ks2 | go_keep
      clear hK K
      refine wpAnyH_ready (rs := [4]) (by kernel_rfl) (by simp) ?_
      refine AllReadyH.cons rfl (fun K hK => ?_) ?_
      · go_simp
        refine hK.out _ _ ?_ (fun hHeld => ?_)
        · first | exact ⟨cer, cen⟩ | exact ks | exact ks2 | go_keep
        clear hK K
        refine wpAnyH_ready (rs := [8]) (by kernel_rfl) (by simp) ?_
        refine AllReadyH.cons rfl (fun K hK => ?_) ?_
        · refine step_append_pl rfl _ _ rfl n0 R cR s.lg ⟨(k : Int), -1⟩ n Hln.out rfl Ho.out _ rfl rfl (by omega) hz ?_
          intro R2 k2 w2 ho2 hg2
          obtain ⟨q1, q2, q3, q4, q5⟩ := Hsay.out _ _ _ _ ho2 hg2
          have ks := And.intro (Kxr.out.fr (Hfr.out.trans q5) (by decide)).cell (Kxn.out.fr (Hfr.out.trans q5) (by decide)).cell
          have ks2 := And.intro (Kxr.out.fr (Hfr.out.trans q2) (by decide)).cell (Kxn.out.fr (Hfr.out.trans q2) (by decide)).cell
          have HS := Lib.hid q1
          have HF := Lib.hid q2
          clear q1 q2 q5 ho2 hg2
          refine hK.out _ _ ?_ (fun hHeld => ?_)
          · first | exact ⟨cer, cen⟩ | exact ks | exact ks2 | go_keep
          clear hK K
          refine wpAnyH_take (i := 9) (v := ?_) rfl (by kernel_rfl) (by kernel_rfl) (by kernel_rfl) (fun _ _ _ h => h) (Or.inl ⟨by rfl, ?_⟩) (by assumption) ?_
          rotate_left 1
          · intro w hSw
            try dsimp only at hSw
            go_simp
            all_goals with_reducible rfl
          refine wpAnyH_take (i := 10) (v := ?_) rfl (by kernel_rfl) (by kernel_rfl) (by kernel_rfl) (fun _ _ _ h => h) (Or.inl ⟨by rfl, ?_⟩) (by assumption) ?_
          rotate_left 1
          · intro w hSw
            try dsimp only at hSw
            go_simp
            all_goals with_reducible rfl
          refine wpAnyH_ready (rs := [11]) (by kernel_rfl) (by simp) ?_
          refine AllReadyH.cons rfl (fun K hK => ?_) ?_
          · go_simp
            refine hK.out _ _ ?_ (fun hHeld => ?_)
            · first | exact ⟨cer, cen⟩ | exact ks | exact ks2 | go_keep
            clear hK K
            refine wpAnyH_done (by kernel_rfl) ?_ _
            go_wp2_with fail
            refine bodyPost_ret (v := .tuple #[.int .i64 0, .bool false]) (by simp [results, Try.results122, go_sem]) rfl ?_
            rw [Hm0.out]
            exact ⟨rfl, HS.out, HF.out⟩
          exact AllReadyH.nil
        exact AllReadyH.nil
      exact AllReadyH.nil
    exact AllReadyH.nil
  · have hlt : q < row.length := by omega
    obtain ⟨ad2, v, rfl, hab2, hv, hvc⟩ := Hhrd.out.at2 hlt
    have hw1 : IntKind.i64.wrap ((q : Int) + 1) = (q : Int) + 1 := IntWalk.i64_in _ (by omega)
    have hw2 : IntKind.i64.wrap ((q : Int) + 1 - 1) = (q : Int) := by rw [show (q : Int) + 1 - 1 = q by omega]; exact IntWalk.i64_in _ (by omega)
    have hne : (q : Int) ≠ row.length := by omega
    have hqlt : (q : Int) < row.length := by omega
    have Hv := Lib.hid hv
    have hm : srcP src i x s = ((s.say ⟨(k : Int), (q : Int)⟩).put i { (s.say ⟨(k : Int), (q : Int)⟩).at_ i with n := (q : Int) + 1 }, some v) := by
      unfold srcP
      rw [if_neg (by rw [Hq.out, Hrowd.out]; exact hne), Hk.out, Hq.out]
      have hv2 : (src.getD ((k : Int)).toNat []).getD ((q : Int)).toNat 0 = v := by
        rw [← Hk.out, Hrowd.out, List.getD_eq_getElem?_getD, Int.toNat_natCast, Hv.out]; rfl
      rw [hv2]
      rfl
    have Hm := Lib.hid hm
    clear hv hend hm
    go_enter Try.func122, Try.ntmps122
    go_wp2_with fail
    go_region
    go_wp2_with fail
    refine wp_region_held_drew (S := fun w' => w'.cell? ⟨br, 0, none⟩ = some (.pointer (some ⟨rb, 0, none⟩)) ∧ w'.cell? ⟨bn, 0, none⟩ = some (.int .i64 (k : Int)) ∧ w'.cell? ⟨bc, 0, none⟩ = some (.pointer (some ⟨cb, i * 6, none⟩)) ∧ w'.cell? ⟨cb, i * 6, none⟩ = some (.int .i64 (q : Int))) (by kernel_rfl) (by first | exact ⟨cer, cen, cec, d0⟩ | go_keep) (fun hHeld => ?_)
    refine wpAnyH_take (i := 0) (v := ?_) rfl (by kernel_rfl) (by kernel_rfl) (by kernel_rfl) (fun _ _ _ h => h) (Or.inl ⟨by rfl, ?_⟩) (by assumption) ?_
    rotate_left 1
    · intro w hSw
      try dsimp only at hSw
      go_simp
      all_goals with_reducible rfl
    refine wpAnyH_take (i := 1) (v := ?_) rfl (by kernel_rfl) (by kernel_rfl) (by kernel_rfl) (fun _ _ _ h => h) (Or.inl ⟨by rfl, ?_⟩) (by assumption) ?_
    rotate_left 1
    · intro w hSw
      try dsimp only at hSw
      go_simp
      all_goals with_reducible rfl
    refine wpAnyH_take (i := 2) (v := ?_) rfl (by kernel_rfl) (by kernel_rfl) (by kernel_rfl) (fun _ _ _ h => h) (Or.inl ⟨by rfl, ?_⟩) (by assumption) ?_
    rotate_left 1
    · intro w hSw
      try dsimp only at hSw
      go_simp
      all_goals with_reducible rfl
    refine wpAnyH_take (i := 3) (v := ?_) rfl (by kernel_rfl) (by kernel_rfl) (by kernel_rfl) (fun _ _ _ h => h) (Or.inl ⟨by rfl, ?_⟩) (by assumption) ?_
    rotate_left 1
    · intro w hSw
      try dsimp only at hSw
      go_simp
      all_goals with_reducible rfl
    refine wpAnyH_take (i := 5) (v := ?_) rfl (by kernel_rfl) (by kernel_rfl) (by kernel_rfl) (fun _ _ _ h => h) (Or.inl ⟨by rfl, ?_⟩) (by assumption) ?_
    rotate_left 1
    · intro w hSw
      try dsimp only at hSw
      go_simp
      all_goals with_reducible rfl
    refine wpAnyH_take (i := 6) (v := ?_) rfl (by kernel_rfl) (by kernel_rfl) (by kernel_rfl) (fun _ _ _ h => h) (Or.inl ⟨by rfl, ?_⟩) (by assumption) ?_
    rotate_left 1
    · intro w hSw
      try dsimp only at hSw
      go_simp
      all_goals with_reducible rfl
    refine wpAnyH_take (i := 7) (v := ?_) rfl (by kernel_rfl) (by kernel_rfl) (by kernel_rfl) (fun _ _ _ h => h) (Or.inl ⟨by rfl, ?_⟩) (by assumption) ?_
    rotate_left 1
    · intro w hSw
      try dsimp only at hSw
      go_simp
      all_goals with_reducible rfl
    refine wpAnyH_take (i := 8) (v := ?_) rfl (by kernel_rfl) (by kernel_rfl) (by kernel_rfl) (fun _ _ _ h => h) (Or.inl ⟨by rfl, ?_⟩) (by assumption) ?_
    rotate_left 1
    · intro w hSw
      try dsimp only at hSw
      go_simp
      all_goals with_reducible rfl
    refine wpAnyH_take (i := 9) (v := ?_) rfl (by kernel_rfl) (by kernel_rfl) (by kernel_rfl) (fun _ _ _ h => h) (Or.inl ⟨by rfl, ?_⟩) (by assumption) ?_
    rotate_left 1
    · intro w hSw
      try dsimp only at hSw
      go_simp
      all_goals with_reducible rfl
    refine wpAnyH_take (i := 10) (v := ?_) rfl (by kernel_rfl) (by kernel_rfl) (by kernel_rfl) (fun _ _ _ h => h) (Or.inl ⟨by rfl, ?_⟩) (by assumption) ?_
    rotate_left 1
    · intro w hSw
      try dsimp only at hSw
      go_simp
      all_goals with_reducible rfl
    refine wpAnyH_ready (rs := [4, 11]) (by kernel_rfl) (by simp) ?_
    refine AllReadyH.cons rfl (fun K hK => ?_) ?_
    · go_simp
      refine hK.out _ _ ?_ (fun hHeld => ?_)
      · first | exact ⟨cer, cen, cec, d0⟩ | exact ks | exact ks2 | go_keep
      clear hK K
      refine wpAnyH_ready (rs := [11]) (by kernel_rfl) (by simp) ?_
      refine AllReadyH.cons rfl (fun K hK => ?_) ?_
      · go_simp
        refine hK.out _ _ ?_ (fun hHeld => ?_)
        · first | exact ⟨cer, cen, cec, d0⟩ | exact ks | exact ks2 | go_keep
        clear hK K
        refine wpAnyH_ready (rs := [12]) (by kernel_rfl) (by simp) ?_
        refine AllReadyH.cons rfl (fun K hK => ?_) ?_
        · refine step_append_pl rfl _ _ rfl n0 R cR s.lg ⟨(k : Int), (q : Int)⟩ n Hln.out rfl Ho.out _ rfl rfl (by omega) hz ?_
          intro R2 k2 w2 ho2 hg2
          obtain ⟨q1, q2, q3, q4, q5⟩ := Hsay.out _ _ _ _ ho2 hg2
          have hil' : i < (s.say ⟨(k : Int), (q : Int)⟩).cs.length := hil
          have e0 := (RS.cl q1 (i := i) hil').c0
          rw [show (s.say ⟨(k : Int), (q : Int)⟩).at_ i = s.at_ i from rfl, Hq.out] at e0
          have e1 : w2.cell? ⟨cb, i * 6, none⟩ = some (.int .i64 (q : Int)) := by rw [← e0]; exact (World.cell?_of_block (Below.heap_setCell w2 ⟨rb, 1, none⟩ _ cb hne2)).symm
          have ks := And.intro (Kxr.out.fr (Hfr.out.trans q5) (by decide)).cell (And.intro (Kxn.out.fr (Hfr.out.trans q5) (by decide)).cell (And.intro (Kxc.out.fr (Hfr.out.trans q5) (by decide)).cell e1))
          have ks2 := And.intro (Kxr.out.fr (Hfr.out.trans q2) (by decide)).cell (And.intro (Kxn.out.fr (Hfr.out.trans q2) (by decide)).cell (And.intro (Kxc.out.fr (Hfr.out.trans q2) (by decide)).cell e0))
          have g0 := RS.free q1 (i * 6)
          have p1 := RS.setN q1 (i := i) hil' ((q : Int) + 1)
          have p2 := q2.trans ((Fr.refl n0 rb cb _).setc (i * 6) (.int .i64 ((q : Int) + 1)))
          have z0 := (RS.cl p1 (i := i) (by simp only [PS.put, List.length_set]; exact hil)).c0
          rw [PS.at_put hil'] at z0
          simp only at z0
          have zc := (Kxc.out.fr (Hfr.out.trans p2) (by decide)).cell
          have zs := (Kxs.out.fr (Hfr.out.trans p2) (by decide)).cell
          have zv := ((p2.below hlop hloc hz).cell hab2).trans hvc
          have HS := Lib.hid p1.drew
          have HF := Lib.hid p2.drew
          have zc0 := (Kxc.out.fr (Hfr.out.trans q2) (by decide)).cell
          clear q1 q2 q5 ho2 hg2 p1 p2 e1
          refine hK.out _ _ ?_ (fun hHeld => ?_)
          · first | exact ⟨cer, cen, cec, d0⟩ | exact ks | exact ks2 | go_keep
          clear hK K
          refine wpAnyH_take (i := 13) (v := ?_) rfl (by kernel_rfl) (by kernel_rfl) (by kernel_rfl) (fun _ _ _ h => h) (Or.inl ⟨by rfl, ?_⟩) (by assumption) ?_
          rotate_left 1
          · intro w hSw
            try dsimp only at hSw
            go_simp
            all_goals with_reducible rfl
          refine wpAnyH_take (i := 14) (v := ?_) rfl (by kernel_rfl) (by kernel_rfl) (by kernel_rfl) (fun _ _ _ h => h) (Or.inl ⟨by rfl, ?_⟩) (by assumption) ?_
          rotate_left 1
          · intro w hSw
            try dsimp only at hSw
            go_simp
            all_goals with_reducible rfl
          refine wpAnyH_ready (rs := [15]) (by kernel_rfl) (by simp) ?_
          refine AllReadyH.cons rfl (fun K hK => ?_) ?_
          · go_simp
            refine hK.out _ _ ?_ (fun hHeld => ?_)
            · first | exact ⟨cer, cen, cec, d0⟩ | exact ks | exact ks2 | go_keep
            clear hK K
            refine wpAnyH_done (by kernel_rfl) ?_ _
            go_wp2_with fail
            go_region
            go_wp2_with fail
            refine bodyPost_ret (v := .tuple #[.int .i64 v, .bool true]) (by simp [results, Try.results122, go_sem]) rfl ?_
            rw [Hm.out]
            exact ⟨rfl, HS.out, HF.out⟩
          exact AllReadyH.nil
        exact AllReadyH.nil
      exact AllReadyH.nil
    refine AllReadyH.cons rfl (fun K hK => ?_) ?_
    · go_simp
      refine hK.out _ _ ?_ (fun hHeld => ?_)
      · first | exact ⟨cer, cen, cec, d0⟩ | exact ks | exact ks2 | go_keep
      clear hK K
      refine wpAnyH_ready (rs := [4]) (by kernel_rfl) (by simp) ?_
      refine AllReadyH.cons rfl (fun K hK => ?_) ?_
      · go_simp
        refine hK.out _ _ ?_ (fun hHeld => ?_)
        · first | exact ⟨cer, cen, cec, d0⟩ | exact ks | exact ks2 | go_keep
        clear hK K
        refine wpAnyH_ready (rs := [12]) (by kernel_rfl) (by simp) ?_
        refine AllReadyH.cons rfl (fun K hK => ?_) ?_
        · refine step_append_pl rfl _ _ rfl n0 R cR s.lg ⟨(k : Int), (q : Int)⟩ n Hln.out rfl Ho.out _ rfl rfl (by omega) hz ?_
          intro R2 k2 w2 ho2 hg2
          obtain ⟨q1, q2, q3, q4, q5⟩ := Hsay.out _ _ _ _ ho2 hg2
          have hil' : i < (s.say ⟨(k : Int), (q : Int)⟩).cs.length := hil
          have e0 := (RS.cl q1 (i := i) hil').c0
          rw [show (s.say ⟨(k : Int), (q : Int)⟩).at_ i = s.at_ i from rfl, Hq.out] at e0
          have e1 : w2.cell? ⟨cb, i * 6, none⟩ = some (.int .i64 (q : Int)) := by rw [← e0]; exact (World.cell?_of_block (Below.heap_setCell w2 ⟨rb, 1, none⟩ _ cb hne2)).symm
          have ks := And.intro (Kxr.out.fr (Hfr.out.trans q5) (by decide)).cell (And.intro (Kxn.out.fr (Hfr.out.trans q5) (by decide)).cell (And.intro (Kxc.out.fr (Hfr.out.trans q5) (by decide)).cell e1))
          have ks2 := And.intro (Kxr.out.fr (Hfr.out.trans q2) (by decide)).cell (And.intro (Kxn.out.fr (Hfr.out.trans q2) (by decide)).cell (And.intro (Kxc.out.fr (Hfr.out.trans q2) (by decide)).cell e0))
          have g0 := RS.free q1 (i * 6)
          have p1 := RS.setN q1 (i := i) hil' ((q : Int) + 1)
          have p2 := q2.trans ((Fr.refl n0 rb cb _).setc (i * 6) (.int .i64 ((q : Int) + 1)))
          have z0 := (RS.cl p1 (i := i) (by simp only [PS.put, List.length_set]; exact hil)).c0
          rw [PS.at_put hil'] at z0
          simp only at z0
          have zc := (Kxc.out.fr (Hfr.out.trans p2) (by decide)).cell
          have zs := (Kxs.out.fr (Hfr.out.trans p2) (by decide)).cell
          have zv := ((p2.below hlop hloc hz).cell hab2).trans hvc
          have HS := Lib.hid p1.drew
          have HF := Lib.hid p2.drew
          have zc0 := (Kxc.out.fr (Hfr.out.trans q2) (by decide)).cell
          clear q1 q2 q5 ho2 hg2 p1 p2 e1
          refine hK.out _ _ ?_ (fun hHeld => ?_)
          · first | exact ⟨cer, cen, cec, d0⟩ | exact ks | exact ks2 | go_keep
          clear hK K
          refine wpAnyH_take (i := 13) (v := ?_) rfl (by kernel_rfl) (by kernel_rfl) (by kernel_rfl) (fun _ _ _ h => h) (Or.inl ⟨by rfl, ?_⟩) (by assumption) ?_
          rotate_left 1
          · intro w hSw
            try dsimp only at hSw
            go_simp
            all_goals with_reducible rfl
          refine wpAnyH_take (i := 14) (v := ?_) rfl (by kernel_rfl) (by kernel_rfl) (by kernel_rfl) (fun _ _ _ h => h) (Or.inl ⟨by rfl, ?_⟩) (by assumption) ?_
          rotate_left 1
          · intro w hSw
            try dsimp only at hSw
            go_simp
            all_goals with_reducible rfl
          refine wpAnyH_ready (rs := [15]) (by kernel_rfl) (by simp) ?_
          refine AllReadyH.cons rfl (fun K hK => ?_) ?_
          · go_simp
            refine hK.out _ _ ?_ (fun hHeld => ?_)
            · first | exact ⟨cer, cen, cec, d0⟩ | exact ks | exact ks2 | go_keep
            clear hK K
            refine wpAnyH_done (by kernel_rfl) ?_ _
            go_wp2_with fail
            go_region
            go_wp2_with fail
            refine bodyPost_ret (v := .tuple #[.int .i64 v, .bool true]) (by simp [results, Try.results122, go_sem]) rfl ?_
            rw [Hm.out]
            exact ⟨rfl, HS.out, HF.out⟩
          exact AllReadyH.nil
        exact AllReadyH.nil
      exact AllReadyH.nil
    exact AllReadyH.nil

end Go.Proofs.Ytjhdjfobbgfpfaa

/- Contracts: lists out of lists, by the program (item by item). -/
namespace Go.Proofs.Ytjhdjfobbgfpfaa
open Go.RowKit

end Go.Proofs.Ytjhdjfobbgfpfaa

/- Contracts: the list of a node with one below, by the program. -/
namespace Go.Proofs.Ytjhdjfobbgfpfaa
open Go.RowKit

end Go.Proofs.Ytjhdjfobbgfpfaa

/- Contracts: numbers of the call's own are sorted, and equal neighbours left out. -/
namespace Go.Proofs.Ytjhdjfobbgfpfaa
open Go.RowKit Go.Sort

/-- The slice at A holds the numbers l from the beginning of a block of the call's own, with room for c. -/
def RowJ (w : World) (base : Nat) (A : Option Addr) (c : Nat) (l : List Int) : Prop :=
  ∃ g cs, A = some ⟨g, 0, none⟩ ∧ base ≤ g ∧ Bk w g 3 cs ∧ l.length ≤ c ∧ ∀ (k : Nat) (x : Int), l[k]? = some x → cs[k]? = some (.int .i64 x)
theorem OwnJ.rowJ {w : World} {base c : Nat} {A : Option Addr} {l : List Int} (h : OwnJ w base A c l) (hl : 0 < l.length) : RowJ w base A c l := by
  obtain ⟨g, cs, e, h1, h2, h3, h4⟩ := h.bk hl
  exact ⟨g, cs, e, h1, h2, h3, h4⟩
theorem RowJ.ownI {w : World} {base c : Nat} {A : Option Addr} {l : List Int} (h : RowJ w base A c l) : OwnI w base w.heap.size A l := fun _ => by
  obtain ⟨g, cs, e, hb, hbk, _, hc⟩ := h
  exact ⟨g, 0, cs, e, hb, hbk.lt, hbk, fun k x hx => by rw [Nat.zero_add]; exact hc k x hx⟩
theorem RowJ.row {w : World} {base c : Nat} {A : Option Addr} {l : List Int} (h : RowJ w base A c l) : ∀ g, rowOf A = some g → base ≤ g := fun g hg => by
  obtain ⟨g', cs, e, hb, _⟩ := h
  subst e
  have : g' = g := Option.some.inj hg
  omega
theorem RowJ.holds {w : World} {g : Nat} {cs : List Value} {l : List Int} (hb : Bk w g 3 cs) (hc : ∀ (k : Nat) (x : Int), l[k]? = some x → cs[k]? = some (.int .i64 x)) : Holds (Value.int .i64) w g 0 l.toArray := fun j hj => by
  have hj' : j < l.length := by simpa using hj
  rw [Nat.zero_add]
  refine ⟨?_, hb.free j⟩
  rw [hb.cell, hc j l[j] (List.getElem?_eq_getElem hj')]
  simp [hj']

/-- The row after numbers were written over its first ones. -/
theorem put_row {w : World} {g : Nat} {cs : List Value} (hb : Bk w g 3 cs) (d : List Int) (hd : d.length ≤ cs.length) (n : Nat) (os : Array Obj) :
    (∃ cs', Bk (grow (putRow (Value.int .i64) (Go.Sort.ahead w n) g 0 d.toArray) os) g 3 cs' ∧ ∀ (k : Nat) (x : Int), d[k]? = some x → cs'[k]? = some (.int .i64 x)) ∧ w.grownBy (grow (putRow (Value.int .i64) (Go.Sort.ahead w n) g 0 d.toArray) os) (some g) := by
  have hlt := hb.lt
  have hh : w.heap[g]? = some (.cells cs.toArray 3 (0, 0)) := hb
  refine ⟨⟨(putCells (Value.int .i64) 0 d.toArray cs.toArray).toList, ?_, fun k x hx => ?_⟩, ⟨rfl, rfl, rfl, ?_, fun k hk hne => ?_⟩⟩
  · unfold Bk grow putRow mapBlock Go.Sort.ahead
    simp only
    rw [Array.getElem?_append_left (by simpa using hlt), Array.getElem?_modify, if_pos rfl, hh]
    simp [onCells]
  · have hk : k < d.length := (List.getElem?_eq_some_iff.1 hx).1
    simp only [putCells]
    rw [Array.getElem?_toList, Array.getElem?_mapIdx]
    have hk2 : k < cs.toArray.size := by simp; omega
    rw [Array.getElem?_eq_getElem hk2]
    simp only [Option.map_some]
    rw [if_pos (by simp; omega)]
    have : d[k] = x := (List.getElem?_eq_some_iff.1 hx).2
    simp [hk, this]
  · simp [grow, putRow, mapBlock, Go.Sort.ahead]
  · unfold grow putRow mapBlock Go.Sort.ahead
    simp only
    rw [Array.getElem?_append_left (by simpa using hk), Array.getElem?_modify, if_neg (fun e => hne (by rw [e]))]

end Go.Proofs.Ytjhdjfobbgfpfaa

/- Contracts: equal neighbours once, by the program: the library's Compact at a slice of the call's own. -/
namespace Go.Proofs.Ytjhdjfobbgfpfaa
open Go.RowKit Go.Sort

theorem put_rowV {w : World} {g o : Nat} {cs : List Value} (hb : Bk w g 3 cs) (d : List Int) (hd : o + d.length ≤ cs.length) (n : Nat) :
    (∃ cs', cs'.length = cs.length ∧ Bk (putRow (Value.int .i64) (Go.Sort.ahead w n) g o d.toArray) g 3 cs' ∧ ∀ (k : Nat) (x : Int), d[k]? = some x → cs'[o + k]? = some (.int .i64 x)) ∧ w.grownBy (putRow (Value.int .i64) (Go.Sort.ahead w n) g o d.toArray) (some g) := by
  have hlt := hb.lt
  have hh : w.heap[g]? = some (.cells cs.toArray 3 (0, 0)) := hb
  refine ⟨⟨(putCells (Value.int .i64) o d.toArray cs.toArray).toList, by simp [putCells], ?_, fun k x hx => ?_⟩, ⟨rfl, rfl, rfl, ?_, fun k hk hne => ?_⟩⟩
  · unfold Bk putRow mapBlock Go.Sort.ahead
    simp only
    rw [Array.getElem?_modify, if_pos rfl, hh]
    simp [onCells]
  · have hk : k < d.length := (List.getElem?_eq_some_iff.1 hx).1
    simp only [putCells]
    rw [Array.getElem?_toList, Array.getElem?_mapIdx]
    have hk2 : o + k < cs.toArray.size := by simp; omega
    rw [Array.getElem?_eq_getElem hk2]
    simp only [Option.map_some]
    rw [if_pos (by simp; omega)]
    have : d[k] = x := (List.getElem?_eq_some_iff.1 hx).2
    simp [hk, this]
  · simp [putRow, mapBlock, Go.Sort.ahead]
  · unfold putRow mapBlock Go.Sort.ahead
    simp only
    rw [Array.getElem?_modify, if_neg (fun e => hne (by rw [e]))]

end Go.Proofs.Ytjhdjfobbgfpfaa

/- Contracts: equal neighbours once, and copies, by the program. -/
namespace Go.Proofs.Ytjhdjfobbgfpfaa
open Go.RowKit

end Go.Proofs.Ytjhdjfobbgfpfaa

/- Contracts: lists out of lists, by the program (by turns). -/
namespace Go.Proofs.Ytjhdjfobbgfpfaa
open Go.RowKit
end Go.Proofs.Ytjhdjfobbgfpfaa

/- Contracts: lists out of lists, by the program (at equal places). -/
namespace Go.Proofs.Ytjhdjfobbgfpfaa
open Go.RowKit
end Go.Proofs.Ytjhdjfobbgfpfaa

/- Contracts: slices put one behind the other (the library's function; what Grow gives is asked of it). -/
namespace Go.Proofs.Ytjhdjfobbgfpfaa
open Go.RowKit

theorem flat_succ {rows : List (List Int)} {k : Nat} {r : List Int} (h : rows[k]? = some r) : (rows.take (k + 1)).flatten = (rows.take k).flatten ++ r := by
  rw [take_succ_of h, List.flatten_append]; simp

end Go.Proofs.Ytjhdjfobbgfpfaa

/- Contracts: what the library's Grow gives at a slice that is not there. -/
namespace Go.Proofs.Ytjhdjfobbgfpfaa
open Go.RowKit

theorem wpList_append_zeros {ops : Array Oper} {rest : List Oper} {o : Oper} {a : Act} {Q : Exit → Act → World → Prop} {w : World} (hgd : o.guard = none) (s y : Operand)
    (ho : o.op = .call { callee := .builtin .append, args := #[s, y], argTypes := #[28, 3] }) (n : Nat) (hs : a.eval s = .slice none 0 0) (hx : a.eval y = .int .i64 n) (G : Nat) (Z : Array Value)
    (hr : ∀ ty, (Builtin.append_ #[28, 3] ty #[.slice none 0 0, .int .i64 n]).run Try.prog w = .ok (.slice (some ⟨w.heap.size, 0, none⟩) n G) (w.drew.alloc (.cells Z 3)))
    (h : wpList Try.prog ops Q rest (a.put o.dst (.slice (some ⟨w.heap.size, 0, none⟩) n G)) (w.drew.alloc (.cells Z 3))) : wpList Try.prog ops Q (o :: rest) a w := by
  refine wpList_plain hgd fun K hK => ?_
  unfold Oper.wp execOp
  simp only [ho, resolve, invoke, builtin, Sem.run_bind, Sem.run_pure, Result.andThen_ok, List.map_toArray, List.map_cons, List.map_nil, hs, hx, hr]
  exact hK _ _ h

end Go.Proofs.Ytjhdjfobbgfpfaa

/- Contracts: two lists merged, by the program. -/
namespace Go.Proofs.Ytjhdjfobbgfpfaa
open Go.RowKit

/-- The length of a slice. -/
def slLen : Value → Nat
  | .slice _ n _ => n
  | _ => 0
theorem OwnV.form {w : World} {base c : Nat} {A : Option Addr} {x : Int} {l : List Int} (h : OwnV w base A c (x :: l)) : ∃ g o, A = some ⟨g, o, none⟩ ∧ w.cell? ⟨g, o, none⟩ = some (.int .i64 x) ∧ g < w.heap.size ∧ base ≤ g ∧ l.length + 1 ≤ c := by
  rcases h with ⟨_, _, h⟩ | ⟨g, o, cs, hA, hb, hbk, h1, h2, hc⟩
  · cases h
  · exact ⟨g, o, hA, by rw [hbk.cell]; exact hc 0 x rfl, hbk.lt, hb, h2⟩
theorem OwnV.cell0 {w : World} {base c g o : Nat} {x : Int} {l : List Int} (h : OwnV w base (some ⟨g, o, none⟩) c (x :: l)) : w.cell? ⟨g, o, none⟩ = some (.int .i64 x) := by
  obtain ⟨g', o', e, h2, _⟩ := h.form
  injection e with e
  injection e with e1 e2
  subst e1 e2
  exact h2
theorem OwnV.tail {w : World} {base c g o : Nat} {x : Int} {l : List Int} (h : OwnV w base (some ⟨g, o, none⟩) c (x :: l)) : OwnV w base (some ⟨g, o + 1, none⟩) (c - 1) l := h.drop 1 (by simp)
theorem OwnV.tail0 {w : World} {base g o : Nat} {x : Int} {l : List Int} (h : OwnV w base (some ⟨g, o, none⟩) 1 (x :: l)) : OwnV w base (some ⟨g, o, none⟩) 0 l := h.drop0 1 (by simp) (Nat.le_refl _)

end Go.Proofs.Ytjhdjfobbgfpfaa

/- Contracts: the list of a node with two below, by the program. -/
namespace Go.Proofs.Ytjhdjfobbgfpfaa
open Go.RowKit

end Go.Proofs.Ytjhdjfobbgfpfaa

/- Contracts: the list of a node with one below, and with two, by the program, all kinds. -/
namespace Go.Proofs.Ytjhdjfobbgfpfaa
open Go.RowKit

end Go.Proofs.Ytjhdjfobbgfpfaa

/- Contracts: the library's Chunk, and the sums of groups by the program. -/
namespace Go.Proofs.Ytjhdjfobbgfpfaa
open Go.RowKit Go.Shelf

attribute [local go_sem] Oper.semAt_some

theorem batTo_chunk {n : Nat} {a : List Int} {i : Nat} (hi : i % n = 0) : ∀ m : Nat, m < n → i + m < a.length → batTo n a (i + (m + 1)) = batTo n a i ++ [sumL 0 ((a.drop i).take (m + 1))]
  | 0, _, hl => by
    obtain ⟨x, hx⟩ := get_of_lt a hl
    have hd : (a.drop i)[0]? = some x := by rw [List.getElem?_drop]; exact hx
    rw [sumL_succ 0 hd]
    have h1 := batTo_app (n := n) (a := a) (j := i) (m := (batTo n a i).length) (o := batTo n a i ++ [0]) (x := x) (y := 0) (by rw [if_pos hi]) (by simp) (by simp) hx
    rw [Nat.zero_add, h1]
    simp [sumL]
  | m + 1, hm, hl => by
    have ih := batTo_chunk (a := a) hi m (by omega) (by omega)
    obtain ⟨x, hx⟩ := get_of_lt a (k := i + (m + 1)) hl
    have hd : (a.drop i)[m + 1]? = some x := by rw [List.getElem?_drop]; exact hx
    rw [sumL_succ 0 hd]
    have hne : (i + (m + 1)) % n ≠ 0 := by
      rw [Nat.add_mod, hi, Nat.zero_add, Nat.mod_mod, Nat.mod_eq_of_lt hm]; omega
    have h1 := batTo_app (n := n) (a := a) (j := i + (m + 1)) (m := (batTo n a i).length) (o := batTo n a i ++ [sumL 0 ((a.drop i).take (m + 1))]) (x := x) (y := sumL 0 ((a.drop i).take (m + 1)))
      (by rw [if_neg hne, ih]) (by simp) (by simp) hx
    rw [show i + (m + 1 + 1) = i + (m + 1) + 1 by omega, h1]
    simp

/-- The chunk that begins at i. -/
def chunkV (g o : Nat) (len n i : Nat) : Value := .slice (some ⟨g, o + i, none⟩) (min n (len - i)) (min n (len - i))

theorem stepIn_append_int {F : Fence} {nn : Nat} {o : Oper} {a : Act} {K : Act → World → Prop} {Q : Exit → Act → World → Prop} {w : World} (s y : Operand)
    (ho : o.op = .call { callee := .builtin .append, args := #[s, y], argTypes := #[28, 28] }) (base : Nat) (A : Option Addr) (c : Nat) (l : List Int) (x : Int) (n : Nat) (hnl : l.length = n) (hs : a.eval s = .slice A n c) (hown : OwnJ w base A c l)
    (g : Nat) (hx : a.eval y = .slice (some ⟨g, 0, none⟩) 1 1) (hg : g = w.heap.size) (hn : n ≤ 1048576) (hb : base ≤ w.heap.size)
    (h : ∀ (A' : Option Addr) (c' : Nat) (w' : World), OwnJ w' base A' c' (l ++ [x]) → (w.alloc (.cells #[.int .i64 x] 3)).grownBy w' (rowOf A) → K (a.put o.dst (.slice A' (n + 1) c')) w') :
    Oper.wpIn F nn Try.prog o a (w.alloc (.cells #[.int .i64 x] 3)) K Q := by
  subst hg
  subst hnl
  obtain ⟨i, hi, hz0, hz1, hz2⟩ := info_parts Try.infoInt
  have hown2 := hown.below ((Below.refl w.heap.size w).alloc (Nat.le_refl _) (.cells #[.int .i64 x] 3)) (Nat.le_refl _)
  have hb1 : Bk (w.alloc (.cells #[.int .i64 x] 3)) w.heap.size 3 [.int .i64 x] := Bk.new w _ [_]
  have hread : ∀ (j : Nat) (u : Value), (ints [x])[j]? = some u → (w.alloc (.cells #[.int .i64 x] 3)).cell? ((⟨w.heap.size, 0, none⟩ : Addr).add j) = some u := fun j u hj => by
    rw [add_zero_row, hb1.cell]
    exact hj
  have hone : ∀ u ∈ ints [x], u.oneCell' = true := by
    intro u hu
    simp [ints] at hu
    subst hu
    rfl
  obtain ⟨v', w', hr, h2, h3, _⟩ := run_append_own (P := Try.prog) (w.alloc (.cells #[.int .i64 x] 3)) base 28 o.type 3 i _ 1 8 Try.underlying28 hi hz0 hz1 hz2 rfl (by decide)
    (.slice A l.length c) l.length (ints l) hown2 ⟨w.heap.size, 0, none⟩ 1 1 (ints [x]) rfl hread hone (by unfold maxLen; omega) (by omega) (by simp; omega)
  have hv : ∃ A' c', v' = .slice A' (l.length + 1) c' := by
    obtain ⟨_, ⟨_, h0⟩ | ⟨g, cap, cur, hv, _⟩⟩ := h2
    · omega
    · exact ⟨_, _, hv⟩
  obtain ⟨A', c', rfl⟩ := hv
  unfold Oper.wpIn
  refine ⟨?_, ?_⟩
  · simp [Oper.about, ho, resolve, Target.leads, Sem.run_pure]
  · rw [Oper.semAt_plain F _ _ (by rw [ho]; intro c hc'; cases hc')]
    simp only [execOp, ho, resolve, invoke, builtin, Sem.run_bind, Sem.run_pure, Result.andThen_ok, List.map_toArray, List.map_cons, List.map_nil, hs, hx, hr]
    refine (h A' c' w' ?_ (by rw [← ownBlock_slice A l.length c]; exact h3))
    unfold OwnJ
    rw [List.length_append, show ints (l ++ [x]) = ints l ++ ints [x] from by simp [ints]]
    exact h2

/-- Between two rounds. -/
structure BatJ (w : World) (A : Option Addr) (c : Nat) (a : List Int) (n : Nat) (i : Nat) (W : World) : Prop where
  mul : i % n = 0
  below : Below w.heap.size w W
  big : w.heap.size + 5 ≤ W.heap.size
  bs : Bk W (w.heap.size + 1) 28 [.slice A a.length c]
  bn : Bk W (w.heap.size + 2) 3 [.int .i64 n]
  out : ∃ R cR, Bk W w.heap.size 28 [.slice R (batTo n a (min i a.length)).length cR] ∧ OwnJ W (w.heap.size + 5) R cR (batTo n a (min i a.length))

end Go.Proofs.Ytjhdjfobbgfpfaa
