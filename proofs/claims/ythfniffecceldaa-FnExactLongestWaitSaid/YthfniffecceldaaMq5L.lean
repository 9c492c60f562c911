/- Texts on the program and its reference, put together (PiB, PiC). -/
import Derived.Test.YthfniffecceldaaMq5K
import Derived.Shelf.Abstract
/- Contracts: pulls by the program: nodes that look at items one by one. -/
namespace Go.Proofs.Ythfniffecceldaa
open Go.RowKit

/-- A function value that changes an item, and the cell of the node i, as g says. -/
def Changes (n0 rb cb N cc : Nat) (l : List Nd) (src : List (List Int)) (i : Nat) (g : Int → Cl → Cl × Int) (gv : Value) (w1 : World) : Prop :=
  ∃ (k : FuncId) (lb : Array Value), gv = .func (.func k) #[] lb ∧ (∀ (args : Array Value) (w : World), (callFunc k args).run Try.prog w = .ok (.enter k args) w) ∧
    ∀ (fe : Value) (s : PS) (W : World) (v : Int), Fi n0 rb cb w1 W → IW n0 rb cb N cc fe s W → StOk l src s.cs → (0 ≤ v ∧ v ≤ 99) →
      Calls Try.prog k (#[.int .i64 v] ++ lb) W fun e w' => e = .returned (.int .i64 (g v (s.at_ i)).2) ∧ IW n0 rb cb N cc fe (s.put i (g v (s.at_ i)).1) w' ∧ Fr n0 rb cb W w'
/-- A function value that tells whether an item may pass. -/
def Lets (n0 rb cb N cc : Nat) (l : List Nd) (src : List (List Int)) (i : Nat) (g : Int → Cl → Cl × Bool) (gv : Value) (w1 : World) : Prop :=
  ∃ (k : FuncId) (lb : Array Value), gv = .func (.func k) #[] lb ∧ (∀ (args : Array Value) (w : World), (callFunc k args).run Try.prog w = .ok (.enter k args) w) ∧
    ∀ (fe : Value) (s : PS) (W : World) (v : Int), Fi n0 rb cb w1 W → IW n0 rb cb N cc fe s W → StOk l src s.cs → (0 ≤ v ∧ v ≤ 99) →
      Calls Try.prog k (#[.int .i64 v] ++ lb) W fun e w' => e = .returned (.bool (g v (s.at_ i)).2) ∧ IW n0 rb cb N cc fe (s.put i (g v (s.at_ i)).1) w' ∧ Fr n0 rb cb W w'
def okOf : Value → Nat | .bool true => 1 | _ => 0
/-- The rest of a search, when a pull has given o. -/
def someR (i : Nat) (may : Int → Cl → Cl × Bool) (f : PF) (k : Nat) (s : PS) : Option Int → PS × Option Int
  | none => (s, none)
  | some v => if (may v (s.at_ i)).2 = true then (s.put i (may v (s.at_ i)).1, some v) else someL i may f k (s.put i (may v (s.at_ i)).1)
theorem someL_R {i : Nat} {may : Int → Cl → Cl × Bool} {f : PF} {k : Nat} {s s2 : PS} {o : Option Int} (h : f s = (s2, o)) : someL i may f (k + 1) s = someR i may f k s2 o := by
  simp only [someL]
  rw [h]
  cases o <;> rfl

set_option maxRecDepth 100000 in
set_option maxHeartbeats 6400000 in
theorem i_done {n0 rb cb N cc : Nat} {l : List Nd} {src : List (List Int)} {i : Nat} {w1 : World} {bc : Nat} {bp : Nat} {vp : Value} {fp : PF} (hFp : KeepB l src i fp) (hPp : Puller n0 rb cb N cc l src fp vp w1) (kxc : Bx rb cb w1 bc 122 (.pointer (some ⟨cb, i * 6, none⟩))) (kxp : Bx rb cb w1 bp 114 (vp)) (hil : i < l.length) :
    Pulls n0 rb cb N cc l src (doneP i fp) 99 #[.pointer (some ⟨bc, 0, none⟩), .pointer (some ⟨bp, 0, none⟩)] w1 := by
  intro fe s W hfr hiw ok hlg
  obtain ⟨kp, lbp, rfl, egp, hpp⟩ := hPp
  have cec := (kxc.fr hfr (by decide)).cell
  have cep := (kxp.fr hfr (by decide)).cell
  have Hfr := Lib.hid hfr
  have Hiw := Lib.hid hiw
  have Hok := Lib.hid ok
  have HPp := Lib.hid hpp
  have HFp := Lib.hid hFp
  have Kxc := Lib.hid kxc
  have Kxp := Lib.hid kxp
  clear hfr hiw ok hpp hFp kxc kxp
  obtain ⟨d0, d1, d2, d3, d4, d5⟩ := Hiw.out.cl (i := i) (by rw [Hok.out.len]; exact hil)
  cases hd : (s.at_ i).d with
  | true =>
    rw [hd] at d5
    have Hd := Lib.hid hd
    clear hd
    go_enter Try.func99, Try.ntmps99
    go_wp2_with fail
    refine bodyPost_ret (v := .tuple #[.int .i64 0, .bool false]) (by simp [results, Try.results99, go_sem]) rfl ?_
    have hm : doneP i fp s = (s, none) := doneP_done Hd.out
    rw [hm]
    exact ⟨rfl, Hiw.out, Fr.refl _ _ _ _⟩
  | false =>
    rw [hd] at d5
    have Hd := Lib.hid hd
    clear hd
    rcases hfs : fp s with ⟨sa, oa⟩
    have hkeep := HFp.out s Hok.out
    rw [hfs] at hkeep
    have Hlen : Hid (i < sa.cs.length) := Lib.hid (by have := hkeep.1; simp only at this; omega)
    have Hkd : Hid ((sa.at_ i).d = false) := Lib.hid (by have := hkeep.2; simp only at this; rw [this, Hd.out])
    have hcalla := HPp.out fe s W Hfr.out Hiw.out Hok.out hlg
    rw [hfs] at hcalla
    have Hcalla := Lib.hid hcalla
    have Hfsa := Lib.hid hfs
    clear hkeep hcalla hfs
    go_enter Try.func99, Try.ntmps99
    go_wp2_with fail
    refine Hcalla.out.mono ?_
    rintro e wa ⟨rfl, iwa, fra⟩
    have Hf1a := Lib.hid ((Hfr.out).trans fra)
    have Hfs_a := Lib.hid ((Fr.refl _ _ _ _).trans fra)
    have ceca := (Kxc.out.fr Hf1a.out (by decide)).cell
    have cepa := (Kxp.out.fr Hf1a.out (by decide)).cell
    have Hiwa := Lib.hid iwa
    clear iwa fra
    have e5 := (Hiwa.out.cl (i := i) Hlen.out).c5
    have g5 := Hiwa.out.free (i * 6 + 5)
    cases oa with
    | none =>
      have ht : tup none = .tuple #[.int .i64 0, .bool false] := rfl
      have q1 := Hiwa.out.setD (i := i) Hlen.out true
      have Hq1 := Lib.hid q1
      clear q1
      go_wp2_with fail
      refine bodyPost_ret (v := .tuple #[.int .i64 0, .bool false]) (by simp [results, Try.results99, go_sem]) rfl ?_
      have hm : doneP i fp s = (sa.put i { sa.at_ i with d := true }, none) := doneP_none Hd.out Hfsa.out
      rw [hm]
      exact ⟨rfl, Hq1.out, Hfs_a.out.setc _ _⟩
    | some v =>
      have ht : tup (some v) = .tuple #[.int .i64 v, .bool true] := rfl
      have q1 := Hiwa.out.setD (i := i) Hlen.out false
      rw [PS.put_same Hlen.out (by rw [← Hkd.out])] at q1
      have Hq1 := Lib.hid q1
      clear q1
      go_wp2_with fail
      refine bodyPost_ret (v := .tuple #[.int .i64 v, .bool true]) (by simp [results, Try.results99, go_sem]) rfl ?_
      have hm : doneP i fp s = (sa, some v) := doneP_some Hd.out Hfsa.out
      rw [hm]
      exact ⟨rfl, Hq1.out, Hfs_a.out.setc _ _⟩

set_option maxRecDepth 100000 in
set_option maxHeartbeats 6400000 in
theorem i_chg {n0 rb cb N cc : Nat} {l : List Nd} {src : List (List Int)} {i : Nat} {w1 : World} {vg : Value} {g : Int → Cl → Cl × Int} {ba : Nat} {bg : Nat} {va : Value} {fa : PF} {ja : Nat} (hja : ja < i) (hFa : Fine l src ja fa) (hPa : Puller n0 rb cb N cc l src fa va w1) (kxa : Bx rb cb w1 ba 114 (va)) (kxg : Bx rb cb w1 bg 119 (vg)) (hC : Changes n0 rb cb N cc l src i g vg w1) :
    Pulls n0 rb cb N cc l src (chgP i g fa) 118 #[.pointer (some ⟨ba, 0, none⟩), .pointer (some ⟨bg, 0, none⟩)] w1 := by
  intro fe s W hfr hiw ok hlg
  have _ua := hja
  clear _ua
  obtain ⟨kg, lbg, rfl, egg, hpg⟩ := hC
  obtain ⟨ka, lba, rfl, ega, hpa⟩ := hPa
  have cea := (kxa.fr hfr (by decide)).cell
  have ceg := (kxg.fr hfr (by decide)).cell
  have Hfr := Lib.hid hfr
  have Hiw := Lib.hid hiw
  have Hok := Lib.hid ok
  have HPa := Lib.hid hpa
  have HFa := Lib.hid hFa
  have Kxa := Lib.hid kxa
  have Kxg := Lib.hid kxg
  have HPg := Lib.hid hpg
  clear hpg
  clear hfr hiw ok hpa hFa kxa kxg
  rcases hfsa : fa s with ⟨sa, oa⟩
  have hfinea := HFa.out s Hok.out
  rw [hfsa] at hfinea
  have Hfinea := Lib.hid hfinea
  have hcalla := HPa.out fe s W Hfr.out Hiw.out Hok.out hlg
  rw [hfsa] at hcalla
  have Hcalla := Lib.hid hcalla
  have Hfsa := Lib.hid hfsa
  clear hfinea hfsa hcalla
  go_enter Try.func118, Try.ntmps118
  go_wp2_with fail
  refine Hcalla.out.mono ?_
  rintro e wa ⟨rfl, iwa, fra⟩
  have Hf1a := Lib.hid ((Hfr.out).trans fra)
  have Hfs_a := Lib.hid ((Fr.refl _ _ _ _).trans fra)
  have ceaa := (Kxa.out.fr Hf1a.out (by decide)).cell
  have cega := (Kxg.out.fr Hf1a.out (by decide)).cell
  have Hiwa := Lib.hid iwa
  clear iwa fra
  cases oa with
  | none =>
    have ht : tup none = .tuple #[.int .i64 0, .bool false] := rfl
    go_wp2_with fail
    refine bodyPost_ret (v := .tuple #[.int .i64 0, .bool false]) (by simp [results, Try.results118, go_sem]) rfl ?_
    have hm : chgP i g fa s = (sa, none) := by simp [chgP, Hfsa.out]
    rw [hm]
    exact ⟨rfl, Hiwa.out, Hfs_a.out⟩
  | some v =>
    have hv := Hfinea.out.item v rfl
    have ht : tup (some v) = .tuple #[.int .i64 v, .bool true] := rfl
    go_wp2_with fail
    refine (HPg.out fe sa wa v Hf1a.out Hiwa.out Hfinea.out.ok hv).mono ?_
    rintro e wb ⟨rfl, iwb, frb⟩
    have Hiwb := Lib.hid iwb
    have Hfrb := Lib.hid (Hfs_a.out.trans frb)
    clear iwb frb
    go_wp2_with fail
    refine bodyPost_ret (v := .tuple #[.int .i64 (g v (sa.at_ i)).2, .bool true]) (by simp [results, Try.results118, go_sem]) rfl ?_
    have hm : chgP i g fa s = (sa.put i (g v (sa.at_ i)).1, some (g v (sa.at_ i)).2) := by simp [chgP, Hfsa.out]
    rw [hm]
    exact ⟨rfl, Hiwb.out, Hfrb.out⟩

set_option maxRecDepth 100000 in
set_option maxHeartbeats 6400000 in
theorem i_while {n0 rb cb N cc : Nat} {l : List Nd} {src : List (List Int)} {i : Nat} {w1 : World} {n : Int} {ba : Nat} {bn : Nat} {va : Value} {fa : PF} {ja : Nat} (hja : ja < i) (hFa : Fine l src ja fa) (hPa : Puller n0 rb cb N cc l src fa va w1) (kxa : Bx rb cb w1 ba 114 (va)) (kxn : Bx rb cb w1 bn 3 (.int .i64 n)) :
    Pulls n0 rb cb N cc l src (whileP n fa) 122 #[.pointer (some ⟨ba, 0, none⟩), .pointer (some ⟨bn, 0, none⟩)] w1 := by
  intro fe s W hfr hiw ok hlg
  have _ua := hja
  clear _ua
  obtain ⟨ka, lba, rfl, ega, hpa⟩ := hPa
  have cea := (kxa.fr hfr (by decide)).cell
  have cen := (kxn.fr hfr (by decide)).cell
  have Hfr := Lib.hid hfr
  have Hiw := Lib.hid hiw
  have Hok := Lib.hid ok
  have HPa := Lib.hid hpa
  have HFa := Lib.hid hFa
  have Kxa := Lib.hid kxa
  have Kxn := Lib.hid kxn
  clear hfr hiw ok hpa hFa kxa kxn
  rcases hfsa : fa s with ⟨sa, oa⟩
  have hfinea := HFa.out s Hok.out
  rw [hfsa] at hfinea
  have Hfinea := Lib.hid hfinea
  have hcalla := HPa.out fe s W Hfr.out Hiw.out Hok.out hlg
  rw [hfsa] at hcalla
  have Hcalla := Lib.hid hcalla
  have Hfsa := Lib.hid hfsa
  clear hfinea hfsa hcalla
  go_enter Try.func122, Try.ntmps122
  go_wp2_with fail
  refine Hcalla.out.mono ?_
  rintro e wa ⟨rfl, iwa, fra⟩
  have Hf1a := Lib.hid ((Hfr.out).trans fra)
  have Hfs_a := Lib.hid ((Fr.refl _ _ _ _).trans fra)
  have ceaa := (Kxa.out.fr Hf1a.out (by decide)).cell
  have cena := (Kxn.out.fr Hf1a.out (by decide)).cell
  have Hiwa := Lib.hid iwa
  clear iwa fra
  cases oa with
  | none =>
    have ht : tup none = .tuple #[.int .i64 0, .bool false] := rfl
    go_wp2_with fail
    refine bodyPost_ret (v := .tuple #[.int .i64 0, .bool false]) (by simp [results, Try.results122, go_sem]) rfl ?_
    have hm : whileP n fa s = (sa, none) := by simp [whileP, Hfsa.out]
    rw [hm]
    exact ⟨rfl, Hiwa.out, Hfs_a.out⟩
  | some v =>
    have ht : tup (some v) = .tuple #[.int .i64 v, .bool true] := rfl
    by_cases hge : n ≤ v
    · go_wp2_with fail
      refine bodyPost_ret (v := .tuple #[.int .i64 0, .bool false]) (by simp [results, Try.results122, go_sem]) rfl ?_
      have hm : whileP n fa s = (sa, none) := by simp [whileP, Hfsa.out, hge]
      rw [hm]
      exact ⟨rfl, Hiwa.out, Hfs_a.out⟩
    · go_wp2_with fail
      refine bodyPost_ret (v := .tuple #[.int .i64 v, .bool true]) (by simp [results, Try.results122, go_sem]) rfl ?_
      have hm : whileP n fa s = (sa, some v) := by simp [whileP, Hfsa.out, (show ¬ n ≤ v by omega)]
      rw [hm]
      exact ⟨rfl, Hiwa.out, Hfs_a.out⟩

set_option maxRecDepth 100000 in
set_option maxHeartbeats 6400000 in
theorem i_take {n0 rb cb N cc : Nat} {l : List Nd} {src : List (List Int)} {i : Nat} {w1 : World} {n : Int} {bc : Nat} {bn : Nat} {ba : Nat} {va : Value} {fa : PF} {ja : Nat} (hja : ja < i) (hFa : Fine l src ja fa) (hPa : Puller n0 rb cb N cc l src fa va w1) (kxc : Bx rb cb w1 bc 122 (.pointer (some ⟨cb, i * 6, none⟩))) (kxn : Bx rb cb w1 bn 3 (.int .i64 n)) (kxa : Bx rb cb w1 ba 114 (va)) {xa xb m : Int} (hx : l[i]? = some ⟨3, xa, xb, n, m⟩) (hn30 : 0 ≤ n ∧ n ≤ 30) :
    Pulls n0 rb cb N cc l src (takeP i n fa) 120 #[.pointer (some ⟨bc, 0, none⟩), .pointer (some ⟨bn, 0, none⟩), .pointer (some ⟨ba, 0, none⟩)] w1 := by
  intro fe s W hfr hiw ok hlg
  have _ua := hja
  clear _ua
  obtain ⟨ka, lba, rfl, ega, hpa⟩ := hPa
  have cec := (kxc.fr hfr (by decide)).cell
  have cen := (kxn.fr hfr (by decide)).cell
  have cea := (kxa.fr hfr (by decide)).cell
  have Hfr := Lib.hid hfr
  have Hiw := Lib.hid hiw
  have Hok := Lib.hid ok
  have HPa := Lib.hid hpa
  have HFa := Lib.hid hFa
  have Kxc := Lib.hid kxc
  have Kxn := Lib.hid kxn
  have Kxa := Lib.hid kxa
  clear hfr hiw ok hpa hFa kxc kxn kxa
  have hil : i < s.cs.length := by rw [Hok.out.len]; exact (List.getElem?_eq_some_iff.1 hx).1
  have Hx := Lib.hid hx
  have hat := StOk.at_ Hok.out hx
  have hmo : mostOf ⟨3, xa, xb, n, m⟩ src = n := by simp [mostOf]
  obtain ⟨q, hq⟩ : ∃ q, (s.at_ i).n = q := ⟨_, rfl⟩
  rw [hmo, hq] at hat
  have hq0 := hat.1
  obtain ⟨d0, d1, d2, d3, d4, d5⟩ := Hiw.out.cl (i := i) hil
  have g0 := Hiw.out.free (i * 6)
  rw [hq] at d0
  have Hq := Lib.hid hq
  have Hat := Lib.hid hat
  clear hq hat hmo hx
  by_cases hqn : q = n
  · have hqb : (q == n) = true := by rw [beq_iff_eq]; exact hqn
    have Hqn := Lib.hid hqn
    clear hqn
    go_enter Try.func120, Try.ntmps120
    go_wp2_with fail
    go_region
    go_wp2_with fail
    refine bodyPost_ret (v := .tuple #[.int .i64 0, .bool false]) (by simp [results, Try.results120, go_sem]) rfl ?_
    have hm : takeP i n fa s = (s, none) := by simp [takeP, Hq.out, Hqn.out]
    rw [hm]
    exact ⟨rfl, Hiw.out.drew, (Fr.refl _ _ _ _).drew⟩
  · have hqb : (q == n) = false := by rw [beq_eq_false_iff_ne]; exact hqn
    have hw1 : IntKind.i64.wrap (q + 1) = q + 1 := IntWalk.i64_in _ (by omega)
    have q1 := (Hiw.out.setN (i := i) hil (q + 1)).drew
    have q2 := ((Fr.refl n0 rb cb W).setc (i * 6) (.int .i64 (q + 1))).drew
    have qs := FineAt.start (c := { s.at_ i with n := q + 1 }) Hok.out Hx.out ⟨by simp, by simp⟩ ⟨⟨by simp only; omega, by simp [mostOf]; omega⟩, Hat.out.2⟩
    have Hq1 := Lib.hid q1
    have Hq2 := Lib.hid q2
    have Hqs := Lib.hid qs.ok
    have Hqlg : Hid ((s.put i { s.at_ i with n := q + 1 }).lg.length + (s.put i { s.at_ i with n := q + 1 }).W l src ≤ 65536) := Lib.hid (Nat.le_trans qs.wle hlg)
    clear q1 q2 qs
    have cnx := (Kxa.out.fr (Hfr.out.trans Hq2.out) (by decide)).cell
    rcases hfsa : fa (s.put i { s.at_ i with n := q + 1 }) with ⟨sa, oa⟩
    have hfinea := HFa.out (s.put i { s.at_ i with n := q + 1 }) Hqs.out
    rw [hfsa] at hfinea
    have Hfinea := Lib.hid hfinea
    have hcalla := HPa.out fe (s.put i { s.at_ i with n := q + 1 }) _ (Hfr.out.trans Hq2.out) Hq1.out Hqs.out Hqlg.out
    rw [hfsa] at hcalla
    have Hcalla := Lib.hid hcalla
    have Hfsa := Lib.hid hfsa
    clear hfinea hfsa hcalla
    go_enter Try.func120, Try.ntmps120
    go_wp2_with fail
    go_region
    go_wp2_with fail
    refine Hcalla.out.mono ?_
    rintro e wa ⟨rfl, iwa, fra⟩
    have Hf1a := Lib.hid ((Hfr.out.trans Hq2.out).trans fra)
    have Hfs_a := Lib.hid ((Hq2.out).trans fra)
    have ceca := (Kxc.out.fr Hf1a.out (by decide)).cell
    have cena := (Kxn.out.fr Hf1a.out (by decide)).cell
    have ceaa := (Kxa.out.fr Hf1a.out (by decide)).cell
    have Hiwa := Lib.hid iwa
    clear iwa fra
    have hto : tup oa = .tuple #[.int .i64 (oa.getD 0), .bool oa.isSome] := rfl
    go_wp2_with fail
    refine bodyPost_ret (v := .tuple #[.int .i64 (oa.getD 0), .bool oa.isSome]) (by simp [results, Try.results120, go_sem]) rfl ?_
    have hm : takeP i n fa s = (sa, oa) := by simp [takeP, Hq.out, hqn, Hfsa.out]
    rw [hm]
    exact ⟨rfl, Hiwa.out, Hfs_a.out⟩

set_option maxRecDepth 100000 in
set_option maxHeartbeats 6400000 in
theorem i_turn {n0 rb cb N cc : Nat} {l : List Nd} {src : List (List Int)} {i : Nat} {w1 : World} {ba : Nat} {bb : Nat} {bc : Nat} {va : Value} {fa : PF} {ja : Nat} (hja : ja < i) (hFa : Fine l src ja fa) (hPa : Puller n0 rb cb N cc l src fa va w1) {vb : Value} {fb : PF} {jb : Nat} (hjb : jb < i) (hFb : Fine l src jb fb) (hPb : Puller n0 rb cb N cc l src fb vb w1) (kxa : Bx rb cb w1 ba 114 (va)) (kxb : Bx rb cb w1 bb 114 (vb)) (kxc : Bx rb cb w1 bc 122 (.pointer (some ⟨cb, i * 6, none⟩))) {xa xb n m : Int} (hx : l[i]? = some ⟨10, xa, xb, n, m⟩) :
    Pulls n0 rb cb N cc l src (turnP i fa fb) 127 #[.pointer (some ⟨ba, 0, none⟩), .pointer (some ⟨bb, 0, none⟩), .pointer (some ⟨bc, 0, none⟩)] w1 := by
  intro fe s W hfr hiw ok hlg
  have _ua := hja
  clear _ua
  have _ub := hjb
  clear _ub
  obtain ⟨ka, lba, rfl, ega, hpa⟩ := hPa
  obtain ⟨kb, lbb, rfl, egb, hpb⟩ := hPb
  have cea := (kxa.fr hfr (by decide)).cell
  have ceb := (kxb.fr hfr (by decide)).cell
  have cec := (kxc.fr hfr (by decide)).cell
  have Hfr := Lib.hid hfr
  have Hiw := Lib.hid hiw
  have Hok := Lib.hid ok
  have HPa := Lib.hid hpa
  have HFa := Lib.hid hFa
  have HPb := Lib.hid hpb
  have HFb := Lib.hid hFb
  have Kxa := Lib.hid kxa
  have Kxb := Lib.hid kxb
  have Kxc := Lib.hid kxc
  clear hfr hiw ok hpa hpb hFa hFb kxa kxb kxc
  have hil : i < s.cs.length := by rw [Hok.out.len]; exact (List.getElem?_eq_some_iff.1 hx).1
  have Hx := Lib.hid hx
  have hat := StOk.at_ Hok.out hx
  have hmo : mostOf ⟨10, xa, xb, n, m⟩ src = 1 := by simp [mostOf]
  obtain ⟨q, hq⟩ : ∃ q, (s.at_ i).n = q := ⟨_, rfl⟩
  rw [hmo, hq] at hat
  have hq0 := hat.1
  obtain ⟨d0, d1, d2, d3, d4, d5⟩ := Hiw.out.cl (i := i) hil
  have g0 := Hiw.out.free (i * 6)
  rw [hq] at d0
  have Hq := Lib.hid hq
  have Hat := Lib.hid hat
  clear hq hat hmo hx
  rcases (show q = 0 ∨ q = 1 by omega) with h0 | h0
  · subst h0
    have q1 := (Hiw.out.setN (i := i) hil 1).drew.drew
    have q2 := ((Fr.refl n0 rb cb W).setc (i * 6) (.int .i64 1)).drew.drew
    have qs := FineAt.start (c := { s.at_ i with n := 1 }) Hok.out Hx.out ⟨by simp, by simp⟩ ⟨⟨by simp, by simp [mostOf]⟩, Hat.out.2⟩
    have Hq1 := Lib.hid q1
    have Hq2 := Lib.hid q2
    have Hqs := Lib.hid qs.ok
    have Hqlg : Hid ((s.put i { s.at_ i with n := 1 }).lg.length + (s.put i { s.at_ i with n := 1 }).W l src ≤ 65536) := Lib.hid (Nat.le_trans qs.wle hlg)
    clear q1 q2 qs
    rcases hfsz : fa (s.put i { s.at_ i with n := 1 }) with ⟨sz, oz⟩
    have hfinez := HFa.out (s.put i { s.at_ i with n := 1 }) Hqs.out
    rw [hfsz] at hfinez
    have Hfinez := Lib.hid hfinez
    have hcallz := HPa.out fe (s.put i { s.at_ i with n := 1 }) _ (Hfr.out.trans Hq2.out) Hq1.out Hqs.out Hqlg.out
    rw [hfsz] at hcallz
    have Hcallz := Lib.hid hcallz
    have Hfsz := Lib.hid hfsz
    clear hfinez hfsz hcallz
    go_enter Try.func127, Try.ntmps127
    go_wp2_with fail
    go_region
    go_wp2_with fail
    go_region
    go_wp2_with fail
    refine Hcallz.out.mono ?_
    rintro e wz ⟨rfl, iwz, frz⟩
    have Hf1z := Lib.hid ((Hfr.out.trans Hq2.out).trans frz)
    have Hfs_z := Lib.hid ((Hq2.out).trans frz)
    have ceaz := (Kxa.out.fr Hf1z.out (by decide)).cell
    have cebz := (Kxb.out.fr Hf1z.out (by decide)).cell
    have cecz := (Kxc.out.fr Hf1z.out (by decide)).cell
    have Hiwz := Lib.hid iwz
    clear iwz frz
    cases oz with
    | some v =>
      have ht : tup (some v) = .tuple #[.int .i64 v, .bool true] := rfl
      go_wp2_with fail
      refine bodyPost_ret (v := .tuple #[.int .i64 v, .bool true]) (by simp [results, Try.results127, go_sem]) rfl ?_
      have hm : turnP i fa fb s = (sz, some v) := by simp [turnP, chainP, Hq.out, Hfsz.out]
      rw [hm]
      exact ⟨rfl, Hiwz.out, Hfs_z.out⟩
    | none =>
      have ht : tup none = .tuple #[.int .i64 0, .bool false] := rfl
      rcases hfsy : fb sz with ⟨sy, oy⟩
      have hfiney := HFb.out sz Hfinez.out.ok
      rw [hfsy] at hfiney
      have Hfiney := Lib.hid hfiney
      have hcally := HPb.out fe sz wz Hf1z.out Hiwz.out Hfinez.out.ok (Nat.le_trans Hfinez.out.wle Hqlg.out)
      rw [hfsy] at hcally
      have Hcally := Lib.hid hcally
      have Hfsy := Lib.hid hfsy
      clear hfiney hfsy hcally
      go_wp2_with fail
      refine Hcally.out.mono ?_
      rintro e wy ⟨rfl, iwy, fry⟩
      have Hf1y := Lib.hid ((Hf1z.out).trans fry)
      have Hfs_y := Lib.hid ((Hfs_z.out).trans fry)
      have ceay := (Kxa.out.fr Hf1y.out (by decide)).cell
      have ceby := (Kxb.out.fr Hf1y.out (by decide)).cell
      have cecy := (Kxc.out.fr Hf1y.out (by decide)).cell
      have Hiwy := Lib.hid iwy
      clear iwy fry
      have hto : tup oy = .tuple #[.int .i64 (oy.getD 0), .bool oy.isSome] := rfl
      go_wp2_with fail
      refine bodyPost_ret (v := .tuple #[.int .i64 (oy.getD 0), .bool oy.isSome]) (by simp [results, Try.results127, go_sem]) rfl ?_
      have hm : turnP i fa fb s = (sy, oy) := by simp [turnP, chainP, Hq.out, Hfsz.out, Hfsy.out]
      rw [hm]
      exact ⟨rfl, Hiwy.out, Hfs_y.out⟩
  · subst h0
    have q1 := (Hiw.out.setN (i := i) hil 0).drew.drew.drew
    have q2 := ((Fr.refl n0 rb cb W).setc (i * 6) (.int .i64 0)).drew.drew.drew
    have qs := FineAt.start (c := { s.at_ i with n := 0 }) Hok.out Hx.out ⟨by simp, by simp⟩ ⟨⟨by simp, by simp [mostOf]⟩, Hat.out.2⟩
    have Hq1 := Lib.hid q1
    have Hq2 := Lib.hid q2
    have Hqs := Lib.hid qs.ok
    have Hqlg : Hid ((s.put i { s.at_ i with n := 0 }).lg.length + (s.put i { s.at_ i with n := 0 }).W l src ≤ 65536) := Lib.hid (Nat.le_trans qs.wle hlg)
    clear q1 q2 qs
    rcases hfsz : fb (s.put i { s.at_ i with n := 0 }) with ⟨sz, oz⟩
    have hfinez := HFb.out (s.put i { s.at_ i with n := 0 }) Hqs.out
    rw [hfsz] at hfinez
    have Hfinez := Lib.hid hfinez
    have hcallz := HPb.out fe (s.put i { s.at_ i with n := 0 }) _ (Hfr.out.trans Hq2.out) Hq1.out Hqs.out Hqlg.out
    rw [hfsz] at hcallz
    have Hcallz := Lib.hid hcallz
    have Hfsz := Lib.hid hfsz
    clear hfinez hfsz hcallz
    go_enter Try.func127, Try.ntmps127
    go_wp2_with fail
    go_region
    go_wp2_with fail
    go_region
    go_wp2_with fail
    go_region
    go_wp2_with fail
    refine Hcallz.out.mono ?_
    rintro e wz ⟨rfl, iwz, frz⟩
    have Hf1z := Lib.hid ((Hfr.out.trans Hq2.out).trans frz)
    have Hfs_z := Lib.hid ((Hq2.out).trans frz)
    have ceaz := (Kxa.out.fr Hf1z.out (by decide)).cell
    have cebz := (Kxb.out.fr Hf1z.out (by decide)).cell
    have cecz := (Kxc.out.fr Hf1z.out (by decide)).cell
    have Hiwz := Lib.hid iwz
    clear iwz frz
    cases oz with
    | some v =>
      have ht : tup (some v) = .tuple #[.int .i64 v, .bool true] := rfl
      go_wp2_with fail
      refine bodyPost_ret (v := .tuple #[.int .i64 v, .bool true]) (by simp [results, Try.results127, go_sem]) rfl ?_
      have hm : turnP i fa fb s = (sz, some v) := by simp [turnP, chainP, Hq.out, Hfsz.out]
      rw [hm]
      exact ⟨rfl, Hiwz.out, Hfs_z.out⟩
    | none =>
      have ht : tup none = .tuple #[.int .i64 0, .bool false] := rfl
      rcases hfsy : fa sz with ⟨sy, oy⟩
      have hfiney := HFa.out sz Hfinez.out.ok
      rw [hfsy] at hfiney
      have Hfiney := Lib.hid hfiney
      have hcally := HPa.out fe sz wz Hf1z.out Hiwz.out Hfinez.out.ok (Nat.le_trans Hfinez.out.wle Hqlg.out)
      rw [hfsy] at hcally
      have Hcally := Lib.hid hcally
      have Hfsy := Lib.hid hfsy
      clear hfiney hfsy hcally
      go_wp2_with fail
      refine Hcally.out.mono ?_
      rintro e wy ⟨rfl, iwy, fry⟩
      have Hf1y := Lib.hid ((Hf1z.out).trans fry)
      have Hfs_y := Lib.hid ((Hfs_z.out).trans fry)
      have ceay := (Kxa.out.fr Hf1y.out (by decide)).cell
      have ceby := (Kxb.out.fr Hf1y.out (by decide)).cell
      have cecy := (Kxc.out.fr Hf1y.out (by decide)).cell
      have Hiwy := Lib.hid iwy
      clear iwy fry
      have hto : tup oy = .tuple #[.int .i64 (oy.getD 0), .bool oy.isSome] := rfl
      go_wp2_with fail
      refine bodyPost_ret (v := .tuple #[.int .i64 (oy.getD 0), .bool oy.isSome]) (by simp [results, Try.results127, go_sem]) rfl ?_
      have hm : turnP i fa fb s = (sy, oy) := by simp [turnP, chainP, Hq.out, Hfsz.out, Hfsy.out]
      rw [hm]
      exact ⟨rfl, Hiwy.out, Hfs_y.out⟩


end Go.Proofs.Ythfniffecceldaa

/- Contracts: pulls by the program: searches, drops, and the functions on items. -/
namespace Go.Proofs.Ythfniffecceldaa
open Go.RowKit Go.Shelf

set_option maxRecDepth 100000 in
set_option maxHeartbeats 6400000 in
theorem i_some {n0 rb cb N cc : Nat} {l : List Nd} {src : List (List Int)} {i : Nat} {w1 : World} {vg : Value} {may : Int → Cl → Cl × Bool} {ba : Nat} {bg : Nat} {va : Value} {fa : PF} {ja : Nat} (hja : ja < i) (hFa : Fine l src ja fa) (hPa : Puller n0 rb cb N cc l src fa va w1) (kxa : Bx rb cb w1 ba 114 (va)) (kxg : Bx rb cb w1 bg 103 (vg)) {x : Nd} (hx : l[i]? = some x) (hk : x.k ≠ 0 ∧ x.k ≠ 9) (hg : ∀ v c, (0 ≤ v ∧ v ≤ 99) → CellIn src x c → CellIn src x (may v c).1) (hC : Lets n0 rb cb N cc l src i may vg w1) :
    Pulls n0 rb cb N cc l src (fun s => someL i may fa (s.M l src + 1) s) 119 #[.pointer (some ⟨ba, 0, none⟩), .pointer (some ⟨bg, 0, none⟩)] w1 := by
  intro fe s W hfr hiw ok hlg
  have _ua := hja
  clear _ua
  obtain ⟨kg, lbg, rfl, egg, hpg⟩ := hC
  obtain ⟨ka, lba, rfl, ega, hpa⟩ := hPa
  have cea := (kxa.fr hfr (by decide)).cell
  have ceg := (kxg.fr hfr (by decide)).cell
  have Hfr := Lib.hid hfr
  have Hiw := Lib.hid hiw
  have Hok := Lib.hid ok
  have HPa := Lib.hid hpa
  have HFa := Lib.hid hFa
  have Kxa := Lib.hid kxa
  have Kxg := Lib.hid kxg
  have HPg := Lib.hid hpg
  have Hx := Lib.hid hx
  have Hg := Lib.hid hg
  clear hpg hx hg
  clear hfr hiw ok hpa hFa kxa kxg
  rcases hfsa : fa s with ⟨sa, oa⟩
  have hfinea := HFa.out s Hok.out
  rw [hfsa] at hfinea
  have Hfinea := Lib.hid hfinea
  have hcalla := HPa.out fe s W Hfr.out Hiw.out Hok.out hlg
  rw [hfsa] at hcalla
  have Hcalla := Lib.hid hcalla
  have Hfsa := Lib.hid hfsa
  clear hfinea hfsa hcalla
  go_enter Try.func119, Try.ntmps119
  go_wp2_with fail
  refine Hcalla.out.mono ?_
  rintro e wa ⟨rfl, iwa, fra⟩
  have Hf1a := Lib.hid ((Hfr.out).trans fra)
  have Hfs_a := Lib.hid ((Fr.refl _ _ _ _).trans fra)
  have ceaa := (Kxa.out.fr Hf1a.out (by decide)).cell
  have cega := (Kxg.out.fr Hf1a.out (by decide)).cell
  have Hiwa := Lib.hid iwa
  clear iwa fra
  have htoa : tup oa = .tuple #[.int .i64 (oa.getD 0), .bool oa.isSome] := rfl
  go_wp2_with fail
  have Hstart : Hid (someR i may fa (s.M l src) sa oa = someL i may fa (s.M l src + 1) s) := Lib.hid (someL_R Hfsa.out).symm
  have HMa : Hid (oa.isSome = true → sa.M l src < s.M l src) := Lib.hid (by have h1 := Hfinea.out.mle; intro e; simp only [e] at h1; simp at h1; omega)
  have Hlga : Hid (sa.lg.length + sa.W l src ≤ 65536) := Lib.hid (Nat.le_trans Hfinea.out.wle hlg)
  go_loopw [4, 5] (fun xv bv wr => ∃ (k : Nat) (s2 : PS) (o : Option Int), xv = .int .i64 (o.getD 0) ∧ bv = .bool o.isSome ∧ IW n0 rb cb N cc fe s2 wr ∧ StOk l src s2.cs ∧ (s2.lg.length + s2.W l src ≤ 65536) ∧ (∀ v, o = some v → 0 ≤ v ∧ v ≤ 99) ∧ (o.isSome = true → s2.M l src < k) ∧ someR i may fa k s2 o = someL i may fa (s.M l src + 1) s ∧ Fr n0 rb cb W wr)
    (fun _ bv wr => 2 * Classical.epsilon (fun q => ∃ s2 : PS, IW n0 rb cb N cc fe s2 wr ∧ s2.cs.length = l.length ∧ q = wsum (wAll src) l s2.cs) + okOf bv)
  case atStart => exact ⟨_, sa, oa, rfl, rfl, Hiwa.out, Hfinea.out.ok, Hlga.out, Hfinea.out.item, HMa.out, Hstart.out, Hfs_a.out⟩
  case round =>
    obtain ⟨k, s2, o, rfl, rfl, hiw2, hok2, hlg2, hit2, hM2, hso, hfr2⟩ := hrel
    have Hiw2 := Lib.hid hiw2
    have Hok2 := Lib.hid hok2
    have Hso := Lib.hid hso
    have Hfr2 := Lib.hid hfr2
    have Hlg2 := Lib.hid hlg2
    have HM2 := Lib.hid hM2
    have Hit2 := Lib.hid hit2
    have cea2 := (Kxa.out.fr (Hfr.out.trans hfr2) (by decide)).cell
    have ceg2 := (Kxg.out.fr (Hfr.out.trans hfr2) (by decide)).cell
    clear hiw2 hok2 hso hfr2 hlg2 hM2 hit2
    cases o with
    | none =>
      have hso1 : someL i may fa (s.M l src + 1) s = (s2, none) := Hso.out.symm
      have Hso1 := Lib.hid hso1
      clear hso1 Hso
      have hg0 : (none : Option Int).isSome = false := rfl
      go_wp2_with fail
      refine bodyPost_ret (v := .tuple #[.int .i64 0, .bool false]) (by simp [results, Try.results119, go_sem]) rfl ?_
      have hm : someL i may fa (s.M l src + 1) s = (s2, none) := Hso1.out
      rw [hm]
      exact ⟨rfl, Hiw2.out, Hfr2.out⟩
    | some v =>
      have hv := Hit2.out v rfl
      have hM3 := HM2.out rfl
      have hg0 : (some v : Option Int).isSome = true := rfl
      have hg1 : (some v : Option Int).getD 0 = v := rfl
      have hil2 : i < s2.cs.length := by rw [Hok2.out.len]; exact (List.getElem?_eq_some_iff.1 Hx.out).1
      have hput := (FineAt.none_ (j := i) Hok2.out).put_ Hx.out hk (Hg.out v (s2.at_ i) hv (StOk.at_ Hok2.out Hx.out))
      have Hput := Lib.hid hput
      clear hput
      have HcG := Lib.hid (HPg.out fe s2 wr v (Hfr.out.trans Hfr2.out) Hiw2.out Hok2.out hv)
      cases hp : (may v (s2.at_ i)).2 with
      | true =>
        have hso1 : someL i may fa (s.M l src + 1) s = (s2.put i (may v (s2.at_ i)).1, some v) := by rw [← Hso.out]; simp only [someR]; rw [if_pos hp]
        have Hso1 := Lib.hid hso1
        have Hp := Lib.hid hp
        clear hso1 Hso hp
        go_wp2_with fail
        refine HcG.out.mono ?_
        rintro e wb ⟨rfl, iwb, frb⟩
        have Hiwb := Lib.hid iwb
        have Hfrb := Lib.hid (Hfr2.out.trans frb)
        have hpt : (may v (s2.at_ i)).2 = true := Hp.out
        clear iwb frb
        go_wp2_with fail
        refine bodyPost_ret (v := .tuple #[.int .i64 v, .bool true]) (by simp [results, Try.results119, go_sem]) rfl ?_
        have hm : someL i may fa (s.M l src + 1) s = (s2.put i (may v (s2.at_ i)).1, some v) := Hso1.out
        rw [hm]
        exact ⟨rfl, Hiwb.out, Hfrb.out⟩
      | false =>
        obtain ⟨k', hk'⟩ : ∃ k', k = k' + 1 := ⟨k - 1, by omega⟩
        have hso1 : someL i may fa (s.M l src + 1) s = someL i may fa (k' + 1) (s2.put i (may v (s2.at_ i)).1) := by rw [← Hso.out, hk']; simp only [someR]; rw [if_neg (by rw [hp]; decide)]
        have Hso1 := Lib.hid hso1
        have Hp := Lib.hid hp
        have Hk' := Lib.hid hk'
        obtain ⟨s3, hs3⟩ : ∃ s3, s2.put i (may v (s2.at_ i)).1 = s3 := ⟨_, rfl⟩
        rw [hs3] at Hput Hso1 HcG
        clear hso1 Hso hp hk' hs3
        go_wp2_with fail
        refine HcG.out.mono ?_
        rintro e wb ⟨rfl, iwb, frb⟩
        have Hiwb := Lib.hid iwb
        have Hfrb := Lib.hid (Hfr2.out.trans frb)
        have hpt : (may v (s2.at_ i)).2 = false := Hp.out
        have ceab := (Kxa.out.fr (Hfr.out.trans Hfrb.out) (by decide)).cell
        have Hlg3 : Hid (s3.lg.length + s3.W l src ≤ 65536) := Lib.hid (Nat.le_trans Hput.out.wle Hlg2.out)
        clear iwb frb
        rcases hfsd : fa s3 with ⟨sd, od⟩
        have hfined := HFa.out s3 Hput.out.ok
        rw [hfsd] at hfined
        have Hfined := Lib.hid hfined
        have hcalld := HPa.out fe s3 wb (Hfr.out.trans Hfrb.out) Hiwb.out Hput.out.ok Hlg3.out
        rw [hfsd] at hcalld
        have Hcalld := Lib.hid hcalld
        have Hfsd := Lib.hid hfsd
        clear hfined hfsd hcalld
        go_wp2_with fail
        refine Hcalld.out.mono ?_
        rintro e wd ⟨rfl, iwd, frd⟩
        have Hf1d := Lib.hid ((Hfr.out.trans Hfrb.out).trans frd)
        have Hfs_d := Lib.hid ((Hfrb.out).trans frd)
        have cead := (Kxa.out.fr Hf1d.out (by decide)).cell
        have cegd := (Kxg.out.fr Hf1d.out (by decide)).cell
        have Hiwd := Lib.hid iwd
        clear iwd frd
        have htod : tup od = .tuple #[.int .i64 (od.getD 0), .bool od.isSome] := rfl
        go_wp2_with fail
        go_roundw
        case rel =>
          exact ⟨k', sd, od, rfl, rfl, Hiwd.out, Hfined.out.ok, Nat.le_trans Hfined.out.wle Hlg3.out, Hfined.out.item, (by
            intro e
            have h1 := Hfined.out.mle
            simp only [e] at h1
            have h2 := Hput.out.mle
            simp at h1 h2
            have h3 := Hk'.out
            omega), by rw [Hso1.out]; exact (someL_R Hfsd.out).symm, Hfs_d.out⟩
        case measure =>
          have e1 := meas_eq (wsum (wAll src) l) Hiwd.out Hfined.out.ok.len
          have e2 := meas_eq (wsum (wAll src) l) Hiw2.out Hok2.out.len
          have h1 := Hfined.out.mle
          have h2 := Hput.out.mle
          unfold PS.M at h1 h2
          simp only [IW] at e1 e2 ⊢
          rw [e1, e2]
          cases od with
          | none => simp at h1 h2; simp [okOf]; omega
          | some u => simp at h1 h2; simp [okOf]; omega

set_option maxRecDepth 100000 in
set_option maxHeartbeats 6400000 in
theorem i_drop {n0 rb cb N cc : Nat} {l : List Nd} {src : List (List Int)} {i : Nat} {w1 : World} {n : Int} {bc : Nat} {bn : Nat} {ba : Nat} {va : Value} {fa : PF} {ja : Nat} (hja : ja < i) (hFa : Fine l src ja fa) (hPa : Puller n0 rb cb N cc l src fa va w1) (kxc : Bx rb cb w1 bc 122 (.pointer (some ⟨cb, i * 6, none⟩))) (kxn : Bx rb cb w1 bn 3 (.int .i64 n)) (kxa : Bx rb cb w1 ba 114 (va)) {xa xb m : Int} (hx : l[i]? = some ⟨4, xa, xb, n, m⟩) (hn30 : 0 ≤ n ∧ n ≤ 30) :
    Pulls n0 rb cb N cc l src (dropP i n fa) 121 #[.pointer (some ⟨bc, 0, none⟩), .pointer (some ⟨bn, 0, none⟩), .pointer (some ⟨ba, 0, none⟩)] w1 := by
  intro fe s W hfr hiw ok hlg
  have _ua := hja
  clear _ua
  obtain ⟨ka, lba, rfl, ega, hpa⟩ := hPa
  have cec := (kxc.fr hfr (by decide)).cell
  have cen := (kxn.fr hfr (by decide)).cell
  have cea := (kxa.fr hfr (by decide)).cell
  have Hfr := Lib.hid hfr
  have Hiw := Lib.hid hiw
  have Hok := Lib.hid ok
  have HPa := Lib.hid hpa
  have HFa := Lib.hid hFa
  have Kxc := Lib.hid kxc
  have Kxn := Lib.hid kxn
  have Kxa := Lib.hid kxa
  clear hfr hiw ok hpa hFa kxc kxn kxa
  have Hx := Lib.hid hx
  clear hx
  go_enter Try.func121, Try.ntmps121
  go_wp2_with fail
  go_loopw [5] (fun _ wr => ∃ (k : Nat) (s1 : PS), IW n0 rb cb N cc fe s1 wr ∧ StOk l src s1.cs ∧ (s1.lg.length + s1.W l src ≤ 65536) ∧ k = (n - (s1.at_ i).n).toNat ∧ dropL i n fa k s1 = dropP i n fa s ∧ Fr n0 rb cb W wr)
    (fun _ wr => Classical.epsilon (fun q => ∃ s2 : PS, IW n0 rb cb N cc fe s2 wr ∧ s2.cs.length = l.length ∧ q = (fun cs : List Cl => (n - (cs.getD i zeroCl).n).toNat) s2.cs))
  case atStart => exact ⟨_, s, Hiw.out, Hok.out, hlg, rfl, rfl, Fr.refl _ _ _ _⟩
  case round =>
    obtain ⟨k, s1, h1, hok1, hlg1, hkk, hso, hfr1⟩ := hrel
    have hil1 : i < s1.cs.length := by rw [hok1.len]; exact (List.getElem?_eq_some_iff.1 Hx.out).1
    have hat := StOk.at_ hok1 Hx.out
    have hmo : mostOf ⟨4, xa, xb, n, m⟩ src = n := by simp [mostOf]
    obtain ⟨q, hq⟩ : ∃ q, (s1.at_ i).n = q := ⟨_, rfl⟩
    rw [hmo, hq] at hat
    rw [hq] at hkk
    have hq0 := hat.1
    obtain ⟨d0, d1, d2, d3, d4, d5⟩ := h1.cl (i := i) hil1
    have g0 := h1.free (i * 6)
    rw [hq] at d0
    have cea1 := (Kxa.out.fr (Hfr.out.trans hfr1) (by decide)).cell
    have cec1 := (Kxc.out.fr (Hfr.out.trans hfr1) (by decide)).cell
    have cen1 := (Kxn.out.fr (Hfr.out.trans hfr1) (by decide)).cell
    have Hq := Lib.hid hq
    have Hh1 := Lib.hid h1
    have Hok1 := Lib.hid hok1
    have Hso := Lib.hid hso
    have Hfr1 := Lib.hid hfr1
    have Hat := Lib.hid hat
    have Hkk := Lib.hid hkk
    have Hlg1 := Lib.hid hlg1
    clear hq h1 hok1 hso hfr1 hat hmo hkk hlg1
    by_cases hqn : q < n
    · obtain ⟨k', hk'⟩ : ∃ k', k = k' + 1 := ⟨k - 1, by have := Hkk.out; omega⟩
      have hw1 : IntKind.i64.wrap (q + 1) = q + 1 := IntWalk.i64_in _ (by omega)
      have q1 := (Hh1.out.setN (i := i) hil1 (q + 1)).drew
      have q2 := ((Fr.refl n0 rb cb wr).setc (i * 6) (.int .i64 (q + 1))).drew
      have qs := FineAt.start (c := { s1.at_ i with n := q + 1 }) Hok1.out Hx.out ⟨by simp, by simp⟩ ⟨⟨by simp only; omega, by simp [mostOf]; omega⟩, Hat.out.2⟩
      have qat : (s1.put i { s1.at_ i with n := q + 1 }).at_ i = { s1.at_ i with n := q + 1 } := PS.at_put hil1
      have Hq1 := Lib.hid q1
      have Hq2 := Lib.hid (Hfr1.out.trans q2)
      have Hqs := Lib.hid qs.ok
      have Hqat := Lib.hid qat
      have Hqlg : Hid ((s1.put i { s1.at_ i with n := q + 1 }).lg.length + (s1.put i { s1.at_ i with n := q + 1 }).W l src ≤ 65536) := Lib.hid (Nat.le_trans qs.wle Hlg1.out)
      have Hk' := Lib.hid hk'
      clear q1 q2 qs qat hk'
      rcases hfsz : fa (s1.put i { s1.at_ i with n := q + 1 }) with ⟨sz, oz⟩
      have hfinez := HFa.out (s1.put i { s1.at_ i with n := q + 1 }) Hqs.out
      rw [hfsz] at hfinez
      have Hfinez := Lib.hid hfinez
      have hcallz := HPa.out fe (s1.put i { s1.at_ i with n := q + 1 }) _ (Hfr.out.trans Hq2.out) Hq1.out Hqs.out Hqlg.out
      rw [hfsz] at hcallz
      have Hcallz := Lib.hid hcallz
      have Hfsz := Lib.hid hfsz
      clear hfinez hfsz hcallz
      go_wp2_with fail
      go_region
      go_wp2_with fail
      refine Hcallz.out.mono ?_
      rintro e wz ⟨rfl, iwz, frz⟩
      have Hf1z := Lib.hid ((Hfr.out.trans Hq2.out).trans frz)
      have Hfs_z := Lib.hid ((Hq2.out).trans frz)
      have cecz := (Kxc.out.fr Hf1z.out (by decide)).cell
      have cenz := (Kxn.out.fr Hf1z.out (by decide)).cell
      have ceaz := (Kxa.out.fr Hf1z.out (by decide)).cell
      have Hiwz := Lib.hid iwz
      clear iwz frz
      have Hstep : Hid ((oz = none → dropP i n fa s = (sz, none)) ∧ ∀ v, oz = some v → dropP i n fa s = dropL i n fa k' sz) := Lib.hid (by
        have e0 : dropP i n fa s = dropL i n fa (k' + 1) s1 := by rw [← Hso.out, Hk'.out]
        have e1 : (s1.at_ i).n < n := by rw [Hq.out]; exact hqn
        refine ⟨fun e => ?_, fun v e => ?_⟩
        · rw [e0]; simp only [dropL]; rw [if_pos e1, Hq.out, Hfsz.out, e]
        · rw [e0]; simp only [dropL]; rw [if_pos e1, Hq.out, Hfsz.out, e])
      cases oz with
      | none =>
        have Hst := Lib.hid (Hstep.out.1 rfl)
        clear Hstep
        have ht : tup none = .tuple #[.int .i64 0, .bool false] := rfl
        go_wp2_with fail
        refine bodyPost_ret (v := .tuple #[.int .i64 0, .bool false]) (by simp [results, Try.results121, go_sem]) rfl ?_
        have hm : dropP i n fa s = (sz, none) := Hst.out
        rw [hm]
        exact ⟨rfl, Hiwz.out, Hfs_z.out⟩
      | some v =>
        have Hst := Lib.hid (Hstep.out.2 v rfl)
        clear Hstep
        have ht : tup (some v) = .tuple #[.int .i64 v, .bool true] := rfl
        have e3 : (sz.at_ i).n = q + 1 := by
          have := Hfinez.out.at_ hja
          rw [Hqat.out] at this
          rw [this]
        have Hle2 : Hid (sz.lg.length + sz.W l src ≤ 65536) := Lib.hid (Nat.le_trans Hfinez.out.wle Hqlg.out)
        have E3 := Lib.hid e3
        clear e3
        go_wp2_with fail
        go_roundw
        case rel => exact ⟨k', sz, Hiwz.out, Hfinez.out.ok, Hle2.out, by have h1 := Hkk.out; have h2 := Hk'.out; have h3 := E3.out; omega, Hst.out.symm, Hfs_z.out⟩
        case measure =>
          have e1 := meas_eq (fun cs : List Cl => (n - (cs.getD i zeroCl).n).toNat) Hiwz.out Hfinez.out.ok.len
          have e2 := meas_eq (fun cs : List Cl => (n - (cs.getD i zeroCl).n).toNat) Hh1.out Hok1.out.len
          have e4 : (sz.cs.getD i zeroCl).n = q + 1 := E3.out
          have e5 : (s1.cs.getD i zeroCl).n = q := Hq.out
          simp only [e4, e5] at e1 e2
          simp only [IW] at e1 e2 ⊢
          omega
    · have hk0 : k = 0 := by have := Hkk.out; omega
      have Hk0 := Lib.hid hk0
      have Hstep : Hid (dropP i n fa s = fa s1) := Lib.hid (by rw [← Hso.out, Hk0.out]; rfl)
      clear hk0
      rcases hfsz : fa s1 with ⟨sz, oz⟩
      have hfinez := HFa.out s1 Hok1.out
      rw [hfsz] at hfinez
      have Hfinez := Lib.hid hfinez
      have hcallz := HPa.out fe s1 _ (Hfr.out.trans Hfr1.out.drew) Hh1.out.drew Hok1.out Hlg1.out
      rw [hfsz] at hcallz
      have Hcallz := Lib.hid hcallz
      have Hfsz := Lib.hid hfsz
      clear hfinez hfsz hcallz
      go_wp2_with fail
      go_region
      go_wp2_with fail
      refine Hcallz.out.mono ?_
      rintro e wz ⟨rfl, iwz, frz⟩
      have Hf1z := Lib.hid ((Hfr.out.trans Hfr1.out.drew).trans frz)
      have Hfs_z := Lib.hid ((Hfr1.out.drew).trans frz)
      have cecz := (Kxc.out.fr Hf1z.out (by decide)).cell
      have cenz := (Kxn.out.fr Hf1z.out (by decide)).cell
      have ceaz := (Kxa.out.fr Hf1z.out (by decide)).cell
      have Hiwz := Lib.hid iwz
      clear iwz frz
      have hto : tup oz = .tuple #[.int .i64 (oz.getD 0), .bool oz.isSome] := rfl
      go_wp2_with fail
      refine bodyPost_ret (v := .tuple #[.int .i64 (oz.getD 0), .bool oz.isSome]) (by simp [results, Try.results121, go_sem]) rfl ?_
      have hm : dropP i n fa s = (sz, oz) := by rw [Hstep.out, Hfsz.out]
      rw [hm]
      exact ⟨rfl, Hiwz.out, Hfs_z.out⟩

set_option maxRecDepth 100000 in
set_option maxHeartbeats 3200000 in
theorem g_map {n0 rb cb N cc : Nat} {l : List Nd} {src : List (List Int)} {i : Nat} {w1 : World} {xa xb n m : Int} {bn : Nat} (kn : Bk w1 bn 97 [.int .i64 1, .int .i64 xa, .int .i64 xb, .int .i64 n, .int .i64 m]) (nr : rb < bn) (nc : bn ≠ cb) (hl : ∀ s : PS, StOk l src s.cs → i < s.cs.length) (hn : 0 ≤ n ∧ n ≤ 99 ∧ 0 ≤ m ∧ m ≤ 99) :
    Changes n0 rb cb N cc l src i (mapG ⟨1, xa, xb, n, m⟩) (.func (.func 102) #[] #[.pointer (some ⟨bn, 0, none⟩)]) w1 := by
  refine ⟨_, _, rfl, enters_of Try.func102 (by kernel_rfl) rfl, ?_⟩
  intro fe s W v hfr hiw ok hv
  have kn2 := hfr.bk kn (by decide) nr nc
  obtain ⟨y0, y1, y2, y3, y4⟩ : (W.cell? ⟨bn, 0, none⟩ = some (.int .i64 1)) ∧ (W.cell? ⟨bn, 1, none⟩ = some (.int .i64 xa)) ∧ (W.cell? ⟨bn, 2, none⟩ = some (.int .i64 xb)) ∧ (W.cell? ⟨bn, 3, none⟩ = some (.int .i64 n)) ∧ (W.cell? ⟨bn, 4, none⟩ = some (.int .i64 m)) := ⟨kn2.cell 0, kn2.cell 1, kn2.cell 2, kn2.cell 3, kn2.cell 4⟩
  clear kn2
  have Hiw := Lib.hid hiw
  have Hok := Lib.hid ok
  have _u := hiw.b0
  clear _u
  clear hiw ok hfr
  have h1' : 0 ≤ n * v := Int.mul_nonneg hn.1 hv.1
  have h2' : n * v ≤ 99 * 99 := Int.mul_le_mul hn.2.1 hv.2 hv.1 (by omega)
  have h3 : IntKind.i64.wrap (n * v) = n * v := IntWalk.i64_in _ (by omega)
  have h4 : IntKind.i64.wrap (n * v + m) = n * v + m := IntWalk.i64_in _ (by omega)
  have hput : s.put i (mapG ⟨1, xa, xb, n, m⟩ v (s.at_ i)).1 = s := PS.put_self (hl s Hok.out)
  have Hput := Lib.hid hput
  clear hput
  go_enter Try.func102, Try.ntmps102
  go_wp2_with fail
  refine (implRest_any (n * v + m) W (by omega)).mono ?_
  rintro e wb ⟨rfl, rfl⟩
  go_wp2_with fail
  go_ret
  exact ⟨rfl, by rw [Hput.out]; exact Hiw.out, Fr.refl _ _ _ _⟩

set_option maxRecDepth 100000 in
set_option maxHeartbeats 3200000 in
theorem g_filter {n0 rb cb N cc : Nat} {l : List Nd} {src : List (List Int)} {i : Nat} {w1 : World} {xa xb n m : Int} {bn : Nat} (kn : Bk w1 bn 97 [.int .i64 2, .int .i64 xa, .int .i64 xb, .int .i64 n, .int .i64 m]) (nr : rb < bn) (nc : bn ≠ cb) (hl : ∀ s : PS, StOk l src s.cs → i < s.cs.length) (hn : 1 ≤ n ∧ n ≤ 99) :
    Lets n0 rb cb N cc l src i (mayF ⟨2, xa, xb, n, m⟩) (.func (.func 106) #[] #[.pointer (some ⟨bn, 0, none⟩)]) w1 := by
  refine ⟨_, _, rfl, enters_of Try.func106 (by kernel_rfl) rfl, ?_⟩
  intro fe s W v hfr hiw ok hv
  have kn2 := hfr.bk kn (by decide) nr nc
  obtain ⟨y0, y1, y2, y3, y4⟩ : (W.cell? ⟨bn, 0, none⟩ = some (.int .i64 2)) ∧ (W.cell? ⟨bn, 1, none⟩ = some (.int .i64 xa)) ∧ (W.cell? ⟨bn, 2, none⟩ = some (.int .i64 xb)) ∧ (W.cell? ⟨bn, 3, none⟩ = some (.int .i64 n)) ∧ (W.cell? ⟨bn, 4, none⟩ = some (.int .i64 m)) := ⟨kn2.cell 0, kn2.cell 1, kn2.cell 2, kn2.cell 3, kn2.cell 4⟩
  clear kn2
  have Hiw := Lib.hid hiw
  have Hok := Lib.hid ok
  have _u := hiw.b0
  clear _u
  clear hiw ok hfr
  have hz : n ≠ 0 := by omega
  obtain ⟨r, hr⟩ : ∃ r, v.tmod n = r := ⟨_, rfl⟩
  have hr2 : IntKind.i64.wrap r = r := by
    rw [← hr, Int.tmod_eq_emod_of_nonneg hv.1]
    have h1 := Int.emod_nonneg v hz
    have h2 := Int.emod_lt_of_pos v (show 0 < n by omega)
    exact IntWalk.i64_in _ (by omega)
  have hput : s.put i (mayF ⟨2, xa, xb, n, m⟩ v (s.at_ i)).1 = s := PS.put_self (hl s Hok.out)
  have Hput := Lib.hid hput
  have Hr := Lib.hid hr
  obtain ⟨b, hb⟩ : ∃ b, (r == m) = b := ⟨_, rfl⟩
  have Hb := Lib.hid hb
  clear hput
  go_enter Try.func106, Try.ntmps106
  go_wp2_with fail
  go_region
  go_wp2_with fail
  go_ret
  exact ⟨by simp [mayF, Hr.out, Hb.out], by rw [Hput.out]; exact Hiw.out.drew, (Fr.refl _ _ _ _).drew⟩

set_option maxRecDepth 100000 in
set_option maxHeartbeats 3200000 in
theorem g_skip {n0 rb cb N cc : Nat} {l : List Nd} {src : List (List Int)} {i : Nat} {w1 : World} {xa xb n m : Int} {bc : Nat} (kxc : Bx rb cb w1 bc 122 (.pointer (some ⟨cb, i * 6, none⟩))) {bn : Nat} (kn : Bk w1 bn 97 [.int .i64 6, .int .i64 xa, .int .i64 xb, .int .i64 n, .int .i64 m]) (nr : rb < bn) (nc : bn ≠ cb) (hl : ∀ s : PS, StOk l src s.cs → i < s.cs.length) :
    Lets n0 rb cb N cc l src i (mayS ⟨6, xa, xb, n, m⟩) (.func (.func 107) #[] #[.pointer (some ⟨bn, 0, none⟩), .pointer (some ⟨bc, 0, none⟩)]) w1 := by
  refine ⟨_, _, rfl, enters_of Try.func107 (by kernel_rfl) rfl, ?_⟩
  intro fe s W v hfr hiw ok hv
  have cec := (kxc.fr hfr (by decide)).cell
  have kn2 := hfr.bk kn (by decide) nr nc
  obtain ⟨y0, y1, y2, y3, y4⟩ : (W.cell? ⟨bn, 0, none⟩ = some (.int .i64 6)) ∧ (W.cell? ⟨bn, 1, none⟩ = some (.int .i64 xa)) ∧ (W.cell? ⟨bn, 2, none⟩ = some (.int .i64 xb)) ∧ (W.cell? ⟨bn, 3, none⟩ = some (.int .i64 n)) ∧ (W.cell? ⟨bn, 4, none⟩ = some (.int .i64 m)) := ⟨kn2.cell 0, kn2.cell 1, kn2.cell 2, kn2.cell 3, kn2.cell 4⟩
  clear kn2
  have Hiw := Lib.hid hiw
  have Hok := Lib.hid ok
  have _u := hiw.b0
  clear _u
  have hfr' := Lib.hid hfr
  clear hiw ok hfr
  have hil := hl s Hok.out
  obtain ⟨q, hq⟩ : ∃ q, (s.at_ i).n = q := ⟨_, rfl⟩
  obtain ⟨d0, d1, d2, d3, d4, d5⟩ := Hiw.out.cl (i := i) hil
  rw [hq] at d0
  have g0 := Hiw.out.free (i * 6)
  have Hq := Lib.hid hq
  clear hq
  by_cases hge : n ≤ v
  · have q1 := Hiw.out.setN (i := i) hil 1
    have Hq1 := Lib.hid q1
    have e0 := (q1.cl (i := i) (by simp only [PS.put, List.length_set]; exact hil)).c0
    rw [PS.at_put hil] at e0
    simp only at e0
    have cec2 := (kxc.fr (hfr'.out.trans ((Fr.refl n0 rb cb W).setc (i * 6) (.int .i64 1))) (by decide)).cell
    have hm : mayS ⟨6, xa, xb, n, m⟩ v (s.at_ i) = ({ s.at_ i with n := 1 }, true) := by unfold mayS; rw [if_pos hge]
    have Hm := Lib.hid hm
    clear hm q1
    go_enter Try.func107, Try.ntmps107
    go_wp2_with fail
    go_ret
    exact ⟨by rw [Hm.out]; rfl, by rw [Hm.out]; exact Hq1.out, (Fr.refl _ _ _ _).setc _ _⟩
  · have hm : mayS ⟨6, xa, xb, n, m⟩ v (s.at_ i) = (s.at_ i, q == 1) := by unfold mayS; rw [if_neg hge, Hq.out]
    have Hm := Lib.hid hm
    have hput : s.put i (s.at_ i) = s := PS.put_self hil
    have Hput := Lib.hid hput
    obtain ⟨b, hb⟩ : ∃ b, (q == 1) = b := ⟨_, rfl⟩
    have Hb := Lib.hid hb
    clear hm hput
    go_enter Try.func107, Try.ntmps107
    go_wp2_with fail
    go_ret
    exact ⟨by rw [Hm.out, Hb.out]; rfl, by rw [Hm.out, Hput.out]; exact Hiw.out, Fr.refl _ _ _ _⟩

set_option maxRecDepth 100000 in
set_option maxHeartbeats 3200000 in
theorem g_scan {n0 rb cb N cc : Nat} {l : List Nd} {src : List (List Int)} {i : Nat} {w1 : World}  {bc : Nat} (kxc : Bx rb cb w1 bc 122 (.pointer (some ⟨cb, i * 6, none⟩))) {x : Nd} (hx : l[i]? = some x) (hk : x.k = 11) :
    Changes n0 rb cb N cc l src i (scanG) (.func (.func 104) #[] #[.pointer (some ⟨bc, 0, none⟩)]) w1 := by
  refine ⟨_, _, rfl, enters_of Try.func104 (by kernel_rfl) rfl, ?_⟩
  intro fe s W v hfr hiw ok hv
  have cec := (kxc.fr hfr (by decide)).cell
  have Hiw := Lib.hid hiw
  have Hok := Lib.hid ok
  have _u := hiw.b0
  clear _u
  have hfr' := Lib.hid hfr
  clear hiw ok hfr
  have hil : i < s.cs.length := by rw [Hok.out.len]; exact (List.getElem?_eq_some_iff.1 hx).1
  have hat := (StOk.at_ Hok.out hx).1
  have hmo : mostOf x src = 99 := by simp [mostOf, hk]
  rw [hmo] at hat
  obtain ⟨q, hq⟩ : ∃ q, (s.at_ i).n = q := ⟨_, rfl⟩
  rw [hq] at hat
  obtain ⟨d0, d1, d2, d3, d4, d5⟩ := Hiw.out.cl (i := i) hil
  rw [hq] at d0
  have g0 := Hiw.out.free (i * 6)
  have Hq := Lib.hid hq
  have hw1 : IntKind.i64.wrap (q + v) = q + v := IntWalk.i64_in _ (by omega)
  have q1 := (Hiw.out.setN (i := i) hil (rst (q + v))).drew
  have e0 := (q1.cl (i := i) (by simp only [PS.put, List.length_set]; exact hil)).c0
  rw [PS.at_put hil] at e0
  simp only at e0
  have cec2 := (kxc.fr (hfr'.out.trans (((Fr.refl n0 rb cb W).setc (i * 6) (.int .i64 (rst (q + v)))).drew)) (by decide)).cell
  have Hq1 := Lib.hid q1
  have hm : scanG v (s.at_ i) = ({ s.at_ i with n := rst (q + v) }, rst (q + v)) := by unfold scanG; rw [Hq.out]
  have Hm := Lib.hid hm
  clear hq hm q1 hmo hx
  go_enter Try.func104, Try.ntmps104
  go_wp2_with fail
  go_region_with (go_at_call 103; refine (implRest_any (q + v) _ (by omega)).mono ?_; rintro e wz ⟨rfl, rfl⟩)
  all_goals go_wp2_with fail
  all_goals go_ret
  all_goals exact ⟨by rw [Hm.out]; rfl, by rw [Hm.out]; exact Hq1.out, ((Fr.refl _ _ _ _).setc _ _).drew⟩

set_option maxRecDepth 100000 in
set_option maxHeartbeats 3200000 in
theorem g_once {n0 rb cb N cc : Nat} {l : List Nd} {src : List (List Int)} {i : Nat} {w1 : World}  {bc : Nat} (kxc : Bx rb cb w1 bc 122 (.pointer (some ⟨cb, i * 6, none⟩))) (hl : ∀ s : PS, StOk l src s.cs → i < s.cs.length) :
    Lets n0 rb cb N cc l src i (mayO) (.func (.func 108) #[] #[.pointer (some ⟨bc, 0, none⟩)]) w1 := by
  refine ⟨_, _, rfl, enters_of Try.func108 (by kernel_rfl) rfl, ?_⟩
  intro fe s W v hfr hiw ok hv
  have cec := (kxc.fr hfr (by decide)).cell
  have Hiw := Lib.hid hiw
  have Hok := Lib.hid ok
  have _u := hiw.b0
  clear _u
  clear hiw ok hfr
  have hil := hl s Hok.out
  have _u2 := hv
  clear _u2
  obtain ⟨b, hb⟩ : ∃ b, (s.at_ i).hl = b := ⟨_, rfl⟩
  obtain ⟨q, hq⟩ : ∃ q, (s.at_ i).l = q := ⟨_, rfl⟩
  obtain ⟨d0, d1, d2, d3, d4, d5⟩ := Hiw.out.cl (i := i) hil
  rw [hq] at d1
  rw [hb] at d3
  have g1 := Hiw.out.free (i * 6 + 1)
  have g3 := Hiw.out.free (i * 6 + 3)
  have Hq := Lib.hid hq
  have Hb := Lib.hid hb
  have q1 := Hiw.out.setHL (i := i) hil true
  have q1b := q1.setL (i := i) (by simp only [PS.put, List.length_set]; exact hil) v
  rw [PS.at_put hil, PS.put_put] at q1b
  simp only at q1b
  have q2 := Hiw.out.setL (i := i) hil v
  have q2b := q2.setHL (i := i) (by simp only [PS.put, List.length_set]; exact hil) true
  rw [PS.at_put hil, PS.put_put] at q2b
  simp only at q2b
  have Hq1 := Lib.hid q1b
  have Hq2 := Lib.hid q2b
  have hm : mayO v (s.at_ i) = ({ s.at_ i with l := v, hl := true }, !(b && q == v)) := by unfold mayO; rw [Hq.out, Hb.out]
  have Hm := Lib.hid hm
  have hne : ∀ a c : Nat, (⟨cb, i * 6 + 1, none⟩ : Addr) ≠ ⟨cb, i * 6 + 3, none⟩ := by intro a c e; injection e with e1 e2; omega
  clear hq hm q1 q1b q2 q2b hb hne
  cases b
  all_goals by_cases hqv : q = v
  all_goals (first | (have hqb : (q == v) = true := by rw [beq_iff_eq]; exact hqv) | (have hqb : (q == v) = false := by rw [beq_eq_false_iff_ne]; exact hqv))
  all_goals have Hqb := Lib.hid hqb
  all_goals clear hqv
  all_goals go_enter Try.func108, Try.ntmps108
  all_goals go_wp2_with fail
  all_goals go_region
  all_goals go_wp2_with fail
  all_goals go_ret
  all_goals first
    | exact ⟨by rw [Hm.out, Hqb.out]; rfl, by rw [Hm.out]; exact Hq1.out.drew, (((Fr.refl _ _ _ _).setc _ _).setc _ _).drew⟩
    | exact ⟨by rw [Hm.out, Hqb.out]; rfl, by rw [Hm.out]; exact Hq2.out.drew, (((Fr.refl _ _ _ _).setc _ _).setc _ _).drew⟩


end Go.Proofs.Ythfniffecceldaa
