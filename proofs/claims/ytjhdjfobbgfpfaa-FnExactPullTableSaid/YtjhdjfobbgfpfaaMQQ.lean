/- Texts on the program and its reference, put together (PiA, PmC, PiB). -/
import Derived.Test.YtjhdjfobbgfpfaaMQP
import Derived.Test.YtjhdjfobbgfpfaaMQJ
/- Contracts: pulls by the program: what a puller is; one list behind the other, and sums. -/
namespace Go.Proofs.Ytjhdjfobbgfpfaa
open Go.RowKit

/-- What may have been written since the run was made: as Fr, but of the blocks from n0 up to the run's own box nothing is said. -/
structure Fi (n0 rb cb : Nat) (w w' : World) : Prop where
  os : w'.os = w.os
  tape : w'.tape = w.tape
  output : w'.output = w.output
  size : w.heap.size ≤ w'.heap.size
  block : ∀ b, b < w.heap.size → b ≠ rb → b ≠ cb → (b < n0 ∨ (rb ≤ b ∧ ¬ IsPl w b)) → w'.heap[b]? = w.heap[b]?
section
variable {n0 rb cb : Nat} {w w' v : World}
theorem Fr.fi (h : Fr n0 rb cb w w') : Fi n0 rb cb w w' := ⟨h.os, h.tape, h.output, h.size, fun b hb h1 h2 h3 => h.block b hb h1 h2 (h3.imp id And.right)⟩
theorem Fi.refl (n0 rb cb : Nat) (w : World) : Fi n0 rb cb w w := (Fr.refl n0 rb cb w).fi
theorem Fi.trans (h : Fi n0 rb cb w w') (k : Fr n0 rb cb w' v) : Fi n0 rb cb w v :=
  ⟨k.os.trans h.os, k.tape.trans h.tape, k.output.trans h.output, Nat.le_trans h.size k.size, fun b hb h1 h2 h3 => by
    have e := h.block b hb h1 h2 h3
    exact (k.block b (Nat.lt_of_lt_of_le hb h.size) h1 h2 (h3.imp id fun hn ⟨cs, fr, hc⟩ => hn.2 ⟨cs, fr, e.symm.trans hc⟩)).trans e⟩
theorem Fr.tfi (h : Fr n0 rb cb w w') (k : Fi n0 rb cb w' v) : Fi n0 rb cb w v :=
  ⟨k.os.trans h.os, k.tape.trans h.tape, k.output.trans h.output, Nat.le_trans h.size k.size, fun b hb h1 h2 h3 => by
    have e := h.block b hb h1 h2 (h3.imp id And.right)
    exact (k.block b (Nat.lt_of_lt_of_le hb h.size) h1 h2 (h3.imp id fun hn => ⟨hn.1, fun ⟨cs, fr, hc⟩ => hn.2 ⟨cs, fr, e.symm.trans hc⟩⟩)).trans e⟩
theorem Fi.bk (h : Fi n0 rb cb w w') {g : Nat} {t : TypeId} {cs : List Value} (hb : Bk w g t cs) (ht : t ≠ 76) (h1 : rb < g) (h2 : g ≠ cb) : Bk w' g t cs :=
  (h.block g hb.lt (Nat.ne_of_gt h1) h2 (.inr ⟨Nat.le_of_lt h1, IsPl.not hb ht⟩)).trans hb
theorem Fi.alloc (h : Fi n0 rb cb w w') (o : Obj) : Fi n0 rb cb w (w'.alloc o) := h.trans ((Fr.refl _ _ _ _).alloc o)
theorem Fi.drew (h : Fi n0 rb cb w w') : Fi n0 rb cb w w'.drew := h.trans ((Fr.refl _ _ _ _).drew)
theorem Fi.below (h : Fi n0 rb cb w w') (h1 : n0 ≤ rb) (h2 : n0 ≤ cb) (hz : n0 ≤ w.heap.size) : Below n0 w w' :=
  ⟨h.os, h.tape, h.output, h.size, fun b hb => h.block b (by omega) (by omega) (by omega) (.inl hb)⟩
end

/-- The program's run in memory; fe is how its end is pulled. -/
def IW (n0 rb cb N cc : Nat) (fe : Value) (s : PS) (W : World) : Prop := RS n0 rb cb 113 [.slice (some ⟨cb, 0, none⟩) N cc] [fe] s W
/-- What a pull by the program leaves. -/
structure IPost (n0 rb cb N cc : Nat) (fe : Value) (w : World) (r : PS × Option Int) (e : Ending) (w' : World) : Prop where
  res : e = .returned (tup r.2)
  iw : IW n0 rb cb N cc fe r.1 w'
  fr : Fr n0 rb cb w w'
/-- A call of function k with the captured lb pulls as G says, in every world that comes after w1. -/
def Pulls (n0 rb cb N cc : Nat) (l : List Nd) (src : List (List Int)) (G : PF) (k : FuncId) (lb : Array Value) (w1 : World) : Prop :=
  ∀ (fe : Value) (s : PS) (W : World), Fi n0 rb cb w1 W → IW n0 rb cb N cc fe s W → StOk l src s.cs → s.lg.length + s.W l src ≤ 65536 →
    Calls Try.prog k lb W fun e w' => IPost n0 rb cb N cc fe W (G s) e w'
/-- A function value that pulls as G says. -/
def Puller (n0 rb cb N cc : Nat) (l : List Nd) (src : List (List Int)) (G : PF) (fv : Value) (w1 : World) : Prop :=
  ∃ (k : FuncId) (lb : Array Value), fv = .func (.func k) #[] lb ∧ (∀ (args : Array Value) (w : World), (callFunc k args).run Try.prog w = .ok (.enter k args) w) ∧ Pulls n0 rb cb N cc l src G k lb w1
/-- A box that no pull writes. -/
structure Bx (rb cb : Nat) (w : World) (b : Nat) (t : TypeId) (v : Value) : Prop where
  bk : Bk w b t [v]
  nr : rb < b
  nc : b ≠ cb
theorem Bx.fr {n0 rb cb : Nat} {w w' : World} {b : Nat} {t : TypeId} {v : Value} (h : Bx rb cb w b t v) (hf : Fi n0 rb cb w w') (ht : t ≠ 76) : Bx rb cb w' b t v := ⟨hf.bk h.bk ht h.nr h.nc, h.nr, h.nc⟩
theorem Bx.cell {rb cb : Nat} {w : World} {b : Nat} {t : TypeId} {v : Value} (h : Bx rb cb w b t v) : w.cell? ⟨b, 0, none⟩ = some v := h.bk.cell 0
theorem Puller.fr {n0 rb cb N cc : Nat} {l : List Nd} {src : List (List Int)} {G : PF} {fv : Value} {w w' : World} (h : Puller n0 rb cb N cc l src G fv w) (hf : Fr n0 rb cb w w') : Puller n0 rb cb N cc l src G fv w' := by
  obtain ⟨k, lb, e, hg, hp⟩ := h
  exact ⟨k, lb, e, hg, fun fe s W h1 => hp fe s W (hf.tfi h1)⟩
theorem IW.next {n0 rb cb N cc : Nat} {fe : Value} {s : PS} {w w' : World} (h : IW n0 rb cb N cc fe s w) (hb : Below w.heap.size w w') : IW n0 rb cb N cc fe s w' := RS.below h hb
theorem IW.b0 {n0 rb cb N cc : Nat} {fe : Value} {s : PS} {w : World} (h : IW n0 rb cb N cc fe s w) : w.cell? ⟨rb, 0, none⟩ = some (.slice (some ⟨cb, 0, none⟩) N cc) := by
  obtain ⟨R, cR, hb, _⟩ := RS.box h
  exact hb.cell 0

set_option maxRecDepth 100000 in
set_option maxHeartbeats 6400000 in
theorem i_chain {n0 rb cb N cc : Nat} {l : List Nd} {src : List (List Int)} {i : Nat} {w1 : World} {ba : Nat} {bb : Nat} {va : Value} {fa : PF} {ja : Nat} (hja : ja < i) (hFa : Fine l src ja fa) (hPa : Puller n0 rb cb N cc l src fa va w1) {vb : Value} {fb : PF} {jb : Nat} (hjb : jb < i) (hFb : Fine l src jb fb) (hPb : Puller n0 rb cb N cc l src fb vb w1) (kxa : Bx rb cb w1 ba 111 (va)) (kxb : Bx rb cb w1 bb 111 (vb)) :
    Pulls n0 rb cb N cc l src (chainP fa fb) 146 #[.pointer (some ⟨ba, 0, none⟩), .pointer (some ⟨bb, 0, none⟩)] w1 := by
  intro fe s W hfr hiw ok hlg
  have _ua := hja
  clear _ua
  have _ub := hjb
  clear _ub
  obtain ⟨ka, lba, rfl, ega, hpa⟩ := hPa
  obtain ⟨kb, lbb, rfl, egb, hpb⟩ := hPb
  have cea := (kxa.fr hfr (by decide)).cell
  have ceb := (kxb.fr hfr (by decide)).cell
  have Hfr := Lib.hid hfr
  have Hiw := Lib.hid hiw
  have Hok := Lib.hid ok
  have HPa := Lib.hid hpa
  have HFa := Lib.hid hFa
  have HPb := Lib.hid hpb
  have HFb := Lib.hid hFb
  have Kxa := Lib.hid kxa
  have Kxb := Lib.hid kxb
  clear hfr hiw ok hpa hpb hFa hFb kxa kxb
  rcases hfsa : fa s with ⟨sa, oa⟩
  have hfinea := HFa.out s Hok.out
  rw [hfsa] at hfinea
  have Hfinea := Lib.hid hfinea
  have hcalla := HPa.out fe s W Hfr.out Hiw.out Hok.out hlg
  rw [hfsa] at hcalla
  have Hcalla := Lib.hid hcalla
  have Hfsa := Lib.hid hfsa
  clear hfinea hfsa hcalla
  go_enter Try.func146, Try.ntmps146
  go_wp2_with fail
  refine Hcalla.out.mono ?_
  rintro e wa ⟨rfl, iwa, fra⟩
  have Hf1a := Lib.hid ((Hfr.out).trans fra)
  have Hfs_a := Lib.hid ((Fr.refl _ _ _ _).trans fra)
  have ceaa := (Kxa.out.fr Hf1a.out (by decide)).cell
  have ceba := (Kxb.out.fr Hf1a.out (by decide)).cell
  have Hiwa := Lib.hid iwa
  clear iwa fra
  cases oa with
  | some v =>
    have ht : tup (some v) = .tuple #[.int .i64 v, .bool true] := rfl
    go_wp2_with fail
    refine bodyPost_ret (v := .tuple #[.int .i64 v, .bool true]) (by simp [results, Try.results146, go_sem]) rfl ?_
    have hm : chainP fa fb s = (sa, some v) := by simp [chainP, Hfsa.out]
    rw [hm]
    exact ⟨rfl, Hiwa.out, Hfs_a.out⟩
  | none =>
    have ht : tup none = .tuple #[.int .i64 0, .bool false] := rfl
    rcases hfsb : fb sa with ⟨sb, ob⟩
    have hfineb := HFb.out sa Hfinea.out.ok
    rw [hfsb] at hfineb
    have Hfineb := Lib.hid hfineb
    have hcallb := HPb.out fe sa wa Hf1a.out Hiwa.out Hfinea.out.ok (Nat.le_trans Hfinea.out.wle hlg)
    rw [hfsb] at hcallb
    have Hcallb := Lib.hid hcallb
    have Hfsb := Lib.hid hfsb
    clear hfineb hfsb hcallb
    go_wp2_with fail
    refine Hcallb.out.mono ?_
    rintro e wb ⟨rfl, iwb, frb⟩
    have Hf1b := Lib.hid ((Hf1a.out).trans frb)
    have Hfs_b := Lib.hid ((Hfs_a.out).trans frb)
    have ceab := (Kxa.out.fr Hf1b.out (by decide)).cell
    have cebb := (Kxb.out.fr Hf1b.out (by decide)).cell
    have Hiwb := Lib.hid iwb
    clear iwb frb
    have hto : tup ob = .tuple #[.int .i64 (ob.getD 0), .bool ob.isSome] := rfl
    go_wp2_with fail
    refine bodyPost_ret (v := .tuple #[.int .i64 (ob.getD 0), .bool ob.isSome]) (by simp [results, Try.results146, go_sem]) rfl ?_
    have hm : chainP fa fb s = (sb, ob) := by simp [chainP, Hfsa.out, Hfsb.out]
    rw [hm]
    exact ⟨rfl, Hiwb.out, Hfs_b.out⟩

set_option maxRecDepth 100000 in
set_option maxHeartbeats 6400000 in
theorem i_zip {n0 rb cb N cc : Nat} {l : List Nd} {src : List (List Int)} {i : Nat} {w1 : World} {ba : Nat} {bb : Nat} {va : Value} {fa : PF} {ja : Nat} (hja : ja < i) (hFa : Fine l src ja fa) (hPa : Puller n0 rb cb N cc l src fa va w1) {vb : Value} {fb : PF} {jb : Nat} (hjb : jb < i) (hFb : Fine l src jb fb) (hPb : Puller n0 rb cb N cc l src fb vb w1) (kxa : Bx rb cb w1 ba 111 (va)) (kxb : Bx rb cb w1 bb 111 (vb)) :
    Pulls n0 rb cb N cc l src (zipP fa fb) 147 #[.pointer (some ⟨ba, 0, none⟩), .pointer (some ⟨bb, 0, none⟩)] w1 := by
  intro fe s W hfr hiw ok hlg
  have _ua := hja
  clear _ua
  have _ub := hjb
  clear _ub
  obtain ⟨ka, lba, rfl, ega, hpa⟩ := hPa
  obtain ⟨kb, lbb, rfl, egb, hpb⟩ := hPb
  have cea := (kxa.fr hfr (by decide)).cell
  have ceb := (kxb.fr hfr (by decide)).cell
  have Hfr := Lib.hid hfr
  have Hiw := Lib.hid hiw
  have Hok := Lib.hid ok
  have HPa := Lib.hid hpa
  have HFa := Lib.hid hFa
  have HPb := Lib.hid hpb
  have HFb := Lib.hid hFb
  have Kxa := Lib.hid kxa
  have Kxb := Lib.hid kxb
  clear hfr hiw ok hpa hpb hFa hFb kxa kxb
  rcases hfsa : fa s with ⟨sa, oa⟩
  have hfinea := HFa.out s Hok.out
  rw [hfsa] at hfinea
  have Hfinea := Lib.hid hfinea
  have hcalla := HPa.out fe s W Hfr.out Hiw.out Hok.out hlg
  rw [hfsa] at hcalla
  have Hcalla := Lib.hid hcalla
  have Hfsa := Lib.hid hfsa
  clear hfinea hfsa hcalla
  go_enter Try.func147, Try.ntmps147
  go_wp2_with fail
  refine Hcalla.out.mono ?_
  rintro e wa ⟨rfl, iwa, fra⟩
  have Hf1a := Lib.hid ((Hfr.out).trans fra)
  have Hfs_a := Lib.hid ((Fr.refl _ _ _ _).trans fra)
  have ceaa := (Kxa.out.fr Hf1a.out (by decide)).cell
  have ceba := (Kxb.out.fr Hf1a.out (by decide)).cell
  have Hiwa := Lib.hid iwa
  clear iwa fra
  cases oa with
  | none =>
    have ht : tup none = .tuple #[.int .i64 0, .bool false] := rfl
    go_wp2_with fail
    refine bodyPost_ret (v := .tuple #[.int .i64 0, .bool false]) (by simp [results, Try.results147, go_sem]) rfl ?_
    have hm : zipP fa fb s = (sa, none) := by simp [zipP, Hfsa.out]
    rw [hm]
    exact ⟨rfl, Hiwa.out, Hfs_a.out⟩
  | some v =>
    have hv := Hfinea.out.item v rfl
    have ht : tup (some v) = .tuple #[.int .i64 v, .bool true] := rfl
    rcases hfsb : fb sa with ⟨sb, ob⟩
    have hfineb := HFb.out sa Hfinea.out.ok
    rw [hfsb] at hfineb
    have Hfineb := Lib.hid hfineb
    have hcallb := HPb.out fe sa wa Hf1a.out Hiwa.out Hfinea.out.ok (Nat.le_trans Hfinea.out.wle hlg)
    rw [hfsb] at hcallb
    have Hcallb := Lib.hid hcallb
    have Hfsb := Lib.hid hfsb
    clear hfineb hfsb hcallb
    go_wp2_with fail
    refine Hcallb.out.mono ?_
    rintro e wb ⟨rfl, iwb, frb⟩
    have Hf1b := Lib.hid ((Hf1a.out).trans frb)
    have Hfs_b := Lib.hid ((Hfs_a.out).trans frb)
    have ceab := (Kxa.out.fr Hf1b.out (by decide)).cell
    have cebb := (Kxb.out.fr Hf1b.out (by decide)).cell
    have Hiwb := Lib.hid iwb
    clear iwb frb
    cases ob with
    | none =>
      have ht2 : tup none = .tuple #[.int .i64 0, .bool false] := rfl
      go_wp2_with fail
      refine bodyPost_ret (v := .tuple #[.int .i64 0, .bool false]) (by simp [results, Try.results147, go_sem]) rfl ?_
      have hm : zipP fa fb s = (sb, none) := by simp [zipP, Hfsa.out, Hfsb.out]
      rw [hm]
      exact ⟨rfl, Hiwb.out, Hfs_b.out⟩
    | some y =>
      have hy := Hfineb.out.item y rfl
      have hw1 : IntKind.i64.wrap (v + y) = v + y := IntWalk.i64_in _ (by omega)
      have ht2 : tup (some y) = .tuple #[.int .i64 y, .bool true] := rfl
      go_wp2_with fail
      refine (implRest_any (v + y) wb (by omega)).mono ?_
      rintro e wc ⟨rfl, rfl⟩
      go_wp2_with fail
      refine bodyPost_ret (v := .tuple #[.int .i64 (rst (v + y)), .bool true]) (by simp [results, Try.results147, go_sem]) rfl ?_
      have hm : zipP fa fb s = (sb, some (rst (v + y))) := by simp [zipP, Hfsa.out, Hfsb.out]
      rw [hm]
      exact ⟨rfl, Hiwb.out, Hfs_b.out⟩

end Go.Proofs.Ytjhdjfobbgfpfaa

/- Plain mathematics: a pull at a node leaves alone whether the node is done, until its answer is known. -/
namespace Go.Proofs.Ytjhdjfobbgfpfaa

/-- What the body of a node keeps. -/
def KeepB (l : List Nd) (src : List (List Int)) (i : Nat) (f : PF) : Prop := ∀ s, StOk l src s.cs → (f s).1.cs.length = l.length ∧ ((f s).1.at_ i).d = (s.at_ i).d

section
variable {l : List Nd} {src : List (List Int)} {i j : Nat} {x : Nd} {f fa fb : PF} {s : PS}
theorem keep_f (hj : j < i) (hf : Fine l src j f) : KeepB l src i f := fun s hs => by
  have h := hf s hs
  exact ⟨h.ok.len, by rw [h.at_ hj]⟩
theorem put_d {c : Cl} (hi : i < s.cs.length) (hc : c.d = (s.at_ i).d) : ((s.put i c).at_ i).d = (s.at_ i).d := by rw [PS.at_put hi]; exact hc
theorem put_len {c : Cl} : (s.put i c).cs.length = s.cs.length := by simp [PS.put]

theorem srcP_keep (hx : l[i]? = some x) : KeepB l src i (srcP src i x) := fun s hs => by
  unfold srcP
  split
  · exact ⟨hs.len, rfl⟩
  · exact ⟨by rw [put_len]; exact hs.len, put_d (s := s.say ⟨x.n, (s.at_ i).n⟩) (hs.lt hx) rfl⟩
theorem chgP_keep {g : Int → Cl → Cl × Int} (hx : l[i]? = some x) (hj : j < i) (hf : Fine l src j f) (hg : ∀ v c, (g v c).1.d = c.d) : KeepB l src i (chgP i g f) := fun s hs => by
  have h := hf s hs
  have ha := h.at_ hj
  unfold chgP
  rcases hfs : f s with ⟨s2, o⟩
  rw [hfs] at h ha
  cases o with
  | none => exact ⟨h.ok.len, by rw [ha]⟩
  | some v => exact ⟨by rw [put_len]; exact h.ok.len, by rw [put_d (h.ok.lt hx) (hg v _), ha]⟩
theorem someL_keep {may : Int → Cl → Cl × Bool} (hx : l[i]? = some x) (hk : x.k ≠ 0 ∧ x.k ≠ 9) (hj : j < i) (hf : Fine l src j f) (hg : ∀ v c, (0 ≤ v ∧ v ≤ 99) → CellIn src x c → CellIn src x (may v c).1) (hd : ∀ v c, (may v c).1.d = c.d) : ∀ n, KeepB l src i (someL i may f n)
  | 0 => fun s hs => ⟨hs.len, rfl⟩
  | n + 1 => fun s hs => by
    have h := hf s hs
    have ha := h.at_ hj
    have h2 := h.wide (Nat.le_of_lt hj)
    unfold someL
    rcases hfs : f s with ⟨s2, o⟩
    rw [hfs] at h ha h2
    cases o with
    | none => exact ⟨h.ok.len, by rw [ha]⟩
    | some v =>
      have hv := h.item v rfl
      have hp := h2.put_ hx hk (hg v (s2.at_ i) hv (StOk.at_ h.ok hx))
      have e : ((s2.put i (may v (s2.at_ i)).1).at_ i).d = (s.at_ i).d := by rw [put_d (h.ok.lt hx) (hd v _), ha]
      dsimp only
      split
      · exact ⟨hp.ok.len, e⟩
      · obtain ⟨q1, q2⟩ := someL_keep hx hk hj hf hg hd n _ hp.ok
        exact ⟨q1, q2.trans e⟩
theorem takeP_keep {n : Int} (hx : l[i]? = some x) (hk : x.k = 3) (hn : n = x.n) (hj : j < i) (hf : Fine l src j f) : KeepB l src i (takeP i n f) := fun s hs => by
  have hat := StOk.at_ hs hx
  have hm : mostOf x src = x.n := by simp [mostOf, hk]
  subst hn
  unfold takeP
  split
  · exact ⟨hs.len, rfl⟩
  · rename_i hn
    have hp := FineAt.start (c := { s.at_ i with n := (s.at_ i).n + 1 }) hs hx ⟨by omega, by omega⟩ ⟨⟨by simp; omega, by simp only [hm]; have := hat.1.2; omega⟩, hat.2⟩
    have h := hf _ hp.ok
    exact ⟨h.ok.len, by rw [h.at_ hj]; exact put_d (hs.lt hx) rfl⟩
theorem dropL_keep {n : Int} (hx : l[i]? = some x) (hk : x.k = 4) (hn : n = x.n) (hj : j < i) (hf : Fine l src j f) : ∀ k, KeepB l src i (dropL i n f k)
  | 0 => keep_f hj hf
  | k + 1 => fun s hs => by
    have hat := StOk.at_ hs hx
    have hm : mostOf x src = x.n := by simp [mostOf, hk]
    subst hn
    unfold dropL
    split
    · rename_i hn
      have hp := FineAt.start (c := { s.at_ i with n := (s.at_ i).n + 1 }) hs hx ⟨by omega, by omega⟩ ⟨⟨by simp; omega, by simp only [hm]; omega⟩, hat.2⟩
      have h := hf _ hp.ok
      have ha := h.at_ hj
      rcases hfs : f (s.put i { s.at_ i with n := (s.at_ i).n + 1 }) with ⟨s2, o⟩
      rw [hfs] at h ha
      have e : (s2.at_ i).d = (s.at_ i).d := by
        have : s2.at_ i = (s.put i { s.at_ i with n := (s.at_ i).n + 1 }).at_ i := ha
        rw [this]
        exact put_d (hs.lt hx) rfl
      cases o with
      | none => exact ⟨h.ok.len, e⟩
      | some v =>
        obtain ⟨q1, q2⟩ := dropL_keep hx hk rfl hj hf k _ h.ok
        exact ⟨q1, q2.trans e⟩
    · exact keep_f hj hf s hs
theorem whileP_keep {n : Int} (hj : j < i) (hf : Fine l src j f) : KeepB l src i (whileP n f) := fun s hs => by
  have h := keep_f hj hf s hs
  unfold whileP
  rcases hfs : f s with ⟨s2, o⟩
  rw [hfs] at h
  cases o with
  | none => exact h
  | some v =>
    dsimp only
    split
    · exact h
    · exact h
theorem batchL_keep (hj : j < i) (hf : Fine l src j f) : ∀ (k : Nat) (sum : Int) (b : Bool), KeepB l src i (batchL f k sum b)
  | 0, _, _ => fun s hs => ⟨hs.len, rfl⟩
  | k + 1, sum, b => fun s hs => by
    have h := keep_f hj hf s hs
    have hok := (hf s hs).ok
    unfold batchL
    rcases hfs : f s with ⟨s2, o⟩
    rw [hfs] at h hok
    cases o with
    | none => exact h
    | some v =>
      obtain ⟨q1, q2⟩ := batchL_keep hj hf k (rst (sum + v)) true s2 hok
      exact ⟨q1, q2.trans h.2⟩
theorem chainP_keep {j2 : Nat} (hj : j < i) (hj2 : j2 < i) (ha : Fine l src j fa) (hb : Fine l src j2 fb) : KeepB l src i (chainP fa fb) := fun s hs => by
  have h := keep_f hj ha s hs
  have hok := (ha s hs).ok
  unfold chainP
  rcases hfs : fa s with ⟨s2, o⟩
  rw [hfs] at h hok
  cases o with
  | some v => exact h
  | none =>
    obtain ⟨q1, q2⟩ := keep_f hj2 hb s2 hok
    exact ⟨q1, q2.trans h.2⟩
theorem zipP_keep {j2 : Nat} (hj : j < i) (hj2 : j2 < i) (ha : Fine l src j fa) (hb : Fine l src j2 fb) : KeepB l src i (zipP fa fb) := fun s hs => by
  have h := keep_f hj ha s hs
  have hok := (ha s hs).ok
  unfold zipP
  rcases hfs : fa s with ⟨s2, o⟩
  rw [hfs] at h hok
  cases o with
  | none => exact h
  | some v =>
    obtain ⟨q1, q2⟩ := keep_f hj2 hb s2 hok
    dsimp only
    rcases hfs2 : fb s2 with ⟨s3, o3⟩
    rw [hfs2] at q1 q2
    cases o3 with
    | none => exact ⟨q1, q2.trans h.2⟩
    | some y => exact ⟨q1, q2.trans h.2⟩
theorem turnP_keep {j2 : Nat} (hx : l[i]? = some x) (hk : x.k = 10) (hj : j < i) (hj2 : j2 < i) (ha : Fine l src j fa) (hb : Fine l src j2 fb) : KeepB l src i (turnP i fa fb) := fun s hs => by
  have hat := StOk.at_ hs hx
  have hm : mostOf x src = 1 := by simp [mostOf, hk]
  have hp := FineAt.start (c := { s.at_ i with n := 1 - (s.at_ i).n }) hs hx ⟨by omega, by omega⟩ ⟨⟨by simp only; have := hat.1.2; omega, by simp only [hm]; omega⟩, hat.2⟩
  have e : ((s.put i { s.at_ i with n := 1 - (s.at_ i).n }).at_ i).d = (s.at_ i).d := put_d (hs.lt hx) rfl
  unfold turnP
  split
  · obtain ⟨q1, q2⟩ := chainP_keep hj2 hj hb ha _ hp.ok
    exact ⟨q1, q2.trans e⟩
  · obtain ⟨q1, q2⟩ := chainP_keep hj hj2 ha hb _ hp.ok
    exact ⟨q1, q2.trans e⟩
theorem mergeP_keep {j2 : Nat} (hx : l[i]? = some x) (hk : x.k = 9) (hj : j < i) (hj2 : j2 < i) (ha : Fine l src j fa) (hb : Fine l src j2 fb) : KeepB l src i (mergeP i fa fb) := fun s hs => by
  have f1 := fetchL_fine hx hk hj ha s hs
  have f2 := fetchR_fine hx hk hj2 hb _ f1.ok
  have e1 : ((fetchL i fa s).at_ i).d = (s.at_ i).d := by
    unfold fetchL
    split
    · rfl
    · have h := ha s hs
      refine Eq.trans (put_d (h.ok.lt hx) rfl) ?_
      rw [h.at_ hj]
  have e2 : ((fetchR i fb (fetchL i fa s)).at_ i).d = ((fetchL i fa s).at_ i).d := by
    unfold fetchR
    split
    · rfl
    · have h := hb _ f1.ok
      refine Eq.trans (put_d (h.ok.lt hx) rfl) ?_
      rw [h.at_ hj2]
  have e3 : ((pickP i (fetchR i fb (fetchL i fa s))).1.at_ i).d = ((fetchR i fb (fetchL i fa s)).at_ i).d := by
    unfold pickP
    split
    · exact put_d (f2.ok.lt hx) rfl
    · exact put_d (f2.ok.lt hx) rfl
  exact ⟨(pickP_fine hx hk _ f2.ok).ok.len, e3.trans (e2.trans e1)⟩

theorem stemP_keep {fu : PS → Nat} (hx : l[i]? = some x) (ha : arity x.k = 1) (hn : numsOk x = true) (hj : j < i) (hf : Fine l src j f) : KeepB l src i (stemP fu i x f) := by
  have hk := arity_one ha
  have _u := hn
  unfold stemP
  split
  · exact chgP_keep hx hj hf fun v c => rfl
  split
  · exact fun s hs => someL_keep hx ⟨by omega, by omega⟩ hj hf (fun v c _ hc => hc) (fun v c => rfl) _ s hs
  split
  · rename_i e; exact takeP_keep hx e rfl hj hf
  split
  · rename_i e; exact fun s hs => dropL_keep hx e rfl hj hf _ s hs
  split
  · exact whileP_keep hj hf
  split
  · rename_i e
    refine fun s hs => someL_keep hx ⟨by omega, by omega⟩ hj hf (fun v c _ hc => ?_) (fun v c => ?_) _ s hs
    · unfold mayS
      split
      · exact ⟨⟨by simp, by simp [mostOf, e]⟩, hc.2⟩
      · exact hc
    · unfold mayS
      split <;> rfl
  split
  · exact chgP_keep hx hj hf fun v c => rfl
  split
  · exact batchL_keep hj hf _ _ _
  · exact fun s hs => someL_keep hx ⟨by omega, by omega⟩ hj hf (fun v c hv hc => ⟨hc.1, hv, hc.2.2⟩) (fun v c => rfl) _ s hs
theorem forkP_keep (hx : l[i]? = some x) (ha : arity x.k = 2) {j2 : Nat} (hj : j < i) (hj2 : j2 < i) (hfa : Fine l src j fa) (hfb : Fine l src j2 fb) : KeepB l src i (forkP i x fa fb) := by
  have hk := arity_two ha
  unfold forkP
  split
  · exact chainP_keep hj hj2 hfa hfb
  split
  · exact zipP_keep hj hj2 hfa hfb
  split
  · rename_i e; exact mergeP_keep hx e hj hj2 hfa hfb
  · exact turnP_keep hx (by omega) hj hj2 hfa hfb
end

end Go.Proofs.Ytjhdjfobbgfpfaa

/- Contracts: pulls by the program: nodes that look at items one by one. -/
namespace Go.Proofs.Ytjhdjfobbgfpfaa
open Go.RowKit

/-- A function value that changes an item, and the cell of the node i, as g says. -/
def Changes (n0 rb cb N cc : Nat) (l : List Nd) (src : List (List Int)) (i : Nat) (g : Int → Cl → Cl × Int) (gv : Value) (w1 : World) : Prop :=
  ∃ (k : FuncId) (lb : Array Value), gv = .func (.func k) #[] lb ∧ (∀ (args : Array Value) (w : World), (callFunc k args).run Try.prog w = .ok (.enter k args) w) ∧
    ∀ (fe : Value) (s : PS) (W : World) (v : Int), Fi n0 rb cb w1 W → IW n0 rb cb N cc fe s W → StOk l src s.cs → (0 ≤ v ∧ v ≤ 99) →
      Calls Try.prog k (#[.int .i64 v] ++ lb) W fun e w' => e = .returned (.int .i64 (g v (s.at_ i)).2) ∧ IW n0 rb cb N cc fe (s.put i (g v (s.at_ i)).1) w' ∧ Fr n0 rb cb W w'
/-- A function value that tells whether an item may pass. -/
def Lets (n0 rb cb N cc : Nat) (l : List Nd) (src : List (List Int)) (i : Nat) (g : Int → Cl → Cl × Bool) (gv : Value) (w1 : World) : Prop :=
  ∃ (k : FuncId) (lb : Array Value), gv = .func (.func k) #[] lb ∧ (∀ (args : Array Value) (w : World), (callFunc k args).run Try.prog w = .ok (.enter k args) w) ∧
    ∀ (fe : Value) (s : PS) (W : World) (v : Int), Fi n0 rb cb w1 W → IW n0 rb cb N cc fe s W → StOk l src s.cs → (0 ≤ v ∧ v ≤ 99) →
      Calls Try.prog k (#[.int .i64 v] ++ lb) W fun e w' => e = .returned (.bool (g v (s.at_ i)).2) ∧ IW n0 rb cb N cc fe (s.put i (g v (s.at_ i)).1) w' ∧ Fr n0 rb cb W w'
def okOf : Value → Nat | .bool true => 1 | _ => 0
/-- The rest of a search, when a pull has given o. -/
def someR (i : Nat) (may : Int → Cl → Cl × Bool) (f : PF) (k : Nat) (s : PS) : Option Int → PS × Option Int
  | none => (s, none)
  | some v => if (may v (s.at_ i)).2 = true then (s.put i (may v (s.at_ i)).1, some v) else someL i may f k (s.put i (may v (s.at_ i)).1)
theorem someL_R {i : Nat} {may : Int → Cl → Cl × Bool} {f : PF} {k : Nat} {s s2 : PS} {o : Option Int} (h : f s = (s2, o)) : someL i may f (k + 1) s = someR i may f k s2 o := by
  simp only [someL]
  rw [h]
  cases o <;> rfl

set_option maxRecDepth 100000 in
set_option maxHeartbeats 6400000 in
theorem i_done {n0 rb cb N cc : Nat} {l : List Nd} {src : List (List Int)} {i : Nat} {w1 : World} {bc : Nat} {bp : Nat} {vp : Value} {fp : PF} (hFp : KeepB l src i fp) (hPp : Puller n0 rb cb N cc l src fp vp w1) (kxc : Bx rb cb w1 bc 132 (.pointer (some ⟨cb, i * 6, none⟩))) (kxp : Bx rb cb w1 bp 111 (vp)) (hil : i < l.length) :
    Pulls n0 rb cb N cc l src (doneP i fp) 121 #[.pointer (some ⟨bc, 0, none⟩), .pointer (some ⟨bp, 0, none⟩)] w1 := by
  intro fe s W hfr hiw ok hlg
  obtain ⟨kp, lbp, rfl, egp, hpp⟩ := hPp
  have cec := (kxc.fr hfr (by decide)).cell
  have cep := (kxp.fr hfr (by decide)).cell
  have Hfr := Lib.hid hfr
  have Hiw := Lib.hid hiw
  have Hok := Lib.hid ok
  have HPp := Lib.hid hpp
  have HFp := Lib.hid hFp
  have Kxc := Lib.hid kxc
  have Kxp := Lib.hid kxp
  clear hfr hiw ok hpp hFp kxc kxp
  obtain ⟨d0, d1, d2, d3, d4, d5⟩ := Hiw.out.cl (i := i) (by rw [Hok.out.len]; exact hil)
  cases hd : (s.at_ i).d with
  | true =>
    rw [hd] at d5
    have Hd := Lib.hid hd
    clear hd
    go_enter Try.func121, Try.ntmps121
    go_wp2_with fail
    refine bodyPost_ret (v := .tuple #[.int .i64 0, .bool false]) (by simp [results, Try.results121, go_sem]) rfl ?_
    have hm : doneP i fp s = (s, none) := doneP_done Hd.out
    rw [hm]
    exact ⟨rfl, Hiw.out, Fr.refl _ _ _ _⟩
  | false =>
    rw [hd] at d5
    have Hd := Lib.hid hd
    clear hd
    rcases hfs : fp s with ⟨sa, oa⟩
    have hkeep := HFp.out s Hok.out
    rw [hfs] at hkeep
    have Hlen : Hid (i < sa.cs.length) := Lib.hid (by have := hkeep.1; simp only at this; omega)
    have Hkd : Hid ((sa.at_ i).d = false) := Lib.hid (by have := hkeep.2; simp only at this; rw [this, Hd.out])
    have hcalla := HPp.out fe s W Hfr.out Hiw.out Hok.out hlg
    rw [hfs] at hcalla
    have Hcalla := Lib.hid hcalla
    have Hfsa := Lib.hid hfs
    clear hkeep hcalla hfs
    go_enter Try.func121, Try.ntmps121
    go_wp2_with fail
    refine Hcalla.out.mono ?_
    rintro e wa ⟨rfl, iwa, fra⟩
    have Hf1a := Lib.hid ((Hfr.out).trans fra)
    have Hfs_a := Lib.hid ((Fr.refl _ _ _ _).trans fra)
    have ceca := (Kxc.out.fr Hf1a.out (by decide)).cell
    have cepa := (Kxp.out.fr Hf1a.out (by decide)).cell
    have Hiwa := Lib.hid iwa
    clear iwa fra
    have e5 := (Hiwa.out.cl (i := i) Hlen.out).c5
    have g5 := Hiwa.out.free (i * 6 + 5)
    cases oa with
    | none =>
      have ht : tup none = .tuple #[.int .i64 0, .bool false] := rfl
      have q1 := Hiwa.out.setD (i := i) Hlen.out true
      have Hq1 := Lib.hid q1
      clear q1
      go_wp2_with fail
      refine bodyPost_ret (v := .tuple #[.int .i64 0, .bool false]) (by simp [results, Try.results121, go_sem]) rfl ?_
      have hm : doneP i fp s = (sa.put i { sa.at_ i with d := true }, none) := doneP_none Hd.out Hfsa.out
      rw [hm]
      exact ⟨rfl, Hq1.out, Hfs_a.out.setc _ _⟩
    | some v =>
      have ht : tup (some v) = .tuple #[.int .i64 v, .bool true] := rfl
      have q1 := Hiwa.out.setD (i := i) Hlen.out false
      rw [PS.put_same Hlen.out (by rw [← Hkd.out])] at q1
      have Hq1 := Lib.hid q1
      clear q1
      go_wp2_with fail
      refine bodyPost_ret (v := .tuple #[.int .i64 v, .bool true]) (by simp [results, Try.results121, go_sem]) rfl ?_
      have hm : doneP i fp s = (sa, some v) := doneP_some Hd.out Hfsa.out
      rw [hm]
      exact ⟨rfl, Hq1.out, Hfs_a.out.setc _ _⟩

set_option maxRecDepth 100000 in
set_option maxHeartbeats 6400000 in
theorem i_chg {n0 rb cb N cc : Nat} {l : List Nd} {src : List (List Int)} {i : Nat} {w1 : World} {vg : Value} {g : Int → Cl → Cl × Int} {ba : Nat} {bg : Nat} {va : Value} {fa : PF} {ja : Nat} (hja : ja < i) (hFa : Fine l src ja fa) (hPa : Puller n0 rb cb N cc l src fa va w1) (kxa : Bx rb cb w1 ba 111 (va)) (kxg : Bx rb cb w1 bg 129 (vg)) (hC : Changes n0 rb cb N cc l src i g vg w1) :
    Pulls n0 rb cb N cc l src (chgP i g fa) 140 #[.pointer (some ⟨ba, 0, none⟩), .pointer (some ⟨bg, 0, none⟩)] w1 := by
  intro fe s W hfr hiw ok hlg
  have _ua := hja
  clear _ua
  obtain ⟨kg, lbg, rfl, egg, hpg⟩ := hC
  obtain ⟨ka, lba, rfl, ega, hpa⟩ := hPa
  have cea := (kxa.fr hfr (by decide)).cell
  have ceg := (kxg.fr hfr (by decide)).cell
  have Hfr := Lib.hid hfr
  have Hiw := Lib.hid hiw
  have Hok := Lib.hid ok
  have HPa := Lib.hid hpa
  have HFa := Lib.hid hFa
  have Kxa := Lib.hid kxa
  have Kxg := Lib.hid kxg
  have HPg := Lib.hid hpg
  clear hpg
  clear hfr hiw ok hpa hFa kxa kxg
  rcases hfsa : fa s with ⟨sa, oa⟩
  have hfinea := HFa.out s Hok.out
  rw [hfsa] at hfinea
  have Hfinea := Lib.hid hfinea
  have hcalla := HPa.out fe s W Hfr.out Hiw.out Hok.out hlg
  rw [hfsa] at hcalla
  have Hcalla := Lib.hid hcalla
  have Hfsa := Lib.hid hfsa
  clear hfinea hfsa hcalla
  go_enter Try.func140, Try.ntmps140
  go_wp2_with fail
  refine Hcalla.out.mono ?_
  rintro e wa ⟨rfl, iwa, fra⟩
  have Hf1a := Lib.hid ((Hfr.out).trans fra)
  have Hfs_a := Lib.hid ((Fr.refl _ _ _ _).trans fra)
  have ceaa := (Kxa.out.fr Hf1a.out (by decide)).cell
  have cega := (Kxg.out.fr Hf1a.out (by decide)).cell
  have Hiwa := Lib.hid iwa
  clear iwa fra
  cases oa with
  | none =>
    have ht : tup none = .tuple #[.int .i64 0, .bool false] := rfl
    go_wp2_with fail
    refine bodyPost_ret (v := .tuple #[.int .i64 0, .bool false]) (by simp [results, Try.results140, go_sem]) rfl ?_
    have hm : chgP i g fa s = (sa, none) := by simp [chgP, Hfsa.out]
    rw [hm]
    exact ⟨rfl, Hiwa.out, Hfs_a.out⟩
  | some v =>
    have hv := Hfinea.out.item v rfl
    have ht : tup (some v) = .tuple #[.int .i64 v, .bool true] := rfl
    go_wp2_with fail
    refine (HPg.out fe sa wa v Hf1a.out Hiwa.out Hfinea.out.ok hv).mono ?_
    rintro e wb ⟨rfl, iwb, frb⟩
    have Hiwb := Lib.hid iwb
    have Hfrb := Lib.hid (Hfs_a.out.trans frb)
    clear iwb frb
    go_wp2_with fail
    refine bodyPost_ret (v := .tuple #[.int .i64 (g v (sa.at_ i)).2, .bool true]) (by simp [results, Try.results140, go_sem]) rfl ?_
    have hm : chgP i g fa s = (sa.put i (g v (sa.at_ i)).1, some (g v (sa.at_ i)).2) := by simp [chgP, Hfsa.out]
    rw [hm]
    exact ⟨rfl, Hiwb.out, Hfrb.out⟩

set_option maxRecDepth 100000 in
set_option maxHeartbeats 6400000 in
theorem i_while {n0 rb cb N cc : Nat} {l : List Nd} {src : List (List Int)} {i : Nat} {w1 : World} {n : Int} {ba : Nat} {bn : Nat} {va : Value} {fa : PF} {ja : Nat} (hja : ja < i) (hFa : Fine l src ja fa) (hPa : Puller n0 rb cb N cc l src fa va w1) (kxa : Bx rb cb w1 ba 111 (va)) (kxn : Bx rb cb w1 bn 3 (.int .i64 n)) :
    Pulls n0 rb cb N cc l src (whileP n fa) 144 #[.pointer (some ⟨ba, 0, none⟩), .pointer (some ⟨bn, 0, none⟩)] w1 := by
  intro fe s W hfr hiw ok hlg
  have _ua := hja
  clear _ua
  obtain ⟨ka, lba, rfl, ega, hpa⟩ := hPa
  have cea := (kxa.fr hfr (by decide)).cell
  have cen := (kxn.fr hfr (by decide)).cell
  have Hfr := Lib.hid hfr
  have Hiw := Lib.hid hiw
  have Hok := Lib.hid ok
  have HPa := Lib.hid hpa
  have HFa := Lib.hid hFa
  have Kxa := Lib.hid kxa
  have Kxn := Lib.hid kxn
  clear hfr hiw ok hpa hFa kxa kxn
  rcases hfsa : fa s with ⟨sa, oa⟩
  have hfinea := HFa.out s Hok.out
  rw [hfsa] at hfinea
  have Hfinea := Lib.hid hfinea
  have hcalla := HPa.out fe s W Hfr.out Hiw.out Hok.out hlg
  rw [hfsa] at hcalla
  have Hcalla := Lib.hid hcalla
  have Hfsa := Lib.hid hfsa
  clear hfinea hfsa hcalla
  go_enter Try.func144, Try.ntmps144
  go_wp2_with fail
  refine Hcalla.out.mono ?_
  rintro e wa ⟨rfl, iwa, fra⟩
  have Hf1a := Lib.hid ((Hfr.out).trans fra)
  have Hfs_a := Lib.hid ((Fr.refl _ _ _ _).trans fra)
  have ceaa := (Kxa.out.fr Hf1a.out (by decide)).cell
  have cena := (Kxn.out.fr Hf1a.out (by decide)).cell
  have Hiwa := Lib.hid iwa
  clear iwa fra
  cases oa with
  | none =>
    have ht : tup none = .tuple #[.int .i64 0, .bool false] := rfl
    go_wp2_with fail
    refine bodyPost_ret (v := .tuple #[.int .i64 0, .bool false]) (by simp [results, Try.results144, go_sem]) rfl ?_
    have hm : whileP n fa s = (sa, none) := by simp [whileP, Hfsa.out]
    rw [hm]
    exact ⟨rfl, Hiwa.out, Hfs_a.out⟩
  | some v =>
    have ht : tup (some v) = .tuple #[.int .i64 v, .bool true] := rfl
    by_cases hge : n ≤ v
    · go_wp2_with fail
      refine bodyPost_ret (v := .tuple #[.int .i64 0, .bool false]) (by simp [results, Try.results144, go_sem]) rfl ?_
      have hm : whileP n fa s = (sa, none) := by simp [whileP, Hfsa.out, hge]
      rw [hm]
      exact ⟨rfl, Hiwa.out, Hfs_a.out⟩
    · go_wp2_with fail
      refine bodyPost_ret (v := .tuple #[.int .i64 v, .bool true]) (by simp [results, Try.results144, go_sem]) rfl ?_
      have hm : whileP n fa s = (sa, some v) := by simp [whileP, Hfsa.out, (show ¬ n ≤ v by omega)]
      rw [hm]
      exact ⟨rfl, Hiwa.out, Hfs_a.out⟩

set_option maxRecDepth 100000 in
set_option maxHeartbeats 6400000 in
theorem i_take {n0 rb cb N cc : Nat} {l : List Nd} {src : List (List Int)} {i : Nat} {w1 : World} {n : Int} {bc : Nat} {bn : Nat} {ba : Nat} {va : Value} {fa : PF} {ja : Nat} (hja : ja < i) (hFa : Fine l src ja fa) (hPa : Puller n0 rb cb N cc l src fa va w1) (kxc : Bx rb cb w1 bc 132 (.pointer (some ⟨cb, i * 6, none⟩))) (kxn : Bx rb cb w1 bn 3 (.int .i64 n)) (kxa : Bx rb cb w1 ba 111 (va)) {xa xb m : Int} (hx : l[i]? = some ⟨3, xa, xb, n, m⟩) (hn30 : 0 ≤ n ∧ n ≤ 30) :
    Pulls n0 rb cb N cc l src (takeP i n fa) 142 #[.pointer (some ⟨bc, 0, none⟩), .pointer (some ⟨bn, 0, none⟩), .pointer (some ⟨ba, 0, none⟩)] w1 := by
  intro fe s W hfr hiw ok hlg
  have _ua := hja
  clear _ua
  obtain ⟨ka, lba, rfl, ega, hpa⟩ := hPa
  have cec := (kxc.fr hfr (by decide)).cell
  have cen := (kxn.fr hfr (by decide)).cell
  have cea := (kxa.fr hfr (by decide)).cell
  have Hfr := Lib.hid hfr
  have Hiw := Lib.hid hiw
  have Hok := Lib.hid ok
  have HPa := Lib.hid hpa
  have HFa := Lib.hid hFa
  have Kxc := Lib.hid kxc
  have Kxn := Lib.hid kxn
  have Kxa := Lib.hid kxa
  clear hfr hiw ok hpa hFa kxc kxn kxa
  have hil : i < s.cs.length := by rw [Hok.out.len]; exact (List.getElem?_eq_some_iff.1 hx).1
  have Hx := Lib.hid hx
  have hat := StOk.at_ Hok.out hx
  have hmo : mostOf ⟨3, xa, xb, n, m⟩ src = n := by simp [mostOf]
  obtain ⟨q, hq⟩ : ∃ q, (s.at_ i).n = q := ⟨_, rfl⟩
  rw [hmo, hq] at hat
  have hq0 := hat.1
  obtain ⟨d0, d1, d2, d3, d4, d5⟩ := Hiw.out.cl (i := i) hil
  have g0 := Hiw.out.free (i * 6)
  rw [hq] at d0
  have Hq := Lib.hid hq
  have Hat := Lib.hid hat
  clear hq hat hmo hx
  by_cases hqn : q = n
  · have hqb : (q == n) = true := by rw [beq_iff_eq]; exact hqn
    have Hqn := Lib.hid hqn
    clear hqn
    go_enter Try.func142, Try.ntmps142
    go_wp2_with fail
    go_region
    go_wp2_with fail
    refine bodyPost_ret (v := .tuple #[.int .i64 0, .bool false]) (by simp [results, Try.results142, go_sem]) rfl ?_
    have hm : takeP i n fa s = (s, none) := by simp [takeP, Hq.out, Hqn.out]
    rw [hm]
    exact ⟨rfl, Hiw.out.drew, (Fr.refl _ _ _ _).drew⟩
  · have hqb : (q == n) = false := by rw [beq_eq_false_iff_ne]; exact hqn
    have hw1 : IntKind.i64.wrap (q + 1) = q + 1 := IntWalk.i64_in _ (by omega)
    have q1 := (Hiw.out.setN (i := i) hil (q + 1)).drew
    have q2 := ((Fr.refl n0 rb cb W).setc (i * 6) (.int .i64 (q + 1))).drew
    have qs := FineAt.start (c := { s.at_ i with n := q + 1 }) Hok.out Hx.out ⟨by simp, by simp⟩ ⟨⟨by simp only; omega, by simp [mostOf]; omega⟩, Hat.out.2⟩
    have Hq1 := Lib.hid q1
    have Hq2 := Lib.hid q2
    have Hqs := Lib.hid qs.ok
    have Hqlg : Hid ((s.put i { s.at_ i with n := q + 1 }).lg.length + (s.put i { s.at_ i with n := q + 1 }).W l src ≤ 65536) := Lib.hid (Nat.le_trans qs.wle hlg)
    clear q1 q2 qs
    have cnx := (Kxa.out.fr (Hfr.out.trans Hq2.out) (by decide)).cell
    rcases hfsa : fa (s.put i { s.at_ i with n := q + 1 }) with ⟨sa, oa⟩
    have hfinea := HFa.out (s.put i { s.at_ i with n := q + 1 }) Hqs.out
    rw [hfsa] at hfinea
    have Hfinea := Lib.hid hfinea
    have hcalla := HPa.out fe (s.put i { s.at_ i with n := q + 1 }) _ (Hfr.out.trans Hq2.out) Hq1.out Hqs.out Hqlg.out
    rw [hfsa] at hcalla
    have Hcalla := Lib.hid hcalla
    have Hfsa := Lib.hid hfsa
    clear hfinea hfsa hcalla
    go_enter Try.func142, Try.ntmps142
    go_wp2_with fail
    go_region
    go_wp2_with fail
    refine Hcalla.out.mono ?_
    rintro e wa ⟨rfl, iwa, fra⟩
    have Hf1a := Lib.hid ((Hfr.out.trans Hq2.out).trans fra)
    have Hfs_a := Lib.hid ((Hq2.out).trans fra)
    have ceca := (Kxc.out.fr Hf1a.out (by decide)).cell
    have cena := (Kxn.out.fr Hf1a.out (by decide)).cell
    have ceaa := (Kxa.out.fr Hf1a.out (by decide)).cell
    have Hiwa := Lib.hid iwa
    clear iwa fra
    have hto : tup oa = .tuple #[.int .i64 (oa.getD 0), .bool oa.isSome] := rfl
    go_wp2_with fail
    refine bodyPost_ret (v := .tuple #[.int .i64 (oa.getD 0), .bool oa.isSome]) (by simp [results, Try.results142, go_sem]) rfl ?_
    have hm : takeP i n fa s = (sa, oa) := by simp [takeP, Hq.out, hqn, Hfsa.out]
    rw [hm]
    exact ⟨rfl, Hiwa.out, Hfs_a.out⟩

set_option maxRecDepth 100000 in
set_option maxHeartbeats 6400000 in
theorem i_turn {n0 rb cb N cc : Nat} {l : List Nd} {src : List (List Int)} {i : Nat} {w1 : World} {ba : Nat} {bb : Nat} {bc : Nat} {va : Value} {fa : PF} {ja : Nat} (hja : ja < i) (hFa : Fine l src ja fa) (hPa : Puller n0 rb cb N cc l src fa va w1) {vb : Value} {fb : PF} {jb : Nat} (hjb : jb < i) (hFb : Fine l src jb fb) (hPb : Puller n0 rb cb N cc l src fb vb w1) (kxa : Bx rb cb w1 ba 111 (va)) (kxb : Bx rb cb w1 bb 111 (vb)) (kxc : Bx rb cb w1 bc 132 (.pointer (some ⟨cb, i * 6, none⟩))) {xa xb n m : Int} (hx : l[i]? = some ⟨10, xa, xb, n, m⟩) :
    Pulls n0 rb cb N cc l src (turnP i fa fb) 149 #[.pointer (some ⟨ba, 0, none⟩), .pointer (some ⟨bb, 0, none⟩), .pointer (some ⟨bc, 0, none⟩)] w1 := by
  intro fe s W hfr hiw ok hlg
  have _ua := hja
  clear _ua
  have _ub := hjb
  clear _ub
  obtain ⟨ka, lba, rfl, ega, hpa⟩ := hPa
  obtain ⟨kb, lbb, rfl, egb, hpb⟩ := hPb
  have cea := (kxa.fr hfr (by decide)).cell
  have ceb := (kxb.fr hfr (by decide)).cell
  have cec := (kxc.fr hfr (by decide)).cell
  have Hfr := Lib.hid hfr
  have Hiw := Lib.hid hiw
  have Hok := Lib.hid ok
  have HPa := Lib.hid hpa
  have HFa := Lib.hid hFa
  have HPb := Lib.hid hpb
  have HFb := Lib.hid hFb
  have Kxa := Lib.hid kxa
  have Kxb := Lib.hid kxb
  have Kxc := Lib.hid kxc
  clear hfr hiw ok hpa hpb hFa hFb kxa kxb kxc
  have hil : i < s.cs.length := by rw [Hok.out.len]; exact (List.getElem?_eq_some_iff.1 hx).1
  have Hx := Lib.hid hx
  have hat := StOk.at_ Hok.out hx
  have hmo : mostOf ⟨10, xa, xb, n, m⟩ src = 1 := by simp [mostOf]
  obtain ⟨q, hq⟩ : ∃ q, (s.at_ i).n = q := ⟨_, rfl⟩
  rw [hmo, hq] at hat
  have hq0 := hat.1
  obtain ⟨d0, d1, d2, d3, d4, d5⟩ := Hiw.out.cl (i := i) hil
  have g0 := Hiw.out.free (i * 6)
  rw [hq] at d0
  have Hq := Lib.hid hq
  have Hat := Lib.hid hat
  clear hq hat hmo hx
  rcases (show q = 0 ∨ q = 1 by omega) with h0 | h0
  · subst h0
    have q1 := (Hiw.out.setN (i := i) hil 1).drew.drew
    have q2 := ((Fr.refl n0 rb cb W).setc (i * 6) (.int .i64 1)).drew.drew
    have qs := FineAt.start (c := { s.at_ i with n := 1 }) Hok.out Hx.out ⟨by simp, by simp⟩ ⟨⟨by simp, by simp [mostOf]⟩, Hat.out.2⟩
    have Hq1 := Lib.hid q1
    have Hq2 := Lib.hid q2
    have Hqs := Lib.hid qs.ok
    have Hqlg : Hid ((s.put i { s.at_ i with n := 1 }).lg.length + (s.put i { s.at_ i with n := 1 }).W l src ≤ 65536) := Lib.hid (Nat.le_trans qs.wle hlg)
    clear q1 q2 qs
    rcases hfsz : fa (s.put i { s.at_ i with n := 1 }) with ⟨sz, oz⟩
    have hfinez := HFa.out (s.put i { s.at_ i with n := 1 }) Hqs.out
    rw [hfsz] at hfinez
    have Hfinez := Lib.hid hfinez
    have hcallz := HPa.out fe (s.put i { s.at_ i with n := 1 }) _ (Hfr.out.trans Hq2.out) Hq1.out Hqs.out Hqlg.out
    rw [hfsz] at hcallz
    have Hcallz := Lib.hid hcallz
    have Hfsz := Lib.hid hfsz
    clear hfinez hfsz hcallz
    go_enter Try.func149, Try.ntmps149
    go_wp2_with fail
    go_region
    go_wp2_with fail
    go_region
    go_wp2_with fail
    refine Hcallz.out.mono ?_
    rintro e wz ⟨rfl, iwz, frz⟩
    have Hf1z := Lib.hid ((Hfr.out.trans Hq2.out).trans frz)
    have Hfs_z := Lib.hid ((Hq2.out).trans frz)
    have ceaz := (Kxa.out.fr Hf1z.out (by decide)).cell
    have cebz := (Kxb.out.fr Hf1z.out (by decide)).cell
    have cecz := (Kxc.out.fr Hf1z.out (by decide)).cell
    have Hiwz := Lib.hid iwz
    clear iwz frz
    cases oz with
    | some v =>
      have ht : tup (some v) = .tuple #[.int .i64 v, .bool true] := rfl
      go_wp2_with fail
      refine bodyPost_ret (v := .tuple #[.int .i64 v, .bool true]) (by simp [results, Try.results149, go_sem]) rfl ?_
      have hm : turnP i fa fb s = (sz, some v) := by simp [turnP, chainP, Hq.out, Hfsz.out]
      rw [hm]
      exact ⟨rfl, Hiwz.out, Hfs_z.out⟩
    | none =>
      have ht : tup none = .tuple #[.int .i64 0, .bool false] := rfl
      rcases hfsy : fb sz with ⟨sy, oy⟩
      have hfiney := HFb.out sz Hfinez.out.ok
      rw [hfsy] at hfiney
      have Hfiney := Lib.hid hfiney
      have hcally := HPb.out fe sz wz Hf1z.out Hiwz.out Hfinez.out.ok (Nat.le_trans Hfinez.out.wle Hqlg.out)
      rw [hfsy] at hcally
      have Hcally := Lib.hid hcally
      have Hfsy := Lib.hid hfsy
      clear hfiney hfsy hcally
      go_wp2_with fail
      refine Hcally.out.mono ?_
      rintro e wy ⟨rfl, iwy, fry⟩
      have Hf1y := Lib.hid ((Hf1z.out).trans fry)
      have Hfs_y := Lib.hid ((Hfs_z.out).trans fry)
      have ceay := (Kxa.out.fr Hf1y.out (by decide)).cell
      have ceby := (Kxb.out.fr Hf1y.out (by decide)).cell
      have cecy := (Kxc.out.fr Hf1y.out (by decide)).cell
      have Hiwy := Lib.hid iwy
      clear iwy fry
      have hto : tup oy = .tuple #[.int .i64 (oy.getD 0), .bool oy.isSome] := rfl
      go_wp2_with fail
      refine bodyPost_ret (v := .tuple #[.int .i64 (oy.getD 0), .bool oy.isSome]) (by simp [results, Try.results149, go_sem]) rfl ?_
      have hm : turnP i fa fb s = (sy, oy) := by simp [turnP, chainP, Hq.out, Hfsz.out, Hfsy.out]
      rw [hm]
      exact ⟨rfl, Hiwy.out, Hfs_y.out⟩
  · subst h0
    have q1 := (Hiw.out.setN (i := i) hil 0).drew.drew.drew
    have q2 := ((Fr.refl n0 rb cb W).setc (i * 6) (.int .i64 0)).drew.drew.drew
    have qs := FineAt.start (c := { s.at_ i with n := 0 }) Hok.out Hx.out ⟨by simp, by simp⟩ ⟨⟨by simp, by simp [mostOf]⟩, Hat.out.2⟩
    have Hq1 := Lib.hid q1
    have Hq2 := Lib.hid q2
    have Hqs := Lib.hid qs.ok
    have Hqlg : Hid ((s.put i { s.at_ i with n := 0 }).lg.length + (s.put i { s.at_ i with n := 0 }).W l src ≤ 65536) := Lib.hid (Nat.le_trans qs.wle hlg)
    clear q1 q2 qs
    rcases hfsz : fb (s.put i { s.at_ i with n := 0 }) with ⟨sz, oz⟩
    have hfinez := HFb.out (s.put i { s.at_ i with n := 0 }) Hqs.out
    rw [hfsz] at hfinez
    have Hfinez := Lib.hid hfinez
    have hcallz := HPb.out fe (s.put i { s.at_ i with n := 0 }) _ (Hfr.out.trans Hq2.out) Hq1.out Hqs.out Hqlg.out
    rw [hfsz] at hcallz
    have Hcallz := Lib.hid hcallz
    have Hfsz := Lib.hid hfsz
    clear hfinez hfsz hcallz
    go_enter Try.func149, Try.ntmps149
    go_wp2_with fail
    go_region
    go_wp2_with fail
    go_region
    go_wp2_with fail
    go_region
    go_wp2_with fail
    refine Hcallz.out.mono ?_
    rintro e wz ⟨rfl, iwz, frz⟩
    have Hf1z := Lib.hid ((Hfr.out.trans Hq2.out).trans frz)
    have Hfs_z := Lib.hid ((Hq2.out).trans frz)
    have ceaz := (Kxa.out.fr Hf1z.out (by decide)).cell
    have cebz := (Kxb.out.fr Hf1z.out (by decide)).cell
    have cecz := (Kxc.out.fr Hf1z.out (by decide)).cell
    have Hiwz := Lib.hid iwz
    clear iwz frz
    cases oz with
    | some v =>
      have ht : tup (some v) = .tuple #[.int .i64 v, .bool true] := rfl
      go_wp2_with fail
      refine bodyPost_ret (v := .tuple #[.int .i64 v, .bool true]) (by simp [results, Try.results149, go_sem]) rfl ?_
      have hm : turnP i fa fb s = (sz, some v) := by simp [turnP, chainP, Hq.out, Hfsz.out]
      rw [hm]
      exact ⟨rfl, Hiwz.out, Hfs_z.out⟩
    | none =>
      have ht : tup none = .tuple #[.int .i64 0, .bool false] := rfl
      rcases hfsy : fa sz with ⟨sy, oy⟩
      have hfiney := HFa.out sz Hfinez.out.ok
      rw [hfsy] at hfiney
      have Hfiney := Lib.hid hfiney
      have hcally := HPa.out fe sz wz Hf1z.out Hiwz.out Hfinez.out.ok (Nat.le_trans Hfinez.out.wle Hqlg.out)
      rw [hfsy] at hcally
      have Hcally := Lib.hid hcally
      have Hfsy := Lib.hid hfsy
      clear hfiney hfsy hcally
      go_wp2_with fail
      refine Hcally.out.mono ?_
      rintro e wy ⟨rfl, iwy, fry⟩
      have Hf1y := Lib.hid ((Hf1z.out).trans fry)
      have Hfs_y := Lib.hid ((Hfs_z.out).trans fry)
      have ceay := (Kxa.out.fr Hf1y.out (by decide)).cell
      have ceby := (Kxb.out.fr Hf1y.out (by decide)).cell
      have cecy := (Kxc.out.fr Hf1y.out (by decide)).cell
      have Hiwy := Lib.hid iwy
      clear iwy fry
      have hto : tup oy = .tuple #[.int .i64 (oy.getD 0), .bool oy.isSome] := rfl
      go_wp2_with fail
      refine bodyPost_ret (v := .tuple #[.int .i64 (oy.getD 0), .bool oy.isSome]) (by simp [results, Try.results149, go_sem]) rfl ?_
      have hm : turnP i fa fb s = (sy, oy) := by simp [turnP, chainP, Hq.out, Hfsz.out, Hfsy.out]
      rw [hm]
      exact ⟨rfl, Hiwy.out, Hfs_y.out⟩


end Go.Proofs.Ytjhdjfobbgfpfaa
