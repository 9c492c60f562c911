/- Texts on the program and its reference, put together (PkA, PmD, PmE, PmF, PkB, PtA, PwB, PwC, PwD). -/
import Derived.Test.YthfniffecceldaaMq5Q
import Derived.Test.YthfniffecceldaaMq5K
import Derived.Deep.RegionHeld3
import Derived.Test.YthfniffecceldaaMq5B
import Derived.Laws.LoneSync
/- Contracts: pulls by the program: what k pulls leave. -/
namespace Go.Proofs.Ythfniffecceldaa
open Go.RowKit

/-- What k pulls leave: their items, the cells and the pulls; nothing where the arguments are not valid. -/
structure OutQ (l : List Nd) (src : List (List Int)) (k : Int) (pre : List Int) (s : PS) : Prop where
  no : (pipeOk l && srcOk src && inR k 0 200) = false → pre = [] ∧ s = ⟨[], []⟩
  yes : (pipeOk l && srcOk src && inR k 0 200) = true → ∃ t, IsTI l t ∧ t.ix + 1 = l.length ∧ runP (pull src (fun s => s.M l src + 1) t) k.toNat (newPS l.length) = (pre, s)
theorem OutQ.ex (l : List Nd) (src : List (List Int)) (k : Int) : ∃ pre s, OutQ l src k pre s := by
  cases hv : (pipeOk l && srcOk src && inR k 0 200) with
  | false => exact ⟨[], ⟨[], []⟩, fun _ => ⟨rfl, rfl⟩, fun h => absurd (hv.symm.trans h) (by decide)⟩
  | true =>
    have hv2 := hv
    simp only [Bool.and_eq_true] at hv2
    have hlow := low_of hv2.1.1
    obtain ⟨T, hT⟩ := IsTree.ex (pipeOk_iff.1 hv2.1.1) l.length (l.length - 1) (by omega) (by omega)
    obtain ⟨t, ht, hti, _⟩ := hT.ti
    exact ⟨_, _, fun h => absurd (hv.symm.trans h) (by decide), fun _ => ⟨t, ht, by omega, rfl⟩⟩
/-- What runs keep. -/
structure RunFine (l : List Nd) (src : List (List Int)) (k : Nat) (s : PS) (r : List Int × PS) : Prop where
  ok : StOk l src r.2.cs
  len : r.1.length ≤ k
  wle : r.2.lg.length + r.2.W l src ≤ s.lg.length + s.W l src
  mle : r.2.M l src + r.1.length ≤ s.M l src
  item : ∀ v ∈ r.1, 0 ≤ v ∧ v ≤ 99
theorem runP_fine {l : List Nd} {src : List (List Int)} {j : Nat} {f : PF} (hF : Fine l src j f) : ∀ (k : Nat) (s : PS), StOk l src s.cs → RunFine l src k s (runP f k s)
  | 0, s, ok => ⟨ok, Nat.le_refl _, Nat.le_refl _, Nat.le_refl _, fun v hv => by simp [runP] at hv⟩
  | k + 1, s, ok => by
    rcases hf : f s with ⟨s1, o⟩
    have h1 := hF s ok
    rw [hf] at h1
    cases o with
    | none =>
      rw [runP_none hf]
      have hm := h1.mle
      exact ⟨h1.ok, by simp, h1.wle, by simp at hm ⊢; exact hm, fun v hv => by simp at hv⟩
    | some v =>
      rw [runP_some hf]
      have ih := runP_fine hF k s1 h1.ok
      have hm := h1.mle
      have hw := h1.wle
      have im := ih.mle
      have iw := ih.wle
      simp only [Option.isSome_some, if_true] at hm
      refine ⟨ih.ok, by have := ih.len; simp; omega, by simp only at hw ⊢; omega, by simp only [List.length_cons] at im ⊢; omega, fun u hu => ?_⟩
      rcases List.mem_cons.1 hu with rfl | hu
      · exact h1.item _ rfl
      · exact ih.item u hu
theorem OutQ.fine {l : List Nd} {src : List (List Int)} {k : Int} {pre : List Int} {s : PS} (h : OutQ l src k pre s) (hv : (pipeOk l && srcOk src && inR k 0 200) = true) : RunFine l src k.toNat (newPS l.length) (pre, s) := by
  obtain ⟨t, ht, _, hr⟩ := h.yes hv
  simp only [Bool.and_eq_true] at hv
  rw [← hr]
  exact runP_fine (pull_fine (pipeOk_iff.1 hv.1.1) hv.1.2 ht) _ _ (newPS_ok (pipeOk_iff.1 hv.1.1))
theorem OutQ.sizes {l : List Nd} {src : List (List Int)} {k : Int} {pre : List Int} {s : PS} (h : OutQ l src k pre s) : pre.length ≤ 200 ∧ s.cs.length ≤ 12 ∧ s.lg.length ≤ 65536 := by
  cases hv : (pipeOk l && srcOk src && inR k 0 200) with
  | false => obtain ⟨rfl, rfl⟩ := h.no hv; simp
  | true =>
    have hf := h.fine hv
    simp only [Bool.and_eq_true] at hv
    have hk : k.toNat ≤ 200 := by have := hv.2; simp [inR] at this; omega
    have h1 := hf.len
    have h2 := hf.ok.len
    have h3 := hf.wle
    have h4 := newPS_W (l := l) hv.1.2 (high_of hv.1.1)
    have h5 := high_of hv.1.1
    simp only [newPS, List.length_nil] at h1 h2 h3 h4
    exact ⟨by omega, by omega, by omega⟩
/-- The items of k pulls. -/
def FirstQ (l : List Nd) (src : List (List Int)) (k : Int) (q : List Int) : Prop := ∃ s, OutQ l src k q s
/-- The cells after k pulls. -/
def StQ (l : List Nd) (src : List (List Int)) (k : Int) (q : List Cl) : Prop := ∃ pre s, OutQ l src k pre s ∧ q = s.cs
/-- The pulls of k pulls. -/
def LogQ (l : List Nd) (src : List (List Int)) (k : Int) (q : List Pl) : Prop := ∃ pre s, OutQ l src k pre s ∧ q = s.lg

/-- The cells of a run as memory of the call's own. -/
theorem RS.ownCl {n0 pb cb : Nat} {T : TypeId} {hd tl : List Value} {s : PS} {w : World} (h : RS n0 pb cb T hd tl s w) : OwnCl w n0 w.heap.size (some ⟨cb, 0, none⟩) s.cs := fun _ => by
  obtain ⟨cs, hc, hcs⟩ := h.cells
  exact ⟨cb, 0, cs, rfl, h.loc, hc.lt, hc, fun k x hx => by rw [Nat.zero_add]; exact hcs k x hx⟩
/-- The pulls of a run as memory of the call's own. -/
theorem OwnG.ownPl {w : World} {base c : Nat} {R : Option Addr} {l : List Pl} (h : OwnG w base R c l) : OwnPl w base w.heap.size R l := fun hl => by
  obtain ⟨h1, ⟨_, h0⟩ | ⟨g, cap, cur, hv, hb, hh, hn, _, _, ht⟩⟩ := h
  · omega
  · injection hv with hA _ hc
    subst hc
    refine ⟨g, 0, cur.toList, hA, hb, lt_of_block hh, by unfold Bk; simpa using hh, fun k x hx => ?_⟩
    have hk : k < l.length := (List.getElem?_eq_some_iff.1 hx).1
    obtain ⟨p0, p1⟩ := pls_at hx
    have e : ∀ j, j < l.length * 2 → cur.toList[j]? = (pls l)[j]? := fun j hj => by rw [← ht, List.getElem?_take_of_lt (by omega)]
    exact ⟨by rw [Nat.zero_add, e _ (by omega)]; exact p0, by rw [Nat.zero_add, e _ (by omega)]; exact p1⟩

end Go.Proofs.Ythfniffecceldaa

/- Plain mathematics: pulls only add to the pulls so far, and what they add are pulls at the sources. -/
namespace Go.Proofs.Ythfniffecceldaa
open Go.RowKit

/-- A pull at one of the three sources, that gives one of its items or none. -/
def GoodPl (src : List (List Int)) (p : Pl) : Prop := (0 ≤ p.s ∧ p.s < 3) ∧ -1 ≤ p.i ∧ p.i < ((src.getD p.s.toNat []).length : Int)
/-- The counts of the sources' nodes are in their lists. -/
def SInv (l : List Nd) (src : List (List Int)) (s : PS) : Prop := ∀ (j : Nat) (y : Nd), l[j]? = some y → y.k = 0 → j < s.cs.length ∧ 0 ≤ (s.at_ j).n ∧ (s.at_ j).n ≤ ((src.getD y.n.toNat []).length : Int)
def Grow (l : List Nd) (src : List (List Int)) (s s' : PS) : Prop := SInv l src s → SInv l src s' ∧ ∃ more, s'.lg = s.lg ++ more ∧ ∀ p ∈ more, GoodPl src p
def GrowF (l : List Nd) (src : List (List Int)) (f : PF) : Prop := ∀ s, Grow l src s (f s).1

section
variable {l : List Nd} {src : List (List Int)} {i : Nat} {x : Nd} {f fa fb : PF} {s s' s'' : PS}
theorem Grow.refl (s : PS) : Grow l src s s := fun h => ⟨h, [], by simp, fun _ h => by cases h⟩
theorem Grow.trans (h : Grow l src s s') (k : Grow l src s' s'') : Grow l src s s'' := fun hs => by
  obtain ⟨h1, m1, e1, g1⟩ := h hs
  obtain ⟨h2, m2, e2, g2⟩ := k h1
  exact ⟨h2, m1 ++ m2, by rw [e2, e1, List.append_assoc], fun p hp => (List.mem_append.1 hp).elim (g1 p) (g2 p)⟩
theorem Grow.put (hx : l[i]? = some x) (hk : x.k ≠ 0) (c : Cl) (s : PS) : Grow l src s (s.put i c) := fun h => by
  refine ⟨fun j y hy hy0 => ?_, [], by simp [PS.put], fun _ h => by cases h⟩
  have hne : i ≠ j := fun e => by subst e; obtain rfl := Option.some.inj (hx.symm.trans hy); exact hk hy0
  obtain ⟨h1, h2⟩ := h j y hy hy0
  exact ⟨by simpa [PS.put] using h1, by rw [PS.at_put_ne hne]; exact h2⟩
theorem doneP_grow (hx : l[i]? = some x) (hk : x.k ≠ 0) (hf : GrowF l src f) : GrowF l src (doneP i f) := fun s => by
  unfold doneP
  split
  · exact Grow.refl s
  · have h := hf s
    rcases hfs : f s with ⟨s2, o⟩
    rw [hfs] at h
    cases o with
    | none => exact h.trans (Grow.put hx hk _ _)
    | some v => exact h
theorem leaf_grow (hn : numsOk x = true) (hx : l[i]? = some x) (hk : x.k = 0) : GrowF l src (doneP i (srcP src i x)) := fun s => by
  have hs3 : 0 ≤ x.n ∧ x.n < 3 := by
    unfold numsOk at hn
    rw [if_pos (by simp [hk])] at hn
    have := inR_iff.1 (Bool.and_eq_true_iff.1 hn).1
    omega
  intro hs
  obtain ⟨hlt, h0, h1⟩ := hs i x hx hk
  unfold doneP
  split
  · exact Grow.refl s hs
  · unfold srcP
    by_cases he : (s.at_ i).n = ((src.getD x.n.toNat []).length : Int)
    · rw [if_pos he]
      refine ⟨fun j y hy hy0 => ?_, [⟨x.n, -1⟩], by simp [PS.put, PS.say], fun p hp => by simp at hp; subst hp; exact ⟨hs3, Int.le_refl _, by simp only; omega⟩⟩
      obtain ⟨k1, k2, k3⟩ := hs j y hy hy0
      refine ⟨by simpa [PS.put, PS.say] using k1, ?_⟩
      by_cases e : i = j
      · subst e
        rw [PS.at_put (by simpa [PS.say] using hlt)]
        exact ⟨k2, k3⟩
      · rw [PS.at_put_ne e]
        exact ⟨k2, k3⟩
    · rw [if_neg he]
      refine ⟨fun j y hy hy0 => ?_, [⟨x.n, (s.at_ i).n⟩], by simp [PS.put, PS.say], fun p hp => by simp at hp; subst hp; exact ⟨hs3, by simp only; omega, by simp only; omega⟩⟩
      obtain ⟨k1, k2, k3⟩ := hs j y hy hy0
      refine ⟨by simpa [PS.put, PS.say] using k1, ?_⟩
      by_cases e : i = j
      · subst e
        obtain rfl := Option.some.inj (hx.symm.trans hy)
        rw [PS.at_put (by simpa [PS.say] using hlt)]
        exact ⟨by simp only; omega, by simp only; omega⟩
      · rw [PS.at_put_ne e]
        exact ⟨k2, k3⟩
theorem chgP_grow {g : Int → Cl → Cl × Int} (hx : l[i]? = some x) (hk : x.k ≠ 0) (hf : GrowF l src f) : GrowF l src (chgP i g f) := fun s => by
  unfold chgP
  have h := hf s
  rcases hfs : f s with ⟨s2, o⟩
  rw [hfs] at h
  cases o with
  | none => exact h
  | some v => exact h.trans (Grow.put hx hk _ _)
theorem someL_grow {may : Int → Cl → Cl × Bool} (hx : l[i]? = some x) (hk : x.k ≠ 0) (hf : GrowF l src f) : ∀ n, GrowF l src (someL i may f n)
  | 0 => fun s => Grow.refl s
  | n + 1 => fun s => by
    unfold someL
    have h := hf s
    rcases hfs : f s with ⟨s2, o⟩
    rw [hfs] at h
    cases o with
    | none => exact h
    | some v =>
      have hp := h.trans (Grow.put hx hk (may v (s2.at_ i)).1 _)
      dsimp only
      split
      · exact hp
      · exact hp.trans (someL_grow hx hk hf n _)
theorem takeP_grow {n : Int} (hx : l[i]? = some x) (hk : x.k ≠ 0) (hf : GrowF l src f) : GrowF l src (takeP i n f) := fun s => by
  unfold takeP
  split
  · exact Grow.refl s
  · exact (Grow.put hx hk _ s).trans (hf _)
theorem dropL_grow {n : Int} (hx : l[i]? = some x) (hk : x.k ≠ 0) (hf : GrowF l src f) : ∀ k, GrowF l src (dropL i n f k)
  | 0 => hf
  | k + 1 => fun s => by
    unfold dropL
    split
    · have h := (Grow.put hx hk { s.at_ i with n := (s.at_ i).n + 1 } s).trans (hf _)
      rcases hfs : f (s.put i { s.at_ i with n := (s.at_ i).n + 1 }) with ⟨s2, o⟩
      rw [hfs] at h
      cases o with
      | none => exact h
      | some v => exact h.trans (dropL_grow hx hk hf k _)
    · exact hf s
theorem whileP_grow {n : Int} (hf : GrowF l src f) : GrowF l src (whileP n f) := fun s => by
  unfold whileP
  have h := hf s
  rcases hfs : f s with ⟨s2, o⟩
  rw [hfs] at h
  cases o with
  | none => exact h
  | some v =>
    dsimp only
    split
    · exact h
    · exact h
theorem batchL_grow (hf : GrowF l src f) : ∀ (k : Nat) (sum : Int) (b : Bool), GrowF l src (batchL f k sum b)
  | 0, _, _ => fun s => Grow.refl s
  | k + 1, sum, b => fun s => by
    unfold batchL
    have h := hf s
    rcases hfs : f s with ⟨s2, o⟩
    rw [hfs] at h
    cases o with
    | none => exact h
    | some v => exact h.trans (batchL_grow hf k _ _ _)
theorem chainP_grow (ha : GrowF l src fa) (hb : GrowF l src fb) : GrowF l src (chainP fa fb) := fun s => by
  unfold chainP
  have h := ha s
  rcases hfs : fa s with ⟨s2, o⟩
  rw [hfs] at h
  cases o with
  | none => exact h.trans (hb s2)
  | some v => exact h
theorem zipP_grow (ha : GrowF l src fa) (hb : GrowF l src fb) : GrowF l src (zipP fa fb) := fun s => by
  unfold zipP
  have h := ha s
  rcases hfs : fa s with ⟨s2, o⟩
  rw [hfs] at h
  cases o with
  | none => exact h
  | some v =>
    have h2 := h.trans (hb s2)
    dsimp only
    rcases hfs2 : fb s2 with ⟨s3, o3⟩
    rw [hfs2] at h2
    cases o3 with
    | none => exact h2
    | some y => exact h2
theorem turnP_grow (hx : l[i]? = some x) (hk : x.k ≠ 0) (ha : GrowF l src fa) (hb : GrowF l src fb) : GrowF l src (turnP i fa fb) := fun s => by
  unfold turnP
  split
  · exact (Grow.put hx hk _ s).trans (chainP_grow hb ha _)
  · exact (Grow.put hx hk _ s).trans (chainP_grow ha hb _)
theorem fetchL_grow (hx : l[i]? = some x) (hk : x.k ≠ 0) (ha : GrowF l src fa) (s : PS) : Grow l src s (fetchL i fa s) := by
  unfold fetchL
  split
  · exact Grow.refl s
  · exact (ha s).trans (Grow.put hx hk _ _)
theorem fetchR_grow (hx : l[i]? = some x) (hk : x.k ≠ 0) (ha : GrowF l src fa) (s : PS) : Grow l src s (fetchR i fa s) := by
  unfold fetchR
  split
  · exact Grow.refl s
  · exact (ha s).trans (Grow.put hx hk _ _)
theorem mergeP_grow (hx : l[i]? = some x) (hk : x.k ≠ 0) (ha : GrowF l src fa) (hb : GrowF l src fb) : GrowF l src (mergeP i fa fb) := fun s => by
  unfold mergeP pickP
  have h := (fetchL_grow hx hk ha s).trans (fetchR_grow hx hk hb _)
  split
  · exact h.trans (Grow.put hx hk _ _)
  · exact h.trans (Grow.put hx hk _ _)
theorem stemP_grow {fu : PS → Nat} (hx : l[i]? = some x) (hk : x.k ≠ 0) (hf : GrowF l src f) : GrowF l src (stemP fu i x f) := by
  unfold stemP
  split
  · exact chgP_grow hx hk hf
  split
  · exact fun s => someL_grow hx hk hf _ s
  split
  · exact takeP_grow hx hk hf
  split
  · exact fun s => dropL_grow hx hk hf _ s
  split
  · exact whileP_grow hf
  split
  · exact fun s => someL_grow hx hk hf _ s
  split
  · exact chgP_grow hx hk hf
  split
  · exact batchL_grow hf _ _ _
  · exact fun s => someL_grow hx hk hf _ s
theorem forkP_grow (hx : l[i]? = some x) (hk : x.k ≠ 0) (ha : GrowF l src fa) (hb : GrowF l src fb) : GrowF l src (forkP i x fa fb) := by
  unfold forkP
  split
  · exact chainP_grow ha hb
  split
  · exact zipP_grow ha hb
  split
  · exact mergeP_grow hx hk ha hb
  · exact turnP_grow hx hk ha hb
theorem arity_ne {k n : Int} (h : arity k = n) (hn : n ≠ 0) : k ≠ 0 := fun e => by subst e; exact hn (by rw [← h]; rfl)
theorem pull_grow (hp : PipeOk l) {fu : PS → Nat} {t : TI} (ht : IsTI l t) : GrowF l src (pull src fu t) := by
  induction ht with
  | leaf hx ha _ _ =>
    have h1 := hp.node _ _ hx
    simp only [nodeOk, Bool.and_eq_true] at h1
    exact leaf_grow h1.1 hx (arity_zero ha)
  | stem hx ha _ _ _ _ ih => exact doneP_grow hx (arity_ne ha (by decide)) (stemP_grow hx (arity_ne ha (by decide)) ih)
  | fork hx ha _ _ _ _ _ _ iha ihb => exact doneP_grow hx (arity_ne ha (by decide)) (forkP_grow hx (arity_ne ha (by decide)) iha ihb)
theorem runP_grow (hf : GrowF l src f) : ∀ (k : Nat) (s : PS), Grow l src s (runP f k s).2
  | 0, s => Grow.refl s
  | k + 1, s => by
    have h := hf s
    rcases hfs : f s with ⟨s2, o⟩
    rw [hfs] at h
    cases o with
    | none => rw [runP_none hfs]; exact h
    | some v => rw [runP_some hfs]; exact h.trans (runP_grow hf k s2)
end
theorem newPS_sinv {l : List Nd} {src : List (List Int)} : SInv l src (newPS l.length) := fun j y hy _ => by
  have hj := (List.getElem?_eq_some_iff.1 hy).1
  have e : (newPS l.length).at_ j = zeroCl := PS.at_of (by simp [newPS, hj])
  exact ⟨by simpa [newPS] using hj, by rw [e]; exact Int.le_refl _, by rw [e]; exact Int.natCast_nonneg _⟩
/-- All pulls of k pulls are good. -/
theorem OutQ.good {l : List Nd} {src : List (List Int)} {k : Int} {pre : List Int} {s : PS} (h : OutQ l src k pre s) : ∀ p ∈ s.lg, GoodPl src p := by
  cases hv : (pipeOk l && srcOk src && inR k 0 200) with
  | false => obtain ⟨_, rfl⟩ := h.no hv; intro p hp; cases hp
  | true =>
    obtain ⟨t, ht, _, hr⟩ := h.yes hv
    simp only [Bool.and_eq_true] at hv
    have hg := runP_grow (src := src) (pull_grow (fu := fun s => s.M l src + 1) (pipeOk_iff.1 hv.1.1) ht) k.toNat (newPS l.length) newPS_sinv
    rw [hr] at hg
    obtain ⟨_, more, e, hm⟩ := hg
    simp only [newPS, List.nil_append] at e
    rw [e]
    exact hm

end Go.Proofs.Ythfniffecceldaa

/- Plain mathematics: a pipe ends with the first pull that gives none, and before 200 pulls. -/
namespace Go.Proofs.Ythfniffecceldaa
open Go.RowKit

section
variable {l : List Nd} {src : List (List Int)} {i : Nat} {x : Nd} {f g : PF} {s : PS}
theorem doneP_d (hk : KeepB l src i g) (hi : i < l.length) (hs : StOk l src s.cs) (hd : (s.at_ i).d = false) : ((doneP i g s).1.at_ i).d = (doneP i g s).2.isNone := by
  have h := hk s hs
  rcases hg : g s with ⟨s', o⟩
  rw [hg] at h
  cases o with
  | none =>
    rw [doneP_none hd hg]
    simp only
    rw [PS.at_put (by rw [h.1]; exact hi)]
    rfl
  | some v =>
    rw [doneP_some hd hg]
    simp only
    rw [h.2, hd]
    rfl
theorem pull_d (hp : PipeOk l) (h0 : srcOk src = true) {fu : PS → Nat} {t : TI} (ht : IsTI l t) (hs : StOk l src s.cs) (hd : (s.at_ t.ix).d = false) : ((pull src fu t s).1.at_ t.ix).d = (pull src fu t s).2.isNone := by
  have num : ∀ {i : Nat} {x : Nd}, l[i]? = some x → numsOk x = true := fun hx => by
    have h1 := hp.node _ _ hx
    simp only [nodeOk, Bool.and_eq_true] at h1
    exact h1.1
  have hl := ht.lt
  cases ht with
  | leaf hx ha _ _ => exact doneP_d (srcP_keep hx) hl hs hd
  | stem hx ha _ hj _ ht => exact doneP_d (stemP_keep hx ha (num hx) hj (pull_fine hp h0 ht)) hl hs hd
  | fork hx ha _ hj _ hj2 hta htb => exact doneP_d (forkP_keep hx ha hj hj2 (pull_fine hp h0 hta) (pull_fine hp h0 htb)) hl hs hd
/-- The first number for which something holds. -/
theorem first_of {p : Nat → Prop} : ∀ n, (∀ k, k < n → ¬ p k) ∨ ∃ e, e < n ∧ p e ∧ ∀ k, k < e → ¬ p k
  | 0 => .inl fun k hk => absurd hk (Nat.not_lt_zero k)
  | n + 1 => by
    rcases first_of (p := p) n with h | ⟨e, he, hpe, hle⟩
    · by_cases hn : p n
      · exact .inr ⟨n, Nat.lt_succ_self n, hn, h⟩
      · refine .inl fun k hk => ?_
        rcases Nat.lt_or_eq_of_le (Nat.le_of_lt_succ hk) with h1 | rfl
        · exact h k h1
        · exact hn
    · exact .inr ⟨e, Nat.lt_succ_of_lt he, hpe, hle⟩
theorem wAll_le (hs : srcOk src = true) (x : Nd) (c : Cl) : wAll src x c ≤ 13 := by
  unfold wAll
  split
  · split <;> split <;> omega
  · exact wSrc_le hs x c
theorem newPS_M (hs : srcOk src = true) (hl : l.length ≤ 12) : (newPS l.length).M l src ≤ 156 := by
  have h := wsum_le (wAll_le hs) l (newPS l.length).cs
  unfold PS.M
  omega
end

end Go.Proofs.Ythfniffecceldaa

/- Plain mathematics: after how many pulls a pipe ends, and the table of its pulls. -/
namespace Go.Proofs.Ythfniffecceldaa
open Go.RowKit

/-- The state after k pulls. -/
def stAt (l : List Nd) (src : List (List Int)) (t : TI) (k : Nat) : PS := (runP (pull src (fun s => s.M l src + 1) t) k (newPS l.length)).2
/-- The pull behind e items is the first one that gives none. -/
structure EndsAt (l : List Nd) (src : List (List Int)) (t : TI) (e : Nat) : Prop where
  le : e ≤ 156
  on : ∀ k, k ≤ e → ((stAt l src t k).at_ t.ix).d = false
  some_ : ∀ k, k < e → (pull src (fun s => s.M l src + 1) t (stAt l src t k)).2.isSome = true
  none_ : (pull src (fun s => s.M l src + 1) t (stAt l src t e)).2 = none
  off : ((stAt l src t (e + 1)).at_ t.ix).d = true
section
variable {l : List Nd} {src : List (List Int)} {t : TI}
theorem stAt_next (hp : PipeOk l) (h0 : srcOk src = true) (ht : IsTI l t) (k : Nat) : stAt l src t (k + 1) = (pull src (fun s => s.M l src + 1) t (stAt l src t k)).1 := by
  unfold stAt
  rw [runP_snoc (pull_fine hp h0 ht) (fun s s' ok h => pull_again hp h0 ht ok h) k _ (newPS_ok hp)]
  rcases pull src (fun s => s.M l src + 1) t (runP (pull src (fun s => s.M l src + 1) t) k (newPS l.length)).2 with ⟨s', o⟩
  cases o <;> rfl
theorem stAt_ok (hp : PipeOk l) (h0 : srcOk src = true) (ht : IsTI l t) (k : Nat) : StOk l src (stAt l src t k).cs := (runP_fine (pull_fine hp h0 ht) k _ (newPS_ok hp)).ok
theorem EndsAt.ex (hp : PipeOk l) (h0 : srcOk src = true) (hl : l.length ≤ 12) (ht : IsTI l t) : ∃ e, EndsAt l src t e := by
  have hz : ((stAt l src t 0).at_ t.ix).d = false := by
    have e : (newPS l.length).at_ t.ix = zeroCl := PS.at_of (by simp [newPS, ht.lt])
    show ((newPS l.length).at_ t.ix).d = false
    rw [e]
    rfl
  have hd : ∀ e, (∀ k, k < e → ¬ (pull src (fun s => s.M l src + 1) t (stAt l src t k)).2 = none) → ∀ k, k ≤ e → ((stAt l src t k).at_ t.ix).d = false := fun e he k => by
    induction k with
    | zero => exact fun _ => hz
    | succ k ih =>
      intro hk
      rw [stAt_next hp h0 ht, pull_d hp h0 ht (stAt_ok hp h0 ht k) (ih (by omega))]
      have := he k (by omega)
      cases h : (pull src (fun s => s.M l src + 1) t (stAt l src t k)).2 with
      | none => exact absurd h this
      | some v => rfl
  rcases first_of (p := fun k => (pull src (fun s => s.M l src + 1) t (stAt l src t k)).2 = none) 157 with h | ⟨e, he, hn, hb⟩
  · exfalso
    have hm : ∀ k, k ≤ 157 → (stAt l src t k).M l src + k ≤ (newPS l.length).M l src := fun k => by
      induction k with
      | zero => exact fun _ => Nat.le_refl _
      | succ k ih =>
        intro hk
        have h1 := ih (by omega)
        have h2 := (pull_fine hp h0 (fu := fun s => s.M l src + 1) ht (stAt l src t k) (stAt_ok hp h0 ht k)).mle
        have h3 : (pull src (fun s => s.M l src + 1) t (stAt l src t k)).2.isSome = true := by
          cases h4 : (pull src (fun s => s.M l src + 1) t (stAt l src t k)).2 with
          | none => exact absurd h4 (h k (by omega))
          | some v => rfl
        rw [h3, ← stAt_next hp h0 ht] at h2
        simp only [if_true] at h2
        omega
    have h1 := hm 157 (Nat.le_refl _)
    have h2 := newPS_M (l := l) h0 hl
    omega
  · refine ⟨e, by omega, hd e hb, fun k hk => ?_, hn, ?_⟩
    · cases h4 : (pull src (fun s => s.M l src + 1) t (stAt l src t k)).2 with
      | none => exact absurd h4 (hb k hk)
      | some v => rfl
    · rw [stAt_next hp h0 ht, pull_d hp h0 ht (stAt_ok hp h0 ht e) (hd e hb e (Nat.le_refl _)), hn]
      rfl
end
/-- The numbers of pulls at the sources for fewer than n pulls. -/
def tabUp (l : List Nd) (src : List (List Int)) (t : TI) (n : Nat) : List Int := (List.range n).map fun k => ((stAt l src t k).lg.length : Int)
theorem tabUp_len (l : List Nd) (src : List (List Int)) (t : TI) (n : Nat) : (tabUp l src t n).length = n := by simp [tabUp]
theorem tabUp_succ (l : List Nd) (src : List (List Int)) (t : TI) (n : Nat) : tabUp l src t (n + 1) = tabUp l src t n ++ [((stAt l src t n).lg.length : Int)] := by simp [tabUp, List.range_succ]
/-- The table of a pipe; none where the arguments are not valid. -/
structure TabQ (l : List Nd) (src : List (List Int)) (q : List Int) : Prop where
  no : (pipeOk l && srcOk src) = false → q = []
  yes : (pipeOk l && srcOk src) = true → ∃ t e, IsTI l t ∧ t.ix + 1 = l.length ∧ EndsAt l src t e ∧ q = tabUp l src t (e + 2)
theorem TabQ.ex (l : List Nd) (src : List (List Int)) : ∃ q, TabQ l src q ∧ q.length ≤ 200 := by
  cases hv : (pipeOk l && srcOk src) with
  | false => exact ⟨[], ⟨fun _ => rfl, fun h => absurd (hv.symm.trans h) (by decide)⟩, by simp⟩
  | true =>
    have hv2 := hv
    simp only [Bool.and_eq_true] at hv2
    have hlow := low_of hv2.1
    obtain ⟨T, hT⟩ := IsTree.ex (pipeOk_iff.1 hv2.1) l.length (l.length - 1) (by omega) (by omega)
    obtain ⟨t, ht, hti, _⟩ := hT.ti
    obtain ⟨e, he⟩ := EndsAt.ex (pipeOk_iff.1 hv2.1) hv2.2 (high_of hv2.1) ht
    exact ⟨_, ⟨fun h => absurd (hv.symm.trans h) (by decide), fun _ => ⟨t, e, ht, by omega, he, rfl⟩⟩, by rw [tabUp_len]; have := he.le; omega⟩

end Go.Proofs.Ythfniffecceldaa

/- Contracts: pulls by the program: the first items. -/
namespace Go.Proofs.Ythfniffecceldaa
open Go.RowKit

end Go.Proofs.Ythfniffecceldaa

/- Contracts: pulls by the program: the table of pulls, by the reference. -/
namespace Go.Proofs.Ythfniffecceldaa
open Go.RowKit

/-- What PullTable leaves. -/
def TabP (q : List Int) (w : World) (e : Ending) (w' : World) : Prop := ∃ A' c', e = .returned (.slice A' q.length c') ∧ OwnI w' w.heap.size w'.heap.size A' q ∧ Below w.heap.size w w'
set_option maxRecDepth 100000 in
set_option maxHeartbeats 6400000 in
theorem specPullTable_any {l : List Nd} {src : List (List Int)} {A : Option Addr} {c : Nat} {As : Option Addr} {ca : Nat} (q : List Int) (hq : Hid (TabQ l src q)) (w : World) (hn : RdN w w.heap.size A l) (hsr : RdR w w.heap.size As src) (hnl : l.length ≤ 1048576) (hns : src.length ≤ 1048576) (hm : Hid (∀ r ∈ src, r.length ≤ 1048576)) :
    Calls Try.prog 41 #[.agg #[.slice A l.length c], .slice As src.length ca] w (TabP q w) := by
  obtain ⟨W1, hW1⟩ : ∃ X : World, X = w.alloc (.cells #[.slice A l.length c] 39) := ⟨_, rfl⟩
  have hb1 : Below w.heap.size w W1 := by rw [hW1]; exact below1 w _
  have kE : Bk W1 w.heap.size 39 [.slice A l.length c] := by rw [hW1]; exact Bk.new _ _ [_]
  have z1 := hb1.size
  have hn1 : RdN W1 W1.heap.size A l := (hn.below hb1 (Nat.le_refl _)).more z1
  have hr1 : RdR W1 W1.heap.size As src := (hsr.below hb1 (Nat.le_refl _)).more z1
  have Hn := Lib.hid hn1
  have Hsr := Lib.hid hr1
  have HW1 := Lib.hid hW1
  have Hb1 := Lib.hid hb1
  have HkE := Lib.hid kE
  clear kE
  clear hn hsr hn1 hr1 hW1 hb1
  have hcall := specvalidInput_any A c l As ca src W1 W1.heap.size Hn.out Hsr.out (Nat.le_refl _) hnl hns hm
  cases hv : (pipeOk l && srcOk src) with
  | false =>
    obtain rfl := hq.out.no hv
    rw [hv] at hcall
    have Hcall := Lib.hid hcall
    clear hv hcall
    go_enter Try.func41, Try.ntmps41
    go_wp2_with fail
    rw [← HW1.out]
    refine Hcall.out.mono ?_
    rintro e w2 ⟨rfl, hb2⟩
    have Hb2 := Lib.hid (Hb1.out.trans (hb2.mono z1))
    clear hb2
    go_wp2_with fail
    refine bodyPost_ret (v := .slice none 0 0) (by simp [results, Try.results41, go_sem]) rfl ?_
    exact ⟨none, 0, rfl, fun h => absurd h (by simp), Hb2.out⟩
  | true =>
    obtain ⟨t, e, ht, hix, he, rfl⟩ := hq.out.yes hv
    rw [hv] at hcall
    simp only [Bool.and_eq_true] at hv
    obtain ⟨hp, hs⟩ := hv
    have h3 := (src_rows hs).1
    have hhigh := high_of hp
    have hlow := low_of hp
    have hF := pull_fine (pipeOk_iff.1 hp) hs (fu := fun s => s.M l src + 1) ht
    have hpul := fun (k : Nat) (hk : k ≤ 200) (W : World) (hnW : RdN W W.heap.size A l) (hsW : RdR W W.heap.size As src) => specPulled_any (c := c) (ca := ca) hhigh hF (fun pb cb n0 => NextOk.of (pipeOk_iff.1 hp) hs hhigh ht) hix (newPS_ok (pipeOk_iff.1 hp)) (newPS_W hs hhigh) k hk W hnW hsW
    have hmany := fun k : Nat => manyP_runP hF (fun s s' ok h => pull_again (pipeOk_iff.1 hp) hs ht ok h) (newPS_ok (pipeOk_iff.1 hp)) k
    have hlg : ∀ k : Nat, (stAt l src t k).lg.length ≤ 65536 := fun k => by
      have h1 := (runP_fine hF k _ (newPS_ok (pipeOk_iff.1 hp))).wle
      have h2 := newPS_W (l := l) hs hhigh
      simp only [newPS, List.length_nil] at h1 h2
      unfold stAt
      simp only [newPS]
      omega
    have hln : IntKind.i64.wrap ((l.length : Int) - 1) = (t.ix : Int) := by rw [IntWalk.i64_in _ (by omega)]; omega
    have hle := he.le
    rw [h3] at hcall ⊢
    have Hcall := Lib.hid hcall
    have Hpul := Lib.hid hpul
    have Hmany := Lib.hid hmany
    have Hlg := Lib.hid hlg
    have Hix := Lib.hid hix
    have He := Lib.hid he
    have Hln := Lib.hid hln
    clear hp hs h3 ht hix hcall hq hF hpul hmany hlg he hln
    go_enter Try.func41, Try.ntmps41
    go_wp2_with fail
    rw [← HW1.out]
    refine Hcall.out.mono ?_
    rintro e' w2 ⟨rfl, hb2⟩
    have Hb2 := Lib.hid (Hb1.out.trans (hb2.mono z1))
    have HbX := Lib.hid hb2
    have kE2 := HkE.out.below hb2 HkE.out.lt
    have HkE2 := Lib.hid kE2
    have z2 := hb2.size
    have ltE2 := kE2.lt
    clear hb2 kE2
    go_wp2_with fail
    go_loopw [5, 6] (fun ov kv wr => ∃ (j : Nat) (R : Option Addr) (cR : Nat), j ≤ e + 1 ∧ kv = .int .i64 j ∧ ov = .slice R j cR ∧ OwnJ wr w2.heap.size R cR (tabUp l src t j) ∧ Below w2.heap.size w2 wr) (fun _ kv _ => e + 2 - (intOf kv).toNat)
    case atStart => exact ⟨0, _, 0, Nat.zero_le _, rfl, rfl, emptyJ w2, (Below.refl _ _).alloc (Nat.le_refl _) _⟩
    case round =>
      obtain ⟨j, R9, cR9, hj, rfl, rfl, how, hbr⟩ := hrel
      have hzr := hbr.size
      have kEr := HkE2.out.below hbr ltE2
      have cE := kEr.cell 0
      have ltE := kEr.lt
      simp only [List.getElem?_cons_zero] at cE
      have g0 : (j : Int) ≤ 200 := by omega
      have hwj : IntKind.i64.wrap ((j : Int) + 1) = (j : Int) + 1 := IntWalk.i64_in _ (by omega)
      have Hpc := Lib.hid (Hpul.out j (by omega) wr ((Hn.out.below (HbX.out.trans (hbr.mono z2)) (Nat.le_refl _)).more (by omega)) ((Hsr.out.below (HbX.out.trans (hbr.mono z2)) (Nat.le_refl _)).more (by omega)))
      have How := Lib.hid how
      have Hbr := Lib.hid hbr
      have HkEr := Lib.hid kEr
      have hjn := tabUp_len l src t j
      have Hjn := Lib.hid hjn
      clear how hbr kEr hjn
      go_wp2_with fail
      refine Hpc.out.mono ?_
      rintro e' w4 ⟨pb, cb, R, cR, pre, s, rfl, h⟩
      have hes : s = stAt l src t j := by
        have h1 := h.e
        rw [Hmany.out j] at h1
        unfold stAt
        rw [h1]
      obtain ⟨Rl, cRl, hbx, hog⟩ := h.sw.rs.box
      have b3 := hbx.cell 3
      replace b3 : w4.cell? ⟨pb, 3, none⟩ = some (.slice Rl s.lg.length cRl) := b3
      have plt := hbx.lt
      have hz4 := h.bl.size
      have Hes := Lib.hid hes
      have how4 := How.out.below h.bl (Nat.le_refl _)
      have How4 := Lib.hid how4
      have Hb4 := Lib.hid (Hbr.out.trans (h.bl.mono hzr))
      have HkE4 := Lib.hid (HkEr.out.below h.bl ltE)
      have Hh := Lib.hid h
      clear hbx hog hes how4 h
      go_wp2_with (at_builtin; go_must (refine wpList_append_int rfl _ _ rfl w2.heap.size R9 cR9 _ (s.lg.length : Int) j Hjn.out rfl How4.out _ rfl rfl (by omega) (by omega) ?_; intro R2 c2' w5 ho2 hg2); have hbb := (Hb4.out.alloc (by omega) _).grown hg2 (by simp; omega) (fun g hg => (How4.out.row_lt g hg).1); have rs5 := Hh.out.sw.rs.ints How4.out (by decide) hg2; have kE5 := (HkE4.out.alloc (.cells #[.int .i64 (s.lg.length : Int)] 3)).grown hg2 (fun e => by obtain ⟨_, ds, hi⟩ := How4.out.isi _ e.symm; exact Bk.ne HkE4.out hi (by decide) rfl); have hls : t.ix < s.cs.length := (by rw [Hh.out.ok.len]; have := Hix.out; omega); have hcl := (RS.cl rs5 (i := t.ix) hls).c5; obtain ⟨Rz, cz, hbz, _⟩ := rs5.box; have y2 := hbz.cell 2; have yE := kE5.cell 0; replace y2 : w5.cell? ⟨pb, 2, none⟩ = some (.slice (some ⟨cb, 0, none⟩) l.length l.length) := y2; simp only [List.getElem?_cons_zero] at yE; have lt5 := hbz.lt; have ltc5 := RS.ltc rs5; have Hbb := Lib.hid hbb; have Ho2 := Lib.hid ho2; clear ho2 hg2 hbb rs5 kE5 hbz b3)
      have hdd : (s.at_ t.ix).d = decide (j = e + 1) := by
        rw [Hes.out]
        by_cases h : j = e + 1
        · subst h; rw [He.out.off]; simp
        · rw [He.out.on j (by omega)]; simp [h]
      have hln := Hln.out
      have i0 : (0 : Int) ≤ (t.ix : Int) := by omega
      have i1 : (t.ix : Int) < (l.length : Int) := by have := Hix.out; omega
      by_cases hje : j = e + 1
      · rw [hdd, decide_eq_true hje] at hcl
        have Hje := Lib.hid hje
        clear hdd hje
        go_wp2_with fail
        go_region_held3 (fun w' => w'.cell? ⟨pb, 2, none⟩ = some (.slice (some ⟨cb, 0, none⟩) l.length l.length) ∧ w'.cell? ⟨w.heap.size, 0, none⟩ = some (.slice A l.length c) ∧ w'.cell? ⟨cb, t.ix * 6 + 5, none⟩ = some (.bool true)) (first | exact ⟨y2, yE, hcl⟩ | go_keep) (fail)
        go_wp2_with fail
        have hq : tabUp l src t (e + 2) = tabUp l src t j ++ [(s.lg.length : Int)] := by rw [Hes.out, ← tabUp_succ, Hje.out]
        refine bodyPost_ret (v := .slice R2 (j + 1) c2') (by simp [results, Try.results41, go_sem]) rfl ?_
        exact ⟨R2, c2', by rw [tabUp_len, Hje.out], by rw [hq]; exact (Ho2.out.below (Below.refl _ _).drew (Nat.le_refl _)).ownI.wide (by have := Hb2.out.size; omega) (Nat.le_refl _), (Hb2.out.trans (Hbb.out.mono Hb2.out.size)).drew⟩
      · rw [hdd, decide_eq_false hje] at hcl
        have hje2 : j + 1 ≤ e + 1 := by omega
        clear hdd hje
        go_wp2_with fail
        go_region_held3 (fun w' => w'.cell? ⟨pb, 2, none⟩ = some (.slice (some ⟨cb, 0, none⟩) l.length l.length) ∧ w'.cell? ⟨w.heap.size, 0, none⟩ = some (.slice A l.length c) ∧ w'.cell? ⟨cb, t.ix * 6 + 5, none⟩ = some (.bool false)) (first | exact ⟨y2, yE, hcl⟩ | go_keep) (fail)
        go_wp2_with fail
        go_roundw
        case rel => exact ⟨j + 1, R2, c2', hje2, by go_num, rfl, by rw [tabUp_succ, ← Hes.out]; exact Ho2.out.below (Below.refl _ _).drew (Nat.le_refl _), Hbb.out.drew⟩
        case measure => simp [intOf]; omega

end Go.Proofs.Ythfniffecceldaa

/- Contracts: pulls by the program: costs: counts and reached of the reference. -/
namespace Go.Proofs.Ythfniffecceldaa
open Go.RowKit

/-- One item more of its source. -/
def bumpC (cs : List Int) (p : Pl) : List Int := if 0 ≤ p.i then cs.set p.s.toNat (cs.getD p.s.toNat 0 + 1) else cs
/-- How far a source was looked at. -/
def bumpR (cs : List Int) (p : Pl) : List Int := cs.set p.s.toNat (max (cs.getD p.s.toNat 0) (p.i + 1))
def cntOf (lg : List Pl) : List Int := lg.foldl bumpC [0, 0, 0]
def rchOf (lg : List Pl) : List Int := lg.foldl bumpR [0, 0, 0]
theorem bumpC_len (cs : List Int) (p : Pl) : (bumpC cs p).length = cs.length := by unfold bumpC; split <;> simp
theorem bumpR_len (cs : List Int) (p : Pl) : (bumpR cs p).length = cs.length := by simp [bumpR]
theorem foldC_len : ∀ (lg : List Pl) (cs : List Int), (lg.foldl bumpC cs).length = cs.length
  | [], _ => rfl
  | p :: lg, cs => by rw [List.foldl_cons, foldC_len lg, bumpC_len]
theorem foldR_len : ∀ (lg : List Pl) (cs : List Int), (lg.foldl bumpR cs).length = cs.length
  | [], _ => rfl
  | p :: lg, cs => by rw [List.foldl_cons, foldR_len lg, bumpR_len]
theorem cntOf_len (lg : List Pl) : (cntOf lg).length = 3 := foldC_len lg _
theorem rchOf_len (lg : List Pl) : (rchOf lg).length = 3 := foldR_len lg _
theorem cntOf_snoc (lg : List Pl) (p : Pl) : cntOf (lg ++ [p]) = bumpC (cntOf lg) p := by simp [cntOf]
theorem rchOf_snoc (lg : List Pl) (p : Pl) : rchOf (lg ++ [p]) = bumpR (rchOf lg) p := by simp [rchOf]
theorem cntOf_take {lg : List Pl} {j : Nat} {p : Pl} (h : lg[j]? = some p) : cntOf (lg.take (j + 1)) = bumpC (cntOf (lg.take j)) p := by rw [take_succ_of h, cntOf_snoc]
theorem rchOf_take {lg : List Pl} {j : Nat} {p : Pl} (h : lg[j]? = some p) : rchOf (lg.take (j + 1)) = bumpR (rchOf (lg.take j)) p := by rw [take_succ_of h, rchOf_snoc]
/-- Counts are at most as many as pulls. -/
theorem cntOf_le : ∀ (lg : List Pl) (cs : List Int) (B : Int), (∀ v ∈ cs, 0 ≤ v ∧ v ≤ B) → ∀ v ∈ lg.foldl bumpC cs, 0 ≤ v ∧ v ≤ B + lg.length
  | [], cs, B, h, v, hv => by have := h v hv; simp; exact this
  | p :: lg, cs, B, h, v, hv => by
    rw [List.foldl_cons] at hv
    have h2 : ∀ v ∈ bumpC cs p, 0 ≤ v ∧ v ≤ B + 1 := fun u hu => by
      unfold bumpC at hu
      split at hu
      · rcases List.mem_or_eq_of_mem_set hu with hu | rfl
        · have := h u hu; omega
        · rw [List.getD_eq_getElem?_getD]
          cases e : cs[p.s.toNat]? with
          | none =>
            rw [List.set_eq_of_length_le (by rw [List.getElem?_eq_none_iff] at e; exact e)] at hu
            have := h _ hu
            rw [List.getD_eq_getElem?_getD, e] at this
            simp only [Option.getD_none] at this ⊢
            omega
          | some w => have := h w (List.mem_of_getElem? e); simp only [Option.getD_some]; omega
      · have := h u hu; omega
    have := cntOf_le lg _ _ h2 v hv
    simp only [List.length_cons]
    omega
theorem cntOf_bd (lg : List Pl) : ∀ v ∈ cntOf lg, 0 ≤ v ∧ v ≤ lg.length := fun v hv => by
  have := cntOf_le lg [0, 0, 0] 0 (by simp) v hv
  omega
theorem rchOf_le {B : Int} (hB : 0 ≤ B) : ∀ (lg : List Pl) (cs : List Int), (∀ p ∈ lg, p.i + 1 ≤ B) → (∀ v ∈ cs, 0 ≤ v ∧ v ≤ B) → ∀ v ∈ lg.foldl bumpR cs, 0 ≤ v ∧ v ≤ B
  | [], cs, _, h, v, hv => h v hv
  | p :: lg, cs, hp, h, v, hv => by
    rw [List.foldl_cons] at hv
    refine rchOf_le hB lg _ (fun q hq => hp q (List.mem_cons_of_mem _ hq)) (fun u hu => ?_) v hv
    unfold bumpR at hu
    have h1 := hp p (List.mem_cons_self ..)
    rcases List.mem_or_eq_of_mem_set hu with hu | rfl
    · exact h u hu
    · rw [List.getD_eq_getElem?_getD]
      cases e : cs[p.s.toNat]? with
      | none => simp only [Option.getD_none]; omega
      | some w => have := h w (List.mem_of_getElem? e); simp only [Option.getD_some]; omega
/-- Three numbers in a block of their own. -/
theorem row_cell {w : World} {g : Nat} {cs : List Int} {q : Nat} (h : Bk w g 3 (ints cs)) (hq : q < cs.length) : w.cell? ⟨g, q, none⟩ = some (.int .i64 (cs.getD q 0)) := by
  rw [h.cell, ints_get, List.getD_eq_getElem?_getD, List.getElem?_eq_getElem hq]; rfl
theorem getD_mem {cs : List Int} {q : Nat} (hq : q < cs.length) : cs.getD q 0 ∈ cs := by
  rw [List.getD_eq_getElem?_getD, List.getElem?_eq_getElem hq]; exact List.getElem_mem hq
set_option maxRecDepth 100000 in
set_option maxHeartbeats 3200000 in
theorem specReached_any {R : Option Addr} {c : Nat} {lg : List Pl} {src : List (List Int)} (hg : Hid (∀ p ∈ lg, GoodPl src p)) (h12 : Hid (∀ r ∈ src, r.length ≤ 12)) (hl : lg.length ≤ 65536) (w : World) (B : Nat) (hr : RdPl w B R lg) (hB : B ≤ w.heap.size) :
    Calls Try.prog 48 #[.slice R lg.length c] w fun e w' => e = .returned (.slice (some ⟨w.heap.size, 0, none⟩) 3 3) ∧ Bk w' w.heap.size 3 (ints (rchOf lg)) ∧ Below w.heap.size w w' := by
  have hmk := run_make_row' (P := Try.prog) 23 3 (.int .i64 0) 8 Try.underlying23 Try.infoInt rfl .i64 .i64 3 (by omega) (by omega)
  have hmk : ∀ w : World, (Instr.makeSlice 23 (.int .i64 3) (.int .i64 3)).run Try.prog w = .ok (.slice (some ⟨w.heap.size, 0, none⟩) 3 3) (w.alloc (.cells #[.int .i64 0, .int .i64 0, .int .i64 0] 3)) := fun w => by
    have e : madeCells #[.int .i64 0] 3 = (List.replicate 3 (.int .i64 0)).toArray := by rw [← toList_madeCells_one]
    have h := hmk w
    rw [e] at h
    exact h
  have Hr := Lib.hid hr
  clear hr
  go_enter Try.func48, Try.ntmps48
  go_wp2
  clear hmk
  go_loopw [4] (fun i wr => ∃ j : Nat, j ≤ lg.length ∧ i = .int .i64 j ∧ Bk wr w.heap.size 3 (ints (rchOf (lg.take j))) ∧ Below w.heap.size w wr) (fun i _ => lg.length - (intOf i).toNat)
  case atStart => exact ⟨0, Nat.zero_le _, rfl, Bk.new _ _ _, (Below.refl _ _).alloc (Nat.le_refl _) _⟩
  case round =>
    obtain ⟨j, hj, rfl, hbk, hbl⟩ := hrel
    have Hbl := Lib.hid hbl
    have hz := hbl.size
    clear hbl
    by_cases hlt : j < lg.length
    · obtain ⟨b, o, p, rfl, hbB, hpx, hp⟩ := (Hr.out.below Hbl.out hB).at_ hlt
      obtain ⟨p0, p1⟩ := hp
      obtain ⟨⟨s0, s1⟩, i0, i1⟩ := hg.out p (List.mem_of_getElem? hpx)
      obtain ⟨q, hq⟩ : ∃ q : Nat, p.s = (q : Int) := ⟨p.s.toNat, by omega⟩
      have hi12 : p.i < 12 := by
        have : (src.getD p.s.toNat []).length ≤ 12 := by
          rw [List.getD_eq_getElem?_getD]
          cases e : src[p.s.toNat]? with
          | none => simp
          | some r => exact h12.out r (List.mem_of_getElem? e)
        omega
      clear i1
      obtain ⟨pi, hpi⟩ : ∃ pi, p.i = pi := ⟨_, rfl⟩
      rw [hq] at p0 s0 s1
      rw [hpi] at p1 i0 hi12
      have hq3 : q < 3 := by omega
      have hlen := rchOf_len (lg.take j)
      have hcq := row_cell hbk (q := q) (by omega)
      have hmem := getD_mem (cs := rchOf (lg.take j)) (q := q) (by omega)
      obtain ⟨v, hv⟩ : ∃ v, (rchOf (lg.take j)).getD q 0 = v := ⟨_, rfl⟩
      rw [hv] at hcq hmem
      have hw1 : IntKind.i64.wrap (pi + 1) = pi + 1 := IntWalk.i64_in _ (by omega)
      have hnx := rchOf_take hpx
      have hfz := hbk.free q
      have Hbk := Lib.hid hbk
      have Hnx := Lib.hid hnx
      have Hv := Lib.hid hv
      have Hq := Lib.hid hq
      have Hpi := Lib.hid hpi
      have Hp := Lib.hid hpx
      have hjl : (j : Int) < lg.length := by omega
      have hblk : b ≠ w.heap.size := by omega
      clear hbk hnx hv hq hpi hpx hmem
      by_cases hgt : v < pi + 1
      · have hmx : max v (pi + 1) = pi + 1 := by omega
        go_wp2_with fail
        go_region
        all_goals go_wp2_with fail
        go_roundw
        case rel => exact ⟨j + 1, by omega, by go_num, by rw [Hnx.out]; unfold bumpR; rw [Hpi.out, Hq.out, Int.toNat_natCast, Hv.out, hmx, ← ints_set]; exact Hbk.out.set_ q _, by exact (Hbl.out.drew).setCell (Nat.le_refl _) _⟩
        case measure => simp [intOf]; omega
      · have hmx : max v (pi + 1) = v := by omega
        go_wp2_with fail
        go_region
        all_goals go_wp2_with fail
        go_roundw
        case rel => exact ⟨j + 1, by omega, by go_num, by rw [Hnx.out]; unfold bumpR; rw [Hpi.out, Hq.out, Int.toNat_natCast, Hv.out, hmx, ← ints_set]; exact Hbk.out.set_ q _, by exact (Hbl.out.drew).setCell (Nat.le_refl _) _⟩
        case measure => simp [intOf]; omega
    · obtain rfl : j = lg.length := by omega
      go_wp2_with fail
      refine bodyPost_ret (v := .slice (some ⟨w.heap.size, 0, none⟩) 3 3) (by simp [results, Try.results48, go_sem]) rfl ⟨rfl, by rw [List.take_length] at hbk; exact hbk, Hbl.out⟩


end Go.Proofs.Ythfniffecceldaa

/- Contracts: pulls by the program: costs: one pull is accounted for. -/
namespace Go.Proofs.Ythfniffecceldaa
open Go.RowKit

def bools (l : List Bool) : List Value := l.map Value.bool
theorem bools_set (l : List Bool) (k : Nat) (x : Bool) : (bools l).set k (.bool x) = bools (l.set k x) := by simp [bools, List.map_set]
/-- Whether a pull gave none. -/
def bumpE (cs : List Bool) (p : Pl) : List Bool := if p.i = -1 then cs.set p.s.toNat true else cs
def endOf (lg : List Pl) : List Bool := lg.foldl bumpE [false, false, false]
theorem bumpE_len (cs : List Bool) (p : Pl) : (bumpE cs p).length = cs.length := by unfold bumpE; split <;> simp
theorem foldE_len : ∀ (lg : List Pl) (cs : List Bool), (lg.foldl bumpE cs).length = cs.length
  | [], _ => rfl
  | p :: lg, cs => by rw [List.foldl_cons, foldE_len lg, bumpE_len]
theorem endOf_len (lg : List Pl) : (endOf lg).length = 3 := foldE_len lg _
theorem endOf_snoc (lg : List Pl) (p : Pl) : endOf (lg ++ [p]) = bumpE (endOf lg) p := by simp [endOf]
/-- What is accounted for, in memory: the box of the watched end, and its three lists. -/
structure WR (wb gb hb eb rb : Nat) (lg : List Pl) (W : World) : Prop where
  bx : Bk W wb 83 [.pointer (some ⟨rb, 0, none⟩), .int .i64 lg.length, .slice (some ⟨gb, 0, none⟩) 3 3, .slice (some ⟨hb, 0, none⟩) 3 3, .slice (some ⟨eb, 0, none⟩) 3 3]
  g : Bk W gb 3 (ints (cntOf lg))
  h : Bk W hb 3 (ints (rchOf lg))
  e : Bk W eb 4 (bools (endOf lg))
  ne : gb ≠ hb
/-- What accounting may write. -/
structure FA (wb gb hb eb : Nat) (w w' : World) : Prop where
  os : w'.os = w.os
  tape : w'.tape = w.tape
  output : w'.output = w.output
  size : w.heap.size ≤ w'.heap.size
  block : ∀ b, b < w.heap.size → b ≠ wb → b ≠ gb → b ≠ hb → b ≠ eb → w'.heap[b]? = w.heap[b]?
section
variable {wb gb hb eb rb : Nat} {lg : List Pl} {w w' v : World}
theorem FA.refl (w : World) : FA wb gb hb eb w w := ⟨rfl, rfl, rfl, Nat.le_refl _, fun _ _ _ _ _ _ => rfl⟩
theorem FA.trans (h : FA wb gb hb eb w w') (k : FA wb gb hb eb w' v) : FA wb gb hb eb w v :=
  ⟨k.os.trans h.os, k.tape.trans h.tape, k.output.trans h.output, Nat.le_trans h.size k.size, fun b hb h1 h2 h3 h4 => (k.block b (Nat.lt_of_lt_of_le hb h.size) h1 h2 h3 h4).trans (h.block b hb h1 h2 h3 h4)⟩
theorem FA.of_below (h : Below w.heap.size w w') : FA wb gb hb eb w w' := ⟨h.os, h.tape, h.output, h.size, fun b hb _ _ _ _ => h.block b hb⟩
theorem FA.alloc (h : FA wb gb hb eb w w') (o : Obj) : FA wb gb hb eb w (w'.alloc o) := h.trans (.of_below ((Below.refl _ _).alloc (Nat.le_refl _) o))
theorem FA.drew (h : FA wb gb hb eb w w') : FA wb gb hb eb w w'.drew := h.trans (.of_below (Below.refl _ _).drew)
theorem FA.set_ (h : FA wb gb hb eb w w') (b k : Nat) (u : Value) (hb' : b = wb ∨ b = gb ∨ b = hb ∨ b = eb) : FA wb gb hb eb w (w'.setCell ⟨b, k, none⟩ u) :=
  h.trans ⟨rfl, rfl, rfl, by simp [World.setCell], fun c _ h1 h2 h3 h4 => Below.heap_setCell _ _ _ _ (by simp only; intro e; subst e; rcases hb' with e | e | e | e <;> contradiction)⟩
theorem FA.bk (h : FA wb gb hb eb w w') {g : Nat} {t : TypeId} {cs : List Value} (hb' : Bk w g t cs) (h1 : g ≠ wb) (h2 : g ≠ gb) (h3 : g ≠ hb) (h4 : g ≠ eb) : Bk w' g t cs := (h.block g hb'.lt h1 h2 h3 h4).trans hb'
theorem WR.below (h : WR wb gb hb eb rb lg w) (hb' : Below w.heap.size w w') : WR wb gb hb eb rb lg w' := ⟨h.bx.below hb' h.bx.lt, h.g.below hb' h.g.lt, h.h.below hb' h.h.lt, h.e.below hb' h.e.lt, h.ne⟩
end
theorem load_cnt (wb : Nat) (t : Int) (w : World) (hc : w.cell? ⟨wb, 1, none⟩ = some (.int .i64 t)) :
    Calls Try.prog 63 #[.pointer (some ⟨wb, 1, none⟩)] w fun e w' => e = .returned (.int .i64 t) ∧ w' = w := by
  have hl := run_call_load (P := Try.prog) Try.func80 (by kernel_rfl) (by kernel_rfl) (by kernel_rfl) .i64 (by kernel_rfl) (a := ⟨wb, 1, none⟩) (x := t) (w := w) hc
  go_enter Try.func63, Try.ntmps63
  go_wp2
  go_ret
  exact ⟨rfl, rfl⟩
theorem add_cnt (wb : Nat) (t : Int) (w : World) (hc : w.cell? ⟨wb, 1, none⟩ = some (.int .i64 t)) (hz : w.frozen? ⟨wb, 1, none⟩ = false) (ht : 0 ≤ t ∧ t ≤ 65536) :
    Calls Try.prog 98 #[.pointer (some ⟨wb, 1, none⟩), .int .i64 1] w fun e w' => e = .returned (.int .i64 (t + 1)) ∧ w' = w.setCell ⟨wb, 1, none⟩ (.int .i64 (t + 1)) := by
  have hw : IntKind.i64.wrap (t + 1) = t + 1 := IntWalk.i64_in _ (by omega)
  have hl := run_call_add (P := Try.prog) Try.func117 (by kernel_rfl) (by kernel_rfl) (by kernel_rfl) .i64 (by kernel_rfl) (a := ⟨wb, 1, none⟩) (x := t) (y := 1) (s := t + 1) (w := w) hc hz (by simp [go_sem, hw])
  go_enter Try.func98, Try.ntmps98
  go_wp2
  go_ret
  exact ⟨rfl, rfl⟩

end Go.Proofs.Ythfniffecceldaa

/- Contracts: pulls by the program: costs: one pull is accounted for: account. -/
namespace Go.Proofs.Ythfniffecceldaa
open Go.RowKit

theorem bools_get (l : List Bool) (k : Nat) : (bools l)[k]? = l[k]?.map Value.bool := by simp [bools]
theorem row_cellB {w : World} {g : Nat} {cs : List Bool} {q : Nat} (h : Bk w g 4 (bools cs)) (hq : q < cs.length) : w.cell? ⟨g, q, none⟩ = some (.bool (cs.getD q false)) := by
  rw [h.cell, bools_get, List.getD_eq_getElem?_getD, List.getElem?_eq_getElem hq]; rfl
theorem foldR_pos : ∀ (lg : List Pl) (cs : List Int), (∀ v ∈ cs, 0 ≤ v) → ∀ v ∈ lg.foldl bumpR cs, 0 ≤ v
  | [], _, h, v, hv => h v hv
  | p :: lg, cs, h, v, hv => by
    rw [List.foldl_cons] at hv
    refine foldR_pos lg _ (fun u hu => ?_) v hv
    unfold bumpR at hu
    rcases List.mem_or_eq_of_mem_set hu with hu | rfl
    · exact h u hu
    · rw [List.getD_eq_getElem?_getD]
      cases e : cs[p.s.toNat]? with
      | none => simp only [Option.getD_none]; omega
      | some w => have := h w (List.mem_of_getElem? e); simp only [Option.getD_some]; omega
theorem set_same {cs : List Int} {q : Nat} {v : Int} (hq : q < cs.length) (hv : cs.getD q 0 = v) : cs.set q v = cs := by
  rw [← hv]
  apply List.ext_getElem?
  intro k
  by_cases e : q = k
  · subst e; rw [List.getElem?_set_self hq, List.getD_eq_getElem?_getD, List.getElem?_eq_getElem hq]; rfl
  · rw [List.getElem?_set_ne e]
set_option maxRecDepth 100000 in
set_option maxHeartbeats 3200000 in
theorem account_any {wb gb hb eb rb : Nat} {lg : List Pl} {src : List (List Int)} (h12 : Hid (∀ r ∈ src, r.length ≤ 12)) (hl : lg.length ≤ 65536) (p : Pl) (hp : GoodPl src p) (w : World) (h : WR wb gb hb eb rb lg w) :
    Calls Try.prog 88 #[.pointer (some ⟨wb, 0, none⟩), .agg #[.int .i64 p.s, .int .i64 p.i]] w fun e w' => e = .returned (.tuple #[]) ∧ WR wb gb hb eb rb (lg ++ [p]) w' ∧ FA wb gb hb eb w w' := by
  obtain ⟨⟨s0, s1⟩, i0, i1⟩ := hp
  have hi12 : p.i < 12 := by
    have : (src.getD p.s.toNat []).length ≤ 12 := by
      rw [List.getD_eq_getElem?_getD]
      cases e : src[p.s.toNat]? with
      | none => simp
      | some r => exact h12.out r (List.mem_of_getElem? e)
    omega
  clear i1 h12
  obtain ⟨q, hq⟩ : ∃ q : Nat, p.s = (q : Int) := ⟨p.s.toNat, by omega⟩
  obtain ⟨pi, hpi⟩ : ∃ pi, p.i = pi := ⟨_, rfl⟩
  rw [hq, hpi]
  rw [hq] at s0 s1
  rw [hpi] at i0 hi12
  have hq3 : q < 3 := by omega
  obtain ⟨W1, hW1⟩ : ∃ X : World, X = w.alloc (.cells #[.int .i64 q, .int .i64 pi] 90) := ⟨_, rfl⟩
  have hb1 : Below w.heap.size w W1 := by rw [hW1]; exact below1 w _
  have kP : Bk W1 w.heap.size 90 [.int .i64 q, .int .i64 pi] := by rw [hW1]; exact Bk.new _ _ [_, _]
  have h1 := h.below hb1
  have c1 := h1.bx.cell 1
  have z1 := h1.bx.free 1
  simp only [List.getElem?_cons_succ, List.getElem?_cons_zero] at c1
  have nPw : w.heap.size ≠ wb := fun e => by subst e; exact absurd h.bx.lt (Nat.lt_irrefl _)
  have nPg : w.heap.size ≠ gb := fun e => by subst e; exact absurd h.g.lt (Nat.lt_irrefl _)
  have nPh : w.heap.size ≠ hb := fun e => by subst e; exact absurd h.h.lt (Nat.lt_irrefl _)
  have nPe : w.heap.size ≠ eb := fun e => by subst e; exact absurd h.e.lt (Nat.lt_irrefl _)
  have nwg : wb ≠ gb := Bk.ne h.bx h.g (by decide)
  have nwh : wb ≠ hb := Bk.ne h.bx h.h (by decide)
  have nwe : wb ≠ eb := Bk.ne h.bx h.e (by decide)
  have nge : gb ≠ eb := Bk.ne h.g h.e (by decide)
  have nhe : hb ≠ eb := Bk.ne h.h h.e (by decide)
  have ngh := h.ne
  have hadd := add_cnt wb lg.length W1 c1 z1 ⟨by omega, by omega⟩
  obtain ⟨W2, hW2⟩ : ∃ X : World, X = W1.setCell ⟨wb, 1, none⟩ (.int .i64 ((lg.length : Int) + 1)) := ⟨_, rfl⟩
  have k2 : Bk W2 wb 83 [.pointer (some ⟨rb, 0, none⟩), .int .i64 ((lg.length : Int) + 1), .slice (some ⟨gb, 0, none⟩) 3 3, .slice (some ⟨hb, 0, none⟩) 3 3, .slice (some ⟨eb, 0, none⟩) 3 3] := by rw [hW2]; exact h1.bx.set_ 1 _
  have g2 : Bk W2 gb 3 (ints (cntOf lg)) := by rw [hW2]; exact h1.g.far (by simp only; omega) _
  have r2 : Bk W2 hb 3 (ints (rchOf lg)) := by rw [hW2]; exact h1.h.far (by simp only; omega) _
  have e2 : Bk W2 eb 4 (bools (endOf lg)) := by rw [hW2]; exact h1.e.far (by simp only; omega) _
  have kP2 : Bk W2 w.heap.size 90 [.int .i64 q, .int .i64 pi] := by rw [hW2]; exact kP.far (by simp only; omega) _
  have f2 : FA wb gb hb eb w W2 := by rw [hW2]; exact (FA.of_below hb1).set_ wb 1 _ (.inl rfl)
  have lP := kP2.lt
  have lW := k2.lt
  have lG := g2.lt
  have lH := r2.lt
  have lE := e2.lt
  have b0 := k2.cell 0
  have b2 := k2.cell 2
  have b3 := k2.cell 3
  have b4 := k2.cell 4
  have p0 := kP2.cell 0
  have p1 := kP2.cell 1
  simp only [List.getElem?_cons_succ, List.getElem?_cons_zero] at b0 b2 b3 b4 p0 p1
  have cg := row_cell g2 (q := q) (by rw [cntOf_len]; exact hq3)
  have cr := row_cell r2 (q := q) (by rw [rchOf_len]; exact hq3)
  have ce := row_cellB e2 (q := q) (by rw [endOf_len]; exact hq3)
  have hcb := cntOf_bd lg _ (getD_mem (cs := cntOf lg) (q := q) (by rw [cntOf_len]; exact hq3))
  obtain ⟨vg, hvg⟩ : ∃ v, (cntOf lg).getD q 0 = v := ⟨_, rfl⟩
  obtain ⟨vr, hvr⟩ : ∃ v, (rchOf lg).getD q 0 = v := ⟨_, rfl⟩
  obtain ⟨ve, hve⟩ : ∃ v, (endOf lg).getD q false = v := ⟨_, rfl⟩
  have hrp := foldR_pos lg [0, 0, 0] (by simp) _ (getD_mem (cs := rchOf lg) (q := q) (by rw [rchOf_len]; exact hq3))
  rw [hvr] at hrp
  have Hvp := Lib.hid hrp
  clear hrp
  rw [hvg] at cg hcb
  rw [hvr] at cr
  rw [hve] at ce
  have zg := g2.free q
  have zr := r2.free q
  have ze := e2.free q
  have hwg : IntKind.i64.wrap (vg + 1) = vg + 1 := IntWalk.i64_in _ (by omega)
  have hwp : IntKind.i64.wrap (pi + 1) = pi + 1 := IntWalk.i64_in _ (by omega)
  have Hadd := Lib.hid hadd
  have HW1 := Lib.hid hW1
  have HW2 := Lib.hid hW2
  have K2 := Lib.hid k2
  have G2 := Lib.hid g2
  have R2 := Lib.hid r2
  have E2 := Lib.hid e2
  have F2 := Lib.hid f2
  have Hvg := Lib.hid hvg
  have Hvr := Lib.hid hvr
  have Hve := Lib.hid hve
  have Hq := Lib.hid hq
  have Hpi := Lib.hid hpi
  have hlen : ((lg ++ [p]).length : Int) = (lg.length : Int) + 1 := by simp
  have Hlen := Lib.hid hlen
  clear hadd hW1 hW2 k2 g2 r2 e2 f2 hvg hvr hve hq hpi hlen h h1 hb1 kP kP2 c1 z1
  go_enter Try.func88, Try.ntmps88
  go_wp2_with fail
  rw [← HW1.out]
  refine Hadd.out.mono ?_
  rintro e w2 ⟨rfl, rfl⟩
  rw [← HW2.out]
  by_cases hneg : pi = -1
  · have hb' : (pi == -1) = true := by simp [hneg]
    have Hneg := Lib.hid hneg
    clear hneg
    go_wp2_with fail
    go_region
    all_goals go_wp2_with fail
    refine bodyPost_ret (results_none rfl _ _ _) rfl ⟨rfl, ?_, ?_⟩
    · refine ⟨by rw [Hlen.out]; exact K2.out.far (by simp only; omega) _, ?_, ?_, ?_, ngh⟩
      · rw [cntOf_snoc]; unfold bumpC; rw [if_neg (by rw [Hpi.out, Hneg.out]; decide)]; exact G2.out.far (by simp only; omega) _
      · rw [rchOf_snoc]; unfold bumpR; rw [Hpi.out, Hneg.out, Hq.out, Int.toNat_natCast, Hvr.out]
        have e : max vr (-1 + 1) = vr := by have := Hvp.out; omega
        rw [e, set_same (by rw [rchOf_len]; exact hq3) Hvr.out]; exact R2.out.far (by simp only; omega) _
      · rw [endOf_snoc]; unfold bumpE; rw [if_pos (by rw [Hpi.out]; exact Hneg.out), Hq.out, Int.toNat_natCast, ← bools_set]; exact E2.out.set_ q _
    · exact (F2.out.set_ eb q _ (.inr (.inr (.inr rfl)))).drew
  · have hb' : (pi == -1) = false := by simp [hneg]
    have hpos : 0 ≤ pi := by omega
    clear hneg
    have Hpos := Lib.hid hpos
    have mgh := ngh.symm
    have mwg := nwg.symm
    have mge := nge.symm
    have mPg := nPg.symm
    by_cases hgt : vr < pi + 1
    all_goals
      have hmx := hgt
      go_wp2_with fail
      go_region
      all_goals go_wp2_with fail
      go_region
      all_goals go_wp2_with fail
    all_goals go_end0
    all_goals refine ⟨rfl, ?_, ?_⟩
    all_goals first
      | exact (((F2.out.set_ gb q _ (.inr (.inl rfl))).drew).set_ hb q _ (.inr (.inr (.inl rfl)))).drew
      | skip
    all_goals
      refine ⟨by rw [Hlen.out]; exact ((K2.out.far (by simp only; omega) _).far (by simp only; omega) _), ?_, ?_, ?_, ngh⟩
    all_goals first
      | (rw [endOf_snoc]; unfold bumpE; rw [if_neg (by rw [Hpi.out]; omega)]; exact (E2.out.far (by simp only; omega) _).far (by simp only; omega) _)
      | (rw [cntOf_snoc]; unfold bumpC; rw [if_pos (by rw [Hpi.out]; exact Hpos.out), Hq.out, Int.toNat_natCast, Hvg.out, ← ints_set]; exact (G2.out.set_ q _).far (by simp only; omega) _)
      | (rw [rchOf_snoc]; unfold bumpR; rw [Hpi.out, Hq.out, Int.toNat_natCast, Hvr.out, show max vr (pi + 1) = pi + 1 by omega, ← ints_set]; exact (R2.out.far (by simp only; omega) _).set_ q _)
      | (rw [rchOf_snoc]; unfold bumpR; rw [Hpi.out, Hq.out, Int.toNat_natCast, Hvr.out, show max vr (pi + 1) = vr by omega, ← ints_set]; exact (R2.out.far (by simp only; omega) _).set_ q _)


end Go.Proofs.Ythfniffecceldaa
