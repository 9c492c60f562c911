/- Texts on the program and its reference, put together (PmB, Rf, PwA, PsA). -/
import Derived.Test.YthfniffecceldaaMq5F
import Derived.RangeFuncNested
import Derived.RangeFuncBound
import Derived.RangeFuncCalls
import Derived.RangeFuncLeaves
import Derived.Test.YthfniffecceldaaMq5A
import Derived.Deep.DeepMust
/- Plain mathematics: a pull keeps states, gives items, and comes to an end. -/
namespace Go.Proofs.Ythfniffecceldaa

def CellIn (src : List (List Int)) (x : Nd) (c : Cl) : Prop := (0 ≤ c.n ∧ c.n ≤ mostOf x src) ∧ (0 ≤ c.l ∧ c.l ≤ 99) ∧ (0 ≤ c.r ∧ c.r ≤ 99)
def KeepD (l : List Nd) (src : List (List Int)) (i : Nat) (f : PF) : Prop := ∀ s, StOk l src s.cs → ((f s).1.at_ i).d = (s.at_ i).d

section
variable {l : List Nd} {src : List (List Int)} {i j : Nat} {x : Nd} {f fa fb : PF} {s : PS}
theorem FineAt.at_ {r : PS × Option Int} (h : FineAt l src j s r) (hj : j < i) : r.1.at_ i = s.at_ i := by
  unfold PS.at_
  rw [List.getD_eq_getElem?_getD, List.getD_eq_getElem?_getD, h.far i hj]
theorem FineAt.putw {s2 : PS} {o : Option Int} {c : Cl} (h : FineAt l src i s (s2, o)) (hx : l[i]? = some x) (hw : wAll src x c ≤ wAll src x (s2.at_ i)) (hv : wSrc src x c ≤ wSrc src x (s2.at_ i)) (hc : CellIn src x c) : FineAt l src i s (s2.put i c, o) := by
  have h1 := M_put (c := c) h.ok hx
  have h2 := W_put (c := c) h.ok hx
  refine ⟨StOk.set_ h.ok hx hc, fun k hk => (far_put k hk).trans (h.far k hk), h.item, ?_, ?_⟩
  · have := h.mle; simp only at this h1 ⊢; omega
  · have := h.wle; simp only [PS.put] at this h2 ⊢; omega
theorem wAll_src {c d : Cl} (hk : x.k ≠ 0) (h1 : c.hl = d.hl) (h2 : c.hr = d.hr) : wAll src x c = wAll src x d ∧ wSrc src x c = wSrc src x d := by
  simp [wAll, wSrc, hk, h1, h2]

theorem doneP_fine (hx : l[i]? = some x) (hk : x.k ≠ 0) (hf : Fine l src i f) : Fine l src i (doneP i f) := fun s hs => by
  unfold doneP
  split
  · exact FineAt.none_ hs
  · have h := hf s hs
    rcases hfs : f s with ⟨s2, o⟩
    rw [hfs] at h
    cases o with
    | none =>
      have hw := wAll_src (src := src) (c := { s2.at_ i with d := true }) (d := s2.at_ i) hk rfl rfl
      exact h.putw hx (Nat.le_of_eq hw.1) (Nat.le_of_eq hw.2) (StOk.at_ h.ok hx)
    | some v => exact h

theorem leaf_fine (hs0 : srcOk src = true) (hx : l[i]? = some x) (hk : x.k = 0) : Fine l src i (doneP i (srcP src i x)) := fun s hs => by
  have hat := StOk.at_ hs hx
  have hlt := hs.lt hx
  have hmost : mostOf x src = ((src.getD x.n.toNat []).length : Int) := by simp [mostOf, hk]
  unfold doneP
  split
  · exact FineAt.none_ hs
  · rename_i hd
    unfold srcP
    by_cases he : (s.at_ i).n = ((src.getD x.n.toNat []).length : Int)
    · rw [if_pos he]
      have hat2 : (s.say ⟨x.n, -1⟩).at_ i = s.at_ i := rfl
      have h1 := M_put (s := s.say ⟨x.n, -1⟩) (c := { s.at_ i with d := true }) (src := src) (l := l) hs hx
      have h2 := W_put (s := s.say ⟨x.n, -1⟩) (c := { s.at_ i with d := true }) (src := src) (l := l) hs hx
      have e1 : (s.say ⟨x.n, -1⟩).M l src = s.M l src := rfl
      have e2 : (s.say ⟨x.n, -1⟩).W l src = s.W l src := rfl
      simp only [hat2, e1, e2, wAll, wSrc, hk] at h1 h2
      simp [hd] at h1 h2
      refine ⟨StOk.set_ (s := s.say ⟨x.n, -1⟩) hs hx hat, fun k hk => far_put k hk, fun _ e => (by simp at e), ?_, ?_⟩
      · simp only [hat2]; simp; omega
      · simp only [hat2]
        have : ((s.say ⟨x.n, -1⟩).put i { s.at_ i with d := true }).lg.length = s.lg.length + 1 := by simp [PS.say, PS.put]
        rw [this]; omega
    · rw [if_neg he]
      have hn1 : (s.at_ i).n < ((src.getD x.n.toNat []).length : Int) := by have := hat.1.2; omega
      have hat2 : (s.say ⟨x.n, (s.at_ i).n⟩).at_ i = s.at_ i := rfl
      have h1 := M_put (s := s.say ⟨x.n, (s.at_ i).n⟩) (c := { s.at_ i with n := (s.at_ i).n + 1 }) (src := src) (l := l) hs hx
      have h2 := W_put (s := s.say ⟨x.n, (s.at_ i).n⟩) (c := { s.at_ i with n := (s.at_ i).n + 1 }) (src := src) (l := l) hs hx
      have e1 : (s.say ⟨x.n, (s.at_ i).n⟩).M l src = s.M l src := rfl
      have e2 : (s.say ⟨x.n, (s.at_ i).n⟩).W l src = s.W l src := rfl
      have wa : ∀ c, wAll src x c = wSrc src x c := by intro c; simp [wAll, hk]
      have ws : ∀ c : Cl, wSrc src x c = ((src.getD x.n.toNat []).length - c.n.toNat) + (if c.d then 0 else 1) := by intro c; simp only [wSrc, if_pos hk]
      have hw : wSrc src x { s.at_ i with n := (s.at_ i).n + 1 } + 1 = wSrc src x (s.at_ i) := by
        rw [ws, ws]
        generalize (src.getD x.n.toNat []).length = q at hn1
        have h0 := hat.1.1
        dsimp only
        split <;> omega
      rw [hat2, e1, wa, wa] at h1
      rw [hat2, e2] at h2
      refine ⟨StOk.set_ (s := s.say ⟨x.n, (s.at_ i).n⟩) hs hx ⟨⟨by simp; omega, by simp only [hmost]; omega⟩, hat.2⟩, fun k hk => far_put k hk, fun v e => ?_, ?_, ?_⟩
      · injection e with e
        subst e
        have hi : Items (src.getD x.n.toNat []) := by
          rw [List.getD_eq_getElem?_getD]
          cases e : src[x.n.toNat]? with
          | none => exact Items.nil_
          | some r =>
            simp only [srcOk, Bool.and_eq_true] at hs0
            have h1 := List.all_eq_true.1 hs0.1 r (List.mem_of_getElem? e)
            simp only [rowOk, Bool.and_eq_true, decide_eq_true_eq] at h1
            exact fun y hy => inR_iff.1 (List.all_eq_true.1 h1.2 y hy)
        have hlt2 : (s.at_ i).n.toNat < (src.getD x.n.toNat []).length := by omega
        rw [List.getD_eq_getElem?_getD, List.getElem?_eq_getElem hlt2]
        exact hi _ (List.getElem_mem hlt2)
      · show ((s.say ⟨x.n, (s.at_ i).n⟩).put i { s.at_ i with n := (s.at_ i).n + 1 }).M l src + 1 ≤ s.M l src
        omega
      · have : ((s.say ⟨x.n, (s.at_ i).n⟩).put i { s.at_ i with n := (s.at_ i).n + 1 }).lg.length = s.lg.length + 1 := by simp [PS.say, PS.put]
        show ((s.say ⟨x.n, (s.at_ i).n⟩).put i { s.at_ i with n := (s.at_ i).n + 1 }).lg.length + ((s.say ⟨x.n, (s.at_ i).n⟩).put i { s.at_ i with n := (s.at_ i).n + 1 }).W l src ≤ _
        rw [this]; omega

theorem chgP_fine {g : Int → Cl → Cl × Int} (hx : l[i]? = some x) (hk : x.k ≠ 0 ∧ x.k ≠ 9) (hj : j < i) (hf : Fine l src j f) (hg : ∀ v c, (0 ≤ v ∧ v ≤ 99) → CellIn src x c → CellIn src x (g v c).1 ∧ 0 ≤ (g v c).2 ∧ (g v c).2 ≤ 99) : Fine l src i (chgP i g f) := fun s hs => by
  unfold chgP
  have h := (hf s hs).wide (Nat.le_of_lt hj)
  rcases hfs : f s with ⟨s2, o⟩
  rw [hfs] at h
  cases o with
  | none => exact h
  | some v =>
    have hv := h.item v rfl
    have hg2 := hg v (s2.at_ i) hv (StOk.at_ h.ok hx)
    exact (h.put_ hx hk hg2.1).item_ hg2.2

theorem someL_fine {may : Int → Cl → Cl × Bool} (hx : l[i]? = some x) (hk : x.k ≠ 0 ∧ x.k ≠ 9) (hj : j < i) (hf : Fine l src j f) (hg : ∀ v c, (0 ≤ v ∧ v ≤ 99) → CellIn src x c → CellIn src x (may v c).1) : ∀ n, Fine l src i (someL i may f n)
  | 0 => fun s hs => FineAt.none_ hs
  | n + 1 => fun s hs => by
    unfold someL
    have h := (hf s hs).wide (Nat.le_of_lt hj)
    rcases hfs : f s with ⟨s2, o⟩
    rw [hfs] at h
    cases o with
    | none => exact h
    | some v =>
      have hv := h.item v rfl
      have hp := h.put_ hx hk (hg v (s2.at_ i) hv (StOk.at_ h.ok hx))
      dsimp only
      split
      · exact hp
      · exact hp.next (someL_fine hx hk hj hf hg n _ hp.ok)

theorem takeP_fine (hx : l[i]? = some x) (hk : x.k = 3) (hj : j < i) (hf : Fine l src j f) : Fine l src i (takeP i x.n f) := fun s hs => by
  have hat := StOk.at_ hs hx
  have hm : mostOf x src = x.n := by simp [mostOf, hk]
  unfold takeP
  split
  · exact FineAt.none_ hs
  · rename_i hn
    have hp := FineAt.start (c := { s.at_ i with n := (s.at_ i).n + 1 }) hs hx ⟨by omega, by omega⟩ ⟨⟨by simp; omega, by simp only [hm]; have := hat.1.2; omega⟩, hat.2⟩
    exact hp.next ((hf _ hp.ok).wide (Nat.le_of_lt hj))

theorem dropL_fine (hx : l[i]? = some x) (hk : x.k = 4) (hj : j < i) (hf : Fine l src j f) : ∀ k, Fine l src i (dropL i x.n f k)
  | 0 => fun s hs => (hf s hs).wide (Nat.le_of_lt hj)
  | k + 1 => fun s hs => by
    have hat := StOk.at_ hs hx
    have hm : mostOf x src = x.n := by simp [mostOf, hk]
    unfold dropL
    split
    · rename_i hn
      have hp := FineAt.start (c := { s.at_ i with n := (s.at_ i).n + 1 }) hs hx ⟨by omega, by omega⟩ ⟨⟨by simp; omega, by simp only [hm]; omega⟩, hat.2⟩
      have h := hp.next ((hf _ hp.ok).wide (Nat.le_of_lt hj))
      rcases hfs : f (s.put i { s.at_ i with n := (s.at_ i).n + 1 }) with ⟨s2, o⟩
      rw [hfs] at h
      cases o with
      | none => exact h
      | some v => exact h.next (dropL_fine hx hk hj hf k _ h.ok)
    · exact (hf s hs).wide (Nat.le_of_lt hj)

theorem whileP_fine {n : Int} (hj : j < i) (hf : Fine l src j f) : Fine l src i (whileP n f) := fun s hs => by
  unfold whileP
  have h := (hf s hs).wide (Nat.le_of_lt hj)
  rcases hfs : f s with ⟨s2, o⟩
  rw [hfs] at h
  cases o with
  | none => exact h
  | some v =>
    dsimp only
    split
    · exact h.drop_
    · exact h

theorem batchL_fine (hj : j < i) (hf : Fine l src j f) : ∀ (k : Nat) (sum : Int) (b : Bool) (s0 s : PS) (o : Option Int), FineAt l src i s0 (s, o) → (0 ≤ sum ∧ sum ≤ 99) → (b = true → o.isSome = true) → FineAt l src i s0 (batchL f k sum b s)
  | 0, sum, b, s0, s, o, h, hm, hb => by
    unfold batchL
    cases b with
    | false => exact h.drop_
    | true =>
      cases o with
      | none => exact absurd (hb rfl) (by simp)
      | some v => exact h.item_ hm
  | k + 1, sum, b, s0, s, o, h, hm, hb => by
    unfold batchL
    have h2 := (hf s h.ok).wide (Nat.le_of_lt hj)
    have h3 := h.next h2
    rcases hfs : f s with ⟨s2, o2⟩
    rw [hfs] at h2 h3
    cases o2 with
    | none =>
      cases b with
      | false => exact h3
      | true =>
        cases o with
        | none => exact absurd (hb rfl) (by simp)
        | some v =>
          refine ⟨h2.ok, h3.far, fun u e => (by simp at e; subst e; exact hm), ?_, h3.wle⟩
          have e1 := h.mle
          have e2 := h2.mle
          simp at e1 e2 ⊢
          omega
    | some v =>
      have hv := h2.item v rfl
      exact batchL_fine hj hf k _ _ _ _ _ h3 (rst_in (by omega)) (fun _ => rfl)
theorem batchP_fine {n : Int} (hj : j < i) (hf : Fine l src j f) : Fine l src i (batchP n f) := fun s hs =>
  batchL_fine hj hf _ _ _ _ _ _ (FineAt.none_ hs) (by omega) (by simp)

theorem chainP_fine (ha : Fine l src i fa) (hb : Fine l src i fb) : Fine l src i (chainP fa fb) := fun s hs => by
  unfold chainP
  have h := ha s hs
  rcases hfs : fa s with ⟨s2, o⟩
  rw [hfs] at h
  cases o with
  | none => exact h.next (hb s2 h.ok)
  | some v => exact h
theorem zipP_fine (ha : Fine l src i fa) (hb : Fine l src i fb) : Fine l src i (zipP fa fb) := fun s hs => by
  unfold zipP
  have h := ha s hs
  rcases hfs : fa s with ⟨s2, o⟩
  rw [hfs] at h
  cases o with
  | none => exact h
  | some v =>
    have h2 := hb s2 h.ok
    have h3 := h.next h2
    dsimp only
    rcases hfs2 : fb s2 with ⟨s3, o3⟩
    rw [hfs2] at h2 h3
    cases o3 with
    | none => exact h3
    | some y =>
      have hv := h.item v rfl
      have hy := h2.item y rfl
      exact h3.item_ (rst_in (by omega))
theorem turnP_fine (hx : l[i]? = some x) (hk : x.k = 10) (ha : Fine l src i fa) (hb : Fine l src i fb) : Fine l src i (turnP i fa fb) := fun s hs => by
  have hat := StOk.at_ hs hx
  have hm : mostOf x src = 1 := by simp [mostOf, hk]
  have hp := FineAt.start (c := { s.at_ i with n := 1 - (s.at_ i).n }) hs hx ⟨by omega, by omega⟩ ⟨⟨by simp only; have := hat.1.2; omega, by simp only [hm]; omega⟩, hat.2⟩
  unfold turnP
  split
  · exact hp.next (chainP_fine hb ha _ hp.ok)
  · exact hp.next (chainP_fine ha hb _ hp.ok)
theorem fetchL_fine (hx : l[i]? = some x) (hk : x.k = 9) (hj : j < i) (ha : Fine l src j fa) (s : PS) (hs : StOk l src s.cs) : FineAt l src i s (fetchL i fa s, none) := by
  unfold fetchL
  split
  · exact FineAt.none_ hs
  · rename_i hh
    have h := ha s hs
    have hat := h.at_ hj
    have hst := StOk.at_ hs hx
    rcases hfs : fa s with ⟨s2, o⟩
    rw [hfs] at h hat
    dsimp only at hat ⊢
    rw [hat]
    have h1 := M_put (c := { s.at_ i with l := o.getD 0, hl := o.isSome }) h.ok hx
    have h2 := W_put (c := { s.at_ i with l := o.getD 0, hl := o.isSome }) h.ok hx
    dsimp only at h1 h2
    rw [hat] at h1 h2
    have e1 := h.mle
    have e2 := h.wle
    have hc : 0 ≤ o.getD 0 ∧ o.getD 0 ≤ 99 := by
      cases o with
      | none => simp
      | some v => exact h.item v rfl
    refine ⟨StOk.set_ h.ok hx ⟨hst.1, hc, hst.2.2⟩, fun k hk => (far_put k hk).trans (h.far k (by omega)), fun _ e => (by cases e), ?_, ?_⟩
    · cases o <;> simp [wAll, hk, hh] at h1 e1 ⊢ <;> omega
    · simp [wSrc, hk] at h2
      simp only [PS.put] at h2 e2 ⊢
      omega
theorem fetchR_fine (hx : l[i]? = some x) (hk : x.k = 9) (hj : j < i) (ha : Fine l src j fa) (s : PS) (hs : StOk l src s.cs) : FineAt l src i s (fetchR i fa s, none) := by
  unfold fetchR
  split
  · exact FineAt.none_ hs
  · rename_i hh
    have h := ha s hs
    have hat := h.at_ hj
    have hst := StOk.at_ hs hx
    rcases hfs : fa s with ⟨s2, o⟩
    rw [hfs] at h hat
    dsimp only at hat ⊢
    rw [hat]
    have h1 := M_put (c := { s.at_ i with r := o.getD 0, hr := o.isSome }) h.ok hx
    have h2 := W_put (c := { s.at_ i with r := o.getD 0, hr := o.isSome }) h.ok hx
    dsimp only at h1 h2
    rw [hat] at h1 h2
    have e1 := h.mle
    have e2 := h.wle
    have hc : 0 ≤ o.getD 0 ∧ o.getD 0 ≤ 99 := by
      cases o with
      | none => simp
      | some v => exact h.item v rfl
    refine ⟨StOk.set_ h.ok hx ⟨hst.1, hst.2.1, hc⟩, fun k hk => (far_put k hk).trans (h.far k (by omega)), fun _ e => (by cases e), ?_, ?_⟩
    · cases o <;> simp [wAll, hk, hh] at h1 e1 ⊢ <;> omega
    · simp [wSrc, hk] at h2
      simp only [PS.put] at h2 e2 ⊢
      omega
theorem pickP_fine (hx : l[i]? = some x) (hk : x.k = 9) (s : PS) (hs : StOk l src s.cs) : FineAt l src i s (pickP i s) := by
  have hst := StOk.at_ hs hx
  have h0 := FineAt.none_ (j := i) hs
  unfold pickP
  split
  · rename_i hh
    have h1 := M_put (c := { s.at_ i with l := 0, hl := false }) hs hx
    have h2 := W_put (c := { s.at_ i with l := 0, hl := false }) hs hx
    simp [wAll, wSrc, hk, hh.1] at h1 h2
    refine ⟨StOk.set_ hs hx ⟨hst.1, ⟨by simp, by simp⟩, hst.2.2⟩, fun k hk => far_put k hk, fun v e => (by injection e with e; subst e; exact hst.2.1), ?_, ?_⟩
    · simp; omega
    · simp only [PS.put] at h2 ⊢; omega
  · have h1 := M_put (c := { s.at_ i with r := 0, hr := false }) hs hx
    have h2 := W_put (c := { s.at_ i with r := 0, hr := false }) hs hx
    simp [wAll, wSrc, hk] at h1 h2
    by_cases hh : (s.at_ i).hr = true
    · simp [hh] at h1
      rw [if_pos hh]
      refine ⟨StOk.set_ hs hx ⟨hst.1, hst.2.1, ⟨by simp, by simp⟩⟩, fun k hk => far_put k hk, fun v e => (by injection e with e; subst e; exact hst.2.2), ?_, ?_⟩
      · simp; omega
      · simp only [PS.put] at h2 ⊢; omega
    · simp [hh] at h1
      rw [if_neg hh]
      refine ⟨StOk.set_ hs hx ⟨hst.1, hst.2.1, ⟨by simp, by simp⟩⟩, fun k hk => far_put k hk, fun v e => (by cases e), ?_, ?_⟩
      · simp; omega
      · simp only [PS.put] at h2 ⊢; omega
theorem mergeP_fine (hx : l[i]? = some x) (hk : x.k = 9) {j2 : Nat} (hj : j < i) (hj2 : j2 < i) (ha : Fine l src j fa) (hb : Fine l src j2 fb) : Fine l src i (mergeP i fa fb) := fun s hs => by
  have h1 := fetchL_fine hx hk hj ha s hs
  have h2 := h1.next (fetchR_fine hx hk hj2 hb _ h1.ok)
  exact h2.next (pickP_fine hx hk _ h2.ok)

theorem stemP_fine {fu : PS → Nat} (hx : l[i]? = some x) (ha : arity x.k = 1) (hn : numsOk x = true) (hj : j < i) (hf : Fine l src j f) : Fine l src i (stemP fu i x f) := by
  have hk := arity_one ha
  unfold stemP
  split
  · rename_i e
    simp [numsOk, e, inR] at hn
    refine chgP_fine hx ⟨by omega, by omega⟩ hj hf fun v c hv hc => ⟨hc, rst_in ?_⟩
    exact Int.add_nonneg (Int.mul_nonneg (by omega) hv.1) (by omega)
  split
  · exact fun s hs => someL_fine hx ⟨by omega, by omega⟩ hj hf (fun v c _ hc => hc) _ s hs
  split
  · rename_i e; exact takeP_fine hx e hj hf
  split
  · rename_i e; exact fun s hs => dropL_fine hx e hj hf _ s hs
  split
  · exact whileP_fine hj hf
  split
  · rename_i e
    refine fun s hs => someL_fine hx ⟨by omega, by omega⟩ hj hf (fun v c _ hc => ?_) _ s hs
    unfold mayS
    split
    · exact ⟨⟨by simp, by simp [mostOf, e]⟩, hc.2⟩
    · exact hc
  split
  · rename_i e
    refine chgP_fine hx ⟨by omega, by omega⟩ hj hf fun v c hv hc => ?_
    have := rst_in (x := c.n + v) (by have := hc.1.1; omega)
    exact ⟨⟨⟨this.1, by simp only [scanG, mostOf, e]; exact this.2⟩, hc.2⟩, this⟩
  split
  · exact batchP_fine hj hf
  · exact fun s hs => someL_fine hx ⟨by omega, by omega⟩ hj hf (fun v c hv hc => ⟨hc.1, hv, hc.2.2⟩) _ s hs
theorem forkP_fine (hx : l[i]? = some x) (ha : arity x.k = 2) {j2 : Nat} (hj : j < i) (hj2 : j2 < i) (hfa : Fine l src j fa) (hfb : Fine l src j2 fb) : Fine l src i (forkP i x fa fb) := by
  have hk := arity_two ha
  have wa : Fine l src i fa := fun s hs => (hfa s hs).wide (Nat.le_of_lt hj)
  have wb : Fine l src i fb := fun s hs => (hfb s hs).wide (Nat.le_of_lt hj2)
  unfold forkP
  split
  · exact chainP_fine wa wb
  split
  · exact zipP_fine wa wb
  split
  · rename_i e; exact mergeP_fine hx e hj hj2 hfa hfb
  · exact turnP_fine hx (by omega) wa wb

theorem pull_fine (hp : PipeOk l) (hs : srcOk src = true) {fu : PS → Nat} {t : TI} (ht : IsTI l t) : Fine l src t.ix (pull src fu t) := by
  have ok : ∀ (i : Nat) (x : Nd), l[i]? = some x → numsOk x = true := fun i x hx => by
    have h1 := hp.node i x hx
    simp only [nodeOk, Bool.and_eq_true] at h1
    exact h1.1
  induction ht with
  | leaf hx ha h1 h2 => exact leaf_fine hs hx (arity_zero ha)
  | stem hx ha h1 hj h2 ht ih => exact doneP_fine hx (fun e => by rw [e] at ha; simp [arity] at ha) (stemP_fine hx ha (ok _ _ hx) hj ih)
  | fork hx ha h1 hj h2 hj2 hta htb iha ihb => exact doneP_fine hx (fun e => by rw [e] at ha; simp [arity] at ha) (forkP_fine hx ha hj hj2 iha ihb)
end

end Go.Proofs.Ythfniffecceldaa

/- A range over a function, with no word on what the iterator may write: the iterator's run and the rounds are told together. -/
namespace Go.Proofs.Ythfniffecceldaa
open Go.RowKit

/-- How the body of a round may be left. -/
def freePost (l D : Nat) (Rdy : World → Prop) (Dn : Code → World → Prop) (R : Ending → World → Prop) (Wb : World) : Exit → Act → World → Prop
  | .normal, _, W' => W'.heap[l]? = Wb.heap[l]? ∧ W'.heap[D]? = Wb.heap[D]? ∧ ∀ o : Obj, o.isCells = false → Rdy (W'.putObj l o) → R (.returned (.bool true)) (W'.putObj l o)
  | .ret, _, W' => W'.heap[l]? = Wb.heap[l]? ∧ W'.heap[D]? = Wb.heap[D]? ∧ ∀ o : Obj, o.isCells = false → Dn .ret (W'.putObj l o) → R (.returned (.bool false)) (W'.putObj l o)
  | .exit id, _, W' => W'.heap[l]? = Wb.heap[l]? ∧ W'.heap[D]? = Wb.heap[D]? ∧ ∀ o : Obj, o.isCells = false → Dn (.exit id) (W'.putObj l o) → R (.returned (.bool false)) (W'.putObj l o)
  | .goto t, _, W' => W'.heap[l]? = Wb.heap[l]? ∧ W'.heap[D]? = Wb.heap[D]? ∧ ∀ o : Obj, o.isCells = false → Dn (.goto t) (W'.putObj l o) → R (.returned (.bool false)) (W'.putObj l o)
  | .panic _, _, _ => False
  | .outgrown, _, _ => False

/-- How the iterator may end. -/
def freeEnd (F : Fence) (n : Nat) (P : Program) (l D : Nat) (Q : Exit → Act → World → Prop) (a : Act) (Rdy : World → Prop) (Dn : Code → World → Prop) (e : Ending) (W' : World) : Prop :=
  (∃ v, e = .returned v) ∧
    ((Rdy W' ∧ ∀ o : Obj, o.isCells = false → (W'.putObj l o).heap[D]? = some (.deferred (some [])) → Q .normal { a with defers := { target := .collected D, args := #[] } :: a.defers } (W'.putObj l o)) ∨
     (∃ c, Dn c W' ∧ ∀ o : Obj, o.isCells = false → (W'.putObj l o).heap[D]? = some (.deferred (some [])) → c.wpIn F n P Q { a with defers := { target := .collected D, args := #[] } :: a.defers } (W'.putObj l o)))

theorem wpIn_rangeFunc_free {α : Type} {F : Fence} {n : Nat} {P : Program} {g : Operand} {ps : Array Tmp} {assign body : Code} {Q : Exit → Act → World → Prop} {a : Act} {w : World}
    (hro : F.round = none) (h1 : 1 ≤ n) {gf : Nat} {lb : Array Value} (hg : a.eval g = .func (.func gf) #[] lb) (hFg : F.fn gf) (eg : ∀ args w, (callFunc gf args).run P w = .ok (.enter gf args) w)
    {encs : α → Array Value} (hps : ∀ x, (encs x).size = ps.size) (a₁ : α → Act)
    (hassign : ∀ (l : Nat) (x : α) (W : World) (K : Act → World → Prop), K (a₁ x) W →
      assign.wpIn (F.inRound l) (n - 1 - 1) P (Exit.then K (fun _ _ _ => False)) { tmps := (ps.zip (encs x)).foldl (fun t (p, v) => t.setIfInBounds p v) a.tmps, defers := [] } W)
    (hiter : ∀ (l D : Nat) (W1 : World) (Rdy : World → Prop) (Dn : Code → World → Prop),
      D = w.heap.size → l = w.heap.size + 1 → W1.heap.size = w.heap.size + 2 → Below w.heap.size w W1 → Rdy W1 →
      (∀ W, Rdy W → (∃ o : Obj, W.heap[l]? = some o ∧ o.isCells = false) ∧ W.heap[D]? = some (.deferred (some []))) →
      (∀ W W', Rdy W → W'.heap[l]? = W.heap[l]? → W'.heap[D]? = W.heap[D]? → Rdy W') →
      (∀ c W W', Dn c W → W'.heap[l]? = W.heap[l]? → W'.heap[D]? = W.heap[D]? → Dn c W') →
      (∀ (x : α) (W : World) (R : Ending → World → Prop), Rdy W →
        (∀ o : Obj, o.isCells = false → (W.putObj l o).heap[l]? = some o → (W.putObj l o).heap[D]? = some (.deferred (some [])) → body.wpIn (F.inRound l) (n - 1 - 1) P (freePost l D Rdy Dn R (W.putObj l o)) (a₁ x) (W.putObj l o)) →
        YieldAt F (n - 1 - 1) P l (encs x) W R) →
      CallsIn F (n - 1) P gf (#[.func (.yield l) #[] #[]] ++ lb) W1 (freeEnd F n P l D Q a Rdy Dn)) :
    (Code.rangeFunc g ps assign body).wpIn F n P Q a w := by
  refine wpIn_rangeFunc ?_
  intro fn hfn
  rw [hro]
  obtain ⟨rec, hrec⟩ : ∃ rec : LoopState → Option Code → Loop, rec = fun st pe => { state := st, pending := pe, fn, tmps := a.tmps, params := ps, assign, body, defers := w.heap.size } := ⟨_, rfl⟩
  obtain ⟨W1, hW1⟩ : ∃ W1, (w.alloc (.deferred (some []))).alloc (.loop (rec .ready none)) = W1 := ⟨_, rfl⟩
  have hL1 : W1.heap[w.heap.size + 1]? = some (.loop (rec .ready none)) := by
    rw [← hW1]; have := World.alloc_heap_new (w.alloc (.deferred (some []))) (.loop (rec .ready none)); rwa [World.size_alloc] at this
  have hK1 : W1.heap[w.heap.size]? = some (.deferred (some [])) := by
    rw [← hW1]; exact (Below.heap_alloc _ _ _ (by simp)).trans (World.alloc_heap_new w _)
  have hb1 : Below w.heap.size w W1 := by
    rw [← hW1]; exact ((Below.refl _ w).alloc (Nat.le_refl _) _).alloc (by simp) _
  refine ⟨w.heap.size + 1, [{ target := .collected w.heap.size, args := #[] }], W1, { target := .fn (.func gf) lb, args := #[.func (.yield (w.heap.size + 1)) #[] #[]] }, W1, gf,
    #[.func (.yield (w.heap.size + 1)) #[] #[]] ++ lb, W1, ?_, ?_, ?_, ?_, fun _ => h1, ?_⟩
  · rw [← hW1, hrec]; exact run_enterLoop_outer _ _ _ _ _
  · simp only [resolve, hg]
    simp [go_sem]
  · intro f' hf'; simp [Target.leads] at hf'; subst hf'; exact hFg
  · simp [invoke, go_sem, eg]
  · refine (hiter (w.heap.size + 1) w.heap.size W1
      (fun W => W.heap[w.heap.size + 1]? = some (.loop (rec .ready none)) ∧ W.heap[w.heap.size]? = some (.deferred (some [])))
      (fun c W => W.heap[w.heap.size + 1]? = some (.loop (rec .done (some c))) ∧ W.heap[w.heap.size]? = some (.deferred (some [])))
      rfl rfl (by rw [← hW1]; simp) hb1 ⟨hL1, hK1⟩
      (fun W h => ⟨⟨_, h.1, rfl⟩, h.2⟩)
      (fun W W' h e1 e2 => ⟨e1.trans h.1, e2.trans h.2⟩)
      (fun c W W' h e1 e2 => ⟨e1.trans h.1, e2.trans h.2⟩)
      ?_).mono ?_
    · -- ONE ROUND
      rintro x W R ⟨hl, hk⟩ hbody
      have hlt : w.heap.size + 1 < W.heap.size := (Array.getElem?_eq_some_iff.1 hl).1
      have hy := run_yield (P := P) (args := encs x) hl (by rw [hrec]; exact hps x)
      rw [hrec] at hy
      refine ⟨fn, _, assign, body, hy, roundIn_of_wpIn hfn (hassign _ x W _ ⟨_, run_beginRound hl (by rw [hrec]), ?_⟩)⟩
      have hl2 : (W.putObj (w.heap.size + 1) (.loop { rec .ready none with state := .busy })).heap[w.heap.size + 1]? = some (.loop { rec .ready none with state := .busy }) := World.putObj_heap_same hlt
      have hk2 : (W.putObj (w.heap.size + 1) (.loop { rec .ready none with state := .busy })).heap[w.heap.size]? = some (.deferred (some [])) := (World.putObj_heap_other (by omega)).trans hk
      refine wpIn_mono (hbody _ rfl hl2 hk2) ?_
      have fin : ∀ (jump : Option Code) (W3 : World), W3.heap[w.heap.size + 1]? = (W.putObj (w.heap.size + 1) (.loop { rec .ready none with state := .busy })).heap[w.heap.size + 1]? →
          W3.heap[w.heap.size]? = (W.putObj (w.heap.size + 1) (.loop { rec .ready none with state := .busy })).heap[w.heap.size]? →
          (Instr.endRound (w.heap.size + 1) jump).run P W3 = .ok (.bool jump.isNone) (W3.putObj (w.heap.size + 1) (.loop (rec (if jump.isNone then .ready else .done) jump))) ∧
          (W3.putObj (w.heap.size + 1) (.loop (rec (if jump.isNone then .ready else .done) jump))).heap[w.heap.size + 1]? = some (.loop (rec (if jump.isNone then .ready else .done) jump)) ∧
          (W3.putObj (w.heap.size + 1) (.loop (rec (if jump.isNone then .ready else .done) jump))).heap[w.heap.size]? = some (.deferred (some [])) := fun jump W3 h3 h4 => by
        have hl3 := h3.trans hl2
        have := run_endRound (P := P) jump hl3
        rw [hrec] at this ⊢
        exact ⟨this, World.putObj_heap_same (Array.getElem?_eq_some_iff.1 hl3).1, (World.putObj_heap_other (by omega)).trans (h4.trans hk2)⟩
      rintro e a3 W3 hp
      cases e with
      | normal =>
        obtain ⟨h3, h4, hr3⟩ := hp
        obtain ⟨hr, hl4, hk4⟩ := fin none W3 h3 h4
        exact ⟨_, _, hr, hr3 _ rfl ⟨hl4, hk4⟩⟩
      | ret =>
        obtain ⟨h3, h4, hr3⟩ := hp
        obtain ⟨hr, hl4, hk4⟩ := fin (some .ret) W3 h3 h4
        exact ⟨_, _, hr, hr3 _ rfl ⟨hl4, hk4⟩⟩
      | exit id =>
        obtain ⟨h3, h4, hr3⟩ := hp
        obtain ⟨hr, hl4, hk4⟩ := fin (some (.exit id)) W3 h3 h4
        exact ⟨_, _, hr, hr3 _ rfl ⟨hl4, hk4⟩⟩
      | goto t =>
        obtain ⟨h3, h4, hr3⟩ := hp
        obtain ⟨hr, hl4, hk4⟩ := fin (some (.goto t)) W3 h3 h4
        exact ⟨_, _, hr, hr3 _ rfl ⟨hl4, hk4⟩⟩
      | panic ch => exact hp.elim
      | outgrown => exact hp.elim
    · -- BEHIND THE ITERATOR
      rintro e W2 ⟨⟨v, rfl⟩, (⟨⟨hl, hk⟩, hQ⟩ | ⟨c, ⟨hl, hk⟩, hQ⟩)⟩
      · have hend := run_endLoop (P := P) hl (by rw [hrec]; simp)
        refine ⟨none, _, by rw [hrec] at hend; exact hend, hQ _ rfl ?_⟩
        exact (World.putObj_heap_other (by omega)).trans hk
      · have hend := run_endLoop (P := P) hl (by rw [hrec]; simp)
        refine ⟨some c, _, by rw [hrec] at hend; exact hend, hQ _ rfl ?_⟩
        exact (World.putObj_heap_other (by omega)).trans hk

end Go.Proofs.Ythfniffecceldaa

/- The world in which a pipe is pulled: the cells of its nodes, the pulls so far, and what a pull may write. -/
namespace Go.Proofs.Ythfniffecceldaa
open Go.RowKit


/-- The cells of pulls. -/
def pls : List Pl → List Value
  | [] => []
  | p :: l => .int .i64 p.s :: .int .i64 p.i :: pls l
theorem pls_len : ∀ l : List Pl, (pls l).length = l.length * 2
  | [] => rfl
  | _ :: l => by simp only [pls, List.length_cons, pls_len l]; omega
theorem pls_app : ∀ a b : List Pl, pls (a ++ b) = pls a ++ pls b
  | [], _ => rfl
  | _ :: a, b => by simp only [List.cons_append, pls, pls_app a b]
theorem pls_at : ∀ {l : List Pl} {k : Nat} {p : Pl}, l[k]? = some p → (pls l)[k * 2]? = some (.int .i64 p.s) ∧ (pls l)[k * 2 + 1]? = some (.int .i64 p.i)
  | [], k, _, h => by simp at h
  | q :: l, 0, p, h => by simp at h; subst h; simp [pls]
  | q :: l, k + 1, p, h => by
    simp at h
    have := pls_at h
    simp only [pls, show (k + 1) * 2 = k * 2 + 1 + 1 by omega, List.getElem?_cons_succ]
    exact this

/-- The slice at R holds the pulls in memory from block base on. -/
def OwnG (w : World) (base : Nat) (R : Option Addr) (c : Nat) (l : List Pl) : Prop := w.ownsRow base 90 2 (.slice R l.length c) l.length (pls l)
/-- A block of pulls. -/
def IsPl (w : World) (b : Nat) : Prop := ∃ cs fr, w.heap[b]? = some (.cells cs 90 fr)

section
variable {w w' : World} {base c : Nat} {R : Option Addr} {l : List Pl}
theorem OwnG.row (h : OwnG w base R c l) : ∀ g, rowOf R = some g → base ≤ g ∧ g < w.heap.size ∧ IsPl w g := fun g hg => by
  obtain ⟨_, ⟨hv, _⟩ | ⟨g', cap, cur, hv, hb, hh, _⟩⟩ := h
  · injection hv with hA; subst hA; cases hg
  · injection hv with hA
    subst hA
    have : g' = g := Option.some.inj hg
    subst this
    exact ⟨hb, lt_of_block hh, _, _, hh⟩
theorem OwnG.kept {row : Option Nat} (h : OwnG w base R c l) (hg : w.grownBy w' row) (hne : rowOf R = none ∨ rowOf R ≠ row) : OwnG w' base R c l :=
  World.ownsRow.kept h hg (by rw [ownBlock_slice]; exact hne)
theorem OwnG.nil_ (w : World) (base : Nat) : OwnG w base none 0 [] := World.ownsRow_nil w base _ 2
theorem OwnG.keep (h : OwnG w base R c l) (hk : ∀ g, g < w.heap.size → IsPl w g → w'.heap[g]? = w.heap[g]?) : OwnG w' base R c l := by
  obtain ⟨h1, h2 | ⟨g, cap, cur, hv, hb, hh, r⟩⟩ := h
  · exact ⟨h1, .inl h2⟩
  · exact ⟨h1, .inr ⟨g, cap, cur, hv, hb, (hk g (lt_of_block hh) ⟨_, _, hh⟩).trans hh, r⟩⟩
end

/-- What a pull may write: the block of the run, the block of the cells, blocks of pulls from n0 on. -/
structure Fr (n0 pb cb : Nat) (w w' : World) : Prop where
  os : w'.os = w.os
  tape : w'.tape = w.tape
  output : w'.output = w.output
  size : w.heap.size ≤ w'.heap.size
  block : ∀ b, b < w.heap.size → b ≠ pb → b ≠ cb → (b < n0 ∨ ¬ IsPl w b) → w'.heap[b]? = w.heap[b]?

section
variable {n0 pb cb : Nat} {w w' v : World}
theorem Fr.refl (n0 pb cb : Nat) (w : World) : Fr n0 pb cb w w := ⟨rfl, rfl, rfl, Nat.le_refl _, fun _ _ _ _ _ => rfl⟩
theorem Fr.trans (h : Fr n0 pb cb w w') (k : Fr n0 pb cb w' v) : Fr n0 pb cb w v :=
  ⟨k.os.trans h.os, k.tape.trans h.tape, k.output.trans h.output, Nat.le_trans h.size k.size, fun b hb h1 h2 h3 => by
    have e := h.block b hb h1 h2 h3
    refine (k.block b (Nat.lt_of_lt_of_le hb h.size) h1 h2 (h3.imp id fun hn ⟨cs, fr, hc⟩ => hn ⟨cs, fr, e.symm.trans hc⟩)).trans e⟩
theorem Fr.below (h : Fr n0 pb cb w w') (h1 : n0 ≤ pb) (h2 : n0 ≤ cb) (hz : n0 ≤ w.heap.size) : Below n0 w w' :=
  ⟨h.os, h.tape, h.output, h.size, fun b hb => h.block b (by omega) (by omega) (by omega) (.inl hb)⟩
theorem Fr.of_below (h : Below w.heap.size w w') : Fr n0 pb cb w w' := ⟨h.os, h.tape, h.output, h.size, fun b hb _ _ _ => h.block b hb⟩
theorem Fr.alloc (h : Fr n0 pb cb w w') (o : Obj) : Fr n0 pb cb w (w'.alloc o) := h.trans (.of_below ((Below.refl _ _).alloc (Nat.le_refl _) o))
theorem Fr.drew (h : Fr n0 pb cb w w') : Fr n0 pb cb w w'.drew := h.trans (.of_below (Below.refl _ _).drew)
theorem Fr.setc (h : Fr n0 pb cb w w') (k : Nat) (u : Value) : Fr n0 pb cb w (w'.setCell ⟨cb, k, none⟩ u) :=
  h.trans ⟨rfl, rfl, rfl, by simp [World.setCell], fun b _ _ h2 _ => Below.heap_setCell _ _ _ _ h2⟩
theorem Fr.setp (h : Fr n0 pb cb w w') (k : Nat) (u : Value) : Fr n0 pb cb w (w'.setCell ⟨pb, k, none⟩ u) :=
  h.trans ⟨rfl, rfl, rfl, by simp [World.setCell], fun b _ h2 _ _ => Below.heap_setCell _ _ _ _ h2⟩
theorem Fr.grown {row : Option Nat} (h : Fr n0 pb cb w w') (hg : w'.grownBy v row) (hr : ∀ g, row = some g → n0 ≤ g ∧ IsPl w' g) : Fr n0 pb cb w v :=
  h.trans ⟨hg.os, hg.tape, hg.output, hg.size, fun b hb _ _ h3 => hg.block b hb (fun e => by
    obtain ⟨h4, h5⟩ := hr b e.symm
    exact h3.elim (fun h => by omega) (fun h => h h5))⟩
theorem IsPl.not {g : Nat} {t : TypeId} {cs : List Value} (h : Bk w g t cs) (ht : t ≠ 90) : ¬ IsPl w g := fun ⟨_, _, hc⟩ => by
  unfold Bk at h
  rw [h] at hc
  simp at hc
  exact ht hc.2.1
theorem Fr.bk (h : Fr n0 pb cb w w') {g : Nat} {t : TypeId} {cs : List Value} (hb : Bk w g t cs) (ht : t ≠ 90) (h1 : g ≠ pb) (h2 : g ≠ cb) : Bk w' g t cs :=
  (h.block g hb.lt h1 h2 (.inr (IsPl.not hb ht))).trans hb
theorem Bk.ne {g g' : Nat} {t t' : TypeId} {cs cs' : List Value} (h : Bk w g t cs) (h' : Bk w g' t' cs') (ht : t ≠ t') : g ≠ g' := fun e => by subst e; exact ht (h.type_ h')
end

/-- The cells and the pulls of a run in memory: the block of the run has hd, the slice of pulls, and tl. -/
structure RS (n0 pb cb : Nat) (T : TypeId) (hd tl : List Value) (s : PS) (W : World) : Prop where
  tp : T ≠ 90
  tc : T ≠ 66
  lop : n0 ≤ pb
  loc : n0 ≤ cb
  cells : ∃ cs, Bk W cb 66 cs ∧ ∀ (k : Nat) (x : Cl), s.cs[k]? = some x → ClIn cs (k * 6) x
  box : ∃ R cR, Bk W pb T (hd ++ .slice R s.lg.length cR :: tl) ∧ OwnG W n0 R cR s.lg

section
variable {n0 pb cb : Nat} {T : TypeId} {hd tl : List Value} {s : PS} {w w' : World}
theorem RS.ltc (h : RS n0 pb cb T hd tl s w) : cb < w.heap.size := by obtain ⟨cs, hb, _⟩ := h.cells; exact hb.lt
theorem RS.ltp (h : RS n0 pb cb T hd tl s w) : pb < w.heap.size := by obtain ⟨R, cR, hb, _⟩ := h.box; exact hb.lt
theorem RS.ne (h : RS n0 pb cb T hd tl s w) : pb ≠ cb := by
  obtain ⟨R, cR, hb, _⟩ := h.box
  obtain ⟨cs, hc, _⟩ := h.cells
  exact hb.ne hc h.tc
theorem RS.keep (h : RS n0 pb cb T hd tl s w) (hk : ∀ b, b < w.heap.size → w'.heap[b]? = w.heap[b]?) : RS n0 pb cb T hd tl s w' := by
  obtain ⟨cs, hc, hcs⟩ := h.cells
  obtain ⟨R, cR, hb, ho⟩ := h.box
  exact ⟨h.tp, h.tc, h.lop, h.loc, ⟨cs, (hk _ hc.lt).trans hc, hcs⟩, ⟨R, cR, (hk _ hb.lt).trans hb, ho.keep fun g hg _ => hk g hg⟩⟩
theorem RS.below (h : RS n0 pb cb T hd tl s w) (hb : Below w.heap.size w w') : RS n0 pb cb T hd tl s w' := h.keep hb.block
theorem RS.alloc (h : RS n0 pb cb T hd tl s w) (o : Obj) : RS n0 pb cb T hd tl s (w.alloc o) := h.below ((Below.refl _ _).alloc (Nat.le_refl _) o)
theorem RS.drew (h : RS n0 pb cb T hd tl s w) : RS n0 pb cb T hd tl s w.drew := h.below (Below.refl _ _).drew
/-- A store into a block of another kind. -/
theorem RS.far (h : RS n0 pb cb T hd tl s w) {g : Nat} (k : Nat) (u : Value) (h1 : g ≠ pb) (h2 : g ≠ cb) (h3 : ¬ IsPl w g) : RS n0 pb cb T hd tl s (w.setCell ⟨g, k, none⟩ u) := by
  obtain ⟨cs, hc, hcs⟩ := h.cells
  obtain ⟨R, cR, hb, ho⟩ := h.box
  have e : ∀ b, b ≠ g → (w.setCell ⟨g, k, none⟩ u).heap[b]? = w.heap[b]? := fun b hb => Below.heap_setCell _ _ _ _ hb
  exact ⟨h.tp, h.tc, h.lop, h.loc, ⟨cs, (e _ (Ne.symm h2)).trans hc, hcs⟩, ⟨R, cR, (e _ (Ne.symm h1)).trans hb, ho.keep fun b _ hp => e b (fun q => h3 (q ▸ hp))⟩⟩
theorem RS.put_obj (h : RS n0 pb cb T hd tl s w) {g : Nat} (o : Obj) (hg : ∃ q : Obj, w.heap[g]? = some q ∧ q.isCells = false) : RS n0 pb cb T hd tl s (w.putObj g o) := by
  obtain ⟨cs, hc, hcs⟩ := h.cells
  obtain ⟨R, cR, hb, ho⟩ := h.box
  obtain ⟨q, hq, hqc⟩ := hg
  have e : ∀ b, b ≠ g → (w.putObj g o).heap[b]? = w.heap[b]? := fun b hb => World.putObj_heap_other hb
  have n1 : ∀ {b : Nat} {t : TypeId} {cs : List Value}, Bk w b t cs → b ≠ g := fun hb e => by subst e; unfold Bk at hb; rw [hb] at hq; cases hq; cases hqc
  exact ⟨h.tp, h.tc, h.lop, h.loc, ⟨cs, (e _ (n1 hc)).trans hc, hcs⟩, ⟨R, cR, (e _ (n1 hb)).trans hb, ho.keep fun b _ ⟨ds, fr, hp⟩ => e b (fun q' => by subst q'; rw [hp] at hq; cases hq; cases hqc)⟩⟩
theorem RS.cl (h : RS n0 pb cb T hd tl s w) {i : Nat} (hi : i < s.cs.length) : ClAt w cb (i * 6) (s.at_ i) := by
  obtain ⟨cs, hc, hcs⟩ := h.cells
  exact (hcs i _ (PS.get hi)).at_ hc
theorem RS.free (h : RS n0 pb cb T hd tl s w) (k : Nat) : w.frozen? ⟨cb, k, none⟩ = false := by
  obtain ⟨cs, hc, hcs⟩ := h.cells
  exact hc.free k
theorem RS.freep (h : RS n0 pb cb T hd tl s w) (k : Nat) : w.frozen? ⟨pb, k, none⟩ = false := by
  obtain ⟨R, cR, hb, _⟩ := h.box
  exact hb.free k
theorem RS.set_ (h : RS n0 pb cb T hd tl s w) {i : Nat} (hi : i < s.cs.length) (j : Nat) (u : Value) (c' : Cl)
    (hj : ∀ cs : List Value, i * 6 + 5 < cs.length → ClIn cs (i * 6) (s.at_ i) → ClIn (cs.set (i * 6 + j) u) (i * 6) c') (hj2 : j < 6) : RS n0 pb cb T hd tl (s.put i c') (w.setCell ⟨cb, i * 6 + j, none⟩ u) := by
  obtain ⟨cs, hc, hcs⟩ := h.cells
  obtain ⟨R, cR, hb, ho⟩ := h.box
  have hne := h.ne
  have e : ∀ b, b ≠ cb → (w.setCell ⟨cb, i * 6 + j, none⟩ u).heap[b]? = w.heap[b]? := fun b hb => Below.heap_setCell _ _ _ _ hb
  have hin := hcs i _ (PS.get hi)
  have hlen := (List.getElem?_eq_some_iff.1 hin.c5).1
  refine ⟨h.tp, h.tc, h.lop, h.loc, ⟨_, hc.set_ (i * 6 + j) u, fun k x hx => ?_⟩, ⟨R, cR, (e _ hne).trans hb, ho.keep fun b _ hp => e b (fun q => IsPl.not hc (by decide) (q ▸ hp))⟩⟩
  by_cases hk : i = k
  · subst hk
    have : x = c' := by
      simp only [PS.put, List.getElem?_set_self hi] at hx
      exact (Option.some.inj hx).symm
    subst this
    exact hj cs hlen hin
  · simp only [PS.put, List.getElem?_set_ne hk] at hx
    exact (hcs k x hx).set_far (by omega)
theorem RS.setN (h : RS n0 pb cb T hd tl s w) {i : Nat} (hi : i < s.cs.length) (u : Int) : RS n0 pb cb T hd tl (s.put i { s.at_ i with n := u }) (w.setCell ⟨cb, i * 6, none⟩ (.int .i64 u)) :=
  h.set_ hi 0 _ _ (fun cs hl hc => ⟨by simp [List.getElem?_set]; omega, by rw [List.getElem?_set_ne (by omega)]; exact hc.c1, by rw [List.getElem?_set_ne (by omega)]; exact hc.c2, by rw [List.getElem?_set_ne (by omega)]; exact hc.c3, by rw [List.getElem?_set_ne (by omega)]; exact hc.c4, by rw [List.getElem?_set_ne (by omega)]; exact hc.c5⟩) (by omega)
theorem RS.setL (h : RS n0 pb cb T hd tl s w) {i : Nat} (hi : i < s.cs.length) (u : Int) : RS n0 pb cb T hd tl (s.put i { s.at_ i with l := u }) (w.setCell ⟨cb, i * 6 + 1, none⟩ (.int .i64 u)) :=
  h.set_ hi 1 _ _ (fun cs hl hc => ⟨by rw [List.getElem?_set_ne (by omega)]; exact hc.c0, by simp [List.getElem?_set]; omega, by rw [List.getElem?_set_ne (by omega)]; exact hc.c2, by rw [List.getElem?_set_ne (by omega)]; exact hc.c3, by rw [List.getElem?_set_ne (by omega)]; exact hc.c4, by rw [List.getElem?_set_ne (by omega)]; exact hc.c5⟩) (by omega)
theorem RS.setR (h : RS n0 pb cb T hd tl s w) {i : Nat} (hi : i < s.cs.length) (u : Int) : RS n0 pb cb T hd tl (s.put i { s.at_ i with r := u }) (w.setCell ⟨cb, i * 6 + 2, none⟩ (.int .i64 u)) :=
  h.set_ hi 2 _ _ (fun cs hl hc => ⟨by rw [List.getElem?_set_ne (by omega)]; exact hc.c0, by rw [List.getElem?_set_ne (by omega)]; exact hc.c1, by simp [List.getElem?_set]; omega, by rw [List.getElem?_set_ne (by omega)]; exact hc.c3, by rw [List.getElem?_set_ne (by omega)]; exact hc.c4, by rw [List.getElem?_set_ne (by omega)]; exact hc.c5⟩) (by omega)
theorem RS.setHL (h : RS n0 pb cb T hd tl s w) {i : Nat} (hi : i < s.cs.length) (u : Bool) : RS n0 pb cb T hd tl (s.put i { s.at_ i with hl := u }) (w.setCell ⟨cb, i * 6 + 3, none⟩ (.bool u)) :=
  h.set_ hi 3 _ _ (fun cs hl hc => ⟨by rw [List.getElem?_set_ne (by omega)]; exact hc.c0, by rw [List.getElem?_set_ne (by omega)]; exact hc.c1, by rw [List.getElem?_set_ne (by omega)]; exact hc.c2, by simp [List.getElem?_set]; omega, by rw [List.getElem?_set_ne (by omega)]; exact hc.c4, by rw [List.getElem?_set_ne (by omega)]; exact hc.c5⟩) (by omega)
theorem RS.setHR (h : RS n0 pb cb T hd tl s w) {i : Nat} (hi : i < s.cs.length) (u : Bool) : RS n0 pb cb T hd tl (s.put i { s.at_ i with hr := u }) (w.setCell ⟨cb, i * 6 + 4, none⟩ (.bool u)) :=
  h.set_ hi 4 _ _ (fun cs hl hc => ⟨by rw [List.getElem?_set_ne (by omega)]; exact hc.c0, by rw [List.getElem?_set_ne (by omega)]; exact hc.c1, by rw [List.getElem?_set_ne (by omega)]; exact hc.c2, by rw [List.getElem?_set_ne (by omega)]; exact hc.c3, by simp [List.getElem?_set]; omega, by rw [List.getElem?_set_ne (by omega)]; exact hc.c5⟩) (by omega)
theorem RS.setD (h : RS n0 pb cb T hd tl s w) {i : Nat} (hi : i < s.cs.length) (u : Bool) : RS n0 pb cb T hd tl (s.put i { s.at_ i with d := u }) (w.setCell ⟨cb, i * 6 + 5, none⟩ (.bool u)) :=
  h.set_ hi 5 _ _ (fun cs hl hc => ⟨by rw [List.getElem?_set_ne (by omega)]; exact hc.c0, by rw [List.getElem?_set_ne (by omega)]; exact hc.c1, by rw [List.getElem?_set_ne (by omega)]; exact hc.c2, by rw [List.getElem?_set_ne (by omega)]; exact hc.c3, by rw [List.getElem?_set_ne (by omega)]; exact hc.c4, by simp [List.getElem?_set]; omega⟩) (by omega)

/-- What is left by an append of a pull, with the slice stored in the block of the run. -/
theorem RS.said (h : RS n0 pb cb T hd tl s w) {R : Option Addr} {cR : Nat} (hb : Bk w pb T (hd ++ .slice R s.lg.length cR :: tl)) (ho : OwnG w n0 R cR s.lg) {o : Obj} {R' : Option Addr} {c' : Nat} {p : Pl} {w1 : World} (ho1 : OwnG w1 n0 R' c' (s.lg ++ [p])) (hg : (w.alloc o).grownBy w1 (rowOf R)) :
    RS n0 pb cb T hd tl (s.say p) (w1.setCell ⟨pb, hd.length, none⟩ (.slice R' (s.lg.length + 1) c')) ∧ Fr n0 pb cb w (w1.setCell ⟨pb, hd.length, none⟩ (.slice R' (s.lg.length + 1) c')) ∧
      w1.cell? ⟨pb, hd.length, none⟩ = some (.slice R s.lg.length cR) ∧ w1.frozen? ⟨pb, hd.length, none⟩ = false := by
  obtain ⟨cs, hc, hcs⟩ := h.cells
  have hne := h.ne
  have hrow := ho.row
  have hgr := hg.block
  have hz : (w.alloc o).heap.size = w.heap.size + 1 := by simp
  have hk : ∀ b, b < w.heap.size → some b ≠ rowOf R → w1.heap[b]? = w.heap[b]? := fun b hb hn => (hgr b (by omega) hn).trans (Below.heap_alloc _ _ _ hb)
  have hpr : some pb ≠ rowOf R := fun e => IsPl.not hb h.tp (hrow pb e.symm).2.2
  have hcr : some cb ≠ rowOf R := fun e => IsPl.not hc (by decide) (hrow cb e.symm).2.2
  have hb1 : Bk w1 pb T (hd ++ .slice R s.lg.length cR :: tl) := (hk _ hb.lt hpr).trans hb
  have hc1 : Bk w1 cb 66 cs := (hk _ hc.lt hcr).trans hc
  have hset : (hd ++ .slice R s.lg.length cR :: tl).set hd.length (.slice R' (s.lg.length + 1) c') = hd ++ .slice R' (s.lg.length + 1) c' :: tl := by simp
  refine ⟨⟨h.tp, h.tc, h.lop, h.loc, ⟨cs, hc1.far (Ne.symm hne) _, hcs⟩, R', c', ?_, ?_⟩, ?_, ?_, hb1.free _⟩
  · have := hb1.set_ hd.length (.slice R' (s.lg.length + 1) c')
    rw [hset] at this
    simpa [PS.say] using this
  · exact OwnG.keep ho1 fun b _ hp => Below.heap_setCell _ _ _ _ (fun q => by dsimp only at q; subst q; exact IsPl.not hb1 h.tp hp)
  · refine Fr.setp ?_ _ _
    exact (Fr.alloc (Fr.refl _ _ _ w) o).grown hg (fun g hg => ⟨(hrow g hg).1, by
      obtain ⟨ds, fr, hp⟩ := (hrow g hg).2.2
      exact ⟨ds, fr, (Below.heap_alloc _ _ _ (hrow g hg).2.1).trans hp⟩⟩)
  · rw [hb1.cell]; simp
end

end Go.Proofs.Ythfniffecceldaa

/- Contracts: pulls by the reference: the end of a node, and a source. -/
namespace Go.Proofs.Ythfniffecceldaa
open Go.RowKit

/-- What the block of the reference's run has ahead of the pulls. -/
def spHd (A : Option Addr) (c : Nat) (l : List Nd) (As : Option Addr) (ca : Nat) (cb cc : Nat) : List Value := [.slice A l.length c, .slice As 3 ca, .slice (some ⟨cb, 0, none⟩) l.length cc]

/-- The reference's run in memory. -/
structure SW (n0 pb cb : Nat) (A : Option Addr) (c : Nat) (l : List Nd) (As : Option Addr) (ca : Nat) (src : List (List Int)) (cc : Nat) (s : PS) (W : World) : Prop where
  rs : RS n0 pb cb 64 (spHd A c l As ca cb cc) [] s W
  nodes : RdN W n0 A l
  rows : RdR W n0 As src

section
variable {n0 pb cb : Nat} {A : Option Addr} {c : Nat} {l : List Nd} {As : Option Addr} {ca : Nat} {src : List (List Int)} {cc : Nat} {s s2 : PS} {w w' : World}
theorem SW.next (h : SW n0 pb cb A c l As ca src cc s w) (hr : RS n0 pb cb 64 (spHd A c l As ca cb cc) [] s2 w') (hf : Fr n0 pb cb w w') : SW n0 pb cb A c l As ca src cc s2 w' :=
  have hb := hf.below h.rs.lop h.rs.loc (Nat.le_trans h.rs.lop (Nat.le_of_lt h.rs.ltp))
  ⟨hr, h.nodes.below hb (Nat.le_refl _), h.rows.below hb (Nat.le_refl _)⟩
theorem SW.below (h : SW n0 pb cb A c l As ca src cc s w) (hb : Below w.heap.size w w') : SW n0 pb cb A c l As ca src cc s w' := h.next (h.rs.below hb) (.of_below hb)
/-- The cells of the block of the run. -/
structure BoxSp (pb cb : Nat) (A : Option Addr) (c : Nat) (l : List Nd) (As : Option Addr) (ca : Nat) (cc : Nat) (w : World) : Prop where
  c0 : w.cell? ⟨pb, 0, none⟩ = some (.slice A l.length c)
  c1 : w.cell? ⟨pb, 1, none⟩ = some (.slice As 3 ca)
  c2 : w.cell? ⟨pb, 2, none⟩ = some (.slice (some ⟨cb, 0, none⟩) l.length cc)
theorem SW.bx (h : SW n0 pb cb A c l As ca src cc s w) : BoxSp pb cb A c l As ca cc w := by
  obtain ⟨R, cR, hb, _⟩ := h.rs.box
  exact ⟨hb.cell 0, hb.cell 1, hb.cell 2⟩
end

theorem RdR.at2 {w : World} {B : Nat} {A : Option Addr} {rows : List (List Int)} (h : RdR w B A rows) {k : Nat} (hk : k < rows.length) :
    ∃ ad r Ar cr, A = some ad ∧ (ad.add k).block < B ∧ rows[k]? = some r ∧ w.cell? (ad.add k) = some (.slice Ar r.length cr) ∧ RdI w B Ar r := by
  obtain ⟨ad, e, hb, hc⟩ := h (by omega)
  obtain ⟨r, hr⟩ := get_of_lt rows hk
  obtain ⟨Ar, cr, h1, h2⟩ := hc k r hr
  exact ⟨ad, r, Ar, cr, e, by rw [add_block]; exact hb, hr, h1, h2⟩
theorem RdI.at2 {w : World} {B : Nat} {A : Option Addr} {l : List Int} (h : RdI w B A l) {k : Nat} (hk : k < l.length) :
    ∃ ad x, A = some ad ∧ (ad.add k).block < B ∧ l[k]? = some x ∧ w.cell? (ad.add k) = some (.int .i64 x) := by
  obtain ⟨ad, e, hb, hc⟩ := h (by omega)
  obtain ⟨x, hx⟩ := get_of_lt l hk
  exact ⟨ad, x, e, by rw [add_block]; exact hb, hx, hc k x hx⟩

set_option maxHeartbeats 1600000 in
theorem ended_any {n0 pb cb : Nat} {A : Option Addr} {c : Nat} {l : List Nd} {As : Option Addr} {ca : Nat} {src : List (List Int)} {cc : Nat} {s : PS} {w : World} (h : SW n0 pb cb A c l As ca src cc s w) (hl : s.cs.length = l.length) (i : Nat) (hi : i < l.length) :
    Calls Try.prog 81 #[.pointer (some ⟨pb, 0, none⟩), .int .i64 i] w fun e w' => e = .returned (.tuple #[.int .i64 0, .bool false]) ∧ SW n0 pb cb A c l As ca src cc (s.put i { s.at_ i with d := true }) w' ∧ Fr n0 pb cb w w' := by
  obtain ⟨b0, b1, b2⟩ := h.bx
  obtain ⟨c0, c1, c2, c3, c4, c5⟩ := h.rs.cl (i := i) (by omega)
  have f5 := h.rs.free (i * 6 + 5)
  have H := Lib.hid h
  clear h
  go_enter Try.func81, Try.ntmps81
  go_wp2_with fail
  refine bodyPost_ret (v := .tuple #[.int .i64 0, .bool false]) (by simp [results, Try.results81, go_sem]) rfl ?_
  have hr := H.out.rs.setD (i := i) (by omega) true
  exact ⟨rfl, H.out.next hr ((Fr.refl _ _ _ _).setc _ _), (Fr.refl _ _ _ _).setc _ _⟩


theorem run_append_pl {w : World} {base : Nat} {R : Option Addr} {cR : Nat} {lg : List Pl} (hown : OwnG w base R cR lg) (hb : base ≤ w.heap.size) (hn : lg.length ≤ 1048576) (p : Pl) (ty : TypeId) :
    ∃ R' c' w', (Builtin.append_ #[62, 62] ty #[.slice R lg.length cR, .slice (some ⟨w.heap.size, 0, none⟩) 1 1]).run Try.prog (w.alloc (.cells #[.int .i64 p.s, .int .i64 p.i] 90)) = .ok (.slice R' (lg.length + 1) c') w' ∧ OwnG w' base R' c' (lg ++ [p]) ∧ (w.alloc (.cells #[.int .i64 p.s, .int .i64 p.i] 90)).grownBy w' (rowOf R) := by
  obtain ⟨i, hi, hz0, hz1, hz2⟩ := info_parts Try.infoPl
  have hown2 := OwnG.kept hown (World.grownBy_alloc w (.cells #[.int .i64 p.s, .int .i64 p.i] 90) none) (by cases R <;> simp [rowOf])
  have hread : ∀ (j : Nat) (u : Value), (pls [p])[j]? = some u → (w.alloc (.cells #[.int .i64 p.s, .int .i64 p.i] 90)).cell? ((⟨w.heap.size, 0, none⟩ : Addr).add j) = some u := fun j u hj => by
    have h : Bk (w.alloc (.cells #[.int .i64 p.s, .int .i64 p.i] 90)) w.heap.size 90 (pls [p]) := Bk.new w _ (pls [p])
    rw [add_zero_row, h.cell]
    exact hj
  have hone : ∀ u ∈ pls [p], u.oneCell' = true := by
    intro u hu
    simp [pls] at hu
    rcases hu with rfl | rfl <;> rfl
  obtain ⟨v', w', hr, h2, h3, _⟩ := run_append_own (P := Try.prog) (w.alloc (.cells #[.int .i64 p.s, .int .i64 p.i] 90)) base 62 ty 90 i _ 2 16 Try.underlying62 hi hz0 hz1 hz2 rfl (by decide)
    (.slice R lg.length cR) lg.length (pls lg) hown2 ⟨w.heap.size, 0, none⟩ 1 1 (pls [p]) rfl hread hone (by unfold maxLen; omega) (by omega) (by simp; omega)
  have hv : ∃ A' c', v' = .slice A' (lg.length + 1) c' := by
    obtain ⟨_, ⟨_, h0⟩ | ⟨g, cap, cur, hv, _⟩⟩ := h2
    · omega
    · exact ⟨_, _, hv⟩
  obtain ⟨A', c', rfl⟩ := hv
  refine ⟨A', c', w', hr, ?_, by rw [← ownBlock_slice R lg.length cR]; exact h3⟩
  unfold OwnG
  rw [List.length_append, pls_app]
  exact h2

theorem wpList_append_pl {ops : Array Oper} {rest : List Oper} {o : Oper} {a : Act} {Q : Exit → Act → World → Prop} {w : World} (hgd : o.guard = none) (s y : Operand)
    (ho : o.op = .call { callee := .builtin .append, args := #[s, y], argTypes := #[62, 62] }) (base : Nat) (R : Option Addr) (cR : Nat) (lg : List Pl) (p : Pl) (n : Nat) (hnl : lg.length = n) (hs : a.eval s = .slice R n cR) (hown : OwnG w base R cR lg)
    (g : Nat) (hx : a.eval y = .slice (some ⟨g, 0, none⟩) 1 1) (hg : g = w.heap.size) (hn : n ≤ 1048576) (hb : base ≤ w.heap.size)
    (h : ∀ (R' : Option Addr) (c' : Nat) (w' : World), OwnG w' base R' c' (lg ++ [p]) → (w.alloc (.cells #[.int .i64 p.s, .int .i64 p.i] 90)).grownBy w' (rowOf R) → wpList Try.prog ops Q rest (a.put o.dst (.slice R' (n + 1) c')) w') :
    wpList Try.prog ops Q (o :: rest) a (w.alloc (.cells #[.int .i64 p.s, .int .i64 p.i] 90)) := by
  subst hg
  subst hnl
  obtain ⟨R', c', w', hr, h2, h3⟩ := run_append_pl hown hb hn p o.type
  refine wpList_plain hgd fun K hK => ?_
  unfold Oper.wp execOp
  simp only [ho, resolve, invoke, builtin, Sem.run_bind, Sem.run_pure, Result.andThen_ok, List.map_toArray, List.map_cons, List.map_nil, hs, hx, hr]
  exact hK _ _ (h R' c' w' h2 h3)

/-- What a pull gives back. -/
def tup (o : Option Int) : Value := .tuple #[.int .i64 (o.getD 0), .bool o.isSome]

set_option maxHeartbeats 3200000 in
theorem nextSource_any {n0 pb cb : Nat} {A : Option Addr} {c : Nat} {l : List Nd} {As : Option Addr} {ca : Nat} {src : List (List Int)} {cc : Nat} {s : PS} {w : World} (h : SW n0 pb cb A c l As ca src cc s w) (hl : s.cs.length = l.length) {i : Nat} {x : Nd} (hx : l[i]? = some x)
    (k : Nat) (hk : x.n = (k : Int)) (hs3 : src.length = 3) (row : List Int) (hrow : src[k]? = some row) (hrl : row.length ≤ 12) (hc0 : 0 ≤ (s.at_ i).n) (hc1 : (s.at_ i).n ≤ row.length) (hlg : s.lg.length ≤ 65536) (hd : (s.at_ i).d = false) :
    Calls Try.prog 65 #[.pointer (some ⟨pb, 0, none⟩), .int .i64 i] w fun e w' => e = .returned (tup (doneP i (srcP src i x) s).2) ∧ SW n0 pb cb A c l As ca src cc (doneP i (srcP src i x) s).1 w' ∧ Fr n0 pb cb w w' := by
  have hi : i < l.length := (List.getElem?_eq_some_iff.1 hx).1
  obtain ⟨b0, b1, b2⟩ := h.bx
  obtain ⟨c0, c1, c2, c3, c4, c5⟩ := h.rs.cl (i := i) (by omega)
  obtain ⟨nb, no, y, rfl, hnb, hy, hyc⟩ := h.nodes.at_ hi
  obtain rfl := Option.some.inj (hx.symm.trans hy)
  obtain ⟨y0, y1, y2, y3, y4⟩ := hyc
  rw [hk] at y3
  obtain ⟨q, hq⟩ : ∃ q : Nat, (s.at_ i).n = (q : Int) := ⟨(s.at_ i).n.toNat, by omega⟩
  obtain ⟨ad, r, Ar, cr, rfl, hab, hr, hrc, hrd⟩ := h.rows.at2 (k := k) (List.getElem?_eq_some_iff.1 hrow).1
  obtain rfl := Option.some.inj (hrow.symm.trans hr)
  have hk3 : k < 3 := by rw [← hs3]; exact (List.getElem?_eq_some_iff.1 hr).1
  have hrowd : src.getD x.n.toNat [] = row := by rw [hk, List.getD_eq_getElem?_getD, Int.toNat_natCast, hrow]; rfl
  obtain ⟨R, cR, hbk, ho⟩ := h.rs.box
  have hb3 : w.cell? ⟨pb, 3, none⟩ = some (.slice R s.lg.length cR) := hbk.cell 3
  obtain ⟨n, hln⟩ : ∃ n, s.lg.length = n := ⟨_, rfl⟩
  have hlop := h.rs.lop
  have hloc := h.rs.loc
  have hz : n0 ≤ w.heap.size := Nat.le_trans h.rs.lop (Nat.le_of_lt h.rs.ltp)
  have hsay : ∀ (p : Pl) (R2 : Option Addr) (k2 : Nat) (w2 : World), OwnG w2 n0 R2 k2 (s.lg ++ [p]) → (w.alloc (.cells #[.int .i64 p.s, .int .i64 p.i] 90)).grownBy w2 (rowOf R) →
      SW n0 pb cb (some ⟨nb, no, none⟩) c l (some ad) ca src cc (s.say p) (w2.setCell ⟨pb, 3, none⟩ (.slice R2 (n + 1) k2)) ∧ Fr n0 pb cb w (w2.setCell ⟨pb, 3, none⟩ (.slice R2 (n + 1) k2)) ∧ w2.cell? ⟨pb, 3, none⟩ = some (.slice R n cR) ∧ w2.frozen? ⟨pb, 3, none⟩ = false := fun p R2 k2 w2 h1 h2 => by
    obtain ⟨q1, q2, q3, q4⟩ := h.rs.said hbk ho h1 h2
    rw [hln] at q1 q2 q3
    exact ⟨h.next q1 q2, q2, q3, q4⟩
  have Hsay := Lib.hid hsay
  have Ho := Lib.hid ho
  have Hln := Lib.hid hln
  have Hhl := Lib.hid hl
  rw [hln] at hb3 hlg
  rw [hq] at c0 hc0 hc1
  have Hq := Lib.hid hq
  have Hd := Lib.hid hd
  have Hx := Lib.hid hx
  have Hk := Lib.hid hk
  have Hrd := Lib.hid hrowd
  clear hsay ho hbk h hln hl hq hd hx hy hk hrow hr hrowd
  by_cases hend : q = row.length
  · have Hend := Lib.hid hend
    subst hend
    go_enter Try.func65, Try.ntmps65
    go_wp2_with (at_builtin; go_must (refine wpList_append_pl rfl _ _ rfl n0 R cR s.lg ⟨(k : Int), -1⟩ n Hln.out rfl Ho.out _ rfl rfl (by omega) hz ?_; intro R2 k2 w2 ho2 hg2); obtain ⟨q1, q2, q3, q4⟩ := Hsay.out _ _ _ _ ho2 hg2; have HS := Lib.hid q1; have HF := Lib.hid q2; clear q1 q2 ho2 hg2)
    refine (ended_any HS.out Hhl.out i hi).mono ?_
    rintro e w' ⟨rfl, hsw, hfr⟩
    have Hsw := Lib.hid hsw
    have Hfr := Lib.hid (HF.out.trans hfr)
    clear hsw hfr
    go_wp2_with fail
    have hm : doneP i (srcP src i x) s = ((s.say ⟨(k : Int), -1⟩).put i { (s.say ⟨(k : Int), -1⟩).at_ i with d := true }, none) := by
      unfold doneP srcP
      rw [if_neg (by rw [Hd.out]; decide), if_pos (by rw [Hq.out, Hrd.out]), Hk.out]
    refine bodyPost_ret (v := .tuple #[.int .i64 0, .bool false]) (by simp [results, Try.results65, go_sem]) rfl ?_
    rw [hm]
    exact ⟨rfl, Hsw.out, Hfr.out⟩
  · have hlt : q < row.length := by omega
    obtain ⟨ad2, v, rfl, hab2, hv, hvc⟩ := hrd.at2 hlt
    have hw1 : IntKind.i64.wrap ((q : Int) + 1) = (q : Int) + 1 := IntWalk.i64_in _ (by omega)
    have hne : (q : Int) ≠ row.length := by omega
    have Hv := Lib.hid hv
    clear hv hend
    go_enter Try.func65, Try.ntmps65
    go_wp2_with (at_builtin; go_must (refine wpList_append_pl rfl _ _ rfl n0 R cR s.lg ⟨(k : Int), (q : Int)⟩ n Hln.out rfl Ho.out _ rfl rfl (by omega) hz ?_; intro R2 k2 w2 ho2 hg2); obtain ⟨q1, q2, q3, q4⟩ := Hsay.out _ _ _ _ ho2 hg2; obtain ⟨z0, z1, z2⟩ := q1.bx; obtain ⟨d0, d1, d2, d3, d4, d5⟩ := q1.rs.cl (i := i) (by rw [← Hhl.out] at hi; exact hi); rw [show (s.say ⟨(k : Int), (q : Int)⟩).at_ i = s.at_ i from rfl] at d0; rw [Hq.out] at d0; have g0 := q1.rs.free (i * 6); have q5 := q1.rs.setN (i := i) (by rw [← Hhl.out] at hi; exact hi) ((q : Int) + 1); have q6 := (Fr.refl n0 pb cb (w2.setCell ⟨pb, 3, none⟩ (.slice R2 (n + 1) k2))).setc (i * 6) (.int .i64 ((q : Int) + 1)); have q7 := q1.next q5 q6; obtain ⟨x0, x1, x2⟩ := q7.bx; have q8 := (q2.trans q6).below hlop hloc hz; have y5 := (q8.cell hab).trans hrc; have y6 := (q8.cell hab2).trans hvc; have HS := Lib.hid q7; have HF := Lib.hid (q2.trans q6); clear q8; clear q1 q2 ho2 hg2 q5 q6 q7)
    have hm : doneP i (srcP src i x) s = ((s.say ⟨(k : Int), (q : Int)⟩).put i { (s.say ⟨(k : Int), (q : Int)⟩).at_ i with n := (q : Int) + 1 }, some v) := by
      unfold doneP srcP
      rw [if_neg (by rw [Hd.out]; decide), if_neg (by rw [Hq.out, Hrd.out]; exact hne), Hk.out, Hq.out]
      have hv2 : (src.getD ((k : Int)).toNat []).getD ((q : Int)).toNat 0 = v := by
        rw [← Hk.out, Hrd.out, List.getD_eq_getElem?_getD, Int.toNat_natCast, Hv.out]; rfl
      rw [hv2]
      rfl
    refine bodyPost_ret (v := .tuple #[.int .i64 v, .bool true]) (by simp [results, Try.results65, go_sem]) rfl ?_
    rw [hm]
    exact ⟨rfl, HS.out, HF.out⟩

end Go.Proofs.Ythfniffecceldaa
