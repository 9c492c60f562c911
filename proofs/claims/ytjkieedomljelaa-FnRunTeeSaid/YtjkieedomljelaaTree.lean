/- Plain mathematics: the tree of a node of a valid pipe. -/
import Derived.Test.YtjkieedomljelaaPipeP
namespace Go.Proofs.Ytjkieedomljelaa

/-- A node with all that is below it. -/
inductive T where
  | leaf (x : Nd) : T
  | stem (x : Nd) (t : T) : T
  | fork (x : Nd) (a b : T) : T

/-- t is the tree of the node i of l. -/
inductive IsTree (l : List Nd) : Nat → T → Prop where
  | leaf {i : Nat} {x : Nd} (hx : l[i]? = some x) (ha : arity x.k = 0) (h1 : x.a = -1) (h2 : x.b = -1) : IsTree l i (.leaf x)
  | stem {i j : Nat} {x : Nd} {t : T} (hx : l[i]? = some x) (ha : arity x.k = 1) (h1 : x.a = (j : Int)) (hj : j < i) (h2 : x.b = -1) (ht : IsTree l j t) : IsTree l i (.stem x t)
  | fork {i j j2 : Nat} {x : Nd} {a b : T} (hx : l[i]? = some x) (ha : arity x.k = 2) (h1 : x.a = (j : Int)) (hj : j < i) (h2 : x.b = (j2 : Int)) (hj2 : j2 < i) (hta : IsTree l j a) (htb : IsTree l j2 b) : IsTree l i (.fork x a b)

theorem IsTree.ex {l : List Nd} (hp : PipeOk l) : ∀ (n i : Nat), i < n → i < l.length → ∃ t, IsTree l i t := by
  intro n
  induction n with
  | zero => intro i hi; omega
  | succ n ih =>
    intro i hi hl
    obtain ⟨x, hx⟩ := get_of_lt l hl
    have hn := hp.node i x hx
    simp only [nodeOk, Bool.and_eq_true] at hn
    have hkids := hn.2
    rcases arity_cases x.k with e | e | e | e
    · simp [kidsOk, e] at hkids
      exact ⟨_, .leaf hx e hkids.1 hkids.2⟩
    · simp [kidsOk, e] at hkids
      obtain ⟨j, hj, hjk⟩ := inR_toNat hkids.1
      obtain ⟨t, ht⟩ := ih j (by omega) (by omega)
      exact ⟨_, .stem hx e hj hjk hkids.2 ht⟩
    · simp [kidsOk, e] at hkids
      obtain ⟨⟨h1, h2⟩, _⟩ := hkids
      obtain ⟨j, hj, hjk⟩ := inR_toNat h1
      obtain ⟨j2, hj2, hjk2⟩ := inR_toNat h2
      obtain ⟨a, ha⟩ := ih j (by omega) (by omega)
      obtain ⟨b, hb⟩ := ih j2 (by omega) (by omega)
      exact ⟨_, .fork hx e hj hjk hj2 hjk2 ha hb⟩
    · simp [kidsOk, e] at hkids

theorem IsTree.lt {l : List Nd} {i : Nat} {t : T} (h : IsTree l i t) : i < l.length := by
  cases h with
  | leaf hx => exact (List.getElem?_eq_some_iff.1 hx).1
  | stem hx => exact (List.getElem?_eq_some_iff.1 hx).1
  | fork hx => exact (List.getElem?_eq_some_iff.1 hx).1

/-- How many nodes the longest way down has. -/
def T.depth : T → Nat
  | .leaf _ => 1
  | .stem _ t => 1 + t.depth
  | .fork _ a b => 1 + max a.depth b.depth
theorem IsTree.depth_le {l : List Nd} {i : Nat} {t : T} (h : IsTree l i t) : t.depth ≤ i + 1 := by
  induction h with
  | leaf => simp [T.depth]
  | stem _ _ _ hj _ _ ih => simp only [T.depth]; omega
  | fork _ _ _ hj _ hj2 _ _ iha ihb => simp only [T.depth]; omega
theorem T.depth_pos (t : T) : 1 ≤ t.depth := by cases t <;> simp [T.depth] <;> omega

theorem IsTree.same {l : List Nd} {i : Nat} {t u : T} (h : IsTree l i t) (k : IsTree l i u) : t = u := by
  induction h generalizing u with
  | leaf hx ha _ _ =>
    cases k with
    | leaf hy _ _ _ => rw [Option.some.inj (hx.symm.trans hy)]
    | stem hy hb => rw [← Option.some.inj (hx.symm.trans hy), ha] at hb; cases hb
    | fork hy hb => rw [← Option.some.inj (hx.symm.trans hy), ha] at hb; cases hb
  | stem hx ha h1 _ _ _ ih =>
    cases k with
    | leaf hy hb => rw [← Option.some.inj (hx.symm.trans hy), ha] at hb; cases hb
    | stem hy _ k1 _ _ kt =>
      have e := Option.some.inj (hx.symm.trans hy)
      subst e
      rw [h1] at k1
      obtain rfl := Int.ofNat_inj.1 k1
      rw [ih kt]
    | fork hy hb => rw [← Option.some.inj (hx.symm.trans hy), ha] at hb; cases hb
  | fork hx ha h1 _ h2 _ _ _ iha ihb =>
    cases k with
    | leaf hy hb => rw [← Option.some.inj (hx.symm.trans hy), ha] at hb; cases hb
    | stem hy hb => rw [← Option.some.inj (hx.symm.trans hy), ha] at hb; cases hb
    | fork hy _ k1 _ k2 _ kta ktb =>
      have e := Option.some.inj (hx.symm.trans hy)
      subst e
      rw [h1] at k1
      rw [h2] at k2
      obtain rfl := Int.ofNat_inj.1 k1
      obtain rfl := Int.ofNat_inj.1 k2
      rw [iha kta, ihb ktb]

end Go.Proofs.Ytjkieedomljelaa
