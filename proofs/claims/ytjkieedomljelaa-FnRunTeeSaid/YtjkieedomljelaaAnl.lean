/- A region that draws its order, by what holds between its operations: each operation is shown once, whatever was done before it. -/
import Derived.OrdersHeld
import Derived.WalkKit
import Derived.OrdersHeld
namespace Go.Proofs.Ytjkieedomljelaa

/-- Between two operations I holds, n operations being left. -/
theorem wpAny_invL {P : Program} {md : Region.Mode} {ops : Array Oper} {Q : Exit → Act → World → Prop} {I : Nat → Array Bool → Act → World → Prop}
    (h0 : ∀ listed a w, I 0 listed a w → Region.ready md ops listed = [])
    (hd : ∀ n listed a w, I n listed a w → Region.ready md ops listed = [] → Q .normal a w)
    (hs : ∀ n listed a w, I (n + 1) listed a w → ∀ i ∈ Region.ready md ops listed, wpOp P ops Q i (I n (listed.setIfInBounds i true)) a w) :
    ∀ n listed a w, I n listed a w → wpAny P md ops Q n listed a w
  | 0, _, _, _, h => ⟨h0 _ _ _ h, hd _ _ _ _ h (h0 _ _ _ h)⟩
  | n + 1, _, _, _, h => ⟨fun hr => hd _ _ _ _ h hr, fun i hi => wpOp_mono (fun a w hI => wpAny_invL h0 hd hs n _ a w hI) (hs n _ _ _ h i hi)⟩
/-- An operation without a guard. -/
theorem wpOp_ofL {P : Program} {ops : Array Oper} {Q : Exit → Act → World → Prop} {i : Nat} {o : Oper} {K : Act → World → Prop} {a : Act} {w : World} (ho : ops[i]? = some o) (hg : o.guard = none)
    (h : ∀ K' : Act → World → Prop, (∀ a w, K a w → K' a w) → o.wp P a w K' Q) : wpOp P ops Q i K a w := by
  unfold wpOp
  rw [ho]
  simp only [Region.wanted, hg, if_true]
  exact .inl (h K fun _ _ h => h)
/-- What is ready is not done yet, and all that it waits for is. -/
theorem ready_memL {md : Region.Mode} {ops : Array Oper} {listed : Array Bool} {i : Nat} (h : i ∈ Region.ready md ops listed) :
    i < ops.size ∧ listed.getD i true = false ∧ ((ops[i]?).map (·.after.all fun e => !Region.binds md e || listed.getD e.on false)).getD false = true := by
  unfold Region.ready at h
  rw [List.mem_filter, List.mem_range, Bool.and_eq_true] at h
  exact ⟨h.1, by simpa using h.2.1, h.2.2⟩

end Go.Proofs.Ytjkieedomljelaa
