/- A call in one goroutine, for a row that would let other goroutines leave. -/
import Derived.Conc.LeavingOf
namespace Go.Proofs.Ytkkgpddpplokfaa

/-- A call that starts no goroutine. -/
theorem leaving_of_handed {a : Assume} {C : Checked} {os : Os} {f : FuncId} {r : Reach} {Pre : World → Array Value → Prop} {Post : World → Array Value → Value → World → Prop}
    (h : ReturnsInHanded a C os f r Pre Post) : ReturnsInLeavingWide a C os f r Pre Post := fun enter => by
  refine ReturnsInOpen.mono (fun m w t x => ?_) (fun _ x => x) (h enter)
  obtain ⟨hq, ho, he⟩ := x
  refine ⟨ho, ?_, he⟩
  refine ⟨fun g hg => ⟨0, ?_⟩, hq.2⟩
  have h1 := hq.1
  simp only [Machine.othersDone, List.all_eq_true] at h1
  have h2 := h1 g hg
  show g.status = .finished
  cases hs : g.status <;> simp [hs] at h2 ⊢

end Go.Proofs.Ytkkgpddpplokfaa
