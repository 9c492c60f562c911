/- Sends and receives in one goroutine, as operations of a region: the walk of a function goes on across a communication that never waits. -/
import Derived.Test.YtjkieedomljelaaAnl
import Derived.Conc.LoneCalls
import Derived.OwnWalk
namespace Go.Proofs.Ytjkieedomljelaa
open Go.RowKit Go.Conc

/-- Operation i of a region comes to its end, whatever is left to be done behind it. -/
def OpGo (P : Program) (ops : Array Oper) (i : Nat) (K : Act → World → Prop) (a : Act) (w : World) : Prop :=
  ∀ (b : Frame) (k : List Item) (rest : List Nat) (cs : List Frame), ∃ a' w', K a' w' ∧ Steps P (lone (b.at a (.inRegion ops (i :: rest) :: k)) cs w) (lone (b.at a' (.inRegion ops rest :: k)) cs w')

section
variable {P : Program} {ops : Array Oper} {i : Nat} {o : Oper} {K K' : Act → World → Prop} {a : Act} {w : World} {Q : Exit → Act → World → Prop} {md : Region.Mode}

theorem OpGo.mono (h : OpGo P ops i K a w) (hk : ∀ a w, K a w → K' a w) : OpGo P ops i K' a w := fun b k rest cs =>
  let ⟨a', w', h1, h2⟩ := h b k rest cs; ⟨a', w', hk _ _ h1, h2⟩

theorem fin_at {b : Frame} {k : List Item} {rest : List Nat} (ho : ops[i]? = some o) (v : Value) : (b.at a (.inRegion ops (i :: rest) :: k)).finish v = b.at (a.put o.dst v) (.inRegion ops rest :: k) := by
  rw [Frame.finish_at, ho]; rfl

/-- An operation without a guard that the ordinary walk reckons. -/
theorem OpGo.of_wp (ho : ops[i]? = some o) (hg : o.guard = none) (h : o.wp P a w K (fun _ _ _ => False)) : OpGo P ops i K a w := by
  intro b k rest cs
  have hw : Region.wanted o (yielded ops a.tmps) = true := by simp [Region.wanted, hg]
  have hs := stepG_op (P := P) (b := b) (k := k) (cs := cs) (w := w) (rest := rest) ho hw
  unfold Oper.wp at h
  generalize hr : (execOp a.eval o).run P w = r at h
  cases r with
  | halt x w' => cases x <;> exact h.elim
  | ok n w' =>
    cases n with
    | value v => exact ⟨_, _, h, .one (step_lone_go (by rw [hs, ← fin_at ho]; simp [stepG.apply, hr]))⟩
    | skip => exact ⟨_, _, h, .one (step_lone_go (by rw [hs, ← fin_at ho]; simp [stepG.apply, hr]))⟩
    | enter f args =>
      obtain ⟨e, w2, fr, hR, hc, _, hl⟩ := h (b.at a (.inRegion ops (i :: rest) :: k) :: cs)
      have hin : step P (lone (b.at a (.inRegion ops (i :: rest) :: k)) cs w) = .next (lone (Frame.enter P f args .normal) (b.at a (.inRegion ops (i :: rest) :: k) :: cs) w') :=
        step_lone_go (by rw [hs]; simp [stepG.apply, hr, Frame.at])
      cases e with
      | returned v =>
        refine ⟨_, _, hR, .head hin (Steps.trans hc (.one ?_))⟩
        rw [← fin_at ho]
        exact step_leave_returned hl
      | panicked ch => exact hR.elim
      | outgrown => obtain ⟨_, _, hq⟩ := hR; exact hq.elim
    | defer d =>
      have e : ({ b.at a (.inRegion ops (i :: rest) :: k) with defers := d :: a.defers } : Frame).finish undef = b.at ({ a with defers := d :: a.defers }.put o.dst undef) (.inRegion ops rest :: k) := by
        have := Frame.finish_at b { a with defers := d :: a.defers } ops i rest k undef
        rw [ho] at this
        exact this
      refine ⟨_, _, h, .one (step_lone_go ?_)⟩
      rw [hs]
      simp only [stepG.apply, Sem.runT_eq, hr, GStep.bare_after]
      exact congrArg (fun fr => GStep.go { frame := fr, callers := cs, status := .running, dying := none } w') e
    | row r args =>
      obtain ⟨v, w2, hR, hsteps⟩ := h (b.at a (.inRegion ops (i :: rest) :: k)) cs
      have hin : step P (lone (b.at a (.inRegion ops (i :: rest) :: k)) cs w) = .next (lone (Frame.ofRow P r args .normal) (b.at a (.inRegion ops (i :: rest) :: k) :: cs) w') :=
        step_lone_go (by rw [hs]; simp [stepG.apply, hr, Frame.at])
      refine ⟨_, _, hR, .head hin ?_⟩
      rw [← fin_at ho]
      exact hsteps
    | _ => simp only [Oper.upon] at h

/-- A send into a buffer with room. -/
theorem OpGo.send {c cap s r : Nat} {buf : Array Value} {v z : Value} {tm : Bool} (ho : ops[i]? = some o) (hg : o.guard = none)
    (hx : (execOp a.eval o).run P w = .ok (.comm #[scase c v z] true .send) w) (hc : w.heap[c]? = some (.chan cap buf false s r tm)) (hroom : buf.size < cap)
    (h : K (a.put o.dst undef) (w.setChan c cap (buf.push v) false (s + 1) r tm)) : OpGo P ops i K a w := by
  intro b k rest cs
  have hw : Region.wanted o (yielded ops a.tmps) = true := by simp [Region.wanted, hg]
  have hs := stepG_op (P := P) (b := b) (k := k) (cs := cs) (w := w) (rest := rest) ho hw
  obtain ⟨es, hes⟩ : ∃ es, stepG P true (G (b.at a (.inRegion ops (i :: rest) :: k)) cs) w = .comm (G (b.at a (.inRegion ops (i :: rest) :: k)) cs) #[scase c v z] true .send w es := by
    have hap : ∃ es, stepG.apply P true (b.at a (.inRegion ops (i :: rest) :: k)) cs none (execOp a.eval o) w = .comm (G (b.at a (.inRegion ops (i :: rest) :: k)) cs) #[scase c v z] true .send w es := by
      simp only [stepG.apply, Sem.runT_eq, hx, if_true]
      exact ⟨_, rfl⟩
    obtain ⟨es, hes⟩ := hap
    exact ⟨es, hs.trans hes⟩
  refine ⟨a.put o.dst undef, w.setChan c cap (buf.push v) false (s + 1) r tm, h, .one ?_⟩
  have := step_lone_send_room hes hc hroom
  rw [fin_at ho] at this
  exact this

/-- A receive from a buffer that holds something. -/
theorem OpGo.recv {c cap s r : Nat} {buf : Array Value} {z : Value} {tm closed ok : Bool} (ho : ops[i]? = some o) (hg : o.guard = none)
    (hx : (execOp a.eval o).run P w = .ok (.comm #[rcase c z] true (.recv ok)) w) (hc : w.heap[c]? = some (.chan cap buf closed s r tm)) (hsome : 0 < buf.size)
    (h : K (a.put o.dst (got ok (buf.getD 0 undef) true)) (w.setChan c cap (buf.extract 1 buf.size) closed s (r + 1) tm)) : OpGo P ops i K a w := by
  intro b k rest cs
  have hw : Region.wanted o (yielded ops a.tmps) = true := by simp [Region.wanted, hg]
  have hs := stepG_op (P := P) (b := b) (k := k) (cs := cs) (w := w) (rest := rest) ho hw
  obtain ⟨es, hes⟩ : ∃ es, stepG P true (G (b.at a (.inRegion ops (i :: rest) :: k)) cs) w = .comm (G (b.at a (.inRegion ops (i :: rest) :: k)) cs) #[rcase c z] true (.recv ok) w es := by
    have hap : ∃ es, stepG.apply P true (b.at a (.inRegion ops (i :: rest) :: k)) cs none (execOp a.eval o) w = .comm (G (b.at a (.inRegion ops (i :: rest) :: k)) cs) #[rcase c z] true (.recv ok) w es := by
      simp only [stepG.apply, Sem.runT_eq, hx, if_true]
      exact ⟨_, rfl⟩
    obtain ⟨es, hes⟩ := hap
    exact ⟨es, hs.trans hes⟩
  refine ⟨a.put o.dst (got ok (buf.getD 0 undef) true), w.setChan c cap (buf.extract 1 buf.size) closed s (r + 1) tm, h, .one ?_⟩
  have := step_lone_recv_buf ok hes hc hsome
  rw [fin_at ho] at this
  exact this

/-- The operations of a list, one after the other. -/
def wpRow (P : Program) (ops : Array Oper) (Q : Act → World → Prop) : List Nat → Act → World → Prop
  | [], a, w => Q a w
  | i :: rest, a, w => OpGo P ops i (wpRow P ops Q rest) a w
theorem wpRow_sound {Q : Act → World → Prop} : ∀ (l : List Nat) (a : Act) (w : World), wpRow P ops Q l a w → ∀ (b : Frame) (k : List Item) (cs : List Frame), ∃ a' w', Q a' w' ∧ Steps P (lone (b.at a (.inRegion ops l :: k)) cs w) (lone (b.at a' k) cs w')
  | [], a, w, h, b, k, cs => ⟨a, w, h, .one step_region_end⟩
  | i :: rest, a, w, h, b, k, cs => by
    obtain ⟨a1, w1, h1, s1⟩ := h b k rest cs
    obtain ⟨a2, w2, h2, s2⟩ := wpRow_sound rest a1 w1 h1 b k cs
    exact ⟨a2, w2, h2, s1.trans s2⟩
/-- A region in the text's order. -/
theorem wp_region_row {id : Nat} (h : wpRow P ops (fun a w => Q .normal a w) (List.range ops.size) a w) : (Code.region id ops false).wp P Q a w := fun b k cs => by
  obtain ⟨a', w', q, s⟩ := wpRow_sound _ _ _ h b k cs
  exact ⟨.normal, a', w', q, Steps.head step_region s⟩

/-- The operations of a region in any order that Go leaves. -/
def wpAnyX (P : Program) (md : Region.Mode) (ops : Array Oper) (Q : Act → World → Prop) : Nat → Array Bool → Act → World → Prop
  | 0, listed, a, w => Region.ready md ops listed = [] ∧ Q a w
  | n + 1, listed, a, w => (Region.ready md ops listed = [] → Q a w) ∧ ∀ i ∈ Region.ready md ops listed, OpGo P ops i (wpAnyX P md ops Q n (listed.setIfInBounds i true)) a w

theorem wpRow_mono {Q Q' : Act → World → Prop} (hq : ∀ a w, Q a w → Q' a w) : ∀ (l : List Nat) (a : Act) (w : World), wpRow P ops Q l a w → wpRow P ops Q' l a w
  | [], _, _, h => hq _ _ h
  | _ :: rest, _, _, h => OpGo.mono h fun a w => wpRow_mono hq rest a w

theorem wpAnyX_sound {Q : Act → World → Prop} : ∀ (n t : Nat) (listed : Array Bool) (a : Act) (w : World), wpAnyX P md ops Q n listed a w → wpRow P ops Q (Region.linearise.go md ops n t listed []) a w := by
  intro n
  induction n with
  | zero => intro t listed a w h; simpa [Region.linearise.go, wpRow] using h.2
  | succ n ih =>
    intro t listed a w h
    simp only [Region.linearise.go]
    generalize hi : (Region.ready md ops listed)[t % (Region.ready md ops listed).length]? = x
    have hi' := hi
    unfold Region.ready at hi'
    rw [hi']
    cases x with
    | none =>
      have : Region.ready md ops listed = [] := by
        rcases hr : Region.ready md ops listed with _ | ⟨y, ys⟩
        · rfl
        · rw [hr] at hi
          have hlt : t % (y :: ys).length < (y :: ys).length := Nat.mod_lt _ (by simp)
          rw [List.getElem?_eq_getElem hlt] at hi
          cases hi
      simpa [wpRow] using h.1 this
    | some i =>
      simp only []
      rw [linearise_go_acc, List.reverse_singleton, List.singleton_append]
      exact OpGo.mono (h.2 i (List.mem_of_getElem? hi)) fun a w hk => ih _ _ a w hk

/-- A region that draws its order, by what holds between its operations. -/
theorem wpAnyX_inv {Q : Act → World → Prop} {I : Nat → Array Bool → Act → World → Prop}
    (h0 : ∀ listed a w, I 0 listed a w → Region.ready md ops listed = [])
    (hd : ∀ n listed a w, I n listed a w → Region.ready md ops listed = [] → Q a w)
    (hs : ∀ n listed a w, I (n + 1) listed a w → ∀ i ∈ Region.ready md ops listed, OpGo P ops i (I n (listed.setIfInBounds i true)) a w) :
    ∀ n listed a w, I n listed a w → wpAnyX P md ops Q n listed a w
  | 0, _, _, _, h => ⟨h0 _ _ _ h, hd _ _ _ _ h (h0 _ _ _ h)⟩
  | n + 1, _, _, _, h => ⟨fun hr => hd _ _ _ _ h hr, fun i hi => (hs n _ _ _ h i hi).mono fun a w hI => wpAnyX_inv h0 hd hs n _ a w hI⟩

theorem wp_region_anyX {id : Nat} (hm : P.follows .mixedOrders = true) (h : wpAnyX P .any ops (fun a w => Q .normal a w) ops.size (Array.replicate ops.size false) a { w with drawn := w.drawn + 1 }) : (Code.region id ops true).wp P Q a w := fun b k cs => by
  have hr := wpAnyX_sound ops.size (w.tape w.drawn (.order b.fn id)) _ a _ h
  obtain ⟨a', w', q, s⟩ := wpRow_sound _ _ _ hr b k cs
  refine ⟨.normal, a', w', q, Steps.head step_region_draw ?_⟩
  simp only [Region.schedule, hm, Bool.true_or, if_true]
  exact s
end

/-- Only the plain way out. -/
def Only (K : Act → World → Prop) : Exit → Act → World → Prop
  | .normal, a, w => K a w
  | _, _, _ => False
theorem Only.letsOut {K : Act → World → Prop} (h : LetsOut (Only K)) : False := by
  obtain ⟨_, _, h⟩ := h
  exact h

section
variable {P : Program} {ops ops' : Array Oper} {a : Act} {w : World} {Q : Exit → Act → World → Prop}

theorem wp_only {o : Oper} {K K' : Act → World → Prop} (h : o.wp P a w K' (Only K)) : o.wp P a w K' (fun _ _ _ => False) := by
  unfold Oper.wp at *
  generalize (execOp a.eval o).run P w = r at *
  cases r with
  | halt x w' => cases x <;> exact h
  | ok n w' =>
    cases n with
    | enter f args =>
      refine Calls.mono h fun e w2 he => ?_
      cases e with
      | returned v => exact he
      | panicked ch => exact he
      | outgrown => exact (Only.letsOut he).elim
    | _ => first | exact h | (simp only [Oper.upon] at h ⊢; exact h) | (simp only [Oper.upon] at h)

theorem wpRow_of_ops {K : Act → World → Prop} : ∀ (l : List Nat) (a : Act) (w : World), (∀ i ∈ l, ops'[i]? = ops[i]?) → (∀ i ∈ l, ∃ o, ops[i]? = some o ∧ o.guard = none) → wpOps P ops' (Only K) l a w → wpRow P ops K l a w
  | [], _, _, _, _, h => h
  | i :: rest, a, w, he, hg, h => by
    obtain ⟨o, ho, hgo⟩ := hg i (by simp)
    have ho' := (he i (by simp)).trans ho
    simp only [wpOps, ho'] at h
    rw [if_pos (by simp [Region.wanted, hgo])] at h
    rcases h with h | ⟨_, h⟩
    · refine OpGo.of_wp ho hgo ?_
      refine Oper.wp_mono (fun a w hk => ?_) (wp_only h)
      exact wpRow_of_ops rest a w (fun j hj => he j (List.mem_cons_of_mem _ hj)) (fun j hj => hg j (List.mem_cons_of_mem _ hj)) hk
    · exact (Only.letsOut h).elim
theorem wpRow_app {K : Act → World → Prop} : ∀ (l r : List Nat) (a : Act) (w : World), wpRow P ops (fun a w => wpRow P ops K r a w) l a w → wpRow P ops K (l ++ r) a w
  | [], _, _, _, h => h
  | _ :: l, r, _, _, h => OpGo.mono h fun a w hk => wpRow_app l r a w hk

/-- A region with one communication, number n: what is ahead of it and what is behind it by the ordinary walk. -/
theorem wp_region_mid {id : Nat} (n : Nat) (hn : n < ops.size) (hg : ops.all (fun o => o.guard.isNone) = true)
    (h : wpList P (ops.toList.take n).toArray (Only fun a w => OpGo P ops n (fun a w => wpList P ops (Only fun a w => Q .normal a w) (ops.toList.drop (n + 1)) a w) a w) (ops.toList.take n) a w) :
    (Code.region id ops false).wp P Q a w := by
  have hgd : ∀ i, i < ops.size → ∃ o, ops[i]? = some o ∧ o.guard = none := fun i hi => by
    refine ⟨ops[i], Array.getElem?_eq_getElem hi, ?_⟩
    have := Array.all_eq_true.1 hg i hi
    simpa [Option.isNone_iff_eq_none] using this
  have hl : ops.toList.length = ops.size := rfl
  refine wp_region_row ?_
  have e : List.range ops.size = List.range' 0 n ++ (n :: List.range' (n + 1) (ops.size - (n + 1))) := by
    rw [List.range_eq_range', show n :: List.range' (n + 1) (ops.size - (n + 1)) = List.range' n (ops.size - n) by rw [show ops.size - n = (ops.size - (n + 1)) + 1 by omega, List.range'_succ]]
    have := List.range'_append_1 (s := 0) (m := n) (n := ops.size - n)
    rw [show n + (ops.size - n) = ops.size by omega, Nat.zero_add] at this
    exact this.symm
  rw [e]
  refine wpRow_app _ _ _ _ ?_
  have h1 := wpOps_eq_wpList (P := P) (ops := (ops.toList.take n).toArray) (Q := Only fun a w => OpGo P ops n (fun a w => wpList P ops (Only fun a w => Q .normal a w) (ops.toList.drop (n + 1)) a w) a w) (ops.toList.take n) 0 (fun j => by simp)
  rw [List.length_take, hl, Nat.min_eq_left (by omega)] at h1
  rw [← h1] at h
  refine wpRow_mono ?_ _ _ _ (wpRow_of_ops (ops := ops) _ _ _ (fun i hi => ?_) (fun i hi => hgd i ?_) h)
  · intro a w hk
    refine OpGo.mono hk fun a w hk2 => ?_
    have h2 := wpOps_eq_wpList (P := P) (ops := ops) (Q := Only fun a w => Q .normal a w) (ops.toList.drop (n + 1)) (n + 1) (fun j => by simp)
    rw [List.length_drop, hl] at h2
    rw [← h2] at hk2
    exact wpRow_of_ops (ops := ops) _ _ _ (fun _ _ => rfl) (fun i hi => hgd i (by rw [List.mem_range'_1] at hi; omega)) hk2
  · rw [List.mem_range'_1] at hi
    simp [List.getElem?_take_of_lt (show i < n by omega)]
  · rw [List.mem_range'_1] at hi
    omega
end

end Go.Proofs.Ytjkieedomljelaa
