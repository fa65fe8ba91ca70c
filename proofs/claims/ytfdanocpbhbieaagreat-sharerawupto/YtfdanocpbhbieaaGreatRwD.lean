import Derived.Test.YtfdanocpbhbieaaGreatRwB
import Derived.Test.YtfdanocpbhbieaaGreatWkC
namespace Go.Proofs.YtfdanocpbhbieaaGreat
open Go.RowKit

/-- Two boxes: a state, and something of two cells. -/
theorem box_two (w : World) (A : Array Value) (t1 t2 : TypeId) (B : Array Value) : ∃ w2, (w.alloc (.cells A t1)).alloc (.cells B t2) = w2 ∧ Below w.heap.size w w2 ∧ w2.heap[w.heap.size]? = some (.cells A t1 (0, 0)) ∧ w2.heap[w.heap.size + 1]? = some (.cells B t2 (0, 0)) :=
  ⟨_, rfl, ((Below.refl _ _).alloc (Nat.le_refl _) _).alloc (by simp) _, (Below.heap_alloc _ _ _ (by simp)).trans (heap_alloc_new _ _), by have h := heap_alloc_new (w.alloc (.cells A t1)) (.cells B t2); rw [World.size_alloc] at h; exact h⟩

end Go.Proofs.YtfdanocpbhbieaaGreat
namespace Go.Proofs.YtfdanocpbhbieaaGreat
open Go.RowKit

theorem box_one (w : World) (A : Array Value) (t : TypeId) : ∃ w2, w.alloc (.cells A t) = w2 ∧ Below w.heap.size w w2 ∧ w2.heap[w.heap.size]? = some (.cells A t (0, 0)) := ⟨_, rfl, (Below.refl _ _).alloc (Nat.le_refl _) _, heap_alloc_new _ _⟩
def Sta.isOpen (s : Sta) (p : Int) : Bool := hasAt s.prices p && decide ((getAt s.prices ⟨0, 0⟩ p).n < 1099511627776)

end Go.Proofs.YtfdanocpbhbieaaGreat
