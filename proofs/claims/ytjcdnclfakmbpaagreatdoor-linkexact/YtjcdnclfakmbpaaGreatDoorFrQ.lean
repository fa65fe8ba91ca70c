import Derived.Test.YtjcdnclfakmbpaaGreatDoorPwP
import Derived.Test.YtjcdnclfakmbpaaGreatDoorCWrites
namespace Go.Proofs.YtjcdnclfakmbpaaGreatDoor.U
open Go.RowKit Go.Maps
theorem vals_set (xs : List Nat) (k y : Nat) : vals (xs.set k y) = (vals xs).set k (.int .u8 (y : Int)) := by simp [vals, List.map_set]
theorem rk_set {w : World} {K : Knd} {k : Nat × Nat} {g m c : Nat} {xs : List Nat} (h : Rk w K k 5 1 (.slice (some ⟨g, 0, none⟩) m c) m (vals xs)) (j y : Nat) : Rk (w.setCell ⟨g, j, none⟩ (.int .u8 (y : Int))) K k 5 1 (.slice (some ⟨g, 0, none⟩) m c) m (vals (xs.set j y)) := by
  refine ⟨?_, h.kind⟩
  rw [vals_set]
  exact (h.own.stored j (.int .u8 (y : Int))).1
theorem rk_own {w : World} {K : Knd} {k : Nat × Nat} {g m c : Nat} {xs : List Nat} (h : Rk w K k 5 1 (.slice (some ⟨g, 0, none⟩) m c) m (vals xs)) (hs : ∀ x ∈ xs, x < 256) : Own 0 w g c xs := own_full hs h.own
end Go.Proofs.YtjcdnclfakmbpaaGreatDoor.U
