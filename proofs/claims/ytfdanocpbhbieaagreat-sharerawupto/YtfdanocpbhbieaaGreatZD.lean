import Derived.Test.YtfdanocpbhbieaaGreatZC
namespace Go.Proofs.YtfdanocpbhbieaaGreat.Z
open Go.RowKit

theorem owns_ne {w : World} {B n k s : Nat} {t t' : TypeId} {v : Value} {xs : List Value} {C : Array Value} {fr : Nat × Nat} (h : w.ownsRow B t s v n xs) (hk : w.heap[k]? = some (.cells C t' fr)) (ht : t' ≠ t) : some k ≠ v.ownBlock := by
  rcases h.2 with ⟨rfl, _⟩ | ⟨g, cap, cur, rfl, _, hgb, _⟩
  · simp [Value.ownBlock]
  · intro e'
    obtain rfl : k = g := by simpa [Value.ownBlock] using e'
    rw [hk] at hgb
    simp at hgb
    exact ht hgb.2.1
theorem owns_two {w : World} {B B' n n' s s' : Nat} {t t' : TypeId} {v v' : Value} {xs xs' : List Value} (h : w.ownsRow B t s v n xs) (h' : w.ownsRow B' t' s' v' n' xs') (ht : t ≠ t') : v.ownBlock = none ∨ v.ownBlock ≠ v'.ownBlock := by
  rcases h.2 with ⟨rfl, _⟩ | ⟨g, cap, cur, rfl, _, hgb, _⟩
  · left; rfl
  · right
    intro e
    exact (owns_ne h' hgb ht) e
theorem owns_keep {w w' : World} {B n s : Nat} {t : TypeId} {v : Value} {xs : List Value} (h : w.ownsRow B t s v n xs) (hb : Below w.heap.size w w') : w'.ownsRow B t s v n xs := owns_same h (fun g hg => hb.block g (rk_lt h hg))
theorem owns_le {w : World} {base base' : Nat} {e : TypeId} {size : Nat} {v : Value} {n : Nat} {xs : List Value} (h : w.ownsRow base e size v n xs) (hb : base' ≤ base) : w.ownsRow base' e size v n xs :=
  ⟨h.1, h.2.imp id fun ⟨g, cap, cur, h1, h2, r⟩ => ⟨g, cap, cur, h1, Nat.le_trans hb h2, r⟩⟩
theorem owns_base {w : World} {B n s : Nat} {t : TypeId} {v : Value} {xs : List Value} (h : w.ownsRow B t s v n xs) : ∀ g, v.ownBlock = some g → B ≤ g := fun g hg => by
  rcases h.2 with ⟨rfl, _⟩ | ⟨g', cap, cur, rfl, hb, _⟩
  · simp [Value.ownBlock] at hg
  · obtain rfl : g' = g := by simpa [Value.ownBlock] using hg
    exact hb
theorem owns_grown {w w' : World} {B n s : Nat} {t : TypeId} {v : Value} {xs : List Value} {r : Option Nat} (h : w.ownsRow B t s v n xs) (hg : w.grownBy w' r) (hr : ∀ g, v.ownBlock = some g → some g ≠ r) : w'.ownsRow B t s v n xs :=
  owns_same h (fun g e => hg.block g (rk_lt h e) (hr g e))
theorem five_new (w : World) (c0 c1 c2 c3 c4 : Value) (t : TypeId) : Cel (w.alloc (.cells #[c0, c1, c2, c3, c4] t)) (some ⟨w.heap.size, 0, none⟩) 5 [[c0, c1, c2, c3, c4]] := by
  refine Or.inr ⟨_, 0, rfl, by simp, fun i r hr j v hv => ?_⟩
  match i, hr with
  | 0, hr =>
    simp at hr
    subst hr
    rw [cell_of_row _ _ _ _ _ _ (heap_alloc_new w (.cells #[c0, c1, c2, c3, c4] t))]
    simpa using hv
  | i + 1, hr => simp at hr
theorem Tryz.sizeA : (Tryz.prog.info? 84).map (·.size) = some 15 := by kernel_rfl

end Go.Proofs.YtfdanocpbhbieaaGreat.Z
