import Derived.Test.YtfdanocpbhbieaaGreatZD
import Derived.RangeFuncBox
import Derived.RangeFuncWrites
namespace Go.Proofs.YtfdanocpbhbieaaGreat.Z
open Go.RowKit Go.Shelf
attribute [local go_sem] Oper.semAt_some

/-- Entries that lie well in a world. -/
abbrev EdO (w : World) := { e : Eda // EdaOk w e }
def edsOf {w : World} : (xs : List Eda) → (∀ e ∈ xs, EdaOk w e) → List (EdO w)
  | [], _ => []
  | x :: xs, h => ⟨x, h x (List.mem_cons_self ..)⟩ :: edsOf xs (fun y hy => h y (List.mem_cons_of_mem _ hy))
theorem edsOf_val {w : World} (xs : List Eda) (h : ∀ e ∈ xs, EdaOk w e) : (edsOf xs h).map (·.1) = xs := by
  induction xs with
  | nil => rfl
  | cons x xs ih => simp [edsOf, ih]
theorem edsOf_filter {w : World} (xs : List Eda) (h : ∀ e ∈ xs, EdaOk w e) (q : Eda → Bool) : ((edsOf xs h).filter (fun x => q x.1)).map (·.1) = xs.filter q := by
  induction xs with
  | nil => rfl
  | cons x xs ih =>
    simp only [edsOf, List.filter_cons]
    by_cases hx : q x = true
    · simp [hx, ih]
    · simp [hx, ih]
/-- A row of one's own stays where no cells have turned. -/
theorem owns_far {W W' : World} {B n s : Nat} {t : TypeId} {v : Value} {xs : List Value} {row : Option Nat} (h : W.ownsRow B t s v n xs) (hg : W.grownBy W' row) (hr : ∀ r, row = some r → ∃ o : Obj, W.heap[r]? = some o ∧ o.isCells = false) : W'.ownsRow B t s v n xs :=
  owns_grown h hg (fun g e e' => by
    obtain ⟨o, ho, hc⟩ := hr g e'.symm
    rcases h.2 with ⟨rfl, _⟩ | ⟨g', cap, cur, rfl, _, hgb, _⟩
    · simp [Value.ownBlock] at e
    · obtain rfl : g' = g := by simpa [Value.ownBlock] using e
      rw [hgb] at ho; cases ho; cases hc)
theorem Boxed.far {W W' : World} {B : Nat} {t : TypeId} {v : Value} {row : Option Nat} (h : Boxed W B t v) (hg : W.grownBy W' row) (hr : ∀ r, row = some r → ∃ o : Obj, W.heap[r]? = some o ∧ o.isCells = false) : Boxed W' B t v :=
  (hg.block B h.lt (fun e => by obtain ⟨o, ho, hc⟩ := hr B e.symm; rw [h] at ho; cases ho; cases hc)).trans h
theorem cells_far {W W' : World} {B : Nat} {t : TypeId} {cs : Array Value} {fr : Nat × Nat} {row : Option Nat} (h : W.heap[B]? = some (.cells cs t fr)) (hg : W.grownBy W' row) (hr : ∀ r, row = some r → ∃ o : Obj, W.heap[r]? = some o ∧ o.isCells = false) : W'.heap[B]? = some (.cells cs t fr) :=
  (hg.block B (ac_lt h) (fun e => by obtain ⟨o, ho, hc⟩ := hr B e.symm; rw [h] at ho; cases ho; cases hc)).trans h
theorem set_grown (w : World) (B i : Nat) (v : Value) : w.grownBy (w.setCell ⟨B, i, none⟩ v) (some B) :=
  ⟨rfl, rfl, rfl, by simp [World.setCell], fun k _ hne => heap_setCell_other w ⟨B, i, none⟩ k v (fun e => hne (by rw [e]))⟩
theorem owns_set {w : World} {B n s k i : Nat} {t t' : TypeId} {v u : Value} {xs : List Value} {C : Array Value} {fr : Nat × Nat} (h : w.ownsRow B t s v n xs) (hk : w.heap[k]? = some (.cells C t' fr)) (ht : t' ≠ t) : (w.setCell ⟨k, i, none⟩ u).ownsRow B t s v n xs :=
  owns_grown h (set_grown w k i u) (fun g e e' => owns_ne h hk ht (by rw [← e', e]))
theorem owns_low_set {w : World} {B n s k i : Nat} {t : TypeId} {v u : Value} {xs : List Value} (h : w.ownsRow B t s v n xs) (hk : k < B) : (w.setCell ⟨k, i, none⟩ u).ownsRow B t s v n xs :=
  owns_grown h (set_grown w k i u) (fun g e e' => by have := owns_base h g e; cases e'; omega)
end Go.Proofs.YtfdanocpbhbieaaGreat.Z
