import Derived.Test.YtfjhbbekeibpkaaDoorCHold
namespace Go.Proofs.YtfjhbbekeibpkaaDoor.C
open Go.RowKit

theorem blk5 {w : World} {b : Nat} {x0 x1 x2 x3 x4 : Value} {t : TypeId} (h : w.heap[b]? = some (.cells #[x0, x1, x2, x3, x4] t (0, 0))) :
    w.cell? ⟨b, 0, none⟩ = some x0 ∧ w.cell? ⟨b, 1, none⟩ = some x1 ∧ w.cell? ⟨b, 2, none⟩ = some x2 ∧ w.cell? ⟨b, 3, none⟩ = some x3 ∧ w.cell? ⟨b, 4, none⟩ = some x4 ∧ (∀ o, w.frozen? ⟨b, o, none⟩ = false) :=
  ⟨by simp [World.cell?, h], by simp [World.cell?, h], by simp [World.cell?, h], by simp [World.cell?, h], by simp [World.cell?, h], fun o => by simp [World.frozen?, h]⟩

theorem made_bytes (w : World) (xs : List Nat) (hs : ∀ x ∈ xs, x < 256) : Bytes (w.alloc (.cells (vals xs).toArray 5)) (some ⟨w.heap.size, 0, none⟩) xs := by
  refine lie_row (heap_alloc_new w (.cells (vals xs).toArray 5 (0, 0))) hs (fun j hj => ?_)
  simp [vals, hj]
theorem owns_bytes {w : World} {B n c : Nat} {a : Option Addr} {xs : List Nat} (h : w.ownsRow B 5 1 (.slice a n c) n (vals xs)) (hs : ∀ x ∈ xs, x < 256) : Bytes w a xs := by
  rcases h.2 with ⟨h1, h2⟩ | ⟨g, cap, cur, h1, h2, hg, h3, _, h5, ht⟩
  · cases h1
    have := h.1
    rw [vals_len] at this
    exact ⟨hs, Or.inl (List.eq_nil_of_length_eq_zero (by omega))⟩
  · cases h1
    exact (own_full hs h).bytes
theorem owns_form {w : World} {n : Nat} {v : Value} {xs : List Value} (h : w.ownsRow 0 5 1 v n xs) : ∃ a c, v = .slice a n c ∧ n ≤ c := by
  rcases h.2 with ⟨h1, h2⟩ | ⟨g, cap, cur, h1, _, _, h2, _⟩
  · exact ⟨none, 0, by rw [h1, h2], by omega⟩
  · exact ⟨_, cap, h1, h2⟩
theorem be_small (n s : Nat) : ∀ x ∈ beOf n s, x < 256 := fun x hx => by
  simp only [beOf, List.mem_map] at hx
  obtain ⟨i, _, rfl⟩ := hx
  exact Nat.mod_lt _ (by omega)
theorem var_small (n : Nat) (hn : n < 18446744073709551616) : ∀ x ∈ varOf n (vs n - 1), x < 256 := by
  have h1 := vs_bounds n hn
  have h2 := vs_fits n hn
  rw [show vs n = vs n - 1 + 1 by omega] at h2
  exact varOf_small n _ h2
theorem be_len (n s : Nat) : (beOf n s).length = s := by simp [beOf]

end Go.Proofs.YtfjhbbekeibpkaaDoor.C
