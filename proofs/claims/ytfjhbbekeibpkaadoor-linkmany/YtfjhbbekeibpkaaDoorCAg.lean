import Derived.Test.YtfjhbbekeibpkaaDoorCTurn
import Derived.Test.YtfjhbbekeibpkaaDoorCWriter4
import Derived.Test.YtfjhbbekeibpkaaDoorCReader4
namespace Go.Proofs.YtfjhbbekeibpkaaDoor.C
open Go.RowKit

theorem beOf_be (ys : List Nat) (h : ∀ x ∈ ys, x < 256) : beOf (be ys) ys.length = ys := by
  rw [← List.reverse_reverse ys] at h ⊢
  generalize ys.reverse = zs at *
  induction zs with
  | nil => rfl
  | cons z zs ih =>
    have h1 : ∀ x ∈ zs.reverse, x < 256 := fun x hx => h x (by rw [List.reverse_cons]; exact List.mem_append_left _ hx)
    have h2 := h z (by simp)
    rw [List.reverse_cons, be_snoc, List.length_append, List.length_singleton, beOf_snoc _ _ _ h2, ih h1]

/-- WHAT IS READ AS A NUMBER WAS WRITTEN SO: behind i bytes that make n. -/
theorem pv_form' (most : Nat) : ∀ (xs : List Nat) (i n : Nat), (∀ x ∈ xs, x < 256) → (pVar most xs i n).fault = 0 → ∃ k V, (pVar most xs i n).size = i + k + 1 ∧ (pVar most xs i n).num = n + 128 ^ i * V ∧ varOf V k = xs.take (k + 1) ∧ V < 128 ^ (k + 1) ∧ ((i = 0 ∧ k = 0) ∨ 128 ^ k ≤ V) := by
  intro xs
  induction xs with
  | nil => intro i n _ h; simp [pVar, no] at h
  | cons c cs ih =>
    intro i n hs h
    unfold pVar at h ⊢
    by_cases h1 : i = 9 ∧ 1 < c
    · rw [if_pos h1] at h; simp [no] at h
    · rw [if_neg h1] at h ⊢
      by_cases h2 : 128 ≤ c
      · rw [if_pos h2] at h ⊢
        have hc := hs c (by simp)
        obtain ⟨k, V, e1, e2, e3, e4, e5⟩ := ih _ _ (fun x hx => hs x (List.mem_cons_of_mem _ hx)) h
        refine ⟨k + 1, (c - 128) + 128 * V, ?_, ?_, ?_, ?_, ?_⟩
        · rw [e1]; omega
        · rw [e2, Nat.pow_succ]
          rw [Nat.mul_add, Nat.mul_comm (c - 128), Nat.mul_assoc]
          omega
        · rw [varOf_cons, show ((c - 128) + 128 * V) % 128 + 128 = c by omega, show ((c - 128) + 128 * V) / 128 = V by omega, e3]
          rfl
        · rw [Nat.pow_succ]; omega
        · right
          rcases e5 with ⟨h0, _⟩ | h5
          · omega
          · rw [Nat.pow_succ]; omega
      · rw [if_neg h2] at h ⊢
        by_cases h3 : c = 0 ∧ 0 < i
        · rw [if_pos h3] at h; simp [no] at h
        · rw [if_neg h3] at h ⊢
          by_cases h4 : most < n + c * 128 ^ i
          · rw [if_pos h4] at h; simp [no] at h
          · rw [if_neg h4]
            refine ⟨0, c, rfl, by simp only; rw [Nat.mul_comm], by simp [varOf], by omega, ?_⟩
            by_cases hi : i = 0
            · left; exact ⟨hi, rfl⟩
            · right; simp; omega

theorem vs_eq (n k : Nat) (hn : n < 18446744073709551616) (h1 : n < 128 ^ (k + 1)) (h2 : k = 0 ∨ 128 ^ k ≤ n) : vs n = k + 1 := by
  have f := vs_fits n hn
  have l := vs_least n hn
  have hp := (vs_bounds n hn).1
  rcases Nat.lt_trichotomy (vs n) (k + 1) with h | h | h
  · rcases h2 with rfl | h2
    · omega
    · have := Nat.pow_le_pow_right (n := 128) (by omega) (show vs n ≤ k by omega)
      omega
  · exact h
  · have := l (by omega)
    have := Nat.pow_le_pow_right (n := 128) (by omega) (show k + 1 ≤ vs n - 1 by omega)
    omega

/-- A number's bytes, read and written anew. -/
theorem pv_again (most : Nat) (xs : List Nat) (hs : ∀ x ∈ xs, x < 256) (hm : most < 18446744073709551616) (h : (pVar most xs 0 0).fault = 0) :
    varOf (pVar most xs 0 0).num (vs (pVar most xs 0 0).num - 1) = xs.take (pVar most xs 0 0).size := by
  obtain ⟨k, V, e1, e2, e3, e4, e5⟩ := pv_form' most xs 0 0 hs h
  have h4 := pv_size most xs 0 0 h
  simp only [Nat.pow_zero, Nat.one_mul, Nat.zero_add] at e1 e2
  rw [e1, e2]
  have hv := vs_eq V k (by rw [← e2]; omega) e4 (by rcases e5 with h | h; exact Or.inl h.2; exact Or.inr h)
  rw [hv, Nat.add_sub_cancel, e3]

end Go.Proofs.YtfjhbbekeibpkaaDoor.C
