import Derived.Test.YtjjhpffkeloadaaGreatDoorCAg2
namespace Go.Proofs.YtjjhpffkeloadaaGreatDoor.C
open Go.RowKit

/-- .. without its last byte it is cut short. -/
theorem pv_cut (most : Nat) : ∀ (k V i acc : Nat), i + k ≤ 9 → pVar most (varHd V k) i acc = no 10 := by
  intro k
  induction k with
  | zero => intro V i acc _; simp [varHd, pVar]
  | succ k ih =>
    intro V i acc hi
    have e : varHd V (k + 1) = (V % 128 + 128) :: varHd (V / 128) k := by
      have := varOf_cons V k
      unfold varOf at this
      rw [← List.cons_append] at this
      exact (List.append_inj' this rfl).1
    rw [e, pVar, if_neg (by omega), if_pos (by omega)]
    exact ih _ _ _ (by omega)

theorem var_cut (n most : Nat) (hn : n < 18446744073709551616) : pVar most ((varOf n (vs n - 1)).dropLast) 0 0 = no 10 := by
  have hb := vs_bounds n hn
  have e : (varOf n (vs n - 1)).dropLast = varHd n (vs n - 1) := by simp [varOf, varHd]
  rw [e]; exact pv_cut most _ n 0 0 (by omega)

theorem rn_short (k : Int) (bound : Nat) (xs : List Nat) (a : Nat) (h : pFind k bound (xs.drop a) = no 10) : (rNext k bound xs a 0).2 = (a, 10) := by
  rw [rNext, if_neg (by omega), h]; simp [no]

theorem fx_cut (k : Int) (s n : Nat) (ys : List Nat) (hk : width k = s) (h3 : k ≠ 3) (h4 : k ≠ 4) (h5 : k ≠ 5) (hy : ys = (beOf n s).dropLast) (hs : 0 < s) : pFind k 0 ys = no 10 := by
  simp only [pFind, if_neg h3, if_neg h4, if_neg h5, hk, pFixed]
  rw [if_pos (by rw [hy, List.length_dropLast]; simp [beOf]; omega)]

theorem by_ok (ys bs rest : List Nat) (hb : bs.length < 18446744073709551616) (hy : ys = (varOf bs.length (vs bs.length - 1) ++ bs) ++ rest) : pFind 4 bs.length ys = ⟨0, vs bs.length, bs.length, vs bs.length + bs.length, 0⟩ := by
  simp only [pFind, show ¬ (4 : Int) = 3 by omega, if_false, if_true]
  rw [List.append_assoc] at hy
  have e := var_ok bs.length bs.length (bs ++ rest) hb (Nat.le_refl _)
  rw [← hy] at e
  have hv := vs_bounds bs.length hb
  have hl : ys.length = vs bs.length + bs.length + rest.length := by rw [hy]; simp [varOf_length]; omega
  unfold pBytes
  rw [e]
  simp only [ne_eq, not_true_eq_false, if_false]
  rw [if_neg (by rw [hl]; omega)]
theorem by_cut (ys bs : List Nat) (hb : bs.length < 18446744073709551616) (hy : ys = (varOf bs.length (vs bs.length - 1) ++ bs).dropLast) : pFind 4 bs.length ys = no 10 := by
  simp only [pFind, show ¬ (4 : Int) = 3 by omega, if_false, if_true]
  have hv := vs_bounds bs.length hb
  by_cases h0 : bs = []
  · subst h0
    rw [List.append_nil] at hy
    have e := var_cut ([] : List Nat).length ([] : List Nat).length hb
    rw [← hy] at e
    unfold pBytes
    rw [e]
    simp [no]
  · rw [List.dropLast_append_of_ne_nil h0] at hy
    have e := var_ok bs.length bs.length bs.dropLast hb (Nat.le_refl _)
    rw [← hy] at e
    have hp := List.length_pos_iff.2 h0
    have hl : ys.length = vs bs.length + (bs.length - 1) := by rw [hy]; simp [varOf_length]; omega
    unfold pBytes
    rw [e]
    simp only [ne_eq, not_true_eq_false, if_false]
    rw [if_pos (by rw [hl]; omega)]

end Go.Proofs.YtjjhpffkeloadaaGreatDoor.C
namespace Go.Proofs.YtjjhpffkeloadaaGreatDoor.C
theorem rn_done (k : Int) (bound : Nat) (xs : List Nat) (a f : Nat) (hf : f ≠ 0) : rNext k bound xs a f = (no 0, a, f) := by rw [rNext, if_pos hf]
theorem rt_done (m : Int) (xs : List Nat) (a f : Nat) (hf : f ≠ 0) : rText m xs a f = (no 0, a, f) := by rw [rText, rn_done _ _ _ _ _ hf]

/-- Bytes of seven bits as one number, the lowest first. -/
def hv : List Nat → Nat
  | [] => 0
  | x :: r => hv r * 128 + x % 128
theorem hv_snoc : ∀ (xs : List Nat) (x : Nat), hv (xs ++ [x]) = hv xs + (x % 128) * 128 ^ xs.length
  | [], x => by simp [hv]
  | y :: r, x => by
    have := hv_snoc r x
    simp only [List.cons_append, hv, List.length_cons, Nat.pow_succ]
    rw [this, Nat.add_mul, Nat.mul_assoc]
    omega
theorem hv_lt : ∀ (xs : List Nat), hv xs < 128 ^ xs.length
  | [] => by simp [hv]
  | x :: r => by
    have := hv_lt r
    simp only [hv, List.length_cons, Nat.pow_succ]
    omega
theorem hv_take (ys : List Nat) (k : Nat) (h : k < ys.length) : hv (ys.take (k + 1)) = hv (ys.take k) + (ys.getD k 0 % 128) * 128 ^ k := by
  rw [take_snoc ys k h, hv_snoc, List.length_take, Nat.min_eq_left (by omega)]
theorem hv_take_lt (ys : List Nat) (k : Nat) (h : k ≤ ys.length) : hv (ys.take k) < 128 ^ k := by
  have := hv_lt (ys.take k)
  rwa [List.length_take, Nat.min_eq_left h] at this

theorem pv_run (most : Nat) (ys : List Nat) (hs : ∀ x ∈ ys, x < 256) : ∀ (k : Nat), k ≤ 9 → k ≤ ys.length → (∀ j, j < k → 128 ≤ ys.getD j 0) → pVar most ys 0 0 = pVar most (ys.drop k) k (hv (ys.take k)) := by
  intro k
  induction k with
  | zero => intro _ _ _; simp [hv]
  | succ k ih =>
    intro h9 hl ha
    rw [ih (by omega) (by omega) (fun j hj => ha j (by omega)), drop_cons ys k (by omega), pv_on most _ _ k _ (by omega) (ha k (by omega)) (getD_small hs k), hv_take ys k (by omega)]

theorem eye_short (most : Nat) (ys : List Nat) (hs : ∀ x ∈ ys, x < 256) (h : ys.length < 10) (ha : ∀ j, j < ys.length → 128 ≤ ys.getD j 0) : pVar most ys 0 0 = no 10 := by
  rw [pv_run most ys hs ys.length (by omega) (Nat.le_refl _) ha, List.drop_length]
  rfl
theorem eye_long (most : Nat) (ys : List Nat) (hs : ∀ x ∈ ys, x < 256) (h : 10 ≤ ys.length) (ha : ∀ j, j < 10 → 128 ≤ ys.getD j 0) : pVar most ys 0 0 = no 11 := by
  rw [pv_run most ys hs 9 (by omega) (by omega) (fun j hj => ha j (by omega)), drop_cons ys 9 (by omega), pv_form most _ _ 9 _ ⟨rfl, by have := ha 9 (by omega); omega⟩]

/-- What seems to be a number is none. -/
def Bad (k c : Nat) : Prop := (k = 9 ∧ 1 < c) ∨ (c = 0 ∧ 0 < k)
instance (k c : Nat) : Decidable (Bad k c) := by unfold Bad; infer_instance

theorem eye_found (most : Nat) (ys : List Nat) (hs : ∀ x ∈ ys, x < 256) (k : Nat) (hk : k < 10) (hl : k < ys.length) (ha : ∀ j, j < k → 128 ≤ ys.getD j 0) (hc : ys.getD k 0 < 128) :
    pVar most ys 0 0 = if Bad k (ys.getD k 0) then no 11 else if most < hv (ys.take (k + 1)) then no 12 else ⟨hv (ys.take (k + 1)), 0, 0, k + 1, 0⟩ := by
  rw [pv_run most ys hs k (by omega) (by omega) ha, drop_cons ys k hl, hv_take ys k hl]
  by_cases h1 : k = 9 ∧ 1 < ys.getD k 0
  · rw [pv_form most _ _ k _ h1, if_pos (show Bad k (ys.getD k 0) from Or.inl h1)]
  · by_cases h2 : ys.getD k 0 = 0 ∧ 0 < k
    · rw [pv_zero most _ _ k _ h1 hc h2, if_pos (show Bad k (ys.getD k 0) from Or.inr h2)]
    · rw [if_neg (show ¬ Bad k (ys.getD k 0) by rintro (h | h); exact h1 h; exact h2 h)]
      by_cases h3 : most < hv (ys.take k) + (ys.getD k 0 % 128) * 128 ^ k
      · rw [pv_max most _ _ k _ h1 hc h2 h3, if_pos h3]
      · rw [pv_ok most _ _ k _ h1 hc h2 h3, if_neg h3]

theorem eye_fits (ys : List Nat) (hs : ∀ x ∈ ys, x < 256) (k : Nat) (hk : k < 10) (hl : k < ys.length) (hb : ¬ Bad k (ys.getD k 0)) : hv (ys.take (k + 1)) < 18446744073709551616 := by
  rw [hv_take ys k hl]
  exact var_fits _ _ k (hv_take_lt ys k (by omega)) (getD_small hs k) (by omega) (fun e => by
    rcases Nat.lt_or_ge 1 (ys.getD k 0) with h | h
    · exact (hb (Or.inl ⟨e, h⟩)).elim
    · exact h)

/-- What seems to be a number is one just if it is written so. -/
theorem eye_form (ys : List Nat) (hs : ∀ x ∈ ys, x < 256) (k : Nat) (hk : k < 10) (hl : k < ys.length) (ha : ∀ j, j < k → 128 ≤ ys.getD j 0) (hc : ys.getD k 0 < 128) :
    (varOf (hv (ys.take (k + 1)) % 18446744073709551616) (vs (hv (ys.take (k + 1)) % 18446744073709551616) - 1) = ys.take (k + 1)) ↔ ¬ Bad k (ys.getD k 0) := by
  constructor
  · intro e hb
    generalize hN : hv (ys.take (k + 1)) % 18446744073709551616 = N at *
    have hN64 : N < 18446744073709551616 := by omega
    have hv1 := vs_bounds N hN64
    have hlen := congrArg List.length e
    rw [varOf_length, List.length_take, Nat.min_eq_left (by omega)] at hlen
    rcases hb with ⟨h9, h1⟩ | ⟨h0, hk0⟩
    · subst h9
      have h2 := congrArg (fun l => l.getD 9 0) e
      rw [show vs N - 1 = 9 by omega] at h2
      have h3 : (varOf N 9).getD 9 0 = N / 128 ^ 9 := by simp [varOf, List.getD]
      have h4 : (ys.take 10).getD 9 0 = ys.getD 9 0 := by simp [List.getD]
      simp only [h3, h4] at h2
      have h5 : N / 128 ^ 9 ≤ 1 := by
        rw [show (128 : Nat) ^ 9 = 9223372036854775808 from rfl]; omega
      omega
    · rw [hv_take ys k hl, h0, Nat.zero_mod, Nat.zero_mul, Nat.add_zero] at hN
      have h1 := hv_take_lt ys k (by omega)
      have h2 := vs_least N hN64 (by omega)
      rw [show vs N - 1 = k by omega] at h2
      have h3 : N ≤ hv (ys.take k) := by rw [← hN]; exact Nat.mod_le _ _
      omega
  · intro hb
    have hf := eye_fits ys hs k hk hl hb
    rw [Nat.mod_eq_of_lt hf]
    have e := eye_found 18446744073709551615 ys hs k hk hl ha hc
    rw [if_neg hb, if_neg (by omega)] at e
    have := pv_again 18446744073709551615 ys hs (by omega) (by rw [e])
    rw [e] at this
    exact this

end Go.Proofs.YtjjhpffkeloadaaGreatDoor.C
