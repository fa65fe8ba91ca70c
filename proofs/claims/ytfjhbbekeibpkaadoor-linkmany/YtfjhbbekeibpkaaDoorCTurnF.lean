import Derived.Test.YtfjhbbekeibpkaaDoorCAg2
namespace Go.Proofs.YtfjhbbekeibpkaaDoor.C
open Go.RowKit

/-- .. without its last byte it is cut short. -/
theorem pv_cut (most : Nat) : ∀ (k V i acc : Nat), i + k ≤ 9 → pVar most (varHd V k) i acc = no 10 := by
  intro k
  induction k with
  | zero => intro V i acc _; simp [varHd, pVar]
  | succ k ih =>
    intro V i acc hi
    have e : varHd V (k + 1) = (V % 128 + 128) :: varHd (V / 128) k := by
      have := varOf_cons V k
      unfold varOf at this
      rw [← List.cons_append] at this
      exact (List.append_inj' this rfl).1
    rw [e, pVar, if_neg (by omega), if_pos (by omega)]
    exact ih _ _ _ (by omega)

theorem var_cut (n most : Nat) (hn : n < 18446744073709551616) : pVar most ((varOf n (vs n - 1)).dropLast) 0 0 = no 10 := by
  have hb := vs_bounds n hn
  have e : (varOf n (vs n - 1)).dropLast = varHd n (vs n - 1) := by simp [varOf, varHd]
  rw [e]; exact pv_cut most _ n 0 0 (by omega)

theorem rn_short (k : Int) (bound : Nat) (xs : List Nat) (a : Nat) (h : pFind k bound (xs.drop a) = no 10) : (rNext k bound xs a 0).2 = (a, 10) := by
  rw [rNext, if_neg (by omega), h]; simp [no]

theorem fx_cut (k : Int) (s n : Nat) (ys : List Nat) (hk : width k = s) (h3 : k ≠ 3) (h4 : k ≠ 4) (h5 : k ≠ 5) (hy : ys = (beOf n s).dropLast) (hs : 0 < s) : pFind k 0 ys = no 10 := by
  simp only [pFind, if_neg h3, if_neg h4, if_neg h5, hk, pFixed]
  rw [if_pos (by rw [hy, List.length_dropLast]; simp [beOf]; omega)]

theorem by_ok (ys bs rest : List Nat) (hb : bs.length < 18446744073709551616) (hy : ys = (varOf bs.length (vs bs.length - 1) ++ bs) ++ rest) : pFind 4 bs.length ys = ⟨0, vs bs.length, bs.length, vs bs.length + bs.length, 0⟩ := by
  simp only [pFind, show ¬ (4 : Int) = 3 by omega, if_false, if_true]
  rw [List.append_assoc] at hy
  have e := var_ok bs.length bs.length (bs ++ rest) hb (Nat.le_refl _)
  rw [← hy] at e
  have hv := vs_bounds bs.length hb
  have hl : ys.length = vs bs.length + bs.length + rest.length := by rw [hy]; simp [varOf_length]; omega
  unfold pBytes
  rw [e]
  simp only [ne_eq, not_true_eq_false, if_false]
  rw [if_neg (by rw [hl]; omega)]
theorem by_cut (ys bs : List Nat) (hb : bs.length < 18446744073709551616) (hy : ys = (varOf bs.length (vs bs.length - 1) ++ bs).dropLast) : pFind 4 bs.length ys = no 10 := by
  simp only [pFind, show ¬ (4 : Int) = 3 by omega, if_false, if_true]
  have hv := vs_bounds bs.length hb
  by_cases h0 : bs = []
  · subst h0
    rw [List.append_nil] at hy
    have e := var_cut ([] : List Nat).length ([] : List Nat).length hb
    rw [← hy] at e
    unfold pBytes
    rw [e]
    simp [no]
  · rw [List.dropLast_append_of_ne_nil h0] at hy
    have e := var_ok bs.length bs.length bs.dropLast hb (Nat.le_refl _)
    rw [← hy] at e
    have hp := List.length_pos_iff.2 h0
    have hl : ys.length = vs bs.length + (bs.length - 1) := by rw [hy]; simp [varOf_length]; omega
    unfold pBytes
    rw [e]
    simp only [ne_eq, not_true_eq_false, if_false]
    rw [if_pos (by rw [hl]; omega)]

end Go.Proofs.YtfjhbbekeibpkaaDoor.C
