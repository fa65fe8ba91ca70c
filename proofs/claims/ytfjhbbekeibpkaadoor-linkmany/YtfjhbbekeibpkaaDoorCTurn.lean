import Derived.Test.YtfjhbbekeibpkaaDoorCWriter4
namespace Go.Proofs.YtfjhbbekeibpkaaDoor.C
open Go.RowKit

theorem beOf_snoc (N y s : Nat) (hy : y < 256) : beOf (N * 256 + y) (s + 1) = beOf N s ++ [y] := by
  unfold beOf
  rw [List.range_succ, List.map_append]
  congr 1
  · refine List.map_congr_left fun i hi => ?_
    have hi := List.mem_range.1 hi
    have e : s + 1 - 1 - i = (s - 1 - i) + 1 := by omega
    rw [e, Nat.pow_succ', ← Nat.div_div_eq_div_mul, show (N * 256 + y) / 256 = N by omega]
  · simp; omega
theorem varOf_cons (V k : Nat) : varOf V (k + 1) = (V % 128 + 128) :: varOf (V / 128) k := by
  unfold varOf
  rw [List.range_succ_eq_map, List.map_cons, List.map_map]
  simp only [Nat.pow_zero, Nat.div_one, List.cons_append]
  congr 2
  · refine List.map_congr_left fun i _ => ?_
    simp only [Function.comp, Nat.succ_eq_add_one]
    rw [Nat.pow_succ', ← Nat.div_div_eq_div_mul]
  · rw [Nat.pow_succ', ← Nat.div_div_eq_div_mul]

theorem pv_back (most : Nat) : ∀ (k V i acc : Nat) (rest : List Nat), V < 128 ^ (k + 1) → ((i = 0 ∧ k = 0) ∨ 128 ^ k ≤ V) → acc + 128 ^ i * V ≤ most → i + k ≤ 9 → (i + k = 9 → V / 128 ^ k ≤ 1) →
    pVar most (varOf V k ++ rest) i acc = ⟨acc + 128 ^ i * V, 0, 0, i + k + 1, 0⟩ := by
  intro k
  induction k with
  | zero =>
    intro V i acc rest hV hs hm hi h9
    have e : varOf V 0 ++ rest = V :: rest := by simp [varOf]
    rw [e]
    have h1 : ¬ (i = 9 ∧ 1 < V) := by
      rintro ⟨rfl, h⟩
      have := h9 (by omega)
      simp at this; omega
    have h3 : ¬ (V = 0 ∧ 0 < i) := by
      rintro ⟨rfl, h⟩
      rcases hs with ⟨h', _⟩ | h'
      · omega
      · simp at h'
    rw [pVar, if_neg h1, if_neg (by omega), if_neg h3, if_neg (by rw [Nat.mul_comm]; omega), Nat.mul_comm V]
  | succ k ih =>
    intro V i acc rest hV hs hm hi h9
    rw [varOf_cons, List.cons_append]
    have h1 : ¬ (i = 9 ∧ 1 < V % 128 + 128) := by omega
    rw [pVar, if_neg h1, if_pos (by omega), Nat.add_sub_cancel]
    have hV' : V / 128 < 128 ^ (k + 1) := by rw [Nat.div_lt_iff_lt_mul (by omega)]; rw [Nat.pow_succ] at hV; omega
    have hk : 128 ^ k ≤ V / 128 := by
      rcases hs with ⟨_, h⟩ | h
      · omega
      · rw [Nat.le_div_iff_mul_le (by omega)]; rw [Nat.pow_succ] at h; exact h
    have hsum : acc + V % 128 * 128 ^ i + 128 ^ (i + 1) * (V / 128) = acc + 128 ^ i * V := by
      have : 128 ^ i * V = 128 ^ i * (V % 128 + 128 * (V / 128)) := by congr 1; omega
      rw [this, Nat.mul_add, Nat.pow_succ, Nat.mul_comm (V % 128), Nat.mul_assoc]; omega
    have h9' : i + 1 + k = 9 → V / 128 / 128 ^ k ≤ 1 := by
      intro h
      have := h9 (by omega)
      rw [Nat.div_div_eq_div_mul, ← Nat.pow_succ']; exact this
    rw [ih (V / 128) (i + 1) (acc + V % 128 * 128 ^ i) rest hV' (Or.inr hk) (by rw [hsum]; exact hm) (by omega) h9', hsum]
    congr 1
    omega

theorem vs_nine (n : Nat) (hn : n < 18446744073709551616) (_h : vs n - 1 = 9) : n / 128 ^ 9 ≤ 1 := by
  rw [show (128 : Nat) ^ 9 = 9223372036854775808 from rfl]; omega

theorem var_ok (n most : Nat) (rest : List Nat) (hn : n < 18446744073709551616) (hm : n ≤ most) : pVar most (varOf n (vs n - 1) ++ rest) 0 0 = ⟨n, 0, 0, vs n, 0⟩ := by
  have hb := vs_bounds n hn
  have hf := vs_fits n hn
  have e : vs n - 1 + 1 = vs n := by omega
  have := pv_back most (vs n - 1) n 0 0 rest (by rw [e]; exact hf) (by
    by_cases h : vs n - 1 = 0
    · exact Or.inl ⟨rfl, h⟩
    · exact Or.inr (vs_least n hn (by omega))) (by simpa using hm) (by omega) (fun h => by
      have h9 : vs n - 1 = 9 := by omega
      rw [h9]; exact vs_nine n hn h9)
  rw [this]
  simp; omega
theorem be_beOf (n : Nat) : ∀ s, be (beOf n s) = n % 256 ^ s := by
  intro s
  induction s generalizing n with
  | zero => simp [beOf, be, Nat.mod_one]
  | succ s ih =>
    have h := beOf_snoc (n / 256) (n % 256) s (Nat.mod_lt _ (by omega))
    rw [show n / 256 * 256 + n % 256 = n by omega] at h
    rw [h, be_snoc, ih, Nat.pow_succ']
    have := Nat.mod_mul (x := n) (a := 256) (b := 256 ^ s)
    omega

theorem rn_of (k : Int) (bound : Nat) (xs : List Nat) (a : Nat) (it : It) (h : pFind k bound (xs.drop a) = it) (hf : it.fault = 0) : rNext k bound xs a 0 = (it, a + it.size, 0) := by
  rw [rNext, if_neg (by omega), h, if_neg (by omega)]
theorem fx_ok (k : Int) (s n : Nat) (ys rest : List Nat) (hk : width k = s) (h3 : k ≠ 3) (h4 : k ≠ 4) (h5 : k ≠ 5) (hy : ys = beOf n s ++ rest) (hn : n < 256 ^ s) : pFind k 0 ys = ⟨n, 0, 0, s, 0⟩ := by
  simp only [pFind, if_neg h3, if_neg h4, if_neg h5, hk, pFixed]
  have hl : (beOf n s).length = s := by simp [beOf]
  rw [if_neg (by rw [hy, List.length_append, hl]; omega), hy, List.take_append_of_le_length (by omega), List.take_of_length_le (by omega), be_beOf, Nat.mod_eq_of_lt hn]

theorem by_most (most : Nat) (ys bs rest : List Nat) (hb : bs.length < 18446744073709551616) (hm : bs.length ≤ most) (hy : ys = (varOf bs.length (vs bs.length - 1) ++ bs) ++ rest) : pFind 4 most ys = ⟨0, vs bs.length, bs.length, vs bs.length + bs.length, 0⟩ := by
  simp only [pFind, show ¬ (4 : Int) = 3 by omega, if_false, if_true]
  rw [List.append_assoc] at hy
  have e := var_ok bs.length most (bs ++ rest) hb hm
  rw [← hy] at e
  have hv := vs_bounds bs.length hb
  have hl : ys.length = vs bs.length + bs.length + rest.length := by rw [hy]; simp [varOf_length]; omega
  unfold pBytes
  rw [e]
  simp only [ne_eq, not_true_eq_false, if_false]
  rw [if_neg (by rw [hl]; omega)]

end Go.Proofs.YtfjhbbekeibpkaaDoor.C
