import Derived.Test.YtlnldipiofddkaaAg2
namespace Go.Proofs.Ytlnldipiofddkaa
open Go.RowKit

/-- A NUMBER THAT WAS WRITTEN IS READ: behind i bytes that make acc. -/
theorem pv_back (most : Nat) : ∀ (k V i acc : Nat) (rest : List Nat), V < 128 ^ (k + 1) → ((i = 0 ∧ k = 0) ∨ 128 ^ k ≤ V) → acc + 128 ^ i * V ≤ most → i + k ≤ 9 → (i + k = 9 → V / 128 ^ k ≤ 1) →
    pVar most (varOf V k ++ rest) i acc = ⟨acc + 128 ^ i * V, 0, 0, i + k + 1, 0⟩ := by
  intro k
  induction k with
  | zero =>
    intro V i acc rest hV hs hm hi h9
    have e : varOf V 0 ++ rest = V :: rest := by simp [varOf]
    rw [e]
    have h1 : ¬ (i = 9 ∧ 1 < V) := by
      rintro ⟨rfl, h⟩
      have := h9 (by omega)
      simp at this; omega
    have h3 : ¬ (V = 0 ∧ 0 < i) := by
      rintro ⟨rfl, h⟩
      rcases hs with ⟨h', _⟩ | h'
      · omega
      · simp at h'
    rw [pVar, if_neg h1, if_neg (by omega), if_neg h3, if_neg (by rw [Nat.mul_comm]; omega), Nat.mul_comm V]
  | succ k ih =>
    intro V i acc rest hV hs hm hi h9
    rw [varOf_cons, List.cons_append]
    have h1 : ¬ (i = 9 ∧ 1 < V % 128 + 128) := by omega
    rw [pVar, if_neg h1, if_pos (by omega), Nat.add_sub_cancel]
    have hV' : V / 128 < 128 ^ (k + 1) := by rw [Nat.div_lt_iff_lt_mul (by omega)]; rw [Nat.pow_succ] at hV; omega
    have hk : 128 ^ k ≤ V / 128 := by
      rcases hs with ⟨_, h⟩ | h
      · omega
      · rw [Nat.le_div_iff_mul_le (by omega)]; rw [Nat.pow_succ] at h; exact h
    have hsum : acc + V % 128 * 128 ^ i + 128 ^ (i + 1) * (V / 128) = acc + 128 ^ i * V := by
      have : 128 ^ i * V = 128 ^ i * (V % 128 + 128 * (V / 128)) := by congr 1; omega
      rw [this, Nat.mul_add, Nat.pow_succ, Nat.mul_comm (V % 128), Nat.mul_assoc]; omega
    have h9' : i + 1 + k = 9 → V / 128 / 128 ^ k ≤ 1 := by
      intro h
      have := h9 (by omega)
      rw [Nat.div_div_eq_div_mul, ← Nat.pow_succ']; exact this
    rw [ih (V / 128) (i + 1) (acc + V % 128 * 128 ^ i) rest hV' (Or.inr hk) (by rw [hsum]; exact hm) (by omega) h9', hsum]
    congr 1
    omega

/-- .. without its last byte it is cut short. -/
theorem pv_cut (most : Nat) : ∀ (k V i acc : Nat), i + k ≤ 9 → pVar most (varHd V k) i acc = no 10 := by
  intro k
  induction k with
  | zero => intro V i acc _; simp [varHd, pVar]
  | succ k ih =>
    intro V i acc hi
    have e : varHd V (k + 1) = (V % 128 + 128) :: varHd (V / 128) k := by
      have := varOf_cons V k
      unfold varOf at this
      rw [← List.cons_append] at this
      exact (List.append_inj' this rfl).1
    rw [e, pVar, if_neg (by omega), if_pos (by omega)]
    exact ih _ _ _ (by omega)

theorem vs_nine (n : Nat) (hn : n < 18446744073709551616) (_h : vs n - 1 = 9) : n / 128 ^ 9 ≤ 1 := by
  rw [show (128 : Nat) ^ 9 = 9223372036854775808 from rfl]; omega

theorem var_ok (n most : Nat) (rest : List Nat) (hn : n < 18446744073709551616) (hm : n ≤ most) : pVar most (varOf n (vs n - 1) ++ rest) 0 0 = ⟨n, 0, 0, vs n, 0⟩ := by
  have hb := vs_bounds n hn
  have hf := vs_fits n hn
  have e : vs n - 1 + 1 = vs n := by omega
  have := pv_back most (vs n - 1) n 0 0 rest (by rw [e]; exact hf) (by
    by_cases h : vs n - 1 = 0
    · exact Or.inl ⟨rfl, h⟩
    · exact Or.inr (vs_least n hn (by omega))) (by simpa using hm) (by omega) (fun h => by
      have h9 : vs n - 1 = 9 := by omega
      rw [h9]; exact vs_nine n hn h9)
  rw [this]
  simp; omega
theorem var_cut (n most : Nat) (hn : n < 18446744073709551616) : pVar most ((varOf n (vs n - 1)).dropLast) 0 0 = no 10 := by
  have hb := vs_bounds n hn
  have e : (varOf n (vs n - 1)).dropLast = varHd n (vs n - 1) := by simp [varOf, varHd]
  rw [e]; exact pv_cut most _ n 0 0 (by omega)

theorem be_beOf (n : Nat) : ∀ s, be (beOf n s) = n % 256 ^ s := by
  intro s
  induction s generalizing n with
  | zero => simp [beOf, be, Nat.mod_one]
  | succ s ih =>
    have h := beOf_snoc (n / 256) (n % 256) s (Nat.mod_lt _ (by omega))
    rw [show n / 256 * 256 + n % 256 = n by omega] at h
    rw [h, be_snoc, ih, Nat.pow_succ']
    have := Nat.mod_mul (x := n) (a := 256) (b := 256 ^ s)
    omega

/-- What a step of a script writes. -/
def enc (o : Op1) : List Nat :=
  if o.kind = 1 then beOf (o.n % 256) 1
  else if o.kind = 2 then beOf (o.n % 4294967296) 4
  else if o.kind = 3 then beOf o.n 8
  else if o.kind = 4 then varOf o.n (vs o.n - 1)
  else if o.kind = 5 then varOf o.bs.length (vs o.bs.length - 1) ++ o.bs
  else if o.kind = 6 then o.bs
  else []

/-- The Reader's state behind a step read back. -/
def rBack (o : Op1) (xs : List Nat) (a f : Nat) : It × Nat × Nat :=
  if o.kind = 1 then rNext 0 0 xs a f
  else if o.kind = 2 then rNext 1 0 xs a f
  else if o.kind = 3 then rNext 2 0 xs a f
  else if o.kind = 4 then rNext 3 o.n xs a f
  else if o.kind = 5 then rNext 4 o.bs.length xs a f
  else if o.kind = 6 then rNext 5 o.bs.length xs a f
  else (no 0, a, f)
/-- .. and what it tells is what was written. -/
def Same (o : Op1) (xs : List Nat) (a : Nat) (x : It × Nat × Nat) : Prop :=
  (o.kind = 1 → x.1.num = o.n % 256) ∧ (o.kind = 2 → x.1.num = o.n % 4294967296) ∧ (o.kind = 3 → x.1.num = o.n) ∧ (o.kind = 4 → x.1.num = o.n) ∧ (o.kind = 5 → got xs a x = o.bs) ∧ (o.kind = 6 → got xs a x = o.bs)

theorem rn_of (k : Int) (bound : Nat) (xs : List Nat) (a : Nat) (it : It) (h : pFind k bound (xs.drop a) = it) (hf : it.fault = 0) : rNext k bound xs a 0 = (it, a + it.size, 0) := by
  rw [rNext, if_neg (by omega), h, if_neg (by omega)]
theorem rn_short (k : Int) (bound : Nat) (xs : List Nat) (a : Nat) (h : pFind k bound (xs.drop a) = no 10) : (rNext k bound xs a 0).2 = (a, 10) := by
  rw [rNext, if_neg (by omega), h]; simp [no]

theorem fx_ok (k : Int) (s n : Nat) (ys rest : List Nat) (hk : width k = s) (h3 : k ≠ 3) (h4 : k ≠ 4) (h5 : k ≠ 5) (hy : ys = beOf n s ++ rest) (hn : n < 256 ^ s) : pFind k 0 ys = ⟨n, 0, 0, s, 0⟩ := by
  simp only [pFind, if_neg h3, if_neg h4, if_neg h5, hk, pFixed]
  have hl : (beOf n s).length = s := by simp [beOf]
  rw [if_neg (by rw [hy, List.length_append, hl]; omega), hy, List.take_append_of_le_length (by omega), List.take_of_length_le (by omega), be_beOf, Nat.mod_eq_of_lt hn]
theorem fx_cut (k : Int) (s n : Nat) (ys : List Nat) (hk : width k = s) (h3 : k ≠ 3) (h4 : k ≠ 4) (h5 : k ≠ 5) (hy : ys = (beOf n s).dropLast) (hs : 0 < s) : pFind k 0 ys = no 10 := by
  simp only [pFind, if_neg h3, if_neg h4, if_neg h5, hk, pFixed]
  rw [if_pos (by rw [hy, List.length_dropLast]; simp [beOf]; omega)]

theorem by_ok (ys bs rest : List Nat) (hb : bs.length < 18446744073709551616) (hy : ys = (varOf bs.length (vs bs.length - 1) ++ bs) ++ rest) : pFind 4 bs.length ys = ⟨0, vs bs.length, bs.length, vs bs.length + bs.length, 0⟩ := by
  simp only [pFind, show ¬ (4 : Int) = 3 by omega, if_false, if_true]
  rw [List.append_assoc] at hy
  have e := var_ok bs.length bs.length (bs ++ rest) hb (Nat.le_refl _)
  rw [← hy] at e
  have hv := vs_bounds bs.length hb
  have hl : ys.length = vs bs.length + bs.length + rest.length := by rw [hy]; simp [varOf_length]; omega
  unfold pBytes
  rw [e]
  simp only [ne_eq, not_true_eq_false, if_false]
  rw [if_neg (by rw [hl]; omega)]
theorem by_cut (ys bs : List Nat) (hb : bs.length < 18446744073709551616) (hy : ys = (varOf bs.length (vs bs.length - 1) ++ bs).dropLast) : pFind 4 bs.length ys = no 10 := by
  simp only [pFind, show ¬ (4 : Int) = 3 by omega, if_false, if_true]
  have hv := vs_bounds bs.length hb
  by_cases h0 : bs = []
  · subst h0
    rw [List.append_nil] at hy
    have e := var_cut ([] : List Nat).length ([] : List Nat).length hb
    rw [← hy] at e
    unfold pBytes
    rw [e]
    simp [no]
  · rw [List.dropLast_append_of_ne_nil h0] at hy
    have e := var_ok bs.length bs.length bs.dropLast hb (Nat.le_refl _)
    rw [← hy] at e
    have hp := List.length_pos_iff.2 h0
    have hl : ys.length = vs bs.length + (bs.length - 1) := by rw [hy]; simp [varOf_length]; omega
    unfold pBytes
    rw [e]
    simp only [ne_eq, not_true_eq_false, if_false]
    rw [if_pos (by rw [hl]; omega)]

theorem turn_ok (o : Op1) (xs rest : List Nat) (a : Nat) (hn : o.n < 18446744073709551616) (hb : o.bs.length < 18446744073709551616) (h : xs.drop a = enc o ++ rest) :
    (rBack o xs a 0).2 = (a + (enc o).length, 0) ∧ Same o xs a (rBack o xs a 0) := by
  unfold rBack Same
  unfold enc at h ⊢
  by_cases k1 : o.kind = 1
  · simp only [k1, if_true] at h ⊢
    rw [rn_of 0 0 xs a _ (fx_ok 0 1 (o.n % 256) _ rest (by simp [width]) (by omega) (by omega) (by omega) h (by omega)) rfl]
    simp [beOf]
  simp only [if_neg k1] at h ⊢
  by_cases k2 : o.kind = 2
  · simp only [k2, if_true] at h ⊢
    rw [rn_of 1 0 xs a _ (fx_ok 1 4 (o.n % 4294967296) _ rest (by simp [width]) (by omega) (by omega) (by omega) h (by omega)) rfl]
    simp [beOf]
  simp only [if_neg k2] at h ⊢
  by_cases k3 : o.kind = 3
  · simp only [k3, if_true] at h ⊢
    rw [rn_of 2 0 xs a _ (fx_ok 2 8 o.n _ rest (by simp [width]) (by omega) (by omega) (by omega) h (by omega)) rfl]
    simp [beOf]
  simp only [if_neg k3] at h ⊢
  by_cases k4 : o.kind = 4
  · simp only [k4, if_true] at h ⊢
    have hv := vs_bounds o.n hn
    have e : pFind 3 o.n (xs.drop a) = ⟨o.n, 0, 0, vs o.n, 0⟩ := by
      simp only [pFind, if_true]; rw [h]; exact var_ok o.n o.n rest hn (Nat.le_refl _)
    rw [rn_of 3 o.n xs a _ e rfl, varOf_length]
    simp; omega
  simp only [if_neg k4] at h ⊢
  by_cases k5 : o.kind = 5
  · simp only [k5, if_true] at h ⊢
    have hv := vs_bounds o.bs.length hb
    rw [rn_of 4 o.bs.length xs a _ (by_ok _ o.bs rest hb h) rfl]
    rw [List.length_append, varOf_length]
    refine ⟨by simp only; congr 1; omega, by omega, by omega, by omega, by omega, fun _ => ?_, by omega⟩
    unfold got
    simp only
    rw [h, List.append_assoc, List.drop_append_of_le_length (by rw [varOf_length]; omega), List.drop_of_length_le (by rw [varOf_length]; omega), List.nil_append, List.take_append_of_le_length (Nat.le_refl _), List.take_length]
  simp only [if_neg k5] at h ⊢
  by_cases k6 : o.kind = 6
  · simp only [k6, if_true] at h ⊢
    have e : pFind 5 o.bs.length (xs.drop a) = ⟨0, 0, o.bs.length, o.bs.length, 0⟩ := by
      simp only [pFind, show ¬ (5 : Int) = 3 by omega, show ¬ (5 : Int) = 4 by omega, if_false, if_true, pRaw]
      rw [if_neg (by rw [h, List.length_append]; omega)]
    rw [rn_of 5 o.bs.length xs a _ e rfl]
    refine ⟨rfl, by omega, by omega, by omega, by omega, by omega, fun _ => ?_⟩
    unfold got
    simp only [List.drop_zero]
    rw [h, List.take_append_of_le_length (Nat.le_refl _), List.take_length]
  simp only [if_neg k6] at h ⊢
  exact ⟨rfl, by omega, by omega, by omega, by omega, by omega, by omega⟩

theorem turn_cut (o : Op1) (xs : List Nat) (a : Nat) (hn : o.n < 18446744073709551616) (hb : o.bs.length < 18446744073709551616) (h0 : enc o ≠ []) (h : xs.drop a = (enc o).dropLast) : (rBack o xs a 0).2 = (a, 10) := by
  unfold rBack
  unfold enc at h h0
  by_cases k1 : o.kind = 1
  · simp only [k1, if_true] at h ⊢
    exact rn_short 0 0 xs a (fx_cut 0 1 _ _ (by simp [width]) (by omega) (by omega) (by omega) h (by omega))
  simp only [if_neg k1] at h h0 ⊢
  by_cases k2 : o.kind = 2
  · simp only [k2, if_true] at h ⊢
    exact rn_short 1 0 xs a (fx_cut 1 4 _ _ (by simp [width]) (by omega) (by omega) (by omega) h (by omega))
  simp only [if_neg k2] at h h0 ⊢
  by_cases k3 : o.kind = 3
  · simp only [k3, if_true] at h ⊢
    exact rn_short 2 0 xs a (fx_cut 2 8 _ _ (by simp [width]) (by omega) (by omega) (by omega) h (by omega))
  simp only [if_neg k3] at h h0 ⊢
  by_cases k4 : o.kind = 4
  · simp only [k4, if_true] at h ⊢
    refine rn_short 3 o.n xs a ?_
    simp only [pFind, if_true]; rw [h]; exact var_cut o.n o.n hn
  simp only [if_neg k4] at h h0 ⊢
  by_cases k5 : o.kind = 5
  · simp only [k5, if_true] at h ⊢
    exact rn_short 4 _ xs a (by_cut _ o.bs hb h)
  simp only [if_neg k5] at h h0 ⊢
  by_cases k6 : o.kind = 6
  · simp only [k6, if_true] at h h0 ⊢
    refine rn_short 5 _ xs a ?_
    simp only [pFind, show ¬ (5 : Int) = 3 by omega, show ¬ (5 : Int) = 4 by omega, if_false, if_true, pRaw]
    have := List.length_pos_iff.2 h0
    rw [if_pos (by rw [h, List.length_dropLast]; omega)]
  simp only [if_neg k6] at h0
  exact absurd rfl h0

theorem turn_done (o : Op1) (xs : List Nat) (a f : Nat) (hf : f ≠ 0) : (rBack o xs a f).2 = (a, f) := by
  unfold rBack
  rw [rn_done _ _ _ _ _ hf, rn_done _ _ _ _ _ hf, rn_done _ _ _ _ _ hf, rn_done _ _ _ _ _ hf, rn_done _ _ _ _ _ hf, rn_done _ _ _ _ _ hf]
  simp

end Go.Proofs.Ytlnldipiofddkaa
