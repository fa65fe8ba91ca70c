import Derived.Test.YtgfegkcmoedgkaaRows
namespace Go.Proofs.Ytgfegkcmoedgkaa

/-! Numbers of 128 bits as the program holds them: their upper and lower word. -/
def hiw (x : Int) : Int := x / 18446744073709551616 % 18446744073709551616
def low (x : Int) : Int := x % 18446744073709551616
/-- A word of 64 bits as a number with a sign. -/
def sgn (l : Int) : Int := (l + 9223372036854775808) % 18446744073709551616 - 9223372036854775808
/-- The number is an int64. -/
def fits (x : Int) : Bool := decide (-9223372036854775808 ≤ x) && decide (x ≤ 9223372036854775807)
def fitv (x : Int) : Int := if fits x then x else 0
def I64 (x : Int) : Prop := -9223372036854775808 ≤ x ∧ x ≤ 9223372036854775807
def U64 (x : Int) : Prop := 0 ≤ x ∧ x < 18446744073709551616
def I128 (x : Int) : Prop := -170141183460469231731687303715884105728 ≤ x ∧ x < 170141183460469231731687303715884105728
/-- How far a number is from 0. -/
def amt (a : Int) : Int := if a < 0 then -a else a

theorem fits_iff (x : Int) : fits x = true ↔ I64 x := by simp [fits, I64]
theorem fitv_fits {x : Int} (h : fits x = true) : fitv x = x := by simp [fitv, h]
theorem fitv_not {x : Int} (h : fits x = false) : fitv x = 0 := by simp [fitv, h]
theorem not_fits {x : Int} (h : ¬ I64 x) : fits x = false := by
  cases e : fits x
  · rfl
  · exact absurd ((fits_iff x).1 e) h
theorem hiw_word (x : Int) : U64 (hiw x) := by unfold hiw U64; omega
theorem low_word (x : Int) : U64 (low x) := by unfold low U64; omega
theorem sgn_i64 (x : Int) : I64 (sgn x) := by unfold sgn I64; omega
theorem amt_word {a : Int} (h : I64 a) : 0 ≤ amt a ∧ amt a ≤ 9223372036854775808 := by
  obtain ⟨h1, h2⟩ := h
  unfold amt; split <;> omega

theorem low_add (x y : Int) : (low x + low y) % 18446744073709551616 = low (x + y) := by unfold low; omega
theorem hiw_add (x y : Int) : (hiw x + hiw y + (low x + low y) / 18446744073709551616) % 18446744073709551616 = hiw (x + y) := by unfold low hiw; omega
theorem low_sub (x y : Int) : (low x - low y) % 18446744073709551616 = low (x - y) := by unfold low; omega
def bor (x y : Int) : Int := if x < y then 1 else 0
theorem bor_0 (x y : Int) : 0 ≤ bor x y := by unfold bor; split <;> omega
theorem bor_1 (x y : Int) : bor x y ≤ 1 := by unfold bor; split <;> omega
theorem hiw_sub (x y : Int) : (hiw x - hiw y - bor (low x) (low y)) % 18446744073709551616 = hiw (x - y) := by unfold bor low hiw; split <;> omega
/-- What is narrowed is the number itself just where it is an int64. -/
theorem narrow_yes {x : Int} (h : I64 x) : sgn (low x) = x := by obtain ⟨h1, h2⟩ := h; unfold sgn low; omega
theorem narrow_iff {x : Int} (h : I128 x) : (hiw (sgn (low x)) = hiw x ∧ low (sgn (low x)) = low x) ↔ I64 x := by
  obtain ⟨h1, h2⟩ := h
  constructor
  · rintro ⟨e1, e2⟩
    unfold sgn low hiw at *
    unfold I64
    omega
  · intro hx
    rw [narrow_yes hx]; exact ⟨rfl, rfl⟩
theorem hiw_i64 {a : Int} (h : I64 a) : hiw a = if a < 0 then 18446744073709551615 else 0 := by
  obtain ⟨h1, h2⟩ := h
  unfold hiw; split <;> omega
theorem i128_add {x y : Int} (hx : I64 x) (hy : I64 y) : I128 (x + y) := by obtain ⟨h1, h2⟩ := hx; obtain ⟨h3, h4⟩ := hy; unfold I128; omega
theorem i128_sub {x y : Int} (hx : I64 x) (hy : I64 y) : I128 (x - y) := by obtain ⟨h1, h2⟩ := hx; obtain ⟨h3, h4⟩ := hy; unfold I128; omega

/-! Products. -/
theorem amt_mul_nonneg (a b : Int) : 0 ≤ amt a * amt b := by
  refine Int.mul_nonneg ?_ ?_ <;> (unfold amt; split <;> omega)
theorem amt_mul_le {a b : Int} (ha : I64 a) (hb : I64 b) : amt a * amt b ≤ 85070591730234615865843651857942052864 := by
  have h1 := amt_word ha
  have h2 := amt_word hb
  have : amt a * amt b ≤ 9223372036854775808 * 9223372036854775808 := Int.mul_le_mul h1.2 h2.2 h2.1 (by decide)
  omega
theorem mul_amt (a b : Int) : a * b = if (decide (a < 0) != decide (b < 0)) = true then 0 - amt a * amt b else amt a * amt b := by
  unfold amt
  by_cases h1 : a < 0 <;> by_cases h2 : b < 0 <;> simp [h1, h2, Int.neg_mul, Int.mul_neg]
theorem i128_mul {a b : Int} (ha : I64 a) (hb : I64 b) : I128 (a * b) := by
  have h1 := amt_mul_nonneg a b
  have h2 := amt_mul_le ha hb
  rw [mul_amt]
  unfold I128
  split <;> omega
theorem hiw_mul {a b : Int} (ha : I64 a) (hb : I64 b) : hiw (amt a * amt b) = amt a * amt b / 18446744073709551616 := by
  have h1 := amt_mul_nonneg a b
  have h2 := amt_mul_le ha hb
  generalize amt a * amt b = p at *
  unfold hiw; omega

/-- The document's test of a product. -/
theorem quo_fits {a b : Int} (hb0 : b ≠ 0) (h : fits (a * b) = true) : (sgn (a * b)).tdiv b = a := by
  have : sgn (a * b) = a * b := by
    have := (fits_iff _).1 h
    obtain ⟨h1, h2⟩ := this
    unfold sgn; omega
  rw [this]
  exact Int.mul_tdiv_cancel a hb0
theorem quo_not {a b : Int} (hb : I64 b) (h : fits (a * b) = false) : (sgn (a * b)).tdiv b ≠ a := by
  intro e
  have h1 := Int.mul_tdiv_add_tmod (sgn (a * b)) b
  rw [e] at h1
  have hb' : b ≠ 0 := by
    intro e0; subst e0
    simp [fits] at h
  have h2 : (sgn (a * b)).tmod b < 9223372036854775809 ∧ -9223372036854775809 < (sgn (a * b)).tmod b := by
    have h3 := Int.natAbs_tmod (sgn (a * b)) b
    have h4 : (sgn (a * b)).natAbs % b.natAbs < b.natAbs := Nat.mod_lt _ (by omega)
    obtain ⟨h5, h6⟩ := hb
    omega
  have h3 : ¬ I64 (a * b) := fun hh => by rw [(fits_iff _).2 hh] at h; cases h
  have h4 : b * a = a * b := Int.mul_comm _ _
  rw [h4] at h1
  generalize (sgn (a * b)).tmod b = r at *
  generalize hq : a * b = q at *
  unfold sgn I64 at *
  omega
end Go.Proofs.Ytgfegkcmoedgkaa
