import Derived.Test.YtfcakfedlcajaaaTrA
namespace Go.Proofs.Ytfcakfedlcajaaa
namespace Fl

/-- n / g to the nearest, ties to even. -/
def rneD (n g : Nat) : Nat := n / g + (decide (g < 2 * (n % g)) || (g == 2 * (n % g) && n / g % 2 == 1)).toNat

theorem rneD_scale (n g k : Nat) (hk : 0 < k) (_hg : 0 < g) : rneD (n * k) (g * k) = rneD n g := by
  unfold rneD
  have h1 : n * k / (g * k) = n / g := Nat.mul_div_mul_right n g hk
  have h2 : n * k % (g * k) = (n % g) * k := Nat.mul_mod_mul_right k n g
  rw [h1, h2]
  have e1 : (g * k < 2 * (n % g * k)) ↔ (g < 2 * (n % g)) := by
    rw [← Nat.mul_assoc]; exact Nat.mul_lt_mul_right hk
  have e2 : (g * k = 2 * (n % g * k)) ↔ (g = 2 * (n % g)) := by
    rw [← Nat.mul_assoc]; exact ⟨fun h => Nat.eq_of_mul_eq_mul_right hk h, fun h => congrArg (· * k) h⟩
  have e2' : (g * k == 2 * (n % g * k)) = (g == 2 * (n % g)) := by
    cases hb : (g == 2 * (n % g))
    · have : ¬ g = 2 * (n % g) := by simpa using hb
      simpa using fun h => this (e2.1 h)
    · have : g = 2 * (n % g) := by simpa using hb
      simpa using e2.2 this
  have e1' : decide (g * k < 2 * (n % g * k)) = decide (g < 2 * (n % g)) := by
    by_cases h : g < 2 * (n % g)
    · rw [decide_eq_true h, decide_eq_true (e1.2 h)]
    · rw [decide_eq_false h, decide_eq_false (fun c => h (e1.1 c))]
  rw [e1', e2']

theorem rneD_exact (n g : Nat) (hg : 0 < g) : rneD (n * g) g = n := by
  unfold rneD
  rw [Nat.mul_div_cancel n hg, Nat.mul_mod_left]
  have : ¬ g < 2 * 0 := by omega
  have h2 : (g == 2 * 0) = false := by simp; omega
  simp [this]
  omega

theorem log2_iff {n k : Nat} (h1 : 2 ^ k ≤ n) (h2 : n < 2 ^ (k + 1)) : n.log2 = k := by
  have h0 : n ≠ 0 := by have := Nat.two_pow_pos k; omega
  have a := (Nat.le_log2 h0).2 h1
  have b := (Nat.log2_lt h0).2 h2
  omega

theorem log2_self_le' {n : Nat} (h : n ≠ 0) : 2 ^ n.log2 ≤ n := (Nat.le_log2 h).1 (Nat.le_refl _)

theorem log2_mul {n : Nat} (h : n ≠ 0) (k : Nat) : (n * 2 ^ k).log2 = n.log2 + k := by
  refine log2_iff ?_ ?_
  · rw [Nat.pow_add]; exact Nat.mul_le_mul_right _ (log2_self_le' h)
  · have : n * 2 ^ k < 2 ^ (n.log2 + 1) * 2 ^ k := Nat.mul_lt_mul_of_pos_right Nat.lt_log2_self (Nat.two_pow_pos _)
    rw [← Nat.pow_add] at this
    rw [show n.log2 + k + 1 = n.log2 + 1 + k by omega]; exact this

/-- What is cut, with the whole gap. -/
theorem div_pow_small {n d : Nat} (h : n < 2 ^ d) : n / 2 ^ d = 0 ∧ n % 2 ^ d = n := ⟨Nat.div_eq_of_lt h, Nat.mod_eq_of_lt h⟩

theorem gap_cases (n drop : Nat) : (min drop (n.log2 + 2) = drop) ∨ (min drop (n.log2 + 2) = n.log2 + 2 ∧ n * 2 < 2 ^ (n.log2 + 2) ∧ n * 2 < 2 ^ drop) := by
  by_cases h : drop ≤ n.log2 + 2
  · exact Or.inl (Nat.min_eq_left h)
  · refine Or.inr ⟨Nat.min_eq_right (by omega), ?_, ?_⟩
    · have : n < 2 ^ (n.log2 + 1) := Nat.lt_log2_self
      rw [show n.log2 + 2 = n.log2 + 1 + 1 by omega, Nat.pow_succ]; omega
    · have a : n < 2 ^ (n.log2 + 1) := Nat.lt_log2_self
      have b : 2 ^ (n.log2 + 1 + 1) ≤ 2 ^ drop := Nat.pow_le_pow_right (by omega) (by omega)
      rw [Nat.pow_succ] at b; omega

theorem cut_even (s : Bool) (n drop : Nat) : Ieee.Toward.even.cut s n drop = rneD n (2 ^ drop) := by
  unfold Ieee.Toward.cut rneD
  simp only []
  rw [shl, Nat.one_mul]
  rcases gap_cases n drop with h | ⟨h, h1, h2⟩
  · rw [h]
  · rw [h]
    obtain ⟨a1, a2⟩ := div_pow_small (show n < 2 ^ (n.log2 + 2) by omega)
    obtain ⟨b1, b2⟩ := div_pow_small (show n < 2 ^ drop by omega)
    rw [a1, a2, b1, b2]
    have c1 : ¬ 2 ^ (n.log2 + 2) < 2 * n := by omega
    have c2 : ¬ 2 ^ drop < 2 * n := by omega
    simp [c1, c2]

theorem cut_up (s : Bool) (n drop : Nat) : Ieee.Toward.up.cut s n drop = n / 2 ^ drop + (!s && n % 2 ^ drop != 0).toNat := by
  unfold Ieee.Toward.cut
  simp only []
  rw [shl, Nat.one_mul]
  rcases gap_cases n drop with h | ⟨h, h1, h2⟩
  · rw [h]
  · rw [h]
    obtain ⟨a1, a2⟩ := div_pow_small (show n < 2 ^ (n.log2 + 2) by omega)
    obtain ⟨b1, b2⟩ := div_pow_small (show n < 2 ^ drop by omega)
    rw [a1, a2, b1, b2]

theorem cut_zero (s : Bool) (n drop : Nat) : Ieee.Toward.zero.cut s n drop = n / 2 ^ drop := by
  unfold Ieee.Toward.cut
  simp only []
  rw [shl, Nat.one_mul]
  rcases gap_cases n drop with h | ⟨h, h1, h2⟩
  · rw [h]; simp
  · rw [h]
    obtain ⟨a1, a2⟩ := div_pow_small (show n < 2 ^ (n.log2 + 2) by omega)
    obtain ⟨b1, b2⟩ := div_pow_small (show n < 2 ^ drop by omega)
    rw [a1, b1]; simp

/-- The place of the last digit that is kept. -/
def lastP (mag : Nat) (place : Int) : Int := max (place + (mag.log2 : Int) - 52) (-1074)

theorem nearest_form (s : Bool) {mag : Nat} (h : mag ≠ 0) (place : Int) (a b : Nat) (hab : (a : Int) - b = place - lastP mag place) :
    db.nearest s mag place = wd s (min ((lastP mag place + 1074).toNat * 4503599627370496 + rneD (mag * 2 ^ a) (2 ^ b)) 9218868437227405312) := by
  unfold Ieee.Format.nearest
  rw [if_neg h]
  simp only []
  rw [word_wd]
  have e0 : max (place + (mag.log2 : Int) - (db.fractionBits : Int)) db.leastPlace = lastP mag place := rfl
  rw [e0, cut_even, shl]
  have key : rneD (mag * 2 ^ (place - lastP mag place).toNat) (2 ^ (lastP mag place - place).toNat) = rneD (mag * 2 ^ a) (2 ^ b) := by
    by_cases c : 0 ≤ place - lastP mag place
    · have d1 : (lastP mag place - place).toNat = 0 := by omega
      have d2 : a = (place - lastP mag place).toNat + b := by omega
      rw [d1, d2, Nat.pow_add, ← Nat.mul_assoc]
      have := rneD_scale (mag * 2 ^ (place - lastP mag place).toNat) (2 ^ 0) (2 ^ b) (Nat.two_pow_pos _) (Nat.two_pow_pos _)
      rw [← this, Nat.pow_zero, Nat.one_mul]
    · have d1 : (place - lastP mag place).toNat = 0 := by omega
      have d2 : b = (lastP mag place - place).toNat + a := by omega
      rw [d1, d2, Nat.pow_add, Nat.pow_zero, Nat.mul_one]
      exact (rneD_scale mag (2 ^ (lastP mag place - place).toNat) (2 ^ a) (Nat.two_pow_pos _) (Nat.two_pow_pos _)).symm
  rw [key]
  rfl

/-- A number that the format has is written as it is. -/
theorem nearest_exact (s : Bool) {mag : Nat} (h : mag ≠ 0) (place : Int) (a b r : Nat) (hab : (a : Int) - b = place + 1074) (hr : r < 9218868437227405312) (hv : mag * 2 ^ a = V r * 2 ^ b) :
    db.nearest s mag place = wd s r := by
  have hp : 0 < 2 ^ b := Nat.two_pow_pos _
  have hV0 : V r ≠ 0 := by
    intro e; rw [e, Nat.zero_mul] at hv
    have := Nat.mul_pos (Nat.pos_of_ne_zero h) (Nat.two_pow_pos a); omega
  have hlog : mag.log2 + a = (V r).log2 + b := by rw [← log2_mul h a, hv, log2_mul hV0 b]
  by_cases c : r < 4503599627370496
  · have e : V r = r := by unfold V; rw [if_pos c]
    rw [e] at hlog hv hV0
    have hl : r.log2 < 52 := log2_lt (by omega) hV0
    have el : lastP mag place = -1074 := by unfold lastP; omega
    rw [nearest_form s h place a b (by rw [el]; omega), el, hv, rneD_exact _ _ hp]
    congr 1; omega
  · have e : V r = (4503599627370496 + r % 4503599627370496) * 2 ^ (r / 4503599627370496 - 1) := by unfold V; rw [if_neg c]
    have hm : (4503599627370496 + r % 4503599627370496).log2 = 52 := log2_iff (by omega) (by omega)
    have hlV : (V r).log2 = 52 + (r / 4503599627370496 - 1) := by rw [e, log2_mul (by omega), hm]
    generalize hq : r / 4503599627370496 - 1 = q at *
    have el : lastP mag place = (q : Int) - 1074 := by unfold lastP; omega
    rw [nearest_form s h place a (b + q) (by rw [el]; omega), el, hv, e, Nat.mul_assoc, ← Nat.pow_add, Nat.add_comm q b, rneD_exact _ _ (Nat.two_pow_pos _)]
    have d1 : ((q : Int) - 1074 + 1074).toNat = q := by omega
    have d2 : q * 4503599627370496 + (4503599627370496 + r % 4503599627370496) = r := by omega
    rw [d1, d2, Nat.min_eq_left (Nat.le_of_lt hr)]

/-- So many least units are one. -/
def U : Nat := 2 ^ 250 * 2 ^ 250 * 2 ^ 250 * 2 ^ 250 * 2 ^ 74
theorem U_is {k : Nat} (h : k = 1074) : 2 ^ k = U := by
  obtain ⟨a, b, c, d, e, ha, hb, hc, hd, he⟩ : ∃ a b c d e : Nat, a = 250 ∧ b = 250 ∧ c = 250 ∧ d = 250 ∧ e = 74 := ⟨_, _, _, _, _, rfl, rfl, rfl, rfl, rfl⟩
  rw [show k = a + b + c + d + e by omega, Nat.pow_add, Nat.pow_add, Nat.pow_add, Nat.pow_add, ha, hb, hc, hd, he]
  rfl
theorem U_pow {a b : Nat} (h : a + b = 1074) : 2 ^ a * 2 ^ b = U := by rw [← Nat.pow_add]; exact U_is h
theorem U_pos : 0 < U := by
  obtain ⟨k, hk⟩ : ∃ k, k = 1074 := ⟨_, rfl⟩
  rw [← U_is hk]; exact Nat.two_pow_pos k

/-- Whole numbers up to 2^53 are words. -/
theorem whole_word {C : Nat} (h : C ≤ 9007199254740992) : ∃ r, r ≤ 4845873199050653696 ∧ V r = C * U := by
  by_cases h0 : C = 0
  · exact ⟨0, by omega, by rw [h0, V_zero, Nat.zero_mul]⟩
  · have h1 := log2_self_le' h0
    have h2 : C < 2 ^ (C.log2 + 1) := Nat.lt_log2_self
    by_cases hb : C = 9007199254740992
    · refine ⟨4845873199050653696, Nat.le_refl _, ?_⟩
      obtain ⟨k, hk⟩ : ∃ k, 4845873199050653696 / 4503599627370496 - 1 = k + 1 := ⟨1074, by omega⟩
      unfold V
      rw [if_neg (by omega), show 4845873199050653696 % 4503599627370496 = 0 by omega, hk, Nat.pow_succ, U_is (show k = 1074 by omega), hb]
      generalize U = u
      omega
    · have hl : C.log2 ≤ 52 := by have := log2_lt (show C < 2 ^ 53 by omega) h0; omega
      have h3 : 2 ^ C.log2 * 2 ^ (52 - C.log2) = 4503599627370496 := by rw [← Nat.pow_add, show C.log2 + (52 - C.log2) = 52 by omega]
      have h4 : 2 ^ (C.log2 + 1) * 2 ^ (52 - C.log2) = 9007199254740992 := by rw [← Nat.pow_add, show C.log2 + 1 + (52 - C.log2) = 53 by omega]
      have a1 : 4503599627370496 ≤ C * 2 ^ (52 - C.log2) := by rw [← h3]; exact Nat.mul_le_mul_right _ h1
      have a2 : C * 2 ^ (52 - C.log2) < 9007199254740992 := by rw [← h4]; exact Nat.mul_lt_mul_of_pos_right h2 (Nat.two_pow_pos _)
      have hpow : 2 ^ (52 - C.log2) * 2 ^ (1022 + C.log2) = U := U_pow (by omega)
      have hv : ∀ K, C * 2 ^ (52 - C.log2) = K → K * 2 ^ (1022 + C.log2) = C * U := by
        intro K hK; rw [← hK, Nat.mul_assoc, hpow]
      generalize hK : C * 2 ^ (52 - C.log2) = K at *
      generalize hL : C.log2 = L at *
      refine ⟨(1022 + L) * 4503599627370496 + K, by omega, ?_⟩
      unfold V
      rw [if_neg (by omega)]
      have d1 : ((1022 + L) * 4503599627370496 + K) / 4503599627370496 - 1 = 1022 + L := by omega
      have d2 : 4503599627370496 + ((1022 + L) * 4503599627370496 + K) % 4503599627370496 = K := by omega
      rw [d1, d2]
      exact hv K rfl

/-- A whole number's float. -/
theorem ofInt_exact {n : Int} (h : n.natAbs ≤ 9007199254740992) : ∃ r, r ≤ 4845873199050653696 ∧ V r = n.natAbs * U ∧ floatOfInt .f64 n = wd (decide (n < 0)) r := by
  obtain ⟨r, h1, h2⟩ := whole_word h
  refine ⟨r, h1, h2, ?_⟩
  show db.nearest (decide (n < 0)) n.natAbs 0 = _
  by_cases h0 : n.natAbs = 0
  · unfold Ieee.Format.nearest
    rw [if_pos h0, word_wd]
    rw [h0, Nat.zero_mul] at h2
    have : r = 0 := V_inj (by rw [h2, V_zero])
    rw [this]
  · obtain ⟨k, hk⟩ : ∃ k, k = 1074 := ⟨_, rfl⟩
    exact nearest_exact _ h0 0 k 0 r (by omega) (by omega) (by rw [h2, Nat.pow_zero, Nat.mul_one, U_is hk])

/-- How far up a word lies: the amount of its ceiling. -/
def clN (x : Nat) : Nat := V (rg x) / U + (!ng x && V (rg x) % U != 0).toNat
def cl (x : Nat) : Int := sg (ng x) (clN x)

theorem read_fin3 {x : Nat} (h : Fnt x) : ∃ m p : Nat, db.read x = .number (ng x) m (-1074 + (p : Int)) ∧ m * 2 ^ p = V (rg x) ∧ m < 9007199254740992 ∧ p ≤ 2045 ∧ (m < 4503599627370496 → p = 0) := by
  by_cases h1 : rg x < 4503599627370496
  · refine ⟨rg x, 0, ?_, ?_, by omega, by omega, fun _ => rfl⟩
    · have e : (x % 9223372036854775808 < 4503599627370496) := h1
      show (if x % 9223372036854775808 < 4503599627370496 then Ieee.Datum.number (x / 9223372036854775808 % 2 == 1) (x % 9223372036854775808) (-1074) else _) = _
      rw [if_pos e]; rfl
    · simp [V, h1]
  · have hf : rg x < 9218868437227405312 := h
    refine ⟨4503599627370496 + rg x % 4503599627370496, rg x / 4503599627370496 - 1, ?_, ?_, by omega, by omega, fun h => absurd h (by omega)⟩
    · have e : ¬ (x % 9223372036854775808 < 4503599627370496) := h1
      have e2 : (x % 9223372036854775808 < 9218868437227405312) := h
      show (if x % 9223372036854775808 < 4503599627370496 then _ else if x % 9223372036854775808 < 9218868437227405312 then Ieee.Datum.number (x / 9223372036854775808 % 2 == 1) (4503599627370496 + x % 9223372036854775808 % 4503599627370496) (-1074 + ((x % 9223372036854775808 / 4503599627370496 - 1 : Nat) : Int)) else _) = _
      rw [if_neg e, if_pos e2]; rfl
    · simp [V, h1]

/-- A word's number cut to a whole one, by its worth. -/
theorem part_whole {m p v : Nat} (hv : m * 2 ^ p = v) : (m <<< (-1074 + (p : Int)).toNat) / 2 ^ (-(-1074 + (p : Int))).toNat = v / U ∧ ((m <<< (-1074 + (p : Int)).toNat) % 2 ^ (-(-1074 + (p : Int))).toNat = 0 ↔ v % U = 0) := by
  rw [shl, ← hv]
  by_cases c : 1074 ≤ p
  · have d1 : (-1074 + (p : Int)).toNat = p - 1074 := by omega
    have d2 : (-(-1074 + (p : Int))).toNat = 0 := by omega
    have d3 : 2 ^ p = 2 ^ (p - 1074) * U := by
      obtain ⟨k, hk⟩ : ∃ k, k = 1074 := ⟨_, rfl⟩
      rw [← U_is hk, ← Nat.pow_add]; congr 1; omega
    rw [d1, d2, d3, Nat.pow_zero, Nat.div_one, Nat.mod_one, ← Nat.mul_assoc, Nat.mul_div_cancel _ U_pos, Nat.mul_mod_left]
    exact ⟨rfl, Iff.rfl⟩
  · have d1 : (-1074 + (p : Int)).toNat = 0 := by omega
    have d2 : (-(-1074 + (p : Int))).toNat = 1074 - p := by omega
    have hp : 0 < 2 ^ p := Nat.two_pow_pos _
    rw [d1, d2, Nat.pow_zero, Nat.mul_one, ← U_pow (show 1074 - p + p = 1074 by omega), Nat.mul_div_mul_right _ _ hp, Nat.mul_mod_mul_right]
    refine ⟨rfl, ⟨fun h => by rw [h, Nat.zero_mul], fun h => ?_⟩⟩
    rcases Nat.mul_eq_zero.1 h with h | h
    · exact h
    · omega

theorem up_read {x : Nat} (h : Fnt x) : (db.read x).integral .up = .number (ng x) (clN x) 0 := by
  obtain ⟨m, p, e, hv, -⟩ := read_fin3 h
  rw [e]
  show Ieee.Datum.number (ng x) (Ieee.Toward.up.cut (ng x) (m <<< (-1074 + (p : Int)).toNat) (-(-1074 + (p : Int))).toNat) 0 = _
  rw [cut_up]
  obtain ⟨a, b⟩ := part_whole hv
  rw [a]
  unfold clN
  have e2 : ((m <<< (-1074 + (p : Int)).toNat) % 2 ^ (-(-1074 + (p : Int))).toNat != 0) = (V (rg x) % U != 0) := by
    by_cases c : V (rg x) % U = 0
    · rw [b.2 c, c]
    · have : ¬ (m <<< (-1074 + (p : Int)).toNat) % 2 ^ (-(-1074 + (p : Int))).toNat = 0 := fun h => c (b.1 h)
      rw [bne_iff_ne.2 this, bne_iff_ne.2 c]
  rw [e2]

theorem zero_read {x : Nat} (h : Fnt x) : (db.read x).toInt .zero = some (sg (ng x) (V (rg x) / U)) := by
  obtain ⟨m, p, e, hv, -⟩ := read_fin3 h
  rw [e]
  show some (Ieee.signed (ng x) (Ieee.Toward.zero.cut (ng x) (m <<< (-1074 + (p : Int)).toNat) (-(-1074 + (p : Int))).toNat) 0) = _
  rw [cut_zero, (part_whole hv).1, signed_sg, Nat.pow_zero, Nat.mul_one]

theorem toNat_le (b : Bool) : b.toNat ≤ 1 := by cases b <;> decide

/-- The ceiling's word. -/
theorem up_word {x : Nat} (h : Fnt x) : ∃ r, r < 9218868437227405312 ∧ V r = clN x * U ∧ db.nearest (ng x) (clN x) 0 = wd (ng x) r := by
  have hcl : ∃ r, r < 9218868437227405312 ∧ V r = clN x * U := by
    obtain ⟨m, p, e, hv, hm, _⟩ := read_fin3 h
    by_cases c : 1074 ≤ p
    · have d3 : 2 ^ p = 2 ^ (p - 1074) * U := by
        obtain ⟨k, hk⟩ : ∃ k, k = 1074 := ⟨_, rfl⟩
        rw [← U_is hk, ← Nat.pow_add]; congr 1; omega
      have hv2 : V (rg x) = m * 2 ^ (p - 1074) * U := by rw [← hv, d3, Nat.mul_assoc]
      refine ⟨rg x, h, ?_⟩
      unfold clN
      rw [hv2, Nat.mul_mod_left, Nat.mul_div_cancel _ U_pos]
      simp
    · have hp : 0 < 2 ^ p := Nat.two_pow_pos _
      have h1 : V (rg x) / U = m / 2 ^ (1074 - p) := by rw [← hv, ← U_pow (show 1074 - p + p = 1074 by omega), Nat.mul_div_mul_right _ _ hp]
      have h2 : m / 2 ^ (1074 - p) ≤ m := Nat.div_le_self _ _
      have h3 := toNat_le (!ng x && V (rg x) % U != 0)
      obtain ⟨r, r1, r2⟩ := whole_word (C := clN x) (by unfold clN; rw [h1]; omega)
      exact ⟨r, by omega, r2⟩
  obtain ⟨r, r1, r2⟩ := hcl
  refine ⟨r, r1, r2, ?_⟩
  by_cases h0 : clN x = 0
  · rw [h0, Nat.zero_mul] at r2
    have : r = 0 := V_inj (by rw [r2, V_zero])
    unfold Ieee.Format.nearest
    rw [if_pos h0, word_wd, this]
  · obtain ⟨k, hk⟩ : ∃ k, k = 1074 := ⟨_, rfl⟩
    exact nearest_exact _ h0 0 k 0 r (by omega) r1 (by rw [r2, Nat.pow_zero, Nat.mul_one, U_is hk])

theorem V_top : V 4890909195324358656 = 9223372036854775808 * U := by
  obtain ⟨k, hk⟩ : ∃ k, k = 1074 := ⟨_, rfl⟩
  unfold V
  rw [if_neg (by omega), show 4890909195324358656 % 4503599627370496 = 0 by omega, show 4890909195324358656 / 4503599627370496 - 1 = 11 + k by omega, Nat.pow_add, U_is hk]
  generalize U = u
  omega

theorem le_V {a b : Nat} : V a ≤ V b ↔ a ≤ b := ⟨fun h => by
  apply Nat.le_of_not_lt; intro c; have := V_lt c; omega, V_le⟩

/-- The ceiling's word against 2^63 and its opposite. -/
theorem up_top {x r : Nat} (h2 : V r = clN x * U) : (4890909195324358656 ≤ r ↔ 9223372036854775808 ≤ clN x) := by
  rw [← le_V, h2, V_top]
  exact ⟨fun h => Nat.le_of_mul_le_mul_right h U_pos, fun h => Nat.mul_le_mul_right _ h⟩

end Fl
end Go.Proofs.Ytfcakfedlcajaaa
namespace Go.Proofs.Ytfcakfedlcajaaa
namespace Fl

/-- The wide numbers' arithmetic, by halves. -/
theorem or_add {P c : Nat} (n : Nat) (hP : P = 2 ^ n) (hc : c < P) (a : Nat) : (P * a) ||| c = P * a + c := by
  subst hP; exact (Nat.two_pow_add_eq_or_of_lt hc a).symm

theorem shl_mid {H L P Q B : Nat} (n : Nat) (hP : P = 2 ^ n) (hB : P * Q = B) (hp : 0 < P) (hq : 0 < Q) (hL : L < B) :
    ((H * P) % B ||| (L / Q)) * B + (L * P) % B = ((H * B + L) * P) % (B * B) := by
  subst hB
  have c1 : L / Q < P := by rw [Nat.div_lt_iff_lt_mul hq]; exact hL
  have e1 : (H * P) % (P * Q) = P * (H % Q) := by rw [Nat.mul_comm H P, Nat.mul_mod_mul_left]
  have e2 : (L * P) % (P * Q) = P * (L % Q) := by rw [Nat.mul_comm L P, Nat.mul_mod_mul_left]
  rw [e1, e2, or_add n hP c1]
  have hH := Nat.div_add_mod H Q
  have hL' := Nat.div_add_mod L Q
  have h0 : H % Q < Q := Nat.mod_lt _ hq
  have l0 : L % Q < Q := Nat.mod_lt _ hq
  generalize H / Q = h1 at *
  generalize H % Q = h0' at *
  generalize L / Q = c at *
  generalize L % Q = l0' at *
  have hx : (P * h0' + c) * (P * Q) + P * l0' < (P * Q) * (P * Q) := by
    have a1 : P * h0' + c + 1 ≤ P * Q := by
      have : P * (h0' + 1) ≤ P * Q := Nat.mul_le_mul_left _ (by omega)
      rw [Nat.mul_add, Nat.mul_one] at this; omega
    have a2 : (P * h0' + c + 1) * (P * Q) ≤ (P * Q) * (P * Q) := Nat.mul_le_mul_right _ a1
    have a3 : P * (l0' + 1) ≤ P * Q := Nat.mul_le_mul_left _ (by omega)
    rw [Nat.add_mul, Nat.one_mul] at a2
    rw [Nat.mul_add, Nat.mul_one] at a3
    omega
  have e3 : (H * (P * Q) + L) * P = ((P * h0' + c) * (P * Q) + P * l0') + h1 * ((P * Q) * (P * Q)) := by
    rw [← hH, ← hL']
    simp only [Nat.mul_add, Nat.mul_comm, Nat.mul_left_comm]
    simp only [Nat.add_comm, Nat.add_left_comm, Nat.add_assoc]
  rw [e3, Nat.add_mul_mod_self_right, Nat.mod_eq_of_lt hx]

theorem shl_high {H L P B : Nat} : (L * P) % B * B + 0 = ((H * B + L) * (P * B)) % (B * B) := by
  rw [Nat.add_zero, ← Nat.mul_assoc, Nat.mul_mod_mul_right, Nat.add_mul]
  congr 1
  rw [show H * B * P = H * P * B by rw [Nat.mul_assoc, Nat.mul_comm B P, ← Nat.mul_assoc], Nat.add_comm, Nat.add_mul_mod_self_right]

theorem shr_mid {H L P Q B : Nat} (m : Nat) (hQ : Q = 2 ^ m) (hB : P * Q = B) (hp : 0 < P) (hL : L < B) :
    (H / P) * B + ((L / P) ||| (H * Q) % B) = (H * B + L) / P := by
  subst hB
  have c1 : L / P < Q := by rw [Nat.div_lt_iff_lt_mul hp, Nat.mul_comm]; exact hL
  have e1 : (H * Q) % (P * Q) = Q * (H % P) := by rw [Nat.mul_mod_mul_right, Nat.mul_comm]
  rw [e1, Nat.or_comm, or_add m hQ c1]
  have e2 : (H * (P * Q) + L) / P = H * Q + L / P := by
    rw [show H * (P * Q) = P * (H * Q) by rw [Nat.mul_left_comm], Nat.add_comm, Nat.add_mul_div_left _ _ hp, Nat.add_comm]
  rw [e2, ← Nat.add_assoc]
  congr 1
  have hH := Nat.div_add_mod H P
  generalize H / P = a at *
  generalize H % P = b at *
  rw [← hH, Nat.add_mul]
  congr 1
  · rw [Nat.mul_left_comm, Nat.mul_assoc]
  · rw [Nat.mul_comm]

theorem shr_high {H L P B : Nat} (hL : L < B) : H / P = (H * B + L) / (P * B) := by
  rw [Nat.mul_comm P B, ← Nat.div_div_eq_div_mul]
  congr 1
  rw [Nat.mul_comm, Nat.mul_add_div (by omega), Nat.div_eq_of_lt hL, Nat.add_zero]

/-- How many bits a number has. -/
def sz (W : Nat) : Nat := if W = 0 then 0 else W.log2 + 1
theorem sz_iff (W n : Nat) : W / 2 ^ n = 0 ↔ sz W ≤ n := by
  unfold sz
  by_cases h : W = 0
  · rw [if_pos h, h]; simp
  · rw [if_neg h]
    rw [Nat.div_eq_zero_iff_lt (Nat.two_pow_pos _)]
    constructor
    · intro c; have := (Nat.log2_lt h).2 c; omega
    · intro c; exact (Nat.log2_lt h).1 (by omega)
theorem sz_le {W k : Nat} (h : W < 2 ^ k) : sz W ≤ k := (sz_iff W k).1 (Nat.div_eq_of_lt h)

end Fl
end Go.Proofs.Ytfcakfedlcajaaa
