import Derived.Test.YtfjhbbekeibpkaaDoorCPoly
namespace Go.Proofs.YtfjhbbekeibpkaaDoor.C

/-- What a linear map makes of v, by what it makes of the single bits. -/
def app : List Nat → Nat → Nat
  | [], _ => 0
  | m :: M, v => (if v % 2 = 1 then m else 0) ^^^ app M (v / 2)

/-- Rep m M: M lists what m steps make of the single bits. -/
def Rep (m : Nat) (M : List Nat) : Prop := M = (List.range 32).map fun i => Tn m (2 ^ i)

theorem app_from (m : Nat) : ∀ (l k v : Nat), v < 2 ^ l → app ((List.range' k l).map fun i => Tn m (2 ^ i)) v = Tn m (2 ^ k * v)
  | 0, k, v, h => by
    have : v = 0 := by simp at h; exact h
    subst this
    simp [app, Tn_zero]
  | l + 1, k, v, h => by
    rw [List.range'_succ, List.map_cons, app, app_from m l (k + 1) (v / 2) (by rw [Nat.pow_succ] at h; omega)]
    have hv : 2 ^ k * v = (2 ^ (k + 1) * (v / 2)) ^^^ (2 ^ k * (v % 2)) := by
      rw [split_xor (k + 1) _ _ (by rw [Nat.pow_succ]; exact Nat.mul_lt_mul_of_pos_left (Nat.mod_lt _ (by omega)) (Nat.two_pow_pos k))]
      rw [Nat.pow_succ, Nat.mul_assoc, ← Nat.mul_add]
      congr 1
      omega
    rw [hv, Tn_xor, Nat.xor_comm]
    congr 1
    rcases Nat.mod_two_eq_zero_or_one v with h1 | h1
    · simp [h1, Tn_zero]
    · simp [h1]

theorem app_rep {m : Nat} {M : List Nat} (h : Rep m M) (v : Nat) (hv : v < 4294967296) : app M v = Tn m v := by
  have := app_from m 32 0 v hv
  rw [h, List.range_eq_range']
  simpa using this

theorem rep_sq {m : Nat} {M : List Nat} (h : Rep m M) : Rep (m + m) (M.map (app M)) := by
  have hh : M = (List.range 32).map fun i => Tn m (2 ^ i) := h
  unfold Rep
  conv => lhs; rw [hh]
  rw [List.map_map, ← hh]
  apply List.map_congr_left
  intro i hi
  have hi' : i < 32 := List.mem_range.1 hi
  have hp : 2 ^ i < 4294967296 := Nat.lt_of_lt_of_le (Nat.pow_lt_pow_right (by omega) hi') (by omega)
  simp only [Function.comp]
  rw [app_rep h _ (Tn_lt m hp), ← Tn_add]

/-- By squaring. -/
def pw : Nat → List Nat → Nat → Nat → Nat
  | 0, _, _, v => v
  | f + 1, M, e, v => pw f (M.map (app M)) (e / 2) (if e % 2 = 1 then app M v else v)

theorem pw_rep : ∀ (f m : Nat) (M : List Nat) (e v : Nat), Rep m M → e < 2 ^ f → v < 4294967296 → pw f M e v = Tn (m * e) v
  | 0, m, M, e, v, _, he, _ => by
    have : e = 0 := by simp at he; exact he
    subst this; rfl
  | f + 1, m, M, e, v, h, he, hv => by
    have he2 : e / 2 < 2 ^ f := by rw [Nat.pow_succ] at he; omega
    rcases Nat.mod_two_eq_zero_or_one e with h1 | h1
    · rw [pw, if_neg (by omega), pw_rep f _ _ _ _ (rep_sq h) he2 hv]
      congr 1
      have : e = 2 * (e / 2) := by omega
      conv => rhs; rw [this]
      rw [← Nat.two_mul, Nat.mul_comm 2 m, Nat.mul_assoc]
    · rw [pw, if_pos h1, app_rep h v hv, pw_rep f _ _ _ _ (rep_sq h) he2 (Tn_lt m hv), ← Tn_add]
      congr 1
      have : e = 2 * (e / 2) + 1 := by omega
      conv => rhs; rw [this]
      rw [← Nat.two_mul, Nat.mul_add, Nat.mul_comm 2 m, Nat.mul_assoc]
      omega

def M1 : List Nat := (List.range 32).map fun i => T (2 ^ i)
theorem rep_one : Rep 1 M1 := rfl
theorem pw_one (e : Nat) (he : e < 2 ^ 32) : pw 32 M1 e 1 = Tn e 1 := by
  have := pw_rep 32 1 M1 e 1 rep_one he (by omega)
  simpa using this

theorem ord_all : Tn 4294967295 1 = 1 := by rw [← pw_one _ (by omega)]; decide +kernel
theorem ord_3 : Tn 1431655765 1 ≠ 1 := by rw [← pw_one _ (by omega)]; decide +kernel
theorem ord_5 : Tn 858993459 1 ≠ 1 := by rw [← pw_one _ (by omega)]; decide +kernel
theorem ord_17 : Tn 252645135 1 ≠ 1 := by rw [← pw_one _ (by omega)]; decide +kernel
theorem ord_257 : Tn 16711935 1 ≠ 1 := by rw [← pw_one _ (by omega)]; decide +kernel
theorem ord_65537 : Tn 65535 1 ≠ 1 := by rw [← pw_one _ (by omega)]; decide +kernel

theorem per_mul (g : Nat) (h : Tn g 1 = 1) : ∀ q, Tn (g * q) 1 = 1
  | 0 => rfl
  | q + 1 => by rw [Nat.mul_succ, Nat.add_comm, Tn_add, h, per_mul g h q]

theorem per_gcd : ∀ (m n : Nat), Tn m 1 = 1 → Tn n 1 = 1 → Tn (m.gcd n) 1 = 1 := by
  intro m n
  induction m, n using Nat.gcd.induction with
  | H0 n => intro _ h; simpa using h
  | H1 m n hm ih =>
    intro h1 h2
    rw [Nat.gcd_rec]
    refine ih ?_ h1
    have e : n = m * (n / m) + n % m := (Nat.div_add_mod n m).symm
    rw [e, Tn_add, per_mul m h1] at h2
    exact h2

theorem cop (g p : Nat) (hp : ∀ r, r < p → r = 0 ∨ Nat.gcd r p = 1) (h : g % p ≠ 0) (h0 : 0 < p) : Nat.Coprime g p := by
  unfold Nat.Coprime
  rw [Nat.gcd_comm, Nat.gcd_rec]
  rcases hp (g % p) (Nat.mod_lt _ h0) with h1 | h1
  · exact absurd h1 h
  · exact h1

theorem d15 (g : Nat) (a : g % 3 = 0) (b : g % 5 = 0) : g % 15 = 0 := by omega
theorem d255 (g : Nat) (a : g % 15 = 0) (b : g % 17 = 0) : g % 255 = 0 := by omega
theorem d65535 (g : Nat) (a : g % 255 = 0) (b : g % 257 = 0) : g % 65535 = 0 := by
  obtain ⟨k, hk⟩ : ∃ k, g = 255 * k := ⟨g / 255, by omega⟩
  subst hk
  have : Nat.Coprime 257 255 := by decide +kernel
  have h1 : 257 ∣ 255 * k := Nat.dvd_of_mod_eq_zero b
  obtain ⟨m, hm⟩ := this.dvd_of_dvd_mul_left h1
  subst hm
  rw [← Nat.mul_assoc]
  exact Nat.mul_mod_right 65535 m
theorem ends (N g : Nat) (hN : N = 4294967295) (hz : g % 65535 = 0) (hs : g < 8388608) (hpos : 0 < g) (hdv : g ∣ N) : g = 65535 := by
  obtain ⟨k, hk⟩ : ∃ k, g = 65535 * k := ⟨g / 65535, by omega⟩
  obtain ⟨m, hm⟩ := hdv
  have hkm : 65535 * 65537 = 65535 * (k * m) := by
    rw [← Nat.mul_assoc, ← hk, ← hm, hN]
  have hkm2 : 65537 = k * m := Nat.eq_of_mul_eq_mul_left (by omega) hkm
  have hall : ∀ k, k < 129 → k = 1 ∨ k = 0 ∨ 65537 % k ≠ 0 := by decide +kernel
  have hk2 : k < 129 := by omega
  rcases hall k hk2 with h' | h' | h'
  · rw [hk, h']
  · rw [h'] at hk; omega
  · rw [hkm2] at h'
    exact absurd (Nat.mul_mod_right _ _) h'

theorem by_prime (N g p q : Nat) (hg : Tn g 1 = 1) (hdv : g ∣ N) (e : N = p * q) (hq : Tn q 1 ≠ 1) (hp : ∀ r, r < p → r = 0 ∨ Nat.gcd r p = 1) (hp0 : 0 < p) : g % p = 0 := by
  by_cases hc : g % p = 0
  · exact hc
  · exfalso
    have hd2 : g ∣ p * q := by rw [← e]; exact hdv
    obtain ⟨k, hk⟩ := (cop g p hp hc hp0).dvd_of_dvd_mul_left hd2
    apply hq
    rw [hk]
    exact per_mul g hg k

/-- No turn of less than 2^23 steps leads back: N is the order, g a divisor. -/
theorem no_div (N g : Nat) (hN : N = 4294967295) (hg : Tn g 1 = 1) (hdv : g ∣ N) (hs : g < 8388608) (hpos : 0 < g) : False := by
  have g3 := by_prime N g 3 1431655765 hg hdv (by rw [hN]) ord_3 (by decide) (Nat.succ_pos _)
  have g5 := by_prime N g 5 858993459 hg hdv (by rw [hN]) ord_5 (by decide) (Nat.succ_pos _)
  have g17 := by_prime N g 17 252645135 hg hdv (by rw [hN]) ord_17 (by decide +kernel) (Nat.succ_pos _)
  have g257 := by_prime N g 257 16711935 hg hdv (by rw [hN]) ord_257 (by decide +kernel) (Nat.succ_pos _)
  have h := ends N g hN (d65535 g (d255 g (d15 g g3 g5) g17) g257) hs hpos hdv
  rw [h] at hg
  exact ord_65537 hg

theorem no_turn (d : Nat) (h0 : 0 < d) (h1 : d < 8388608) : Tn d 1 ≠ 1 := by
  intro h
  obtain ⟨N, hN⟩ : ∃ N, N = 4294967295 := ⟨_, rfl⟩
  have ho : Tn N 1 = 1 := by rw [hN]; exact ord_all
  have hg := per_gcd d N h ho
  have hgd : Nat.gcd d N ≤ d := Nat.gcd_le_left _ h0
  exact no_div N (Nat.gcd d N) hN hg (Nat.gcd_dvd_right _ _) (by omega) (Nat.gcd_pos_of_pos_left _ h0)

/-- Bits within 32 in a row. -/
theorem burst (n at_ B : Nat) (h : at_ ≤ n) (hB : B < 4294967296) : Tn n (2 ^ at_ * B) = 0 ↔ B = 0 := by
  obtain ⟨k, rfl⟩ : ∃ k, n = at_ + k := ⟨n - at_, by omega⟩
  rw [Tn_add, Tn_pow]
  constructor
  · exact Tn_nz k hB
  · intro h0; rw [h0, Tn_zero]

/-- Two bits. -/
theorem two_lt (n a b : Nat) (h : a < b) (hb : b < n) (hn : n ≤ 8388608) : Tn n (2 ^ a ^^^ 2 ^ b) ≠ 0 := by
  intro h0
  obtain ⟨d, rfl⟩ : ∃ d, b = a + d := ⟨b - a, by omega⟩
  obtain ⟨k, rfl⟩ : ∃ k, n = a + (d + k) := ⟨n - a - d, by omega⟩
  have e : 2 ^ a ^^^ 2 ^ (a + d) = 2 ^ a * (1 ^^^ 2 ^ d * 1) := by
    rw [mul_xor, Nat.mul_one, Nat.mul_one, Nat.pow_add]
  rw [e, Tn_add, Tn_pow, Tn_add, Tn_xor, Tn_pow] at h0
  have := Tn_nz k (xor_lt (Tn_lt d (by omega)) (by omega)) h0
  exact no_turn d (by omega) (by omega) (xor_eq_zero this)

theorem two_bits (n a b : Nat) (ha : a < n) (hb : b < n) (hn : n ≤ 8388608) : Tn n (2 ^ a ^^^ 2 ^ b) = 0 ↔ a = b := by
  constructor
  · intro h
    rcases Nat.lt_trichotomy a b with h1 | h1 | h1
    · exact absurd h (two_lt n a b h1 hb hn)
    · exact h1
    · rw [Nat.xor_comm] at h
      exact absurd h (two_lt n b a h1 ha hn)
  · intro h; rw [h, Nat.xor_self, Tn_zero]

end Go.Proofs.YtfjhbbekeibpkaaDoor.C
