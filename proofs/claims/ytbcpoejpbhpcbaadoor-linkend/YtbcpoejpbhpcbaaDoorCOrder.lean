import Derived.Test.YtbcpoejpbhpcbaaDoorCSum
namespace Go.Proofs.YtbcpoejpbhpcbaaDoor.C
open Go.RowKit

theorem tab_xor : ∀ i, i < 16 → ∀ j, j < 16 → tab.getD (i ^^^ j) 0 = tab.getD i 0 ^^^ tab.getD j 0 := by decide +kernel

theorem xor_div16 (a b : Nat) : (a ^^^ b) / 16 = a / 16 ^^^ b / 16 := by
  have := Nat.shiftRight_xor_distrib (a := a) (b := b) (i := 4)
  simpa [Nat.shiftRight_eq_div_pow] using this
theorem xor_mod16 (a b : Nat) : (a ^^^ b) % 16 = a % 16 ^^^ b % 16 := by
  have := Nat.xor_mod_two_pow (a := a) (b := b) (n := 4)
  simpa using this

theorem xor4 (a b c d : Nat) : (a ^^^ b) ^^^ (c ^^^ d) = (a ^^^ c) ^^^ (b ^^^ d) := by
  rw [Nat.xor_assoc, Nat.xor_assoc, ← Nat.xor_assoc b c d, Nat.xor_comm b c, Nat.xor_assoc]

theorem four_xor (a b : Nat) : four (a ^^^ b) = four a ^^^ four b := by
  unfold four
  rw [xor_div16, xor_mod16, tab_xor _ (Nat.mod_lt _ (by omega)) _ (Nat.mod_lt _ (by omega)), xor4]

theorem eat_xor (a b c d : Nat) : eat (a ^^^ b) (c ^^^ d) = eat a c ^^^ eat b d := by
  unfold eat
  rw [xor4, four_xor, four_xor]

theorem reg_mix (a b c : List Nat) (n : Nat) (ha : n ≤ a.length) (hb : n ≤ b.length) (hc : n ≤ c.length) :
    reg ((List.range n).map fun k => a.getD k 0 ^^^ b.getD k 0 ^^^ c.getD k 0) = reg (a.take n) ^^^ reg (b.take n) ^^^ reg (c.take n) := by
  induction n with
  | zero => simp [reg]
  | succ n ih =>
    rw [List.range_succ, List.map_append, List.map_singleton, reg_snoc, ih (by omega) (by omega) (by omega), take_snoc a n (by omega), take_snoc b n (by omega), take_snoc c n (by omega), reg_snoc, reg_snoc, reg_snoc, ← eat_xor, ← eat_xor]

theorem xor_three (K A B C : Nat) : K ^^^ (A ^^^ B ^^^ C) = (K ^^^ A) ^^^ (K ^^^ B) ^^^ (K ^^^ C) := by
  rw [xor4 K A K B, Nat.xor_self, Nat.zero_xor, ← Nat.xor_assoc (A ^^^ B) K C, Nat.xor_comm (A ^^^ B) K, Nat.xor_assoc K (A ^^^ B) C]

theorem sum_mix (a b c : List Nat) (n : Nat) (ha : n ≤ a.length) (hb : n ≤ b.length) (hc : n ≤ c.length) :
    sumOf ((List.range n).map fun k => a.getD k 0 ^^^ b.getD k 0 ^^^ c.getD k 0) = sumOf (a.take n) ^^^ sumOf (b.take n) ^^^ sumOf (c.take n) := by
  unfold sumOf
  rw [reg_mix a b c n ha hb hc, xor_three]

end Go.Proofs.YtbcpoejpbhpcbaaDoor.C
namespace Go.Proofs.YtbcpoejpbhpcbaaDoor.C

/-- One bit falls out. -/
def T (r : Nat) : Nat := (r / 2) ^^^ (if r % 2 = 1 then 3988292384 else 0)
def Tn : Nat → Nat → Nat
  | 0, r => r
  | m + 1, r => Tn m (T r)

theorem xor_div2 (a b : Nat) : (a ^^^ b) / 2 = a / 2 ^^^ b / 2 := by simpa using Nat.xor_div_two_pow (a := a) (b := b) (n := 1)
theorem xor_mod2 (a b : Nat) : (a ^^^ b) % 2 = a % 2 ^^^ b % 2 := by simpa using Nat.xor_mod_two_pow (a := a) (b := b) (n := 1)

theorem T_xor (a b : Nat) : T (a ^^^ b) = T a ^^^ T b := by
  unfold T
  rw [xor_div2, xor_mod2, xor4]
  congr 1
  rcases Nat.mod_two_eq_zero_or_one a with h | h <;> rcases Nat.mod_two_eq_zero_or_one b with k | k <;> simp [h, k]

theorem Tn_xor (m : Nat) : ∀ a b, Tn m (a ^^^ b) = Tn m a ^^^ Tn m b := by
  induction m with
  | zero => intro a b; rfl
  | succ m ih => intro a b; simp only [Tn]; rw [T_xor, ih]
theorem Tn_add (m n : Nat) : ∀ r, Tn (m + n) r = Tn n (Tn m r) := by
  induction m with
  | zero => intro r; simp [Tn]
  | succ m ih => intro r; rw [Nat.add_right_comm]; simp only [Tn]; exact ih _
theorem T_zero : T 0 = 0 := by decide
theorem Tn_zero (m : Nat) : Tn m 0 = 0 := by
  induction m with
  | zero => rfl
  | succ m ih => simp only [Tn]; rw [T_zero, ih]
theorem T_two (a : Nat) : T (2 * a) = a := by simp [T]
theorem Tn_pow (k a : Nat) : Tn k (2 ^ k * a) = a := by
  induction k generalizing a with
  | zero => simp [Tn]
  | succ k ih =>
    simp only [Tn]
    rw [Nat.pow_succ, Nat.mul_comm (2 ^ k) 2, Nat.mul_assoc, T_two]
    exact ih a
theorem T_lt {r : Nat} (h : r < 4294967296) : T r < 4294967296 := by
  unfold T
  exact xor_lt (by omega) (by split <;> omega)
theorem Tn_lt (m : Nat) : ∀ {r : Nat}, r < 4294967296 → Tn m r < 4294967296 := by
  induction m with
  | zero => intro r h; exact h
  | succ m ih => intro r h; exact ih (T_lt h)
theorem xor_eq_zero {a b : Nat} (h : a ^^^ b = 0) : a = b := by
  have : a ^^^ b ^^^ b = b := by rw [h]; simp
  rw [Nat.xor_assoc, Nat.xor_self, Nat.xor_zero] at this
  exact this
theorem T_nz {r : Nat} (h : r < 4294967296) (h0 : T r = 0) : r = 0 := by
  unfold T at h0
  have := xor_eq_zero h0
  split at this <;> omega
theorem Tn_nz (m : Nat) : ∀ {r : Nat}, r < 4294967296 → Tn m r = 0 → r = 0 := by
  induction m with
  | zero => intro r _ h; exact h
  | succ m ih => intro r h h0; exact T_nz h (ih (T_lt h) h0)
theorem Tn_inj (m : Nat) {a b : Nat} (ha : a < 4294967296) (hb : b < 4294967296) (h : Tn m a = Tn m b) : a = b := by
  apply xor_eq_zero
  apply Tn_nz m (xor_lt ha hb)
  rw [Tn_xor, h, Nat.xor_self]

/-- Parts that don't meet. -/
theorem split_xor (k q i : Nat) (h : i < 2 ^ k) : (2 ^ k * q) ^^^ i = 2 ^ k * q + i := by
  have h0 : 0 < 2 ^ k := Nat.two_pow_pos k
  have h1 : ((2 ^ k * q) ^^^ i) / 2 ^ k = q := by
    rw [Nat.xor_div_two_pow, Nat.mul_div_cancel_left _ h0, Nat.div_eq_of_lt h, Nat.xor_zero]
  have h2 : ((2 ^ k * q) ^^^ i) % 2 ^ k = i := by
    rw [Nat.xor_mod_two_pow, Nat.mul_mod_right, Nat.mod_eq_of_lt h, Nat.zero_xor]
  have := Nat.div_add_mod ((2 ^ k * q) ^^^ i) (2 ^ k)
  rw [h1, h2] at this
  exact this.symm

theorem mul_xor (k a b : Nat) : 2 ^ k * (a ^^^ b) = (2 ^ k * a) ^^^ (2 ^ k * b) := by
  have := Nat.shiftLeft_xor_distrib (i := k) (a := a) (b := b)
  simpa [Nat.shiftLeft_eq, Nat.mul_comm] using this

theorem tab_T : ∀ i, i < 16 → Tn 4 i = tab.getD i 0 := by decide +kernel
theorem four_T (r : Nat) : four r = Tn 4 r := by
  have h : r = (2 ^ 4 * (r / 16)) ^^^ (r % 16) := by
    rw [split_xor 4 _ _ (by omega)]; omega
  have e : Tn 4 r = Tn 4 (2 ^ 4 * (r / 16)) ^^^ Tn 4 (r % 16) := by rw [← Tn_xor, ← h]
  rw [e, Tn_pow, tab_T _ (by omega)]
  rfl
theorem eat_T (r c : Nat) : eat r c = Tn 8 (r ^^^ c) := by
  unfold eat
  rw [four_T, four_T, ← Tn_add]

/-- A text as one number, its first bit the least. -/
def val : List Nat → Nat
  | [] => 0
  | c :: e => c + 256 * val e

theorem val_cons (c : Nat) (e : List Nat) (h : c < 256) : val (c :: e) = (2 ^ 8 * val e) ^^^ c := by
  rw [split_xor 8 _ _ (by omega)]; simp only [val]; omega

theorem fold_T : ∀ (e : List Nat) (r : Nat), (∀ x ∈ e, x < 256) → e.foldl eat r = Tn (8 * e.length) (r ^^^ val e)
  | [], r, _ => by simp [val, Tn]
  | c :: e, r, h => by
    rw [List.foldl_cons, fold_T e _ (fun x hx => h x (List.mem_cons_of_mem _ hx)), val_cons c e (h c (List.mem_cons_self ..)), List.length_cons, Nat.mul_add, Nat.mul_one, Nat.add_comm, Tn_add, eat_T]
    congr 1
    rw [Nat.xor_comm (2 ^ 8 * val e) c, ← Nat.xor_assoc, Tn_xor 8 (r ^^^ c), Tn_pow]

theorem reg_diff (xs ys : List Nat) (hx : ∀ x ∈ xs, x < 256) (hy : ∀ x ∈ ys, x < 256) (hl : xs.length = ys.length) : reg xs ^^^ reg ys = Tn (8 * xs.length) (val xs ^^^ val ys) := by
  unfold reg
  rw [fold_T _ _ hx, fold_T _ _ hy, ← hl, ← Tn_xor, xor4, Nat.xor_self, Nat.zero_xor]

theorem sum_eq_iff (xs ys : List Nat) (hx : ∀ x ∈ xs, x < 256) (hy : ∀ x ∈ ys, x < 256) (hl : xs.length = ys.length) : sumOf xs = sumOf ys ↔ Tn (8 * xs.length) (val xs ^^^ val ys) = 0 := by
  rw [← reg_diff xs ys hx hy hl]
  unfold sumOf
  constructor
  · intro h
    have : (4294967295 ^^^ reg xs) ^^^ (4294967295 ^^^ reg ys) = 0 := by rw [h, Nat.xor_self]
    rw [xor4, Nat.xor_self, Nat.zero_xor] at this
    exact this
  · intro h
    rw [xor_eq_zero h]

/-- A byte is turned. -/
theorem val_set : ∀ (xs : List Nat) (j b : Nat), j < xs.length → (∀ x ∈ xs, x < 256) → b < 256 → val (xs.set j (xs.getD j 0 ^^^ b)) = val xs ^^^ (2 ^ (8 * j) * b)
  | [], _, _, h, _, _ => by simp at h
  | c :: e, 0, b, _, hs, hb => by
    have hc : c < 256 := hs c (List.mem_cons_self ..)
    have : c ^^^ b < 256 := Nat.xor_lt_two_pow (n := 8) hc hb
    simp only [List.set_cons_zero, List.getD_cons_zero, Nat.mul_zero, Nat.pow_zero, Nat.one_mul]
    rw [val_cons _ _ this, val_cons _ _ hc, Nat.xor_assoc]
  | c :: e, j + 1, b, h, hs, hb => by
    have hc : c < 256 := hs c (List.mem_cons_self ..)
    simp only [List.set_cons_succ, List.getD_cons_succ]
    rw [val_cons _ _ hc, val_cons _ _ hc, val_set e j b (by simpa using h) (fun x hx => hs x (List.mem_cons_of_mem _ hx)) hb, mul_xor, Nat.xor_assoc, Nat.xor_assoc, Nat.xor_comm c]
    congr 2
    rw [← Nat.mul_assoc, ← Nat.pow_add]
    congr 2
    omega

/-- The text with its bit i turned. -/
def flip (xs : List Nat) (i : Nat) : List Nat := xs.set (i / 8) (xs.getD (i / 8) 0 ^^^ 2 ^ (i % 8))
theorem flip_len (xs : List Nat) (i : Nat) : (flip xs i).length = xs.length := by simp [flip]
theorem pow_lt8 (i : Nat) : 2 ^ (i % 8) < 256 := Nat.lt_of_lt_of_le (Nat.pow_lt_pow_right (by omega) (Nat.mod_lt i (by omega : 0 < 8))) (by omega)
theorem flip_small (xs : List Nat) (i : Nat) (hs : ∀ x ∈ xs, x < 256) : ∀ x ∈ flip xs i, x < 256 := by
  intro x hx
  rcases List.mem_or_eq_of_mem_set hx with h | h
  · exact hs x h
  · rw [h]; exact Nat.xor_lt_two_pow (n := 8) (getD_small hs _) (pow_lt8 i)
theorem val_flip (xs : List Nat) (i : Nat) (h : i < 8 * xs.length) (hs : ∀ x ∈ xs, x < 256) : val (flip xs i) = val xs ^^^ 2 ^ i := by
  unfold flip
  rw [val_set xs (i / 8) _ (by omega) hs (pow_lt8 i), ← Nat.pow_add]
  congr 2
  omega

end Go.Proofs.YtbcpoejpbhpcbaaDoor.C
namespace Go.Proofs.YtbcpoejpbhpcbaaDoor.C

/-- What a linear map makes of v, by what it makes of the single bits. -/
def app : List Nat → Nat → Nat
  | [], _ => 0
  | m :: M, v => (if v % 2 = 1 then m else 0) ^^^ app M (v / 2)

/-- Rep m M: M lists what m steps make of the single bits. -/
def Rep (m : Nat) (M : List Nat) : Prop := M = (List.range 32).map fun i => Tn m (2 ^ i)

theorem app_from (m : Nat) : ∀ (l k v : Nat), v < 2 ^ l → app ((List.range' k l).map fun i => Tn m (2 ^ i)) v = Tn m (2 ^ k * v)
  | 0, k, v, h => by
    have : v = 0 := by simp at h; exact h
    subst this
    simp [app, Tn_zero]
  | l + 1, k, v, h => by
    rw [List.range'_succ, List.map_cons, app, app_from m l (k + 1) (v / 2) (by rw [Nat.pow_succ] at h; omega)]
    have hv : 2 ^ k * v = (2 ^ (k + 1) * (v / 2)) ^^^ (2 ^ k * (v % 2)) := by
      rw [split_xor (k + 1) _ _ (by rw [Nat.pow_succ]; exact Nat.mul_lt_mul_of_pos_left (Nat.mod_lt _ (by omega)) (Nat.two_pow_pos k))]
      rw [Nat.pow_succ, Nat.mul_assoc, ← Nat.mul_add]
      congr 1
      omega
    rw [hv, Tn_xor, Nat.xor_comm]
    congr 1
    rcases Nat.mod_two_eq_zero_or_one v with h1 | h1
    · simp [h1, Tn_zero]
    · simp [h1]

theorem app_rep {m : Nat} {M : List Nat} (h : Rep m M) (v : Nat) (hv : v < 4294967296) : app M v = Tn m v := by
  have := app_from m 32 0 v hv
  rw [h, List.range_eq_range']
  simpa using this

theorem rep_sq {m : Nat} {M : List Nat} (h : Rep m M) : Rep (m + m) (M.map (app M)) := by
  have hh : M = (List.range 32).map fun i => Tn m (2 ^ i) := h
  unfold Rep
  conv => lhs; rw [hh]
  rw [List.map_map, ← hh]
  apply List.map_congr_left
  intro i hi
  have hi' : i < 32 := List.mem_range.1 hi
  have hp : 2 ^ i < 4294967296 := Nat.lt_of_lt_of_le (Nat.pow_lt_pow_right (by omega) hi') (by omega)
  simp only [Function.comp]
  rw [app_rep h _ (Tn_lt m hp), ← Tn_add]

/-- By squaring. -/
def pw : Nat → List Nat → Nat → Nat → Nat
  | 0, _, _, v => v
  | f + 1, M, e, v => pw f (M.map (app M)) (e / 2) (if e % 2 = 1 then app M v else v)

theorem pw_rep : ∀ (f m : Nat) (M : List Nat) (e v : Nat), Rep m M → e < 2 ^ f → v < 4294967296 → pw f M e v = Tn (m * e) v
  | 0, m, M, e, v, _, he, _ => by
    have : e = 0 := by simp at he; exact he
    subst this; rfl
  | f + 1, m, M, e, v, h, he, hv => by
    have he2 : e / 2 < 2 ^ f := by rw [Nat.pow_succ] at he; omega
    rcases Nat.mod_two_eq_zero_or_one e with h1 | h1
    · rw [pw, if_neg (by omega), pw_rep f _ _ _ _ (rep_sq h) he2 hv]
      congr 1
      have : e = 2 * (e / 2) := by omega
      conv => rhs; rw [this]
      rw [← Nat.two_mul, Nat.mul_comm 2 m, Nat.mul_assoc]
    · rw [pw, if_pos h1, app_rep h v hv, pw_rep f _ _ _ _ (rep_sq h) he2 (Tn_lt m hv), ← Tn_add]
      congr 1
      have : e = 2 * (e / 2) + 1 := by omega
      conv => rhs; rw [this]
      rw [← Nat.two_mul, Nat.mul_add, Nat.mul_comm 2 m, Nat.mul_assoc]
      omega

def M1 : List Nat := (List.range 32).map fun i => T (2 ^ i)
theorem rep_one : Rep 1 M1 := rfl
theorem pw_one (e : Nat) (he : e < 2 ^ 32) : pw 32 M1 e 1 = Tn e 1 := by
  have := pw_rep 32 1 M1 e 1 rep_one he (by omega)
  simpa using this

theorem ord_all : Tn 4294967295 1 = 1 := by rw [← pw_one _ (by omega)]; decide +kernel
theorem ord_3 : Tn 1431655765 1 ≠ 1 := by rw [← pw_one _ (by omega)]; decide +kernel
theorem ord_5 : Tn 858993459 1 ≠ 1 := by rw [← pw_one _ (by omega)]; decide +kernel
theorem ord_17 : Tn 252645135 1 ≠ 1 := by rw [← pw_one _ (by omega)]; decide +kernel
theorem ord_257 : Tn 16711935 1 ≠ 1 := by rw [← pw_one _ (by omega)]; decide +kernel
theorem ord_65537 : Tn 65535 1 ≠ 1 := by rw [← pw_one _ (by omega)]; decide +kernel

theorem per_mul (g : Nat) (h : Tn g 1 = 1) : ∀ q, Tn (g * q) 1 = 1
  | 0 => rfl
  | q + 1 => by rw [Nat.mul_succ, Nat.add_comm, Tn_add, h, per_mul g h q]

theorem per_gcd : ∀ (m n : Nat), Tn m 1 = 1 → Tn n 1 = 1 → Tn (m.gcd n) 1 = 1 := by
  intro m n
  induction m, n using Nat.gcd.induction with
  | H0 n => intro _ h; simpa using h
  | H1 m n hm ih =>
    intro h1 h2
    rw [Nat.gcd_rec]
    refine ih ?_ h1
    have e : n = m * (n / m) + n % m := (Nat.div_add_mod n m).symm
    rw [e, Tn_add, per_mul m h1] at h2
    exact h2

theorem cop (g p : Nat) (hp : ∀ r, r < p → r = 0 ∨ Nat.gcd r p = 1) (h : g % p ≠ 0) (h0 : 0 < p) : Nat.Coprime g p := by
  unfold Nat.Coprime
  rw [Nat.gcd_comm, Nat.gcd_rec]
  rcases hp (g % p) (Nat.mod_lt _ h0) with h1 | h1
  · exact absurd h1 h
  · exact h1

theorem d15 (g : Nat) (a : g % 3 = 0) (b : g % 5 = 0) : g % 15 = 0 := by omega
theorem d255 (g : Nat) (a : g % 15 = 0) (b : g % 17 = 0) : g % 255 = 0 := by omega
theorem d65535 (g : Nat) (a : g % 255 = 0) (b : g % 257 = 0) : g % 65535 = 0 := by
  obtain ⟨k, hk⟩ : ∃ k, g = 255 * k := ⟨g / 255, by omega⟩
  subst hk
  have : Nat.Coprime 257 255 := by decide +kernel
  have h1 : 257 ∣ 255 * k := Nat.dvd_of_mod_eq_zero b
  obtain ⟨m, hm⟩ := this.dvd_of_dvd_mul_left h1
  subst hm
  rw [← Nat.mul_assoc]
  exact Nat.mul_mod_right 65535 m
theorem ends (N g : Nat) (hN : N = 4294967295) (hz : g % 65535 = 0) (hs : g < 8388608) (hpos : 0 < g) (hdv : g ∣ N) : g = 65535 := by
  obtain ⟨k, hk⟩ : ∃ k, g = 65535 * k := ⟨g / 65535, by omega⟩
  obtain ⟨m, hm⟩ := hdv
  have hkm : 65535 * 65537 = 65535 * (k * m) := by
    rw [← Nat.mul_assoc, ← hk, ← hm, hN]
  have hkm2 : 65537 = k * m := Nat.eq_of_mul_eq_mul_left (by omega) hkm
  have hall : ∀ k, k < 129 → k = 1 ∨ k = 0 ∨ 65537 % k ≠ 0 := by decide +kernel
  have hk2 : k < 129 := by omega
  rcases hall k hk2 with h' | h' | h'
  · rw [hk, h']
  · rw [h'] at hk; omega
  · rw [hkm2] at h'
    exact absurd (Nat.mul_mod_right _ _) h'

theorem by_prime (N g p q : Nat) (hg : Tn g 1 = 1) (hdv : g ∣ N) (e : N = p * q) (hq : Tn q 1 ≠ 1) (hp : ∀ r, r < p → r = 0 ∨ Nat.gcd r p = 1) (hp0 : 0 < p) : g % p = 0 := by
  by_cases hc : g % p = 0
  · exact hc
  · exfalso
    have hd2 : g ∣ p * q := by rw [← e]; exact hdv
    obtain ⟨k, hk⟩ := (cop g p hp hc hp0).dvd_of_dvd_mul_left hd2
    apply hq
    rw [hk]
    exact per_mul g hg k

/-- No turn of less than 2^23 steps leads back: N is the order, g a divisor. -/
theorem no_div (N g : Nat) (hN : N = 4294967295) (hg : Tn g 1 = 1) (hdv : g ∣ N) (hs : g < 8388608) (hpos : 0 < g) : False := by
  have g3 := by_prime N g 3 1431655765 hg hdv (by rw [hN]) ord_3 (by decide) (Nat.succ_pos _)
  have g5 := by_prime N g 5 858993459 hg hdv (by rw [hN]) ord_5 (by decide) (Nat.succ_pos _)
  have g17 := by_prime N g 17 252645135 hg hdv (by rw [hN]) ord_17 (by decide +kernel) (Nat.succ_pos _)
  have g257 := by_prime N g 257 16711935 hg hdv (by rw [hN]) ord_257 (by decide +kernel) (Nat.succ_pos _)
  have h := ends N g hN (d65535 g (d255 g (d15 g g3 g5) g17) g257) hs hpos hdv
  rw [h] at hg
  exact ord_65537 hg

theorem no_turn (d : Nat) (h0 : 0 < d) (h1 : d < 8388608) : Tn d 1 ≠ 1 := by
  intro h
  obtain ⟨N, hN⟩ : ∃ N, N = 4294967295 := ⟨_, rfl⟩
  have ho : Tn N 1 = 1 := by rw [hN]; exact ord_all
  have hg := per_gcd d N h ho
  have hgd : Nat.gcd d N ≤ d := Nat.gcd_le_left _ h0
  exact no_div N (Nat.gcd d N) hN hg (Nat.gcd_dvd_right _ _) (by omega) (Nat.gcd_pos_of_pos_left _ h0)

/-- Bits within 32 in a row. -/
theorem burst (n at_ B : Nat) (h : at_ ≤ n) (hB : B < 4294967296) : Tn n (2 ^ at_ * B) = 0 ↔ B = 0 := by
  obtain ⟨k, rfl⟩ : ∃ k, n = at_ + k := ⟨n - at_, by omega⟩
  rw [Tn_add, Tn_pow]
  constructor
  · exact Tn_nz k hB
  · intro h0; rw [h0, Tn_zero]

/-- Two bits. -/
theorem two_lt (n a b : Nat) (h : a < b) (hb : b < n) (hn : n ≤ 8388608) : Tn n (2 ^ a ^^^ 2 ^ b) ≠ 0 := by
  intro h0
  obtain ⟨d, rfl⟩ : ∃ d, b = a + d := ⟨b - a, by omega⟩
  obtain ⟨k, rfl⟩ : ∃ k, n = a + (d + k) := ⟨n - a - d, by omega⟩
  have e : 2 ^ a ^^^ 2 ^ (a + d) = 2 ^ a * (1 ^^^ 2 ^ d * 1) := by
    rw [mul_xor, Nat.mul_one, Nat.mul_one, Nat.pow_add]
  rw [e, Tn_add, Tn_pow, Tn_add, Tn_xor, Tn_pow] at h0
  have := Tn_nz k (xor_lt (Tn_lt d (by omega)) (by omega)) h0
  exact no_turn d (by omega) (by omega) (xor_eq_zero this)

theorem two_bits (n a b : Nat) (ha : a < n) (hb : b < n) (hn : n ≤ 8388608) : Tn n (2 ^ a ^^^ 2 ^ b) = 0 ↔ a = b := by
  constructor
  · intro h
    rcases Nat.lt_trichotomy a b with h1 | h1 | h1
    · exact absurd h (two_lt n a b h1 hb hn)
    · exact h1
    · rw [Nat.xor_comm] at h
      exact absurd h (two_lt n b a h1 ha hn)
  · intro h; rw [h, Nat.xor_self, Tn_zero]

end Go.Proofs.YtbcpoejpbhpcbaaDoor.C
