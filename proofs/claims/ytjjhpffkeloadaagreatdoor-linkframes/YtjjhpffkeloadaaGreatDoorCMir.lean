import Derived.Test.YtjjhpffkeloadaaGreatDoorCOrder
namespace Go.Proofs.YtjjhpffkeloadaaGreatDoor.C

/-- The first k bits from the other end. -/
def rv : Nat → Nat → Nat
  | 0, _ => 0
  | k + 1, n => 2 ^ k * (n % 2) + rv k (n / 2)

theorem rv_lt : ∀ (k n : Nat), rv k n < 2 ^ k
  | 0, _ => by simp [rv]
  | k + 1, n => by
    have := rv_lt k (n / 2)
    have h := Nat.mod_two_eq_zero_or_one n
    simp only [rv, Nat.pow_succ]
    rcases h with h | h <;> rw [h] <;> omega

theorem rv_xor : ∀ (k a b : Nat), rv k (a ^^^ b) = rv k a ^^^ rv k b
  | 0, _, _ => by simp [rv]
  | k + 1, a, b => by
    simp only [rv]
    rw [xor_mod2, xor_div2, rv_xor k, ← split_xor k _ _ (Nat.xor_lt_two_pow (rv_lt k _) (rv_lt k _)), ← split_xor k _ _ (rv_lt k _), ← split_xor k _ _ (rv_lt k _), mul_xor, xor4]

theorem rv_top : ∀ (k low top : Nat), low < 2 ^ k → top < 2 → rv (k + 1) (low + 2 ^ k * top) = 2 * rv k low + top
  | 0, low, top, h, ht => by
    have : low = 0 := by simpa using h
    subst this
    simp [rv]
    omega
  | k + 1, low, top, h, ht => by
    have e1 : (low + 2 ^ (k + 1) * top) % 2 = low % 2 := by rw [Nat.pow_succ, Nat.mul_comm (2 ^ k) 2, Nat.mul_assoc]; omega
    have e2 : (low + 2 ^ (k + 1) * top) / 2 = low / 2 + 2 ^ k * top := by rw [Nat.pow_succ, Nat.mul_comm (2 ^ k) 2, Nat.mul_assoc]; omega
    have ih := rv_top k (low / 2) top (by rw [Nat.pow_succ] at h; omega) ht
    rw [rv, e1, e2, ih, rv, Nat.pow_succ]
    have : 2 ^ k * 2 * (low % 2) = 2 * (2 ^ k * (low % 2)) := by rw [Nat.mul_comm (2 ^ k) 2, Nat.mul_assoc]
    omega

/-- One bit is taken in, in the document's way. -/
def shl1 (r bit : Nat) : Nat := if r / 2147483648 = 1 then ((r * 2 + bit) % 4294967296) ^^^ 79764919 else (r * 2 + bit) % 4294967296

theorem shl1_lt (r bit : Nat) : shl1 r bit < 4294967296 := by
  unfold shl1
  split
  · exact xor_lt (by omega) (by omega)
  · omega

theorem rv_poly : rv 32 79764919 = 3988292384 := by decide +kernel

theorem rv_low (low bit : Nat) (hb : bit < 2) : rv 32 (2 * low + bit) = rv 31 low ^^^ (2 ^ 31 * bit) := by
  have e1 : (2 * low + bit) % 2 = bit := by omega
  have e2 : (2 * low + bit) / 2 = low := by omega
  have h31 := rv_lt 31 low
  have e : rv 32 (2 * low + bit) = 2 ^ 31 * ((2 * low + bit) % 2) + rv 31 ((2 * low + bit) / 2) := rfl
  rw [e, e1, e2, Nat.xor_comm, split_xor 31 _ _ h31]
theorem T_rv (low top : Nat) (hl : low < 2 ^ 31) (ht : top < 2) : T (rv 32 (low + 2 ^ 31 * top)) = rv 31 low ^^^ (if top = 1 then 3988292384 else 0) := by
  rw [rv_top 31 low top hl ht]
  generalize rv 31 low = z
  unfold T
  have e1 : (2 * z + top) / 2 = z := by omega
  have e2 : (2 * z + top) % 2 = top := by omega
  rw [e1, e2]

theorem rv_shl1 (r bit : Nat) (hr : r < 4294967296) (hb : bit < 2) : rv 32 (shl1 r bit) = T (rv 32 r) ^^^ (2 ^ 31 * bit) := by
  obtain ⟨low, top, hl, ht, he, h1, h2⟩ : ∃ low top, low < 2 ^ 31 ∧ top < 2 ∧ r = low + 2 ^ 31 * top ∧ r / 2147483648 = top ∧ (r * 2 + bit) % 4294967296 = 2 * low + bit :=
    ⟨r % 2147483648, r / 2147483648, by omega, by omega, by omega, rfl, by omega⟩
  have hT := T_rv low top hl ht
  rw [← he] at hT
  unfold shl1
  rw [h1, h2, hT]
  split
  · rw [rv_xor, rv_poly, rv_low low bit hb, Nat.xor_assoc, Nat.xor_comm (2 ^ 31 * bit), ← Nat.xor_assoc]
  · rw [rv_low low bit hb, Nat.xor_zero]

/-- What the document's register mirrors behind M bits of V. -/
def far (V M : Nat) : Nat := Tn M (2 ^ 32 * (V % 2 ^ M))
theorem far_zero (V : Nat) : far V 0 = 0 := by simp [far, Nat.mod_one, Tn]
theorem Tn_succ' (m r : Nat) : Tn (m + 1) r = T (Tn m r) := by rw [Tn_add]; rfl
theorem far_step (V M : Nat) : far V (M + 1) = T (far V M) ^^^ (2 ^ 31 * (V / 2 ^ M % 2)) := by
  unfold far
  rw [Nat.mod_pow_succ, Nat.add_comm (V % 2 ^ M), ← split_xor M _ _ (Nat.mod_lt _ (Nat.two_pow_pos M)), mul_xor, Tn_xor, Nat.xor_comm, Tn_succ' M (2 ^ 32 * (V % 2 ^ M))]
  congr 1
  rw [← Nat.mul_assoc, ← Nat.pow_add, show 32 + M = M + 1 + 31 by omega, Nat.pow_add _ (M + 1), Nat.mul_assoc, Tn_pow]
theorem far_end (V M : Nat) (h : V < 2 ^ (32 + M)) : far V (32 + M) = Tn M V := by
  unfold far
  rw [Nat.mod_eq_of_lt h, Tn_add, Tn_pow]

theorem val_lt : ∀ (xs : List Nat), (∀ x ∈ xs, x < 256) → val xs < 2 ^ (8 * xs.length)
  | [], _ => by simp [val]
  | c :: e, h => by
    have h1 := val_lt e (fun x hx => h x (List.mem_cons_of_mem _ hx))
    have h2 := h c (List.mem_cons_self ..)
    rw [List.length_cons, Nat.mul_add, Nat.pow_add]
    simp only [val]
    omega

theorem val_bitat : ∀ (xs : List Nat) (i k : Nat), k < 8 → (∀ x ∈ xs, x < 256) → val xs / 2 ^ (8 * i + k) % 2 = xs.getD i 0 / 2 ^ k % 2
  | [], i, k, _, _ => by simp [val]
  | c :: e, 0, k, hk, h => by
    simp only [List.getD_cons_zero, Nat.mul_zero, Nat.zero_add, val]
    have e1 : 256 * val e = 2 ^ k * (2 * (2 ^ (7 - k) * val e)) := by
      have : (256 : Nat) = 2 ^ k * (2 * 2 ^ (7 - k)) := by
        rw [← Nat.pow_succ', ← Nat.pow_add, show k + (7 - k + 1) = 8 by omega]
      rw [this]
      simp only [Nat.mul_assoc]
    rw [e1, Nat.add_mul_div_left _ _ (Nat.two_pow_pos k)]
    omega
  | c :: e, i + 1, k, hk, h => by
    have ih := val_bitat e i k hk (fun x hx => h x (List.mem_cons_of_mem _ hx))
    have hc := h c (List.mem_cons_self ..)
    simp only [List.getD_cons_succ, val]
    rw [show 8 * (i + 1) + k = 8 + (8 * i + k) by omega, Nat.pow_add, ← Nat.div_div_eq_div_mul, show (c + 256 * val e) / 2 ^ 8 = val e by omega]
    exact ih

/-- The bits that the document takes in. -/
def docV (xs : List Nat) : Nat := 4294967295 ^^^ val xs
theorem doc_bit (xs : List Nat) (i k : Nat) (hk : k < 8) (hs : ∀ x ∈ xs, x < 256) : docV xs / 2 ^ (8 * i + k) % 2 = if i < 4 then 1 - xs.getD i 0 / 2 ^ k % 2 else xs.getD i 0 / 2 ^ k % 2 := by
  rw [← val_bitat xs i k hk hs]
  have h1 : (docV xs).testBit (8 * i + k) = ((4294967295 : Nat).testBit (8 * i + k) ^^ (val xs).testBit (8 * i + k)) := Nat.testBit_xor ..
  have h2 : (4294967295 : Nat).testBit (8 * i + k) = decide (8 * i + k < 32) := by
    have := Nat.testBit_two_pow_sub_one 32 (8 * i + k)
    simpa using this
  rw [h2] at h1
  simp only [Nat.testBit_eq_decide_div_mod_eq] at h1
  have p := Nat.mod_two_eq_zero_or_one (docV xs / 2 ^ (8 * i + k))
  have q := Nat.mod_two_eq_zero_or_one (val xs / 2 ^ (8 * i + k))
  by_cases hi : i < 4
  · have h4 : 8 * i + k < 32 := by omega
    rcases p with p | p <;> rcases q with q | q <;> simp [p, q, h4, hi] at h1 ⊢
  · have h4 : ¬ 8 * i + k < 32 := by omega
    rcases p with p | p <;> rcases q with q | q <;> simp [p, q, h4, hi] at h1 ⊢

theorem doc_end (xs : List Nat) (hs : ∀ x ∈ xs, x < 256) : far (docV xs) (32 + 8 * xs.length) = reg xs := by
  rw [far_end _ _ ?_]
  · unfold reg docV
    rw [fold_T _ _ hs]
  · apply Nat.xor_lt_two_pow
    · exact Nat.lt_of_lt_of_le (by omega : 4294967295 < 2 ^ 32) (Nat.pow_le_pow_right (by omega) (by omega))
    · exact Nat.lt_of_lt_of_le (val_lt xs hs) (Nat.pow_le_pow_right (by omega) (by omega))

end Go.Proofs.YtjjhpffkeloadaaGreatDoor.C
