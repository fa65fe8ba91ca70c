import Derived.Test.YtfjhbbekeibpkaaDoorCLin
namespace Go.Proofs.YtfjhbbekeibpkaaDoor.C

/-- One bit falls out. -/
def T (r : Nat) : Nat := (r / 2) ^^^ (if r % 2 = 1 then 3988292384 else 0)
def Tn : Nat → Nat → Nat
  | 0, r => r
  | m + 1, r => Tn m (T r)

theorem xor_div2 (a b : Nat) : (a ^^^ b) / 2 = a / 2 ^^^ b / 2 := by simpa using Nat.xor_div_two_pow (a := a) (b := b) (n := 1)
theorem xor_mod2 (a b : Nat) : (a ^^^ b) % 2 = a % 2 ^^^ b % 2 := by simpa using Nat.xor_mod_two_pow (a := a) (b := b) (n := 1)

theorem T_xor (a b : Nat) : T (a ^^^ b) = T a ^^^ T b := by
  unfold T
  rw [xor_div2, xor_mod2, xor4]
  congr 1
  rcases Nat.mod_two_eq_zero_or_one a with h | h <;> rcases Nat.mod_two_eq_zero_or_one b with k | k <;> simp [h, k]

theorem Tn_xor (m : Nat) : ∀ a b, Tn m (a ^^^ b) = Tn m a ^^^ Tn m b := by
  induction m with
  | zero => intro a b; rfl
  | succ m ih => intro a b; simp only [Tn]; rw [T_xor, ih]
theorem Tn_add (m n : Nat) : ∀ r, Tn (m + n) r = Tn n (Tn m r) := by
  induction m with
  | zero => intro r; simp [Tn]
  | succ m ih => intro r; rw [Nat.add_right_comm]; simp only [Tn]; exact ih _
theorem T_zero : T 0 = 0 := by decide
theorem Tn_zero (m : Nat) : Tn m 0 = 0 := by
  induction m with
  | zero => rfl
  | succ m ih => simp only [Tn]; rw [T_zero, ih]
theorem T_two (a : Nat) : T (2 * a) = a := by simp [T]
theorem Tn_pow (k a : Nat) : Tn k (2 ^ k * a) = a := by
  induction k generalizing a with
  | zero => simp [Tn]
  | succ k ih =>
    simp only [Tn]
    rw [Nat.pow_succ, Nat.mul_comm (2 ^ k) 2, Nat.mul_assoc, T_two]
    exact ih a
theorem T_lt {r : Nat} (h : r < 4294967296) : T r < 4294967296 := by
  unfold T
  exact xor_lt (by omega) (by split <;> omega)
theorem Tn_lt (m : Nat) : ∀ {r : Nat}, r < 4294967296 → Tn m r < 4294967296 := by
  induction m with
  | zero => intro r h; exact h
  | succ m ih => intro r h; exact ih (T_lt h)
theorem xor_eq_zero {a b : Nat} (h : a ^^^ b = 0) : a = b := by
  have : a ^^^ b ^^^ b = b := by rw [h]; simp
  rw [Nat.xor_assoc, Nat.xor_self, Nat.xor_zero] at this
  exact this
theorem T_nz {r : Nat} (h : r < 4294967296) (h0 : T r = 0) : r = 0 := by
  unfold T at h0
  have := xor_eq_zero h0
  split at this <;> omega
theorem Tn_nz (m : Nat) : ∀ {r : Nat}, r < 4294967296 → Tn m r = 0 → r = 0 := by
  induction m with
  | zero => intro r _ h; exact h
  | succ m ih => intro r h h0; exact T_nz h (ih (T_lt h) h0)
theorem Tn_inj (m : Nat) {a b : Nat} (ha : a < 4294967296) (hb : b < 4294967296) (h : Tn m a = Tn m b) : a = b := by
  apply xor_eq_zero
  apply Tn_nz m (xor_lt ha hb)
  rw [Tn_xor, h, Nat.xor_self]

/-- Parts that don't meet. -/
theorem split_xor (k q i : Nat) (h : i < 2 ^ k) : (2 ^ k * q) ^^^ i = 2 ^ k * q + i := by
  have h0 : 0 < 2 ^ k := Nat.two_pow_pos k
  have h1 : ((2 ^ k * q) ^^^ i) / 2 ^ k = q := by
    rw [Nat.xor_div_two_pow, Nat.mul_div_cancel_left _ h0, Nat.div_eq_of_lt h, Nat.xor_zero]
  have h2 : ((2 ^ k * q) ^^^ i) % 2 ^ k = i := by
    rw [Nat.xor_mod_two_pow, Nat.mul_mod_right, Nat.mod_eq_of_lt h, Nat.zero_xor]
  have := Nat.div_add_mod ((2 ^ k * q) ^^^ i) (2 ^ k)
  rw [h1, h2] at this
  exact this.symm

theorem mul_xor (k a b : Nat) : 2 ^ k * (a ^^^ b) = (2 ^ k * a) ^^^ (2 ^ k * b) := by
  have := Nat.shiftLeft_xor_distrib (i := k) (a := a) (b := b)
  simpa [Nat.shiftLeft_eq, Nat.mul_comm] using this

theorem tab_T : ∀ i, i < 16 → Tn 4 i = tab.getD i 0 := by decide +kernel
theorem four_T (r : Nat) : four r = Tn 4 r := by
  have h : r = (2 ^ 4 * (r / 16)) ^^^ (r % 16) := by
    rw [split_xor 4 _ _ (by omega)]; omega
  have e : Tn 4 r = Tn 4 (2 ^ 4 * (r / 16)) ^^^ Tn 4 (r % 16) := by rw [← Tn_xor, ← h]
  rw [e, Tn_pow, tab_T _ (by omega)]
  rfl
theorem eat_T (r c : Nat) : eat r c = Tn 8 (r ^^^ c) := by
  unfold eat
  rw [four_T, four_T, ← Tn_add]

/-- A text as one number, its first bit the least. -/
def val : List Nat → Nat
  | [] => 0
  | c :: e => c + 256 * val e

theorem val_cons (c : Nat) (e : List Nat) (h : c < 256) : val (c :: e) = (2 ^ 8 * val e) ^^^ c := by
  rw [split_xor 8 _ _ (by omega)]; simp only [val]; omega

theorem fold_T : ∀ (e : List Nat) (r : Nat), (∀ x ∈ e, x < 256) → e.foldl eat r = Tn (8 * e.length) (r ^^^ val e)
  | [], r, _ => by simp [val, Tn]
  | c :: e, r, h => by
    rw [List.foldl_cons, fold_T e _ (fun x hx => h x (List.mem_cons_of_mem _ hx)), val_cons c e (h c (List.mem_cons_self ..)), List.length_cons, Nat.mul_add, Nat.mul_one, Nat.add_comm, Tn_add, eat_T]
    congr 1
    rw [Nat.xor_comm (2 ^ 8 * val e) c, ← Nat.xor_assoc, Tn_xor 8 (r ^^^ c), Tn_pow]

theorem reg_diff (xs ys : List Nat) (hx : ∀ x ∈ xs, x < 256) (hy : ∀ x ∈ ys, x < 256) (hl : xs.length = ys.length) : reg xs ^^^ reg ys = Tn (8 * xs.length) (val xs ^^^ val ys) := by
  unfold reg
  rw [fold_T _ _ hx, fold_T _ _ hy, ← hl, ← Tn_xor, xor4, Nat.xor_self, Nat.zero_xor]

theorem sum_eq_iff (xs ys : List Nat) (hx : ∀ x ∈ xs, x < 256) (hy : ∀ x ∈ ys, x < 256) (hl : xs.length = ys.length) : sumOf xs = sumOf ys ↔ Tn (8 * xs.length) (val xs ^^^ val ys) = 0 := by
  rw [← reg_diff xs ys hx hy hl]
  unfold sumOf
  constructor
  · intro h
    have : (4294967295 ^^^ reg xs) ^^^ (4294967295 ^^^ reg ys) = 0 := by rw [h, Nat.xor_self]
    rw [xor4, Nat.xor_self, Nat.zero_xor] at this
    exact this
  · intro h
    rw [xor_eq_zero h]

/-- A byte is turned. -/
theorem val_set : ∀ (xs : List Nat) (j b : Nat), j < xs.length → (∀ x ∈ xs, x < 256) → b < 256 → val (xs.set j (xs.getD j 0 ^^^ b)) = val xs ^^^ (2 ^ (8 * j) * b)
  | [], _, _, h, _, _ => by simp at h
  | c :: e, 0, b, _, hs, hb => by
    have hc : c < 256 := hs c (List.mem_cons_self ..)
    have : c ^^^ b < 256 := Nat.xor_lt_two_pow (n := 8) hc hb
    simp only [List.set_cons_zero, List.getD_cons_zero, Nat.mul_zero, Nat.pow_zero, Nat.one_mul]
    rw [val_cons _ _ this, val_cons _ _ hc, Nat.xor_assoc]
  | c :: e, j + 1, b, h, hs, hb => by
    have hc : c < 256 := hs c (List.mem_cons_self ..)
    simp only [List.set_cons_succ, List.getD_cons_succ]
    rw [val_cons _ _ hc, val_cons _ _ hc, val_set e j b (by simpa using h) (fun x hx => hs x (List.mem_cons_of_mem _ hx)) hb, mul_xor, Nat.xor_assoc, Nat.xor_assoc, Nat.xor_comm c]
    congr 2
    rw [← Nat.mul_assoc, ← Nat.pow_add]
    congr 2
    omega

/-- The text with its bit i turned. -/
def flip (xs : List Nat) (i : Nat) : List Nat := xs.set (i / 8) (xs.getD (i / 8) 0 ^^^ 2 ^ (i % 8))
theorem flip_len (xs : List Nat) (i : Nat) : (flip xs i).length = xs.length := by simp [flip]
theorem pow_lt8 (i : Nat) : 2 ^ (i % 8) < 256 := Nat.lt_of_lt_of_le (Nat.pow_lt_pow_right (by omega) (Nat.mod_lt i (by omega : 0 < 8))) (by omega)
theorem flip_small (xs : List Nat) (i : Nat) (hs : ∀ x ∈ xs, x < 256) : ∀ x ∈ flip xs i, x < 256 := by
  intro x hx
  rcases List.mem_or_eq_of_mem_set hx with h | h
  · exact hs x h
  · rw [h]; exact Nat.xor_lt_two_pow (n := 8) (getD_small hs _) (pow_lt8 i)
theorem val_flip (xs : List Nat) (i : Nat) (h : i < 8 * xs.length) (hs : ∀ x ∈ xs, x < 256) : val (flip xs i) = val xs ^^^ 2 ^ i := by
  unfold flip
  rw [val_set xs (i / 8) _ (by omega) hs (pow_lt8 i), ← Nat.pow_add]
  congr 2
  omega

end Go.Proofs.YtfjhbbekeibpkaaDoor.C
