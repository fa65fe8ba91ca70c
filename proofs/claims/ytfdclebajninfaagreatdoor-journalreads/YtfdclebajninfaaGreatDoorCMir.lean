import Derived.Test.YtfdclebajninfaaGreatDoorCSum
namespace Go.Proofs.YtfdclebajninfaaGreatDoor.C
open Go.RowKit

theorem tab_xor : ∀ i, i < 16 → ∀ j, j < 16 → tab.getD (i ^^^ j) 0 = tab.getD i 0 ^^^ tab.getD j 0 := by decide +kernel

theorem xor_div16 (a b : Nat) : (a ^^^ b) / 16 = a / 16 ^^^ b / 16 := by
  have := Nat.shiftRight_xor_distrib (a := a) (b := b) (i := 4)
  simpa [Nat.shiftRight_eq_div_pow] using this
theorem xor_mod16 (a b : Nat) : (a ^^^ b) % 16 = a % 16 ^^^ b % 16 := by
  have := Nat.xor_mod_two_pow (a := a) (b := b) (n := 4)
  simpa using this

theorem xor4 (a b c d : Nat) : (a ^^^ b) ^^^ (c ^^^ d) = (a ^^^ c) ^^^ (b ^^^ d) := by
  rw [Nat.xor_assoc, Nat.xor_assoc, ← Nat.xor_assoc b c d, Nat.xor_comm b c, Nat.xor_assoc]

theorem four_xor (a b : Nat) : four (a ^^^ b) = four a ^^^ four b := by
  unfold four
  rw [xor_div16, xor_mod16, tab_xor _ (Nat.mod_lt _ (by omega)) _ (Nat.mod_lt _ (by omega)), xor4]

theorem eat_xor (a b c d : Nat) : eat (a ^^^ b) (c ^^^ d) = eat a c ^^^ eat b d := by
  unfold eat
  rw [xor4, four_xor, four_xor]

theorem reg_mix (a b c : List Nat) (n : Nat) (ha : n ≤ a.length) (hb : n ≤ b.length) (hc : n ≤ c.length) :
    reg ((List.range n).map fun k => a.getD k 0 ^^^ b.getD k 0 ^^^ c.getD k 0) = reg (a.take n) ^^^ reg (b.take n) ^^^ reg (c.take n) := by
  induction n with
  | zero => simp [reg]
  | succ n ih =>
    rw [List.range_succ, List.map_append, List.map_singleton, reg_snoc, ih (by omega) (by omega) (by omega), take_snoc a n (by omega), take_snoc b n (by omega), take_snoc c n (by omega), reg_snoc, reg_snoc, reg_snoc, ← eat_xor, ← eat_xor]

theorem xor_three (K A B C : Nat) : K ^^^ (A ^^^ B ^^^ C) = (K ^^^ A) ^^^ (K ^^^ B) ^^^ (K ^^^ C) := by
  rw [xor4 K A K B, Nat.xor_self, Nat.zero_xor, ← Nat.xor_assoc (A ^^^ B) K C, Nat.xor_comm (A ^^^ B) K, Nat.xor_assoc K (A ^^^ B) C]

theorem sum_mix (a b c : List Nat) (n : Nat) (ha : n ≤ a.length) (hb : n ≤ b.length) (hc : n ≤ c.length) :
    sumOf ((List.range n).map fun k => a.getD k 0 ^^^ b.getD k 0 ^^^ c.getD k 0) = sumOf (a.take n) ^^^ sumOf (b.take n) ^^^ sumOf (c.take n) := by
  unfold sumOf
  rw [reg_mix a b c n ha hb hc, xor_three]

end Go.Proofs.YtfdclebajninfaaGreatDoor.C
namespace Go.Proofs.YtfdclebajninfaaGreatDoor.C

/-- One bit falls out. -/
def T (r : Nat) : Nat := (r / 2) ^^^ (if r % 2 = 1 then 3988292384 else 0)
def Tn : Nat → Nat → Nat
  | 0, r => r
  | m + 1, r => Tn m (T r)

theorem xor_div2 (a b : Nat) : (a ^^^ b) / 2 = a / 2 ^^^ b / 2 := by simpa using Nat.xor_div_two_pow (a := a) (b := b) (n := 1)
theorem xor_mod2 (a b : Nat) : (a ^^^ b) % 2 = a % 2 ^^^ b % 2 := by simpa using Nat.xor_mod_two_pow (a := a) (b := b) (n := 1)

theorem T_xor (a b : Nat) : T (a ^^^ b) = T a ^^^ T b := by
  unfold T
  rw [xor_div2, xor_mod2, xor4]
  congr 1
  rcases Nat.mod_two_eq_zero_or_one a with h | h <;> rcases Nat.mod_two_eq_zero_or_one b with k | k <;> simp [h, k]

theorem Tn_xor (m : Nat) : ∀ a b, Tn m (a ^^^ b) = Tn m a ^^^ Tn m b := by
  induction m with
  | zero => intro a b; rfl
  | succ m ih => intro a b; simp only [Tn]; rw [T_xor, ih]
theorem Tn_add (m n : Nat) : ∀ r, Tn (m + n) r = Tn n (Tn m r) := by
  induction m with
  | zero => intro r; simp [Tn]
  | succ m ih => intro r; rw [Nat.add_right_comm]; simp only [Tn]; exact ih _
theorem T_zero : T 0 = 0 := by decide
theorem Tn_zero (m : Nat) : Tn m 0 = 0 := by
  induction m with
  | zero => rfl
  | succ m ih => simp only [Tn]; rw [T_zero, ih]
theorem T_two (a : Nat) : T (2 * a) = a := by simp [T]
theorem Tn_pow (k a : Nat) : Tn k (2 ^ k * a) = a := by
  induction k generalizing a with
  | zero => simp [Tn]
  | succ k ih =>
    simp only [Tn]
    rw [Nat.pow_succ, Nat.mul_comm (2 ^ k) 2, Nat.mul_assoc, T_two]
    exact ih a
theorem T_lt {r : Nat} (h : r < 4294967296) : T r < 4294967296 := by
  unfold T
  exact xor_lt (by omega) (by split <;> omega)
theorem Tn_lt (m : Nat) : ∀ {r : Nat}, r < 4294967296 → Tn m r < 4294967296 := by
  induction m with
  | zero => intro r h; exact h
  | succ m ih => intro r h; exact ih (T_lt h)
theorem xor_eq_zero {a b : Nat} (h : a ^^^ b = 0) : a = b := by
  have : a ^^^ b ^^^ b = b := by rw [h]; simp
  rw [Nat.xor_assoc, Nat.xor_self, Nat.xor_zero] at this
  exact this
theorem T_nz {r : Nat} (h : r < 4294967296) (h0 : T r = 0) : r = 0 := by
  unfold T at h0
  have := xor_eq_zero h0
  split at this <;> omega
theorem Tn_nz (m : Nat) : ∀ {r : Nat}, r < 4294967296 → Tn m r = 0 → r = 0 := by
  induction m with
  | zero => intro r _ h; exact h
  | succ m ih => intro r h h0; exact T_nz h (ih (T_lt h) h0)
theorem Tn_inj (m : Nat) {a b : Nat} (ha : a < 4294967296) (hb : b < 4294967296) (h : Tn m a = Tn m b) : a = b := by
  apply xor_eq_zero
  apply Tn_nz m (xor_lt ha hb)
  rw [Tn_xor, h, Nat.xor_self]

/-- Parts that don't meet. -/
theorem split_xor (k q i : Nat) (h : i < 2 ^ k) : (2 ^ k * q) ^^^ i = 2 ^ k * q + i := by
  have h0 : 0 < 2 ^ k := Nat.two_pow_pos k
  have h1 : ((2 ^ k * q) ^^^ i) / 2 ^ k = q := by
    rw [Nat.xor_div_two_pow, Nat.mul_div_cancel_left _ h0, Nat.div_eq_of_lt h, Nat.xor_zero]
  have h2 : ((2 ^ k * q) ^^^ i) % 2 ^ k = i := by
    rw [Nat.xor_mod_two_pow, Nat.mul_mod_right, Nat.mod_eq_of_lt h, Nat.zero_xor]
  have := Nat.div_add_mod ((2 ^ k * q) ^^^ i) (2 ^ k)
  rw [h1, h2] at this
  exact this.symm

theorem mul_xor (k a b : Nat) : 2 ^ k * (a ^^^ b) = (2 ^ k * a) ^^^ (2 ^ k * b) := by
  have := Nat.shiftLeft_xor_distrib (i := k) (a := a) (b := b)
  simpa [Nat.shiftLeft_eq, Nat.mul_comm] using this

theorem tab_T : ∀ i, i < 16 → Tn 4 i = tab.getD i 0 := by decide +kernel
theorem four_T (r : Nat) : four r = Tn 4 r := by
  have h : r = (2 ^ 4 * (r / 16)) ^^^ (r % 16) := by
    rw [split_xor 4 _ _ (by omega)]; omega
  have e : Tn 4 r = Tn 4 (2 ^ 4 * (r / 16)) ^^^ Tn 4 (r % 16) := by rw [← Tn_xor, ← h]
  rw [e, Tn_pow, tab_T _ (by omega)]
  rfl
theorem eat_T (r c : Nat) : eat r c = Tn 8 (r ^^^ c) := by
  unfold eat
  rw [four_T, four_T, ← Tn_add]

/-- A text as one number, its first bit the least. -/
def val : List Nat → Nat
  | [] => 0
  | c :: e => c + 256 * val e

theorem val_cons (c : Nat) (e : List Nat) (h : c < 256) : val (c :: e) = (2 ^ 8 * val e) ^^^ c := by
  rw [split_xor 8 _ _ (by omega)]; simp only [val]; omega

theorem fold_T : ∀ (e : List Nat) (r : Nat), (∀ x ∈ e, x < 256) → e.foldl eat r = Tn (8 * e.length) (r ^^^ val e)
  | [], r, _ => by simp [val, Tn]
  | c :: e, r, h => by
    rw [List.foldl_cons, fold_T e _ (fun x hx => h x (List.mem_cons_of_mem _ hx)), val_cons c e (h c (List.mem_cons_self ..)), List.length_cons, Nat.mul_add, Nat.mul_one, Nat.add_comm, Tn_add, eat_T]
    congr 1
    rw [Nat.xor_comm (2 ^ 8 * val e) c, ← Nat.xor_assoc, Tn_xor 8 (r ^^^ c), Tn_pow]

theorem reg_diff (xs ys : List Nat) (hx : ∀ x ∈ xs, x < 256) (hy : ∀ x ∈ ys, x < 256) (hl : xs.length = ys.length) : reg xs ^^^ reg ys = Tn (8 * xs.length) (val xs ^^^ val ys) := by
  unfold reg
  rw [fold_T _ _ hx, fold_T _ _ hy, ← hl, ← Tn_xor, xor4, Nat.xor_self, Nat.zero_xor]

theorem sum_eq_iff (xs ys : List Nat) (hx : ∀ x ∈ xs, x < 256) (hy : ∀ x ∈ ys, x < 256) (hl : xs.length = ys.length) : sumOf xs = sumOf ys ↔ Tn (8 * xs.length) (val xs ^^^ val ys) = 0 := by
  rw [← reg_diff xs ys hx hy hl]
  unfold sumOf
  constructor
  · intro h
    have : (4294967295 ^^^ reg xs) ^^^ (4294967295 ^^^ reg ys) = 0 := by rw [h, Nat.xor_self]
    rw [xor4, Nat.xor_self, Nat.zero_xor] at this
    exact this
  · intro h
    rw [xor_eq_zero h]

/-- A byte is turned. -/
theorem val_set : ∀ (xs : List Nat) (j b : Nat), j < xs.length → (∀ x ∈ xs, x < 256) → b < 256 → val (xs.set j (xs.getD j 0 ^^^ b)) = val xs ^^^ (2 ^ (8 * j) * b)
  | [], _, _, h, _, _ => by simp at h
  | c :: e, 0, b, _, hs, hb => by
    have hc : c < 256 := hs c (List.mem_cons_self ..)
    have : c ^^^ b < 256 := Nat.xor_lt_two_pow (n := 8) hc hb
    simp only [List.set_cons_zero, List.getD_cons_zero, Nat.mul_zero, Nat.pow_zero, Nat.one_mul]
    rw [val_cons _ _ this, val_cons _ _ hc, Nat.xor_assoc]
  | c :: e, j + 1, b, h, hs, hb => by
    have hc : c < 256 := hs c (List.mem_cons_self ..)
    simp only [List.set_cons_succ, List.getD_cons_succ]
    rw [val_cons _ _ hc, val_cons _ _ hc, val_set e j b (by simpa using h) (fun x hx => hs x (List.mem_cons_of_mem _ hx)) hb, mul_xor, Nat.xor_assoc, Nat.xor_assoc, Nat.xor_comm c]
    congr 2
    rw [← Nat.mul_assoc, ← Nat.pow_add]
    congr 2
    omega

/-- The text with its bit i turned. -/
def flip (xs : List Nat) (i : Nat) : List Nat := xs.set (i / 8) (xs.getD (i / 8) 0 ^^^ 2 ^ (i % 8))
theorem flip_len (xs : List Nat) (i : Nat) : (flip xs i).length = xs.length := by simp [flip]
theorem pow_lt8 (i : Nat) : 2 ^ (i % 8) < 256 := Nat.lt_of_lt_of_le (Nat.pow_lt_pow_right (by omega) (Nat.mod_lt i (by omega : 0 < 8))) (by omega)
theorem flip_small (xs : List Nat) (i : Nat) (hs : ∀ x ∈ xs, x < 256) : ∀ x ∈ flip xs i, x < 256 := by
  intro x hx
  rcases List.mem_or_eq_of_mem_set hx with h | h
  · exact hs x h
  · rw [h]; exact Nat.xor_lt_two_pow (n := 8) (getD_small hs _) (pow_lt8 i)
theorem val_flip (xs : List Nat) (i : Nat) (h : i < 8 * xs.length) (hs : ∀ x ∈ xs, x < 256) : val (flip xs i) = val xs ^^^ 2 ^ i := by
  unfold flip
  rw [val_set xs (i / 8) _ (by omega) hs (pow_lt8 i), ← Nat.pow_add]
  congr 2
  omega

end Go.Proofs.YtfdclebajninfaaGreatDoor.C
namespace Go.Proofs.YtfdclebajninfaaGreatDoor.C

/-- The first k bits from the other end. -/
def rv : Nat → Nat → Nat
  | 0, _ => 0
  | k + 1, n => 2 ^ k * (n % 2) + rv k (n / 2)

theorem rv_lt : ∀ (k n : Nat), rv k n < 2 ^ k
  | 0, _ => by simp [rv]
  | k + 1, n => by
    have := rv_lt k (n / 2)
    have h := Nat.mod_two_eq_zero_or_one n
    simp only [rv, Nat.pow_succ]
    rcases h with h | h <;> rw [h] <;> omega

theorem rv_xor : ∀ (k a b : Nat), rv k (a ^^^ b) = rv k a ^^^ rv k b
  | 0, _, _ => by simp [rv]
  | k + 1, a, b => by
    simp only [rv]
    rw [xor_mod2, xor_div2, rv_xor k, ← split_xor k _ _ (Nat.xor_lt_two_pow (rv_lt k _) (rv_lt k _)), ← split_xor k _ _ (rv_lt k _), ← split_xor k _ _ (rv_lt k _), mul_xor, xor4]

theorem rv_top : ∀ (k low top : Nat), low < 2 ^ k → top < 2 → rv (k + 1) (low + 2 ^ k * top) = 2 * rv k low + top
  | 0, low, top, h, ht => by
    have : low = 0 := by simpa using h
    subst this
    simp [rv]
    omega
  | k + 1, low, top, h, ht => by
    have e1 : (low + 2 ^ (k + 1) * top) % 2 = low % 2 := by rw [Nat.pow_succ, Nat.mul_comm (2 ^ k) 2, Nat.mul_assoc]; omega
    have e2 : (low + 2 ^ (k + 1) * top) / 2 = low / 2 + 2 ^ k * top := by rw [Nat.pow_succ, Nat.mul_comm (2 ^ k) 2, Nat.mul_assoc]; omega
    have ih := rv_top k (low / 2) top (by rw [Nat.pow_succ] at h; omega) ht
    rw [rv, e1, e2, ih, rv, Nat.pow_succ]
    have : 2 ^ k * 2 * (low % 2) = 2 * (2 ^ k * (low % 2)) := by rw [Nat.mul_comm (2 ^ k) 2, Nat.mul_assoc]
    omega

/-- One bit is taken in, in the document's way. -/
def shl1 (r bit : Nat) : Nat := if r / 2147483648 = 1 then ((r * 2 + bit) % 4294967296) ^^^ 79764919 else (r * 2 + bit) % 4294967296

theorem shl1_lt (r bit : Nat) : shl1 r bit < 4294967296 := by
  unfold shl1
  split
  · exact xor_lt (by omega) (by omega)
  · omega

theorem rv_poly : rv 32 79764919 = 3988292384 := by decide +kernel

theorem rv_low (low bit : Nat) (hb : bit < 2) : rv 32 (2 * low + bit) = rv 31 low ^^^ (2 ^ 31 * bit) := by
  have e1 : (2 * low + bit) % 2 = bit := by omega
  have e2 : (2 * low + bit) / 2 = low := by omega
  have h31 := rv_lt 31 low
  have e : rv 32 (2 * low + bit) = 2 ^ 31 * ((2 * low + bit) % 2) + rv 31 ((2 * low + bit) / 2) := rfl
  rw [e, e1, e2, Nat.xor_comm, split_xor 31 _ _ h31]
theorem T_rv (low top : Nat) (hl : low < 2 ^ 31) (ht : top < 2) : T (rv 32 (low + 2 ^ 31 * top)) = rv 31 low ^^^ (if top = 1 then 3988292384 else 0) := by
  rw [rv_top 31 low top hl ht]
  generalize rv 31 low = z
  unfold T
  have e1 : (2 * z + top) / 2 = z := by omega
  have e2 : (2 * z + top) % 2 = top := by omega
  rw [e1, e2]

theorem rv_shl1 (r bit : Nat) (hr : r < 4294967296) (hb : bit < 2) : rv 32 (shl1 r bit) = T (rv 32 r) ^^^ (2 ^ 31 * bit) := by
  obtain ⟨low, top, hl, ht, he, h1, h2⟩ : ∃ low top, low < 2 ^ 31 ∧ top < 2 ∧ r = low + 2 ^ 31 * top ∧ r / 2147483648 = top ∧ (r * 2 + bit) % 4294967296 = 2 * low + bit :=
    ⟨r % 2147483648, r / 2147483648, by omega, by omega, by omega, rfl, by omega⟩
  have hT := T_rv low top hl ht
  rw [← he] at hT
  unfold shl1
  rw [h1, h2, hT]
  split
  · rw [rv_xor, rv_poly, rv_low low bit hb, Nat.xor_assoc, Nat.xor_comm (2 ^ 31 * bit), ← Nat.xor_assoc]
  · rw [rv_low low bit hb, Nat.xor_zero]

/-- What the document's register mirrors behind M bits of V. -/
def far (V M : Nat) : Nat := Tn M (2 ^ 32 * (V % 2 ^ M))
theorem far_zero (V : Nat) : far V 0 = 0 := by simp [far, Nat.mod_one, Tn]
theorem Tn_succ' (m r : Nat) : Tn (m + 1) r = T (Tn m r) := by rw [Tn_add]; rfl
theorem far_step (V M : Nat) : far V (M + 1) = T (far V M) ^^^ (2 ^ 31 * (V / 2 ^ M % 2)) := by
  unfold far
  rw [Nat.mod_pow_succ, Nat.add_comm (V % 2 ^ M), ← split_xor M _ _ (Nat.mod_lt _ (Nat.two_pow_pos M)), mul_xor, Tn_xor, Nat.xor_comm, Tn_succ' M (2 ^ 32 * (V % 2 ^ M))]
  congr 1
  rw [← Nat.mul_assoc, ← Nat.pow_add, show 32 + M = M + 1 + 31 by omega, Nat.pow_add _ (M + 1), Nat.mul_assoc, Tn_pow]
theorem far_end (V M : Nat) (h : V < 2 ^ (32 + M)) : far V (32 + M) = Tn M V := by
  unfold far
  rw [Nat.mod_eq_of_lt h, Tn_add, Tn_pow]

theorem val_lt : ∀ (xs : List Nat), (∀ x ∈ xs, x < 256) → val xs < 2 ^ (8 * xs.length)
  | [], _ => by simp [val]
  | c :: e, h => by
    have h1 := val_lt e (fun x hx => h x (List.mem_cons_of_mem _ hx))
    have h2 := h c (List.mem_cons_self ..)
    rw [List.length_cons, Nat.mul_add, Nat.pow_add]
    simp only [val]
    omega

theorem val_bitat : ∀ (xs : List Nat) (i k : Nat), k < 8 → (∀ x ∈ xs, x < 256) → val xs / 2 ^ (8 * i + k) % 2 = xs.getD i 0 / 2 ^ k % 2
  | [], i, k, _, _ => by simp [val]
  | c :: e, 0, k, hk, h => by
    simp only [List.getD_cons_zero, Nat.mul_zero, Nat.zero_add, val]
    have e1 : 256 * val e = 2 ^ k * (2 * (2 ^ (7 - k) * val e)) := by
      have : (256 : Nat) = 2 ^ k * (2 * 2 ^ (7 - k)) := by
        rw [← Nat.pow_succ', ← Nat.pow_add, show k + (7 - k + 1) = 8 by omega]
      rw [this]
      simp only [Nat.mul_assoc]
    rw [e1, Nat.add_mul_div_left _ _ (Nat.two_pow_pos k)]
    omega
  | c :: e, i + 1, k, hk, h => by
    have ih := val_bitat e i k hk (fun x hx => h x (List.mem_cons_of_mem _ hx))
    have hc := h c (List.mem_cons_self ..)
    simp only [List.getD_cons_succ, val]
    rw [show 8 * (i + 1) + k = 8 + (8 * i + k) by omega, Nat.pow_add, ← Nat.div_div_eq_div_mul, show (c + 256 * val e) / 2 ^ 8 = val e by omega]
    exact ih

/-- The bits that the document takes in. -/
def docV (xs : List Nat) : Nat := 4294967295 ^^^ val xs
theorem doc_bit (xs : List Nat) (i k : Nat) (hk : k < 8) (hs : ∀ x ∈ xs, x < 256) : docV xs / 2 ^ (8 * i + k) % 2 = if i < 4 then 1 - xs.getD i 0 / 2 ^ k % 2 else xs.getD i 0 / 2 ^ k % 2 := by
  rw [← val_bitat xs i k hk hs]
  have h1 : (docV xs).testBit (8 * i + k) = ((4294967295 : Nat).testBit (8 * i + k) ^^ (val xs).testBit (8 * i + k)) := Nat.testBit_xor ..
  have h2 : (4294967295 : Nat).testBit (8 * i + k) = decide (8 * i + k < 32) := by
    have := Nat.testBit_two_pow_sub_one 32 (8 * i + k)
    simpa using this
  rw [h2] at h1
  simp only [Nat.testBit_eq_decide_div_mod_eq] at h1
  have p := Nat.mod_two_eq_zero_or_one (docV xs / 2 ^ (8 * i + k))
  have q := Nat.mod_two_eq_zero_or_one (val xs / 2 ^ (8 * i + k))
  by_cases hi : i < 4
  · have h4 : 8 * i + k < 32 := by omega
    rcases p with p | p <;> rcases q with q | q <;> simp [p, q, h4, hi] at h1 ⊢
  · have h4 : ¬ 8 * i + k < 32 := by omega
    rcases p with p | p <;> rcases q with q | q <;> simp [p, q, h4, hi] at h1 ⊢

theorem doc_end (xs : List Nat) (hs : ∀ x ∈ xs, x < 256) : far (docV xs) (32 + 8 * xs.length) = reg xs := by
  rw [far_end _ _ ?_]
  · unfold reg docV
    rw [fold_T _ _ hs]
  · apply Nat.xor_lt_two_pow
    · exact Nat.lt_of_lt_of_le (by omega : 4294967295 < 2 ^ 32) (Nat.pow_le_pow_right (by omega) (by omega))
    · exact Nat.lt_of_lt_of_le (val_lt xs hs) (Nat.pow_le_pow_right (by omega) (by omega))

end Go.Proofs.YtfdclebajninfaaGreatDoor.C
