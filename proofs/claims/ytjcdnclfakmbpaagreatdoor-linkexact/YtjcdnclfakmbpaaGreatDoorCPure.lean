import Derived.WalkKit
namespace Go.Proofs.YtjcdnclfakmbpaaGreatDoor.C
open Go.RowKit
def be (xs : List Nat) : Nat := xs.foldl (fun n x => n * 256 + x) 0
theorem be_snoc (xs : List Nat) (x : Nat) : be (xs ++ [x]) = be xs * 256 + x := by simp [be]
theorem be_lt (xs : List Nat) (h : ∀ x ∈ xs, x < 256) : be xs < 256 ^ xs.length := by
  rw [← List.reverse_reverse xs] at h ⊢
  generalize xs.reverse = ys at *
  induction ys with
  | nil => simp [be]
  | cons y ys ih =>
    rw [List.reverse_cons, be_snoc]
    have h1 := ih (fun x hx => h x (by rw [List.reverse_cons]; exact List.mem_append_left _ hx))
    have h2 := h y (by simp)
    simp only [List.length_append, List.length_singleton, Nat.pow_succ]
    omega
theorem take_snoc (xs : List Nat) (k : Nat) (h : k < xs.length) : xs.take (k + 1) = xs.take k ++ [xs.getD k 0] := by
  rw [List.take_succ_eq_append_getElem h]; simp [List.getD, h]
theorem getD_small {xs : List Nat} (h : ∀ x ∈ xs, x < 256) (k : Nat) : xs.getD k 0 < 256 := by
  by_cases hk : k < xs.length
  · simp only [List.getD, List.getElem?_eq_getElem hk, Option.getD_some]; exact h _ (List.getElem_mem hk)
  · simp [List.getD, List.getElem?_eq_none (Nat.not_lt.1 hk)]
theorem be_take_lt (xs : List Nat) (h : ∀ x ∈ xs, x < 256) (k : Nat) (hk : k < 8) : be (xs.take k) < 72057594037927936 := by
  have h1 := be_lt (xs.take k) (fun x hx => h x (List.mem_of_mem_take hx))
  have h2 : (xs.take k).length ≤ 7 := by simp; omega
  have h3 := Nat.pow_le_pow_right (n := 256) (by omega) h2
  omega
theorem or_byte (N x : Nat) (hN : N < 72057594037927936) (hx : x < 256) : bits .or .u64 ((N : Int) * 256) (x : Int) = ((N * 256 + x : Nat) : Int) := by
  have e : ((N : Int) * 256) = ((N * 256 : Nat) : Int) := by simp
  rw [e, u64_or_nat _ _ (by omega) (by omega)]
  have h := Nat.shiftLeft_add_eq_or_of_lt (a := N) (b := x) (i := 8) (by simpa using hx)
  simp only [Nat.shiftLeft_eq, Nat.reducePow] at h
  rw [← h]
structure It where
  num : Nat
  off : Nat
  len : Nat
  size : Nat
  fault : Nat
def no (f : Nat) : It := ⟨0, 0, 0, 0, f⟩
def pFixed (size : Nat) (xs : List Nat) : It := if xs.length < size then no 10 else ⟨be (xs.take size), 0, 0, size, 0⟩
def pVar (most : Nat) : List Nat → Nat → Nat → It
  | [], _, _ => no 10
  | c :: cs, i, n =>
    if i = 9 ∧ 1 < c then no 11
    else if 128 ≤ c then pVar most cs (i + 1) (n + (c - 128) * 128 ^ i)
    else if c = 0 ∧ 0 < i then no 11
    else if most < n + c * 128 ^ i then no 12
    else ⟨n + c * 128 ^ i, 0, 0, i + 1, 0⟩
def pRaw (n : Nat) (xs : List Nat) : It := if xs.length < n then no 10 else ⟨0, 0, n, n, 0⟩
def pBytes (most : Nat) (xs : List Nat) : It :=
  let l := pVar most xs 0 0
  if l.fault ≠ 0 then no l.fault
  else if xs.length - l.size < l.num then no 10
  else ⟨0, l.size, l.num, l.size + l.num, 0⟩
def width (k : Int) : Nat := if k = 0 then 1 else if k = 1 then 4 else 8
def pFind (k : Int) (bound : Nat) (xs : List Nat) : It :=
  if k = 3 then pVar bound xs 0 0 else if k = 4 then pBytes bound xs else if k = 5 then pRaw bound xs else pFixed (width k) xs
theorem and_low (x : Nat) (hx : x < 256) : bits .and .u8 (x : Int) 127 = ((x % 128 : Nat) : Int) := by
  have h := u8_and_nat x 127 hx (by omega)
  rw [show ((127 : Nat) : Int) = 127 from rfl] at h
  rw [h, show x &&& 127 = x % 128 from Nat.and_two_pow_sub_one_eq_mod x 7]
theorem and_high (x : Nat) (hx : x < 256) : (bits .and .u8 (x : Int) 128 != 0) = decide (128 ≤ x) := by
  have h := u8_and_nat x 128 hx (by omega)
  rw [show ((128 : Nat) : Int) = 128 from rfl] at h
  rw [h]
  have : ∀ y : Fin 256, (((y.val &&& 128 : Nat) : Int) != 0) = decide (128 ≤ y.val) := by decide +kernel
  exact this ⟨x, hx⟩
theorem pow7 (k : Nat) : 2 ^ (7 * k) = 128 ^ k := by rw [Nat.pow_mul]
theorem pow128 (k : Nat) (hk : k ≤ 8) : 128 ^ k ≤ 72057594037927936 := by
  have := Nat.pow_le_pow_right (n := 128) (by omega) hk
  simpa using this
theorem var_fits (N x k : Nat) (hN : N < 128 ^ k) (hx : x < 256) (hk : k ≤ 9) (h9 : k = 9 → x ≤ 1) : N + (x % 128) * 128 ^ k < 18446744073709551616 := by
  by_cases h : k = 9
  · subst h
    have := h9 rfl
    have e : x % 128 = x := by omega
    rw [e]
    rw [show (128 : Nat) ^ 9 = 9223372036854775808 from rfl] at *
    have : x = 0 ∨ x = 1 := by omega
    rcases this with rfl | rfl <;> omega
  · have h1 := pow128 k (by omega)
    have h2 : (x % 128) * 128 ^ k ≤ 127 * 128 ^ k := Nat.mul_le_mul_right _ (by omega)
    omega
theorem or_var (N x k : Nat) (hN : N < 128 ^ k) (hx : x < 256) (hk : k ≤ 9) (h9 : k = 9 → x ≤ 1) :
    bits .or .u64 (N : Int) (IntKind.u64.wrap (IntKind.u64.wrap (bits .and .u8 (x : Int) 127) * 2 ^ (7 * k))) = ((N + (x % 128) * 128 ^ k : Nat) : Int) := by
  have hf := var_fits N x k hN hx hk h9
  rw [and_low x hx]
  have e1 : IntKind.u64.wrap ((x % 128 : Nat) : Int) = ((x % 128 : Nat) : Int) := by
    rw [IntKind.wrap_u64]; omega
  have e2 : ((x % 128 : Nat) : Int) * 2 ^ (7 * k) = (((x % 128) * 128 ^ k : Nat) : Int) := by
    rw [← pow7]; simp
  rw [e1, e2]
  have e3 : IntKind.u64.wrap (((x % 128) * 128 ^ k : Nat) : Int) = (((x % 128) * 128 ^ k : Nat) : Int) := by
    rw [IntKind.wrap_u64]; omega
  rw [e3, u64_or_nat _ _ (by omega) (by omega)]
  have h := Nat.shiftLeft_add_eq_or_of_lt (a := x % 128) (b := N) (i := 7 * k) (by rw [pow7]; exact hN)
  rw [Nat.shiftLeft_eq, pow7] at h
  rw [Nat.or_comm, ← h, Nat.add_comm]
theorem next_lt (N x k : Nat) (hN : N < 128 ^ k) : N + (x % 128) * 128 ^ k < 128 ^ (k + 1) := by
  have h2 : (x % 128) * 128 ^ k ≤ 127 * 128 ^ k := Nat.mul_le_mul_right _ (by omega)
  rw [Nat.pow_succ]; omega
theorem drop_cons (xs : List Nat) (k : Nat) (h : k < xs.length) : xs.drop k = xs.getD k 0 :: xs.drop (k + 1) := by
  rw [List.drop_eq_getElem_cons h]; simp [List.getD, h]
theorem pv_form (most : Nat) (x : Nat) (r : List Nat) (k N : Nat) (h : k = 9 ∧ 1 < x) : pVar most (x :: r) k N = no 11 := by simp [pVar, h]
theorem pv_on (most : Nat) (x : Nat) (r : List Nat) (k N : Nat) (h : ¬ (k = 9 ∧ 1 < x)) (h2 : 128 ≤ x) (h3 : x < 256) : pVar most (x :: r) k N = pVar most r (k + 1) (N + (x % 128) * 128 ^ k) := by
  rw [pVar, if_neg h, if_pos h2, show x % 128 = x - 128 by omega]
theorem pv_zero (most : Nat) (x : Nat) (r : List Nat) (k N : Nat) (h : ¬ (k = 9 ∧ 1 < x)) (_h2 : x < 128) (h3 : x = 0 ∧ 0 < k) : pVar most (x :: r) k N = no 11 := by
  rw [pVar, if_neg h, if_neg (by omega), if_pos h3]
theorem pv_max (most : Nat) (x : Nat) (r : List Nat) (k N : Nat) (h : ¬ (k = 9 ∧ 1 < x)) (h2 : x < 128) (h3 : ¬ (x = 0 ∧ 0 < k)) (h4 : most < N + (x % 128) * 128 ^ k) : pVar most (x :: r) k N = no 12 := by
  rw [show x % 128 = x by omega] at h4
  rw [pVar, if_neg h, if_neg (by omega), if_neg h3, if_pos h4]
theorem pv_ok (most : Nat) (x : Nat) (r : List Nat) (k N : Nat) (h : ¬ (k = 9 ∧ 1 < x)) (h2 : x < 128) (h3 : ¬ (x = 0 ∧ 0 < k)) (h4 : ¬ most < N + (x % 128) * 128 ^ k) : pVar most (x :: r) k N = ⟨N + (x % 128) * 128 ^ k, 0, 0, k + 1, 0⟩ := by
  rw [show x % 128 = x by omega] at h4 ⊢
  rw [pVar, if_neg h, if_neg (by omega), if_neg h3, if_neg h4]
theorem pv_size (most : Nat) : ∀ (xs : List Nat) (i n : Nat), (pVar most xs i n).fault = 0 → i < (pVar most xs i n).size ∧ (pVar most xs i n).size ≤ i + xs.length ∧ (pVar most xs i n).num ≤ most ∧ (pVar most xs i n).len = 0 := by
  intro xs
  induction xs with
  | nil => intro i n h; simp [pVar, no] at h
  | cons c cs ih =>
    intro i n h
    unfold pVar at h ⊢
    by_cases h1 : i = 9 ∧ 1 < c
    · rw [if_pos h1] at h; simp [no] at h
    · rw [if_neg h1] at h ⊢
      by_cases h2 : 128 ≤ c
      · rw [if_pos h2] at h ⊢
        have := ih _ _ h
        simp only [List.length_cons]
        omega
      · rw [if_neg h2] at h ⊢
        by_cases h3 : c = 0 ∧ 0 < i
        · rw [if_pos h3] at h; simp [no] at h
        · rw [if_neg h3] at h ⊢
          by_cases h4 : most < n + c * 128 ^ i
          · rw [if_pos h4] at h; simp [no] at h
          · rw [if_neg h4]
            simp only [List.length_cons, and_true]
            omega
theorem pf_size (k : Int) (bound : Nat) (xs : List Nat) (h : (pFind k bound xs).fault = 0) : (pFind k bound xs).size ≤ xs.length := by
  unfold pFind at h ⊢
  by_cases h3 : k = 3
  · rw [if_pos h3] at h ⊢; have := pv_size bound xs 0 0 h; omega
  · rw [if_neg h3] at h ⊢
    by_cases h4 : k = 4
    · rw [if_pos h4] at h ⊢
      unfold pBytes at h ⊢
      simp only at h ⊢
      by_cases h5 : (pVar bound xs 0 0).fault ≠ 0
      · rw [if_pos h5] at h ⊢; simp [no]
      · rw [if_neg h5] at h ⊢
        have := pv_size bound xs 0 0 (by omega)
        by_cases h6 : xs.length - (pVar bound xs 0 0).size < (pVar bound xs 0 0).num
        · rw [if_pos h6]; simp [no]
        · rw [if_neg h6]; simp only; omega
    · rw [if_neg h4] at h ⊢
      by_cases h5 : k = 5
      · rw [if_pos h5]; unfold pRaw; by_cases h6 : xs.length < bound
        · rw [if_pos h6]; simp [no]
        · rw [if_neg h6]; simp only; omega
      · rw [if_neg h5]; unfold pFixed; by_cases h6 : xs.length < width k
        · rw [if_pos h6]; simp [no]
        · rw [if_neg h6]; simp only; omega
theorem pv_len (most : Nat) : ∀ (xs : List Nat) (i n : Nat), (pVar most xs i n).len = 0 ∧ (pVar most xs i n).off = 0 := by
  intro xs
  induction xs with
  | nil => intro i n; simp [pVar, no]
  | cons c cs ih =>
    intro i n
    unfold pVar
    split
    · simp [no]
    · split
      · exact ih _ _
      · split
        · simp [no]
        · split <;> simp [no]
theorem pf_len (k : Int) (bound : Nat) (xs : List Nat) : (pFind k bound xs).off + (pFind k bound xs).len ≤ xs.length := by
  unfold pFind
  split
  · have := pv_len bound xs 0 0; omega
  · split
    · unfold pBytes
      simp only
      split
      · simp [no]
      · rename_i h5
        have := pv_size bound xs 0 0 (by omega)
        split
        · simp [no]
        · simp only; omega
    · split
      · unfold pRaw; split
        · simp [no]
        · simp only; omega
      · unfold pFixed; split <;> simp [no]
def rNext (k : Int) (bound : Nat) (xs : List Nat) (a f : Nat) : It × Nat × Nat :=
  if f ≠ 0 then (no 0, a, f)
  else if (pFind k bound (xs.drop a)).fault ≠ 0 then (no 0, a, (pFind k bound (xs.drop a)).fault)
  else (pFind k bound (xs.drop a), a + (pFind k bound (xs.drop a)).size, 0)
theorem rn_len (k : Int) (bound : Nat) (xs : List Nat) (a f : Nat) : (((xs.drop a).drop (rNext k bound xs a f).1.off).take (rNext k bound xs a f).1.len).length = (rNext k bound xs a f).1.len := by
  have h := pf_len k bound (xs.drop a)
  unfold rNext
  split
  · simp [no]
  · split
    · simp [no]
    · simp only [List.length_take, List.length_drop] at h ⊢; omega
def got (xs : List Nat) (a : Nat) (x : It × Nat × Nat) : List Nat := ((xs.drop a).drop x.1.off).take x.1.len
def rText (m : Int) (xs : List Nat) (a f : Nat) : It × Nat × Nat := rNext 4 (max 0 m).toNat xs a f
end Go.Proofs.YtjcdnclfakmbpaaGreatDoor.C
