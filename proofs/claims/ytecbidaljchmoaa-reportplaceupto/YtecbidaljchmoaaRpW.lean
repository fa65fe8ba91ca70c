import Derived.Test.YtecbidaljchmoaaRpC
import Derived.Deep.Cut
import Derived.Lib.ConvBytes
import Derived.Lib.SmallJoins
import Derived.Laws.BytesArg
namespace Go.Proofs.Ytecbidaljchmoaa
open Go.RowKit

theorem tmod_of (n m : Int) : n.tmod m = if 0 ≤ n then n % m else -((-n) % m) := by
  by_cases h : 0 ≤ n
  · rw [if_pos h, Int.tmod_eq_emod_of_nonneg h]
  · rw [if_neg h]
    have e : n = -(-n) := by omega
    rw [e, Int.neg_tmod, Int.tmod_eq_emod_of_nonneg (by omega)]
    simp
theorem neg_emod (n m : Int) (hm : 0 < m) : (-n) % m = 0 ∧ n % m = 0 ∨ (0 < (-n) % m ∧ n % m = m - (-n) % m) := by
  have h1 := Int.emod_lt_of_pos (-n) hm
  have h2 := Int.emod_nonneg (-n) (by omega : m ≠ 0)
  have h3 := Int.emod_lt_of_pos n hm
  have h4 := Int.emod_nonneg n (by omega : m ≠ 0)
  have h5 := Int.emod_add_mul_ediv n m
  have h6 := Int.emod_add_mul_ediv (-n) m
  have h7 : n % m + (-n) % m = m * (-(n / m) - (-n) / m) := by
    rw [Int.mul_sub, Int.mul_neg]
    omega
  obtain ⟨q, hq⟩ : ∃ q, -(n / m) - (-n) / m = q := ⟨_, rfl⟩
  rw [hq] at h7
  have hq0 : 0 ≤ q := by
    rcases Int.lt_or_le q 0 with h | h
    · have : m * q ≤ m * (-1) := Int.mul_le_mul_of_nonneg_left (by omega) (by omega)
      omega
    · exact h
  have hq1 : q < 2 := by
    rcases Int.lt_or_le q 2 with h | h
    · exact h
    · have : m * 2 ≤ m * q := Int.mul_le_mul_of_nonneg_left h (by omega)
      omega
  have : q = 0 ∨ q = 1 := by omega
  rcases this with rfl | rfl
  · left; omega
  · right
    rw [Int.mul_one] at h7
    omega
theorem tmod_facts (n m : Int) (hm : 0 < m) : (n.tmod m < 0 → n.tmod m + m = n % m) ∧ (¬ n.tmod m < 0 → n.tmod m = n % m) ∧ -m < n.tmod m := by
  have e := tmod_of n m
  have h1 := Int.emod_lt_of_pos (-n) hm
  have h2 := Int.emod_nonneg (-n) (by omega : m ≠ 0)
  have h3 := Int.emod_lt_of_pos n hm
  have h4 := Int.emod_nonneg n (by omega : m ≠ 0)
  have h5 := neg_emod n m hm
  split at e <;> omega
theorem ret_int {a b : Int} (h : a = b) : Ending.returned (.int .i64 a) = .returned (.int .i64 b) := by rw [h]

set_option maxRecDepth 100000 in
set_option maxHeartbeats 1000000 in
theorem within_any (w : World) (n m : Int) (h0 : 0 < m) (hm : m ≤ 4611686018427387904) :
    Calls Try.prog 8 #[.int .i64 n, .int .i64 m] w fun e w' => e = .returned (.int .i64 (n % m)) ∧ w' = w := by
  obtain ⟨h1, h2, h3⟩ := tmod_facts n m h0
  have H1 := hide h1
  have H2 := hide h2
  clear h1 h2
  by_cases h : n.tmod m < 0
  · go_enter Try.func8, Try.ntmps8
    go_wp2
    go_ret
    exact ⟨ret_int (H1.out h), rfl⟩
  · go_enter Try.func8, Try.ntmps8
    go_wp2
    go_ret
    exact ⟨ret_int (H2.out h), rfl⟩
set_option maxRecDepth 100000 in
set_option maxHeartbeats 1000000 in
theorem into64_any (w : World) (n m : Int) (h0 : 0 < m) (hm : m ≤ 4611686018427387904) :
    Calls Try.prog 9 #[.int .i64 n, .int .i64 m] w fun e w' => e = .returned (.int .i64 (n % m)) ∧ w' = w := by
  obtain ⟨h1, h2, h3⟩ := tmod_facts n m h0
  have H1 := hide h1
  have H2 := hide h2
  clear h1 h2
  by_cases h : n.tmod m < 0
  · go_enter Try.func9, Try.ntmps9
    go_wp2
    go_ret
    exact ⟨ret_int (H1.out h), rfl⟩
  · go_enter Try.func9, Try.ntmps9
    go_wp2
    go_ret
    exact ⟨ret_int (H2.out h), rfl⟩
/-- The name of that number. -/
def nameT (a i : Nat) : ByteArray := strOfNums [(a : Int), 97 + (i : Int) / 8, 97 + (i : Int) % 8]
set_option maxRecDepth 100000 in
set_option maxHeartbeats 1000000 in
theorem name_any (w : World) (a : Nat) (i : Nat) (hi : i < 64) :
    Calls Try.prog 10 #[.int .u8 a, .int .i64 i] w fun e w' => e = .returned (.string (nameT a i)) ∧ Below w.heap.size w w' := by
  have hcv := run_convert_bytes_arg (P := Try.prog) (w.alloc (.cells #[.int .u8 (a : Int), .int .u8 (97 + (i : Int) / 8), .int .u8 (97 + (i : Int) % 8)] 5)) 87 5 Try.underlying87 Try.underlying5 w.heap.size 0 3 3 [(a : Int), 97 + (i : Int) / 8, 97 + (i : Int) % 8] rfl (fun j hj => by
    rw [cell_of_row _ _ _ _ _ _ (heap_alloc_new w (.cells #[.int .u8 (a : Int), .int .u8 (97 + (i : Int) / 8), .int .u8 (97 + (i : Int) % 8)] 5))]
    match j, hj with
    | 0, _ => rfl
    | 1, _ => rfl
    | 2, _ => rfl) 9 Try.underlying9
  go_enter Try.func10, Try.ntmps10
  go_wp2
  go_ret
  exact ⟨rfl, (Below.refl _ w).alloc (Nat.le_refl _) _⟩
end Go.Proofs.Ytecbidaljchmoaa
