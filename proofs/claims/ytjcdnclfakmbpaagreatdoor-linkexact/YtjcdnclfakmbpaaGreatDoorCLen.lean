import Derived.Test.YtjcdnclfakmbpaaGreatDoorProg
import Derived.Lib.Strings
import Derived.Lib.Slices
import Derived.Lib.Small
import Derived.Lib.Walk
import Derived.Lib.BitFns
import Derived.Lib.ItoaNum
namespace Go.Proofs.YtjcdnclfakmbpaaGreatDoor.C
theorem ret_int {k : IntKind} {a b : Int} (h : a = b) : Ending.returned (.int k a) = .returned (.int k b) := by rw [h]
theorem len_end (x s : Nat) (y : Int) (k : Nat) (hx : x < 18446744073709551616) (hy : y = ((x / 2 ^ s : Nat) : Int)) (hs : s = 0 ∨ 2 ^ s ≤ x) (h8 : x / 2 ^ s < 256) (hk : k = s) : (k : Int) + Lib.len8 y = (Lib.bitLen x : Int) ∧ Lib.len8 y ≤ 8 ∧ 0 ≤ Lib.len8 y := by
  have e : y.toNat = x / 2 ^ s := by rw [hy]; exact Int.toNat_natCast _
  have y0 : 0 ≤ y := by rw [hy]; exact Int.natCast_nonneg _
  have y1 : y ≤ 255 := by rw [hy]; exact Int.ofNat_le.2 (show x / 2 ^ s ≤ 255 by omega)
  have hl := Lib.len8_of y y0 y1
  have h9 := Lib.bitLen_le8' y y0 y1
  rw [e] at h9
  rw [hl, e]
  rcases hs with rfl | hs
  · simp at *; omega
  · have := Lib.bitLen_shift s x hs hx
    omega
theorem wrap_len (k L b : Int) (h : k + L = b) (h0 : 0 ≤ L) (h1 : L ≤ 8) (k0 : 0 ≤ k) (k1 : k ≤ 56) : (k + ((L + 9223372036854775808) % 18446744073709551616 - 9223372036854775808) + 9223372036854775808) % 18446744073709551616 - 9223372036854775808 = b := by omega
theorem wrap_len0 (L b : Int) (h : ((0 : Nat) : Int) + L = b) (h0 : 0 ≤ L) (h1 : L ≤ 8) : (L + 9223372036854775808) % 18446744073709551616 - 9223372036854775808 = b := by omega
set_option maxRecDepth 100000 in
set_option maxHeartbeats 4000000 in
theorem len_any (w : World) (x : Nat) (hx : x < 18446744073709551616) :
    Calls Tryz.prog 155 #[.int .u64 x] w fun e w' => e = .returned (.int .i64 (Lib.bitLen x)) ∧ w' = w := by
  go_enter Tryz.func155, Tryz.ntmps155
  go_wp2
  all_goals (go_ret; refine ⟨ret_int ?_, rfl⟩)
  · have h1 : 72057594037927936 ≤ x := by omega
    have h2 : x / 72057594037927936 < 256 := by omega
    have h3 : (x : Int) / 4294967296 / 65536 / 256 % 256 = ((x / 72057594037927936 : Nat) : Int) := by omega
    obtain ⟨r1, r2, r3⟩ := len_end x 56 ((x : Int) / 4294967296 / 65536 / 256 % 256) 56 hx h3 (Or.inr h1) h2 rfl
    exact wrap_len _ _ _ r1 r3 r2 (by omega) (by omega)
  · have h1 : 281474976710656 ≤ x := by omega
    have h2 : x / 281474976710656 < 256 := by omega
    have h3 : (x : Int) / 4294967296 / 65536 % 256 = ((x / 281474976710656 : Nat) : Int) := by omega
    obtain ⟨r1, r2, r3⟩ := len_end x 48 ((x : Int) / 4294967296 / 65536 % 256) 48 hx h3 (Or.inr h1) h2 rfl
    exact wrap_len _ _ _ r1 r3 r2 (by omega) (by omega)
  · have h1 : 1099511627776 ≤ x := by omega
    have h2 : x / 1099511627776 < 256 := by omega
    have h3 : (x : Int) / 4294967296 / 256 % 256 = ((x / 1099511627776 : Nat) : Int) := by omega
    obtain ⟨r1, r2, r3⟩ := len_end x 40 ((x : Int) / 4294967296 / 256 % 256) 40 hx h3 (Or.inr h1) h2 rfl
    exact wrap_len _ _ _ r1 r3 r2 (by omega) (by omega)
  · have h1 : 4294967296 ≤ x := by omega
    have h2 : x / 4294967296 < 256 := by omega
    have h3 : (x : Int) / 4294967296 % 256 = ((x / 4294967296 : Nat) : Int) := by omega
    obtain ⟨r1, r2, r3⟩ := len_end x 32 ((x : Int) / 4294967296 % 256) 32 hx h3 (Or.inr h1) h2 rfl
    exact wrap_len _ _ _ r1 r3 r2 (by omega) (by omega)
  · have h1 : 16777216 ≤ x := by omega
    have h2 : x / 16777216 < 256 := by omega
    have h3 : (x : Int) / 65536 / 256 % 256 = ((x / 16777216 : Nat) : Int) := by omega
    obtain ⟨r1, r2, r3⟩ := len_end x 24 ((x : Int) / 65536 / 256 % 256) 24 hx h3 (Or.inr h1) h2 rfl
    exact wrap_len _ _ _ r1 r3 r2 (by omega) (by omega)
  · have h1 : 65536 ≤ x := by omega
    have h2 : x / 65536 < 256 := by omega
    have h3 : (x : Int) / 65536 % 256 = ((x / 65536 : Nat) : Int) := by omega
    obtain ⟨r1, r2, r3⟩ := len_end x 16 ((x : Int) / 65536 % 256) 16 hx h3 (Or.inr h1) h2 rfl
    exact wrap_len _ _ _ r1 r3 r2 (by omega) (by omega)
  · have h1 : 256 ≤ x := by omega
    have h2 : x / 256 < 256 := by omega
    have h3 : (x : Int) / 256 % 256 = ((x / 256 : Nat) : Int) := by omega
    obtain ⟨r1, r2, r3⟩ := len_end x 8 ((x : Int) / 256 % 256) 8 hx h3 (Or.inr h1) h2 rfl
    exact wrap_len _ _ _ r1 r3 r2 (by omega) (by omega)
  · have h2 : x / 1 < 256 := by omega
    have h3 : (x : Int) % 256 = ((x / 1 : Nat) : Int) := by omega
    obtain ⟨r1, r2, r3⟩ := len_end x 0 ((x : Int) % 256) 0 hx h3 (Or.inl rfl) h2 rfl
    exact wrap_len0 _ _ r1 r3 r2
theorem bit_bounds (x : Nat) (hx : x < 18446744073709551616) : x < 2 ^ Lib.bitLen x ∧ (x ≠ 0 → 1 ≤ Lib.bitLen x ∧ 2 ^ (Lib.bitLen x - 1) ≤ x) ∧ (x = 0 → Lib.bitLen x = 0) ∧ Lib.bitLen x ≤ 64 := by
  by_cases h : x = 0
  · subst h; decide
  · have := Lib.bitLenAux_bounds 64 x (by omega) h
    exact ⟨this.2.2, fun _ => ⟨this.1, this.2.1⟩, fun h' => absurd h' h, Lib.bitLen_le x 64 (by omega) (by omega)⟩
end Go.Proofs.YtjcdnclfakmbpaaGreatDoor.C
