import Derived.Test.YtfjhbbekeibpkaaDoorCSum
namespace Go.Proofs.YtfjhbbekeibpkaaDoor.C
open Go.RowKit

theorem tab_xor : ∀ i, i < 16 → ∀ j, j < 16 → tab.getD (i ^^^ j) 0 = tab.getD i 0 ^^^ tab.getD j 0 := by decide +kernel

theorem xor_div16 (a b : Nat) : (a ^^^ b) / 16 = a / 16 ^^^ b / 16 := by
  have := Nat.shiftRight_xor_distrib (a := a) (b := b) (i := 4)
  simpa [Nat.shiftRight_eq_div_pow] using this
theorem xor_mod16 (a b : Nat) : (a ^^^ b) % 16 = a % 16 ^^^ b % 16 := by
  have := Nat.xor_mod_two_pow (a := a) (b := b) (n := 4)
  simpa using this

theorem xor4 (a b c d : Nat) : (a ^^^ b) ^^^ (c ^^^ d) = (a ^^^ c) ^^^ (b ^^^ d) := by
  rw [Nat.xor_assoc, Nat.xor_assoc, ← Nat.xor_assoc b c d, Nat.xor_comm b c, Nat.xor_assoc]

theorem four_xor (a b : Nat) : four (a ^^^ b) = four a ^^^ four b := by
  unfold four
  rw [xor_div16, xor_mod16, tab_xor _ (Nat.mod_lt _ (by omega)) _ (Nat.mod_lt _ (by omega)), xor4]

theorem eat_xor (a b c d : Nat) : eat (a ^^^ b) (c ^^^ d) = eat a c ^^^ eat b d := by
  unfold eat
  rw [xor4, four_xor, four_xor]

theorem reg_mix (a b c : List Nat) (n : Nat) (ha : n ≤ a.length) (hb : n ≤ b.length) (hc : n ≤ c.length) :
    reg ((List.range n).map fun k => a.getD k 0 ^^^ b.getD k 0 ^^^ c.getD k 0) = reg (a.take n) ^^^ reg (b.take n) ^^^ reg (c.take n) := by
  induction n with
  | zero => simp [reg]
  | succ n ih =>
    rw [List.range_succ, List.map_append, List.map_singleton, reg_snoc, ih (by omega) (by omega) (by omega), take_snoc a n (by omega), take_snoc b n (by omega), take_snoc c n (by omega), reg_snoc, reg_snoc, reg_snoc, ← eat_xor, ← eat_xor]

theorem xor_three (K A B C : Nat) : K ^^^ (A ^^^ B ^^^ C) = (K ^^^ A) ^^^ (K ^^^ B) ^^^ (K ^^^ C) := by
  rw [xor4 K A K B, Nat.xor_self, Nat.zero_xor, ← Nat.xor_assoc (A ^^^ B) K C, Nat.xor_comm (A ^^^ B) K, Nat.xor_assoc K (A ^^^ B) C]

theorem sum_mix (a b c : List Nat) (n : Nat) (ha : n ≤ a.length) (hb : n ≤ b.length) (hc : n ≤ c.length) :
    sumOf ((List.range n).map fun k => a.getD k 0 ^^^ b.getD k 0 ^^^ c.getD k 0) = sumOf (a.take n) ^^^ sumOf (b.take n) ^^^ sumOf (c.take n) := by
  unfold sumOf
  rw [reg_mix a b c n ha hb hc, xor_three]

end Go.Proofs.YtfjhbbekeibpkaaDoor.C
