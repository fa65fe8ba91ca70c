import Derived.Test.YtfcakfedlcajaaaTwA
import Derived.Test.YtfcakfedlcajaaaTwQ
namespace Go.Proofs.Ytfcakfedlcajaaa
open Go.RowKit
open Fl

theorem wide_ext {A B : Nat} (h1 : hi A = hi B) (h2 : lo A = lo B) : A = B := by rw [← hl_eq A, ← hl_eq B, h1, h2]
theorem wide_nil {A : Nat} (h1 : hi A = 0) (h2 : lo A = 0) : A = 0 := wide_ext h1 h2
theorem cells2 {w : World} {b : Nat} {x y : Value} {t : TypeId} (h : w.heap[b]? = some (.cells #[x, y] t (0, 0))) : w.cell? ⟨b, 0, none⟩ = some x ∧ w.cell? ⟨b, 1, none⟩ = some y := ⟨by simp [World.cell?, h], by simp [World.cell?, h]⟩
theorem thaw2 {w : World} {b : Nat} {x y : Value} {t : TypeId} (h : w.heap[b]? = some (.cells #[x, y] t (0, 0))) (i : Nat) : w.frozen? ⟨b, i, none⟩ = false := by simp [World.frozen?, h]
set_option maxRecDepth 100000 in
theorem size_any (w : World) (W : Nat) (hW : W < MM) :
    Calls Try.prog 38 #[wW W] w fun e w' => e = .returned (.int .i64 (sz W : Int)) ∧ Below w.heap.size w w' := by
  have HS := hide (fun w n hn => shr_any w W n hW hn)
  have hsz : sz W ≤ 128 := sz_le (by unfold MM at hW; omega)
  have HI := hide (sz_iff W)
  unfold wW at HS ⊢
  generalize hi W = H at *
  generalize lo W = L at *
  go_enter Try.func38, Try.ntmps38
  go_wp2
  go_loopw [3] (fun iv wr => ∃ (n : Nat), n ≤ sz W ∧ iv = .int .i64 (n : Int) ∧ Hid (wr.heap[w.heap.size]? = some (.cells #[.int .u64 (H : Int), .int .u64 (L : Int)] 77 (0, 0))) ∧ Hid (Below w.heap.size w wr)) (fun i _ => 128 - (intOf i).toNat)
  case atStart => exact ⟨0, by omega, rfl, hide (heap_alloc_new _ _), hide ((Below.refl _ _).alloc (Nat.le_refl _) _)⟩
  case round =>
    obtain ⟨n, hn, rfl, HX, HB⟩ := hrel
    obtain ⟨x0, x1⟩ := cells2 HX.out
    by_cases h1 : n < sz W
    · have h1' : (n : Int) < 128 := by omega
      have hne : ¬ (W / 2 ^ n = 0) := fun h => by have := (HI.out n).1 h; omega
      have HS1 := hide (HS.out wr n (by omega))
      have HE := hide (@wide_nil (W / 2 ^ n))
      have HNE := hide hne
      clear hne
      generalize hi (W / 2 ^ n) = p at *
      generalize lo (W / 2 ^ n) = q at *
      go_wp2_with (first
        | (go_at_call 33; refine HS1.out.mono ?_; rintro e w2 ⟨rfl, hb⟩; have HB2 := hide hb; clear hb))
      · rename_i c1 c2
        exact absurd (HE.out c1 c2) HNE.out
      all_goals go_roundw
      case rel => exact ⟨n + 1, by omega, by go_num, hide ((HB2.out.block _ (by have := HX.out; have := (Array.getElem?_eq_some_iff.1 this).1; omega)).trans HX.out), hide (HB.out.trans (HB2.out.mono HB.out.size))⟩
      case measure => simp [intOf]; omega
      case rel => exact ⟨n + 1, by omega, by go_num, hide ((HB2.out.block _ (by have := HX.out; have := (Array.getElem?_eq_some_iff.1 this).1; omega)).trans HX.out), hide (HB.out.trans (HB2.out.mono HB.out.size))⟩
      case measure => simp [intOf]; omega
    · obtain rfl : n = sz W := by omega
      by_cases h2 : sz W < 128
      · have h2' : ((sz W : Nat) : Int) < 128 := by omega
        have HS1 := HS.out wr (sz W) (by omega)
        rw [(HI.out _).2 (Nat.le_refl _)] at HS1
        have HS1 := hide HS1
        generalize hN : sz W = n at *
        have HN := hide hN
        clear hN
        go_wp2_with (first
          | (go_at_call 33; refine HS1.out.mono ?_; rintro e w2 ⟨rfl, hb⟩; have HB2 := hide hb; clear hb))
        go_ret
        exact ⟨by rw [HN.out]; rfl, HB.out.trans (HB2.out.mono HB.out.size)⟩
      · have h2' : ¬ ((sz W : Nat) : Int) < 128 := by omega
        generalize hN : sz W = n at *
        have HN := hide hN
        clear hN
        go_wp2
        go_ret
        exact ⟨by rw [HN.out]; rfl, HB.out⟩

theorem and_pow (y k : Nat) (h : y < 2 ^ k) : y &&& 2 ^ k = 0 := by
  apply Nat.eq_of_testBit_eq
  intro i
  rw [Nat.testBit_and, Nat.testBit_two_pow, Nat.zero_testBit]
  by_cases e : k = i
  · subst e; rw [Nat.testBit_lt_two_pow h]; rfl
  · simp [e]
theorem and_pow_up (y k : Nat) (h : y < 2 ^ k) : (2 ^ k + y) &&& 2 ^ k = 2 ^ k := by
  apply Nat.eq_of_testBit_eq
  intro i
  rw [Nat.testBit_and, Nat.testBit_two_pow]
  by_cases e : k = i
  · subst e; rw [Nat.testBit_two_pow_add_eq, Nat.testBit_lt_two_pow h]; rfl
  · simp [e]
theorem xor_pow (y k : Nat) (h : y < 2 ^ k) : y ^^^ 2 ^ k = 2 ^ k + y := by
  have e := Nat.two_pow_add_eq_or_of_lt h 1
  rw [Nat.mul_one] at e
  rw [e]
  apply Nat.eq_of_testBit_eq
  intro i
  rw [Nat.testBit_xor, Nat.testBit_or, Nat.testBit_two_pow]
  by_cases e : k = i
  · subst e; rw [Nat.testBit_lt_two_pow h]; simp
  · simp [e]
theorem xor_pow_up (y k : Nat) (h : y < 2 ^ k) : (2 ^ k + y) ^^^ 2 ^ k = y := by
  rw [← xor_pow y k h, Nat.xor_assoc, Nat.xor_self, Nat.xor_zero]

theorem and_sign {x : Nat} (h : Wf x) : bits .and .u64 (x : Int) 9223372036854775808 = if ng x then 9223372036854775808 else 0 := by
  have e := bits_and_u64_nat x 9223372036854775808 h (by omega)
  rw [show ((9223372036854775808 : Nat) : Int) = 9223372036854775808 from rfl] at e
  rw [e]
  have hw : x < 18446744073709551616 := h
  by_cases c : x < 9223372036854775808
  · have n : ng x = false := by unfold ng; rw [Nat.div_eq_of_lt c]; rfl
    rw [n]
    have := and_pow x 63 c
    rw [show 9223372036854775808 = 2 ^ 63 from rfl, this]; rfl
  · have n : ng x = true := by unfold ng; rw [show x / 9223372036854775808 = 1 by omega]; rfl
    rw [n]
    have := and_pow_up (x - 9223372036854775808) 63 (by omega)
    rw [show 2 ^ 63 + (x - 9223372036854775808) = x by omega] at this
    rw [show 9223372036854775808 = 2 ^ 63 from rfl, this]; rfl
theorem xor_sign {x : Nat} (h : Wf x) : bits .xor .u64 (x : Int) 9223372036854775808 = ((wd (!ng x) (rg x) : Nat) : Int) := by
  have e : bits .xor .u64 (x : Int) 9223372036854775808 = ((x ^^^ 9223372036854775808 : Nat) : Int) := by
    have hx : x ^^^ 9223372036854775808 < 2 ^ 64 := Nat.xor_lt_two_pow h (by omega)
    have h1 : (BitVec.ofInt 64 (x : Int)).toNat = x := by
      rw [BitVec.ofInt_natCast, BitVec.toNat_ofNat]; exact Nat.mod_eq_of_lt h
    have h2 : bits .xor .u64 (x : Int) 9223372036854775808 = IntKind.u64.wrap ((BitVec.ofInt 64 (x : Int) ^^^ BitVec.ofInt 64 9223372036854775808).toNat : Int) := rfl
    rw [h2, BitVec.toNat_xor, h1, show (BitVec.ofInt 64 9223372036854775808).toNat = 9223372036854775808 from rfl, wrap_nat, Nat.mod_eq_of_lt hx]
  rw [e]
  have hw : x < 18446744073709551616 := h
  by_cases c : x < 9223372036854775808
  · have n : ng x = false := by unfold ng; rw [Nat.div_eq_of_lt c]; rfl
    have := xor_pow x 63 c
    rw [n, show 9223372036854775808 = 2 ^ 63 from rfl, this]
    show _ = ((9223372036854775808 + x % 9223372036854775808 : Nat) : Int)
    rw [Nat.mod_eq_of_lt c]
  · have n : ng x = true := by unfold ng; rw [show x / 9223372036854775808 = 1 by omega]; rfl
    have := xor_pow_up (x - 9223372036854775808) 63 (by omega)
    rw [show 2 ^ 63 + (x - 9223372036854775808) = x by omega] at this
    have e5 : x - 9223372036854775808 = x % 9223372036854775808 := by omega
    rw [n, show 9223372036854775808 = 2 ^ 63 from rfl, this]
    show _ = ((x % 9223372036854775808 : Nat) : Int)
    rw [e5]

/-- A word's parts. -/
def ptv (x : Nat) : Value := .tuple #[.bool (ng x), .int .u64 ((pM x : Nat) : Int), .int .i64 (pE x)]

theorem rg_low (x : Nat) : rg x % 4503599627370496 = x % 4503599627370496 ∧ rg x / 4503599627370496 = x / 4503599627370496 % 2048 := by unfold rg; omega

set_option maxRecDepth 100000 in
theorem parts_any (w : World) (x : Nat) (h : Wf x) :
    Calls Try.prog 31 #[.int .u64 (x : Int)] w fun e w' => e = .returned (ptv x) ∧ w' = w := by
  have q1 : bits .and .u64 (x : Int) 4503599627370495 = ((rg x % 4503599627370496 : Nat) : Int) := by
    have := bits_and_u64_nat x 4503599627370495 h (by omega)
    rw [show ((4503599627370495 : Nat) : Int) = 4503599627370495 from rfl] at this
    rw [this, (rg_low x).1]
    congr 1
    exact Nat.and_two_pow_sub_one_eq_mod x 52
  have q2 : bits .and .u64 ((x : Int) / 4503599627370496) 2047 = ((rg x / 4503599627370496 : Nat) : Int) := by
    have hx : x / 4503599627370496 < 18446744073709551616 := Nat.lt_of_le_of_lt (Nat.div_le_self _ _) h
    have := bits_and_u64_nat (x / 4503599627370496) 2047 hx (by omega)
    rw [show ((2047 : Nat) : Int) = 2047 from rfl, Int.natCast_ediv] at this
    rw [show (4503599627370496 : Int) = ((4503599627370496 : Nat) : Int) from rfl, this, (rg_low x).2]
    congr 1
    exact Nat.and_two_pow_sub_one_eq_mod _ 11
  have q3 := and_sign h
  have hr : rg x < 9223372036854775808 := Nat.mod_lt _ (by omega)
  have hm : rg x % 4503599627370496 < 4503599627370496 := Nat.mod_lt _ (by omega)
  have q4 : bits .or .u64 ((rg x % 4503599627370496 : Nat) : Int) 4503599627370496 = ((4503599627370496 + rg x % 4503599627370496 : Nat) : Int) := by
    have := bits_or_u64_nat (rg x % 4503599627370496) 4503599627370496 (by omega) (by omega)
    rw [show ((4503599627370496 : Nat) : Int) = 4503599627370496 from rfl] at this
    rw [this]
    congr 1
    rw [Nat.or_comm]
    have := or_add (P := 4503599627370496) 52 rfl hm 1
    rw [Nat.mul_one] at this
    exact this
  have hq : rg x / 4503599627370496 ≤ 2047 := by omega
  unfold ptv pM pE
  by_cases c : rg x < 4503599627370496
  · have e1 : rg x / 4503599627370496 = 0 := Nat.div_eq_of_lt c
    have e2 : rg x % 4503599627370496 = rg x := Nat.mod_eq_of_lt c
    rw [e1] at q2
    rw [e2] at q1
    simp only [if_pos c]
    clear q4 hm hq e1 e2 c h
    generalize rg x = R at *
    cases hn : ng x
    · rw [hn] at q3
      have q3' : bits .and .u64 (x : Int) 9223372036854775808 = 0 := q3
      clear q3 hn
      go_enter Try.func31, Try.ntmps31
      go_wp2
      go_ret3
      exact ⟨rfl, rfl⟩
    · rw [hn] at q3
      have q3' : bits .and .u64 (x : Int) 9223372036854775808 = 9223372036854775808 := q3
      clear q3 hn
      go_enter Try.func31, Try.ntmps31
      go_wp2
      go_ret3
      exact ⟨rfl, rfl⟩
  · have e1 : 1 ≤ rg x / 4503599627370496 := by omega
    simp only [if_neg c]
    have hz : (((rg x / 4503599627370496 : Nat) : Int) == 0) = false := by simp; omega
    generalize rg x / 4503599627370496 = E at *
    generalize 4503599627370496 + rg x % 4503599627370496 = M at *
    generalize rg x % 4503599627370496 = m at *
    clear hm c h hr
    cases hn : ng x
    · rw [hn] at q3
      have q3' : bits .and .u64 (x : Int) 9223372036854775808 = 0 := q3
      clear q3 hn
      go_enter Try.func31, Try.ntmps31
      go_wp2
      go_ret3
      exact ⟨rfl, rfl⟩
    · rw [hn] at q3
      have q3' : bits .and .u64 (x : Int) 9223372036854775808 = 9223372036854775808 := q3
      clear q3 hn
      go_enter Try.func31, Try.ntmps31
      go_wp2
      go_ret3
      exact ⟨rfl, rfl⟩
end Go.Proofs.Ytfcakfedlcajaaa
