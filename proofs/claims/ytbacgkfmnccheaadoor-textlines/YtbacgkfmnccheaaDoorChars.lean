import Derived.Test.YtbacgkfmnccheaaDoorProg
import Derived.WalkKit
import Derived.WalkSpells
import Derived.WalkLawsBesides
namespace Go.Proofs.YtbacgkfmnccheaaDoor
open Go.RowKit

theorem ret_bool {a b : Bool} (h : a = b) : Ending.returned (.bool a) = .returned (.bool b) := by rw [h]
theorem ret_int {k : IntKind} {a b : Int} (h : a = b) : Ending.returned (.int k a) = .returned (.int k b) := by rw [h]

def isDig (c : Nat) : Bool := decide (48 ≤ c) && decide (c ≤ 57)
def isBlank (c : Nat) : Bool := c == 32 || c == 9
def isNam (c : Nat) : Bool := c == 45 || c == 46 || c == 95 || (decide (97 ≤ c) && decide (c ≤ 122)) || (decide (65 ≤ c) && decide (c ≤ 90)) || isDig c || decide (127 < c)
def beh (n c : Nat) : Nat := if 9223372036854774 < n then 92233720368547758 else n * 10 + (c - 48)
def ends (d m : Nat) : Bool := if m = 0 then decide (1 ≤ d) && decide (d ≤ 3) else d == 3
/-- The places in a line: 0 between words, 1 bare, 2 quoted, 3 escaped, 4 closed, 5 wrong. -/
def folB (a c : Nat) : Nat := if isBlank c then 0 else if c = 34 ∧ a = 0 then 2 else if c = 34 ∨ c = 92 then 5 else 1
def folQ (c : Nat) : Nat := if c = 34 then 4 else if c = 92 then 3 else 2
def fol (a c : Nat) : Nat :=
  if (c < 32 ∧ c ≠ 9) ∨ c = 127 then 5
  else if a = 0 ∨ a = 1 then folB a c
  else if a = 2 then folQ c
  else if a = 3 then (if c = 34 ∨ c = 92 then 2 else 5)
  else if a = 4 then (if isBlank c then 0 else 5)
  else 5
def std (a n : Nat) : Bool := n == 1 || (n == 2 && a != 0)

set_option maxRecDepth 100000 in
theorem digit_any (w : World) (c : Nat) :
    Calls Tryd.prog 40 #[.int .i32 c] w fun e w' => e = .returned (.bool (isDig c)) ∧ w' = w := by
  by_cases h0 : 48 ≤ c
  · have z0 : (48 : Int) ≤ (c : Int) := by omega
    by_cases h1 : c ≤ 57
    · have z1 : (c : Int) ≤ 57 := by omega
      have e : isDig c = true := by simp [isDig]; omega
      rw [e]; clear e
      go_enter Tryd.func40, Tryd.ntmps40
      go_wp2
      go_ret
      exact ⟨rfl, rfl⟩
    · have z1 : ¬ (c : Int) ≤ 57 := by omega
      have e : isDig c = false := by simp [isDig]; omega
      rw [e]; clear e
      go_enter Tryd.func40, Tryd.ntmps40
      go_wp2
      go_ret
      exact ⟨rfl, rfl⟩
  · have z0 : ¬ (48 : Int) ≤ (c : Int) := by omega
    have e : isDig c = false := by simp [isDig]; omega
    rw [e]; clear e
    go_enter Tryd.func40, Tryd.ntmps40
    go_wp2
    go_ret
    exact ⟨rfl, rfl⟩

set_option maxRecDepth 100000 in
theorem blank_any (w : World) (c : Nat) :
    Calls Tryd.prog 49 #[.int .i32 c] w fun e w' => e = .returned (.bool (isBlank c)) ∧ w' = w := by
  by_cases h0 : c = 32
  · have z0 : ((c : Int) == 32) = true := by simp; omega
    have e : isBlank c = true := by simp [isBlank]; omega
    rw [e]; clear e
    go_enter Tryd.func49, Tryd.ntmps49
    go_wp2
    go_ret
    exact ⟨rfl, rfl⟩
  · have z0 : ((c : Int) == 32) = false := by simp; omega
    by_cases h1 : c = 9
    · have z1 : ((c : Int) == 9) = true := by simp; omega
      have e : isBlank c = true := by simp [isBlank]; omega
      rw [e]; clear e
      go_enter Tryd.func49, Tryd.ntmps49
      go_wp2
      go_ret
      exact ⟨rfl, rfl⟩
    · have z1 : ((c : Int) == 9) = false := by simp; omega
      have e : isBlank c = false := by simp [isBlank]; omega
      rw [e]; clear e
      go_enter Tryd.func49, Tryd.ntmps49
      go_wp2
      go_ret
      exact ⟨rfl, rfl⟩

set_option maxRecDepth 100000 in
theorem ends_any (w : World) (d m : Nat) :
    Calls Tryd.prog 41 #[.int .i64 d, .int .i64 m] w fun e w' => e = .returned (.bool (ends d m)) ∧ w' = w := by
  by_cases h0 : m = 0
  · have z0 : ((m : Int) == 0) = true := by simp; omega
    by_cases h1 : 1 ≤ d
    · have z1 : (1 : Int) ≤ (d : Int) := by omega
      by_cases h2 : d ≤ 3
      · have z2 : (d : Int) ≤ 3 := by omega
        have e : ends d m = true := by simp [ends, h0]; omega
        rw [e]; clear e
        go_enter Tryd.func41, Tryd.ntmps41
        go_wp2
        go_ret
        exact ⟨rfl, rfl⟩
      · have z2 : ¬ (d : Int) ≤ 3 := by omega
        have e : ends d m = false := by simp [ends, h0]; omega
        rw [e]; clear e
        go_enter Tryd.func41, Tryd.ntmps41
        go_wp2
        go_ret
        exact ⟨rfl, rfl⟩
    · have z1 : ¬ (1 : Int) ≤ (d : Int) := by omega
      have e : ends d m = false := by simp [ends, h0]; omega
      rw [e]; clear e
      go_enter Tryd.func41, Tryd.ntmps41
      go_wp2
      go_ret
      exact ⟨rfl, rfl⟩
  · have z0 : ((m : Int) == 0) = false := by simp; omega
    by_cases h1 : 1 ≤ d
    · have z1 : (1 : Int) ≤ (d : Int) := by omega
      by_cases h2 : d ≤ 3
      · have z2 : (d : Int) ≤ 3 := by omega
        by_cases h3 : d = 3
        · have z3 : ((d : Int) == 3) = true := by simp; omega
          have e : ends d m = true := by simp [ends, h0]; omega
          rw [e]; clear e
          go_enter Tryd.func41, Tryd.ntmps41
          go_wp2
          go_ret
          exact ⟨rfl, rfl⟩
        · have z3 : ((d : Int) == 3) = false := by simp; omega
          have e : ends d m = false := by simp [ends, h0]; omega
          rw [e]; clear e
          go_enter Tryd.func41, Tryd.ntmps41
          go_wp2
          go_ret
          exact ⟨rfl, rfl⟩
      · have z2 : ¬ (d : Int) ≤ 3 := by omega
        by_cases h3 : d = 3
        · have z3 : ((d : Int) == 3) = true := by simp; omega
          have e : ends d m = true := by simp [ends, h0]; omega
          rw [e]; clear e
          go_enter Tryd.func41, Tryd.ntmps41
          go_wp2
          go_ret
          exact ⟨rfl, rfl⟩
        · have z3 : ((d : Int) == 3) = false := by simp; omega
          have e : ends d m = false := by simp [ends, h0]; omega
          rw [e]; clear e
          go_enter Tryd.func41, Tryd.ntmps41
          go_wp2
          go_ret
          exact ⟨rfl, rfl⟩
    · have z1 : ¬ (1 : Int) ≤ (d : Int) := by omega
      by_cases h2 : d ≤ 3
      · have z2 : (d : Int) ≤ 3 := by omega
        by_cases h3 : d = 3
        · have z3 : ((d : Int) == 3) = true := by simp; omega
          have e : ends d m = true := by simp [ends, h0]; omega
          rw [e]; clear e
          go_enter Tryd.func41, Tryd.ntmps41
          go_wp2
          go_ret
          exact ⟨rfl, rfl⟩
        · have z3 : ((d : Int) == 3) = false := by simp; omega
          have e : ends d m = false := by simp [ends, h0]; omega
          rw [e]; clear e
          go_enter Tryd.func41, Tryd.ntmps41
          go_wp2
          go_ret
          exact ⟨rfl, rfl⟩
      · have z2 : ¬ (d : Int) ≤ 3 := by omega
        by_cases h3 : d = 3
        · have z3 : ((d : Int) == 3) = true := by simp; omega
          have e : ends d m = true := by simp [ends, h0]; omega
          rw [e]; clear e
          go_enter Tryd.func41, Tryd.ntmps41
          go_wp2
          go_ret
          exact ⟨rfl, rfl⟩
        · have z3 : ((d : Int) == 3) = false := by simp; omega
          have e : ends d m = false := by simp [ends, h0]; omega
          rw [e]; clear e
          go_enter Tryd.func41, Tryd.ntmps41
          go_wp2
          go_ret
          exact ⟨rfl, rfl⟩

set_option maxRecDepth 100000 in
theorem folQ_any (w : World) (c : Nat) :
    Calls Tryd.prog 48 #[.int .i32 c] w fun e w' => e = .returned (.int .i64 (folQ c : Nat)) ∧ w' = w := by
  by_cases h0 : c = 34
  · have z0 : ((c : Int) == 34) = true := by simp; omega
    have e : folQ c = 4 := by simp [folQ, h0]
    rw [e]; clear e
    go_enter Tryd.func48, Tryd.ntmps48
    go_wp2
    go_ret
    exact ⟨rfl, rfl⟩
  · have z0 : ((c : Int) == 34) = false := by simp; omega
    by_cases h1 : c = 92
    · have z1 : ((c : Int) == 92) = true := by simp; omega
      have e : folQ c = 3 := by simp [folQ, h1]
      rw [e]; clear e
      go_enter Tryd.func48, Tryd.ntmps48
      go_wp2
      go_ret
      exact ⟨rfl, rfl⟩
    · have z1 : ((c : Int) == 92) = false := by simp; omega
      have e : folQ c = 2 := by simp [folQ, h0, h1]
      rw [e]; clear e
      go_enter Tryd.func48, Tryd.ntmps48
      go_wp2
      go_ret
      exact ⟨rfl, rfl⟩

set_option maxRecDepth 100000 in
theorem std_any (w : World) (a n : Nat) :
    Calls Tryd.prog 35 #[.int .i64 a, .int .i64 n] w fun e w' => e = .returned (.bool (std a n)) ∧ w' = w := by
  by_cases h0 : n = 1
  · have z0 : ((n : Int) == 1) = true := by simp; omega
    have e : std a n = true := by simp [std]; omega
    rw [e]; clear e
    go_enter Tryd.func35, Tryd.ntmps35
    go_wp2
    go_ret
    exact ⟨rfl, rfl⟩
  · have z0 : ((n : Int) == 1) = false := by simp; omega
    by_cases h1 : n = 2
    · have z1 : ((n : Int) == 2) = true := by simp; omega
      by_cases h2 : a = 0
      · have z2 : ((a : Int) != 0) = false := by simp; omega
        have e : std a n = false := by simp [std]; omega
        rw [e]; clear e
        go_enter Tryd.func35, Tryd.ntmps35
        go_wp2
        go_ret
        exact ⟨rfl, rfl⟩
      · have z2 : ((a : Int) != 0) = true := by simp; omega
        have e : std a n = true := by simp [std]; omega
        rw [e]; clear e
        go_enter Tryd.func35, Tryd.ntmps35
        go_wp2
        go_ret
        exact ⟨rfl, rfl⟩
    · have z1 : ((n : Int) == 2) = false := by simp; omega
      have e : std a n = false := by simp [std]; omega
      rw [e]; clear e
      go_enter Tryd.func35, Tryd.ntmps35
      go_wp2
      go_ret
      exact ⟨rfl, rfl⟩

set_option maxRecDepth 100000 in
theorem folB_any (w : World) (a c : Nat) :
    Calls Tryd.prog 47 #[.int .i64 a, .int .i32 c] w fun e w' => e = .returned (.int .i64 (folB a c : Nat)) ∧ w' = w := by
  by_cases h0 : isBlank c = true
  · have e : folB a c = 0 := by simp [folB, h0]
    rw [e]; clear e
    go_enter Tryd.func47, Tryd.ntmps47
    go_wp2_with (first | (go_at_call 49; refine (blank_any _ c).mono ?_; rintro e w' ⟨rfl, rfl⟩))
    go_ret
    exact ⟨rfl, rfl⟩
  · by_cases h1 : c = 34
    · have z1a : ((c : Int) == 34) = true := by simp; omega
      by_cases h2 : a = 0
      · have z2a : ((a : Int) == 0) = true := by simp; omega
        have e : folB a c = 2 := by simp [folB, h1, h2, isBlank]
        rw [e]; clear e h1 h2
        go_enter Tryd.func47, Tryd.ntmps47
        go_wp2_with (first | (go_at_call 49; refine (blank_any _ c).mono ?_; rintro e w' ⟨rfl, rfl⟩))
        go_ret
        exact ⟨rfl, rfl⟩
      · have z2a : ((a : Int) == 0) = false := by simp; omega
        have e : folB a c = 5 := by simp [folB, h1, h2, isBlank]
        rw [e]; clear e h1 h2
        go_enter Tryd.func47, Tryd.ntmps47
        go_wp2_with (first | (go_at_call 49; refine (blank_any _ c).mono ?_; rintro e w' ⟨rfl, rfl⟩))
        go_ret
        exact ⟨rfl, rfl⟩
    · have z1a : ((c : Int) == 34) = false := by simp; omega
      by_cases h2 : a = 0
      · have z2a : ((a : Int) == 0) = true := by simp; omega
        by_cases h3 : c = 92
        · have z3a : ((c : Int) == 92) = true := by simp; omega
          have e : folB a c = 5 := by simp [folB, h3, isBlank]
          rw [e]; clear e h1 h2 h3
          go_enter Tryd.func47, Tryd.ntmps47
          go_wp2_with (first | (go_at_call 49; refine (blank_any _ c).mono ?_; rintro e w' ⟨rfl, rfl⟩))
          go_ret
          exact ⟨rfl, rfl⟩
        · have z3a : ((c : Int) == 92) = false := by simp; omega
          have e : folB a c = 1 := by simp [folB, h0, h1, h3]
          rw [e]; clear e h1 h2 h3
          go_enter Tryd.func47, Tryd.ntmps47
          go_wp2_with (first | (go_at_call 49; refine (blank_any _ c).mono ?_; rintro e w' ⟨rfl, rfl⟩))
          go_ret
          exact ⟨rfl, rfl⟩
      · have z2a : ((a : Int) == 0) = false := by simp; omega
        by_cases h3 : c = 92
        · have z3a : ((c : Int) == 92) = true := by simp; omega
          have e : folB a c = 5 := by simp [folB, h3, isBlank]
          rw [e]; clear e h1 h2 h3
          go_enter Tryd.func47, Tryd.ntmps47
          go_wp2_with (first | (go_at_call 49; refine (blank_any _ c).mono ?_; rintro e w' ⟨rfl, rfl⟩))
          go_ret
          exact ⟨rfl, rfl⟩
        · have z3a : ((c : Int) == 92) = false := by simp; omega
          have e : folB a c = 1 := by simp [folB, h0, h1, h3]
          rw [e]; clear e h1 h2 h3
          go_enter Tryd.func47, Tryd.ntmps47
          go_wp2_with (first | (go_at_call 49; refine (blank_any _ c).mono ?_; rintro e w' ⟨rfl, rfl⟩))
          go_ret
          exact ⟨rfl, rfl⟩

set_option maxRecDepth 100000 in
set_option maxHeartbeats 1000000 in
theorem fol_low (w : World) (a c : Nat) (hc1 : ¬ c < 32 ∨ c = 9) (hc2 : c ≠ 127) (y2 : ((c : Int) == 127) = false) :
    Calls Tryd.prog 32 #[.int .i64 a, .int .i32 c] w fun e w' => e = .returned (.int .i64 (fol a c : Nat)) ∧ w' = w := by
  have g1 : ¬ ((c < 32 ∧ c ≠ 9) ∨ c = 127) := by omega
  by_cases h0 : c < 32
  · have z0a : (c : Int) < 32 := by omega
    have z0b : ((c : Int) != 9) = false := by simp; omega
    by_cases h1 : a = 0
    · have z1a : ((a : Int) == 0) = true := by simp; omega
      have e : fol a c = folB a c := by simp [fol, g1, h1]
      rw [e]; clear e h1 hc1 hc2
      go_enter Tryd.func32, Tryd.ntmps32
      go_wp2_with (first | (go_at_call 47; refine (folB_any _ a c).mono ?_; rintro e w' ⟨rfl, rfl⟩) | (go_at_call 48; refine (folQ_any _ c).mono ?_; rintro e w' ⟨rfl, rfl⟩) | (go_at_call 49; refine (blank_any _ c).mono ?_; rintro e w' ⟨rfl, rfl⟩))
      go_ret
      exact ⟨rfl, rfl⟩
    · have z1a : ((a : Int) == 0) = false := by simp; omega
      by_cases h2 : a = 1
      · have z2a : ((a : Int) == 1) = true := by simp; omega
        have e : fol a c = folB a c := by simp [fol, g1, h2]
        rw [e]; clear e h1 h2 hc1 hc2
        go_enter Tryd.func32, Tryd.ntmps32
        go_wp2_with (first | (go_at_call 47; refine (folB_any _ a c).mono ?_; rintro e w' ⟨rfl, rfl⟩) | (go_at_call 48; refine (folQ_any _ c).mono ?_; rintro e w' ⟨rfl, rfl⟩) | (go_at_call 49; refine (blank_any _ c).mono ?_; rintro e w' ⟨rfl, rfl⟩))
        go_ret
        exact ⟨rfl, rfl⟩
      · have z2a : ((a : Int) == 1) = false := by simp; omega
        by_cases h3 : a = 2
        · have z3a : ((a : Int) == 2) = true := by simp; omega
          have e : fol a c = folQ c := by simp [fol, g1, h3]
          rw [e]; clear e h1 h2 h3 hc1 hc2
          go_enter Tryd.func32, Tryd.ntmps32
          go_wp2_with (first | (go_at_call 47; refine (folB_any _ a c).mono ?_; rintro e w' ⟨rfl, rfl⟩) | (go_at_call 48; refine (folQ_any _ c).mono ?_; rintro e w' ⟨rfl, rfl⟩) | (go_at_call 49; refine (blank_any _ c).mono ?_; rintro e w' ⟨rfl, rfl⟩))
          go_ret
          exact ⟨rfl, rfl⟩
        · have z3a : ((a : Int) == 2) = false := by simp; omega
          by_cases h4 : a = 3
          · have z4a : ((a : Int) == 3) = true := by simp; omega
            by_cases h5 : c = 34
            · have z5a : ((c : Int) == 34) = true := by simp; omega
              have e : fol a c = 2 := by simp [fol, h4, h5]
              rw [e]; clear e h1 h2 h3 h4 h5 hc1 hc2
              go_enter Tryd.func32, Tryd.ntmps32
              go_wp2_with (first | (go_at_call 47; refine (folB_any _ a c).mono ?_; rintro e w' ⟨rfl, rfl⟩) | (go_at_call 48; refine (folQ_any _ c).mono ?_; rintro e w' ⟨rfl, rfl⟩) | (go_at_call 49; refine (blank_any _ c).mono ?_; rintro e w' ⟨rfl, rfl⟩))
              go_ret
              exact ⟨rfl, rfl⟩
            · have z5a : ((c : Int) == 34) = false := by simp; omega
              by_cases h6 : c = 92
              · have z6a : ((c : Int) == 92) = true := by simp; omega
                have e : fol a c = 2 := by simp [fol, h4, h6]
                rw [e]; clear e h1 h2 h3 h4 h5 h6 hc1 hc2
                go_enter Tryd.func32, Tryd.ntmps32
                go_wp2_with (first | (go_at_call 47; refine (folB_any _ a c).mono ?_; rintro e w' ⟨rfl, rfl⟩) | (go_at_call 48; refine (folQ_any _ c).mono ?_; rintro e w' ⟨rfl, rfl⟩) | (go_at_call 49; refine (blank_any _ c).mono ?_; rintro e w' ⟨rfl, rfl⟩))
                go_ret
                exact ⟨rfl, rfl⟩
              · have z6a : ((c : Int) == 92) = false := by simp; omega
                have e : fol a c = 5 := by simp [fol, g1, h4, h5, h6]
                rw [e]; clear e h1 h2 h3 h4 h5 h6 hc1 hc2
                go_enter Tryd.func32, Tryd.ntmps32
                go_wp2_with (first | (go_at_call 47; refine (folB_any _ a c).mono ?_; rintro e w' ⟨rfl, rfl⟩) | (go_at_call 48; refine (folQ_any _ c).mono ?_; rintro e w' ⟨rfl, rfl⟩) | (go_at_call 49; refine (blank_any _ c).mono ?_; rintro e w' ⟨rfl, rfl⟩))
                go_ret
                exact ⟨rfl, rfl⟩
          · have z4a : ((a : Int) == 3) = false := by simp; omega
            by_cases h7 : a = 4
            · have z7a : ((a : Int) == 4) = true := by simp; omega
              by_cases h8 : isBlank c = true
              · have e : fol a c = 0 := by simp [fol, g1, h7, h8]
                rw [e]; clear e h1 h2 h3 h4 h7 hc1 hc2
                go_enter Tryd.func32, Tryd.ntmps32
                go_wp2_with (first | (go_at_call 47; refine (folB_any _ a c).mono ?_; rintro e w' ⟨rfl, rfl⟩) | (go_at_call 48; refine (folQ_any _ c).mono ?_; rintro e w' ⟨rfl, rfl⟩) | (go_at_call 49; refine (blank_any _ c).mono ?_; rintro e w' ⟨rfl, rfl⟩))
                go_ret
                exact ⟨rfl, rfl⟩
              · have e : fol a c = 5 := by simp [fol, g1, h7, h8]
                rw [e]; clear e h1 h2 h3 h4 h7 hc1 hc2
                go_enter Tryd.func32, Tryd.ntmps32
                go_wp2_with (first | (go_at_call 47; refine (folB_any _ a c).mono ?_; rintro e w' ⟨rfl, rfl⟩) | (go_at_call 48; refine (folQ_any _ c).mono ?_; rintro e w' ⟨rfl, rfl⟩) | (go_at_call 49; refine (blank_any _ c).mono ?_; rintro e w' ⟨rfl, rfl⟩))
                go_ret
                exact ⟨rfl, rfl⟩
            · have z7a : ((a : Int) == 4) = false := by simp; omega
              have e : fol a c = 5 := by simp [fol, g1, h1, h2, h3, h4, h7]
              rw [e]; clear e h1 h2 h3 h4 h7 hc1 hc2
              go_enter Tryd.func32, Tryd.ntmps32
              go_wp2_with (first | (go_at_call 47; refine (folB_any _ a c).mono ?_; rintro e w' ⟨rfl, rfl⟩) | (go_at_call 48; refine (folQ_any _ c).mono ?_; rintro e w' ⟨rfl, rfl⟩) | (go_at_call 49; refine (blank_any _ c).mono ?_; rintro e w' ⟨rfl, rfl⟩))
              go_ret
              exact ⟨rfl, rfl⟩
  · have z0a : decide ((c : Int) < 32) = false := decide_eq_false (by omega)
    by_cases h1 : a = 0
    · have z1a : ((a : Int) == 0) = true := by simp; omega
      have e : fol a c = folB a c := by simp [fol, g1, h1]
      rw [e]; clear e h1 hc1 hc2
      go_enter Tryd.func32, Tryd.ntmps32
      go_wp2_with (first | (go_at_call 47; refine (folB_any _ a c).mono ?_; rintro e w' ⟨rfl, rfl⟩) | (go_at_call 48; refine (folQ_any _ c).mono ?_; rintro e w' ⟨rfl, rfl⟩) | (go_at_call 49; refine (blank_any _ c).mono ?_; rintro e w' ⟨rfl, rfl⟩))
      go_ret
      exact ⟨rfl, rfl⟩
    · have z1a : ((a : Int) == 0) = false := by simp; omega
      by_cases h2 : a = 1
      · have z2a : ((a : Int) == 1) = true := by simp; omega
        have e : fol a c = folB a c := by simp [fol, g1, h2]
        rw [e]; clear e h1 h2 hc1 hc2
        go_enter Tryd.func32, Tryd.ntmps32
        go_wp2_with (first | (go_at_call 47; refine (folB_any _ a c).mono ?_; rintro e w' ⟨rfl, rfl⟩) | (go_at_call 48; refine (folQ_any _ c).mono ?_; rintro e w' ⟨rfl, rfl⟩) | (go_at_call 49; refine (blank_any _ c).mono ?_; rintro e w' ⟨rfl, rfl⟩))
        go_ret
        exact ⟨rfl, rfl⟩
      · have z2a : ((a : Int) == 1) = false := by simp; omega
        by_cases h3 : a = 2
        · have z3a : ((a : Int) == 2) = true := by simp; omega
          have e : fol a c = folQ c := by simp [fol, g1, h3]
          rw [e]; clear e h1 h2 h3 hc1 hc2
          go_enter Tryd.func32, Tryd.ntmps32
          go_wp2_with (first | (go_at_call 47; refine (folB_any _ a c).mono ?_; rintro e w' ⟨rfl, rfl⟩) | (go_at_call 48; refine (folQ_any _ c).mono ?_; rintro e w' ⟨rfl, rfl⟩) | (go_at_call 49; refine (blank_any _ c).mono ?_; rintro e w' ⟨rfl, rfl⟩))
          go_ret
          exact ⟨rfl, rfl⟩
        · have z3a : ((a : Int) == 2) = false := by simp; omega
          by_cases h4 : a = 3
          · have z4a : ((a : Int) == 3) = true := by simp; omega
            by_cases h5 : c = 34
            · have z5a : ((c : Int) == 34) = true := by simp; omega
              have e : fol a c = 2 := by simp [fol, h4, h5]
              rw [e]; clear e h1 h2 h3 h4 h5 hc1 hc2
              go_enter Tryd.func32, Tryd.ntmps32
              go_wp2_with (first | (go_at_call 47; refine (folB_any _ a c).mono ?_; rintro e w' ⟨rfl, rfl⟩) | (go_at_call 48; refine (folQ_any _ c).mono ?_; rintro e w' ⟨rfl, rfl⟩) | (go_at_call 49; refine (blank_any _ c).mono ?_; rintro e w' ⟨rfl, rfl⟩))
              go_ret
              exact ⟨rfl, rfl⟩
            · have z5a : ((c : Int) == 34) = false := by simp; omega
              by_cases h6 : c = 92
              · have z6a : ((c : Int) == 92) = true := by simp; omega
                have e : fol a c = 2 := by simp [fol, h4, h6]
                rw [e]; clear e h1 h2 h3 h4 h5 h6 hc1 hc2
                go_enter Tryd.func32, Tryd.ntmps32
                go_wp2_with (first | (go_at_call 47; refine (folB_any _ a c).mono ?_; rintro e w' ⟨rfl, rfl⟩) | (go_at_call 48; refine (folQ_any _ c).mono ?_; rintro e w' ⟨rfl, rfl⟩) | (go_at_call 49; refine (blank_any _ c).mono ?_; rintro e w' ⟨rfl, rfl⟩))
                go_ret
                exact ⟨rfl, rfl⟩
              · have z6a : ((c : Int) == 92) = false := by simp; omega
                have e : fol a c = 5 := by simp [fol, g1, h4, h5, h6]
                rw [e]; clear e h1 h2 h3 h4 h5 h6 hc1 hc2
                go_enter Tryd.func32, Tryd.ntmps32
                go_wp2_with (first | (go_at_call 47; refine (folB_any _ a c).mono ?_; rintro e w' ⟨rfl, rfl⟩) | (go_at_call 48; refine (folQ_any _ c).mono ?_; rintro e w' ⟨rfl, rfl⟩) | (go_at_call 49; refine (blank_any _ c).mono ?_; rintro e w' ⟨rfl, rfl⟩))
                go_ret
                exact ⟨rfl, rfl⟩
          · have z4a : ((a : Int) == 3) = false := by simp; omega
            by_cases h7 : a = 4
            · have z7a : ((a : Int) == 4) = true := by simp; omega
              by_cases h8 : isBlank c = true
              · have e : fol a c = 0 := by simp [fol, g1, h7, h8]
                rw [e]; clear e h1 h2 h3 h4 h7 hc1 hc2
                go_enter Tryd.func32, Tryd.ntmps32
                go_wp2_with (first | (go_at_call 47; refine (folB_any _ a c).mono ?_; rintro e w' ⟨rfl, rfl⟩) | (go_at_call 48; refine (folQ_any _ c).mono ?_; rintro e w' ⟨rfl, rfl⟩) | (go_at_call 49; refine (blank_any _ c).mono ?_; rintro e w' ⟨rfl, rfl⟩))
                go_ret
                exact ⟨rfl, rfl⟩
              · have e : fol a c = 5 := by simp [fol, g1, h7, h8]
                rw [e]; clear e h1 h2 h3 h4 h7 hc1 hc2
                go_enter Tryd.func32, Tryd.ntmps32
                go_wp2_with (first | (go_at_call 47; refine (folB_any _ a c).mono ?_; rintro e w' ⟨rfl, rfl⟩) | (go_at_call 48; refine (folQ_any _ c).mono ?_; rintro e w' ⟨rfl, rfl⟩) | (go_at_call 49; refine (blank_any _ c).mono ?_; rintro e w' ⟨rfl, rfl⟩))
                go_ret
                exact ⟨rfl, rfl⟩
            · have z7a : ((a : Int) == 4) = false := by simp; omega
              have e : fol a c = 5 := by simp [fol, g1, h1, h2, h3, h4, h7]
              rw [e]; clear e h1 h2 h3 h4 h7 hc1 hc2
              go_enter Tryd.func32, Tryd.ntmps32
              go_wp2_with (first | (go_at_call 47; refine (folB_any _ a c).mono ?_; rintro e w' ⟨rfl, rfl⟩) | (go_at_call 48; refine (folQ_any _ c).mono ?_; rintro e w' ⟨rfl, rfl⟩) | (go_at_call 49; refine (blank_any _ c).mono ?_; rintro e w' ⟨rfl, rfl⟩))
              go_ret
              exact ⟨rfl, rfl⟩

set_option maxRecDepth 100000 in
set_option maxHeartbeats 400000 in
theorem fol_any (w : World) (a c : Nat) :
    Calls Tryd.prog 32 #[.int .i64 a, .int .i32 c] w fun e w' => e = .returned (.int .i64 (fol a c : Nat)) ∧ w' = w := by
  by_cases k1 : c < 32
  · have y1 : (c : Int) < 32 := by omega
    by_cases k2 : c = 9
    · subst k2
      exact fol_low w a 9 (by omega) (by omega) rfl
    · have y2 : ((c : Int) != 9) = true := by simp; omega
      have e : fol a c = 5 := by simp [fol, k1, k2]
      rw [e]; clear e
      go_enter Tryd.func32, Tryd.ntmps32
      go_wp2
      go_ret
      exact ⟨rfl, rfl⟩
  · have y1 : ¬ (c : Int) < 32 := by omega
    by_cases k2 : c = 127
    · have y2 : ((c : Int) == 127) = true := by simp; omega
      have e : fol a c = 5 := by simp [fol, k2]
      rw [e]; clear e
      go_enter Tryd.func32, Tryd.ntmps32
      go_wp2
      go_ret
      exact ⟨rfl, rfl⟩
    · exact fol_low w a c (by omega) (by omega) (by simp; omega)

set_option maxRecDepth 100000 in
set_option maxHeartbeats 1000000 in
theorem nameable_any (w : World) (c : Nat) :
    Calls Tryd.prog 25 #[.int .i32 c] w fun e w' => e = .returned (.bool (isNam c)) ∧ w' = w := by
  by_cases h0 : c = 45
  · have z0a : ((c : Int) == 45) = true := by simp; omega
    have e : isNam c = true := by simp [isNam]; omega
    rw [e]; clear e h0
    go_enter Tryd.func25, Tryd.ntmps25
    go_wp2_with (first | (go_at_call 40; refine (digit_any _ c).mono ?_; rintro e w' ⟨rfl, rfl⟩))
    go_ret
    exact ⟨rfl, rfl⟩
  · have z0a : ((c : Int) == 45) = false := by simp; omega
    by_cases h1 : c = 46
    · have z1a : ((c : Int) == 46) = true := by simp; omega
      have e : isNam c = true := by simp [isNam]; omega
      rw [e]; clear e h0 h1
      go_enter Tryd.func25, Tryd.ntmps25
      go_wp2_with (first | (go_at_call 40; refine (digit_any _ c).mono ?_; rintro e w' ⟨rfl, rfl⟩))
      go_ret
      exact ⟨rfl, rfl⟩
    · have z1a : ((c : Int) == 46) = false := by simp; omega
      by_cases h2 : c = 95
      · have z2a : ((c : Int) == 95) = true := by simp; omega
        have e : isNam c = true := by simp [isNam]; omega
        rw [e]; clear e h0 h1 h2
        go_enter Tryd.func25, Tryd.ntmps25
        go_wp2_with (first | (go_at_call 40; refine (digit_any _ c).mono ?_; rintro e w' ⟨rfl, rfl⟩))
        go_ret
        exact ⟨rfl, rfl⟩
      · have z2a : ((c : Int) == 95) = false := by simp; omega
        by_cases h3 : 97 ≤ c
        · have z3a : (97 : Int) ≤ (c : Int) := by omega
          by_cases h4 : c ≤ 122
          · have z4a : (c : Int) ≤ 122 := by omega
            have e : isNam c = true := by simp [isNam]; omega
            rw [e]; clear e h0 h1 h2
            go_enter Tryd.func25, Tryd.ntmps25
            go_wp2_with (first | (go_at_call 40; refine (digit_any _ c).mono ?_; rintro e w' ⟨rfl, rfl⟩))
            go_ret
            exact ⟨rfl, rfl⟩
          · have z4a : decide ((c : Int) ≤ 122) = false := decide_eq_false (by omega)
            by_cases h5 : 65 ≤ c
            · have z5a : (65 : Int) ≤ (c : Int) := by omega
              by_cases h6 : c ≤ 90
              · have z6a : (c : Int) ≤ 90 := by omega
                have e : isNam c = true := by simp [isNam]; omega
                rw [e]; clear e h0 h1 h2
                go_enter Tryd.func25, Tryd.ntmps25
                go_wp2_with (first | (go_at_call 40; refine (digit_any _ c).mono ?_; rintro e w' ⟨rfl, rfl⟩))
                go_ret
                exact ⟨rfl, rfl⟩
              · have z6a : decide ((c : Int) ≤ 90) = false := decide_eq_false (by omega)
                by_cases h7 : isDig c = true
                · have e : isNam c = true := by simp [isNam, h7]
                  rw [e]; clear e h0 h1 h2
                  go_enter Tryd.func25, Tryd.ntmps25
                  go_wp2_with (first | (go_at_call 40; refine (digit_any _ c).mono ?_; rintro e w' ⟨rfl, rfl⟩))
                  go_ret
                  exact ⟨rfl, rfl⟩
                · by_cases h8 : 127 < c
                  · have z8a : (127 : Int) < (c : Int) := by omega
                    have e : isNam c = true := by simp [isNam, h0, h1, h2, h7]; omega
                    rw [e]; clear e h0 h1 h2
                    go_enter Tryd.func25, Tryd.ntmps25
                    go_wp2_with (first | (go_at_call 40; refine (digit_any _ c).mono ?_; rintro e w' ⟨rfl, rfl⟩))
                    go_ret
                    exact ⟨rfl, rfl⟩
                  · have z8a : decide ((127 : Int) < (c : Int)) = false := decide_eq_false (by omega)
                    have e : isNam c = false := by simp [isNam, h0, h1, h2, h7]; omega
                    rw [e]; clear e h0 h1 h2
                    go_enter Tryd.func25, Tryd.ntmps25
                    go_wp2_with (first | (go_at_call 40; refine (digit_any _ c).mono ?_; rintro e w' ⟨rfl, rfl⟩))
                    go_ret
                    exact ⟨rfl, rfl⟩
            · have z5a : decide ((65 : Int) ≤ (c : Int)) = false := decide_eq_false (by omega)
              by_cases h7 : isDig c = true
              · have e : isNam c = true := by simp [isNam, h7]
                rw [e]; clear e h0 h1 h2
                go_enter Tryd.func25, Tryd.ntmps25
                go_wp2_with (first | (go_at_call 40; refine (digit_any _ c).mono ?_; rintro e w' ⟨rfl, rfl⟩))
                go_ret
                exact ⟨rfl, rfl⟩
              · by_cases h8 : 127 < c
                · have z8a : (127 : Int) < (c : Int) := by omega
                  have e : isNam c = true := by simp [isNam, h0, h1, h2, h7]; omega
                  rw [e]; clear e h0 h1 h2
                  go_enter Tryd.func25, Tryd.ntmps25
                  go_wp2_with (first | (go_at_call 40; refine (digit_any _ c).mono ?_; rintro e w' ⟨rfl, rfl⟩))
                  go_ret
                  exact ⟨rfl, rfl⟩
                · have z8a : decide ((127 : Int) < (c : Int)) = false := decide_eq_false (by omega)
                  have e : isNam c = false := by simp [isNam, h0, h1, h2, h7]; omega
                  rw [e]; clear e h0 h1 h2
                  go_enter Tryd.func25, Tryd.ntmps25
                  go_wp2_with (first | (go_at_call 40; refine (digit_any _ c).mono ?_; rintro e w' ⟨rfl, rfl⟩))
                  go_ret
                  exact ⟨rfl, rfl⟩
        · have z3a : decide ((97 : Int) ≤ (c : Int)) = false := decide_eq_false (by omega)
          by_cases h5 : 65 ≤ c
          · have z5a : (65 : Int) ≤ (c : Int) := by omega
            by_cases h6 : c ≤ 90
            · have z6a : (c : Int) ≤ 90 := by omega
              have e : isNam c = true := by simp [isNam]; omega
              rw [e]; clear e h0 h1 h2
              go_enter Tryd.func25, Tryd.ntmps25
              go_wp2_with (first | (go_at_call 40; refine (digit_any _ c).mono ?_; rintro e w' ⟨rfl, rfl⟩))
              go_ret
              exact ⟨rfl, rfl⟩
            · have z6a : decide ((c : Int) ≤ 90) = false := decide_eq_false (by omega)
              by_cases h7 : isDig c = true
              · have e : isNam c = true := by simp [isNam, h7]
                rw [e]; clear e h0 h1 h2
                go_enter Tryd.func25, Tryd.ntmps25
                go_wp2_with (first | (go_at_call 40; refine (digit_any _ c).mono ?_; rintro e w' ⟨rfl, rfl⟩))
                go_ret
                exact ⟨rfl, rfl⟩
              · by_cases h8 : 127 < c
                · have z8a : (127 : Int) < (c : Int) := by omega
                  have e : isNam c = true := by simp [isNam, h0, h1, h2, h7]; omega
                  rw [e]; clear e h0 h1 h2
                  go_enter Tryd.func25, Tryd.ntmps25
                  go_wp2_with (first | (go_at_call 40; refine (digit_any _ c).mono ?_; rintro e w' ⟨rfl, rfl⟩))
                  go_ret
                  exact ⟨rfl, rfl⟩
                · have z8a : decide ((127 : Int) < (c : Int)) = false := decide_eq_false (by omega)
                  have e : isNam c = false := by simp [isNam, h0, h1, h2, h7]; omega
                  rw [e]; clear e h0 h1 h2
                  go_enter Tryd.func25, Tryd.ntmps25
                  go_wp2_with (first | (go_at_call 40; refine (digit_any _ c).mono ?_; rintro e w' ⟨rfl, rfl⟩))
                  go_ret
                  exact ⟨rfl, rfl⟩
          · have z5a : decide ((65 : Int) ≤ (c : Int)) = false := decide_eq_false (by omega)
            by_cases h7 : isDig c = true
            · have e : isNam c = true := by simp [isNam, h7]
              rw [e]; clear e h0 h1 h2
              go_enter Tryd.func25, Tryd.ntmps25
              go_wp2_with (first | (go_at_call 40; refine (digit_any _ c).mono ?_; rintro e w' ⟨rfl, rfl⟩))
              go_ret
              exact ⟨rfl, rfl⟩
            · by_cases h8 : 127 < c
              · have z8a : (127 : Int) < (c : Int) := by omega
                have e : isNam c = true := by simp [isNam, h0, h1, h2, h7]; omega
                rw [e]; clear e h0 h1 h2
                go_enter Tryd.func25, Tryd.ntmps25
                go_wp2_with (first | (go_at_call 40; refine (digit_any _ c).mono ?_; rintro e w' ⟨rfl, rfl⟩))
                go_ret
                exact ⟨rfl, rfl⟩
              · have z8a : decide ((127 : Int) < (c : Int)) = false := decide_eq_false (by omega)
                have e : isNam c = false := by simp [isNam, h0, h1, h2, h7]; omega
                rw [e]; clear e h0 h1 h2
                go_enter Tryd.func25, Tryd.ntmps25
                go_wp2_with (first | (go_at_call 40; refine (digit_any _ c).mono ?_; rintro e w' ⟨rfl, rfl⟩))
                go_ret
                exact ⟨rfl, rfl⟩

set_option maxRecDepth 100000 in
theorem beh_any (w : World) (n c : Nat) (h1 : 48 ≤ c) (h2 : c ≤ 57) :
    Calls Tryd.prog 22 #[.int .i64 n, .int .i32 c] w fun e w' => e = .returned (.int .i64 (beh n c : Nat)) ∧ w' = w := by
  by_cases h0 : 9223372036854774 < n
  · have z0 : (9223372036854774 : Int) < (n : Int) := by omega
    have e : beh n c = 92233720368547758 := by simp [beh, h0]
    rw [e]; clear e
    go_enter Tryd.func22, Tryd.ntmps22
    go_wp2
    go_ret
    exact ⟨rfl, rfl⟩
  · have z0 : ¬ (9223372036854774 : Int) < (n : Int) := by omega
    have z1 : (n : Int) ≤ 9223372036854774 := by omega
    obtain ⟨N, hN⟩ : ∃ N, beh n c = N := ⟨_, rfl⟩
    rw [hN]
    have e : (n : Int) * 10 + ((c : Int) - 48) = (N : Int) := by rw [← hN]; simp [beh, h0]; omega
    clear hN h0
    go_enter Tryd.func22, Tryd.ntmps22
    go_wp2
    go_ret
    refine ⟨ret_int ?_, rfl⟩
    omega

end Go.Proofs.YtbacgkfmnccheaaDoor
