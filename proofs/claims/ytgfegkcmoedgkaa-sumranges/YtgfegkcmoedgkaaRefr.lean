import Derived.Test.YtgfegkcmoedgkaaRng
namespace Go.Proofs.Ytgfegkcmoedgkaa
open Go.RowKit
theorem rhas_any (lo hi a : Int) (w : World) :
    Calls Try.prog 37 #[.int .i64 lo, .int .i64 hi, .int .i64 a] w fun e w' => e = .returned (.bool (hasR lo hi a)) ∧ w' = w := by
  by_cases hp : lo ≤ a
  · have p1 : decide (lo ≤ a) = true := by simpa using hp
    have e : hasR lo hi a = decide (a ≤ hi) := by simp [hasR, hp]
    rw [e]
    clear hp e
    go_enter Try.func37, Try.ntmps37
    go_wp2
    go_ret
    exact ⟨rfl, rfl⟩
  · have p1 : decide (lo ≤ a) = false := by simpa using hp
    have e : hasR lo hi a = false := by simp [hasR, hp]
    rw [e]
    clear hp e
    go_enter Try.func37, Try.ntmps37
    go_wp2
    go_ret
    exact ⟨rfl, rfl⟩
theorem rnear_any (lo hi a : Int) (w : World) :
    Calls Try.prog 39 #[.int .i64 lo, .int .i64 hi, .int .i64 a] w fun e w' => e = .returned (.int .i64 (nearR lo hi a)) ∧ w' = w := by
  unfold nearR
  by_cases h1 : a < lo
  · have p1 : decide (a < lo) = true := by simpa using h1
    rw [if_pos h1]
    clear h1
    go_enter Try.func39, Try.ntmps39
    go_wp2
    go_ret
    exact ⟨rfl, rfl⟩
  · have p1 : decide (a < lo) = false := by simpa using h1
    rw [if_neg h1]
    clear h1
    by_cases h2 : hi < a
    · have p2 : decide (hi < a) = true := by simpa using h2
      rw [if_pos h2]
      clear h2
      go_enter Try.func39, Try.ntmps39
      go_wp2
      go_ret
      exact ⟨rfl, rfl⟩
    · have p2 : decide (hi < a) = false := by simpa using h2
      rw [if_neg h2]
      clear h2
      go_enter Try.func39, Try.ntmps39
      go_wp2
      go_ret
      exact ⟨rfl, rfl⟩
theorem rmove_any (lo hi a c : Int) (ha : I64 a) (hc : I64 c) (w : World) :
    Calls Try.prog 36 #[.int .i64 lo, .int .i64 hi, .int .i64 a, .int .i64 c] w fun e w' => e = .returned (.tuple #[.int .i64 (movV lo hi a c), .bool (movB lo hi a c)]) ∧ w' = w := by
  have HA := hide (fun w => radd_any a c ha hc w)
  unfold movV movB
  cases hf : fits (a + c)
  · rw [hf, fitv_not hf] at HA
    simp only [Bool.false_and, Bool.false_eq_true, if_false]
    go_enter Try.func36, Try.ntmps36
    go_wp2_with (first | (go_at_call 10; refine (HA.out _).mono ?_; rintro e w1 ⟨rfl, h⟩; obtain rfl := h.symm; clear h))
    go_ret2
    exact ⟨rfl, rfl⟩
  · rw [hf, fitv_fits hf] at HA
    clear hf
    generalize a + c = s at *
    have HH : Hid (∀ x w1, Calls Try.prog 37 #[.int .i64 lo, .int .i64 hi, .int .i64 x] w1 fun e w' => e = .returned (.bool (hasR lo hi x)) ∧ w' = w1) := fun x w1 => rhas_any lo hi x w1
    cases h1 : hasR lo hi a
    · simp only [Bool.true_and, Bool.false_and, Bool.false_eq_true, if_false]
      go_enter Try.func36, Try.ntmps36
      go_wp2_with (first
        | (go_at_call 10; refine (HA.out _).mono ?_; rintro e w1 ⟨rfl, h⟩; obtain rfl := h.symm; clear h)
        | (go_at_call 37; refine (HH.out _ _).mono ?_; rintro e w1 ⟨rfl, h⟩; obtain rfl := h.symm; clear h))
      go_ret2
      exact ⟨rfl, rfl⟩
    · cases h2 : hasR lo hi s
      · simp only [Bool.true_and, Bool.false_eq_true, if_false]
        go_enter Try.func36, Try.ntmps36
        go_wp2_with (first
          | (go_at_call 10; refine (HA.out _).mono ?_; rintro e w1 ⟨rfl, h⟩; obtain rfl := h.symm; clear h)
          | (go_at_call 37; refine (HH.out _ _).mono ?_; rintro e w1 ⟨rfl, h⟩; obtain rfl := h.symm; clear h))
        go_ret2
        exact ⟨rfl, rfl⟩
      · simp only [Bool.true_and, if_true]
        go_enter Try.func36, Try.ntmps36
        go_wp2_with (first
          | (go_at_call 10; refine (HA.out _).mono ?_; rintro e w1 ⟨rfl, h⟩; obtain rfl := h.symm; clear h)
          | (go_at_call 37; refine (HH.out _ _).mono ?_; rintro e w1 ⟨rfl, h⟩; obtain rfl := h.symm; clear h))
        go_ret2
        exact ⟨rfl, rfl⟩
theorem rslack_any (lo hi a y : Int) (ha : I64 a) (hlo : I64 lo) (hhi : I64 hi) (w : World) :
    Calls Try.prog 41 #[.int .i64 lo, .int .i64 hi, .int .i64 a, .int .i64 y] w fun e w' => e = .returned (.int .u64 (slackR lo hi a y)) ∧ w' = w := by
  have HH : Hid (∀ w1, Calls Try.prog 37 #[.int .i64 lo, .int .i64 hi, .int .i64 a] w1 fun e w' => e = .returned (.bool (hasR lo hi a)) ∧ w' = w1) := fun w1 => rhas_any lo hi a w1
  unfold slackR
  cases hf : hasR lo hi a
  · simp only [Bool.false_eq_true, if_false]
    go_enter Try.func41, Try.ntmps41
    go_wp2_with (first | (go_at_call 37; refine (HH.out _).mono ?_; rintro e w1 ⟨rfl, h⟩; obtain rfl := h.symm; clear h))
    go_ret
    exact ⟨rfl, rfl⟩
  · have hb : lo ≤ a ∧ a ≤ hi := by simpa [hasR] using hf
    simp only [if_true]
    by_cases hy0 : y = 0
    · subst hy0
      rw [if_pos rfl]
      have e1 : IntKind.u64.wrap (IntKind.u64.wrap a - IntKind.u64.wrap lo) = a - lo := by simp only [IntKind.wrap_u64]; have := ha.1; have := ha.2; have := hlo.1; have := hlo.2; omega
      go_enter Try.func41, Try.ntmps41
      go_wp2_with (first | (go_at_call 37; refine (HH.out _).mono ?_; rintro e w1 ⟨rfl, h⟩; obtain rfl := h.symm; clear h))
      go_ret
      exact ⟨rfl, rfl⟩
    · have p0 : (y == 0) = false := by simpa using hy0
      rw [if_neg hy0]
      by_cases hy1 : y = 1
      · subst hy1
        rw [if_pos rfl]
        have e1 : IntKind.u64.wrap (IntKind.u64.wrap hi - IntKind.u64.wrap a) = hi - a := by simp only [IntKind.wrap_u64]; have := ha.1; have := ha.2; have := hhi.1; have := hhi.2; omega
        go_enter Try.func41, Try.ntmps41
        go_wp2_with (first | (go_at_call 37; refine (HH.out _).mono ?_; rintro e w1 ⟨rfl, h⟩; obtain rfl := h.symm; clear h))
        go_ret
        exact ⟨rfl, rfl⟩
      · have p1 : (y == 1) = false := by simpa using hy1
        rw [if_neg hy1]
        clear hy0 hy1
        go_enter Try.func41, Try.ntmps41
        go_wp2_with (first | (go_at_call 37; refine (HH.out _).mono ?_; rintro e w1 ⟨rfl, h⟩; obtain rfl := h.symm; clear h))
        go_ret
        exact ⟨rfl, rfl⟩
end Go.Proofs.Ytgfegkcmoedgkaa
