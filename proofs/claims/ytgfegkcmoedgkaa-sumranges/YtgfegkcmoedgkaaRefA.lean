import Derived.Test.YtgfegkcmoedgkaaWide
namespace Go.Proofs.Ytgfegkcmoedgkaa
open Go.RowKit

theorem w64_in (n : Int) (h : -9223372036854775808 ≤ n ∧ n ≤ 9223372036854775807) : wrap64 n = n := by unfold wrap64; omega
theorem wrap_in {x : Int} (h : I64 x) : IntKind.i64.wrap x = x := by
  obtain ⟨h1, h2⟩ := h
  rw [IntKind.wrap_i64]; omega

theorem radd_any (a b : Int) (ha : I64 a) (hb : I64 b) (w : World) :
    Calls Try.prog 10 #[.int .i64 a, .int .i64 b] w fun e w' => e = .returned (.tuple #[.int .i64 (fitv (a + b)), .bool (fits (a + b))]) ∧ w' = w := by
  obtain ⟨a1, a2⟩ := ha
  obtain ⟨b1, b2⟩ := hb
  by_cases hf : fits (a + b) = true
  · have h1 := (fits_iff _).1 hf
    rw [fitv_fits hf, hf]
    obtain ⟨h2, h3⟩ := h1
    have e1 : IntKind.i64.wrap (a + b) = a + b := wrap_in ⟨h2, h3⟩
    by_cases hp : 0 < b
    · have p1 : decide (0 < b) = true := by simpa using hp
      have p2 : decide (b < 0) = false := by simp; omega
      have e2 : IntKind.i64.wrap (9223372036854775807 - b) = 9223372036854775807 - b := wrap_in ⟨by omega, by omega⟩
      have p3 : decide (9223372036854775807 - b < a) = false := by simp; omega
      clear hp
      go_enter Try.func10, Try.ntmps10
      go_wp2
      go_ret2
      exact ⟨rfl, rfl⟩
    · by_cases hn : b < 0
      · have p1 : decide (0 < b) = false := by simpa using hp
        have p2 : decide (b < 0) = true := by simpa using hn
        have e2 : IntKind.i64.wrap (-9223372036854775808 - b) = -9223372036854775808 - b := wrap_in ⟨by omega, by omega⟩
        have p3 : decide (a < -9223372036854775808 - b) = false := by simp; omega
        clear hp hn
        go_enter Try.func10, Try.ntmps10
        go_wp2
        go_ret2
        exact ⟨rfl, rfl⟩
      · have p1 : decide (0 < b) = false := by simpa using hp
        have p2 : decide (b < 0) = false := by simpa using hn
        clear hp hn
        go_enter Try.func10, Try.ntmps10
        go_wp2
        go_ret2
        exact ⟨rfl, rfl⟩
  · have hf' : fits (a + b) = false := by simpa using hf
    have h1 : ¬ I64 (a + b) := fun h => hf ((fits_iff _).2 h)
    rw [fitv_not hf', hf']
    unfold I64 at h1
    clear hf hf'
    by_cases hp : 0 < b
    · have p1 : decide (0 < b) = true := by simpa using hp
      have e2 : IntKind.i64.wrap (9223372036854775807 - b) = 9223372036854775807 - b := wrap_in ⟨by omega, by omega⟩
      have p3 : decide (9223372036854775807 - b < a) = true := by simp; omega
      clear hp h1
      go_enter Try.func10, Try.ntmps10
      go_wp2
      go_ret2
      exact ⟨rfl, rfl⟩
    · have p1 : decide (0 < b) = false := by simpa using hp
      have p2 : decide (b < 0) = true := by simp; omega
      have e2 : IntKind.i64.wrap (-9223372036854775808 - b) = -9223372036854775808 - b := wrap_in ⟨by omega, by omega⟩
      have p3 : decide (a < -9223372036854775808 - b) = true := by simp; omega
      clear hp h1
      go_enter Try.func10, Try.ntmps10
      go_wp2
      go_ret2
      exact ⟨rfl, rfl⟩
theorem rsub_any (a b : Int) (ha : I64 a) (hb : I64 b) (w : World) :
    Calls Try.prog 12 #[.int .i64 a, .int .i64 b] w fun e w' => e = .returned (.tuple #[.int .i64 (fitv (a - b)), .bool (fits (a - b))]) ∧ w' = w := by
  obtain ⟨a1, a2⟩ := ha
  obtain ⟨b1, b2⟩ := hb
  by_cases hf : fits (a - b) = true
  · have h1 := (fits_iff _).1 hf
    rw [fitv_fits hf, hf]
    obtain ⟨h2, h3⟩ := h1
    have e1 : IntKind.i64.wrap (a - b) = a - b := wrap_in ⟨h2, h3⟩
    by_cases hp : b < 0
    · have p1 : decide (b < 0) = true := by simpa using hp
      have p2 : decide (0 < b) = false := by simp; omega
      have e2 : IntKind.i64.wrap (9223372036854775807 + b) = 9223372036854775807 + b := wrap_in ⟨by omega, by omega⟩
      have p3 : decide (9223372036854775807 + b < a) = false := by simp; omega
      clear hp
      go_enter Try.func12, Try.ntmps12
      go_wp2
      go_ret2
      exact ⟨rfl, rfl⟩
    · by_cases hn : 0 < b
      · have p1 : decide (b < 0) = false := by simpa using hp
        have p2 : decide (0 < b) = true := by simpa using hn
        have e2 : IntKind.i64.wrap (-9223372036854775808 + b) = -9223372036854775808 + b := wrap_in ⟨by omega, by omega⟩
        have p3 : decide (a < -9223372036854775808 + b) = false := by simp; omega
        clear hp hn
        go_enter Try.func12, Try.ntmps12
        go_wp2
        go_ret2
        exact ⟨rfl, rfl⟩
      · have p1 : decide (b < 0) = false := by simpa using hp
        have p2 : decide (0 < b) = false := by simpa using hn
        clear hp hn
        go_enter Try.func12, Try.ntmps12
        go_wp2
        go_ret2
        exact ⟨rfl, rfl⟩
  · have hf' : fits (a - b) = false := by simpa using hf
    have h1 : ¬ I64 (a - b) := fun h => hf ((fits_iff _).2 h)
    rw [fitv_not hf', hf']
    unfold I64 at h1
    clear hf hf'
    by_cases hp : b < 0
    · have p1 : decide (b < 0) = true := by simpa using hp
      have e2 : IntKind.i64.wrap (9223372036854775807 + b) = 9223372036854775807 + b := wrap_in ⟨by omega, by omega⟩
      have p3 : decide (9223372036854775807 + b < a) = true := by simp; omega
      clear hp h1
      go_enter Try.func12, Try.ntmps12
      go_wp2
      go_ret2
      exact ⟨rfl, rfl⟩
    · have p1 : decide (b < 0) = false := by simpa using hp
      have p2 : decide (0 < b) = true := by simp; omega
      have e2 : IntKind.i64.wrap (-9223372036854775808 + b) = -9223372036854775808 + b := wrap_in ⟨by omega, by omega⟩
      have p3 : decide (a < -9223372036854775808 + b) = true := by simp; omega
      clear hp h1
      go_enter Try.func12, Try.ntmps12
      go_wp2
      go_ret2
      exact ⟨rfl, rfl⟩
theorem rneg_any (a : Int) (ha : I64 a) (w : World) :
    Calls Try.prog 15 #[.int .i64 a] w fun e w' => e = .returned (.tuple #[.int .i64 (fitv (-a)), .bool (fits (-a))]) ∧ w' = w := by
  have HS := hide (fun w => rsub_any 0 a i64_0 ha w)
  rw [Int.zero_sub] at HS
  go_enter Try.func15, Try.ntmps15
  go_wp2_with (first
    | (go_at_call 12; refine (HS.out _).mono ?_; rintro e w1 ⟨rfl, h⟩; obtain rfl := h.symm; clear h))
  go_ret2
  exact ⟨rfl, rfl⟩
theorem rmul_any (a b : Int) (ha : I64 a) (hb : I64 b) (w : World) :
    Calls Try.prog 17 #[.int .i64 a, .int .i64 b] w fun e w' => e = .returned (.tuple #[.int .i64 (fitv (a * b)), .bool (fits (a * b))]) ∧ w' = w := by
  by_cases ha0 : a = 0
  · subst ha0
    have e1 : fits (0 * b) = true := by rw [Int.zero_mul]; decide
    rw [fitv_fits e1, e1, Int.zero_mul]
    go_enter Try.func17, Try.ntmps17
    go_wp2
    go_ret2
    exact ⟨rfl, rfl⟩
  · have p1 : (a == 0) = false := by simpa using ha0
    by_cases hb0 : b = 0
    · subst hb0
      have e1 : fits (a * 0) = true := by rw [Int.mul_zero]; decide
      rw [fitv_fits e1, e1, Int.mul_zero]
      go_enter Try.func17, Try.ntmps17
      go_wp2
      go_ret2
      exact ⟨rfl, rfl⟩
    · have p2 : (b == 0) = false := by simpa using hb0
      by_cases ham : a = -1
      · subst ham
        rw [show (-1 : Int) * b = -b by omega]
        have HS := hide (fun w => rneg_any b hb w)
        go_enter Try.func17, Try.ntmps17
        go_wp2_with (first
          | (go_at_call 15; refine (HS.out _).mono ?_; rintro e w1 ⟨rfl, h⟩; obtain rfl := h.symm; clear h))
        go_ret2
        exact ⟨rfl, rfl⟩
      · have p3 : (a == -1) = false := by simpa using ham
        by_cases hbm : b = -1
        · subst hbm
          rw [show a * (-1 : Int) = -a by omega]
          have HS := hide (fun w => rneg_any a ha w)
          go_enter Try.func17, Try.ntmps17
          go_wp2_with (first
            | (go_at_call 15; refine (HS.out _).mono ?_; rintro e w1 ⟨rfl, h⟩; obtain rfl := h.symm; clear h))
          go_ret2
          exact ⟨rfl, rfl⟩
        · have p4 : (b == -1) = false := by simpa using hbm
          have hQ := hide (fun h => quo_fits (a := a) hb0 h)
          have hQn := hide (fun h => quo_not (a := a) hb h)
          have e1 := sgn_wrap (a * b)
          have hS := hide (sgn_i64 (a * b))
          have hV : Hid (fits (a * b) = true → sgn (a * b) = a * b) := fun h => by
            have := (fits_iff _).1 h
            obtain ⟨h1, h2⟩ := this
            unfold sgn; omega
          have hE : ∃ r ok, Hid (r = fitv (a * b) ∧ ok = fits (a * b)) ∧ ((r = sgn (a * b) ∧ ok = true ∧ (sgn (a * b)).tdiv b = a) ∨ (r = 0 ∧ ok = false ∧ ((sgn (a * b)).tdiv b == a) = false)) := by
            by_cases hf : fits (a * b) = true
            · exact ⟨_, _, ⟨rfl, rfl⟩, Or.inl ⟨by rw [fitv_fits hf, hV.out hf], hf, hQ.out hf⟩⟩
            · have hf' : fits (a * b) = false := by simpa using hf
              exact ⟨_, _, ⟨rfl, rfl⟩, Or.inr ⟨fitv_not hf', hf', by simpa using hQn.out hf'⟩⟩
          obtain ⟨r, ok, hE, hC⟩ := hE
          rw [← hE.out.1, ← hE.out.2]
          have hbs := hide hb
          clear hE hV hQ hQn
          generalize sgn (a * b) = p at *
          have hp : wrap64 (p.tdiv b) = p.tdiv b := by
            obtain ⟨h6, h7⟩ := hS.out
            by_cases hb1 : b = 1
            · subst hb1; rw [Int.tdiv_one]; exact w64_in _ ⟨h6, h7⟩
            · have h3 : (p.tdiv b).natAbs = p.natAbs / b.natAbs := Int.natAbs_tdiv p b
              have h4 : 2 ≤ b.natAbs := by omega
              have h5 : p.natAbs / b.natAbs ≤ p.natAbs / 2 := Nat.div_le_div_left h4 (by omega)
              generalize p.natAbs / b.natAbs = z at *
              generalize p.tdiv b = y at *
              exact w64_in _ ⟨by omega, by omega⟩
          rcases hC with ⟨rfl, rfl, e3⟩ | ⟨rfl, rfl, e3⟩
          · have hz : (wrap64 a != a) = false := by rw [e3] at hp; rw [hp]; simp
            clear hp ham hbm ha0
            go_enter Try.func17, Try.ntmps17
            go_wp2
            go_ret2
            exact ⟨rfl, rfl⟩
          · have hz : (wrap64 (p.tdiv b) != a) = true := by rw [hp]; simpa using e3
            clear hp ham hbm ha0 e3
            go_enter Try.func17, Try.ntmps17
            go_wp2
            go_ret2
            exact ⟨rfl, rfl⟩
end Go.Proofs.Ytgfegkcmoedgkaa
