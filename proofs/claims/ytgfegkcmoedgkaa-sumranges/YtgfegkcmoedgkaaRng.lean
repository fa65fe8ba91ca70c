import Derived.Test.YtgfegkcmoedgkaaRefA
import Derived.BigCall
namespace Go.Proofs.Ytgfegkcmoedgkaa
open Go.RowKit
open Go.Sort (grow)

def hasR (lo hi a : Int) : Bool := decide (lo ≤ a) && decide (a ≤ hi)
def nearR (lo hi a : Int) : Int := if a < lo then lo else if hi < a then hi else a
def cutR (c r : Int) : Int := if r < 0 then 0 else if amt c ≤ r then c else if c < 0 then -r else r
def slackR (lo hi a way : Int) : Int := if hasR lo hi a then (if way = 0 then a - lo else if way = 1 then hi - a else 0) else 0

theorem cut_any (c r : Int) (hc : I64 c) (hr : I64 r) (w : World) :
    Calls Try.prog 24 #[.int .i64 c, .int .i64 r] w fun e w' => e = .returned (.int .i64 (cutR c r)) ∧ w' = w := by
  obtain ⟨c1, c2⟩ := hc
  obtain ⟨r1, r2⟩ := hr
  go_enter Try.func24, Try.ntmps24
  go_wp2
  all_goals
    go_ret
    refine ⟨congrArg (fun z => Ending.returned (Value.int .i64 z)) (?_ : _ = cutR c r), rfl⟩
    unfold cutR amt
    grind
theorem ramount_any (a : Int) (ha : I64 a) (w : World) :
    Calls Try.prog 23 #[.int .i64 a] w fun e w' => e = .returned (.int .u64 (amt a)) ∧ w' = w := by
  by_cases h : a < 0
  · have h' : decide (a < 0) = true := by simpa using h
    have e0 : IntKind.i64.wrap (a + 1) = a + 1 := wrap_in ⟨by have := ha.1; omega, by have := ha.2; omega⟩
    have e1 : IntKind.i64.wrap (-(a + 1)) = -(a + 1) := wrap_in ⟨by have := ha.1; omega, by have := ha.1; omega⟩
    have e2 : IntKind.u64.wrap (-(a + 1)) = -(a + 1) := by rw [IntKind.wrap_u64]; have := ha.1; have := ha.2; omega
    have e3 : IntKind.u64.wrap (-(a + 1) + 1) = amt a := by rw [IntKind.wrap_u64]; unfold amt; rw [if_pos h]; have := ha.1; have := ha.2; omega
    go_enter Try.func23, Try.ntmps23
    go_wp2
    go_ret
    refine ⟨?_, rfl⟩
    first | rfl | (congr 2; unfold amt; rw [if_pos h]; have := ha.1; have := ha.2; simp only [IntKind.wrap_u64, IntKind.wrap_i64]; omega)
  · have h' : decide (a < 0) = false := by simpa using h
    have e1 : IntKind.u64.wrap a = amt a := by rw [IntKind.wrap_u64]; unfold amt; rw [if_neg h]; have := ha.1; have := ha.2; omega
    clear h
    go_enter Try.func23, Try.ntmps23
    go_wp2
    go_ret
    exact ⟨rfl, rfl⟩
theorem rcut_any (c r : Int) (hc : I64 c) (hr : I64 r) (w : World) :
    Calls Try.prog 25 #[.int .i64 c, .int .i64 r] w fun e w' => e = .returned (.int .i64 (cutR c r)) ∧ w' = w := by
  have HA := hide (fun w => ramount_any c hc w)
  have h3 := amt_word hc
  obtain ⟨c1, c2⟩ := hc
  obtain ⟨r1, r2⟩ := hr
  unfold cutR
  by_cases hr0 : r < 0
  · have p1 : decide (r < 0) = true := by simpa using hr0
    rw [if_pos hr0]
    go_enter Try.func25, Try.ntmps25
    go_wp2
    go_ret
    exact ⟨rfl, rfl⟩
  · have p1 : decide (r < 0) = false := by simpa using hr0
    rw [if_neg hr0]
    have e1 : IntKind.u64.wrap r = r := by rw [IntKind.wrap_u64]; omega
    by_cases hm : amt c ≤ r
    · have p2 : decide (amt c ≤ r) = true := by simpa using hm
      rw [if_pos hm]
      clear hr0 hm
      go_enter Try.func25, Try.ntmps25
      go_wp2_with (first | (go_at_call 23; refine (HA.out _).mono ?_; rintro e w1 ⟨rfl, h⟩; obtain rfl := h.symm; clear h))
      go_ret
      exact ⟨rfl, rfl⟩
    · have p2 : decide (amt c ≤ r) = false := by simpa using hm
      rw [if_neg hm]
      have e2 : IntKind.i64.wrap (-r) = -r := wrap_in ⟨by omega, by omega⟩
      by_cases hn : c < 0
      · have p3 : decide (c < 0) = true := by simpa using hn
        rw [if_pos hn]
        clear hr0 hm hn
        go_enter Try.func25, Try.ntmps25
        go_wp2_with (first | (go_at_call 23; refine (HA.out _).mono ?_; rintro e w1 ⟨rfl, h⟩; obtain rfl := h.symm; clear h))
        go_ret
        exact ⟨rfl, rfl⟩
      · have p3 : decide (c < 0) = false := by simpa using hn
        rw [if_neg hn]
        clear hr0 hm hn
        go_enter Try.func25, Try.ntmps25
        go_wp2_with (first | (go_at_call 23; refine (HA.out _).mono ?_; rintro e w1 ⟨rfl, h⟩; obtain rfl := h.symm; clear h))
        go_ret
        exact ⟨rfl, rfl⟩

/-- A range that lies in a block. -/
structure Rg (w : World) (g : Nat) (lo hi : Int) : Prop where
  lo : w.cell? ⟨g, 0, none⟩ = some (.int .i64 lo)
  hi : w.cell? ⟨g, 1, none⟩ = some (.int .i64 hi)
theorem Rg.lt {w : World} {g : Nat} {lo hi : Int} (h : Rg w g lo hi) : g < w.heap.size := block_lt_of_cell h.lo
theorem Rg.below {w w' : World} {g : Nat} {lo hi : Int} {B : Nat} (h : Rg w g lo hi) (hb : Below B w w') (hg : g < B) : Rg w' g lo hi :=
  ⟨by rw [hb.cell (p := ⟨g, 0, none⟩) hg]; exact h.lo, by rw [hb.cell (p := ⟨g, 1, none⟩) hg]; exact h.hi⟩
theorem Rg.up {w w' : World} {g : Nat} {lo hi : Int} (h : Rg w g lo hi) (hb : Below w.heap.size w w') : Rg w' g lo hi := h.below hb h.lt

theorem has_any (lo hi a : Int) (g : Nat) (w : World) (hg : Rg w g lo hi) :
    Calls Try.prog 29 #[.pointer (some ⟨g, 0, none⟩), .int .i64 a] w fun e w' => e = .returned (.bool (hasR lo hi a)) ∧ w' = w := by
  obtain ⟨h0, h1⟩ := hg
  by_cases hp : lo ≤ a
  · have p1 : decide (lo ≤ a) = true := by simpa using hp
    have e : hasR lo hi a = decide (a ≤ hi) := by simp [hasR, hp]
    rw [e]
    clear hp e
    go_enter Try.func29, Try.ntmps29
    go_wp2
    go_ret
    exact ⟨rfl, rfl⟩
  · have p1 : decide (lo ≤ a) = false := by simpa using hp
    have e : hasR lo hi a = false := by simp [hasR, hp]
    rw [e]
    clear hp e
    go_enter Try.func29, Try.ntmps29
    go_wp2
    go_ret
    exact ⟨rfl, rfl⟩
theorem near_any (lo hi a : Int) (g : Nat) (w : World) (hg : Rg w g lo hi) (hl : lo ≤ hi) :
    Calls Try.prog 38 #[.pointer (some ⟨g, 0, none⟩), .int .i64 a] w fun e w' => e = .returned (.int .i64 (nearR lo hi a)) ∧ Below w.heap.size w w' := by
  have e : (if hi < if a < lo then lo else a then hi else if a < lo then lo else a) = nearR lo hi a := by unfold nearR; grind
  obtain ⟨h0, h1⟩ := hg
  go_enter Try.func38, Try.ntmps38
  go_wp2
  go_quiet (fail)
  go_wp2
  all_goals
    go_ret
    exact ⟨rfl, ⟨rfl, rfl, rfl, Nat.le_refl _, fun _ _ => rfl⟩⟩
/-- What a number is moved to. -/
def movV (lo hi a c : Int) : Int := if fits (a + c) && hasR lo hi a && hasR lo hi (a + c) then a + c else 0
def movB (lo hi a c : Int) : Bool := fits (a + c) && hasR lo hi a && hasR lo hi (a + c)
theorem move_any (lo hi a c : Int) (ha : I64 a) (hc : I64 c) (g : Nat) (w : World) (hg : Rg w g lo hi) :
    Calls Try.prog 35 #[.pointer (some ⟨g, 0, none⟩), .int .i64 a, .int .i64 c] w fun e w' => e = .returned (.tuple #[.int .i64 (movV lo hi a c), .bool (movB lo hi a c)]) ∧ Below w.heap.size w w' := by
  have HA := hide (fun w => add_any a c ha hc w)
  have hB := hid_0 w
  have HG := hide hg
  unfold movV movB
  cases hf : fits (a + c)
  · rw [hf, fitv_not hf] at HA
    simp only [Bool.false_and, Bool.false_eq_true, if_false]
    go_enter Try.func35, Try.ntmps35
    go_wp2_with (first | (go_at_call 9; refine (HA.out _).mono ?_; rintro e w1 ⟨rfl, g'⟩; replace hB := hid_up hB g'; clear g'))
    go_ret2
    exact ⟨rfl, hB.out.2⟩
  · rw [hf, fitv_fits hf] at HA
    clear hf
    generalize a + c = s at *
    have HH : Hid (∀ x w1, Rg w1 g lo hi → Calls Try.prog 29 #[.pointer (some ⟨g, 0, none⟩), .int .i64 x] w1 fun e w' => e = .returned (.bool (hasR lo hi x)) ∧ w' = w1) := fun x w1 h => has_any lo hi x g w1 h
    cases h1 : hasR lo hi a
    · simp only [Bool.true_and, Bool.false_and, Bool.false_eq_true, if_false]
      go_enter Try.func35, Try.ntmps35
      go_wp2_with (first
        | (go_at_call 9; refine (HA.out _).mono ?_; rintro e w1 ⟨rfl, g'⟩; replace hB := hid_up hB g'; replace HG := hide (HG.out.up g'); clear g')
        | (go_at_call 29; refine (HH.out _ _ HG.out).mono ?_; rintro e w1 ⟨rfl, h⟩; obtain rfl := h.symm; clear h))
      go_ret2
      exact ⟨rfl, hB.out.2⟩
    · cases h2 : hasR lo hi s
      · simp only [Bool.true_and, Bool.false_eq_true, if_false]
        go_enter Try.func35, Try.ntmps35
        go_wp2_with (first
          | (go_at_call 9; refine (HA.out _).mono ?_; rintro e w1 ⟨rfl, g'⟩; replace hB := hid_up hB g'; replace HG := hide (HG.out.up g'); clear g')
          | (go_at_call 29; refine (HH.out _ _ HG.out).mono ?_; rintro e w1 ⟨rfl, h⟩; obtain rfl := h.symm; clear h))
        go_ret2
        exact ⟨rfl, hB.out.2⟩
      · simp only [Bool.true_and, if_true]
        go_enter Try.func35, Try.ntmps35
        go_wp2_with (first
          | (go_at_call 9; refine (HA.out _).mono ?_; rintro e w1 ⟨rfl, g'⟩; replace hB := hid_up hB g'; replace HG := hide (HG.out.up g'); clear g')
          | (go_at_call 29; refine (HH.out _ _ HG.out).mono ?_; rintro e w1 ⟨rfl, h⟩; obtain rfl := h.symm; clear h))
        go_ret2
        exact ⟨rfl, hB.out.2⟩
theorem slack_any (lo hi a y : Int) (ha : I64 a) (hlo : I64 lo) (hhi : I64 hi) (g : Nat) (w : World) (hg : Rg w g lo hi) :
    Calls Try.prog 40 #[.pointer (some ⟨g, 0, none⟩), .int .i64 a, .int .i64 y] w fun e w' => e = .returned (.int .u64 (slackR lo hi a y)) ∧ w' = w := by
  have HH : Hid (∀ w1, Rg w1 g lo hi → Calls Try.prog 29 #[.pointer (some ⟨g, 0, none⟩), .int .i64 a] w1 fun e w' => e = .returned (.bool (hasR lo hi a)) ∧ w' = w1) := fun w1 h => has_any lo hi a g w1 h
  have HG := hide hg
  obtain ⟨h0, h1⟩ := hg
  unfold slackR
  cases hf : hasR lo hi a
  · simp only [Bool.false_eq_true, if_false]
    go_enter Try.func40, Try.ntmps40
    go_wp2_with (first | (go_at_call 29; refine (HH.out _ HG.out).mono ?_; rintro e w1 ⟨rfl, h⟩; obtain rfl := h.symm; clear h))
    go_ret
    exact ⟨rfl, rfl⟩
  · have hb : lo ≤ a ∧ a ≤ hi := by simpa [hasR] using hf
    simp only [if_true]
    by_cases hy0 : y = 0
    · subst hy0
      rw [if_pos rfl]
      have e1 : IntKind.u64.wrap (IntKind.u64.wrap a - IntKind.u64.wrap lo) = a - lo := by simp only [IntKind.wrap_u64]; have := ha.1; have := ha.2; have := hlo.1; have := hlo.2; omega
      go_enter Try.func40, Try.ntmps40
      go_wp2_with (first | (go_at_call 29; refine (HH.out _ HG.out).mono ?_; rintro e w1 ⟨rfl, h⟩; obtain rfl := h.symm; clear h))
      go_ret
      exact ⟨rfl, rfl⟩
    · have p0 : (y == 0) = false := by simpa using hy0
      rw [if_neg hy0]
      by_cases hy1 : y = 1
      · subst hy1
        rw [if_pos rfl]
        have e1 : IntKind.u64.wrap (IntKind.u64.wrap hi - IntKind.u64.wrap a) = hi - a := by simp only [IntKind.wrap_u64]; have := ha.1; have := ha.2; have := hhi.1; have := hhi.2; omega
        go_enter Try.func40, Try.ntmps40
        go_wp2_with (first | (go_at_call 29; refine (HH.out _ HG.out).mono ?_; rintro e w1 ⟨rfl, h⟩; obtain rfl := h.symm; clear h))
        go_ret
        exact ⟨rfl, rfl⟩
      · have p1 : (y == 1) = false := by simpa using hy1
        rw [if_neg hy1]
        clear hy0 hy1
        go_enter Try.func40, Try.ntmps40
        go_wp2_with (first | (go_at_call 29; refine (HH.out _ HG.out).mono ?_; rintro e w1 ⟨rfl, h⟩; obtain rfl := h.symm; clear h))
        go_ret
        exact ⟨rfl, rfl⟩
theorem new_any (lo hi : Int) (w : World) (hl : lo ≤ hi) :
    Calls Try.prog 26 #[.int .i64 lo, .int .i64 hi] w fun e w' => e = .returned (.tuple #[.pointer (some ⟨w.heap.size, 0, none⟩), .int .i64 0]) ∧ Rg w' w.heap.size lo hi ∧ Below w.heap.size w w' := by
  have p1 : decide (hi < lo) = false := by simpa using hl
  go_enter Try.func26, Try.ntmps26
  go_wp2
  go_ret2
  exact ⟨rfl, ⟨by simp [go_sem], by simp [go_sem]⟩, below_al _ _⟩
theorem new_none (lo hi : Int) (w : World) (hl : hi < lo) :
    Calls Try.prog 26 #[.int .i64 lo, .int .i64 hi] w fun e w' => e = .returned (.tuple #[.pointer none, .int .i64 30]) ∧ w' = w := by
  have p1 : decide (hi < lo) = true := by simpa using hl
  go_enter Try.func26, Try.ntmps26
  go_wp2
  go_ret2
  exact ⟨rfl, rfl⟩
theorem num_any (w : World) (z : Int) : Calls Try.prog 27 #[.int .i64 z] w fun e w' => e = .returned (.int .i64 z) ∧ w' = w := by
  go_enter Try.func27, Try.ntmps27
  go_wp2
  go_ret
  exact ⟨rfl, rfl⟩
theorem same_self (w : World) (z : Int) (b : Bool) : Calls Try.prog 13 #[.int .i64 z, .bool b, .int .i64 z, .bool b] w fun e w' => e = .returned (.bool true) ∧ w' = w := by
  have z1 : (z == z) = true := by simp
  have z2 : (b == b) = true := by simp
  go_enter Try.func13, Try.ntmps13
  go_wp2
  go_ret
  exact ⟨rfl, rfl⟩
end Go.Proofs.Ytgfegkcmoedgkaa
