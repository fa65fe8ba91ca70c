import Derived.Test.YtgfegkcmoedgkaaWide
import Derived.Test.YtgfegkcmoedgkaaMul
namespace Go.Proofs.Ytgfegkcmoedgkaa
open Go.RowKit
theorem hiw_0 : hiw 0 = 0 := by decide
theorem low_0 : low 0 = 0 := by decide
theorem mul_any (a b : Int) (ha : I64 a) (hb : I64 b) (w : World) :
    Calls Try.prog 16 #[.int .i64 a, .int .i64 b] w fun e w' => e = .returned (.tuple #[.int .i64 (fitv (a * b)), .bool (fits (a * b))]) ∧ Below w.heap.size w w' := by
  have HA := hide amount_any
  have HM : Hid (∀ w, Calls Try.prog 34 #[.int .u64 (amt a), .int .u64 (amt b)] w fun e w' => e = .returned (.tuple #[.int .u64 (hiw (amt a * amt b)), .int .u64 (low (amt a * amt b))]) ∧ w' = w) := fun w => by
    have h := mul64 (amt a) (amt b) ⟨(amt_word ha).1, by have := (amt_word ha).2; omega⟩ ⟨(amt_word hb).1, by have := (amt_word hb).2; omega⟩ w
    rw [hiw_mul ha hb]
    exact h
  have HI := hide (i128_mul ha hb)
  have HN : Hid (∀ w, Calls Try.prog 32 #[.agg #[.int .u64 (hiw (a * b)), .int .u64 (low (a * b))]] w fun e w' => e = .returned (.tuple #[.int .i64 (fitv (a * b)), .bool (fits (a * b))]) ∧ Below w.heap.size w w') := fun w => narrow_any (a * b) (i128_mul ha hb) w
  have HQ := hide (mul_amt a b)
  have hB := hid_0 w
  by_cases hd : (decide (a < 0) == decide (b < 0)) = false
  · have HQ2 : Hid (a * b = 0 - amt a * amt b) := by have := HQ.out; rw [if_pos (by simpa using hd)] at this; exact this
    have HS : Hid (∀ w, Calls Try.prog 33 #[.agg #[.int .u64 0, .int .u64 0], .agg #[.int .u64 (hiw (amt a * amt b)), .int .u64 (low (amt a * amt b))]] w fun e w' => e = .returned (.agg #[.int .u64 (hiw (a * b)), .int .u64 (low (a * b))]) ∧ Below w.heap.size w w') := fun w => by
      have := minus_any 0 (amt a * amt b) w
      rw [← HQ2.out] at this
      unfold wd at this
      rw [hiw_0, low_0] at this
      exact this
    have HK : Hid (∀ w1, Below (w.alloc (Obj.cells #[Value.int IntKind.u64 (hiw (amt a * amt b)), Value.int IntKind.u64 (low (amt a * amt b))] 60)).heap.size (w.alloc (Obj.cells #[Value.int IntKind.u64 (hiw (amt a * amt b)), Value.int IntKind.u64 (low (amt a * amt b))] 60)) w1 → w1.cell? ⟨w.heap.size, 0, none⟩ = some (.int .u64 (hiw (amt a * amt b))) ∧ w1.cell? ⟨w.heap.size, 1, none⟩ = some (.int .u64 (low (amt a * amt b))) ∧ w1.frozen? ⟨w.heap.size, 0, none⟩ = false ∧ w1.frozen? ⟨w.heap.size, 1, none⟩ = false) := fun w1 h => by
      refine ⟨?_, ?_, ?_, ?_⟩
      · rw [h.cell (by simp)]; simp [go_sem]
      · rw [h.cell (by simp)]; simp [go_sem]
      · rw [h.frozen (by simp)]; simp [go_sem]
      · rw [h.frozen (by simp)]; simp [go_sem]
    clear HQ HQ2 HI
    generalize a * b = q at *
    generalize hiw q = qh at *
    generalize low q = ql at *
    generalize amt a * amt b = p at *
    generalize hiw p = ph at *
    generalize low p = pl at *
    go_enter Try.func16, Try.ntmps16
    go_wp2_with (first
      | (go_at_call 22; refine (HA.out _ (by assumption) _).mono ?_; rintro e w1 ⟨rfl, h⟩; obtain rfl := h.symm; clear h)
      | (go_at_call 34; refine (HM.out _).mono ?_; rintro e w1 ⟨rfl, h⟩; obtain rfl := h.symm; clear h; replace hB := hid_al hB (Obj.cells #[Value.int IntKind.u64 ph, Value.int IntKind.u64 pl] 60))
      | (go_at_call 33; refine (HS.out _).mono ?_; rintro e w1 ⟨rfl, g⟩; replace hB := hid_up hB g; obtain ⟨hk2, hk3, hk4, hk5⟩ := HK.out w1 g; clear g)
      | (go_at_call 32; refine (HN.out _).mono ?_; rintro e w2 ⟨rfl, g2⟩))
    go_ret2
    exact ⟨rfl, below_up ((hB.out.2.setCell (p := ⟨w.heap.size, 0, none⟩) (Nat.le_refl _) _).setCell (p := ⟨w.heap.size, 1, none⟩) (Nat.le_refl _) _) (by have := hB.out.2.size; simpa using this) g2⟩
  · have hd' : (decide (a < 0) == decide (b < 0)) = true := by simpa using hd
    clear hd
    have HQ2 : Hid (a * b = amt a * amt b) := by have := HQ.out; rw [if_neg (by simpa using hd')] at this; exact this
    rw [HQ2.out] at HN HI ⊢
    clear HQ HQ2 HI
    generalize amt a * amt b = p at *
    generalize hiw p = ph at *
    generalize low p = pl at *
    go_enter Try.func16, Try.ntmps16
    go_wp2_with (first
      | (go_at_call 22; refine (HA.out _ (by assumption) _).mono ?_; rintro e w1 ⟨rfl, h⟩; obtain rfl := h.symm; clear h)
      | (go_at_call 34; refine (HM.out _).mono ?_; rintro e w1 ⟨rfl, h⟩; obtain rfl := h.symm; clear h; replace hB := hid_al hB (Obj.cells #[Value.int IntKind.u64 ph, Value.int IntKind.u64 pl] 60))
      | (go_at_call 32; refine (HN.out _).mono ?_; rintro e w2 ⟨rfl, g⟩; replace hB := hid_up hB g; clear g))
    go_ret2
    exact ⟨rfl, hB.out.2⟩
end Go.Proofs.Ytgfegkcmoedgkaa
