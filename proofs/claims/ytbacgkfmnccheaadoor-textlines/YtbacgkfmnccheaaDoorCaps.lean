import Derived.Test.YtbacgkfmnccheaaDoorTabs
namespace Go.Proofs.YtbacgkfmnccheaaDoor
open Go.RowKit

def isCap (c : Nat) : Bool := (decide (65 ≤ c) && decide (c ≤ 90)) || (decide (192 ≤ c) && decide (c ≤ 214)) || (decide (216 ≤ c) && decide (c ≤ 222))

/-- The ranges that have been passed by. -/
def passed (c k : Nat) : Prop := (0 < k → ¬ (65 ≤ c ∧ c ≤ 90)) ∧ (1 < k → ¬ (192 ≤ c ∧ c ≤ 214)) ∧ (2 < k → ¬ (216 ≤ c ∧ c ≤ 222))

theorem cap_ix0 (w : World) : Sem.run Tryd.prog (Instr.index 81 (.agg #[.int .i32 65, .int .i32 90, .int .i32 192, .int .i32 214, .int .i32 216, .int .i32 222]) (.int .i64 0)) w = .ok (.agg #[.int .i32 65, .int .i32 90]) w := by kernel_rfl
theorem cap_ix1 (w : World) : Sem.run Tryd.prog (Instr.index 81 (.agg #[.int .i32 65, .int .i32 90, .int .i32 192, .int .i32 214, .int .i32 216, .int .i32 222]) (.int .i64 1)) w = .ok (.agg #[.int .i32 192, .int .i32 214]) w := by kernel_rfl
theorem cap_ix2 (w : World) : Sem.run Tryd.prog (Instr.index 81 (.agg #[.int .i32 65, .int .i32 90, .int .i32 192, .int .i32 214, .int .i32 216, .int .i32 222]) (.int .i64 2)) w = .ok (.agg #[.int .i32 216, .int .i32 222]) w := by kernel_rfl

set_option maxRecDepth 100000 in
set_option maxHeartbeats 2000000 in
theorem capital_any (w : World) (hT : Tabs w) (c : Nat) :
    Calls Tryd.prog 28 #[.int .i32 c] w fun e w' => e = .returned (.bool (isCap c)) ∧ Below w.heap.size w w' := by
  have c0 : w.cell? ⟨2, 0, none⟩ = some (.int .i32 65) := hT.caps 0 (by omega)
  have c1 : w.cell? ⟨2, 1, none⟩ = some (.int .i32 90) := hT.caps 1 (by omega)
  have c2 : w.cell? ⟨2, 2, none⟩ = some (.int .i32 192) := hT.caps 2 (by omega)
  have c3 : w.cell? ⟨2, 3, none⟩ = some (.int .i32 214) := hT.caps 3 (by omega)
  have c4 : w.cell? ⟨2, 4, none⟩ = some (.int .i32 216) := hT.caps 4 (by omega)
  have c5 : w.cell? ⟨2, 5, none⟩ = some (.int .i32 222) := hT.caps 5 (by omega)
  clear hT
  obtain ⟨R, hR⟩ : ∃ R, isCap c = R := ⟨_, rfl⟩
  rw [hR]
  have HR := hide hR
  clear hR
  go_enter Tryd.func28, Tryd.ntmps28
  go_wp2
  clear c0 c1 c2 c3 c4 c5
  go_loopw [6] (fun i wr => ∃ (k : Nat), k ≤ 3 ∧ i = .int .i64 k ∧ Hid (Below w.heap.size w wr) ∧ Hid (passed c k)) (fun i _ => 3 - (intOf i).toNat)
  case atStart => exact ⟨0, by omega, rfl, Below.refl _ _, ⟨fun h => by omega, fun h => by omega, fun h => by omega⟩⟩
  case round =>
    obtain ⟨k, hk, rfl, HB, HPs⟩ := hrel
    by_cases hk3 : k < 3
    · rcases (show k = 0 ∨ k = 1 ∨ k = 2 by omega) with rfl | rfl | rfl
      · have HB2 : Hid (∀ o, Below w.heap.size w (wr.alloc o)) := fun o => HB.out.alloc HB.out.size _
        have hix := cap_ix0
        clear hk hk3
        by_cases h1 : 65 ≤ c
        · have z1 : (65 : Int) ≤ (c : Int) := by omega
          by_cases h2 : c ≤ 90
          · have z2 : (c : Int) ≤ 90 := by omega
            have HZ : Hid (R = true) := by show _ = _; rw [← HR.out]; simp [isCap]; omega
            go_wp2
            go_ret
            exact ⟨ret_bool HZ.out.symm, HB2.out _⟩
          · have z2 : decide ((c : Int) ≤ 90) = false := decide_eq_false (by omega)
            go_wp2
            go_roundw
            case rel => exact ⟨1, by omega, rfl, HB2.out _, ⟨fun h => by have := HPs.out.1; omega, fun h => by have := HPs.out.2.1; omega, fun h => by have := HPs.out.2.2; omega⟩⟩
            case measure => simp [intOf]
        · have z1 : decide ((65 : Int) ≤ (c : Int)) = false := decide_eq_false (by omega)
          go_wp2
          go_roundw
          case rel => exact ⟨1, by omega, rfl, HB2.out _, ⟨fun h => by have := HPs.out.1; omega, fun h => by have := HPs.out.2.1; omega, fun h => by have := HPs.out.2.2; omega⟩⟩
          case measure => simp [intOf]
      · have HB2 : Hid (∀ o, Below w.heap.size w (wr.alloc o)) := fun o => HB.out.alloc HB.out.size _
        have hix := cap_ix1
        clear hk hk3
        by_cases h1 : 192 ≤ c
        · have z1 : (192 : Int) ≤ (c : Int) := by omega
          by_cases h2 : c ≤ 214
          · have z2 : (c : Int) ≤ 214 := by omega
            have HZ : Hid (R = true) := by show _ = _; rw [← HR.out]; simp [isCap]; omega
            go_wp2
            go_ret
            exact ⟨ret_bool HZ.out.symm, HB2.out _⟩
          · have z2 : decide ((c : Int) ≤ 214) = false := decide_eq_false (by omega)
            go_wp2
            go_roundw
            case rel => exact ⟨2, by omega, rfl, HB2.out _, ⟨fun h => by have := HPs.out.1; omega, fun h => by have := HPs.out.2.1; omega, fun h => by have := HPs.out.2.2; omega⟩⟩
            case measure => simp [intOf]
        · have z1 : decide ((192 : Int) ≤ (c : Int)) = false := decide_eq_false (by omega)
          go_wp2
          go_roundw
          case rel => exact ⟨2, by omega, rfl, HB2.out _, ⟨fun h => by have := HPs.out.1; omega, fun h => by have := HPs.out.2.1; omega, fun h => by have := HPs.out.2.2; omega⟩⟩
          case measure => simp [intOf]
      · have HB2 : Hid (∀ o, Below w.heap.size w (wr.alloc o)) := fun o => HB.out.alloc HB.out.size _
        have hix := cap_ix2
        clear hk hk3
        by_cases h1 : 216 ≤ c
        · have z1 : (216 : Int) ≤ (c : Int) := by omega
          by_cases h2 : c ≤ 222
          · have z2 : (c : Int) ≤ 222 := by omega
            have HZ : Hid (R = true) := by show _ = _; rw [← HR.out]; simp [isCap]; omega
            go_wp2
            go_ret
            exact ⟨ret_bool HZ.out.symm, HB2.out _⟩
          · have z2 : decide ((c : Int) ≤ 222) = false := decide_eq_false (by omega)
            go_wp2
            go_roundw
            case rel => exact ⟨3, by omega, rfl, HB2.out _, ⟨fun h => by have := HPs.out.1; omega, fun h => by have := HPs.out.2.1; omega, fun h => by have := HPs.out.2.2; omega⟩⟩
            case measure => simp [intOf]
        · have z1 : decide ((216 : Int) ≤ (c : Int)) = false := decide_eq_false (by omega)
          go_wp2
          go_roundw
          case rel => exact ⟨3, by omega, rfl, HB2.out _, ⟨fun h => by have := HPs.out.1; omega, fun h => by have := HPs.out.2.1; omega, fun h => by have := HPs.out.2.2; omega⟩⟩
          case measure => simp [intOf]
    · have hk4 : k = 3 := by omega
      subst hk4
      have HZ : Hid (R = false) := by
        show _ = _
        rw [← HR.out]
        obtain ⟨q1, q2, q3⟩ := HPs.out
        simp [isCap]
        omega
      clear hk hk3
      go_wp2
      go_ret
      exact ⟨ret_bool HZ.out.symm, HB.out⟩

end Go.Proofs.YtbacgkfmnccheaaDoor
