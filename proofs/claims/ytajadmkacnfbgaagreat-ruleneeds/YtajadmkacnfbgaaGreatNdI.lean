import Derived.Test.YtajadmkacnfbgaaGreatNdH
import Derived.Test.YtajadmkacnfbgaaGreatSrt
namespace Go.Proofs.YtajadmkacnfbgaaGreat
open Go.RowKit Go.Shelf Go.Lib Go.Sort
attribute [local go_sem] Oper.semAt_some

set_option maxRecDepth 100000 in
set_option maxHeartbeats 1000000 in
theorem or_any (w : World) (b : Nat) (x y : Int) (hc0 : w.cell? ⟨b, 0, none⟩ = some (.int .i64 x)) (hc1 : w.cell? ⟨b, 1, none⟩ = some (.int .i64 y)) :
    Calls Tryz.prog 30 #[.slice (some ⟨b, 0, none⟩) 2 2] w fun e w' => e = .returned (.int .i64 (if x = 0 then y else x)) ∧ w' = w := by
  by_cases hx : x = 0
  · subst hx
    by_cases hy : y = 0
    · subst hy
      go_enter Tryz.func30, Tryz.ntmps30
      go_wp2
      refine wp_loop_rounds 3 ?_
      rw [rounds_succ]
      go_wp2
      rw [rounds_succ]
      go_wp2
      rw [rounds_succ]
      go_wp2
      go_ret
      exact ⟨rfl, rfl⟩
    · go_enter Tryz.func30, Tryz.ntmps30
      go_wp2
      refine wp_loop_rounds 3 ?_
      rw [rounds_succ]
      go_wp2
      rw [rounds_succ]
      go_wp2
      go_ret
      exact ⟨rfl, rfl⟩
  · rw [if_neg hx]
    go_enter Tryz.func30, Tryz.ntmps30
    go_wp2
    refine wp_loop_rounds 3 ?_
    rw [rounds_succ]
    go_wp2
    go_ret
    exact ⟨rfl, rfl⟩

/-- The order of kinds. -/
def cmpK (x y : K64) : Int := if Lib.compareInt x.1.1 y.1.1 = 0 then Lib.compareInt x.1.2 y.1.2 else Lib.compareInt x.1.1 y.1.1
theorem ltOf_cmpK (x y : K64) : ltOf cmpK x y = decide (x.1.1 < y.1.1 ∨ (x.1.1 = y.1.1 ∧ x.1.2 < y.1.2)) := by
  unfold ltOf cmpK Lib.compareInt
  rcases Int.lt_trichotomy x.1.1 y.1.1 with h | h | h
  · simp [h]
  · rcases Int.lt_trichotomy x.1.2 y.1.2 with h2 | h2 | h2 <;> simp [h, h2] <;> omega
  · have : ¬ x.1.1 < y.1.1 := by omega
    simp [h, this]
    omega
theorem swoK : SWO (ltOf cmpK) where
  irrefl x := by rw [ltOf_cmpK]; simp
  trans x y z h1 h2 := by rw [ltOf_cmpK] at *; simp at *; omega
  ntrans x y z h1 h2 := by rw [ltOf_cmpK] at *; simp at *; omega
end Go.Proofs.YtajadmkacnfbgaaGreat
