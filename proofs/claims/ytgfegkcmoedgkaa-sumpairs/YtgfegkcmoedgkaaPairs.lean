import Derived.Test.YtgfegkcmoedgkaaRng
import Derived.Test.YtgfegkcmoedgkaaMulW
namespace Go.Proofs.Ytgfegkcmoedgkaa
open Go.RowKit
set_option maxRecDepth 20000 in
theorem pairs_all (a b : Int) (ha : I64 a) (hb : I64 b) (w : World) :
    Calls Try.prog 3 #[.agg #[.int .i64 a, .int .i64 b]] w fun e w' => e = .returned (.bool true) ∧ Below w.heap.size w w' := by
  have HB0 := hide (below_al w (Obj.cells #[Value.int .i64 a, Value.int .i64 b] 23))
  have HC : Hid (∀ w', Below (w.heap.size + 1) (w.alloc (Obj.cells #[Value.int .i64 a, Value.int .i64 b] 23)) w' → w'.cell? ⟨w.heap.size, 0, none⟩ = some (.int .i64 a) ∧ w'.cell? ⟨w.heap.size, 1, none⟩ = some (.int .i64 b)) := fun w' h => by
    constructor
    · rw [h.cell (by simp)]; simp [go_sem]
    · rw [h.cell (by simp)]; simp [go_sem]
  have HA := hide (fun w => add_any a b ha hb w)
  have HR := hide (fun w => radd_any a b ha hb w)
  have HS := hide (fun w => sub_any a b ha hb w)
  have HT := hide (fun w => rsub_any a b ha hb w)
  have HN := hide (fun w => neg_any a ha w)
  have HO := hide (fun w => rneg_any a ha w)
  have HM := hide (fun w => mul_any a b ha hb w)
  have HQ := hide (fun w => rmul_any a b ha hb w)
  have HE := hide same_self
  generalize fitv (a + b) = v1 at *
  generalize fits (a + b) = o1 at *
  generalize fitv (a - b) = v2 at *
  generalize fits (a - b) = o2 at *
  generalize fitv (-a) = v3 at *
  generalize fits (-a) = o3 at *
  generalize fitv (a * b) = v4 at *
  generalize fits (a * b) = o4 at *
  have HH0 : Hid (Below (w.heap.size + 1) (w.alloc (Obj.cells #[Value.int .i64 a, Value.int .i64 b] 23)) (w.alloc (Obj.cells #[Value.int .i64 a, Value.int .i64 b] 23))) := Below.refl _ _
  have HSz : Hid (w.heap.size + 1 ≤ (w.alloc (Obj.cells #[Value.int .i64 a, Value.int .i64 b] 23)).heap.size) := by show _ ≤ _; simp
  have HUp : Hid (∀ w' w'' : World, Below (w.heap.size + 1) (w.alloc (Obj.cells #[Value.int .i64 a, Value.int .i64 b] 23)) w' → Below w'.heap.size w' w'' → Below (w.heap.size + 1) (w.alloc (Obj.cells #[Value.int .i64 a, Value.int .i64 b] 23)) w'') := fun w' w'' h1 h2 => below_up h1 (Nat.le_trans HSz.out h1.size) h2
  have HE0 : Hid (∀ w', Below (w.heap.size + 1) (w.alloc (Obj.cells #[Value.int .i64 a, Value.int .i64 b] 23)) w' → Below w.heap.size w w') := fun w' h => HB0.out.trans (h.mono (Nat.le_succ _))
  go_enter Try.func3, Try.ntmps3
  go_wp2
  generalize w.alloc (Obj.cells #[Value.int .i64 a, Value.int .i64 b] 23) = w1 at *
  go_loopw [3] (fun i wr => ∃ k : Nat, k ≤ 2 ∧ i = .int .i64 (k : Int) ∧ Hid (Below (w.heap.size + 1) w1 wr)) (fun i _ => 2 - (intOf i).toNat)
  case atStart => exact ⟨0, by omega, rfl, HH0⟩
  case round =>
    obtain ⟨k, hk, rfl, HB⟩ := hrel
    obtain ⟨c0, c1⟩ := HC.out _ HB.out
    by_cases hlt : k < 2
    · have l1 : decide ((k : Int) < 2) = true := decide_eq_true (by omega)
      go_wp2_with (first
        | (go_at_call 9; refine (HA.out _).mono ?_; rintro e w2 ⟨rfl, g⟩; replace HB := hide (HUp.out _ _ HB.out g); clear g c0 c1; obtain ⟨c0, c1⟩ := HC.out _ HB.out)
        | (go_at_call 10; refine (HR.out _).mono ?_; rintro e w2 ⟨rfl, h⟩; obtain rfl := h.symm; clear h)
        | (go_at_call 11; refine (HS.out _).mono ?_; rintro e w2 ⟨rfl, g⟩; replace HB := hide (HUp.out _ _ HB.out g); clear g c0 c1; obtain ⟨c0, c1⟩ := HC.out _ HB.out)
        | (go_at_call 12; refine (HT.out _).mono ?_; rintro e w2 ⟨rfl, h⟩; obtain rfl := h.symm; clear h)
        | (go_at_call 14; refine (HN.out _).mono ?_; rintro e w2 ⟨rfl, g⟩; replace HB := hide (HUp.out _ _ HB.out g); clear g c0 c1; obtain ⟨c0, c1⟩ := HC.out _ HB.out)
        | (go_at_call 15; refine (HO.out _).mono ?_; rintro e w2 ⟨rfl, h⟩; obtain rfl := h.symm; clear h)
        | (go_at_call 16; refine (HM.out _).mono ?_; rintro e w2 ⟨rfl, g⟩; replace HB := hide (HUp.out _ _ HB.out g); clear g c0 c1; obtain ⟨c0, c1⟩ := HC.out _ HB.out)
        | (go_at_call 17; refine (HQ.out _).mono ?_; rintro e w2 ⟨rfl, h⟩; obtain rfl := h.symm; clear h)
        | (go_at_call 13; refine (HE.out _ _ _).mono ?_; rintro e w2 ⟨rfl, h⟩; obtain rfl := h.symm; clear h))
      go_roundw
      case rel => exact ⟨k + 1, by omega, by go_num, HB⟩
      case measure => simp [intOf]; omega
    · have l1 : decide ((k : Int) < 2) = false := decide_eq_false (by omega)
      go_wp2
      go_ret
      exact ⟨rfl, HE0.out _ HB.out⟩
end Go.Proofs.Ytgfegkcmoedgkaa
