import Derived.Test.YtgfegkcmoedgkaaRng
import Derived.Test.YtgfegkcmoedgkaaMulW
namespace Go.Proofs.Ytgfegkcmoedgkaa
open Go.RowKit
theorem i64_m1 : I64 (-1) := by unfold I64; omega
theorem i64_c {n : Int} (h1 : -100 ≤ n) (h2 : n ≤ 100) : I64 n := by unfold I64; omega
set_option maxRecDepth 20000 in
theorem laws_all (a b : Int) (ha : I64 a) (hb : I64 b) (w : World) :
    Calls Try.prog 7 #[.agg #[.int .i64 a, .int .i64 b]] w fun e w' => e = .returned (.bool true) ∧ Below w.heap.size w w' := by
  have HB0 := hide (below_al w (Obj.cells #[Value.int .i64 a, Value.int .i64 b] 23))
  have HC : Hid (∀ w', Below (w.heap.size + 1) (w.alloc (Obj.cells #[Value.int .i64 a, Value.int .i64 b] 23)) w' → w'.cell? ⟨w.heap.size, 0, none⟩ = some (.int .i64 a) ∧ w'.cell? ⟨w.heap.size, 1, none⟩ = some (.int .i64 b)) := fun w' h => by
    constructor
    · rw [h.cell (by simp)]; simp [go_sem]
    · rw [h.cell (by simp)]; simp [go_sem]
  have HA := hide (fun w => add_any a b ha hb w)
  have HA2 := hide (fun w => add_any b a hb ha w)
  rw [Int.add_comm b a] at HA2
  have HM := hide (fun w => mul_any a b ha hb w)
  have HM2 := hide (fun w => mul_any b a hb ha w)
  rw [Int.mul_comm b a] at HM2
  have HM3 := hide (fun w => mul_any a (-1) ha i64_m1 w)
  rw [show a * (-1 : Int) = -a by omega] at HM3
  have HN := hide (fun w => neg_any a ha w)
  have H5 : Hid (∀ w, Calls Try.prog 9 #[.int .i64 2, .int .i64 3] w fun e w' => e = .returned (.tuple #[.int .i64 5, .bool true]) ∧ Below w.heap.size w w') := fun w => add_any 2 3 (i64_c (by omega) (by omega)) (i64_c (by omega) (by omega)) w
  have H6 : Hid (∀ w, Calls Try.prog 16 #[.int .i64 2, .int .i64 3] w fun e w' => e = .returned (.tuple #[.int .i64 6, .bool true]) ∧ Below w.heap.size w w') := fun w => mul_any 2 3 (i64_c (by omega) (by omega)) (i64_c (by omega) (by omega)) w
  have HF : Hid (fits (a + b) = true → fitv (a + b) = a + b ∧ I64 (a + b)) := fun h => ⟨fitv_fits h, (fits_iff _).1 h⟩
  have HE := hide same_self
  generalize fitv (-a) = v3 at *
  generalize fits (-a) = o3 at *
  generalize fitv (a * b) = v4 at *
  generalize fits (a * b) = o4 at *
  have HH0 : Hid (Below (w.heap.size + 1) (w.alloc (Obj.cells #[Value.int .i64 a, Value.int .i64 b] 23)) (w.alloc (Obj.cells #[Value.int .i64 a, Value.int .i64 b] 23))) := Below.refl _ _
  have HSz : Hid (w.heap.size + 1 ≤ (w.alloc (Obj.cells #[Value.int .i64 a, Value.int .i64 b] 23)).heap.size) := by show _ ≤ _; simp
  have HUp : Hid (∀ w' w'' : World, Below (w.heap.size + 1) (w.alloc (Obj.cells #[Value.int .i64 a, Value.int .i64 b] 23)) w' → Below w'.heap.size w' w'' → Below (w.heap.size + 1) (w.alloc (Obj.cells #[Value.int .i64 a, Value.int .i64 b] 23)) w'') := fun w' w'' h1 h2 => below_up h1 (Nat.le_trans HSz.out h1.size) h2
  have HE0 : Hid (∀ w', Below (w.heap.size + 1) (w.alloc (Obj.cells #[Value.int .i64 a, Value.int .i64 b] 23)) w' → Below w.heap.size w w') := fun w' h => HB0.out.trans (h.mono (Nat.le_succ _))
  have HB := HH0
  obtain ⟨c0, c1⟩ := HC.out _ HB.out
  cases hf : fits (a + b)
  · rw [hf] at HA HA2
    generalize fitv (a + b) = v1 at *
    go_enter Try.func7, Try.ntmps7
    go_wp2_with fail
    generalize w.alloc (Obj.cells #[Value.int .i64 a, Value.int .i64 b] 23) = w1 at *
    go_wp2_with (first
      | (go_at_call 9; with_reducible refine (HA.out _).mono ?_; rintro e w2 ⟨rfl, g⟩; replace HB := hide (HUp.out _ _ HB.out g); clear g c0 c1; obtain ⟨c0, c1⟩ := HC.out _ HB.out)
      | (go_at_call 9; with_reducible refine (HA2.out _).mono ?_; rintro e w2 ⟨rfl, g⟩; replace HB := hide (HUp.out _ _ HB.out g); clear g c0 c1; obtain ⟨c0, c1⟩ := HC.out _ HB.out)
      | (go_at_call 9; with_reducible refine (H5.out _).mono ?_; rintro e w2 ⟨rfl, g⟩; replace HB := hide (HUp.out _ _ HB.out g); clear g c0 c1; obtain ⟨c0, c1⟩ := HC.out _ HB.out)
      | (go_at_call 16; with_reducible refine (HM.out _).mono ?_; rintro e w2 ⟨rfl, g⟩; replace HB := hide (HUp.out _ _ HB.out g); clear g c0 c1; obtain ⟨c0, c1⟩ := HC.out _ HB.out)
      | (go_at_call 16; with_reducible refine (HM2.out _).mono ?_; rintro e w2 ⟨rfl, g⟩; replace HB := hide (HUp.out _ _ HB.out g); clear g c0 c1; obtain ⟨c0, c1⟩ := HC.out _ HB.out)
      | (go_at_call 16; with_reducible refine (HM3.out _).mono ?_; rintro e w2 ⟨rfl, g⟩; replace HB := hide (HUp.out _ _ HB.out g); clear g c0 c1; obtain ⟨c0, c1⟩ := HC.out _ HB.out)
      | (go_at_call 16; with_reducible refine (H6.out _).mono ?_; rintro e w2 ⟨rfl, g⟩; replace HB := hide (HUp.out _ _ HB.out g); clear g c0 c1; obtain ⟨c0, c1⟩ := HC.out _ HB.out)
      | (go_at_call 14; with_reducible refine (HN.out _).mono ?_; rintro e w2 ⟨rfl, g⟩; replace HB := hide (HUp.out _ _ HB.out g); clear g c0 c1; obtain ⟨c0, c1⟩ := HC.out _ HB.out)
      | (go_at_call 13; refine (HE.out _ _ _).mono ?_; rintro e w2 ⟨rfl, h⟩; obtain rfl := h.symm; clear h))
    go_ret
    exact ⟨rfl, HE0.out _ HB.out⟩
  · obtain ⟨f1, f2⟩ := HF.out hf
    have HS := hide (fun w => sub_any (a + b) b f2 hb w)
    rw [show a + b - b = a by omega, fitv_fits ((fits_iff a).2 ha), (fits_iff a).2 ha] at HS
    rw [hf, f1] at HA HA2
    clear HF hf f1 f2
    generalize a + b = v1 at *
    have z1 : (a != a) = false := by simp
    go_enter Try.func7, Try.ntmps7
    go_wp2_with fail
    generalize w.alloc (Obj.cells #[Value.int .i64 a, Value.int .i64 b] 23) = w1 at *
    go_wp2_with (first
      | (go_at_call 11; with_reducible refine (HS.out _).mono ?_; rintro e w2 ⟨rfl, g⟩; replace HB := hide (HUp.out _ _ HB.out g); clear g c0 c1; obtain ⟨c0, c1⟩ := HC.out _ HB.out)
      | (go_at_call 9; with_reducible refine (HA.out _).mono ?_; rintro e w2 ⟨rfl, g⟩; replace HB := hide (HUp.out _ _ HB.out g); clear g c0 c1; obtain ⟨c0, c1⟩ := HC.out _ HB.out)
      | (go_at_call 9; with_reducible refine (HA2.out _).mono ?_; rintro e w2 ⟨rfl, g⟩; replace HB := hide (HUp.out _ _ HB.out g); clear g c0 c1; obtain ⟨c0, c1⟩ := HC.out _ HB.out)
      | (go_at_call 9; with_reducible refine (H5.out _).mono ?_; rintro e w2 ⟨rfl, g⟩; replace HB := hide (HUp.out _ _ HB.out g); clear g c0 c1; obtain ⟨c0, c1⟩ := HC.out _ HB.out)
      | (go_at_call 16; with_reducible refine (HM.out _).mono ?_; rintro e w2 ⟨rfl, g⟩; replace HB := hide (HUp.out _ _ HB.out g); clear g c0 c1; obtain ⟨c0, c1⟩ := HC.out _ HB.out)
      | (go_at_call 16; with_reducible refine (HM2.out _).mono ?_; rintro e w2 ⟨rfl, g⟩; replace HB := hide (HUp.out _ _ HB.out g); clear g c0 c1; obtain ⟨c0, c1⟩ := HC.out _ HB.out)
      | (go_at_call 16; with_reducible refine (HM3.out _).mono ?_; rintro e w2 ⟨rfl, g⟩; replace HB := hide (HUp.out _ _ HB.out g); clear g c0 c1; obtain ⟨c0, c1⟩ := HC.out _ HB.out)
      | (go_at_call 16; with_reducible refine (H6.out _).mono ?_; rintro e w2 ⟨rfl, g⟩; replace HB := hide (HUp.out _ _ HB.out g); clear g c0 c1; obtain ⟨c0, c1⟩ := HC.out _ HB.out)
      | (go_at_call 14; with_reducible refine (HN.out _).mono ?_; rintro e w2 ⟨rfl, g⟩; replace HB := hide (HUp.out _ _ HB.out g); clear g c0 c1; obtain ⟨c0, c1⟩ := HC.out _ HB.out)
      | (go_at_call 13; refine (HE.out _ _ _).mono ?_; rintro e w2 ⟨rfl, h⟩; obtain rfl := h.symm; clear h))
    go_ret
    exact ⟨rfl, HE0.out _ HB.out⟩
end Go.Proofs.Ytgfegkcmoedgkaa
