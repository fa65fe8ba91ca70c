import Derived.Test.YtbcpoejpbhpcbaaDoorSeF
import Derived.Test.YtbcpoejpbhpcbaaDoorLkG
namespace Go.Proofs.YtbcpoejpbhpcbaaDoor
open Go.RowKit

set_option maxRecDepth 100000 in
set_option maxHeartbeats 2000000 in
theorem paired_pm (w : World) (win cap : Int) (hT : C.Tab w) :
    Calls Tryd.prog 5 #[.int .i64 win, .int .i64 cap] w fun e w' => ∃ pb b0 b1 W M K, e = .returned (.pointer (some ⟨pb, 0, none⟩)) ∧ Pm w w' K pb W M 1 1 b0 b1 (.slice none 0 0) (.slice none 0 0) (.slice none 0 0) (Lk.new 0 5 1 (W : Int) (M : Int)) (Lk.new 5 0 1 (W : Int) (M : Int)) (.slice none 0 0) (.slice none 0 0) [] [] [] ∧ Pd W M 1 1 (Lk.new 0 5 1 (W : Int) (M : Int)) (Lk.new 5 0 1 (W : Int) (M : Int)) [] [] [] 0 := by
  have HW1 := hide (within_any w win 5 (by omega) (by omega))
  have HW2 := hide (within_any w cap 16 (by omega) (by omega))
  obtain ⟨r, hr⟩ : ∃ r, (win % ((5 : Nat) : Int)).toNat = r := ⟨_, rfl⟩
  obtain ⟨q, hq⟩ : ∃ q, (cap % ((16 : Nat) : Int)).toNat = q := ⟨_, rfl⟩
  have hr5 : r < 5 := by omega
  have hq16 : q < 16 := by omega
  rw [hr] at HW1
  rw [hq] at HW2
  have e5 : ((5 : Nat) : Int) = 5 := rfl
  have e16 : ((16 : Nat) : Int) = 16 := rfl
  rw [e5] at HW1
  rw [e16] at HW2
  obtain ⟨W, hWr⟩ : ∃ W, 1 + r = W := ⟨_, rfl⟩
  obtain ⟨M, hMq⟩ : ∃ M, 1 + q = M := ⟨_, rfl⟩
  have hW : (1 : Int) + (r : Int) = (W : Int) := by omega
  have hM : (1 : Int) + (q : Int) = (M : Int) := by omega
  have HWM : Hid (1 ≤ W ∧ 1 ≤ M ∧ M ≤ 64 ∧ W ≤ 5) := by show _ ∧ _; omega
  have HT := hide hT
  clear hr hq e5 e16 hWr hMq hT
  go_enter Tryd.func5, Tryd.ntmps5
  go_wp2_with fail
  refine HW1.out.mono ?_
  rintro e w1 ⟨rfl, rfl⟩
  go_wp2_with fail
  refine HW2.out.mono ?_
  rintro e w2 ⟨rfl, rfl⟩
  clear HW1 HW2
  go_upto_region 2 with (fail)
  obtain ⟨w3, hw3⟩ : ∃ w3, w2.alloc (.cells #[.int .i64 (W : Int), .int .i64 (M : Int), .int .u64 0, .int .u64 0, .pointer none, .pointer none, .slice none 0 0, .slice none 0 0, .slice none 0 0] 41) = w3 := ⟨_, rfl⟩
  rw [hw3]
  have hk3 : w3.heap[w2.heap.size]? = some (.cells #[.int .i64 (W : Int), .int .i64 (M : Int), .int .u64 0, .int .u64 0, .pointer none, .pointer none, .slice none 0 0, .slice none 0 0, .slice none 0 0] 41 (0, 0)) := by rw [← hw3]; exact heap_alloc_new _ _
  have HB3 : Hid (Below w2.heap.size w2 w3) := by show Below _ _ _; rw [← hw3]; exact (Below.refl _ _).alloc (Nat.le_refl _) _
  obtain ⟨pb, hpb⟩ : ∃ pb, w2.heap.size = pb := ⟨_, rfl⟩
  have HPb := hide hpb
  rw [hpb] at hk3
  have hlt3 := C.lt_of_block hk3
  have HL0 := hide (livesN0 w3 pb W M 1 _ _ _ _ _ _ _ hk3)
  clear hk3 hw3 hW hM
  go_wp2_with fail
  refine HL0.out.mono ?_
  rintro e w4 ⟨rfl, b0, hb0, hl0, hk4, hbt4⟩
  have HL1 := hide (livesN1 w4 pb W M 1 _ _ _ _ _ _ _ hk4)
  have hlt4 := C.lt_of_block hl0
  have HA := hide hl0
  have HB0 := hide hb0
  have HBt4 := hide hbt4
  clear hl0 hk4 hb0 hbt4 HL0
  go_wp2_with fail
  refine HL1.out.mono ?_
  rintro e w5 ⟨rfl, b1, hb1, hl1, hk5, hbt5⟩
  have HB := hide hl1
  have HK5 := hide hk5
  have HB1 := hide hb1
  have HBt5 := hide hbt5
  clear hl1 hk5 hb1 hbt5 HL1
  go_wp2
  go_ret
  have s1 := HB0.out
  have s2 := HB1.out
  have s3 := HPb.out
  have hKz : ∀ x, x < w2.heap.size → (fun x => if x < w2.heap.size then ((0, 0) : Nat × Nat) else if x = pb then (2, 0) else if x = b0 then (1, 0) else (1, 1)) x = (0, 0) := fun x hx => by simp [hx]
  have k1 : (fun x => if x < w2.heap.size then ((0, 0) : Nat × Nat) else if x = pb then (2, 0) else if x = b0 then (1, 0) else (1, 1)) pb = (2, 0) := by
    show (if pb < w2.heap.size then ((0, 0) : Nat × Nat) else if pb = pb then (2, 0) else if pb = b0 then (1, 0) else (1, 1)) = _
    rw [if_neg (by omega), if_pos rfl]
  have k2 : (fun x => if x < w2.heap.size then ((0, 0) : Nat × Nat) else if x = pb then (2, 0) else if x = b0 then (1, 0) else (1, 1)) b0 = (1, 0) := by
    show (if b0 < w2.heap.size then ((0, 0) : Nat × Nat) else if b0 = pb then (2, 0) else if b0 = b0 then (1, 0) else (1, 1)) = _
    rw [if_neg (by omega), if_neg (by omega), if_pos rfl]
  have k3 : (fun x => if x < w2.heap.size then ((0, 0) : Nat × Nat) else if x = pb then (2, 0) else if x = b0 then (1, 0) else (1, 1)) b1 = (1, 1) := by
    show (if b1 < w2.heap.size then ((0, 0) : Nat × Nat) else if b1 = pb then (2, 0) else if b1 = b0 then (1, 0) else (1, 1)) = _
    rw [if_neg (by omega), if_neg (by omega), if_neg (by omega)]
  generalize (fun x => if x < w2.heap.size then ((0, 0) : Nat × Nat) else if x = pb then (2, 0) else if x = b0 then (1, 0) else (1, 1)) = KK at hKz k1 k2 k3
  have hwm := HWM.out
  have sok : ∀ me other : Int, Sok me other (Lk.new me other 1 (W : Int) (M : Int)) 1 0 [] := fun me other =>
    ⟨rfl, rfl, rfl, Nat.le_refl _, Nat.le_refl _, rn_new me other 1 W M, Nat.zero_le _, (by show (1 : Int) ≤ max (W : Int) 0; omega), fun m hm => (by cases hm), fun m n x y h => (by simp at h), fun x hx => (by cases hx), fun q => absurd rfl q, fun q => absurd rfl q⟩
  refine ⟨pb, b0, b1, W, M, KK, rfl, ⟨HBt5.out.below (HBt4.out.below HB3.out (by omega) HB3.out.size) (by omega) (Nat.le_trans HB3.out.size HBt4.out.size), hKz, ⟨HK5.out, k1⟩, lq_new (HA.out.kept (HBt5.out.block b0 hlt4 (by omega))) k2, lq_new HB.out k3, rk_nil _ _ _ _ _, fun e he => (by cases he), ⟨rk_nil _ _ _ _ _, fun n x h => (by simp at h)⟩, ⟨rk_nil _ _ _ _ _, fun n x h => (by simp at h)⟩, HT.out⟩, ?_⟩
  exact ⟨sok 0 5, sok 5 0, (by show max (W : Int) 0 = (W : Int); omega), (by show max (W : Int) 0 = (W : Int); omega), fun e he => (by cases he), Nat.le_refl _, Nat.le_refl _, Nat.le_refl _, ⟨hwm.1, hwm.2.2.2⟩, ⟨hwm.2.1, hwm.2.2.1⟩⟩
end Go.Proofs.YtbcpoejpbhpcbaaDoor
