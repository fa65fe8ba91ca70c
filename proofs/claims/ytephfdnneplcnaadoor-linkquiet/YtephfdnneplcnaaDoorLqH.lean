import Derived.Test.YtephfdnneplcnaaDoorLqG
namespace Go.Proofs.YtephfdnneplcnaaDoor
open Go.RowKit

set_option maxRecDepth 100000 in
set_option maxHeartbeats 2000000 in
theorem lives0 (wr : World) (pb W M : Nat) (x3 x5 : Value) (h : wr.heap[pb]? = some (.cells #[.int .i64 (W : Int), .int .i64 (M : Int), .int .u64 0, x3, .pointer none, x5, .slice none 0 0, .slice none 0 0, .slice none 0 0] 53 (0, 0))) :
    Calls Tryd.prog 36 #[.pointer (some ⟨pb, 0, none⟩), .int .i64 0, .int .u64 1] wr fun e w' => e = .returned (.bool true) ∧ ∃ bl, wr.heap.size ≤ bl ∧ Lb w' bl (Lk.new 0 5 1 (W : Int) (M : Int)) (.slice none 0 0) ∧ w'.heap[pb]? = some (.cells #[.int .i64 (W : Int), .int .i64 (M : Int), .int .u64 1, x3, .pointer (some ⟨bl, 0, none⟩), x5, .slice none 0 0, .slice none 0 0, .slice none 0 0] 53 (0, 0)) ∧ C.But pb wr w' := by
  obtain ⟨p0, p1, p2, p3, p4, p5, p6, p7, p8, pf⟩ := blk9 h
  have hpb := C.lt_of_block h
  have H := hide h
  clear h
  go_enter Tryd.func36, Tryd.ntmps36
  go_upto_region 2 with (fail)
  obtain ⟨w1, hw1⟩ : ∃ w1, wr.setCell ⟨pb, 2, none⟩ (.int .u64 1) = w1 := ⟨_, rfl⟩
  rw [hw1]
  have hk1 : w1.heap[pb]? = some (.cells #[.int .i64 (W : Int), .int .i64 (M : Int), .int .u64 1, x3, .pointer none, x5, .slice none 0 0, .slice none 0 0, .slice none 0 0] 53 (0, 0)) := by rw [← hw1]; exact C.block_set H.out _
  have hb1 : C.But pb wr w1 := by rw [← hw1]; exact (C.But.refl pb wr).setCell (p := ⟨pb, 2, none⟩) (Or.inl rfl) _
  have hs1 : w1.heap.size = wr.heap.size := by rw [← hw1]; simp [World.setCell]
  clear p0 p1 p2 p3 p4 p5 p6 p7 p8 pf hw1 H
  obtain ⟨p0, p1, p2, p3, p4, p5, p6, p7, p8, pf⟩ := blk9 hk1
  have hpb1 := C.lt_of_block hk1
  have HK1 := hide hk1
  have HB1 := hide hb1
  have HS1 := hide hs1
  have HNw := hide (new_any w1.drew 0 5 1 (W : Int) (M : Int))
  have z0 : IntKind.i64.wrap 0 = 0 := by rfl
  have z5 : IntKind.i64.wrap 5 = 5 := by rfl
  have z6 : (5 : Int) - 0 = 5 := by rfl
  clear hk1 hb1 hs1
  go_region_held3 (fun w' => w'.cell? ⟨pb, 0, none⟩ = some (.int .i64 (W : Int)) ∧ w'.cell? ⟨pb, 1, none⟩ = some (.int .i64 (M : Int))) (go_keep) (first | (go_at_call 6; refine HNw.out.mono ?_; rintro e w2 ⟨rfl, hl2, hb2⟩; have hk2 := (hb2.block pb hpb1).trans HK1.out; obtain ⟨q0, q1, q2, q3, q4, q5, q6, q7, q8, qf⟩ := blk9 hk2; have hpb2 := C.lt_of_block hk2; have r0 : ∀ v, (w2.setCell ⟨pb, 4, none⟩ v).cell? ⟨pb, 0, none⟩ = some (.int .i64 (W : Int)) := (fun v => by have := C.block_set hk2 (i := 4) v; simp [World.cell?, this]); have r1 : ∀ v, (w2.setCell ⟨pb, 4, none⟩ v).cell? ⟨pb, 1, none⟩ = some (.int .i64 (M : Int)) := (fun v => by have := C.block_set hk2 (i := 4) v; simp [World.cell?, this]); have HL2 := hide hl2; have HB2 := hide hb2; have HK2 := hide hk2; clear hl2 hb2 hk2))
  have hk3 := C.block_set HK2.out (i := 4) (.pointer (some ⟨w1.heap.size, 0, none⟩))
  have ht3 : (w2.setCell ⟨pb, 4, none⟩ (.pointer (some ⟨w1.heap.size, 0, none⟩))).cell? ⟨pb, 4, none⟩ = some (.pointer (some ⟨w1.heap.size, 0, none⟩)) := by simp [World.cell?, hk3]
  clear r0 r1
  go_wp2
  go_ret
  refine ⟨rfl, w1.heap.size, by rw [HS1.out]; exact Nat.le_refl _, HL2.out.kept (Below.heap_setCell _ _ _ _ (by show w1.heap.size ≠ pb; omega)), hk3, ?_⟩
  exact (HB1.out.trans ((C.But.refl pb w1).drew.trans (C.but_of HB2.out pb))).setCell (p := ⟨pb, 4, none⟩) (Or.inl rfl) _
set_option maxRecDepth 100000 in
set_option maxHeartbeats 2000000 in
theorem lives1 (wr : World) (pb W M : Nat) (x2 x4 : Value) (h : wr.heap[pb]? = some (.cells #[.int .i64 (W : Int), .int .i64 (M : Int), x2, .int .u64 0, x4, .pointer none, .slice none 0 0, .slice none 0 0, .slice none 0 0] 53 (0, 0))) :
    Calls Tryd.prog 36 #[.pointer (some ⟨pb, 0, none⟩), .int .i64 1, .int .u64 1] wr fun e w' => e = .returned (.bool true) ∧ ∃ bl, wr.heap.size ≤ bl ∧ Lb w' bl (Lk.new 5 0 1 (W : Int) (M : Int)) (.slice none 0 0) ∧ w'.heap[pb]? = some (.cells #[.int .i64 (W : Int), .int .i64 (M : Int), x2, .int .u64 1, x4, .pointer (some ⟨bl, 0, none⟩), .slice none 0 0, .slice none 0 0, .slice none 0 0] 53 (0, 0)) ∧ C.But pb wr w' := by
  obtain ⟨p0, p1, p2, p3, p4, p5, p6, p7, p8, pf⟩ := blk9 h
  have hpb := C.lt_of_block h
  have H := hide h
  clear h
  go_enter Tryd.func36, Tryd.ntmps36
  go_upto_region 2 with (fail)
  obtain ⟨w1, hw1⟩ : ∃ w1, wr.setCell ⟨pb, 3, none⟩ (.int .u64 1) = w1 := ⟨_, rfl⟩
  rw [hw1]
  have hk1 : w1.heap[pb]? = some (.cells #[.int .i64 (W : Int), .int .i64 (M : Int), x2, .int .u64 1, x4, .pointer none, .slice none 0 0, .slice none 0 0, .slice none 0 0] 53 (0, 0)) := by rw [← hw1]; exact C.block_set H.out _
  have hb1 : C.But pb wr w1 := by rw [← hw1]; exact (C.But.refl pb wr).setCell (p := ⟨pb, 3, none⟩) (Or.inl rfl) _
  have hs1 : w1.heap.size = wr.heap.size := by rw [← hw1]; simp [World.setCell]
  clear p0 p1 p2 p3 p4 p5 p6 p7 p8 pf hw1 H
  obtain ⟨p0, p1, p2, p3, p4, p5, p6, p7, p8, pf⟩ := blk9 hk1
  have hpb1 := C.lt_of_block hk1
  have HK1 := hide hk1
  have HB1 := hide hb1
  have HS1 := hide hs1
  have HNw := hide (new_any w1.drew 5 0 1 (W : Int) (M : Int))
  have z0 : IntKind.i64.wrap 0 = 0 := by rfl
  have z5 : IntKind.i64.wrap 5 = 5 := by rfl
  have z6 : (5 : Int) - 0 = 5 := by rfl
  clear hk1 hb1 hs1
  go_region_held3 (fun w' => w'.cell? ⟨pb, 0, none⟩ = some (.int .i64 (W : Int)) ∧ w'.cell? ⟨pb, 1, none⟩ = some (.int .i64 (M : Int))) (go_keep) (first | (go_at_call 6; refine HNw.out.mono ?_; rintro e w2 ⟨rfl, hl2, hb2⟩; have hk2 := (hb2.block pb hpb1).trans HK1.out; obtain ⟨q0, q1, q2, q3, q4, q5, q6, q7, q8, qf⟩ := blk9 hk2; have hpb2 := C.lt_of_block hk2; have r0 : ∀ v, (w2.setCell ⟨pb, 5, none⟩ v).cell? ⟨pb, 0, none⟩ = some (.int .i64 (W : Int)) := (fun v => by have := C.block_set hk2 (i := 5) v; simp [World.cell?, this]); have r1 : ∀ v, (w2.setCell ⟨pb, 5, none⟩ v).cell? ⟨pb, 1, none⟩ = some (.int .i64 (M : Int)) := (fun v => by have := C.block_set hk2 (i := 5) v; simp [World.cell?, this]); have HL2 := hide hl2; have HB2 := hide hb2; have HK2 := hide hk2; clear hl2 hb2 hk2))
  have hk3 := C.block_set HK2.out (i := 5) (.pointer (some ⟨w1.heap.size, 0, none⟩))
  have ht3 : (w2.setCell ⟨pb, 5, none⟩ (.pointer (some ⟨w1.heap.size, 0, none⟩))).cell? ⟨pb, 5, none⟩ = some (.pointer (some ⟨w1.heap.size, 0, none⟩)) := by simp [World.cell?, hk3]
  clear r0 r1
  go_wp2
  go_ret
  refine ⟨rfl, w1.heap.size, by rw [HS1.out]; exact Nat.le_refl _, HL2.out.kept (Below.heap_setCell _ _ _ _ (by show w1.heap.size ≠ pb; omega)), hk3, ?_⟩
  exact (HB1.out.trans ((C.But.refl pb w1).drew.trans (C.but_of HB2.out pb))).setCell (p := ⟨pb, 5, none⟩) (Or.inl rfl) _
theorem new_wd {me other : Int} {W M : Nat} (h1 : 1 ≤ M) (h2 : M ≤ 64) : Wd (Lk.new me other 1 (W : Int) (M : Int)) me other := by
  refine ⟨rfl, rfl, rfl, Nat.zero_le _, rfl, by show 0 ≤ max (W : Int) 0; omega, ⟨Nat.zero_le _, ?_, ?_⟩⟩
  · show (if 1 ≤ (M : Int) ∧ (M : Int) ≤ 64 then 1 else 0) ≤ 64
    split <;> omega
  · intro m hm
    have : (if 1 ≤ (M : Int) ∧ (M : Int) ≤ 64 then some (M : Int).toNat else none) = some m := hm
    rw [if_pos (by omega)] at this
    simp at this
    omega
set_option maxRecDepth 100000 in
set_option maxHeartbeats 2000000 in
theorem paired_any (w : World) (win cap : Int) (hT : C.Tab w) :
    Calls Tryd.prog 13 #[.int .i64 win, .int .i64 cap] w fun e w' => ∃ pb b0 b1 W M, e = .returned (.pointer (some ⟨pb, 0, none⟩)) ∧ Qs w w' pb b0 b1 W M (Lk.new 0 5 1 (W : Int) (M : Int)) (Lk.new 5 0 1 (W : Int) (M : Int)) (.slice none 0 0) [] := by
  have HW1 := hide (within_any w win 5 (by omega) (by omega))
  have HW2 := hide (within_any w cap 16 (by omega) (by omega))
  obtain ⟨r, hr⟩ : ∃ r, (win % ((5 : Nat) : Int)).toNat = r := ⟨_, rfl⟩
  obtain ⟨q, hq⟩ : ∃ q, (cap % ((16 : Nat) : Int)).toNat = q := ⟨_, rfl⟩
  have hr5 : r < 5 := by omega
  have hq16 : q < 16 := by omega
  rw [hr] at HW1
  rw [hq] at HW2
  have e5 : ((5 : Nat) : Int) = 5 := rfl
  have e16 : ((16 : Nat) : Int) = 16 := rfl
  rw [e5] at HW1
  rw [e16] at HW2
  obtain ⟨W, hWr⟩ : ∃ W, 1 + r = W := ⟨_, rfl⟩
  obtain ⟨M, hMq⟩ : ∃ M, 1 + q = M := ⟨_, rfl⟩
  have hW : (1 : Int) + (r : Int) = (W : Int) := by omega
  have hM : (1 : Int) + (q : Int) = (M : Int) := by omega
  have HWM : Hid (1 ≤ W ∧ 1 ≤ M ∧ M ≤ 64) := by show _ ∧ _; omega
  have HT := hide hT
  clear hr hq e5 e16 hWr hMq hT
  go_enter Tryd.func13, Tryd.ntmps13
  go_wp2_with fail
  refine HW1.out.mono ?_
  rintro e w1 ⟨rfl, rfl⟩
  go_wp2_with fail
  refine HW2.out.mono ?_
  rintro e w2 ⟨rfl, rfl⟩
  clear HW1 HW2
  go_upto_region 2 with (fail)
  obtain ⟨w3, hw3⟩ : ∃ w3, w2.alloc (.cells #[.int .i64 (W : Int), .int .i64 (M : Int), .int .u64 0, .int .u64 0, .pointer none, .pointer none, .slice none 0 0, .slice none 0 0, .slice none 0 0] 53) = w3 := ⟨_, rfl⟩
  rw [hw3]
  have hk3 : w3.heap[w2.heap.size]? = some (.cells #[.int .i64 (W : Int), .int .i64 (M : Int), .int .u64 0, .int .u64 0, .pointer none, .pointer none, .slice none 0 0, .slice none 0 0, .slice none 0 0] 53 (0, 0)) := by rw [← hw3]; exact heap_alloc_new _ _
  have HB3 : Hid (Below w2.heap.size w2 w3) := by show Below _ _ _; rw [← hw3]; exact (Below.refl _ _).alloc (Nat.le_refl _) _
  obtain ⟨pb, hpb⟩ : ∃ pb, w2.heap.size = pb := ⟨_, rfl⟩
  have HPb := hide hpb
  rw [hpb] at hk3
  have hlt3 := C.lt_of_block hk3
  have HL0 := hide (lives0 w3 pb W M _ _ hk3)
  clear hk3 hw3 hW hM
  go_wp2_with fail
  refine HL0.out.mono ?_
  rintro e w4 ⟨rfl, b0, hb0, hl0, hk4, hbt4⟩
  have HL1 := hide (lives1 w4 pb W M _ _ hk4)
  have hlt4 := C.lt_of_block hl0
  have HA := hide hl0
  have HB0 := hide hb0
  have HBt4 := hide hbt4
  clear hl0 hk4 hb0 hbt4 HL0
  go_wp2_with fail
  refine HL1.out.mono ?_
  rintro e w5 ⟨rfl, b1, hb1, hl1, hk5, hbt5⟩
  have HB := hide hl1
  have HK5 := hide hk5
  have HB1 := hide hb1
  have HBt5 := hide hbt5
  clear hl1 hk5 hb1 hbt5 HL1
  go_wp2
  go_ret
  have s1 := HB0.out
  have s2 := HB1.out
  have s3 := HPb.out
  refine ⟨pb, b0, b1, W, M, rfl, ?_⟩
  exact ⟨HBt5.out.below (HBt4.out.below HB3.out (by omega) HB3.out.size) (by omega) (Nat.le_trans HB3.out.size HBt4.out.size), HK5.out, HA.out.kept (HBt5.out.block b0 hlt4 (by omega)), HB.out, World.ownsRow_nil _ _ _ _, by omega, fun g hg => by simp [Value.ownBlock] at hg, by omega, HWM.out.1, new_wd HWM.out.2.1 HWM.out.2.2, new_wd HWM.out.2.1 HWM.out.2.2, HT.out⟩
end Go.Proofs.YtephfdnneplcnaaDoor
