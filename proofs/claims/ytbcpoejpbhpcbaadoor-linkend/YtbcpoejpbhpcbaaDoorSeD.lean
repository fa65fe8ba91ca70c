import Derived.Test.YtbcpoejpbhpcbaaDoorSeB
import Derived.Test.YtbcpoejpbhpcbaaDoorLqD
namespace Go.Proofs.YtbcpoejpbhpcbaaDoor
open Go.RowKit

set_option maxRecDepth 100000 in
set_option maxHeartbeats 2000000 in
theorem livesN0 (wr : World) (pb W M n : Nat) (x2 x3 x4 x5 x6 x7 x8 : Value) (h : wr.heap[pb]? = some (.cells #[.int .i64 (W : Int), .int .i64 (M : Int), x2, x3, x4, x5, x6, x7, x8] 41 (0, 0))) :
    Calls Tryd.prog 15 #[.pointer (some ⟨pb, 0, none⟩), .int .i64 0, .int .u64 (n : Int)] wr fun e w' => e = .returned (.bool true) ∧ ∃ bl, wr.heap.size ≤ bl ∧ Lb w' bl (Lk.new 0 5 n (W : Int) (M : Int)) (.slice none 0 0) ∧ w'.heap[pb]? = some (.cells #[.int .i64 (W : Int), .int .i64 (M : Int), .int .u64 (n : Int), x3, .pointer (some ⟨bl, 0, none⟩), x5, x6, x7, x8] 41 (0, 0)) ∧ C.But pb wr w' := by
  obtain ⟨p0, p1, p2, p3, p4, p5, p6, p7, p8, pf⟩ := blk9 h
  have hpb := C.lt_of_block h
  have H := hide h
  clear h
  go_enter Tryd.func15, Tryd.ntmps15
  go_upto_region 2 with (fail)
  obtain ⟨w1, hw1⟩ : ∃ w1, wr.setCell ⟨pb, 2, none⟩ (.int .u64 (n : Int)) = w1 := ⟨_, rfl⟩
  rw [hw1]
  have hk1 : w1.heap[pb]? = some (.cells #[.int .i64 (W : Int), .int .i64 (M : Int), .int .u64 (n : Int), x3, x4, x5, x6, x7, x8] 41 (0, 0)) := by rw [← hw1]; exact C.block_set H.out _
  have hb1 : C.But pb wr w1 := by rw [← hw1]; exact (C.But.refl pb wr).setCell (p := ⟨pb, 2, none⟩) (Or.inl rfl) _
  have hs1 : w1.heap.size = wr.heap.size := by rw [← hw1]; simp [World.setCell]
  clear p0 p1 p2 p3 p4 p5 p6 p7 p8 pf hw1 H
  obtain ⟨p0, p1, p2, p3, p4, p5, p6, p7, p8, pf⟩ := blk9 hk1
  have hpb1 := C.lt_of_block hk1
  have HK1 := hide hk1
  have HB1 := hide hb1
  have HS1 := hide hs1
  have HNw := hide (new_any w1.drew 0 5 n (W : Int) (M : Int))
  have z0 : IntKind.i64.wrap 0 = 0 := by rfl
  have z5 : IntKind.i64.wrap 5 = 5 := by rfl
  have z6 : (5 : Int) - 0 = 5 := by rfl
  clear hk1 hb1 hs1
  go_region_held3 (fun w' => w'.cell? ⟨pb, 0, none⟩ = some (.int .i64 (W : Int)) ∧ w'.cell? ⟨pb, 1, none⟩ = some (.int .i64 (M : Int))) (go_keep) (first | (go_at_call 16; refine HNw.out.mono ?_; rintro e w2 ⟨rfl, hl2, hb2⟩; have hk2 := (hb2.block pb hpb1).trans HK1.out; obtain ⟨q0, q1, q2, q3, q4, q5, q6, q7, q8, qf⟩ := blk9 hk2; have hpb2 := C.lt_of_block hk2; have r0 : ∀ v, (w2.setCell ⟨pb, 4, none⟩ v).cell? ⟨pb, 0, none⟩ = some (.int .i64 (W : Int)) := (fun v => by have := C.block_set hk2 (i := 4) v; simp [World.cell?, this]); have r1 : ∀ v, (w2.setCell ⟨pb, 4, none⟩ v).cell? ⟨pb, 1, none⟩ = some (.int .i64 (M : Int)) := (fun v => by have := C.block_set hk2 (i := 4) v; simp [World.cell?, this]); have HL2 := hide hl2; have HB2 := hide hb2; have HK2 := hide hk2; clear hl2 hb2 hk2))
  have hk3 := C.block_set HK2.out (i := 4) (.pointer (some ⟨w1.heap.size, 0, none⟩))
  have ht3 : (w2.setCell ⟨pb, 4, none⟩ (.pointer (some ⟨w1.heap.size, 0, none⟩))).cell? ⟨pb, 4, none⟩ = some (.pointer (some ⟨w1.heap.size, 0, none⟩)) := by simp [World.cell?, hk3]
  clear r0 r1
  go_wp2
  go_ret
  refine ⟨rfl, w1.heap.size, by rw [HS1.out]; exact Nat.le_refl _, HL2.out.kept (Below.heap_setCell _ _ _ _ (by show w1.heap.size ≠ pb; omega)), hk3, ?_⟩
  exact (HB1.out.trans ((C.But.refl pb w1).drew.trans (C.but_of HB2.out pb))).setCell (p := ⟨pb, 4, none⟩) (Or.inl rfl) _
set_option maxRecDepth 100000 in
set_option maxHeartbeats 2000000 in
theorem livesN1 (wr : World) (pb W M n : Nat) (x2 x3 x4 x5 x6 x7 x8 : Value) (h : wr.heap[pb]? = some (.cells #[.int .i64 (W : Int), .int .i64 (M : Int), x2, x3, x4, x5, x6, x7, x8] 41 (0, 0))) :
    Calls Tryd.prog 15 #[.pointer (some ⟨pb, 0, none⟩), .int .i64 1, .int .u64 (n : Int)] wr fun e w' => e = .returned (.bool true) ∧ ∃ bl, wr.heap.size ≤ bl ∧ Lb w' bl (Lk.new 5 0 n (W : Int) (M : Int)) (.slice none 0 0) ∧ w'.heap[pb]? = some (.cells #[.int .i64 (W : Int), .int .i64 (M : Int), x2, .int .u64 (n : Int), x4, .pointer (some ⟨bl, 0, none⟩), x6, x7, x8] 41 (0, 0)) ∧ C.But pb wr w' := by
  obtain ⟨p0, p1, p2, p3, p4, p5, p6, p7, p8, pf⟩ := blk9 h
  have hpb := C.lt_of_block h
  have H := hide h
  clear h
  go_enter Tryd.func15, Tryd.ntmps15
  go_upto_region 2 with (fail)
  obtain ⟨w1, hw1⟩ : ∃ w1, wr.setCell ⟨pb, 3, none⟩ (.int .u64 (n : Int)) = w1 := ⟨_, rfl⟩
  rw [hw1]
  have hk1 : w1.heap[pb]? = some (.cells #[.int .i64 (W : Int), .int .i64 (M : Int), x2, .int .u64 (n : Int), x4, x5, x6, x7, x8] 41 (0, 0)) := by rw [← hw1]; exact C.block_set H.out _
  have hb1 : C.But pb wr w1 := by rw [← hw1]; exact (C.But.refl pb wr).setCell (p := ⟨pb, 3, none⟩) (Or.inl rfl) _
  have hs1 : w1.heap.size = wr.heap.size := by rw [← hw1]; simp [World.setCell]
  clear p0 p1 p2 p3 p4 p5 p6 p7 p8 pf hw1 H
  obtain ⟨p0, p1, p2, p3, p4, p5, p6, p7, p8, pf⟩ := blk9 hk1
  have hpb1 := C.lt_of_block hk1
  have HK1 := hide hk1
  have HB1 := hide hb1
  have HS1 := hide hs1
  have HNw := hide (new_any w1.drew 5 0 n (W : Int) (M : Int))
  have z0 : IntKind.i64.wrap 0 = 0 := by rfl
  have z5 : IntKind.i64.wrap 5 = 5 := by rfl
  have z6 : (5 : Int) - 0 = 5 := by rfl
  clear hk1 hb1 hs1
  go_region_held3 (fun w' => w'.cell? ⟨pb, 0, none⟩ = some (.int .i64 (W : Int)) ∧ w'.cell? ⟨pb, 1, none⟩ = some (.int .i64 (M : Int))) (go_keep) (first | (go_at_call 16; refine HNw.out.mono ?_; rintro e w2 ⟨rfl, hl2, hb2⟩; have hk2 := (hb2.block pb hpb1).trans HK1.out; obtain ⟨q0, q1, q2, q3, q4, q5, q6, q7, q8, qf⟩ := blk9 hk2; have hpb2 := C.lt_of_block hk2; have r0 : ∀ v, (w2.setCell ⟨pb, 5, none⟩ v).cell? ⟨pb, 0, none⟩ = some (.int .i64 (W : Int)) := (fun v => by have := C.block_set hk2 (i := 5) v; simp [World.cell?, this]); have r1 : ∀ v, (w2.setCell ⟨pb, 5, none⟩ v).cell? ⟨pb, 1, none⟩ = some (.int .i64 (M : Int)) := (fun v => by have := C.block_set hk2 (i := 5) v; simp [World.cell?, this]); have HL2 := hide hl2; have HB2 := hide hb2; have HK2 := hide hk2; clear hl2 hb2 hk2))
  have hk3 := C.block_set HK2.out (i := 5) (.pointer (some ⟨w1.heap.size, 0, none⟩))
  have ht3 : (w2.setCell ⟨pb, 5, none⟩ (.pointer (some ⟨w1.heap.size, 0, none⟩))).cell? ⟨pb, 5, none⟩ = some (.pointer (some ⟨w1.heap.size, 0, none⟩)) := by simp [World.cell?, hk3]
  clear r0 r1
  go_wp2
  go_ret
  refine ⟨rfl, w1.heap.size, by rw [HS1.out]; exact Nat.le_refl _, HL2.out.kept (Below.heap_setCell _ _ _ _ (by show w1.heap.size ≠ pb; omega)), hk3, ?_⟩
  exact (HB1.out.trans ((C.But.refl pb w1).drew.trans (C.but_of HB2.out pb))).setCell (p := ⟨pb, 5, none⟩) (Or.inl rfl) _
end Go.Proofs.YtbcpoejpbhpcbaaDoor
