import Derived.Test.YtjcdnclfakmbpaaGreatDoorExI
namespace Go.Proofs.YtjcdnclfakmbpaaGreatDoor
open Go.RowKit
theorem blk16 {w : World} {b : Nat} {x0 x1 x2 x3 x4 x5 x6 x7 x8 x9 x10 x11 x12 x13 x14 x15 : Value} {t : TypeId} (h : w.heap[b]? = some (.cells #[x0, x1, x2, x3, x4, x5, x6, x7, x8, x9, x10, x11, x12, x13, x14, x15] t (0, 0))) : w.cell? ⟨b, 0, none⟩ = some x0 ∧ w.cell? ⟨b, 1, none⟩ = some x1 ∧ w.cell? ⟨b, 2, none⟩ = some x2 ∧ w.cell? ⟨b, 3, none⟩ = some x3 ∧ w.cell? ⟨b, 4, none⟩ = some x4 ∧ w.cell? ⟨b, 5, none⟩ = some x5 ∧ w.cell? ⟨b, 6, none⟩ = some x6 ∧ w.cell? ⟨b, 7, none⟩ = some x7 ∧ w.cell? ⟨b, 8, none⟩ = some x8 ∧ w.cell? ⟨b, 9, none⟩ = some x9 ∧ ∀ o, w.frozen? ⟨b, o, none⟩ = false := by
  refine ⟨?_, ?_, ?_, ?_, ?_, ?_, ?_, ?_, ?_, ?_, fun o => by simp [World.frozen?, h]⟩ <;> simp [World.cell?, h]
set_option maxRecDepth 100000 in
set_option maxHeartbeats 4000000 in
theorem livesR0 (w : World) (wb n W0 W1 M0 M1 : Nat) (m0 m1 : Int) (x6 x7 x8 x9 x10 x11 x12 x13 x14 x15 : Value) (h : w.heap[wb]? = some (.cells #[.int .i64 m0, .int .i64 m1, .int .i64 (W0 : Int), .int .i64 (W1 : Int), .int .i64 (M0 : Int), .int .i64 (M1 : Int), x6, x7, x8, x9, x10, x11, x12, x13, x14, x15] 48 (0, 0))) (h1 : 1 ≤ M0) (h2 : M0 ≤ 64) :
    Calls Tryz.prog 11 #[.pointer (some ⟨wb, 0, none⟩), .int .i64 0, .int .u64 (n : Int)] w fun e w' => e = .returned (.bool true) ∧ ∃ bl bk, w.heap.size ≤ bl ∧ bl < bk ∧ Lb w' bl (Lk.new m0 m1 n (W0 : Int) (M0 : Int)) (.slice none 0 0) ∧ Db w' bk (Lk.new m0 m1 n (W0 : Int) (M0 : Int)) (.slice none 0 0) M0 0 ∧ w'.heap[wb]? = some (.cells #[.int .i64 m0, .int .i64 m1, .int .i64 (W0 : Int), .int .i64 (W1 : Int), .int .i64 (M0 : Int), .int .i64 (M1 : Int), .pointer (some ⟨bl, 0, none⟩), x7, .pointer (some ⟨bk, 0, none⟩), x9, x10, x11, x12, x13, x14, x15] 48 (0, 0)) ∧ C.But wb w w' := by
  obtain ⟨p0, p1, p2, p3, p4, p5, p6, p7, p8, p9, pf⟩ := blk16 h
  have hwl := C.lt_of_block h
  have H := hide h
  have HNw := hide (new_any w.drew m0 m1 n (W0 : Int) (M0 : Int))
  have z1 : (1 : Int) - 0 = 1 := by rfl
  have z2 : (1 : Int) - 1 = 0 := by rfl
  have z0 : IntKind.i64.wrap 0 = 0 := by rfl
  have z3 : IntKind.i64.wrap 1 = 1 := by rfl
  clear h
  go_enter Tryz.func11, Tryz.ntmps11
  go_upto_region 1 with (fail)
  go_region_held3 (fun w' => w'.cell? ⟨wb, 0, none⟩ = some (.int .i64 m0) ∧ w'.cell? ⟨wb, 1, none⟩ = some (.int .i64 m1) ∧ w'.cell? ⟨wb, 2, none⟩ = some (.int .i64 (W0 : Int)) ∧ w'.cell? ⟨wb, 4, none⟩ = some (.int .i64 (M0 : Int))) (go_keep) (first | (go_at_call 13; refine HNw.out.mono ?_; rintro e w2 ⟨rfl, hl2, hb2⟩; have hk2 := (hb2.block wb hwl).trans H.out; obtain ⟨q0, q1, q2, q3, q4, q5, q6, q7, q8, q9, qf⟩ := blk16 hk2; have hwl2 := C.lt_of_block hk2; have ra0 : ∀ v, (w2.setCell ⟨wb, 6, none⟩ v).cell? ⟨wb, 0, none⟩ = some (.int .i64 m0) := (fun v => by have := C.block_set hk2 (i := 6) v; simp [World.cell?, this]); have ra1 : ∀ v, (w2.setCell ⟨wb, 6, none⟩ v).cell? ⟨wb, 1, none⟩ = some (.int .i64 m1) := (fun v => by have := C.block_set hk2 (i := 6) v; simp [World.cell?, this]); have ra2 : ∀ v, (w2.setCell ⟨wb, 6, none⟩ v).cell? ⟨wb, 2, none⟩ = some (.int .i64 (W0 : Int)) := (fun v => by have := C.block_set hk2 (i := 6) v; simp [World.cell?, this]); have ra3 : ∀ v, (w2.setCell ⟨wb, 6, none⟩ v).cell? ⟨wb, 4, none⟩ = some (.int .i64 (M0 : Int)) := (fun v => by have := C.block_set hk2 (i := 6) v; simp [World.cell?, this]); have HL2 := hide hl2; have HB2 := hide hb2; have HK2 := hide hk2; clear hl2 hb2 hk2))
  have hk3 := C.block_set HK2.out (i := 6) (.pointer (some ⟨w.heap.size, 0, none⟩))
  obtain ⟨bl, hbl⟩ : ∃ bl, w.heap.size = bl := ⟨_, rfl⟩
  have hlb3 : Lb (w2.setCell ⟨wb, 6, none⟩ (.pointer (some ⟨w.heap.size, 0, none⟩))) w.heap.size (Lk.new m0 m1 n (W0 : Int) (M0 : Int)) (.slice none 0 0) := HL2.out.kept (Below.heap_setCell _ _ _ _ (by show w.heap.size ≠ wb; omega))
  have hbt3 : C.But wb w (w2.setCell ⟨wb, 6, none⟩ (.pointer (some ⟨w.heap.size, 0, none⟩))) := ((C.But.refl wb w).drew.trans (C.but_of HB2.out wb)).setCell (p := ⟨wb, 6, none⟩) (Or.inl rfl) _
  have ht3 : (w2.setCell ⟨wb, 6, none⟩ (.pointer (some ⟨w.heap.size, 0, none⟩))).cell? ⟨wb, 6, none⟩ = some (.pointer (some ⟨w.heap.size, 0, none⟩)) := by simp [World.cell?, hk3]
  obtain ⟨w3, hw3⟩ : ∃ w3, w2.setCell ⟨wb, 6, none⟩ (.pointer (some ⟨w.heap.size, 0, none⟩)) = w3 := ⟨_, rfl⟩
  rw [hw3] at hk3 hlb3 hbt3 ht3
  have hkk3 : w3.heap[wb]? = some (.cells #[.int .i64 m0, .int .i64 m1, .int .i64 (W0 : Int), .int .i64 (W1 : Int), .int .i64 (M0 : Int), .int .i64 (M1 : Int), .pointer (some ⟨bl, 0, none⟩), x7, x8, x9, x10, x11, x12, x13, x14, x15] 48 (0, 0)) := by rw [← hbl]; exact hk3
  rw [hbl] at hlb3 ht3
  have HLb3 := hide hlb3
  have HBt3 := hide hbt3
  have HK3 := hide hkk3
  have HBl := hide hbl
  have hsz3 : bl < w3.heap.size := C.lt_of_block hlb3
  have HNw2 := hide (dnew_any w3.drew m0 m1 n W0 M0 h1 h2)
  have HWw := hide hw3
  clear p0 p1 p2 p3 p4 p5 p6 p7 p8 p9 pf q0 q1 q2 q3 q4 q5 q6 q7 q8 q9 qf hk3 hkk3 hlb3 hbt3 ra0 ra1 ra2 ra3 HL2 HB2 HK2 HNw H hwl2 hw3 h1 h2 hbl
  obtain ⟨p0, p1, p2, p3, p4, p5, p6, p7, p8, p9, pf⟩ := blk16 HK3.out
  have hwl3 := C.lt_of_block HK3.out
  go_upto_region 2 with (fail)
  rw [HWw.out]
  clear HWw
  go_region_held3 (fun w' => w'.cell? ⟨wb, 0, none⟩ = some (.int .i64 m0) ∧ w'.cell? ⟨wb, 1, none⟩ = some (.int .i64 m1) ∧ w'.cell? ⟨wb, 2, none⟩ = some (.int .i64 (W0 : Int)) ∧ w'.cell? ⟨wb, 4, none⟩ = some (.int .i64 (M0 : Int))) (go_keep) (first | (go_at_call 33; refine HNw2.out.mono ?_; rintro e w4 ⟨bk, hbk, rfl, hd2, hb2⟩; have hk2 := (hb2.block wb hwl3).trans HK3.out; obtain ⟨q0, q1, q2, q3, q4, q5, q6, q7, q8, q9, qf⟩ := blk16 hk2; have hwl2 := C.lt_of_block hk2; have rb0 : ∀ v, (w4.setCell ⟨wb, 8, none⟩ v).cell? ⟨wb, 0, none⟩ = some (.int .i64 m0) := (fun v => by have := C.block_set hk2 (i := 8) v; simp [World.cell?, this]); have rb1 : ∀ v, (w4.setCell ⟨wb, 8, none⟩ v).cell? ⟨wb, 1, none⟩ = some (.int .i64 m1) := (fun v => by have := C.block_set hk2 (i := 8) v; simp [World.cell?, this]); have rb2 : ∀ v, (w4.setCell ⟨wb, 8, none⟩ v).cell? ⟨wb, 2, none⟩ = some (.int .i64 (W0 : Int)) := (fun v => by have := C.block_set hk2 (i := 8) v; simp [World.cell?, this]); have rb3 : ∀ v, (w4.setCell ⟨wb, 8, none⟩ v).cell? ⟨wb, 4, none⟩ = some (.int .i64 (M0 : Int)) := (fun v => by have := C.block_set hk2 (i := 8) v; simp [World.cell?, this]); have HD2 := hide hd2; have HBk := hide hbk; have HB2 := hide hb2; have HK2 := hide hk2; clear hd2 hb2 hk2 hbk))
  have hk5 := C.block_set HK2.out (i := 8) (.pointer (some ⟨bk, 0, none⟩))
  have hkz : w3.heap.size ≤ bk := HBk.out
  have hfin : (w4.setCell ⟨wb, 8, none⟩ (.pointer (some ⟨bk, 0, none⟩))).cell? ⟨wb, 6, none⟩ = some (.pointer (some ⟨bl, 0, none⟩)) := by simp [World.cell?, hk5]
  clear rb0 rb1 rb2 rb3
  go_wp2
  go_ret
  refine ⟨rfl, bl, bk, Nat.le_of_eq HBl.out, by omega, HLb3.out.kept ((Below.heap_setCell _ _ _ _ (by show bl ≠ wb; have h9 : w.heap.size = bl := HBl.out; omega)).trans (HB2.out.block bl hsz3)), HD2.out.kept (Below.heap_setCell _ _ _ _ (by show bk ≠ wb; omega)), hk5, ?_⟩
  exact (HBt3.out.trans ((C.But.refl wb w3).drew.trans (C.but_of HB2.out wb))).setCell (p := ⟨wb, 8, none⟩) (Or.inl rfl) _
set_option maxRecDepth 100000 in
set_option maxHeartbeats 4000000 in
theorem livesR1 (w : World) (wb n W0 W1 M0 M1 : Nat) (m0 m1 : Int) (x6 x7 x8 x9 x10 x11 x12 x13 x14 x15 : Value) (h : w.heap[wb]? = some (.cells #[.int .i64 m0, .int .i64 m1, .int .i64 (W0 : Int), .int .i64 (W1 : Int), .int .i64 (M0 : Int), .int .i64 (M1 : Int), x6, x7, x8, x9, x10, x11, x12, x13, x14, x15] 48 (0, 0))) (h1 : 1 ≤ M1) (h2 : M1 ≤ 64) :
    Calls Tryz.prog 11 #[.pointer (some ⟨wb, 0, none⟩), .int .i64 1, .int .u64 (n : Int)] w fun e w' => e = .returned (.bool true) ∧ ∃ bl bk, w.heap.size ≤ bl ∧ bl < bk ∧ Lb w' bl (Lk.new m1 m0 n (W1 : Int) (M1 : Int)) (.slice none 0 0) ∧ Db w' bk (Lk.new m1 m0 n (W1 : Int) (M1 : Int)) (.slice none 0 0) M1 0 ∧ w'.heap[wb]? = some (.cells #[.int .i64 m0, .int .i64 m1, .int .i64 (W0 : Int), .int .i64 (W1 : Int), .int .i64 (M0 : Int), .int .i64 (M1 : Int), x6, .pointer (some ⟨bl, 0, none⟩), x8, .pointer (some ⟨bk, 0, none⟩), x10, x11, x12, x13, x14, x15] 48 (0, 0)) ∧ C.But wb w w' := by
  obtain ⟨p0, p1, p2, p3, p4, p5, p6, p7, p8, p9, pf⟩ := blk16 h
  have hwl := C.lt_of_block h
  have H := hide h
  have HNw := hide (new_any w.drew m1 m0 n (W1 : Int) (M1 : Int))
  have z1 : (1 : Int) - 0 = 1 := by rfl
  have z2 : (1 : Int) - 1 = 0 := by rfl
  have z0 : IntKind.i64.wrap 0 = 0 := by rfl
  have z3 : IntKind.i64.wrap 1 = 1 := by rfl
  clear h
  go_enter Tryz.func11, Tryz.ntmps11
  go_upto_region 1 with (fail)
  go_region_held3 (fun w' => w'.cell? ⟨wb, 1, none⟩ = some (.int .i64 m1) ∧ w'.cell? ⟨wb, 0, none⟩ = some (.int .i64 m0) ∧ w'.cell? ⟨wb, 3, none⟩ = some (.int .i64 (W1 : Int)) ∧ w'.cell? ⟨wb, 5, none⟩ = some (.int .i64 (M1 : Int))) (go_keep) (first | (go_at_call 13; refine HNw.out.mono ?_; rintro e w2 ⟨rfl, hl2, hb2⟩; have hk2 := (hb2.block wb hwl).trans H.out; obtain ⟨q0, q1, q2, q3, q4, q5, q6, q7, q8, q9, qf⟩ := blk16 hk2; have hwl2 := C.lt_of_block hk2; have ra0 : ∀ v, (w2.setCell ⟨wb, 7, none⟩ v).cell? ⟨wb, 1, none⟩ = some (.int .i64 m1) := (fun v => by have := C.block_set hk2 (i := 7) v; simp [World.cell?, this]); have ra1 : ∀ v, (w2.setCell ⟨wb, 7, none⟩ v).cell? ⟨wb, 0, none⟩ = some (.int .i64 m0) := (fun v => by have := C.block_set hk2 (i := 7) v; simp [World.cell?, this]); have ra2 : ∀ v, (w2.setCell ⟨wb, 7, none⟩ v).cell? ⟨wb, 3, none⟩ = some (.int .i64 (W1 : Int)) := (fun v => by have := C.block_set hk2 (i := 7) v; simp [World.cell?, this]); have ra3 : ∀ v, (w2.setCell ⟨wb, 7, none⟩ v).cell? ⟨wb, 5, none⟩ = some (.int .i64 (M1 : Int)) := (fun v => by have := C.block_set hk2 (i := 7) v; simp [World.cell?, this]); have HL2 := hide hl2; have HB2 := hide hb2; have HK2 := hide hk2; clear hl2 hb2 hk2))
  have hk3 := C.block_set HK2.out (i := 7) (.pointer (some ⟨w.heap.size, 0, none⟩))
  obtain ⟨bl, hbl⟩ : ∃ bl, w.heap.size = bl := ⟨_, rfl⟩
  have hlb3 : Lb (w2.setCell ⟨wb, 7, none⟩ (.pointer (some ⟨w.heap.size, 0, none⟩))) w.heap.size (Lk.new m1 m0 n (W1 : Int) (M1 : Int)) (.slice none 0 0) := HL2.out.kept (Below.heap_setCell _ _ _ _ (by show w.heap.size ≠ wb; omega))
  have hbt3 : C.But wb w (w2.setCell ⟨wb, 7, none⟩ (.pointer (some ⟨w.heap.size, 0, none⟩))) := ((C.But.refl wb w).drew.trans (C.but_of HB2.out wb)).setCell (p := ⟨wb, 7, none⟩) (Or.inl rfl) _
  have ht3 : (w2.setCell ⟨wb, 7, none⟩ (.pointer (some ⟨w.heap.size, 0, none⟩))).cell? ⟨wb, 7, none⟩ = some (.pointer (some ⟨w.heap.size, 0, none⟩)) := by simp [World.cell?, hk3]
  obtain ⟨w3, hw3⟩ : ∃ w3, w2.setCell ⟨wb, 7, none⟩ (.pointer (some ⟨w.heap.size, 0, none⟩)) = w3 := ⟨_, rfl⟩
  rw [hw3] at hk3 hlb3 hbt3 ht3
  have hkk3 : w3.heap[wb]? = some (.cells #[.int .i64 m0, .int .i64 m1, .int .i64 (W0 : Int), .int .i64 (W1 : Int), .int .i64 (M0 : Int), .int .i64 (M1 : Int), x6, .pointer (some ⟨bl, 0, none⟩), x8, x9, x10, x11, x12, x13, x14, x15] 48 (0, 0)) := by rw [← hbl]; exact hk3
  rw [hbl] at hlb3 ht3
  have HLb3 := hide hlb3
  have HBt3 := hide hbt3
  have HK3 := hide hkk3
  have HBl := hide hbl
  have hsz3 : bl < w3.heap.size := C.lt_of_block hlb3
  have HNw2 := hide (dnew_any w3.drew m1 m0 n W1 M1 h1 h2)
  have HWw := hide hw3
  clear p0 p1 p2 p3 p4 p5 p6 p7 p8 p9 pf q0 q1 q2 q3 q4 q5 q6 q7 q8 q9 qf hk3 hkk3 hlb3 hbt3 ra0 ra1 ra2 ra3 HL2 HB2 HK2 HNw H hwl2 hw3 h1 h2 hbl
  obtain ⟨p0, p1, p2, p3, p4, p5, p6, p7, p8, p9, pf⟩ := blk16 HK3.out
  have hwl3 := C.lt_of_block HK3.out
  go_upto_region 2 with (fail)
  rw [HWw.out]
  clear HWw
  go_region_held3 (fun w' => w'.cell? ⟨wb, 1, none⟩ = some (.int .i64 m1) ∧ w'.cell? ⟨wb, 0, none⟩ = some (.int .i64 m0) ∧ w'.cell? ⟨wb, 3, none⟩ = some (.int .i64 (W1 : Int)) ∧ w'.cell? ⟨wb, 5, none⟩ = some (.int .i64 (M1 : Int))) (go_keep) (first | (go_at_call 33; refine HNw2.out.mono ?_; rintro e w4 ⟨bk, hbk, rfl, hd2, hb2⟩; have hk2 := (hb2.block wb hwl3).trans HK3.out; obtain ⟨q0, q1, q2, q3, q4, q5, q6, q7, q8, q9, qf⟩ := blk16 hk2; have hwl2 := C.lt_of_block hk2; have rb0 : ∀ v, (w4.setCell ⟨wb, 9, none⟩ v).cell? ⟨wb, 1, none⟩ = some (.int .i64 m1) := (fun v => by have := C.block_set hk2 (i := 9) v; simp [World.cell?, this]); have rb1 : ∀ v, (w4.setCell ⟨wb, 9, none⟩ v).cell? ⟨wb, 0, none⟩ = some (.int .i64 m0) := (fun v => by have := C.block_set hk2 (i := 9) v; simp [World.cell?, this]); have rb2 : ∀ v, (w4.setCell ⟨wb, 9, none⟩ v).cell? ⟨wb, 3, none⟩ = some (.int .i64 (W1 : Int)) := (fun v => by have := C.block_set hk2 (i := 9) v; simp [World.cell?, this]); have rb3 : ∀ v, (w4.setCell ⟨wb, 9, none⟩ v).cell? ⟨wb, 5, none⟩ = some (.int .i64 (M1 : Int)) := (fun v => by have := C.block_set hk2 (i := 9) v; simp [World.cell?, this]); have HD2 := hide hd2; have HBk := hide hbk; have HB2 := hide hb2; have HK2 := hide hk2; clear hd2 hb2 hk2 hbk))
  have hk5 := C.block_set HK2.out (i := 9) (.pointer (some ⟨bk, 0, none⟩))
  have hkz : w3.heap.size ≤ bk := HBk.out
  have hfin : (w4.setCell ⟨wb, 9, none⟩ (.pointer (some ⟨bk, 0, none⟩))).cell? ⟨wb, 7, none⟩ = some (.pointer (some ⟨bl, 0, none⟩)) := by simp [World.cell?, hk5]
  clear rb0 rb1 rb2 rb3
  go_wp2
  go_ret
  refine ⟨rfl, bl, bk, Nat.le_of_eq HBl.out, by omega, HLb3.out.kept ((Below.heap_setCell _ _ _ _ (by show bl ≠ wb; have h9 : w.heap.size = bl := HBl.out; omega)).trans (HB2.out.block bl hsz3)), HD2.out.kept (Below.heap_setCell _ _ _ _ (by show bk ≠ wb; omega)), hk5, ?_⟩
  exact (HBt3.out.trans ((C.But.refl wb w3).drew.trans (C.but_of HB2.out wb))).setCell (p := ⟨wb, 9, none⟩) (Or.inl rfl) _
end Go.Proofs.YtjcdnclfakmbpaaGreatDoor
