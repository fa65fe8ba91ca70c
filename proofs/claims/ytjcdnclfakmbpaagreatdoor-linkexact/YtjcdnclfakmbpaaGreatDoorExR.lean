import Derived.Test.YtjcdnclfakmbpaaGreatDoorExO
import Derived.Test.YtjcdnclfakmbpaaGreatDoorRaA
namespace Go.Proofs.YtjcdnclfakmbpaaGreatDoor
open Go.RowKit
set_option maxRecDepth 100000 in
set_option maxHeartbeats 8000000 in
set_option linter.unusedSimpArgs false in
theorem made_any (w : World) (hT : C.Tab w) (sA sB sW sC : Int) (L0 L1 : Nat) (op : Option Addr) (ol oc : Nat) :
    Calls Tryz.prog 4 #[.agg #[.int .i64 sA, .int .i64 sB, .int .u64 (L0 : Int), .int .u64 (L1 : Int), .int .i64 sW, .int .i64 sC, .slice op ol oc]] w fun e w' => ∃ wb, e = .returned (.pointer (some ⟨wb, 0, none⟩)) ∧ Ws w w' wb 0 := by
  obtain ⟨w1, hw1⟩ : ∃ w1, w.alloc (.cells #[.int .i64 sA, .int .i64 sB, .int .u64 (L0 : Int), .int .u64 (L1 : Int), .int .i64 sW, .int .i64 sC, .slice op ol oc] 26) = w1 := ⟨_, rfl⟩
  obtain ⟨bs, hbs⟩ : ∃ bs, w.heap.size = bs := ⟨_, rfl⟩
  have hb1 : Below w.heap.size w w1 := by rw [← hw1]; exact (Below.refl _ _).alloc (Nat.le_refl _) _
  have hk1 : w1.heap[bs]? = some (.cells #[.int .i64 sA, .int .i64 sB, .int .u64 (L0 : Int), .int .u64 (L1 : Int), .int .i64 sW, .int .i64 sC, .slice op ol oc] 26 (0, 0)) := by rw [← hw1, ← hbs]; exact heap_alloc_new _ _
  obtain ⟨b1, hs1⟩ : ∃ b1, w1.heap.size = b1 := ⟨_, rfl⟩
  have hb1s : b1 = bs + 1 := by rw [← hs1, ← hw1, ← hbs]; simp
  obtain ⟨w2, hw2⟩ : ∃ w2, w1.alloc (.cells U.bk0 70) = w2 := ⟨_, rfl⟩
  have hs2 : w2.heap.size = b1 + 1 := by rw [← hw2]; simp [hs1]
  have hb2 : Below w1.heap.size w1 w2 := by rw [← hw2]; exact (Below.refl _ _).alloc (Nat.le_refl _) _
  have hk2 : w2.heap[b1]? = some (.cells U.bk0 70 (0, 0)) := by rw [← hw2, ← hs1]; exact heap_alloc_new _ _
  obtain ⟨w3, hw3⟩ : ∃ w3, w2.alloc (.cells #[.slice none 0 0, .slice none 0 0] 72) = w3 := ⟨_, rfl⟩
  have hs3 : w3.heap.size = b1 + 1 + 1 := by rw [← hw3]; simp [hs2]
  have hb3 : Below w2.heap.size w2 w3 := by rw [← hw3]; exact (Below.refl _ _).alloc (Nat.le_refl _) _
  have hk3 : w3.heap[b1 + 1]? = some (.cells #[.slice none 0 0, .slice none 0 0] 72 (0, 0)) := by rw [← hw3, ← hs2]; exact heap_alloc_new _ _
  obtain ⟨w4, hw4⟩ : ∃ w4, w3.alloc (.cells #[.int .i64 0, .int .i64 0, .int .i64 0, .int .i64 0, .int .i64 0, .int .i64 0, .pointer none, .pointer none, .pointer none, .pointer none, .slice none 0 0, .pointer (some ⟨b1, 0, none⟩), .pointer (some ⟨b1 + 1, 0, none⟩), .slice none 0 0, .slice none 0 0, .int .i64 0] 48) = w4 := ⟨_, rfl⟩
  obtain ⟨wb, hwbe⟩ : ∃ wb, b1 + 1 + 1 = wb := ⟨_, rfl⟩
  have hs4 : w4.heap.size = wb + 1 := by rw [← hw4, ← hwbe]; simp [hs3]
  have hb4 : Below w3.heap.size w3 w4 := by rw [← hw4]; exact (Below.refl _ _).alloc (Nat.le_refl _) _
  have hk4 : w4.heap[wb]? = some (.cells #[.int .i64 0, .int .i64 0, .int .i64 0, .int .i64 0, .int .i64 0, .int .i64 0, .pointer none, .pointer none, .pointer none, .pointer none, .slice none 0 0, .pointer (some ⟨b1, 0, none⟩), .pointer (some ⟨b1 + 1, 0, none⟩), .slice none 0 0, .slice none 0 0, .int .i64 0] 48 (0, 0)) := by rw [← hw4, ← hwbe, ← hs3]; exact heap_alloc_new _ _
  have HBel : Hid (Below w.heap.size w w4) := hb1.trans ((hb2.mono (by omega)).trans ((hb3.mono (by omega)).trans (hb4.mono (by omega))))
  have HBk : Hid (w4.heap[b1]? = some (.cells U.bk0 70 (0, 0))) := ((hb4.block _ (by omega)).trans (hb3.block _ (by omega))).trans hk2
  have HLt : Hid (w4.heap[b1 + 1]? = some (.cells #[.slice none 0 0, .slice none 0 0] 72 (0, 0))) := (hb4.block _ (by omega)).trans hk3
  have HSc : Hid (w4.heap[bs]? = some (.cells #[.int .i64 sA, .int .i64 sB, .int .u64 (L0 : Int), .int .u64 (L1 : Int), .int .i64 sW, .int .i64 sC, .slice op ol oc] 26 (0, 0))) := ((hb4.block _ (by omega)).trans ((hb3.block _ (by omega)).trans (hb2.block _ (by omega)))).trans hk1
  have HK4 := hide hk4
  have HW1 := hide hw1
  have HW2 := hide hw2
  have HW3 := hide hw3
  have HW4 := hide hw4
  have HS1 := hide hs1
  have HS4 := hide hs4
  have HBs := hide hbs
  have HB1 := hide hb1s
  have HWbe := hide hwbe
  have HTb := hide hT
  have hne : bs ≠ wb := by omega
  have HBt4 : Hid (C.But wb w4 w4) := C.But.refl wb w4
  clear hT hw1 hw2 hw3 hw4 hb1 hb2 hb3 hb4 hk1 hk2 hk3 hk4 hs1 hs2 hs3 hs4 hbs hb1s hwbe
  go_enter Tryz.func4, Tryz.ntmps4
  go_upto_region 1 with (fail)
  rw [HW1.out]
  go_wp2_with fail
  refine book_build rfl ?_
  go_upto_region 2 with (fail)
  rw [HBs.out, HS1.out, HW2.out, HW3.out, HW4.out, HWbe.out]
  clear HW1 HW2 HW3 HW4
  have HWA := hide (fun w => within_any w sA 9 (by omega) (by omega))
  obtain ⟨a0, ha0⟩ : ∃ a0 : Nat, (sA % ((9 : Nat) : Int)).toNat = a0 := ⟨_, rfl⟩
  have ha9 : a0 < 9 := by omega
  rw [ha0] at HWA
  obtain ⟨p0, p1, p2, p3, p4, p5, p6, p7, p8, p9, pf⟩ := blk16 HK4.out
  have hwl := C.lt_of_block HK4.out
  obtain ⟨s0, s1, s2, s3, s4, s5, s6, -⟩ := blk7 HSc.out
  have r0 : ∀ v, (w4.setCell ⟨wb, 0, none⟩ v).cell? ⟨bs, 0, none⟩ = some (.int .i64 sA) := fun v => (World.cell?_of_block (a := ⟨bs, 0, none⟩) (Below.heap_setCell _ _ _ _ hne)).trans s0
  go_upto_region 2 with (fail)
  go_region_held3 (fun w' => w'.cell? ⟨bs, 0, none⟩ = some (.int .i64 sA)) (go_keep) (first | (go_at_call 10; refine (HWA.out _).mono ?_; rintro e wx ⟨rfl, rfl⟩))
  clear p0 p1 p2 p3 p4 p5 p6 p7 p8 p9 pf s0 s1 s2 s3 s4 s5 s6 r0 hwl
  obtain ⟨w5, hW2⟩ : ∃ W2, (w4.setCell ⟨wb, 0, none⟩ (.int .i64 (a0 : Int))).drew = W2 := ⟨_, rfl⟩
  have HKw5 : Hid (w5.heap[wb]? = some (.cells #[.int .i64 (a0 : Int), .int .i64 0, .int .i64 0, .int .i64 0, .int .i64 0, .int .i64 0, .pointer none, .pointer none, .pointer none, .pointer none, .slice none 0 0, .pointer (some ⟨b1, 0, none⟩), .pointer (some ⟨b1 + 1, 0, none⟩), .slice none 0 0, .slice none 0 0, .int .i64 0] 48 (0, 0))) := by show _ = _; rw [← hW2]; exact C.block_set HK4.out _
  have HScw5 : Hid (w5.heap[bs]? = some (.cells #[.int .i64 sA, .int .i64 sB, .int .u64 (L0 : Int), .int .u64 (L1 : Int), .int .i64 sW, .int .i64 sC, .slice op ol oc] 26 (0, 0))) := by show _ = _; rw [← hW2]; exact (Below.heap_setCell _ _ _ _ hne).trans HSc.out
  have HBtw5 : Hid (C.But wb w4 w5) := by show C.But _ _ _; rw [← hW2]; exact (HBt4.out.setCell (p := ⟨wb, 0, none⟩) (Or.inl rfl) _).drew
  rw [hW2]
  clear hW2 ha0
  have HWB := hide (fun w => within_any w sB 8 (by omega) (by omega))
  obtain ⟨b0, hb0⟩ : ∃ b0 : Nat, (sB % ((8 : Nat) : Int)).toNat = b0 := ⟨_, rfl⟩
  have hb8 : b0 < 8 := by omega
  rw [hb0] at HWB
  obtain ⟨p0, p1, p2, p3, p4, p5, p6, p7, p8, p9, pf⟩ := blk16 HKw5.out
  have hwl := C.lt_of_block HKw5.out
  obtain ⟨s0, s1, s2, s3, s4, s5, s6, -⟩ := blk7 HScw5.out
  have r0 : ∀ v, (w5.setCell ⟨wb, 1, none⟩ v).cell? ⟨bs, 1, none⟩ = some (.int .i64 sB) := fun v => (World.cell?_of_block (a := ⟨bs, 1, none⟩) (Below.heap_setCell _ _ _ _ hne)).trans s1
  have r1 : ∀ v, (w5.setCell ⟨wb, 1, none⟩ v).cell? ⟨wb, 0, none⟩ = some (.int .i64 (a0 : Int)) := fun v => by have := C.block_set HKw5.out (i := 1) v; simp [World.cell?, this]
  go_upto_region 3 with (fail)
  go_region_held3 (fun w' => w'.cell? ⟨bs, 1, none⟩ = some (.int .i64 sB) ∧ w'.cell? ⟨wb, 0, none⟩ = some (.int .i64 (a0 : Int))) (go_keep) (first | (go_at_call 10; refine (HWB.out _).mono ?_; rintro e wx ⟨rfl, rfl⟩))
  clear p0 p1 p2 p3 p4 p5 p6 p7 p8 p9 pf s0 s1 s2 s3 s4 s5 s6 r0 r1 hwl
  obtain ⟨w6, hW2⟩ : ∃ W2, (w5.setCell ⟨wb, 1, none⟩ (.int .i64 ((IntKind.i64.wrap (IntKind.i64.wrap ((a0 : Int) + 1) + (b0 : Int))).tmod 9))).drew = W2 := ⟨_, rfl⟩
  have HKw6 : Hid (w6.heap[wb]? = some (.cells #[.int .i64 (a0 : Int), .int .i64 ((IntKind.i64.wrap (IntKind.i64.wrap ((a0 : Int) + 1) + (b0 : Int))).tmod 9), .int .i64 0, .int .i64 0, .int .i64 0, .int .i64 0, .pointer none, .pointer none, .pointer none, .pointer none, .slice none 0 0, .pointer (some ⟨b1, 0, none⟩), .pointer (some ⟨b1 + 1, 0, none⟩), .slice none 0 0, .slice none 0 0, .int .i64 0] 48 (0, 0))) := by show _ = _; rw [← hW2]; exact C.block_set HKw5.out _
  have HScw6 : Hid (w6.heap[bs]? = some (.cells #[.int .i64 sA, .int .i64 sB, .int .u64 (L0 : Int), .int .u64 (L1 : Int), .int .i64 sW, .int .i64 sC, .slice op ol oc] 26 (0, 0))) := by show _ = _; rw [← hW2]; exact (Below.heap_setCell _ _ _ _ hne).trans HScw5.out
  have HBtw6 : Hid (C.But wb w4 w6) := by show C.But _ _ _; rw [← hW2]; exact (HBtw5.out.setCell (p := ⟨wb, 1, none⟩) (Or.inl rfl) _).drew
  rw [hW2]
  clear hW2 hb0
  obtain ⟨m1, hm1⟩ : ∃ m1 : Int, (IntKind.i64.wrap (IntKind.i64.wrap ((a0 : Int) + 1) + (b0 : Int))).tmod 9 = m1 := ⟨_, rfl⟩
  rw [hm1] at HKw6
  clear HWA HWB
  have z0 : IntKind.i64.wrap 0 = 0 := by rfl
  have z1 : IntKind.i64.wrap 1 = 1 := by rfl
  have HWW := hide (fun w => within_any w sW 16 (by omega) (by omega))
  obtain ⟨wn, hwn⟩ : ∃ wn : Nat, (sW % ((16 : Nat) : Int)).toNat = wn := ⟨_, rfl⟩
  have hw16 : wn < 16 := by omega
  rw [hwn] at HWW
  have HWC := hide (fun w => within_any w sC 64 (by omega) (by omega))
  obtain ⟨cn, hcn⟩ : ∃ cn : Nat, (sC % ((64 : Nat) : Int)).toNat = cn := ⟨_, rfl⟩
  have hc64 : cn < 64 := by omega
  rw [hcn] at HWC
  have hzw : IntKind.i64.wrap (1 + (wn : Int)) = ((wn + 1 : Nat) : Int) := by rw [IntKind.wrap_i64]; omega
  have hzc : IntKind.i64.wrap (1 + (cn : Int)) = ((cn + 1 : Nat) : Int) := by rw [IntKind.wrap_i64]; omega
  have HZw : Hid ((wn : Int) + 1 = ((wn + 1 : Nat) : Int)) := by show _ = _; omega
  have HZc : Hid ((cn : Int) + 1 = ((cn + 1 : Nat) : Int)) := by show _ = _; omega
  clear hwn hcn
  go_wp2_with fail
  refine wp_loop_rounds 3 ?_
  rw [rounds_succ]
  obtain ⟨p0, p1, p2, p3, p4, p5, p6, p7, p8, p9, pf⟩ := blk16 HKw6.out
  have hwl := C.lt_of_block HKw6.out
  obtain ⟨s0, s1, s2, s3, s4, s5, s6, -⟩ := blk7 HScw6.out
  have r0 : ∀ v, (w6.setCell ⟨wb, 2, none⟩ v).cell? ⟨bs, 4, none⟩ = some (.int .i64 sW) := fun v => (World.cell?_of_block (a := ⟨bs, 4, none⟩) (Below.heap_setCell _ _ _ _ hne)).trans s4
  go_upto_region 7 with (fail)
  go_region_held3 (fun w' => w'.cell? ⟨bs, 4, none⟩ = some (.int .i64 sW)) (go_keep) (first | (go_at_call 10; refine (HWW.out _).mono ?_; rintro e wx ⟨rfl, rfl⟩))
  clear p0 p1 p2 p3 p4 p5 p6 p7 p8 p9 pf s0 s1 s2 s3 s4 s5 s6 r0 hwl
  obtain ⟨w0a, hW2⟩ : ∃ W2, (w6.setCell ⟨wb, 2, none⟩ (.int .i64 ((wn : Int) + 1))).drew = W2 := ⟨_, rfl⟩
  have HKw0a : Hid (w0a.heap[wb]? = some (.cells #[.int .i64 (a0 : Int), .int .i64 m1, .int .i64 ((wn : Int) + 1), .int .i64 0, .int .i64 0, .int .i64 0, .pointer none, .pointer none, .pointer none, .pointer none, .slice none 0 0, .pointer (some ⟨b1, 0, none⟩), .pointer (some ⟨b1 + 1, 0, none⟩), .slice none 0 0, .slice none 0 0, .int .i64 0] 48 (0, 0))) := by show _ = _; rw [← hW2]; exact C.block_set HKw6.out _
  have HScw0a : Hid (w0a.heap[bs]? = some (.cells #[.int .i64 sA, .int .i64 sB, .int .u64 (L0 : Int), .int .u64 (L1 : Int), .int .i64 sW, .int .i64 sC, .slice op ol oc] 26 (0, 0))) := by show _ = _; rw [← hW2]; exact (Below.heap_setCell _ _ _ _ hne).trans HScw6.out
  have HBtw0a : Hid (C.But wb w4 w0a) := by show C.But _ _ _; rw [← hW2]; exact (HBtw6.out.setCell (p := ⟨wb, 2, none⟩) (Or.inl rfl) _).drew
  rw [hW2]
  rw [HZw.out] at HKw0a
  clear hW2
  obtain ⟨p0, p1, p2, p3, p4, p5, p6, p7, p8, p9, pf⟩ := blk16 HKw0a.out
  have hwl := C.lt_of_block HKw0a.out
  obtain ⟨s0, s1, s2, s3, s4, s5, s6, -⟩ := blk7 HScw0a.out
  have r0 : ∀ v, (w0a.setCell ⟨wb, 4, none⟩ v).cell? ⟨bs, 5, none⟩ = some (.int .i64 sC) := fun v => (World.cell?_of_block (a := ⟨bs, 5, none⟩) (Below.heap_setCell _ _ _ _ hne)).trans s5
  go_upto_region 8 with (fail)
  go_region_held3 (fun w' => w'.cell? ⟨bs, 5, none⟩ = some (.int .i64 sC)) (go_keep) (first | (go_at_call 10; refine (HWC.out _).mono ?_; rintro e wx ⟨rfl, rfl⟩))
  clear p0 p1 p2 p3 p4 p5 p6 p7 p8 p9 pf s0 s1 s2 s3 s4 s5 s6 r0 hwl
  obtain ⟨w0b, hW2⟩ : ∃ W2, (w0a.setCell ⟨wb, 4, none⟩ (.int .i64 ((cn : Int) + 1))).drew = W2 := ⟨_, rfl⟩
  have HKw0b : Hid (w0b.heap[wb]? = some (.cells #[.int .i64 (a0 : Int), .int .i64 m1, .int .i64 ((wn + 1 : Nat) : Int), .int .i64 0, .int .i64 ((cn : Int) + 1), .int .i64 0, .pointer none, .pointer none, .pointer none, .pointer none, .slice none 0 0, .pointer (some ⟨b1, 0, none⟩), .pointer (some ⟨b1 + 1, 0, none⟩), .slice none 0 0, .slice none 0 0, .int .i64 0] 48 (0, 0))) := by show _ = _; rw [← hW2]; exact C.block_set HKw0a.out _
  have HScw0b : Hid (w0b.heap[bs]? = some (.cells #[.int .i64 sA, .int .i64 sB, .int .u64 (L0 : Int), .int .u64 (L1 : Int), .int .i64 sW, .int .i64 sC, .slice op ol oc] 26 (0, 0))) := by show _ = _; rw [← hW2]; exact (Below.heap_setCell _ _ _ _ hne).trans HScw0a.out
  have HBtw0b : Hid (C.But wb w4 w0b) := by show C.But _ _ _; rw [← hW2]; exact (HBtw0a.out.setCell (p := ⟨wb, 4, none⟩) (Or.inl rfl) _).drew
  rw [hW2]
  rw [HZc.out] at HKw0b
  clear hW2
  obtain ⟨s0, s1, s2, s3, s4, s5, s6, -⟩ := blk7 HScw0b.out
  have HLf := hide (fun w => lifeN_any w L0)
  have HLv := hide (livesR0 w0b wb (1 + L0 % 1099511627776) (wn + 1) 0 (cn + 1) 0 (a0 : Int) m1 _ _ _ _ _ _ _ _ _ _ HKw0b.out (by omega) (by omega))
  go_wp2_with fail
  refine (HLf.out _).mono ?_
  rintro e wx ⟨rfl, hx⟩
  obtain rfl := hx.symm
  go_wp2_with fail
  refine HLv.out.mono ?_
  rintro e w0c ⟨rfl, bl0, bk0, hl0a, hl0b, hlb0, hdb0, hkb, hbt⟩
  have HKw0c : Hid (w0c.heap[wb]? = some (.cells #[.int .i64 (a0 : Int), .int .i64 m1, .int .i64 ((wn + 1 : Nat) : Int), .int .i64 0, .int .i64 ((cn + 1 : Nat) : Int), .int .i64 0, .pointer (some ⟨bl0, 0, none⟩), .pointer none, .pointer (some ⟨bk0, 0, none⟩), .pointer none, .slice none 0 0, .pointer (some ⟨b1, 0, none⟩), .pointer (some ⟨b1 + 1, 0, none⟩), .slice none 0 0, .slice none 0 0, .int .i64 0] 48 (0, 0))) := hkb
  have HScw0c : Hid (w0c.heap[bs]? = some (.cells #[.int .i64 sA, .int .i64 sB, .int .u64 (L0 : Int), .int .u64 (L1 : Int), .int .i64 sW, .int .i64 sC, .slice op ol oc] 26 (0, 0))) := (hbt.block bs (C.lt_of_block HScw0b.out) hne).trans HScw0b.out
  have HBtw0c := hide (HBtw0b.out.trans hbt)
  have HLb0 := hide hlb0
  have HDb0 := hide hdb0
  have HZ0 : Hid (wb + 1 ≤ w0b.heap.size) := by have := HBtw0b.out.size; have := HS4.out; show _ ≤ _; omega
  have HBw0 := hide hbt
  have HChw0c : Hid (C.But wb w0c w0c) := C.But.refl wb w0c
  clear hlb0 hdb0 hkb hbt HLf HLv s0 s1 s2 s3 s4 s5 s6 
  go_wp2_with fail
  rw [rounds_succ]
  obtain ⟨p0, p1, p2, p3, p4, p5, p6, p7, p8, p9, pf⟩ := blk16 HKw0c.out
  have hwl := C.lt_of_block HKw0c.out
  obtain ⟨s0, s1, s2, s3, s4, s5, s6, -⟩ := blk7 HScw0c.out
  have r0 : ∀ v, (w0c.setCell ⟨wb, 3, none⟩ v).cell? ⟨bs, 4, none⟩ = some (.int .i64 sW) := fun v => (World.cell?_of_block (a := ⟨bs, 4, none⟩) (Below.heap_setCell _ _ _ _ hne)).trans s4
  go_upto_region 7 with (fail)
  go_region_held3 (fun w' => w'.cell? ⟨bs, 4, none⟩ = some (.int .i64 sW)) (go_keep) (first | (go_at_call 10; refine (HWW.out _).mono ?_; rintro e wx ⟨rfl, rfl⟩))
  clear p0 p1 p2 p3 p4 p5 p6 p7 p8 p9 pf s0 s1 s2 s3 s4 s5 s6 r0 hwl
  obtain ⟨w1a, hW2⟩ : ∃ W2, (w0c.setCell ⟨wb, 3, none⟩ (.int .i64 ((wn : Int) + 1))).drew = W2 := ⟨_, rfl⟩
  have HKw1a : Hid (w1a.heap[wb]? = some (.cells #[.int .i64 (a0 : Int), .int .i64 m1, .int .i64 ((wn + 1 : Nat) : Int), .int .i64 ((wn : Int) + 1), .int .i64 ((cn + 1 : Nat) : Int), .int .i64 0, .pointer (some ⟨bl0, 0, none⟩), .pointer none, .pointer (some ⟨bk0, 0, none⟩), .pointer none, .slice none 0 0, .pointer (some ⟨b1, 0, none⟩), .pointer (some ⟨b1 + 1, 0, none⟩), .slice none 0 0, .slice none 0 0, .int .i64 0] 48 (0, 0))) := by show _ = _; rw [← hW2]; exact C.block_set HKw0c.out _
  have HScw1a : Hid (w1a.heap[bs]? = some (.cells #[.int .i64 sA, .int .i64 sB, .int .u64 (L0 : Int), .int .u64 (L1 : Int), .int .i64 sW, .int .i64 sC, .slice op ol oc] 26 (0, 0))) := by show _ = _; rw [← hW2]; exact (Below.heap_setCell _ _ _ _ hne).trans HScw0c.out
  have HBtw1a : Hid (C.But wb w4 w1a) := by show C.But _ _ _; rw [← hW2]; exact (HBtw0c.out.setCell (p := ⟨wb, 3, none⟩) (Or.inl rfl) _).drew
  have HChw1a : Hid (C.But wb w0c w1a) := by show C.But _ _ _; rw [← hW2]; exact (HChw0c.out.setCell (p := ⟨wb, 3, none⟩) (Or.inl rfl) _).drew
  rw [hW2]
  rw [HZw.out] at HKw1a
  clear hW2
  obtain ⟨p0, p1, p2, p3, p4, p5, p6, p7, p8, p9, pf⟩ := blk16 HKw1a.out
  have hwl := C.lt_of_block HKw1a.out
  obtain ⟨s0, s1, s2, s3, s4, s5, s6, -⟩ := blk7 HScw1a.out
  have r0 : ∀ v, (w1a.setCell ⟨wb, 5, none⟩ v).cell? ⟨bs, 5, none⟩ = some (.int .i64 sC) := fun v => (World.cell?_of_block (a := ⟨bs, 5, none⟩) (Below.heap_setCell _ _ _ _ hne)).trans s5
  go_upto_region 8 with (fail)
  go_region_held3 (fun w' => w'.cell? ⟨bs, 5, none⟩ = some (.int .i64 sC)) (go_keep) (first | (go_at_call 10; refine (HWC.out _).mono ?_; rintro e wx ⟨rfl, rfl⟩))
  clear p0 p1 p2 p3 p4 p5 p6 p7 p8 p9 pf s0 s1 s2 s3 s4 s5 s6 r0 hwl
  obtain ⟨w1b, hW2⟩ : ∃ W2, (w1a.setCell ⟨wb, 5, none⟩ (.int .i64 ((cn : Int) + 1))).drew = W2 := ⟨_, rfl⟩
  have HKw1b : Hid (w1b.heap[wb]? = some (.cells #[.int .i64 (a0 : Int), .int .i64 m1, .int .i64 ((wn + 1 : Nat) : Int), .int .i64 ((wn + 1 : Nat) : Int), .int .i64 ((cn + 1 : Nat) : Int), .int .i64 ((cn : Int) + 1), .pointer (some ⟨bl0, 0, none⟩), .pointer none, .pointer (some ⟨bk0, 0, none⟩), .pointer none, .slice none 0 0, .pointer (some ⟨b1, 0, none⟩), .pointer (some ⟨b1 + 1, 0, none⟩), .slice none 0 0, .slice none 0 0, .int .i64 0] 48 (0, 0))) := by show _ = _; rw [← hW2]; exact C.block_set HKw1a.out _
  have HScw1b : Hid (w1b.heap[bs]? = some (.cells #[.int .i64 sA, .int .i64 sB, .int .u64 (L0 : Int), .int .u64 (L1 : Int), .int .i64 sW, .int .i64 sC, .slice op ol oc] 26 (0, 0))) := by show _ = _; rw [← hW2]; exact (Below.heap_setCell _ _ _ _ hne).trans HScw1a.out
  have HBtw1b : Hid (C.But wb w4 w1b) := by show C.But _ _ _; rw [← hW2]; exact (HBtw1a.out.setCell (p := ⟨wb, 5, none⟩) (Or.inl rfl) _).drew
  have HChw1b : Hid (C.But wb w0c w1b) := by show C.But _ _ _; rw [← hW2]; exact (HChw1a.out.setCell (p := ⟨wb, 5, none⟩) (Or.inl rfl) _).drew
  rw [hW2]
  rw [HZc.out] at HKw1b
  clear hW2
  obtain ⟨s0, s1, s2, s3, s4, s5, s6, -⟩ := blk7 HScw1b.out
  have HLf := hide (fun w => lifeN_any w L1)
  have HLv := hide (livesR1 w1b wb (1 + L1 % 1099511627776) (wn + 1) (wn + 1) (cn + 1) (cn + 1) (a0 : Int) m1 _ _ _ _ _ _ _ _ _ _ HKw1b.out (by omega) (by omega))
  go_wp2_with fail
  refine (HLf.out _).mono ?_
  rintro e wx ⟨rfl, hx⟩
  obtain rfl := hx.symm
  go_wp2_with fail
  refine HLv.out.mono ?_
  rintro e w1c ⟨rfl, bl1, bk1, hl1a, hl1b, hlb1, hdb1, hkb, hbt⟩
  have HKw1c : Hid (w1c.heap[wb]? = some (.cells #[.int .i64 (a0 : Int), .int .i64 m1, .int .i64 ((wn + 1 : Nat) : Int), .int .i64 ((wn + 1 : Nat) : Int), .int .i64 ((cn + 1 : Nat) : Int), .int .i64 ((cn + 1 : Nat) : Int), .pointer (some ⟨bl0, 0, none⟩), .pointer (some ⟨bl1, 0, none⟩), .pointer (some ⟨bk0, 0, none⟩), .pointer (some ⟨bk1, 0, none⟩), .slice none 0 0, .pointer (some ⟨b1, 0, none⟩), .pointer (some ⟨b1 + 1, 0, none⟩), .slice none 0 0, .slice none 0 0, .int .i64 0] 48 (0, 0))) := hkb
  have HScw1c : Hid (w1c.heap[bs]? = some (.cells #[.int .i64 sA, .int .i64 sB, .int .u64 (L0 : Int), .int .u64 (L1 : Int), .int .i64 sW, .int .i64 sC, .slice op ol oc] 26 (0, 0))) := (hbt.block bs (C.lt_of_block HScw1b.out) hne).trans HScw1b.out
  have HBtw1c := hide (HBtw1b.out.trans hbt)
  have HLb1 := hide hlb1
  have HDb1 := hide hdb1
  have HZ1 : Hid (wb + 1 ≤ w1b.heap.size) := by have := HBtw1b.out.size; have := HS4.out; show _ ≤ _; omega
  have HBw1 := hide hbt
  have HChw1c := hide (HChw1b.out.trans hbt)
  clear hlb1 hdb1 hkb hbt HLf HLv s0 s1 s2 s3 s4 s5 s6 
  go_wp2_with fail
  rw [rounds_succ]
  go_wp2
  go_ret
  obtain ⟨K, hK⟩ : ∃ K : Knd, K = fun g => if g < w.heap.size then (0, 0) else if g = b1 then (5, 1) else if g = b1 + 1 then (6, 0) else if g = wb then (8, 0) else if g = bl0 then (1, 0) else if g = bk0 then (3, 0) else if g = bl1 then (1, 1) else if g = bk1 then (3, 1) else (9, 9) := ⟨_, rfl⟩
  have hbs := HBs.out
  have hb1 := HB1.out
  have hwb := HWbe.out
  have z0 := HZ0.out
  have z1 := HZ1.out
  have hl0 := HLb0.out
  have hd0 := HDb0.out
  have hlt0 : bl0 < w0c.heap.size := C.lt_of_block hl0
  have hlt1 : bk0 < w0c.heap.size := C.lt_of_block hd0
  have hsz := HChw1b.out.size
  have kz : ∀ x, x < w.heap.size → K x = (0, 0) := fun x hx => by rw [hK]; simp [hx]
  have kb1 : K b1 = (5, 1) := by rw [hK]; have g1 : ¬ b1 < w.heap.size := by omega
                                 simp [g1]
  have kb2 : K (b1 + 1) = (6, 0) := by rw [hK]; have g1 : ¬ b1 + 1 < w.heap.size := by omega
                                       simp [g1]
  have kwb : K wb = (8, 0) := by rw [hK]; have g1 : ¬ wb < w.heap.size := by omega
                                 have g2 : wb ≠ b1 := by omega
                                 have g3 : wb ≠ b1 + 1 := by omega
                                 simp [g1, g2, g3]
  have kl0 : K bl0 = (1, 0) := by rw [hK]; have g1 : ¬ bl0 < w.heap.size := by omega
                                  have g2 : bl0 ≠ b1 := by omega
                                  have g3 : bl0 ≠ b1 + 1 := by omega
                                  have g4 : bl0 ≠ wb := by omega
                                  simp [g1, g2, g3, g4]
  have kk0 : K bk0 = (3, 0) := by rw [hK]; have g1 : ¬ bk0 < w.heap.size := by omega
                                  have g2 : bk0 ≠ b1 := by omega
                                  have g3 : bk0 ≠ b1 + 1 := by omega
                                  have g4 : bk0 ≠ wb := by omega
                                  have g5 : bk0 ≠ bl0 := by omega
                                  simp [g1, g2, g3, g4, g5]
  have kl1 : K bl1 = (1, 1) := by rw [hK]; have g1 : ¬ bl1 < w.heap.size := by omega
                                  have g2 : bl1 ≠ b1 := by omega
                                  have g3 : bl1 ≠ b1 + 1 := by omega
                                  have g4 : bl1 ≠ wb := by omega
                                  have g5 : bl1 ≠ bl0 := by omega
                                  have g6 : bl1 ≠ bk0 := by omega
                                  simp [g1, g2, g3, g4, g5, g6]
  have kk1 : K bk1 = (3, 1) := by rw [hK]; have g1 : ¬ bk1 < w.heap.size := by omega
                                  have g2 : bk1 ≠ b1 := by omega
                                  have g3 : bk1 ≠ b1 + 1 := by omega
                                  have g4 : bk1 ≠ wb := by omega
                                  have g5 : bk1 ≠ bl0 := by omega
                                  have g6 : bk1 ≠ bk0 := by omega
                                  have g7 : bk1 ≠ bl1 := by omega
                                  simp [g1, g2, g3, g4, g5, g6, g7]
  have hBt := HBtw1c.out
  have hCh := HChw1c.out
  have m : Kp (fun q => q = (8, 0)) K K w4 w1c := ⟨hBt.os, hBt.tape, hBt.output, hBt.size, fun _ _ => rfl, fun x hx hn => hBt.block x hx (fun e => hn (by rw [e]; exact kwb))⟩
  have hbel := m.below HBel.out (fun x hx => by rw [kz x hx]; simp)
  have hl0' : Lb w1c bl0 _ _ := hl0.kept (hCh.block bl0 hlt0 (by omega))
  have hd0' : Db w1c bk0 _ _ _ _ := hd0.kept (hCh.block bk0 hlt1 (by omega))
  have hS4 := HS4.out
  have dk : ∀ (bk : Nat) (m0 m1 : Int) (n : Nat) (kd kb : Nat × Nat), Db w1c bk (Lk.new m0 m1 n ((wn + 1 : Nat) : Int) ((cn + 1 : Nat) : Int)) (.slice none 0 0) (cn + 1) 0 → K bk = kd → Dk w1c K kd kb bk (Lk.new m0 m1 n ((wn + 1 : Nat) : Int) ((cn + 1 : Nat) : Int)) (.slice none 0 0) ((cn + 1 : Nat) : Int).toNat 0 := fun bk m0 m1 n kd kb hd hk => by
    have hif : 1 ≤ ((cn + 1 : Nat) : Int) ∧ ((cn + 1 : Nat) : Int) ≤ 64 := by omega
    refine ⟨hd, hk, ⟨[], ⟨rfl, Or.inl ⟨rfl, rfl⟩⟩, fun j x hx => by simp [Lk.new] at hx⟩, fun g hg => by simp [Value.ownBlock] at hg, ⟨fun j x hx => by simp [Lk.new] at hx, Nat.zero_le _⟩, ?_⟩
    refine ⟨?_, by omega, by omega, rfl, ?_⟩
    · show (if 1 ≤ ((cn + 1 : Nat) : Int) ∧ ((cn + 1 : Nat) : Int) ≤ 64 then some ((cn + 1 : Nat) : Int).toNat else none) = _
      rw [if_pos hif]
    · show (if 1 ≤ ((cn + 1 : Nat) : Int) ∧ ((cn + 1 : Nat) : Int) ≤ 64 then 1 else 0) = _
      rw [if_pos hif]; rfl
  refine ⟨wb, rfl, K, ⟨(a0 : Int), m1, ((wn + 1 : Nat) : Int), ((wn + 1 : Nat) : Int), ((cn + 1 : Nat) : Int), ((cn + 1 : Nat) : Int), bl0, bl1, bk0, bk1, .slice none 0 0, b1, b1 + 1, 0⟩, _, _, [], 0, 0, ⟨hbel, kz, HTb.out, Or.inl ⟨HKw1c.out, kwb⟩, ⟨_, lx_new hl0' kl0⟩, ⟨_, lx_new HLb1.out kl1⟩, ⟨_, 0, dk _ _ _ _ _ _ hd0' kk0, Nat.le_refl _⟩, ⟨_, 0, dk _ _ _ _ _ _ HDb1.out kk1, Nat.le_refl _⟩, rk_nil _ _ _ _ _, fun e he => by simp at he, ⟨_, _, [], late_nil ((hBt.block (b1 + 1) (by omega) (by omega)).trans HLt.out) kb2, rfl⟩, ⟨_, _, _, 0, 0, [], [], V.bz_empty ((hBt.block b1 (by omega) (by omega)).trans HBk.out) kb1, Nat.le_refl _⟩, fun e he => by simp at he⟩, ?_⟩
  have hw : ∀ (m0 m1 : Int) (n : Nat), (Lk.new m0 m1 n ((wn + 1 : Nat) : Int) ((cn + 1 : Nat) : Int)).window ≤ 16 := fun m0 m1 n => by simp only [Lk.new]; omega
  exact ⟨rn_new _ _ _ _ _, rn_new _ _ _ _ _, hw _ _ _, hw _ _ _, Nat.le_refl _, Nat.le_refl _, Nat.le_refl _, Nat.le_refl _, ⟨by show (0 : Int) ≤ ((wn + 1 : Nat) : Int); omega, by show ((wn + 1 : Nat) : Int) ≤ 16; omega⟩, ⟨by show (0 : Int) ≤ ((wn + 1 : Nat) : Int); omega, by show ((wn + 1 : Nat) : Int) ≤ 16; omega⟩, ⟨by show (1 : Int) ≤ ((cn + 1 : Nat) : Int); omega, by show ((cn + 1 : Nat) : Int) ≤ 64; omega⟩, ⟨by show (1 : Int) ≤ ((cn + 1 : Nat) : Int); omega, by show ((cn + 1 : Nat) : Int) ≤ 64; omega⟩⟩
end Go.Proofs.YtjcdnclfakmbpaaGreatDoor
