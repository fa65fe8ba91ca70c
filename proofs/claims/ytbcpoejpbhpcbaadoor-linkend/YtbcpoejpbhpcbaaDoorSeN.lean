import Derived.Test.YtbcpoejpbhpcbaaDoorEnG
namespace Go.Proofs.YtbcpoejpbhpcbaaDoor
open Go.RowKit

theorem sblk5 {w : World} {b : Nat} {x0 x1 x2 x3 x4 : Value} {t : TypeId} (h : w.heap[b]? = some (.cells #[x0, x1, x2, x3, x4] t (0, 0))) :
    w.cell? ⟨b, 0, none⟩ = some x0 ∧ w.cell? ⟨b, 1, none⟩ = some x1 ∧ w.cell? ⟨b, 2, none⟩ = some x2 ∧ w.cell? ⟨b, 3, none⟩ = some x3 ∧ w.cell? ⟨b, 4, none⟩ = some x4 ∧ (∀ o, w.frozen? ⟨b, o, none⟩ = false) :=
  ⟨by simp [World.cell?, h], by simp [World.cell?, h], by simp [World.cell?, h], by simp [World.cell?, h], by simp [World.cell?, h], fun o => by simp [World.frozen?, h]⟩
/-- The pair, behind k steps. -/
def Ps (w wr : World) (pb W M k : Nat) : Prop := ∃ K l0 l1 b0 b1 sv s0 s1 A B ra rb S T es, Pm w wr K pb W M l0 l1 b0 b1 sv s0 s1 A B ra rb S T es ∧ Pd W M l0 l1 A B S T es k ∧ Pe W M l0 l1 A B S T es
set_option maxRecDepth 100000 in
set_option maxHeartbeats 4000000 in
set_option linter.unusedVariables false in
theorem step_tick0 (w wr : World) (K : Knd) (pb W M l0 l1 b0 b1 : Nat) (sv s0 s1 : Value) (A B : Lk) (ra rb : Value) (S T : List Sm) (es : List Fe) (k : Nat) (h : Pm w wr K pb W M l0 l1 b0 b1 sv s0 s1 A B ra rb S T es) (hd : Pd W M l0 l1 A B S T es k) (hpe : Pe W M l0 l1 A B S T es) (hk : k ≤ 19999) (on pick more : Int) (bp : Option Addr) (nb bc : Nat) (hon : bits .and .i64 on 1 = 0) :
    Calls Tryd.prog 7 #[.pointer (some ⟨pb, 0, none⟩), .agg #[.int .i64 2, .int .i64 on, .slice bp nb bc, .int .i64 pick, .int .i64 more]] wr fun e w' => e = .returned (.bool true) ∧ Ps w w' pb W M (k + 1) := by
  obtain ⟨w1, hw1⟩ : ∃ w1, wr.alloc (.cells #[.int .i64 2, .int .i64 on, .slice bp nb bc, .int .i64 pick, .int .i64 more] 31) = w1 := ⟨_, rfl⟩
  have hb1 : Below wr.heap.size wr w1 := by rw [← hw1]; exact (Below.refl _ _).alloc (Nat.le_refl _) _
  have hk1 : w1.heap[wr.heap.size]? = some (.cells #[.int .i64 2, .int .i64 on, .slice bp nb bc, .int .i64 pick, .int .i64 more] 31 (0, 0)) := by rw [← hw1]; exact heap_alloc_new _ _
  have HP1 := hide (h.below hb1 (9, 9))
  have HKx : Hid (ext K wr.heap.size (9, 9) wr.heap.size = (9, 9)) := ext_new _ _ (Nat.le_refl _)
  generalize ext K wr.heap.size (9, 9) = K1 at *
  obtain ⟨x0, x1, x2, x3, x4, xf⟩ := sblk5 hk1
  have hob := C.lt_of_block hk1
  have HX1 := hide hk1
  have HW1 := hide hw1
  have HB1 := hide hb1
  have HD := hide hd
  have HE := hide hpe
  obtain ⟨p0, p1, p2, p3, p4, p5, p6, p7, p8, pf, hpb⟩ := HP1.out.pk.cells
  clear hk1 hw1 hb1 h hd hpe
  have HT := hide (tickP0 w w1 K1 pb W M l0 l1 b0 b1 sv s0 s1 A B ra rb S T es k HP1.out HD.out (by omega))
  go_enter Tryd.func7, Tryd.ntmps7
  go_upto_region 1 with (fail)
  rw [HW1.out]
  go_wp2_with fail
  refine HT.out.mono ?_
  rintro e w2 ⟨rfl, sv', K', fs, hfs, hpm⟩
  have HPm := hide hpm
  have HPd := hide (HD.out.tick0 (by omega) hfs)
  have HPe := hide (HE.out.tick0 HD.out hfs)
  clear hpm hfs HT
  go_wp2
  go_ret
  exact ⟨rfl, _, _, _, _, _, _, _, _, _, _, _, _, _, _, _, HPm.out, HPd.out, HPe.out⟩
set_option maxRecDepth 100000 in
set_option maxHeartbeats 4000000 in
set_option linter.unusedVariables false in
theorem step_tick1 (w wr : World) (K : Knd) (pb W M l0 l1 b0 b1 : Nat) (sv s0 s1 : Value) (A B : Lk) (ra rb : Value) (S T : List Sm) (es : List Fe) (k : Nat) (h : Pm w wr K pb W M l0 l1 b0 b1 sv s0 s1 A B ra rb S T es) (hd : Pd W M l0 l1 A B S T es k) (hpe : Pe W M l0 l1 A B S T es) (hk : k ≤ 19999) (on pick more : Int) (bp : Option Addr) (nb bc : Nat) (hon : bits .and .i64 on 1 = 1) :
    Calls Tryd.prog 7 #[.pointer (some ⟨pb, 0, none⟩), .agg #[.int .i64 2, .int .i64 on, .slice bp nb bc, .int .i64 pick, .int .i64 more]] wr fun e w' => e = .returned (.bool true) ∧ Ps w w' pb W M (k + 1) := by
  obtain ⟨w1, hw1⟩ : ∃ w1, wr.alloc (.cells #[.int .i64 2, .int .i64 on, .slice bp nb bc, .int .i64 pick, .int .i64 more] 31) = w1 := ⟨_, rfl⟩
  have hb1 : Below wr.heap.size wr w1 := by rw [← hw1]; exact (Below.refl _ _).alloc (Nat.le_refl _) _
  have hk1 : w1.heap[wr.heap.size]? = some (.cells #[.int .i64 2, .int .i64 on, .slice bp nb bc, .int .i64 pick, .int .i64 more] 31 (0, 0)) := by rw [← hw1]; exact heap_alloc_new _ _
  have HP1 := hide (h.below hb1 (9, 9))
  have HKx : Hid (ext K wr.heap.size (9, 9) wr.heap.size = (9, 9)) := ext_new _ _ (Nat.le_refl _)
  generalize ext K wr.heap.size (9, 9) = K1 at *
  obtain ⟨x0, x1, x2, x3, x4, xf⟩ := sblk5 hk1
  have hob := C.lt_of_block hk1
  have HX1 := hide hk1
  have HW1 := hide hw1
  have HB1 := hide hb1
  have HD := hide hd
  have HE := hide hpe
  obtain ⟨p0, p1, p2, p3, p4, p5, p6, p7, p8, pf, hpb⟩ := HP1.out.pk.cells
  clear hk1 hw1 hb1 h hd hpe
  have HT := hide (tickP1 w w1 K1 pb W M l0 l1 b0 b1 sv s0 s1 A B ra rb S T es k HP1.out HD.out (by omega))
  go_enter Tryd.func7, Tryd.ntmps7
  go_upto_region 1 with (fail)
  rw [HW1.out]
  go_wp2_with fail
  refine HT.out.mono ?_
  rintro e w2 ⟨rfl, sv', K', fs, hfs, hpm⟩
  have HPm := hide hpm
  have HPd := hide (HD.out.tick1 (by omega) hfs)
  have HPe := hide (HE.out.tick1 HD.out hfs)
  clear hpm hfs HT
  go_wp2
  go_ret
  exact ⟨rfl, _, _, _, _, _, _, _, _, _, _, _, _, _, _, _, HPm.out, HPd.out, HPe.out⟩
set_option maxRecDepth 100000 in
set_option maxHeartbeats 4000000 in
set_option linter.unusedVariables false in
theorem step_owe0 (w wr : World) (K : Knd) (pb W M l0 l1 b0 b1 : Nat) (sv s0 s1 : Value) (A B : Lk) (ra rb : Value) (S T : List Sm) (es : List Fe) (k : Nat) (h : Pm w wr K pb W M l0 l1 b0 b1 sv s0 s1 A B ra rb S T es) (hd : Pd W M l0 l1 A B S T es k) (hpe : Pe W M l0 l1 A B S T es) (hk : k ≤ 19999) (on pick more : Int) (bp : Option Addr) (nb bc : Nat) (hon : bits .and .i64 on 1 = 0) :
    Calls Tryd.prog 7 #[.pointer (some ⟨pb, 0, none⟩), .agg #[.int .i64 6, .int .i64 on, .slice bp nb bc, .int .i64 pick, .int .i64 more]] wr fun e w' => e = .returned (.bool true) ∧ Ps w w' pb W M (k + 1) := by
  obtain ⟨w1, hw1⟩ : ∃ w1, wr.alloc (.cells #[.int .i64 6, .int .i64 on, .slice bp nb bc, .int .i64 pick, .int .i64 more] 31) = w1 := ⟨_, rfl⟩
  have hb1 : Below wr.heap.size wr w1 := by rw [← hw1]; exact (Below.refl _ _).alloc (Nat.le_refl _) _
  have hk1 : w1.heap[wr.heap.size]? = some (.cells #[.int .i64 6, .int .i64 on, .slice bp nb bc, .int .i64 pick, .int .i64 more] 31 (0, 0)) := by rw [← hw1]; exact heap_alloc_new _ _
  have HP1 := hide (h.below hb1 (9, 9))
  have HKx : Hid (ext K wr.heap.size (9, 9) wr.heap.size = (9, 9)) := ext_new _ _ (Nat.le_refl _)
  generalize ext K wr.heap.size (9, 9) = K1 at *
  obtain ⟨x0, x1, x2, x3, x4, xf⟩ := sblk5 hk1
  have hob := C.lt_of_block hk1
  have HX1 := hide hk1
  have HW1 := hide hw1
  have HB1 := hide hb1
  have HD := hide hd
  have HE := hide hpe
  obtain ⟨p0, p1, p2, p3, p4, p5, p6, p7, p8, pf, hpb⟩ := HP1.out.pk.cells
  clear hk1 hw1 hb1 h hd hpe
  have HO := hide (owe_any w1 b0 A ra HP1.out.lq0.lw.lb)
  go_enter Tryd.func7, Tryd.ntmps7
  go_upto_region 1 with (fail)
  rw [HW1.out]
  go_wp2_with fail
  refine HO.out.mono ?_
  rintro e w2 ⟨rfl, hl, honl⟩
  have HPm := hide (HP1.out.turn0 (K' := K1) (HP1.out.lq0.lw.but honl.but hl rfl) (Tw.of honl.but) (fun _ _ => rfl) (fun g hg => Or.inl hg))
  have HPd := hide HD.out.owe0
  have HPe := hide HE.out.owe0
  clear hl honl HO
  go_wp2
  go_ret
  exact ⟨rfl, _, _, _, _, _, _, _, _, _, _, _, _, _, _, _, HPm.out, HPd.out, HPe.out⟩
set_option maxRecDepth 100000 in
set_option maxHeartbeats 4000000 in
set_option linter.unusedVariables false in
theorem step_owe1 (w wr : World) (K : Knd) (pb W M l0 l1 b0 b1 : Nat) (sv s0 s1 : Value) (A B : Lk) (ra rb : Value) (S T : List Sm) (es : List Fe) (k : Nat) (h : Pm w wr K pb W M l0 l1 b0 b1 sv s0 s1 A B ra rb S T es) (hd : Pd W M l0 l1 A B S T es k) (hpe : Pe W M l0 l1 A B S T es) (hk : k ≤ 19999) (on pick more : Int) (bp : Option Addr) (nb bc : Nat) (hon : bits .and .i64 on 1 = 1) :
    Calls Tryd.prog 7 #[.pointer (some ⟨pb, 0, none⟩), .agg #[.int .i64 6, .int .i64 on, .slice bp nb bc, .int .i64 pick, .int .i64 more]] wr fun e w' => e = .returned (.bool true) ∧ Ps w w' pb W M (k + 1) := by
  obtain ⟨w1, hw1⟩ : ∃ w1, wr.alloc (.cells #[.int .i64 6, .int .i64 on, .slice bp nb bc, .int .i64 pick, .int .i64 more] 31) = w1 := ⟨_, rfl⟩
  have hb1 : Below wr.heap.size wr w1 := by rw [← hw1]; exact (Below.refl _ _).alloc (Nat.le_refl _) _
  have hk1 : w1.heap[wr.heap.size]? = some (.cells #[.int .i64 6, .int .i64 on, .slice bp nb bc, .int .i64 pick, .int .i64 more] 31 (0, 0)) := by rw [← hw1]; exact heap_alloc_new _ _
  have HP1 := hide (h.below hb1 (9, 9))
  have HKx : Hid (ext K wr.heap.size (9, 9) wr.heap.size = (9, 9)) := ext_new _ _ (Nat.le_refl _)
  generalize ext K wr.heap.size (9, 9) = K1 at *
  obtain ⟨x0, x1, x2, x3, x4, xf⟩ := sblk5 hk1
  have hob := C.lt_of_block hk1
  have HX1 := hide hk1
  have HW1 := hide hw1
  have HB1 := hide hb1
  have HD := hide hd
  have HE := hide hpe
  obtain ⟨p0, p1, p2, p3, p4, p5, p6, p7, p8, pf, hpb⟩ := HP1.out.pk.cells
  clear hk1 hw1 hb1 h hd hpe
  have HO := hide (owe_any w1 b1 B rb HP1.out.lq1.lw.lb)
  go_enter Tryd.func7, Tryd.ntmps7
  go_upto_region 1 with (fail)
  rw [HW1.out]
  go_wp2_with fail
  refine HO.out.mono ?_
  rintro e w2 ⟨rfl, hl, honl⟩
  have HPm := hide (HP1.out.turn1 (K' := K1) (HP1.out.lq1.lw.but honl.but hl rfl) (Tw.of honl.but) (fun _ _ => rfl) (fun g hg => Or.inl hg))
  have HPd := hide HD.out.owe1
  have HPe := hide HE.out.owe1
  clear hl honl HO
  go_wp2
  go_ret
  exact ⟨rfl, _, _, _, _, _, _, _, _, _, _, _, _, _, _, _, HPm.out, HPd.out, HPe.out⟩
set_option maxRecDepth 100000 in
set_option maxHeartbeats 4000000 in
set_option linter.unusedVariables false in
theorem step_life0 (w wr : World) (K : Knd) (pb W M l0 l1 b0 b1 : Nat) (sv s0 s1 : Value) (A B : Lk) (ra rb : Value) (S T : List Sm) (es : List Fe) (k : Nat) (h : Pm w wr K pb W M l0 l1 b0 b1 sv s0 s1 A B ra rb S T es) (hd : Pd W M l0 l1 A B S T es k) (hpe : Pe W M l0 l1 A B S T es) (hk : k ≤ 19999) (on pick more : Int) (bp : Option Addr) (nb bc : Nat) (hon : bits .and .i64 on 1 = 0) :
    Calls Tryd.prog 7 #[.pointer (some ⟨pb, 0, none⟩), .agg #[.int .i64 5, .int .i64 on, .slice bp nb bc, .int .i64 pick, .int .i64 more]] wr fun e w' => e = .returned (.bool true) ∧ Ps w w' pb W M (k + 1) := by
  obtain ⟨w1, hw1⟩ : ∃ w1, wr.alloc (.cells #[.int .i64 5, .int .i64 on, .slice bp nb bc, .int .i64 pick, .int .i64 more] 31) = w1 := ⟨_, rfl⟩
  have hb1 : Below wr.heap.size wr w1 := by rw [← hw1]; exact (Below.refl _ _).alloc (Nat.le_refl _) _
  have hk1 : w1.heap[wr.heap.size]? = some (.cells #[.int .i64 5, .int .i64 on, .slice bp nb bc, .int .i64 pick, .int .i64 more] 31 (0, 0)) := by rw [← hw1]; exact heap_alloc_new _ _
  have HP1 := hide (h.below hb1 (9, 9))
  have HKx : Hid (ext K wr.heap.size (9, 9) wr.heap.size = (9, 9)) := ext_new _ _ (Nat.le_refl _)
  generalize ext K wr.heap.size (9, 9) = K1 at *
  obtain ⟨x0, x1, x2, x3, x4, xf⟩ := sblk5 hk1
  have hob := C.lt_of_block hk1
  have HX1 := hide hk1
  have HW1 := hide hw1
  have HB1 := hide hb1
  have HD := hide hd
  have HE := hide hpe
  obtain ⟨p0, p1, p2, p3, p4, p5, p6, p7, p8, pf, hpb⟩ := HP1.out.pk.cells
  clear hk1 hw1 hb1 h hd hpe
  have HWi := hide (fun w => within_any w more 3 (by omega) (by omega))
  obtain ⟨r, hr⟩ : ∃ r : Nat, (more % ((3 : Nat) : Int)).toNat = r := ⟨_, rfl⟩
  have hr3 : r < 3 := by omega
  rw [hr] at HWi
  have e3 : ((3 : Nat) : Int) = 3 := rfl
  rw [e3] at HWi
  have hl := HD.out.a.l2
  have hl1 := HD.out.a.l1
  have HPd := hide (HD.out.lives0 (l0 + 1 + r) (by omega) (by omega))
  have HPe := hide (HE.out.lives0 HD.out.m1 (l0 + 1 + r) (by omega))
  have HLv := hide (lives_pm0 (HP1.out.below ((Below.refl w1.heap.size w1).drew) (9, 9)) (l0 + 1 + r))
  have hN : ((l0 + 1 + r : Nat) : Int) = (l0 : Int) + 1 + (r : Int) := by omega
  rw [hN] at HLv
  have z1 : IntKind.u64.wrap ((l0 : Int) + 1) = (l0 : Int) + 1 := by rw [IntKind.wrap_u64]; omega
  have z2 : IntKind.u64.wrap (r : Int) = (r : Int) := by rw [IntKind.wrap_u64]; omega
  have z3 : IntKind.u64.wrap ((l0 : Int) + 1 + (r : Int)) = (l0 : Int) + 1 + (r : Int) := by rw [IntKind.wrap_u64]; omega
  have HZ := hide (And.intro z1 (And.intro z2 z3))
  clear hr e3 hN z1 z2 z3
  go_enter Tryd.func7, Tryd.ntmps7
  go_upto_region 1 with (fail)
  rw [HW1.out]
  go_upto_region 24 with (fail)
  go_region_law (first | (go_simp; go_at_call 14; refine (HWi.out _).mono ?_; rintro e w2 ⟨rfl, hw2⟩; rw [hw2]; clear hw2) | (go_simp; go_at_call 15; (try rw [HZ.out.1]); (try rw [HZ.out.2.1]); (try rw [HZ.out.2.2]); refine HLv.out.mono ?_; rintro e w2 ⟨rfl, bl, K', hpm⟩; have HPm := hide hpm; clear hpm))
  all_goals (go_wp2; go_ret; exact ⟨rfl, _, _, _, _, _, _, _, _, _, _, _, _, _, _, _, HPm.out, HPd.out, HPe.out⟩)
set_option maxRecDepth 100000 in
set_option maxHeartbeats 4000000 in
set_option linter.unusedVariables false in
theorem step_life1 (w wr : World) (K : Knd) (pb W M l0 l1 b0 b1 : Nat) (sv s0 s1 : Value) (A B : Lk) (ra rb : Value) (S T : List Sm) (es : List Fe) (k : Nat) (h : Pm w wr K pb W M l0 l1 b0 b1 sv s0 s1 A B ra rb S T es) (hd : Pd W M l0 l1 A B S T es k) (hpe : Pe W M l0 l1 A B S T es) (hk : k ≤ 19999) (on pick more : Int) (bp : Option Addr) (nb bc : Nat) (hon : bits .and .i64 on 1 = 1) :
    Calls Tryd.prog 7 #[.pointer (some ⟨pb, 0, none⟩), .agg #[.int .i64 5, .int .i64 on, .slice bp nb bc, .int .i64 pick, .int .i64 more]] wr fun e w' => e = .returned (.bool true) ∧ Ps w w' pb W M (k + 1) := by
  obtain ⟨w1, hw1⟩ : ∃ w1, wr.alloc (.cells #[.int .i64 5, .int .i64 on, .slice bp nb bc, .int .i64 pick, .int .i64 more] 31) = w1 := ⟨_, rfl⟩
  have hb1 : Below wr.heap.size wr w1 := by rw [← hw1]; exact (Below.refl _ _).alloc (Nat.le_refl _) _
  have hk1 : w1.heap[wr.heap.size]? = some (.cells #[.int .i64 5, .int .i64 on, .slice bp nb bc, .int .i64 pick, .int .i64 more] 31 (0, 0)) := by rw [← hw1]; exact heap_alloc_new _ _
  have HP1 := hide (h.below hb1 (9, 9))
  have HKx : Hid (ext K wr.heap.size (9, 9) wr.heap.size = (9, 9)) := ext_new _ _ (Nat.le_refl _)
  generalize ext K wr.heap.size (9, 9) = K1 at *
  obtain ⟨x0, x1, x2, x3, x4, xf⟩ := sblk5 hk1
  have hob := C.lt_of_block hk1
  have HX1 := hide hk1
  have HW1 := hide hw1
  have HB1 := hide hb1
  have HD := hide hd
  have HE := hide hpe
  obtain ⟨p0, p1, p2, p3, p4, p5, p6, p7, p8, pf, hpb⟩ := HP1.out.pk.cells
  clear hk1 hw1 hb1 h hd hpe
  have HWi := hide (fun w => within_any w more 3 (by omega) (by omega))
  obtain ⟨r, hr⟩ : ∃ r : Nat, (more % ((3 : Nat) : Int)).toNat = r := ⟨_, rfl⟩
  have hr3 : r < 3 := by omega
  rw [hr] at HWi
  have e3 : ((3 : Nat) : Int) = 3 := rfl
  rw [e3] at HWi
  have hl := HD.out.b.l2
  have hl1 := HD.out.b.l1
  have HPd := hide (HD.out.lives1 (l1 + 1 + r) (by omega) (by omega))
  have HPe := hide (HE.out.lives1 HD.out.m1 (l1 + 1 + r) (by omega))
  have HLv := hide (lives_pm1 (HP1.out.below ((Below.refl w1.heap.size w1).drew) (9, 9)) (l1 + 1 + r))
  have hN : ((l1 + 1 + r : Nat) : Int) = (l1 : Int) + 1 + (r : Int) := by omega
  rw [hN] at HLv
  have z1 : IntKind.u64.wrap ((l1 : Int) + 1) = (l1 : Int) + 1 := by rw [IntKind.wrap_u64]; omega
  have z2 : IntKind.u64.wrap (r : Int) = (r : Int) := by rw [IntKind.wrap_u64]; omega
  have z3 : IntKind.u64.wrap ((l1 : Int) + 1 + (r : Int)) = (l1 : Int) + 1 + (r : Int) := by rw [IntKind.wrap_u64]; omega
  have HZ := hide (And.intro z1 (And.intro z2 z3))
  clear hr e3 hN z1 z2 z3
  go_enter Tryd.func7, Tryd.ntmps7
  go_upto_region 1 with (fail)
  rw [HW1.out]
  go_upto_region 24 with (fail)
  go_region_law (first | (go_simp; go_at_call 14; refine (HWi.out _).mono ?_; rintro e w2 ⟨rfl, hw2⟩; rw [hw2]; clear hw2) | (go_simp; go_at_call 15; (try rw [HZ.out.1]); (try rw [HZ.out.2.1]); (try rw [HZ.out.2.2]); refine HLv.out.mono ?_; rintro e w2 ⟨rfl, bl, K', hpm⟩; have HPm := hide hpm; clear hpm))
  all_goals (go_wp2; go_ret; exact ⟨rfl, _, _, _, _, _, _, _, _, _, _, _, _, _, _, _, HPm.out, HPd.out, HPe.out⟩)
set_option maxRecDepth 100000 in
set_option maxHeartbeats 4000000 in
set_option linter.unusedVariables false in
theorem step_other (w wr : World) (K : Knd) (pb W M l0 l1 b0 b1 : Nat) (sv s0 s1 : Value) (A B : Lk) (ra rb : Value) (S T : List Sm) (es : List Fe) (k : Nat) (h : Pm w wr K pb W M l0 l1 b0 b1 sv s0 s1 A B ra rb S T es) (hd : Pd W M l0 l1 A B S T es k) (hpe : Pe W M l0 l1 A B S T es) (hk : k ≤ 19999) (kind : Int) (on pick more : Int) (bp : Option Addr) (nb bc : Nat) (k1 : ¬ kind = 1) (k2 : ¬ kind = 2) (k3 : ¬ kind = 3) (k4 : ¬ kind = 4) (k5 : ¬ kind = 5) (k6 : ¬ kind = 6) :
    Calls Tryd.prog 7 #[.pointer (some ⟨pb, 0, none⟩), .agg #[.int .i64 kind, .int .i64 on, .slice bp nb bc, .int .i64 pick, .int .i64 more]] wr fun e w' => e = .returned (.bool true) ∧ Ps w w' pb W M (k + 1) := by
  obtain ⟨w1, hw1⟩ : ∃ w1, wr.alloc (.cells #[.int .i64 kind, .int .i64 on, .slice bp nb bc, .int .i64 pick, .int .i64 more] 31) = w1 := ⟨_, rfl⟩
  have hb1 : Below wr.heap.size wr w1 := by rw [← hw1]; exact (Below.refl _ _).alloc (Nat.le_refl _) _
  have hk1 : w1.heap[wr.heap.size]? = some (.cells #[.int .i64 kind, .int .i64 on, .slice bp nb bc, .int .i64 pick, .int .i64 more] 31 (0, 0)) := by rw [← hw1]; exact heap_alloc_new _ _
  have HP1 := hide (h.below hb1 (9, 9))
  have HKx : Hid (ext K wr.heap.size (9, 9) wr.heap.size = (9, 9)) := ext_new _ _ (Nat.le_refl _)
  generalize ext K wr.heap.size (9, 9) = K1 at *
  obtain ⟨x0, x1, x2, x3, x4, xf⟩ := sblk5 hk1
  have hob := C.lt_of_block hk1
  have HX1 := hide hk1
  have HW1 := hide hw1
  have HB1 := hide hb1
  have HD := hide hd
  have HE := hide hpe
  obtain ⟨p0, p1, p2, p3, p4, p5, p6, p7, p8, pf, hpb⟩ := HP1.out.pk.cells
  clear hk1 hw1 hb1 h hd hpe
  have q1 : (kind == 1) = false := by simpa using k1
  have q2 : (kind == 2) = false := by simpa using k2
  have q3 : (kind == 3) = false := by simpa using k3
  have q4 : (kind == 4) = false := by simpa using k4
  have q5 : (kind == 5) = false := by simpa using k5
  have q6 : (kind == 6) = false := by simpa using k6
  have HPd := hide HD.out.up
  clear k1 k2 k3 k4 k5 k6
  obtain ⟨o1, ho1⟩ : ∃ o1, bits .and .i64 on 1 = o1 := ⟨_, rfl⟩
  go_enter Tryd.func7, Tryd.ntmps7
  go_upto_region 1 with (fail)
  rw [HW1.out]
  go_wp2
  go_ret
  exact ⟨rfl, _, _, _, _, _, _, _, _, _, _, _, _, _, _, _, HP1.out, HPd.out, HE.out⟩
end Go.Proofs.YtbcpoejpbhpcbaaDoor
