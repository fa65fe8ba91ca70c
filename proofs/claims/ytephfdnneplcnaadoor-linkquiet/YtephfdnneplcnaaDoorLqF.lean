import Derived.Test.YtephfdnneplcnaaDoorLqE
namespace Go.Proofs.YtephfdnneplcnaaDoor
open Go.RowKit

theorem put4g {w : World} {b : Nat} {x0 x1 x2 x3 : Value} {t : TypeId} (h : w.heap[b]? = some (.cells #[x0, x1, x2, x3] t (0, 0))) (y0 y1 y2 y3 : Value) : ((((w.setCell ⟨b, 0, none⟩ y0).setCell ⟨b, 1, none⟩ y1).setCell ⟨b, 2, none⟩ y2).setCell ⟨b, 3, none⟩ y3).heap[b]? = some (.cells #[y0, y1, y2, y3] t (0, 0)) := by
  have h0 : (w.setCell ⟨b, 0, none⟩ y0).heap[b]? = some (.cells #[y0, x1, x2, x3] t (0, 0)) := C.block_set h y0
  generalize w.setCell ⟨b, 0, none⟩ y0 = w0 at *
  have h1 : (w0.setCell ⟨b, 1, none⟩ y1).heap[b]? = some (.cells #[y0, y1, x2, x3] t (0, 0)) := C.block_set h0 y1
  generalize w0.setCell ⟨b, 1, none⟩ y1 = w1 at *
  have h2 : (w1.setCell ⟨b, 2, none⟩ y2).heap[b]? = some (.cells #[y0, y1, y2, x3] t (0, 0)) := C.block_set h1 y2
  generalize w1.setCell ⟨b, 2, none⟩ y2 = w2 at *
  exact C.block_set h2 y3
theorem Qs.setNew {w wr : World} {pb b0 b1 W M : Nat} {A B : Lk} {sv : Value} {es : List Fe} (h : Qs w wr pb b0 b1 W M A B sv es) {x : Nat} (hx : x ≠ pb ∧ x ≠ b0 ∧ x ≠ b1) (hf : ∀ g, sv.ownBlock = some g → g ≠ x) (hl : w.heap.size ≤ x) (i : Nat) (v : Value) : Qs w (wr.setCell ⟨x, i, none⟩ v) pb b0 b1 W M A B sv es :=
  ⟨h.bel.setCell hl _, (Below.heap_setCell _ _ _ _ (Ne.symm hx.1)).trans h.pr, h.l0.kept (Below.heap_setCell _ _ _ _ (Ne.symm hx.2.1)), h.l1.kept (Below.heap_setCell _ _ _ _ (Ne.symm hx.2.2)), owns_same h.sent (fun g hg => Below.heap_setCell _ _ _ _ (hf g hg)), h.ne, h.far, h.lo, h.w1, h.a, h.b, h.tab⟩
set_option maxRecDepth 100000 in
set_option maxHeartbeats 4000000 in
set_option linter.unusedSimpArgs false in
theorem phear1 (w wr : World) (pb b0 b1 W M : Nat) (A B : Lk) (sv : Value) (es : List Fe) (h : Qs w wr pb b0 b1 W M A B sv es) (y : Nat) (hy : y ≤ 1) (sq : Option Addr) (c : Nat) :
    Calls Tryd.prog 38 #[.pointer (some ⟨pb, 0, none⟩), .agg #[.int .i64 0, .int .i64 5, .int .u64 1, .int .u64 (y : Int), .int .u64 0, .int .u64 0, .slice sq 0 c]] wr fun e w' => e = .returned (.bool true) ∧ Qs w w' pb b0 b1 W M A (hearW B 1 y) sv es := by
  obtain ⟨w1, hw1⟩ : ∃ w1, (wr.alloc (.cells #[.int .i64 0, .int .i64 5, .int .u64 1, .int .u64 (y : Int), .int .u64 0, .int .u64 0, .slice sq 0 c] 32)).alloc (.cells #[.int .i64 0, .int .i64 5, .int .u64 1, .int .u64 (y : Int), .int .u64 0, .int .u64 0, .slice sq 0 c] 32) = w1 := ⟨_, rfl⟩
  obtain ⟨fb, hfb⟩ : ∃ fb, wr.heap.size = fb := ⟨_, rfl⟩
  have hb1 : Below wr.heap.size wr w1 := by rw [← hw1]; exact ((Below.refl _ _).alloc (Nat.le_refl _) _).alloc (by simp) _
  have hk2 : w1.heap[fb + 1]? = some (.cells #[.int .i64 0, .int .i64 5, .int .u64 1, .int .u64 (y : Int), .int .u64 0, .int .u64 0, .slice sq 0 c] 32 (0, 0)) := by rw [← hw1, ← hfb]; exact heap_alloc2_new wr _ _
  have hk1 : w1.heap[fb]? = some (.cells #[.int .i64 0, .int .i64 5, .int .u64 1, .int .u64 (y : Int), .int .u64 0, .int .u64 0, .slice sq 0 c] 32 (0, 0)) := by
    rw [← hw1, ← hfb, Below.heap_alloc _ _ _ (by simp)]; exact heap_alloc_new _ _
  have HQ0 := hide h
  have HB1 := hide hb1
  have hfo : fb ≠ pb ∧ fb ≠ b1 ∧ fb + 1 ≠ pb ∧ fb + 1 ≠ b1 := by
    have := C.lt_of_block h.pr
    have := C.lt_of_block h.l1
    omega
  have HFo := hide hfo
  obtain ⟨f0, f1, f2, f3, f4, f5, f6, -⟩ := blk7 hk1
  obtain ⟨g0, g1, g2, g3, g4, g5, g6', gf⟩ := blk7 hk2
  have hg6 := C.lt_of_block hk2
  have HC := hide (copy_any w1 sq 0 c [] rfl ⟨fun x hx => (by cases hx), Or.inl rfl⟩ (by omega))
  have HK1 := hide hk1
  have HK2 := hide hk2
  have HW := hide hw1
  clear hk1 hk2 hb1 hw1 h hfo
  go_enter Tryd.func38, Tryd.ntmps38
  go_upto_region 5 with (fail)
  rw [HW.out]
  go_wp2_with fail
  refine HC.out.mono ?_
  rintro e w2 ⟨a5, c5, rfl, -, hb2⟩
  have HB2 := hide (HB1.out.trans (hb2.mono HB1.out.size))
  have hf2 := (hb2.block _ (C.lt_of_block HK1.out)).trans HK1.out
  have hg2 := (hb2.block _ (C.lt_of_block HK2.out)).trans HK2.out
  clear f0 f1 f2 f3 f4 f5 f6 g0 g1 g2 g3 g4 g5 g6' gf hg6 HC hb2
  obtain ⟨-, -, -, -, -, -, g6', gf⟩ := blk7 hg2
  have hg6 := C.lt_of_block hg2
  have HF2 := hide hf2
  have HG2 := hide hg2
  clear hf2 hg2 HK1 HK2
  go_upto_region 6 with (fail)
  obtain ⟨w3, hw3⟩ : ∃ w3, w2.setCell ⟨fb + 1, 6, none⟩ (.slice a5 0 c5) = w3 := ⟨_, rfl⟩
  rw [hw3]
  have hb3 : Below wr.heap.size wr w3 := by rw [← hw3]; exact HB2.out.setCell (by show _ ≤ fb + 1; omega) _
  have hf3 : w3.heap[fb]? = some (.cells #[.int .i64 0, .int .i64 5, .int .u64 1, .int .u64 (y : Int), .int .u64 0, .int .u64 0, .slice sq 0 c] 32 (0, 0)) := by rw [← hw3]; exact (Below.heap_setCell _ _ _ _ (by show fb ≠ fb + 1; omega)).trans HF2.out
  have hg3 : w3.heap[fb + 1]? = some (.cells #[.int .i64 0, .int .i64 5, .int .u64 1, .int .u64 (y : Int), .int .u64 0, .int .u64 0, .slice a5 0 c5] 32 (0, 0)) := by rw [← hw3]; exact C.block_set HG2.out _
  have HQ3 := hide (HQ0.out.below hb3)
  have HF3 := hide hf3
  have HG3 := hide hg3
  obtain ⟨kn, hkn⟩ : ∃ kn, B.known = kn := ⟨_, rfl⟩
  have HLf := hide (life_any w3 b1 B _ HQ3.out.l1)
  rw [hkn] at HLf
  have HKn := hide hkn
  have hkl : kn ≤ 1 := by rw [← hkn]; exact HQ3.out.b.known
  obtain ⟨p0, p2, p3, p4, p5, p6, pf, hpb⟩ := HQ3.out.cells
  clear hw3 hb3 hf3 hg3 g6' gf hg6 HF2 HG2 HB2 HB1 HQ0 hkn
  go_wp2_with fail
  refine HLf.out.mono ?_
  rintro e w4 ⟨rfl, rfl⟩
  obtain ⟨g0, g1, g2, g3, g4, g5, g6, -⟩ := blk7 HG3.out
  have hg6 := C.lt_of_block HG3.out
  have hlb := C.lt_of_block HQ3.out.l1
  have hfit : (⟨B.other, B.me, 1, y, 0, 0, []⟩ : Fr).fit := by
    have := wfr_fit (me := 0) (other := 5) (y := y) (by omega) (by omega) hy
    unfold wfr at this
    rw [HQ3.out.b.other, HQ3.out.b.me]
    exact this
  have HH : Hid (∀ w', Lb w' b1 B (.slice none 0 0) → Calls Tryd.prog 7 #[.pointer (some ⟨b1, 0, none⟩), .agg #[.int .i64 0, .int .i64 5, .int .u64 1, .int .u64 (y : Int), .int .u64 0, .int .u64 0, .slice a5 0 c5]] w' fun e w'' => e = .returned (.agg #[.slice none 0 0, .bool false, .bool (decide (kn < 1)), .bool (decide (y = 1))]) ∧ Lb w'' b1 (hearW B 1 y) (.slice none 0 0) ∧ C.But b1 w' w'') := fun w' hl => by
    have := hear_word w' b1 B 1 y 0 a5 c5 hl hfit (by rw [HKn.out]; exact hkl)
    rw [HQ3.out.b.other, HQ3.out.b.me, HQ3.out.b.life, HKn.out] at this
    exact this
  obtain ⟨an, han⟩ : ∃ an, decide (kn < 1) = an := ⟨_, rfl⟩
  obtain ⟨ri, hri⟩ : ∃ ri, decide (y = 1) = ri := ⟨_, rfl⟩
  rw [han, hri] at HH
  have hd : decide ((kn : Int) < 1) = an := by rw [← han]; exact decide_eq_decide.2 (by omega)
  have hge : (kn : Int) ≤ 1 := by omega
  have heq : ((y : Int) == 1) = ri := by rw [← hri]; by_cases q : y = 1 <;> simp [q]; omega
  have HN := hide (HFo.out)
  clear HLf hfit han hri
  have hn1 : pb ≠ b1 := by have := HQ3.out.ne; omega
  have hn2 : fb + 1 ≠ b1 := by have := HN.out; omega
  have hn3 : w4.heap.size ≠ b1 := by omega
  have n1 : w4.heap.size ≠ pb := by omega
  have n2 : w4.heap.size ≠ fb + 1 := by omega
  go_upto_region 7 with (fail)
  go_cut [8] from 27 to 34 (fun s8 wc => ∃ hx, s8 = .pointer (some ⟨hx, 0, none⟩) ∧ Hid (wc.heap[hx]? = some (.cells #[.slice none 0 0, .bool false, .bool an, .bool ri] 29 (0, 0)) ∧ Qs w wc pb b0 b1 W M A (hearW B 1 y) sv es ∧ wc.heap[fb]? = some (.cells #[.int .i64 0, .int .i64 5, .int .u64 1, .int .u64 (y : Int), .int .u64 0, .int .u64 0, .slice sq 0 c] 32 (0, 0))))
  case first =>
    go_region_held3 (fun w' => w'.cell? ⟨pb, 5, none⟩ = some (.pointer (some ⟨b1, 0, none⟩)) ∧ w'.cell? ⟨fb + 1, 0, none⟩ = some (.int .i64 0) ∧ w'.cell? ⟨fb + 1, 1, none⟩ = some (.int .i64 5) ∧ w'.cell? ⟨fb + 1, 2, none⟩ = some (.int .u64 1) ∧ w'.cell? ⟨fb + 1, 3, none⟩ = some (.int .u64 (y : Int)) ∧ w'.cell? ⟨fb + 1, 4, none⟩ = some (.int .u64 0) ∧ w'.cell? ⟨fb + 1, 5, none⟩ = some (.int .u64 0) ∧ w'.cell? ⟨fb + 1, 6, none⟩ = some (.slice a5 0 c5)) (go_keep) (first | (go_at_call 7; refine (HH.out _ (by first | exact HQ3.out.l1 | exact HQ3.out.l1.below ((Below.refl _ _).alloc (Nat.le_refl _) _).drew)).mono ?_; rintro e w5 ⟨rfl, hl5, hb5⟩; have hk5 : ∀ k, k < w4.heap.size → k ≠ b1 → w5.heap[k]? = w4.heap[k]? := (by first | exact (fun k hk hn => hb5.block k hk hn) | exact (fun k hk hn => (hb5.block k (by simp; omega) hn).trans (Below.heap_alloc _ _ _ hk))); have p5n := (World.cell?_of_block (a := ⟨pb, 5, none⟩) (hk5 pb hpb hn1)).trans p5; have g0n := (World.cell?_of_block (a := ⟨fb + 1, 0, none⟩) (hk5 (fb + 1) hg6 hn2)).trans g0; have g1n := (World.cell?_of_block (a := ⟨fb + 1, 1, none⟩) (hk5 (fb + 1) hg6 hn2)).trans g1; have g2n := (World.cell?_of_block (a := ⟨fb + 1, 2, none⟩) (hk5 (fb + 1) hg6 hn2)).trans g2; have g3n := (World.cell?_of_block (a := ⟨fb + 1, 3, none⟩) (hk5 (fb + 1) hg6 hn2)).trans g3; have g4n := (World.cell?_of_block (a := ⟨fb + 1, 4, none⟩) (hk5 (fb + 1) hg6 hn2)).trans g4; have g5n := (World.cell?_of_block (a := ⟨fb + 1, 5, none⟩) (hk5 (fb + 1) hg6 hn2)).trans g5; have g6n := (World.cell?_of_block (a := ⟨fb + 1, 6, none⟩) (hk5 (fb + 1) hg6 hn2)).trans g6; (first | (have hz5 := (hb5.block w4.heap.size (by simp) hn3).trans (heap_alloc_new _ _); obtain ⟨zz0, zz1, zz2, zz3, zzf⟩ := blk4 hz5; have HZ5 := hide hz5; clear hz5) | skip); have HL5 := hide hl5; have HB5 := hide hb5; have HK5 := hide hk5; have hs5 : w4.heap.size ≤ w5.heap.size := (by have := hb5.size; simp at this; omega); clear hl5 hb5 hk5))
    all_goals go_wp2_with fail
    all_goals go_meet
    · have hQ5 := (HQ3.out.below ((Below.refl _ _).drew)).side1 HL5.out HB5.out (HQ3.out.b.hear y)
      have hb6 : Below w5.heap.size w5 (w5.alloc (.cells #[.slice none 0 0, .bool false, .bool an, .bool ri] 29)) := (Below.refl _ _).alloc (Nat.le_refl _) _
      have hf5 := (HK5.out fb (C.lt_of_block HF3.out) (by have := HN.out; omega)).trans HF3.out
      exact ⟨_, rfl, hide ⟨heap_alloc_new _ _, hQ5.below hb6, (hb6.block fb (C.lt_of_block hf5)).trans hf5⟩⟩
    · have hQ5 := (HQ3.out.below (((Below.refl _ _).alloc (Nat.le_refl _) _).drew)).side1 HL5.out HB5.out (HQ3.out.b.hear y)
      have hf5 := (HK5.out fb (C.lt_of_block HF3.out) (by have := HN.out; omega)).trans HF3.out
      have hfn : fb ≠ w4.heap.size := by have := C.lt_of_block HF3.out; omega
      have hx1 : w4.heap.size ≠ pb ∧ w4.heap.size ≠ b0 ∧ w4.heap.size ≠ b1 := by have := C.lt_of_block HQ3.out.l0; have := C.lt_of_block HQ3.out.l1; omega
      have hx2 : ∀ g, sv.ownBlock = some g → g ≠ w4.heap.size := fun g hg => by have := rk_lt HQ3.out.sent hg; omega
      have hx3 := HQ3.out.bel.size
      exact ⟨_, rfl, hide ⟨put4g HZ5.out _ _ _ _, (((hQ5.setNew hx1 hx2 hx3 0 _).setNew hx1 hx2 hx3 1 _).setNew hx1 hx2 hx3 2 _).setNew hx1 hx2 hx3 3 _, ((Below.heap_setCell _ _ _ _ hfn).trans ((Below.heap_setCell _ _ _ _ hfn).trans ((Below.heap_setCell _ _ _ _ hfn).trans (Below.heap_setCell _ _ _ _ hfn)))).trans hf5⟩⟩
  case rest =>
    obtain ⟨hx, rfl, HR⟩ := hcut
    clear p0 p2 p3 p4 p5 p6 pf hpb g0 g1 g2 g3 g4 g5 g6 hg6 hlb HH HQ3 HF3 HG3 hn1 hn2 hn3 n1 n2 HN HFo HW
    obtain ⟨h0, h1, h2, h3, -⟩ := blk4 HR.out.1
    obtain ⟨f0, f1, f2, f3, f4, f5, f6, -⟩ := blk7 HR.out.2.2
    obtain ⟨p0, p2, p3, p4, p5, p6, pf, hpb⟩ := HR.out.2.1.cells
    go_upto_region 8 with (fail)
    refine wp_region_held_drew (S := (fun w' => w'.cell? ⟨hx, 1, none⟩ = some (.bool false) ∧ w'.cell? ⟨hx, 2, none⟩ = some (.bool an) ∧ w'.cell? ⟨hx, 3, none⟩ = some (.bool ri) ∧ w'.cell? ⟨fb, 2, none⟩ = some (.int .u64 1) ∧ w'.cell? ⟨fb, 3, none⟩ = some (.int .u64 (y : Int)) ∧ w'.cell? ⟨pb, 3, none⟩ = some (.int .u64 1))) (by kernel_rfl) (by go_keep) (fun hHeld => ?_)
    refine wpAnyH_take (i := 0) (oi := { dst := some 35, op := Op.fieldAddr 29 (Operand.tmp 8) 2, type := 0, pos := _, after := _, guard := _ }) (v := ?ve10) rfl (by kernel_rfl) (by kernel_rfl) (by kernel_rfl) (fun _ _ _ h => h) (Or.inl ⟨by rfl, ?ye10⟩) (by assumption) ?re10
    case ye10 => (intro w hSw; (try dsimp only at hSw); go_simp; try with_reducible rfl)
    try simp only [Act.put, List.setIfInBounds_toArray, List.set_cons_zero, List.set_cons_succ]
    refine wpAnyH_take (i := 1) (oi := { dst := some 36, op := Op.load 4 (Operand.tmp 35), type := 4, pos := _, after := _, guard := _ }) (v := ?ve11) rfl (by kernel_rfl) (by kernel_rfl) (by kernel_rfl) (fun _ _ _ h => h) (Or.inl ⟨by rfl, ?ye11⟩) (by assumption) ?re11
    case ye11 => (intro w hSw; (try dsimp only at hSw); go_simp; try with_reducible rfl)
    try simp only [Act.put, List.setIfInBounds_toArray, List.set_cons_zero, List.set_cons_succ]
    refine wpAnyH_take (i := 2) (oi := { dst := some 37, op := Op.fieldAddr 32 (Operand.tmp 3) 2, type := 0, pos := _, after := _, guard := _ }) (v := ?ve12) rfl (by kernel_rfl) (by kernel_rfl) (by kernel_rfl) (fun _ _ _ h => h) (Or.inl ⟨by rfl, ?ye12⟩) (by assumption) ?re12
    case ye12 => (intro w hSw; (try dsimp only at hSw); go_simp; try with_reducible rfl)
    try simp only [Act.put, List.setIfInBounds_toArray, List.set_cons_zero, List.set_cons_succ]
    refine wpAnyH_take (i := 3) (oi := { dst := some 38, op := Op.load 26 (Operand.tmp 37), type := 26, pos := _, after := _, guard := _ }) (v := ?ve13) rfl (by kernel_rfl) (by kernel_rfl) (by kernel_rfl) (fun _ _ _ h => h) (Or.inl ⟨by rfl, ?ye13⟩) (by assumption) ?re13
    case ye13 => (intro w hSw; (try dsimp only at hSw); go_simp; try with_reducible rfl)
    try simp only [Act.put, List.setIfInBounds_toArray, List.set_cons_zero, List.set_cons_succ]
    refine wpAnyH_take (i := 4) (oi := { dst := some 39, op := Op.move (Operand.tmp 7), type := 26, pos := _, after := _, guard := _ }) (v := ?ve14) rfl (by kernel_rfl) (by kernel_rfl) (by kernel_rfl) (fun _ _ _ h => h) (Or.inl ⟨by rfl, ?ye14⟩) (by assumption) ?re14
    case ye14 => (intro w hSw; (try dsimp only at hSw); go_simp; try with_reducible rfl)
    try simp only [Act.put, List.setIfInBounds_toArray, List.set_cons_zero, List.set_cons_succ]
    refine wpAnyH_take (i := 5) (oi := { dst := some 40, op := Op.binOp BinOp.gtr 26 (Operand.tmp 38) (Operand.tmp 39) 26, type := 4, pos := _, after := _, guard := _ }) (v := ?ve15) rfl (by kernel_rfl) (by kernel_rfl) (by kernel_rfl) (fun _ _ _ h => h) (Or.inl ⟨by rfl, ?ye15⟩) (by assumption) ?re15
    case ye15 => (intro w hSw; (try dsimp only at hSw); go_simp; try with_reducible rfl)
    try simp only [Act.put, List.setIfInBounds_toArray, List.set_cons_zero, List.set_cons_succ]
    refine wpAnyH_take (i := 6) (oi := { dst := some 41, op := Op.binOp BinOp.neq 4 (Operand.tmp 36) (Operand.tmp 40) 4, type := 4, pos := _, after := _, guard := _ }) (v := ?ve16) rfl (by kernel_rfl) (by kernel_rfl) (by kernel_rfl) (fun _ _ _ h => h) (Or.inl ⟨by rfl, ?ye16⟩) (by assumption) ?re16
    case ye16 => (intro w hSw; (try dsimp only at hSw); go_simp; try with_reducible rfl)
    try simp only [Act.put, List.setIfInBounds_toArray, List.set_cons_zero, List.set_cons_succ]
    refine wpAnyH_take (i := 7) (oi := { dst := some 42, op := Op.move (Operand.tmp 41), type := 4, pos := _, after := _, guard := _ }) (v := ?ve17) rfl (by kernel_rfl) (by kernel_rfl) (by kernel_rfl) (fun _ _ _ h => h) (Or.inl ⟨by rfl, ?ye17⟩) (by assumption) ?re17
    case ye17 => (intro w hSw; (try dsimp only at hSw); go_simp; try with_reducible rfl)
    try simp only [Act.put, List.setIfInBounds_toArray, List.set_cons_zero, List.set_cons_succ]
    refine wpAnyH_take (i := 8) (oi := { dst := some 43, op := Op.fieldAddr 29 (Operand.tmp 8) 1, type := 0, pos := _, after := _, guard := _ }) (v := ?ve18) rfl (by kernel_rfl) (by kernel_rfl) (by kernel_rfl) (fun _ _ _ h => h) (Or.inl ⟨by rfl, ?ye18⟩) (by assumption) ?re18
    case ye18 => (intro w hSw; (try dsimp only at hSw); go_simp; try with_reducible rfl)
    try simp only [Act.put, List.setIfInBounds_toArray, List.set_cons_zero, List.set_cons_succ]
    refine wpAnyH_take (i := 9) (oi := { dst := some 44, op := Op.load 4 (Operand.tmp 43), type := 4, pos := _, after := _, guard := _ }) (v := ?ve19) rfl (by kernel_rfl) (by kernel_rfl) (by kernel_rfl) (fun _ _ _ h => h) (Or.inl ⟨by rfl, ?ye19⟩) (by assumption) ?re19
    case ye19 => (intro w hSw; (try dsimp only at hSw); go_simp; try with_reducible rfl)
    try simp only [Act.put, List.setIfInBounds_toArray, List.set_cons_zero, List.set_cons_succ]
    refine wpAnyH_take (i := 10) (oi := { dst := some 45, op := Op.move (Operand.tmp 44), type := 4, pos := _, after := _, guard := _ }) (v := ?ve110) rfl (by kernel_rfl) (by kernel_rfl) (by kernel_rfl) (fun _ _ _ h => h) (Or.inl ⟨by rfl, ?ye110⟩) (by assumption) ?re110
    case ye110 => (intro w hSw; (try dsimp only at hSw); go_simp; try with_reducible rfl)
    try simp only [Act.put, List.setIfInBounds_toArray, List.set_cons_zero, List.set_cons_succ]
    refine wpAnyH_take (i := 11) (oi := { dst := some 46, op := Op.fieldAddr 29 (Operand.tmp 8) 3, type := 0, pos := _, after := _, guard := _ }) (v := undef) rfl (by kernel_rfl) (by kernel_rfl) (by kernel_rfl) (fun _ _ _ h => h) (Or.inr ⟨by rfl, rfl⟩) (by assumption) ?_
    try simp only [Act.put, List.setIfInBounds_toArray, List.set_cons_zero, List.set_cons_succ]
    refine wpAnyH_take (i := 12) (oi := { dst := some 47, op := Op.load 4 (Operand.tmp 46), type := 4, pos := _, after := _, guard := _ }) (v := undef) rfl (by kernel_rfl) (by kernel_rfl) (by kernel_rfl) (fun _ _ _ h => h) (Or.inr ⟨by rfl, rfl⟩) (by assumption) ?_
    try simp only [Act.put, List.setIfInBounds_toArray, List.set_cons_zero, List.set_cons_succ]
    refine wpAnyH_take (i := 13) (oi := { dst := some 48, op := Op.unOp UnOp.not 4 (Operand.tmp 47), type := 4, pos := _, after := _, guard := _ }) (v := undef) rfl (by kernel_rfl) (by kernel_rfl) (by kernel_rfl) (fun _ _ _ h => h) (Or.inr ⟨by rfl, rfl⟩) (by assumption) ?_
    try simp only [Act.put, List.setIfInBounds_toArray, List.set_cons_zero, List.set_cons_succ]
    refine wpAnyH_take (i := 14) (oi := { dst := some 49, op := Op.pick (Operand.tmp 45) (Operand.tmp 48) (Operand.const (Value.bool false)), type := 4, pos := _, after := _, guard := _ }) (v := ?ve114) rfl (by kernel_rfl) (by kernel_rfl) (by kernel_rfl) (fun _ _ _ h => h) (Or.inl ⟨by rfl, ?ye114⟩) (by assumption) ?re114
    case ye114 => (intro w hSw; (try dsimp only at hSw); go_simp; try with_reducible rfl)
    try simp only [Act.put, List.setIfInBounds_toArray, List.set_cons_zero, List.set_cons_succ]
    refine wpAnyH_take (i := 15) (oi := { dst := some 50, op := Op.pick (Operand.tmp 42) (Operand.const (Value.bool true)) (Operand.tmp 49), type := 4, pos := _, after := _, guard := _ }) (v := ?ve115) rfl (by kernel_rfl) (by kernel_rfl) (by kernel_rfl) (fun _ _ _ h => h) (Or.inl ⟨by rfl, ?ye115⟩) (by assumption) ?re115
    case ye115 => (intro w hSw; (try dsimp only at hSw); go_simp; try with_reducible rfl)
    try simp only [Act.put, List.setIfInBounds_toArray, List.set_cons_zero, List.set_cons_succ]
    refine wpAnyH_take (i := 16) (oi := { dst := some 51, op := Op.move (Operand.tmp 50), type := 4, pos := _, after := _, guard := _ }) (v := ?ve116) rfl (by kernel_rfl) (by kernel_rfl) (by kernel_rfl) (fun _ _ _ h => h) (Or.inl ⟨by rfl, ?ye116⟩) (by assumption) ?re116
    case ye116 => (intro w hSw; (try dsimp only at hSw); go_simp; try with_reducible rfl)
    try simp only [Act.put, List.setIfInBounds_toArray, List.set_cons_zero, List.set_cons_succ]
    refine wpAnyH_take (i := 17) (oi := { dst := some 52, op := Op.fieldAddr 29 (Operand.tmp 8) 3, type := 0, pos := _, after := _, guard := _ }) (v := ?ve117) rfl (by kernel_rfl) (by kernel_rfl) (by kernel_rfl) (fun _ _ _ h => h) (Or.inl ⟨by rfl, ?ye117⟩) (by assumption) ?re117
    case ye117 => (intro w hSw; (try dsimp only at hSw); go_simp; try with_reducible rfl)
    try simp only [Act.put, List.setIfInBounds_toArray, List.set_cons_zero, List.set_cons_succ]
    refine wpAnyH_take (i := 18) (oi := { dst := some 53, op := Op.load 4 (Operand.tmp 52), type := 4, pos := _, after := _, guard := _ }) (v := ?ve118) rfl (by kernel_rfl) (by kernel_rfl) (by kernel_rfl) (fun _ _ _ h => h) (Or.inl ⟨by rfl, ?ye118⟩) (by assumption) ?re118
    case ye118 => (intro w hSw; (try dsimp only at hSw); go_simp; try with_reducible rfl)
    try simp only [Act.put, List.setIfInBounds_toArray, List.set_cons_zero, List.set_cons_succ]
    refine wpAnyH_take (i := 19) (oi := { dst := some 54, op := Op.fieldAddr 32 (Operand.tmp 3) 2, type := 0, pos := _, after := _, guard := _ }) (v := ?ve119) rfl (by kernel_rfl) (by kernel_rfl) (by kernel_rfl) (fun _ _ _ h => h) (Or.inl ⟨by rfl, ?ye119⟩) (by assumption) ?re119
    case ye119 => (intro w hSw; (try dsimp only at hSw); go_simp; try with_reducible rfl)
    try simp only [Act.put, List.setIfInBounds_toArray, List.set_cons_zero, List.set_cons_succ]
    refine wpAnyH_take (i := 20) (oi := { dst := some 55, op := Op.load 26 (Operand.tmp 54), type := 26, pos := _, after := _, guard := _ }) (v := ?ve120) rfl (by kernel_rfl) (by kernel_rfl) (by kernel_rfl) (fun _ _ _ h => h) (Or.inl ⟨by rfl, ?ye120⟩) (by assumption) ?re120
    case ye120 => (intro w hSw; (try dsimp only at hSw); go_simp; try with_reducible rfl)
    try simp only [Act.put, List.setIfInBounds_toArray, List.set_cons_zero, List.set_cons_succ]
    refine wpAnyH_take (i := 21) (oi := { dst := some 56, op := Op.move (Operand.tmp 7), type := 26, pos := _, after := _, guard := _ }) (v := ?ve121) rfl (by kernel_rfl) (by kernel_rfl) (by kernel_rfl) (fun _ _ _ h => h) (Or.inl ⟨by rfl, ?ye121⟩) (by assumption) ?re121
    case ye121 => (intro w hSw; (try dsimp only at hSw); go_simp; try with_reducible rfl)
    try simp only [Act.put, List.setIfInBounds_toArray, List.set_cons_zero, List.set_cons_succ]
    refine wpAnyH_take (i := 22) (oi := { dst := some 57, op := Op.binOp BinOp.geq 26 (Operand.tmp 55) (Operand.tmp 56) 26, type := 4, pos := _, after := _, guard := _ }) (v := ?ve122) rfl (by kernel_rfl) (by kernel_rfl) (by kernel_rfl) (fun _ _ _ h => h) (Or.inl ⟨by rfl, ?ye122⟩) (by assumption) ?re122
    case ye122 => (intro w hSw; (try dsimp only at hSw); go_simp; try with_reducible rfl)
    try simp only [Act.put, List.setIfInBounds_toArray, List.set_cons_zero, List.set_cons_succ]
    refine wpAnyH_take (i := 23) (oi := { dst := some 58, op := Op.move (Operand.tmp 57), type := 4, pos := _, after := _, guard := _ }) (v := ?ve123) rfl (by kernel_rfl) (by kernel_rfl) (by kernel_rfl) (fun _ _ _ h => h) (Or.inl ⟨by rfl, ?ye123⟩) (by assumption) ?re123
    case ye123 => (intro w hSw; (try dsimp only at hSw); go_simp; try with_reducible rfl)
    try simp only [Act.put, List.setIfInBounds_toArray, List.set_cons_zero, List.set_cons_succ]
    refine wpAnyH_take (i := 24) (oi := { dst := some 59, op := Op.fieldAddr 32 (Operand.tmp 3) 3, type := 0, pos := _, after := _, guard := _ }) (v := ?ve124) rfl (by kernel_rfl) (by kernel_rfl) (by kernel_rfl) (fun _ _ _ h => h) (Or.inl ⟨by rfl, ?ye124⟩) (by assumption) ?re124
    case ye124 => (intro w hSw; (try dsimp only at hSw); go_simp; try with_reducible rfl)
    try simp only [Act.put, List.setIfInBounds_toArray, List.set_cons_zero, List.set_cons_succ]
    refine wpAnyH_take (i := 25) (oi := { dst := some 60, op := Op.load 26 (Operand.tmp 59), type := 26, pos := _, after := _, guard := _ }) (v := ?ve125) rfl (by kernel_rfl) (by kernel_rfl) (by kernel_rfl) (fun _ _ _ h => h) (Or.inl ⟨by rfl, ?ye125⟩) (by assumption) ?re125
    case ye125 => (intro w hSw; (try dsimp only at hSw); go_simp; try with_reducible rfl)
    try simp only [Act.put, List.setIfInBounds_toArray, List.set_cons_zero, List.set_cons_succ]
    refine wpAnyH_take (i := 26) (oi := { dst := some 61, op := Op.move (Operand.tmp 0), type := 45, pos := _, after := _, guard := _ }) (v := ?ve126) rfl (by kernel_rfl) (by kernel_rfl) (by kernel_rfl) (fun _ _ _ h => h) (Or.inl ⟨by rfl, ?ye126⟩) (by assumption) ?re126
    case ye126 => (intro w hSw; (try dsimp only at hSw); go_simp; try with_reducible rfl)
    try simp only [Act.put, List.setIfInBounds_toArray, List.set_cons_zero, List.set_cons_succ]
    refine wpAnyH_take (i := 27) (oi := { dst := some 62, op := Op.move (Operand.tmp 5), type := 3, pos := _, after := _, guard := _ }) (v := ?ve127) rfl (by kernel_rfl) (by kernel_rfl) (by kernel_rfl) (fun _ _ _ h => h) (Or.inl ⟨by rfl, ?ye127⟩) (by assumption) ?re127
    case ye127 => (intro w hSw; (try dsimp only at hSw); go_simp; try with_reducible rfl)
    try simp only [Act.put, List.setIfInBounds_toArray, List.set_cons_zero, List.set_cons_succ]
    refine wpAnyH_take (i := 28) (oi := { dst := some 63, op := Op.nilCheck (Operand.tmp 61), type := 0, pos := _, after := _, guard := _ }) (v := ?ve128) rfl (by kernel_rfl) (by kernel_rfl) (by kernel_rfl) (fun _ _ _ h => h) (Or.inl ⟨by rfl, ?ye128⟩) (by assumption) ?re128
    case ye128 => (intro w hSw; (try dsimp only at hSw); go_simp; try with_reducible rfl)
    try simp only [Act.put, List.setIfInBounds_toArray, List.set_cons_zero, List.set_cons_succ]
    refine wpAnyH_take (i := 29) (oi := { dst := some 64, op := Op.fieldAddr 53 (Operand.tmp 63) 2, type := 0, pos := _, after := _, guard := _ }) (v := ?ve129) rfl (by kernel_rfl) (by kernel_rfl) (by kernel_rfl) (fun _ _ _ h => h) (Or.inl ⟨by rfl, ?ye129⟩) (by assumption) ?re129
    case ye129 => (intro w hSw; (try dsimp only at hSw); go_simp; try with_reducible rfl)
    try simp only [Act.put, List.setIfInBounds_toArray, List.set_cons_zero, List.set_cons_succ]
    refine wpAnyH_take (i := 30) (oi := { dst := some 65, op := Op.indexAddr 47 (Operand.tmp 64) (Operand.tmp 62), type := 0, pos := _, after := _, guard := _ }) (v := ?ve130) rfl (by kernel_rfl) (by kernel_rfl) (by kernel_rfl) (fun _ _ _ h => h) (Or.inl ⟨by rfl, ?ye130⟩) (by assumption) ?re130
    case ye130 => (intro w hSw; (try dsimp only at hSw); go_simp; try with_reducible rfl)
    try simp only [Act.put, List.setIfInBounds_toArray, List.set_cons_zero, List.set_cons_succ]
    refine wpAnyH_take (i := 31) (oi := { dst := some 66, op := Op.load 26 (Operand.tmp 65), type := 26, pos := _, after := _, guard := _ }) (v := ?ve131) rfl (by kernel_rfl) (by kernel_rfl) (by kernel_rfl) (fun _ _ _ h => h) (Or.inl ⟨by rfl, ?ye131⟩) (by assumption) ?re131
    case ye131 => (intro w hSw; (try dsimp only at hSw); go_simp; try with_reducible rfl)
    try simp only [Act.put, List.setIfInBounds_toArray, List.set_cons_zero, List.set_cons_succ]
    refine wpAnyH_take (i := 32) (oi := { dst := some 67, op := Op.binOp BinOp.eql 26 (Operand.tmp 60) (Operand.tmp 66) 26, type := 4, pos := _, after := _, guard := _ }) (v := ?ve132) rfl (by kernel_rfl) (by kernel_rfl) (by kernel_rfl) (fun _ _ _ h => h) (Or.inl ⟨by rfl, ?ye132⟩) (by assumption) ?re132
    case ye132 => (intro w hSw; (try dsimp only at hSw); go_simp; try with_reducible rfl)
    try simp only [Act.put, List.setIfInBounds_toArray, List.set_cons_zero, List.set_cons_succ]
    refine wpAnyH_take (i := 33) (oi := { dst := some 68, op := Op.pick (Operand.tmp 58) (Operand.tmp 67) (Operand.const (Value.bool false)), type := 4, pos := _, after := _, guard := _ }) (v := ?ve133) rfl (by kernel_rfl) (by kernel_rfl) (by kernel_rfl) (fun _ _ _ h => h) (Or.inl ⟨by rfl, ?ye133⟩) (by assumption) ?re133
    case ye133 => (intro w hSw; (try dsimp only at hSw); go_simp; try with_reducible rfl)
    try simp only [Act.put, List.setIfInBounds_toArray, List.set_cons_zero, List.set_cons_succ]
    refine wpAnyH_take (i := 34) (oi := { dst := some 69, op := Op.binOp BinOp.neq 4 (Operand.tmp 53) (Operand.tmp 68) 4, type := 4, pos := _, after := _, guard := _ }) (v := ?ve134) rfl (by kernel_rfl) (by kernel_rfl) (by kernel_rfl) (fun _ _ _ h => h) (Or.inl ⟨by rfl, ?ye134⟩) (by assumption) ?re134
    case ye134 => (intro w hSw; (try dsimp only at hSw); go_simp; try with_reducible rfl)
    try simp only [Act.put, List.setIfInBounds_toArray, List.set_cons_zero, List.set_cons_succ]
    refine wpAnyH_take (i := 35) (oi := { dst := some 70, op := Op.pick (Operand.tmp 51) (Operand.const (Value.bool true)) (Operand.tmp 69), type := 4, pos := _, after := _, guard := _ }) (v := ?ve135) rfl (by kernel_rfl) (by kernel_rfl) (by kernel_rfl) (fun _ _ _ h => h) (Or.inl ⟨by rfl, ?ye135⟩) (by assumption) ?re135
    case ye135 => (intro w hSw; (try dsimp only at hSw); go_simp; try with_reducible rfl)
    try simp only [Act.put, List.setIfInBounds_toArray, List.set_cons_zero, List.set_cons_succ]
    refine wpAnyH_done (by kernel_rfl) ?_ _
    go_wp2
    go_ret
    exact ⟨rfl, HR.out.2.1.below ((Below.refl _ _).drew)⟩
set_option maxRecDepth 100000 in
set_option maxHeartbeats 4000000 in
set_option linter.unusedSimpArgs false in
theorem phear0 (w wr : World) (pb b0 b1 W M : Nat) (A B : Lk) (sv : Value) (es : List Fe) (h : Qs w wr pb b0 b1 W M A B sv es) (y : Nat) (hy : y ≤ 1) (sq : Option Addr) (c : Nat) :
    Calls Tryd.prog 38 #[.pointer (some ⟨pb, 0, none⟩), .agg #[.int .i64 5, .int .i64 0, .int .u64 1, .int .u64 (y : Int), .int .u64 0, .int .u64 0, .slice sq 0 c]] wr fun e w' => e = .returned (.bool true) ∧ Qs w w' pb b0 b1 W M (hearW A 1 y) B sv es := by
  obtain ⟨w1, hw1⟩ : ∃ w1, (wr.alloc (.cells #[.int .i64 5, .int .i64 0, .int .u64 1, .int .u64 (y : Int), .int .u64 0, .int .u64 0, .slice sq 0 c] 32)).alloc (.cells #[.int .i64 5, .int .i64 0, .int .u64 1, .int .u64 (y : Int), .int .u64 0, .int .u64 0, .slice sq 0 c] 32) = w1 := ⟨_, rfl⟩
  obtain ⟨fb, hfb⟩ : ∃ fb, wr.heap.size = fb := ⟨_, rfl⟩
  have hb1 : Below wr.heap.size wr w1 := by rw [← hw1]; exact ((Below.refl _ _).alloc (Nat.le_refl _) _).alloc (by simp) _
  have hk2 : w1.heap[fb + 1]? = some (.cells #[.int .i64 5, .int .i64 0, .int .u64 1, .int .u64 (y : Int), .int .u64 0, .int .u64 0, .slice sq 0 c] 32 (0, 0)) := by rw [← hw1, ← hfb]; exact heap_alloc2_new wr _ _
  have hk1 : w1.heap[fb]? = some (.cells #[.int .i64 5, .int .i64 0, .int .u64 1, .int .u64 (y : Int), .int .u64 0, .int .u64 0, .slice sq 0 c] 32 (0, 0)) := by
    rw [← hw1, ← hfb, Below.heap_alloc _ _ _ (by simp)]; exact heap_alloc_new _ _
  have HQ0 := hide h
  have HB1 := hide hb1
  have hfo : fb ≠ pb ∧ fb ≠ b0 ∧ fb + 1 ≠ pb ∧ fb + 1 ≠ b0 := by
    have := C.lt_of_block h.pr
    have := C.lt_of_block h.l0
    omega
  have HFo := hide hfo
  obtain ⟨f0, f1, f2, f3, f4, f5, f6, -⟩ := blk7 hk1
  obtain ⟨g0, g1, g2, g3, g4, g5, g6', gf⟩ := blk7 hk2
  have hg6 := C.lt_of_block hk2
  have HC := hide (copy_any w1 sq 0 c [] rfl ⟨fun x hx => (by cases hx), Or.inl rfl⟩ (by omega))
  have HK1 := hide hk1
  have HK2 := hide hk2
  have HW := hide hw1
  clear hk1 hk2 hb1 hw1 h hfo
  go_enter Tryd.func38, Tryd.ntmps38
  go_upto_region 5 with (fail)
  rw [HW.out]
  go_wp2_with fail
  refine HC.out.mono ?_
  rintro e w2 ⟨a5, c5, rfl, -, hb2⟩
  have HB2 := hide (HB1.out.trans (hb2.mono HB1.out.size))
  have hf2 := (hb2.block _ (C.lt_of_block HK1.out)).trans HK1.out
  have hg2 := (hb2.block _ (C.lt_of_block HK2.out)).trans HK2.out
  clear f0 f1 f2 f3 f4 f5 f6 g0 g1 g2 g3 g4 g5 g6' gf hg6 HC hb2
  obtain ⟨-, -, -, -, -, -, g6', gf⟩ := blk7 hg2
  have hg6 := C.lt_of_block hg2
  have HF2 := hide hf2
  have HG2 := hide hg2
  clear hf2 hg2 HK1 HK2
  go_upto_region 6 with (fail)
  obtain ⟨w3, hw3⟩ : ∃ w3, w2.setCell ⟨fb + 1, 6, none⟩ (.slice a5 0 c5) = w3 := ⟨_, rfl⟩
  rw [hw3]
  have hb3 : Below wr.heap.size wr w3 := by rw [← hw3]; exact HB2.out.setCell (by show _ ≤ fb + 1; omega) _
  have hf3 : w3.heap[fb]? = some (.cells #[.int .i64 5, .int .i64 0, .int .u64 1, .int .u64 (y : Int), .int .u64 0, .int .u64 0, .slice sq 0 c] 32 (0, 0)) := by rw [← hw3]; exact (Below.heap_setCell _ _ _ _ (by show fb ≠ fb + 1; omega)).trans HF2.out
  have hg3 : w3.heap[fb + 1]? = some (.cells #[.int .i64 5, .int .i64 0, .int .u64 1, .int .u64 (y : Int), .int .u64 0, .int .u64 0, .slice a5 0 c5] 32 (0, 0)) := by rw [← hw3]; exact C.block_set HG2.out _
  have HQ3 := hide (HQ0.out.below hb3)
  have HF3 := hide hf3
  have HG3 := hide hg3
  obtain ⟨kn, hkn⟩ : ∃ kn, A.known = kn := ⟨_, rfl⟩
  have HLf := hide (life_any w3 b0 A _ HQ3.out.l0)
  rw [hkn] at HLf
  have HKn := hide hkn
  have hkl : kn ≤ 1 := by rw [← hkn]; exact HQ3.out.a.known
  obtain ⟨p0, p2, p3, p4, p5, p6, pf, hpb⟩ := HQ3.out.cells
  clear hw3 hb3 hf3 hg3 g6' gf hg6 HF2 HG2 HB2 HB1 HQ0 hkn
  go_wp2_with fail
  refine HLf.out.mono ?_
  rintro e w4 ⟨rfl, rfl⟩
  obtain ⟨g0, g1, g2, g3, g4, g5, g6, -⟩ := blk7 HG3.out
  have hg6 := C.lt_of_block HG3.out
  have hlb := C.lt_of_block HQ3.out.l0
  have hfit : (⟨A.other, A.me, 1, y, 0, 0, []⟩ : Fr).fit := by
    have := wfr_fit (me := 5) (other := 0) (y := y) (by omega) (by omega) hy
    unfold wfr at this
    rw [HQ3.out.a.other, HQ3.out.a.me]
    exact this
  have HH : Hid (∀ w', Lb w' b0 A (.slice none 0 0) → Calls Tryd.prog 7 #[.pointer (some ⟨b0, 0, none⟩), .agg #[.int .i64 5, .int .i64 0, .int .u64 1, .int .u64 (y : Int), .int .u64 0, .int .u64 0, .slice a5 0 c5]] w' fun e w'' => e = .returned (.agg #[.slice none 0 0, .bool false, .bool (decide (kn < 1)), .bool (decide (y = 1))]) ∧ Lb w'' b0 (hearW A 1 y) (.slice none 0 0) ∧ C.But b0 w' w'') := fun w' hl => by
    have := hear_word w' b0 A 1 y 0 a5 c5 hl hfit (by rw [HKn.out]; exact hkl)
    rw [HQ3.out.a.other, HQ3.out.a.me, HQ3.out.a.life, HKn.out] at this
    exact this
  obtain ⟨an, han⟩ : ∃ an, decide (kn < 1) = an := ⟨_, rfl⟩
  obtain ⟨ri, hri⟩ : ∃ ri, decide (y = 1) = ri := ⟨_, rfl⟩
  rw [han, hri] at HH
  have hd : decide ((kn : Int) < 1) = an := by rw [← han]; exact decide_eq_decide.2 (by omega)
  have hge : (kn : Int) ≤ 1 := by omega
  have heq : ((y : Int) == 1) = ri := by rw [← hri]; by_cases q : y = 1 <;> simp [q]; omega
  have HN := hide (HFo.out)
  clear HLf hfit han hri
  have hn1 : pb ≠ b0 := by have := HQ3.out.ne; omega
  have hn2 : fb + 1 ≠ b0 := by have := HN.out; omega
  have hn3 : w4.heap.size ≠ b0 := by omega
  have n1 : w4.heap.size ≠ pb := by omega
  have n2 : w4.heap.size ≠ fb + 1 := by omega
  go_upto_region 7 with (fail)
  go_cut [8] from 27 to 34 (fun s8 wc => ∃ hx, s8 = .pointer (some ⟨hx, 0, none⟩) ∧ Hid (wc.heap[hx]? = some (.cells #[.slice none 0 0, .bool false, .bool an, .bool ri] 29 (0, 0)) ∧ Qs w wc pb b0 b1 W M (hearW A 1 y) B sv es ∧ wc.heap[fb]? = some (.cells #[.int .i64 5, .int .i64 0, .int .u64 1, .int .u64 (y : Int), .int .u64 0, .int .u64 0, .slice sq 0 c] 32 (0, 0))))
  case first =>
    go_region_held3 (fun w' => w'.cell? ⟨pb, 4, none⟩ = some (.pointer (some ⟨b0, 0, none⟩)) ∧ w'.cell? ⟨fb + 1, 0, none⟩ = some (.int .i64 5) ∧ w'.cell? ⟨fb + 1, 1, none⟩ = some (.int .i64 0) ∧ w'.cell? ⟨fb + 1, 2, none⟩ = some (.int .u64 1) ∧ w'.cell? ⟨fb + 1, 3, none⟩ = some (.int .u64 (y : Int)) ∧ w'.cell? ⟨fb + 1, 4, none⟩ = some (.int .u64 0) ∧ w'.cell? ⟨fb + 1, 5, none⟩ = some (.int .u64 0) ∧ w'.cell? ⟨fb + 1, 6, none⟩ = some (.slice a5 0 c5)) (go_keep) (first | (go_at_call 7; refine (HH.out _ (by first | exact HQ3.out.l0 | exact HQ3.out.l0.below ((Below.refl _ _).alloc (Nat.le_refl _) _).drew)).mono ?_; rintro e w5 ⟨rfl, hl5, hb5⟩; have hk5 : ∀ k, k < w4.heap.size → k ≠ b0 → w5.heap[k]? = w4.heap[k]? := (by first | exact (fun k hk hn => hb5.block k hk hn) | exact (fun k hk hn => (hb5.block k (by simp; omega) hn).trans (Below.heap_alloc _ _ _ hk))); have p4n := (World.cell?_of_block (a := ⟨pb, 4, none⟩) (hk5 pb hpb hn1)).trans p4; have g0n := (World.cell?_of_block (a := ⟨fb + 1, 0, none⟩) (hk5 (fb + 1) hg6 hn2)).trans g0; have g1n := (World.cell?_of_block (a := ⟨fb + 1, 1, none⟩) (hk5 (fb + 1) hg6 hn2)).trans g1; have g2n := (World.cell?_of_block (a := ⟨fb + 1, 2, none⟩) (hk5 (fb + 1) hg6 hn2)).trans g2; have g3n := (World.cell?_of_block (a := ⟨fb + 1, 3, none⟩) (hk5 (fb + 1) hg6 hn2)).trans g3; have g4n := (World.cell?_of_block (a := ⟨fb + 1, 4, none⟩) (hk5 (fb + 1) hg6 hn2)).trans g4; have g5n := (World.cell?_of_block (a := ⟨fb + 1, 5, none⟩) (hk5 (fb + 1) hg6 hn2)).trans g5; have g6n := (World.cell?_of_block (a := ⟨fb + 1, 6, none⟩) (hk5 (fb + 1) hg6 hn2)).trans g6; (first | (have hz5 := (hb5.block w4.heap.size (by simp) hn3).trans (heap_alloc_new _ _); obtain ⟨zz0, zz1, zz2, zz3, zzf⟩ := blk4 hz5; have HZ5 := hide hz5; clear hz5) | skip); have HL5 := hide hl5; have HB5 := hide hb5; have HK5 := hide hk5; have hs5 : w4.heap.size ≤ w5.heap.size := (by have := hb5.size; simp at this; omega); clear hl5 hb5 hk5))
    all_goals go_wp2_with fail
    all_goals go_meet
    · have hQ5 := (HQ3.out.below ((Below.refl _ _).drew)).side0 HL5.out HB5.out (HQ3.out.a.hear y)
      have hb6 : Below w5.heap.size w5 (w5.alloc (.cells #[.slice none 0 0, .bool false, .bool an, .bool ri] 29)) := (Below.refl _ _).alloc (Nat.le_refl _) _
      have hf5 := (HK5.out fb (C.lt_of_block HF3.out) (by have := HN.out; omega)).trans HF3.out
      exact ⟨_, rfl, hide ⟨heap_alloc_new _ _, hQ5.below hb6, (hb6.block fb (C.lt_of_block hf5)).trans hf5⟩⟩
    · have hQ5 := (HQ3.out.below (((Below.refl _ _).alloc (Nat.le_refl _) _).drew)).side0 HL5.out HB5.out (HQ3.out.a.hear y)
      have hf5 := (HK5.out fb (C.lt_of_block HF3.out) (by have := HN.out; omega)).trans HF3.out
      have hfn : fb ≠ w4.heap.size := by have := C.lt_of_block HF3.out; omega
      have hx1 : w4.heap.size ≠ pb ∧ w4.heap.size ≠ b0 ∧ w4.heap.size ≠ b1 := by have := C.lt_of_block HQ3.out.l0; have := C.lt_of_block HQ3.out.l1; omega
      have hx2 : ∀ g, sv.ownBlock = some g → g ≠ w4.heap.size := fun g hg => by have := rk_lt HQ3.out.sent hg; omega
      have hx3 := HQ3.out.bel.size
      exact ⟨_, rfl, hide ⟨put4g HZ5.out _ _ _ _, (((hQ5.setNew hx1 hx2 hx3 0 _).setNew hx1 hx2 hx3 1 _).setNew hx1 hx2 hx3 2 _).setNew hx1 hx2 hx3 3 _, ((Below.heap_setCell _ _ _ _ hfn).trans ((Below.heap_setCell _ _ _ _ hfn).trans ((Below.heap_setCell _ _ _ _ hfn).trans (Below.heap_setCell _ _ _ _ hfn)))).trans hf5⟩⟩
  case rest =>
    obtain ⟨hx, rfl, HR⟩ := hcut
    clear p0 p2 p3 p4 p5 p6 pf hpb g0 g1 g2 g3 g4 g5 g6 hg6 hlb HH HQ3 HF3 HG3 hn1 hn2 hn3 n1 n2 HN HFo HW
    obtain ⟨h0, h1, h2, h3, -⟩ := blk4 HR.out.1
    obtain ⟨f0, f1, f2, f3, f4, f5, f6, -⟩ := blk7 HR.out.2.2
    obtain ⟨p0, p2, p3, p4, p5, p6, pf, hpb⟩ := HR.out.2.1.cells
    go_upto_region 8 with (fail)
    refine wp_region_held_drew (S := (fun w' => w'.cell? ⟨hx, 1, none⟩ = some (.bool false) ∧ w'.cell? ⟨hx, 2, none⟩ = some (.bool an) ∧ w'.cell? ⟨hx, 3, none⟩ = some (.bool ri) ∧ w'.cell? ⟨fb, 2, none⟩ = some (.int .u64 1) ∧ w'.cell? ⟨fb, 3, none⟩ = some (.int .u64 (y : Int)) ∧ w'.cell? ⟨pb, 2, none⟩ = some (.int .u64 1))) (by kernel_rfl) (by go_keep) (fun hHeld => ?_)
    refine wpAnyH_take (i := 0) (oi := { dst := some 35, op := Op.fieldAddr 29 (Operand.tmp 8) 2, type := 0, pos := _, after := _, guard := _ }) (v := ?ve00) rfl (by kernel_rfl) (by kernel_rfl) (by kernel_rfl) (fun _ _ _ h => h) (Or.inl ⟨by rfl, ?ye00⟩) (by assumption) ?re00
    case ye00 => (intro w hSw; (try dsimp only at hSw); go_simp; try with_reducible rfl)
    try simp only [Act.put, List.setIfInBounds_toArray, List.set_cons_zero, List.set_cons_succ]
    refine wpAnyH_take (i := 1) (oi := { dst := some 36, op := Op.load 4 (Operand.tmp 35), type := 4, pos := _, after := _, guard := _ }) (v := ?ve01) rfl (by kernel_rfl) (by kernel_rfl) (by kernel_rfl) (fun _ _ _ h => h) (Or.inl ⟨by rfl, ?ye01⟩) (by assumption) ?re01
    case ye01 => (intro w hSw; (try dsimp only at hSw); go_simp; try with_reducible rfl)
    try simp only [Act.put, List.setIfInBounds_toArray, List.set_cons_zero, List.set_cons_succ]
    refine wpAnyH_take (i := 2) (oi := { dst := some 37, op := Op.fieldAddr 32 (Operand.tmp 3) 2, type := 0, pos := _, after := _, guard := _ }) (v := ?ve02) rfl (by kernel_rfl) (by kernel_rfl) (by kernel_rfl) (fun _ _ _ h => h) (Or.inl ⟨by rfl, ?ye02⟩) (by assumption) ?re02
    case ye02 => (intro w hSw; (try dsimp only at hSw); go_simp; try with_reducible rfl)
    try simp only [Act.put, List.setIfInBounds_toArray, List.set_cons_zero, List.set_cons_succ]
    refine wpAnyH_take (i := 3) (oi := { dst := some 38, op := Op.load 26 (Operand.tmp 37), type := 26, pos := _, after := _, guard := _ }) (v := ?ve03) rfl (by kernel_rfl) (by kernel_rfl) (by kernel_rfl) (fun _ _ _ h => h) (Or.inl ⟨by rfl, ?ye03⟩) (by assumption) ?re03
    case ye03 => (intro w hSw; (try dsimp only at hSw); go_simp; try with_reducible rfl)
    try simp only [Act.put, List.setIfInBounds_toArray, List.set_cons_zero, List.set_cons_succ]
    refine wpAnyH_take (i := 4) (oi := { dst := some 39, op := Op.move (Operand.tmp 7), type := 26, pos := _, after := _, guard := _ }) (v := ?ve04) rfl (by kernel_rfl) (by kernel_rfl) (by kernel_rfl) (fun _ _ _ h => h) (Or.inl ⟨by rfl, ?ye04⟩) (by assumption) ?re04
    case ye04 => (intro w hSw; (try dsimp only at hSw); go_simp; try with_reducible rfl)
    try simp only [Act.put, List.setIfInBounds_toArray, List.set_cons_zero, List.set_cons_succ]
    refine wpAnyH_take (i := 5) (oi := { dst := some 40, op := Op.binOp BinOp.gtr 26 (Operand.tmp 38) (Operand.tmp 39) 26, type := 4, pos := _, after := _, guard := _ }) (v := ?ve05) rfl (by kernel_rfl) (by kernel_rfl) (by kernel_rfl) (fun _ _ _ h => h) (Or.inl ⟨by rfl, ?ye05⟩) (by assumption) ?re05
    case ye05 => (intro w hSw; (try dsimp only at hSw); go_simp; try with_reducible rfl)
    try simp only [Act.put, List.setIfInBounds_toArray, List.set_cons_zero, List.set_cons_succ]
    refine wpAnyH_take (i := 6) (oi := { dst := some 41, op := Op.binOp BinOp.neq 4 (Operand.tmp 36) (Operand.tmp 40) 4, type := 4, pos := _, after := _, guard := _ }) (v := ?ve06) rfl (by kernel_rfl) (by kernel_rfl) (by kernel_rfl) (fun _ _ _ h => h) (Or.inl ⟨by rfl, ?ye06⟩) (by assumption) ?re06
    case ye06 => (intro w hSw; (try dsimp only at hSw); go_simp; try with_reducible rfl)
    try simp only [Act.put, List.setIfInBounds_toArray, List.set_cons_zero, List.set_cons_succ]
    refine wpAnyH_take (i := 7) (oi := { dst := some 42, op := Op.move (Operand.tmp 41), type := 4, pos := _, after := _, guard := _ }) (v := ?ve07) rfl (by kernel_rfl) (by kernel_rfl) (by kernel_rfl) (fun _ _ _ h => h) (Or.inl ⟨by rfl, ?ye07⟩) (by assumption) ?re07
    case ye07 => (intro w hSw; (try dsimp only at hSw); go_simp; try with_reducible rfl)
    try simp only [Act.put, List.setIfInBounds_toArray, List.set_cons_zero, List.set_cons_succ]
    refine wpAnyH_take (i := 8) (oi := { dst := some 43, op := Op.fieldAddr 29 (Operand.tmp 8) 1, type := 0, pos := _, after := _, guard := _ }) (v := ?ve08) rfl (by kernel_rfl) (by kernel_rfl) (by kernel_rfl) (fun _ _ _ h => h) (Or.inl ⟨by rfl, ?ye08⟩) (by assumption) ?re08
    case ye08 => (intro w hSw; (try dsimp only at hSw); go_simp; try with_reducible rfl)
    try simp only [Act.put, List.setIfInBounds_toArray, List.set_cons_zero, List.set_cons_succ]
    refine wpAnyH_take (i := 9) (oi := { dst := some 44, op := Op.load 4 (Operand.tmp 43), type := 4, pos := _, after := _, guard := _ }) (v := ?ve09) rfl (by kernel_rfl) (by kernel_rfl) (by kernel_rfl) (fun _ _ _ h => h) (Or.inl ⟨by rfl, ?ye09⟩) (by assumption) ?re09
    case ye09 => (intro w hSw; (try dsimp only at hSw); go_simp; try with_reducible rfl)
    try simp only [Act.put, List.setIfInBounds_toArray, List.set_cons_zero, List.set_cons_succ]
    refine wpAnyH_take (i := 10) (oi := { dst := some 45, op := Op.move (Operand.tmp 44), type := 4, pos := _, after := _, guard := _ }) (v := ?ve010) rfl (by kernel_rfl) (by kernel_rfl) (by kernel_rfl) (fun _ _ _ h => h) (Or.inl ⟨by rfl, ?ye010⟩) (by assumption) ?re010
    case ye010 => (intro w hSw; (try dsimp only at hSw); go_simp; try with_reducible rfl)
    try simp only [Act.put, List.setIfInBounds_toArray, List.set_cons_zero, List.set_cons_succ]
    refine wpAnyH_take (i := 11) (oi := { dst := some 46, op := Op.fieldAddr 29 (Operand.tmp 8) 3, type := 0, pos := _, after := _, guard := _ }) (v := undef) rfl (by kernel_rfl) (by kernel_rfl) (by kernel_rfl) (fun _ _ _ h => h) (Or.inr ⟨by rfl, rfl⟩) (by assumption) ?_
    try simp only [Act.put, List.setIfInBounds_toArray, List.set_cons_zero, List.set_cons_succ]
    refine wpAnyH_take (i := 12) (oi := { dst := some 47, op := Op.load 4 (Operand.tmp 46), type := 4, pos := _, after := _, guard := _ }) (v := undef) rfl (by kernel_rfl) (by kernel_rfl) (by kernel_rfl) (fun _ _ _ h => h) (Or.inr ⟨by rfl, rfl⟩) (by assumption) ?_
    try simp only [Act.put, List.setIfInBounds_toArray, List.set_cons_zero, List.set_cons_succ]
    refine wpAnyH_take (i := 13) (oi := { dst := some 48, op := Op.unOp UnOp.not 4 (Operand.tmp 47), type := 4, pos := _, after := _, guard := _ }) (v := undef) rfl (by kernel_rfl) (by kernel_rfl) (by kernel_rfl) (fun _ _ _ h => h) (Or.inr ⟨by rfl, rfl⟩) (by assumption) ?_
    try simp only [Act.put, List.setIfInBounds_toArray, List.set_cons_zero, List.set_cons_succ]
    refine wpAnyH_take (i := 14) (oi := { dst := some 49, op := Op.pick (Operand.tmp 45) (Operand.tmp 48) (Operand.const (Value.bool false)), type := 4, pos := _, after := _, guard := _ }) (v := ?ve014) rfl (by kernel_rfl) (by kernel_rfl) (by kernel_rfl) (fun _ _ _ h => h) (Or.inl ⟨by rfl, ?ye014⟩) (by assumption) ?re014
    case ye014 => (intro w hSw; (try dsimp only at hSw); go_simp; try with_reducible rfl)
    try simp only [Act.put, List.setIfInBounds_toArray, List.set_cons_zero, List.set_cons_succ]
    refine wpAnyH_take (i := 15) (oi := { dst := some 50, op := Op.pick (Operand.tmp 42) (Operand.const (Value.bool true)) (Operand.tmp 49), type := 4, pos := _, after := _, guard := _ }) (v := ?ve015) rfl (by kernel_rfl) (by kernel_rfl) (by kernel_rfl) (fun _ _ _ h => h) (Or.inl ⟨by rfl, ?ye015⟩) (by assumption) ?re015
    case ye015 => (intro w hSw; (try dsimp only at hSw); go_simp; try with_reducible rfl)
    try simp only [Act.put, List.setIfInBounds_toArray, List.set_cons_zero, List.set_cons_succ]
    refine wpAnyH_take (i := 16) (oi := { dst := some 51, op := Op.move (Operand.tmp 50), type := 4, pos := _, after := _, guard := _ }) (v := ?ve016) rfl (by kernel_rfl) (by kernel_rfl) (by kernel_rfl) (fun _ _ _ h => h) (Or.inl ⟨by rfl, ?ye016⟩) (by assumption) ?re016
    case ye016 => (intro w hSw; (try dsimp only at hSw); go_simp; try with_reducible rfl)
    try simp only [Act.put, List.setIfInBounds_toArray, List.set_cons_zero, List.set_cons_succ]
    refine wpAnyH_take (i := 17) (oi := { dst := some 52, op := Op.fieldAddr 29 (Operand.tmp 8) 3, type := 0, pos := _, after := _, guard := _ }) (v := ?ve017) rfl (by kernel_rfl) (by kernel_rfl) (by kernel_rfl) (fun _ _ _ h => h) (Or.inl ⟨by rfl, ?ye017⟩) (by assumption) ?re017
    case ye017 => (intro w hSw; (try dsimp only at hSw); go_simp; try with_reducible rfl)
    try simp only [Act.put, List.setIfInBounds_toArray, List.set_cons_zero, List.set_cons_succ]
    refine wpAnyH_take (i := 18) (oi := { dst := some 53, op := Op.load 4 (Operand.tmp 52), type := 4, pos := _, after := _, guard := _ }) (v := ?ve018) rfl (by kernel_rfl) (by kernel_rfl) (by kernel_rfl) (fun _ _ _ h => h) (Or.inl ⟨by rfl, ?ye018⟩) (by assumption) ?re018
    case ye018 => (intro w hSw; (try dsimp only at hSw); go_simp; try with_reducible rfl)
    try simp only [Act.put, List.setIfInBounds_toArray, List.set_cons_zero, List.set_cons_succ]
    refine wpAnyH_take (i := 19) (oi := { dst := some 54, op := Op.fieldAddr 32 (Operand.tmp 3) 2, type := 0, pos := _, after := _, guard := _ }) (v := ?ve019) rfl (by kernel_rfl) (by kernel_rfl) (by kernel_rfl) (fun _ _ _ h => h) (Or.inl ⟨by rfl, ?ye019⟩) (by assumption) ?re019
    case ye019 => (intro w hSw; (try dsimp only at hSw); go_simp; try with_reducible rfl)
    try simp only [Act.put, List.setIfInBounds_toArray, List.set_cons_zero, List.set_cons_succ]
    refine wpAnyH_take (i := 20) (oi := { dst := some 55, op := Op.load 26 (Operand.tmp 54), type := 26, pos := _, after := _, guard := _ }) (v := ?ve020) rfl (by kernel_rfl) (by kernel_rfl) (by kernel_rfl) (fun _ _ _ h => h) (Or.inl ⟨by rfl, ?ye020⟩) (by assumption) ?re020
    case ye020 => (intro w hSw; (try dsimp only at hSw); go_simp; try with_reducible rfl)
    try simp only [Act.put, List.setIfInBounds_toArray, List.set_cons_zero, List.set_cons_succ]
    refine wpAnyH_take (i := 21) (oi := { dst := some 56, op := Op.move (Operand.tmp 7), type := 26, pos := _, after := _, guard := _ }) (v := ?ve021) rfl (by kernel_rfl) (by kernel_rfl) (by kernel_rfl) (fun _ _ _ h => h) (Or.inl ⟨by rfl, ?ye021⟩) (by assumption) ?re021
    case ye021 => (intro w hSw; (try dsimp only at hSw); go_simp; try with_reducible rfl)
    try simp only [Act.put, List.setIfInBounds_toArray, List.set_cons_zero, List.set_cons_succ]
    refine wpAnyH_take (i := 22) (oi := { dst := some 57, op := Op.binOp BinOp.geq 26 (Operand.tmp 55) (Operand.tmp 56) 26, type := 4, pos := _, after := _, guard := _ }) (v := ?ve022) rfl (by kernel_rfl) (by kernel_rfl) (by kernel_rfl) (fun _ _ _ h => h) (Or.inl ⟨by rfl, ?ye022⟩) (by assumption) ?re022
    case ye022 => (intro w hSw; (try dsimp only at hSw); go_simp; try with_reducible rfl)
    try simp only [Act.put, List.setIfInBounds_toArray, List.set_cons_zero, List.set_cons_succ]
    refine wpAnyH_take (i := 23) (oi := { dst := some 58, op := Op.move (Operand.tmp 57), type := 4, pos := _, after := _, guard := _ }) (v := ?ve023) rfl (by kernel_rfl) (by kernel_rfl) (by kernel_rfl) (fun _ _ _ h => h) (Or.inl ⟨by rfl, ?ye023⟩) (by assumption) ?re023
    case ye023 => (intro w hSw; (try dsimp only at hSw); go_simp; try with_reducible rfl)
    try simp only [Act.put, List.setIfInBounds_toArray, List.set_cons_zero, List.set_cons_succ]
    refine wpAnyH_take (i := 24) (oi := { dst := some 59, op := Op.fieldAddr 32 (Operand.tmp 3) 3, type := 0, pos := _, after := _, guard := _ }) (v := ?ve024) rfl (by kernel_rfl) (by kernel_rfl) (by kernel_rfl) (fun _ _ _ h => h) (Or.inl ⟨by rfl, ?ye024⟩) (by assumption) ?re024
    case ye024 => (intro w hSw; (try dsimp only at hSw); go_simp; try with_reducible rfl)
    try simp only [Act.put, List.setIfInBounds_toArray, List.set_cons_zero, List.set_cons_succ]
    refine wpAnyH_take (i := 25) (oi := { dst := some 60, op := Op.load 26 (Operand.tmp 59), type := 26, pos := _, after := _, guard := _ }) (v := ?ve025) rfl (by kernel_rfl) (by kernel_rfl) (by kernel_rfl) (fun _ _ _ h => h) (Or.inl ⟨by rfl, ?ye025⟩) (by assumption) ?re025
    case ye025 => (intro w hSw; (try dsimp only at hSw); go_simp; try with_reducible rfl)
    try simp only [Act.put, List.setIfInBounds_toArray, List.set_cons_zero, List.set_cons_succ]
    refine wpAnyH_take (i := 26) (oi := { dst := some 61, op := Op.move (Operand.tmp 0), type := 45, pos := _, after := _, guard := _ }) (v := ?ve026) rfl (by kernel_rfl) (by kernel_rfl) (by kernel_rfl) (fun _ _ _ h => h) (Or.inl ⟨by rfl, ?ye026⟩) (by assumption) ?re026
    case ye026 => (intro w hSw; (try dsimp only at hSw); go_simp; try with_reducible rfl)
    try simp only [Act.put, List.setIfInBounds_toArray, List.set_cons_zero, List.set_cons_succ]
    refine wpAnyH_take (i := 27) (oi := { dst := some 62, op := Op.move (Operand.tmp 5), type := 3, pos := _, after := _, guard := _ }) (v := ?ve027) rfl (by kernel_rfl) (by kernel_rfl) (by kernel_rfl) (fun _ _ _ h => h) (Or.inl ⟨by rfl, ?ye027⟩) (by assumption) ?re027
    case ye027 => (intro w hSw; (try dsimp only at hSw); go_simp; try with_reducible rfl)
    try simp only [Act.put, List.setIfInBounds_toArray, List.set_cons_zero, List.set_cons_succ]
    refine wpAnyH_take (i := 28) (oi := { dst := some 63, op := Op.nilCheck (Operand.tmp 61), type := 0, pos := _, after := _, guard := _ }) (v := ?ve028) rfl (by kernel_rfl) (by kernel_rfl) (by kernel_rfl) (fun _ _ _ h => h) (Or.inl ⟨by rfl, ?ye028⟩) (by assumption) ?re028
    case ye028 => (intro w hSw; (try dsimp only at hSw); go_simp; try with_reducible rfl)
    try simp only [Act.put, List.setIfInBounds_toArray, List.set_cons_zero, List.set_cons_succ]
    refine wpAnyH_take (i := 29) (oi := { dst := some 64, op := Op.fieldAddr 53 (Operand.tmp 63) 2, type := 0, pos := _, after := _, guard := _ }) (v := ?ve029) rfl (by kernel_rfl) (by kernel_rfl) (by kernel_rfl) (fun _ _ _ h => h) (Or.inl ⟨by rfl, ?ye029⟩) (by assumption) ?re029
    case ye029 => (intro w hSw; (try dsimp only at hSw); go_simp; try with_reducible rfl)
    try simp only [Act.put, List.setIfInBounds_toArray, List.set_cons_zero, List.set_cons_succ]
    refine wpAnyH_take (i := 30) (oi := { dst := some 65, op := Op.indexAddr 47 (Operand.tmp 64) (Operand.tmp 62), type := 0, pos := _, after := _, guard := _ }) (v := ?ve030) rfl (by kernel_rfl) (by kernel_rfl) (by kernel_rfl) (fun _ _ _ h => h) (Or.inl ⟨by rfl, ?ye030⟩) (by assumption) ?re030
    case ye030 => (intro w hSw; (try dsimp only at hSw); go_simp; try with_reducible rfl)
    try simp only [Act.put, List.setIfInBounds_toArray, List.set_cons_zero, List.set_cons_succ]
    refine wpAnyH_take (i := 31) (oi := { dst := some 66, op := Op.load 26 (Operand.tmp 65), type := 26, pos := _, after := _, guard := _ }) (v := ?ve031) rfl (by kernel_rfl) (by kernel_rfl) (by kernel_rfl) (fun _ _ _ h => h) (Or.inl ⟨by rfl, ?ye031⟩) (by assumption) ?re031
    case ye031 => (intro w hSw; (try dsimp only at hSw); go_simp; try with_reducible rfl)
    try simp only [Act.put, List.setIfInBounds_toArray, List.set_cons_zero, List.set_cons_succ]
    refine wpAnyH_take (i := 32) (oi := { dst := some 67, op := Op.binOp BinOp.eql 26 (Operand.tmp 60) (Operand.tmp 66) 26, type := 4, pos := _, after := _, guard := _ }) (v := ?ve032) rfl (by kernel_rfl) (by kernel_rfl) (by kernel_rfl) (fun _ _ _ h => h) (Or.inl ⟨by rfl, ?ye032⟩) (by assumption) ?re032
    case ye032 => (intro w hSw; (try dsimp only at hSw); go_simp; try with_reducible rfl)
    try simp only [Act.put, List.setIfInBounds_toArray, List.set_cons_zero, List.set_cons_succ]
    refine wpAnyH_take (i := 33) (oi := { dst := some 68, op := Op.pick (Operand.tmp 58) (Operand.tmp 67) (Operand.const (Value.bool false)), type := 4, pos := _, after := _, guard := _ }) (v := ?ve033) rfl (by kernel_rfl) (by kernel_rfl) (by kernel_rfl) (fun _ _ _ h => h) (Or.inl ⟨by rfl, ?ye033⟩) (by assumption) ?re033
    case ye033 => (intro w hSw; (try dsimp only at hSw); go_simp; try with_reducible rfl)
    try simp only [Act.put, List.setIfInBounds_toArray, List.set_cons_zero, List.set_cons_succ]
    refine wpAnyH_take (i := 34) (oi := { dst := some 69, op := Op.binOp BinOp.neq 4 (Operand.tmp 53) (Operand.tmp 68) 4, type := 4, pos := _, after := _, guard := _ }) (v := ?ve034) rfl (by kernel_rfl) (by kernel_rfl) (by kernel_rfl) (fun _ _ _ h => h) (Or.inl ⟨by rfl, ?ye034⟩) (by assumption) ?re034
    case ye034 => (intro w hSw; (try dsimp only at hSw); go_simp; try with_reducible rfl)
    try simp only [Act.put, List.setIfInBounds_toArray, List.set_cons_zero, List.set_cons_succ]
    refine wpAnyH_take (i := 35) (oi := { dst := some 70, op := Op.pick (Operand.tmp 51) (Operand.const (Value.bool true)) (Operand.tmp 69), type := 4, pos := _, after := _, guard := _ }) (v := ?ve035) rfl (by kernel_rfl) (by kernel_rfl) (by kernel_rfl) (fun _ _ _ h => h) (Or.inl ⟨by rfl, ?ye035⟩) (by assumption) ?re035
    case ye035 => (intro w hSw; (try dsimp only at hSw); go_simp; try with_reducible rfl)
    try simp only [Act.put, List.setIfInBounds_toArray, List.set_cons_zero, List.set_cons_succ]
    refine wpAnyH_done (by kernel_rfl) ?_ _
    go_wp2
    go_ret
    exact ⟨rfl, HR.out.2.1.below ((Below.refl _ _).drew)⟩
end Go.Proofs.YtephfdnneplcnaaDoor
