import Derived.Test.YtephfdnneplcnaaDoorLqD
namespace Go.Proofs.YtephfdnneplcnaaDoor
open Go.RowKit

set_option maxRecDepth 100000 in
set_option maxHeartbeats 4000000 in
set_option linter.unusedSimpArgs false in
theorem tick0 (w wr : World) (pb b0 b1 W M : Nat) (A B : Lk) (sv : Value) (es : List Fe) (h : Qs w wr pb b0 b1 W M A B sv es) (hes : es.length ≤ 1000) :
    Calls Tryd.prog 37 #[.pointer (some ⟨pb, 0, none⟩), .int .i64 0] wr fun e w' => e = .returned (.bool true) ∧ ((saysN A = false ∧ Qs w w' pb b0 b1 W M (tickN A) B sv es) ∨ (saysN A = true ∧ ∃ sv' sq, Qs w w' pb b0 b1 W M (tickN A) B sv' (es ++ [⟨wfr 0 5 A.known, sq, 0⟩]))) := by
  obtain ⟨sa, sc, rfl, hsl, hsc⟩ := h.form
  obtain ⟨p0, p2, p3, p4, p5, p6, pf, hpb⟩ := h.cells
  have HTk := hide (tick_nil wr b0 A h.l0 h.a.win h.a.pok h.tb (by have := h.lo; have := h.tab.pos; omega))
  have HQ := hide h
  have hW := h.w1
  have hW0 : (0 : Int) ≤ (W : Int) := by omega
  have hW1 : (1 : Int) ≤ (W : Int) := by omega
  have HFr := hide (h.a.fr)
  have HKn := hide (h.a.known)
  clear h
  go_enter Tryd.func37, Tryd.ntmps37
  go_wp2_with fail
  refine HTk.out.mono ?_
  rintro e w2 ⟨hbt, hl2, hor⟩
  have HQ2 := hide (HQ.out.side0 hl2 hbt HQ.out.a.tick)
  clear p0 p2 p3 p4 p5 p6 pf hpb HTk
  obtain ⟨p0, p2, p3, p4, p5, p6, pf, hpb⟩ := HQ2.out.cells
  rcases hor with ⟨hs, rfl⟩ | ⟨hs, g, cp, sq, m, rfl, hc, hm, hby⟩
  · have HS := hide hs
    clear hs hbt hl2
    go_wp2
    refine wp_loop_rounds 1 ?_
    rw [rounds_succ]
    go_wp2
    go_ret
    exact ⟨rfl, Or.inl ⟨HS.out, HQ2.out⟩⟩
  · have HS := hide hs
    rw [HFr.out] at hm hby
    have hfit : (wfr 0 5 A.known).fit := wfr_fit (by omega) (by omega) HKn.out
    have hen : encB (wfr 0 5 A.known) = (wfr 0 5 A.known).bytes := by unfold encB; rw [if_pos hfit]
    have HEl := hide (encB_len (wfr 0 5 A.known))
    rw [hen] at hm hby HEl
    have HDc := hide (dec_bytes hfit (wfr_small 0 5 A.known))
    have HD := hide (dec_any w2 sq m m _ hm.symm (Nat.le_refl _) (by have := HEl.out; omega) (Bytes.of_c hby) HQ2.out.tb)
    generalize (wfr 0 5 A.known).bytes = FB at *
    obtain ⟨kn, hkn⟩ : ∃ kn, A.known = kn := ⟨_, rfl⟩
    rw [hkn] at HDc HKn
    have HKe := hide hkn
    have HLf : ∀ w', Below w2.heap.size w2 w' → Hid (Calls Tryd.prog 62 #[.pointer (some ⟨b0, 0, none⟩)] w' fun e w'' => e = .returned (.int .u64 (kn : Int)) ∧ w'' = w') := fun w' hb => by
      have := life_any w' b0 _ _ (HQ2.out.below hb).l0
      rw [(tickN_same A).2.2.2.2.1, HKe.out] at this
      exact this
    have HC := hide hc
    clear hs hbt hl2 hm hby hen hfit hkn p0 p2 p3 p4 p5 p6 pf hpb hc
    go_wp2
    go_loopw [6] (fun iv w' => (iv = .int .i64 0 ∧ Hid (w' = w2)) ∨ (iv = .int .i64 1 ∧ Hid (∃ sv' sq, Qs w w' pb b0 b1 W M (tickN A) B sv' (es ++ [⟨wfr 0 5 kn, sq, 0⟩])))) (fun iv _ => 1 - (intOf iv).toNat)
    case atStart => exact Or.inl ⟨rfl, rfl⟩
    case round =>
    rcases hrel with ⟨rfl, hwr⟩ | ⟨rfl, HR⟩
    rotate_left
    · obtain ⟨sv', sq', hq'⟩ := HR.out
      have HQ' := hide hq'
      obtain ⟨p0, p2, p3, p4, p5, p6, pf, hpb⟩ := hq'.cells
      clear hq' HR
      go_wp2
      go_ret
      exact ⟨rfl, Or.inr ⟨HS.out, sv', sq', by rw [HKe.out]; exact HQ'.out⟩⟩
    rename World => wq
    have hwq : w2 = wq := Eq.symm hwr
    subst hwq
    clear hwr
    have hc := HC.out
    obtain ⟨p0, p2, p3, p4, p5, p6, pf, hpb⟩ := HQ2.out.cells
    go_wp2_with fail
    refine HD.out.mono ?_
    rintro e w3 hdp
    rcases hdp with ⟨f, sq7, hd, rfl, hmi, hb3⟩ | ⟨hd, _, _⟩
    rotate_left
    · rw [HDc.out] at hd; cases hd
    rw [HDc.out] at hd
    cases hd
    have hv : frV (wfr 0 5 kn) sq7 (wfr 0 5 kn).body.length = .agg #[.int .i64 0, .int .i64 5, .int .u64 1, .int .u64 (kn : Int), .int .u64 0, .int .u64 0, .slice sq7 0 0] := rfl
    rw [hv]
    have HB3 := hide hb3
    clear hv hmi hb3 hc HD
    go_upto_region 6 with (fail)
    obtain ⟨w4, hw4⟩ : ∃ w4, w3.alloc (.cells #[.int .i64 0, .int .i64 5, .int .u64 1, .int .u64 (kn : Int), .int .u64 0, .int .u64 0, .slice sq7 0 0] 32) = w4 := ⟨_, rfl⟩
    rw [hw4]
    obtain ⟨bx, hbx'⟩ : ∃ bx, w3.heap.size = bx := ⟨_, rfl⟩
    have hk4 : w4.heap[bx]? = some (.cells #[.int .i64 0, .int .i64 5, .int .u64 1, .int .u64 (kn : Int), .int .u64 0, .int .u64 0, .slice sq7 0 0] 32 (0, 0)) := by rw [← hw4, ← hbx']; exact heap_alloc_new _ _
    have hb4 : Below w2.heap.size w2 w4 := HB3.out.trans (by rw [← hw4]; exact (Below.refl _ _).alloc HB3.out.size _)
    have HQ4 := hide (HQ2.out.below hb4)
    have hbx := C.lt_of_block hk4
    rw [hbx']
    obtain ⟨x0, x1, x2, x3, x4, x5, x6, -⟩ := blk7 hk4
    clear p0 p2 p3 p4 p5 p6 pf hpb
    obtain ⟨p0, p2, p3, p4, p5, p6, pf, hpb⟩ := HQ4.out.cells
    have HLf4 := HLf w4.drew ((hb4.trans ((Below.refl _ _).mono hb4.size)).drew)
    have HK4 := hide hk4
    clear hw4 hbx' hk4 hb4 HLf HB3
    have z0 : IntKind.i64.wrap 0 = 0 := by rfl
    have z5 : IntKind.i64.wrap 5 = 5 := by rfl
    have z6 : (5 : Int) - 0 = 5 := by rfl
    refine wp_region_held_drew (S := (fun w' => w'.cell? ⟨bx, 0, none⟩ = some (.int .i64 0) ∧ w'.cell? ⟨bx, 1, none⟩ = some (.int .i64 5) ∧ w'.cell? ⟨bx, 2, none⟩ = some (.int .u64 1) ∧ w'.cell? ⟨bx, 3, none⟩ = some (.int .u64 (kn : Int)) ∧ w'.cell? ⟨pb, 2, none⟩ = some (.int .u64 1) ∧ w'.cell? ⟨pb, 4, none⟩ = some (.pointer (some ⟨b0, 0, none⟩)))) (by kernel_rfl) (by go_keep) (fun hHeld => ?_)
    refine wpAnyH_take (i := 0) (oi := { dst := some 30, op := Op.move (Operand.tmp 8), type := 4, pos := _, after := _, guard := _ }) (v := ?vk0) rfl (by kernel_rfl) (by kernel_rfl) (by kernel_rfl) (fun _ _ _ h => h) (Or.inl ⟨by rfl, ?yk0⟩) (by assumption) ?rk0
    case yk0 => (intro w hSw; (try dsimp only at hSw); go_simp; try with_reducible rfl)
    try simp only [Act.put, List.setIfInBounds_toArray, List.set_cons_zero, List.set_cons_succ]
    refine wpAnyH_take (i := 1) (oi := { dst := some 31, op := Op.unOp UnOp.not 4 (Operand.tmp 30), type := 4, pos := _, after := _, guard := _ }) (v := ?vk1) rfl (by kernel_rfl) (by kernel_rfl) (by kernel_rfl) (fun _ _ _ h => h) (Or.inl ⟨by rfl, ?yk1⟩) (by assumption) ?rk1
    case yk1 => (intro w hSw; (try dsimp only at hSw); go_simp; try with_reducible rfl)
    try simp only [Act.put, List.setIfInBounds_toArray, List.set_cons_zero, List.set_cons_succ]
    refine wpAnyH_take (i := 2) (oi := { dst := some 32, op := Op.move (Operand.tmp 31), type := 4, pos := _, after := _, guard := _ }) (v := ?vk2) rfl (by kernel_rfl) (by kernel_rfl) (by kernel_rfl) (fun _ _ _ h => h) (Or.inl ⟨by rfl, ?yk2⟩) (by assumption) ?rk2
    case yk2 => (intro w hSw; (try dsimp only at hSw); go_simp; try with_reducible rfl)
    try simp only [Act.put, List.setIfInBounds_toArray, List.set_cons_zero, List.set_cons_succ]
    refine wpAnyH_take (i := 3) (oi := { dst := some 33, op := Op.fieldAddr 32 (Operand.tmp 7) 0, type := 0, pos := _, after := _, guard := _ }) (v := ?vk3) rfl (by kernel_rfl) (by kernel_rfl) (by kernel_rfl) (fun _ _ _ h => h) (Or.inl ⟨by rfl, ?yk3⟩) (by assumption) ?rk3
    case yk3 => (intro w hSw; (try dsimp only at hSw); go_simp; try with_reducible rfl)
    try simp only [Act.put, List.setIfInBounds_toArray, List.set_cons_zero, List.set_cons_succ]
    refine wpAnyH_take (i := 4) (oi := { dst := some 34, op := Op.load 3 (Operand.tmp 33), type := 3, pos := _, after := _, guard := _ }) (v := ?vk4) rfl (by kernel_rfl) (by kernel_rfl) (by kernel_rfl) (fun _ _ _ h => h) (Or.inl ⟨by rfl, ?yk4⟩) (by assumption) ?rk4
    case yk4 => (intro w hSw; (try dsimp only at hSw); go_simp; try with_reducible rfl)
    try simp only [Act.put, List.setIfInBounds_toArray, List.set_cons_zero, List.set_cons_succ]
    refine wpAnyH_take (i := 5) (oi := { dst := some 35, op := Op.move (Operand.tmp 1), type := 3, pos := _, after := _, guard := _ }) (v := ?vk5) rfl (by kernel_rfl) (by kernel_rfl) (by kernel_rfl) (fun _ _ _ h => h) (Or.inl ⟨by rfl, ?yk5⟩) (by assumption) ?rk5
    case yk5 => (intro w hSw; (try dsimp only at hSw); go_simp; try with_reducible rfl)
    try simp only [Act.put, List.setIfInBounds_toArray, List.set_cons_zero, List.set_cons_succ]
    refine wpAnyH_take (i := 6) (oi := { dst := some 36, op := Op.binOp BinOp.mul 3 (Operand.const (Value.int IntKind.i64 5)) (Operand.tmp 35) 3, type := 3, pos := _, after := _, guard := _ }) (v := ?vk6) rfl (by kernel_rfl) (by kernel_rfl) (by kernel_rfl) (fun _ _ _ h => h) (Or.inl ⟨by rfl, ?yk6⟩) (by assumption) ?rk6
    case yk6 => (intro w hSw; (try dsimp only at hSw); go_simp; try with_reducible rfl)
    try simp only [Act.put, List.setIfInBounds_toArray, List.set_cons_zero, List.set_cons_succ]
    refine wpAnyH_take (i := 7) (oi := { dst := some 37, op := Op.binOp BinOp.neq 3 (Operand.tmp 34) (Operand.tmp 36) 3, type := 4, pos := _, after := _, guard := _ }) (v := ?vk7) rfl (by kernel_rfl) (by kernel_rfl) (by kernel_rfl) (fun _ _ _ h => h) (Or.inl ⟨by rfl, ?yk7⟩) (by assumption) ?rk7
    case yk7 => (intro w hSw; (try dsimp only at hSw); go_simp; try with_reducible rfl)
    try simp only [Act.put, List.setIfInBounds_toArray, List.set_cons_zero, List.set_cons_succ]
    refine wpAnyH_take (i := 8) (oi := { dst := some 38, op := Op.pick (Operand.tmp 32) (Operand.const (Value.bool true)) (Operand.tmp 37), type := 4, pos := _, after := _, guard := _ }) (v := ?vk8) rfl (by kernel_rfl) (by kernel_rfl) (by kernel_rfl) (fun _ _ _ h => h) (Or.inl ⟨by rfl, ?yk8⟩) (by assumption) ?rk8
    case yk8 => (intro w hSw; (try dsimp only at hSw); go_simp; try with_reducible rfl)
    try simp only [Act.put, List.setIfInBounds_toArray, List.set_cons_zero, List.set_cons_succ]
    refine wpAnyH_take (i := 9) (oi := { dst := some 39, op := Op.move (Operand.tmp 38), type := 4, pos := _, after := _, guard := _ }) (v := ?vk9) rfl (by kernel_rfl) (by kernel_rfl) (by kernel_rfl) (fun _ _ _ h => h) (Or.inl ⟨by rfl, ?yk9⟩) (by assumption) ?rk9
    case yk9 => (intro w hSw; (try dsimp only at hSw); go_simp; try with_reducible rfl)
    try simp only [Act.put, List.setIfInBounds_toArray, List.set_cons_zero, List.set_cons_succ]
    refine wpAnyH_take (i := 10) (oi := { dst := some 40, op := Op.fieldAddr 32 (Operand.tmp 7) 1, type := 0, pos := _, after := _, guard := _ }) (v := ?vk10) rfl (by kernel_rfl) (by kernel_rfl) (by kernel_rfl) (fun _ _ _ h => h) (Or.inl ⟨by rfl, ?yk10⟩) (by assumption) ?rk10
    case yk10 => (intro w hSw; (try dsimp only at hSw); go_simp; try with_reducible rfl)
    try simp only [Act.put, List.setIfInBounds_toArray, List.set_cons_zero, List.set_cons_succ]
    refine wpAnyH_take (i := 11) (oi := { dst := some 41, op := Op.load 3 (Operand.tmp 40), type := 3, pos := _, after := _, guard := _ }) (v := ?vk11) rfl (by kernel_rfl) (by kernel_rfl) (by kernel_rfl) (fun _ _ _ h => h) (Or.inl ⟨by rfl, ?yk11⟩) (by assumption) ?rk11
    case yk11 => (intro w hSw; (try dsimp only at hSw); go_simp; try with_reducible rfl)
    try simp only [Act.put, List.setIfInBounds_toArray, List.set_cons_zero, List.set_cons_succ]
    refine wpAnyH_take (i := 12) (oi := { dst := some 42, op := Op.move (Operand.tmp 1), type := 3, pos := _, after := _, guard := _ }) (v := ?vk12) rfl (by kernel_rfl) (by kernel_rfl) (by kernel_rfl) (fun _ _ _ h => h) (Or.inl ⟨by rfl, ?yk12⟩) (by assumption) ?rk12
    case yk12 => (intro w hSw; (try dsimp only at hSw); go_simp; try with_reducible rfl)
    try simp only [Act.put, List.setIfInBounds_toArray, List.set_cons_zero, List.set_cons_succ]
    refine wpAnyH_take (i := 13) (oi := { dst := some 43, op := Op.binOp BinOp.mul 3 (Operand.const (Value.int IntKind.i64 5)) (Operand.tmp 42) 3, type := 3, pos := _, after := _, guard := _ }) (v := ?vk13) rfl (by kernel_rfl) (by kernel_rfl) (by kernel_rfl) (fun _ _ _ h => h) (Or.inl ⟨by rfl, ?yk13⟩) (by assumption) ?rk13
    case yk13 => (intro w hSw; (try dsimp only at hSw); go_simp; try with_reducible rfl)
    try simp only [Act.put, List.setIfInBounds_toArray, List.set_cons_zero, List.set_cons_succ]
    refine wpAnyH_take (i := 14) (oi := { dst := some 44, op := Op.binOp BinOp.sub 3 (Operand.const (Value.int IntKind.i64 5)) (Operand.tmp 43) 3, type := 3, pos := _, after := _, guard := _ }) (v := ?vk14) rfl (by kernel_rfl) (by kernel_rfl) (by kernel_rfl) (fun _ _ _ h => h) (Or.inl ⟨by rfl, ?yk14⟩) (by assumption) ?rk14
    case yk14 => (intro w hSw; (try dsimp only at hSw); go_simp; try with_reducible rfl)
    try simp only [Act.put, List.setIfInBounds_toArray, List.set_cons_zero, List.set_cons_succ]
    refine wpAnyH_take (i := 15) (oi := { dst := some 45, op := Op.binOp BinOp.neq 3 (Operand.tmp 41) (Operand.tmp 44) 3, type := 4, pos := _, after := _, guard := _ }) (v := ?vk15) rfl (by kernel_rfl) (by kernel_rfl) (by kernel_rfl) (fun _ _ _ h => h) (Or.inl ⟨by rfl, ?yk15⟩) (by assumption) ?rk15
    case yk15 => (intro w hSw; (try dsimp only at hSw); go_simp; try with_reducible rfl)
    try simp only [Act.put, List.setIfInBounds_toArray, List.set_cons_zero, List.set_cons_succ]
    refine wpAnyH_take (i := 16) (oi := { dst := some 46, op := Op.pick (Operand.tmp 39) (Operand.const (Value.bool true)) (Operand.tmp 45), type := 4, pos := _, after := _, guard := _ }) (v := ?vk16) rfl (by kernel_rfl) (by kernel_rfl) (by kernel_rfl) (fun _ _ _ h => h) (Or.inl ⟨by rfl, ?yk16⟩) (by assumption) ?rk16
    case yk16 => (intro w hSw; (try dsimp only at hSw); go_simp; try with_reducible rfl)
    try simp only [Act.put, List.setIfInBounds_toArray, List.set_cons_zero, List.set_cons_succ]
    refine wpAnyH_take (i := 17) (oi := { dst := some 47, op := Op.move (Operand.tmp 46), type := 4, pos := _, after := _, guard := _ }) (v := ?vk17) rfl (by kernel_rfl) (by kernel_rfl) (by kernel_rfl) (fun _ _ _ h => h) (Or.inl ⟨by rfl, ?yk17⟩) (by assumption) ?rk17
    case yk17 => (intro w hSw; (try dsimp only at hSw); go_simp; try with_reducible rfl)
    try simp only [Act.put, List.setIfInBounds_toArray, List.set_cons_zero, List.set_cons_succ]
    refine wpAnyH_take (i := 18) (oi := { dst := some 48, op := Op.fieldAddr 32 (Operand.tmp 7) 2, type := 0, pos := _, after := _, guard := _ }) (v := ?vk18) rfl (by kernel_rfl) (by kernel_rfl) (by kernel_rfl) (fun _ _ _ h => h) (Or.inl ⟨by rfl, ?yk18⟩) (by assumption) ?rk18
    case yk18 => (intro w hSw; (try dsimp only at hSw); go_simp; try with_reducible rfl)
    try simp only [Act.put, List.setIfInBounds_toArray, List.set_cons_zero, List.set_cons_succ]
    refine wpAnyH_take (i := 19) (oi := { dst := some 49, op := Op.load 26 (Operand.tmp 48), type := 26, pos := _, after := _, guard := _ }) (v := ?vk19) rfl (by kernel_rfl) (by kernel_rfl) (by kernel_rfl) (fun _ _ _ h => h) (Or.inl ⟨by rfl, ?yk19⟩) (by assumption) ?rk19
    case yk19 => (intro w hSw; (try dsimp only at hSw); go_simp; try with_reducible rfl)
    try simp only [Act.put, List.setIfInBounds_toArray, List.set_cons_zero, List.set_cons_succ]
    refine wpAnyH_take (i := 20) (oi := { dst := some 50, op := Op.move (Operand.tmp 0), type := 45, pos := _, after := _, guard := _ }) (v := ?vk20) rfl (by kernel_rfl) (by kernel_rfl) (by kernel_rfl) (fun _ _ _ h => h) (Or.inl ⟨by rfl, ?yk20⟩) (by assumption) ?rk20
    case yk20 => (intro w hSw; (try dsimp only at hSw); go_simp; try with_reducible rfl)
    try simp only [Act.put, List.setIfInBounds_toArray, List.set_cons_zero, List.set_cons_succ]
    refine wpAnyH_take (i := 21) (oi := { dst := some 51, op := Op.move (Operand.tmp 1), type := 3, pos := _, after := _, guard := _ }) (v := ?vk21) rfl (by kernel_rfl) (by kernel_rfl) (by kernel_rfl) (fun _ _ _ h => h) (Or.inl ⟨by rfl, ?yk21⟩) (by assumption) ?rk21
    case yk21 => (intro w hSw; (try dsimp only at hSw); go_simp; try with_reducible rfl)
    try simp only [Act.put, List.setIfInBounds_toArray, List.set_cons_zero, List.set_cons_succ]
    refine wpAnyH_take (i := 22) (oi := { dst := some 52, op := Op.nilCheck (Operand.tmp 50), type := 0, pos := _, after := _, guard := _ }) (v := ?vk22) rfl (by kernel_rfl) (by kernel_rfl) (by kernel_rfl) (fun _ _ _ h => h) (Or.inl ⟨by rfl, ?yk22⟩) (by assumption) ?rk22
    case yk22 => (intro w hSw; (try dsimp only at hSw); go_simp; try with_reducible rfl)
    try simp only [Act.put, List.setIfInBounds_toArray, List.set_cons_zero, List.set_cons_succ]
    refine wpAnyH_take (i := 23) (oi := { dst := some 53, op := Op.fieldAddr 53 (Operand.tmp 52) 2, type := 0, pos := _, after := _, guard := _ }) (v := ?vk23) rfl (by kernel_rfl) (by kernel_rfl) (by kernel_rfl) (fun _ _ _ h => h) (Or.inl ⟨by rfl, ?yk23⟩) (by assumption) ?rk23
    case yk23 => (intro w hSw; (try dsimp only at hSw); go_simp; try with_reducible rfl)
    try simp only [Act.put, List.setIfInBounds_toArray, List.set_cons_zero, List.set_cons_succ]
    refine wpAnyH_take (i := 24) (oi := { dst := some 54, op := Op.indexAddr 47 (Operand.tmp 53) (Operand.tmp 51), type := 0, pos := _, after := _, guard := _ }) (v := ?vk24) rfl (by kernel_rfl) (by kernel_rfl) (by kernel_rfl) (fun _ _ _ h => h) (Or.inl ⟨by rfl, ?yk24⟩) (by assumption) ?rk24
    case yk24 => (intro w hSw; (try dsimp only at hSw); go_simp; try with_reducible rfl)
    try simp only [Act.put, List.setIfInBounds_toArray, List.set_cons_zero, List.set_cons_succ]
    refine wpAnyH_take (i := 25) (oi := { dst := some 55, op := Op.load 26 (Operand.tmp 54), type := 26, pos := _, after := _, guard := _ }) (v := ?vk25) rfl (by kernel_rfl) (by kernel_rfl) (by kernel_rfl) (fun _ _ _ h => h) (Or.inl ⟨by rfl, ?yk25⟩) (by assumption) ?rk25
    case yk25 => (intro w hSw; (try dsimp only at hSw); go_simp; try with_reducible rfl)
    try simp only [Act.put, List.setIfInBounds_toArray, List.set_cons_zero, List.set_cons_succ]
    refine wpAnyH_take (i := 26) (oi := { dst := some 56, op := Op.binOp BinOp.neq 26 (Operand.tmp 49) (Operand.tmp 55) 26, type := 4, pos := _, after := _, guard := _ }) (v := ?vk26) rfl (by kernel_rfl) (by kernel_rfl) (by kernel_rfl) (fun _ _ _ h => h) (Or.inl ⟨by rfl, ?yk26⟩) (by assumption) ?rk26
    case yk26 => (intro w hSw; (try dsimp only at hSw); go_simp; try with_reducible rfl)
    try simp only [Act.put, List.setIfInBounds_toArray, List.set_cons_zero, List.set_cons_succ]
    refine wpAnyH_take (i := 27) (oi := { dst := some 57, op := Op.pick (Operand.tmp 47) (Operand.const (Value.bool true)) (Operand.tmp 56), type := 4, pos := _, after := _, guard := _ }) (v := ?vk27) rfl (by kernel_rfl) (by kernel_rfl) (by kernel_rfl) (fun _ _ _ h => h) (Or.inl ⟨by rfl, ?yk27⟩) (by assumption) ?rk27
    case yk27 => (intro w hSw; (try dsimp only at hSw); go_simp; try with_reducible rfl)
    try simp only [Act.put, List.setIfInBounds_toArray, List.set_cons_zero, List.set_cons_succ]
    refine wpAnyH_take (i := 28) (oi := { dst := some 58, op := Op.move (Operand.tmp 57), type := 4, pos := _, after := _, guard := _ }) (v := ?vk28) rfl (by kernel_rfl) (by kernel_rfl) (by kernel_rfl) (fun _ _ _ h => h) (Or.inl ⟨by rfl, ?yk28⟩) (by assumption) ?rk28
    case yk28 => (intro w hSw; (try dsimp only at hSw); go_simp; try with_reducible rfl)
    try simp only [Act.put, List.setIfInBounds_toArray, List.set_cons_zero, List.set_cons_succ]
    refine wpAnyH_take (i := 29) (oi := { dst := some 59, op := Op.fieldAddr 32 (Operand.tmp 7) 3, type := 0, pos := _, after := _, guard := _ }) (v := ?vk29) rfl (by kernel_rfl) (by kernel_rfl) (by kernel_rfl) (fun _ _ _ h => h) (Or.inl ⟨by rfl, ?yk29⟩) (by assumption) ?rk29
    case yk29 => (intro w hSw; (try dsimp only at hSw); go_simp; try with_reducible rfl)
    try simp only [Act.put, List.setIfInBounds_toArray, List.set_cons_zero, List.set_cons_succ]
    refine wpAnyH_take (i := 30) (oi := { dst := some 60, op := Op.load 26 (Operand.tmp 59), type := 26, pos := _, after := _, guard := _ }) (v := ?vk30) rfl (by kernel_rfl) (by kernel_rfl) (by kernel_rfl) (fun _ _ _ h => h) (Or.inl ⟨by rfl, ?yk30⟩) (by assumption) ?rk30
    case yk30 => (intro w hSw; (try dsimp only at hSw); go_simp; try with_reducible rfl)
    try simp only [Act.put, List.setIfInBounds_toArray, List.set_cons_zero, List.set_cons_succ]
    refine wpAnyH_take (i := 31) (oi := { dst := some 61, op := Op.move (Operand.tmp 0), type := 45, pos := _, after := _, guard := _ }) (v := ?vk31) rfl (by kernel_rfl) (by kernel_rfl) (by kernel_rfl) (fun _ _ _ h => h) (Or.inl ⟨by rfl, ?yk31⟩) (by assumption) ?rk31
    case yk31 => (intro w hSw; (try dsimp only at hSw); go_simp; try with_reducible rfl)
    try simp only [Act.put, List.setIfInBounds_toArray, List.set_cons_zero, List.set_cons_succ]
    refine wpAnyH_take (i := 32) (oi := { dst := some 62, op := Op.move (Operand.tmp 1), type := 3, pos := _, after := _, guard := _ }) (v := ?vk32) rfl (by kernel_rfl) (by kernel_rfl) (by kernel_rfl) (fun _ _ _ h => h) (Or.inl ⟨by rfl, ?yk32⟩) (by assumption) ?rk32
    case yk32 => (intro w hSw; (try dsimp only at hSw); go_simp; try with_reducible rfl)
    try simp only [Act.put, List.setIfInBounds_toArray, List.set_cons_zero, List.set_cons_succ]
    refine wpAnyH_take (i := 33) (oi := { dst := some 63, op := Op.nilCheck (Operand.tmp 61), type := 0, pos := _, after := _, guard := _ }) (v := ?vk33) rfl (by kernel_rfl) (by kernel_rfl) (by kernel_rfl) (fun _ _ _ h => h) (Or.inl ⟨by rfl, ?yk33⟩) (by assumption) ?rk33
    case yk33 => (intro w hSw; (try dsimp only at hSw); go_simp; try with_reducible rfl)
    try simp only [Act.put, List.setIfInBounds_toArray, List.set_cons_zero, List.set_cons_succ]
    refine wpAnyH_take (i := 34) (oi := { dst := some 64, op := Op.fieldAddr 53 (Operand.tmp 63) 3, type := 0, pos := _, after := _, guard := _ }) (v := ?vk34) rfl (by kernel_rfl) (by kernel_rfl) (by kernel_rfl) (fun _ _ _ h => h) (Or.inl ⟨by rfl, ?yk34⟩) (by assumption) ?rk34
    case yk34 => (intro w hSw; (try dsimp only at hSw); go_simp; try with_reducible rfl)
    try simp only [Act.put, List.setIfInBounds_toArray, List.set_cons_zero, List.set_cons_succ]
    refine wpAnyH_take (i := 35) (oi := { dst := some 65, op := Op.indexAddr 48 (Operand.tmp 64) (Operand.tmp 62), type := 0, pos := _, after := _, guard := _ }) (v := ?vk35) rfl (by kernel_rfl) (by kernel_rfl) (by kernel_rfl) (fun _ _ _ h => h) (Or.inl ⟨by rfl, ?yk35⟩) (by assumption) ?rk35
    case yk35 => (intro w hSw; (try dsimp only at hSw); go_simp; try with_reducible rfl)
    try simp only [Act.put, List.setIfInBounds_toArray, List.set_cons_zero, List.set_cons_succ]
    refine wpAnyH_take (i := 36) (oi := { dst := some 66, op := Op.load 24 (Operand.tmp 65), type := 24, pos := _, after := _, guard := _ }) (v := ?vk36) rfl (by kernel_rfl) (by kernel_rfl) (by kernel_rfl) (fun _ _ _ h => h) (Or.inl ⟨by rfl, ?yk36⟩) (by assumption) ?rk36
    case yk36 => (intro w hSw; (try dsimp only at hSw); go_simp; try with_reducible rfl)
    try simp only [Act.put, List.setIfInBounds_toArray, List.set_cons_zero, List.set_cons_succ]
    refine wpAnyH_ready (rs := [37]) (by kernel_rfl) (by simp) ?_
    refine AllReadyH.cons (o := { dst := some 67, op := Op.call { callee := Callee.value (Operand.func 62), args := #[Operand.tmp 66], argTypes := #[24] }, type := 26, pos := _, after := _, guard := _ }) rfl (fun KK hKK => ?_) AllReadyH.nil
    go_simp
    (go_at_call 62; refine HLf4.out.mono ?_; rintro e w5 ⟨rfl, hw5⟩; subst hw5)
    try go_wp2_with fail
    refine hKK.out _ _ (by (try dsimp only); go_keep) (fun hHeld => ?_)
    clear hKK KK
    try simp only [Act.put, List.setIfInBounds_toArray, List.set_cons_zero, List.set_cons_succ]
    refine wpAnyH_take (i := 38) (oi := { dst := some 68, op := Op.binOp BinOp.neq 26 (Operand.tmp 60) (Operand.tmp 67) 26, type := 4, pos := _, after := _, guard := _ }) (v := ?vk38) rfl (by kernel_rfl) (by kernel_rfl) (by kernel_rfl) (fun _ _ _ h => h) (Or.inl ⟨by rfl, ?yk38⟩) (by assumption) ?rk38
    case yk38 => (intro w hSw; (try dsimp only at hSw); go_simp; try with_reducible rfl)
    try simp only [Act.put, List.setIfInBounds_toArray, List.set_cons_zero, List.set_cons_succ]
    refine wpAnyH_take (i := 39) (oi := { dst := some 69, op := Op.pick (Operand.tmp 58) (Operand.const (Value.bool true)) (Operand.tmp 68), type := 4, pos := _, after := _, guard := _ }) (v := ?vk39) rfl (by kernel_rfl) (by kernel_rfl) (by kernel_rfl) (fun _ _ _ h => h) (Or.inl ⟨by rfl, ?yk39⟩) (by assumption) ?rk39
    case yk39 => (intro w hSw; (try dsimp only at hSw); go_simp; try with_reducible rfl)
    try simp only [Act.put, List.setIfInBounds_toArray, List.set_cons_zero, List.set_cons_succ]
    refine wpAnyH_done (by kernel_rfl) ?_ _
    have HQ5 := hide (HQ4.out.below ((Below.refl _ _).drew))
    have HK5 : Hid (w4.drew.heap[bx]? = some (.cells #[.int .i64 0, .int .i64 5, .int .u64 1, .int .u64 (kn : Int), .int .u64 0, .int .u64 0, .slice sq7 0 0] 32 (0, 0))) := HK4.out
    obtain ⟨w5, hw5⟩ : ∃ w5, w4.drew = w5 := ⟨_, rfl⟩
    rw [hw5] at HQ5 HK5 ⊢
    clear hw5 HQ4 HK4 HLf4 x0 x1 x2 x3 x4 x5 x6 p0 p2 p3 p4 p5 p6 pf hpb hHeld hbx z0 z5 z6
    obtain ⟨p0, p2, p3, p4, p5, p6, pf, hpb⟩ := HQ5.out.cells
    obtain ⟨x0, x1, x2, x3, x4, x5, x6, -⟩ := blk7 HK5.out
    obtain ⟨i0, hi, hz0, hz1, hz2⟩ := info_parts Tryd.infoFr
    have hbl := HQ5.out.bel.size
    go_upto_region 8 with (fail)
    go_region_law (first | (refine step_append_lies _ (by rfl) (.tmp 74) (.tmp 76) 49 (by rfl) w.heap.size 32 i0 (.agg #[.int .i64 0, .int .i64 0, .int .u64 0, .int .u64 0, .int .u64 0, .int .u64 0, .slice none 0 0]) 7 72 Tryd.underlying49 hi hz0 hz1 hz2 rfl (by omega) (.slice sa es.length sc) es.length (sentC es) (by rfl) ((HQ5.out.sent.alloc _).drew) ⟨w5.heap.size, 0, none⟩ 1 1 [.int .i64 0, .int .i64 5, .int .u64 1, .int .u64 (kn : Int), .int .u64 0, .int .u64 0, .slice sq7 0 0] (by rfl) rfl (World.news_of_block (heap_alloc_new w5 (.cells #[.int .i64 0, .int .i64 5, .int .u64 1, .int .u64 (kn : Int), .int .u64 0, .int .u64 0, .slice sq7 0 0] 32))) (by simp [Value.oneCell']) (by omega) (by unfold maxLen; omega) (by omega) (by simp; omega) _ rfl ?_; intro g' cap' w6 hown hgrow hat hltg; have hp6 := (hgrow.block pb (by simp; omega) (fun e => (HQ5.out.far pb e.symm).1 rfl)); have hpr6 : w6.heap[pb]? = some (.cells (prC W M b0 b1 (.slice sa es.length sc)) 53 (0, 0)) := (hp6.trans ((Below.heap_alloc _ _ _ hpb).trans HQ5.out.pr)); obtain ⟨-, -, -, -, -, -, q6, -, -, qf⟩ := blk9 hpr6; have hq6 := C.lt_of_block hpr6; have HO6 := hide hown; have HG6 := hide hgrow; have HA6 := hide hat; clear hown hgrow hat hp6 hpr6))
    all_goals go_wp2
    all_goals
      have hb6 : Below w5.heap.size w5 (w5.alloc (.cells #[.int .i64 0, .int .i64 5, .int .u64 1, .int .u64 (kn : Int), .int .u64 0, .int .u64 0, .slice sq7 0 0] 32)).drew := ((Below.refl _ _).alloc (Nat.le_refl _) _).drew
      refine ⟨Or.inr ⟨rfl, ⟨_, sq7, (HQ5.out.below hb6).more (e := ⟨wfr 0 5 kn, sq7, 0⟩) HG6.out HO6.out ?_⟩⟩, by simp [intOf]⟩
      rcases HA6.out with e1 | e1
      · exact Or.inl e1.symm
      · exact Or.inr ⟨g', rfl, by rw [e1]; exact Nat.le_refl _⟩
set_option maxRecDepth 100000 in
set_option maxHeartbeats 4000000 in
set_option linter.unusedSimpArgs false in
theorem tick1 (w wr : World) (pb b0 b1 W M : Nat) (A B : Lk) (sv : Value) (es : List Fe) (h : Qs w wr pb b0 b1 W M A B sv es) (hes : es.length ≤ 1000) :
    Calls Tryd.prog 37 #[.pointer (some ⟨pb, 0, none⟩), .int .i64 1] wr fun e w' => e = .returned (.bool true) ∧ ((saysN B = false ∧ Qs w w' pb b0 b1 W M A (tickN B) sv es) ∨ (saysN B = true ∧ ∃ sv' sq, Qs w w' pb b0 b1 W M A (tickN B) sv' (es ++ [⟨wfr 5 0 B.known, sq, 0⟩]))) := by
  obtain ⟨sa, sc, rfl, hsl, hsc⟩ := h.form
  obtain ⟨p0, p2, p3, p4, p5, p6, pf, hpb⟩ := h.cells
  have HTk := hide (tick_nil wr b1 B h.l1 h.b.win h.b.pok h.tb (by have := h.lo; have := h.tab.pos; omega))
  have HQ := hide h
  have hW := h.w1
  have hW0 : (0 : Int) ≤ (W : Int) := by omega
  have hW1 : (1 : Int) ≤ (W : Int) := by omega
  have HFr := hide (h.b.fr)
  have HKn := hide (h.b.known)
  clear h
  go_enter Tryd.func37, Tryd.ntmps37
  go_wp2_with fail
  refine HTk.out.mono ?_
  rintro e w2 ⟨hbt, hl2, hor⟩
  have HQ2 := hide (HQ.out.side1 hl2 hbt HQ.out.b.tick)
  clear p0 p2 p3 p4 p5 p6 pf hpb HTk
  obtain ⟨p0, p2, p3, p4, p5, p6, pf, hpb⟩ := HQ2.out.cells
  rcases hor with ⟨hs, rfl⟩ | ⟨hs, g, cp, sq, m, rfl, hc, hm, hby⟩
  · have HS := hide hs
    clear hs hbt hl2
    go_wp2
    refine wp_loop_rounds 1 ?_
    rw [rounds_succ]
    go_wp2
    go_ret
    exact ⟨rfl, Or.inl ⟨HS.out, HQ2.out⟩⟩
  · have HS := hide hs
    rw [HFr.out] at hm hby
    have hfit : (wfr 5 0 B.known).fit := wfr_fit (by omega) (by omega) HKn.out
    have hen : encB (wfr 5 0 B.known) = (wfr 5 0 B.known).bytes := by unfold encB; rw [if_pos hfit]
    have HEl := hide (encB_len (wfr 5 0 B.known))
    rw [hen] at hm hby HEl
    have HDc := hide (dec_bytes hfit (wfr_small 5 0 B.known))
    have HD := hide (dec_any w2 sq m m _ hm.symm (Nat.le_refl _) (by have := HEl.out; omega) (Bytes.of_c hby) HQ2.out.tb)
    generalize (wfr 5 0 B.known).bytes = FB at *
    obtain ⟨kn, hkn⟩ : ∃ kn, B.known = kn := ⟨_, rfl⟩
    rw [hkn] at HDc HKn
    have HKe := hide hkn
    have HLf : ∀ w', Below w2.heap.size w2 w' → Hid (Calls Tryd.prog 62 #[.pointer (some ⟨b1, 0, none⟩)] w' fun e w'' => e = .returned (.int .u64 (kn : Int)) ∧ w'' = w') := fun w' hb => by
      have := life_any w' b1 _ _ (HQ2.out.below hb).l1
      rw [(tickN_same B).2.2.2.2.1, HKe.out] at this
      exact this
    have HC := hide hc
    clear hs hbt hl2 hm hby hen hfit hkn p0 p2 p3 p4 p5 p6 pf hpb hc
    go_wp2
    go_loopw [6] (fun iv w' => (iv = .int .i64 0 ∧ Hid (w' = w2)) ∨ (iv = .int .i64 1 ∧ Hid (∃ sv' sq, Qs w w' pb b0 b1 W M A (tickN B) sv' (es ++ [⟨wfr 5 0 kn, sq, 0⟩])))) (fun iv _ => 1 - (intOf iv).toNat)
    case atStart => exact Or.inl ⟨rfl, rfl⟩
    case round =>
    rcases hrel with ⟨rfl, hwr⟩ | ⟨rfl, HR⟩
    rotate_left
    · obtain ⟨sv', sq', hq'⟩ := HR.out
      have HQ' := hide hq'
      obtain ⟨p0, p2, p3, p4, p5, p6, pf, hpb⟩ := hq'.cells
      clear hq' HR
      go_wp2
      go_ret
      exact ⟨rfl, Or.inr ⟨HS.out, sv', sq', by rw [HKe.out]; exact HQ'.out⟩⟩
    rename World => wq
    have hwq : w2 = wq := Eq.symm hwr
    subst hwq
    clear hwr
    have hc := HC.out
    obtain ⟨p0, p2, p3, p4, p5, p6, pf, hpb⟩ := HQ2.out.cells
    go_wp2_with fail
    refine HD.out.mono ?_
    rintro e w3 hdp
    rcases hdp with ⟨f, sq7, hd, rfl, hmi, hb3⟩ | ⟨hd, _, _⟩
    rotate_left
    · rw [HDc.out] at hd; cases hd
    rw [HDc.out] at hd
    cases hd
    have hv : frV (wfr 5 0 kn) sq7 (wfr 5 0 kn).body.length = .agg #[.int .i64 5, .int .i64 0, .int .u64 1, .int .u64 (kn : Int), .int .u64 0, .int .u64 0, .slice sq7 0 0] := rfl
    rw [hv]
    have HB3 := hide hb3
    clear hv hmi hb3 hc HD
    go_upto_region 6 with (fail)
    obtain ⟨w4, hw4⟩ : ∃ w4, w3.alloc (.cells #[.int .i64 5, .int .i64 0, .int .u64 1, .int .u64 (kn : Int), .int .u64 0, .int .u64 0, .slice sq7 0 0] 32) = w4 := ⟨_, rfl⟩
    rw [hw4]
    obtain ⟨bx, hbx'⟩ : ∃ bx, w3.heap.size = bx := ⟨_, rfl⟩
    have hk4 : w4.heap[bx]? = some (.cells #[.int .i64 5, .int .i64 0, .int .u64 1, .int .u64 (kn : Int), .int .u64 0, .int .u64 0, .slice sq7 0 0] 32 (0, 0)) := by rw [← hw4, ← hbx']; exact heap_alloc_new _ _
    have hb4 : Below w2.heap.size w2 w4 := HB3.out.trans (by rw [← hw4]; exact (Below.refl _ _).alloc HB3.out.size _)
    have HQ4 := hide (HQ2.out.below hb4)
    have hbx := C.lt_of_block hk4
    rw [hbx']
    obtain ⟨x0, x1, x2, x3, x4, x5, x6, -⟩ := blk7 hk4
    clear p0 p2 p3 p4 p5 p6 pf hpb
    obtain ⟨p0, p2, p3, p4, p5, p6, pf, hpb⟩ := HQ4.out.cells
    have HLf4 := HLf w4.drew ((hb4.trans ((Below.refl _ _).mono hb4.size)).drew)
    have HK4 := hide hk4
    clear hw4 hbx' hk4 hb4 HLf HB3
    have z0 : IntKind.i64.wrap 0 = 0 := by rfl
    have z5 : IntKind.i64.wrap 5 = 5 := by rfl
    have z6 : (5 : Int) - 0 = 5 := by rfl
    refine wp_region_held_drew (S := (fun w' => w'.cell? ⟨bx, 0, none⟩ = some (.int .i64 5) ∧ w'.cell? ⟨bx, 1, none⟩ = some (.int .i64 0) ∧ w'.cell? ⟨bx, 2, none⟩ = some (.int .u64 1) ∧ w'.cell? ⟨bx, 3, none⟩ = some (.int .u64 (kn : Int)) ∧ w'.cell? ⟨pb, 3, none⟩ = some (.int .u64 1) ∧ w'.cell? ⟨pb, 5, none⟩ = some (.pointer (some ⟨b1, 0, none⟩)))) (by kernel_rfl) (by go_keep) (fun hHeld => ?_)
    refine wpAnyH_take (i := 0) (oi := { dst := some 30, op := Op.move (Operand.tmp 8), type := 4, pos := _, after := _, guard := _ }) (v := ?vk0) rfl (by kernel_rfl) (by kernel_rfl) (by kernel_rfl) (fun _ _ _ h => h) (Or.inl ⟨by rfl, ?yk0⟩) (by assumption) ?rk0
    case yk0 => (intro w hSw; (try dsimp only at hSw); go_simp; try with_reducible rfl)
    try simp only [Act.put, List.setIfInBounds_toArray, List.set_cons_zero, List.set_cons_succ]
    refine wpAnyH_take (i := 1) (oi := { dst := some 31, op := Op.unOp UnOp.not 4 (Operand.tmp 30), type := 4, pos := _, after := _, guard := _ }) (v := ?vk1) rfl (by kernel_rfl) (by kernel_rfl) (by kernel_rfl) (fun _ _ _ h => h) (Or.inl ⟨by rfl, ?yk1⟩) (by assumption) ?rk1
    case yk1 => (intro w hSw; (try dsimp only at hSw); go_simp; try with_reducible rfl)
    try simp only [Act.put, List.setIfInBounds_toArray, List.set_cons_zero, List.set_cons_succ]
    refine wpAnyH_take (i := 2) (oi := { dst := some 32, op := Op.move (Operand.tmp 31), type := 4, pos := _, after := _, guard := _ }) (v := ?vk2) rfl (by kernel_rfl) (by kernel_rfl) (by kernel_rfl) (fun _ _ _ h => h) (Or.inl ⟨by rfl, ?yk2⟩) (by assumption) ?rk2
    case yk2 => (intro w hSw; (try dsimp only at hSw); go_simp; try with_reducible rfl)
    try simp only [Act.put, List.setIfInBounds_toArray, List.set_cons_zero, List.set_cons_succ]
    refine wpAnyH_take (i := 3) (oi := { dst := some 33, op := Op.fieldAddr 32 (Operand.tmp 7) 0, type := 0, pos := _, after := _, guard := _ }) (v := ?vk3) rfl (by kernel_rfl) (by kernel_rfl) (by kernel_rfl) (fun _ _ _ h => h) (Or.inl ⟨by rfl, ?yk3⟩) (by assumption) ?rk3
    case yk3 => (intro w hSw; (try dsimp only at hSw); go_simp; try with_reducible rfl)
    try simp only [Act.put, List.setIfInBounds_toArray, List.set_cons_zero, List.set_cons_succ]
    refine wpAnyH_take (i := 4) (oi := { dst := some 34, op := Op.load 3 (Operand.tmp 33), type := 3, pos := _, after := _, guard := _ }) (v := ?vk4) rfl (by kernel_rfl) (by kernel_rfl) (by kernel_rfl) (fun _ _ _ h => h) (Or.inl ⟨by rfl, ?yk4⟩) (by assumption) ?rk4
    case yk4 => (intro w hSw; (try dsimp only at hSw); go_simp; try with_reducible rfl)
    try simp only [Act.put, List.setIfInBounds_toArray, List.set_cons_zero, List.set_cons_succ]
    refine wpAnyH_take (i := 5) (oi := { dst := some 35, op := Op.move (Operand.tmp 1), type := 3, pos := _, after := _, guard := _ }) (v := ?vk5) rfl (by kernel_rfl) (by kernel_rfl) (by kernel_rfl) (fun _ _ _ h => h) (Or.inl ⟨by rfl, ?yk5⟩) (by assumption) ?rk5
    case yk5 => (intro w hSw; (try dsimp only at hSw); go_simp; try with_reducible rfl)
    try simp only [Act.put, List.setIfInBounds_toArray, List.set_cons_zero, List.set_cons_succ]
    refine wpAnyH_take (i := 6) (oi := { dst := some 36, op := Op.binOp BinOp.mul 3 (Operand.const (Value.int IntKind.i64 5)) (Operand.tmp 35) 3, type := 3, pos := _, after := _, guard := _ }) (v := ?vk6) rfl (by kernel_rfl) (by kernel_rfl) (by kernel_rfl) (fun _ _ _ h => h) (Or.inl ⟨by rfl, ?yk6⟩) (by assumption) ?rk6
    case yk6 => (intro w hSw; (try dsimp only at hSw); go_simp; try with_reducible rfl)
    try simp only [Act.put, List.setIfInBounds_toArray, List.set_cons_zero, List.set_cons_succ]
    refine wpAnyH_take (i := 7) (oi := { dst := some 37, op := Op.binOp BinOp.neq 3 (Operand.tmp 34) (Operand.tmp 36) 3, type := 4, pos := _, after := _, guard := _ }) (v := ?vk7) rfl (by kernel_rfl) (by kernel_rfl) (by kernel_rfl) (fun _ _ _ h => h) (Or.inl ⟨by rfl, ?yk7⟩) (by assumption) ?rk7
    case yk7 => (intro w hSw; (try dsimp only at hSw); go_simp; try with_reducible rfl)
    try simp only [Act.put, List.setIfInBounds_toArray, List.set_cons_zero, List.set_cons_succ]
    refine wpAnyH_take (i := 8) (oi := { dst := some 38, op := Op.pick (Operand.tmp 32) (Operand.const (Value.bool true)) (Operand.tmp 37), type := 4, pos := _, after := _, guard := _ }) (v := ?vk8) rfl (by kernel_rfl) (by kernel_rfl) (by kernel_rfl) (fun _ _ _ h => h) (Or.inl ⟨by rfl, ?yk8⟩) (by assumption) ?rk8
    case yk8 => (intro w hSw; (try dsimp only at hSw); go_simp; try with_reducible rfl)
    try simp only [Act.put, List.setIfInBounds_toArray, List.set_cons_zero, List.set_cons_succ]
    refine wpAnyH_take (i := 9) (oi := { dst := some 39, op := Op.move (Operand.tmp 38), type := 4, pos := _, after := _, guard := _ }) (v := ?vk9) rfl (by kernel_rfl) (by kernel_rfl) (by kernel_rfl) (fun _ _ _ h => h) (Or.inl ⟨by rfl, ?yk9⟩) (by assumption) ?rk9
    case yk9 => (intro w hSw; (try dsimp only at hSw); go_simp; try with_reducible rfl)
    try simp only [Act.put, List.setIfInBounds_toArray, List.set_cons_zero, List.set_cons_succ]
    refine wpAnyH_take (i := 10) (oi := { dst := some 40, op := Op.fieldAddr 32 (Operand.tmp 7) 1, type := 0, pos := _, after := _, guard := _ }) (v := ?vk10) rfl (by kernel_rfl) (by kernel_rfl) (by kernel_rfl) (fun _ _ _ h => h) (Or.inl ⟨by rfl, ?yk10⟩) (by assumption) ?rk10
    case yk10 => (intro w hSw; (try dsimp only at hSw); go_simp; try with_reducible rfl)
    try simp only [Act.put, List.setIfInBounds_toArray, List.set_cons_zero, List.set_cons_succ]
    refine wpAnyH_take (i := 11) (oi := { dst := some 41, op := Op.load 3 (Operand.tmp 40), type := 3, pos := _, after := _, guard := _ }) (v := ?vk11) rfl (by kernel_rfl) (by kernel_rfl) (by kernel_rfl) (fun _ _ _ h => h) (Or.inl ⟨by rfl, ?yk11⟩) (by assumption) ?rk11
    case yk11 => (intro w hSw; (try dsimp only at hSw); go_simp; try with_reducible rfl)
    try simp only [Act.put, List.setIfInBounds_toArray, List.set_cons_zero, List.set_cons_succ]
    refine wpAnyH_take (i := 12) (oi := { dst := some 42, op := Op.move (Operand.tmp 1), type := 3, pos := _, after := _, guard := _ }) (v := ?vk12) rfl (by kernel_rfl) (by kernel_rfl) (by kernel_rfl) (fun _ _ _ h => h) (Or.inl ⟨by rfl, ?yk12⟩) (by assumption) ?rk12
    case yk12 => (intro w hSw; (try dsimp only at hSw); go_simp; try with_reducible rfl)
    try simp only [Act.put, List.setIfInBounds_toArray, List.set_cons_zero, List.set_cons_succ]
    refine wpAnyH_take (i := 13) (oi := { dst := some 43, op := Op.binOp BinOp.mul 3 (Operand.const (Value.int IntKind.i64 5)) (Operand.tmp 42) 3, type := 3, pos := _, after := _, guard := _ }) (v := ?vk13) rfl (by kernel_rfl) (by kernel_rfl) (by kernel_rfl) (fun _ _ _ h => h) (Or.inl ⟨by rfl, ?yk13⟩) (by assumption) ?rk13
    case yk13 => (intro w hSw; (try dsimp only at hSw); go_simp; try with_reducible rfl)
    try simp only [Act.put, List.setIfInBounds_toArray, List.set_cons_zero, List.set_cons_succ]
    refine wpAnyH_take (i := 14) (oi := { dst := some 44, op := Op.binOp BinOp.sub 3 (Operand.const (Value.int IntKind.i64 5)) (Operand.tmp 43) 3, type := 3, pos := _, after := _, guard := _ }) (v := ?vk14) rfl (by kernel_rfl) (by kernel_rfl) (by kernel_rfl) (fun _ _ _ h => h) (Or.inl ⟨by rfl, ?yk14⟩) (by assumption) ?rk14
    case yk14 => (intro w hSw; (try dsimp only at hSw); go_simp; try with_reducible rfl)
    try simp only [Act.put, List.setIfInBounds_toArray, List.set_cons_zero, List.set_cons_succ]
    refine wpAnyH_take (i := 15) (oi := { dst := some 45, op := Op.binOp BinOp.neq 3 (Operand.tmp 41) (Operand.tmp 44) 3, type := 4, pos := _, after := _, guard := _ }) (v := ?vk15) rfl (by kernel_rfl) (by kernel_rfl) (by kernel_rfl) (fun _ _ _ h => h) (Or.inl ⟨by rfl, ?yk15⟩) (by assumption) ?rk15
    case yk15 => (intro w hSw; (try dsimp only at hSw); go_simp; try with_reducible rfl)
    try simp only [Act.put, List.setIfInBounds_toArray, List.set_cons_zero, List.set_cons_succ]
    refine wpAnyH_take (i := 16) (oi := { dst := some 46, op := Op.pick (Operand.tmp 39) (Operand.const (Value.bool true)) (Operand.tmp 45), type := 4, pos := _, after := _, guard := _ }) (v := ?vk16) rfl (by kernel_rfl) (by kernel_rfl) (by kernel_rfl) (fun _ _ _ h => h) (Or.inl ⟨by rfl, ?yk16⟩) (by assumption) ?rk16
    case yk16 => (intro w hSw; (try dsimp only at hSw); go_simp; try with_reducible rfl)
    try simp only [Act.put, List.setIfInBounds_toArray, List.set_cons_zero, List.set_cons_succ]
    refine wpAnyH_take (i := 17) (oi := { dst := some 47, op := Op.move (Operand.tmp 46), type := 4, pos := _, after := _, guard := _ }) (v := ?vk17) rfl (by kernel_rfl) (by kernel_rfl) (by kernel_rfl) (fun _ _ _ h => h) (Or.inl ⟨by rfl, ?yk17⟩) (by assumption) ?rk17
    case yk17 => (intro w hSw; (try dsimp only at hSw); go_simp; try with_reducible rfl)
    try simp only [Act.put, List.setIfInBounds_toArray, List.set_cons_zero, List.set_cons_succ]
    refine wpAnyH_take (i := 18) (oi := { dst := some 48, op := Op.fieldAddr 32 (Operand.tmp 7) 2, type := 0, pos := _, after := _, guard := _ }) (v := ?vk18) rfl (by kernel_rfl) (by kernel_rfl) (by kernel_rfl) (fun _ _ _ h => h) (Or.inl ⟨by rfl, ?yk18⟩) (by assumption) ?rk18
    case yk18 => (intro w hSw; (try dsimp only at hSw); go_simp; try with_reducible rfl)
    try simp only [Act.put, List.setIfInBounds_toArray, List.set_cons_zero, List.set_cons_succ]
    refine wpAnyH_take (i := 19) (oi := { dst := some 49, op := Op.load 26 (Operand.tmp 48), type := 26, pos := _, after := _, guard := _ }) (v := ?vk19) rfl (by kernel_rfl) (by kernel_rfl) (by kernel_rfl) (fun _ _ _ h => h) (Or.inl ⟨by rfl, ?yk19⟩) (by assumption) ?rk19
    case yk19 => (intro w hSw; (try dsimp only at hSw); go_simp; try with_reducible rfl)
    try simp only [Act.put, List.setIfInBounds_toArray, List.set_cons_zero, List.set_cons_succ]
    refine wpAnyH_take (i := 20) (oi := { dst := some 50, op := Op.move (Operand.tmp 0), type := 45, pos := _, after := _, guard := _ }) (v := ?vk20) rfl (by kernel_rfl) (by kernel_rfl) (by kernel_rfl) (fun _ _ _ h => h) (Or.inl ⟨by rfl, ?yk20⟩) (by assumption) ?rk20
    case yk20 => (intro w hSw; (try dsimp only at hSw); go_simp; try with_reducible rfl)
    try simp only [Act.put, List.setIfInBounds_toArray, List.set_cons_zero, List.set_cons_succ]
    refine wpAnyH_take (i := 21) (oi := { dst := some 51, op := Op.move (Operand.tmp 1), type := 3, pos := _, after := _, guard := _ }) (v := ?vk21) rfl (by kernel_rfl) (by kernel_rfl) (by kernel_rfl) (fun _ _ _ h => h) (Or.inl ⟨by rfl, ?yk21⟩) (by assumption) ?rk21
    case yk21 => (intro w hSw; (try dsimp only at hSw); go_simp; try with_reducible rfl)
    try simp only [Act.put, List.setIfInBounds_toArray, List.set_cons_zero, List.set_cons_succ]
    refine wpAnyH_take (i := 22) (oi := { dst := some 52, op := Op.nilCheck (Operand.tmp 50), type := 0, pos := _, after := _, guard := _ }) (v := ?vk22) rfl (by kernel_rfl) (by kernel_rfl) (by kernel_rfl) (fun _ _ _ h => h) (Or.inl ⟨by rfl, ?yk22⟩) (by assumption) ?rk22
    case yk22 => (intro w hSw; (try dsimp only at hSw); go_simp; try with_reducible rfl)
    try simp only [Act.put, List.setIfInBounds_toArray, List.set_cons_zero, List.set_cons_succ]
    refine wpAnyH_take (i := 23) (oi := { dst := some 53, op := Op.fieldAddr 53 (Operand.tmp 52) 2, type := 0, pos := _, after := _, guard := _ }) (v := ?vk23) rfl (by kernel_rfl) (by kernel_rfl) (by kernel_rfl) (fun _ _ _ h => h) (Or.inl ⟨by rfl, ?yk23⟩) (by assumption) ?rk23
    case yk23 => (intro w hSw; (try dsimp only at hSw); go_simp; try with_reducible rfl)
    try simp only [Act.put, List.setIfInBounds_toArray, List.set_cons_zero, List.set_cons_succ]
    refine wpAnyH_take (i := 24) (oi := { dst := some 54, op := Op.indexAddr 47 (Operand.tmp 53) (Operand.tmp 51), type := 0, pos := _, after := _, guard := _ }) (v := ?vk24) rfl (by kernel_rfl) (by kernel_rfl) (by kernel_rfl) (fun _ _ _ h => h) (Or.inl ⟨by rfl, ?yk24⟩) (by assumption) ?rk24
    case yk24 => (intro w hSw; (try dsimp only at hSw); go_simp; try with_reducible rfl)
    try simp only [Act.put, List.setIfInBounds_toArray, List.set_cons_zero, List.set_cons_succ]
    refine wpAnyH_take (i := 25) (oi := { dst := some 55, op := Op.load 26 (Operand.tmp 54), type := 26, pos := _, after := _, guard := _ }) (v := ?vk25) rfl (by kernel_rfl) (by kernel_rfl) (by kernel_rfl) (fun _ _ _ h => h) (Or.inl ⟨by rfl, ?yk25⟩) (by assumption) ?rk25
    case yk25 => (intro w hSw; (try dsimp only at hSw); go_simp; try with_reducible rfl)
    try simp only [Act.put, List.setIfInBounds_toArray, List.set_cons_zero, List.set_cons_succ]
    refine wpAnyH_take (i := 26) (oi := { dst := some 56, op := Op.binOp BinOp.neq 26 (Operand.tmp 49) (Operand.tmp 55) 26, type := 4, pos := _, after := _, guard := _ }) (v := ?vk26) rfl (by kernel_rfl) (by kernel_rfl) (by kernel_rfl) (fun _ _ _ h => h) (Or.inl ⟨by rfl, ?yk26⟩) (by assumption) ?rk26
    case yk26 => (intro w hSw; (try dsimp only at hSw); go_simp; try with_reducible rfl)
    try simp only [Act.put, List.setIfInBounds_toArray, List.set_cons_zero, List.set_cons_succ]
    refine wpAnyH_take (i := 27) (oi := { dst := some 57, op := Op.pick (Operand.tmp 47) (Operand.const (Value.bool true)) (Operand.tmp 56), type := 4, pos := _, after := _, guard := _ }) (v := ?vk27) rfl (by kernel_rfl) (by kernel_rfl) (by kernel_rfl) (fun _ _ _ h => h) (Or.inl ⟨by rfl, ?yk27⟩) (by assumption) ?rk27
    case yk27 => (intro w hSw; (try dsimp only at hSw); go_simp; try with_reducible rfl)
    try simp only [Act.put, List.setIfInBounds_toArray, List.set_cons_zero, List.set_cons_succ]
    refine wpAnyH_take (i := 28) (oi := { dst := some 58, op := Op.move (Operand.tmp 57), type := 4, pos := _, after := _, guard := _ }) (v := ?vk28) rfl (by kernel_rfl) (by kernel_rfl) (by kernel_rfl) (fun _ _ _ h => h) (Or.inl ⟨by rfl, ?yk28⟩) (by assumption) ?rk28
    case yk28 => (intro w hSw; (try dsimp only at hSw); go_simp; try with_reducible rfl)
    try simp only [Act.put, List.setIfInBounds_toArray, List.set_cons_zero, List.set_cons_succ]
    refine wpAnyH_take (i := 29) (oi := { dst := some 59, op := Op.fieldAddr 32 (Operand.tmp 7) 3, type := 0, pos := _, after := _, guard := _ }) (v := ?vk29) rfl (by kernel_rfl) (by kernel_rfl) (by kernel_rfl) (fun _ _ _ h => h) (Or.inl ⟨by rfl, ?yk29⟩) (by assumption) ?rk29
    case yk29 => (intro w hSw; (try dsimp only at hSw); go_simp; try with_reducible rfl)
    try simp only [Act.put, List.setIfInBounds_toArray, List.set_cons_zero, List.set_cons_succ]
    refine wpAnyH_take (i := 30) (oi := { dst := some 60, op := Op.load 26 (Operand.tmp 59), type := 26, pos := _, after := _, guard := _ }) (v := ?vk30) rfl (by kernel_rfl) (by kernel_rfl) (by kernel_rfl) (fun _ _ _ h => h) (Or.inl ⟨by rfl, ?yk30⟩) (by assumption) ?rk30
    case yk30 => (intro w hSw; (try dsimp only at hSw); go_simp; try with_reducible rfl)
    try simp only [Act.put, List.setIfInBounds_toArray, List.set_cons_zero, List.set_cons_succ]
    refine wpAnyH_take (i := 31) (oi := { dst := some 61, op := Op.move (Operand.tmp 0), type := 45, pos := _, after := _, guard := _ }) (v := ?vk31) rfl (by kernel_rfl) (by kernel_rfl) (by kernel_rfl) (fun _ _ _ h => h) (Or.inl ⟨by rfl, ?yk31⟩) (by assumption) ?rk31
    case yk31 => (intro w hSw; (try dsimp only at hSw); go_simp; try with_reducible rfl)
    try simp only [Act.put, List.setIfInBounds_toArray, List.set_cons_zero, List.set_cons_succ]
    refine wpAnyH_take (i := 32) (oi := { dst := some 62, op := Op.move (Operand.tmp 1), type := 3, pos := _, after := _, guard := _ }) (v := ?vk32) rfl (by kernel_rfl) (by kernel_rfl) (by kernel_rfl) (fun _ _ _ h => h) (Or.inl ⟨by rfl, ?yk32⟩) (by assumption) ?rk32
    case yk32 => (intro w hSw; (try dsimp only at hSw); go_simp; try with_reducible rfl)
    try simp only [Act.put, List.setIfInBounds_toArray, List.set_cons_zero, List.set_cons_succ]
    refine wpAnyH_take (i := 33) (oi := { dst := some 63, op := Op.nilCheck (Operand.tmp 61), type := 0, pos := _, after := _, guard := _ }) (v := ?vk33) rfl (by kernel_rfl) (by kernel_rfl) (by kernel_rfl) (fun _ _ _ h => h) (Or.inl ⟨by rfl, ?yk33⟩) (by assumption) ?rk33
    case yk33 => (intro w hSw; (try dsimp only at hSw); go_simp; try with_reducible rfl)
    try simp only [Act.put, List.setIfInBounds_toArray, List.set_cons_zero, List.set_cons_succ]
    refine wpAnyH_take (i := 34) (oi := { dst := some 64, op := Op.fieldAddr 53 (Operand.tmp 63) 3, type := 0, pos := _, after := _, guard := _ }) (v := ?vk34) rfl (by kernel_rfl) (by kernel_rfl) (by kernel_rfl) (fun _ _ _ h => h) (Or.inl ⟨by rfl, ?yk34⟩) (by assumption) ?rk34
    case yk34 => (intro w hSw; (try dsimp only at hSw); go_simp; try with_reducible rfl)
    try simp only [Act.put, List.setIfInBounds_toArray, List.set_cons_zero, List.set_cons_succ]
    refine wpAnyH_take (i := 35) (oi := { dst := some 65, op := Op.indexAddr 48 (Operand.tmp 64) (Operand.tmp 62), type := 0, pos := _, after := _, guard := _ }) (v := ?vk35) rfl (by kernel_rfl) (by kernel_rfl) (by kernel_rfl) (fun _ _ _ h => h) (Or.inl ⟨by rfl, ?yk35⟩) (by assumption) ?rk35
    case yk35 => (intro w hSw; (try dsimp only at hSw); go_simp; try with_reducible rfl)
    try simp only [Act.put, List.setIfInBounds_toArray, List.set_cons_zero, List.set_cons_succ]
    refine wpAnyH_take (i := 36) (oi := { dst := some 66, op := Op.load 24 (Operand.tmp 65), type := 24, pos := _, after := _, guard := _ }) (v := ?vk36) rfl (by kernel_rfl) (by kernel_rfl) (by kernel_rfl) (fun _ _ _ h => h) (Or.inl ⟨by rfl, ?yk36⟩) (by assumption) ?rk36
    case yk36 => (intro w hSw; (try dsimp only at hSw); go_simp; try with_reducible rfl)
    try simp only [Act.put, List.setIfInBounds_toArray, List.set_cons_zero, List.set_cons_succ]
    refine wpAnyH_ready (rs := [37]) (by kernel_rfl) (by simp) ?_
    refine AllReadyH.cons (o := { dst := some 67, op := Op.call { callee := Callee.value (Operand.func 62), args := #[Operand.tmp 66], argTypes := #[24] }, type := 26, pos := _, after := _, guard := _ }) rfl (fun KK hKK => ?_) AllReadyH.nil
    go_simp
    (go_at_call 62; refine HLf4.out.mono ?_; rintro e w5 ⟨rfl, hw5⟩; subst hw5)
    try go_wp2_with fail
    refine hKK.out _ _ (by (try dsimp only); go_keep) (fun hHeld => ?_)
    clear hKK KK
    try simp only [Act.put, List.setIfInBounds_toArray, List.set_cons_zero, List.set_cons_succ]
    refine wpAnyH_take (i := 38) (oi := { dst := some 68, op := Op.binOp BinOp.neq 26 (Operand.tmp 60) (Operand.tmp 67) 26, type := 4, pos := _, after := _, guard := _ }) (v := ?vk38) rfl (by kernel_rfl) (by kernel_rfl) (by kernel_rfl) (fun _ _ _ h => h) (Or.inl ⟨by rfl, ?yk38⟩) (by assumption) ?rk38
    case yk38 => (intro w hSw; (try dsimp only at hSw); go_simp; try with_reducible rfl)
    try simp only [Act.put, List.setIfInBounds_toArray, List.set_cons_zero, List.set_cons_succ]
    refine wpAnyH_take (i := 39) (oi := { dst := some 69, op := Op.pick (Operand.tmp 58) (Operand.const (Value.bool true)) (Operand.tmp 68), type := 4, pos := _, after := _, guard := _ }) (v := ?vk39) rfl (by kernel_rfl) (by kernel_rfl) (by kernel_rfl) (fun _ _ _ h => h) (Or.inl ⟨by rfl, ?yk39⟩) (by assumption) ?rk39
    case yk39 => (intro w hSw; (try dsimp only at hSw); go_simp; try with_reducible rfl)
    try simp only [Act.put, List.setIfInBounds_toArray, List.set_cons_zero, List.set_cons_succ]
    refine wpAnyH_done (by kernel_rfl) ?_ _
    have HQ5 := hide (HQ4.out.below ((Below.refl _ _).drew))
    have HK5 : Hid (w4.drew.heap[bx]? = some (.cells #[.int .i64 5, .int .i64 0, .int .u64 1, .int .u64 (kn : Int), .int .u64 0, .int .u64 0, .slice sq7 0 0] 32 (0, 0))) := HK4.out
    obtain ⟨w5, hw5⟩ : ∃ w5, w4.drew = w5 := ⟨_, rfl⟩
    rw [hw5] at HQ5 HK5 ⊢
    clear hw5 HQ4 HK4 HLf4 x0 x1 x2 x3 x4 x5 x6 p0 p2 p3 p4 p5 p6 pf hpb hHeld hbx z0 z5 z6
    obtain ⟨p0, p2, p3, p4, p5, p6, pf, hpb⟩ := HQ5.out.cells
    obtain ⟨x0, x1, x2, x3, x4, x5, x6, -⟩ := blk7 HK5.out
    obtain ⟨i0, hi, hz0, hz1, hz2⟩ := info_parts Tryd.infoFr
    have hbl := HQ5.out.bel.size
    go_upto_region 8 with (fail)
    go_region_law (first | (refine step_append_lies _ (by rfl) (.tmp 74) (.tmp 76) 49 (by rfl) w.heap.size 32 i0 (.agg #[.int .i64 0, .int .i64 0, .int .u64 0, .int .u64 0, .int .u64 0, .int .u64 0, .slice none 0 0]) 7 72 Tryd.underlying49 hi hz0 hz1 hz2 rfl (by omega) (.slice sa es.length sc) es.length (sentC es) (by rfl) ((HQ5.out.sent.alloc _).drew) ⟨w5.heap.size, 0, none⟩ 1 1 [.int .i64 5, .int .i64 0, .int .u64 1, .int .u64 (kn : Int), .int .u64 0, .int .u64 0, .slice sq7 0 0] (by rfl) rfl (World.news_of_block (heap_alloc_new w5 (.cells #[.int .i64 5, .int .i64 0, .int .u64 1, .int .u64 (kn : Int), .int .u64 0, .int .u64 0, .slice sq7 0 0] 32))) (by simp [Value.oneCell']) (by omega) (by unfold maxLen; omega) (by omega) (by simp; omega) _ rfl ?_; intro g' cap' w6 hown hgrow hat hltg; have hp6 := (hgrow.block pb (by simp; omega) (fun e => (HQ5.out.far pb e.symm).1 rfl)); have hpr6 : w6.heap[pb]? = some (.cells (prC W M b0 b1 (.slice sa es.length sc)) 53 (0, 0)) := (hp6.trans ((Below.heap_alloc _ _ _ hpb).trans HQ5.out.pr)); obtain ⟨-, -, -, -, -, -, q6, -, -, qf⟩ := blk9 hpr6; have hq6 := C.lt_of_block hpr6; have HO6 := hide hown; have HG6 := hide hgrow; have HA6 := hide hat; clear hown hgrow hat hp6 hpr6))
    all_goals go_wp2
    all_goals
      have hb6 : Below w5.heap.size w5 (w5.alloc (.cells #[.int .i64 5, .int .i64 0, .int .u64 1, .int .u64 (kn : Int), .int .u64 0, .int .u64 0, .slice sq7 0 0] 32)).drew := ((Below.refl _ _).alloc (Nat.le_refl _) _).drew
      refine ⟨Or.inr ⟨rfl, ⟨_, sq7, (HQ5.out.below hb6).more (e := ⟨wfr 5 0 kn, sq7, 0⟩) HG6.out HO6.out ?_⟩⟩, by simp [intOf]⟩
      rcases HA6.out with e1 | e1
      · exact Or.inl e1.symm
      · exact Or.inr ⟨g', rfl, by rw [e1]; exact Nat.le_refl _⟩
end Go.Proofs.YtephfdnneplcnaaDoor
