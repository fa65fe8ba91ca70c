import Derived.Test.YtbcpoejpbhpcbaaDoorSeF
namespace Go.Proofs.YtbcpoejpbhpcbaaDoor
open Go.RowKit

set_option maxRecDepth 100000 in
set_option maxHeartbeats 4000000 in
set_option linter.unusedSimpArgs false in
theorem tickP0 (w wr : World) (K : Knd) (pb W M l0 l1 b0 b1 : Nat) (sv s0 s1 : Value) (A B : Lk) (ra rb : Value) (S T : List Sm) (es : List Fe) (k : Nat) (h : Pm w wr K pb W M l0 l1 b0 b1 sv s0 s1 A B ra rb S T es) (hd : Pd W M l0 l1 A B S T es k) (hk : k ≤ 20000) :
    Calls Tryd.prog 24 #[.pointer (some ⟨pb, 0, none⟩), .int .i64 0] wr fun e w' => e = .returned (.bool true) ∧ ∃ sv' K' fs, fs.map Fe.f = outF A ∧ Pm w w' K' pb W M l0 l1 b0 b1 sv' s0 s1 (tickL A) B ra rb S T (es ++ fs) := by
  obtain ⟨p0, p1, p2, p3, p4, p5, p6, p7, p8, pf, hpb⟩ := h.pk.cells
  have HTk := hide (tick_any wr b0 A ra h.lq0.lw hd.a.rn.win hd.a.rn.pok h.tb (by have := h.pos; omega) (by have := hd.a.rn.row; omega))
  have HP := hide h
  have hW0 : (0 : Int) ≤ (W : Int) := by omega
  have HOl := hide (out_len A (by have := hd.wa; have := hd.w1; omega))
  rw [hd.wa] at HOl
  have HOf := hide (hd.a.outs hk (by omega) (by omega))
  have HEl := hide hd.el
  have HW5 := hide hd.w1
  clear h
  go_enter Tryd.func24, Tryd.ntmps24
  go_wp2_with fail
  refine HTk.out.mono ?_
  rintro e w2 ⟨a, cc, q, rfl, hpost⟩
  have HP2 := hide (HP.out.turn0 (K' := ext K wr.heap.size (9, 9)) hpost.lw (Tw.of (v := ra.ownBlock) hpost.but) (fun x hx => ext_old _ _ hx) (fun g hg => Or.inl hg))
  have HRow := hide hpost.row
  have HQl : Hid ((outF A).length = q) := by show _ = _; rw [← hpost.len, mid_map, List.length_map]
  rw [mid_map] at HRow
  obtain ⟨K2, hK2⟩ : ∃ K2, ext K wr.heap.size (9, 9) = K2 := ⟨_, rfl⟩
  have HK9 : Hid (∀ x, wr.heap.size ≤ x → K2 x = (9, 9)) := fun x hx => by rw [← hK2]; exact ext_new _ _ hx
  rw [hK2] at HP2
  have hqW : (q : Int) ≤ (W : Int) := by have := HOl.out; have := HQl.out; omega
  have HQW := hide hqW
  have hq5 : q ≤ 5 := by have := HW5.out; omega
  clear p0 p1 p2 p3 p4 p5 p6 p7 p8 pf hpb HTk hK2 hpost hqW HP
  go_wp2
  go_loopw [6] (fun iv w' => ∃ (n : Nat) (K' : Knd) (sv' : Value) (fs : List Fe), n ≤ q ∧ iv = .int .i64 (n : Int) ∧ Hid (fs.map Fe.f = (outF A).take n) ∧ Hid (Pm w w' K' pb W M l0 l1 b0 b1 sv' s0 s1 (tickL A) B ra rb S T (es ++ fs)) ∧ Hid (Kp (fun x => x = (2, 0) ∨ x = (3, 0)) K2 K' w2 w')) (fun iv _ => q - (intOf iv).toNat)
  case atStart => exact ⟨0, K2, sv, [], Nat.zero_le _, rfl, rfl, (by show Pm w w2 K2 pb W M l0 l1 b0 b1 sv s0 s1 (tickL A) B ra rb S T (es ++ []); rw [List.append_nil]; exact HP2.out), Kp.refl _ _ _⟩
  case round =>
  obtain ⟨n, Kq, svq, fs, hn, rfl, HFs, HPq, HKq⟩ := hrel
  rename World => wq
  have HFl : Hid (fs.length = n) := by
    show _ = _
    have := congrArg List.length HFs.out
    rw [List.length_map, List.length_take, HQl.out] at this
    omega
  obtain ⟨p0, p1, p2, p3, p4, p5, p6, p7, p8, pf, hpb⟩ := HPq.out.pk.cells
  by_cases hlt : n < q
  rotate_left
  · obtain rfl : n = q := by omega
    have n1 : ¬ (n : Int) < (n : Int) := by omega
    have hqW := HQW.out
    go_wp2
    go_ret
    refine ⟨rfl, svq, Kq, fs, ?_, HPq.out⟩
    rw [HFs.out, List.take_of_length_le (by rw [HQl.out]; exact Nat.le_refl _)]
  have n1 : (n : Int) < (q : Int) := by omega
  have n2 : (0 : Int) ≤ (n : Int) := by omega
  obtain ⟨f, hf⟩ : ∃ f, (outF A)[n]? = some f := ⟨_, List.getElem?_eq_getElem (by rw [HQl.out]; exact hlt)⟩
  obtain ⟨hfo, hfy, hfm⟩ := HOf.out f (List.mem_of_getElem? hf)
  have hen : encB f = f.bytes := by unfold encB; rw [if_pos hfo.fit]
  have hrow := HRow.out.same (w' := wq) (fun g hg hl => HKq.out.block g hl (by rw [HK9.out g hg]; simp))
  obtain ⟨g, sp, ha, hgl, hgc, hby⟩ := out_at hrow (n := n) (p := encB f) (by rw [List.getElem?_map, hf]; rfl)
  have HL8 := hide (encB_len f)
  rw [hen] at hgc hby HL8
  have HDc := hide (dec_bytes hfo.fit hfo.small)
  have HD := hide (dec_any wq sp f.bytes.length f.bytes.length _ rfl (Nat.le_refl _) (by have := HL8.out; omega) hby HPq.out.tb)
  generalize f.bytes = FB at *
  have HFt : Hid ((outF A).take (n + 1) = (outF A).take n ++ [f]) := by
    show _ = _
    rw [List.take_add_one, hf]; rfl
  have HSm := hide hfo.small
  have e1 := hfo.fr
  have e2 := hfo.tt
  obtain ⟨ffr, ftt, fm2, fy3, fs4, fa5, bo⟩ := f
  have e3 : ffr = 0 := e1
  have e4 : ftt = 5 := e2
  have e5 : fm2 = l0 := hfm
  have e6 : fy3 = A.known := hfy
  clear hfo hfy hfm hen hrow hby e1 e2 hf
  obtain ⟨kn, hkn⟩ : ∃ kn, A.known = kn := ⟨_, rfl⟩
  rw [hkn] at e6
  have HLf : ∀ w', Below wq.heap.size wq w' → Hid (Calls Tryd.prog 8 #[.pointer (some ⟨b0, 0, none⟩)] w' fun e w'' => e = .returned (.int .u64 (kn : Int)) ∧ w'' = w') := fun w' hb => by
    have := life_any w' b0 _ _ (HPq.out.below hb (9, 9)).lq0.lw.lb
    rw [(tick_same A).1, hkn] at this
    exact this
  subst e3 e4 e5 e6
  clear hkn
  subst ha
  go_wp2_with fail
  refine HD.out.mono ?_
  rintro e w3 hdp
  rcases hdp with ⟨f, sq7, hdd, rfl, hmi, hb3⟩ | ⟨hdd, _, _⟩
  rotate_left
  · rw [HDc.out] at hdd; cases hdd
  rw [HDc.out] at hdd
  cases hdd
  obtain ⟨nb, hnb⟩ : ∃ nb, bo.length = nb := ⟨_, rfl⟩
  have hv : frV (⟨0, 5, fm2, fy3, fs4, fa5, bo⟩ : Fr) sq7 (⟨0, 5, fm2, fy3, fs4, fa5, bo⟩ : Fr).body.length = .agg #[.int .i64 0, .int .i64 5, .int .u64 (fm2 : Int), .int .u64 (fy3 : Int), .int .u64 (fs4 : Int), .int .u64 (fa5 : Int), .slice sq7 nb nb] := by unfold frV; rw [hnb]
  rw [hv]
  have HNb := hide hnb
  have HB3 := hide hb3
  have HMi := hide hmi
  clear hv hmi hb3 HD hnb hgc hgl
  go_upto_region 6 with (fail)
  obtain ⟨w4, hw4⟩ : ∃ w4, w3.alloc (.cells #[.int .i64 0, .int .i64 5, .int .u64 (fm2 : Int), .int .u64 (fy3 : Int), .int .u64 (fs4 : Int), .int .u64 (fa5 : Int), .slice sq7 nb nb] 54) = w4 := ⟨_, rfl⟩
  rw [hw4]
  obtain ⟨bx, hbx'⟩ : ∃ bx, w3.heap.size = bx := ⟨_, rfl⟩
  have hk4 : w4.heap[bx]? = some (.cells #[.int .i64 0, .int .i64 5, .int .u64 (fm2 : Int), .int .u64 (fy3 : Int), .int .u64 (fs4 : Int), .int .u64 (fa5 : Int), .slice sq7 nb nb] 54 (0, 0)) := by rw [← hw4, ← hbx']; exact heap_alloc_new _ _
  have hb34 : Below w3.heap.size w3 w4 := by rw [← hw4]; exact (Below.refl _ _).alloc (Nat.le_refl _) _
  have hb4 : Below wq.heap.size wq w4 := HB3.out.trans (hb34.mono HB3.out.size)
  have HB34 := hide hb34
  have HB4 := hide hb4
  have HP4 := hide (HPq.out.below hb4 (4, 0))
  have hbx := C.lt_of_block hk4
  rw [hbx']
  obtain ⟨x0, x1, x2, x3, x4, x5, x6, -⟩ := blk7 hk4
  clear p0 p1 p2 p3 p4 p5 p6 p7 p8 pf hpb
  obtain ⟨p0, p1, p2, p3, p4, p5, p6, p7, p8, pf, hpb⟩ := HP4.out.pk.cells
  have HLf4 := HLf w4.drew ((hb4.trans ((Below.refl _ _).mono hb4.size)).drew)
  have HK4 := hide hk4
  clear hw4 hbx' hk4 hb4 hb34 HLf
  have z0 : IntKind.i64.wrap 0 = 0 := by rfl
  have z5 : IntKind.i64.wrap 5 = 5 := by rfl
  have z6 : (5 : Int) - 0 = 5 := by rfl
  refine wp_region_held_drew (S := (fun w' => w'.cell? ⟨bx, 0, none⟩ = some (.int .i64 0) ∧ w'.cell? ⟨bx, 1, none⟩ = some (.int .i64 5) ∧ w'.cell? ⟨bx, 2, none⟩ = some (.int .u64 (fm2 : Int)) ∧ w'.cell? ⟨bx, 3, none⟩ = some (.int .u64 (fy3 : Int)) ∧ w'.cell? ⟨pb, 2, none⟩ = some (.int .u64 (fm2 : Int)) ∧ w'.cell? ⟨pb, 4, none⟩ = some (.pointer (some ⟨b0, 0, none⟩)))) (by kernel_rfl) (by go_keep) (fun hHeld => ?_)
  refine wpAnyH_take (i := 0) (oi := { dst := some 30, op := Op.move (Operand.tmp 8), type := 4, pos := _, after := _, guard := _ }) (v := ?vk0) rfl (by kernel_rfl) (by kernel_rfl) (by kernel_rfl) (fun _ _ _ h => h) (Or.inl ⟨by rfl, ?yk0⟩) (by assumption) ?rk0
  case yk0 => (intro w hSw; (try dsimp only at hSw); go_simp; try with_reducible rfl)
  try simp only [Act.put, List.setIfInBounds_toArray, List.set_cons_zero, List.set_cons_succ]
  refine wpAnyH_take (i := 1) (oi := { dst := some 31, op := Op.unOp UnOp.not 4 (Operand.tmp 30), type := 4, pos := _, after := _, guard := _ }) (v := ?vk1) rfl (by kernel_rfl) (by kernel_rfl) (by kernel_rfl) (fun _ _ _ h => h) (Or.inl ⟨by rfl, ?yk1⟩) (by assumption) ?rk1
  case yk1 => (intro w hSw; (try dsimp only at hSw); go_simp; try with_reducible rfl)
  try simp only [Act.put, List.setIfInBounds_toArray, List.set_cons_zero, List.set_cons_succ]
  refine wpAnyH_take (i := 2) (oi := { dst := some 32, op := Op.move (Operand.tmp 31), type := 4, pos := _, after := _, guard := _ }) (v := ?vk2) rfl (by kernel_rfl) (by kernel_rfl) (by kernel_rfl) (fun _ _ _ h => h) (Or.inl ⟨by rfl, ?yk2⟩) (by assumption) ?rk2
  case yk2 => (intro w hSw; (try dsimp only at hSw); go_simp; try with_reducible rfl)
  try simp only [Act.put, List.setIfInBounds_toArray, List.set_cons_zero, List.set_cons_succ]
  refine wpAnyH_take (i := 3) (oi := { dst := some 33, op := Op.fieldAddr 54 (Operand.tmp 7) 0, type := 0, pos := _, after := _, guard := _ }) (v := ?vk3) rfl (by kernel_rfl) (by kernel_rfl) (by kernel_rfl) (fun _ _ _ h => h) (Or.inl ⟨by rfl, ?yk3⟩) (by assumption) ?rk3
  case yk3 => (intro w hSw; (try dsimp only at hSw); go_simp; try with_reducible rfl)
  try simp only [Act.put, List.setIfInBounds_toArray, List.set_cons_zero, List.set_cons_succ]
  refine wpAnyH_take (i := 4) (oi := { dst := some 34, op := Op.load 3 (Operand.tmp 33), type := 3, pos := _, after := _, guard := _ }) (v := ?vk4) rfl (by kernel_rfl) (by kernel_rfl) (by kernel_rfl) (fun _ _ _ h => h) (Or.inl ⟨by rfl, ?yk4⟩) (by assumption) ?rk4
  case yk4 => (intro w hSw; (try dsimp only at hSw); go_simp; try with_reducible rfl)
  try simp only [Act.put, List.setIfInBounds_toArray, List.set_cons_zero, List.set_cons_succ]
  refine wpAnyH_take (i := 5) (oi := { dst := some 35, op := Op.move (Operand.tmp 1), type := 3, pos := _, after := _, guard := _ }) (v := ?vk5) rfl (by kernel_rfl) (by kernel_rfl) (by kernel_rfl) (fun _ _ _ h => h) (Or.inl ⟨by rfl, ?yk5⟩) (by assumption) ?rk5
  case yk5 => (intro w hSw; (try dsimp only at hSw); go_simp; try with_reducible rfl)
  try simp only [Act.put, List.setIfInBounds_toArray, List.set_cons_zero, List.set_cons_succ]
  refine wpAnyH_take (i := 6) (oi := { dst := some 36, op := Op.binOp BinOp.mul 3 (Operand.const (Value.int IntKind.i64 5)) (Operand.tmp 35) 3, type := 3, pos := _, after := _, guard := _ }) (v := ?vk6) rfl (by kernel_rfl) (by kernel_rfl) (by kernel_rfl) (fun _ _ _ h => h) (Or.inl ⟨by rfl, ?yk6⟩) (by assumption) ?rk6
  case yk6 => (intro w hSw; (try dsimp only at hSw); go_simp; try with_reducible rfl)
  try simp only [Act.put, List.setIfInBounds_toArray, List.set_cons_zero, List.set_cons_succ]
  refine wpAnyH_take (i := 7) (oi := { dst := some 37, op := Op.binOp BinOp.neq 3 (Operand.tmp 34) (Operand.tmp 36) 3, type := 4, pos := _, after := _, guard := _ }) (v := ?vk7) rfl (by kernel_rfl) (by kernel_rfl) (by kernel_rfl) (fun _ _ _ h => h) (Or.inl ⟨by rfl, ?yk7⟩) (by assumption) ?rk7
  case yk7 => (intro w hSw; (try dsimp only at hSw); go_simp; try with_reducible rfl)
  try simp only [Act.put, List.setIfInBounds_toArray, List.set_cons_zero, List.set_cons_succ]
  refine wpAnyH_take (i := 8) (oi := { dst := some 38, op := Op.pick (Operand.tmp 32) (Operand.const (Value.bool true)) (Operand.tmp 37), type := 4, pos := _, after := _, guard := _ }) (v := ?vk8) rfl (by kernel_rfl) (by kernel_rfl) (by kernel_rfl) (fun _ _ _ h => h) (Or.inl ⟨by rfl, ?yk8⟩) (by assumption) ?rk8
  case yk8 => (intro w hSw; (try dsimp only at hSw); go_simp; try with_reducible rfl)
  try simp only [Act.put, List.setIfInBounds_toArray, List.set_cons_zero, List.set_cons_succ]
  refine wpAnyH_take (i := 9) (oi := { dst := some 39, op := Op.move (Operand.tmp 38), type := 4, pos := _, after := _, guard := _ }) (v := ?vk9) rfl (by kernel_rfl) (by kernel_rfl) (by kernel_rfl) (fun _ _ _ h => h) (Or.inl ⟨by rfl, ?yk9⟩) (by assumption) ?rk9
  case yk9 => (intro w hSw; (try dsimp only at hSw); go_simp; try with_reducible rfl)
  try simp only [Act.put, List.setIfInBounds_toArray, List.set_cons_zero, List.set_cons_succ]
  refine wpAnyH_take (i := 10) (oi := { dst := some 40, op := Op.fieldAddr 54 (Operand.tmp 7) 1, type := 0, pos := _, after := _, guard := _ }) (v := ?vk10) rfl (by kernel_rfl) (by kernel_rfl) (by kernel_rfl) (fun _ _ _ h => h) (Or.inl ⟨by rfl, ?yk10⟩) (by assumption) ?rk10
  case yk10 => (intro w hSw; (try dsimp only at hSw); go_simp; try with_reducible rfl)
  try simp only [Act.put, List.setIfInBounds_toArray, List.set_cons_zero, List.set_cons_succ]
  refine wpAnyH_take (i := 11) (oi := { dst := some 41, op := Op.load 3 (Operand.tmp 40), type := 3, pos := _, after := _, guard := _ }) (v := ?vk11) rfl (by kernel_rfl) (by kernel_rfl) (by kernel_rfl) (fun _ _ _ h => h) (Or.inl ⟨by rfl, ?yk11⟩) (by assumption) ?rk11
  case yk11 => (intro w hSw; (try dsimp only at hSw); go_simp; try with_reducible rfl)
  try simp only [Act.put, List.setIfInBounds_toArray, List.set_cons_zero, List.set_cons_succ]
  refine wpAnyH_take (i := 12) (oi := { dst := some 42, op := Op.move (Operand.tmp 1), type := 3, pos := _, after := _, guard := _ }) (v := ?vk12) rfl (by kernel_rfl) (by kernel_rfl) (by kernel_rfl) (fun _ _ _ h => h) (Or.inl ⟨by rfl, ?yk12⟩) (by assumption) ?rk12
  case yk12 => (intro w hSw; (try dsimp only at hSw); go_simp; try with_reducible rfl)
  try simp only [Act.put, List.setIfInBounds_toArray, List.set_cons_zero, List.set_cons_succ]
  refine wpAnyH_take (i := 13) (oi := { dst := some 43, op := Op.binOp BinOp.mul 3 (Operand.const (Value.int IntKind.i64 5)) (Operand.tmp 42) 3, type := 3, pos := _, after := _, guard := _ }) (v := ?vk13) rfl (by kernel_rfl) (by kernel_rfl) (by kernel_rfl) (fun _ _ _ h => h) (Or.inl ⟨by rfl, ?yk13⟩) (by assumption) ?rk13
  case yk13 => (intro w hSw; (try dsimp only at hSw); go_simp; try with_reducible rfl)
  try simp only [Act.put, List.setIfInBounds_toArray, List.set_cons_zero, List.set_cons_succ]
  refine wpAnyH_take (i := 14) (oi := { dst := some 44, op := Op.binOp BinOp.sub 3 (Operand.const (Value.int IntKind.i64 5)) (Operand.tmp 43) 3, type := 3, pos := _, after := _, guard := _ }) (v := ?vk14) rfl (by kernel_rfl) (by kernel_rfl) (by kernel_rfl) (fun _ _ _ h => h) (Or.inl ⟨by rfl, ?yk14⟩) (by assumption) ?rk14
  case yk14 => (intro w hSw; (try dsimp only at hSw); go_simp; try with_reducible rfl)
  try simp only [Act.put, List.setIfInBounds_toArray, List.set_cons_zero, List.set_cons_succ]
  refine wpAnyH_take (i := 15) (oi := { dst := some 45, op := Op.binOp BinOp.neq 3 (Operand.tmp 41) (Operand.tmp 44) 3, type := 4, pos := _, after := _, guard := _ }) (v := ?vk15) rfl (by kernel_rfl) (by kernel_rfl) (by kernel_rfl) (fun _ _ _ h => h) (Or.inl ⟨by rfl, ?yk15⟩) (by assumption) ?rk15
  case yk15 => (intro w hSw; (try dsimp only at hSw); go_simp; try with_reducible rfl)
  try simp only [Act.put, List.setIfInBounds_toArray, List.set_cons_zero, List.set_cons_succ]
  refine wpAnyH_take (i := 16) (oi := { dst := some 46, op := Op.pick (Operand.tmp 39) (Operand.const (Value.bool true)) (Operand.tmp 45), type := 4, pos := _, after := _, guard := _ }) (v := ?vk16) rfl (by kernel_rfl) (by kernel_rfl) (by kernel_rfl) (fun _ _ _ h => h) (Or.inl ⟨by rfl, ?yk16⟩) (by assumption) ?rk16
  case yk16 => (intro w hSw; (try dsimp only at hSw); go_simp; try with_reducible rfl)
  try simp only [Act.put, List.setIfInBounds_toArray, List.set_cons_zero, List.set_cons_succ]
  refine wpAnyH_take (i := 17) (oi := { dst := some 47, op := Op.move (Operand.tmp 46), type := 4, pos := _, after := _, guard := _ }) (v := ?vk17) rfl (by kernel_rfl) (by kernel_rfl) (by kernel_rfl) (fun _ _ _ h => h) (Or.inl ⟨by rfl, ?yk17⟩) (by assumption) ?rk17
  case yk17 => (intro w hSw; (try dsimp only at hSw); go_simp; try with_reducible rfl)
  try simp only [Act.put, List.setIfInBounds_toArray, List.set_cons_zero, List.set_cons_succ]
  refine wpAnyH_take (i := 18) (oi := { dst := some 48, op := Op.fieldAddr 54 (Operand.tmp 7) 2, type := 0, pos := _, after := _, guard := _ }) (v := ?vk18) rfl (by kernel_rfl) (by kernel_rfl) (by kernel_rfl) (fun _ _ _ h => h) (Or.inl ⟨by rfl, ?yk18⟩) (by assumption) ?rk18
  case yk18 => (intro w hSw; (try dsimp only at hSw); go_simp; try with_reducible rfl)
  try simp only [Act.put, List.setIfInBounds_toArray, List.set_cons_zero, List.set_cons_succ]
  refine wpAnyH_take (i := 19) (oi := { dst := some 49, op := Op.load 33 (Operand.tmp 48), type := 33, pos := _, after := _, guard := _ }) (v := ?vk19) rfl (by kernel_rfl) (by kernel_rfl) (by kernel_rfl) (fun _ _ _ h => h) (Or.inl ⟨by rfl, ?yk19⟩) (by assumption) ?rk19
  case yk19 => (intro w hSw; (try dsimp only at hSw); go_simp; try with_reducible rfl)
  try simp only [Act.put, List.setIfInBounds_toArray, List.set_cons_zero, List.set_cons_succ]
  refine wpAnyH_take (i := 20) (oi := { dst := some 50, op := Op.move (Operand.tmp 0), type := 25, pos := _, after := _, guard := _ }) (v := ?vk20) rfl (by kernel_rfl) (by kernel_rfl) (by kernel_rfl) (fun _ _ _ h => h) (Or.inl ⟨by rfl, ?yk20⟩) (by assumption) ?rk20
  case yk20 => (intro w hSw; (try dsimp only at hSw); go_simp; try with_reducible rfl)
  try simp only [Act.put, List.setIfInBounds_toArray, List.set_cons_zero, List.set_cons_succ]
  refine wpAnyH_take (i := 21) (oi := { dst := some 51, op := Op.move (Operand.tmp 1), type := 3, pos := _, after := _, guard := _ }) (v := ?vk21) rfl (by kernel_rfl) (by kernel_rfl) (by kernel_rfl) (fun _ _ _ h => h) (Or.inl ⟨by rfl, ?yk21⟩) (by assumption) ?rk21
  case yk21 => (intro w hSw; (try dsimp only at hSw); go_simp; try with_reducible rfl)
  try simp only [Act.put, List.setIfInBounds_toArray, List.set_cons_zero, List.set_cons_succ]
  refine wpAnyH_take (i := 22) (oi := { dst := some 52, op := Op.nilCheck (Operand.tmp 50), type := 0, pos := _, after := _, guard := _ }) (v := ?vk22) rfl (by kernel_rfl) (by kernel_rfl) (by kernel_rfl) (fun _ _ _ h => h) (Or.inl ⟨by rfl, ?yk22⟩) (by assumption) ?rk22
  case yk22 => (intro w hSw; (try dsimp only at hSw); go_simp; try with_reducible rfl)
  try simp only [Act.put, List.setIfInBounds_toArray, List.set_cons_zero, List.set_cons_succ]
  refine wpAnyH_take (i := 23) (oi := { dst := some 53, op := Op.fieldAddr 41 (Operand.tmp 52) 2, type := 0, pos := _, after := _, guard := _ }) (v := ?vk23) rfl (by kernel_rfl) (by kernel_rfl) (by kernel_rfl) (fun _ _ _ h => h) (Or.inl ⟨by rfl, ?yk23⟩) (by assumption) ?rk23
  case yk23 => (intro w hSw; (try dsimp only at hSw); go_simp; try with_reducible rfl)
  try simp only [Act.put, List.setIfInBounds_toArray, List.set_cons_zero, List.set_cons_succ]
  refine wpAnyH_take (i := 24) (oi := { dst := some 54, op := Op.indexAddr 34 (Operand.tmp 53) (Operand.tmp 51), type := 0, pos := _, after := _, guard := _ }) (v := ?vk24) rfl (by kernel_rfl) (by kernel_rfl) (by kernel_rfl) (fun _ _ _ h => h) (Or.inl ⟨by rfl, ?yk24⟩) (by assumption) ?rk24
  case yk24 => (intro w hSw; (try dsimp only at hSw); go_simp; try with_reducible rfl)
  try simp only [Act.put, List.setIfInBounds_toArray, List.set_cons_zero, List.set_cons_succ]
  refine wpAnyH_take (i := 25) (oi := { dst := some 55, op := Op.load 33 (Operand.tmp 54), type := 33, pos := _, after := _, guard := _ }) (v := ?vk25) rfl (by kernel_rfl) (by kernel_rfl) (by kernel_rfl) (fun _ _ _ h => h) (Or.inl ⟨by rfl, ?yk25⟩) (by assumption) ?rk25
  case yk25 => (intro w hSw; (try dsimp only at hSw); go_simp; try with_reducible rfl)
  try simp only [Act.put, List.setIfInBounds_toArray, List.set_cons_zero, List.set_cons_succ]
  refine wpAnyH_take (i := 26) (oi := { dst := some 56, op := Op.binOp BinOp.neq 33 (Operand.tmp 49) (Operand.tmp 55) 33, type := 4, pos := _, after := _, guard := _ }) (v := ?vk26) rfl (by kernel_rfl) (by kernel_rfl) (by kernel_rfl) (fun _ _ _ h => h) (Or.inl ⟨by rfl, ?yk26⟩) (by assumption) ?rk26
  case yk26 => (intro w hSw; (try dsimp only at hSw); go_simp; try with_reducible rfl)
  try simp only [Act.put, List.setIfInBounds_toArray, List.set_cons_zero, List.set_cons_succ]
  refine wpAnyH_take (i := 27) (oi := { dst := some 57, op := Op.pick (Operand.tmp 47) (Operand.const (Value.bool true)) (Operand.tmp 56), type := 4, pos := _, after := _, guard := _ }) (v := ?vk27) rfl (by kernel_rfl) (by kernel_rfl) (by kernel_rfl) (fun _ _ _ h => h) (Or.inl ⟨by rfl, ?yk27⟩) (by assumption) ?rk27
  case yk27 => (intro w hSw; (try dsimp only at hSw); go_simp; try with_reducible rfl)
  try simp only [Act.put, List.setIfInBounds_toArray, List.set_cons_zero, List.set_cons_succ]
  refine wpAnyH_take (i := 28) (oi := { dst := some 58, op := Op.move (Operand.tmp 57), type := 4, pos := _, after := _, guard := _ }) (v := ?vk28) rfl (by kernel_rfl) (by kernel_rfl) (by kernel_rfl) (fun _ _ _ h => h) (Or.inl ⟨by rfl, ?yk28⟩) (by assumption) ?rk28
  case yk28 => (intro w hSw; (try dsimp only at hSw); go_simp; try with_reducible rfl)
  try simp only [Act.put, List.setIfInBounds_toArray, List.set_cons_zero, List.set_cons_succ]
  refine wpAnyH_take (i := 29) (oi := { dst := some 59, op := Op.fieldAddr 54 (Operand.tmp 7) 3, type := 0, pos := _, after := _, guard := _ }) (v := ?vk29) rfl (by kernel_rfl) (by kernel_rfl) (by kernel_rfl) (fun _ _ _ h => h) (Or.inl ⟨by rfl, ?yk29⟩) (by assumption) ?rk29
  case yk29 => (intro w hSw; (try dsimp only at hSw); go_simp; try with_reducible rfl)
  try simp only [Act.put, List.setIfInBounds_toArray, List.set_cons_zero, List.set_cons_succ]
  refine wpAnyH_take (i := 30) (oi := { dst := some 60, op := Op.load 33 (Operand.tmp 59), type := 33, pos := _, after := _, guard := _ }) (v := ?vk30) rfl (by kernel_rfl) (by kernel_rfl) (by kernel_rfl) (fun _ _ _ h => h) (Or.inl ⟨by rfl, ?yk30⟩) (by assumption) ?rk30
  case yk30 => (intro w hSw; (try dsimp only at hSw); go_simp; try with_reducible rfl)
  try simp only [Act.put, List.setIfInBounds_toArray, List.set_cons_zero, List.set_cons_succ]
  refine wpAnyH_take (i := 31) (oi := { dst := some 61, op := Op.move (Operand.tmp 0), type := 25, pos := _, after := _, guard := _ }) (v := ?vk31) rfl (by kernel_rfl) (by kernel_rfl) (by kernel_rfl) (fun _ _ _ h => h) (Or.inl ⟨by rfl, ?yk31⟩) (by assumption) ?rk31
  case yk31 => (intro w hSw; (try dsimp only at hSw); go_simp; try with_reducible rfl)
  try simp only [Act.put, List.setIfInBounds_toArray, List.set_cons_zero, List.set_cons_succ]
  refine wpAnyH_take (i := 32) (oi := { dst := some 62, op := Op.move (Operand.tmp 1), type := 3, pos := _, after := _, guard := _ }) (v := ?vk32) rfl (by kernel_rfl) (by kernel_rfl) (by kernel_rfl) (fun _ _ _ h => h) (Or.inl ⟨by rfl, ?yk32⟩) (by assumption) ?rk32
  case yk32 => (intro w hSw; (try dsimp only at hSw); go_simp; try with_reducible rfl)
  try simp only [Act.put, List.setIfInBounds_toArray, List.set_cons_zero, List.set_cons_succ]
  refine wpAnyH_take (i := 33) (oi := { dst := some 63, op := Op.nilCheck (Operand.tmp 61), type := 0, pos := _, after := _, guard := _ }) (v := ?vk33) rfl (by kernel_rfl) (by kernel_rfl) (by kernel_rfl) (fun _ _ _ h => h) (Or.inl ⟨by rfl, ?yk33⟩) (by assumption) ?rk33
  case yk33 => (intro w hSw; (try dsimp only at hSw); go_simp; try with_reducible rfl)
  try simp only [Act.put, List.setIfInBounds_toArray, List.set_cons_zero, List.set_cons_succ]
  refine wpAnyH_take (i := 34) (oi := { dst := some 64, op := Op.fieldAddr 41 (Operand.tmp 63) 3, type := 0, pos := _, after := _, guard := _ }) (v := ?vk34) rfl (by kernel_rfl) (by kernel_rfl) (by kernel_rfl) (fun _ _ _ h => h) (Or.inl ⟨by rfl, ?yk34⟩) (by assumption) ?rk34
  case yk34 => (intro w hSw; (try dsimp only at hSw); go_simp; try with_reducible rfl)
  try simp only [Act.put, List.setIfInBounds_toArray, List.set_cons_zero, List.set_cons_succ]
  refine wpAnyH_take (i := 35) (oi := { dst := some 65, op := Op.indexAddr 36 (Operand.tmp 64) (Operand.tmp 62), type := 0, pos := _, after := _, guard := _ }) (v := ?vk35) rfl (by kernel_rfl) (by kernel_rfl) (by kernel_rfl) (fun _ _ _ h => h) (Or.inl ⟨by rfl, ?yk35⟩) (by assumption) ?rk35
  case yk35 => (intro w hSw; (try dsimp only at hSw); go_simp; try with_reducible rfl)
  try simp only [Act.put, List.setIfInBounds_toArray, List.set_cons_zero, List.set_cons_succ]
  refine wpAnyH_take (i := 36) (oi := { dst := some 66, op := Op.load 35 (Operand.tmp 65), type := 35, pos := _, after := _, guard := _ }) (v := ?vk36) rfl (by kernel_rfl) (by kernel_rfl) (by kernel_rfl) (fun _ _ _ h => h) (Or.inl ⟨by rfl, ?yk36⟩) (by assumption) ?rk36
  case yk36 => (intro w hSw; (try dsimp only at hSw); go_simp; try with_reducible rfl)
  try simp only [Act.put, List.setIfInBounds_toArray, List.set_cons_zero, List.set_cons_succ]
  refine wpAnyH_ready (rs := [37]) (by kernel_rfl) (by simp) ?_
  refine AllReadyH.cons (o := { dst := some 67, op := Op.call { callee := Callee.value (Operand.func 8), args := #[Operand.tmp 66], argTypes := #[35] }, type := 33, pos := _, after := _, guard := _ }) rfl (fun KK hKK => ?_) AllReadyH.nil
  go_simp
  (go_at_call 8; refine HLf4.out.mono ?_; rintro e w5 ⟨rfl, hw5⟩; subst hw5)
  try go_wp2_with fail
  refine hKK.out _ _ (by (try dsimp only); go_keep) (fun hHeld => ?_)
  clear hKK KK
  try simp only [Act.put, List.setIfInBounds_toArray, List.set_cons_zero, List.set_cons_succ]
  refine wpAnyH_take (i := 38) (oi := { dst := some 68, op := Op.binOp BinOp.neq 33 (Operand.tmp 60) (Operand.tmp 67) 33, type := 4, pos := _, after := _, guard := _ }) (v := ?vk38) rfl (by kernel_rfl) (by kernel_rfl) (by kernel_rfl) (fun _ _ _ h => h) (Or.inl ⟨by rfl, ?yk38⟩) (by assumption) ?rk38
  case yk38 => (intro w hSw; (try dsimp only at hSw); go_simp; try with_reducible rfl)
  try simp only [Act.put, List.setIfInBounds_toArray, List.set_cons_zero, List.set_cons_succ]
  refine wpAnyH_take (i := 39) (oi := { dst := some 69, op := Op.pick (Operand.tmp 58) (Operand.const (Value.bool true)) (Operand.tmp 68), type := 4, pos := _, after := _, guard := _ }) (v := ?vk39) rfl (by kernel_rfl) (by kernel_rfl) (by kernel_rfl) (fun _ _ _ h => h) (Or.inl ⟨by rfl, ?yk39⟩) (by assumption) ?rk39
  case yk39 => (intro w hSw; (try dsimp only at hSw); go_simp; try with_reducible rfl)
  try simp only [Act.put, List.setIfInBounds_toArray, List.set_cons_zero, List.set_cons_succ]
  refine wpAnyH_done (by kernel_rfl) ?_ _
  obtain ⟨w5, hw5⟩ : ∃ w5, w4.drew = w5 := ⟨_, rfl⟩
  have HK5 : Hid (w4.drew.heap[bx]? = some (.cells #[.int .i64 0, .int .i64 5, .int .u64 (fm2 : Int), .int .u64 (fy3 : Int), .int .u64 (fs4 : Int), .int .u64 (fa5 : Int), .slice sq7 nb nb] 54 (0, 0))) := HK4.out
  have HB5 : Hid (Below wq.heap.size wq w4.drew) := ((HB4.out.trans ((Below.refl _ _).mono HB4.out.size)).drew)
  have HB35 : Hid (Below w3.heap.size w3 w4.drew) := ((HB34.out.trans ((Below.refl _ _).mono HB34.out.size)).drew)
  rw [hw5] at HK5 HB5 HB35 ⊢
  have HP5 := hide (HPq.out.below HB5.out (4, 0))
  clear hw5 HP4 HK4 HLf4 x0 x1 x2 x3 x4 x5 x6 p0 p1 p2 p3 p4 p5 p6 p7 p8 pf hpb hHeld hbx z0 z5 z6 HB4 HB34
  obtain ⟨p0, p1, p2, p3, p4, p5, p6, p7, p8, pf, hpb⟩ := HP5.out.pk.cells
  obtain ⟨x0, x1, x2, x3, x4, x5, x6, -⟩ := blk7 HK5.out
  obtain ⟨i0, hi, hz0, hz1, hz2⟩ := info_parts Tryd.infoFr
  obtain ⟨E, hE⟩ : ∃ E, es ++ fs = E := ⟨_, rfl⟩
  have hEl : E.length ≤ 200000 := by rw [← hE, List.length_append, HFl.out]; have := HEl.out; omega
  have HEe := hide hE
  rw [hE] at HP5 HPq
  clear hE
  obtain ⟨sa, sc, hsv, hsl, hsc⟩ : ∃ sa sc, svq = .slice sa E.length sc ∧ E.length ≤ sc ∧ sc ≤ maxLen := owns_form HP5.out.sent.own
  subst hsv
  have HPn : Hid (some pb ≠ (Value.slice sa E.length sc).ownBlock) := fun e => by have := HP5.out.sent.kind pb e.symm; rw [HP5.out.pk.kind] at this; cases this
  go_upto_region 8 with (fail)
  go_region_law (first | (refine step_append_lies _ (by rfl) (.tmp 74) (.tmp 76) 37 (by rfl) 0 54 i0 (.agg #[.int .i64 0, .int .i64 0, .int .u64 0, .int .u64 0, .int .u64 0, .int .u64 0, .slice none 0 0]) 7 72 Tryd.underlying37 hi hz0 hz1 hz2 rfl (by omega) (.slice sa E.length sc) E.length (sentC E) (by rfl) ((HP5.out.sent.own.alloc _).drew) ⟨w5.heap.size, 0, none⟩ 1 1 [.int .i64 0, .int .i64 5, .int .u64 (fm2 : Int), .int .u64 (fy3 : Int), .int .u64 (fs4 : Int), .int .u64 (fa5 : Int), .slice sq7 nb nb] (by rfl) rfl (World.news_of_block (heap_alloc_new w5 (.cells #[.int .i64 0, .int .i64 5, .int .u64 (fm2 : Int), .int .u64 (fy3 : Int), .int .u64 (fs4 : Int), .int .u64 (fa5 : Int), .slice sq7 nb nb] 54))) (by simp [Value.oneCell']) (by omega) (by unfold maxLen; omega) (by omega) (by simp) _ rfl ?_; intro g' cap' w6 hown hgrow hat hltg; have hp6 := (hgrow.block pb (by simp; omega) HPn.out); have hpr6 : w6.heap[pb]? = _ := (hp6.trans ((Below.heap_alloc _ _ _ hpb).trans HP5.out.pk.blk)); have hpk6 : Pk w6 (ext Kq wq.heap.size (4, 0)) pb W M fm2 l1 b0 b1 (.slice sa E.length sc) s0 s1 := ⟨hpr6, HP5.out.pk.kind⟩; obtain ⟨-, -, -, -, -, -, q6, -, -, qf, hq6⟩ := hpk6.cells; have HO6 := hide hown; have HG6 := hide hgrow; have HA6 := hide hat; clear hown hgrow hat hp6 hpr6 hpk6))
  all_goals go_wp2
  all_goals
    have hb6 : Below w5.heap.size w5 (w5.alloc (.cells #[.int .i64 0, .int .i64 5, .int .u64 (fm2 : Int), .int .u64 (fy3 : Int), .int .u64 (fs4 : Int), .int .u64 (fa5 : Int), .slice sq7 nb nb] 54)).drew := ((Below.refl _ _).alloc (Nat.le_refl _) _).drew
    have hbq : Below wq.heap.size wq (w5.alloc (.cells #[.int .i64 0, .int .i64 5, .int .u64 (fm2 : Int), .int .u64 (fy3 : Int), .int .u64 (fs4 : Int), .int .u64 (fa5 : Int), .slice sq7 nb nb] 54)).drew := HB5.out.trans (hb6.mono HB5.out.size)
    have hb36 : Below w3.heap.size w3 (w5.alloc (.cells #[.int .i64 0, .int .i64 5, .int .u64 (fm2 : Int), .int .u64 (fy3 : Int), .int .u64 (fs4 : Int), .int .u64 (fa5 : Int), .slice sq7 nb nb] 54)).drew := HB35.out.trans (hb6.mono HB35.out.size)
    have hby6 := by4_mine (K := Kq) HMi.out HSm.out hb36
    obtain ⟨hpm, hkp⟩ := (HPq.out.below hbq (4, 0)).more (e := ⟨⟨0, 5, fm2, fy3, fs4, fa5, bo⟩, sq7, nb⟩) HG6.out (by simpa [feC, HNb.out] using HO6.out) (by
      rcases HA6.out with e1 | e1
      · exact Or.inl e1.symm
      · exact Or.inr ⟨g', rfl, by rw [e1]; exact Nat.le_refl _⟩) hby6
    have hEa : ∀ x : Fe, E ++ [x] = es ++ (fs ++ [x]) := fun x => by rw [← HEe.out, List.append_assoc]
    rw [hEa] at hpm
    have hkp2 := (HKq.out.trans (kp_below hbq _ Kq (4, 0))).trans hkp
    have hfs2 : (fs ++ [(⟨⟨0, 5, fm2, fy3, fs4, fa5, bo⟩, sq7, nb⟩ : Fe)]).map Fe.f = (outF A).take (n + 1) := by rw [HFt.out, List.map_append, HFs.out]; rfl
    exact ⟨⟨n + 1, _, _, _, by omega, by go_num, hide hfs2, hide hpm, hide hkp2⟩, by simp [intOf]; omega⟩
set_option maxRecDepth 100000 in
set_option maxHeartbeats 4000000 in
set_option linter.unusedSimpArgs false in
theorem tickP1 (w wr : World) (K : Knd) (pb W M l0 l1 b0 b1 : Nat) (sv s0 s1 : Value) (A B : Lk) (ra rb : Value) (S T : List Sm) (es : List Fe) (k : Nat) (h : Pm w wr K pb W M l0 l1 b0 b1 sv s0 s1 A B ra rb S T es) (hd : Pd W M l0 l1 A B S T es k) (hk : k ≤ 20000) :
    Calls Tryd.prog 24 #[.pointer (some ⟨pb, 0, none⟩), .int .i64 1] wr fun e w' => e = .returned (.bool true) ∧ ∃ sv' K' fs, fs.map Fe.f = outF B ∧ Pm w w' K' pb W M l0 l1 b0 b1 sv' s0 s1 A (tickL B) ra rb S T (es ++ fs) := by
  obtain ⟨p0, p1, p2, p3, p4, p5, p6, p7, p8, pf, hpb⟩ := h.pk.cells
  have HTk := hide (tick_any wr b1 B rb h.lq1.lw hd.b.rn.win hd.b.rn.pok h.tb (by have := h.pos; omega) (by have := hd.b.rn.row; omega))
  have HP := hide h
  have hW0 : (0 : Int) ≤ (W : Int) := by omega
  have HOl := hide (out_len B (by have := hd.wb; have := hd.w1; omega))
  rw [hd.wb] at HOl
  have HOf := hide (hd.b.outs hk (by omega) (by omega))
  have HEl := hide hd.el
  have HW5 := hide hd.w1
  clear h
  go_enter Tryd.func24, Tryd.ntmps24
  go_wp2_with fail
  refine HTk.out.mono ?_
  rintro e w2 ⟨a, cc, q, rfl, hpost⟩
  have HP2 := hide (HP.out.turn1 (K' := ext K wr.heap.size (9, 9)) hpost.lw (Tw.of (v := rb.ownBlock) hpost.but) (fun x hx => ext_old _ _ hx) (fun g hg => Or.inl hg))
  have HRow := hide hpost.row
  have HQl : Hid ((outF B).length = q) := by show _ = _; rw [← hpost.len, mid_map, List.length_map]
  rw [mid_map] at HRow
  obtain ⟨K2, hK2⟩ : ∃ K2, ext K wr.heap.size (9, 9) = K2 := ⟨_, rfl⟩
  have HK9 : Hid (∀ x, wr.heap.size ≤ x → K2 x = (9, 9)) := fun x hx => by rw [← hK2]; exact ext_new _ _ hx
  rw [hK2] at HP2
  have hqW : (q : Int) ≤ (W : Int) := by have := HOl.out; have := HQl.out; omega
  have HQW := hide hqW
  have hq5 : q ≤ 5 := by have := HW5.out; omega
  clear p0 p1 p2 p3 p4 p5 p6 p7 p8 pf hpb HTk hK2 hpost hqW HP
  go_wp2
  go_loopw [6] (fun iv w' => ∃ (n : Nat) (K' : Knd) (sv' : Value) (fs : List Fe), n ≤ q ∧ iv = .int .i64 (n : Int) ∧ Hid (fs.map Fe.f = (outF B).take n) ∧ Hid (Pm w w' K' pb W M l0 l1 b0 b1 sv' s0 s1 A (tickL B) ra rb S T (es ++ fs)) ∧ Hid (Kp (fun x => x = (2, 0) ∨ x = (3, 0)) K2 K' w2 w')) (fun iv _ => q - (intOf iv).toNat)
  case atStart => exact ⟨0, K2, sv, [], Nat.zero_le _, rfl, rfl, (by show Pm w w2 K2 pb W M l0 l1 b0 b1 sv s0 s1 A (tickL B) ra rb S T (es ++ []); rw [List.append_nil]; exact HP2.out), Kp.refl _ _ _⟩
  case round =>
  obtain ⟨n, Kq, svq, fs, hn, rfl, HFs, HPq, HKq⟩ := hrel
  rename World => wq
  have HFl : Hid (fs.length = n) := by
    show _ = _
    have := congrArg List.length HFs.out
    rw [List.length_map, List.length_take, HQl.out] at this
    omega
  obtain ⟨p0, p1, p2, p3, p4, p5, p6, p7, p8, pf, hpb⟩ := HPq.out.pk.cells
  by_cases hlt : n < q
  rotate_left
  · obtain rfl : n = q := by omega
    have n1 : ¬ (n : Int) < (n : Int) := by omega
    have hqW := HQW.out
    go_wp2
    go_ret
    refine ⟨rfl, svq, Kq, fs, ?_, HPq.out⟩
    rw [HFs.out, List.take_of_length_le (by rw [HQl.out]; exact Nat.le_refl _)]
  have n1 : (n : Int) < (q : Int) := by omega
  have n2 : (0 : Int) ≤ (n : Int) := by omega
  obtain ⟨f, hf⟩ : ∃ f, (outF B)[n]? = some f := ⟨_, List.getElem?_eq_getElem (by rw [HQl.out]; exact hlt)⟩
  obtain ⟨hfo, hfy, hfm⟩ := HOf.out f (List.mem_of_getElem? hf)
  have hen : encB f = f.bytes := by unfold encB; rw [if_pos hfo.fit]
  have hrow := HRow.out.same (w' := wq) (fun g hg hl => HKq.out.block g hl (by rw [HK9.out g hg]; simp))
  obtain ⟨g, sp, ha, hgl, hgc, hby⟩ := out_at hrow (n := n) (p := encB f) (by rw [List.getElem?_map, hf]; rfl)
  have HL8 := hide (encB_len f)
  rw [hen] at hgc hby HL8
  have HDc := hide (dec_bytes hfo.fit hfo.small)
  have HD := hide (dec_any wq sp f.bytes.length f.bytes.length _ rfl (Nat.le_refl _) (by have := HL8.out; omega) hby HPq.out.tb)
  generalize f.bytes = FB at *
  have HFt : Hid ((outF B).take (n + 1) = (outF B).take n ++ [f]) := by
    show _ = _
    rw [List.take_add_one, hf]; rfl
  have HSm := hide hfo.small
  have e1 := hfo.fr
  have e2 := hfo.tt
  obtain ⟨ffr, ftt, fm2, fy3, fs4, fa5, bo⟩ := f
  have e3 : ffr = 5 := e1
  have e4 : ftt = 0 := e2
  have e5 : fm2 = l1 := hfm
  have e6 : fy3 = B.known := hfy
  clear hfo hfy hfm hen hrow hby e1 e2 hf
  obtain ⟨kn, hkn⟩ : ∃ kn, B.known = kn := ⟨_, rfl⟩
  rw [hkn] at e6
  have HLf : ∀ w', Below wq.heap.size wq w' → Hid (Calls Tryd.prog 8 #[.pointer (some ⟨b1, 0, none⟩)] w' fun e w'' => e = .returned (.int .u64 (kn : Int)) ∧ w'' = w') := fun w' hb => by
    have := life_any w' b1 _ _ (HPq.out.below hb (9, 9)).lq1.lw.lb
    rw [(tick_same B).1, hkn] at this
    exact this
  subst e3 e4 e5 e6
  clear hkn
  subst ha
  go_wp2_with fail
  refine HD.out.mono ?_
  rintro e w3 hdp
  rcases hdp with ⟨f, sq7, hdd, rfl, hmi, hb3⟩ | ⟨hdd, _, _⟩
  rotate_left
  · rw [HDc.out] at hdd; cases hdd
  rw [HDc.out] at hdd
  cases hdd
  obtain ⟨nb, hnb⟩ : ∃ nb, bo.length = nb := ⟨_, rfl⟩
  have hv : frV (⟨5, 0, fm2, fy3, fs4, fa5, bo⟩ : Fr) sq7 (⟨5, 0, fm2, fy3, fs4, fa5, bo⟩ : Fr).body.length = .agg #[.int .i64 5, .int .i64 0, .int .u64 (fm2 : Int), .int .u64 (fy3 : Int), .int .u64 (fs4 : Int), .int .u64 (fa5 : Int), .slice sq7 nb nb] := by unfold frV; rw [hnb]
  rw [hv]
  have HNb := hide hnb
  have HB3 := hide hb3
  have HMi := hide hmi
  clear hv hmi hb3 HD hnb hgc hgl
  go_upto_region 6 with (fail)
  obtain ⟨w4, hw4⟩ : ∃ w4, w3.alloc (.cells #[.int .i64 5, .int .i64 0, .int .u64 (fm2 : Int), .int .u64 (fy3 : Int), .int .u64 (fs4 : Int), .int .u64 (fa5 : Int), .slice sq7 nb nb] 54) = w4 := ⟨_, rfl⟩
  rw [hw4]
  obtain ⟨bx, hbx'⟩ : ∃ bx, w3.heap.size = bx := ⟨_, rfl⟩
  have hk4 : w4.heap[bx]? = some (.cells #[.int .i64 5, .int .i64 0, .int .u64 (fm2 : Int), .int .u64 (fy3 : Int), .int .u64 (fs4 : Int), .int .u64 (fa5 : Int), .slice sq7 nb nb] 54 (0, 0)) := by rw [← hw4, ← hbx']; exact heap_alloc_new _ _
  have hb34 : Below w3.heap.size w3 w4 := by rw [← hw4]; exact (Below.refl _ _).alloc (Nat.le_refl _) _
  have hb4 : Below wq.heap.size wq w4 := HB3.out.trans (hb34.mono HB3.out.size)
  have HB34 := hide hb34
  have HB4 := hide hb4
  have HP4 := hide (HPq.out.below hb4 (4, 0))
  have hbx := C.lt_of_block hk4
  rw [hbx']
  obtain ⟨x0, x1, x2, x3, x4, x5, x6, -⟩ := blk7 hk4
  clear p0 p1 p2 p3 p4 p5 p6 p7 p8 pf hpb
  obtain ⟨p0, p1, p2, p3, p4, p5, p6, p7, p8, pf, hpb⟩ := HP4.out.pk.cells
  have HLf4 := HLf w4.drew ((hb4.trans ((Below.refl _ _).mono hb4.size)).drew)
  have HK4 := hide hk4
  clear hw4 hbx' hk4 hb4 hb34 HLf
  have z0 : IntKind.i64.wrap 0 = 0 := by rfl
  have z5 : IntKind.i64.wrap 5 = 5 := by rfl
  have z6 : (5 : Int) - 0 = 5 := by rfl
  refine wp_region_held_drew (S := (fun w' => w'.cell? ⟨bx, 0, none⟩ = some (.int .i64 5) ∧ w'.cell? ⟨bx, 1, none⟩ = some (.int .i64 0) ∧ w'.cell? ⟨bx, 2, none⟩ = some (.int .u64 (fm2 : Int)) ∧ w'.cell? ⟨bx, 3, none⟩ = some (.int .u64 (fy3 : Int)) ∧ w'.cell? ⟨pb, 3, none⟩ = some (.int .u64 (fm2 : Int)) ∧ w'.cell? ⟨pb, 5, none⟩ = some (.pointer (some ⟨b1, 0, none⟩)))) (by kernel_rfl) (by go_keep) (fun hHeld => ?_)
  refine wpAnyH_take (i := 0) (oi := { dst := some 30, op := Op.move (Operand.tmp 8), type := 4, pos := _, after := _, guard := _ }) (v := ?vk0) rfl (by kernel_rfl) (by kernel_rfl) (by kernel_rfl) (fun _ _ _ h => h) (Or.inl ⟨by rfl, ?yk0⟩) (by assumption) ?rk0
  case yk0 => (intro w hSw; (try dsimp only at hSw); go_simp; try with_reducible rfl)
  try simp only [Act.put, List.setIfInBounds_toArray, List.set_cons_zero, List.set_cons_succ]
  refine wpAnyH_take (i := 1) (oi := { dst := some 31, op := Op.unOp UnOp.not 4 (Operand.tmp 30), type := 4, pos := _, after := _, guard := _ }) (v := ?vk1) rfl (by kernel_rfl) (by kernel_rfl) (by kernel_rfl) (fun _ _ _ h => h) (Or.inl ⟨by rfl, ?yk1⟩) (by assumption) ?rk1
  case yk1 => (intro w hSw; (try dsimp only at hSw); go_simp; try with_reducible rfl)
  try simp only [Act.put, List.setIfInBounds_toArray, List.set_cons_zero, List.set_cons_succ]
  refine wpAnyH_take (i := 2) (oi := { dst := some 32, op := Op.move (Operand.tmp 31), type := 4, pos := _, after := _, guard := _ }) (v := ?vk2) rfl (by kernel_rfl) (by kernel_rfl) (by kernel_rfl) (fun _ _ _ h => h) (Or.inl ⟨by rfl, ?yk2⟩) (by assumption) ?rk2
  case yk2 => (intro w hSw; (try dsimp only at hSw); go_simp; try with_reducible rfl)
  try simp only [Act.put, List.setIfInBounds_toArray, List.set_cons_zero, List.set_cons_succ]
  refine wpAnyH_take (i := 3) (oi := { dst := some 33, op := Op.fieldAddr 54 (Operand.tmp 7) 0, type := 0, pos := _, after := _, guard := _ }) (v := ?vk3) rfl (by kernel_rfl) (by kernel_rfl) (by kernel_rfl) (fun _ _ _ h => h) (Or.inl ⟨by rfl, ?yk3⟩) (by assumption) ?rk3
  case yk3 => (intro w hSw; (try dsimp only at hSw); go_simp; try with_reducible rfl)
  try simp only [Act.put, List.setIfInBounds_toArray, List.set_cons_zero, List.set_cons_succ]
  refine wpAnyH_take (i := 4) (oi := { dst := some 34, op := Op.load 3 (Operand.tmp 33), type := 3, pos := _, after := _, guard := _ }) (v := ?vk4) rfl (by kernel_rfl) (by kernel_rfl) (by kernel_rfl) (fun _ _ _ h => h) (Or.inl ⟨by rfl, ?yk4⟩) (by assumption) ?rk4
  case yk4 => (intro w hSw; (try dsimp only at hSw); go_simp; try with_reducible rfl)
  try simp only [Act.put, List.setIfInBounds_toArray, List.set_cons_zero, List.set_cons_succ]
  refine wpAnyH_take (i := 5) (oi := { dst := some 35, op := Op.move (Operand.tmp 1), type := 3, pos := _, after := _, guard := _ }) (v := ?vk5) rfl (by kernel_rfl) (by kernel_rfl) (by kernel_rfl) (fun _ _ _ h => h) (Or.inl ⟨by rfl, ?yk5⟩) (by assumption) ?rk5
  case yk5 => (intro w hSw; (try dsimp only at hSw); go_simp; try with_reducible rfl)
  try simp only [Act.put, List.setIfInBounds_toArray, List.set_cons_zero, List.set_cons_succ]
  refine wpAnyH_take (i := 6) (oi := { dst := some 36, op := Op.binOp BinOp.mul 3 (Operand.const (Value.int IntKind.i64 5)) (Operand.tmp 35) 3, type := 3, pos := _, after := _, guard := _ }) (v := ?vk6) rfl (by kernel_rfl) (by kernel_rfl) (by kernel_rfl) (fun _ _ _ h => h) (Or.inl ⟨by rfl, ?yk6⟩) (by assumption) ?rk6
  case yk6 => (intro w hSw; (try dsimp only at hSw); go_simp; try with_reducible rfl)
  try simp only [Act.put, List.setIfInBounds_toArray, List.set_cons_zero, List.set_cons_succ]
  refine wpAnyH_take (i := 7) (oi := { dst := some 37, op := Op.binOp BinOp.neq 3 (Operand.tmp 34) (Operand.tmp 36) 3, type := 4, pos := _, after := _, guard := _ }) (v := ?vk7) rfl (by kernel_rfl) (by kernel_rfl) (by kernel_rfl) (fun _ _ _ h => h) (Or.inl ⟨by rfl, ?yk7⟩) (by assumption) ?rk7
  case yk7 => (intro w hSw; (try dsimp only at hSw); go_simp; try with_reducible rfl)
  try simp only [Act.put, List.setIfInBounds_toArray, List.set_cons_zero, List.set_cons_succ]
  refine wpAnyH_take (i := 8) (oi := { dst := some 38, op := Op.pick (Operand.tmp 32) (Operand.const (Value.bool true)) (Operand.tmp 37), type := 4, pos := _, after := _, guard := _ }) (v := ?vk8) rfl (by kernel_rfl) (by kernel_rfl) (by kernel_rfl) (fun _ _ _ h => h) (Or.inl ⟨by rfl, ?yk8⟩) (by assumption) ?rk8
  case yk8 => (intro w hSw; (try dsimp only at hSw); go_simp; try with_reducible rfl)
  try simp only [Act.put, List.setIfInBounds_toArray, List.set_cons_zero, List.set_cons_succ]
  refine wpAnyH_take (i := 9) (oi := { dst := some 39, op := Op.move (Operand.tmp 38), type := 4, pos := _, after := _, guard := _ }) (v := ?vk9) rfl (by kernel_rfl) (by kernel_rfl) (by kernel_rfl) (fun _ _ _ h => h) (Or.inl ⟨by rfl, ?yk9⟩) (by assumption) ?rk9
  case yk9 => (intro w hSw; (try dsimp only at hSw); go_simp; try with_reducible rfl)
  try simp only [Act.put, List.setIfInBounds_toArray, List.set_cons_zero, List.set_cons_succ]
  refine wpAnyH_take (i := 10) (oi := { dst := some 40, op := Op.fieldAddr 54 (Operand.tmp 7) 1, type := 0, pos := _, after := _, guard := _ }) (v := ?vk10) rfl (by kernel_rfl) (by kernel_rfl) (by kernel_rfl) (fun _ _ _ h => h) (Or.inl ⟨by rfl, ?yk10⟩) (by assumption) ?rk10
  case yk10 => (intro w hSw; (try dsimp only at hSw); go_simp; try with_reducible rfl)
  try simp only [Act.put, List.setIfInBounds_toArray, List.set_cons_zero, List.set_cons_succ]
  refine wpAnyH_take (i := 11) (oi := { dst := some 41, op := Op.load 3 (Operand.tmp 40), type := 3, pos := _, after := _, guard := _ }) (v := ?vk11) rfl (by kernel_rfl) (by kernel_rfl) (by kernel_rfl) (fun _ _ _ h => h) (Or.inl ⟨by rfl, ?yk11⟩) (by assumption) ?rk11
  case yk11 => (intro w hSw; (try dsimp only at hSw); go_simp; try with_reducible rfl)
  try simp only [Act.put, List.setIfInBounds_toArray, List.set_cons_zero, List.set_cons_succ]
  refine wpAnyH_take (i := 12) (oi := { dst := some 42, op := Op.move (Operand.tmp 1), type := 3, pos := _, after := _, guard := _ }) (v := ?vk12) rfl (by kernel_rfl) (by kernel_rfl) (by kernel_rfl) (fun _ _ _ h => h) (Or.inl ⟨by rfl, ?yk12⟩) (by assumption) ?rk12
  case yk12 => (intro w hSw; (try dsimp only at hSw); go_simp; try with_reducible rfl)
  try simp only [Act.put, List.setIfInBounds_toArray, List.set_cons_zero, List.set_cons_succ]
  refine wpAnyH_take (i := 13) (oi := { dst := some 43, op := Op.binOp BinOp.mul 3 (Operand.const (Value.int IntKind.i64 5)) (Operand.tmp 42) 3, type := 3, pos := _, after := _, guard := _ }) (v := ?vk13) rfl (by kernel_rfl) (by kernel_rfl) (by kernel_rfl) (fun _ _ _ h => h) (Or.inl ⟨by rfl, ?yk13⟩) (by assumption) ?rk13
  case yk13 => (intro w hSw; (try dsimp only at hSw); go_simp; try with_reducible rfl)
  try simp only [Act.put, List.setIfInBounds_toArray, List.set_cons_zero, List.set_cons_succ]
  refine wpAnyH_take (i := 14) (oi := { dst := some 44, op := Op.binOp BinOp.sub 3 (Operand.const (Value.int IntKind.i64 5)) (Operand.tmp 43) 3, type := 3, pos := _, after := _, guard := _ }) (v := ?vk14) rfl (by kernel_rfl) (by kernel_rfl) (by kernel_rfl) (fun _ _ _ h => h) (Or.inl ⟨by rfl, ?yk14⟩) (by assumption) ?rk14
  case yk14 => (intro w hSw; (try dsimp only at hSw); go_simp; try with_reducible rfl)
  try simp only [Act.put, List.setIfInBounds_toArray, List.set_cons_zero, List.set_cons_succ]
  refine wpAnyH_take (i := 15) (oi := { dst := some 45, op := Op.binOp BinOp.neq 3 (Operand.tmp 41) (Operand.tmp 44) 3, type := 4, pos := _, after := _, guard := _ }) (v := ?vk15) rfl (by kernel_rfl) (by kernel_rfl) (by kernel_rfl) (fun _ _ _ h => h) (Or.inl ⟨by rfl, ?yk15⟩) (by assumption) ?rk15
  case yk15 => (intro w hSw; (try dsimp only at hSw); go_simp; try with_reducible rfl)
  try simp only [Act.put, List.setIfInBounds_toArray, List.set_cons_zero, List.set_cons_succ]
  refine wpAnyH_take (i := 16) (oi := { dst := some 46, op := Op.pick (Operand.tmp 39) (Operand.const (Value.bool true)) (Operand.tmp 45), type := 4, pos := _, after := _, guard := _ }) (v := ?vk16) rfl (by kernel_rfl) (by kernel_rfl) (by kernel_rfl) (fun _ _ _ h => h) (Or.inl ⟨by rfl, ?yk16⟩) (by assumption) ?rk16
  case yk16 => (intro w hSw; (try dsimp only at hSw); go_simp; try with_reducible rfl)
  try simp only [Act.put, List.setIfInBounds_toArray, List.set_cons_zero, List.set_cons_succ]
  refine wpAnyH_take (i := 17) (oi := { dst := some 47, op := Op.move (Operand.tmp 46), type := 4, pos := _, after := _, guard := _ }) (v := ?vk17) rfl (by kernel_rfl) (by kernel_rfl) (by kernel_rfl) (fun _ _ _ h => h) (Or.inl ⟨by rfl, ?yk17⟩) (by assumption) ?rk17
  case yk17 => (intro w hSw; (try dsimp only at hSw); go_simp; try with_reducible rfl)
  try simp only [Act.put, List.setIfInBounds_toArray, List.set_cons_zero, List.set_cons_succ]
  refine wpAnyH_take (i := 18) (oi := { dst := some 48, op := Op.fieldAddr 54 (Operand.tmp 7) 2, type := 0, pos := _, after := _, guard := _ }) (v := ?vk18) rfl (by kernel_rfl) (by kernel_rfl) (by kernel_rfl) (fun _ _ _ h => h) (Or.inl ⟨by rfl, ?yk18⟩) (by assumption) ?rk18
  case yk18 => (intro w hSw; (try dsimp only at hSw); go_simp; try with_reducible rfl)
  try simp only [Act.put, List.setIfInBounds_toArray, List.set_cons_zero, List.set_cons_succ]
  refine wpAnyH_take (i := 19) (oi := { dst := some 49, op := Op.load 33 (Operand.tmp 48), type := 33, pos := _, after := _, guard := _ }) (v := ?vk19) rfl (by kernel_rfl) (by kernel_rfl) (by kernel_rfl) (fun _ _ _ h => h) (Or.inl ⟨by rfl, ?yk19⟩) (by assumption) ?rk19
  case yk19 => (intro w hSw; (try dsimp only at hSw); go_simp; try with_reducible rfl)
  try simp only [Act.put, List.setIfInBounds_toArray, List.set_cons_zero, List.set_cons_succ]
  refine wpAnyH_take (i := 20) (oi := { dst := some 50, op := Op.move (Operand.tmp 0), type := 25, pos := _, after := _, guard := _ }) (v := ?vk20) rfl (by kernel_rfl) (by kernel_rfl) (by kernel_rfl) (fun _ _ _ h => h) (Or.inl ⟨by rfl, ?yk20⟩) (by assumption) ?rk20
  case yk20 => (intro w hSw; (try dsimp only at hSw); go_simp; try with_reducible rfl)
  try simp only [Act.put, List.setIfInBounds_toArray, List.set_cons_zero, List.set_cons_succ]
  refine wpAnyH_take (i := 21) (oi := { dst := some 51, op := Op.move (Operand.tmp 1), type := 3, pos := _, after := _, guard := _ }) (v := ?vk21) rfl (by kernel_rfl) (by kernel_rfl) (by kernel_rfl) (fun _ _ _ h => h) (Or.inl ⟨by rfl, ?yk21⟩) (by assumption) ?rk21
  case yk21 => (intro w hSw; (try dsimp only at hSw); go_simp; try with_reducible rfl)
  try simp only [Act.put, List.setIfInBounds_toArray, List.set_cons_zero, List.set_cons_succ]
  refine wpAnyH_take (i := 22) (oi := { dst := some 52, op := Op.nilCheck (Operand.tmp 50), type := 0, pos := _, after := _, guard := _ }) (v := ?vk22) rfl (by kernel_rfl) (by kernel_rfl) (by kernel_rfl) (fun _ _ _ h => h) (Or.inl ⟨by rfl, ?yk22⟩) (by assumption) ?rk22
  case yk22 => (intro w hSw; (try dsimp only at hSw); go_simp; try with_reducible rfl)
  try simp only [Act.put, List.setIfInBounds_toArray, List.set_cons_zero, List.set_cons_succ]
  refine wpAnyH_take (i := 23) (oi := { dst := some 53, op := Op.fieldAddr 41 (Operand.tmp 52) 2, type := 0, pos := _, after := _, guard := _ }) (v := ?vk23) rfl (by kernel_rfl) (by kernel_rfl) (by kernel_rfl) (fun _ _ _ h => h) (Or.inl ⟨by rfl, ?yk23⟩) (by assumption) ?rk23
  case yk23 => (intro w hSw; (try dsimp only at hSw); go_simp; try with_reducible rfl)
  try simp only [Act.put, List.setIfInBounds_toArray, List.set_cons_zero, List.set_cons_succ]
  refine wpAnyH_take (i := 24) (oi := { dst := some 54, op := Op.indexAddr 34 (Operand.tmp 53) (Operand.tmp 51), type := 0, pos := _, after := _, guard := _ }) (v := ?vk24) rfl (by kernel_rfl) (by kernel_rfl) (by kernel_rfl) (fun _ _ _ h => h) (Or.inl ⟨by rfl, ?yk24⟩) (by assumption) ?rk24
  case yk24 => (intro w hSw; (try dsimp only at hSw); go_simp; try with_reducible rfl)
  try simp only [Act.put, List.setIfInBounds_toArray, List.set_cons_zero, List.set_cons_succ]
  refine wpAnyH_take (i := 25) (oi := { dst := some 55, op := Op.load 33 (Operand.tmp 54), type := 33, pos := _, after := _, guard := _ }) (v := ?vk25) rfl (by kernel_rfl) (by kernel_rfl) (by kernel_rfl) (fun _ _ _ h => h) (Or.inl ⟨by rfl, ?yk25⟩) (by assumption) ?rk25
  case yk25 => (intro w hSw; (try dsimp only at hSw); go_simp; try with_reducible rfl)
  try simp only [Act.put, List.setIfInBounds_toArray, List.set_cons_zero, List.set_cons_succ]
  refine wpAnyH_take (i := 26) (oi := { dst := some 56, op := Op.binOp BinOp.neq 33 (Operand.tmp 49) (Operand.tmp 55) 33, type := 4, pos := _, after := _, guard := _ }) (v := ?vk26) rfl (by kernel_rfl) (by kernel_rfl) (by kernel_rfl) (fun _ _ _ h => h) (Or.inl ⟨by rfl, ?yk26⟩) (by assumption) ?rk26
  case yk26 => (intro w hSw; (try dsimp only at hSw); go_simp; try with_reducible rfl)
  try simp only [Act.put, List.setIfInBounds_toArray, List.set_cons_zero, List.set_cons_succ]
  refine wpAnyH_take (i := 27) (oi := { dst := some 57, op := Op.pick (Operand.tmp 47) (Operand.const (Value.bool true)) (Operand.tmp 56), type := 4, pos := _, after := _, guard := _ }) (v := ?vk27) rfl (by kernel_rfl) (by kernel_rfl) (by kernel_rfl) (fun _ _ _ h => h) (Or.inl ⟨by rfl, ?yk27⟩) (by assumption) ?rk27
  case yk27 => (intro w hSw; (try dsimp only at hSw); go_simp; try with_reducible rfl)
  try simp only [Act.put, List.setIfInBounds_toArray, List.set_cons_zero, List.set_cons_succ]
  refine wpAnyH_take (i := 28) (oi := { dst := some 58, op := Op.move (Operand.tmp 57), type := 4, pos := _, after := _, guard := _ }) (v := ?vk28) rfl (by kernel_rfl) (by kernel_rfl) (by kernel_rfl) (fun _ _ _ h => h) (Or.inl ⟨by rfl, ?yk28⟩) (by assumption) ?rk28
  case yk28 => (intro w hSw; (try dsimp only at hSw); go_simp; try with_reducible rfl)
  try simp only [Act.put, List.setIfInBounds_toArray, List.set_cons_zero, List.set_cons_succ]
  refine wpAnyH_take (i := 29) (oi := { dst := some 59, op := Op.fieldAddr 54 (Operand.tmp 7) 3, type := 0, pos := _, after := _, guard := _ }) (v := ?vk29) rfl (by kernel_rfl) (by kernel_rfl) (by kernel_rfl) (fun _ _ _ h => h) (Or.inl ⟨by rfl, ?yk29⟩) (by assumption) ?rk29
  case yk29 => (intro w hSw; (try dsimp only at hSw); go_simp; try with_reducible rfl)
  try simp only [Act.put, List.setIfInBounds_toArray, List.set_cons_zero, List.set_cons_succ]
  refine wpAnyH_take (i := 30) (oi := { dst := some 60, op := Op.load 33 (Operand.tmp 59), type := 33, pos := _, after := _, guard := _ }) (v := ?vk30) rfl (by kernel_rfl) (by kernel_rfl) (by kernel_rfl) (fun _ _ _ h => h) (Or.inl ⟨by rfl, ?yk30⟩) (by assumption) ?rk30
  case yk30 => (intro w hSw; (try dsimp only at hSw); go_simp; try with_reducible rfl)
  try simp only [Act.put, List.setIfInBounds_toArray, List.set_cons_zero, List.set_cons_succ]
  refine wpAnyH_take (i := 31) (oi := { dst := some 61, op := Op.move (Operand.tmp 0), type := 25, pos := _, after := _, guard := _ }) (v := ?vk31) rfl (by kernel_rfl) (by kernel_rfl) (by kernel_rfl) (fun _ _ _ h => h) (Or.inl ⟨by rfl, ?yk31⟩) (by assumption) ?rk31
  case yk31 => (intro w hSw; (try dsimp only at hSw); go_simp; try with_reducible rfl)
  try simp only [Act.put, List.setIfInBounds_toArray, List.set_cons_zero, List.set_cons_succ]
  refine wpAnyH_take (i := 32) (oi := { dst := some 62, op := Op.move (Operand.tmp 1), type := 3, pos := _, after := _, guard := _ }) (v := ?vk32) rfl (by kernel_rfl) (by kernel_rfl) (by kernel_rfl) (fun _ _ _ h => h) (Or.inl ⟨by rfl, ?yk32⟩) (by assumption) ?rk32
  case yk32 => (intro w hSw; (try dsimp only at hSw); go_simp; try with_reducible rfl)
  try simp only [Act.put, List.setIfInBounds_toArray, List.set_cons_zero, List.set_cons_succ]
  refine wpAnyH_take (i := 33) (oi := { dst := some 63, op := Op.nilCheck (Operand.tmp 61), type := 0, pos := _, after := _, guard := _ }) (v := ?vk33) rfl (by kernel_rfl) (by kernel_rfl) (by kernel_rfl) (fun _ _ _ h => h) (Or.inl ⟨by rfl, ?yk33⟩) (by assumption) ?rk33
  case yk33 => (intro w hSw; (try dsimp only at hSw); go_simp; try with_reducible rfl)
  try simp only [Act.put, List.setIfInBounds_toArray, List.set_cons_zero, List.set_cons_succ]
  refine wpAnyH_take (i := 34) (oi := { dst := some 64, op := Op.fieldAddr 41 (Operand.tmp 63) 3, type := 0, pos := _, after := _, guard := _ }) (v := ?vk34) rfl (by kernel_rfl) (by kernel_rfl) (by kernel_rfl) (fun _ _ _ h => h) (Or.inl ⟨by rfl, ?yk34⟩) (by assumption) ?rk34
  case yk34 => (intro w hSw; (try dsimp only at hSw); go_simp; try with_reducible rfl)
  try simp only [Act.put, List.setIfInBounds_toArray, List.set_cons_zero, List.set_cons_succ]
  refine wpAnyH_take (i := 35) (oi := { dst := some 65, op := Op.indexAddr 36 (Operand.tmp 64) (Operand.tmp 62), type := 0, pos := _, after := _, guard := _ }) (v := ?vk35) rfl (by kernel_rfl) (by kernel_rfl) (by kernel_rfl) (fun _ _ _ h => h) (Or.inl ⟨by rfl, ?yk35⟩) (by assumption) ?rk35
  case yk35 => (intro w hSw; (try dsimp only at hSw); go_simp; try with_reducible rfl)
  try simp only [Act.put, List.setIfInBounds_toArray, List.set_cons_zero, List.set_cons_succ]
  refine wpAnyH_take (i := 36) (oi := { dst := some 66, op := Op.load 35 (Operand.tmp 65), type := 35, pos := _, after := _, guard := _ }) (v := ?vk36) rfl (by kernel_rfl) (by kernel_rfl) (by kernel_rfl) (fun _ _ _ h => h) (Or.inl ⟨by rfl, ?yk36⟩) (by assumption) ?rk36
  case yk36 => (intro w hSw; (try dsimp only at hSw); go_simp; try with_reducible rfl)
  try simp only [Act.put, List.setIfInBounds_toArray, List.set_cons_zero, List.set_cons_succ]
  refine wpAnyH_ready (rs := [37]) (by kernel_rfl) (by simp) ?_
  refine AllReadyH.cons (o := { dst := some 67, op := Op.call { callee := Callee.value (Operand.func 8), args := #[Operand.tmp 66], argTypes := #[35] }, type := 33, pos := _, after := _, guard := _ }) rfl (fun KK hKK => ?_) AllReadyH.nil
  go_simp
  (go_at_call 8; refine HLf4.out.mono ?_; rintro e w5 ⟨rfl, hw5⟩; subst hw5)
  try go_wp2_with fail
  refine hKK.out _ _ (by (try dsimp only); go_keep) (fun hHeld => ?_)
  clear hKK KK
  try simp only [Act.put, List.setIfInBounds_toArray, List.set_cons_zero, List.set_cons_succ]
  refine wpAnyH_take (i := 38) (oi := { dst := some 68, op := Op.binOp BinOp.neq 33 (Operand.tmp 60) (Operand.tmp 67) 33, type := 4, pos := _, after := _, guard := _ }) (v := ?vk38) rfl (by kernel_rfl) (by kernel_rfl) (by kernel_rfl) (fun _ _ _ h => h) (Or.inl ⟨by rfl, ?yk38⟩) (by assumption) ?rk38
  case yk38 => (intro w hSw; (try dsimp only at hSw); go_simp; try with_reducible rfl)
  try simp only [Act.put, List.setIfInBounds_toArray, List.set_cons_zero, List.set_cons_succ]
  refine wpAnyH_take (i := 39) (oi := { dst := some 69, op := Op.pick (Operand.tmp 58) (Operand.const (Value.bool true)) (Operand.tmp 68), type := 4, pos := _, after := _, guard := _ }) (v := ?vk39) rfl (by kernel_rfl) (by kernel_rfl) (by kernel_rfl) (fun _ _ _ h => h) (Or.inl ⟨by rfl, ?yk39⟩) (by assumption) ?rk39
  case yk39 => (intro w hSw; (try dsimp only at hSw); go_simp; try with_reducible rfl)
  try simp only [Act.put, List.setIfInBounds_toArray, List.set_cons_zero, List.set_cons_succ]
  refine wpAnyH_done (by kernel_rfl) ?_ _
  obtain ⟨w5, hw5⟩ : ∃ w5, w4.drew = w5 := ⟨_, rfl⟩
  have HK5 : Hid (w4.drew.heap[bx]? = some (.cells #[.int .i64 5, .int .i64 0, .int .u64 (fm2 : Int), .int .u64 (fy3 : Int), .int .u64 (fs4 : Int), .int .u64 (fa5 : Int), .slice sq7 nb nb] 54 (0, 0))) := HK4.out
  have HB5 : Hid (Below wq.heap.size wq w4.drew) := ((HB4.out.trans ((Below.refl _ _).mono HB4.out.size)).drew)
  have HB35 : Hid (Below w3.heap.size w3 w4.drew) := ((HB34.out.trans ((Below.refl _ _).mono HB34.out.size)).drew)
  rw [hw5] at HK5 HB5 HB35 ⊢
  have HP5 := hide (HPq.out.below HB5.out (4, 0))
  clear hw5 HP4 HK4 HLf4 x0 x1 x2 x3 x4 x5 x6 p0 p1 p2 p3 p4 p5 p6 p7 p8 pf hpb hHeld hbx z0 z5 z6 HB4 HB34
  obtain ⟨p0, p1, p2, p3, p4, p5, p6, p7, p8, pf, hpb⟩ := HP5.out.pk.cells
  obtain ⟨x0, x1, x2, x3, x4, x5, x6, -⟩ := blk7 HK5.out
  obtain ⟨i0, hi, hz0, hz1, hz2⟩ := info_parts Tryd.infoFr
  obtain ⟨E, hE⟩ : ∃ E, es ++ fs = E := ⟨_, rfl⟩
  have hEl : E.length ≤ 200000 := by rw [← hE, List.length_append, HFl.out]; have := HEl.out; omega
  have HEe := hide hE
  rw [hE] at HP5 HPq
  clear hE
  obtain ⟨sa, sc, hsv, hsl, hsc⟩ : ∃ sa sc, svq = .slice sa E.length sc ∧ E.length ≤ sc ∧ sc ≤ maxLen := owns_form HP5.out.sent.own
  subst hsv
  have HPn : Hid (some pb ≠ (Value.slice sa E.length sc).ownBlock) := fun e => by have := HP5.out.sent.kind pb e.symm; rw [HP5.out.pk.kind] at this; cases this
  go_upto_region 8 with (fail)
  go_region_law (first | (refine step_append_lies _ (by rfl) (.tmp 74) (.tmp 76) 37 (by rfl) 0 54 i0 (.agg #[.int .i64 0, .int .i64 0, .int .u64 0, .int .u64 0, .int .u64 0, .int .u64 0, .slice none 0 0]) 7 72 Tryd.underlying37 hi hz0 hz1 hz2 rfl (by omega) (.slice sa E.length sc) E.length (sentC E) (by rfl) ((HP5.out.sent.own.alloc _).drew) ⟨w5.heap.size, 0, none⟩ 1 1 [.int .i64 5, .int .i64 0, .int .u64 (fm2 : Int), .int .u64 (fy3 : Int), .int .u64 (fs4 : Int), .int .u64 (fa5 : Int), .slice sq7 nb nb] (by rfl) rfl (World.news_of_block (heap_alloc_new w5 (.cells #[.int .i64 5, .int .i64 0, .int .u64 (fm2 : Int), .int .u64 (fy3 : Int), .int .u64 (fs4 : Int), .int .u64 (fa5 : Int), .slice sq7 nb nb] 54))) (by simp [Value.oneCell']) (by omega) (by unfold maxLen; omega) (by omega) (by simp) _ rfl ?_; intro g' cap' w6 hown hgrow hat hltg; have hp6 := (hgrow.block pb (by simp; omega) HPn.out); have hpr6 : w6.heap[pb]? = _ := (hp6.trans ((Below.heap_alloc _ _ _ hpb).trans HP5.out.pk.blk)); have hpk6 : Pk w6 (ext Kq wq.heap.size (4, 0)) pb W M l0 fm2 b0 b1 (.slice sa E.length sc) s0 s1 := ⟨hpr6, HP5.out.pk.kind⟩; obtain ⟨-, -, -, -, -, -, q6, -, -, qf, hq6⟩ := hpk6.cells; have HO6 := hide hown; have HG6 := hide hgrow; have HA6 := hide hat; clear hown hgrow hat hp6 hpr6 hpk6))
  all_goals go_wp2
  all_goals
    have hb6 : Below w5.heap.size w5 (w5.alloc (.cells #[.int .i64 5, .int .i64 0, .int .u64 (fm2 : Int), .int .u64 (fy3 : Int), .int .u64 (fs4 : Int), .int .u64 (fa5 : Int), .slice sq7 nb nb] 54)).drew := ((Below.refl _ _).alloc (Nat.le_refl _) _).drew
    have hbq : Below wq.heap.size wq (w5.alloc (.cells #[.int .i64 5, .int .i64 0, .int .u64 (fm2 : Int), .int .u64 (fy3 : Int), .int .u64 (fs4 : Int), .int .u64 (fa5 : Int), .slice sq7 nb nb] 54)).drew := HB5.out.trans (hb6.mono HB5.out.size)
    have hb36 : Below w3.heap.size w3 (w5.alloc (.cells #[.int .i64 5, .int .i64 0, .int .u64 (fm2 : Int), .int .u64 (fy3 : Int), .int .u64 (fs4 : Int), .int .u64 (fa5 : Int), .slice sq7 nb nb] 54)).drew := HB35.out.trans (hb6.mono HB35.out.size)
    have hby6 := by4_mine (K := Kq) HMi.out HSm.out hb36
    obtain ⟨hpm, hkp⟩ := (HPq.out.below hbq (4, 0)).more (e := ⟨⟨5, 0, fm2, fy3, fs4, fa5, bo⟩, sq7, nb⟩) HG6.out (by simpa [feC, HNb.out] using HO6.out) (by
      rcases HA6.out with e1 | e1
      · exact Or.inl e1.symm
      · exact Or.inr ⟨g', rfl, by rw [e1]; exact Nat.le_refl _⟩) hby6
    have hEa : ∀ x : Fe, E ++ [x] = es ++ (fs ++ [x]) := fun x => by rw [← HEe.out, List.append_assoc]
    rw [hEa] at hpm
    have hkp2 := (HKq.out.trans (kp_below hbq _ Kq (4, 0))).trans hkp
    have hfs2 : (fs ++ [(⟨⟨5, 0, fm2, fy3, fs4, fa5, bo⟩, sq7, nb⟩ : Fe)]).map Fe.f = (outF B).take (n + 1) := by rw [HFt.out, List.map_append, HFs.out]; rfl
    exact ⟨⟨n + 1, _, _, _, by omega, by go_num, hide hfs2, hide hpm, hide hkp2⟩, by simp [intOf]; omega⟩
end Go.Proofs.YtbcpoejpbhpcbaaDoor
