import Derived.Laws.ResultCell
import Derived.Test.YtjcdnclfakmbpaaGreatDoorLkC
namespace Go.Proofs.YtjcdnclfakmbpaaGreatDoor
open Go.RowKit
def z7 : Array Value := #[.int .i64 0, .int .i64 0, .int .u64 0, .int .u64 0, .int .u64 0, .int .u64 0, .slice none 0 0]
structure D0 (w w' : World) (rb h b : Nat) (xs : List Nat) (a f : Nat) : Prop where
  bel : Below w.heap.size w w'
  res : w'.heap[rb]? = some (.cells z7 33 (0, 0))
  rd : C.Rd w' b h xs a f
  lo : w.heap.size ≤ rb ∧ rb < h ∧ h < b
structure Ds (w w' : World) (rb h b fb : Nat) (xs : List Nat) (a f : Nat) (cs : Array Value) : Prop extends D0 w w' rb h b xs a f where
  fr : w'.heap[fb]? = some (.cells cs 33 (0, 0))
  hi : b < fb
theorem D0.but {w w' w2 : World} {rb h b : Nat} {xs : List Nat} {a f a2 f2 : Nat} (d : D0 w w' rb h b xs a f) (hr : C.Rd w2 b h xs a2 f2) (hb : C.But b w' w2) : D0 w w2 rb h b xs a2 f2 := by
  have hl := d.lo
  have h1 := d.rd.lt
  have h2 := C.lt_of_block d.res
  exact ⟨hb.below d.bel (by omega) d.bel.size, (hb.block rb h2 (by omega)).trans d.res, hr, hl⟩
theorem Ds.but {w w' w2 : World} {rb h b fb : Nat} {xs : List Nat} {a f a2 f2 : Nat} {cs : Array Value} (d : Ds w w' rb h b fb xs a f cs) (hr : C.Rd w2 b h xs a2 f2) (hb : C.But b w' w2) : Ds w w2 rb h b fb xs a2 f2 cs := by
  have hl := d.hi
  exact ⟨d.toD0.but hr hb, (hb.block fb (C.lt_of_block d.fr) (by omega)).trans d.fr, hl⟩
theorem Ds.below {w w' w2 : World} {rb h b fb : Nat} {xs : List Nat} {a f : Nat} {cs : Array Value} (d : Ds w w' rb h b fb xs a f cs) (hb : Below w'.heap.size w' w2) : Ds w w2 rb h b fb xs a f cs :=
  d.but (d.rd.below hb) (C.but_of hb b)
theorem Rd.set {w : World} {b h : Nat} {xs : List Nat} {a f : Nat} (r : C.Rd w b h xs a f) {fb : Nat} (h1 : fb ≠ b) (h2 : fb ≠ h) (i : Nat) (v : Value) : C.Rd (w.setCell ⟨fb, i, none⟩ v) b h xs a f := by
  refine ⟨(Below.heap_setCell _ _ _ _ (Ne.symm h1)).trans r.blk, ⟨r.held.small, ?_⟩, r.len, r.le⟩
  rcases r.held.lie with e | ⟨g, o, e, hg, hc⟩
  · exact Or.inl e
  · cases e
    refine Or.inr ⟨h, 0, rfl, by simpa [World.setCell] using hg, fun j hj => ?_⟩
    rw [← hc j hj]
    exact World.cell?_of_block (a := ⟨h, 0 + j, none⟩) (Below.heap_setCell w ⟨fb, i, none⟩ v h (Ne.symm h2))
theorem Ds.set {w w' : World} {rb h b fb : Nat} {xs : List Nat} {a f : Nat} {cs : Array Value} (d : Ds w w' rb h b fb xs a f cs) (i : Nat) (v : Value) : Ds w (w'.setCell ⟨fb, i, none⟩ v) rb h b fb xs a f (cs.setIfInBounds i v) := by
  have hl := d.lo
  have hi := d.hi
  have hsz := d.bel.size
  refine ⟨⟨d.bel.setCell (by show _ ≤ fb; omega) _, (Below.heap_setCell _ _ _ _ (by show rb ≠ fb; omega)).trans d.res, Rd.set d.rd (by omega) (by omega) i v, hl⟩, C.block_set d.fr v, hi⟩
theorem Ds.cells {w w' : World} {rb h b fb : Nat} {xs : List Nat} {a f : Nat} {x0 x1 x2 x3 x4 x5 x6 : Value} (d : Ds w w' rb h b fb xs a f #[x0, x1, x2, x3, x4, x5, x6]) :
    w'.cell? ⟨fb, 0, none⟩ = some x0 ∧ w'.cell? ⟨fb, 1, none⟩ = some x1 ∧ w'.cell? ⟨fb, 2, none⟩ = some x2 ∧ w'.cell? ⟨fb, 3, none⟩ = some x3 ∧ w'.cell? ⟨fb, 4, none⟩ = some x4 ∧ w'.cell? ⟨fb, 5, none⟩ = some x5 ∧ w'.cell? ⟨fb, 6, none⟩ = some x6 ∧ (∀ o, w'.frozen? ⟨fb, o, none⟩ = false) := blk7 d.fr
theorem results_row_tmp {P : Program} {fn : Func} {p u : Tmp} {ty : TypeId} (h : fn.results = #[.cell p ty, .tmp u]) (tmps : Array Value) (w : World) (g : Nat) (t : TypeId) (cs : Array Value) (fr : Nat × Nat) (d : TypeDesc)
    (hp : tmps.getD p undef = .pointer (some ⟨g, 0, none⟩)) (hg : w.heap[g]? = some (.cells cs t fr))
    (hu : P.underlying ty = some d) (hd : (match d with | .struct _ | .array _ _ => true | _ => false) = true) (hi : (P.info? ty).map (·.size) = some cs.size) :
    (results fn tmps).run P w = .ok (.tuple #[.agg cs, tmps.getD u undef]) w := by
  rw [results_cell_tmp h, hp]
  simp [asAddr, Result.andThen, run_loadVar_row w g t ty cs fr d hg hu hd hi]
theorem put7 {w : World} {b : Nat} {x0 x1 x2 x3 x4 x5 x6 : Value} {t : TypeId} (h : w.heap[b]? = some (.cells #[x0, x1, x2, x3, x4, x5, x6] t (0, 0))) (y0 y1 y2 y3 y4 y5 y6 : Value) :
    (((((((w.setCell ⟨b, 0, none⟩ y0).setCell ⟨b, 1, none⟩ y1).setCell ⟨b, 2, none⟩ y2).setCell ⟨b, 3, none⟩ y3).setCell ⟨b, 4, none⟩ y4).setCell ⟨b, 5, none⟩ y5).setCell ⟨b, 6, none⟩ y6).heap[b]? = some (.cells #[y0, y1, y2, y3, y4, y5, y6] t (0, 0)) := by
  have h0 : (w.setCell ⟨b, 0, none⟩ y0).heap[b]? = some (.cells #[y0, x1, x2, x3, x4, x5, x6] t (0, 0)) := C.block_set h y0
  obtain ⟨w0, e0⟩ : ∃ v, w.setCell ⟨b, 0, none⟩ y0 = v := ⟨_, rfl⟩
  rw [e0] at h0 ⊢
  have h1 : (w0.setCell ⟨b, 1, none⟩ y1).heap[b]? = some (.cells #[y0, y1, x2, x3, x4, x5, x6] t (0, 0)) := C.block_set h0 y1
  obtain ⟨w1, e1⟩ : ∃ v, w0.setCell ⟨b, 1, none⟩ y1 = v := ⟨_, rfl⟩
  rw [e1] at h1 ⊢
  have h2 : (w1.setCell ⟨b, 2, none⟩ y2).heap[b]? = some (.cells #[y0, y1, y2, x3, x4, x5, x6] t (0, 0)) := C.block_set h1 y2
  obtain ⟨w2, e2⟩ : ∃ v, w1.setCell ⟨b, 2, none⟩ y2 = v := ⟨_, rfl⟩
  rw [e2] at h2 ⊢
  have h3 : (w2.setCell ⟨b, 3, none⟩ y3).heap[b]? = some (.cells #[y0, y1, y2, y3, x4, x5, x6] t (0, 0)) := C.block_set h2 y3
  obtain ⟨w3, e3⟩ : ∃ v, w2.setCell ⟨b, 3, none⟩ y3 = v := ⟨_, rfl⟩
  rw [e3] at h3 ⊢
  have h4 : (w3.setCell ⟨b, 4, none⟩ y4).heap[b]? = some (.cells #[y0, y1, y2, y3, y4, x5, x6] t (0, 0)) := C.block_set h3 y4
  obtain ⟨w4, e4⟩ : ∃ v, w3.setCell ⟨b, 4, none⟩ y4 = v := ⟨_, rfl⟩
  rw [e4] at h4 ⊢
  have h5 : (w4.setCell ⟨b, 5, none⟩ y5).heap[b]? = some (.cells #[y0, y1, y2, y3, y4, y5, x6] t (0, 0)) := C.block_set h4 y5
  obtain ⟨w5, e5⟩ : ∃ v, w4.setCell ⟨b, 5, none⟩ y5 = v := ⟨_, rfl⟩
  rw [e5] at h5 ⊢
  have h6 : (w5.setCell ⟨b, 6, none⟩ y6).heap[b]? = some (.cells #[y0, y1, y2, y3, y4, y5, y6] t (0, 0)) := C.block_set h5 y6
  exact h6
def dcV (r : Bool) (f : Fr) (sq : Option Addr) : Value := if r = true then frV f sq f.body.length else frV fr0 none 0
def Mn (B : Nat) (w : World) (sq : Option Addr) (bd : List Nat) (m : Nat) : Prop := (sq = none ∧ bd = []) ∨ ∃ g, sq = some ⟨g, 0, none⟩ ∧ B ≤ g ∧ w.heap[g]? = some (.cells (C.vals bd).toArray 5 (0, 0)) ∧ m < g
theorem Mn.mine {B : Nat} {w : World} {sq : Option Addr} {bd : List Nat} {m : Nat} (h : Mn B w sq bd m) : C.Mine B w sq bd := by
  rcases h with h | ⟨g, e, h1, h2, _⟩
  · exact Or.inl h
  · exact Or.inr ⟨g, e, h1, h2⟩
theorem Mn.kept {B : Nat} {w w' : World} {sq : Option Addr} {bd : List Nat} {m : Nat} (h : Mn B w sq bd m) (hk : ∀ g, m < g → g < w.heap.size → w'.heap[g]? = w.heap[g]?) : Mn B w' sq bd m := by
  rcases h with h | ⟨g, e, h1, h2, h3⟩
  · exact Or.inl h
  · exact Or.inr ⟨g, e, h1, (hk g h3 (C.lt_of_block h2)).trans h2, h3⟩
theorem Mn.set {B : Nat} {w : World} {sq : Option Addr} {bd : List Nat} {m : Nat} (h : Mn B w sq bd m) {b : Nat} (hb : b ≤ m) (i : Nat) (v : Value) : Mn B (w.setCell ⟨b, i, none⟩ v) sq bd m :=
  h.kept fun g hg _ => Below.heap_setCell _ _ _ _ (by show g ≠ b; omega)
set_option maxRecDepth 100000 in
set_option maxHeartbeats 4000000 in
theorem dec_go (w : World) (sp : Option Addr) (n cap : Nat) (xs : List Nat) (hl : xs.length = n) (hcap : n ≤ cap) (_hc : cap ≤ 9223372036854775807) (hn : n ≤ 2112) (hx : Bytes w sp xs) (hT : C.Tab w) (x1 x2 x3 x4 x5 x6 x7 x8 : C.It × Nat × Nat)
    (e1 : x1 = C.rNext 0 0 xs 0 0) (e2 : x2 = C.rNext 0 0 xs x1.2.1 x1.2.2) (e3 : x3 = C.rNext 3 1099511627776 xs x2.2.1 x2.2.2) (e4 : x4 = C.rNext 3 1099511627776 xs x3.2.1 x3.2.2) (e5 : x5 = C.rNext 3 1099511627776 xs x4.2.1 x4.2.2)
    (e6 : x6 = C.rNext 3 1099511627776 xs x5.2.1 x5.2.2) (e7 : x7 = C.rText 2048 xs x6.2.1 x6.2.2) (e8 : x8 = C.rNext 1 0 xs x7.2.1 x7.2.2) (f : Fr) (hf : f = ⟨x1.1.num, x2.1.num, x3.1.num, x4.1.num, x5.1.num, x6.1.num, C.got xs x6.2.1 x7⟩) (r : Bool) (hr : r = decide (x8.1.num = C.sumOf (xs.take x7.2.1) ∧ C.pEnd xs.length x8.2.1 x8.2.2 = 0 ∧ f.fit)) :
    Calls Tryz.prog 17 #[.slice sp n cap] w fun e w' => ∃ sq, e = .returned (.tuple #[dcV r f sq, .bool r]) ∧ C.Mine w.heap.size w' sq f.body ∧ Below w.heap.size w w' := by
  have HX := hide hx
  have HL := hide hl
  have HT := hide hT
  have HR := hide hr
  have HF := hide hf
  have E1 := hide e1
  have E2 := hide e2
  have E3 := hide e3
  have E4 := hide e4
  have E5 := hide e5
  have E6 := hide e6
  have E7 := hide e7
  have E8 := hide e8
  clear hx hl hT hr hf e1 e2 e3 e4 e5 e6 e7 e8
  have hB1 : Below w.heap.size w (w.alloc (.cells z7 33)) := (Below.refl _ _).alloc (Nat.le_refl _) _
  have hK := heap_alloc_new w (.cells z7 33)
  have hS1 : (w.alloc (.cells z7 33)).heap.size = w.heap.size + 1 := by simp
  obtain ⟨w1, hw1⟩ : ∃ w1, w.alloc (.cells z7 33) = w1 := ⟨_, rfl⟩
  rw [hw1] at hB1 hK hS1
  have HB1 := hide hB1
  have HK := hide hK
  have HW := hide hw1
  have HS1 := hide hS1
  clear hB1 hw1 hK hS1
  unfold z7 at HW
  have h12 : ¬ (2112 : Int) < (n : Int) := by omega
  have HRd := hide (C.read_any w1 sp n cap xs HL.out (by omega) (HX.out.below HB1.out).c)
  go_enter Tryz.func17, Tryz.ntmps17
  go_upto_region 1 with (fail)
  rw [HW.out]
  go_wp2_with fail
  refine HRd.out.mono ?_
  rintro e w2 ⟨rfl, hr2, hb2⟩
  have H2 : Hid (D0 w w2 w.heap.size w1.heap.size (w1.heap.size + 1) xs 0 0) := ⟨HB1.out.trans (hb2.mono HB1.out.size), (hb2.block _ (by rw [HS1.out]; exact Nat.lt_succ_self _)).trans HK.out, hr2, Nat.le_refl _, by rw [HS1.out]; exact Nat.lt_succ_self _, Nat.lt_succ_self _⟩
  have HU := hide (C.u8_any w2 _ _ _ _ _ hr2)
  rw [← E1.out] at HU
  have hs1 := C.num_small1 xs HX.out.small 0 0 0 0 (by simp [C.width])
  rw [← E1.out] at hs1
  clear hr2 hb2 HRd
  go_wp2_with fail
  refine HU.out.mono ?_
  rintro e w3 ⟨rfl, hr3, hb3⟩
  have H3 := hide (H2.out.but hr3 hb3)
  have HU := hide (C.u8_any w3 _ _ _ _ _ hr3)
  rw [← E2.out] at HU
  have hs2 := C.num_small1 xs HX.out.small 0 0 x1.2.1 x1.2.2 (by simp [C.width])
  rw [← E2.out] at hs2
  clear hr3 hb3 H2
  go_wp2_with fail
  refine HU.out.mono ?_
  rintro e w4 ⟨rfl, hr4, hb4⟩
  have H4 := hide (H3.out.but hr4 hb4)
  clear hr4 hb4 H3 HU
  go_upto_region 5 with (fail)
  obtain ⟨w5, hw5⟩ : ∃ w5, w4.alloc (.cells #[.int .i64 (x1.1.num : Int), .int .i64 (x2.1.num : Int), .int .u64 0, .int .u64 0, .int .u64 0, .int .u64 0, .slice none 0 0] 33) = w5 := ⟨_, rfl⟩
  rw [hw5]
  have H5 : Hid (Ds w w5 w.heap.size w1.heap.size (w1.heap.size + 1) w4.heap.size xs x2.2.1 x2.2.2 #[.int .i64 (x1.1.num : Int), .int .i64 (x2.1.num : Int), .int .u64 0, .int .u64 0, .int .u64 0, .int .u64 0, .slice none 0 0]) := by
    have hb : Below w4.heap.size w4 w5 := by rw [← hw5]; exact (Below.refl _ _).alloc (Nat.le_refl _) _
    exact ⟨H4.out.but (H4.out.rd.below hb) (C.but_of hb _), by rw [← hw5]; exact heap_alloc_new _ _, H4.out.rd.lt⟩
  clear hw5 H4
  generalize w4.heap.size = fb at *
  have HV := hide (C.var_read w5 _ _ _ _ _ 1099511627776 (by omega) H5.out.rd)
  rw [← E3.out] at HV
  go_wp2_with fail
  refine HV.out.mono ?_
  rintro e w6 ⟨rfl, hr6, hb6⟩
  have H6 := hide (H5.out.but hr6 hb6)
  have HV := hide (C.var_read w6 _ _ _ _ _ 1099511627776 (by omega) hr6)
  rw [← E4.out] at HV
  clear hr6 hb6 H5
  go_wp2_with fail
  refine HV.out.mono ?_
  rintro e w7 ⟨rfl, hr7, hb7⟩
  have H7 := hide (H6.out.but hr7 hb7)
  obtain ⟨c0, c1, c2, c3, c4, c5, c6, cf⟩ := H7.out.cells
  clear hr7 hb7 H6 HV
  go_upto_region 6 with (fail)
  obtain ⟨w8, hw8⟩ : ∃ w8, (w7.setCell ⟨fb, 2, none⟩ (.int .u64 (x3.1.num : Int))).setCell ⟨fb, 3, none⟩ (.int .u64 (x4.1.num : Int)) = w8 := ⟨_, rfl⟩
  rw [hw8]
  have H8 := hide ((H7.out.set 2 (.int .u64 (x3.1.num : Int))).set 3 (.int .u64 (x4.1.num : Int)))
  rw [hw8] at H8
  simp only [List.setIfInBounds_toArray, List.set_cons_succ, List.set_cons_zero] at H8
  clear hw8 H7 c0 c1 c2 c3 c4 c5 c6 cf
  have HV := hide (C.var_read w8 _ _ _ _ _ 1099511627776 (by omega) H8.out.rd)
  rw [← E5.out] at HV
  go_wp2_with fail
  refine HV.out.mono ?_
  rintro e w9 ⟨rfl, hr9, hb9⟩
  have H9 := hide (H8.out.but hr9 hb9)
  have HV := hide (C.var_read w9 _ _ _ _ _ 1099511627776 (by omega) hr9)
  rw [← E6.out] at HV
  clear hr9 hb9 H8
  go_wp2_with fail
  refine HV.out.mono ?_
  rintro e w10 ⟨rfl, hr10, hb10⟩
  have H10 := hide (H9.out.but hr10 hb10)
  obtain ⟨c0, c1, c2, c3, c4, c5, c6, cf⟩ := H10.out.cells
  clear hr10 hb10 H9 HV
  go_upto_region 7 with (fail)
  obtain ⟨w11, hw11⟩ : ∃ w8, (w10.setCell ⟨fb, 4, none⟩ (.int .u64 (x5.1.num : Int))).setCell ⟨fb, 5, none⟩ (.int .u64 (x6.1.num : Int)) = w8 := ⟨_, rfl⟩
  rw [hw11]
  have H11 := hide ((H10.out.set 4 (.int .u64 (x5.1.num : Int))).set 5 (.int .u64 (x6.1.num : Int)))
  rw [hw11] at H11
  simp only [List.setIfInBounds_toArray, List.set_cons_succ, List.set_cons_zero] at H11
  clear hw11 H10 c0 c1 c2 c3 c4 c5 c6 cf
  have HG := hide (C.text_any w11 _ _ _ _ _ 2048 (by omega) H11.out.rd)
  rw [← E7.out] at HG
  have HGs := hide (C.got_small HX.out.small x6.2.1 x7)
  obtain ⟨bd, hbd⟩ : ∃ bd, C.got xs x6.2.1 x7 = bd := ⟨_, rfl⟩
  rw [hbd] at HG HGs HF
  obtain ⟨bl, hbl⟩ : ∃ bl, bd.length = bl := ⟨_, rfl⟩
  have HBL := hide hbl
  clear hbl hbd
  unfold C.TookBytes at HG
  rw [HBL.out] at HG
  go_wp2_with fail
  refine HG.out.mono ?_
  rintro e w12 ⟨sq, rfl, hm, -, hr12, hb12⟩
  have H12 := hide (H11.out.but hr12 hb12)
  have HM : Hid (Mn w.heap.size w12 sq bd fb) := by
    have h1 := H11.out.bel.size
    have h2 := C.lt_of_block H11.out.fr
    rcases hm with ⟨e1, e2⟩ | ⟨g, e1, e2, e3⟩
    · exact Or.inl ⟨e1, e2⟩
    · exact Or.inr ⟨g, e1, by omega, e3, by omega⟩
  obtain ⟨c0, c1, c2, c3, c4, c5, c6, cf⟩ := H12.out.cells
  clear hr12 hb12 H11 HG hm
  go_upto_region 8 with (fail)
  obtain ⟨w13, hw13⟩ : ∃ w8, w12.setCell ⟨fb, 6, none⟩ (.slice sq bl bl) = w8 := ⟨_, rfl⟩
  rw [hw13]
  have H13 := hide (H12.out.set 6 (.slice sq bl bl))
  have HM13 := hide (HM.out.set (Nat.le_refl _) 6 (.slice sq bl bl))
  rw [hw13] at H13 HM13
  simp only [List.setIfInBounds_toArray, List.set_cons_succ, List.set_cons_zero] at H13
  clear hw13 H12 HM c0 c1 c2 c3 c4 c5 c6 cf
  have HA := hide (C.at_any w13 _ _ _ _ _ H13.out.rd)
  have hat : x7.2.1 ≤ n := by have := H13.out.rd.le; rw [HL.out] at this; exact this
  have hat0 : (0 : Int) ≤ (x7.2.1 : Int) := by omega
  have hat1 : (x7.2.1 : Int) ≤ (cap : Int) := by omega
  have HS := hide (C.sum_any w13 sp x7.2.1 cap (xs.take x7.2.1) (by rw [List.length_take, HL.out]; omega) ((HX.out.below H13.out.bel).c.take _) (by omega) (HT.out.below H13.out.bel HT.out.pos))
  have HSl := hide (sum_lt (xs.take x7.2.1) (fun x hx => HX.out.small x (List.mem_of_mem_take hx)))
  generalize C.sumOf (xs.take x7.2.1) = S at *
  go_wp2_with fail
  refine HA.out.mono ?_
  rintro e w14 ⟨rfl, rfl⟩
  go_wp2_with fail
  refine HS.out.mono ?_
  rintro e w15 ⟨rfl, rfl⟩
  have HU := hide (C.u32_any w15 _ _ _ _ _ H13.out.rd)
  rw [← E8.out] at HU
  clear HS HA
  go_wp2_with fail
  refine HU.out.mono ?_
  rintro e w16 ⟨rfl, hr16, hb16⟩
  have H16 := hide (H13.out.but hr16 hb16)
  have HM16 : Hid (Mn w.heap.size w16 sq bd fb) := HM13.out.kept fun g hg hlt => hb16.block g hlt (by have := H13.out.hi; omega)
  clear hr16 hb16 H13 HM13 HU
  by_cases hsum : x8.1.num = S
  · have hs' : ((x8.1.num : Int) != (S : Int)) = false := by simp; omega
    have HE := hide (C.end_any w16 _ _ _ _ _ H16.out.rd)
    rw [HL.out] at HE HR
    obtain ⟨pe, hpe⟩ : ∃ pe, C.pEnd n x8.2.1 x8.2.2 = pe := ⟨_, rfl⟩
    rw [hpe] at HE HR
    clear hpe
    go_wp2_with fail
    refine HE.out.mono ?_
    rintro e w17 ⟨rfl, hb17⟩
    have H17 := hide (H16.out.below hb17)
    have HM17 : Hid (Mn w.heap.size w17 sq bd fb) := HM16.out.kept fun g hg hlt => hb17.block g hlt
    clear hb17 H16 HM16 HE
    by_cases hpe : pe = 0
    · have hp' : ((pe : Int) != 0) = false := by simp [hpe]
      obtain ⟨c0, c1, c2, c3, c4, c5, c6, cf⟩ := H17.out.cells
      have HY := hide (fun w => mayBe_any w f sq bl)
      rw [HF.out] at HY
      simp only [frV, HBL.out] at HY
      by_cases hfit : f.fit
      · have HR0 : Hid (r = true) := by show _ = _; rw [HR.out]; exact decide_eq_true ⟨hsum, hpe, hfit⟩
        rw [← HF.out, decide_eq_true hfit] at HY
        go_wp2_with fail
        refine (HY.out _).mono ?_
        rintro e w18 ⟨rfl, hb18⟩
        have H18 := hide (H17.out.below hb18)
        have HM18 : Hid (Mn w.heap.size w18 sq bd fb) := HM17.out.kept fun g hg hlt => hb18.block g hlt
        clear hb18 H17 HM17 HY c0 c1 c2 c3 c4 c5 c6 cf
        obtain ⟨r0, r1, r2, r3, r4, r5, r6, rf⟩ := blk7 H18.out.res
        obtain ⟨c0, c1, c2, c3, c4, c5, c6, cf⟩ := H18.out.cells
        go_wp2
        have hp := put7 (w := w18) H18.out.res (.int .i64 (x1.1.num : Int)) (.int .i64 (x2.1.num : Int)) (.int .u64 (x3.1.num : Int)) (.int .u64 (x4.1.num : Int)) (.int .u64 (x5.1.num : Int)) (.int .u64 (x6.1.num : Int)) (.slice sq bl bl)
        have hb : Below w.heap.size w (((((((w18.setCell ⟨w.heap.size, 0, none⟩ (.int .i64 (x1.1.num : Int))).setCell ⟨w.heap.size, 1, none⟩ (.int .i64 (x2.1.num : Int))).setCell ⟨w.heap.size, 2, none⟩ (.int .u64 (x3.1.num : Int))).setCell ⟨w.heap.size, 3, none⟩ (.int .u64 (x4.1.num : Int))).setCell ⟨w.heap.size, 4, none⟩ (.int .u64 (x5.1.num : Int))).setCell ⟨w.heap.size, 5, none⟩ (.int .u64 (x6.1.num : Int))).setCell ⟨w.heap.size, 6, none⟩ (.slice sq bl bl)) := ((((((H18.out.bel.setCell (Nat.le_refl _) _).setCell (Nat.le_refl _) _).setCell (Nat.le_refl _) _).setCell (Nat.le_refl _) _).setCell (Nat.le_refl _) _).setCell (Nat.le_refl _) _).setCell (Nat.le_refl _) _
        have hlo : w.heap.size ≤ fb := by have := H18.out.lo; have := H18.out.hi; omega
        have hm := ((((((HM18.out.set hlo 0 (.int .i64 (x1.1.num : Int))).set hlo 1 (.int .i64 (x2.1.num : Int))).set hlo 2 (.int .u64 (x3.1.num : Int))).set hlo 3 (.int .u64 (x4.1.num : Int))).set hlo 4 (.int .u64 (x5.1.num : Int))).set hlo 5 (.int .u64 (x6.1.num : Int))).set hlo 6 (.slice sq bl bl)
        refine bodyPost_ret (results_row_tmp rfl _ _ w.heap.size 33 _ (0, 0) _ rfl hp Tryz.underlying33 rfl (by kernel_rfl)) rfl ?_
        exact ⟨sq, by rw [HR0.out]; rw [HF.out]; show Ending.returned (.tuple #[.agg #[.int .i64 (x1.1.num : Int), .int .i64 (x2.1.num : Int), .int .u64 (x3.1.num : Int), .int .u64 (x4.1.num : Int), .int .u64 (x5.1.num : Int), .int .u64 (x6.1.num : Int), .slice sq bl bl], .bool true]) = _; rw [← HBL.out]; rfl, by rw [HF.out]; exact hm.mine, hb⟩
      · have HR0 : Hid (r = false) := by show _ = _; rw [HR.out]; exact decide_eq_false (fun h => hfit h.2.2)
        rw [← HF.out, decide_eq_false hfit] at HY
        go_wp2_with fail
        refine (HY.out _).mono ?_
        rintro e w18 ⟨rfl, hb18⟩
        have H18 := hide (H17.out.below hb18)
        have HM18 : Hid (Mn w.heap.size w18 sq bd fb) := HM17.out.kept fun g hg hlt => hb18.block g hlt
        clear hb18 H17 HM17 HY c0 c1 c2 c3 c4 c5 c6 cf
        obtain ⟨r0, r1, r2, r3, r4, r5, r6, rf⟩ := blk7 H18.out.res
        go_wp2
        have hp := put7 (w := w18) H18.out.res (.int .i64 0) (.int .i64 0) (.int .u64 0) (.int .u64 0) (.int .u64 0) (.int .u64 0) (.slice none 0 0)
        have hb : Below w.heap.size w (((((((w18.setCell ⟨w.heap.size, 0, none⟩ (.int .i64 0)).setCell ⟨w.heap.size, 1, none⟩ (.int .i64 0)).setCell ⟨w.heap.size, 2, none⟩ (.int .u64 0)).setCell ⟨w.heap.size, 3, none⟩ (.int .u64 0)).setCell ⟨w.heap.size, 4, none⟩ (.int .u64 0)).setCell ⟨w.heap.size, 5, none⟩ (.int .u64 0)).setCell ⟨w.heap.size, 6, none⟩ (.slice none 0 0)) := ((((((H18.out.bel.setCell (Nat.le_refl _) _).setCell (Nat.le_refl _) _).setCell (Nat.le_refl _) _).setCell (Nat.le_refl _) _).setCell (Nat.le_refl _) _).setCell (Nat.le_refl _) _).setCell (Nat.le_refl _) _
        have hlo : w.heap.size ≤ fb := by have := H18.out.lo; have := H18.out.hi; omega
        have hm := ((((((HM18.out.set hlo 0 (.int .i64 0)).set hlo 1 (.int .i64 0)).set hlo 2 (.int .u64 0)).set hlo 3 (.int .u64 0)).set hlo 4 (.int .u64 0)).set hlo 5 (.int .u64 0)).set hlo 6 (.slice none 0 0)
        refine bodyPost_ret (results_row_tmp rfl _ _ w.heap.size 33 _ (0, 0) _ rfl hp Tryz.underlying33 rfl (by kernel_rfl)) rfl ?_
        exact ⟨sq, by rw [HR0.out]; rfl, by rw [HF.out]; exact hm.mine, hb⟩
    · have hp' : ((pe : Int) != 0) = true := by simp; omega
      have HR0 : Hid (r = false) := by show _ = _; rw [HR.out]; exact decide_eq_false (fun h => hpe h.2.1)
      obtain ⟨r0, r1, r2, r3, r4, r5, r6, rf⟩ := blk7 H17.out.res
      go_wp2
      have hp := put7 (w := w17) H17.out.res (.int .i64 0) (.int .i64 0) (.int .u64 0) (.int .u64 0) (.int .u64 0) (.int .u64 0) (.slice none 0 0)
      have hb : Below w.heap.size w (((((((w17.setCell ⟨w.heap.size, 0, none⟩ (.int .i64 0)).setCell ⟨w.heap.size, 1, none⟩ (.int .i64 0)).setCell ⟨w.heap.size, 2, none⟩ (.int .u64 0)).setCell ⟨w.heap.size, 3, none⟩ (.int .u64 0)).setCell ⟨w.heap.size, 4, none⟩ (.int .u64 0)).setCell ⟨w.heap.size, 5, none⟩ (.int .u64 0)).setCell ⟨w.heap.size, 6, none⟩ (.slice none 0 0)) := ((((((H17.out.bel.setCell (Nat.le_refl _) _).setCell (Nat.le_refl _) _).setCell (Nat.le_refl _) _).setCell (Nat.le_refl _) _).setCell (Nat.le_refl _) _).setCell (Nat.le_refl _) _).setCell (Nat.le_refl _) _
      have hlo : w.heap.size ≤ fb := by have := H17.out.lo; have := H17.out.hi; omega
      have hm := ((((((HM17.out.set hlo 0 (.int .i64 0)).set hlo 1 (.int .i64 0)).set hlo 2 (.int .u64 0)).set hlo 3 (.int .u64 0)).set hlo 4 (.int .u64 0)).set hlo 5 (.int .u64 0)).set hlo 6 (.slice none 0 0)
      refine bodyPost_ret (results_row_tmp rfl _ _ w.heap.size 33 _ (0, 0) _ rfl hp Tryz.underlying33 rfl (by kernel_rfl)) rfl ?_
      exact ⟨sq, by rw [HR0.out]; rfl, by rw [HF.out]; exact hm.mine, hb⟩
  · have hs' : ((x8.1.num : Int) != (S : Int)) = true := by simp; omega
    have HR0 : Hid (r = false) := by show _ = _; rw [HR.out]; exact decide_eq_false (fun h => hsum h.1)
    obtain ⟨r0, r1, r2, r3, r4, r5, r6, rf⟩ := blk7 H16.out.res
    go_wp2
    have hp := put7 (w := w16) H16.out.res (.int .i64 0) (.int .i64 0) (.int .u64 0) (.int .u64 0) (.int .u64 0) (.int .u64 0) (.slice none 0 0)
    have hb : Below w.heap.size w (((((((w16.setCell ⟨w.heap.size, 0, none⟩ (.int .i64 0)).setCell ⟨w.heap.size, 1, none⟩ (.int .i64 0)).setCell ⟨w.heap.size, 2, none⟩ (.int .u64 0)).setCell ⟨w.heap.size, 3, none⟩ (.int .u64 0)).setCell ⟨w.heap.size, 4, none⟩ (.int .u64 0)).setCell ⟨w.heap.size, 5, none⟩ (.int .u64 0)).setCell ⟨w.heap.size, 6, none⟩ (.slice none 0 0)) := ((((((H16.out.bel.setCell (Nat.le_refl _) _).setCell (Nat.le_refl _) _).setCell (Nat.le_refl _) _).setCell (Nat.le_refl _) _).setCell (Nat.le_refl _) _).setCell (Nat.le_refl _) _).setCell (Nat.le_refl _) _
    have hlo : w.heap.size ≤ fb := by have := H16.out.lo; have := H16.out.hi; omega
    have hm := ((((((HM16.out.set hlo 0 (.int .i64 0)).set hlo 1 (.int .i64 0)).set hlo 2 (.int .u64 0)).set hlo 3 (.int .u64 0)).set hlo 4 (.int .u64 0)).set hlo 5 (.int .u64 0)).set hlo 6 (.slice none 0 0)
    refine bodyPost_ret (results_row_tmp rfl _ _ w.heap.size 33 _ (0, 0) _ rfl hp Tryz.underlying33 rfl (by kernel_rfl)) rfl ?_
    exact ⟨sq, by rw [HR0.out]; rfl, by rw [HF.out]; exact hm.mine, hb⟩
end Go.Proofs.YtjcdnclfakmbpaaGreatDoor
