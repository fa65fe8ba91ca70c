import Derived.Test.YtjcdnclfakmbpaaGreatDoorRfB
namespace Go.Proofs.YtjcdnclfakmbpaaGreatDoor
open Go.RowKit
theorem bytes_off {w w' : World} {s : Option Addr} {ys : List Nat} {B : Nat} (h : C.Bytes w s ys) (hlo : ∀ p, s = some p → B ≤ p.block) (hk : ∀ g, B ≤ g → g < w.heap.size → w'.heap[g]? = w.heap[g]?) (hsz : w.heap.size ≤ w'.heap.size) : C.Bytes w' s ys := by
  refine ⟨h.small, h.lie.imp id ?_⟩
  rintro ⟨g, o, e, hg, hc⟩
  refine ⟨g, o, e, Nat.lt_of_lt_of_le hg hsz, fun j hj => ?_⟩
  rw [← hc j hj]
  exact World.cell?_of_block (a := ⟨g, o + j, none⟩) (hk g (hlo _ e) hg)
structure Dr (w w' : World) (sp : Option Addr) (c : Nat) (xs : List Nat) (a f : Nat) (cs : Array Value) : Prop where
  bel : Below w.heap.size w w'
  res : w'.heap[w.heap.size]? = some (.cells z7 33 (0, 0))
  ey : C.Ey w' (w.heap.size + 1) sp c xs a f
  fr : w'.heap[w.heap.size + 2]? = some (.cells cs 33 (0, 0))
  hx : C.Bytes w sp xs
section
variable {w w' w2 : World} {sp : Option Addr} {c : Nat} {xs : List Nat} {a f a2 f2 : Nat} {cs : Array Value}
theorem Dr.but (d : Dr w w' sp c xs a f cs) (hr : C.Ey w2 (w.heap.size + 1) sp c xs a2 f2) (hb : C.But (w.heap.size + 1) w' w2) : Dr w w2 sp c xs a2 f2 cs := by
  have h1 := C.lt_of_block d.res
  have h2 := C.lt_of_block d.fr
  exact ⟨hb.below d.bel (by omega) d.bel.size, (hb.block _ h1 (by omega)).trans d.res, hr, (hb.block _ h2 (by omega)).trans d.fr, d.hx⟩
theorem Dr.below (d : Dr w w' sp c xs a f cs) (hb : Below w'.heap.size w' w2) : Dr w w2 sp c xs a f cs := d.but (d.ey.below hb) (C.but_of hb _)
theorem Dr.set (d : Dr w w' sp c xs a f cs) (i : Nat) (v : Value) : Dr w (w'.setCell ⟨w.heap.size + 2, i, none⟩ v) sp c xs a f (cs.setIfInBounds i v) := by
  have hb := d.bel.setCell (p := ⟨w.heap.size + 2, i, none⟩) (by show _ ≤ w.heap.size + 2; omega) v
  exact ⟨hb, (Below.heap_setCell _ _ _ _ (by simp)).trans d.res, ⟨(Below.heap_setCell _ _ _ _ (by simp)).trans d.ey.blk, d.hx.below hb, d.ey.form, d.ey.len, d.ey.cap, d.ey.most, d.ey.le⟩, C.block_set d.fr v, d.hx⟩
theorem Dr.lt (d : Dr w w' sp c xs a f cs) : w.heap.size + 2 < w'.heap.size := C.lt_of_block d.fr
end
theorem end7 {w w' : World} (hb : Below w.heap.size w w') (hr : w'.heap[w.heap.size]? = some (.cells z7 33 (0, 0))) (y0 y1 y2 y3 y4 y5 y6 : Value) :
    ∃ wz, (((((((w'.setCell ⟨w.heap.size, 0, none⟩ y0).setCell ⟨w.heap.size, 1, none⟩ y1).setCell ⟨w.heap.size, 2, none⟩ y2).setCell ⟨w.heap.size, 3, none⟩ y3).setCell ⟨w.heap.size, 4, none⟩ y4).setCell ⟨w.heap.size, 5, none⟩ y5).setCell ⟨w.heap.size, 6, none⟩ y6) = wz ∧ wz.heap[w.heap.size]? = some (.cells #[y0, y1, y2, y3, y4, y5, y6] 33 (0, 0)) ∧ Below w.heap.size w wz ∧ (∀ g, w.heap.size < g → wz.heap[g]? = w'.heap[g]?) ∧ wz.heap.size = w'.heap.size := by
  refine ⟨_, rfl, put7 hr y0 y1 y2 y3 y4 y5 y6, ((((((hb.setCell (Nat.le_refl _) _).setCell (Nat.le_refl _) _).setCell (Nat.le_refl _) _).setCell (Nat.le_refl _) _).setCell (Nat.le_refl _) _).setCell (Nat.le_refl _) _).setCell (Nat.le_refl _) _, fun g hg => ?_, ?_⟩
  · have hs : ∀ (W : World) (i : Nat) (v : Value), (W.setCell ⟨w.heap.size, i, none⟩ v).heap[g]? = W.heap[g]? := fun W i v => Below.heap_setCell _ _ _ _ (by show g ≠ w.heap.size; omega)
    rw [hs, hs, hs, hs, hs, hs, hs]
  · simp [World.setCell]
def RdPost (w : World) (f : Fr) (r : Bool) (e : Ending) (w' : World) : Prop :=
  ∃ sq k, e = .returned (.tuple #[if r = true then frV f sq k else frV fr0 none 0, .bool r]) ∧ C.Bytes w' sq f.body ∧ (∀ p, sq = some p → w.heap.size ≤ p.block) ∧ Below w.heap.size w w'
set_option maxRecDepth 100000 in
set_option maxHeartbeats 4000000 in
theorem rdec_go (w : World) (sp : Option Addr) (n cap : Nat) (xs : List Nat) (hl : xs.length = n) (hcap : n ≤ cap) (hc : cap ≤ 9223372036854775807) (hn : n ≤ 140737488351232) (hx : C.Bytes w sp xs) (hform : (cap = 0 ∧ xs = []) ∨ ∃ g o, sp = some ⟨g, o, none⟩) (x1 x2 x3 x4 x5 x6 x7 : C.It × Nat × Nat)
    (e1 : x1 = C.rNext 0 0 xs 0 0) (e2 : x2 = C.rNext 0 0 xs x1.2.1 x1.2.2) (e3 : x3 = C.rNext 3 1099511627776 xs x2.2.1 x2.2.2) (e4 : x4 = C.rNext 3 1099511627776 xs x3.2.1 x3.2.2) (e5 : x5 = C.rNext 3 1099511627776 xs x4.2.1 x4.2.2)
    (e6 : x6 = C.rNext 3 1099511627776 xs x5.2.1 x5.2.2) (e7 : x7 = C.rText 2048 xs x6.2.1 x6.2.2) (f : Fr) (hf : f = ⟨x1.1.num, x2.1.num, x3.1.num, x4.1.num, x5.1.num, x6.1.num, C.got xs x6.2.1 x7⟩) (r : Bool) (hr : r = decide (x7.2.2 = 0 ∧ f.fit ∧ encB f = xs)) :
    Calls Tryz.prog 62 #[.slice sp n cap] w (RdPost w f r) := by
  have HX := hide hx
  have HL := hide hl
  have HR := hide hr
  have HF := hide hf
  have E1 := hide e1
  have E2 := hide e2
  have E3 := hide e3
  have E4 := hide e4
  have E5 := hide e5
  have E6 := hide e6
  have E7 := hide e7
  have HForm := hide hform
  clear hx hl hr hf hform e1 e2 e3 e4 e5 e6 e7
  obtain ⟨w0, hw0⟩ : ∃ w0, w.alloc (.cells z7 33) = w0 := ⟨_, rfl⟩
  obtain ⟨w1, hw1⟩ : ∃ w1, w0.alloc (.cells #[.slice sp n cap, .int .i64 0, .int .i64 0] 155) = w1 := ⟨_, rfl⟩
  obtain ⟨w2, hw2⟩ : ∃ w2, w1.alloc (.cells z7 33) = w2 := ⟨_, rfl⟩
  have hs0 : w0.heap.size = w.heap.size + 1 := by rw [← hw0]; simp
  have hs1 : w1.heap.size = w.heap.size + 2 := by rw [← hw1]; simp [hs0]
  have hD : Dr w w2 sp cap xs 0 0 z7 := by
    have b0 : Below w.heap.size w w0 := by rw [← hw0]; exact (Below.refl _ _).alloc (Nat.le_refl _) _
    have b1 : Below w0.heap.size w0 w1 := by rw [← hw1]; exact (Below.refl _ _).alloc (Nat.le_refl _) _
    have b2 : Below w1.heap.size w1 w2 := by rw [← hw2]; exact (Below.refl _ _).alloc (Nat.le_refl _) _
    have k0 : w0.heap[w.heap.size]? = some (.cells z7 33 (0, 0)) := by rw [← hw0]; exact heap_alloc_new _ _
    have k1 : w1.heap[w.heap.size + 1]? = some (.cells #[.slice sp n cap, .int .i64 0, .int .i64 0] 155 (0, 0)) := by rw [← hs0, ← hw1]; exact heap_alloc_new _ _
    have k2 : w2.heap[w.heap.size + 2]? = some (.cells z7 33 (0, 0)) := by rw [← hs1, ← hw2]; exact heap_alloc_new _ _
    have b : Below w.heap.size w w2 := b0.trans ((b1.mono (by omega)).trans (b2.mono (by omega)))
    exact ⟨b, (b2.block _ (by omega)).trans ((b1.block _ (by omega)).trans k0), ⟨by rw [HL.out]; exact (b2.block _ (by omega)).trans k1, HX.out.below b, HForm.out, by rw [HL.out]; exact hn, by rw [HL.out]; exact hcap, hc, Nat.zero_le _⟩, k2, HX.out⟩
  have H2 := hide hD
  have HW0 := hide hw0
  have HW1 := hide hw1
  have HW2 := hide hw2
  have HS0 := hide hs0
  have HS1 := hide hs1
  clear hw0 hw1 hw2 hs0 hs1 hD
  unfold z7 at HW0 HW2 H2
  go_enter Tryz.func62, Tryz.ntmps62
  go_upto_region 1 with (fail)
  rw [HW0.out]
  go_upto_region 2 with (fail)
  rw [HW1.out, HS0.out]
  go_upto_region 3 with (fail)
  rw [HW2.out, HS1.out]
  have HU := hide (C.eu8_any w2 _ _ _ _ _ _ H2.out.ey)
  rw [← E1.out] at HU
  have hs1 := C.num_small1 xs HX.out.small 0 0 0 0 (by simp [C.width])
  rw [← E1.out] at hs1
  go_wp2_with fail
  refine HU.out.mono ?_
  rintro e a0 ⟨rfl, hr0, hb0⟩
  have G0 := hide (H2.out.but hr0 hb0)
  clear hr0 hb0 HU H2
  obtain ⟨c0, c1, c2, c3, c4, c5, c6, cf⟩ := blk7 G0.out.fr
  have hlt := G0.out.lt
  go_upto_region 4 with (fail)
  obtain ⟨b0, hb0⟩ : ∃ v, a0.setCell ⟨w.heap.size + 2, 0, none⟩ (.int .i64 (x1.1.num : Int)) = v := ⟨_, rfl⟩
  rw [hb0]
  have K0 := hide (G0.out.set 0 (.int .i64 (x1.1.num : Int)))
  rw [hb0] at K0
  simp only [List.setIfInBounds_toArray, List.set_cons_zero] at K0
  clear hb0 G0 c0 c1 c2 c3 c4 c5 c6 cf hlt
  have HU := hide (C.eu8_any b0 _ _ _ _ _ _ K0.out.ey)
  rw [← E2.out] at HU
  have hs2 := C.num_small1 xs HX.out.small 0 0 x1.2.1 x1.2.2 (by simp [C.width])
  rw [← E2.out] at hs2
  go_wp2_with fail
  refine HU.out.mono ?_
  rintro e a1 ⟨rfl, hr1, hb1⟩
  have G1 := hide (K0.out.but hr1 hb1)
  clear hr1 hb1 HU K0
  obtain ⟨c0, c1, c2, c3, c4, c5, c6, cf⟩ := blk7 G1.out.fr
  have hlt := G1.out.lt
  go_upto_region 5 with (fail)
  obtain ⟨b1, hb1⟩ : ∃ v, a1.setCell ⟨w.heap.size + 2, 1, none⟩ (.int .i64 (x2.1.num : Int)) = v := ⟨_, rfl⟩
  rw [hb1]
  have K1 := hide (G1.out.set 1 (.int .i64 (x2.1.num : Int)))
  rw [hb1] at K1
  simp only [List.setIfInBounds_toArray, List.set_cons_succ, List.set_cons_zero] at K1
  clear hb1 G1 c0 c1 c2 c3 c4 c5 c6 cf hlt
  have HU := hide (C.evar_any b1 _ _ _ _ _ _ 1099511627776 (by omega) K1.out.ey)
  rw [← E3.out] at HU
  go_wp2_with fail
  refine HU.out.mono ?_
  rintro e a2 ⟨rfl, hr2, hb2⟩
  have G2 := hide (K1.out.but hr2 hb2)
  clear hr2 hb2 HU K1
  obtain ⟨c0, c1, c2, c3, c4, c5, c6, cf⟩ := blk7 G2.out.fr
  have hlt := G2.out.lt
  go_upto_region 6 with (fail)
  obtain ⟨b2, hb2⟩ : ∃ v, a2.setCell ⟨w.heap.size + 2, 2, none⟩ (.int .u64 (x3.1.num : Int)) = v := ⟨_, rfl⟩
  rw [hb2]
  have K2 := hide (G2.out.set 2 (.int .u64 (x3.1.num : Int)))
  rw [hb2] at K2
  simp only [List.setIfInBounds_toArray, List.set_cons_succ, List.set_cons_zero] at K2
  clear hb2 G2 c0 c1 c2 c3 c4 c5 c6 cf hlt
  have HU := hide (C.evar_any b2 _ _ _ _ _ _ 1099511627776 (by omega) K2.out.ey)
  rw [← E4.out] at HU
  go_wp2_with fail
  refine HU.out.mono ?_
  rintro e a3 ⟨rfl, hr3, hb3⟩
  have G3 := hide (K2.out.but hr3 hb3)
  clear hr3 hb3 HU K2
  obtain ⟨c0, c1, c2, c3, c4, c5, c6, cf⟩ := blk7 G3.out.fr
  have hlt := G3.out.lt
  go_upto_region 7 with (fail)
  obtain ⟨b3, hb3⟩ : ∃ v, a3.setCell ⟨w.heap.size + 2, 3, none⟩ (.int .u64 (x4.1.num : Int)) = v := ⟨_, rfl⟩
  rw [hb3]
  have K3 := hide (G3.out.set 3 (.int .u64 (x4.1.num : Int)))
  rw [hb3] at K3
  simp only [List.setIfInBounds_toArray, List.set_cons_succ, List.set_cons_zero] at K3
  clear hb3 G3 c0 c1 c2 c3 c4 c5 c6 cf hlt
  have HU := hide (C.evar_any b3 _ _ _ _ _ _ 1099511627776 (by omega) K3.out.ey)
  rw [← E5.out] at HU
  go_wp2_with fail
  refine HU.out.mono ?_
  rintro e a4 ⟨rfl, hr4, hb4⟩
  have G4 := hide (K3.out.but hr4 hb4)
  clear hr4 hb4 HU K3
  obtain ⟨c0, c1, c2, c3, c4, c5, c6, cf⟩ := blk7 G4.out.fr
  have hlt := G4.out.lt
  go_upto_region 8 with (fail)
  obtain ⟨b4, hb4⟩ : ∃ v, a4.setCell ⟨w.heap.size + 2, 4, none⟩ (.int .u64 (x5.1.num : Int)) = v := ⟨_, rfl⟩
  rw [hb4]
  have K4 := hide (G4.out.set 4 (.int .u64 (x5.1.num : Int)))
  rw [hb4] at K4
  simp only [List.setIfInBounds_toArray, List.set_cons_succ, List.set_cons_zero] at K4
  clear hb4 G4 c0 c1 c2 c3 c4 c5 c6 cf hlt
  have HU := hide (C.evar_any b4 _ _ _ _ _ _ 1099511627776 (by omega) K4.out.ey)
  rw [← E6.out] at HU
  go_wp2_with fail
  refine HU.out.mono ?_
  rintro e a5 ⟨rfl, hr5, hb5⟩
  have G5 := hide (K4.out.but hr5 hb5)
  clear hr5 hb5 HU K4
  obtain ⟨c0, c1, c2, c3, c4, c5, c6, cf⟩ := blk7 G5.out.fr
  have hlt := G5.out.lt
  go_upto_region 9 with (fail)
  obtain ⟨b5, hb5⟩ : ∃ v, a5.setCell ⟨w.heap.size + 2, 5, none⟩ (.int .u64 (x6.1.num : Int)) = v := ⟨_, rfl⟩
  rw [hb5]
  have K5 := hide (G5.out.set 5 (.int .u64 (x6.1.num : Int)))
  rw [hb5] at K5
  simp only [List.setIfInBounds_toArray, List.set_cons_succ, List.set_cons_zero] at K5
  clear hb5 G5 c0 c1 c2 c3 c4 c5 c6 cf hlt
  have HG := hide (C.etext_any b5 _ _ _ _ _ _ 2048 (by omega) K5.out.ey)
  rw [← E7.out] at HG
  have HGs := hide (C.got_small HX.out.small x6.2.1 x7)
  obtain ⟨bd, hbd⟩ : ∃ bd, C.got xs x6.2.1 x7 = bd := ⟨_, rfl⟩
  rw [hbd] at HG HGs HF
  obtain ⟨bl, hbl⟩ : ∃ bl, bd.length = bl := ⟨_, rfl⟩
  have HBL := hide hbl
  clear hbl hbd
  unfold C.EyeBytes at HG
  rw [HBL.out] at HG
  go_wp2_with fail
  refine HG.out.mono ?_
  rintro e a6 ⟨sq, k, rfl, hy6, hlo6, hr6, hb6⟩
  have G6 := hide (K5.out.but hr6 hb6)
  have HLo : Hid (∀ p, sq = some p → w.heap.size + 3 ≤ p.block) := fun p hp => Nat.le_trans K5.out.lt (hlo6 p hp)
  have HY6 := hide hy6
  clear hr6 hb6 HG K5 hlo6 hy6
  obtain ⟨c0, c1, c2, c3, c4, c5, c6, cf⟩ := blk7 G6.out.fr
  have hlt := G6.out.lt
  go_upto_region 10 with (fail)
  obtain ⟨b6, hb6⟩ : ∃ v, a6.setCell ⟨w.heap.size + 2, 6, none⟩ (.slice sq bl k) = v := ⟨_, rfl⟩
  rw [hb6]
  have K6 := hide (G6.out.set 6 (.slice sq bl k))
  have HY : Hid (C.Bytes b6 sq bd) := by
    show C.Bytes _ _ _
    rw [← hb6]
    exact bytes_off HY6.out HLo.out (fun g hg _ => Below.heap_setCell _ _ _ _ (by show g ≠ w.heap.size + 2; omega)) (by simp [World.setCell])
  rw [hb6] at K6
  simp only [List.setIfInBounds_toArray, List.set_cons_succ, List.set_cons_zero] at K6
  clear hb6 G6 HY6 c0 c1 c2 c3 c4 c5 c6 cf hlt
  have HFt := hide (fun w => rfit_any w f sq k)
  have HEn := hide (fun w h => renc_any w f sq k h)
  have HFv : Hid (frV f sq k = .agg #[.int .i64 (x1.1.num : Int), .int .i64 (x2.1.num : Int), .int .u64 (x3.1.num : Int), .int .u64 (x4.1.num : Int), .int .u64 (x5.1.num : Int), .int .u64 (x6.1.num : Int), .slice sq bl k]) := by
    show _ = _
    rw [HF.out]; unfold frV; rw [HBL.out]
  have HFb : Hid (f.body = bd) := by show _ = _; rw [HF.out]
  rw [HFv.out] at HFt HEn
  rw [HFb.out] at HEn
  have HEs : Hid (∀ x ∈ encB f, x < 256) := encB_small (by unfold Fr.small; rw [HFb.out]; exact HGs.out)
  have HEl := hide (encB_len f)
  clear HF
  unfold RdPost
  rw [HFb.out]
  obtain ⟨c0, c1, c2, c3, c4, c5, c6, cf⟩ := blk7 K6.out.fr
  obtain ⟨-, -, d2, -⟩ := C.blk3 K6.out.ey.blk
  have hlt := K6.out.lt
  have hlt1 : w.heap.size + 1 < b6.heap.size := by omega
  by_cases hbad : x7.2.2 = 0
  · have hb' : ((x7.2.2 : Int) != 0) = false := by simp [hbad]
    by_cases hfit : f.fit
    · rw [decide_eq_true hfit] at HFt
      go_wp2_with fail
      refine (HFt.out _).mono ?_
      rintro e a7 ⟨rfl, hb7⟩
      have K7 := hide (K6.out.below hb7)
      have HY7 : Hid (C.Bytes a7 sq bd) := HY.out.below hb7
      clear hb7 K6 HY HFt c0 c1 c2 c3 c4 c5 c6 cf d2 hlt hlt1
      obtain ⟨c0, c1, c2, c3, c4, c5, c6, cf⟩ := blk7 K7.out.fr
      have hlt := K7.out.lt
      go_wp2_with fail
      refine (HEn.out _ HY7.out).mono ?_
      rintro e a8 ⟨sa, q, cc, rfl, ho8, hb8⟩
      have K8 := hide (K7.out.below hb8)
      have HY8 : Hid (C.Bytes a8 sq bd) := HY7.out.below hb8
      have HQ : Hid ((encB f).length = q) := by show _ = _; have := ho8.1; simpa [C.vals] using this
      have HO8 := hide (C.owns_bytes ho8 HEs.out)
      clear ho8 hb8 K7 HY7 HEn c0 c1 c2 c3 c4 c5 c6 cf hlt
      go_wp2_with fail
      refine (C.eq_dec _ sa sp q n cc cap (encB f) xs HQ.out HL.out (by have := HQ.out; have := HEl.out; omega) (by omega) HO8.out (HX.out.below K8.out.bel)).mono ?_
      rintro e a9 ⟨r9, rfl, hr9, q9, hw9⟩
      have hb9 : Below a8.heap.size a8 a9 := by rw [hw9]; exact C.bad_drews a8 q9
      have K9 := hide (K8.out.below hb9)
      have HY9 : Hid (C.Bytes a9 sq bd) := HY8.out.below hb9
      clear hb9 hw9 K8 HY8 HO8
      cases r9 with
      | true =>
        have HR0 : Hid (r = true) := by show _ = _; rw [HR.out]; exact decide_eq_true ⟨hbad, hfit, hr9.1 rfl⟩
        clear hr9 hbad
        obtain ⟨r0, r1, r2, r3, r4, r5, r6, rf⟩ := blk7 (show a9.heap[w.heap.size]? = some (.cells #[.int .i64 0, .int .i64 0, .int .u64 0, .int .u64 0, .int .u64 0, .int .u64 0, .slice none 0 0] 33 (0, 0)) from K9.out.res)
        obtain ⟨c0, c1, c2, c3, c4, c5, c6, cf⟩ := blk7 K9.out.fr
        have hltr := C.lt_of_block K9.out.res
        have hltf := C.lt_of_block K9.out.fr
        go_wp2
        obtain ⟨wz, hz, hp, hbz, hkz, hsz⟩ := end7 K9.out.bel K9.out.res (.int .i64 (x1.1.num : Int)) (.int .i64 (x2.1.num : Int)) (.int .u64 (x3.1.num : Int)) (.int .u64 (x4.1.num : Int)) (.int .u64 (x5.1.num : Int)) (.int .u64 (x6.1.num : Int)) (.slice sq bl k)
        rw [hz]
        refine bodyPost_ret (results_row_tmp rfl _ _ w.heap.size 33 _ (0, 0) _ rfl hp Tryz.underlying33 rfl (by kernel_rfl)) rfl ?_
        exact ⟨sq, k, by rw [HR0.out, if_pos rfl, HFv.out]; rfl, (by rw [HFb.out]; exact bytes_off HY9.out HLo.out (fun g hg _ => hkz g (by omega)) (by omega)), fun p hp => by have := HLo.out p hp; omega, hbz⟩
      | false =>
        have HR0 : Hid (r = false) := by show _ = _; rw [HR.out]; exact decide_eq_false (fun h => by have := hr9.2 h.2.2; cases this)
        clear hr9 hbad
        obtain ⟨r0, r1, r2, r3, r4, r5, r6, rf⟩ := blk7 (show a9.heap[w.heap.size]? = some (.cells #[.int .i64 0, .int .i64 0, .int .u64 0, .int .u64 0, .int .u64 0, .int .u64 0, .slice none 0 0] 33 (0, 0)) from K9.out.res)
        have hltr := C.lt_of_block K9.out.res
        go_wp2
        obtain ⟨wz, hz, hp, hbz, hkz, hsz⟩ := end7 K9.out.bel K9.out.res (.int .i64 0) (.int .i64 0) (.int .u64 0) (.int .u64 0) (.int .u64 0) (.int .u64 0) (.slice none 0 0)
        rw [hz]
        refine bodyPost_ret (results_row_tmp rfl _ _ w.heap.size 33 _ (0, 0) _ rfl hp Tryz.underlying33 rfl (by kernel_rfl)) rfl ?_
        exact ⟨sq, k, by rw [HR0.out]; rfl, (by rw [HFb.out]; exact bytes_off HY9.out HLo.out (fun g hg _ => hkz g (by omega)) (by omega)), fun p hp => by have := HLo.out p hp; omega, hbz⟩
    · rw [decide_eq_false hfit] at HFt
      have HR0 : Hid (r = false) := by show _ = _; rw [HR.out]; exact decide_eq_false (fun h => hfit h.2.1)
      go_wp2_with fail
      refine (HFt.out _).mono ?_
      rintro e a7 ⟨rfl, hb7⟩
      have K7 := hide (K6.out.below hb7)
      have HY7 : Hid (C.Bytes a7 sq bd) := HY.out.below hb7
      clear hb7 K6 HY HFt c0 c1 c2 c3 c4 c5 c6 cf d2 hlt hlt1
      obtain ⟨r0, r1, r2, r3, r4, r5, r6, rf⟩ := blk7 (show a7.heap[w.heap.size]? = some (.cells #[.int .i64 0, .int .i64 0, .int .u64 0, .int .u64 0, .int .u64 0, .int .u64 0, .slice none 0 0] 33 (0, 0)) from K7.out.res)
      have hltr := C.lt_of_block K7.out.res
      go_wp2
      obtain ⟨wz, hz, hp, hbz, hkz, hsz⟩ := end7 K7.out.bel K7.out.res (.int .i64 0) (.int .i64 0) (.int .u64 0) (.int .u64 0) (.int .u64 0) (.int .u64 0) (.slice none 0 0)
      rw [hz]
      refine bodyPost_ret (results_row_tmp rfl _ _ w.heap.size 33 _ (0, 0) _ rfl hp Tryz.underlying33 rfl (by kernel_rfl)) rfl ?_
      exact ⟨sq, k, by rw [HR0.out]; rfl, (by rw [HFb.out]; exact bytes_off HY7.out HLo.out (fun g hg _ => hkz g (by omega)) (by omega)), fun p hp => by have := HLo.out p hp; omega, hbz⟩
  · have hb' : ((x7.2.2 : Int) != 0) = true := by simp; omega
    have HR0 : Hid (r = false) := by show _ = _; rw [HR.out]; exact decide_eq_false (fun h => hbad h.1)
    obtain ⟨r0, r1, r2, r3, r4, r5, r6, rf⟩ := blk7 (show b6.heap[w.heap.size]? = some (.cells #[.int .i64 0, .int .i64 0, .int .u64 0, .int .u64 0, .int .u64 0, .int .u64 0, .slice none 0 0] 33 (0, 0)) from K6.out.res)
    have hltr := C.lt_of_block K6.out.res
    go_wp2
    obtain ⟨wz, hz, hp, hbz, hkz, hsz⟩ := end7 K6.out.bel K6.out.res (.int .i64 0) (.int .i64 0) (.int .u64 0) (.int .u64 0) (.int .u64 0) (.int .u64 0) (.slice none 0 0)
    rw [hz]
    refine bodyPost_ret (results_row_tmp rfl _ _ w.heap.size 33 _ (0, 0) _ rfl hp Tryz.underlying33 rfl (by kernel_rfl)) rfl ?_
    exact ⟨sq, k, by rw [HR0.out]; rfl, (by rw [HFb.out]; exact bytes_off HY.out HLo.out (fun g hg _ => hkz g (by omega)) (by omega)), fun p hp => by have := HLo.out p hp; omega, hbz⟩
end Go.Proofs.YtjcdnclfakmbpaaGreatDoor
namespace Go.Proofs.YtjcdnclfakmbpaaGreatDoor
open Go.RowKit
theorem rdec_pure {xs : List Nat} (hs : ∀ x ∈ xs, x < 256) : ((q7 xs).2.2 = 0 ∧ (frOf xs).fit ∧ encB (frOf xs) = xs → decB xs = some (frOf xs)) ∧ (¬ ((q7 xs).2.2 = 0 ∧ (frOf xs).fit ∧ encB (frOf xs) = xs) → decB xs = none) := by
  have hg := C.got_small hs (q6 xs).2.1 (q7 xs)
  have hsm : (frOf xs).small := by
    unfold Fr.small frOf
    generalize q7 xs = x7 at *
    generalize q6 xs = x6 at *
    exact hg
  clear hg
  refine ⟨fun ⟨_, h2, h3⟩ => ?_, fun h => ?_⟩
  · have h4 := dec_bytes h2 hsm
    unfold encB at h3
    rw [if_pos h2] at h3
    rw [h3] at h4
    exact h4
  · cases e : decB xs with
    | none => rfl
    | some f =>
      obtain ⟨h1, h2, h3⟩ := dec_some hs e
      obtain ⟨h4, h5⟩ := read_bytes h1 h2
      rw [h3] at h4 h5
      refine absurd ⟨?_, ?_, ?_⟩ h
      · obtain ⟨_, h6, _⟩ := h5
        have e8 : q8 xs = C.rNext 1 0 xs (q7 xs).2.1 (q7 xs).2.2 := by unfold q8; rfl
        have h7 := (end_zero h6).1
        rw [e8] at h7
        exact rn_stays 1 0 xs _ _ h7
      · rw [h4]; exact h1
      · rw [h4]; unfold encB; rw [if_pos h1]; exact h3
theorem rdec_any (w : World) (sp : Option Addr) (n cap : Nat) (xs : List Nat) (hl : xs.length = n) (hcap : n ≤ cap) (hc : cap ≤ 9223372036854775807) (hn : n ≤ 140737488351232) (hx : C.Bytes w sp xs) (hform : (cap = 0 ∧ xs = []) ∨ ∃ g o, sp = some ⟨g, o, none⟩) :
    Calls Tryz.prog 62 #[.slice sp n cap] w fun e w' =>
      (∃ f sq k, decB xs = some f ∧ e = .returned (.tuple #[frV f sq k, .bool true]) ∧ C.Bytes w' sq f.body ∧ (∀ p, sq = some p → w.heap.size ≤ p.block) ∧ Below w.heap.size w w') ∨
      (decB xs = none ∧ e = .returned (.tuple #[frV fr0 none 0, .bool false]) ∧ Below w.heap.size w w') := by
  obtain ⟨p1, p2⟩ := rdec_pure hx.small
  have e1 : q1 xs = C.rNext 0 0 xs 0 0 := by unfold q1; rfl
  have e2 : q2 xs = C.rNext 0 0 xs (q1 xs).2.1 (q1 xs).2.2 := by unfold q2; rfl
  have e3 : q3 xs = C.rNext 3 1099511627776 xs (q2 xs).2.1 (q2 xs).2.2 := by unfold q3; rfl
  have e4 : q4 xs = C.rNext 3 1099511627776 xs (q3 xs).2.1 (q3 xs).2.2 := by unfold q4; rfl
  have e5 : q5 xs = C.rNext 3 1099511627776 xs (q4 xs).2.1 (q4 xs).2.2 := by unfold q5; rfl
  have e6 : q6 xs = C.rNext 3 1099511627776 xs (q5 xs).2.1 (q5 xs).2.2 := by unfold q6; rfl
  have e7 : q7 xs = C.rText 2048 xs (q6 xs).2.1 (q6 xs).2.2 := by unfold q7; rfl
  have ef : frOf xs = ⟨(q1 xs).1.num, (q2 xs).1.num, (q3 xs).1.num, (q4 xs).1.num, (q5 xs).1.num, (q6 xs).1.num, C.got xs (q6 xs).2.1 (q7 xs)⟩ := by unfold frOf; rfl
  refine (rdec_go w sp n cap xs hl hcap hc hn hx hform (q1 xs) (q2 xs) (q3 xs) (q4 xs) (q5 xs) (q6 xs) (q7 xs) e1 e2 e3 e4 e5 e6 e7 (frOf xs) ef _ rfl).mono ?_
  clear e1 e2 e3 e4 e5 e6 e7 ef
  generalize frOf xs = f at *
  generalize q7 xs = x7 at *
  rintro e w' ⟨sq, k, he, hy, hlo, hb⟩
  by_cases ho : x7.2.2 = 0 ∧ f.fit ∧ encB f = xs
  · rw [decide_eq_true ho, if_pos rfl] at he
    exact Or.inl ⟨f, sq, k, p1 ho, he, hy, hlo, hb⟩
  · rw [decide_eq_false ho, if_neg (by decide)] at he
    exact Or.inr ⟨p2 ho, he, hb⟩
end Go.Proofs.YtjcdnclfakmbpaaGreatDoor
