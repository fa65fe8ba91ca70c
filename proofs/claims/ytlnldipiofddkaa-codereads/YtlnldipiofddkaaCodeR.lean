import Derived.Test.YtlnldipiofddkaaQuad
import Derived.Test.YtlnldipiofddkaaCodeW
import Derived.Deep.Cut
namespace Go.Proofs.Ytlnldipiofddkaa
open Go.RowKit

theorem owns_sl {w : World} {B n : Nat} {v : Value} {xs : List Value} (h : w.ownsRow B 5 1 v n xs) : ∃ s k, v = .slice s n k ∧ k ≤ 9223372036854775807 := by
  rcases h.2 with ⟨h1, h2⟩ | ⟨g, cap, cur, h1, _, _, _, h3, _⟩
  · exact ⟨none, 0, by rw [h1, h2], by omega⟩
  · exact ⟨_, cap, h1, by unfold maxLen at h3; omega⟩
theorem within_mono {lo lo' hi hi' b h b2 : Nat} {sp : Option Addr} (i : Within lo hi b h b2 sp) (h1 : lo' ≤ lo) (h2 : hi ≤ hi') : Within lo' hi' b h b2 sp :=
  ⟨by have := i.r1; omega, by have := i.r2; omega, by have := i.r3; omega, fun p e => by have := i.r4 p e; omega⟩

set_option maxRecDepth 100000 in
set_option maxHeartbeats 8000000 in
theorem reads_walk (w : World) (p0 p1 po : Option Addr) (l0 c0 l1 c1 lo co : Nat) (x0 x1 : List Nat) (ops : List Op1) (hl0 : x0.length = l0) (hl1 : x1.length = l1) (hm0 : l0 ≤ 140737488351232) (hm1 : l1 ≤ 140737488351232) (hx0 : Bytes w p0 x0) (hx1 : Bytes w p1 x1) (hlo : ops.length = lo) (_hlo2 : lo ≤ 140737488351232) (hO : OpsIn w po ops) :
    Calls Try.prog 4 #[.agg #[.slice p0 l0 c0, .slice p1 l1 c1, .slice po lo co]] w fun e w' => e = .returned (.bool true) ∧ Below w.heap.size w w' := by
  have HL0 := hide hl0
  have HL1 := hide hl1
  have HX0 := hide hx0
  have HX1 := hide hx1
  have HLo := hide hlo
  have HOp := hide hO.s
  clear hl0 hl1 hx0 hx1 hlo hO
  have HArr0 : Hid (Arr w (((w.alloc (.cells #[.slice p0 l0 c0, .slice p1 l1 c1, .slice po lo co] 26)).alloc (.cells #[.pointer none, .pointer none] 42)).alloc (.cells #[.pointer none, .pointer none] 44)) w.heap.size (w.heap.size + 1) (w.heap.size + 1 + 1) #[.slice p0 l0 c0, .slice p1 l1 c1, .slice po lo co] none none none none) := by
    refine ⟨?_, ?_, ?_, ?_, by omega, by omega⟩
    · rw [Below.heap_alloc _ _ _ (by simp; omega), Below.heap_alloc _ _ _ (by simp)]; exact heap_alloc_new _ _
    · rw [Below.heap_alloc _ _ _ (by simp)]
      have := heap_alloc_new (w.alloc (.cells #[.slice p0 l0 c0, .slice p1 l1 c1, .slice po lo co] 26)) (.cells #[.pointer none, .pointer none] 42 (0, 0))
      simpa using this
    · have := heap_alloc_new ((w.alloc (.cells #[.slice p0 l0 c0, .slice p1 l1 c1, .slice po lo co] 26)).alloc (.cells #[.pointer none, .pointer none] 42)) (.cells #[.pointer none, .pointer none] 44 (0, 0))
      simpa using this
    · exact (((Below.refl _ _).alloc (Nat.le_refl _) _).alloc (by simp) _).alloc (by simp; omega) _
  go_enter Try.func4, Try.ntmps4
  go_wp2
  generalize (((w.alloc (.cells #[.slice p0 l0 c0, .slice p1 l1 c1, .slice po lo co] 26)).alloc (.cells #[.pointer none, .pointer none] 42)).alloc (.cells #[.pointer none, .pointer none] 44)) = wa at *
  generalize w.heap.size + 1 + 1 = E at *
  generalize w.heap.size + 1 = A at *
  go_loopw [5] (fun i wr => (i = .int .i64 0 ∧ Hid (Arr w wr w.heap.size A E #[.slice p0 l0 c0, .slice p1 l1 c1, .slice po lo co] none none none none)) ∨
      (i = .int .i64 1 ∧ ∃ (b h b2 : Nat) (sp : Option Addr) (c : Nat), Hid (Arr w wr w.heap.size A E #[.slice p0 l0 c0, .slice p1 l1 c1, .slice po lo co] (some ⟨b, 0, none⟩) none (some ⟨b2, 0, none⟩) none) ∧ Hid (Duo wr b h b2 sp c x0 0 0) ∧ Hid (Within (E + 1) wr.heap.size b h b2 sp)) ∨
      (i = .int .i64 2 ∧ ∃ (U V b h b2 : Nat) (sp : Option Addr) (c : Nat) (b' h' b2' : Nat) (sp' : Option Addr) (c' : Nat), Hid (Quad w wr w.heap.size A E U V #[.slice p0 l0 c0, .slice p1 l1 c1, .slice po lo co] b h b2 sp c x0 0 0 b' h' b2' sp' c' x1 0 0))) (fun i _ => 2 - (intOf i).toNat)
  case atStart => exact Or.inl ⟨rfl, HArr0⟩
  case round =>
    clear HArr0
    rcases hrel with ⟨rfl, HArr⟩ | ⟨rfl, b0, h0, b20, s0, k0, HArr, HD0, HI0⟩ | ⟨rfl, U, V, b, h, b2, sp, c, b', h', b2', sp', c', HQ⟩
    · obtain ⟨x0', x1', x2', xf⟩ := blk3 HArr.out.box
      obtain ⟨wo, rfl⟩ : ∃ wo, wo = wr := ⟨_, rfl⟩
      go_wp2_with fail
      refine (lend_any _ p0 l0 c0 x0 HL0.out (HX0.out.below HArr.out.below) (by omega)).mono ?_
      rintro e w1 ⟨g, k1, rfl, ho1, hb1⟩
      have HB1 := hide hb1
      have HO1 := hide ho1
      have HArr1 := hide (HArr.out.belowE hb1)
      clear ho1 hb1 x0' x1' x2' xf
      go_wp2_with fail
      refine (read_any w1 _ l0 k1 x0 HL0.out (by omega) HO1.out.front).mono ?_
      rintro e w2 ⟨rfl, hr2, hb2⟩
      have HB2 := hide hb2
      have HR2 := hide hr2
      have HArr2 := hide (HArr1.out.belowE hb2)
      clear hr2 hb2 HArr1
      obtain ⟨a0, a1, af⟩ := blk2 HArr2.out.aa
      have HArr3 := hide (HArr2.out.setA0 (some ⟨w1.heap.size + 1, 0, none⟩))
      obtain ⟨w3, hw3⟩ : ∃ w3, w3 = w2.setCell ⟨A, 0, none⟩ (.pointer (some ⟨w1.heap.size + 1, 0, none⟩)) := ⟨_, rfl⟩
      rw [← hw3] at HArr3
      go_upto_region 8 with fail
      rw [← hw3]
      have HW3 := hide hw3
      clear hw3
      obtain ⟨x0', x1', x2', xf⟩ := blk3 HArr3.out.box
      clear a0 a1 af
      go_wp2_with fail
      refine (copy_any w3 p0 l0 c0 x0 HL0.out (HX0.out.below HArr3.out.below) (by omega)).mono ?_
      rintro e w4 ⟨v4, rfl, hown4, hb4⟩
      obtain ⟨s4, k4, rfl, hk4⟩ := owns_sl hown4
      have HArr4 := hide (HArr3.out.belowE hb4)
      obtain ⟨e0, e1, ef⟩ := blk2 HArr4.out.ee
      have HArr6 := hide ((HArr4.out.belowE ((Below.refl _ _).alloc (Nat.le_refl _) (.cells #[.slice s4 l0 k4, .int .i64 0, .int .i64 0] 48))).setE0 (some ⟨w4.heap.size, 0, none⟩))
      rw [HW3.out] at hb4 hown4
      have HF6 := hide (fresh_of (q := .pointer (some ⟨w4.heap.size, 0, none⟩)) (j := 0) HArr.out.o2 HArr.out.lt HL0.out (by omega) HB1.out HO1.out HB2.out HR2.out hb4 hown4 hk4)
      have hE4 : E < w4.heap.size := HArr4.out.lt
      have hE4n : w4.heap.size ≠ E := by omega
      clear hb4 hown4 HB1 HO1 HB2 HR2 HArr2 x0' x1' x2' xf HW3 HArr3
      obtain ⟨w6, hw6⟩ : ∃ w6, w6 = ((w4.alloc (.cells #[.slice s4 l0 k4, .int .i64 0, .int .i64 0] 48)).setCell ⟨E, 0, none⟩ (.pointer (some ⟨w4.heap.size, 0, none⟩))) := ⟨_, rfl⟩
      rw [← hw6] at HArr6 HF6
      have hcm : (w4.alloc (.cells #[.slice s4 l0 k4, .int .i64 0, .int .i64 0] 48)).setCell ⟨E, 0, none⟩ (.pointer (some ⟨w4.heap.size, 0, none⟩)) = (w4.setCell ⟨E, 0, none⟩ (.pointer (some ⟨w4.heap.size, 0, none⟩))).alloc (.cells #[.slice s4 l0 k4, .int .i64 0, .int .i64 0] 48) := World.setCell_alloc_past _ _ _ _ hE4
      rw [hcm] at hw6
      clear hcm
      have HW6 := hide hw6
      clear hw6
      go_upto_region 9 with fail
      rw [← HW6.out]
      clear HW6 e0 e1 ef
      obtain ⟨x0', x1', x2', xf⟩ := blk3 HArr6.out.box
      obtain ⟨a0, a1, af⟩ := blk2 HArr6.out.aa
      go_wp2_with fail
      refine (intact_any w6 _ g k1 l0 p0 c0 x0 HL0.out HF6.out.own (HX0.out.below HArr6.out.below) (by omega)).mono ?_
      rintro e w7 ⟨rfl, q7, rfl⟩
      have HArr7 := hide (HArr6.out.belowE (bad_drews w6 q7))
      have HF7 := hide (HF6.out.below (bad_drews w6 q7))
      generalize w6.drewN q7 = w7 at *
      clear HArr6 HF6 x0' x1' x2' xf a0 a1 af
      generalize w1.heap.size + 1 = b at *
      generalize w1.heap.size = h at *
      generalize w4.heap.size = b2 at *
      clear hE4 hE4n
      go_wp2
      go_loopw [7] (fun i wr => ∃ (k : Nat) (zs : List Nat), k ≤ l0 ∧ i = .int .i64 k ∧ Hid (zs.length = l0 + 70) ∧ Hid (Own wo.heap.size wr g k1 zs) ∧ Hid (But g w7 wr)) (fun i _ => l0 - (intOf i).toNat)
      case atStart => exact ⟨0, x0 ++ marks, Nat.zero_le _, rfl, by show _ = _; rw [List.length_append, marks_len, HL0.out], HF7.out.own, But.refl _ _⟩
      case round =>
        obtain ⟨k, zs, hk, rfl, HZ, HO, HBu⟩ := hrel
        by_cases hlt : k < l0
        · obtain ⟨q0, qf⟩ := HO.out.cell k (by rw [HZ.out]; omega)
          have HO2 := hide (HO.out.set k 238 (by omega))
          generalize zs.getD k 0 = y0 at *
          have l1' : (k : Int) < (l0 : Int) := by omega
          have l2' : (0 : Int) ≤ (k : Int) := by omega
          go_wp2
          go_roundw
          case rel => exact ⟨k + 1, zs.set k 238, by omega, by go_num, by show _ = _; rw [List.length_set]; exact HZ.out, HO2, HBu.out.setCell (Or.inl rfl) _⟩
          case measure => simp [intOf]; omega
        · obtain rfl : k = l0 := by omega
          obtain ⟨hd8, hi8, hk8⟩ := HF7.out.fill HBu.out
          have HD8 := hide hd8
          have HI8 := hide hi8
          have HK8 := hide hk8
          have HArr8 := hide (HArr7.out.kept (kept_but HBu.out) (fun i e => by have := HF7.out.own.base; have := HArr.out.lt; omega))
          clear hd8 hi8 hk8
          obtain ⟨x0', x1', x2', xf⟩ := blk3 HArr8.out.box
          obtain ⟨a0, a1, af⟩ := blk2 HArr8.out.aa
          have HCl : Hid (∀ q, Calls Try.prog 20 #[.pointer (some ⟨b, 0, none⟩)] (wr.drewN q) fun e w' => e = .returned (.int .i64 (k : Int)) ∧ ∃ m, w' = (wr.drewN q).drewN m) := fun q => (left_any _ b h x0 0 0 (HD8.out.rd.below (bad_drews wr q))).mono (by
            rintro e w' ⟨rfl, rfl⟩
            exact ⟨by rw [Nat.sub_zero, HL0.out], 1, rfl⟩)
          clear HArr7 HF7 HO HZ HBu
          go_wp2
          go_quiet (first | (go_at_call 20; exact Calls.quiet_of (HCl.out _)))
          go_wp2
          go_roundw
          case rel => exact Or.inr (Or.inl ⟨by go_num, b, h, b2, s4, k4, HArr8.out.belowE (bad_drews wr nq), HD8.out.below (bad_drews wr nq), within_mono HI8.out (by have := HArr.out.lt; omega) (by simp)⟩)
          case measure => simp [intOf]
    · obtain ⟨x0', x1', x2', xf⟩ := blk3 HArr.out.box
      obtain ⟨wo, rfl⟩ : ∃ wo, wo = wr := ⟨_, rfl⟩
      go_wp2_with fail
      refine (lend_any _ p1 l1 c1 x1 HL1.out (HX1.out.below HArr.out.below) (by omega)).mono ?_
      rintro e w1 ⟨g, k1, rfl, ho1, hb1⟩
      have HB1 := hide hb1
      have HO1 := hide ho1
      have HArr1 := hide (HArr.out.belowE hb1)
      clear ho1 hb1 x0' x1' x2' xf
      go_wp2_with fail
      refine (read_any w1 _ l1 k1 x1 HL1.out (by omega) HO1.out.front).mono ?_
      rintro e w2 ⟨rfl, hr2, hb2⟩
      have HB2 := hide hb2
      have HR2 := hide hr2
      have HArr2 := hide (HArr1.out.belowE hb2)
      clear hr2 hb2 HArr1
      obtain ⟨a0, a1, af⟩ := blk2 HArr2.out.aa
      have HArr3 := hide (HArr2.out.setA1 (some ⟨w1.heap.size + 1, 0, none⟩))
      obtain ⟨w3, hw3⟩ : ∃ w3, w3 = w2.setCell ⟨A, 1, none⟩ (.pointer (some ⟨w1.heap.size + 1, 0, none⟩)) := ⟨_, rfl⟩
      rw [← hw3] at HArr3
      go_upto_region 8 with fail
      rw [← hw3]
      have HW3 := hide hw3
      clear hw3
      obtain ⟨x0', x1', x2', xf⟩ := blk3 HArr3.out.box
      clear a0 a1 af
      go_wp2_with fail
      refine (copy_any w3 p1 l1 c1 x1 HL1.out (HX1.out.below HArr3.out.below) (by omega)).mono ?_
      rintro e w4 ⟨v4, rfl, hown4, hb4⟩
      obtain ⟨s4, k4, rfl, hk4⟩ := owns_sl hown4
      have HArr4 := hide (HArr3.out.belowE hb4)
      obtain ⟨e0, e1, ef⟩ := blk2 HArr4.out.ee
      have HArr6 := hide ((HArr4.out.belowE ((Below.refl _ _).alloc (Nat.le_refl _) (.cells #[.slice s4 l1 k4, .int .i64 0, .int .i64 0] 48))).setE1 (some ⟨w4.heap.size, 0, none⟩))
      rw [HW3.out] at hb4 hown4
      have HF6 := hide (fresh_of (q := .pointer (some ⟨w4.heap.size, 0, none⟩)) (j := 1) HArr.out.o2 HArr.out.lt HL1.out (by omega) HB1.out HO1.out HB2.out HR2.out hb4 hown4 hk4)
      have hE4 : E < w4.heap.size := HArr4.out.lt
      have hE4n : w4.heap.size ≠ E := by omega
      clear hb4 hown4 HB1 HO1 HB2 HR2 HArr2 x0' x1' x2' xf HW3 HArr3
      obtain ⟨w6, hw6⟩ : ∃ w6, w6 = ((w4.alloc (.cells #[.slice s4 l1 k4, .int .i64 0, .int .i64 0] 48)).setCell ⟨E, 1, none⟩ (.pointer (some ⟨w4.heap.size, 0, none⟩))) := ⟨_, rfl⟩
      rw [← hw6] at HArr6 HF6
      have hcm : (w4.alloc (.cells #[.slice s4 l1 k4, .int .i64 0, .int .i64 0] 48)).setCell ⟨E, 1, none⟩ (.pointer (some ⟨w4.heap.size, 0, none⟩)) = (w4.setCell ⟨E, 1, none⟩ (.pointer (some ⟨w4.heap.size, 0, none⟩))).alloc (.cells #[.slice s4 l1 k4, .int .i64 0, .int .i64 0] 48) := World.setCell_alloc_past _ _ _ _ hE4
      rw [hcm] at hw6
      clear hcm
      have HW6 := hide hw6
      clear hw6
      go_upto_region 9 with fail
      rw [← HW6.out]
      clear HW6 e0 e1 ef
      obtain ⟨x0', x1', x2', xf⟩ := blk3 HArr6.out.box
      obtain ⟨a0, a1, af⟩ := blk2 HArr6.out.aa
      go_wp2_with fail
      refine (intact_any w6 _ g k1 l1 p1 c1 x1 HL1.out HF6.out.own (HX1.out.below HArr6.out.below) (by omega)).mono ?_
      rintro e w7 ⟨rfl, q7, rfl⟩
      have HArr7 := hide (HArr6.out.belowE (bad_drews w6 q7))
      have HF7 := hide (HF6.out.below (bad_drews w6 q7))
      generalize w6.drewN q7 = w7 at *
      clear HArr6 HF6 x0' x1' x2' xf a0 a1 af
      generalize w1.heap.size + 1 = b at *
      generalize w1.heap.size = h at *
      generalize w4.heap.size = b2 at *
      clear hE4 hE4n
      go_wp2
      go_loopw [7] (fun i wr => ∃ (k : Nat) (zs : List Nat), k ≤ l1 ∧ i = .int .i64 k ∧ Hid (zs.length = l1 + 70) ∧ Hid (Own wo.heap.size wr g k1 zs) ∧ Hid (But g w7 wr)) (fun i _ => l1 - (intOf i).toNat)
      case atStart => exact ⟨0, x1 ++ marks, Nat.zero_le _, rfl, by show _ = _; rw [List.length_append, marks_len, HL1.out], HF7.out.own, But.refl _ _⟩
      case round =>
        obtain ⟨k, zs, hk, rfl, HZ, HO, HBu⟩ := hrel
        by_cases hlt : k < l1
        · obtain ⟨q0, qf⟩ := HO.out.cell k (by rw [HZ.out]; omega)
          have HO2 := hide (HO.out.set k 238 (by omega))
          generalize zs.getD k 0 = y0 at *
          have l1' : (k : Int) < (l1 : Int) := by omega
          have l2' : (0 : Int) ≤ (k : Int) := by omega
          go_wp2
          go_roundw
          case rel => exact ⟨k + 1, zs.set k 238, by omega, by go_num, by show _ = _; rw [List.length_set]; exact HZ.out, HO2, HBu.out.setCell (Or.inl rfl) _⟩
          case measure => simp [intOf]; omega
        · obtain rfl : k = l1 := by omega
          obtain ⟨hd8, hi8, hk8⟩ := HF7.out.fill HBu.out
          have HD8 := hide hd8
          have HI8 := hide hi8
          have HK8 := hide hk8
          have HArr8 := hide (HArr7.out.kept (kept_but HBu.out) (fun i e => by have := HF7.out.own.base; have := HArr.out.lt; omega))
          clear hd8 hi8 hk8
          obtain ⟨x0', x1', x2', xf⟩ := blk3 HArr8.out.box
          obtain ⟨a0, a1, af⟩ := blk2 HArr8.out.aa
          have HCl : Hid (∀ q, Calls Try.prog 20 #[.pointer (some ⟨b, 0, none⟩)] (wr.drewN q) fun e w' => e = .returned (.int .i64 (k : Int)) ∧ ∃ m, w' = (wr.drewN q).drewN m) := fun q => (left_any _ b h x1 0 0 (HD8.out.rd.below (bad_drews wr q))).mono (by
            rintro e w' ⟨rfl, rfl⟩
            exact ⟨by rw [Nat.sub_zero, HL1.out], 1, rfl⟩)
          clear HArr7 HF7 HO HZ HBu
          go_wp2
          go_quiet (first | (go_at_call 20; exact Calls.quiet_of (HCl.out _)))
          go_wp2
          go_roundw
          case rel => exact Or.inr (Or.inr ⟨by go_num, _, _, b0, h0, b20, s0, k0, b, h, b2, s4, k4, ⟨HArr8.out.belowE (bad_drews wr nq), (HD0.out.blocks HI0.out (fun k hk hl => HK8.out.block k hl (by omega)) HK8.out.size).below (bad_drews wr nq), HD8.out.below (bad_drews wr nq), HI0.out, HI8.out, by simp⟩⟩)
          case measure => simp [intOf]
    · go_wp2
      go_loopw [8] (fun i wr => ∃ k a f a' f' : Nat, k ≤ lo ∧ k ≤ 400 ∧ i = .int .i64 k ∧ Hid (Quad w wr w.heap.size A E U V #[.slice p0 l0 c0, .slice p1 l1 c1, .slice po lo co] b h b2 sp c x0 a f b' h' b2' sp' c' x1 a' f')) (fun i _ => 400 - (intOf i).toNat)
      case atStart => exact ⟨0, 0, 0, 0, 0, Nat.zero_le _, Nat.zero_le _, rfl, HQ⟩
      case round =>
        clear HQ
        obtain ⟨k, a, f, a', f', hk, hk4, rfl, HQ⟩ := hrel
        obtain ⟨x0', x1', x2', xf⟩ := blk3 HQ.out.arr.box
        obtain ⟨a0, a1, af⟩ := blk2 HQ.out.arr.aa
        obtain ⟨g0, g1, gf⟩ := blk2 HQ.out.arr.ee
        by_cases hlt : k < lo ∧ k < 400
        · obtain ⟨hlt1, hlt2⟩ := hlt
          have hlp : k < ops.length := by rw [HLo.out]; exact hlt1
          obtain ⟨g, o, rfl⟩ : ∃ g o, po = some ⟨g, o, none⟩ := by
            rcases HOp.out.lie with h | ⟨g, o, e, _⟩
            · subst h; simp at hlp
            · exact ⟨g, o, e⟩
          have hop : ops[k]? = some (ops[k]'hlp) := List.getElem?_eq_getElem _
          have HOr := hide (HOp.out.kept (w' := wr) (fun k hk hlt => HQ.out.arr.below.block k hk) HQ.out.arr.below.size)
          obtain ⟨d0, d1, d2, d3, d4⟩ := ops_at HOr.out k _ hop
          have hnum := hide (HOp.out.nums _ (List.mem_of_getElem? hop))
          generalize ops[k]'hlp = p at *
          clear hop HOr
          have l1' : (k : Int) < (lo : Int) := by omega
          have l2' : (0 : Int) ≤ (k : Int) := by omega
          have l3' : (k : Int) < 400 := by omega
          have HQd : Hid (Quad w (wr.alloc (.cells #[.int .i64 p.kind, .int .i64 p.which, .int .i64 p.m, .int .u64 (p.n : Int), .slice p.bp p.bl p.bc] 33)).drew w.heap.size A E U V #[.slice p0 l0 c0, .slice p1 l1 c1, .slice (some ⟨g, o, none⟩) lo co] b h b2 sp c x0 a f b' h' b2' sp' c' x1 a' f') := HQ.out.below (((Below.refl _ _).alloc (Nat.le_refl _) _).drew)
          have HO5 : Hid ((wr.alloc (.cells #[.int .i64 p.kind, .int .i64 p.which, .int .i64 p.m, .int .u64 (p.n : Int), .slice p.bp p.bl p.bc] 33)).drew.heap[wr.heap.size]? = some (.cells #[.int .i64 p.kind, .int .i64 p.which, .int .i64 p.m, .int .u64 (p.n : Int), .slice p.bp p.bl p.bc] 33 (0, 0))) := heap_alloc_new wr (.cells #[.int .i64 p.kind, .int .i64 p.which, .int .i64 p.m, .int .u64 (p.n : Int), .slice p.bp p.bl p.bc] 33 (0, 0))
          go_wp2_with fail
          refine (into_2 _ p.which).mono ?_
          rintro e w6 ⟨rfl, rfl⟩
          have hj : intoP p.which 2 = 0 ∨ intoP p.which 2 = 1 := by unfold intoP; omega
          rcases hj with ej | ej
          · rw [ej]
            clear ej
            have HC := hide (reads_any _ b h b2 sp c x0 a f p HQd.out.d0 hnum.out.m2 hnum.out.n2)
            go_wp2
            go_region_held3 (fun w' => w'.cell? ⟨A, 0, none⟩ = some (.pointer (some ⟨b, 0, none⟩)) ∧ w'.cell? ⟨E, 0, none⟩ = some (.pointer (some ⟨b2, 0, none⟩)) ∧ w'.cell? ⟨wr.heap.size, 0, none⟩ = some (.int .i64 p.kind) ∧ w'.cell? ⟨wr.heap.size, 1, none⟩ = some (.int .i64 p.which) ∧ w'.cell? ⟨wr.heap.size, 2, none⟩ = some (.int .i64 p.m) ∧ w'.cell? ⟨wr.heap.size, 3, none⟩ = some (.int .u64 (p.n : Int)) ∧ w'.cell? ⟨wr.heap.size, 4, none⟩ = some (.slice p.bp p.bl p.bc)) (go_keep)
              (first | (go_at_call 21; refine HC.out.mono ?_; rintro e w5 ⟨rfl, a5, f5, hd5, hk5⟩; have HQ5 := hide (HQd.out.step0 hd5 hk5); obtain ⟨z0, z1, zf⟩ := blk2 HQ5.out.arr.aa; obtain ⟨y0, y1, yf⟩ := blk2 HQ5.out.arr.ee; obtain ⟨e0, e1, e2, e3, e4, ef⟩ := blk5 ((hk5.block wr.heap.size (by simp) (by have := HQ.out.i0.r1; have := HQ.out.i0.r3; have := HQ.out.i1.r1; have := HQ.out.i1.r3; have := HQ.out.vl; omega)).trans HO5.out); clear hd5 hk5))
            go_wp2
            go_roundw
            case rel => exact ⟨k + 1, a5, f5, a', f', by omega, by omega, by go_num, HQ5⟩
            case measure => simp [intOf]; omega
          · rw [ej]
            clear ej
            have HC := hide (reads_any _ b' h' b2' sp' c' x1 a' f' p HQd.out.d1 hnum.out.m2 hnum.out.n2)
            go_wp2
            go_region_held3 (fun w' => w'.cell? ⟨A, 1, none⟩ = some (.pointer (some ⟨b', 0, none⟩)) ∧ w'.cell? ⟨E, 1, none⟩ = some (.pointer (some ⟨b2', 0, none⟩)) ∧ w'.cell? ⟨wr.heap.size, 0, none⟩ = some (.int .i64 p.kind) ∧ w'.cell? ⟨wr.heap.size, 1, none⟩ = some (.int .i64 p.which) ∧ w'.cell? ⟨wr.heap.size, 2, none⟩ = some (.int .i64 p.m) ∧ w'.cell? ⟨wr.heap.size, 3, none⟩ = some (.int .u64 (p.n : Int)) ∧ w'.cell? ⟨wr.heap.size, 4, none⟩ = some (.slice p.bp p.bl p.bc)) (go_keep)
              (first | (go_at_call 21; refine HC.out.mono ?_; rintro e w5 ⟨rfl, a5, f5, hd5, hk5⟩; have HQ5 := hide (HQd.out.step1 hd5 hk5); obtain ⟨z0, z1, zf⟩ := blk2 HQ5.out.arr.aa; obtain ⟨y0, y1, yf⟩ := blk2 HQ5.out.arr.ee; obtain ⟨e0, e1, e2, e3, e4, ef⟩ := blk5 ((hk5.block wr.heap.size (by simp) (by have := HQ.out.i0.r1; have := HQ.out.i0.r3; have := HQ.out.i1.r1; have := HQ.out.i1.r3; have := HQ.out.vl; omega)).trans HO5.out); clear hd5 hk5))
            go_wp2
            go_roundw
            case rel => exact ⟨k + 1, a, f, a5, f5, by omega, by omega, by go_num, HQ5⟩
            case measure => simp [intOf]; omega
        · obtain ⟨q0, q1, q2, qf⟩ := blk3 HQ.out.d0.ey.blk
          have HC1 := hide (fun q => at_any (wr.drewN q) b h x0 a f (HQ.out.d0.rd.below (bad_drews wr q)))
          have HC2 := hide (fun q => fault_any (wr.drewN q) b h x0 a f (HQ.out.d0.rd.below (bad_drews wr q)))
          have HC3 := hide (fun q => end_q (wr.drewN q) b' h' x1 a' f' (HQ.out.d1.rd.below (bad_drews wr q)))
          have HC4 := hide (fun q => eend_q (wr.drewN q) b2' sp' c' x1 a' f' (HQ.out.d1.ey.below (bad_drews wr q)))
          have HC5 := hide num_any
          have HBl : Hid (∀ q, Below w.heap.size w (wr.drewN q)) := fun q => below_draws2 HQ.out.arr.below q
          generalize pEnd x1.length a' f' = Z at *
          have hend : ((k : Int) < (lo : Int) ∧ ¬ (k : Int) < 400) ∨ ¬ (k : Int) < (lo : Int) := by omega
          rcases hend with ⟨t1, t2⟩ | t1
          all_goals
            go_wp2
            go_quiet (first
              | (go_at_call_of 22 (Value.pointer (some ⟨b, 0, none⟩)); exact Calls.quiet_of_same (HC1.out _))
              | (go_at_call_of 24 (Value.pointer (some ⟨b, 0, none⟩)); exact Calls.quiet_of_same (HC2.out _))
              | (go_at_call_of 25 (Value.pointer (some ⟨b', 0, none⟩)); exact Calls.quiet_of (HC3.out _))
              | (go_at_call_of 26 (Value.pointer (some ⟨b2', 0, none⟩)); exact Calls.quiet_of (HC4.out _))
              | (go_at_call 23; exact Calls.quiet_of_same (HC5.out _ _)))
            go_wp2
            go_ret
            exact ⟨by simp, HBl.out nq⟩

end Go.Proofs.Ytlnldipiofddkaa
