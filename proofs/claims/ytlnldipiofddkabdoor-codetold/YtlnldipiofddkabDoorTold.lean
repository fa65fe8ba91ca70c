import Derived.Test.YtlnldipiofddkabDoorTurned
import Derived.Test.YtlnldipiofddkabDoorOrder
namespace Go.Proofs.YtlnldipiofddkabDoor
open Go.RowKit

theorem blk5 {w : World} {b : Nat} {x0 x1 x2 x3 x4 : Value} {t : TypeId} (h : w.heap[b]? = some (.cells #[x0, x1, x2, x3, x4] t (0, 0))) :
    w.cell? ⟨b, 0, none⟩ = some x0 ∧ w.cell? ⟨b, 1, none⟩ = some x1 ∧ w.cell? ⟨b, 2, none⟩ = some x2 ∧ w.cell? ⟨b, 3, none⟩ = some x3 ∧ w.cell? ⟨b, 4, none⟩ = some x4 ∧ (∀ o, w.frozen? ⟨b, o, none⟩ = false) :=
  ⟨by simp [World.cell?, h], by simp [World.cell?, h], by simp [World.cell?, h], by simp [World.cell?, h], by simp [World.cell?, h], fun o => by simp [World.frozen?, h]⟩

theorem conv_k7' (w : World) (C : Array Value) (t : TypeId) : Sem.run Tryd.prog (convert 27 27 (.slice (some ⟨w.heap.size + 1, 0, none⟩) 2 2)) ((w.alloc (.cells C t)).alloc (.cells #[.int .u8 107, .int .u8 55] 5)) =
    .ok (.slice (some ⟨w.heap.size + 1, 0, none⟩) 2 2) ((w.alloc (.cells C t)).alloc (.cells #[.int .u8 107, .int .u8 55] 5 (2, 3))) := by
  have := Lib.run_convert_bytes_const (P := Tryd.prog) (w.alloc (.cells C t)) 27 5 #[.int .u8 107, .int .u8 55] 2 2 Tryd.underlying27 Tryd.underlying5
  simpa using this

theorem k7_lie' (w : World) (C : Array Value) (t : TypeId) : Bytes ((w.alloc (.cells C t)).alloc (.cells #[.int .u8 107, .int .u8 55] 5 (2, 3))) (some ⟨w.heap.size + 1, 0, none⟩) [107, 55] := by
  have hb : ((w.alloc (.cells C t)).alloc (.cells #[.int .u8 107, .int .u8 55] 5 (2, 3))).heap[w.heap.size + 1]? = some (.cells #[.int .u8 107, .int .u8 55] 5 (2, 3)) := by
    have := heap_alloc_new (w.alloc (.cells C t)) (.cells #[.int .u8 107, .int .u8 55] 5 (2, 3))
    simpa using this
  refine lie_row hb (by decide) fun j hj => ?_
  match j, hj with
  | 0, _ => rfl
  | 1, _ => rfl

theorem bit_test (B k : Nat) (hB : B < 4294967296) : bits .and .u32 ((B : Int) / (2 : Int) ^ k) 1 = ((B / 2 ^ k % 2 : Nat) : Int) := by
  have e : (B : Int) / (2 : Int) ^ k = ((B / 2 ^ k : Nat) : Int) := by simp
  have h : B / 2 ^ k < 4294967296 := Nat.lt_of_le_of_lt (Nat.div_le_self _ _) hB
  rw [e]
  have := u32_and_nat (B / 2 ^ k) 1 h (by omega)
  rw [show ((1 : Nat) : Int) = 1 from rfl] at this
  rw [this, Nat.and_one_is_mod]

theorem mod_step (B k : Nat) : B % 2 ^ (k + 1) = B % 2 ^ k + 2 ^ k * (B / 2 ^ k % 2) := Nat.mod_pow_succ

/-- The bit k of B is laid at its place. -/
theorem val_bit (xs ys : List Nat) (at_ k B : Nat) (h : val ys = val xs ^^^ (2 ^ at_ * (B % 2 ^ k))) (hb : B / 2 ^ k % 2 = 1) (hl : at_ + k < 8 * ys.length) (hs : ∀ x ∈ ys, x < 256) : val (flip ys (at_ + k)) = val xs ^^^ (2 ^ at_ * (B % 2 ^ (k + 1))) := by
  rw [val_flip ys _ hl hs, h, mod_step, hb, Nat.add_comm (B % 2 ^ k), ← split_xor k 1 _ (Nat.mod_lt _ (Nat.two_pow_pos k)), Nat.mul_one, mul_xor, ← Nat.pow_add, Nat.xor_comm (2 ^ (at_ + k)), Nat.xor_assoc]

theorem mod_none (B k : Nat) (hb : ¬ B / 2 ^ k % 2 = 1) : B % 2 ^ (k + 1) = B % 2 ^ k := by
  have : B / 2 ^ k % 2 = 0 := by omega
  rw [mod_step, this, Nat.mul_zero, Nat.add_zero]
theorem mod_some (B k : Nat) (hb : B / 2 ^ k % 2 = 1) : B % 2 ^ (k + 1) ≠ 0 := by
  have := Nat.two_pow_pos k
  rw [mod_step, hb]
  omega

set_option maxRecDepth 100000 in
set_option maxHeartbeats 4000000 in
theorem told_some (w : World) (g o m cap B : Nat) (A O W : Int) (xs : List Nat) (hT : Tab w) (hm : xs.length = m) (h0 : 0 < m) (hlen : m ≤ 1048576) (hx : Bytes w (some ⟨g, o, none⟩) xs) (hB : B < 4294967296) :
    Calls Tryd.prog 4 #[.agg #[.slice (some ⟨g, o, none⟩) m cap, .int .i64 A, .int .u32 (B : Int), .int .i64 O, .int .i64 W]] w fun e w' => e = .returned (.bool true) ∧ Below w.heap.size w w' := by
  have HM := hide hm
  have HX := hide hx
  have HT := hide hT
  clear hm hx hT
  have hcv := conv_k7' w #[.slice (some ⟨g, o, none⟩) m cap, .int .i64 A, .int .u32 (B : Int), .int .i64 O, .int .i64 W] 33
  have HK7 := hide (k7_lie' w #[.slice (some ⟨g, o, none⟩) m cap, .int .i64 A, .int .u32 (B : Int), .int .i64 O, .int .i64 W] 33)
  have HB0 : Hid (Below w.heap.size w ((w.alloc (.cells #[.slice (some ⟨g, o, none⟩) m cap, .int .i64 A, .int .u32 (B : Int), .int .i64 O, .int .i64 W] 33)).alloc (.cells #[.int .u8 107, .int .u8 55] 5 (2, 3)))) := (((Below.refl _ _).alloc (Nat.le_refl _) _).alloc (by simp) _)
  have HX0 : Hid (((w.alloc (.cells #[.slice (some ⟨g, o, none⟩) m cap, .int .i64 A, .int .u32 (B : Int), .int .i64 O, .int .i64 W] 33)).alloc (.cells #[.int .u8 107, .int .u8 55] 5 (2, 3))).heap[w.heap.size]? = some (.cells #[.slice (some ⟨g, o, none⟩) m cap, .int .i64 A, .int .u32 (B : Int), .int .i64 O, .int .i64 W] 33 (0, 0))) := by
    show _ = _
    rw [Below.heap_alloc _ _ _ (by simp)]
    exact heap_alloc_new _ _
  obtain ⟨n, hn, hnn⟩ : ∃ n : Nat, (8 : Int) * (m : Int) = (n : Int) ∧ n = 8 * m := ⟨8 * m, by omega, rfl⟩
  have HNN := hide hnn
  have hn1 : n ≤ 8388608 := by omega
  have hn2 : 0 < n := by omega
  clear hnn
  go_enter Tryd.func4, Tryd.ntmps4
  go_wp2_with fail
  refine (sum_any _ _ 2 2 [107, 55] rfl HK7.out (by omega) (HT.out.below HB0.out HT.out.pos)).mono ?_
  rintro e w1 ⟨rfl, rfl⟩
  rw [sum_k7]
  clear hcv HK7
  generalize hw1 : ((w.alloc (.cells #[.slice (some ⟨g, o, none⟩) m cap, .int .i64 A, .int .u32 (B : Int), .int .i64 O, .int .i64 W] 33)).alloc (.cells #[.int .u8 107, .int .u8 55] 5 (2, 3))) = w1 at *
  clear hw1
  obtain ⟨c0, c1, c2, c3, c4, cf⟩ := blk5 HX0.out
  have hm2 : decide ((1048576 : Int) < (m : Int)) = false := by simp; omega
  have hm3 : ((n : Int) == 0) = false := by simp; omega
  go_wp2_with fail
  refine (copy_some w1 g o m cap xs HM.out h0 (HX.out.below HB0.out) (by omega)).mono ?_
  rintro e w2 ⟨k2, rfl, hown2, hb2⟩
  have HB2 : Hid (Below w.heap.size w w2) := HB0.out.trans (hb2.mono HB0.out.size)
  have HX2 := hide ((hb2.block _ (lt_of_block HX0.out)).trans HX0.out)
  have HO2 := hide hown2
  clear hown2 hb2 HB0 HX0 c0 c1 c2 c3 c4 cf
  obtain ⟨c0, c1, c2, c3, c4, cf⟩ := blk5 HX2.out
  go_wp2_with fail
  refine (sum_any _ _ m k2 xs HM.out HO2.out.bytes (by omega) (HT.out.below HB2.out HT.out.pos)).mono ?_
  rintro e w3 ⟨rfl, rfl⟩
  clear HO2
  go_wp2_with fail
  refine (place_any _ A n (by omega) (by omega)).mono ?_
  rintro e w3 ⟨rfl, rfl⟩
  have hat := plc_lt A n (by omega)
  generalize plc A n = at_ at *
  go_wp2_with fail
  refine (copy_some _ g o m cap xs HM.out h0 (HX.out.below HB2.out) (by omega)).mono ?_
  rintro e w4 ⟨k4, rfl, hown4, hb4⟩
  have HB4 : Hid (Below w.heap.size w w4) := HB2.out.trans (hb4.mono HB2.out.size)
  have HX4 := hide ((hb4.block _ (lt_of_block HX2.out)).trans HX2.out)
  have HO4 := hide (hown4.mono HB2.out.size)
  have HG := hide (lt_of_block HX2.out)
  clear hown4 hb4 HB2 HX2 c0 c1 c2 c3 c4 cf
  have hG0 := HG.out
  clear HG
  generalize w3.heap.size = G at *
  generalize hS0 : sumOf xs = S0 at *
  have HS0 := hide hS0
  clear hS0
  go_wp2
  go_loopw [7, 8] (fun a i wr => ∃ (k : Nat) (ys : List Nat) (b : Bool), k ≤ 32 ∧ at_ + k ≤ n ∧ i = .int .i64 k ∧ a = .bool b ∧ Hid (b = decide (B % 2 ^ k ≠ 0)) ∧ Hid (ys.length = m) ∧ Hid (val ys = val xs ^^^ (2 ^ at_ * (B % 2 ^ k))) ∧ Hid (Own w.heap.size wr G k4 ys) ∧ Hid (Below w.heap.size w wr) ∧ Hid (wr.heap[w.heap.size]? = some (.cells #[.slice (some ⟨g, o, none⟩) m cap, .int .i64 A, .int .u32 (B : Int), .int .i64 O, .int .i64 W] 33 (0, 0)))) (fun _ i _ => 32 - (intOf i).toNat)
  case atStart => exact ⟨0, xs, false, Nat.zero_le _, by omega, rfl, rfl, by simp [Hid, Nat.mod_one], HM, by simp [Hid, Nat.mod_one], HO4, HB4, HX4⟩
  case round =>
    obtain ⟨k, ys, b, hk, hkn, rfl, rfl, HBb, HYl, HYv, HO, HB, HX'⟩ := hrel
    clear HO4 HB4 HX4
    obtain ⟨c0, c1, c2, c3, c4, cf⟩ := blk5 HX'.out
    by_cases hlt : k < 32 ∧ at_ + k < n
    · obtain ⟨hk1, hk2⟩ := hlt
      obtain ⟨i, hi, hii⟩ : ∃ i : Nat, (at_ : Int) + (k : Int) = (i : Int) ∧ i = at_ + k := ⟨at_ + k, by omega, rfl⟩
      have HI := hide hii
      have hi8 : i < n := by omega
      clear hii
      have l1 : (k : Int) < 32 := by omega
      have l2 : (i : Int) < (n : Int) := by omega
      have hbt := bit_test B k hB
      obtain ⟨q0, qf⟩ := HO.out.cell (i / 8) (by rw [HYl.out]; have := HNN.out; omega)
      have hy : ys.getD (i / 8) 0 < 256 := getD_small HO.out.small _
      have HXor := hide (u8_xor_nat (ys.getD (i / 8) 0) (2 ^ (i % 8)) hy (pow_lt8 i))
      have i1 : (0 : Int) ≤ (i : Int) / 8 := by omega
      have i2 : (i : Int) / 8 < (m : Int) := by omega
      have i3 : ((i : Int) / 8).toNat = i / 8 := by omega
      by_cases hbit : B / 2 ^ k % 2 = 1
      · have HV := hide (val_bit xs ys at_ k B HYv.out hbit (by rw [HYl.out]; have := HNN.out; omega) HO.out.small)
        have HMS := hide (mod_some B k hbit)
        rw [hbit] at hbt
        clear hbit
        go_wp2
        go_roundw
        case rel =>
          have e2 : bits .xor .u8 ((ys[i / 8]?.getD 0 : Nat) : Int) ((2 : Int) ^ (i % 8) % 256) = ((ys.getD (i / 8) 0 ^^^ 2 ^ (i % 8) : Nat) : Int) := by
            rw [pow_mod8 i]
            simpa [List.getD] using HXor.out
          rw [e2]
          refine ⟨k + 1, flip ys i, true, by omega, by omega, by go_num, rfl, ?_, ?_, ?_, ?_, ?_, ?_⟩
          · show _ = _; simp [HMS.out]
          · show _ = _; rw [flip_len]; exact HYl.out
          · rw [HI.out]; exact HV
          · exact HO.out.set (i / 8) _ (Nat.xor_lt_two_pow (n := 8) hy (pow_lt8 i))
          · exact HB.out.setCell (Nat.le_of_lt hG0) _
          · show _ = _; rw [heap_setCell_other _ _ _ _ (by simp; omega)]; exact HX'.out
        case measure => simp [intOf]; omega
      · have HMS := hide (mod_none B k hbit)
        have hb0 : B / 2 ^ k % 2 = 0 := by omega
        rw [hb0] at hbt
        clear hbit hb0
        go_wp2
        go_roundw
        case rel =>
          refine ⟨k + 1, ys, b, by omega, by omega, by go_num, rfl, ?_, HYl, ?_, HO, HB, HX'⟩
          · show _ = _; rw [HMS.out]; exact HBb.out
          · show _ = _; rw [HMS.out]; exact HYv.out
        case measure => simp [intOf]; omega
    · have HQ : Hid (sumOf ys = S0 ↔ B % 2 ^ k = 0) := by
        have e := sum_eq_iff ys xs HO.out.small HX.out.small (by rw [HYl.out, HM.out])
        rw [HYv.out, Nat.xor_comm (val xs), Nat.xor_assoc, Nat.xor_self, Nat.xor_zero, HYl.out, ← HNN.out] at e
        show _ ↔ _
        rw [← HS0.out, e]
        exact burst n at_ _ (by omega) (Nat.lt_of_le_of_lt (Nat.mod_le _ _) hB)
      have HT' := hide (HT.out.below HB.out HT.out.pos)
      have HOn := hide (plc_lt O n hn2)
      have HWn := hide (plc_lt W n hn2)
      have hend : ((k : Int) < 32 ∧ ¬ (at_ : Int) + (k : Int) < (n : Int)) ∨ ¬ (k : Int) < 32 := by omega
      rcases hend with ⟨l1, l2⟩ | l1
      all_goals
        go_wp2_with fail
        refine (sum_any _ _ m k4 ys HYl.out HO.out.bytes (by omega) HT'.out).mono ?_
        rintro e w5 ⟨rfl, rfl⟩
        have hb : (((sumOf ys : Nat) : Int) != (S0 : Int)) = b := by
          rw [HBb.out]
          by_cases h : B % 2 ^ k = 0
          · simp [h, HQ.out.2 h]
          · have : ¬ ((sumOf ys : Nat) : Int) = (S0 : Int) := fun h' => h (HQ.out.1 (Int.ofNat_inj.1 h'))
            simp [h, bne, this]
        generalize sumOf ys = S1 at *
        clear HQ HBb
        go_wp2_with fail
        refine (place_any _ O n hn2 hn1).mono ?_
        rintro e w5 ⟨rfl, rfl⟩
        go_wp2_with fail
        refine (place_any _ W n hn2 hn1).mono ?_
        rintro e w5 ⟨rfl, rfl⟩
        generalize plc O n = p at *
        generalize plc W n = q at *
        go_wp2_with fail
        refine (turned_any _ g o m cap p xs HM.out (HX.out.below HB.out) hlen (by have := HNN.out; have := HOn.out; omega)).mono ?_
        rintro e w6 ⟨k6, rfl, ho6, hb6⟩
        have HO6 := hide ho6
        have HB6 : Hid (Below w.heap.size w w6) := HB.out.trans (hb6.mono HB.out.size)
        have HL6 := hide HB.out.size
        clear ho6 hb6
        go_wp2_with fail
        refine (turned_any _ _ _ m k6 q (flip xs p) (by rw [flip_len]; exact HM.out) HO6.out.bytes hlen (by have := HNN.out; have := HWn.out; omega)).mono ?_
        rintro e w7 ⟨k7, rfl, ho7, hb7⟩
        have HO7 := hide ho7
        have HO6' := hide (HO6.out.below hb7 HO6.out.lt)
        have HB7 : Hid (Below w.heap.size w w7) := HB6.out.trans (hb7.mono HB6.out.size)
        have HT7 := hide (HT.out.below HB7.out HT.out.pos)
        clear ho7 hb7
        have HA1 : Hid (¬ sumOf (flip xs p) = S0) := by
          have e := sum_eq_iff (flip xs p) xs HO6.out.small HX.out.small (flip_len _ _)
          rw [val_flip xs p (by rw [HM.out, ← HNN.out]; exact HOn.out) HX.out.small, Nat.xor_comm (val xs), Nat.xor_assoc, Nat.xor_self, Nat.xor_zero, flip_len, HM.out, ← HNN.out, HS0.out] at e
          have h1 := burst n p 1 (Nat.le_of_lt HOn.out) (by omega)
          rw [Nat.mul_one] at h1
          show ¬ _
          rw [e, h1]
          omega
        have HA2 : Hid (sumOf (flip (flip xs p) q) = S0 ↔ p = q) := by
          have e := sum_eq_iff (flip (flip xs p) q) xs HO7.out.small HX.out.small (by rw [flip_len, flip_len])
          rw [val_flip _ q (by rw [flip_len, HM.out, ← HNN.out]; exact HWn.out) HO6.out.small, val_flip xs p (by rw [HM.out, ← HNN.out]; exact HOn.out) HX.out.small, Nat.xor_comm (val xs), Nat.xor_assoc, Nat.xor_assoc, Nat.xor_comm (val xs), Nat.xor_assoc, Nat.xor_self, Nat.xor_zero, flip_len, flip_len, HM.out, ← HNN.out, HS0.out] at e
          show _ ↔ _
          rw [e]
          exact two_bits n p q HOn.out HWn.out hn1
        go_wp2_with fail
        refine (sum_any _ _ m k6 (flip xs p) (by rw [flip_len]; exact HM.out) HO6'.out.bytes (by omega) HT7.out).mono ?_
        rintro e w8 ⟨rfl, rfl⟩
        have hs1 : (((sumOf (flip xs p) : Nat) : Int) != (S0 : Int)) = true := by
          have : ¬ ((sumOf (flip xs p) : Nat) : Int) = (S0 : Int) := fun h' => HA1.out (Int.ofNat_inj.1 h')
          simp [bne, this]
        generalize sumOf (flip xs p) = S2 at *
        go_wp2_with fail
        refine (sum_any _ _ m k7 (flip (flip xs p) q) (by rw [flip_len, flip_len]; exact HM.out) HO7.out.bytes (by omega) HT7.out).mono ?_
        rintro e w8 ⟨rfl, rfl⟩
        have hs2 : (((sumOf (flip (flip xs p) q) : Nat) : Int) == (S0 : Int)) = ((p : Int) == (q : Int)) := by
          rw [Bool.eq_iff_iff]
          simp only [beq_iff_eq, Int.ofNat_inj]
          exact HA2.out
        generalize sumOf (flip (flip xs p) q) = S3 at *
        go_wp2
        go_ret
        exact ⟨rfl, HB7.out⟩

set_option maxRecDepth 100000 in
set_option maxHeartbeats 4000000 in
theorem told_early (w : World) (sp : Option Addr) (m cap B : Nat) (A O W : Int) (hT : Tab w) (hl : m ≤ 140737488351232) (h : m = 0 ∨ 1048576 < m) :
    Calls Tryd.prog 4 #[.agg #[.slice sp m cap, .int .i64 A, .int .u32 (B : Int), .int .i64 O, .int .i64 W]] w fun e w' => e = .returned (.bool true) ∧ Below w.heap.size w w' := by
  have HT := hide hT
  clear hT
  have hcv := conv_k7' w #[.slice sp m cap, .int .i64 A, .int .u32 (B : Int), .int .i64 O, .int .i64 W] 33
  have HK7 := hide (k7_lie' w #[.slice sp m cap, .int .i64 A, .int .u32 (B : Int), .int .i64 O, .int .i64 W] 33)
  have HB0 : Hid (Below w.heap.size w ((w.alloc (.cells #[.slice sp m cap, .int .i64 A, .int .u32 (B : Int), .int .i64 O, .int .i64 W] 33)).alloc (.cells #[.int .u8 107, .int .u8 55] 5 (2, 3)))) := (((Below.refl _ _).alloc (Nat.le_refl _) _).alloc (by simp) _)
  have HX0 : Hid (((w.alloc (.cells #[.slice sp m cap, .int .i64 A, .int .u32 (B : Int), .int .i64 O, .int .i64 W] 33)).alloc (.cells #[.int .u8 107, .int .u8 55] 5 (2, 3))).heap[w.heap.size]? = some (.cells #[.slice sp m cap, .int .i64 A, .int .u32 (B : Int), .int .i64 O, .int .i64 W] 33 (0, 0))) := by
    show _ = _
    rw [Below.heap_alloc _ _ _ (by simp)]
    exact heap_alloc_new _ _
  rcases h with rfl | h
  · go_enter Tryd.func4, Tryd.ntmps4
    go_wp2_with fail
    refine (sum_any _ _ 2 2 [107, 55] rfl HK7.out (by omega) (HT.out.below HB0.out HT.out.pos)).mono ?_
    rintro e w1 ⟨rfl, rfl⟩
    rw [sum_k7]
    obtain ⟨c0, c1, c2, c3, c4, cf⟩ := blk5 HX0.out
    go_wp2
    go_ret
    exact ⟨rfl, HB0.out⟩
  · go_enter Tryd.func4, Tryd.ntmps4
    go_wp2_with fail
    refine (sum_any _ _ 2 2 [107, 55] rfl HK7.out (by omega) (HT.out.below HB0.out HT.out.pos)).mono ?_
    rintro e w1 ⟨rfl, rfl⟩
    rw [sum_k7]
    obtain ⟨c0, c1, c2, c3, c4, cf⟩ := blk5 HX0.out
    have h1 : (1048576 : Int) < (m : Int) := by omega
    have h2 : ¬ (8 : Int) * (m : Int) = 0 := by omega
    have h3 : ((8 : Int) * (m : Int) == 0) = false := by simp; omega
    go_wp2
    go_ret
    exact ⟨rfl, HB0.out⟩

end Go.Proofs.YtlnldipiofddkabDoor
