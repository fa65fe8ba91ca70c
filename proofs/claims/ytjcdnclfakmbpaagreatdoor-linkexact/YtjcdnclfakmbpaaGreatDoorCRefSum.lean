import Derived.Deep.RegionHeld3
import Derived.Deep.RegionLaw
import Derived.Deep.QuietTactic
import Derived.Deep.DrawnRows
import Derived.Deep.CutRange
import Derived.Deep.DeepCutAuto
import Derived.Test.YtjcdnclfakmbpaaGreatDoorCMir
import Derived.Test.YtjcdnclfakmbpaaGreatDoorBase
import Derived.Test.YtjcdnclfakmbpaaGreatDoorCReader4
namespace Go.Proofs.YtjcdnclfakmbpaaGreatDoor.C
open Go.RowKit
theorem ret_int {k : IntKind} {a b : Int} (h : a = b) : Ending.returned (.int k a) = .returned (.int k b) := by rw [h]
set_option maxRecDepth 100000 in
set_option maxHeartbeats 400000 in
theorem power_any (w : World) (k : Nat) (hk : k < 8) :
    Calls Tryz.prog 153 #[.int .i64 k] w fun e w' => e = .returned (.int .u32 (2 ^ k : Nat)) ∧ w' = w := by
  go_enter Tryz.func153, Tryz.ntmps153
  go_wp2
  go_loop [3, 4] (fun n i => ∃ (j N : Nat), j ≤ k ∧ i = .int .i64 j ∧ n = .int .u32 (N : Int) ∧ Hid (N = 2 ^ j) ∧ N ≤ 256) (fun _ i => k - (intOf i).toNat)
  case atStart => exact ⟨0, 1, Nat.zero_le _, rfl, rfl, rfl, by omega⟩
  case round =>
    obtain ⟨j, N, hj, rfl, rfl, HN, hN⟩ := hrel
    by_cases hlt : j < k
    · have HN2 : Hid (N * 2 = 2 ^ (j + 1)) := by show _ = _; rw [HN.out, Nat.pow_succ]
      have hN2 : N * 2 ≤ 256 := by
        rw [HN2.out]
        exact Nat.le_trans (Nat.pow_le_pow_right (by omega) (by omega : j + 1 ≤ 8)) (by omega)
      go_wp2
      go_round
      case rel => exact ⟨j + 1, N * 2, by omega, by go_num, by simp, HN2, hN2⟩
      case measure => simp [intOf]; omega
    · obtain rfl : j = k := by omega
      go_wp2
      go_ret
      exact ⟨ret_int (by rw [HN.out]; simp), rfl⟩
structure MirInv (n j N M : Nat) : Prop where
  lt : M < 2 ^ j
  eq : rv 32 n = 2 ^ (32 - j) * M + rv (32 - j) N
theorem MirInv.start (n : Nat) : MirInv n 0 n 0 := ⟨by simp, by simp⟩
theorem MirInv.small {n j N M : Nat} (h : MirInv n j N M) (hj : j < 32) : M < 2147483648 := Nat.lt_of_lt_of_le h.lt (Nat.le_trans (Nat.pow_le_pow_right (by omega) (by omega : j ≤ 31)) (by omega))
theorem MirInv.step {n j N M : Nat} (h : MirInv n j N M) (hj : j < 32) : MirInv n (j + 1) (N / 2) (M * 2 + N % 2) := by
  refine ⟨?_, ?_⟩
  · have := h.lt; rw [Nat.pow_succ]; omega
  · obtain ⟨q, hq⟩ : ∃ q, 32 - j = q + 1 := ⟨31 - j, by omega⟩
    have hq2 : 32 - (j + 1) = q := by omega
    rw [h.eq, hq, hq2, rv, Nat.pow_succ, Nat.mul_add, ← Nat.add_assoc, Nat.mul_assoc, Nat.mul_comm 2 M]
theorem MirInv.last {n N M : Nat} (h : MirInv n 32 N M) : M = rv 32 n := by
  have := h.eq
  rw [this]
  simp [rv]
set_option maxRecDepth 100000 in
set_option maxHeartbeats 400000 in
theorem mirrored_any (w : World) (n : Nat) (hn : n < 4294967296) :
    Calls Tryz.prog 154 #[.int .u32 n] w fun e w' => e = .returned (.int .u32 (rv 32 n : Nat)) ∧ w' = w := by
  go_enter Tryz.func154, Tryz.ntmps154
  go_wp2
  go_loop [0, 3, 4] (fun nn mm i => ∃ (j N M : Nat), j ≤ 32 ∧ i = .int .i64 j ∧ nn = .int .u32 (N : Int) ∧ mm = .int .u32 (M : Int) ∧ N < 4294967296 ∧ Hid (MirInv n j N M)) (fun _ _ i => 32 - (intOf i).toNat)
  case atStart => exact ⟨0, n, 0, Nat.zero_le _, rfl, rfl, rfl, hn, MirInv.start n⟩
  case round =>
    obtain ⟨j, N, M, hj, rfl, rfl, rfl, hN, HM⟩ := hrel
    by_cases hlt : j < 32
    · have hMb := HM.out.small hlt
      have HM2 := hide (HM.out.step hlt)
      have e1 : (M : Int) * 2 + (N : Int) % 2 = ((M * 2 + N % 2 : Nat) : Int) := by omega
      have e2 : (N : Int) / 2 = ((N / 2 : Nat) : Int) := by omega
      have b1 : M * 2 + N % 2 < 4294967296 := by omega
      have b2 : N / 2 < 4294967296 := by omega
      generalize M * 2 + N % 2 = M2 at *
      generalize N / 2 = N2 at *
      go_wp2
      go_round
      case rel => exact ⟨j + 1, N2, M2, by omega, by go_num, rfl, rfl, b2, HM2⟩
      case measure => simp [intOf]; omega
    · obtain rfl : j = 32 := by omega
      go_wp2
      go_ret
      exact ⟨ret_int (by rw [HM.out.last]), rfl⟩
structure SumInv (V M N : Nat) : Prop where
  lt : N < 4294967296
  eq : rv 32 N = far V M
theorem SumInv.start (V : Nat) : SumInv V 0 0 := ⟨by omega, by rw [far_zero]; decide⟩
theorem SumInv.step {V M N : Nat} (h : SumInv V M N) : SumInv V (M + 1) (shl1 N (V / 2 ^ M % 2)) :=
  ⟨shl1_lt _ _, by rw [rv_shl1 N _ h.lt (Nat.mod_lt _ (by omega)), far_step, h.eq]⟩
theorem shl_top (N z : Nat) (_hN : N < 4294967296) (hz : z < 2) (ht : N / 2147483648 = 1) : bits .xor .u32 ((N : Int) * 2 % 4294967296 + (z : Int)) 79764919 = ((shl1 N z : Nat) : Int) := by
  have e : (N : Int) * 2 % 4294967296 + (z : Int) = (((N * 2 + z) % 4294967296 : Nat) : Int) := by omega
  have := u32_xor_nat ((N * 2 + z) % 4294967296) 79764919 (by omega) (by omega)
  rw [show ((79764919 : Nat) : Int) = 79764919 from rfl] at this
  rw [e, this, shl1, if_pos ht]
theorem shl_low (N z : Nat) (_hN : N < 4294967296) (hz : z < 2) (ht : ¬ N / 2147483648 = 1) : (N : Int) * 2 + (z : Int) = ((shl1 N z : Nat) : Int) := by
  rw [shl1, if_neg ht]
  omega
set_option maxRecDepth 100000 in
set_option maxHeartbeats 2000000 in
theorem refsum_any (w : World) (sp : Option Addr) (len cap : Nat) (xs : List Nat) (hl : xs.length = len) (hB : Bytes w sp xs) (hlen : len ≤ 140737488351232) :
    Calls Tryz.prog 143 #[.slice sp len cap] w fun e w' => e = .returned (.int .u32 (sumOf xs : Nat)) ∧ ∃ m, w' = w.drewN m := by
  have HX := hide hB.small
  have HL := hide hl
  have HC : Hid (∀ j, j < len → ∃ g o, sp = some ⟨g, o, none⟩ ∧ w.cell? ⟨g, o + j, none⟩ = some (.int .u8 (xs.getD j 0))) := fun j hj => by
    rcases hB.lie with h | ⟨g, o, e, _, hc⟩
    · subst h; simp at hl; omega
    · exact ⟨g, o, e, hc j (by omega)⟩
  clear hl hB
  go_enter Tryz.func143, Tryz.ntmps143
  go_wp2
  go_loopw [3, 4] (fun r i wr => ∃ (a N q : Nat), a ≤ len + 4 ∧ i = .int .i64 a ∧ r = .int .u32 (N : Int) ∧ Hid (wr = w.drewN q) ∧ Hid (SumInv (docV xs) (8 * a) N)) (fun _ i _ => len + 4 - (intOf i).toNat)
  case atStart => exact ⟨0, 0, 0, Nat.zero_le _, rfl, rfl, rfl, SumInv.start _⟩
  case round =>
    obtain ⟨a, N0, q0, ha, rfl, rfl, HW0, HS0⟩ := hrel
    obtain ⟨wo, rfl⟩ : ∃ wo, wo = wr := ⟨_, rfl⟩
    by_cases hlt : a < len + 4
    · have l1 : (a : Int) < (len : Int) + 4 := by omega
      go_wp2
      go_loopw [3, 5] (fun r i wr => ∃ (b N q : Nat), b ≤ 8 ∧ i = .int .i64 b ∧ r = .int .u32 (N : Int) ∧ Hid (wr = w.drewN q) ∧ Hid (SumInv (docV xs) (8 * a + b) N)) (fun _ i _ => 8 - (intOf i).toNat)
      case atStart => exact ⟨0, N0, q0, Nat.zero_le _, rfl, rfl, HW0, HS0⟩
      case round =>
        obtain ⟨b, N, q, hb, rfl, rfl, HW, HS⟩ := hrel
        by_cases hb8 : b < 8
        · have HS2 := hide HS.out.step
          have HD := hide (doc_bit xs a b hb8 HX.out)
          have hN := HS.out.lt
          by_cases hal : a < len
          · obtain ⟨g, o, rfl, hca⟩ := HC.out a hal
            have hcx : wr.cell? ⟨g, o + a, none⟩ = some (.int .u8 (xs.getD a 0 : Nat)) := by rw [HW.out]; exact hca
            clear hca
            have hx : xs.getD a 0 < 256 := getD_small HX.out a
            generalize xs.getD a 0 = x at *
            have HP := hide (fun w => power_any w b hb8)
            have hp0 : 0 < 2 ^ b := Nat.two_pow_pos b
            generalize 2 ^ b = pb at *
            have l2 : (a : Int) < (len : Int) := by omega
            have l3 : (0 : Int) ≤ (a : Int) := by omega
            have l4 : ((pb : Int) == 0) = false := by simp; omega
            have hwx : IntKind.u32.wrap (x : Int) = (x : Int) := by rw [IntKind.wrap_u32]; omega
            have d0 : ¬ pb = 0 := by omega
            have d1 : (x : Int).tdiv (pb : Int) = ((x / pb : Nat) : Int) := rfl
            have hz2 : x / pb % 2 < 2 := Nat.mod_lt _ (by omega)
            have hy : x / pb < 256 := Nat.lt_of_le_of_lt (Nat.div_le_self _ _) hx
            have d3 : ((x / pb : Nat) : Int).tmod 2 = ((x / pb % 2 : Nat) : Int) := rfl
            have d4 : ((x / pb : Nat) : Int) % 2 = ((x / pb % 2 : Nat) : Int) := rfl
            generalize x / pb % 2 = z at *
            generalize x / pb = y at *
            have d2 : IntKind.u32.wrap (y : Int) = (y : Int) := by rw [IntKind.wrap_u32]; omega
            go_wp2
            go_quiet (first | (go_at_call 153; exact Calls.quiet_of_same (HP.out _)))
            obtain ⟨zz, hzz⟩ : ∃ zz, zz = docV xs / 2 ^ (8 * a + b) % 2 := ⟨_, rfl⟩
            rw [← hzz] at HD HS2
            have HW2 : Hid (wr.drewN nq = w.drewN (q + nq)) := by show _ = _; rw [HW.out, World.drewN_drewN]
            generalize hwn : wr.drewN nq = wn at *
            clear hzz HP HW hwn
            by_cases ha4 : a < 4
            · have hz3 : zz = 1 - z := by have := HD.out; rw [if_pos ha4] at this; exact this
              have f1 : (1 : Int) - (z : Int) = (zz : Int) := by omega
              have l5 : (a : Int) < 4 := by omega
              have hzl : zz < 2 := by omega
              clear hz3 HD
              by_cases ht : N / 2147483648 = 1
              · have f2 : ((N : Int) / 2147483648 == 1) = true := by simp; omega
                have f3 : (2147483648 : Int) ≤ (N : Int) := by omega
                go_wp2
                go_roundw
                case rel => exact ⟨b + 1, shl1 N zz, q + nq, by omega, by go_num, by rw [shl_top N zz hN hzl ht], HW2, HS2⟩
                case measure => simp [intOf]; omega
              · have f2 : ((N : Int) / 2147483648 == 1) = false := by simp; omega
                have f3 : (N : Int) < 2147483648 := by omega
                go_wp2
                go_roundw
                case rel => exact ⟨b + 1, shl1 N zz, q + nq, by omega, by go_num, by rw [shl_low N zz hN hzl ht], HW2, HS2⟩
                case measure => simp [intOf]; omega
            · obtain rfl : zz = z := by have := HD.out; rw [if_neg ha4] at this; exact this
              have l5 : ¬ (a : Int) < 4 := by omega
              have hzl : zz < 2 := by omega
              clear HD
              by_cases ht : N / 2147483648 = 1
              · have f2 : ((N : Int) / 2147483648 == 1) = true := by simp; omega
                have f3 : (2147483648 : Int) ≤ (N : Int) := by omega
                go_wp2
                go_roundw
                case rel => exact ⟨b + 1, shl1 N zz, q + nq, by omega, by go_num, by rw [shl_top N zz hN hzl ht], HW2, HS2⟩
                case measure => simp [intOf]; omega
              · have f2 : ((N : Int) / 2147483648 == 1) = false := by simp; omega
                have f3 : (N : Int) < 2147483648 := by omega
                go_wp2
                go_roundw
                case rel => exact ⟨b + 1, shl1 N zz, q + nq, by omega, by go_num, by rw [shl_low N zz hN hzl ht], HW2, HS2⟩
                case measure => simp [intOf]; omega
          · have l2 : ¬ (a : Int) < (len : Int) := by omega
            have hx0 : xs.getD a 0 = 0 := by rw [List.getD, List.getElem?_eq_none (by rw [HL.out]; omega)]; rfl
            rw [hx0, Nat.zero_div, Nat.zero_mod] at HD
            clear hx0
            by_cases ha4 : a < 4
            · have hz3 := HD.out
              rw [if_pos ha4] at hz3
              rw [hz3] at HS2
              have l5 : (a : Int) < 4 := by omega
              clear hz3 HD
              by_cases ht : N / 2147483648 = 1
              · have f2 : ((N : Int) / 2147483648 == 1) = true := by simp; omega
                have f3 : (2147483648 : Int) ≤ (N : Int) := by omega
                go_wp2
                go_roundw
                case rel => exact ⟨b + 1, shl1 N 1, q, by omega, by go_num, by rw [← shl_top N 1 hN (by omega) ht]; simp, HW, HS2⟩
                case measure => simp [intOf]; omega
              · have f2 : ((N : Int) / 2147483648 == 1) = false := by simp; omega
                have G1 : Hid ((N : Int) * 2 % 4294967296 + 1 = ((shl1 N 1 : Nat) : Int)) := by show _ = _; rw [← shl_low N 1 hN (by omega) ht]; simp; omega
                clear ht
                generalize shl1 N 1 = S at *
                go_wp2
                go_roundw
                case rel => exact ⟨b + 1, S, q, by omega, by go_num, by rw [G1.out], HW, HS2⟩
                case measure => simp [intOf]; omega
            · have hz3 := HD.out
              rw [if_neg ha4] at hz3
              rw [hz3] at HS2
              have l5 : ¬ (a : Int) < 4 := by omega
              clear hz3 HD
              by_cases ht : N / 2147483648 = 1
              · have f2 : ((N : Int) / 2147483648 == 1) = true := by simp; omega
                have f3 : (2147483648 : Int) ≤ (N : Int) := by omega
                go_wp2
                go_roundw
                case rel => exact ⟨b + 1, shl1 N 0, q, by omega, by go_num, by rw [← shl_top N 0 hN (by omega) ht]; simp, HW, HS2⟩
                case measure => simp [intOf]; omega
              · have f2 : ((N : Int) / 2147483648 == 1) = false := by simp; omega
                have G1 : Hid ((N : Int) * 2 % 4294967296 = ((shl1 N 0 : Nat) : Int)) := by show _ = _; rw [← shl_low N 0 hN (by omega) ht]; simp; omega
                clear ht
                generalize shl1 N 0 = S at *
                go_wp2
                go_roundw
                case rel => exact ⟨b + 1, S, q, by omega, by go_num, by rw [G1.out], HW, HS2⟩
                case measure => simp [intOf]; omega
        · obtain rfl : b = 8 := by omega
          have HS8 : Hid (SumInv (docV xs) (8 * (a + 1)) N) := by have := HS.out; rw [show 8 * a + 8 = 8 * (a + 1) by omega] at this; exact this
          go_wp2
          go_roundw
          case rel => exact ⟨a + 1, N, q, by omega, by go_num, rfl, HW, HS8⟩
          case measure => simp [intOf]; omega
    · obtain rfl : a = len + 4 := by omega
      have HE : Hid (rv 32 N0 = reg xs) := by
        have e := HS0.out.eq
        rw [show 8 * (len + 4) = 32 + 8 * xs.length by rw [HL.out]; omega, doc_end xs HX.out] at e
        exact e
      have hN := HS0.out.lt
      have HR := hide (reg_lt xs HX.out)
      have HM : Hid (∀ w : World, Calls Tryz.prog 154 #[.int .u32 N0] w fun e w' => e = .returned (.int .u32 (reg xs : Nat)) ∧ w' = w) := fun w => by
        have := mirrored_any w N0 hN
        rw [HE.out] at this
        exact this
      clear HE HS0
      go_wp2_with fail
      refine (HM.out _).mono ?_
      rintro e w2 ⟨rfl, rfl⟩
      go_wp2
      go_ret
      refine ⟨?_, q0, HW0.out⟩
      have e : bits .xor .u32 IntKind.u32.max ((reg xs : Nat) : Int) = ((4294967295 ^^^ reg xs : Nat) : Int) := u32_xor_nat 4294967295 _ (by omega) HR.out
      simp only [e]
      rfl
end Go.Proofs.YtjcdnclfakmbpaaGreatDoor.C
