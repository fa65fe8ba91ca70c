import Derived.Deep.RegionHeld3
import Derived.Deep.RegionLaw
import Derived.Deep.QuietTactic
import Derived.Deep.DrawnRows
import Derived.Deep.CutRange
import Derived.Deep.DeepCutAuto
import Derived.Test.YtjcdnclfakmbpaaGreatDoorCMir
import Derived.Test.YtjcdnclfakmbpaaGreatDoorCBase
import Derived.Test.YtjcdnclfakmbpaaGreatDoorCRef
import Derived.Test.YtjcdnclfakmbpaaGreatDoorVX
import Derived.Test.YtjcdnclfakmbpaaGreatDoorFrP
namespace Go.Proofs.YtjcdnclfakmbpaaGreatDoor.C
open Go.RowKit
set_option maxRecDepth 100000 in
set_option maxHeartbeats 400000 in
theorem power_any (w : World) (k : Nat) (hk : k < 8) :
    Calls Tryz.prog 153 #[.int .i64 k] w fun e w' => e = .returned (.int .u32 (2 ^ k : Nat)) ∧ w' = w := by
  go_enter Tryz.func153, Tryz.ntmps153
  go_wp2
  go_loop [3, 4] (fun n i => ∃ (j N : Nat), j ≤ k ∧ i = .int .i64 j ∧ n = .int .u32 (N : Int) ∧ Hid (N = 2 ^ j) ∧ N ≤ 256) (fun _ i => k - (intOf i).toNat)
  case atStart => exact ⟨0, 1, Nat.zero_le _, rfl, rfl, rfl, by omega⟩
  case round =>
    obtain ⟨j, N, hj, rfl, rfl, HN, hN⟩ := hrel
    by_cases hlt : j < k
    · have HN2 : Hid (N * 2 = 2 ^ (j + 1)) := by show _ = _; rw [HN.out, Nat.pow_succ]
      have hN2 : N * 2 ≤ 256 := by
        rw [HN2.out]
        exact Nat.le_trans (Nat.pow_le_pow_right (by omega) (by omega : j + 1 ≤ 8)) (by omega)
      go_wp2
      go_round
      case rel => exact ⟨j + 1, N * 2, by omega, by go_num, by simp, HN2, hN2⟩
      case measure => simp [intOf]; omega
    · obtain rfl : j = k := by omega
      go_wp2
      go_ret
      exact ⟨ret_int (by rw [HN.out]; simp), rfl⟩
structure MirInv (n j N M : Nat) : Prop where
  lt : M < 2 ^ j
  eq : rv 32 n = 2 ^ (32 - j) * M + rv (32 - j) N
theorem MirInv.start (n : Nat) : MirInv n 0 n 0 := ⟨by simp, by simp⟩
theorem MirInv.small {n j N M : Nat} (h : MirInv n j N M) (hj : j < 32) : M < 2147483648 := Nat.lt_of_lt_of_le h.lt (Nat.le_trans (Nat.pow_le_pow_right (by omega) (by omega : j ≤ 31)) (by omega))
theorem MirInv.step {n j N M : Nat} (h : MirInv n j N M) (hj : j < 32) : MirInv n (j + 1) (N / 2) (M * 2 + N % 2) := by
  refine ⟨?_, ?_⟩
  · have := h.lt; rw [Nat.pow_succ]; omega
  · obtain ⟨q, hq⟩ : ∃ q, 32 - j = q + 1 := ⟨31 - j, by omega⟩
    have hq2 : 32 - (j + 1) = q := by omega
    rw [h.eq, hq, hq2, rv, Nat.pow_succ, Nat.mul_add, ← Nat.add_assoc, Nat.mul_assoc, Nat.mul_comm 2 M]
theorem MirInv.last {n N M : Nat} (h : MirInv n 32 N M) : M = rv 32 n := by
  have := h.eq
  rw [this]
  simp [rv]
set_option maxRecDepth 100000 in
set_option maxHeartbeats 400000 in
theorem mirrored_any (w : World) (n : Nat) (hn : n < 4294967296) :
    Calls Tryz.prog 154 #[.int .u32 n] w fun e w' => e = .returned (.int .u32 (rv 32 n : Nat)) ∧ w' = w := by
  go_enter Tryz.func154, Tryz.ntmps154
  go_wp2
  go_loop [0, 3, 4] (fun nn mm i => ∃ (j N M : Nat), j ≤ 32 ∧ i = .int .i64 j ∧ nn = .int .u32 (N : Int) ∧ mm = .int .u32 (M : Int) ∧ N < 4294967296 ∧ Hid (MirInv n j N M)) (fun _ _ i => 32 - (intOf i).toNat)
  case atStart => exact ⟨0, n, 0, Nat.zero_le _, rfl, rfl, rfl, hn, MirInv.start n⟩
  case round =>
    obtain ⟨j, N, M, hj, rfl, rfl, rfl, hN, HM⟩ := hrel
    by_cases hlt : j < 32
    · have hMb := HM.out.small hlt
      have HM2 := hide (HM.out.step hlt)
      have e1 : (M : Int) * 2 + (N : Int) % 2 = ((M * 2 + N % 2 : Nat) : Int) := by omega
      have e2 : (N : Int) / 2 = ((N / 2 : Nat) : Int) := by omega
      have b1 : M * 2 + N % 2 < 4294967296 := by omega
      have b2 : N / 2 < 4294967296 := by omega
      generalize M * 2 + N % 2 = M2 at *
      generalize N / 2 = N2 at *
      go_wp2
      go_round
      case rel => exact ⟨j + 1, N2, M2, by omega, by go_num, rfl, rfl, b2, HM2⟩
      case measure => simp [intOf]; omega
    · obtain rfl : j = 32 := by omega
      go_wp2
      go_ret
      exact ⟨ret_int (by rw [HM.out.last]), rfl⟩
structure SumInv (V M N : Nat) : Prop where
  lt : N < 4294967296
  eq : rv 32 N = far V M
theorem SumInv.start (V : Nat) : SumInv V 0 0 := ⟨by omega, by rw [far_zero]; decide⟩
theorem SumInv.step {V M N : Nat} (h : SumInv V M N) : SumInv V (M + 1) (shl1 N (V / 2 ^ M % 2)) :=
  ⟨shl1_lt _ _, by rw [rv_shl1 N _ h.lt (Nat.mod_lt _ (by omega)), far_step, h.eq]⟩
theorem shl_top (N z : Nat) (_hN : N < 4294967296) (hz : z < 2) (ht : N / 2147483648 = 1) : bits .xor .u32 ((N : Int) * 2 % 4294967296 + (z : Int)) 79764919 = ((shl1 N z : Nat) : Int) := by
  have e : (N : Int) * 2 % 4294967296 + (z : Int) = (((N * 2 + z) % 4294967296 : Nat) : Int) := by omega
  have := u32_xor_nat ((N * 2 + z) % 4294967296) 79764919 (by omega) (by omega)
  rw [show ((79764919 : Nat) : Int) = 79764919 from rfl] at this
  rw [e, this, shl1, if_pos ht]
theorem shl_low (N z : Nat) (_hN : N < 4294967296) (hz : z < 2) (ht : ¬ N / 2147483648 = 1) : (N : Int) * 2 + (z : Int) = ((shl1 N z : Nat) : Int) := by
  rw [shl1, if_neg ht]
  omega
set_option maxRecDepth 100000 in
set_option maxHeartbeats 2000000 in
theorem refsum_any (w : World) (sp : Option Addr) (len cap : Nat) (xs : List Nat) (hl : xs.length = len) (hB : Bytes w sp xs) (hlen : len ≤ 140737488351232) :
    Calls Tryz.prog 143 #[.slice sp len cap] w fun e w' => e = .returned (.int .u32 (sumOf xs : Nat)) ∧ ∃ m, w' = w.drewN m := by
  have HX := hide hB.small
  have HL := hide hl
  have HC : Hid (∀ j, j < len → ∃ g o, sp = some ⟨g, o, none⟩ ∧ w.cell? ⟨g, o + j, none⟩ = some (.int .u8 (xs.getD j 0))) := fun j hj => by
    rcases hB.lie with h | ⟨g, o, e, _, hc⟩
    · subst h; simp at hl; omega
    · exact ⟨g, o, e, hc j (by omega)⟩
  clear hl hB
  go_enter Tryz.func143, Tryz.ntmps143
  go_wp2
  go_loopw [3, 4] (fun r i wr => ∃ (a N q : Nat), a ≤ len + 4 ∧ i = .int .i64 a ∧ r = .int .u32 (N : Int) ∧ Hid (wr = w.drewN q) ∧ Hid (SumInv (docV xs) (8 * a) N)) (fun _ i _ => len + 4 - (intOf i).toNat)
  case atStart => exact ⟨0, 0, 0, Nat.zero_le _, rfl, rfl, rfl, SumInv.start _⟩
  case round =>
    obtain ⟨a, N0, q0, ha, rfl, rfl, HW0, HS0⟩ := hrel
    obtain ⟨wo, rfl⟩ : ∃ wo, wo = wr := ⟨_, rfl⟩
    by_cases hlt : a < len + 4
    · have l1 : (a : Int) < (len : Int) + 4 := by omega
      go_wp2
      go_loopw [3, 5] (fun r i wr => ∃ (b N q : Nat), b ≤ 8 ∧ i = .int .i64 b ∧ r = .int .u32 (N : Int) ∧ Hid (wr = w.drewN q) ∧ Hid (SumInv (docV xs) (8 * a + b) N)) (fun _ i _ => 8 - (intOf i).toNat)
      case atStart => exact ⟨0, N0, q0, Nat.zero_le _, rfl, rfl, HW0, HS0⟩
      case round =>
        obtain ⟨b, N, q, hb, rfl, rfl, HW, HS⟩ := hrel
        by_cases hb8 : b < 8
        · have HS2 := hide HS.out.step
          have HD := hide (doc_bit xs a b hb8 HX.out)
          have hN := HS.out.lt
          by_cases hal : a < len
          · obtain ⟨g, o, rfl, hca⟩ := HC.out a hal
            have hcx : wr.cell? ⟨g, o + a, none⟩ = some (.int .u8 (xs.getD a 0 : Nat)) := by rw [HW.out]; exact hca
            clear hca
            have hx : xs.getD a 0 < 256 := getD_small HX.out a
            generalize xs.getD a 0 = x at *
            have HP := hide (fun w => power_any w b hb8)
            have hp0 : 0 < 2 ^ b := Nat.two_pow_pos b
            generalize 2 ^ b = pb at *
            have l2 : (a : Int) < (len : Int) := by omega
            have l3 : (0 : Int) ≤ (a : Int) := by omega
            have l4 : ((pb : Int) == 0) = false := by simp; omega
            have hwx : IntKind.u32.wrap (x : Int) = (x : Int) := by rw [IntKind.wrap_u32]; omega
            have d0 : ¬ pb = 0 := by omega
            have d1 : (x : Int).tdiv (pb : Int) = ((x / pb : Nat) : Int) := rfl
            have hz2 : x / pb % 2 < 2 := Nat.mod_lt _ (by omega)
            have hy : x / pb < 256 := Nat.lt_of_le_of_lt (Nat.div_le_self _ _) hx
            have d3 : ((x / pb : Nat) : Int).tmod 2 = ((x / pb % 2 : Nat) : Int) := rfl
            have d4 : ((x / pb : Nat) : Int) % 2 = ((x / pb % 2 : Nat) : Int) := rfl
            generalize x / pb % 2 = z at *
            generalize x / pb = y at *
            have d2 : IntKind.u32.wrap (y : Int) = (y : Int) := by rw [IntKind.wrap_u32]; omega
            go_wp2
            go_quiet (first | (go_at_call 153; exact Calls.quiet_of_same (HP.out _)))
            obtain ⟨zz, hzz⟩ : ∃ zz, zz = docV xs / 2 ^ (8 * a + b) % 2 := ⟨_, rfl⟩
            rw [← hzz] at HD HS2
            have HW2 : Hid (wr.drewN nq = w.drewN (q + nq)) := by show _ = _; rw [HW.out, World.drewN_drewN]
            generalize hwn : wr.drewN nq = wn at *
            clear hzz HP HW hwn
            by_cases ha4 : a < 4
            · have hz3 : zz = 1 - z := by have := HD.out; rw [if_pos ha4] at this; exact this
              have f1 : (1 : Int) - (z : Int) = (zz : Int) := by omega
              have l5 : (a : Int) < 4 := by omega
              have hzl : zz < 2 := by omega
              clear hz3 HD
              by_cases ht : N / 2147483648 = 1
              · have f2 : ((N : Int) / 2147483648 == 1) = true := by simp; omega
                have f3 : (2147483648 : Int) ≤ (N : Int) := by omega
                go_wp2
                go_roundw
                case rel => exact ⟨b + 1, shl1 N zz, q + nq, by omega, by go_num, by rw [shl_top N zz hN hzl ht], HW2, HS2⟩
                case measure => simp [intOf]; omega
              · have f2 : ((N : Int) / 2147483648 == 1) = false := by simp; omega
                have f3 : (N : Int) < 2147483648 := by omega
                go_wp2
                go_roundw
                case rel => exact ⟨b + 1, shl1 N zz, q + nq, by omega, by go_num, by rw [shl_low N zz hN hzl ht], HW2, HS2⟩
                case measure => simp [intOf]; omega
            · obtain rfl : zz = z := by have := HD.out; rw [if_neg ha4] at this; exact this
              have l5 : ¬ (a : Int) < 4 := by omega
              have hzl : zz < 2 := by omega
              clear HD
              by_cases ht : N / 2147483648 = 1
              · have f2 : ((N : Int) / 2147483648 == 1) = true := by simp; omega
                have f3 : (2147483648 : Int) ≤ (N : Int) := by omega
                go_wp2
                go_roundw
                case rel => exact ⟨b + 1, shl1 N zz, q + nq, by omega, by go_num, by rw [shl_top N zz hN hzl ht], HW2, HS2⟩
                case measure => simp [intOf]; omega
              · have f2 : ((N : Int) / 2147483648 == 1) = false := by simp; omega
                have f3 : (N : Int) < 2147483648 := by omega
                go_wp2
                go_roundw
                case rel => exact ⟨b + 1, shl1 N zz, q + nq, by omega, by go_num, by rw [shl_low N zz hN hzl ht], HW2, HS2⟩
                case measure => simp [intOf]; omega
          · have l2 : ¬ (a : Int) < (len : Int) := by omega
            have hx0 : xs.getD a 0 = 0 := by rw [List.getD, List.getElem?_eq_none (by rw [HL.out]; omega)]; rfl
            rw [hx0, Nat.zero_div, Nat.zero_mod] at HD
            clear hx0
            by_cases ha4 : a < 4
            · have hz3 := HD.out
              rw [if_pos ha4] at hz3
              rw [hz3] at HS2
              have l5 : (a : Int) < 4 := by omega
              clear hz3 HD
              by_cases ht : N / 2147483648 = 1
              · have f2 : ((N : Int) / 2147483648 == 1) = true := by simp; omega
                have f3 : (2147483648 : Int) ≤ (N : Int) := by omega
                go_wp2
                go_roundw
                case rel => exact ⟨b + 1, shl1 N 1, q, by omega, by go_num, by rw [← shl_top N 1 hN (by omega) ht]; simp, HW, HS2⟩
                case measure => simp [intOf]; omega
              · have f2 : ((N : Int) / 2147483648 == 1) = false := by simp; omega
                have G1 : Hid ((N : Int) * 2 % 4294967296 + 1 = ((shl1 N 1 : Nat) : Int)) := by show _ = _; rw [← shl_low N 1 hN (by omega) ht]; simp; omega
                clear ht
                generalize shl1 N 1 = S at *
                go_wp2
                go_roundw
                case rel => exact ⟨b + 1, S, q, by omega, by go_num, by rw [G1.out], HW, HS2⟩
                case measure => simp [intOf]; omega
            · have hz3 := HD.out
              rw [if_neg ha4] at hz3
              rw [hz3] at HS2
              have l5 : ¬ (a : Int) < 4 := by omega
              clear hz3 HD
              by_cases ht : N / 2147483648 = 1
              · have f2 : ((N : Int) / 2147483648 == 1) = true := by simp; omega
                have f3 : (2147483648 : Int) ≤ (N : Int) := by omega
                go_wp2
                go_roundw
                case rel => exact ⟨b + 1, shl1 N 0, q, by omega, by go_num, by rw [← shl_top N 0 hN (by omega) ht]; simp, HW, HS2⟩
                case measure => simp [intOf]; omega
              · have f2 : ((N : Int) / 2147483648 == 1) = false := by simp; omega
                have G1 : Hid ((N : Int) * 2 % 4294967296 = ((shl1 N 0 : Nat) : Int)) := by show _ = _; rw [← shl_low N 0 hN (by omega) ht]; simp; omega
                clear ht
                generalize shl1 N 0 = S at *
                go_wp2
                go_roundw
                case rel => exact ⟨b + 1, S, q, by omega, by go_num, by rw [G1.out], HW, HS2⟩
                case measure => simp [intOf]; omega
        · obtain rfl : b = 8 := by omega
          have HS8 : Hid (SumInv (docV xs) (8 * (a + 1)) N) := by have := HS.out; rw [show 8 * a + 8 = 8 * (a + 1) by omega] at this; exact this
          go_wp2
          go_roundw
          case rel => exact ⟨a + 1, N, q, by omega, by go_num, rfl, HW, HS8⟩
          case measure => simp [intOf]; omega
    · obtain rfl : a = len + 4 := by omega
      have HE : Hid (rv 32 N0 = reg xs) := by
        have e := HS0.out.eq
        rw [show 8 * (len + 4) = 32 + 8 * xs.length by rw [HL.out]; omega, doc_end xs HX.out] at e
        exact e
      have hN := HS0.out.lt
      have HR := hide (reg_lt xs HX.out)
      have HM : Hid (∀ w : World, Calls Tryz.prog 154 #[.int .u32 N0] w fun e w' => e = .returned (.int .u32 (reg xs : Nat)) ∧ w' = w) := fun w => by
        have := mirrored_any w N0 hN
        rw [HE.out] at this
        exact this
      clear HE HS0
      go_wp2_with fail
      refine (HM.out _).mono ?_
      rintro e w2 ⟨rfl, rfl⟩
      go_wp2
      go_ret
      refine ⟨?_, q0, HW0.out⟩
      have e : bits .xor .u32 IntKind.u32.max ((reg xs : Nat) : Int) = ((4294967295 ^^^ reg xs : Nat) : Int) := u32_xor_nat 4294967295 _ (by omega) HR.out
      simp only [e]
      rfl
end Go.Proofs.YtjcdnclfakmbpaaGreatDoor.C
namespace Go.Proofs.YtjcdnclfakmbpaaGreatDoor.V
open Go.RowKit Go.Proofs.YtjcdnclfakmbpaaGreatDoor.U Go.Proofs.YtjcdnclfakmbpaaGreatDoor.Q
theorem Z.cell {w : World} {N b : Nat} {F : Nat → Prop} {X : Rv} {L M : Value} {A turn done used turn' done' used' : Nat} {ks rs : List Kl} (h : Z w N F b X L M A turn done used ks rs) (i : Nat) (v : Value) (he : (bkCells X L M A turn done used).setIfInBounds i v = bkCells X L M A turn' done' used') : Z (w.setCell ⟨b, i, none⟩ v) N F b X L M A turn' done' used' ks rs := by
  have hs : ∀ j, j ≠ b → (w.setCell ⟨b, i, none⟩ v).heap[j]? = w.heap[j]? := fun j hj => Below.heap_setCell _ _ _ _ hj
  have hr : ∀ {z0 : Bool} {B0 n : Nat} {ty : TypeId} {u : Value} {xs : List Value}, ownsQ z0 w B0 ty 1 u n xs → 70 ≠ ty → ∀ g, u.ownBlock = some g → (w.setCell ⟨b, i, none⟩ v).heap[g]? = w.heap[g]? := fun hv ht g e => hs g (fun e' => owns_ne hv h.bk.blk ht (by rw [e, e']))
  refine ⟨⟨by rw [block_set h.bk.blk, he], owns_kept' h.bk.ls (hr h.bk.ls (by decide)), owns_kept' h.bk.ms (hr h.bk.ms (by decide)), fun x hx => owns_kept' (h.bk.rows x hx) (hr (h.bk.rows x hx) (by decide)), h.bk.num, h.bk.most, h.bk.one⟩, ⟨owns_kept' h.rz.ls (hr h.rz.ls (by decide)), owns_kept' h.rz.ms (hr h.rz.ms (by decide)), fun x hx => ?_, h.rz.num, h.rz.most, h.rz.one⟩, h.lr, h.mo, h.km⟩
  exact (h.rz.rows x hx).keep (fun g e => hs g (fun e' => rwm_ne (h.rz.rows x hx) h.bk.blk (by decide) (by rw [e, e']))) (fun g cur _ hb => hs g (fun e => by subst e; rw [h.bk.blk] at hb; simp at hb)) (fun _ e => e)
theorem Z.other {w w' : World} {N b n : Nat} {F : Nat → Prop} {X : Rv} {L M v : Value} {A turn done used : Nat} {ks rs : List Kl} {xs : List Value} (h : Z w N F b X L M A turn done used ks rs) (hv : ownsQ false w N 31 1 v n xs) (k : Kept (fun i => some i = v.ownBlock) w w') (hL : ∀ g, v.ownBlock = some g → L.ownBlock ≠ some g) (hr : ∀ x ∈ rs, ∀ g, x.val.ownBlock = some g → v.ownBlock ≠ some g) : Z w' N F b X L M A turn done used ks rs :=
  ⟨h.bk.keep k (fun e => owns_ne hv h.bk.blk (by decide) e.symm) (fun g e e' => hL g e'.symm e) (fun g e e' => rows_far0 hv h.bk.ms (by decide) g e'.symm e) (fun x hx g e e' => rows_far0 hv (h.bk.rows x hx) (by decide) g e'.symm e), h.rz.keep k (fun g e e' => rows_far0 hv h.rz.ls (by decide) g e'.symm e) (fun g e e' => rows_far0 hv h.rz.ms (by decide) g e'.symm e) (fun x hx g e e' => hr x hx g e e'.symm) (fun g cur _ hb e => owns_ne hv hb (by decide) e.symm), h.lr, h.mo, h.km⟩
theorem Z.below {w w' : World} {N b : Nat} {F : Nat → Prop} {X : Rv} {L M : Value} {A turn done used : Nat} {ks rs : List Kl} (h : Z w N F b X L M A turn done used ks rs) (hb : Below w.heap.size w w') : Z w' N F b X L M A turn done used ks rs :=
  ⟨h.bk.keep (S := fun _ => False) (kept_below hb) (fun e => e) (fun _ _ e => e) (fun _ _ e => e) (fun _ _ _ _ e => e), h.rz.keep (S := fun _ => False) (kept_below hb) (fun _ _ e => e) (fun _ _ e => e) (fun _ _ _ _ e => e) (fun _ _ _ _ e => e), h.lr, h.mo, h.km⟩
theorem Z.wide {w : World} {N b : Nat} {F F' : Nat → Prop} {X : Rv} {L M : Value} {A turn done used : Nat} {ks rs : List Kl} (h : Z w N F b X L M A turn done used ks rs) (hF : ∀ g, F g → F' g) (hk : ∀ k ∈ ks, ∀ g, k.val.ownBlock = some g → ¬ F' g) : Z w N F' b X L M A turn done used ks rs := ⟨h.bk, h.rz.wide hF, h.lr, h.mo, hk⟩
theorem rep_mid {x : Value} {i : Nat} {vs : List Value} (h : i < vs.length) : (List.replicate i x ++ vs.drop i).set i x = List.replicate (i + 1) x ++ vs.drop (i + 1) := by
  apply List.ext_getElem?
  intro j
  rw [List.getElem?_set]
  by_cases e : i = j
  · subst e
    rw [if_pos rfl, if_pos (by simp; omega), List.getElem?_append_left (by simp)]
    simp
  · rw [if_neg e]
    by_cases hj : j < i
    · rw [List.getElem?_append_left (by simpa using hj), List.getElem?_append_left (by simp; omega)]
      simp [hj, show j < i + 1 by omega]
    · rw [List.getElem?_append_right (by simp; omega), List.getElem?_append_right (by simp; omega), List.getElem?_drop, List.getElem?_drop]
      congr 1
      simp; omega
def RS (b : Nat) (X : Rv) (L M v : Value) (vs : List Value) (i : Nat) : Prop := i = b ∨ some i = L.ownBlock ∨ some i = M.ownBlock ∨ some i = X.r.ownBlock ∨ some i = X.o.ownBlock ∨ some i = v.ownBlock ∨ ∃ u ∈ vs, some i = u.ownBlock
def RS1 (b : Nat) (L M : Value) (vs : List Value) (n : Nat) (i : Nat) : Prop := i = b ∨ some i = L.ownBlock ∨ some i = M.ownBlock ∨ ∃ j u, j < n ∧ vs[j]? = some u ∧ some i = u.ownBlock
structure Rl (w : World) (L M : Value) (ks : List Kl) (vs : List Value) (wr : World) (N b : Nat) (F : Nat → Prop) (X : Rv) (L1 M1 : Value) (A turn done used1 : Nat) (ks1 rs : List Kl) (i : Nat) : Prop where
  z : Z wr N F b X L1 M1 A turn done used1 ks1 rs
  us : used1 ≤ 16777216
  len : ks1.length ≤ ks.length + i
  mem : ∀ x ∈ ks1, x ∈ ks ∨ ∃ j u, j < i ∧ vs[j]? = some u ∧ x.val = u ∧ x.l ≤ 16777216
  lo : L1.ownBlock = L.ownBlock ∨ ∃ g, L1.ownBlock = some g ∧ w.heap.size ≤ g
  mo : M1.ownBlock = M.ownBlock ∨ ∃ g, M1.ownBlock = some g ∧ w.heap.size ≤ g
  kept : Kept (RS1 b L M vs i) w wr
theorem lies_more {w wr : World} {L L1 L2 : Value} (hs : w.heap.size ≤ wr.heap.size) (h1 : L1.ownBlock = L.ownBlock ∨ ∃ g, L1.ownBlock = some g ∧ w.heap.size ≤ g) (h2 : L2.ownBlock = L1.ownBlock ∨ ∃ g, L2.ownBlock = some g ∧ wr.heap.size ≤ g) : L2.ownBlock = L.ownBlock ∨ ∃ g, L2.ownBlock = some g ∧ w.heap.size ≤ g := by
  rcases h2 with e | ⟨g, e, hg⟩
  · rw [e]; exact h1
  · exact Or.inr ⟨g, e, by omega⟩
structure RwPost (w : World) (L M : Value) (ks rs : List Kl) (vs : List Value) (X : Rv) (v : Value) (q : Nat) (w' : World) (N b : Nat) (F : Nat → Prop) (gx : Nat) (X' : Rv) (L' M' : Value) (A turn done used' : Nat) (ks' rs' : List Kl) : Prop where
  z : Z w' N (fun g => F g ∨ g = gx) b X' L' M' A turn done used' ks' rs'
  gw : w.heap.size ≤ gx
  gb : ∃ cur, w'.heap[gx]? = some (.cells cur 5 (0, 0))
  us : used' ≤ 16777216
  ax : X'.a = X.a
  len : ks'.length ≤ ks.length + q
  mem : ∀ x ∈ ks', x ∈ ks ∨ (x.val ∈ vs ∧ x.l ≤ 16777216)
  rl : rs'.length ≤ rs.length + 1
  rm : ∀ x ∈ rs', x ∈ rs ∨ (x.val = v ∧ x.l = q)
  lo : L'.ownBlock = L.ownBlock ∨ ∃ g, L'.ownBlock = some g ∧ w.heap.size ≤ g
  mo : M'.ownBlock = M.ownBlock ∨ ∃ g, M'.ownBlock = some g ∧ w.heap.size ≤ g
  ro : X'.r.ownBlock = X.r.ownBlock ∨ ∃ g, X'.r.ownBlock = some g ∧ w.heap.size ≤ g
  oo : X'.o.ownBlock = X.o.ownBlock ∨ ∃ g, X'.o.ownBlock = some g ∧ w.heap.size ≤ g
  kept : Kept (RS b X L M v vs) w w'
set_option maxRecDepth 100000 in
set_option maxHeartbeats 4000000 in
theorem bz_rows (w : World) (N b : Nat) (F : Nat → Prop) (X : Rv) (L M : Value) (A turn done used : Nat) (ks rs : List Kl) (a : Option Addr) (q c : Nat) (vs : List Value) (h : Z w N F b X L M A turn done used ks rs)
    (hrow : ownsQ false w N 31 1 (.slice a q c) q vs)
    (hel : ∀ (i : Nat) (u : Value), vs[i]? = some u → ∃ sp l cc ys, u = .slice sp l cc ∧ ownsQ true w N 5 1 (.slice sp l cc) l (vals ys) ∧ l ≤ 140737488355328)
    (hdis : ∀ (i j : Nat) (u v : Value), i < j → vs[i]? = some u → vs[j]? = some v → Far v u) (hfk : ∀ k ∈ ks, ∀ v ∈ vs, Far v k.val) (hvF : ∀ v ∈ vs, ∀ g, v.ownBlock = some g → ¬ F g)
    (hrL : ∀ g, (Value.slice a q c).ownBlock = some g → L.ownBlock ≠ some g) (hrr : ∀ k ∈ rs, ∀ g, k.val.ownBlock = some g → (Value.slice a q c).ownBlock ≠ some g)
    (hN : N ≤ w.heap.size) (ht : turn + q + 1 ≤ 100000000) (hq : q ≤ 1000) (hu : used ≤ 16777216) (hks : ks.length + q + 1 ≤ 100000000) (hrs : rs.length + 1 ≤ 100000000) (hFl : ∀ g, F g → g < w.heap.size) :
    Calls Tryz.prog 63 #[.pointer (some ⟨b, 0, none⟩), .slice a q c] w fun e w' => e = .returned (.tuple #[]) ∧ ∃ gx X' L' M' used' ks' rs', RwPost w L M ks rs vs X (.slice a q c) q w' N b F gx X' L' M' A (turn + q + 1) done used' ks' rs' := by
  obtain ⟨i1, hi1, hz10, hz11, hz12⟩ := info_parts Tryz.infoRw
  obtain ⟨i2, hi2, hz20, hz21, hz22⟩ := info_parts Tryz.infoIn
  have HRow := hide hrow
  have HEl := hide hel
  have HDis := hide hdis
  have HFk := hide hfk
  have HVF := hide hvF
  have HRL := hide hrL
  have HRR := hide hrr
  have HFl := hide hFl
  have hvl : vs.length = q := by have := hrow.1; omega
  have HVl := hide hvl
  have HR0 : Hid (Rl w L M ks vs w N b F X L M A turn done used ks rs 0) := ⟨h, hu, by omega, fun x hx => Or.inl hx, Or.inl rfl, Or.inl rfl, Kept.refl _ _⟩
  have HLt := hide (owns_lt h.bk.ls)
  have HBb := hide h.bk.blk
  have HMs := hide h.bk.ms
  have HXl := hide h.rz.ls
  have HXm := hide h.rz.ms
  -- the row, as long as the lists alone turn
  have HRk : Hid (∀ n wr, Kept (RS1 b L M vs n) w wr → ownsQ false wr N 31 1 (.slice a q c) q vs) := fun n wr k => owns_kept' hrow (fun g e => k.block g (owns_lt hrow g e) (by
    rintro (e' | e' | e' | ⟨j, u, _, hj, e'⟩)
    · subst e'; exact owns_ne hrow h.bk.blk (by decide) e
    · exact hrL g e e'.symm
    · exact rows_far0 hrow h.bk.ms (by decide) g e e'.symm
    · obtain ⟨sp, l, cc, ys, rfl, ho, _⟩ := hel j u hj
      exact rows_far0 hrow ho (by decide) g e e'.symm))
  have HLk : Hid (∀ n wr, Kept (RS1 b L M vs n) w wr → ∀ sp l cc ys, n ≤ q → vs[n]? = some (.slice sp l cc) → ownsQ true w N 5 1 (.slice sp l cc) l (vals ys) → ownsQ true wr N 5 1 (.slice sp l cc) l (vals ys)) := fun n wr k sp l cc ys _ hv ho => owns_kept' ho (fun g e => k.block g (owns_lt ho g e) (by
    rintro (e' | e' | e' | ⟨j, u, hj, hju, e'⟩)
    · subst e'; exact owns_ne ho h.bk.blk (by decide) e
    · exact rows_far0 ho h.bk.ls (by decide) g e e'.symm
    · exact rows_far0 ho h.bk.ms (by decide) g e e'.symm
    · exact hdis j n u _ hj hju hv g e e'.symm))
  clear h hrow hel hdis hfk hvF hrL hrr hFl hvl hu
  go_enter Tryz.func63, Tryz.ntmps63
  go_wp2_with fail
  go_loopw [4] (fun s4 wr => ∃ (i : Nat) (L1 M1 : Value) (used1 : Nat) (ks1 : List Kl), i ≤ q ∧ s4 = .int .i64 i ∧ Hid (Rl w L M ks vs wr N b F X L1 M1 A (turn + i) done used1 ks1 rs i)) (fun s4 _ => q - (intOf s4).toNat)
  case atStart => exact ⟨0, L, M, used, ks, Nat.zero_le _, rfl, HR0⟩
  case round =>
    clear HR0
    obtain ⟨i, L1, M1, used1, ks1, hi, rfl, HR⟩ := hrel
    have i0 : (0 : Int) ≤ (i : Int) := by omega
    by_cases hlt : i < q
    · have i1' : (i : Int) < (q : Int) := by omega
      obtain ⟨u, hu⟩ : ∃ u, vs[i]? = some u := ⟨_, List.getElem?_eq_getElem (by rw [HVl.out]; exact hlt)⟩
      obtain ⟨sp, l, cc, ys, rfl, ho, hl9⟩ := HEl.out i u hu
      obtain ⟨g, c9, hg, hcell⟩ := row_cell (HRk.out i wr HR.out.kept) (k := i) hu
      cases hg
      have ho1 := HLk.out i wr HR.out.kept sp l cc ys hi hu ho
      have HB := hide (bz_bytes wr N b F X L1 M1 A (turn + i) done used1 ks1 rs sp l cc ys HR.out.z ho1 (fun x hx => by
        rcases HR.out.mem x hx with e | ⟨j, u', hj, hju, e, _⟩
        · exact HFk.out x e _ (List.mem_of_getElem? hu)
        · rw [e]; exact HDis.out j i u' _ hj hju hu) (HVF.out _ (List.mem_of_getElem? hu)) (Nat.le_trans hN HR.out.kept.size) (by omega) hl9 HR.out.us (by have := HR.out.len; omega))
      have HU := hide hu
      clear ho ho1 hu
      go_wp2_with fail
      refine HB.out.mono ?_
      rintro e w2 ⟨rfl, L2, M2, used2, ks2, hz, hu2, hk2, hkp, hL2, hM2⟩
      have HR2 : Hid (Rl w L M ks vs w2 N b F X L2 M2 A (turn + (i + 1)) done used2 ks2 rs (i + 1)) := by
        refine ⟨hz, hu2, ?_, fun x hx => ?_, lies_more HR.out.kept.size HR.out.lo hL2, lies_more HR.out.kept.size HR.out.mo hM2, ?_⟩
        · have := HR.out.len
          rcases hk2 with rfl | ⟨rfl, _⟩
          · omega
          · simp; omega
        · have hold : ∀ x ∈ ks1, x ∈ ks ∨ ∃ j u, j < i + 1 ∧ vs[j]? = some u ∧ x.val = u ∧ x.l ≤ 16777216 := fun x hx => (HR.out.mem x hx).imp id (fun ⟨j, u, hj, r⟩ => ⟨j, u, by omega, r⟩)
          rcases hk2 with rfl | ⟨rfl, hsm⟩
          · exact hold x hx
          · rcases List.mem_append.1 hx with h' | h'
            · exact hold x h'
            · simp at h'; subst h'
              exact Or.inr ⟨i, _, by omega, HU.out, rfl, hsm⟩
        · have hk1 : Kept (RS1 b L M vs (i + 1)) w wr := (Kept.refl _ _).trans HR.out.kept (fun j e => Or.inl (e.imp id (fun e => e.imp id (fun e => e.imp id (fun ⟨j', u', hj, r⟩ => ⟨j', u', by omega, r⟩)))))
          refine hk1.trans hkp (fun j e => ?_)
          rcases e with e | e | e | e
          · exact Or.inl (Or.inl e)
          · rcases lies_lt HR.out.lo j e.symm with q' | q'
            · exact Or.inl (Or.inr (Or.inl q'.symm))
            · exact Or.inr q'
          · rcases lies_lt HR.out.mo j e.symm with q' | q'
            · exact Or.inl (Or.inr (Or.inr (Or.inl q'.symm)))
            · exact Or.inr q'
          · exact Or.inl (Or.inr (Or.inr (Or.inr ⟨i, _, by omega, HU.out, e⟩)))
      clear hz hu2 hk2 hkp hL2 hM2 HB HR
      go_wp2
      go_roundw
      case rel => exact ⟨i + 1, L2, M2, used2, ks2, by omega, by go_num, HR2⟩
      case measure => simp [intOf]; omega
    · have hiq : i = q := by omega
      have i1' : ¬ (i : Int) < (q : Int) := by omega
      have HRq := HR
      rw [hiq] at HRq
      clear HR
      have c54 := bk_cell HRq.out.z.bk.blk 54 (.int .i64 ((turn + q : Nat) : Int)) rfl
      have cf := bk_thaw HRq.out.z.bk.blk
      have htn : ((turn + q : Nat) : Int) + 1 = ((turn + q + 1 : Nat) : Int) := by omega
      have HZ1 := hide (HRq.out.z.cell (turn' := turn + q + 1) (done' := done) (used' := used1) 54 (.int .i64 ((turn + q + 1 : Nat) : Int)) rfl)
      obtain ⟨m, hm⟩ : ∃ m, turn + q + 1 = m := ⟨_, rfl⟩
      obtain ⟨m0, hm0⟩ : ∃ m0, turn + q = m0 := ⟨_, rfl⟩
      rw [hm] at HZ1 htn ht
      have HM := hide hm
      rw [hm0] at c54 htn
      have hm1 : m0 ≤ 100000000 := by omega
      have HA0 := hide (fun w => at_mark w m 0 (by omega) (by omega))
      have HA1 := hide (fun w => at_mark w m 1 (by omega) (by omega))
      have HRow1 : Hid (ownsQ false (wr.setCell ⟨b, 54, none⟩ (.int .i64 (m : Int))) N 31 1 (.slice a q c) q vs) := owns_kept' (HRk.out q wr HRq.out.kept) (fun g e => Below.heap_setCell _ _ _ _ (fun e' => owns_ne (HRk.out q wr HRq.out.kept) HRq.out.z.bk.blk (by decide) (by rw [e, e'])))
      have HK1 : Hid (Kept (RS1 b L M vs q) w (wr.setCell ⟨b, 54, none⟩ (.int .i64 (m : Int)))) := HRq.out.kept.trans (kept_but ((But.refl b wr).setCell (p := ⟨b, 54, none⟩) (Or.inl rfl) _)) (fun i e => Or.inl (Or.inl e))
      clear hm hm0 hiq
      go_wp2_with fail
      generalize wr.setCell ⟨b, 54, none⟩ (.int .i64 (m : Int)) = w1 at *
      clear c54 cf
      refine (HA0.out _).mono ?_
      rintro e wx ⟨rfl, rfl⟩
      go_wp2_with fail
      refine (HA1.out _).mono ?_
      rintro e wx ⟨rfl, rfl⟩
      obtain ⟨gx, hgx⟩ : ∃ gx, wx.heap.size = gx := ⟨_, rfl⟩
      obtain ⟨wm, hwm⟩ : ∃ wm, wx.alloc (.cells #[.int .u8 (mkB m 0 : Nat), .int .u8 (mkB m 1 : Nat)] 5) = wm := ⟨_, rfl⟩
      have hbm : Below wx.heap.size wx wm := by rw [← hwm]; exact (Below.refl _ _).alloc (Nat.le_refl _) _
      have HMk : Hid (Mrk wm (fun g => F g ∨ g = gx) m (.slice (some ⟨gx, 0, none⟩) 2 2)) := ⟨gx, rfl, Or.inr rfl, by rw [← hwm, ← hgx]; exact heap_alloc_new _ _⟩
      have HZ2 : Hid (Z wm N (fun g => F g ∨ g = gx) b X L1 M1 A m done used1 ks1 rs) := (HZ1.out.below hbm).wide (fun g e => Or.inl e) (fun k hk g e hf => by
        rcases hf with hf | hf
        · exact HZ1.out.km k hk g e hf
        · have := owns_lt (HZ1.out.bk.rows k hk) g e; omega)
      have HRow2 : Hid (ownsQ false wm N 31 1 (.slice a q c) q vs) := owns_kept' HRow1.out (fun g e => hbm.block g (owns_lt HRow1.out g e))
      have HK2 : Hid (Kept (fun i => RS1 b L M vs q i ∨ some i = (Value.slice a q c).ownBlock) w wm) := ((Kept.refl _ _).trans HK1.out (fun i e => Or.inl (Or.inl e))).trans (kept_below (S := fun _ => False) hbm) (fun _ e => e.elim)
      have HGx : Hid (w.heap.size ≤ gx) := by have := HK1.out.size; show _ ≤ _; omega
      have HWm := hide hwm
      have HSd : Hid ((Rl w L M ks vs wr N b F X L1 M1 A (turn + q) done used1 ks1 rs q)) := HRq
      clear hwm hbm HZ1 HRow1 HK1 HA0 HA1 HRq
      have HL1 : Hid (∀ g, (Value.slice a q c).ownBlock = some g → L1.ownBlock ≠ some g) := fun g e e' => by
        rcases lies_lt HSd.out.lo g e' with q' | q'
        · exact HRL.out g e q'
        · have := owns_lt HRow.out g e; omega
      go_wp2_with fail
      have hgx2 : wx.alloc (.cells #[.int .u8 (mkB m 0 : Nat), .int .u8 (mkB m 1 : Nat)] 5) = wm := HWm.out
      rw [hgx2]
      clear hgx hgx2 HWm
      go_loopw [7] (fun s7 wr => ∃ i : Nat, i ≤ q ∧ s7 = .int .i64 i ∧ Hid (Z wr N (fun g => F g ∨ g = gx) b X L1 M1 A m done used1 ks1 rs) ∧ Hid (ownsQ false wr N 31 1 (.slice a q c) q (List.replicate i (.slice (some ⟨gx, 0, none⟩) 2 2) ++ vs.drop i)) ∧ Hid (Kept (fun i => RS1 b L M vs q i ∨ some i = (Value.slice a q c).ownBlock) w wr) ∧ Hid (Mrk wr (fun g => F g ∨ g = gx) m (.slice (some ⟨gx, 0, none⟩) 2 2))) (fun s7 _ => q - (intOf s7).toNat)
      case atStart => exact ⟨0, Nat.zero_le _, rfl, HZ2, by simpa using HRow2, HK2, HMk⟩
      case round =>
        clear HZ2 HRow2 HK2 HMk
        obtain ⟨i, hi, rfl, HZ, HRo, HK, HMk⟩ := hrel
        have i0 : (0 : Int) ≤ (i : Int) := by omega
        by_cases hlt : i < q
        · have i1' : (i : Int) < (q : Int) := by omega
          have hvi : (List.replicate i (Value.slice (some ⟨gx, 0, none⟩) 2 2) ++ vs.drop i)[i]? = some (vs[i]'(by rw [HVl.out]; exact hlt)) := by
            rw [List.getElem?_append_right (by simp), List.getElem?_drop]
            simp
          obtain ⟨g, c9, hg, _⟩ := row_cell HRo.out (k := i) hvi
          cases hg
          obtain ⟨q0, qf⟩ := owns_cell HRo.out (k := i) _ hvi
          have hrb : g < wr.heap.size := owns_lt HRo.out g rfl
          have HB : Hid (But g wr (wr.setCell ⟨g, i, none⟩ (.slice (some ⟨gx, 0, none⟩) 2 2))) := (But.refl g wr).setCell (p := ⟨g, i, none⟩) (Or.inl rfl) _
          have HKg : Hid (Kept (fun i => some i = (Value.slice (some ⟨g, 0, none⟩) q c).ownBlock) wr (wr.setCell ⟨g, i, none⟩ (.slice (some ⟨gx, 0, none⟩) 2 2))) := (Kept.refl _ _).trans (kept_but HB.out) (fun j e => Or.inl (by rw [e]; rfl))
          have HZ3 := hide (HZ.out.other HRo.out HKg.out HL1.out (fun x hx g e => HRR.out x hx g e))
          have HRo3 : Hid (ownsQ false (wr.setCell ⟨g, i, none⟩ (.slice (some ⟨gx, 0, none⟩) 2 2)) N 31 1 (.slice (some ⟨g, 0, none⟩) q c) q (List.replicate (i + 1) (.slice (some ⟨gx, 0, none⟩) 2 2) ++ vs.drop (i + 1))) := by
            have := owns_set HRo.out hlt (.slice (some ⟨gx, 0, none⟩) 2 2)
            rw [rep_mid (by rw [HVl.out]; exact hlt)] at this
            exact this
          have HK3 : Hid (Kept (fun i => RS1 b L M vs q i ∨ some i = (Value.slice (some ⟨g, 0, none⟩) q c).ownBlock) w (wr.setCell ⟨g, i, none⟩ (.slice (some ⟨gx, 0, none⟩) 2 2))) := HK.out.trans HKg.out (fun j e => Or.inl (Or.inr e))
          have HMk3 : Hid (Mrk (wr.setCell ⟨g, i, none⟩ (.slice (some ⟨gx, 0, none⟩) 2 2)) (fun g => F g ∨ g = gx) m (.slice (some ⟨gx, 0, none⟩) 2 2)) := HMk.out.keep (fun g' cur _ hb => Below.heap_setCell _ _ _ _ (fun e => by subst e; exact owns_ne HRo.out hb (by decide) rfl)) (fun _ e => e)
          generalize vs[i]'(by rw [HVl.out]; exact hlt) = x9 at *
          clear hvi
          go_wp2
          go_roundw
          case rel => exact ⟨i + 1, by omega, by go_num, HZ3, HRo3, HK3, HMk3⟩
          case measure => simp [intOf]; omega
        · have hiq : i = q := by omega
          have i1' : ¬ (i : Int) < (q : Int) := by omega
          have HRm : Hid (Rwm wr N (fun g => F g ∨ g = gx) m (.slice a q c) q) := by
            have h1 := HRo.out
            rw [hiq, List.drop_of_length_le (by rw [HVl.out]; exact Nat.le_refl _), List.append_nil] at h1
            exact ⟨_, h1, fun u hu => by rw [List.eq_of_mem_replicate hu]; exact HMk.out⟩
          have HGl : Hid (∃ cur, wr.heap[gx]? = some (.cells cur 5 (0, 0))) := by
            obtain ⟨g, e, _, hb⟩ := HMk.out
            cases e
            exact ⟨_, hb⟩
          clear HRo HMk hiq
          have hmul : (72 : Int) * (q : Int) = ((72 * q : Nat) : Int) := by omega
          have hadd : (2400 : Int) + ((72 * q : Nat) : Int) = ((2400 + 72 * q : Nat) : Int) := by omega
          have hsz : 2400 + 72 * q ≤ 1000000000000000 := by omega
          have hsz2 : 72 * q ≤ 1000000000000000 := by omega
          have HC0 := hide (bk_tight wr b L1 M1 A m done used1 (2400 + 72 * q) HSd.out.us hsz HZ.out.bk.blk)
          have hus := HSd.out.us
          generalize 2400 + 72 * q = sz at *
          generalize 72 * q = s3 at *
          have HMem : Hid (∀ x ∈ ks1, x ∈ ks ∨ (x.val ∈ vs ∧ x.l ≤ 16777216)) := fun x hx => (HSd.out.mem x hx).imp id (fun ⟨j, u, _, hj, e, hl⟩ => ⟨by rw [e]; exact List.mem_of_getElem? hj, hl⟩)
          have HKf : Hid (Kept (RS b X L M (.slice a q c) vs) w wr) := (Kept.refl _ _).trans HK.out (fun i e => Or.inl (by
            rcases e with (e | e | e | ⟨j, u, _, hj, e⟩) | e
            · exact Or.inl e
            · exact Or.inr (Or.inl e)
            · exact Or.inr (Or.inr (Or.inl e))
            · exact Or.inr (Or.inr (Or.inr (Or.inr (Or.inr (Or.inr ⟨u, List.mem_of_getElem? hj, e⟩)))))
            · exact Or.inr (Or.inr (Or.inr (Or.inr (Or.inr (Or.inl e)))))))
          go_wp2_with fail
          refine HC0.out.mono ?_
          rintro e w2 (⟨ht1, rfl, rfl⟩ | ⟨ht1, rfl, rfl⟩)
          · go_wp2
            exact bodyPost_ret (v := .tuple #[]) (by simp [results, Tryz.results63, go_sem]) rfl ⟨rfl, gx, X, L1, M1, used1, ks1, rs, by rw [HM.out]; exact ⟨HZ.out, HGx.out, HGl.out, hus, rfl, HSd.out.len, HMem.out, by omega, fun x hx => Or.inl hx, HSd.out.lo, HSd.out.mo, Or.inl rfl, Or.inl rfl, HKf.out⟩⟩
          · have HZ4 := hide (HZ.out.cell (turn' := m) (done' := done) (used' := used1 + sz) 56 (.int .i64 ((used1 + sz : Nat) : Int)) rfl)
            have HRm4 : Hid (Rwm (wr.setCell ⟨b, 56, none⟩ (.int .i64 ((used1 + sz : Nat) : Int))) N (fun g => F g ∨ g = gx) m (.slice a q c) q) := HRm.out.keep (fun g e => Below.heap_setCell _ _ _ _ (fun e' => rwm_ne HRm.out HZ.out.bk.blk (by decide) (by rw [e, e']))) (fun g cur _ hb => Below.heap_setCell _ _ _ _ (fun e => by subst e; have hbb := HZ.out.bk.blk; rw [hb] at hbb; simp at hbb)) (fun _ e => e)
            have HKf4 : Hid (Kept (RS b X L M (.slice a q c) vs) w (wr.setCell ⟨b, 56, none⟩ (.int .i64 ((used1 + sz : Nat) : Int)))) := HKf.out.trans (kept_but ((But.refl b wr).setCell (p := ⟨b, 56, none⟩) (Or.inl rfl) _)) (fun i e => Or.inl (Or.inl e))
            have hu2 : used1 + sz ≤ 16777216 := by omega
            have HS4 : Hid (w.heap.size ≤ (wr.setCell ⟨b, 56, none⟩ (.int .i64 ((used1 + sz : Nat) : Int))).heap.size) := HKf4.out.size
            have HGl4 : Hid (∃ cur, (wr.setCell ⟨b, 56, none⟩ (.int .i64 ((used1 + sz : Nat) : Int))).heap[gx]? = some (.cells cur 5 (0, 0))) := by
              obtain ⟨cur, hb⟩ := HGl.out
              exact ⟨cur, (Below.heap_setCell _ _ _ _ (fun e => by subst e; have hbb := HZ.out.bk.blk; rw [hb] at hbb; simp at hbb)).trans hb⟩
            generalize used1 + sz = used2 at *
            generalize wr.setCell ⟨b, 56, none⟩ (.int .i64 (used2 : Int)) = w4 at *
            clear HZ HRm HKf HC0 HK
            have c0 := bk_cell HZ4.out.bk.blk 3 X.r rfl
            have cf := bk_thaw HZ4.out.bk.blk
            have HN2 : Hid (N ≤ w4.heap.size) := Nat.le_trans hN HS4.out
            go_upto_region 13 with (at_builtin; refine wpList_append_lies _ rfl (.tmp 56) (.tmp 58) 52 rfl N 44 i1 (.slice none 0 0) 1 24 Tryz.underlying52 hi1 hz10 hz11 hz12 rfl (by omega) X.r rs.length _ rfl (HZ4.out.rz.ls.row.alloc _) ⟨w4.heap.size, 0, none⟩ 1 1 [.slice a q c] rfl rfl (World.news_of_block (heap_alloc_new w4 (.cells #[.slice a q c] 44))) (by simp [Value.oneCell']) (by omega) (by unfold maxLen; omega) (by omega) (by have := HN2.out; simp; omega) _ rfl ?_; intro gl cl w5 hown5 hgrow5 hat5 hlt5; have kk5 : Kept (fun i => some i = Value.ownBlock X.r) w4 w5 := (kept_below (S := fun i => some i = Value.ownBlock X.r) ((Below.refl _ _).alloc (Nat.le_refl _) (.cells #[.slice a q c] 44))).trans (kept_grown hgrow5) (fun i e => Or.inl e); have HK5 := hide kk5; have HB5 := hide ((kk5.block b (lt_of_block HZ4.out.bk.blk) (fun e => owns_ne HZ4.out.rz.ls HZ4.out.bk.blk (by decide) e.symm)).trans HZ4.out.bk.blk); have c50 := bk_cell HB5.out 3 X.r rfl; have cf5 := bk_thaw HB5.out; have HL5 := hide (ownsQ_of (z := false) hown5); have HA5 := hide hat5; clear hown5 hgrow5 hat5 hlt5 kk5)
            have HB6 : Hid ((w5.setCell ⟨b, 3, none⟩ (.slice (some ⟨gl, 0, none⟩) (rs.length + 1) cl)).heap[b]? = some (.cells (bkCells ⟨.slice (some ⟨gl, 0, none⟩) (rs.length + 1) cl, X.o, X.a⟩ L1 M1 A m done used2) 70 (0, 0))) := by show _ = _; rw [block_set HB5.out]; rfl
            have HL6 : Hid (ownsQ false (w5.setCell ⟨b, 3, none⟩ (.slice (some ⟨gl, 0, none⟩) (rs.length + 1) cl)) N 44 1 (.slice (some ⟨gl, 0, none⟩) (rs.length + 1) cl) (rs.length + 1) ((rs.map fun k => k.val) ++ [.slice a q c])) := owns_kept' HL5.out (fun g e => Below.heap_setCell _ _ _ _ (fun e' => owns_ne HL5.out HB5.out (by decide) (by rw [e, e'])))
            have HK6 : Hid (Kept (PS b X) w4 (w5.setCell ⟨b, 3, none⟩ (.slice (some ⟨gl, 0, none⟩) (rs.length + 1) cl))) := ((Kept.refl _ _).trans HK5.out (fun i e => Or.inl (Or.inr (Or.inl e)))).trans (kept_but ((But.refl b w5).setCell (p := ⟨b, 3, none⟩) (Or.inl rfl) _)) (fun i e => Or.inl (Or.inl e))
            have HM6 : Hid (ownsQ false (w5.setCell ⟨b, 3, none⟩ (.slice (some ⟨gl, 0, none⟩) (rs.length + 1) cl)) N 3 1 X.o rs.length (rs.map fun k => .int .i64 (k.m : Int))) := owns_kept' HZ4.out.rz.ms (fun g e => (Below.heap_setCell _ _ _ _ (fun e' => owns_ne HZ4.out.rz.ms HZ4.out.bk.blk (by decide) (by rw [e, e']))).trans (HK5.out.block g (owns_lt HZ4.out.rz.ms g e) (fun e' => rows_far HZ4.out.rz.ls HZ4.out.rz.ms (by decide) g e'.symm e)))
            generalize w5.setCell ⟨b, 3, none⟩ (.slice (some ⟨gl, 0, none⟩) (rs.length + 1) cl) = w6 at *
            clear HK5 HB5 HL5 c50 cf5 c0 cf
            have c1 := bk_cell HB6.out 4 X.o rfl
            have cf := bk_thaw HB6.out
            have HN6 : Hid (N ≤ w6.heap.size) := Nat.le_trans HN2.out HK6.out.size
            go_wp2_with (at_builtin; refine wpList_append_lies _ rfl (.tmp 66) (.tmp 68) 51 rfl N 3 i2 (.int .i64 0) 1 8 Tryz.underlying51 hi2 hz20 hz21 hz22 rfl (by omega) X.o rs.length _ rfl (HM6.out.row.alloc _) ⟨w6.heap.size, 0, none⟩ 1 1 [.int .i64 (m : Int)] rfl rfl (World.news_of_block (heap_alloc_new w6 (.cells #[.int .i64 (m : Int)] 3))) (by simp [Value.oneCell']) (by omega) (by unfold maxLen; omega) (by omega) (by have := HN6.out; simp; omega) _ rfl ?_; intro gm cm w7 hown7 hgrow7 hat7 hlt7; have kk7 : Kept (fun i => some i = Value.ownBlock X.o) w6 w7 := (kept_below (S := fun i => some i = Value.ownBlock X.o) ((Below.refl _ _).alloc (Nat.le_refl _) (.cells #[.int .i64 (m : Int)] 3))).trans (kept_grown hgrow7) (fun i e => Or.inl e); have HK7 := hide kk7; have HB7 := hide ((kk7.block b (lt_of_block HB6.out) (fun e => owns_ne HM6.out HB6.out (by decide) e.symm)).trans HB6.out); have c71 := bk_cell HB7.out 4 X.o rfl; have cf7 := bk_thaw HB7.out; have HM7 := hide (ownsQ_of (z := false) hown7); have HA7 := hide hat7; clear hown7 hgrow7 hat7 hlt7 kk7)
            have HB8 : Hid ((w7.setCell ⟨b, 4, none⟩ (.slice (some ⟨gm, 0, none⟩) (rs.length + 1) cm)).heap[b]? = some (.cells (bkCells ⟨.slice (some ⟨gl, 0, none⟩) (rs.length + 1) cl, .slice (some ⟨gm, 0, none⟩) (rs.length + 1) cm, X.a⟩ L1 M1 A m done used2) 70 (0, 0))) := by show _ = _; rw [block_set HB7.out]; rfl
            have HM8 : Hid (ownsQ false (w7.setCell ⟨b, 4, none⟩ (.slice (some ⟨gm, 0, none⟩) (rs.length + 1) cm)) N 3 1 (.slice (some ⟨gm, 0, none⟩) (rs.length + 1) cm) (rs.length + 1) ((rs.map fun k => Value.int .i64 (k.m : Int)) ++ [.int .i64 (m : Int)])) := owns_kept' HM7.out (fun g e => Below.heap_setCell _ _ _ _ (fun e' => owns_ne HM7.out HB7.out (by decide) (by rw [e, e'])))
            have HL8 : Hid (ownsQ false (w7.setCell ⟨b, 4, none⟩ (.slice (some ⟨gm, 0, none⟩) (rs.length + 1) cm)) N 44 1 (.slice (some ⟨gl, 0, none⟩) (rs.length + 1) cl) (rs.length + 1) ((rs.map fun k => k.val) ++ [.slice a q c])) := owns_kept' HL6.out (fun g e => (Below.heap_setCell _ _ _ _ (fun e' => owns_ne HL6.out HB6.out (by decide) (by rw [e, e']))).trans (HK7.out.block g (owns_lt HL6.out g e) (fun e' => rows_far HM6.out HL6.out (by decide) g e'.symm e)))
            have HK8 : Hid (Kept (PS b X) w4 (w7.setCell ⟨b, 4, none⟩ (.slice (some ⟨gm, 0, none⟩) (rs.length + 1) cm))) := (HK6.out.trans HK7.out (fun i e => Or.inl (Or.inr (Or.inr e)))).trans (kept_but ((But.refl b w7).setCell (p := ⟨b, 4, none⟩) (Or.inl rfl) _)) (fun i e => Or.inl (Or.inl e))
            have HA5' : Hid ((Value.slice (some ⟨gl, 0, none⟩) (rs.length + 1) cl).ownBlock = Value.ownBlock X.r ∨ ∃ q, (Value.slice (some ⟨gl, 0, none⟩) (rs.length + 1) cl).ownBlock = some q ∧ w4.heap.size ≤ q) := by
              rcases HA5.out with h | h
              · exact Or.inl h.symm
              · exact Or.inr ⟨gl, rfl, by simp at h; omega⟩
            have HA7' : Hid ((Value.slice (some ⟨gm, 0, none⟩) (rs.length + 1) cm).ownBlock = Value.ownBlock X.o ∨ ∃ q, (Value.slice (some ⟨gm, 0, none⟩) (rs.length + 1) cm).ownBlock = some q ∧ w4.heap.size ≤ q) := by
              rcases HA7.out with h | h
              · exact Or.inl h.symm
              · exact Or.inr ⟨gm, rfl, by have := HK6.out.size; simp at h; omega⟩
            have HP8 := hide (HZ4.out.push HRm4.out (fun y hy g e1 e2 => absurd e2 (HRR.out y hy g e1)) HK8.out HB8.out HL8.out HM8.out ⟨by omega, by omega⟩ (by omega) HL1.out HA7'.out)
            have HGl8 : Hid (∃ cur, (w7.setCell ⟨b, 4, none⟩ (.slice (some ⟨gm, 0, none⟩) (rs.length + 1) cm)).heap[gx]? = some (.cells cur 5 (0, 0))) := by
              obtain ⟨cur, hb⟩ := HGl4.out
              refine ⟨cur, (HK8.out.block gx (lt_of_block hb) ?_).trans hb⟩
              rintro (e | e | e)
              · subst e; have hbb := HZ4.out.bk.blk; rw [hb] at hbb; simp at hbb
              · exact owns_ne HZ4.out.rz.ls hb (by decide) e.symm
              · exact owns_ne HZ4.out.rz.ms hb (by decide) e.symm
            have HKf8 := hide (HKf4.out.trans HK8.out (fun i e => Or.inl (by
              rcases e with e | e | e
              · exact Or.inl e
              · exact Or.inr (Or.inr (Or.inr (Or.inl e)))
              · exact Or.inr (Or.inr (Or.inr (Or.inr (Or.inl e)))))))
            have HRo8 : Hid ((Value.slice (some ⟨gl, 0, none⟩) (rs.length + 1) cl).ownBlock = X.r.ownBlock ∨ ∃ g, (Value.slice (some ⟨gl, 0, none⟩) (rs.length + 1) cl).ownBlock = some g ∧ w.heap.size ≤ g) := HA5'.out.imp id (fun ⟨g, e, hg⟩ => ⟨g, e, Nat.le_trans HS4.out hg⟩)
            have HOo8 : Hid ((Value.slice (some ⟨gm, 0, none⟩) (rs.length + 1) cm).ownBlock = X.o.ownBlock ∨ ∃ g, (Value.slice (some ⟨gm, 0, none⟩) (rs.length + 1) cm).ownBlock = some g ∧ w.heap.size ≤ g) := HA7'.out.imp id (fun ⟨g, e, hg⟩ => ⟨g, e, Nat.le_trans HS4.out hg⟩)
            go_wp2
            go_end0
            refine ⟨rfl, gx, ⟨.slice (some ⟨gl, 0, none⟩) (rs.length + 1) cl, .slice (some ⟨gm, 0, none⟩) (rs.length + 1) cm, X.a⟩, L1, M1, used2, ks1, rs ++ [⟨a, q, c, m⟩], ?_⟩
            rw [HM.out]
            refine ⟨HP8.out, HGx.out, HGl8.out, hu2, rfl, HSd.out.len, HMem.out, by simp, fun x hx => ?_, HSd.out.lo, HSd.out.mo, HRo8.out, HOo8.out, HKf8.out⟩
            rcases List.mem_append.1 hx with h' | h'
            · exact Or.inl h'
            · simp at h'; subst h'; exact Or.inr ⟨rfl, rfl⟩
end Go.Proofs.YtjcdnclfakmbpaaGreatDoor.V
namespace Go.Proofs.YtjcdnclfakmbpaaGreatDoor.V
open Go.RowKit Go.Proofs.YtjcdnclfakmbpaaGreatDoor.U Go.Proofs.YtjcdnclfakmbpaaGreatDoor.Q
structure Bz (P : Nat × Nat → Prop) (K : Knd) (w : World) (b : Nat) (X : Rv) (L M : Value) (turn used : Nat) (ks rs : List Kl) : Prop where
  z : Z w 0 (fun g => K g = (5, 3) ∧ g < w.heap.size) b X L M 0 turn 0 used ks rs
  ax : X.a = 0
  cb : K b = (5, 1)
  cl : ∀ g, L.ownBlock = some g → K g = (5, 2)
  cm : ∀ g, M.ownBlock = some g → K g = (5, 2)
  cr : ∀ g, X.r.ownBlock = some g → K g = (5, 2)
  co : ∀ g, X.o.ownBlock = some g → K g = (5, 2)
  ck : ∀ k ∈ ks, ∀ g, k.val.ownBlock = some g → P (K g)
  cx : ∀ k ∈ rs, ∀ g, k.val.ownBlock = some g → K g = (5, 4)
  us : used ≤ 16777216
  kl : ks.length ≤ turn
  rl : rs.length ≤ turn
  low : ∀ k ∈ ks, k.l ≤ 16777216
  rlow : ∀ k ∈ rs, k.l ≤ 1000
theorem Bz.keep {P p : Nat × Nat → Prop} {K K' : Knd} {w w' : World} {b : Nat} {X : Rv} {L M : Value} {turn used : Nat} {ks rs : List Kl} (h : Bz P K w b X L M turn used ks rs) (m : Kp p K K' w w') (h1 : ¬ p (5, 1)) (h2 : ¬ p (5, 2)) (h3 : ¬ p (5, 3)) (h4 : ¬ p (5, 4)) (hP : ∀ q, P q → ¬ p q) (hP3 : ¬ P (5, 3)) : Bz P K' w' b X L M turn used ks rs := by
  have hR := h.z.rz.keep (Kp.kept m) (fun g e => by rw [h.cr g e]; exact h2) (fun g e => by rw [h.co g e]; exact h2) (fun x hx g e => by rw [h.cx x hx g e]; exact h4) (fun g cur hf _ => by rw [hf.1]; exact h3)
  refine ⟨⟨h.z.bk.keep (Kp.kept m) (by rw [h.cb]; exact h1) (fun g e => by rw [h.cl g e]; exact h2) (fun g e => by rw [h.cm g e]; exact h2) (fun x hx g e => hP _ (h.ck x hx g e)), hR.wide (fun g e => ⟨by rw [m.same g e.2]; exact e.1, Nat.lt_of_lt_of_le e.2 m.size⟩), h.z.lr, h.z.mo, fun x hx g e hf => ?_⟩, h.ax, kpk m (lt_of_block h.z.bk.blk) h.cb, fun g e => kpk m (owns_lt h.z.bk.ls g e) (h.cl g e), fun g e => kpk m (owns_lt h.z.bk.ms g e) (h.cm g e), fun g e => kpk m (owns_lt h.z.rz.ls g e) (h.cr g e), fun g e => kpk m (owns_lt h.z.rz.ms g e) (h.co g e), fun x hx g e => by rw [m.same g (owns_lt (h.z.bk.rows x hx) g e)]; exact h.ck x hx g e, fun x hx g e => kpk m ((h.z.rz.rows x hx).lt g e) (h.cx x hx g e), h.us, h.kl, h.rl, h.low, h.rlow⟩
  have h5 := h.ck x hx g e
  rw [← m.same g (owns_lt (h.z.bk.rows x hx) g e), hf.1] at h5
  exact hP3 h5
theorem Bz.imp {P P' : Nat × Nat → Prop} {K : Knd} {w : World} {b : Nat} {X : Rv} {L M : Value} {turn used : Nat} {ks rs : List Kl} (h : Bz P K w b X L M turn used ks rs) (hi : ∀ q, P q → P' q) : Bz P' K w b X L M turn used ks rs := ⟨h.z, h.ax, h.cb, h.cl, h.cm, h.cr, h.co, fun k hk g e => hi _ (h.ck k hk g e), h.cx, h.us, h.kl, h.rl, h.low, h.rlow⟩
theorem bz_empty {P : Nat × Nat → Prop} {K : Knd} {w : World} {b : Nat} (h : w.heap[b]? = some (.cells bk0 70 (0, 0))) (hb : K b = (5, 1)) : Bz P K w b ⟨.slice none 0 0, .slice none 0 0, 0⟩ (.slice none 0 0) (.slice none 0 0) 0 0 [] [] := by
  have hn : ∀ g, (Value.slice none 0 0).ownBlock = some g → False := fun g e => by simp [Value.ownBlock] at e
  exact ⟨⟨⟨h, ⟨rfl, Or.inl ⟨rfl, rfl⟩⟩, ⟨rfl, Or.inl ⟨rfl, rfl⟩⟩, by simp, by simp, by simp, by simp⟩, ⟨⟨rfl, Or.inl ⟨rfl, rfl⟩⟩, ⟨rfl, Or.inl ⟨rfl, rfl⟩⟩, by simp, by simp, by simp, by simp⟩, by simp, fun g e => (hn g e).elim, by simp⟩, rfl, hb, fun g e => (hn g e).elim, fun g e => (hn g e).elim, fun g e => (hn g e).elim, fun g e => (hn g e).elim, by simp, by simp, by omega, by simp, by simp, by simp, by simp⟩
theorem fixk {K : Knd} {w : World} {X Y : Value} {k : Nat × Nat} {K' : Knd} (h1 : ∀ g, Y.ownBlock = some g → K g = k) (h2 : ∀ g, Y.ownBlock = some g → g < w.heap.size) (h3 : X.ownBlock = Y.ownBlock ∨ ∃ g, X.ownBlock = some g ∧ w.heap.size ≤ g) (h4 : ∀ g, g < w.heap.size → K' g = K g) (h5 : ∀ g, w.heap.size ≤ g → X.ownBlock = some g → K' g = k) : ∀ g, X.ownBlock = some g → K' g = k := fun g e => by
  rcases h3 with e' | ⟨g', e', hg'⟩
  · have e2 : Y.ownBlock = some g := by rw [← e', e]
    rw [h4 g (h2 g e2)]; exact h1 g e2
  · rw [e'] at e; cases e; exact h5 g hg' e'
def PBz (P : Nat × Nat → Prop) (q : Nat × Nat) : Prop := q = (5, 1) ∨ q = (5, 2) ∨ q = (5, 4) ∨ P q
theorem bzk_bytes (P : Nat × Nat → Prop) (hP3 : ¬ P (5, 3)) (K : Knd) (w : World) (b : Nat) (X : Rv) (L M : Value) (turn used : Nat) (ks rs : List Kl) (p : Option Addr) (len c : Nat) (ys : List Nat) (h : Bz P K w b X L M turn used ks rs) (hn : turn ≤ 100000000) (hrow : ownsQ true w 0 5 1 (.slice p len c) len (vals ys)) (hfar : ∀ k ∈ ks, Far (.slice p len c) k.val) (hk : ∀ g, (Value.slice p len c).ownBlock = some g → P (K g)) (hlen : len ≤ 140737488355328) :
    Calls Tryz.prog 30 #[.pointer (some ⟨b, 0, none⟩), .slice p len c] w fun e w' => e = .returned (.tuple #[]) ∧ ∃ L' M' used' ks', Bz P (ext K w.heap.size (5, 2)) w' b X L' M' (turn + 1) used' ks' rs ∧ Kp (PBz P) K (ext K w.heap.size (5, 2)) w w' := by
  have hkl := h.kl
  refine (bz_bytes w 0 b _ X L M 0 turn 0 used ks rs p len c ys h.z hrow hfar (fun g e hf => hP3 (by have := hk g e; rw [hf.1] at this; exact this)) (Nat.zero_le _) (by omega) hlen h.us (by omega)).mono ?_
  rintro e w' ⟨rfl, L', M', used', ks', hz, hu, hks, hkept, hL, hM⟩
  have h4 : ∀ g, g < w.heap.size → ext K w.heap.size (5, 2) g = K g := fun g hg => ext_old _ _ hg
  have hck : ∀ x ∈ ks', ∀ g, x.val.ownBlock = some g → g < w.heap.size ∧ P (K g) := fun x hx g e => by
    rcases hks with rfl | ⟨rfl, hsmall⟩
    · exact ⟨owns_lt (h.z.bk.rows x hx) g e, h.ck x hx g e⟩
    · rcases List.mem_append.1 hx with h' | h'
      · exact ⟨owns_lt (h.z.bk.rows x h') g e, h.ck x h' g e⟩
      · simp at h'; subst h'
        exact ⟨owns_lt hrow g e, hk g e⟩
  refine ⟨rfl, L', M', used', ks', ⟨hz.wide (fun g e => ⟨by rw [h4 g e.2]; exact e.1, Nat.lt_of_lt_of_le e.2 hkept.size⟩) (fun x hx g e hf => ?_), h.ax, (h4 b (lt_of_block h.z.bk.blk)).trans h.cb, fixk h.cl (owns_lt h.z.bk.ls) hL h4 (fun g hg _ => ext_new _ _ hg), fixk h.cm (owns_lt h.z.bk.ms) hM h4 (fun g hg _ => ext_new _ _ hg), fun g e => (h4 g (owns_lt h.z.rz.ls g e)).trans (h.cr g e), fun g e => (h4 g (owns_lt h.z.rz.ms g e)).trans (h.co g e), fun x hx g e => by rw [h4 g (hck x hx g e).1]; exact (hck x hx g e).2, fun x hx g e => (h4 g ((h.z.rz.rows x hx).lt g e)).trans (h.cx x hx g e), hu, ?_, by have := h.rl; omega, fun x hx => ?_, h.rlow⟩, kp_kept hkept _ _ _ (fun i hi e => ?_)⟩
  · have h5 := hck x hx g e
    rw [← h4 g h5.1, hf.1] at h5
    exact hP3 h5.2
  · rcases hks with rfl | ⟨rfl, hsmall⟩
    · omega
    · simp; omega
  · rcases hks with rfl | ⟨rfl, hsmall⟩
    · exact h.low x hx
    · rcases List.mem_append.1 hx with h' | h'
      · exact h.low x h'
      · simp at h'; subst h'; exact hsmall
  · rcases e with e | e | e | e
    · rw [e]; exact Or.inl h.cb
    · exact Or.inr (Or.inl (h.cl i e.symm))
    · exact Or.inr (Or.inl (h.cm i e.symm))
    · exact Or.inr (Or.inr (Or.inr (hk i e.symm)))
theorem bzk_rows (K : Knd) (w : World) (b : Nat) (X : Rv) (L M : Value) (turn used : Nat) (ks rs : List Kl) (a : Option Addr) (q c B : Nat) (vs : List Value) (h : Bz (fun q => q = (5, 2)) K w b X L M turn used ks rs) (hn : turn ≤ 10000000) (hq : q ≤ 1000)
    (hrow : ownsQ false w 0 31 1 (.slice a q c) q vs) (hel : ∀ (i : Nat) (u : Value), vs[i]? = some u → ∃ sp l cc ys, u = .slice sp l cc ∧ ownsQ true w 0 5 1 (.slice sp l cc) l (vals ys) ∧ l ≤ 140737488355328)
    (hdis : ∀ (i j : Nat) (u v : Value), i < j → vs[i]? = some u → vs[j]? = some v → Far v u) (hks : ∀ k ∈ ks, ∀ g, k.val.ownBlock = some g → g < B) (hrs : ∀ k ∈ rs, ∀ g, k.val.ownBlock = some g → g < B) (hvB : ∀ v ∈ vs, ∀ g, v.ownBlock = some g → B ≤ g ∧ K g = (5, 2)) (hrB : ∀ g, (Value.slice a q c).ownBlock = some g → B ≤ g ∧ K g = (5, 4)) :
    Calls Tryz.prog 63 #[.pointer (some ⟨b, 0, none⟩), .slice a q c] w fun e w' => e = .returned (.tuple #[]) ∧ ∃ K' X' L' M' used' ks' rs', Bz (fun q => q = (5, 2)) K' w' b X' L' M' (turn + q + 1) used' ks' rs' ∧ Kp (fun q => q = (5, 1) ∨ q = (5, 2) ∨ q = (5, 4)) K K' w w' := by
  have hkl := h.kl
  have hrl := h.rl
  refine (bz_rows w 0 b _ X L M 0 turn 0 used ks rs a q c vs h.z hrow hel hdis (fun k hk v hv g e e' => ?_) (fun v hv g e hf => ?_) (fun g e e' => ?_) (fun k hk g e e' => ?_) (Nat.zero_le _) (by omega) hq h.us (by omega) (by omega) (fun g e => e.2)).mono ?_
  · have h1 := hks k hk g e'; have h2 := (hvB v hv g e).1; omega
  · have h2 := (hvB v hv g e).2; rw [hf.1] at h2; simp at h2
  · have h1 := h.cl g e'; rw [(hrB g e).2] at h1; simp at h1
  · have h1 := hrs k hk g e; have h2 := (hrB g e').1; omega
  rintro e w' ⟨rfl, gx, X', L', M', used', ks', rs', hp⟩
  obtain ⟨K', hK'⟩ : ∃ K' : Knd, K' = fun g => if g < w.heap.size then K g else if g = gx then (5, 3) else (5, 2) := ⟨_, rfl⟩
  have h4 : ∀ g, g < w.heap.size → K' g = K g := fun g hg => by rw [hK']; simp [hg]
  have hgx : K' gx = (5, 3) := by rw [hK']; have := hp.gw; simp; intro h; omega
  have h5 : ∀ g, w.heap.size ≤ g → g ≠ gx → K' g = (5, 2) := fun g hg hne => by rw [hK']; simp [hne]; intro h; omega
  have hck : ∀ x ∈ ks', ∀ g, x.val.ownBlock = some g → g < w.heap.size ∧ K g = (5, 2) := fun x hx g e => by
    rcases hp.mem x hx with h' | ⟨h', _⟩
    · exact ⟨owns_lt (h.z.bk.rows x h') g e, h.ck x h' g e⟩
    · obtain ⟨i, hi⟩ := List.getElem?_of_mem h'
      obtain ⟨sp, l, cc, ys, e1, ho, _⟩ := hel i _ hi
      rw [e1] at e
      exact ⟨owns_lt ho g e, (hvB _ h' g (by rw [e1]; exact e)).2⟩
  have hcx : ∀ x ∈ rs', ∀ g, x.val.ownBlock = some g → g < w.heap.size ∧ K g = (5, 4) := fun x hx g e => by
    rcases hp.rm x hx with h' | ⟨h', _⟩
    · exact ⟨(h.z.rz.rows x h').lt g e, h.cx x h' g e⟩
    · rw [h'] at e
      exact ⟨owns_lt hrow g e, (hrB g e).2⟩
  have hnx : ∀ {Y : Value} {n : Nat} {ty : TypeId} {xs : List Value}, ownsQ false w' 0 ty 1 Y n xs → ty ≠ 5 → ∀ g, w.heap.size ≤ g → Y.ownBlock = some g → K' g = (5, 2) := fun hy ht g hg e => h5 g hg (fun e' => by
    obtain ⟨cur, hb⟩ := hp.gb
    subst e'
    exact owns_ne hy hb (fun e => ht e.symm) e)
  refine ⟨rfl, K', X', L', M', used', ks', rs', ⟨hp.z.wide (fun g e => ?_) (fun x hx g e hf => ?_), by rw [hp.ax]; exact h.ax, (h4 b (lt_of_block h.z.bk.blk)).trans h.cb, fixk h.cl (owns_lt h.z.bk.ls) hp.lo h4 (hnx hp.z.bk.ls (by decide)), fixk h.cm (owns_lt h.z.bk.ms) hp.mo h4 (hnx hp.z.bk.ms (by decide)), fixk h.cr (owns_lt h.z.rz.ls) hp.ro h4 (hnx hp.z.rz.ls (by decide)), fixk h.co (owns_lt h.z.rz.ms) hp.oo h4 (hnx hp.z.rz.ms (by decide)), fun x hx g e => by rw [h4 g (hck x hx g e).1]; exact (hck x hx g e).2, fun x hx g e => by rw [h4 g (hcx x hx g e).1]; exact (hcx x hx g e).2, hp.us, by have := hp.len; omega, by have := hp.rl; omega, fun x hx => ?_, fun x hx => ?_⟩, ⟨hp.kept.os, hp.kept.tape, hp.kept.output, hp.kept.size, h4, fun i hi hne => hp.kept.block i hi (fun e => hne ?_)⟩⟩
  · rcases e with e | e
    · exact ⟨by rw [h4 g e.2]; exact e.1, Nat.lt_of_lt_of_le e.2 hp.kept.size⟩
    · rw [e]; obtain ⟨cur, hb⟩ := hp.gb; exact ⟨hgx, lt_of_block hb⟩
  · have h6 := hck x hx g e
    rw [← h4 g h6.1, hf.1] at h6
    have := h6.2
    simp at this
  · rcases hp.mem x hx with h' | ⟨_, h'⟩
    · exact h.low x h'
    · exact h'
  · rcases hp.rm x hx with h' | ⟨_, h'⟩
    · exact h.rlow x h'
    · rw [h']; exact hq
  · rcases e with e | e | e | e | e | e | ⟨u, hu, e⟩
    · rw [e]; exact Or.inl h.cb
    · exact Or.inr (Or.inl (h.cl i e.symm))
    · exact Or.inr (Or.inl (h.cm i e.symm))
    · exact Or.inr (Or.inl (h.cr i e.symm))
    · exact Or.inr (Or.inl (h.co i e.symm))
    · exact Or.inr (Or.inr (hrB i e.symm).2)
    · exact Or.inr (Or.inl (hvB u hu i e.symm).2)
end Go.Proofs.YtjcdnclfakmbpaaGreatDoor.V
namespace Go.Proofs.YtjcdnclfakmbpaaGreatDoor.V
open Go.RowKit Go.Proofs.YtjcdnclfakmbpaaGreatDoor.U Go.Proofs.YtjcdnclfakmbpaaGreatDoor.Q
def PSz (q : Nat × Nat) : Prop := q.1 = 5 ∨ q.1 = 6 ∨ q.1 = 7
theorem psz_pb {k : Nat} : ∀ q, PBz (PL k) q → PSz q := by
  rintro q (e | e | e | e | e)
  · subst e; exact Or.inl rfl
  · subst e; exact Or.inl rfl
  · subst e; exact Or.inl rfl
  · subst e; exact Or.inl rfl
  · exact Or.inr (Or.inr e.1)
theorem pl3 (k : Nat) : ¬ PL k (5, 3) := by
  rintro (e | e)
  · simp at e
  · have := e.1; simp at this
set_option maxRecDepth 100000 in
set_option maxHeartbeats 2000000 in
theorem settle_z (K : Knd) (w : World) (t : Nat) (G W : Value) (xs : List Gt) (b : Nat) (X : Rv) (L M : Value) (turn used : Nat) (ks rs : List Kl) (h : Lt K w t G W xs) (hb : Bz (fun q => q = (5, 2)) K w b X L M turn used ks rs) (hn : turn + xs.length ≤ 4000000) (hx : xs.length ≤ 20000) :
    Calls Tryz.prog 8 #[.pointer (some ⟨t, 0, none⟩), .pointer (some ⟨b, 0, none⟩), .int .i64 0] w fun e w' => e = .returned (.bool true) ∧ ∃ K' X' L' M' A' turn' used' ks' rs' F', Z w' 0 F' b X' L' M' A' turn' turn' used' ks' rs' ∧ Kp PSz K K' w w' := by
  have HL := hide h
  have HB := hide (hb.imp (P' := PL 0) (fun q e => Or.inl e))
  obtain ⟨q0, q1, qf⟩ := blk2 h.blk
  obtain ⟨lp, lc, hG⟩ := Q.owns_form h.gs
  subst hG
  clear h hb
  have l0 : ¬ (xs.length : Int) < 0 := by omega
  go_enter Tryz.func8, Tryz.ntmps8
  go_wp2_with fail
  refine (late_same K w t _ W xs HL.out (by omega)).mono ?_
  rintro e w1 ⟨rfl, q, rfl⟩
  have HM1 : Hid (Kp PSz K K w (w.drewN q)) := ⟨rfl, rfl, rfl, Nat.le_refl _, fun _ _ => rfl, fun _ _ _ => rfl⟩
  have HR1 := hide (HL.out.rest.keep (p := fun _ => False) (K' := K) (w' := w.drewN q) ⟨rfl, rfl, rfl, Nat.le_refl _, fun _ _ => rfl, fun _ _ _ => rfl⟩ (Nat.le_refl 0) (fun e => e) (fun _ _ e => e))
  have HB1 := hide (HB.out.keep (p := fun _ => False) (K' := K) (w' := w.drewN q) ⟨rfl, rfl, rfl, Nat.le_refl _, fun _ _ => rfl, fun _ _ _ => rfl⟩ (fun e => e) (fun e => e) (fun e => e) (fun e => e) (fun _ _ e => e) (pl3 0))
  generalize w.drewN q = w1 at *
  go_wp2
  go_loopw [7] (fun i wr => ∃ (k : Nat) (K1 : Knd) (L1 M1 : Value) (used1 : Nat) (ks1 : List Kl), k ≤ xs.length ∧ i = .int .i64 k ∧ Hid (Lr K1 wr t (.slice lp xs.length lc) W xs k) ∧ Hid (Bz (PL k) K1 wr b X L1 M1 (turn + k) used1 ks1 rs) ∧ Hid (Kp PSz K K1 w wr)) (fun i _ => xs.length - (intOf i).toNat)
  case atStart => exact ⟨0, K, L, M, used, ks, Nat.zero_le _, rfl, HR1, HB1, HM1⟩
  case round =>
    clear HR1 HB1 HM1 HB q0 q1 qf
    obtain ⟨k, K1, L1, M1, used1, ks1, hk, rfl, HR, HB, HM⟩ := hrel
    obtain ⟨q0, q1, qf⟩ := blk2 HR.out.blk
    by_cases hkl : k < xs.length
    · have hop : xs[k]? = some (xs[k]'hkl) := List.getElem?_eq_getElem _
      obtain ⟨gl, _, hgl, cl⟩ := row_cell HR.out.gs (k := k) (a := (xs[k]'hkl).val) (by simp [hop])
      cases hgl
      have hx := HR.out.rows k _ (Nat.le_refl k) hop
      have hnum := HR.out.num _ (List.mem_of_getElem? hop)
      have hcx := HR.out.cx k _ (Nat.le_refl k) hop
      generalize xs[k]'hkl = x at *
      obtain ⟨p, l, c, ys, wp, wc⟩ := x
      simp only [Gt.val] at cl hx hnum hcx
      clear hop
      have HC := hide (bzk_bytes (PL (k + 1)) (pl3 _) K1 wr b X L1 M1 (turn + k) used1 ks1 rs p l c ys (HB.out.imp (fun q e => e.imp id (fun e => ⟨e.1, by omega⟩))) (by omega) hx (fun x hx' g e e' => by
        have h1 := hcx g e
        rcases HB.out.ck x hx' g e' with h2 | h2
        · rw [h1] at h2; simp at h2
        · rw [h1] at h2; have := h2.2; simp at this) (fun g e => by rw [hcx g e]; exact Or.inr ⟨rfl, by show k < k + 1; omega⟩) hnum)
      clear hx hcx
      have l1 : (k : Int) < (xs.length : Int) := by omega
      have l2 : (0 : Int) ≤ (k : Int) := by omega
      go_wp2_with fail
      refine HC.out.mono ?_
      rintro e w2 ⟨rfl, L2, M2, used2, ks2, hb2, hm2⟩
      have HB2 := hide hb2
      have HM2 := hide (HM.out.trans (hm2.mono psz_pb))
      have HR2 := hide (HR.out.keep hm2 (Nat.le_succ k) (by rintro (e | e | e | e | e) <;> simp at e) (fun i hi => by
        rintro (e | e | e | e | e)
        · simp at e
        · simp at e
        · simp at e
        · simp at e
        · have := e.2; simp at this; omega))
      clear hb2 hm2 HC
      go_wp2
      go_roundw
      case rel => exact ⟨k + 1, _, L2, M2, used2, ks2, by omega, by go_num, HR2, HB2, HM2⟩
      case measure => simp [intOf]; omega
    · have l1 : ¬ (k : Int) < (xs.length : Int) := by omega
      have q1' : (wr.setCell ⟨t, 0, none⟩ (.slice none 0 0)).heap[t]? = some (.cells #[.slice none 0 0, W] 72 (0, 0)) := by rw [block_set HR.out.blk]; rfl
      obtain ⟨s0, s1, sf⟩ := blk2 q1'
      have HE : Hid (Kp (fun q => q = (6, 0)) K1 K1 wr ((wr.setCell ⟨t, 0, none⟩ (.slice none 0 0)).setCell ⟨t, 1, none⟩ (.slice none 0 0))) := ((Kp.refl (fun q => q = (6, 0)) K1 wr).setCell (Or.inr HR.out.ct) _ _).setCell (Or.inr HR.out.ct) _ _
      have HB3 := hide (HB.out.keep HE.out (by simp) (by simp) (by simp) (by simp) (fun q e e' => by subst e'; rcases e with e | e; simp at e; have := e.1; simp at this) (pl3 k))
      have hkl2 := HB3.out.kl
      have hrl2 := HB3.out.rl
      have hax := HB3.out.ax
      have HC := hide (bz_look _ 0 b _ X L1 M1 0 (turn + k) 0 used1 ks1 rs HB3.out.z (fun g e => e.2) (Nat.zero_le _) (Nat.zero_le _) (by omega) (fun j x _ hx => by have := HB3.out.low x (List.mem_of_getElem? hx); omega) (by omega) (by omega) (fun j x _ hx => by have := HB3.out.rlow x (List.mem_of_getElem? hx); omega))
      clear q1'
      go_wp2_with fail
      refine HC.out.mono ?_
      rintro e w4 ⟨rfl, X4, L4, M4, A4, ks4, rs4, F4, hz4, hm4⟩
      have hkp : Kp PSz K1 (ext K1 ((wr.setCell ⟨t, 0, none⟩ (.slice none 0 0)).setCell ⟨t, 1, none⟩ (.slice none 0 0)).heap.size (5, 2)) ((wr.setCell ⟨t, 0, none⟩ (.slice none 0 0)).setCell ⟨t, 1, none⟩ (.slice none 0 0)) w4 := kp_kept hm4 PSz K1 (5, 2) (fun i hi e => by
        rcases e with (e | e | e | ⟨x, hx, e⟩) | (e | e | e | ⟨x, hx, e⟩)
        · rw [e, HB3.out.cb]; exact Or.inl rfl
        · rw [HB3.out.cl i e.symm]; exact Or.inl rfl
        · rw [HB3.out.cm i e.symm]; exact Or.inl rfl
        · rcases HB3.out.ck x hx i e.symm with e2 | e2
          · rw [e2]; exact Or.inl rfl
          · exact Or.inr (Or.inr e2.1)
        · rw [e, HB3.out.cb]; exact Or.inl rfl
        · rw [HB3.out.cr i e.symm]; exact Or.inl rfl
        · rw [HB3.out.co i e.symm]; exact Or.inl rfl
        · rw [HB3.out.cx x hx i e.symm]; exact Or.inl rfl)
      have HF := hide ((HM.out.trans (HE.out.mono (q := PSz) (fun q e => by subst e; exact Or.inr (Or.inl rfl)))).trans hkp)
      have HZ4 := hide hz4
      clear hz4 hm4 hkp
      go_wp2
      go_ret
      exact ⟨rfl, _, X4, L4, M4, A4, _, _, ks4, rs4, F4, HZ4.out, HF.out⟩
set_option maxRecDepth 100000 in
set_option maxHeartbeats 1000000 in
theorem look_done (w : World) (N b : Nat) (F : Nat → Prop) (X : Rv) (L M : Value) (A turn used : Nat) (ks rs : List Kl) (h : Z w N F b X L M A turn turn used ks rs) :
    Calls Tryz.prog 9 #[.pointer (some ⟨b, 0, none⟩)] w fun e w' => e = .returned (.bool true) ∧ ∃ q, w' = w.drewN q := by
  have HK := hide h
  clear h
  go_enter Tryz.func9, Tryz.ntmps9
  go_wp2_with fail
  refine (bz_holds w N b F X L M A turn turn used ks rs HK.out).mono ?_
  rintro e w1 ⟨rfl, q, rfl⟩
  have HK1 := hide (HK.out.draws q)
  have HW : Hid (∃ q, w.drewN q = w.drewN q) := ⟨q, rfl⟩
  obtain ⟨w1, hw1⟩ : ∃ w1, w.drewN q = w1 := ⟨_, rfl⟩
  have HW1 := hide hw1
  rw [hw1] at HK1 ⊢
  clear HK hw1 HW
  have c54 := bk_cell HK1.out.bk.blk 54 (.int .i64 (turn : Int)) rfl
  have c55 := bk_cell HK1.out.bk.blk 55 (.int .i64 (turn : Int)) rfl
  have hb : ((turn : Int) == (turn : Int)) = true := by simp
  go_wp2
  go_quiet (fail)
  go_wp2
  go_ret
  exact ⟨rfl, q + nq, by rw [← HW1.out, World.drewN_drewN]⟩
end Go.Proofs.YtjcdnclfakmbpaaGreatDoor.V
