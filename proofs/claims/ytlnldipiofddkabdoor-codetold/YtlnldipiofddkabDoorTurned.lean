import Derived.Test.YtlnldipiofddkabDoorCopy
namespace Go.Proofs.YtlnldipiofddkabDoor
open Go.RowKit

theorem ret_int {k : IntKind} {a b : Int} (h : a = b) : Ending.returned (.int k a) = .returned (.int k b) := by rw [h]

theorem tmod_of (n m : Int) : n.tmod m = if 0 ≤ n then n % m else -((-n) % m) := by
  split
  · rename_i h; exact Int.tmod_eq_emod_of_nonneg h
  · rename_i h
    have := Int.neg_tmod (a := -n) (b := m)
    rw [Int.neg_neg] at this
    rw [this, Int.tmod_eq_emod_of_nonneg (by omega)]

/-- A place from 0 to m - 1. -/
def plc (i : Int) (m : Nat) : Nat := (i % (m : Int)).toNat
theorem plc_lt (i : Int) (m : Nat) (h : 0 < m) : plc i m < m := by
  have h1 := Int.emod_nonneg i (show (m : Int) ≠ 0 by omega)
  have h2 := Int.emod_lt_of_pos i (show (0 : Int) < (m : Int) by omega)
  unfold plc; omega

theorem place_nums (i : Int) (m : Nat) (h : 0 < m) : (i.tmod m < 0 → i.tmod m + m = (plc i m : Int)) ∧ (¬ i.tmod m < 0 → i.tmod m = (plc i m : Int)) ∧ -(m : Int) < i.tmod m ∧ i.tmod m < m := by
  have h1 := Int.emod_nonneg i (show (m : Int) ≠ 0 by omega)
  have h2 := Int.emod_lt_of_pos i (show (0 : Int) < (m : Int) by omega)
  have h3 := Int.emod_nonneg (-i) (show (m : Int) ≠ 0 by omega)
  have h4 := Int.emod_lt_of_pos (-i) (show (0 : Int) < (m : Int) by omega)
  have e1 := Int.emod_add_mul_ediv i m
  have e2 := Int.emod_add_mul_ediv (-i) m
  have hp : (plc i m : Int) = i % m := by unfold plc; omega
  rw [hp, tmod_of]
  split
  · refine ⟨fun h => by omega, fun _ => rfl, by omega, by omega⟩
  · by_cases hz : (-i) % (m : Int) = 0
    · have hd : (m : Int) ∣ -i := Int.dvd_of_emod_eq_zero hz
      have hd' : (m : Int) ∣ i := Int.dvd_neg.1 hd
      have hz' : i % (m : Int) = 0 := Int.emod_eq_zero_of_dvd hd'
      rw [hz, hz']
      refine ⟨fun h => by omega, fun _ => by omega, by omega, by omega⟩
    · have hs : i % (m : Int) = m - (-i) % (m : Int) := by
        have : i % (m : Int) + (-i) % (m : Int) = m := by
          have hd : (m : Int) ∣ i % (m : Int) + (-i) % (m : Int) := by
            refine ⟨-(i / m) - (-i) / m, ?_⟩
            rw [Int.mul_sub, Int.mul_neg]
            omega
          obtain ⟨k, hk⟩ := hd
          have hk1 : 0 < k := by
            rcases Int.lt_or_le 0 k with h | h
            · exact h
            · exfalso
              have := Int.mul_le_mul_of_nonneg_left h (show (0 : Int) ≤ m by omega)
              rw [Int.mul_zero] at this
              omega
          have hk2 : k < 2 := by
            rcases Int.lt_or_le k 2 with h | h
            · exact h
            · exfalso
              have := Int.mul_le_mul_of_nonneg_left h (show (0 : Int) ≤ m by omega)
              omega
          have : k = 1 := by omega
          subst this
          rw [hk, Int.mul_one]
        omega
      rw [hs]
      refine ⟨fun h => by omega, fun h => by omega, by omega, by omega⟩

set_option maxRecDepth 100000 in
set_option maxHeartbeats 400000 in
theorem place_any (w : World) (i : Int) (m : Nat) (h0 : 0 < m) (hm : m ≤ 8388608) :
    Calls Tryd.prog 13 #[.int .i64 i, .int .i64 m] w fun e w' => e = .returned (.int .i64 (plc i m : Nat)) ∧ w' = w := by
  obtain ⟨h1, h2, h3, h4⟩ := place_nums i m h0
  have H1 := hide h1
  have H2 := hide h2
  clear h1 h2
  have hz : ((m : Int) == 0) = false := by simp; omega
  by_cases h : i.tmod m < 0
  · go_enter Tryd.func13, Tryd.ntmps13
    go_wp2
    go_ret
    exact ⟨ret_int (H1.out h), rfl⟩
  · go_enter Tryd.func13, Tryd.ntmps13
    go_wp2
    go_ret
    exact ⟨ret_int (H2.out h), rfl⟩

theorem pow_mod8 (i : Nat) : (2 : Int) ^ (i % 8) % 256 = ((2 ^ (i % 8) : Nat) : Int) := by
  have h := pow_lt8 i
  have e : ((2 ^ (i % 8) : Nat) : Int) = (2 : Int) ^ (i % 8) := by simp
  rw [← e]
  clear e
  generalize (2 : Nat) ^ (i % 8) = y at *
  omega

set_option maxRecDepth 100000 in
set_option maxHeartbeats 1000000 in
theorem turned_any (w : World) (g o m cap i : Nat) (xs : List Nat) (hm : xs.length = m) (hx : Bytes w (some ⟨g, o, none⟩) xs) (hlen : m ≤ 1048576) (hi : i < 8 * m) :
    Calls Tryd.prog 14 #[.slice (some ⟨g, o, none⟩) m cap, .int .i64 i] w fun e w' => ∃ c', e = .returned (.slice (some ⟨w.heap.size, 0, none⟩) m c') ∧ Own w.heap.size w' w.heap.size c' (flip xs i) ∧ Below w.heap.size w w' := by
  have HX := hide hx
  have HM := hide hm
  clear hx hm
  go_enter Tryd.func14, Tryd.ntmps14
  go_wp2_with fail
  refine (copy_some w g o m cap xs HM.out (by omega) HX.out (by omega)).mono ?_
  rintro e w1 ⟨c', rfl, hown, hb⟩
  have HO := hide hown
  have HB := hide hb
  obtain ⟨q0, qf⟩ := hown.cell (i / 8) (by rw [HM.out]; omega)
  have hy : xs.getD (i / 8) 0 < 256 := getD_small hown.small _
  have HXor := hide (u8_xor_nat (xs.getD (i / 8) 0) (2 ^ (i % 8)) hy (pow_lt8 i))
  clear hown hb
  have i1 : (0 : Int) ≤ (i : Int) / 8 := by omega
  have i2 : (i : Int) / 8 < (m : Int) := by omega
  have i3 : ((i : Int) / 8).toNat = i / 8 := by omega
  go_wp2
  go_ret
  have e2 : bits .xor .u8 ((xs[i / 8]?.getD 0 : Nat) : Int) ((2 : Int) ^ (i % 8) % 256) = ((xs.getD (i / 8) 0 ^^^ 2 ^ (i % 8) : Nat) : Int) := by
    have e3 : (2 : Int) ^ (i % 8) % 256 = ((2 ^ (i % 8) : Nat) : Int) := pow_mod8 i
    rw [e3]
    simpa [List.getD] using HXor.out
  rw [e2]
  exact ⟨c', rfl, HO.out.set (i / 8) _ (Nat.xor_lt_two_pow (n := 8) hy (pow_lt8 i)), HB.out.setCell (Nat.le_refl _) _⟩

end Go.Proofs.YtlnldipiofddkabDoor
