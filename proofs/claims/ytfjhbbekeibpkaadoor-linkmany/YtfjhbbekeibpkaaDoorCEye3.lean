import Derived.Test.YtfjhbbekeibpkaaDoorCEye2
namespace Go.Proofs.YtfjhbbekeibpkaaDoor.C
open Go.RowKit

theorem fix_lt (k : Int) (s : Nat) (hk : width k = s) (h3 : k ≠ 3) (h4 : k ≠ 4) (h5 : k ≠ 5) (xs : List Nat) (hs : ∀ x ∈ xs, x < 256) (a f : Nat) : (rNext k 0 xs a f).1.num < 256 ^ s := by
  obtain ⟨f1, _, f3⟩ := fix_raw k s hk h3 h4 h5 xs a f
  rw [f1]
  exact Nat.lt_of_lt_of_le (be_lt _ (got_small hs a _)) (Nat.pow_le_pow_right (by omega) f3)

set_option maxRecDepth 100000 in
theorem eu8_any (w : World) (b : Nat) (sp : Option Addr) (c : Nat) (xs : List Nat) (a f : Nat) (hr : Ey w b sp c xs a f) :
    Calls Tryd.prog 23 #[.pointer (some ⟨b, 0, none⟩)] w fun e w' => EyeNum .u8 w w' b sp c xs (rNext 0 0 xs a f) e := by
  have hl := fix_lt 0 1 rfl (by decide) (by decide) (by decide) xs hr.held.small a f
  have HC := hide (efixed_any w b sp c xs a f 0 1 rfl (by decide) (by decide) (by decide) (by omega) hr)
  clear hr
  generalize rNext 0 0 xs a f = x at *
  have hl2 : x.1.num < 256 := by simpa using hl
  have hm : (x.1.num : Int) % 256 = (x.1.num : Int) := by omega
  clear hl
  go_enter Tryd.func23, Tryd.ntmps23
  go_wp2_with fail
  refine HC.out.mono ?_
  rintro e w1 ⟨rfl, hey, hbut⟩
  have HE := hide hey
  have HB := hide hbut
  clear hey hbut HC
  go_wp2
  go_ret
  exact ⟨rfl, HE.out, HB.out⟩

/-- What last tells. -/
def Last (xs : List Nat) (a : Nat) (r : Int) : Prop :=
  (r = -1 ∧ ∀ j, j < 10 → a + j < xs.length → 128 ≤ xs.getD (a + j) 0) ∨ ∃ k, k < 10 ∧ a + k < xs.length ∧ r = ((a + k : Nat) : Int) ∧ xs.getD (a + k) 0 < 128 ∧ ∀ j, j < k → 128 ≤ xs.getD (a + j) 0

set_option maxRecDepth 100000 in
set_option maxHeartbeats 1000000 in
theorem elast_any (w : World) (b : Nat) (sp : Option Addr) (c : Nat) (xs : List Nat) (a f : Nat) (hr : Ey w b sp c xs a f) :
    Calls Tryd.prog 40 #[.pointer (some ⟨b, 0, none⟩)] w fun e w' => ∃ r : Int, e = .returned (.int .i64 r) ∧ Last xs a r ∧ ∃ q, w' = w.drewN q := by
  obtain ⟨q0, q1, q2, qf⟩ := blk3 hr.blk
  have HR := hide hr
  have h4 := hr.le
  have h5 := hr.len
  have HS := hide hr.held.small
  have HC : Hid (∀ j, j < xs.length → ∃ g o, sp = some ⟨g, o, none⟩ ∧ w.cell? ⟨g, o + j, none⟩ = some (.int .u8 (xs.getD j 0))) := fun j hj => by
    rcases hr.held.lie with h | ⟨g, o, e, _, hc⟩
    · subst h; simp at hj
    · exact ⟨g, o, e, hc j hj⟩
  clear hr
  go_enter Tryd.func40, Tryd.ntmps40
  go_wp2
  go_loopw [3] (fun i wr => ∃ (k q : Nat), k ≤ 10 ∧ a + k ≤ xs.length ∧ i = .int .i64 k ∧ Hid (wr = w.drewN q) ∧ Hid (∀ j, j < k → 128 ≤ xs.getD (a + j) 0)) (fun i _ => 10 - (intOf i).toNat)
  case atStart => exact ⟨0, 0, by omega, by omega, rfl, rfl, fun j hj => by omega⟩
  case round =>
    obtain ⟨k, q, hk, hka, rfl, HW, HA⟩ := hrel
    have e0 : wr.cell? ⟨b, 0, none⟩ = some (.slice sp xs.length c) := by rw [HW.out]; exact q0
    have e1 : wr.cell? ⟨b, 1, none⟩ = some (.int .i64 (a : Int)) := by rw [HW.out]; exact q1
    by_cases hk10 : k < 10
    · have l1 : (k : Int) < 10 := by omega
      have hwr : IntKind.i64.wrap ((a : Int) + (k : Int)) = ((a + k : Nat) : Int) := by rw [IntKind.wrap_i64]; omega
      have hw3 : (a : Int) + (k : Int) = ((a + k : Nat) : Int) := by omega
      have hw4 : IntKind.i64.wrap ((a + k : Nat) : Int) = ((a + k : Nat) : Int) := by rw [IntKind.wrap_i64]; omega
      by_cases hlt : a + k < xs.length
      · obtain ⟨g, o, rfl, hcx0⟩ := HC.out (a + k) hlt
        have hcx : wr.cell? ⟨g, o + (a + k), none⟩ = some (.int .u8 (xs.getD (a + k) 0)) := by rw [HW.out]; exact hcx0
        clear hcx0
        have hx := getD_small HS.out (a + k)
        have HFin : Hid (xs.getD (a + k) 0 < 128 → Last xs a ((a + k : Nat) : Int)) := fun h => Or.inr ⟨k, hk10, hlt, rfl, h, HA.out⟩
        have HA2 : Hid (128 ≤ xs.getD (a + k) 0 → ∀ j, j < k + 1 → 128 ≤ xs.getD (a + j) 0) := fun h j hj => by
          by_cases e : j = k
          · subst e; exact h
          · exact HA.out j (by omega)
        have hp2 : a + (k + 1) ≤ xs.length := by omega
        generalize xs.getD (a + k) 0 = x at *
        generalize a + k = p at *
        have l2 : (p : Int) < (xs.length : Int) := by omega
        have l3 : (0 : Int) ≤ (p : Int) := by omega
        by_cases hx8 : x < 128
        · have l4 : (x : Int) < 128 := by omega
          go_wp2
          go_quiet (fail)
          go_wp2
          go_quiet (fail)
          go_wp2
          go_ret
          exact ⟨_, rfl, HFin.out hx8, _, by rw [HW.out, World.drewN_drewN]⟩
        · have l4 : ¬ (x : Int) < 128 := by omega
          go_wp2
          go_quiet (fail)
          go_wp2
          go_quiet (fail)
          go_wp2
          go_roundw
          case rel => exact ⟨k + 1, _, by omega, hp2, by go_num, by show _ = _; rw [HW.out, World.drewN_drewN], HA2.out (by omega)⟩
          case measure => simp [intOf]; omega
      · have hE : Last xs a (-1) := Or.inl ⟨rfl, fun j hj hja => HA.out j (by omega)⟩
        have HE := hide hE
        clear hE
        generalize a + k = p at *
        have l2 : ¬ (p : Int) < (xs.length : Int) := by omega
        go_wp2
        go_quiet (fail)
        go_wp2
        go_ret
        exact ⟨_, rfl, HE.out, q + nq, by rw [HW.out, World.drewN_drewN]⟩
    · obtain rfl : k = 10 := by omega
      have HE : Hid (Last xs a (-1)) := Or.inl ⟨rfl, fun j hj _ => HA.out j hj⟩
      go_wp2
      go_quiet (fail)
      go_wp2
      go_ret
      exact ⟨_, rfl, HE.out, q + nq, by rw [HW.out, World.drewN_drewN]⟩

end Go.Proofs.YtfjhbbekeibpkaaDoor.C
