import Derived.Test.YtbacgkfmnccheaaDoorRefP
namespace Go.Proofs.YtbacgkfmnccheaaDoor
open Go.RowKit

set_option maxRecDepth 100000 in
theorem accB_lt (s : ByteArray) (i c0 : Nat) (h0 : c0 < 64) : ∀ k, (∀ j, 1 ≤ j → j < k + 1 → cont s i j) → accB s i c0 (k + 1) < 64 * 64 ^ k
  | 0, _ => by show c0 < 64 * 64 ^ 0; omega
  | k + 1, hc => by
    have ih := accB_lt s i c0 h0 k (fun j h1 h2 => hc j h1 (by omega))
    obtain ⟨_, h1, h2⟩ := hc (k + 1) (by omega) (by omega)
    have e : accB s i c0 (k + 1 + 1) = 64 * accB s i c0 (k + 1) + (s.get! (i + (k + 1))).toNat - 128 := rfl
    rw [e, Nat.pow_succ]
    generalize accB s i c0 (k + 1) = A at *
    generalize (s.get! (i + (k + 1))).toNat = y at *
    generalize 64 ^ k = P at *
    clear hc e
    omega

theorem accB_small (s : ByteArray) (i c0 : Nat) (h0 : c0 < 64) (k : Nat) (hk1 : 1 ≤ k) (hk : k ≤ 4) (hc : ∀ j, 1 ≤ j → j < k → cont s i j) : accB s i c0 k < 16777216 := by
  obtain ⟨j, rfl⟩ : ∃ j, k = j + 1 := ⟨k - 1, by omega⟩
  have := accB_lt s i c0 h0 j hc
  have h2 : 64 ^ j ≤ 64 ^ 3 := Nat.pow_le_pow_right (by omega) (by omega)
  generalize 64 ^ j = P at *
  have : 64 * 64 ^ 3 = 16777216 := by decide
  omega

theorem acc_step (s : ByteArray) (i c0 j p a y : Nat) (hj1 : 1 ≤ j) (ha : a = accB s i c0 j) (hp : p = i + j) (hy : (s.get! p).toNat = y) : 64 * a + y - 128 = accB s i c0 (j + 1) := by
  obtain ⟨k, rfl⟩ : ∃ k, j = k + 1 := ⟨j - 1, by omega⟩
  subst ha hp hy
  rfl

theorem ret_pair {a b c d : Nat} (h : (a, b) = (c, d)) : Ending.returned (.tuple #[.int .i64 (a : Int), .int .i64 (b : Int)]) = .returned (.tuple #[.int .i64 (c : Int), .int .i64 (d : Int)]) := by
  cases h; rfl

def PtGoal (w : World) (s : ByteArray) (i : Nat) : Prop := Calls Tryd.prog 37 #[.string s, .int .i64 i] w fun e w' => e = .returned (.tuple #[.int .i64 ((pt s i).1 : Nat), .int .i64 ((pt s i).2 : Nat)]) ∧ w' = w

set_option maxRecDepth 100000 in
set_option maxHeartbeats 400000 in
theorem point_2 (w : World) (s : ByteArray) (i : Nat) (hi : i < s.size) (hs : s.size ≤ 140737488355328) (x : Nat) (hxe : (s.get! i).toNat = x) (hlo : 194 ≤ x) (hhi : x ≤ 223) : PtGoal w s i := by
  unfold PtGoal
  have hix : (s[i]'hi).toNat = x := by rw [← hxe, byte_get s i hi]
  have HX := hide hxe
  clear hxe
  have HA : Hid (194 ≤ (s.get! i).toNat ∧ (s.get! i).toNat ≤ 244) := by show _ ∧ _; rw [HX.out]; omega
  have l0 : (0 : Int) ≤ (i : Int) := by omega
  have l1 : (i : Int) < (s.size : Int) := by omega
  have z0 : (128 : Int) ≤ (x : Int) := by omega
  have y0 : decide ((x : Int) < 128) = false := decide_eq_false (by omega)
  have y1 : (194 : Int) ≤ (x : Int) := by omega
  have y1b : (x : Int) ≤ 223 := by omega
  have hk : kind x = (2, x - 192, 128) := by unfold kind; rw [if_pos hhi]
  obtain ⟨c0, hc0⟩ : ∃ c0, c0 = x - 192 := ⟨_, rfl⟩
  have hc0' : (x : Int) - 192 = (c0 : Int) := by omega
  have hc64 : c0 < 64 := by omega
  rw [← hc0] at hk
  have HK := hide hk
  clear hk hc0
  obtain ⟨P1, P2, hP⟩ : ∃ P1 P2, pt s i = (P1, P2) := ⟨_, _, rfl⟩
  rw [hP]
  have HP := hide hP
  clear hP
  simp only
  go_enter Tryd.func37, Tryd.ntmps37
  go_wp2
  clear hc0' hix z0 y0 y1 y1b
  go_loopw [6, 9] (fun c k wr => ∃ (j a : Nat), 1 ≤ j ∧ j ≤ 2 ∧ c = .int .i64 (a : Int) ∧ k = .int .i64 (j : Int) ∧ wr = w ∧ a < 16777216 ∧ Hid (a = accB s i c0 j) ∧ Hid (∀ q, 1 ≤ q → q < j → cont s i q)) (fun _ k _ => 2 - (intOf k).toNat)
  case atStart => exact ⟨1, c0, by omega, by omega, rfl, rfl, rfl, by omega, hide rfl, hide (fun q h1 h2 => by omega)⟩
  case round =>
    obtain ⟨j, a, hj1, hjN, rfl, rfl, rfl, ha, HAc, HC⟩ := hrel
    by_cases hlt : j < 2
    · have u1 : (j : Int) < 2 := by omega
      obtain ⟨p, hp⟩ : ∃ p, p = i + j := ⟨_, rfl⟩
      have v1 : (i : Int) + (j : Int) = (p : Int) := by omega
      have v3 : (0 : Int) ≤ (p : Int) := by omega
      by_cases hin : p < s.size
      · have u2 : decide ((s.size : Int) ≤ (p : Int)) = false := decide_eq_false (by omega)
        have u2b : decide (s.size ≤ p) = false := decide_eq_false (by omega)
        have u3 : (p : Int) < (s.size : Int) := by omega
        obtain ⟨y, hy⟩ : ∃ y, (s.get! p).toNat = y := ⟨_, rfl⟩
        have hyx : (s[p]'hin).toNat = y := by rw [← hy, byte_get s p hin]
        have HY := hide hy
        clear hy
        by_cases g1 : y < 128
        · have g1' : (y : Int) < 128 := by omega
          have HZ := hide (pt_short s i j hi HA.out.1 HA.out.2 hj1 (by rw [HX.out, HK.out]; exact hlt) (by subst hp; rintro ⟨_, h, _⟩; rw [HY.out] at h; omega))
          have HZ2 : Hid ((0, 0) = (P1, P2)) := HZ.out.symm.trans HP.out
          clear hp
          go_wp2
          go_ret2
          exact ⟨ret_pair HZ2.out, rfl⟩
        · have g1' : decide ((y : Int) < 128) = false := decide_eq_false (by omega)
          by_cases g2 : 191 < y
          · have g2' : (191 : Int) < (y : Int) := by omega
            have HZ := hide (pt_short s i j hi HA.out.1 HA.out.2 hj1 (by rw [HX.out, HK.out]; exact hlt) (by subst hp; rintro ⟨_, _, h⟩; rw [HY.out] at h; omega))
            have HZ2 : Hid ((0, 0) = (P1, P2)) := HZ.out.symm.trans HP.out
            clear hp
            go_wp2
            go_ret2
            exact ⟨ret_pair HZ2.out, rfl⟩
          · have g2' : decide ((191 : Int) < (y : Int)) = false := decide_eq_false (by omega)
            have hct : cont s i j := by subst hp; exact ⟨hin, by rw [HY.out]; omega, by rw [HY.out]; omega⟩
            have HC2 : Hid (∀ q, 1 ≤ q → q < j + 1 → cont s i q) := fun q q1 q2 => by
              by_cases e : q = j
              · rw [e]; exact hct
              · exact HC.out q q1 (by omega)
            have hst := acc_step s i c0 j p a y hj1 HAc.out hp HY.out
            have hsm := accB_small s i c0 hc64 (j + 1) (by omega) (by omega) HC2.out
            obtain ⟨a2, ha2⟩ : ∃ a2, accB s i c0 (j + 1) = a2 := ⟨_, rfl⟩
            have HA2 : Hid (a2 = accB s i c0 (j + 1)) := ha2.symm
            rw [ha2] at hst hsm
            clear ha2
            have hyb : y < 256 := by omega
            have t1 : 64 * (a : Int) + (y : Int) - 128 = (a2 : Int) := by omega
            clear hp hct hst
            go_wp2
            go_roundw
            case rel => exact ⟨j + 1, a2, by omega, by omega, by go_num, by go_num, (by first | trivial | rfl), hsm, HA2, HC2⟩
            case measure => simp [intOf]; omega
      · have u2 : (s.size : Int) ≤ (p : Int) := by omega
        have u2b : s.size ≤ p := by omega
        have HZ := hide (pt_short s i j hi HA.out.1 HA.out.2 hj1 (by rw [HX.out, HK.out]; exact hlt) (by subst hp; rintro ⟨h, _⟩; omega))
        have HZ2 : Hid ((0, 0) = (P1, P2)) := HZ.out.symm.trans HP.out
        clear hp hin
        go_wp2
        go_ret2
        exact ⟨ret_pair HZ2.out, rfl⟩
    · have u1 : decide ((j : Int) < 2) = false := decide_eq_false (by omega)
      have u1b : decide (j < 2) = false := decide_eq_false (by omega)
      obtain rfl : j = 2 := by omega
      have hall := pt_all s i hi HA.out.1 HA.out.2 (fun q q1 q2 => HC.out q q1 (by rw [HX.out, HK.out] at q2; exact q2)) a (by rw [HX.out, HK.out]; exact HAc.out)
      rw [HX.out, HK.out] at hall
      simp only at hall
      rw [HP.out] at hall
      have HAll := hide hall
      clear hall u1b hlt
      by_cases e1 : a < 128
      · have e1' : (a : Int) < 128 := by omega
        have HZ2 : Hid ((0, 0) = (P1, P2)) := by show _ = _; rw [HAll.out, if_pos (Or.inl e1)]
        go_wp2
        go_ret2
        exact ⟨ret_pair HZ2.out, rfl⟩
      · have e1' : decide ((a : Int) < 128) = false := decide_eq_false (by omega)
        by_cases e2 : 1114111 < a
        · have e2' : (1114111 : Int) < (a : Int) := by omega
          have HZ2 : Hid ((0, 0) = (P1, P2)) := by show _ = _; rw [HAll.out, if_pos (Or.inr (Or.inl e2))]
          go_wp2
          go_ret2
          exact ⟨ret_pair HZ2.out, rfl⟩
        · have e2' : decide ((1114111 : Int) < (a : Int)) = false := decide_eq_false (by omega)
          by_cases e3 : 55296 ≤ a
          · have e3' : (55296 : Int) ≤ (a : Int) := by omega
            by_cases e4 : a ≤ 57343
            · have e4' : (a : Int) ≤ 57343 := by omega
              have HZ2 : Hid ((0, 0) = (P1, P2)) := by show _ = _; rw [HAll.out, if_pos (Or.inr (Or.inr ⟨e3, e4⟩))]
              go_wp2
              go_ret2
              exact ⟨ret_pair HZ2.out, rfl⟩
            · have e4' : decide ((a : Int) ≤ 57343) = false := decide_eq_false (by omega)
              have HZ2 : Hid ((a, 2) = (P1, P2)) := by show _ = _; rw [HAll.out, if_neg (by omega)]
              go_wp2
              go_ret2
              exact ⟨ret_pair HZ2.out, rfl⟩
          · have e3' : decide ((55296 : Int) ≤ (a : Int)) = false := decide_eq_false (by omega)
            have HZ2 : Hid ((a, 2) = (P1, P2)) := by show _ = _; rw [HAll.out, if_neg (by omega)]
            go_wp2
            go_ret2
            exact ⟨ret_pair HZ2.out, rfl⟩

set_option maxRecDepth 100000 in
set_option maxHeartbeats 400000 in
theorem point_3 (w : World) (s : ByteArray) (i : Nat) (hi : i < s.size) (hs : s.size ≤ 140737488355328) (x : Nat) (hxe : (s.get! i).toNat = x) (hlo : 224 ≤ x) (hhi : x ≤ 239) : PtGoal w s i := by
  unfold PtGoal
  have hix : (s[i]'hi).toNat = x := by rw [← hxe, byte_get s i hi]
  have HX := hide hxe
  clear hxe
  have HA : Hid (194 ≤ (s.get! i).toNat ∧ (s.get! i).toNat ≤ 244) := by show _ ∧ _; rw [HX.out]; omega
  have l0 : (0 : Int) ≤ (i : Int) := by omega
  have l1 : (i : Int) < (s.size : Int) := by omega
  have z0 : (128 : Int) ≤ (x : Int) := by omega
  have y0 : decide ((x : Int) < 128) = false := decide_eq_false (by omega)
  have y1 : (194 : Int) ≤ (x : Int) := by omega
  have y1b : decide ((x : Int) ≤ 223) = false := decide_eq_false (by omega)
  have y2 : (224 : Int) ≤ (x : Int) := by omega
  have y2b : (x : Int) ≤ 239 := by omega
  have hk : kind x = (3, x - 224, 2048) := by unfold kind; rw [if_neg (by omega), if_pos hhi]
  obtain ⟨c0, hc0⟩ : ∃ c0, c0 = x - 224 := ⟨_, rfl⟩
  have hc0' : (x : Int) - 224 = (c0 : Int) := by omega
  have hc64 : c0 < 64 := by omega
  rw [← hc0] at hk
  have HK := hide hk
  clear hk hc0
  obtain ⟨P1, P2, hP⟩ : ∃ P1 P2, pt s i = (P1, P2) := ⟨_, _, rfl⟩
  rw [hP]
  have HP := hide hP
  clear hP
  simp only
  go_enter Tryd.func37, Tryd.ntmps37
  go_wp2
  clear hc0' hix z0 y0 y1 y1b y2 y2b
  go_loopw [6, 9] (fun c k wr => ∃ (j a : Nat), 1 ≤ j ∧ j ≤ 3 ∧ c = .int .i64 (a : Int) ∧ k = .int .i64 (j : Int) ∧ wr = w ∧ a < 16777216 ∧ Hid (a = accB s i c0 j) ∧ Hid (∀ q, 1 ≤ q → q < j → cont s i q)) (fun _ k _ => 3 - (intOf k).toNat)
  case atStart => exact ⟨1, c0, by omega, by omega, rfl, rfl, rfl, by omega, hide rfl, hide (fun q h1 h2 => by omega)⟩
  case round =>
    obtain ⟨j, a, hj1, hjN, rfl, rfl, rfl, ha, HAc, HC⟩ := hrel
    by_cases hlt : j < 3
    · have u1 : (j : Int) < 3 := by omega
      obtain ⟨p, hp⟩ : ∃ p, p = i + j := ⟨_, rfl⟩
      have v1 : (i : Int) + (j : Int) = (p : Int) := by omega
      have v3 : (0 : Int) ≤ (p : Int) := by omega
      by_cases hin : p < s.size
      · have u2 : decide ((s.size : Int) ≤ (p : Int)) = false := decide_eq_false (by omega)
        have u2b : decide (s.size ≤ p) = false := decide_eq_false (by omega)
        have u3 : (p : Int) < (s.size : Int) := by omega
        obtain ⟨y, hy⟩ : ∃ y, (s.get! p).toNat = y := ⟨_, rfl⟩
        have hyx : (s[p]'hin).toNat = y := by rw [← hy, byte_get s p hin]
        have HY := hide hy
        clear hy
        by_cases g1 : y < 128
        · have g1' : (y : Int) < 128 := by omega
          have HZ := hide (pt_short s i j hi HA.out.1 HA.out.2 hj1 (by rw [HX.out, HK.out]; exact hlt) (by subst hp; rintro ⟨_, h, _⟩; rw [HY.out] at h; omega))
          have HZ2 : Hid ((0, 0) = (P1, P2)) := HZ.out.symm.trans HP.out
          clear hp
          go_wp2
          go_ret2
          exact ⟨ret_pair HZ2.out, rfl⟩
        · have g1' : decide ((y : Int) < 128) = false := decide_eq_false (by omega)
          by_cases g2 : 191 < y
          · have g2' : (191 : Int) < (y : Int) := by omega
            have HZ := hide (pt_short s i j hi HA.out.1 HA.out.2 hj1 (by rw [HX.out, HK.out]; exact hlt) (by subst hp; rintro ⟨_, _, h⟩; rw [HY.out] at h; omega))
            have HZ2 : Hid ((0, 0) = (P1, P2)) := HZ.out.symm.trans HP.out
            clear hp
            go_wp2
            go_ret2
            exact ⟨ret_pair HZ2.out, rfl⟩
          · have g2' : decide ((191 : Int) < (y : Int)) = false := decide_eq_false (by omega)
            have hct : cont s i j := by subst hp; exact ⟨hin, by rw [HY.out]; omega, by rw [HY.out]; omega⟩
            have HC2 : Hid (∀ q, 1 ≤ q → q < j + 1 → cont s i q) := fun q q1 q2 => by
              by_cases e : q = j
              · rw [e]; exact hct
              · exact HC.out q q1 (by omega)
            have hst := acc_step s i c0 j p a y hj1 HAc.out hp HY.out
            have hsm := accB_small s i c0 hc64 (j + 1) (by omega) (by omega) HC2.out
            obtain ⟨a2, ha2⟩ : ∃ a2, accB s i c0 (j + 1) = a2 := ⟨_, rfl⟩
            have HA2 : Hid (a2 = accB s i c0 (j + 1)) := ha2.symm
            rw [ha2] at hst hsm
            clear ha2
            have hyb : y < 256 := by omega
            have t1 : 64 * (a : Int) + (y : Int) - 128 = (a2 : Int) := by omega
            clear hp hct hst
            go_wp2
            go_roundw
            case rel => exact ⟨j + 1, a2, by omega, by omega, by go_num, by go_num, (by first | trivial | rfl), hsm, HA2, HC2⟩
            case measure => simp [intOf]; omega
      · have u2 : (s.size : Int) ≤ (p : Int) := by omega
        have u2b : s.size ≤ p := by omega
        have HZ := hide (pt_short s i j hi HA.out.1 HA.out.2 hj1 (by rw [HX.out, HK.out]; exact hlt) (by subst hp; rintro ⟨h, _⟩; omega))
        have HZ2 : Hid ((0, 0) = (P1, P2)) := HZ.out.symm.trans HP.out
        clear hp hin
        go_wp2
        go_ret2
        exact ⟨ret_pair HZ2.out, rfl⟩
    · have u1 : decide ((j : Int) < 3) = false := decide_eq_false (by omega)
      have u1b : decide (j < 3) = false := decide_eq_false (by omega)
      obtain rfl : j = 3 := by omega
      have hall := pt_all s i hi HA.out.1 HA.out.2 (fun q q1 q2 => HC.out q q1 (by rw [HX.out, HK.out] at q2; exact q2)) a (by rw [HX.out, HK.out]; exact HAc.out)
      rw [HX.out, HK.out] at hall
      simp only at hall
      rw [HP.out] at hall
      have HAll := hide hall
      clear hall u1b hlt
      by_cases e1 : a < 2048
      · have e1' : (a : Int) < 2048 := by omega
        have HZ2 : Hid ((0, 0) = (P1, P2)) := by show _ = _; rw [HAll.out, if_pos (Or.inl e1)]
        go_wp2
        go_ret2
        exact ⟨ret_pair HZ2.out, rfl⟩
      · have e1' : decide ((a : Int) < 2048) = false := decide_eq_false (by omega)
        by_cases e2 : 1114111 < a
        · have e2' : (1114111 : Int) < (a : Int) := by omega
          have HZ2 : Hid ((0, 0) = (P1, P2)) := by show _ = _; rw [HAll.out, if_pos (Or.inr (Or.inl e2))]
          go_wp2
          go_ret2
          exact ⟨ret_pair HZ2.out, rfl⟩
        · have e2' : decide ((1114111 : Int) < (a : Int)) = false := decide_eq_false (by omega)
          by_cases e3 : 55296 ≤ a
          · have e3' : (55296 : Int) ≤ (a : Int) := by omega
            by_cases e4 : a ≤ 57343
            · have e4' : (a : Int) ≤ 57343 := by omega
              have HZ2 : Hid ((0, 0) = (P1, P2)) := by show _ = _; rw [HAll.out, if_pos (Or.inr (Or.inr ⟨e3, e4⟩))]
              go_wp2
              go_ret2
              exact ⟨ret_pair HZ2.out, rfl⟩
            · have e4' : decide ((a : Int) ≤ 57343) = false := decide_eq_false (by omega)
              have HZ2 : Hid ((a, 3) = (P1, P2)) := by show _ = _; rw [HAll.out, if_neg (by omega)]
              go_wp2
              go_ret2
              exact ⟨ret_pair HZ2.out, rfl⟩
          · have e3' : decide ((55296 : Int) ≤ (a : Int)) = false := decide_eq_false (by omega)
            have HZ2 : Hid ((a, 3) = (P1, P2)) := by show _ = _; rw [HAll.out, if_neg (by omega)]
            go_wp2
            go_ret2
            exact ⟨ret_pair HZ2.out, rfl⟩

set_option maxRecDepth 100000 in
set_option maxHeartbeats 400000 in
theorem point_4 (w : World) (s : ByteArray) (i : Nat) (hi : i < s.size) (hs : s.size ≤ 140737488355328) (x : Nat) (hxe : (s.get! i).toNat = x) (hlo : 240 ≤ x) (hhi : x ≤ 244) : PtGoal w s i := by
  unfold PtGoal
  have hix : (s[i]'hi).toNat = x := by rw [← hxe, byte_get s i hi]
  have HX := hide hxe
  clear hxe
  have HA : Hid (194 ≤ (s.get! i).toNat ∧ (s.get! i).toNat ≤ 244) := by show _ ∧ _; rw [HX.out]; omega
  have l0 : (0 : Int) ≤ (i : Int) := by omega
  have l1 : (i : Int) < (s.size : Int) := by omega
  have z0 : (128 : Int) ≤ (x : Int) := by omega
  have y0 : decide ((x : Int) < 128) = false := decide_eq_false (by omega)
  have y1 : (194 : Int) ≤ (x : Int) := by omega
  have y1b : decide ((x : Int) ≤ 223) = false := decide_eq_false (by omega)
  have y2 : (224 : Int) ≤ (x : Int) := by omega
  have y2b : decide ((x : Int) ≤ 239) = false := decide_eq_false (by omega)
  have y3 : (240 : Int) ≤ (x : Int) := by omega
  have y3b : (x : Int) ≤ 244 := by omega
  have hk : kind x = (4, x - 240, 65536) := by unfold kind; rw [if_neg (by omega), if_neg (by omega)]
  obtain ⟨c0, hc0⟩ : ∃ c0, c0 = x - 240 := ⟨_, rfl⟩
  have hc0' : (x : Int) - 240 = (c0 : Int) := by omega
  have hc64 : c0 < 64 := by omega
  rw [← hc0] at hk
  have HK := hide hk
  clear hk hc0
  obtain ⟨P1, P2, hP⟩ : ∃ P1 P2, pt s i = (P1, P2) := ⟨_, _, rfl⟩
  rw [hP]
  have HP := hide hP
  clear hP
  simp only
  go_enter Tryd.func37, Tryd.ntmps37
  go_wp2
  clear hc0' hix z0 y0 y1 y1b y2 y2b y3 y3b
  go_loopw [6, 9] (fun c k wr => ∃ (j a : Nat), 1 ≤ j ∧ j ≤ 4 ∧ c = .int .i64 (a : Int) ∧ k = .int .i64 (j : Int) ∧ wr = w ∧ a < 16777216 ∧ Hid (a = accB s i c0 j) ∧ Hid (∀ q, 1 ≤ q → q < j → cont s i q)) (fun _ k _ => 4 - (intOf k).toNat)
  case atStart => exact ⟨1, c0, by omega, by omega, rfl, rfl, rfl, by omega, hide rfl, hide (fun q h1 h2 => by omega)⟩
  case round =>
    obtain ⟨j, a, hj1, hjN, rfl, rfl, rfl, ha, HAc, HC⟩ := hrel
    by_cases hlt : j < 4
    · have u1 : (j : Int) < 4 := by omega
      obtain ⟨p, hp⟩ : ∃ p, p = i + j := ⟨_, rfl⟩
      have v1 : (i : Int) + (j : Int) = (p : Int) := by omega
      have v3 : (0 : Int) ≤ (p : Int) := by omega
      by_cases hin : p < s.size
      · have u2 : decide ((s.size : Int) ≤ (p : Int)) = false := decide_eq_false (by omega)
        have u2b : decide (s.size ≤ p) = false := decide_eq_false (by omega)
        have u3 : (p : Int) < (s.size : Int) := by omega
        obtain ⟨y, hy⟩ : ∃ y, (s.get! p).toNat = y := ⟨_, rfl⟩
        have hyx : (s[p]'hin).toNat = y := by rw [← hy, byte_get s p hin]
        have HY := hide hy
        clear hy
        by_cases g1 : y < 128
        · have g1' : (y : Int) < 128 := by omega
          have HZ := hide (pt_short s i j hi HA.out.1 HA.out.2 hj1 (by rw [HX.out, HK.out]; exact hlt) (by subst hp; rintro ⟨_, h, _⟩; rw [HY.out] at h; omega))
          have HZ2 : Hid ((0, 0) = (P1, P2)) := HZ.out.symm.trans HP.out
          clear hp
          go_wp2
          go_ret2
          exact ⟨ret_pair HZ2.out, rfl⟩
        · have g1' : decide ((y : Int) < 128) = false := decide_eq_false (by omega)
          by_cases g2 : 191 < y
          · have g2' : (191 : Int) < (y : Int) := by omega
            have HZ := hide (pt_short s i j hi HA.out.1 HA.out.2 hj1 (by rw [HX.out, HK.out]; exact hlt) (by subst hp; rintro ⟨_, _, h⟩; rw [HY.out] at h; omega))
            have HZ2 : Hid ((0, 0) = (P1, P2)) := HZ.out.symm.trans HP.out
            clear hp
            go_wp2
            go_ret2
            exact ⟨ret_pair HZ2.out, rfl⟩
          · have g2' : decide ((191 : Int) < (y : Int)) = false := decide_eq_false (by omega)
            have hct : cont s i j := by subst hp; exact ⟨hin, by rw [HY.out]; omega, by rw [HY.out]; omega⟩
            have HC2 : Hid (∀ q, 1 ≤ q → q < j + 1 → cont s i q) := fun q q1 q2 => by
              by_cases e : q = j
              · rw [e]; exact hct
              · exact HC.out q q1 (by omega)
            have hst := acc_step s i c0 j p a y hj1 HAc.out hp HY.out
            have hsm := accB_small s i c0 hc64 (j + 1) (by omega) (by omega) HC2.out
            obtain ⟨a2, ha2⟩ : ∃ a2, accB s i c0 (j + 1) = a2 := ⟨_, rfl⟩
            have HA2 : Hid (a2 = accB s i c0 (j + 1)) := ha2.symm
            rw [ha2] at hst hsm
            clear ha2
            have hyb : y < 256 := by omega
            have t1 : 64 * (a : Int) + (y : Int) - 128 = (a2 : Int) := by omega
            clear hp hct hst
            go_wp2
            go_roundw
            case rel => exact ⟨j + 1, a2, by omega, by omega, by go_num, by go_num, (by first | trivial | rfl), hsm, HA2, HC2⟩
            case measure => simp [intOf]; omega
      · have u2 : (s.size : Int) ≤ (p : Int) := by omega
        have u2b : s.size ≤ p := by omega
        have HZ := hide (pt_short s i j hi HA.out.1 HA.out.2 hj1 (by rw [HX.out, HK.out]; exact hlt) (by subst hp; rintro ⟨h, _⟩; omega))
        have HZ2 : Hid ((0, 0) = (P1, P2)) := HZ.out.symm.trans HP.out
        clear hp hin
        go_wp2
        go_ret2
        exact ⟨ret_pair HZ2.out, rfl⟩
    · have u1 : decide ((j : Int) < 4) = false := decide_eq_false (by omega)
      have u1b : decide (j < 4) = false := decide_eq_false (by omega)
      obtain rfl : j = 4 := by omega
      have hall := pt_all s i hi HA.out.1 HA.out.2 (fun q q1 q2 => HC.out q q1 (by rw [HX.out, HK.out] at q2; exact q2)) a (by rw [HX.out, HK.out]; exact HAc.out)
      rw [HX.out, HK.out] at hall
      simp only at hall
      rw [HP.out] at hall
      have HAll := hide hall
      clear hall u1b hlt
      by_cases e1 : a < 65536
      · have e1' : (a : Int) < 65536 := by omega
        have HZ2 : Hid ((0, 0) = (P1, P2)) := by show _ = _; rw [HAll.out, if_pos (Or.inl e1)]
        go_wp2
        go_ret2
        exact ⟨ret_pair HZ2.out, rfl⟩
      · have e1' : decide ((a : Int) < 65536) = false := decide_eq_false (by omega)
        by_cases e2 : 1114111 < a
        · have e2' : (1114111 : Int) < (a : Int) := by omega
          have HZ2 : Hid ((0, 0) = (P1, P2)) := by show _ = _; rw [HAll.out, if_pos (Or.inr (Or.inl e2))]
          go_wp2
          go_ret2
          exact ⟨ret_pair HZ2.out, rfl⟩
        · have e2' : decide ((1114111 : Int) < (a : Int)) = false := decide_eq_false (by omega)
          by_cases e3 : 55296 ≤ a
          · have e3' : (55296 : Int) ≤ (a : Int) := by omega
            by_cases e4 : a ≤ 57343
            · have e4' : (a : Int) ≤ 57343 := by omega
              have HZ2 : Hid ((0, 0) = (P1, P2)) := by show _ = _; rw [HAll.out, if_pos (Or.inr (Or.inr ⟨e3, e4⟩))]
              go_wp2
              go_ret2
              exact ⟨ret_pair HZ2.out, rfl⟩
            · have e4' : decide ((a : Int) ≤ 57343) = false := decide_eq_false (by omega)
              have HZ2 : Hid ((a, 4) = (P1, P2)) := by show _ = _; rw [HAll.out, if_neg (by omega)]
              go_wp2
              go_ret2
              exact ⟨ret_pair HZ2.out, rfl⟩
          · have e3' : decide ((55296 : Int) ≤ (a : Int)) = false := decide_eq_false (by omega)
            have HZ2 : Hid ((a, 4) = (P1, P2)) := by show _ = _; rw [HAll.out, if_neg (by omega)]
            go_wp2
            go_ret2
            exact ⟨ret_pair HZ2.out, rfl⟩


set_option maxRecDepth 100000 in
set_option maxHeartbeats 400000 in
theorem point_any (w : World) (s : ByteArray) (i : Nat) (hi : i < s.size) (hs : s.size ≤ 140737488355328) :
    Calls Tryd.prog 37 #[.string s, .int .i64 i] w fun e w' => e = .returned (.tuple #[.int .i64 ((pt s i).1 : Nat), .int .i64 ((pt s i).2 : Nat)]) ∧ w' = w := by
  obtain ⟨x, hxe⟩ : ∃ x, (s.get! i).toNat = x := ⟨_, rfl⟩
  have hx : x < 256 := by rw [← hxe]; exact (s.get! i).toNat_lt
  by_cases ha : x < 128
  · have hix : (s[i]'hi).toNat = x := by rw [← hxe, byte_get s i hi]
    have HX := hide hxe
    clear hxe
    have l0 : (0 : Int) ≤ (i : Int) := by omega
    have l1 : (i : Int) < (s.size : Int) := by omega
    have z0 : (x : Int) < 128 := by omega
    rw [pt_ascii s i hi (by rw [HX.out]; exact ha), HX.out]
    go_enter Tryd.func37, Tryd.ntmps37
    go_wp2
    go_ret2
    exact ⟨rfl, rfl⟩
  · by_cases h1 : x < 194
    · have hix : (s[i]'hi).toNat = x := by rw [← hxe, byte_get s i hi]
      have HX := hide hxe
      clear hxe
      have l0 : (0 : Int) ≤ (i : Int) := by omega
      have l1 : (i : Int) < (s.size : Int) := by omega
      have z0 : (128 : Int) ≤ (x : Int) := by omega
      have y0 : decide ((x : Int) < 128) = false := decide_eq_false (by omega)
      have y1 : decide ((194 : Int) ≤ (x : Int)) = false := decide_eq_false (by omega)
      have y2 : decide ((224 : Int) ≤ (x : Int)) = false := decide_eq_false (by omega)
      have y3 : decide ((240 : Int) ≤ (x : Int)) = false := decide_eq_false (by omega)
      rw [pt_lead s i hi (by rw [HX.out]; omega) (by rw [HX.out]; omega)]
      go_enter Tryd.func37, Tryd.ntmps37
      go_wp2
      go_ret2
      exact ⟨rfl, rfl⟩
    · by_cases h4 : 244 < x
      · have hix : (s[i]'hi).toNat = x := by rw [← hxe, byte_get s i hi]
        have HX := hide hxe
        clear hxe
        have l0 : (0 : Int) ≤ (i : Int) := by omega
        have l1 : (i : Int) < (s.size : Int) := by omega
        have z0 : (128 : Int) ≤ (x : Int) := by omega
        have y0 : decide ((x : Int) < 128) = false := decide_eq_false (by omega)
        have y1 : (194 : Int) ≤ (x : Int) := by omega
        have y1b : decide ((x : Int) ≤ 223) = false := decide_eq_false (by omega)
        have y2 : (224 : Int) ≤ (x : Int) := by omega
        have y2b : decide ((x : Int) ≤ 239) = false := decide_eq_false (by omega)
        have y3 : (240 : Int) ≤ (x : Int) := by omega
        have y3b : decide ((x : Int) ≤ 244) = false := decide_eq_false (by omega)
        rw [pt_lead s i hi (by rw [HX.out]; omega) (by rw [HX.out]; omega)]
        go_enter Tryd.func37, Tryd.ntmps37
        go_wp2
        go_ret2
        exact ⟨rfl, rfl⟩
      · by_cases h2 : x ≤ 223
        · exact point_2 w s i hi hs x hxe (by omega) h2
        · by_cases h3 : x ≤ 239
          · exact point_3 w s i hi hs x hxe (by omega) h3
          · exact point_4 w s i hi hs x hxe (by omega) (by omega)

end Go.Proofs.YtbacgkfmnccheaaDoor
