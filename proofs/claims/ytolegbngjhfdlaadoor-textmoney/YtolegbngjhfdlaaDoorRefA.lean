import Derived.Test.YtolegbngjhfdlaaDoorWholesP
import Derived.Test.YtolegbngjhfdlaaDoorFoldQ
import Derived.RangeFuncRecord
namespace Go.Proofs.YtolegbngjhfdlaaDoor
open Go.RowKit

theorem one_byte2 (W : World) (x : Nat) (hx : x < 256) : ∃ t, (convert 39 9 (.slice (some ⟨W.heap.size, 0, none⟩) 1 1)).run Tryd.prog (W.alloc (.cells #[.int .u8 (x : Int)] 5)) = .ok (.string t) (W.alloc (.cells #[.int .u8 (x : Int)] 5)) ∧ nums t = [x] := by
  have h := World.alloc_heap_new W (.cells #[.int .u8 (x : Int)] 5)
  refine bytes_back _ W.heap.size 1 [x] (fun j hj => ?_) (by simp; exact hx) 1 rfl
  obtain rfl : j = 0 := by simpa using hj
  exact ⟨by unfold World.cell?; simp only [h]; rfl, by unfold World.frozen?; simp only [h]; rfl⟩

theorem ret_strs {a b : ByteArray} (h : a = b) : Ending.returned (.string a) = .returned (.string b) := by rw [h]

theorem rdigit_any (w : World) (c : Nat) : Calls Tryd.prog 38 #[.int .u8 c] w fun e w' => e = .returned (.bool (isDig c)) ∧ w' = w := by
  by_cases h0 : 48 ≤ c
  · have z0 : (48 : Int) ≤ (c : Int) := by omega
    by_cases h1 : c ≤ 57
    · have z1 : (c : Int) ≤ 57 := by omega
      have e : isDig c = true := by simp [isDig]; omega
      rw [e]
      go_enter Tryd.func38, Tryd.ntmps38
      go_wp2
      go_ret
      exact ⟨rfl, rfl⟩
    · have z1 : decide ((c : Int) ≤ 57) = false := decide_eq_false (by omega)
      have e : isDig c = false := by simp [isDig]; omega
      rw [e]
      go_enter Tryd.func38, Tryd.ntmps38
      go_wp2
      go_ret
      exact ⟨rfl, rfl⟩
  · have z0 : decide ((48 : Int) ≤ (c : Int)) = false := decide_eq_false (by omega)
    have e : isDig c = false := by simp [isDig]; omega
    rw [e]
    go_enter Tryd.func38, Tryd.ntmps38
    go_wp2
    go_ret
    exact ⟨rfl, rfl⟩

set_option maxRecDepth 100000 in
theorem size_any (w : World) (n : Int) (h0 : -9223372036854775808 ≤ n) (h1 : n ≤ 9223372036854775807) :
    Calls Tryd.prog 42 #[.int .i64 n] w fun e w' => e = .returned (.int .u64 (n.natAbs : Nat)) ∧ w' = w := by
  obtain ⟨u, hu⟩ : ∃ u, n.natAbs = u := ⟨_, rfl⟩
  rw [hu]
  by_cases hn : n < 0
  · have a1 : IntKind.i64.wrap (n + 1) = n + 1 := by rw [IntKind.wrap_i64]; omega
    have a2 : IntKind.i64.wrap (-(n + 1)) = -(n + 1) := by rw [IntKind.wrap_i64]; omega
    have a3 : IntKind.u64.wrap (-(n + 1)) = -(n + 1) := by rw [IntKind.wrap_u64]; omega
    have a4 : IntKind.u64.wrap (-(n + 1) + 1) = (u : Int) := by rw [IntKind.wrap_u64]; omega
    have HU := hide hu
    clear hu
    go_enter Tryd.func42, Tryd.ntmps42
    go_wp2
    go_ret
    exact ⟨ret_int (by have := HU.out; omega), rfl⟩
  · have z0 : decide (n < 0) = false := decide_eq_false (by omega)
    have a3 : IntKind.u64.wrap n = (u : Int) := by rw [IntKind.wrap_u64]; omega
    have HU := hide hu
    clear hu
    go_enter Tryd.func42, Tryd.ntmps42
    go_wp2
    go_ret
    exact ⟨ret_int (by have := HU.out; omega), rfl⟩

theorem nums_45 (a : ByteArray) : nums ((⟨#[45]⟩ : ByteArray) ++ a) = 45 :: nums a := by rw [nums_app]; rfl

set_option maxRecDepth 100000 in
set_option maxHeartbeats 400000 in
theorem rdigits_any (w : World) (n : Int) (h0 : -9223372036854775808 ≤ n) (h1 : n ≤ 9223372036854775807) :
    Calls Tryd.prog 22 #[.int .i64 n] w fun e w' => e = .returned (.string (str (dz n))) ∧ Below w.heap.size w w' := by
  obtain ⟨D, hD⟩ : ∃ D, str (dz n) = D := ⟨_, rfl⟩
  rw [hD]
  have HZ := hide (size_any w n h0 h1)
  obtain ⟨u, hu⟩ : ∃ u, n.natAbs = u := ⟨_, rfl⟩
  rw [hu] at HZ
  have hub : u < 18446744073709551616 := by omega
  have HD : Hid (∀ t, nums t = (if n < 0 then [45] else []) ++ dn u → t = D) := fun t ht => by
    rw [← hD, str_of ht]
    congr 1
    by_cases hn : n < 0
    · rw [if_pos hn, dz_neg n hn, hu]; rfl
    · rw [if_neg hn, dz_pos n hn, hu]; rfl
  clear hD hu
  go_enter Tryd.func22, Tryd.ntmps22
  go_wp2_with fail
  refine HZ.out.mono ?_
  rintro e w1 ⟨rfl, hb⟩
  obtain rfl := hb.symm
  clear hb HZ
  go_wp2
  go_loopw [3, 4] (fun a b wr => ∃ (m : Nat) (S : ByteArray), m ≤ u ∧ a = .int .u64 (m : Int) ∧ b = .string S ∧ Hid (dn m ++ nums S = dn u) ∧ Hid (Below w.heap.size w wr)) (fun a _ _ => (intOf a).toNat)
  case atStart => exact ⟨u, ⟨#[]⟩, Nat.le_refl _, rfl, rfl, hide (by simp [nums]), hide (Below.refl _ _)⟩
  case round =>
    obtain ⟨m, S, hm, rfl, rfl, HS, HB⟩ := hrel
    have hSs : S.size ≤ 20 := by
      have h1 := congrArg List.length HS.out
      have h2 := dn_len u hub
      rw [List.length_append, nums_len] at h1
      omega
    by_cases h10 : 10 ≤ m
    · have z0 : (10 : Int) ≤ (m : Int) := by omega
      obtain ⟨r, hr⟩ : ∃ r, m % 10 = r := ⟨_, rfl⟩
      obtain ⟨q, hq⟩ : ∃ q, m / 10 = q := ⟨_, rfl⟩
      have HQ : Hid (dn m = dn q ++ [48 + r]) := by show _ = _; rw [dn_more (by omega), hr, hq]
      have r1 : (m : Int) % 10 = (r : Int) := by omega
      have q1 : (m : Int) / 10 = (q : Int) := by omega
      have r2 : r < 10 := by omega
      have q2 : q < m := by omega
      clear hr hq
      obtain ⟨x, hx⟩ : ∃ x, x = 48 + r := ⟨_, rfl⟩
      have x1 : 48 + (r : Int) = (x : Int) := by omega
      have x2 : x < 58 := by omega
      obtain ⟨t, hcv, ht⟩ := one_byte2 wr x (by omega)
      have hts : t.size ≤ 1 := by rw [← nums_len, ht]; simp
      have HS2 : Hid (dn q ++ nums (t ++ S) = dn u) := by
        show _ = _
        rw [nums_app, ht, hx, ← HS.out, HQ.out, List.append_assoc]
      have HB2 : Hid (Below w.heap.size w (wr.alloc (.cells #[.int .u8 (x : Int)] 5))) := HB.out.alloc HB.out.size _
      clear ht hx HQ HS HB
      go_wp2
      go_roundw
      case rel => exact ⟨q, t ++ S, by omega, by go_num, rfl, HS2, HB2⟩
      case measure => simp [intOf]; omega
    · have z0 : decide ((10 : Int) ≤ (m : Int)) = false := decide_eq_false (by omega)
      have z0b : decide (10 ≤ m) = false := decide_eq_false (by omega)
      obtain ⟨x, hx⟩ : ∃ x, x = 48 + m := ⟨_, rfl⟩
      have x1 : 48 + (m : Int) = (x : Int) := by omega
      have x2 : x < 58 := by omega
      obtain ⟨t, hcv, ht⟩ := one_byte2 wr x (by omega)
      have hts : t.size ≤ 1 := by rw [← nums_len, ht]; simp
      have HS2 : Hid (nums (t ++ S) = dn u) := by
        show _ = _
        rw [nums_app, ht, hx, ← HS.out, dn_one (by omega)]
      have HB2 : Hid (Below w.heap.size w (wr.alloc (.cells #[.int .u8 (x : Int)] 5))) := HB.out.alloc HB.out.size _
      clear ht hx HS HB
      by_cases hn : n < 0
      · have HF := hide (HD.out (⟨#[45]⟩ ++ (t ++ S)) (by rw [nums_45, HS2.out, if_pos hn]; rfl))
        go_wp2
        go_ret
        exact ⟨ret_strs HF.out, HB2.out⟩
      · have zn : decide (n < 0) = false := decide_eq_false (by omega)
        have HF := hide (HD.out (t ++ S) (by rw [HS2.out, if_neg hn]; rfl))
        go_wp2
        go_ret
        exact ⟨ret_strs HF.out, HB2.out⟩

end Go.Proofs.YtolegbngjhfdlaaDoor
