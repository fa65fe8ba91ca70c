import Derived.Test.YtgfegkcmoedgkaaNums
import Derived.Deep.RegionWith
namespace Go.Proofs.Ytgfegkcmoedgkaa
open Go.RowKit
theorem total_any (w : World) (p : Option Addr) (l c : Nat) (zs : List Int) (h : Lst w p l zs) :
    Calls Try.prog 19 #[.slice p l c] w fun e w' => e = .returned (.tuple #[.int .i64 (fitv zs.sum), .bool (fits zs.sum)]) ∧ Below w.heap.size w w' := by
  have HN := hide h
  have hl : l ≤ 17592186044416 := h.most
  have HW : Hid (∀ a, I64 a → ∀ w, Calls Try.prog 30 #[.int .i64 a] w fun e w' => e = .returned (.agg #[.int .u64 (hiw a), .int .u64 (low a)]) ∧ Below w.heap.size w w') := widen_any
  have HP : Hid (∀ x y w, Calls Try.prog 31 #[.agg #[.int .u64 (hiw x), .int .u64 (low x)], .agg #[.int .u64 (hiw y), .int .u64 (low y)]] w fun e w' => e = .returned (.agg #[.int .u64 (hiw (x + y)), .int .u64 (low (x + y))]) ∧ Below w.heap.size w w') := plus_any
  have HZ : Hid (∀ w, Calls Try.prog 32 #[.agg #[.int .u64 (hiw zs.sum), .int .u64 (low zs.sum)]] w fun e w' => e = .returned (.tuple #[.int .i64 (fitv zs.sum), .bool (fits zs.sum)]) ∧ Below w.heap.size w w') := fun w => narrow_any _ (i128_sum h.each (by rw [h.len]; omega)) w
  have HA0 := hide (Acc.new w 60)
  clear h
  go_enter Try.func19, Try.ntmps19
  go_wp2
  go_loopw [9] (fun i wr => ∃ k : Nat, k ≤ l ∧ i = .int .i64 (k : Int) ∧ Hid (Acc w wr (zs.take k).sum)) (fun i _ => l - (intOf i).toNat)
  case atStart => exact ⟨0, by omega, rfl, HA0⟩
  case round =>
    obtain ⟨k, hk, rfl, HA⟩ := hrel
    clear HA0
    obtain ⟨c0, c1, f0, f1, _⟩ := HA.out
    by_cases hlt : k < l
    · have hlt' : k < zs.length := by rw [HN.out.len]; exact hlt
      obtain ⟨g, o, hp, hc1⟩ := (HN.out.lie.below HA.out.below (Nat.le_refl _)).at hlt'
      have HI := hide (HN.out.each _ (List.getElem_mem hlt'))
      have HS := hide (sum_take hlt')
      subst hp
      generalize zs[k]'hlt' = z at *
      generalize (zs.take k).sum = S at *
      have l1 : (k : Int) < (l : Int) := by omega
      have l2 : (0 : Int) ≤ (k : Int) := by omega
      go_wp2
      replace HA := hide (HA.out.up (Below.drew (Below.refl _ _)))
      clear c0 c1 f0 f1
      obtain ⟨c0, c1, f0, f1, _⟩ := HA.out
      go_region_with (first
        | (go_at_call 30; refine (HW.out _ HI.out _).mono ?_; rintro e w2 ⟨rfl, g2⟩; replace HA := hide (HA.out.up g2); clear c0 c1 f0 f1 g2; obtain ⟨c0, c1, f0, f1, _⟩ := HA.out)
        | (go_at_call 31; refine (HP.out _ _ _).mono ?_; rintro e w2 ⟨rfl, g2⟩; replace HA := hide (HA.out.up g2); clear c0 c1 f0 f1 g2; obtain ⟨c0, c1, f0, f1, _⟩ := HA.out))
      all_goals
        replace HA := hide (HA.out.set (S + z))
        clear c0 c1 f0 f1 hc1 HI
        generalize (w2.setCell ⟨w.heap.size, 0, none⟩ (.int .u64 (hiw (S + z)))).setCell ⟨w.heap.size, 1, none⟩ (.int .u64 (low (S + z))) = w3 at *
        rw [← HS.out] at HA
        clear HS
        go_wp2
        go_roundw
        case rel => exact ⟨k + 1, by omega, by go_num, HA⟩
        case measure => simp [intOf]; omega
    · have l1 : decide ((k : Int) < (l : Int)) = false := decide_eq_false (by omega)
      have hkl : zs.take k = zs := by rw [List.take_of_length_le]; rw [HN.out.len]; omega
      rw [hkl] at HA c0 c1
      go_wp2_with (first | (go_at_call 32; refine (HZ.out _).mono ?_; rintro e w2 ⟨rfl, g2⟩; replace HA := hide (HA.out.up g2); clear g2))
      go_ret2
      exact ⟨rfl, HA.out.below⟩
/-- The document's two words of a sum. -/
theorem ref_step (S z : Int) (hz : I64 z) : IntKind.u64.wrap (S % 18446744073709551616 + IntKind.u64.wrap z) = (S + z) % 18446744073709551616 ∧
    (((S + z) % 18446744073709551616 < S % 18446744073709551616 ∧ z < 0 ∧ (S + z) / 18446744073709551616 = S / 18446744073709551616) ∨
    ((S + z) % 18446744073709551616 < S % 18446744073709551616 ∧ ¬ z < 0 ∧ (S + z) / 18446744073709551616 = S / 18446744073709551616 + 1) ∨
    (¬ (S + z) % 18446744073709551616 < S % 18446744073709551616 ∧ z < 0 ∧ (S + z) / 18446744073709551616 = S / 18446744073709551616 - 1) ∨
    (¬ (S + z) % 18446744073709551616 < S % 18446744073709551616 ∧ ¬ z < 0 ∧ (S + z) / 18446744073709551616 = S / 18446744073709551616)) := by
  obtain ⟨h1, h2⟩ := hz
  simp only [IntKind.wrap_u64]
  constructor
  · omega
  · omega
/-- The document's test at the end. -/
theorem ref_end (S : Int) : (S / 18446744073709551616 = 0 ∧ S % 18446744073709551616 < 9223372036854775808 ∧ fits S = true ∧ IntKind.i64.wrap (S % 18446744073709551616) = S) ∨
    (S / 18446744073709551616 = 0 ∧ ¬ S % 18446744073709551616 < 9223372036854775808 ∧ fits S = false) ∨
    (S / 18446744073709551616 = -1 ∧ 9223372036854775808 ≤ S % 18446744073709551616 ∧ fits S = true ∧ IntKind.i64.wrap (S % 18446744073709551616) = S) ∨
    (S / 18446744073709551616 = -1 ∧ ¬ 9223372036854775808 ≤ S % 18446744073709551616 ∧ fits S = false) ∨
    (¬ S / 18446744073709551616 = 0 ∧ ¬ S / 18446744073709551616 = -1 ∧ fits S = false) := by
  simp only [IntKind.wrap_i64]
  by_cases h : I64 S
  · rw [(fits_iff S).2 h]
    obtain ⟨h1, h2⟩ := h
    by_cases hn : S < 0
    · exact Or.inr (Or.inr (Or.inl ⟨by omega, by omega, rfl, by omega⟩))
    · exact Or.inl ⟨by omega, by omega, rfl, by omega⟩
  · rw [not_fits h]
    unfold I64 at h
    by_cases h0 : S / 18446744073709551616 = 0
    · exact Or.inr (Or.inl ⟨h0, by omega, rfl⟩)
    · by_cases h1 : S / 18446744073709551616 = -1
      · exact Or.inr (Or.inr (Or.inr (Or.inl ⟨h1, by omega, rfl⟩)))
      · exact Or.inr (Or.inr (Or.inr (Or.inr ⟨h0, h1, rfl⟩)))
theorem rtotal_any (w : World) (p : Option Addr) (l c : Nat) (zs : List Int) (h : Lst w p l zs) :
    Calls Try.prog 20 #[.slice p l c] w fun e w' => e = .returned (.tuple #[.int .i64 (fitv zs.sum), .bool (fits zs.sum)]) ∧ w' = w := by
  have HN := hide h
  have hl : l ≤ 17592186044416 := h.most
  obtain ⟨r, ok, HR⟩ : ∃ r ok, Hid (fitv zs.sum = r ∧ fits zs.sum = ok) := ⟨_, _, rfl, rfl⟩
  rw [HR.out.1, HR.out.2]
  clear h
  go_enter Try.func20, Try.ntmps20
  go_wp2
  go_loopw [4, 5, 6] (fun lo hi i wr => ∃ k : Nat, k ≤ l ∧ lo = .int .u64 ((zs.take k).sum % 18446744073709551616) ∧ hi = .int .i64 ((zs.take k).sum / 18446744073709551616) ∧ i = .int .i64 (k : Int) ∧ wr = w) (fun _ _ i _ => l - (intOf i).toNat)
  case atStart => exact ⟨0, by omega, rfl, rfl, rfl, rfl⟩
  case round =>
    obtain ⟨k, hk, rfl, rfl, rfl, hwr⟩ := hrel
    obtain rfl := hwr.symm
    clear hwr
    by_cases hlt : k < l
    · have hlt' : k < zs.length := by rw [HN.out.len]; exact hlt
      obtain ⟨g, o, hp, hc1⟩ := HN.out.lie.at hlt'
      have HSt := hide (ref_step (zs.take k).sum _ (HN.out.each _ (List.getElem_mem hlt')))
      rw [← sum_take hlt'] at HSt
      have HBd := sum_bound (mem_take HN.out.each k)
      rw [List.length_take, HN.out.len, Nat.min_eq_left (by omega)] at HBd
      subst hp
      have l1 : (k : Int) < (l : Int) := by omega
      have l2 : (0 : Int) ≤ (k : Int) := by omega
      generalize zs[k]'hlt' = z at *
      have hh1 : -9223372036854775800 ≤ (zs.take k).sum / 18446744073709551616 := by omega
      have hh2 : (zs.take k).sum / 18446744073709551616 ≤ 9223372036854775800 := by omega
      clear HBd
      obtain ⟨tl, th, HX⟩ : ∃ tl th, Hid ((zs.take (k + 1)).sum % 18446744073709551616 = tl ∧ (zs.take (k + 1)).sum / 18446744073709551616 = th) := ⟨_, _, rfl, rfl⟩
      rw [HX.out.1, HX.out.2] at HSt
      generalize (zs.take k).sum % 18446744073709551616 = sl at *
      generalize (zs.take k).sum / 18446744073709551616 = sh at *
      obtain ⟨e1, HE⟩ := HSt.out
      clear HSt
      rcases HE with HE | HE | HE | HE
      all_goals obtain ⟨q1, q2, q3⟩ := HE
      · have c1 : decide (tl < sl) = true := by simpa using q1
        have c2 : decide (z < 0) = true := by simpa using q2
        obtain rfl := q3.symm
        clear q1 q2 q3
        go_wp2
        go_roundw
        case rel => exact ⟨k + 1, by omega, by rw [HX.out.1], by rw [HX.out.2], by go_num, trivial⟩
        case measure => simp [intOf]; omega
      · have c1 : decide (tl < sl) = true := by simpa using q1
        have c2 : decide (z < 0) = false := by simpa using q2
        subst q3
        clear q1 q2
        go_wp2
        go_roundw
        case rel => exact ⟨k + 1, by omega, by rw [HX.out.1], by rw [HX.out.2], by go_num, trivial⟩
        case measure => simp [intOf]; omega
      · have c1 : decide (tl < sl) = false := by simpa using q1
        have c2 : decide (z < 0) = true := by simpa using q2
        subst q3
        clear q1 q2
        go_wp2
        go_roundw
        case rel => exact ⟨k + 1, by omega, by rw [HX.out.1], by rw [HX.out.2], by go_num, trivial⟩
        case measure => simp [intOf]; omega
      · have c1 : decide (tl < sl) = false := by simpa using q1
        have c2 : decide (z < 0) = false := by simpa using q2
        obtain rfl := q3.symm
        clear q1 q2 q3
        go_wp2
        go_roundw
        case rel => exact ⟨k + 1, by omega, by rw [HX.out.1], by rw [HX.out.2], by go_num, trivial⟩
        case measure => simp [intOf]; omega
    · have l1 : decide ((k : Int) < (l : Int)) = false := decide_eq_false (by omega)
      have hkl : zs.take k = zs := by rw [List.take_of_length_le]; rw [HN.out.len]; omega
      rw [hkl]
      have HEn := hide (ref_end zs.sum)
      have HF1 : Hid (fits zs.sum = true → fitv zs.sum = zs.sum) := fun h => fitv_fits h
      have HF0 : Hid (fits zs.sum = false → fitv zs.sum = 0) := fun h => fitv_not h
      rw [HR.out.1, HR.out.2] at HF1 HF0
      rw [HR.out.2] at HEn
      clear HR HN hkl
      generalize zs.sum % 18446744073709551616 = sl at *
      generalize zs.sum / 18446744073709551616 = sh at *
      generalize zs.sum = S at *
      rcases HEn.out with ⟨q1, q2, q3, q4⟩ | ⟨q1, q2, q3⟩ | ⟨q1, q2, q3, q4⟩ | ⟨q1, q2, q3⟩ | ⟨q1, q2, q3⟩
      · subst q1 q3
        have c1 : decide (sl < 9223372036854775808) = true := by simpa using q2
        have hr := HF1.out rfl
        subst hr
        clear HEn HF1 HF0 q2
        go_wp2
        go_ret2
        exact ⟨rfl, rfl⟩
      · subst q1 q3
        have c1 : decide (sl < 9223372036854775808) = false := by simpa using q2
        have hr := HF0.out rfl
        subst hr
        clear HEn HF1 HF0 q2
        go_wp2
        go_ret2
        exact ⟨rfl, rfl⟩
      · subst q1 q3
        have c1 : decide (9223372036854775808 ≤ sl) = true := by simpa using q2
        have hr := HF1.out rfl
        subst hr
        clear HEn HF1 HF0 q2
        go_wp2
        go_ret2
        exact ⟨rfl, rfl⟩
      · subst q1 q3
        have c1 : decide (9223372036854775808 ≤ sl) = false := by simpa using q2
        have hr := HF0.out rfl
        subst hr
        clear HEn HF1 HF0 q2
        go_wp2
        go_ret2
        exact ⟨rfl, rfl⟩
      · subst q3
        have c1 : (sh == 0) = false := by simpa using q1
        have c2 : (sh == -1) = false := by simpa using q2
        have hr := HF0.out rfl
        subst hr
        clear HEn HF1 HF0 q1 q2
        go_wp2
        go_ret2
        exact ⟨rfl, rfl⟩
end Go.Proofs.Ytgfegkcmoedgkaa
