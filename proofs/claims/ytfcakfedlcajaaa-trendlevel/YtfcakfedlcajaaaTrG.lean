import Derived.Test.YtfcakfedlcajaaaTrD
import Derived.Test.YtfcakfedlcajaaaTrF
namespace Go.Proofs.Ytfcakfedlcajaaa
open Go.RowKit
open Fl

theorem and_mask (y : Int) (M : Nat) (hM : M < 9223372036854775808) : ∃ q : Nat, bits .and .i64 y (M : Int) = (q : Int) ∧ q ≤ M := by
  have hq : (BitVec.ofInt 64 y &&& BitVec.ofInt 64 (M : Int)).toNat ≤ M := by
    rw [BitVec.toNat_and, BitVec.ofInt_natCast, BitVec.toNat_ofNat]
    refine Nat.le_trans Nat.and_le_right ?_
    exact Nat.mod_le _ _
  have h1 : bits .and .i64 y (M : Int) = IntKind.i64.wrap ((BitVec.ofInt 64 y &&& BitVec.ofInt 64 (M : Int)).toNat : Int) := rfl
  generalize (BitVec.ofInt 64 y &&& BitVec.ofInt 64 (M : Int)).toNat = q at *
  refine ⟨q, ?_, hq⟩
  rw [h1, IntKind.wrap_i64]
  omega

/-- What TrendLevel holds: the argument's box, a trend. -/
structure Ls (w wr : World) (bx : Obj) (bt : Nat) (T : Td) : Prop where
  box : wr.heap[w.heap.size]? = some bx
  bel : Below w.heap.size w wr
  kt : Tk wr bt T
  lt : w.heap.size < bt
  ok : T.Ok
theorem box7 {w : World} {b : Nat} {x0 x1 x2 x3 x4 x5 x6 : Value} {t : TypeId} (h : w.heap[b]? = some (.cells #[x0, x1, x2, x3, x4, x5, x6] t (0, 0))) :
    w.cell? ⟨b, 0, none⟩ = some x0 ∧ w.cell? ⟨b, 1, none⟩ = some x1 ∧ w.cell? ⟨b, 2, none⟩ = some x2 ∧ w.cell? ⟨b, 3, none⟩ = some x3 ∧ w.cell? ⟨b, 4, none⟩ = some x4 ∧ w.cell? ⟨b, 5, none⟩ = some x5 ∧ w.cell? ⟨b, 6, none⟩ = some x6 :=
  ⟨by simp [World.cell?, h], by simp [World.cell?, h], by simp [World.cell?, h], by simp [World.cell?, h], by simp [World.cell?, h], by simp [World.cell?, h], by simp [World.cell?, h]⟩

theorem fits_one : Fits 4607182418800017408 := by
  refine ⟨?_, ?_, ?_⟩
  · unfold Nn rg; omega
  · decide
  · decide

/-- Notes that are all alike. -/
theorem note_same {T : Td} {x : Int} (h : T.n = 0 ∨ T.av = floatOfInt .f64 x) : (T.note x).av = floatOfInt .f64 x := by
  unfold Td.note
  by_cases e : T.n = 0
  · simp only [e, if_true]
  · simp only [if_neg e]
    rcases h with h | h
    · exact absurd h e
    · rw [h]
      show held _ _ _ = _
      unfold held
      rw [fmin_self, fmax_self, held_self]

/-- Their ceiling. -/
theorem cl_ofInt {x : Int} (h : x.natAbs ≤ 9007199254740992) : cl (floatOfInt .f64 x) = x := by
  obtain ⟨r, r1, r2, r3⟩ := ofInt_exact h
  rw [r3]
  unfold cl clN
  rw [ng_wd _ (by omega), rg_wd _ (by omega), r2, Nat.mul_div_cancel _ U_pos, Nat.mul_mod_left]
  have : ((!decide (x < 0)) && (0 != 0)) = false := by simp
  rw [this]
  by_cases c : x < 0
  · rw [decide_eq_true c]; show -((x.natAbs + 0 : Nat) : Int) = x; omega
  · rw [decide_eq_false c]; show ((x.natAbs + 0 : Nat) : Int) = x; omega

set_option maxRecDepth 100000 in
set_option maxHeartbeats 1000000 in
theorem level_all (w : World) (A B : Int) (raw : Bool) (z : Nat) (X N Hv : Int) (hz : Wf z) (hX : -9223372036854775808 ≤ X ∧ X ≤ 9223372036854775807) (_hN : -9223372036854775808 ≤ N ∧ N ≤ 9223372036854775807) (hH : -9223372036854775808 ≤ Hv ∧ Hv ≤ 9223372036854775807) :
    Calls Try.prog 5 #[.agg #[.int .i64 A, .int .i64 B, .bool raw, .int .u64 (z : Int), .int .i64 X, .int .i64 N, .int .i64 Hv]] w fun e w' => e = .returned (.bool true) ∧ Below w.heap.size w w' := by
  have HV := hide (fun w => value_any w A B raw z hz)
  obtain ⟨q, q1, hq⟩ := and_mask N 65535 (by omega)
  have q1 : bits .and .i64 N 65535 = (q : Int) := q1
  obtain ⟨M, q2⟩ : ∃ M : Nat, (q : Int).tmod 300 = (M : Int) := ⟨q % 300, by rw [Int.tmod_eq_emod_of_nonneg (by omega)]; omega⟩
  have hM : M < 300 := by rw [Int.tmod_eq_emod_of_nonneg (by omega)] at q2; omega
  obtain ⟨x, xe⟩ : ∃ x, X / 2048 = x := ⟨_, rfl⟩
  obtain ⟨h, he⟩ : ∃ h, Hv / 2048 = h := ⟨_, rfl⟩
  have xb1 : -4503599627370496 ≤ x := by omega
  have xb2 : x ≤ 4503599627370495 := by omega
  have hb1 : -4503599627370496 ≤ h := by omega
  have hb2 : h ≤ 4503599627370495 := by omega
  go_enter Try.func5, Try.ntmps5
  go_wp2_with (first
    | (go_at_call 13; refine (HV.out _).mono ?_; rintro e w2 ⟨⟨b1, rfl, hv1⟩, hbl, hsz⟩; have HV1 := hide hv1; have HB1 := hide hbl; have HS1 := hide hsz; clear hv1 hbl hsz))
  have e0 : (w.alloc (.cells #[.int .i64 A, .int .i64 B, .bool raw, .int .u64 (z : Int), .int .i64 X, .int .i64 N, .int .i64 Hv] 55)).heap.size = w.heap.size + 1 := by unfold World.alloc; exact Array.size_push _
  have HX2 : Hid (w2.heap[w.heap.size]? = some (.cells #[.int .i64 A, .int .i64 B, .bool raw, .int .u64 (z : Int), .int .i64 X, .int .i64 N, .int .i64 Hv] 55)) := hide ((HB1.out.block _ (by omega)).trans (heap_alloc_new _ _))
  have HB2 : Hid (Below w.heap.size w w2) := hide (((Below.refl _ _).alloc (Nat.le_refl _) _).trans (HB1.out.mono (by omega)))
  have hs2 : w.heap.size + 2 = w2.heap.size := by have := HS1.out; omega
  have HS2 := hide hs2
  have HM := hide num_any
  clear e0 HB1 HS1 hs2
  refine (New_any w2 b1).mono ?_
  rintro e w3 (⟨hf, rfl, hk3, hbl, hsz⟩ | ⟨hf, rfl, rfl⟩)
  · have HH : Hid (Ls w w3 (.cells #[.int .i64 A, .int .i64 B, .bool raw, .int .u64 (z : Int), .int .i64 X, .int .i64 N, .int .i64 Hv] 55) w2.heap.size ⟨b1, 0, 0⟩) := hide ⟨(hbl.block _ (by have := HS2.out; omega)).trans HX2.out, HB2.out.trans (hbl.mono (by have := HS2.out; omega)), hk3, by have := HS2.out; omega, hf.ok HV1.out.1⟩
    clear hf hk3 hbl hsz HX2 HB2 HS2 HV1 HV
    generalize w2.heap.size = bt at *
    have HA0 := hide (Advice_none _ bt _ Hv HH.out.kt rfl)
    obtain ⟨x0, x1, x2, x3, x4, x5, x6⟩ := box7 HH.out.box
    go_wp2_with (first
      | (go_at_call 14; refine (HM.out _ _).mono ?_; rintro e w6 ⟨rfl, h⟩; obtain rfl := h.symm; clear h)
      | (go_at_call 9; refine HA0.out.mono ?_; rintro e w6 ⟨rfl, h⟩; obtain rfl := h.symm; clear h))
    clear HA0 x0 x1 x2 x3 x4 x5 x6 q1 q2 xe he
    go_loopw [8] (fun iv wr => ∃ (i : Nat) (T : Td), i ≤ 1 + M ∧ iv = .int .i64 (i : Int) ∧ T.n = i ∧ Hid (Ls w wr (.cells #[.int .i64 A, .int .i64 B, .bool raw, .int .u64 (z : Int), .int .i64 X, .int .i64 N, .int .i64 Hv] 55) bt T) ∧ Hid (T.n = 0 ∨ T.av = floatOfInt .f64 x)) (fun i _ => 1 + M - (intOf i).toNat)
    case atStart => exact ⟨0, _, by omega, rfl, rfl, HH, hide (Or.inl rfl)⟩
    case round =>
      obtain ⟨i, T, hi, rfl, hn, HH1, HA1⟩ := hrel
      clear HH
      by_cases hlt : i < 1 + M
      · have HN1 := hide (Note_any _ bt T x HH1.out.kt HH1.out.ok (by omega) (by omega) (by omega))
        have HOk := hide (HH1.out.ok.note (show -9223372036854775808 ≤ x by omega) (by omega))
        have HAv := hide (note_same HA1.out)
        have hnn : (T.note x).n = i + 1 := by show T.n + 1 = _; rw [hn]
        have fy := (ofInt_fin (show -9223372036854775808 ≤ x by omega) (by omega)).1
        have qe : (FloatKind.f64.format.order (floatOfInt .f64 x) (floatOfInt .f64 x) != some .eq) = false := by rw [ne_iff fy.nn fy.nn]; simp
        have i2 : (i : Int) < 1 + (M : Int) := by omega
        have HFY := hide fy
        clear fy
        generalize T.note x = T2 at *
        go_wp2_with (first
          | (go_at_call 7; refine HN1.out.mono ?_; rintro e w8 ⟨rfl, hk8, ho8⟩; have HS8 : Hid (Ls w w8 (.cells #[.int .i64 A, .int .i64 B, .bool raw, .int .u64 (z : Int), .int .i64 X, .int .i64 N, .int .i64 Hv] 55) bt T2) := hide ⟨(ho8.block w.heap.size (by have := HH1.out.lt; omega)).trans HH1.out.box, ho8.below HH1.out.bel (Nat.le_of_lt HH1.out.lt), hk8, HH1.out.lt, HOk.out⟩; have HW0 := Average_any _ bt T2 hk8; rw [HAv.out] at HW0; have HW0 := hide HW0; have HC0 := Count_any _ bt T2 hk8; rw [show ((T2.n : Nat) : Int) = (i : Int) + 1 by omega] at HC0; have HC0 := hide HC0; clear hk8 ho8 HN1)
          | (go_at_call 16; refine HW0.out.mono ?_; rintro e w7 ⟨rfl, h⟩; obtain rfl := h.symm; clear h)
          | (go_at_call 15; refine HC0.out.mono ?_; rintro e w10 ⟨rfl, h⟩; obtain rfl := h.symm; clear h))
        go_roundw
        case rel => exact ⟨i + 1, T2, by omega, by go_num, hnn, HS8, hide (Or.inr HAv.out)⟩
        case measure => simp [intOf]; omega
      · have hav : T.av = floatOfInt .f64 x := by
          rcases HA1.out with h | h
          · omega
          · exact h
        have hcl : cl T.av = x := by rw [hav]; exact cl_ofInt (by omega)
        have HAd := Advice_any _ bt T h HH1.out.kt (by omega) HH1.out.ok.a1 (by rw [hcl]; omega) (by rw [hcl]; omega) (by omega) (by omega)
        rw [hcl] at HAd
        have HB9 := hide HH1.out.bel
        clear hcl hav HH1 HA1 hn
        unfold adv at HAd
        by_cases c1 : x ≤ h
        · rw [if_pos c1] at HAd
          have HAd := hide HAd
          go_wp2_with (first
            | (go_at_call 9; refine HAd.out.mono ?_; rintro e w6 ⟨rfl, e⟩; obtain rfl := e.symm; clear e))
          go_ret
          exact ⟨rfl, HB9.out⟩
        · rw [if_neg c1] at HAd
          by_cases c2 : 1099511627776 ≤ x - h
          · rw [show min (x - h) 1099511627776 = 1099511627776 by omega] at HAd
            have HAd := hide HAd
            have c3 : h + 1099511627776 ≤ x := by omega
            clear c2
            go_wp2_with (first
              | (go_at_call 9; refine HAd.out.mono ?_; rintro e w6 ⟨rfl, e⟩; obtain rfl := e.symm; clear e))
            go_ret
            exact ⟨by simp, HB9.out⟩
          · obtain ⟨a, ha⟩ : ∃ a, x - h = a := ⟨_, rfl⟩
            rw [show min (x - h) 1099511627776 = a by omega] at HAd
            have HAd := hide HAd
            have a1 : 0 < a := by omega
            have a2 : a < 1099511627776 := by omega
            have a3 : h + a = x := by omega
            have a4 : (a == 0) = false := by simp; omega
            have a5 : (a == 1099511627776) = false := by simp; omega
            have a6 : decide (x ≤ h) = false := by simp; omega
            clear ha c2
            go_wp2_with (first
              | (go_at_call 9; refine HAd.out.mono ?_; rintro e w6 ⟨rfl, e⟩; obtain rfl := e.symm; clear e))
            go_ret
            exact ⟨by simp, HB9.out⟩
  · clear HV HV1 hf
    go_wp2_with (first
      | (go_at_call 14; refine (HM.out _ _).mono ?_; rintro e w6 ⟨rfl, h⟩; obtain rfl := h.symm; clear h))
    refine (New_any w3 _).mono ?_
    rintro e w4 (⟨hf, rfl, hk3, hbl, hsz⟩ | ⟨hf, rfl, rfl⟩)
    rotate_left
    · exact absurd fits_one hf
    have HH : Hid (Ls w w4 (.cells #[.int .i64 A, .int .i64 B, .bool raw, .int .u64 (z : Int), .int .i64 X, .int .i64 N, .int .i64 Hv] 55) w3.heap.size ⟨4607182418800017408, 0, 0⟩) := hide ⟨(hbl.block _ (by have := HS2.out; omega)).trans HX2.out, HB2.out.trans (hbl.mono (by have := HS2.out; omega)), hk3, by have := HS2.out; omega, fits_one.ok (by unfold Wf; omega)⟩
    clear hf hk3 hbl hsz HX2 HB2 HS2
    generalize w3.heap.size = bt at *
    have HA0 := hide (Advice_none _ bt _ Hv HH.out.kt rfl)
    obtain ⟨x0, x1, x2, x3, x4, x5, x6⟩ := box7 HH.out.box
    go_wp2_with (first
      | (go_at_call 14; refine (HM.out _ _).mono ?_; rintro e w6 ⟨rfl, h⟩; obtain rfl := h.symm; clear h)
      | (go_at_call 9; refine HA0.out.mono ?_; rintro e w6 ⟨rfl, h⟩; obtain rfl := h.symm; clear h))
    clear HA0 x0 x1 x2 x3 x4 x5 x6 q1 q2 xe he
    go_loopw [8] (fun iv wr => ∃ (i : Nat) (T : Td), i ≤ 1 + M ∧ iv = .int .i64 (i : Int) ∧ T.n = i ∧ Hid (Ls w wr (.cells #[.int .i64 A, .int .i64 B, .bool raw, .int .u64 (z : Int), .int .i64 X, .int .i64 N, .int .i64 Hv] 55) bt T) ∧ Hid (T.n = 0 ∨ T.av = floatOfInt .f64 x)) (fun i _ => 1 + M - (intOf i).toNat)
    case atStart => exact ⟨0, _, by omega, rfl, rfl, HH, hide (Or.inl rfl)⟩
    case round =>
      obtain ⟨i, T, hi, rfl, hn, HH1, HA1⟩ := hrel
      clear HH
      by_cases hlt : i < 1 + M
      · have HN1 := hide (Note_any _ bt T x HH1.out.kt HH1.out.ok (by omega) (by omega) (by omega))
        have HOk := hide (HH1.out.ok.note (show -9223372036854775808 ≤ x by omega) (by omega))
        have HAv := hide (note_same HA1.out)
        have hnn : (T.note x).n = i + 1 := by show T.n + 1 = _; rw [hn]
        have fy := (ofInt_fin (show -9223372036854775808 ≤ x by omega) (by omega)).1
        have qe : (FloatKind.f64.format.order (floatOfInt .f64 x) (floatOfInt .f64 x) != some .eq) = false := by rw [ne_iff fy.nn fy.nn]; simp
        have i2 : (i : Int) < 1 + (M : Int) := by omega
        have HFY := hide fy
        clear fy
        generalize T.note x = T2 at *
        go_wp2_with (first
          | (go_at_call 7; refine HN1.out.mono ?_; rintro e w8 ⟨rfl, hk8, ho8⟩; have HS8 : Hid (Ls w w8 (.cells #[.int .i64 A, .int .i64 B, .bool raw, .int .u64 (z : Int), .int .i64 X, .int .i64 N, .int .i64 Hv] 55) bt T2) := hide ⟨(ho8.block w.heap.size (by have := HH1.out.lt; omega)).trans HH1.out.box, ho8.below HH1.out.bel (Nat.le_of_lt HH1.out.lt), hk8, HH1.out.lt, HOk.out⟩; have HW0 := Average_any _ bt T2 hk8; rw [HAv.out] at HW0; have HW0 := hide HW0; have HC0 := Count_any _ bt T2 hk8; rw [show ((T2.n : Nat) : Int) = (i : Int) + 1 by omega] at HC0; have HC0 := hide HC0; clear hk8 ho8 HN1)
          | (go_at_call 16; refine HW0.out.mono ?_; rintro e w7 ⟨rfl, h⟩; obtain rfl := h.symm; clear h)
          | (go_at_call 15; refine HC0.out.mono ?_; rintro e w10 ⟨rfl, h⟩; obtain rfl := h.symm; clear h))
        go_roundw
        case rel => exact ⟨i + 1, T2, by omega, by go_num, hnn, HS8, hide (Or.inr HAv.out)⟩
        case measure => simp [intOf]; omega
      · have hav : T.av = floatOfInt .f64 x := by
          rcases HA1.out with h | h
          · omega
          · exact h
        have hcl : cl T.av = x := by rw [hav]; exact cl_ofInt (by omega)
        have HAd := Advice_any _ bt T h HH1.out.kt (by omega) HH1.out.ok.a1 (by rw [hcl]; omega) (by rw [hcl]; omega) (by omega) (by omega)
        rw [hcl] at HAd
        have HB9 := hide HH1.out.bel
        clear hcl hav HH1 HA1 hn
        unfold adv at HAd
        by_cases c1 : x ≤ h
        · rw [if_pos c1] at HAd
          have HAd := hide HAd
          go_wp2_with (first
            | (go_at_call 9; refine HAd.out.mono ?_; rintro e w6 ⟨rfl, e⟩; obtain rfl := e.symm; clear e))
          go_ret
          exact ⟨rfl, HB9.out⟩
        · rw [if_neg c1] at HAd
          by_cases c2 : 1099511627776 ≤ x - h
          · rw [show min (x - h) 1099511627776 = 1099511627776 by omega] at HAd
            have HAd := hide HAd
            have c3 : h + 1099511627776 ≤ x := by omega
            clear c2
            go_wp2_with (first
              | (go_at_call 9; refine HAd.out.mono ?_; rintro e w6 ⟨rfl, e⟩; obtain rfl := e.symm; clear e))
            go_ret
            exact ⟨by simp, HB9.out⟩
          · obtain ⟨a, ha⟩ : ∃ a, x - h = a := ⟨_, rfl⟩
            rw [show min (x - h) 1099511627776 = a by omega] at HAd
            have HAd := hide HAd
            have a1 : 0 < a := by omega
            have a2 : a < 1099511627776 := by omega
            have a3 : h + a = x := by omega
            have a4 : (a == 0) = false := by simp; omega
            have a5 : (a == 1099511627776) = false := by simp; omega
            have a6 : decide (x ≤ h) = false := by simp; omega
            clear ha c2
            go_wp2_with (first
              | (go_at_call 9; refine HAd.out.mono ?_; rintro e w6 ⟨rfl, e⟩; obtain rfl := e.symm; clear e))
            go_ret
            exact ⟨by simp, HB9.out⟩
end Go.Proofs.Ytfcakfedlcajaaa
