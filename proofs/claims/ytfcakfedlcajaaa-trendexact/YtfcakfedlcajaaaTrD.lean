import Derived.Test.YtfcakfedlcajaaaTrC
namespace Go.Proofs.Ytfcakfedlcajaaa
open Go.RowKit
open Fl

theorem Wv.fits {A B : Int} {raw : Bool} {z b1 b2 : Nat} (h1 : Wv A B raw z b1) (h2 : Wv A B raw z b2) (hf : Fits b1) : b2 = b1 := by
  obtain ⟨_, h1⟩ := h1
  obtain ⟨_, h2⟩ := h2
  cases raw
  · simp only [Bool.false_eq_true, if_false] at h1 h2
    cases hd : db.div (floatOfInt .f64 A) (floatOfInt .f64 B) with
    | none => rw [hd] at h1; exact absurd hf.1 h1
    | some r => rw [hd] at h1 h2; simp only [] at h1 h2; rw [h1, h2]
  · simp only [if_true] at h1 h2
    rw [h1, h2]

/-- What TrendHull holds: the argument's box, two trends alike. -/
structure Hs (w wr : World) (bx : Obj) (bt bu : Nat) (T : Td) : Prop where
  box : wr.heap[w.heap.size]? = some bx
  bel : Below w.heap.size w wr
  kt : Tk wr bt T
  ku : Tk wr bu T
  lt : w.heap.size < bt
  lu : bt < bu
  ok : T.Ok
theorem box5 {w : World} {b : Nat} {x0 x1 x2 x3 x4 : Value} {t : TypeId} (h : w.heap[b]? = some (.cells #[x0, x1, x2, x3, x4] t (0, 0))) :
    w.cell? ⟨b, 0, none⟩ = some x0 ∧ w.cell? ⟨b, 1, none⟩ = some x1 ∧ w.cell? ⟨b, 2, none⟩ = some x2 ∧ w.cell? ⟨b, 3, none⟩ = some x3 ∧ w.cell? ⟨b, 4, none⟩ = some x4 :=
  ⟨by simp [World.cell?, h], by simp [World.cell?, h], by simp [World.cell?, h], by simp [World.cell?, h], by simp [World.cell?, h]⟩

theorem fits_quarter : Fits 4598175219545276416 := by
  refine ⟨?_, ?_, ?_⟩
  · unfold Nn rg; omega
  · decide
  · decide

theorem among_step {xs : List Int} {i : Nat} {z : Int} {T : Td} (hz : xs[i]? = some z) (hn : T.n = i) (h : 0 < i → Among xs i T.av) : Among xs (i + 1) (T.note z).av := by
  unfold Td.note
  by_cases e : T.n = 0
  · simp only [e, if_true]
    exact ⟨⟨i, z, by omega, hz, Int.le_refl _⟩, ⟨i, z, by omega, hz, Int.le_refl _⟩⟩
  · simp only [if_neg e]
    obtain ⟨⟨i1, z1, j1, x1, y1⟩, ⟨i2, z2, j2, x2, y2⟩⟩ := h (by omega)
    have k := held_key (bN T.av (mN (dN T.av (floatOfInt .f64 z)) T.wt)) T.av (floatOfInt .f64 z)
    show Among xs (i + 1) (held (bN T.av (mN (dN T.av (floatOfInt .f64 z)) T.wt)) T.av (floatOfInt .f64 z))
    by_cases c : key T.av ≤ key (floatOfInt .f64 z)
    · have := k.1 c
      exact ⟨⟨i1, z1, by omega, x1, by omega⟩, ⟨i, z, by omega, hz, by omega⟩⟩
    · have := k.2 (by omega)
      exact ⟨⟨i, z, by omega, hz, by omega⟩, ⟨i2, z2, by omega, x2, by omega⟩⟩

set_option maxRecDepth 100000 in
set_option maxHeartbeats 1000000 in
theorem hull_all (w : World) (A B : Int) (raw : Bool) (z : Nat) (sp : Option Addr) (l c : Nat) (xs : List Int) (hz : Wf z) (hl : xs.length = l) (hb : l ≤ 140737488355328) (hc : l ≤ c) (hx : Nums w sp xs) :
    Calls Try.prog 4 #[.agg #[.int .i64 A, .int .i64 B, .bool raw, .int .u64 (z : Int), .slice sp l c]] w fun e w' => e = .returned (.bool true) ∧ Below w.heap.size w w' := by
  have HV := hide (fun w => value_any w A B raw z hz)
  have HX := hide hx
  have HL := hide hl
  have z0 : (FloatKind.f64.format.order 0 0 != some .eq) = false := by decide
  clear hx hl
  go_enter Try.func4, Try.ntmps4
  go_wp2_with (first
    | (go_at_call 13; refine (HV.out _).mono ?_; rintro e w2 ⟨⟨b1, rfl, hv1⟩, hbl, hsz⟩; have HV1 := hide hv1; have HB1 := hide hbl; have HS1 := hide hsz; clear hv1 hbl hsz))
  have e0 : (w.alloc (.cells #[.int .i64 A, .int .i64 B, .bool raw, .int .u64 (z : Int), .slice sp l c] 44)).heap.size = w.heap.size + 1 := by unfold World.alloc; exact Array.size_push _
  have HX2 : Hid (w2.heap[w.heap.size]? = some (.cells #[.int .i64 A, .int .i64 B, .bool raw, .int .u64 (z : Int), .slice sp l c] 44)) := hide ((HB1.out.block _ (by omega)).trans (heap_alloc_new _ _))
  have HB2 : Hid (Below w.heap.size w w2) := hide (((Below.refl _ _).alloc (Nat.le_refl _) _).trans (HB1.out.mono (by omega)))
  have hs2 : w.heap.size + 2 = w2.heap.size := by have := HS1.out; omega
  have HS2 := hide hs2
  clear e0 HB1 HS1 hs2
  refine (New_any w2 b1).mono ?_
  rintro e w3 (⟨hf, rfl, hk3, hbl, hsz⟩ | ⟨hf, rfl, rfl⟩)
  · have HF := hide hf
    have HK3 := hide hk3
    have HX3 := hide ((hbl.block w.heap.size (by have := HS2.out; omega)).trans HX2.out)
    have HB3 := hide (HB2.out.trans (hbl.mono (by have := HS2.out; omega)))
    have hs3 := HS2.out
    generalize w2.heap.size = bt at *
    have HS3 := hide hsz
    obtain ⟨x0, x1, x2, x3, x4⟩ := box5 HX3.out
    clear hf hk3 hbl hsz HX2 HB2 HS2
    go_wp2_with (first
      | (go_at_call 13; refine (HV.out _).mono ?_; rintro e w4 ⟨⟨b2, rfl, hv2⟩, hbl, hsz⟩; have HV2 := hide hv2; have HB4 := hide hbl; have HS4 := hide hsz; clear hv2 hbl hsz))
    obtain rfl := HV1.out.fits HV2.out HF.out
    refine (New_any w4 b2).mono ?_
    rintro e w5 (⟨_, rfl, hk5, hbl, hsz⟩ | ⟨hf, _, _⟩)
    rotate_left
    · exact absurd HF.out hf
    have hs3' := HS3.out
    have hs4' := HS4.out
    have HH : Hid (Hs w w5 (.cells #[.int .i64 A, .int .i64 B, .bool raw, .int .u64 (z : Int), .slice sp l c] 44) bt w4.heap.size ⟨b2, 0, 0⟩) := hide ⟨(hbl.block _ (by omega)).trans ((HB4.out.block _ (by omega)).trans HX3.out), (HB3.out.trans (HB4.out.mono (by omega))).trans (hbl.mono (by omega)), (HK3.out.kept (HB4.out.block _ (by omega))).kept (hbl.block _ (by omega)), hk5, by omega, by omega, HF.out.ok HV1.out.1⟩
    clear HV1 HV2 HF HK3 HX3 HB3 HS3 HB4 HS4 hk5 hbl hsz hs3 hs3' hs4' x0 x1 x2 x3 x4
    generalize w4.heap.size = bu at *
    generalize b2 = b0 at *
    have HM := hide num_any
    have HC := hide (Count_any _ bt _ HH.out.kt)
    have HW := hide (Average_any _ bt _ HH.out.kt)
    go_wp2_with (first
      | (go_at_call 14; refine (HM.out _ _).mono ?_; rintro e w6 ⟨rfl, h⟩; obtain rfl := h.symm; clear h)
      | (go_at_call 15; refine HC.out.mono ?_; rintro e w6 ⟨rfl, h⟩; obtain rfl := h.symm; clear h)
      | (go_at_call 16; refine HW.out.mono ?_; rintro e w6 ⟨rfl, h⟩; obtain rfl := h.symm; clear h))
    go_loopw [7] (fun iv wr => ∃ (i : Nat) (T : Td), i ≤ l ∧ iv = .int .i64 (i : Int) ∧ T.n = i ∧ Hid (Hs w wr (.cells #[.int .i64 A, .int .i64 B, .bool raw, .int .u64 (z : Int), .slice sp l c] 44) bt bu T) ∧ Hid (0 < i → Among xs i T.av)) (fun i _ => l - (intOf i).toNat)
    case atStart => exact ⟨0, _, by omega, rfl, rfl, HH, hide (fun h => absurd h (by omega))⟩
    case round =>
      obtain ⟨i, T, hi, rfl, hn, HH1, HA1⟩ := hrel
      clear HH
      obtain ⟨x0, x1, x2, x3, x4⟩ := box5 HH1.out.box
      by_cases hlt : i < l
      · obtain ⟨x, hxi⟩ : ∃ x, xs[i]? = some x := ⟨_, List.getElem?_eq_getElem (by have := HL.out; omega)⟩
        obtain ⟨g, o, he, hcx⟩ := HX.out.cell HH1.out.bel hxi
        subst he
        have hr := HX.out.rng x (List.mem_of_getElem? hxi)
        have fx := (HX.out.fin hxi)
        have HR := hide hr
        have HXI := hide hxi
        have HN1 := hide (Note_any _ bt T x HH1.out.kt HH1.out.ok hr.1 hr.2 (by omega))
        have HAm := hide (among_step hxi hn HA1.out)
        have HOk := hide (HH1.out.ok.note hr.1 hr.2)
        have i1 : (0 : Int) ≤ (i : Int) := by omega
        have i2 : (i : Int) < (l : Int) := by omega
        have HW0 := hide (Average_any _ bt T HH1.out.kt)
        have hnn : (T.note x).n = i + 1 := by show T.n + 1 = _; rw [hn]
        have HK : Hid ((0 < i → (key T.av ≤ key (floatOfInt .f64 x) → key T.av ≤ key (T.note x).av ∧ key (T.note x).av ≤ key (floatOfInt .f64 x)) ∧ (key (floatOfInt .f64 x) ≤ key T.av → key (floatOfInt .f64 x) ≤ key (T.note x).av ∧ key (T.note x).av ≤ key T.av))) := by
          intro h
          have := held_key (bN T.av (mN (dN T.av (floatOfInt .f64 x)) T.wt)) T.av (floatOfInt .f64 x)
          rw [show (T.note x).av = held (bN T.av (mN (dN T.av (floatOfInt .f64 x)) T.wt)) T.av (floatOfInt .f64 x) by unfold Td.note; simp only [if_neg (show ¬ T.n = 0 by omega)]; rfl]
          exact this
        have fa := HH1.out.ok.a1
        have fn := HOk.out.a1
        clear hxi hr
        generalize hT2 : T.note x = T2 at *
        have HT2 := hide hT2
        clear hT2
        have c5 : i + 1 ≤ c := by omega
        have c6 : (i : Int) + 1 ≤ (c : Int) := by omega
        go_wp2_with (first
          | (go_at_call 16; refine HW0.out.mono ?_; rintro e w7 ⟨rfl, h⟩; obtain rfl := h.symm; clear h HW0)
          | (go_at_call 7; refine HN1.out.mono ?_; rintro e w8 ⟨rfl, hk8, ho8⟩; have HK8 := hide hk8; have HO8 := hide ho8; have HU8 := hide (HH1.out.ku.kept (ho8.block bu (by have := HH1.out.lu; omega))); have HN2 := hide (Note_any _ bu T x HU8.out HH1.out.ok HR.out.1 HR.out.2 (by omega)); have x4b : w8.cell? ⟨w.heap.size, 4, none⟩ = _ := (box5 ((ho8.block w.heap.size (by have := HH1.out.lt; omega)).trans HH1.out.box)).2.2.2.2; have hcx8 := (HX.out.cell (ho8.below HH1.out.bel (Nat.le_of_lt HH1.out.lt)) HXI.out); obtain ⟨g', o', he8, hcx8⟩ := hcx8; obtain ⟨rfl, rfl⟩ : g = g' ∧ o = o' := (by simpa using he8); clear he8 hk8 ho8 HN1)
          | fail)
        refine HN2.out.mono ?_
        rintro e w9 ⟨rfl, hk9, ho9⟩
        rw [HT2.out] at hk9
        have HS9 : Hid (Hs w w9 (.cells #[.int .i64 A, .int .i64 B, .bool raw, .int .u64 (z : Int), .slice (some ⟨g, o, none⟩) l c] 44) bt bu T2) := hide ⟨(ho9.block w.heap.size (by have := HH1.out.lt; have := HH1.out.lu; omega)).trans ((HO8.out.block w.heap.size (by have := HH1.out.lt; omega)).trans HH1.out.box), ho9.below (HO8.out.below HH1.out.bel (Nat.le_of_lt HH1.out.lt)) (by have := HH1.out.lt; have := HH1.out.lu; omega), HK8.out.kept (ho9.block bt (by have := HH1.out.lu; omega)), hk9, HH1.out.lt, HH1.out.lu, HOk.out⟩
        have x4c : w9.cell? ⟨w.heap.size, 4, none⟩ = _ := (box5 HS9.out.box).2.2.2.2
        obtain ⟨g', o', he9, hcx9⟩ := HX.out.cell HS9.out.bel HXI.out
        obtain ⟨rfl, rfl⟩ : g = g' ∧ o = o' := by simpa using he9
        have HWt := hide (Average_any _ bt T2 HS9.out.kt)
        have HWu := hide (Average_any _ bu T2 HS9.out.ku)
        have HCt := Count_any _ bt T2 HS9.out.kt
        have e5 : ((T2.n : Nat) : Int) = (i : Int) + 1 := by omega
        rw [e5] at HCt
        have HCt := hide HCt
        have HHl := hide (hull_any w w9 (some ⟨g, o, none⟩) (i + 1) c T2.av xs HX.out HS9.out.bel (by omega) (by have := HL.out; omega) (by omega) HAm.out fn)
        have qe : (FloatKind.f64.format.order T2.av T2.av != some .eq) = false := by rw [ne_iff fn.nn fn.nn]; simp
        have q1 := le_iff fa.nn fx.1.nn
        have q2 := lt_iff fn.nn fa.nn
        have q3 := ge_iff fa.nn fx.1.nn
        have q4 := gt_iff fn.nn fa.nn
        have HNx : Hid (∃ T' : Td, i + 1 ≤ l ∧ T'.n = i + 1 ∧ Hid (Hs w w9 (.cells #[.int .i64 A, .int .i64 B, .bool raw, .int .u64 (z : Int), .slice (some ⟨g, o, none⟩) l c] 44) bt bu T') ∧ Hid (0 < i + 1 → Among xs (i + 1) T'.av)) := hide ⟨T2, by omega, hnn, HS9, hide (fun _ => HAm.out)⟩
        clear hk9 ho9 he9 HK8 HO8 HU8 HN2 hcx8 x4b HS9 HOk HAm HH1 HA1 x0 x1 x2 x3 x4 hcx HR HXI HT2 e5
        generalize T2.av = a2 at *
        generalize T2.n = n2 at *
        generalize T.av = a1 at *
        have HF := hide fx
        have HF1 := hide fa
        have HF2 := hide fn
        clear fx fa fn
        by_cases h0 : i = 0
        · have g0 : decide ((0 : Int) < (i : Int)) = false := by simp; omega
          have g2 : ¬ 0 < i := by omega
          clear q1 q2 q3 q4 HK h0
          go_wp2_with (first
            | (go_at_call 16; refine HWt.out.mono ?_; rintro e w10 ⟨rfl, h⟩; obtain rfl := h.symm; clear h)
            | (go_at_call 16; refine HWu.out.mono ?_; rintro e w10 ⟨rfl, h⟩; obtain rfl := h.symm; clear h)
            | (go_at_call 15; refine HCt.out.mono ?_; rintro e w10 ⟨rfl, h⟩; obtain rfl := h.symm; clear h)
            | (go_at_call 17; refine HHl.out.mono ?_; rintro e w10 ⟨rfl, h⟩; obtain rfl := h.symm; clear h)
            | fail)
          go_roundw
          case rel => obtain ⟨T3, k1, k2, k3, k4⟩ := HNx.out; exact ⟨i + 1, T3, k1, by go_num, k2, k3, k4⟩
          case measure => simp [intOf]; omega
        · have g0 : decide ((0 : Int) < (i : Int)) = true := by simp; omega
          have g2 : 0 < i := by omega
          have K := HK.out (by omega)
          clear HK h0
          by_cases k1 : key a1 ≤ key (floatOfInt .f64 x)
          · have K1 := K.1 k1
            rw [decide_eq_true k1] at q1
            rw [decide_eq_false (by omega)] at q2
            by_cases k2 : key (floatOfInt .f64 x) ≤ key a1
            · have K2 := K.2 k2
              rw [decide_eq_true k2] at q3
              rw [decide_eq_false (by omega)] at q4
              clear K K1 K2 k1 k2
              go_wp2_with (first
                | (go_at_call 16; refine HWt.out.mono ?_; rintro e w10 ⟨rfl, h⟩; obtain rfl := h.symm; clear h)
                | (go_at_call 16; refine HWu.out.mono ?_; rintro e w10 ⟨rfl, h⟩; obtain rfl := h.symm; clear h)
                | (go_at_call 15; refine HCt.out.mono ?_; rintro e w10 ⟨rfl, h⟩; obtain rfl := h.symm; clear h)
                | (go_at_call 17; refine HHl.out.mono ?_; rintro e w10 ⟨rfl, h⟩; obtain rfl := h.symm; clear h)
                | fail)
              go_roundw
              case rel => obtain ⟨T3, k1, k2, k3, k4⟩ := HNx.out; exact ⟨i + 1, T3, k1, by go_num, k2, k3, k4⟩
              case measure => simp [intOf]; omega
            · rw [decide_eq_false k2] at q3
              clear K K1 k1 k2 q4
              go_wp2_with (first
                | (go_at_call 16; refine HWt.out.mono ?_; rintro e w10 ⟨rfl, h⟩; obtain rfl := h.symm; clear h)
                | (go_at_call 16; refine HWu.out.mono ?_; rintro e w10 ⟨rfl, h⟩; obtain rfl := h.symm; clear h)
                | (go_at_call 15; refine HCt.out.mono ?_; rintro e w10 ⟨rfl, h⟩; obtain rfl := h.symm; clear h)
                | (go_at_call 17; refine HHl.out.mono ?_; rintro e w10 ⟨rfl, h⟩; obtain rfl := h.symm; clear h)
                | fail)
              go_roundw
              case rel => obtain ⟨T3, k1, k2, k3, k4⟩ := HNx.out; exact ⟨i + 1, T3, k1, by go_num, k2, k3, k4⟩
              case measure => simp [intOf]; omega
          · rw [decide_eq_false k1] at q1
            have k2 : key (floatOfInt .f64 x) ≤ key a1 := by omega
            have K2 := K.2 k2
            rw [decide_eq_true k2] at q3
            rw [decide_eq_false (by omega)] at q4
            clear K K2 k1 k2 q2
            go_wp2_with (first
              | (go_at_call 16; refine HWt.out.mono ?_; rintro e w10 ⟨rfl, h⟩; obtain rfl := h.symm; clear h)
              | (go_at_call 16; refine HWu.out.mono ?_; rintro e w10 ⟨rfl, h⟩; obtain rfl := h.symm; clear h)
              | (go_at_call 15; refine HCt.out.mono ?_; rintro e w10 ⟨rfl, h⟩; obtain rfl := h.symm; clear h)
              | (go_at_call 17; refine HHl.out.mono ?_; rintro e w10 ⟨rfl, h⟩; obtain rfl := h.symm; clear h)
              | fail)
            go_roundw
            case rel => obtain ⟨T3, k1, k2, k3, k4⟩ := HNx.out; exact ⟨i + 1, T3, k1, by go_num, k2, k3, k4⟩
            case measure => simp [intOf]; omega
      · go_wp2
        go_ret
        exact ⟨rfl, HH1.out.bel⟩
  · have HF := hide hf
    obtain ⟨x0, x1, x2, x3, x4⟩ := box5 HX2.out
    clear hf
    go_wp2_with (first
      | (go_at_call 13; refine (HV.out _).mono ?_; rintro e w4 ⟨⟨b2, rfl, hv2⟩, hbl, hsz⟩; have HV2 := hide hv2; have HB4 := hide hbl; have HS4 := hide hsz; clear hv2 hbl hsz))
    refine (New_any w4 b2).mono ?_
    rintro e w5 (⟨hf, _, _⟩ | ⟨hf, rfl, rfl⟩)
    · exact absurd (by rw [HV2.out.fits HV1.out hf]; exact hf) HF.out
    have HX4 : Hid (w5.heap[w.heap.size]? = some (.cells #[.int .i64 A, .int .i64 B, .bool raw, .int .u64 (z : Int), .slice sp l c] 44)) := hide ((HB4.out.block _ (by have := HS2.out; omega)).trans HX2.out)
    have HB5 : Hid (Below w.heap.size w w5) := hide (HB2.out.trans (HB4.out.mono (by have := HS2.out; omega)))
    have hs5 : w.heap.size + 2 < w5.heap.size := by have := HS2.out; have := HS4.out; omega
    have HS5 := hide hs5
    have HM := hide num_any
    clear hf HF HV1 HV2 HX2 HB2 HS2 HB4 HS4 hs5 x0 x1 x2 x3 x4
    go_wp2_with (first
      | (go_at_call 14; refine (HM.out _ _).mono ?_; rintro e w6 ⟨rfl, h⟩; obtain rfl := h.symm; clear h))
    refine (New_any w5 _).mono ?_
    rintro e w6 (⟨_, rfl, hk6, hbl, hsz⟩ | ⟨hf, _, _⟩)
    rotate_left
    · exact absurd fits_quarter hf
    have HK6 := hide hk6
    have HB6 := hide hbl
    have HS6 := hide hsz
    clear hk6 hbl hsz
    go_wp2_with fail
    refine (New_any w6 _).mono ?_
    rintro e w7 (⟨_, rfl, hk7, hbl, hsz⟩ | ⟨hf, _, _⟩)
    rotate_left
    · exact absurd fits_quarter hf
    have hs5 := HS5.out
    have hs6 := HS6.out
    have HH : Hid (Hs w w7 (.cells #[.int .i64 A, .int .i64 B, .bool raw, .int .u64 (z : Int), .slice sp l c] 44) w5.heap.size w6.heap.size ⟨4598175219545276416, 0, 0⟩) := hide ⟨(hbl.block _ (by omega)).trans ((HB6.out.block _ (by omega)).trans HX4.out), (HB5.out.trans (HB6.out.mono (by omega))).trans (hbl.mono (by omega)), HK6.out.kept (hbl.block _ (by omega)), hk7, by omega, by omega, fits_quarter.ok (by unfold Wf; omega)⟩
    clear HX4 HB5 HS5 HK6 HB6 HS6 hk7 hbl hsz hs5 hs6
    generalize w5.heap.size = bt at *
    generalize w6.heap.size = bu at *
    have HC := hide (Count_any _ bt _ HH.out.kt)
    have HW := hide (Average_any _ bt _ HH.out.kt)
    go_wp2_with (first
      | (go_at_call 14; refine (HM.out _ _).mono ?_; rintro e w6 ⟨rfl, h⟩; obtain rfl := h.symm; clear h)
      | (go_at_call 15; refine HC.out.mono ?_; rintro e w6 ⟨rfl, h⟩; obtain rfl := h.symm; clear h)
      | (go_at_call 16; refine HW.out.mono ?_; rintro e w6 ⟨rfl, h⟩; obtain rfl := h.symm; clear h))
    go_loopw [7] (fun iv wr => ∃ (i : Nat) (T : Td), i ≤ l ∧ iv = .int .i64 (i : Int) ∧ T.n = i ∧ Hid (Hs w wr (.cells #[.int .i64 A, .int .i64 B, .bool raw, .int .u64 (z : Int), .slice sp l c] 44) bt bu T) ∧ Hid (0 < i → Among xs i T.av)) (fun i _ => l - (intOf i).toNat)
    case atStart => exact ⟨0, _, by omega, rfl, rfl, HH, hide (fun h => absurd h (by omega))⟩
    case round =>
      obtain ⟨i, T, hi, rfl, hn, HH1, HA1⟩ := hrel
      clear HH
      obtain ⟨x0, x1, x2, x3, x4⟩ := box5 HH1.out.box
      by_cases hlt : i < l
      · obtain ⟨x, hxi⟩ : ∃ x, xs[i]? = some x := ⟨_, List.getElem?_eq_getElem (by have := HL.out; omega)⟩
        obtain ⟨g, o, he, hcx⟩ := HX.out.cell HH1.out.bel hxi
        subst he
        have hr := HX.out.rng x (List.mem_of_getElem? hxi)
        have fx := (HX.out.fin hxi)
        have HR := hide hr
        have HXI := hide hxi
        have HN1 := hide (Note_any _ bt T x HH1.out.kt HH1.out.ok hr.1 hr.2 (by omega))
        have HAm := hide (among_step hxi hn HA1.out)
        have HOk := hide (HH1.out.ok.note hr.1 hr.2)
        have i1 : (0 : Int) ≤ (i : Int) := by omega
        have i2 : (i : Int) < (l : Int) := by omega
        have HW0 := hide (Average_any _ bt T HH1.out.kt)
        have hnn : (T.note x).n = i + 1 := by show T.n + 1 = _; rw [hn]
        have HK : Hid ((0 < i → (key T.av ≤ key (floatOfInt .f64 x) → key T.av ≤ key (T.note x).av ∧ key (T.note x).av ≤ key (floatOfInt .f64 x)) ∧ (key (floatOfInt .f64 x) ≤ key T.av → key (floatOfInt .f64 x) ≤ key (T.note x).av ∧ key (T.note x).av ≤ key T.av))) := by
          intro h
          have := held_key (bN T.av (mN (dN T.av (floatOfInt .f64 x)) T.wt)) T.av (floatOfInt .f64 x)
          rw [show (T.note x).av = held (bN T.av (mN (dN T.av (floatOfInt .f64 x)) T.wt)) T.av (floatOfInt .f64 x) by unfold Td.note; simp only [if_neg (show ¬ T.n = 0 by omega)]; rfl]
          exact this
        have fa := HH1.out.ok.a1
        have fn := HOk.out.a1
        clear hxi hr
        generalize hT2 : T.note x = T2 at *
        have HT2 := hide hT2
        clear hT2
        have c5 : i + 1 ≤ c := by omega
        have c6 : (i : Int) + 1 ≤ (c : Int) := by omega
        go_wp2_with (first
          | (go_at_call 16; refine HW0.out.mono ?_; rintro e w7 ⟨rfl, h⟩; obtain rfl := h.symm; clear h HW0)
          | (go_at_call 7; refine HN1.out.mono ?_; rintro e w8 ⟨rfl, hk8, ho8⟩; have HK8 := hide hk8; have HO8 := hide ho8; have HU8 := hide (HH1.out.ku.kept (ho8.block bu (by have := HH1.out.lu; omega))); have HN2 := hide (Note_any _ bu T x HU8.out HH1.out.ok HR.out.1 HR.out.2 (by omega)); have x4b : w8.cell? ⟨w.heap.size, 4, none⟩ = _ := (box5 ((ho8.block w.heap.size (by have := HH1.out.lt; omega)).trans HH1.out.box)).2.2.2.2; have hcx8 := (HX.out.cell (ho8.below HH1.out.bel (Nat.le_of_lt HH1.out.lt)) HXI.out); obtain ⟨g', o', he8, hcx8⟩ := hcx8; obtain ⟨rfl, rfl⟩ : g = g' ∧ o = o' := (by simpa using he8); clear he8 hk8 ho8 HN1)
          | fail)
        refine HN2.out.mono ?_
        rintro e w9 ⟨rfl, hk9, ho9⟩
        rw [HT2.out] at hk9
        have HS9 : Hid (Hs w w9 (.cells #[.int .i64 A, .int .i64 B, .bool raw, .int .u64 (z : Int), .slice (some ⟨g, o, none⟩) l c] 44) bt bu T2) := hide ⟨(ho9.block w.heap.size (by have := HH1.out.lt; have := HH1.out.lu; omega)).trans ((HO8.out.block w.heap.size (by have := HH1.out.lt; omega)).trans HH1.out.box), ho9.below (HO8.out.below HH1.out.bel (Nat.le_of_lt HH1.out.lt)) (by have := HH1.out.lt; have := HH1.out.lu; omega), HK8.out.kept (ho9.block bt (by have := HH1.out.lu; omega)), hk9, HH1.out.lt, HH1.out.lu, HOk.out⟩
        have x4c : w9.cell? ⟨w.heap.size, 4, none⟩ = _ := (box5 HS9.out.box).2.2.2.2
        obtain ⟨g', o', he9, hcx9⟩ := HX.out.cell HS9.out.bel HXI.out
        obtain ⟨rfl, rfl⟩ : g = g' ∧ o = o' := by simpa using he9
        have HWt := hide (Average_any _ bt T2 HS9.out.kt)
        have HWu := hide (Average_any _ bu T2 HS9.out.ku)
        have HCt := Count_any _ bt T2 HS9.out.kt
        have e5 : ((T2.n : Nat) : Int) = (i : Int) + 1 := by omega
        rw [e5] at HCt
        have HCt := hide HCt
        have HHl := hide (hull_any w w9 (some ⟨g, o, none⟩) (i + 1) c T2.av xs HX.out HS9.out.bel (by omega) (by have := HL.out; omega) (by omega) HAm.out fn)
        have qe : (FloatKind.f64.format.order T2.av T2.av != some .eq) = false := by rw [ne_iff fn.nn fn.nn]; simp
        have q1 := le_iff fa.nn fx.1.nn
        have q2 := lt_iff fn.nn fa.nn
        have q3 := ge_iff fa.nn fx.1.nn
        have q4 := gt_iff fn.nn fa.nn
        have HNx : Hid (∃ T' : Td, i + 1 ≤ l ∧ T'.n = i + 1 ∧ Hid (Hs w w9 (.cells #[.int .i64 A, .int .i64 B, .bool raw, .int .u64 (z : Int), .slice (some ⟨g, o, none⟩) l c] 44) bt bu T') ∧ Hid (0 < i + 1 → Among xs (i + 1) T'.av)) := hide ⟨T2, by omega, hnn, HS9, hide (fun _ => HAm.out)⟩
        clear hk9 ho9 he9 HK8 HO8 HU8 HN2 hcx8 x4b HS9 HOk HAm HH1 HA1 x0 x1 x2 x3 x4 hcx HR HXI HT2 e5
        generalize T2.av = a2 at *
        generalize T2.n = n2 at *
        generalize T.av = a1 at *
        have HF := hide fx
        have HF1 := hide fa
        have HF2 := hide fn
        clear fx fa fn
        by_cases h0 : i = 0
        · have g0 : decide ((0 : Int) < (i : Int)) = false := by simp; omega
          have g2 : ¬ 0 < i := by omega
          clear q1 q2 q3 q4 HK h0
          go_wp2_with (first
            | (go_at_call 16; refine HWt.out.mono ?_; rintro e w10 ⟨rfl, h⟩; obtain rfl := h.symm; clear h)
            | (go_at_call 16; refine HWu.out.mono ?_; rintro e w10 ⟨rfl, h⟩; obtain rfl := h.symm; clear h)
            | (go_at_call 15; refine HCt.out.mono ?_; rintro e w10 ⟨rfl, h⟩; obtain rfl := h.symm; clear h)
            | (go_at_call 17; refine HHl.out.mono ?_; rintro e w10 ⟨rfl, h⟩; obtain rfl := h.symm; clear h)
            | fail)
          go_roundw
          case rel => obtain ⟨T3, k1, k2, k3, k4⟩ := HNx.out; exact ⟨i + 1, T3, k1, by go_num, k2, k3, k4⟩
          case measure => simp [intOf]; omega
        · have g0 : decide ((0 : Int) < (i : Int)) = true := by simp; omega
          have g2 : 0 < i := by omega
          have K := HK.out (by omega)
          clear HK h0
          by_cases k1 : key a1 ≤ key (floatOfInt .f64 x)
          · have K1 := K.1 k1
            rw [decide_eq_true k1] at q1
            rw [decide_eq_false (by omega)] at q2
            by_cases k2 : key (floatOfInt .f64 x) ≤ key a1
            · have K2 := K.2 k2
              rw [decide_eq_true k2] at q3
              rw [decide_eq_false (by omega)] at q4
              clear K K1 K2 k1 k2
              go_wp2_with (first
                | (go_at_call 16; refine HWt.out.mono ?_; rintro e w10 ⟨rfl, h⟩; obtain rfl := h.symm; clear h)
                | (go_at_call 16; refine HWu.out.mono ?_; rintro e w10 ⟨rfl, h⟩; obtain rfl := h.symm; clear h)
                | (go_at_call 15; refine HCt.out.mono ?_; rintro e w10 ⟨rfl, h⟩; obtain rfl := h.symm; clear h)
                | (go_at_call 17; refine HHl.out.mono ?_; rintro e w10 ⟨rfl, h⟩; obtain rfl := h.symm; clear h)
                | fail)
              go_roundw
              case rel => obtain ⟨T3, k1, k2, k3, k4⟩ := HNx.out; exact ⟨i + 1, T3, k1, by go_num, k2, k3, k4⟩
              case measure => simp [intOf]; omega
            · rw [decide_eq_false k2] at q3
              clear K K1 k1 k2 q4
              go_wp2_with (first
                | (go_at_call 16; refine HWt.out.mono ?_; rintro e w10 ⟨rfl, h⟩; obtain rfl := h.symm; clear h)
                | (go_at_call 16; refine HWu.out.mono ?_; rintro e w10 ⟨rfl, h⟩; obtain rfl := h.symm; clear h)
                | (go_at_call 15; refine HCt.out.mono ?_; rintro e w10 ⟨rfl, h⟩; obtain rfl := h.symm; clear h)
                | (go_at_call 17; refine HHl.out.mono ?_; rintro e w10 ⟨rfl, h⟩; obtain rfl := h.symm; clear h)
                | fail)
              go_roundw
              case rel => obtain ⟨T3, k1, k2, k3, k4⟩ := HNx.out; exact ⟨i + 1, T3, k1, by go_num, k2, k3, k4⟩
              case measure => simp [intOf]; omega
          · rw [decide_eq_false k1] at q1
            have k2 : key (floatOfInt .f64 x) ≤ key a1 := by omega
            have K2 := K.2 k2
            rw [decide_eq_true k2] at q3
            rw [decide_eq_false (by omega)] at q4
            clear K K2 k1 k2 q2
            go_wp2_with (first
              | (go_at_call 16; refine HWt.out.mono ?_; rintro e w10 ⟨rfl, h⟩; obtain rfl := h.symm; clear h)
              | (go_at_call 16; refine HWu.out.mono ?_; rintro e w10 ⟨rfl, h⟩; obtain rfl := h.symm; clear h)
              | (go_at_call 15; refine HCt.out.mono ?_; rintro e w10 ⟨rfl, h⟩; obtain rfl := h.symm; clear h)
              | (go_at_call 17; refine HHl.out.mono ?_; rintro e w10 ⟨rfl, h⟩; obtain rfl := h.symm; clear h)
              | fail)
            go_roundw
            case rel => obtain ⟨T3, k1, k2, k3, k4⟩ := HNx.out; exact ⟨i + 1, T3, k1, by go_num, k2, k3, k4⟩
            case measure => simp [intOf]; omega
      · go_wp2
        go_ret
        exact ⟨rfl, HH1.out.bel⟩
end Go.Proofs.Ytfcakfedlcajaaa
