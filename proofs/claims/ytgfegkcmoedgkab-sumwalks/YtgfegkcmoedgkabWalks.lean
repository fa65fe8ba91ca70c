import Derived.Test.YtgfegkcmoedgkabWcut
import Derived.Test.YtgfegkcmoedgkabNums
import Derived.Test.YtgfegkcmoedgkabWalkO
namespace Go.Proofs.Ytgfegkcmoedgkab
open Go.RowKit
theorem near_in {lo hi a : Int} (h : lo ≤ hi) : lo ≤ nearR lo hi a ∧ nearR lo hi a ≤ hi := by unfold nearR; grind
theorem near_self {lo hi a : Int} (h : lo ≤ a ∧ a ≤ hi) : nearR lo hi a = a := by unfold nearR; grind
theorem i64_in {lo hi a : Int} (hlo : I64 lo) (hhi : I64 hi) (h : lo ≤ a ∧ a ≤ hi) : I64 a := ⟨by have := hlo.1; omega, by have := hhi.2; omega⟩

set_option maxRecDepth 20000 in
set_option maxHeartbeats 1000000 in
/-- The walk, from where the range is made. -/
theorem walks_core (w : World) (lo hi : Int) (np : Option Addr) (m d : Nat) (zs : List Int) (hlo : I64 lo) (hhi : I64 hi) (hl : lo ≤ hi) (lo0 hi0 a0 : Int) (_ha0 : I64 a0) (hN : InN w np m d zs)
    (hsw : (lo0 = lo ∧ hi0 = hi ∧ decide (hi0 < lo0) = false) ∨ (lo0 = hi ∧ hi0 = lo ∧ decide (hi0 < lo0) = true)) :
    Calls Try.prog 3 #[.agg #[.int .i64 lo0, .int .i64 hi0, .int .i64 a0, .slice np m d]] w fun e w' => e = .returned (.bool true) ∧ Below w.heap.size w w' := by
  have HN := hide hN
  have hm : m ≤ 17592186043904 := Nat.le_trans hN.cap hN.most
  have HB0 := hide (below_al w (.cells #[.int .i64 lo0, .int .i64 hi0, .int .i64 a0, .slice np m d] 24))
  have HSz : Hid (w.heap.size < (w.alloc (.cells #[.int .i64 lo0, .int .i64 hi0, .int .i64 a0, .slice np m d] 24)).heap.size) := by show _ < _; simp
  have HC0 : Hid ((w.alloc (.cells #[.int .i64 lo0, .int .i64 hi0, .int .i64 a0, .slice np m d] 24)).cell? ⟨w.heap.size, 2, none⟩ = some (.int .i64 a0) ∧ (w.alloc (.cells #[.int .i64 lo0, .int .i64 hi0, .int .i64 a0, .slice np m d] 24)).cell? ⟨w.heap.size, 3, none⟩ = some (.slice np m d)) := ⟨by simp [go_sem], by simp [go_sem]⟩
  have HNw := hide (fun w => new_any lo hi w hl)
  have HNm := hide num_any
  clear hN
  rcases hsw with ⟨h1, h2, hs⟩ | ⟨h1, h2, hs⟩
  all_goals
    subst lo0
    subst hi0
    go_enter Try.func3, Try.ntmps3
    go_wp2_with fail
    generalize w.alloc (.cells _ 24) = w1 at *
    refine (HNw.out _).mono ?_
    rintro e w2 ⟨rfl, hR, hb2⟩
    have HC2 : Hid (∀ w', Below w2.heap.size w2 w' → w'.cell? ⟨w.heap.size, 3, none⟩ = some (.slice np m d) ∧ Rg w' w1.heap.size lo hi) := fun w' h => ⟨by
      rw [(hb2.trans (h.mono hb2.size)).cell (p := ⟨w.heap.size, 3, none⟩) HSz.out]; exact HC0.out.2, hR.up h⟩
    have c2 : w2.cell? ⟨w.heap.size, 2, none⟩ = some (.int .i64 a0) := by rw [hb2.cell (p := ⟨w.heap.size, 2, none⟩) HSz.out]; exact HC0.out.1
    have c3 := (HC2.out w2 (Below.refl _ _)).1
    have HR := hide hR
    have HN2 := hide ((HN.out.up HB0.out).up hb2)
    have HE := hide (HB0.out.trans (hb2.mono HB0.out.size))
    clear hb2 hR
    generalize w1.heap.size = g at *
    have HNr := hide (near_any lo hi a0 g w2 HR.out hl)
    have HNi := hide (near_in (a := a0) hl)
    generalize nearR lo hi a0 = a1 at *
    go_wp2_with (first | (go_at_call 5; refine (HNm.out _ _).mono ?_; rintro e w5 ⟨rfl, h⟩; obtain rfl := h.symm; clear h))
    refine HNr.out.mono ?_
    rintro e w3 ⟨rfl, hb3⟩
    have HB3 := hide hb3
    clear hb3 c2 c3 HNr
    go_wp2
    go_loopw [7, 8] (fun ta ti wr => ∃ (k : Nat) (a : Int), k ≤ m ∧ ta = .int .i64 a ∧ ti = .int .i64 (k : Int) ∧ Hid (lo ≤ a ∧ a ≤ hi) ∧ Hid (Below w2.heap.size w2 wr)) (fun _ ti _ => m - (intOf ti).toNat)
    case atStart => exact ⟨0, a1, by omega, rfl, rfl, HNi, HB3⟩
    case round =>
      clear HB3 HNi
      obtain ⟨k, a, hk, rfl, rfl, HI, HB⟩ := hrel
      have c3 := (HC2.out wr HB.out).1
      replace HR := hide (HC2.out wr HB.out).2
      by_cases hlt : k < m
      · have hlt' : k < zs.length := by rw [HN2.out.len]; exact hlt
        obtain ⟨g1, o1, hp, cz⟩ := (HN2.out.lie.below HB.out (Nat.le_refl _)).at hlt'
        subst hp
        have HZ : Hid (∀ w', Below w2.heap.size w2 w' → w'.cell? ⟨g1, o1 + k, none⟩ = some (.int .i64 (zs[k]'hlt'))) := fun w' h => by
          obtain ⟨g3, o3, hp3, c⟩ := (HN2.out.lie.below h (Nat.le_refl _)).at hlt'
          cases hp3
          exact c
        have hz := HN2.out.each _ (List.getElem_mem hlt')
        generalize zs[k]'hlt' = z at *
        have l1 : (k : Int) < (m : Int) := by omega
        have l2 : (0 : Int) ≤ (k : Int) := by omega
        have ha := i64_in hlo hhi HI.out
        have HHa : Hid (∀ w1, Rg w1 g lo hi → Calls Try.prog 7 #[.pointer (some ⟨g, 0, none⟩), .int .i64 a] w1 fun e w' => e = .returned (.bool true) ∧ w' = w1) := fun w1 h1 => by
          have := has_any lo hi a g w1 h1
          rw [hasR_in HI.out] at this
          exact this
        obtain ⟨s0, s1, D, HS0, HS1, d1, d2⟩ : ∃ s0 s1 D, Hid (∀ w1, Rg w1 g lo hi → Calls Try.prog 8 #[.pointer (some ⟨g, 0, none⟩), .int .i64 a, .int .i64 0] w1 fun e w' => e = .returned (.int .u64 s0) ∧ w' = w1) ∧ Hid (∀ w1, Rg w1 g lo hi → Calls Try.prog 8 #[.pointer (some ⟨g, 0, none⟩), .int .i64 a, .int .i64 1] w1 fun e w' => e = .returned (.int .u64 s1) ∧ w' = w1) ∧ IntKind.u64.wrap (s0 + s1) = D ∧ IntKind.u64.wrap (IntKind.u64.wrap hi - IntKind.u64.wrap lo) = D := by
          refine ⟨a - lo, hi - a, hi - lo, fun w1 h1 => ?_, fun w1 h1 => ?_, ?_, ?_⟩
          · have := slack_any lo hi a 0 ha hlo hhi g w1 h1
            rw [show slackR lo hi a 0 = a - lo by simp [slackR, hasR_in HI.out]] at this
            exact this
          · have := slack_any lo hi a 1 ha hlo hhi g w1 h1
            rw [show slackR lo hi a 1 = hi - a by simp [slackR, hasR_in HI.out]] at this
            exact this
          · rw [IntKind.wrap_u64]; have := hlo.1; have := hhi.2; omega
          · simp only [IntKind.wrap_u64]; have := hlo.1; have := hhi.2; have := hlo.2; have := hhi.1; omega
        have d3 : (D != D) = false := by simp
        have HNg := hide (fun w => neg_any z hz w)
        have HCu := hide (wcut_any lo hi a z hlo hhi ha hz HI.out g)
        cases hok : movB lo hi a z
        · have HMa := hide (fun w1 h1 => move_any lo hi a z ha hz g w1 h1)
          rw [hok] at HMa
          clear hok
          go_wp2_with (first
            | (go_at_call 7; with_reducible refine (HHa.out _ HR.out).mono ?_; rintro e w5 ⟨rfl, h⟩; obtain rfl := h.symm; clear h)
            | (go_at_call 8; with_reducible refine (HS0.out _ HR.out).mono ?_; rintro e w5 ⟨rfl, h⟩; obtain rfl := h.symm; clear h)
            | (go_at_call 8; with_reducible refine (HS1.out _ HR.out).mono ?_; rintro e w5 ⟨rfl, h⟩; obtain rfl := h.symm; clear h)
            | (go_at_call 9; with_reducible refine (HMa.out _ HR.out).mono ?_; rintro e w5 ⟨rfl, g5⟩; replace HB := hide (HB.out.trans (g5.mono HB.out.size)); clear g5 c3; have c3 := (HC2.out _ HB.out).1; replace HR := hide (HC2.out _ HB.out).2; try replace cz := HZ.out _ HB.out)
            | (go_at_call 10; with_reducible refine (HNg.out _).mono ?_; rintro e w5 ⟨rfl, g5⟩; replace HB := hide (HB.out.trans (g5.mono HB.out.size)); clear g5 c3; have c3 := (HC2.out _ HB.out).1; replace HR := hide (HC2.out _ HB.out).2; try replace cz := HZ.out _ HB.out))
          refine (HCu.out _ HR.out).mono ?_
          rintro e w6 ⟨⟨v, rfl, hv1, hv2⟩, g6⟩
          have HI6 : Hid (lo ≤ v ∧ v ≤ hi) := ⟨hv1, hv2⟩
          replace HB := hide (HB.out.trans (g6.mono HB.out.size))
          clear g6 c3 cz hv1 hv2 HR
          go_wp2
          go_roundw
          case rel => exact ⟨k + 1, v, by omega, rfl, by go_num, HI6, HB⟩
          case measure => simp [intOf]; omega
        · obtain ⟨m1, m2, m3⟩ := mov_true hok
          have HMa := hide (fun w1 h1 => move_any lo hi a z ha hz g w1 h1)
          rw [hok, m1] at HMa
          have HIb : Hid (lo ≤ a + z ∧ a + z ≤ hi) := ⟨m2, m3⟩
          have hb := i64_in hlo hhi HIb.out
          have HHb : Hid (∀ w1, Rg w1 g lo hi → Calls Try.prog 7 #[.pointer (some ⟨g, 0, none⟩), .int .i64 (a + z)] w1 fun e w' => e = .returned (.bool true) ∧ w' = w1) := fun w1 h1 => by
            have := has_any lo hi (a + z) g w1 h1
            rw [hasR_in HIb.out] at this
            exact this
          have zaa : (a != a) = false := by simp
          cases hmay : fits (-z)
          · have HMb : Hid (∃ V O, ∀ w1, Rg w1 g lo hi → Calls Try.prog 9 #[.pointer (some ⟨g, 0, none⟩), .int .i64 (a + z), .int .i64 (fitv (-z))] w1 fun e w' => e = .returned (.tuple #[.int .i64 V, .bool O]) ∧ Below w1.heap.size w1 w') := ⟨_, _, fun w1 h1 => move_any lo hi (a + z) (fitv (-z)) hb (by rw [fitv_not hmay]; exact i64_0) g w1 h1⟩
            obtain ⟨V, O, hMb⟩ := HMb.out
            replace HMb := hide hMb
            rw [hmay] at HNg
            clear hMb hmay hok m1 m2 m3 HCu
            generalize fitv (-z) = n at *
            generalize a + z = b at *
            go_wp2_with (first
              | (go_at_call 7; with_reducible refine (HHa.out _ HR.out).mono ?_; rintro e w5 ⟨rfl, h⟩; obtain rfl := h.symm; clear h)
              | (go_at_call 7; with_reducible refine (HHb.out _ HR.out).mono ?_; rintro e w5 ⟨rfl, h⟩; obtain rfl := h.symm; clear h)
              | (go_at_call 8; with_reducible refine (HS0.out _ HR.out).mono ?_; rintro e w5 ⟨rfl, h⟩; obtain rfl := h.symm; clear h)
              | (go_at_call 8; with_reducible refine (HS1.out _ HR.out).mono ?_; rintro e w5 ⟨rfl, h⟩; obtain rfl := h.symm; clear h)
              | (go_at_call 9; with_reducible refine (HMa.out _ HR.out).mono ?_; rintro e w5 ⟨rfl, g5⟩; replace HB := hide (HB.out.trans (g5.mono HB.out.size)); clear g5 c3; have c3 := (HC2.out _ HB.out).1; replace HR := hide (HC2.out _ HB.out).2; try replace cz := HZ.out _ HB.out)
              | (go_at_call 9; with_reducible refine (HMb.out _ HR.out).mono ?_; rintro e w5 ⟨rfl, g5⟩; replace HB := hide (HB.out.trans (g5.mono HB.out.size)); clear g5 c3; have c3 := (HC2.out _ HB.out).1; replace HR := hide (HC2.out _ HB.out).2; try replace cz := HZ.out _ HB.out)
              | (go_at_call 10; with_reducible refine (HNg.out _).mono ?_; rintro e w5 ⟨rfl, g5⟩; replace HB := hide (HB.out.trans (g5.mono HB.out.size)); clear g5 c3; have c3 := (HC2.out _ HB.out).1; replace HR := hide (HC2.out _ HB.out).2; try replace cz := HZ.out _ HB.out))
            clear c3 cz HR
            go_roundw
            case rel => exact ⟨k + 1, b, by omega, rfl, by go_num, HIb, HB⟩
            case measure => simp [intOf]; omega
          · have HMb : Hid (∀ w1, Rg w1 g lo hi → Calls Try.prog 9 #[.pointer (some ⟨g, 0, none⟩), .int .i64 (a + z), .int .i64 (fitv (-z))] w1 fun e w' => e = .returned (.tuple #[.int .i64 a, .bool true]) ∧ Below w1.heap.size w1 w') := fun w1 h1 => by
              have h5 := mov_in (a := a + z) (c := -z) hlo hhi HIb.out (by have := HI.out; omega)
              have := move_any lo hi (a + z) (fitv (-z)) hb (by rw [fitv_fits hmay]; exact (fits_iff _).1 hmay) g w1 h1
              rw [fitv_fits hmay] at this ⊢
              rw [h5.1, h5.2, show a + z + -z = a by omega] at this
              exact this
            rw [hmay] at HNg
            clear hmay hok m1 m2 m3 HCu
            generalize fitv (-z) = n at *
            generalize a + z = b at *
            go_wp2_with (first
              | (go_at_call 7; with_reducible refine (HHa.out _ HR.out).mono ?_; rintro e w5 ⟨rfl, h⟩; obtain rfl := h.symm; clear h)
              | (go_at_call 7; with_reducible refine (HHb.out _ HR.out).mono ?_; rintro e w5 ⟨rfl, h⟩; obtain rfl := h.symm; clear h)
              | (go_at_call 8; with_reducible refine (HS0.out _ HR.out).mono ?_; rintro e w5 ⟨rfl, h⟩; obtain rfl := h.symm; clear h)
              | (go_at_call 8; with_reducible refine (HS1.out _ HR.out).mono ?_; rintro e w5 ⟨rfl, h⟩; obtain rfl := h.symm; clear h)
              | (go_at_call 9; with_reducible refine (HMa.out _ HR.out).mono ?_; rintro e w5 ⟨rfl, g5⟩; replace HB := hide (HB.out.trans (g5.mono HB.out.size)); clear g5 c3; have c3 := (HC2.out _ HB.out).1; replace HR := hide (HC2.out _ HB.out).2; try replace cz := HZ.out _ HB.out)
              | (go_at_call 9; with_reducible refine (HMb.out _ HR.out).mono ?_; rintro e w5 ⟨rfl, g5⟩; replace HB := hide (HB.out.trans (g5.mono HB.out.size)); clear g5 c3; have c3 := (HC2.out _ HB.out).1; replace HR := hide (HC2.out _ HB.out).2; try replace cz := HZ.out _ HB.out)
              | (go_at_call 10; with_reducible refine (HNg.out _).mono ?_; rintro e w5 ⟨rfl, g5⟩; replace HB := hide (HB.out.trans (g5.mono HB.out.size)); clear g5 c3; have c3 := (HC2.out _ HB.out).1; replace HR := hide (HC2.out _ HB.out).2; try replace cz := HZ.out _ HB.out))
            clear c3 cz HR
            go_roundw
            case rel => exact ⟨k + 1, b, by omega, rfl, by go_num, HIb, HB⟩
            case measure => simp [intOf]; omega
      · have l1 : decide ((k : Int) < (m : Int)) = false := decide_eq_false (by omega)
        have HNr := hide (near_any lo hi a g wr HR.out hl)
        rw [near_self HI.out] at HNr
        have zaa : (a == a) = true := by simp
        go_wp2_with fail
        refine HNr.out.mono ?_
        rintro e w6 ⟨rfl, g6⟩
        replace HB := hide (HB.out.trans (g6.mono HB.out.size))
        clear g6 c3 HR
        go_wp2
        go_ret
        exact ⟨rfl, HE.out.trans (HB.out.mono HE.out.size)⟩
theorem walks_all (w : World) (lo hi a : Int) (np : Option Addr) (m d : Nat) (zs : List Int) (hlo : I64 lo) (hhi : I64 hi) (ha : I64 a) (hN : InN w np m d zs) :
    Calls Try.prog 3 #[.agg #[.int .i64 lo, .int .i64 hi, .int .i64 a, .slice np m d]] w fun e w' => e = .returned (.bool true) ∧ Below w.heap.size w w' := by
  by_cases h : hi < lo
  · exact walks_core w hi lo np m d zs hhi hlo (by omega) lo hi a ha hN (Or.inr ⟨rfl, rfl, by simpa using h⟩)
  · exact walks_core w lo hi np m d zs hlo hhi (by omega) lo hi a ha hN (Or.inl ⟨rfl, rfl, by simpa using h⟩)
end Go.Proofs.Ytgfegkcmoedgkab
