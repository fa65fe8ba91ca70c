import Derived.Test.YtplbnnfncngchaaPcG
namespace Go.Proofs.Ytplbnnfncngchaa
open Go.RowKit

/-- Steps that came in. -/
structure Stps (w : World) (sp : Option Addr) (ss : List (Int × Int × Int)) : Prop where
  lie : ss = [] ∨ ∃ g o, sp = some ⟨g, o, none⟩ ∧ g < w.heap.size ∧ ∀ j a b c, ss[j]? = some (a, b, c) → w.cell? ⟨g, o + j * 3, none⟩ = some (.int .i64 a) ∧ w.cell? ⟨g, o + j * 3 + 1, none⟩ = some (.int .i64 b) ∧ w.cell? ⟨g, o + j * 3 + 2, none⟩ = some (.int .i64 c)
theorem Sg.start {w w' : World} {bx o1 o2 : Obj} (e1 : o1 = .cells (ptrs 0 id) 27 (0, 0)) (e2 : o2 = .cells (ptrs 0 id) 29 (0, 0)) (he : w' = ((w.alloc bx).alloc o1).alloc o2) :
    ∃ K, Sg w w' K bx 0 0 id id id id := by
  subst e1 e2 he
  have z : ∀ (w : World) (o : Obj), (w.alloc o).heap.size = w.heap.size + 1 := fun w o => by unfold World.alloc; exact Array.size_push _
  have b1 : Below w.heap.size w (((w.alloc bx).alloc (.cells (ptrs 0 id) 27 (0, 0))).alloc (.cells (ptrs 0 id) 29 (0, 0))) := (((Below.refl _ _).alloc (Nat.le_refl _) _).alloc (by rw [z]; omega) _).alloc (by rw [z, z]; omega) _
  refine ⟨fun b => if b < w.heap.size then (0, 0) else (3, b - w.heap.size), ?_, ?_, ?_, by omega, fun _ h => absurd h (by omega), fun _ h => absurd h (by omega), fun _ h => absurd h (by omega), fun _ h => absurd h (by omega), ⟨(if_neg (by omega)).trans (by rw [show w.heap.size - w.heap.size = 0 by omega]), (if_neg (by omega)).trans (by rw [show w.heap.size + 1 - w.heap.size = 1 by omega]), (if_neg (by omega)).trans (by rw [show w.heap.size + 1 + 1 - w.heap.size = 2 by omega])⟩, fun _ h => absurd h (by omega), fun _ h => absurd h (by omega), fun b hb => if_pos hb, b1⟩
  · rw [Below.heap_alloc _ _ _ (by rw [z, z]; omega), Below.heap_alloc _ _ _ (by rw [z]; omega)]; exact heap_alloc_new _ _
  · rw [Below.heap_alloc _ _ _ (by rw [z, z]; omega)]
    have := heap_alloc_new (w.alloc bx) (.cells (ptrs 0 id) 27 (0, 0))
    rw [z] at this; exact this
  · have := heap_alloc_new ((w.alloc bx).alloc (.cells (ptrs 0 id) 27 (0, 0))) (.cells (ptrs 0 id) 29 (0, 0))
    rw [z, z] at this; exact this
set_option maxRecDepth 100000 in
set_option maxHeartbeats 2000000 in
theorem exact_all (w : World) (z0 z1 : Int) (sp : Option Addr) (l c : Nat) (ss : List (Int × Int × Int)) (hl : ss.length = l) (hb : l ≤ 140737488355328) (hx : Stps w sp ss) :
    Calls Try.prog 3 #[.agg #[.int .i64 z0, .int .i64 z1, .slice sp l c]] w fun e w' => e = .returned (.bool true) ∧ Below w.heap.size w w' := by
  have HX := hide hx
  have HL := hide hl
  clear hx hl
  go_enter Try.func3, Try.ntmps3
  go_wp2_with fail
  obtain ⟨K0, hs0⟩ := Sg.start (w := w) (bx := .cells #[.int .i64 z0, .int .i64 z1, .slice sp l c] 25) rfl rfl rfl
  have HS0 := hide hs0
  clear hs0
  go_loopw [5] (fun iv wr => ∃ (i : Nat) (K : Knd) (pf qf mf nf : Nat → Nat), i ≤ 12 ∧ iv = .int .i64 (i : Int) ∧ Hid (Sg w wr K (.cells #[.int .i64 z0, .int .i64 z1, .slice sp l c] 25) i 0 pf qf mf nf)) (fun i _ => 12 - (intOf i).toNat)
  case atStart => exact ⟨0, K0, id, id, id, id, by omega, rfl, HS0⟩
  case round =>
    obtain ⟨i, K, pf, qf, mf, nf, hi, rfl, HS⟩ := hrel
    by_cases hlt : i < 12
    · obtain ⟨x0, x1, x2⟩ := box3 HS.out.box
      obtain ⟨r, hr, hr2⟩ : ∃ r : Nat, (i : Int).tmod 2 = (r : Int) ∧ r < 2 := ⟨i % 2, by rw [Int.tmod_eq_emod_of_nonneg (by omega)]; omega, by omega⟩
      obtain ⟨z, hz⟩ : ∃ z, wr.cell? ⟨w.heap.size, r, none⟩ = some (.int .i64 z) := by
        rcases (show r = 0 ∨ r = 1 by omega) with rfl | rfl
        · exact ⟨_, x0⟩
        · exact ⟨_, x1⟩
      have hr3 : (i : Int) % 2 = (r : Int) := by rw [← hr, Int.tmod_eq_emod_of_nonneg (by omega)]
      have r0 : (0 : Int) ≤ (r : Int) := by omega
      have r1 : (r : Int) < 2 := by omega
      have i0 : (0 : Int) ≤ (i : Int) := by omega
      have i1 : (i : Int) < 12 := by omega
      have HM := hide (made_any wr z)
      by_cases hv : 1 ≤ z ∧ z ≤ 64
      · have HV := hide hv
        clear hv x0 x1 x2
        go_wp2_with (first
          | (go_at_call 6; refine HM.out.mono ?_; rintro e w2 (⟨_, rfl, hp, hq, hbl, hsz⟩ | ⟨h, _⟩); rotate_left; exact absurd HV.out h; obtain ⟨v1, v2, g1, g2, g3, g4⟩ := (HS.out.below hbl).any hlt; have HP := hide hp; have HQ := hide hq; have HB := hide hbl; clear hp hq hbl hsz HM))
        obtain ⟨K', hs'⟩ := HS.out.put (n' := i + 1) (Or.inr ⟨rfl, rfl⟩) hlt HB.out HP.out HQ.out (by have := HV.out; omega) (by have := HV.out; omega)
        exact ⟨⟨i + 1, K', _, _, _, _, by omega, by go_num, hide hs'⟩, by simp [intOf]; omega⟩
      · have HV := hide hv
        have HI := hide (into_any wr z 64 (by omega) (by omega))
        have hm1 := into_lt z 64 (by omega)
        generalize (z % ((64 : Nat) : Int)).toNat = m at *
        have HM2 := hide (made_any wr (1 + (m : Int)))
        clear hv x0 x1 x2
        go_wp2_with (first
          | (go_at_call 6; refine HM.out.mono ?_; rintro e w2 (⟨h, _⟩ | ⟨_, rfl, h⟩); exact absurd h HV.out; obtain rfl := h.symm; clear h HM)
          | (go_at_call 7; refine HI.out.mono ?_; rintro e w3 ⟨rfl, h⟩; obtain rfl := h.symm; clear h HI)
          | (go_at_call 6; refine HM2.out.mono ?_; rintro e w2 (⟨_, rfl, hp, hq, hbl, hsz⟩ | ⟨h, _⟩); rotate_left; exact absurd (And.intro (by omega) (by omega)) h; obtain ⟨v1, v2, g1, g2, g3, g4⟩ := (HS.out.below hbl).any hlt; have HP := hide hp; have HQ := hide hq; have HB := hide hbl; clear hp hq hbl hsz HM2))
        obtain ⟨K', hs'⟩ := HS.out.put (n' := i + 1) (Or.inr ⟨rfl, rfl⟩) hlt HB.out HP.out HQ.out (by omega) (by omega)
        exact ⟨⟨i + 1, K', _, _, _, _, by omega, by go_num, hide hs'⟩, by simp [intOf]; omega⟩
    · have HS12 : Hid (Sg w wr K (.cells #[.int .i64 z0, .int .i64 z1, .slice sp l c] 25) 12 0 pf qf mf nf) := by
        have h := HS.out
        rw [show i = 12 by omega] at h
        exact h
      have hn12 : ¬ (i : Int) < 12 := by omega
      clear HS0 HS hlt
      generalize hic : (i : Int) = ic at *
      clear hic
      go_wp2_with fail
      go_loopw [9] (fun iv wr => ∃ (i : Nat) (K : Knd) (pf qf mf nf : Nat → Nat), i ≤ l ∧ i ≤ 2000 ∧ iv = .int .i64 (i : Int) ∧ Hid (Sg w wr K (.cells #[.int .i64 z0, .int .i64 z1, .slice sp l c] 25) 12 i pf qf mf nf)) (fun i _ => 2000 - (intOf i).toNat)
      case atStart => exact ⟨0, K, pf, qf, mf, nf, by omega, by omega, rfl, HS12⟩
      case round =>
        clear HS12
        obtain ⟨i, K, pf, qf, mf, nf, hi, hi2, rfl, HS⟩ := hrel
        obtain ⟨x0, x1, x2⟩ := box3 HS.out.box
        clear x0 x1
        by_cases hlt : i < l ∧ i < 2000
        · obtain ⟨hlt, hlt2⟩ := hlt
          obtain ⟨⟨kd, wh, cp⟩, hst⟩ : ∃ p, ss[i]? = some p := ⟨_, List.getElem?_eq_getElem (by have := HL.out; omega)⟩
          obtain ⟨g, o, rfl, hgl, hcs⟩ : ∃ g o, sp = some ⟨g, o, none⟩ ∧ g < w.heap.size ∧ (wr.cell? ⟨g, o + i * 3, none⟩ = some (.int .i64 kd) ∧ wr.cell? ⟨g, o + i * 3 + 1, none⟩ = some (.int .i64 wh) ∧ wr.cell? ⟨g, o + i * 3 + 2, none⟩ = some (.int .i64 cp)) := by
            rcases HX.out.lie with e | ⟨g, o, e, hg, hc⟩
            · rw [e] at hst; cases hst
            · obtain ⟨c0, c1, c2⟩ := hc i kd wh cp hst
              have hbl := HS.out.bel
              exact ⟨g, o, e, hg, (hbl.cell (p := ⟨g, o + i * 3, none⟩) hg).trans c0, (hbl.cell (p := ⟨g, o + i * 3 + 1, none⟩) hg).trans c1, (hbl.cell (p := ⟨g, o + i * 3 + 2, none⟩) hg).trans c2⟩
          obtain ⟨c0, c1, c2⟩ := hcs
          have HS1 := hide (HS.out.below ((Below.refl wr.heap.size wr).alloc (Nat.le_refl _) (.cells #[.int .i64 kd, .int .i64 wh, .int .i64 cp] 34)))
          have HI := hide (into_any (wr.alloc (.cells #[.int .i64 kd, .int .i64 wh, .int .i64 cp] 34)) wh 12 (by omega) (by omega))
          have hk := into_lt wh 12 (by omega)
          generalize (wh % ((12 : Nat) : Int)).toNat = k at *
          have i0 : (0 : Int) ≤ (i : Int) := by omega
          have i1 : (i : Int) < (l : Int) := by omega
          have i2 : (i : Int) < 2000 := by omega
          have k0 : (0 : Int) ≤ (k : Int) := by omega
          have k1 : (k : Int) < 12 := by omega
          clear hst
          obtain ⟨p1, p2⟩ := HS1.out.cells hk
          have hm1 := HS1.out.m1 k hk
          have hst := HS1.out.st k hk
          by_cases e1 : kd = 1
          · subst e1
            obtain ⟨f1, f2, f3, f4⟩ := HS1.out.far hk
            have HS2 := hide HS1.out.drew
            obtain ⟨d1, d2⟩ := HS2.out.cells hk
            have HT := hide (Tick_any _ _ _ (HS2.out.pk k hk) (it_ok hm1.1 hm1.2 _))
            have HRf := hide (HS2.out.rf k hk)
            have HNE := hide (HS1.out.ne hk)
            have HD1 := hide d1
            have HD2 := hide d2
            clear d1 d2
            go_wp2_with (first
              | (go_at_call 7; refine HI.out.mono ?_; rintro e w3 ⟨rfl, h⟩; obtain rfl := h.symm; clear h HI))
            go_region_held3 (fun w' => w'.cell? ⟨w.heap.size + 1, k, none⟩ = some (.pointer (some ⟨pf k, 0, none⟩)) ∧ w'.cell? ⟨w.heap.size + 1 + 1, k, none⟩ = some (.pointer (some ⟨qf k, 0, none⟩))) (go_keep) (first
              | (go_at_call 9; refine HRT.out.mono ?_; rintro e w5 ⟨rfl, hp5, hl5⟩; have y1 := hl5.cell f3 q1; have y2 := hl5.cell f4 q2; have HP5 := hide hp5; have HL5 := hide hl5; clear hp5 hl5 HRT)
              | (go_at_call 8; refine HT.out.mono ?_; rintro e w4 ⟨rfl, hp4, hl4⟩; have q1 := hl4.cell f1 HD1.out; have q2 := hl4.cell f2 HD2.out; have HP4 := hide hp4; have HL4 := hide hl4; have HRT := hide (RTick_any w4 _ _ _ (HRf.out.kept (hl4.block _ (fun e => HNE.out e.symm))) hm1.1 hm1.2 (by omega)); clear hp4 hl4 HT)
              | fail)
            all_goals go_wp2_with fail
            exact ⟨⟨i + 1, _, pf, qf, mf, _, by omega, by omega, by go_num, hide (HS2.out.two hk HL4.out HL5.out (m := nf k + 1) HP4.out HP5.out (by omega) (by omega))⟩, by simp [intOf]; omega⟩
          by_cases e2 : kd = 2
          · subst e2
            have HR := hide (Reset_any _ _ _ (HS1.out.pk k hk))
            have HRf := hide (HS1.out.rf k hk)
            have HNE := hide (HS1.out.ne hk)
            have hx3 := HS1.out.rb
            go_wp2_with (first
              | (go_at_call 7; refine HI.out.mono ?_; rintro e w3 ⟨rfl, h⟩; obtain rfl := h.symm; clear h HI)
              | (go_at_call 10; refine HR.out.mono ?_; rintro e w4 ⟨rfl, hp4, hl4⟩; have HP4 := hide hp4; have HL4 := hide hl4; have HR5 := hide (RReset_any w4 _ _ _ (HRf.out.kept (hl4.block _ (fun e => HNE.out e.symm)))); have p4 : w4.cell? ⟨w.heap.size + 1 + 1, k, none⟩ = some (.pointer (some ⟨qf k, 0, none⟩)) := (HS1.out.keepB hk hl4); clear hp4 hl4 HR)
              | (go_at_call 11; refine HR5.out.mono ?_; rintro e w5 ⟨rfl, hp5, hl5⟩; have HP5 := hide hp5; have HL5 := hide hl5; clear hp5 hl5 HR5))
            have hp4 := HP4.out
            rw [it_most] at hp4
            exact ⟨⟨i + 1, _, pf, qf, mf, _, by omega, by omega, by go_num, hide (HS1.out.two hk HL4.out HL5.out (m := 0) hp4 HP5.out (by omega) (by omega))⟩, by simp [intOf]; omega⟩
          by_cases e3 : kd = 3
          · subst e3
            have HW := hide (fun q => Wait_any ((wr.alloc (.cells #[.int .i64 3, .int .i64 wh, .int .i64 cp] 34)).drewN q) _ _ (HS1.out.pk k hk))
            have HRW := hide (fun q => RWait_any ((wr.alloc (.cells #[.int .i64 3, .int .i64 wh, .int .i64 cp] 34)).drewN q) _ _ _ (HS1.out.rf k hk) hm1.1 hm1.2 (by omega))
            generalize (it (mf k) (nf k)).left = L at *
            go_wp2_with (first
              | (go_at_call 7; refine HI.out.mono ?_; rintro e w3 ⟨rfl, h⟩; obtain rfl := h.symm; clear h HI))
            go_quiet (first | (go_at_call 12; exact Calls.quiet_of_same (HW.out _)) | (go_at_call 13; exact Calls.quiet_of (HRW.out _)))
            all_goals go_wp2_with fail
            exact ⟨⟨i + 1, _, pf, qf, mf, nf, by omega, by omega, by go_num, hide ((HS1.out.drewN _).mono (by omega))⟩, by simp [intOf]; omega⟩
          by_cases e4 : kd = 4
          · subst e4
            have HM := hide (made_any (wr.alloc (.cells #[.int .i64 4, .int .i64 wh, .int .i64 cp] 34)) cp)
            by_cases hv : 1 ≤ cp ∧ cp ≤ 64
            · have HV := hide hv
              clear hv
              go_wp2_with (first
                | (go_at_call 7; refine HI.out.mono ?_; rintro e w3 ⟨rfl, h⟩; obtain rfl := h.symm; clear h HI)
                | (go_at_call 6; refine HM.out.mono ?_; rintro e w2 (⟨_, rfl, hp, hq, hbl, hsz⟩ | ⟨h, _⟩); rotate_left; exact absurd HV.out h; obtain ⟨v1, v2, g1, g2, g3, g4⟩ := (HS1.out.below hbl).any hk; have HP := hide hp; have HQ := hide hq; have HB := hide hbl; clear hp hq hbl hsz HM))
              obtain ⟨K', hs'⟩ := HS1.out.put (n' := 12) (Or.inl ⟨hk, rfl⟩) hk HB.out HP.out HQ.out (by have := HV.out; omega) (by have := HV.out; omega)
              rw [show (wr.alloc (.cells #[.int .i64 4, .int .i64 wh, .int .i64 cp] 34)).heap.size = wr.heap.size + 1 from by unfold World.alloc; exact Array.size_push _] at hs'
              exact ⟨⟨i + 1, K', _, _, _, _, by omega, by omega, by go_num, hide (hs'.mono (by omega))⟩, by simp [intOf]; omega⟩
            · have HV := hide hv
              clear hv
              go_wp2_with (first
                | (go_at_call 7; refine HI.out.mono ?_; rintro e w3 ⟨rfl, h⟩; obtain rfl := h.symm; clear h HI)
                | (go_at_call 6; refine HM.out.mono ?_; rintro e w2 (⟨h, _⟩ | ⟨_, rfl, h⟩); exact absurd h HV.out; obtain rfl := h.symm; clear h HM))
              exact ⟨⟨i + 1, _, pf, qf, mf, nf, by omega, by omega, by go_num, hide (HS1.out.mono (by omega))⟩, by simp [intOf]; omega⟩
          have b1 : (kd == 1) = false := by simpa using e1
          have b2 : (kd == 2) = false := by simpa using e2
          have b3 : (kd == 3) = false := by simpa using e3
          have b4 : (kd == 4) = false := by simpa using e4
          go_wp2_with (first
            | (go_at_call 7; refine HI.out.mono ?_; rintro e w3 ⟨rfl, h⟩; obtain rfl := h.symm; clear h HI))
          exact ⟨⟨i + 1, _, pf, qf, mf, nf, by omega, by omega, by go_num, hide (HS1.out.mono (by omega))⟩, by simp [intOf]; omega⟩
        · have ht : (¬ (i : Int) < (l : Int)) ∨ ((i : Int) < (l : Int) ∧ ¬ (i : Int) < 2000) := by omega
          clear hlt
          rcases ht with ht | ⟨ht, ht2⟩
          all_goals (
            go_wp2_with fail
            go_loopw [15] (fun jv wq => ∃ (j : Nat), j ≤ 12 ∧ jv = .int .i64 (j : Int) ∧ Hid (Sg w wq K (.cells #[.int .i64 z0, .int .i64 z1, .slice sp l c] 25) 12 i pf qf mf nf)) (fun j _ => 12 - (intOf j).toNat)
            case atStart => exact ⟨0, by omega, rfl, HS⟩
            case round =>
              clear HS
              obtain ⟨j, hj, rfl, HS⟩ := hrel
              by_cases hjl : j < 12
              · have hm1 := HS.out.m1 j hjl
                have hst := HS.out.st j hjl
                obtain ⟨p1, p2⟩ := HS.out.cells hjl
                have HW := hide (fun r => Wait_any (World.drewN _ r) _ _ (HS.out.pk j hjl))
                have HRW := hide (fun r => RWait_any (World.drewN _ r) _ _ _ (HS.out.rf j hjl) hm1.1 hm1.2 (by omega))
                generalize (it (mf j) (nf j)).left = L at *
                have j0 : (0 : Int) ≤ (j : Int) := by omega
                have j1 : (j : Int) < 12 := by omega
                go_wp2_with fail
                go_quiet (first | (go_at_call 12; exact Calls.quiet_of_same (HW.out _)) | (go_at_call 13; exact Calls.quiet_of (HRW.out _)))
                all_goals go_wp2_with fail
                exact ⟨⟨j + 1, by omega, by go_num, hide (HS.out.drewN _)⟩, by simp [intOf]; omega⟩
              · have j1 : ¬ (j : Int) < 12 := by omega
                go_wp2
                go_ret
                exact ⟨rfl, HS.out.bel⟩)
end Go.Proofs.Ytplbnnfncngchaa
