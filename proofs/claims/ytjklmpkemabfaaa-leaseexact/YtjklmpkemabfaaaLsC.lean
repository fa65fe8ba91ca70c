import Derived.Test.YtjklmpkemabfaaaLsB
namespace Go.Proofs.Ytjklmpkemabfaaa
open Go.RowKit
set_option maxRecDepth 100000 in
set_option maxHeartbeats 2000000 in
theorem lease_all (w : World) (t0 t1 : Int) (sp sq : Option Addr) (l c l' c' : Nat) (xs ys : List Int) (ht0 : t0 ≤ 9223372036854775807) (ht1 : t1 ≤ 9223372036854775807) (hl : xs.length = l) (hb : l ≤ 140737488355328) (hx : Nums w sp xs) (hl' : ys.length = l') (hb' : l' ≤ 140737488355328) (hy : Nums w sq ys) :
    Calls Try.prog 3 #[.agg #[.int .i64 t0, .int .i64 t1, .slice sp l c, .slice sq l' c']] w fun e w' => e = .returned (.bool true) ∧ Below w.heap.size w w' := by
  have HX := hide hx
  have HL := hide hl
  have HY := hide hy
  have HL' := hide hl'
  have HN0 := hide (fun w => New_any w t0)
  have HN1 := hide (fun w => New_any w t1)
  clear hx hl hy hl'
  go_enter Try.func3, Try.ntmps3
  obtain ⟨bx, hbx⟩ : ∃ bx : Obj, (.cells #[.int .i64 t0, .int .i64 t1, .slice sp l c, .slice sq l' c'] 25 : Obj) = bx := ⟨_, rfl⟩
  have HBX := hide hbx
  have x0 : (w.alloc (.cells #[.int .i64 t0, .int .i64 t1, .slice sp l c, .slice sq l' c'] 25)).cell? ⟨w.heap.size, 0, none⟩ = some (.int .i64 t0) := by have := heap_alloc_new w (.cells #[.int .i64 t0, .int .i64 t1, .slice sp l c, .slice sq l' c'] 25); simp only [World.cell?, this]; rfl
  have x1 : (w.alloc (.cells #[.int .i64 t0, .int .i64 t1, .slice sp l c, .slice sq l' c'] 25)).cell? ⟨w.heap.size, 1, none⟩ = some (.int .i64 t1) := by have := heap_alloc_new w (.cells #[.int .i64 t0, .int .i64 t1, .slice sp l c, .slice sq l' c'] 25); simp only [World.cell?, this]; rfl
  clear hbx
  go_upto_region 1 with fail
  go_cut [3] from 9 to 17 (fun s3 wc => ∃ a p0 p1, s3 = .pointer (some ⟨a, 0, none⟩) ∧ Hid (Bf w wc (.cells #[.int .i64 t0, .int .i64 t1, .slice sp l c, .slice sq l' c'] 25) a p0 p1 t0 t1))
  case first =>
    go_region_held3 (fun w' => w'.cell? ⟨w.heap.size, 0, none⟩ = some (.int .i64 t0) ∧ w'.cell? ⟨w.heap.size, 1, none⟩ = some (.int .i64 t1)) (go_keep) (first | (go_at_call 4; refine (HN0.out _).mono ?_; rintro e w2 ⟨rfl, rfl⟩) | (go_at_call 4; refine (HN1.out _).mono ?_; rintro e w2 ⟨rfl, rfl⟩) | fail)
    all_goals go_wp2_with fail
    all_goals go_meet
    · obtain ⟨b1, b2, b3, b4, b5, b6⟩ := bel4 w _ _ _ _
      exact ⟨w.heap.size + 1 + 1 + 1, w.heap.size + 1, w.heap.size + 1 + 1, rfl, hide ⟨b3, b6, b4, b5, by simp; omega, by omega, by omega, b2, b1.drew⟩⟩
    · obtain ⟨b1, b2, b3, b4, b5, b6⟩ := bel4 w _ _ _ _
      exact ⟨w.heap.size + 1 + 1, w.heap.size + 1, w.heap.size + 1 + 1 + 1, rfl, hide ⟨b3, b5, b4, b6, by simp; omega, by omega, by omega, b2, b1.drew⟩⟩
    · obtain ⟨b1, b2, b3, b4, b5, b6⟩ := bel4 w _ _ _ _
      exact ⟨w.heap.size + 1, w.heap.size + 1 + 1, w.heap.size + 1 + 1 + 1, rfl, hide ⟨b3, b4, b5, b6, by simp; omega, by omega, by omega, b2, b1.drew⟩⟩
  case rest =>
    obtain ⟨a, p0, p1, rfl, HBf⟩ := hcut
    clear x0 x1
    obtain ⟨x0, x1⟩ : wc.cell? ⟨w.heap.size, 0, none⟩ = some (.int .i64 t0) ∧ wc.cell? ⟨w.heap.size, 1, none⟩ = some (.int .i64 t1) := by
      have := HBf.out.box
      exact ⟨by simp only [World.cell?, this]; rfl, by simp only [World.cell?, this]; rfl⟩
    have HS := hide (HBf.out.next ht0 ht1)
    obtain ⟨y0, y1, y2, y3⟩ := HS.out.cells
    have HB := hide HS.out.bel
    have e1 : w.heap.size < wc.heap.size := by have := HBf.out.size; omega
    have e2 : w.heap.size < wc.heap.size + 1 := by omega
    have e3 : w.heap.size ≠ wc.heap.size := by omega
    go_upto_region 3 with fail
    generalize (((wc.alloc (.cells #[.int .i64 t0, .int .i64 0] 31)).alloc (.cells #[.int .i64 t1, .int .i64 0] 31)).alloc (.cells #[.pointer (some ⟨wc.heap.size, 0, none⟩), .pointer (some ⟨wc.heap.size + 1, 0, none⟩)] 32)) = W3 at *
    have hb3 : wc.heap.size + 1 + 1 ≠ wc.heap.size ∧ True := ⟨by omega, trivial⟩
    clear hb3 HBf x0 x1 e1 e2 e3
    generalize wc.heap.size + 1 + 1 = b at *
    generalize wc.heap.size + 1 = q1 at *
    generalize wc.heap.size = q0 at *
    go_wp2_with fail
    clear y0 y1 y2 y3 HB
    go_loopw [5] (fun iv wr => ∃ (i : Nat) (l0 l1 : Int), i ≤ l ∧ i ≤ l' ∧ iv = .int .i64 (i : Int) ∧ Hid (Ls w wr (.cells #[.int .i64 t0, .int .i64 t1, .slice sp l c, .slice sq l' c'] 25) a b p0 p1 q0 q1 t0 t1 l0 l1)) (fun i _ => l - (intOf i).toNat)
    case atStart => exact ⟨0, 0, 0, by omega, by omega, rfl, HS⟩
    case round =>
      clear HS
      obtain ⟨i, l0, l1, hi, hi2, rfl, HS⟩ := hrel
      obtain ⟨x2, x3⟩ : wr.cell? ⟨w.heap.size, 2, none⟩ = some (.slice sp l c) ∧ wr.cell? ⟨w.heap.size, 3, none⟩ = some (.slice sq l' c') := by
        have := HS.out.box
        exact ⟨by simp only [World.cell?, this]; rfl, by simp only [World.cell?, this]; rfl⟩
      by_cases hlt : i < l ∧ i < l'
      · obtain ⟨hlt, hlt2⟩ := hlt
        obtain ⟨z, hz⟩ : ∃ z, xs[i]? = some z := ⟨_, List.getElem?_eq_getElem (by have := HL.out; omega)⟩
        obtain ⟨u, hu⟩ : ∃ z, ys[i]? = some z := ⟨_, List.getElem?_eq_getElem (by have := HL'.out; omega)⟩
        obtain ⟨g, o, rfl, hc⟩ := HX.out.cell HS.out.bel hz
        obtain ⟨g', o', rfl, hd⟩ := HY.out.cell HS.out.bel hu
        obtain ⟨y0, y1, y2, y3⟩ := HS.out.cells
        have HW := hide (Within_any wr z)
        have hkk : (z % 2).toNat = 0 ∨ (z % 2).toNat = 1 := by omega
        generalize (z % 2).toNat = k0 at *
        obtain ⟨HQ0, HQ1⟩ : Hid (q0 ≠ p0) ∧ Hid (q1 ≠ p1) := by
          have hf := HS.out.far
          simp only [List.nodup_cons, List.mem_cons, List.not_mem_nil, or_false, not_or, not_false_eq_true, List.nodup_nil, and_true] at hf
          exact ⟨hide (by omega), hide (by omega)⟩
        have i1 : (0 : Int) ≤ (i : Int) := by omega
        have i2 : (i : Int) < (l : Int) := by omega
        have i3 : (i : Int) < (l' : Int) := by omega
        clear hz hu
        by_cases hr : u.tmod 2 = 0
        · rcases hkk with rfl | rfl
          · have HC1 := hide (Tick_any wr p0 _ _ HS.out.P0 HS.out.z0.1 HS.out.z0.2)
            have HC2 := hide (fun w1 (h1 : Onl p0 wr w1) => RTick_any w1 q0 _ _ (HS.out.Q0.kept (h1.block _ HQ0.out)) HS.out.z0.1 HS.out.z0.2)
            have HM : Hid (0 ≤ tk l0 ∧ tk l0 ≤ 9223372036854775807) := by have := HS.out.z0; show 0 ≤ max (l0 - 1) 0 ∧ max (l0 - 1) 0 ≤ 9223372036854775807; omega
            go_upto_region 15 with (first
              | (go_at_call 5; refine HW.out.mono ?_; rintro e w3 ⟨rfl, h⟩; obtain rfl := h.symm; clear h)
              | (go_at_call 8; refine HC1.out.mono ?_; rintro e w4 ⟨rfl, hp, ho⟩; have HP4 := hide hp; have HO4 := hide ho; have yb := HS.out.bcell y2 (p := p0) (by simp) ho; have HC3 := hide (HC2.out w4 ho); clear hp ho)
              | (go_at_call 9; refine HC3.out.mono ?_; rintro e w5 ⟨rfl, hp, ho⟩; have HP5 := hide hp; have HO5 := hide ho; clear hp ho))
            have HS5 : Hid (Ls w w5 (.cells #[.int .i64 t0, .int .i64 t1, .slice (some ⟨g, o, none⟩) l c, .slice (some ⟨g', o', none⟩) l' c'] 25) a b p0 p1 q0 q1 t0 t1 (tk l0) l1) := hide (HS.out.turn0 HO4.out HO5.out HP4.out HP5.out HM.out)
            clear HP4 HO4 HP5 HO5 HC1 HC2 HC3 HM yb y0 y1 y2 y3 x2 x3 hc hd HS
            obtain ⟨m0, m1, HS5⟩ : ∃ m0 m1, Hid (Ls w w5 (.cells #[.int .i64 t0, .int .i64 t1, .slice (some ⟨g, o, none⟩) l c, .slice (some ⟨g', o', none⟩) l' c'] 25) a b p0 p1 q0 q1 t0 t1 m0 m1) := ⟨_, _, HS5⟩
            go_loopw [7] (fun kv wq => ∃ (j : Nat), j ≤ 2 ∧ kv = .int .i64 (j : Int) ∧ Hid (Ls w wq (.cells #[.int .i64 t0, .int .i64 t1, .slice (some ⟨g, o, none⟩) l c, .slice (some ⟨g', o', none⟩) l' c'] 25) a b p0 p1 q0 q1 t0 t1 m0 m1)) (fun k _ => 2 - (intOf k).toNat)
            case atStart => exact ⟨0, by omega, rfl, HS5⟩
            case round =>
              clear HS5
              obtain ⟨j, hj, rfl, HS6⟩ := hrel
              obtain ⟨y0, y1, y2, y3⟩ := HS6.out.cells
              have v0 := HS6.out.Q0.c1
              have v1 := HS6.out.Q1.c1
              rcases (show j = 0 ∨ j = 1 ∨ j = 2 by omega) with rfl | rfl | rfl
              · have HLf := hide HS6.out.left0
                have HRn := hide HS6.out.runs0
                go_wp2_with fail
                go_quiet (first | (go_at_call 10; exact Calls.quiet_of_same (HLf.out _)) | (go_at_call 11; exact Calls.quiet_of_same (HRn.out _)))
                all_goals go_wp2_with fail
                go_roundw
                case rel => exact ⟨1, by omega, by go_num, hide (HS6.out.drewN _)⟩
                case measure => simp [intOf]
              · have HLf := hide HS6.out.left1
                have HRn := hide HS6.out.runs1
                go_wp2_with fail
                go_quiet (first | (go_at_call 10; exact Calls.quiet_of_same (HLf.out _)) | (go_at_call 11; exact Calls.quiet_of_same (HRn.out _)))
                all_goals go_wp2_with fail
                go_roundw
                case rel => exact ⟨2, by omega, by go_num, hide (HS6.out.drewN _)⟩
                case measure => simp [intOf]
              · go_wp2_with fail
                go_roundw
                case rel => exact ⟨i + 1, _, _, by omega, by omega, by go_num, HS6⟩
                case measure => simp [intOf]; omega
          · have HC1 := hide (Tick_any wr p1 _ _ HS.out.P1 HS.out.z1.1 HS.out.z1.2)
            have HC2 := hide (fun w1 (h1 : Onl p1 wr w1) => RTick_any w1 q1 _ _ (HS.out.Q1.kept (h1.block _ HQ1.out)) HS.out.z1.1 HS.out.z1.2)
            have HM : Hid (0 ≤ tk l1 ∧ tk l1 ≤ 9223372036854775807) := by have := HS.out.z1; show 0 ≤ max (l1 - 1) 0 ∧ max (l1 - 1) 0 ≤ 9223372036854775807; omega
            go_upto_region 15 with (first
              | (go_at_call 5; refine HW.out.mono ?_; rintro e w3 ⟨rfl, h⟩; obtain rfl := h.symm; clear h)
              | (go_at_call 8; refine HC1.out.mono ?_; rintro e w4 ⟨rfl, hp, ho⟩; have HP4 := hide hp; have HO4 := hide ho; have yb := HS.out.bcell y3 (p := p1) (by simp) ho; have HC3 := hide (HC2.out w4 ho); clear hp ho)
              | (go_at_call 9; refine HC3.out.mono ?_; rintro e w5 ⟨rfl, hp, ho⟩; have HP5 := hide hp; have HO5 := hide ho; clear hp ho))
            have HS5 : Hid (Ls w w5 (.cells #[.int .i64 t0, .int .i64 t1, .slice (some ⟨g, o, none⟩) l c, .slice (some ⟨g', o', none⟩) l' c'] 25) a b p0 p1 q0 q1 t0 t1 l0 (tk l1)) := hide (HS.out.turn1 HO4.out HO5.out HP4.out HP5.out HM.out)
            clear HP4 HO4 HP5 HO5 HC1 HC2 HC3 HM yb y0 y1 y2 y3 x2 x3 hc hd HS
            obtain ⟨m0, m1, HS5⟩ : ∃ m0 m1, Hid (Ls w w5 (.cells #[.int .i64 t0, .int .i64 t1, .slice (some ⟨g, o, none⟩) l c, .slice (some ⟨g', o', none⟩) l' c'] 25) a b p0 p1 q0 q1 t0 t1 m0 m1) := ⟨_, _, HS5⟩
            go_loopw [7] (fun kv wq => ∃ (j : Nat), j ≤ 2 ∧ kv = .int .i64 (j : Int) ∧ Hid (Ls w wq (.cells #[.int .i64 t0, .int .i64 t1, .slice (some ⟨g, o, none⟩) l c, .slice (some ⟨g', o', none⟩) l' c'] 25) a b p0 p1 q0 q1 t0 t1 m0 m1)) (fun k _ => 2 - (intOf k).toNat)
            case atStart => exact ⟨0, by omega, rfl, HS5⟩
            case round =>
              clear HS5
              obtain ⟨j, hj, rfl, HS6⟩ := hrel
              obtain ⟨y0, y1, y2, y3⟩ := HS6.out.cells
              have v0 := HS6.out.Q0.c1
              have v1 := HS6.out.Q1.c1
              rcases (show j = 0 ∨ j = 1 ∨ j = 2 by omega) with rfl | rfl | rfl
              · have HLf := hide HS6.out.left0
                have HRn := hide HS6.out.runs0
                go_wp2_with fail
                go_quiet (first | (go_at_call 10; exact Calls.quiet_of_same (HLf.out _)) | (go_at_call 11; exact Calls.quiet_of_same (HRn.out _)))
                all_goals go_wp2_with fail
                go_roundw
                case rel => exact ⟨1, by omega, by go_num, hide (HS6.out.drewN _)⟩
                case measure => simp [intOf]
              · have HLf := hide HS6.out.left1
                have HRn := hide HS6.out.runs1
                go_wp2_with fail
                go_quiet (first | (go_at_call 10; exact Calls.quiet_of_same (HLf.out _)) | (go_at_call 11; exact Calls.quiet_of_same (HRn.out _)))
                all_goals go_wp2_with fail
                go_roundw
                case rel => exact ⟨2, by omega, by go_num, hide (HS6.out.drewN _)⟩
                case measure => simp [intOf]
              · go_wp2_with fail
                go_roundw
                case rel => exact ⟨i + 1, _, _, by omega, by omega, by go_num, HS6⟩
                case measure => simp [intOf]; omega
        · rcases hkk with rfl | rfl
          · have HC1 := hide (Hear_any wr p0 _ _ HS.out.P0)
            have HC2 := hide (fun w1 (h1 : Onl p0 wr w1) => RHear_any w1 q0 _ _ (HS.out.Q0.kept (h1.block _ HQ0.out)))
            have HM : Hid (0 ≤ max t0 0 ∧ max t0 0 ≤ 9223372036854775807) := by have := HS.out.u0; show _ ∧ _; omega
            go_upto_region 15 with (first
              | (go_at_call 5; refine HW.out.mono ?_; rintro e w3 ⟨rfl, h⟩; obtain rfl := h.symm; clear h)
              | (go_at_call 6; refine HC1.out.mono ?_; rintro e w4 ⟨rfl, hp, ho⟩; have HP4 := hide hp; have HO4 := hide ho; have yb := HS.out.bcell y2 (p := p0) (by simp) ho; have HC3 := hide (HC2.out w4 ho); clear hp ho)
              | (go_at_call 7; refine HC3.out.mono ?_; rintro e w5 ⟨rfl, hp, ho⟩; have HP5 := hide hp; have HO5 := hide ho; clear hp ho))
            have HS5 : Hid (Ls w w5 (.cells #[.int .i64 t0, .int .i64 t1, .slice (some ⟨g, o, none⟩) l c, .slice (some ⟨g', o', none⟩) l' c'] 25) a b p0 p1 q0 q1 t0 t1 (max t0 0) l1) := hide (HS.out.turn0 HO4.out HO5.out HP4.out HP5.out HM.out)
            clear HP4 HO4 HP5 HO5 HC1 HC2 HC3 HM yb y0 y1 y2 y3 x2 x3 hc hd HS
            obtain ⟨m0, m1, HS5⟩ : ∃ m0 m1, Hid (Ls w w5 (.cells #[.int .i64 t0, .int .i64 t1, .slice (some ⟨g, o, none⟩) l c, .slice (some ⟨g', o', none⟩) l' c'] 25) a b p0 p1 q0 q1 t0 t1 m0 m1) := ⟨_, _, HS5⟩
            go_loopw [7] (fun kv wq => ∃ (j : Nat), j ≤ 2 ∧ kv = .int .i64 (j : Int) ∧ Hid (Ls w wq (.cells #[.int .i64 t0, .int .i64 t1, .slice (some ⟨g, o, none⟩) l c, .slice (some ⟨g', o', none⟩) l' c'] 25) a b p0 p1 q0 q1 t0 t1 m0 m1)) (fun k _ => 2 - (intOf k).toNat)
            case atStart => exact ⟨0, by omega, rfl, HS5⟩
            case round =>
              clear HS5
              obtain ⟨j, hj, rfl, HS6⟩ := hrel
              obtain ⟨y0, y1, y2, y3⟩ := HS6.out.cells
              have v0 := HS6.out.Q0.c1
              have v1 := HS6.out.Q1.c1
              rcases (show j = 0 ∨ j = 1 ∨ j = 2 by omega) with rfl | rfl | rfl
              · have HLf := hide HS6.out.left0
                have HRn := hide HS6.out.runs0
                go_wp2_with fail
                go_quiet (first | (go_at_call 10; exact Calls.quiet_of_same (HLf.out _)) | (go_at_call 11; exact Calls.quiet_of_same (HRn.out _)))
                all_goals go_wp2_with fail
                go_roundw
                case rel => exact ⟨1, by omega, by go_num, hide (HS6.out.drewN _)⟩
                case measure => simp [intOf]
              · have HLf := hide HS6.out.left1
                have HRn := hide HS6.out.runs1
                go_wp2_with fail
                go_quiet (first | (go_at_call 10; exact Calls.quiet_of_same (HLf.out _)) | (go_at_call 11; exact Calls.quiet_of_same (HRn.out _)))
                all_goals go_wp2_with fail
                go_roundw
                case rel => exact ⟨2, by omega, by go_num, hide (HS6.out.drewN _)⟩
                case measure => simp [intOf]
              · go_wp2_with fail
                go_roundw
                case rel => exact ⟨i + 1, _, _, by omega, by omega, by go_num, HS6⟩
                case measure => simp [intOf]; omega
          · have HC1 := hide (Hear_any wr p1 _ _ HS.out.P1)
            have HC2 := hide (fun w1 (h1 : Onl p1 wr w1) => RHear_any w1 q1 _ _ (HS.out.Q1.kept (h1.block _ HQ1.out)))
            have HM : Hid (0 ≤ max t1 0 ∧ max t1 0 ≤ 9223372036854775807) := by have := HS.out.u1; show _ ∧ _; omega
            go_upto_region 15 with (first
              | (go_at_call 5; refine HW.out.mono ?_; rintro e w3 ⟨rfl, h⟩; obtain rfl := h.symm; clear h)
              | (go_at_call 6; refine HC1.out.mono ?_; rintro e w4 ⟨rfl, hp, ho⟩; have HP4 := hide hp; have HO4 := hide ho; have yb := HS.out.bcell y3 (p := p1) (by simp) ho; have HC3 := hide (HC2.out w4 ho); clear hp ho)
              | (go_at_call 7; refine HC3.out.mono ?_; rintro e w5 ⟨rfl, hp, ho⟩; have HP5 := hide hp; have HO5 := hide ho; clear hp ho))
            have HS5 : Hid (Ls w w5 (.cells #[.int .i64 t0, .int .i64 t1, .slice (some ⟨g, o, none⟩) l c, .slice (some ⟨g', o', none⟩) l' c'] 25) a b p0 p1 q0 q1 t0 t1 l0 (max t1 0)) := hide (HS.out.turn1 HO4.out HO5.out HP4.out HP5.out HM.out)
            clear HP4 HO4 HP5 HO5 HC1 HC2 HC3 HM yb y0 y1 y2 y3 x2 x3 hc hd HS
            obtain ⟨m0, m1, HS5⟩ : ∃ m0 m1, Hid (Ls w w5 (.cells #[.int .i64 t0, .int .i64 t1, .slice (some ⟨g, o, none⟩) l c, .slice (some ⟨g', o', none⟩) l' c'] 25) a b p0 p1 q0 q1 t0 t1 m0 m1) := ⟨_, _, HS5⟩
            go_loopw [7] (fun kv wq => ∃ (j : Nat), j ≤ 2 ∧ kv = .int .i64 (j : Int) ∧ Hid (Ls w wq (.cells #[.int .i64 t0, .int .i64 t1, .slice (some ⟨g, o, none⟩) l c, .slice (some ⟨g', o', none⟩) l' c'] 25) a b p0 p1 q0 q1 t0 t1 m0 m1)) (fun k _ => 2 - (intOf k).toNat)
            case atStart => exact ⟨0, by omega, rfl, HS5⟩
            case round =>
              clear HS5
              obtain ⟨j, hj, rfl, HS6⟩ := hrel
              obtain ⟨y0, y1, y2, y3⟩ := HS6.out.cells
              have v0 := HS6.out.Q0.c1
              have v1 := HS6.out.Q1.c1
              rcases (show j = 0 ∨ j = 1 ∨ j = 2 by omega) with rfl | rfl | rfl
              · have HLf := hide HS6.out.left0
                have HRn := hide HS6.out.runs0
                go_wp2_with fail
                go_quiet (first | (go_at_call 10; exact Calls.quiet_of_same (HLf.out _)) | (go_at_call 11; exact Calls.quiet_of_same (HRn.out _)))
                all_goals go_wp2_with fail
                go_roundw
                case rel => exact ⟨1, by omega, by go_num, hide (HS6.out.drewN _)⟩
                case measure => simp [intOf]
              · have HLf := hide HS6.out.left1
                have HRn := hide HS6.out.runs1
                go_wp2_with fail
                go_quiet (first | (go_at_call 10; exact Calls.quiet_of_same (HLf.out _)) | (go_at_call 11; exact Calls.quiet_of_same (HRn.out _)))
                all_goals go_wp2_with fail
                go_roundw
                case rel => exact ⟨2, by omega, by go_num, hide (HS6.out.drewN _)⟩
                case measure => simp [intOf]
              · go_wp2_with fail
                go_roundw
                case rel => exact ⟨i + 1, _, _, by omega, by omega, by go_num, HS6⟩
                case measure => simp [intOf]; omega
      · have hn : (decide ((i : Int) < (l : Int)) = false) ∨ (decide ((i : Int) < (l : Int)) = true ∧ decide ((i : Int) < (l' : Int)) = false) := by
          by_cases h : i < l
          · exact Or.inr ⟨by simp; omega, by simp; omega⟩
          · exact Or.inl (by simp; omega)
        have HN2 := hide (New2_any HS.out.bel)
        have HBs := hide HS.out.bel.size
        generalize hic : (i : Int) = ic at *
        clear hic HS hlt
        rcases hn with hn | ⟨hn, hn2⟩
        all_goals go_wp2_with (first
          | (go_at_call 4; refine HN2.out.mono ?_; rintro e w2 ⟨rfl, hp, hb2⟩; have HB2 := hide hb2; have HC := hide (Hear_any _ _ _ _ hp); clear hp hb2)
          | (go_at_call 6; refine HC.out.mono ?_; rintro e w3 ⟨rfl, hp, ho⟩; have HB3 := hide (ho.below HB2.out HBs.out); have HT := hide (Tick_any _ _ _ _ hp (by omega) (by omega)); clear hp ho)
          | (go_at_call 8; refine HT.out.mono ?_; rintro e w4 ⟨rfl, hp, ho⟩; have HB4 := hide (ho.below HB3.out HBs.out); have HR := hide (Runs_any w4 _ 2 1 hp); have HLf := hide (Left_any w4 _ 2 1 hp); clear hp ho)
          | (go_at_call 11; refine HR.out.mono ?_; rintro e w5 ⟨rfl, h⟩; obtain rfl := h.symm; clear h)
          | (go_at_call 10; refine HLf.out.mono ?_; rintro e w6 ⟨rfl, h⟩; obtain rfl := h.symm; clear h))
        all_goals go_ret
        all_goals exact ⟨rfl, HB4.out⟩
end Go.Proofs.Ytjklmpkemabfaaa
