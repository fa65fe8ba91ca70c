import Derived.Test.YtgfegkcmoedgkaaRanS
import Derived.Deep.RegionHeld3
namespace Go.Proofs.Ytgfegkcmoedgkaa
open Go.RowKit
open Go.Sort (grow)
set_option maxRecDepth 20000 in
set_option maxHeartbeats 2000000 in
theorem ranges_all (w : World) (s : RScr) (h : s.In w) :
    Calls Try.prog 6 #[.agg #[.slice s.lp s.lm s.ld, .slice s.hp s.hm s.hd, .slice s.ap s.am s.ad]] w fun e w' => e = .returned (.bool true) ∧ Below w.heap.size w w' := by
  obtain ⟨lp, lm, ld, ls, hp, hm, hd, hs, ap, am, ad, qs⟩ := s
  obtain ⟨h1, h2, h3⟩ := h
  simp only at h1 h2 h3
  have HL := hide h1
  have HH := hide h2
  have HA := hide h3
  have bl : lm ≤ 17592186043904 := Nat.le_trans h1.cap h1.most
  have bh : hm ≤ 17592186043904 := Nat.le_trans h2.cap h2.most
  have ba : am ≤ 140737488351232 := Nat.le_trans h3.cap h3.most
  clear h1 h2 h3
  have HB0 := hide (below_al w (.cells #[.slice lp lm ld, .slice hp hm hd, .slice ap am ad] 43))
  have HSz : Hid (w.heap.size < (w.alloc (.cells #[.slice lp lm ld, .slice hp hm hd, .slice ap am ad] 43)).heap.size) := by show _ < _; simp
  have HC : Hid (∀ w', Below (w.alloc (.cells #[.slice lp lm ld, .slice hp hm hd, .slice ap am ad] 43)).heap.size (w.alloc (.cells #[.slice lp lm ld, .slice hp hm hd, .slice ap am ad] 43)) w' → w'.cell? ⟨w.heap.size, 0, none⟩ = some (.slice lp lm ld) ∧ w'.cell? ⟨w.heap.size, 1, none⟩ = some (.slice hp hm hd) ∧ w'.cell? ⟨w.heap.size, 2, none⟩ = some (.slice ap am ad)) := fun w' h => by
    refine ⟨?_, ?_, ?_⟩
    · rw [h.cell (by simp)]; simp [go_sem]
    · rw [h.cell (by simp)]; simp [go_sem]
    · rw [h.cell (by simp)]; simp [go_sem]
  have HNm := hide num_any
  go_enter Try.func6, Try.ntmps6
  go_wp2
  generalize w.alloc (.cells _ 43) = w1 at *
  go_loopw [3, 4, 5] (fun l at_ i wr => ∃ (k : Nat) (es : List (Nat × Nat)) (p1 p2 : Option Addr) (c1 c2 : Nat), k ≤ 50 ∧ k ≤ lm ∧ k ≤ hm ∧ es.length ≤ k ∧ i = .int .i64 (k : Int) ∧ l = .slice p1 es.length c1 ∧ at_ = .slice p2 es.length c2 ∧ Hid (St w1 wr ls hs p1 c1 p2 c2 es)) (fun _ _ i _ => 50 - (intOf i).toNat)
  case atStart => exact ⟨0, [], none, none, 0, 0, by omega, by omega, by omega, by simp, rfl, rfl, rfl, St.start w1 ls hs⟩
  case round =>
    obtain ⟨k, es, p1, p2, c1, c2, hk0, hk1, hk2, hes, rfl, rfl, rfl, HS⟩ := hrel
    obtain ⟨x0, x1, x2⟩ := HC.out wr HS.out.below
    by_cases hlt : k < lm ∧ k < hm ∧ k < 50
    · obtain ⟨b1, b2, b3⟩ := hlt
      have hl1 : k < ls.length := by rw [HL.out.len]; exact b1
      have hl2 : k < hs.length := by rw [HH.out.len]; exact b2
      have HBw := hide (HB0.out.trans (HS.out.below.mono HB0.out.size))
      obtain ⟨g1, o1, e1, y1⟩ := (HL.out.lie.below HBw.out (Nat.le_refl _)).at hl1
      obtain ⟨g2, o2, e2, y2⟩ := (HH.out.lie.below HBw.out (Nat.le_refl _)).at hl2
      subst e1 e2
      have HI1 : Hid (ls[k]? = some (ls[k]'hl1)) := List.getElem?_eq_getElem hl1
      have HI2 : Hid (hs[k]? = some (hs[k]'hl2)) := List.getElem?_eq_getElem hl2
      generalize ls[k]'hl1 = lo at *
      generalize hs[k]'hl2 = hi at *
      have l1 : (k : Int) < (lm : Int) := by omega
      have l2 : (k : Int) < (hm : Int) := by omega
      have l3 : (k : Int) < 50 := by omega
      have l4 : (0 : Int) ≤ (k : Int) := by omega
      have HYs : Hid (∀ w', Below wr.heap.size wr w' → w'.cell? ⟨g1, o1 + k, none⟩ = some (.int .i64 lo) ∧ w'.cell? ⟨g2, o2 + k, none⟩ = some (.int .i64 hi)) := fun w' h' => ⟨by rw [h'.cell (p := ⟨g1, o1 + k, none⟩) (block_lt_of_cell y1)]; exact y1, by rw [h'.cell (p := ⟨g2, o2 + k, none⟩) (block_lt_of_cell y2)]; exact y2⟩
      by_cases hle : lo ≤ hi
      · have HNw := hide (fun w => new_blk lo hi w hle)
        have dl : decide (hi < lo) = false := by simpa using hle
        go_wp2
        replace HS := hide (HS.out.up (Below.drew (Below.refl _ _)))
        have HYd := hide (HYs.out _ (Below.drew (Below.refl wr.heap.size wr)))
        clear x0 x1 x2 y1 y2
        obtain ⟨x0, x1, x2⟩ := HC.out _ HS.out.below
        obtain ⟨y1, y2⟩ := HYd.out
        go_region_held3 (fun w' => w'.cell? ⟨w.heap.size, 0, none⟩ = some (.slice (some ⟨g1, o1, none⟩) lm ld) ∧ w'.cell? ⟨w.heap.size, 1, none⟩ = some (.slice (some ⟨g2, o2, none⟩) hm hd) ∧ w'.cell? ⟨g1, o1 + k, none⟩ = some (.int .i64 lo) ∧ w'.cell? ⟨g2, o2 + k, none⟩ = some (.int .i64 hi)) (go_keep)
          (first | (go_at_call 26; refine (HNw.out _).mono ?_; rintro e w2 ⟨rfl, hR, hb2⟩; have HR2 := hide hR; have HS2 := hide (HS.out.up hb2); have HY2 := hide (HYs.out w2 ((Below.drew (Below.refl wr.heap.size wr)).trans hb2)); clear hR; obtain ⟨x0, x1, x2⟩ := HC.out w2 HS2.out.below; obtain ⟨y1, y2⟩ := HY2.out; clear hb2))
        go_wp2
        go_quiet (fail)
        have HR3 : Hid ((w2.drewN nq).heap[wr.heap.size]? = some (.cells #[.int .i64 lo, .int .i64 hi] 69 (0, 0))) := HR2.out
        have HS3 : Hid (St w1 (w2.drewN nq) ls hs p1 c1 p2 c2 es) := HS2.out.up ⟨rfl, rfl, rfl, Nat.le_refl _, fun _ _ => rfl⟩
        clear HR2 HS2 HY2 x0 x1 x2 y1 y2 HYd
        generalize w2.drewN nq = w3 at *
        have HGe : Hid (w1.heap.size ≤ wr.heap.size) := HS.out.below.size
        clear HS
        generalize wr.heap.size = G at *
        go_wp2_with (first
          | (go_at_call 27; refine (HNm.out _ _).mono ?_; rintro e w5 ⟨rfl, h⟩; obtain rfl := h.symm; clear h)
          | (at_builtin; first
            | (refine app_val 44 46 (.pointer none) (.pointer (some ⟨G, 0, none⟩)) Try.underlying44 Try.infoP rfl rfl rfl (.tmp 70) (.tmp 72) rfl w1.heap.size es.length p1 c1 (ptrs es) rfl HS3.out.rowL rfl (by omega) HS3.out.below.size ?_; intro ga da wa oa grA; have HKA := hide (HS3.out.keepA grA))
            | (refine app_val 45 3 (.int .i64 0) (.int .i64 (k : Int)) Try.underlying45 Try.infoN rfl rfl rfl (.tmp 74) (.tmp 76) rfl w1.heap.size es.length p2 c2 (idxs es) rfl HKA.out.1 rfl (by omega) HKA.out.2 ?_; intro gb db wb ob grB)))
        have HS4 := hide (HS3.out.add HI1.out HI2.out hle HGe.out HR3.out oa grA ob grB)
        clear oa grA ob grB HKA HS3 HR3
        go_roundw
        case rel => exact ⟨k + 1, es ++ [(G, k)], _, _, _, _, by omega, by omega, by omega, by simp; omega, by go_num, by simp, by simp, HS4⟩
        case measure => simp [intOf]; omega
      · have HNw := hide (fun w => new_none lo hi w (by omega))
        have dl : decide (hi < lo) = true := by simpa using hle
        go_wp2
        replace HS := hide (HS.out.up (Below.drew (Below.refl _ _)))
        have HYd := hide (HYs.out _ (Below.drew (Below.refl wr.heap.size wr)))
        clear x0 x1 x2 y1 y2
        obtain ⟨x0, x1, x2⟩ := HC.out _ HS.out.below
        obtain ⟨y1, y2⟩ := HYd.out
        go_region_held3 (fun w' => w'.cell? ⟨w.heap.size, 0, none⟩ = some (.slice (some ⟨g1, o1, none⟩) lm ld) ∧ w'.cell? ⟨w.heap.size, 1, none⟩ = some (.slice (some ⟨g2, o2, none⟩) hm hd) ∧ w'.cell? ⟨g1, o1 + k, none⟩ = some (.int .i64 lo) ∧ w'.cell? ⟨g2, o2 + k, none⟩ = some (.int .i64 hi)) (go_keep)
          (first | (go_at_call 26; refine (HNw.out _).mono ?_; rintro e w2 ⟨rfl, h⟩; have HS2 : Hid (St w1 w2 ls hs p1 c1 p2 c2 es) := h ▸ HS; have HY2 := hide (HYs.out w2 (h ▸ Below.drew (Below.refl _ _))); obtain ⟨x0, x1, x2⟩ := HC.out w2 HS2.out.below; obtain ⟨y1, y2⟩ := HY2.out; clear h))
        go_wp2
        go_quiet (fail)
        have HS3 : Hid (St w1 (w2.drewN nq) ls hs p1 c1 p2 c2 es) := HS2.out.up ⟨rfl, rfl, rfl, Nat.le_refl _, fun _ _ => rfl⟩
        clear x0 x1 x2 y1 y2 HYd HS HYs HS2 HY2
        generalize w2.drewN nq = w3 at *
        go_wp2_with (first
          | (go_at_call 27; refine (HNm.out _ _).mono ?_; rintro e w5 ⟨rfl, h⟩; obtain rfl := h.symm; clear h))
        go_roundw
        case rel => exact ⟨k + 1, es, _, _, _, _, by omega, by omega, by omega, by omega, by go_num, rfl, rfl, HS3⟩
        case measure => simp [intOf]; omega
    · have hex : (¬ k < lm ∧ decide (k < lm) = false) ∨ (k < lm ∧ ¬ k < hm ∧ decide (k < lm) = true ∧ decide (k < hm) = false) ∨ (k < lm ∧ k < hm ∧ ¬ (k : Int) < 50 ∧ decide (k < lm) = true ∧ decide (k < hm) = true ∧ decide ((k : Int) < 50) = false) := by
        by_cases a1 : k < lm
        · by_cases a2 : k < hm
          · exact Or.inr (Or.inr ⟨a1, a2, by omega, decide_eq_true a1, decide_eq_true a2, decide_eq_false (by omega)⟩)
          · exact Or.inr (Or.inl ⟨a1, a2, decide_eq_true a1, decide_eq_false a2⟩)
        · exact Or.inl ⟨a1, decide_eq_false a1⟩
      clear hlt
      rcases hex with ⟨a1, a2⟩ | ⟨a1, a2, a3, a4⟩ | ⟨a1, a2, a3, a4, a5, a6⟩
      all_goals
        go_wp2
        go_loopw [8] (fun t wq => ∃ q : Nat, q ≤ 2 ∧ t = .int .i64 (q : Int) ∧ Hid (St w1 wq ls hs p1 c1 p2 c2 es)) (fun t _ => 2 - (intOf t).toNat)
        case atStart => exact ⟨0, by omega, rfl, HS⟩
        case round =>
          clear HS
          obtain ⟨q, hq, rfl, HS⟩ := hrel
          by_cases hq2 : q < 2
          · have l1 : decide ((q : Int) < 2) = true := decide_eq_true (by omega)
            go_wp2
            go_loopw [9] (fun t wi => ∃ i : Nat, i ≤ am ∧ t = .int .i64 (i : Int) ∧ Hid (St w1 wi ls hs p1 c1 p2 c2 es)) (fun t _ => am - (intOf t).toNat)
            case atStart => exact ⟨0, by omega, rfl, HS⟩
            case round =>
              clear HS
              obtain ⟨i, hi, rfl, HS⟩ := hrel
              obtain ⟨x0, x1, x2⟩ := HC.out _ HS.out.below
              by_cases hgo : i < am ∧ 0 < es.length
              · obtain ⟨hia, hn⟩ := hgo
                have hi' : i < qs.length := by rw [HA.out.len]; exact hia
                have HBw := hide (HB0.out.trans (HS.out.below.mono HB0.out.size))
                obtain ⟨ga, oa, ea, q0, q1, q2, q3⟩ := (HA.out.below HBw.out (Nat.le_refl _)).at hi'
                have HG := hide (HA.out.each _ (List.getElem_mem hi'))
                generalize qs[i]'hi' = Q at *
                obtain ⟨wh, a, ch, y⟩ := Q
                simp only at q0 q1 q2 q3 HG
                obtain ⟨u, eu, hu⟩ := and_mask wh 65535 (by omega)
                have eu' : bits .and .i64 wh 65535 = (u : Int) := eu
                obtain ⟨K, hK, e2⟩ : ∃ K : Nat, K < es.length ∧ (u : Int).tmod (es.length : Int) = (K : Int) := ⟨u % es.length, Nat.mod_lt _ hn, by rw [Int.tmod_eq_emod_of_nonneg (by omega), Int.natCast_emod]⟩
                have HEn : Hid (es[K]? = some (es[K]'hK)) := List.getElem?_eq_getElem hK
                obtain ⟨lo, hi2, e3, e4, hle, _, hblk⟩ := HS.out.rng _ (List.getElem_mem hK)
                generalize es[K]'hK = E at *
                obtain ⟨G, j⟩ := E
                simp only at e3 e4 hblk
                obtain ⟨gl, el, cl⟩ := owns_get HS.out.rowL (k := K) (v := .pointer (some ⟨G, 0, none⟩)) (by simp [ptrs, HEn.out])
                obtain ⟨gt, et, ct⟩ := owns_get HS.out.rowA (k := K) (v := .int .i64 (j : Int)) (by simp [idxs, HEn.out])
                obtain ⟨hj1, ej1⟩ := List.getElem?_eq_some_iff.1 e3
                obtain ⟨hj2, ej2⟩ := List.getElem?_eq_some_iff.1 e4
                obtain ⟨g3, o3, ep3, y1⟩ := (HL.out.lie.below HBw.out (Nat.le_refl _)).at hj1
                obtain ⟨g4, o4, ep4, y2⟩ := (HH.out.lie.below HBw.out (Nat.le_refl _)).at hj2
                have HJ : Hid (I64 lo ∧ I64 hi2) := ⟨ej1 ▸ HL.out.each _ (List.getElem_mem hj1), ej2 ▸ HH.out.each _ (List.getElem_mem hj2)⟩
                rw [ej1] at y1
                rw [ej2] at y2
                have HRg := hide (rg_of hblk)
                have HAs : Hid (∀ d os, Calls Try.prog 28 #[.pointer (some ⟨G, 0, none⟩), .int .i64 lo, .int .i64 hi2, .agg #[.int .i64 wh, .int .i64 a, .int .i64 ch, .int .i64 y]] (grow (redrawn wr d) os) fun e w'' => e = .returned (.bool true) ∧ ∃ p : Regrown, w'' = grow (redrawn wr p.d) p.os) := fun d os => Calls.regrown_of (asked_any lo hi2 wh a ch y HJ.out.1 HJ.out.2 HG.out.i1 HG.out.i2 hle G _ (HRg.out.up (below_regrown wr d os)))
                have l1 : (j : Int) < (lm : Int) := by rw [HL.out.len] at hj1; omega
                have l2 : (j : Int) < (hm : Int) := by rw [HH.out.len] at hj2; omega
                have l3 : (0 : Int) ≤ (j : Int) := by omega
                have l4 : (K : Int) < (es.length : Int) := by omega
                have l5 : (0 : Int) ≤ (K : Int) := by omega
                have l6 : (i : Int) < (am : Int) := by omega
                have l7 : (0 : Int) ≤ (i : Int) := by omega
                have l8 : ¬ (es.length : Int) = 0 := by omega
                have l9 : (0 : Int) < (es.length : Int) := by omega
                subst ea el et ep3 ep4
                clear hblk ej1 ej2 e3 e4 hu eu HEn hj1 hj2 hi'
                have r0 := cell_regrown x0
                have r1 := cell_regrown x1
                have r2 := cell_regrown x2
                have r3 := cell_regrown cl
                have r4 := cell_regrown ct
                have r5 := cell_regrown y1
                have r6 := cell_regrown y2
                have r7 := cell_regrown q0
                have r8 := cell_regrown q1
                have r9 := cell_regrown q2
                have r10 := cell_regrown q3
                go_wp2
                refine wp_region_quiet_below (by kernel_rfl) (by kernel_rfl) ?_
                repeat (go_big_quiet_step (first | (go_at_call 28; exact HAs.out _ _)))
                refine wpQuiet_nil ?_
                intro _ hw'
                obtain ⟨⟨dq, osq⟩, hw''⟩ := hw'
                subst hw''
                replace HS := hide (HS.out.up (below_regrown wr dq osq))
                clear x0 x1 x2 cl ct y1 y2 q0 q1 q2 q3 r0 r1 r2 r3 r4 r5 r6 r7 r8 r9 r10 HAs HRg HBw
                generalize grow (redrawn wr dq) osq = w5 at *
                go_wp2
                go_roundw
                case rel => exact ⟨i + 1, by omega, by go_num, HS⟩
                case measure => simp [intOf]; omega
              · have hgo' : (i < am ∧ ¬ 0 < es.length ∧ decide (i < am) = true ∧ decide (0 < es.length) = false) ∨ (¬ i < am ∧ decide (i < am) = false) := by
                  by_cases h : i < am
                  · exact Or.inl ⟨h, by omega, decide_eq_true h, decide_eq_false (by omega)⟩
                  · exact Or.inr ⟨h, decide_eq_false h⟩
                clear hgo
                rcases hgo' with ⟨h1, h2, h3, h4⟩ | ⟨h1, h2⟩
                all_goals
                  go_wp2
                  go_roundw
                  case rel => exact ⟨q + 1, by omega, by go_num, HS⟩
                  case measure => simp [intOf]; omega
          · have l1 : decide ((q : Int) < 2) = false := decide_eq_false (by omega)
            have HNw : Hid (∀ w, Calls Try.prog 26 #[.int .i64 (-2), .int .i64 7] w fun e w' => e = .returned (.tuple #[.pointer (some ⟨w.heap.size, 0, none⟩), .int .i64 0]) ∧ Rg w' w.heap.size (-2) 7 ∧ Below w.heap.size w w') := fun w => new_any (-2) 7 w (by omega)
            go_wp2_with fail
            refine (HNw.out _).mono ?_
            rintro e w4 ⟨rfl, hR, hb4⟩
            have HR := hide hR
            replace HS := hide (HS.out.up hb4)
            clear hR hb4
            have H7 : Hid (∀ g w1, Rg w1 g (-2) 7 → Calls Try.prog 29 #[.pointer (some ⟨g, 0, none⟩), .int .i64 7] w1 fun e w' => e = .returned (.bool true) ∧ w' = w1) := fun g w1 h1 => has_any (-2) 7 7 g w1 h1
            have H8 : Hid (∀ g w1, Rg w1 g (-2) 7 → Calls Try.prog 29 #[.pointer (some ⟨g, 0, none⟩), .int .i64 8] w1 fun e w' => e = .returned (.bool false) ∧ w' = w1) := fun g w1 h1 => has_any (-2) 7 8 g w1 h1
            go_wp2_with (first
              | (go_at_call 27; refine (HNm.out _ _).mono ?_; rintro e w5 ⟨rfl, h⟩; obtain rfl := h.symm; clear h)
              | (go_at_call 29; with_reducible refine (H7.out _ _ HR.out).mono ?_; rintro e w5 ⟨rfl, h⟩; obtain rfl := h.symm; clear h)
              | (go_at_call 29; with_reducible refine (H8.out _ _ HR.out).mono ?_; rintro e w5 ⟨rfl, h⟩; obtain rfl := h.symm; clear h))
            go_ret
            exact ⟨rfl, HB0.out.trans (HS.out.below.mono HB0.out.size)⟩
end Go.Proofs.Ytgfegkcmoedgkaa
