import Derived.Test.YtecbidaljchmoaaRqM
import Derived.Test.YtecbidaljchmoaaRqK
import Derived.Laws.Tables
namespace Go.Proofs.Ytecbidaljchmoaa
open Go.RowKit

theorem lp_built {ops : Array Oper} {rest : List Oper} {o : Oper} {a : Act} {w : World} {Q : Exit → Act → World → Prop} (hg : o.guard = none) (t : TypeId) (parts : Array (Nat × Operand)) (ho : o.op = .build t parts) (vs : List (Nat × Value)) (hv : (parts.toList.map fun x => (x.1, a.eval x.2)) = vs) (cells : Array Value) (hb : Try.prog.built t vs = some cells)
    (h : wpList Try.prog ops Q rest (a.put o.dst (.agg cells)) w) : wpList Try.prog ops Q (o :: rest) a w := by
  have e : (parts.map fun (i, x) => (i, a.eval x)).toList = vs := by rw [Array.toList_map]; exact hv
  refine wpList_build hg t parts ho (by rw [e, hb]; rfl) ?_
  rw [e, hb]
  exact h
def nilS {α : Type} : Sli α := ⟨none, 0, 0, []⟩
theorem nilS_ok {α : Type} (w : World) (sz : Nat) (f : α → List Value) : SlOk w sz f nilS := ⟨rfl, Nat.zero_le _, Or.inl rfl⟩
/-- The entry that wakes tells. -/
def a0 : Acd := ⟨1, 4, 1, true, nilS, nilS, nilS, 0, nilS, 0, 0, 0, 0, 0, nilS⟩
def x0 (g : Nat) : Eda := ⟨0, a0, 1, ⟨some ⟨g, 0, none⟩, 1, 1, [⟨0, -2⟩]⟩, nilS, 0, 0, 0⟩
theorem a0_built : Try.prog.built 80 [(0, .agg #[.int .i64 1, .int .u64 4]), (1, .int .i64 1), (2, .bool true)] = some a0.arr := by kernel_rfl
theorem x0_built (g : Nat) : Try.prog.built 82 [(1, .agg a0.arr), (2, .int .i64 1), (3, .slice (some ⟨g, 0, none⟩) 1 1)] = some (x0 g).arr := by kernel_rfl
theorem x0_ok {w : World} {g : Nat} (h : w.heap[g]? = some (.cells #[.int .i64 0, .int .i64 (-2)] 84 (0, 0))) : EdaOk w (x0 g) := by
  refine ⟨⟨nilS_ok _ _ _, nilS_ok _ _ _, nilS_ok _ _ _, nilS_ok _ _ _, nilS_ok _ _ _⟩, ⟨rfl, by show 1 ≤ 4194304; omega, Or.inr ⟨g, 0, rfl, lt_of_block h, fun i r hr j v hv => ?_⟩⟩, nilS_ok _ _ _, fun x hx => by simp [x0] at hx; subst hx; exact ⟨rfl, rfl⟩⟩
  cases i with
  | zero =>
    simp [x0, linc] at hr
    subst hr
    rw [cell_of_row _ _ _ _ _ _ h]
    simpa using hv
  | succ i => simp [x0] at hr
theorem info_Line : ∃ i z, Try.prog.info? 84 = some i ∧ i.zero = some z ∧ i.size = 2 := by
  obtain ⟨i, z, h1, h2, h3, _, _⟩ := elt_line.info
  exact ⟨i, z, h1, h2, h3⟩
theorem ents_one {w : World} {b : Nat} {e : Eda} (h : w.heap[b]? = some (.cells e.arr 82 (0, 0))) (he : EdaOk w e) : Ents w ⟨some ⟨b, 0, none⟩, 1, 1, [e]⟩ := by
  refine ⟨⟨rfl, by show 1 ≤ 4194304; omega, Or.inr ⟨b, 0, rfl, lt_of_block h, fun i r hr j v hv => ?_⟩⟩, fun x hx => by simp at hx; subst hx; exact he⟩
  cases i with
  | zero =>
    simp at hr
    subst hr
    rw [cell_of_row _ _ _ _ _ _ h]
    simpa [Eda.arr, Eda.list] using hv
  | succ i => simp at hr
def i0 (g : Nat) : Itm := ⟨4, true, 1, ⟨some ⟨g, 0, none⟩, 1, 1, [⟨0, -2⟩]⟩, nilS⟩
theorem its_one (w : World) : Its w.heap.size ((w.alloc (.cells #[.int .i64 0, .int .i64 (-2)] 84)).alloc (.cells #[.int .u64 4, .bool true, .int .i64 1, .slice (some ⟨w.heap.size, 0, none⟩) 1 1, .slice none 0 0] 86)) (.slice (some ⟨w.heap.size + 1, 0, none⟩) 1 1) [i0 w.heap.size] := by
  have h1 := row_new1 (w := w) (W := w) (t := 84) (E := #[.int .i64 0, .int .i64 (-2)]) (sz := 2) rfl (Nat.le_refl _)
  have h2 := row_new1 (w := w) (W := w.alloc (.cells #[.int .i64 0, .int .i64 (-2)] 84)) (t := 86) (E := #[.int .u64 4, .bool true, .int .i64 1, .slice (some ⟨w.heap.size, 0, none⟩) 1 1, .slice none 0 0]) (sz := 5) rfl (by simp)
  refine ⟨?_, fun x hx => ?_, fun x hx => ?_, List.pairwise_singleton _ _, List.pairwise_singleton _ _⟩
  · simpa [flat, i0, itc, nilS] using h2
  · simp at hx
    subst hx
    exact owns_keep h1 ((Below.refl _ _).alloc (Nat.le_refl _) _)
  · simp at hx
    subst hx
    exact World.ownsRow_nil _ _ _ _
theorem sum_one : sumsT 1 [⟨0, -2⟩] = [-2] := by simp [sumsT, sumL, wrap64]
theorem cel_new1 {w : World} {n : Int} {t : TypeId} : Cel (w.alloc (.cells #[.int .i64 n] t)) (some ⟨w.heap.size, 0, none⟩) 1 ([n].map i64c) := cel_one rfl
set_option linter.unusedSimpArgs false in
set_option maxRecDepth 100000 in
set_option maxHeartbeats 8000000 in
theorem wakes_any (w : World) : Calls Try.prog 7 #[] w fun e w' => e = .returned (.bool true) ∧ Below w.heap.size w w' := by
  obtain ⟨w1, hw1⟩ : ∃ w1, w.alloc (.cells #[.int .i64 0, .int .i64 (-2)] 84) = w1 := ⟨_, rfl⟩
  have HW1 := hide hw1
  have hs1 : w1.heap.size = w.heap.size + 1 := by rw [← hw1]; simp
  have HS1 := hide hs1
  obtain ⟨E, hE⟩ : ∃ E, (x0 w.heap.size).arr = E := ⟨_, rfl⟩
  have HE := hide hE
  have HEs : Hid (E.size = 22) := by show _ = _; rw [← hE]; rfl
  have HEo : Hid (E.all (·.oneCell') = true) := by show _ = _; rw [← hE]; exact Eda.ones _
  obtain ⟨D, hD⟩ : ∃ D, a0.arr = D := ⟨_, rfl⟩
  have HBa : Hid (Try.prog.built 80 [(0, .agg #[.int .i64 1, .int .u64 4]), (1, .int .i64 1), (2, .bool true)] = some D) := by show _ = _; rw [← hD]; exact a0_built
  have HBe : Hid (Try.prog.built 82 [(1, .agg D), (2, .int .i64 1), (3, .slice (some ⟨w.heap.size, 0, none⟩) 1 1)] = some E) := by show _ = _; rw [← hD, ← hE]; exact x0_built _
  clear hw1 hE hD hs1
  go_enter Try.func7, Try.ntmps7
  go_upto_region 1 with (fail)
  refine wp_region_list ?_
  refine lp_built rfl 74 _ rfl [(0, .int .i64 1), (1, .int .u64 4)] rfl #[.int .i64 1, .int .u64 4] (by kernel_rfl) ?_
  simp only [Act.put, List.setIfInBounds_toArray, List.set_cons_zero, List.set_cons_succ]
  refine lp_built rfl 80 _ rfl [(0, .agg #[.int .i64 1, .int .u64 4]), (1, .int .i64 1), (2, .bool true)] rfl D HBa.out ?_
  simp only [Act.put, List.setIfInBounds_toArray, List.set_cons_zero, List.set_cons_succ]
  refine lp_built rfl 84 _ rfl [(1, .int .i64 (-2))] rfl #[.int .i64 0, .int .i64 (-2)] (by kernel_rfl) ?_
  simp only [Act.put, List.setIfInBounds_toArray, List.set_cons_zero, List.set_cons_succ]
  refine lp_build_one rfl 37 84 (.tmp 6) rfl #[.int .i64 0, .int .i64 (-2)] rfl 2 (by omega) (by omega) Try.underlying37 info_Line rfl ?_
  rw [HW1.out]
  simp only [Act.put, List.setIfInBounds_toArray, List.set_cons_zero, List.set_cons_succ]
  refine lp_built rfl 82 _ rfl [(1, .agg D), (2, .int .i64 1), (3, .slice (some ⟨w.heap.size, 0, none⟩) 1 1)] rfl E HBe.out ?_
  simp only [Act.put, List.setIfInBounds_toArray, List.set_cons_zero, List.set_cons_succ]
  go_upto_region 2 with (
    first
    | ((with_reducible show wpList _ _ _ (⟨_, .store 82 (.tmp 1) _, _, _, _, _⟩ :: _) _ _); refine lp_store (t := 82) (x := .tmp 1) (some ⟨w1.heap.size, 0, none⟩) (.agg E) rfl rfl (run_storeAt_new w1 _ _ E (by rw [HEs.out]; exact Try.sizeE) (by rw [HEs.out]; rfl) HEo.out) ?_))
  -- BEHIND
  dsimp only [Act.put]
  obtain ⟨W2, hW2⟩ : ∃ W2, w1.alloc (.cells E 82) = W2 := ⟨_, rfl⟩
  obtain ⟨W3, hW3⟩ : ∃ W3, W2.alloc (.cells E 82) = W3 := ⟨_, rfl⟩
  have hbw1 : Below w.heap.size w w1 := by rw [← HW1.out]; exact (Below.refl _ w).alloc (Nat.le_refl _) _
  have hbw2 : Below w.heap.size w W2 := by rw [← hW2]; exact hbw1.alloc hbw1.size _
  have hbw3 : Below w.heap.size w W3 := by rw [← hW3]; exact hbw2.alloc hbw2.size _
  have hgb1 : w1.heap[w.heap.size]? = some (.cells #[.int .i64 0, .int .i64 (-2)] 84 (0, 0)) := by rw [← HW1.out]; exact heap_alloc_new _ _
  have hgb3 : W3.heap[w.heap.size]? = some (.cells #[.int .i64 0, .int .i64 (-2)] 84 (0, 0)) := by
    rw [← hW3, Below.heap_alloc _ _ _ (by rw [← hW2]; simp; have := lt_of_block hgb1; omega), ← hW2, Below.heap_alloc _ _ _ (lt_of_block hgb1)]
    exact hgb1
  have hE2 : W2.heap[w1.heap.size]? = some (.cells E 82 (0, 0)) := by rw [← hW2]; exact heap_alloc_new _ _
  have hE3 : W3.heap[w1.heap.size]? = some (.cells E 82 (0, 0)) := by rw [← hW3, Below.heap_alloc _ _ _ (lt_of_block hE2)]; exact hE2
  have hEn3 : Ents W3 ⟨some ⟨W2.heap.size, 0, none⟩, 1, 1, [x0 w.heap.size]⟩ := ents_one (by rw [HE.out, ← hW3]; exact heap_alloc_new _ _) (x0_ok hgb3)
  have HOf := hide (of_any W3 ⟨some ⟨W2.heap.size, 0, none⟩, 1, 1, [x0 w.heap.size]⟩ nilS 1 hEn3 ⟨nilS_ok _ _ _, fun e he => by simp [nilS] at he⟩)
  have HL2 := hide (loadAt_row (P := Try.prog) (ty := 82) hE2 Try.underlying82 rfl (by rw [HEs.out]; exact Try.sizeE))
  have HW3 := hide hW3
  have H3 := hide (And.intro hbw3 (And.intro hgb3 hE3))
  rw [hW2]
  clear hW2 hW3 hbw1 hbw2 hbw3 hgb1 hgb3 hE2 hE3 hEn3
  go_upto_region 3 with (
    first
    | ((with_reducible show wpList _ _ _ (⟨_, .load 82 (.tmp 1), _, _, _, _⟩ :: _) _ _); refine lp_load w1.heap.size 0 E rfl HL2.out ?_)
    | ((with_reducible show wpList _ _ _ (⟨_, .buildSlice 26 _ _, _, _, _, _⟩ :: _) _ _); refine lp_build_one rfl 26 82 (.tmp 9) rfl E rfl 22 (by omega) (by omega) Try.underlying26 info_Entry HEs.out ?_; rw [HW3.out])
    | (go_at_call 12; refine HOf.out.mono ?_; rintro e w4 ⟨v4, its4, rfl, hI4, hm4, _, hb4⟩; have hl4 : its4.length = 1 := (by have := congrArg List.length hm4; simpa [ofP, x0, a0, wrB, ownB, nilS] using this); obtain ⟨p4, c4', rfl, _⟩ := slice_form hI4.row; rw [hl4] at hI4 ⊢; have HI4 := hide hI4; have Hm4 := hide hm4; have Hl4 := hide hl4; have HB4 := hide hb4; clear hI4 hm4 hl4 hb4))
  obtain ⟨LX, hLX⟩ : ∃ LX, (x0 w.heap.size).list = LX := ⟨_, rfl⟩
  have hLs : LX.length = 22 := by rw [← hLX]; rfl
  have hLi : (Try.prog.info? 82).map (·.size) = some LX.length := by rw [hLs]; exact Try.sizeE
  have HLX : Hid ((x0 w.heap.size).arr = LX.toArray) := by show _ = _; rw [← hLX]; rfl
  have hHeap : w4.heap[w1.heap.size]? = some (.cells E 82 (0, 0)) := (HB4.out.block _ (lt_of_block H3.out.2.2)).trans H3.out.2.2
  have hgb : w4.heap[w.heap.size]? = some (.cells #[.int .i64 0, .int .i64 (-2)] 84 (0, 0)) := (HB4.out.block _ (lt_of_block H3.out.2.1)).trans H3.out.2.1
  have hgl : w.heap.size < w4.heap.size := lt_of_block hgb
  have hRg : Hid (∀ w' : World, Below w4.heap.size w4 w' → w'.rangeAt w1.heap.size 0 LX) := fun w' h j v hv => by
    rw [World.cell?_of_block (w := w4) (h.block _ (lt_of_block hHeap)), cell_of_row _ _ _ _ _ _ hHeap, ← HE.out]
    rw [← hLX] at hv
    simpa [Eda.arr, Eda.list] using hv
  have hS0 : (fun w' => Below w4.heap.size w4 w' ∧ w'.rangeAt w1.heap.size 0 LX) w4.drew := ⟨(Below.refl _ w4).drew, hRg.out _ ((Below.refl _ w4).drew)⟩
  have HBW : Hid (Below w.heap.size w w4) := H3.out.1.trans (HB4.out.mono H3.out.1.size)
  clear hHeap HOf HL2 HW3 H3 HB4 hLX HBa HBe HW1 HE HEs HEo
  refine wp_region_noPanic ?_
  refine wp_region_held_drew (S := fun w' => Below w4.heap.size w4 w' ∧ w'.rangeAt w1.heap.size 0 LX) (by kernel_rfl) hS0 (fun hHeld => ?_)
  refine wpAnyH_take (i := 0) (oi := _) (v := ?v1003) rfl (by kernel_rfl) (by kernel_rfl) (by kernel_rfl) (fun _ _ _ h => h) (Or.inl ⟨by rfl, ?y1003⟩) (by assumption) ?r1003
  case y1003 => (intro w hSw; (try dsimp only at hSw); go_simp; try with_reducible rfl)
  try simp only [List.getElem_toArray, List.getElem_cons_zero, List.getElem_cons_succ, Act.put, List.setIfInBounds_toArray, List.set_cons_zero, List.set_cons_succ]
  refine wpAnyH_take (i := 2) (oi := _) (v := _) rfl (by kernel_rfl) (by kernel_rfl) (by kernel_rfl) (fun _ _ _ h => h) (yieldsIf_load_mid (by rfl) _ _ rfl w1.heap.size 0 rfl LX _ (fun w h => h.2) Try.underlying82 rfl hLi) (by assumption) ?_
  try simp only [List.getElem_toArray, List.getElem_cons_zero, List.getElem_cons_succ, Act.put, List.setIfInBounds_toArray, List.set_cons_zero, List.set_cons_succ]
  refine wpAnyH_ready (rs := [1, 3]) (by kernel_rfl) (by simp) ?_
  refine AllReadyH.cons (o := _) rfl (fun KK hKK => ?_) (AllReadyH.cons (o := _) rfl (fun KK hKK => ?_) AllReadyH.nil)
  · go_simp
    (go_at_call 4; refine (config_any _ ⟨0, nilS, nilS, 0, 0, 0, 0, 0, 0⟩ (nilS_ok _ _ _) (nilS_ok _ _ _) _ rfl).mono ?_; rintro e w5 ⟨c, rfl, hc1, hc2, hc3, hb5⟩)
    dsimp only
    have hcl : c.cl = 1 := hc3 rfl
    obtain ⟨ct, ccp, ccl, ccc, cpp, cpl, cpc, c1, c2, c3, c4, c5, c6⟩ := c
    simp only at hcl
    subst hcl
    have hB0 : Below w4.heap.size w4 w4.drew := (Below.refl _ w4).drew
    have hB5 := hB0.trans (hb5.mono hB0.size)
    refine hKK.out _ _ (⟨hB5, hRg.out _ hB5⟩) (fun hHeld => ?_)
    clear hKK KK
    try simp only [List.getElem_toArray, List.getElem_cons_zero, List.getElem_cons_succ, Act.put, List.setIfInBounds_toArray, List.set_cons_zero, List.set_cons_succ]
    refine wpAnyH_ready (rs := [3]) (by kernel_rfl) (by simp) ?_
    refine AllReadyH.cons (o := _) rfl (fun KK hKK => ?_) AllReadyH.nil
    refine ite_wanted (by kernel_rfl) ?_
    refine wp_build_one 26 82 (.tmp 14) rfl LX.toArray rfl 22 (by omega) (by omega) Try.underlying26 info_Entry (by simp [hLs]) ?_
    have hB6 := hB5.alloc hB5.size (.cells LX.toArray 82)
    have hEn : Ents (w5.alloc (.cells LX.toArray 82)) ⟨some ⟨w5.heap.size, 0, none⟩, 1, 1, [x0 w.heap.size]⟩ := ents_one (by rw [← HLX.out]; exact heap_alloc_new _ _) (x0_ok ((hB6.block _ hgl).trans hgb))
    refine hKK.out _ _ (⟨hB6, hRg.out _ hB6⟩) (fun hHeld => ?_)
    clear hKK KK
    try simp only [List.getElem_toArray, List.getElem_cons_zero, List.getElem_cons_succ, Act.put, List.setIfInBounds_toArray, List.set_cons_zero, List.set_cons_succ]
    refine wpAnyH_ready (rs := [4]) (by kernel_rfl) (by simp) ?_
    refine AllReadyH.cons (o := _) rfl (fun KK hKK => ?_) AllReadyH.nil
    go_simp
    (go_at_call 19; refine (sums_any _ ⟨ct, ccp, 1, ccc, cpp, cpl, cpc, c1, c2, c3, c4, c5, c6⟩ ⟨some ⟨w5.heap.size, 0, none⟩, 1, 1, [x0 w.heap.size]⟩ (by show 1 ≤ 64; omega) hEn).mono ?_; rintro e w6 ⟨g6, rfl, ho6, hb6⟩)
    dsimp only
    refine hKK.out _ _ (⟨(hB6.trans (hb6.mono hB6.size)), hRg.out _ (hB6.trans (hb6.mono hB6.size))⟩) (fun hHeld => ?_)
    clear hKK KK
    try simp only [List.getElem_toArray, List.getElem_cons_zero, List.getElem_cons_succ, Act.put, List.setIfInBounds_toArray, List.set_cons_zero, List.set_cons_succ]
    refine wpAnyH_take (i := 5) (oi := _) (v := ?v1001) rfl (by kernel_rfl) (by kernel_rfl) (by kernel_rfl) (fun _ _ _ h => h) (Or.inl ⟨by rfl, ?y1001⟩) (by assumption) ?r1001
    case y1001 => (intro w hSw; (try dsimp only at hSw); go_simp; try with_reducible rfl)
    try simp only [List.getElem_toArray, List.getElem_cons_zero, List.getElem_cons_succ, Act.put, List.setIfInBounds_toArray, List.set_cons_zero, List.set_cons_succ]
    refine wpAnyH_done (by kernel_rfl) (NoPanic.normal ?_) _
    have hsum : sumsT 1 (linesP [x0 w.heap.size]) = [-2] := by rw [show linesP [x0 w.heap.size] = [⟨0, -2⟩] from rfl]; exact sum_one
    have Ho6 : Hid (w6.ownsRow (w5.alloc (.cells LX.toArray 82)).heap.size 2 1 (.slice (some ⟨g6, 0, none⟩) 1 1) 1 (flat i64c [-2])) := by rw [← hsum]; exact ho6
    have HB6 : Hid (Below w4.heap.size w4 w6) := hB6.trans (hb6.mono hB6.size)
    clear hsum ho6
    go_wp2_with (
      first
      | (go_at_call 14; refine (eqItems_same _ W3.heap.size w6.heap.size p4 _ 1 c4' 1 its4 [i0 w6.heap.size] (HI4.out.below (HB6.out.trans ((((Below.refl _ w6).alloc (Nat.le_refl _) _).alloc (by simp) _).mono HB6.out.size))) (its_one w6) Hl4.out (by rw [Hm4.out]; rfl) (by omega) (fun x hx => by have h1 : x.d ∈ its4.map Itm.d := List.mem_map.2 ⟨x, hx, rfl⟩; rw [Hm4.out] at h1; simp [ofP, itE, x0, a0, wrB, ownB, nilS] at h1; have e1 : x.made.xs = [⟨0, -2⟩] := congrArg Itd.made h1; have e2 : x.sets.xs = [] := congrArg Itd.sets h1; rw [e1, e2]; simp)).mono ?_; rintro e w7 ⟨rfl, hb7⟩; have HB7 := hide hb7; clear hb7)
      | (go_at_call 18; refine (sameSums _ _ _ 1 1 1 [-2] rfl (by omega) (cel_row (f := i64c) (fun _ => rfl) (owns_keep (owns_keep Ho6.out ((((Below.refl _ w6).alloc (Nat.le_refl _) _).alloc (by simp) _).trans (HB7.out.mono (by simp; omega)))) ((Below.refl _ w7).alloc (Nat.le_refl _) _)) rfl) cel_new1).mono ?_; rintro e w8 ⟨rfl, hb8⟩; have HB8 := hide hb8; clear hb8))
    go_ret
    refine ⟨rfl, ?_⟩
    have k1 : Below w.heap.size w w6 := HBW.out.trans (HB6.out.mono HBW.out.size)
    have k2 : Below w.heap.size w w7 := ((k1.alloc k1.size _).alloc (by have := k1.size; simp; omega) _).trans (HB7.out.mono (by have := k1.size; simp; omega))
    exact (k2.alloc k2.size _).trans (HB8.out.mono (by have := k2.size; simp; omega))
  · refine ite_wanted (by kernel_rfl) ?_
    refine wp_build_one 26 82 (.tmp 14) rfl LX.toArray rfl 22 (by omega) (by omega) Try.underlying26 info_Entry (by simp [hLs]) ?_
    have hB0 : Below w4.heap.size w4 w4.drew := (Below.refl _ w4).drew
    have hB1 := hB0.alloc hB0.size (.cells LX.toArray 82)
    refine hKK.out _ _ (⟨hB1, hRg.out _ hB1⟩) (fun hHeld => ?_)
    clear hKK KK
    try simp only [List.getElem_toArray, List.getElem_cons_zero, List.getElem_cons_succ, Act.put, List.setIfInBounds_toArray, List.set_cons_zero, List.set_cons_succ]
    refine wpAnyH_ready (rs := [1]) (by kernel_rfl) (by simp) ?_
    refine AllReadyH.cons (o := _) rfl (fun KK hKK => ?_) AllReadyH.nil
    go_simp
    (go_at_call 4; refine (config_any _ ⟨0, nilS, nilS, 0, 0, 0, 0, 0, 0⟩ (nilS_ok _ _ _) (nilS_ok _ _ _) _ rfl).mono ?_; rintro e w5 ⟨c, rfl, hc1, hc2, hc3, hb5⟩)
    dsimp only
    have hcl : c.cl = 1 := hc3 rfl
    obtain ⟨ct, ccp, ccl, ccc, cpp, cpl, cpc, c1, c2, c3, c4, c5, c6⟩ := c
    simp only at hcl
    subst hcl
    have hB6 := hB1.trans (hb5.mono hB1.size)
    have hEn : Ents w5 ⟨some ⟨w4.drew.heap.size, 0, none⟩, 1, 1, [x0 w.heap.size]⟩ := ents_one ((hb5.block _ (by simp)).trans (by rw [← HLX.out]; exact heap_alloc_new _ _)) (x0_ok ((hB6.block _ hgl).trans hgb))
    refine hKK.out _ _ (⟨hB6, hRg.out _ hB6⟩) (fun hHeld => ?_)
    clear hKK KK
    try simp only [List.getElem_toArray, List.getElem_cons_zero, List.getElem_cons_succ, Act.put, List.setIfInBounds_toArray, List.set_cons_zero, List.set_cons_succ]
    refine wpAnyH_ready (rs := [4]) (by kernel_rfl) (by simp) ?_
    refine AllReadyH.cons (o := _) rfl (fun KK hKK => ?_) AllReadyH.nil
    go_simp
    (go_at_call 19; refine (sums_any _ ⟨ct, ccp, 1, ccc, cpp, cpl, cpc, c1, c2, c3, c4, c5, c6⟩ ⟨some ⟨w4.drew.heap.size, 0, none⟩, 1, 1, [x0 w.heap.size]⟩ (by show 1 ≤ 64; omega) hEn).mono ?_; rintro e w6 ⟨g6, rfl, ho6, hb6⟩)
    dsimp only
    refine hKK.out _ _ (⟨(hB6.trans (hb6.mono hB6.size)), hRg.out _ (hB6.trans (hb6.mono hB6.size))⟩) (fun hHeld => ?_)
    clear hKK KK
    try simp only [List.getElem_toArray, List.getElem_cons_zero, List.getElem_cons_succ, Act.put, List.setIfInBounds_toArray, List.set_cons_zero, List.set_cons_succ]
    refine wpAnyH_take (i := 5) (oi := _) (v := ?v1002) rfl (by kernel_rfl) (by kernel_rfl) (by kernel_rfl) (fun _ _ _ h => h) (Or.inl ⟨by rfl, ?y1002⟩) (by assumption) ?r1002
    case y1002 => (intro w hSw; (try dsimp only at hSw); go_simp; try with_reducible rfl)
    try simp only [List.getElem_toArray, List.getElem_cons_zero, List.getElem_cons_succ, Act.put, List.setIfInBounds_toArray, List.set_cons_zero, List.set_cons_succ]
    refine wpAnyH_done (by kernel_rfl) (NoPanic.normal ?_) _
    have hsum : sumsT 1 (linesP [x0 w.heap.size]) = [-2] := by rw [show linesP [x0 w.heap.size] = [⟨0, -2⟩] from rfl]; exact sum_one
    have Ho6 : Hid (w6.ownsRow w5.heap.size 2 1 (.slice (some ⟨g6, 0, none⟩) 1 1) 1 (flat i64c [-2])) := by rw [← hsum]; exact ho6
    have HB6 : Hid (Below w4.heap.size w4 w6) := hB6.trans (hb6.mono hB6.size)
    clear hsum ho6
    go_wp2_with (
      first
      | (go_at_call 14; refine (eqItems_same _ W3.heap.size w6.heap.size p4 _ 1 c4' 1 its4 [i0 w6.heap.size] (HI4.out.below (HB6.out.trans ((((Below.refl _ w6).alloc (Nat.le_refl _) _).alloc (by simp) _).mono HB6.out.size))) (its_one w6) Hl4.out (by rw [Hm4.out]; rfl) (by omega) (fun x hx => by have h1 : x.d ∈ its4.map Itm.d := List.mem_map.2 ⟨x, hx, rfl⟩; rw [Hm4.out] at h1; simp [ofP, itE, x0, a0, wrB, ownB, nilS] at h1; have e1 : x.made.xs = [⟨0, -2⟩] := congrArg Itd.made h1; have e2 : x.sets.xs = [] := congrArg Itd.sets h1; rw [e1, e2]; simp)).mono ?_; rintro e w7 ⟨rfl, hb7⟩; have HB7 := hide hb7; clear hb7)
      | (go_at_call 18; refine (sameSums _ _ _ 1 1 1 [-2] rfl (by omega) (cel_row (f := i64c) (fun _ => rfl) (owns_keep (owns_keep Ho6.out ((((Below.refl _ w6).alloc (Nat.le_refl _) _).alloc (by simp) _).trans (HB7.out.mono (by simp; omega)))) ((Below.refl _ w7).alloc (Nat.le_refl _) _)) rfl) cel_new1).mono ?_; rintro e w8 ⟨rfl, hb8⟩; have HB8 := hide hb8; clear hb8))
    go_ret
    refine ⟨rfl, ?_⟩
    have k1 : Below w.heap.size w w6 := HBW.out.trans (HB6.out.mono HBW.out.size)
    have k2 : Below w.heap.size w w7 := ((k1.alloc k1.size _).alloc (by have := k1.size; simp; omega) _).trans (HB7.out.mono (by have := k1.size; simp; omega))
    exact (k2.alloc k2.size _).trans (HB8.out.mono (by have := k2.size; simp; omega))
end Go.Proofs.Ytecbidaljchmoaa
namespace Go.Proofs.Ytecbidaljchmoaa
open Go.RowKit

def intc (n : Int) : List Value := [.int .i64 n]
/-- A script, as numbers. -/
def scA (p : Cnf) (s : Sli Eda) (a : Sli Acd) (t : Sli Int) : Array Value := #[.int .i64 p.tills, .slice p.ctr.p p.ctr.n p.ctr.c, .slice p.prc.p p.prc.n p.prc.c, .int .i64 p.lease, .int .i64 p.watch, .int .i64 p.beat, .int .i64 p.window, .int .i64 p.cap, .int .i64 p.flight, .slice s.p s.n s.c, .slice a.p a.n a.c, .slice t.p t.n t.c]
theorem scA_ones (p : Cnf) (s : Sli Eda) (a : Sli Acd) (t : Sli Int) : (scA p s a t).all (·.oneCell') = true := by simp [scA, Value.oneCell']
/-- Between two tills. -/
structure Pl (w : World) (bc b : Nat) (c : Cfg) (p : Cnf) (s : Sli Eda) (a : Sli Acd) (t : Sli Int) (wr : World) (K : Knd) (C : Array Value) : Prop where
  out : Oute wr K b C
  ents : EntsZ wr K s
  acts : ActsZ wr K a
  tills : SlZ wr K 1 intc t
  box : wr.heap[w.heap.size]? = some (.cells (scA p s a t) 30 (0, 0))
  cfg : wr.heap[bc]? = some (.cells c.arr 34 (0, 0))
  kx : (K w.heap.size).1 = 0
  kc : (K bc).1 = 0
  low : ∀ g, g < w.heap.size → (K g).1 = 0
  bel : Below w.heap.size w wr
theorem Pl.next {w wr w' : World} {bc b : Nat} {c : Cfg} {p : Cnf} {s : Sli Eda} {a : Sli Acd} {t : Sli Int} {K K' : Knd} {C C' : Array Value} (h : Pl w bc b c p s a t wr K C) (ho : Oute w' K' b C') (hk : Kp (fun q => 0 < q.1) K K' wr w') : Pl w bc b c p s a t w' K' C' :=
  ⟨ho, h.ents.kept hk (fun q h => h), h.acts.kept hk (fun q h => h), h.tills.kept hk (fun q h => h), (hk.block _ (lt_of_block h.box) (by rw [h.kx]; omega)).trans h.box, (hk.block _ (lt_of_block h.cfg) (by rw [h.kc]; omega)).trans h.cfg, by rw [hk.same _ (lt_of_block h.box)]; exact h.kx, by rw [hk.same _ (lt_of_block h.cfg)]; exact h.kc, fun g hg => by rw [hk.same g (Nat.lt_of_lt_of_le hg h.bel.size)]; exact h.low g hg, hk.below h.bel (fun g hg => by rw [h.low g hg]; omega)⟩
def PlS (w : World) (bc b : Nat) (c : Cfg) (p : Cnf) (s : Sli Eda) (a : Sli Acd) (t : Sli Int) (wr : World) : Prop := ∃ K C, Pl w bc b c p s a t wr K C
theorem PlS.drew {w wr : World} {bc b : Nat} {c : Cfg} {p : Cnf} {s : Sli Eda} {a : Sli Acd} {t : Sli Int} (h : PlS w bc b c p s a t wr) : PlS w bc b c p s a t wr.drew := by
  obtain ⟨K, C, h⟩ := h
  have hk : Kp (fun q => q.1 = 0 ∧ False) K K wr wr.drew := (Kp.refl _ _ _).drew
  exact ⟨K, C, h.next (h.out.kept hk (fun q h => h.1)) (hk.mono (fun q h => h.2.elim))⟩
/-- What other has laid, in the same kinds. -/
theorem zok_of {α : Type} {w : World} {K : Knd} {B sz : Nat} {e : TypeId} {f : α → List Value} {s : Sli α} (h : SlOwn B w e sz f s) (hf : ∀ x, (f x).length = sz) (hK : ∀ g, B ≤ g → (K g).1 = 0) : SlZ w K sz f s := ⟨h.ok hf, fun hne g i e => hK g (owns_base h.1 g (by rw [e]; rfl))⟩
theorem PlS.told {w v : World} {bc b : Nat} {c : Cfg} {p : Cnf} {s : Sli Eda} {a : Sli Acd} {t : Sli Int} (hc : c.cl ≤ 64) (htot : (linesP s.xs).length ≤ 4194304) (h : PlS w bc b c p s a t v) (till : Int) :
    Calls Try.prog 5 #[.pointer (some ⟨b, 0, none⟩), c.v, .slice s.p s.n s.c, .slice a.p a.n a.c, .int .i64 till] v fun e w' => e = .returned (.bool true) ∧ PlS w bc b c p s a t w' := by
  obtain ⟨K, C, h⟩ := h
  refine (told_any v K b C h.out c hc s h.ents a h.acts till htot).mono ?_
  rintro e w' ⟨K', C', rfl, ho, hk⟩
  exact ⟨rfl, K', C', h.next ho hk⟩
theorem PlS.toldNil {w v : World} {bc b : Nat} {c : Cfg} {p : Cnf} {s : Sli Eda} {a : Sli Acd} {t : Sli Int} (hc : c.cl ≤ 64) (htot : (linesP s.xs).length ≤ 4194304) (h : PlS w bc b c p s a t v) (till : Int) :
    Calls Try.prog 5 #[.pointer (some ⟨b, 0, none⟩), c.v, .slice s.p s.n s.c, .slice none 0 0, .int .i64 till] v fun e w' => e = .returned (.bool true) ∧ PlS w bc b c p s a t w' := by
  obtain ⟨K, C, h⟩ := h
  refine (told_any v K b C h.out c hc s h.ents nilS ⟨⟨nilS_ok _ _ _, fun hne => absurd rfl hne⟩, fun e he => by simp [nilS] at he⟩ till htot).mono ?_
  rintro e w' ⟨K', C', rfl, ho, hk⟩
  exact ⟨rfl, K', C', h.next ho hk⟩
theorem PlS.other {w v : World} {bc b : Nat} {c : Cfg} {p : Cnf} {s : Sli Eda} {a : Sli Acd} {t : Sli Int} (htot : (linesP s.xs).length ≤ 4194304) (h : PlS w bc b c p s a t v) :
    Calls Try.prog 6 #[.slice s.p s.n s.c] v fun e w' => ∃ d : Sli Eda, e = .returned (.slice d.p d.n d.c) ∧ PlS w bc b c p s a t w' ∧ (∃ K C, Pl w bc b c p s a t w' K C ∧ EntsZ w' K d) ∧ (linesP d.xs).length ≤ 4194304 := by
  obtain ⟨K, C, h⟩ := h
  refine (other_any v s h.ents.ok).mono ?_
  rintro e w' ⟨d, rfl, hE, hl, hp, ho, hb⟩
  have hk : Kp (fun q => q.1 = 0 ∧ False) K (ext K v.heap.size (0, 0)) v w' := kp_below hb _ K _
  have h' := h.next (h.out.kept hk (fun q h => h.1)) (hk.mono (fun q h => h.2.elim))
  have hK : ∀ g, v.heap.size ≤ g → (ext K v.heap.size (0, 0) g).1 = 0 := fun g hg => by rw [ext_new _ _ hg]
  refine ⟨d, rfl, ⟨_, _, h'⟩, ⟨_, _, h', ⟨hE.row, fun _ g i e => hK g (hp g i e)⟩, fun e he => ?_⟩, by rw [hl]; exact htot⟩
  have h1 := ho e he
  exact ⟨⟨zok_of h1.ac.lines (fun _ => rfl) hK, zok_of h1.ac.guards (fun _ => rfl) hK, zok_of h1.ac.sets (fun _ => rfl) hK, zok_of h1.ac.other (fun _ => rfl) hK, zok_of h1.ac.rights (fun _ => rfl) hK⟩, zok_of h1.made (fun _ => rfl) hK, zok_of h1.sets (fun _ => rfl) hK, (hE.each e he).wf⟩
theorem PlS.toldOther {w v : World} {bc b : Nat} {c : Cfg} {p : Cnf} {s d : Sli Eda} {a : Sli Acd} {t : Sli Int} (hc : c.cl ≤ 64) (h : ∃ K C, Pl w bc b c p s a t v K C ∧ EntsZ v K d) (htot : (linesP d.xs).length ≤ 4194304) (till : Int) :
    Calls Try.prog 5 #[.pointer (some ⟨b, 0, none⟩), c.v, .slice d.p d.n d.c, .slice a.p a.n a.c, .int .i64 till] v fun e w' => e = .returned (.bool true) ∧ PlS w bc b c p s a t w' := by
  obtain ⟨K, C, h, hd⟩ := h
  refine (told_any v K b C h.out c hc d hd a h.acts till htot).mono ?_
  rintro e w' ⟨K', C', rfl, ho, hk⟩
  exact ⟨rfl, K', C', h.next ho hk⟩
theorem PlS.facts {w v : World} {bc b : Nat} {c : Cfg} {p : Cnf} {s : Sli Eda} {a : Sli Acd} {t : Sli Int} (h : PlS w bc b c p s a t v) : PlS w bc b c p s a t v ∧ v.cell? ⟨bc, 0, none⟩ = some (.int .i64 c.tills) ∧ v.cell? ⟨bc, 1, none⟩ = some (.slice c.cp c.cl c.cc) ∧ v.cell? ⟨bc, 2, none⟩ = some (.slice c.pp c.pl c.pc) ∧ v.cell? ⟨bc, 3, none⟩ = some (.int .i64 c.lease) ∧ v.cell? ⟨bc, 4, none⟩ = some (.int .i64 c.watch) ∧ v.cell? ⟨bc, 5, none⟩ = some (.int .i64 c.beat) ∧ v.cell? ⟨bc, 6, none⟩ = some (.int .i64 c.window) ∧ v.cell? ⟨bc, 7, none⟩ = some (.int .i64 c.cap) ∧ v.cell? ⟨bc, 8, none⟩ = some (.int .i64 c.flight) ∧ v.cell? ⟨w.heap.size, 9, none⟩ = some (.slice s.p s.n s.c) ∧ v.cell? ⟨w.heap.size, 10, none⟩ = some (.slice a.p a.n a.c) := by
  obtain ⟨K, C, h'⟩ := h
  refine ⟨⟨K, C, h'⟩, ?_, ?_, ?_, ?_, ?_, ?_, ?_, ?_, ?_, ?_, ?_⟩
  · rw [cell_of_row _ _ _ _ _ _ h'.cfg]; rfl
  · rw [cell_of_row _ _ _ _ _ _ h'.cfg]; rfl
  · rw [cell_of_row _ _ _ _ _ _ h'.cfg]; rfl
  · rw [cell_of_row _ _ _ _ _ _ h'.cfg]; rfl
  · rw [cell_of_row _ _ _ _ _ _ h'.cfg]; rfl
  · rw [cell_of_row _ _ _ _ _ _ h'.cfg]; rfl
  · rw [cell_of_row _ _ _ _ _ _ h'.cfg]; rfl
  · rw [cell_of_row _ _ _ _ _ _ h'.cfg]; rfl
  · rw [cell_of_row _ _ _ _ _ _ h'.cfg]; rfl
  · rw [cell_of_row _ _ _ _ _ _ h'.box]; rfl
  · rw [cell_of_row _ _ _ _ _ _ h'.box]; rfl
end Go.Proofs.Ytecbidaljchmoaa
namespace Go.Proofs.Ytecbidaljchmoaa
open Go.RowKit

theorem slz_in {α : Type} {w W : World} {K : Knd} {sz : Nat} {f : α → List Value} {s : Sli α} (h : SlOk w sz f s) (hb : Below w.heap.size w W) (hlo : ∀ g, g < w.heap.size → (K g).1 = 0) : SlZ W K sz f s := by
  refine ⟨h.below hb, fun hne g i e => ?_⟩
  rcases h.cel with h1 | ⟨b, o, e1, h2, _⟩
  · exact absurd (by simpa using h1) hne
  · rw [e] at e1
    cases e1
    exact hlo g h2
set_option linter.unusedVariables false in
set_option maxRecDepth 100000 in
set_option maxHeartbeats 8000000 in
theorem place_all (w : World) (p : Cnf) (s : Sli Eda) (a : Sli Acd) (t : Sli Int) (hc : SlOk w 3 tric p.ctr) (hp : SlOk w 1 (fun n : Int => [Value.int .i64 n]) p.prc) (hs : Ents w s) (ha : Acts w a) (ht : SlOk w 1 intc t) (htot : (linesP s.xs).length ≤ 4194304) :
    Calls Try.prog 3 #[.agg (scA p s a t)] w fun e w' => e = .returned (.bool true) ∧ Below w.heap.size w w' := by
  obtain ⟨A, hA⟩ : ∃ A, scA p s a t = A := ⟨_, rfl⟩
  rw [hA]
  obtain ⟨w0, hw0⟩ : ∃ w0, w.alloc (.cells A 30) = w0 := ⟨_, rfl⟩
  have hb0 : Below w.heap.size w w0 := by rw [← hw0]; exact (Below.refl _ w).alloc (Nat.le_refl _) _
  have hbox : w0.heap[w.heap.size]? = some (.cells A 30 (0, 0)) := by rw [← hw0]; exact heap_alloc_new _ _
  obtain ⟨P, hP⟩ : ∃ P, p.arr = P := ⟨_, rfl⟩
  have HLc : Hid ((Instr.loadAt 25 (.pointer (some ⟨w.heap.size, 0, none⟩))).run Try.prog w0 = .ok (.agg P) w0) := by
    show _ = _
    have h := run_loadAt_mid (P := Try.prog) w0 w.heap.size 0 25 p.arr.toList _ (fun j v hv => by
      rw [cell_of_row _ _ _ _ _ _ hbox, ← hA]
      match j, hv with
      | 0, hv => simpa [Cnf.arr, scA] using hv
      | 1, hv => simpa [Cnf.arr, scA] using hv
      | 2, hv => simpa [Cnf.arr, scA] using hv
      | 3, hv => simpa [Cnf.arr, scA] using hv
      | 4, hv => simpa [Cnf.arr, scA] using hv
      | 5, hv => simpa [Cnf.arr, scA] using hv
      | 6, hv => simpa [Cnf.arr, scA] using hv
      | 7, hv => simpa [Cnf.arr, scA] using hv
      | 8, hv => simpa [Cnf.arr, scA] using hv
      | j + 9, hv => simp [Cnf.arr] at hv) Try.underlying25 rfl (by kernel_rfl)
    rw [← hP]
    simpa using h
  have HCf := hide (config_any w0 p ((⟨hc.len, hc.most, hc.cel.below hb0⟩ : SlOk w0 3 tric p.ctr)) (⟨hp.len, hp.most, hp.cel.below hb0⟩) P hP)
  have HW0 := hide hw0
  have HB0 := hide hb0
  have HBx := hide hbox
  have Hin := hide (And.intro hs (And.intro ha ht))
  have htl : t.xs.length = t.n := ht.len
  have htm : t.n ≤ 4194304 := ht.most
  have Htot := hide htot
  have HA := hide hA
  have HAs : Hid (A.size = 12) := by show _ = _; rw [← hA]; rfl
  clear hc hp hs ha ht hw0 hb0 hbox hP htot hA
  go_enter Try.func3, Try.ntmps3
  go_upto_region 1 with (fail)
  rw [HW0.out]
  go_upto_region 2 with (
    first
    | ((with_reducible show wpList _ _ _ (⟨_, .load 25 (.tmp 7), _, _, _, _⟩ :: _) _ _); refine lp_load w.heap.size 0 P rfl HLc.out ?_)
    | (go_at_call 4; refine HCf.out.mono ?_; rintro e w1 ⟨c, rfl, hc1, hc2, hc3, hb1⟩; have HB1 := hide hb1; have Hc2 := hide hc2; obtain ⟨D, hD⟩ : ∃ D, c.arr = D := ⟨_, rfl⟩; have HDs : Hid (D.size = 9) := (by show _ = _; rw [← hD]; rfl); have HDo : Hid (D.all (·.oneCell') = true) := (by show _ = _; rw [← hD]; exact c.ones); rw [show c.v = Value.agg D from by rw [← hD]; rfl]; have HD := hide hD; clear hc1 hc2 hc3 hb1 hD)
    | ((with_reducible show wpList _ _ _ (⟨_, .store 34 (.tmp 3) _, _, _, _, _⟩ :: _) _ _); refine lp_store (t := 34) (x := .tmp 3) (some ⟨w1.heap.size, 0, none⟩) (.agg D) rfl rfl (run_storeAt_new w1 _ _ D (by rw [HDs.out]; exact Try.sizeC) (by rw [HDs.out]; rfl) HDo.out) ?_))
  dsimp only [Act.put]
  obtain ⟨W2, hW2⟩ : ∃ W2, w1.alloc (.cells D 34) = W2 := ⟨_, rfl⟩
  rw [hW2]
  obtain ⟨Z, hZ⟩ : ∃ Z : Array Value, #[.slice none 0 0, .slice none 0 0, .slice none 0 0, .slice none 0 0, .slice none 0 0, .slice none 0 0, .slice none 0 0, .slice none 0 0, .slice none 0 0, .slice none 0 0, .slice none 0 0, .slice none 0 0, .slice none 0 0, .slice none 0 0, .slice none 0 0, .slice none 0 0, .slice none 0 0] = Z := ⟨_, rfl⟩
  obtain ⟨W3, hW3⟩ : ∃ W3, W2.alloc (.cells Z 48) = W3 := ⟨_, rfl⟩
  have HZ := hide hZ
  have HW3 := hide hW3
  have HI0 : Hid (PlS w w1.heap.size W2.heap.size c p s a t W3) := by
    have hz : ∀ i, i < 17 → Z[i]? = some (.slice none 0 0) := fun i hi => by
      rw [← hZ]
      match i, hi with
      | 0, _ => rfl
      | 1, _ => rfl
      | 2, _ => rfl
      | 3, _ => rfl
      | 4, _ => rfl
      | 5, _ => rfl
      | 6, _ => rfl
      | 7, _ => rfl
      | 8, _ => rfl
      | 9, _ => rfl
      | 10, _ => rfl
      | 11, _ => rfl
      | 12, _ => rfl
      | 13, _ => rfl
      | 14, _ => rfl
      | 15, _ => rfl
      | 16, _ => rfl
      | i + 17, hi => omega
    have hw1 : Below w.heap.size w w1 := HB0.out.trans (HB1.out.mono HB0.out.size)
    have hw2 : Below w.heap.size w W2 := by rw [← hW2]; exact hw1.alloc hw1.size _
    have hw3 : Below w.heap.size w W3 := by rw [← hW3]; exact hw2.alloc hw2.size _
    have hb1 : w1.heap[w.heap.size]? = some (.cells (scA p s a t) 30 (0, 0)) := by rw [HA.out]; exact (HB1.out.block _ (lt_of_block HBx.out)).trans HBx.out
    have hl1 := lt_of_block hb1
    have hc2 : W2.heap[w1.heap.size]? = some (.cells c.arr 34 (0, 0)) := by rw [← hW2, HD.out]; exact heap_alloc_new _ _
    have hl2 := lt_of_block hc2
    have hlo : ∀ g, g < w.heap.size → ((fun g => if g = W2.heap.size then (1, 0) else (0, 0) : Knd) g).1 = 0 := fun g hg => by show (if g = W2.heap.size then ((1, 0) : Nat × Nat) else (0, 0)).1 = 0; rw [if_neg (by have := hw2.size; omega)]
    refine ⟨fun g => if g = W2.heap.size then (1, 0) else (0, 0), Z, ⟨by rw [← hW3]; exact heap_alloc_new _ _, by rw [← hZ]; rfl, by simp, slot_nil (hz 13 (by omega)), ⟨[], ⟨none, 0, hz 14 (by omega), rk_nil _ _ _ _ _⟩, Nat.zero_le _, fun i b h => by simp at h⟩, slot_nil (hz 15 (by omega)), ⟨[], ⟨none, 0, hz 16 (by omega), rk_nil _ _ _ _ _⟩, Nat.zero_le _, fun i b h => by simp at h⟩⟩, ⟨slz_in Hin.out.1.row hw3 hlo, fun e he => ?_⟩, ⟨slz_in Hin.out.2.1.row hw3 hlo, fun e he => ?_⟩, slz_in Hin.out.2.2 hw3 hlo, ?_, ?_, ?_, ?_, hlo, hw3⟩
    · have h1 := Hin.out.1.each e he
      exact ⟨⟨slz_in h1.ac.lines hw3 hlo, slz_in h1.ac.guards hw3 hlo, slz_in h1.ac.sets hw3 hlo, slz_in h1.ac.other hw3 hlo, slz_in h1.ac.rights hw3 hlo⟩, slz_in h1.made hw3 hlo, slz_in h1.sets hw3 hlo, h1.wf⟩
    · have h1 := Hin.out.2.1.each e he
      exact ⟨slz_in h1.lines hw3 hlo, slz_in h1.guards hw3 hlo, slz_in h1.sets hw3 hlo, slz_in h1.other hw3 hlo, slz_in h1.rights hw3 hlo⟩
    · rw [← hW3, Below.heap_alloc _ _ _ (by rw [← hW2]; simp; omega), ← hW2, Below.heap_alloc _ _ _ hl1]; exact hb1
    · rw [← hW3, Below.heap_alloc _ _ _ hl2]; exact hc2
    · show (if w.heap.size = W2.heap.size then ((1, 0) : Nat × Nat) else (0, 0)).1 = 0
      rw [if_neg (by rw [← hW2]; simp; omega)]
    · show (if w1.heap.size = W2.heap.size then ((1, 0) : Nat × Nat) else (0, 0)).1 = 0
      rw [if_neg (by omega)]
  obtain ⟨bc, hbc⟩ : ∃ bc, w1.heap.size = bc := ⟨_, rfl⟩
  obtain ⟨b, hb⟩ : ∃ b, W2.heap.size = b := ⟨_, rfl⟩
  rw [hbc, hb] at HI0
  clear hZ hW3 hW2
  go_upto_region 3 with (fail)
  rw [HZ.out, HW3.out]
  try rw [hbc]
  try rw [hb]
  clear HZ HW3 hbc hb HLc HCf HW0 HBx HB1 HAs HB0 HD HDs HDo
  go_wp2
  go_loopw [5] (fun i wr => ∃ k : Nat, k ≤ t.n ∧ k ≤ 20 ∧ i = .int .i64 k ∧ Hid (PlS w bc b c p s a t wr)) (fun i _ => t.n - (intOf i).toNat)
  case atStart => exact ⟨0, Nat.zero_le _, Nat.zero_le _, rfl, HI0⟩
  case round =>
    clear HI0
    obtain ⟨k, hk, hk2, rfl, HI⟩ := hrel
    have d11 : wr.cell? ⟨w.heap.size, 11, none⟩ = some (.slice t.p t.n t.c) := by
      obtain ⟨K, C, h⟩ := HI.out
      rw [cell_of_row _ _ _ _ _ _ h.box]; rfl
    by_cases hgo : k < t.n ∧ k < 20
    · obtain ⟨hlt, hlt2⟩ := hgo
      have hlt' : (k : Int) < (t.n : Int) := by omega
      have hlt2' : (k : Int) < 20 := by omega
      obtain ⟨x, hx⟩ : ∃ x, t.xs[k]? = some x := ⟨_, List.getElem?_eq_getElem (by omega)⟩
      obtain ⟨bt, ot, e, hbt, hct⟩ : ∃ bt ot, t.p = some ⟨bt, ot, none⟩ ∧ bt < wr.heap.size ∧ wr.cell? ⟨bt, ot + k, none⟩ = some (.int .i64 x) := by
        obtain ⟨K, C, h⟩ := HI.out
        obtain ⟨bt, ot, e, h1, h2⟩ := h.tills.ok.cel.get (i := k) (r := intc x) (by simp [hx])
        have h3 := h2 0 _ rfl
        rw [show ot + k * 1 + 0 = ot + k by omega] at h3
        exact ⟨bt, ot, e, h1, h3⟩
      rw [e] at d11
      clear hx
      go_upto_region 7 with (fail)
      have hS0 := HI.out.drew.facts
      have HF : Hid (∀ v : World, PlS w bc b c p s a t v → (PlS w bc b c p s a t v ∧ v.cell? ⟨bc, 0, none⟩ = some (.int .i64 c.tills) ∧ v.cell? ⟨bc, 1, none⟩ = some (.slice c.cp c.cl c.cc) ∧ v.cell? ⟨bc, 2, none⟩ = some (.slice c.pp c.pl c.pc) ∧ v.cell? ⟨bc, 3, none⟩ = some (.int .i64 c.lease) ∧ v.cell? ⟨bc, 4, none⟩ = some (.int .i64 c.watch) ∧ v.cell? ⟨bc, 5, none⟩ = some (.int .i64 c.beat) ∧ v.cell? ⟨bc, 6, none⟩ = some (.int .i64 c.window) ∧ v.cell? ⟨bc, 7, none⟩ = some (.int .i64 c.cap) ∧ v.cell? ⟨bc, 8, none⟩ = some (.int .i64 c.flight) ∧ v.cell? ⟨w.heap.size, 9, none⟩ = some (.slice s.p s.n s.c) ∧ v.cell? ⟨w.heap.size, 10, none⟩ = some (.slice a.p a.n a.c))) := fun v h => h.facts
      have HT1 : Hid (∀ v : World, (PlS w bc b c p s a t v ∧ v.cell? ⟨bc, 0, none⟩ = some (.int .i64 c.tills) ∧ v.cell? ⟨bc, 1, none⟩ = some (.slice c.cp c.cl c.cc) ∧ v.cell? ⟨bc, 2, none⟩ = some (.slice c.pp c.pl c.pc) ∧ v.cell? ⟨bc, 3, none⟩ = some (.int .i64 c.lease) ∧ v.cell? ⟨bc, 4, none⟩ = some (.int .i64 c.watch) ∧ v.cell? ⟨bc, 5, none⟩ = some (.int .i64 c.beat) ∧ v.cell? ⟨bc, 6, none⟩ = some (.int .i64 c.window) ∧ v.cell? ⟨bc, 7, none⟩ = some (.int .i64 c.cap) ∧ v.cell? ⟨bc, 8, none⟩ = some (.int .i64 c.flight) ∧ v.cell? ⟨w.heap.size, 9, none⟩ = some (.slice s.p s.n s.c) ∧ v.cell? ⟨w.heap.size, 10, none⟩ = some (.slice a.p a.n a.c)) → ∀ till : Int, Calls Try.prog 5 #[.pointer (some ⟨b, 0, none⟩), c.v, .slice s.p s.n s.c, .slice a.p a.n a.c, .int .i64 till] v fun e w' => e = .returned (.bool true) ∧ PlS w bc b c p s a t w') := fun v h till => h.1.told Hc2.out Htot.out till
      have HT3 : Hid (∀ v : World, (PlS w bc b c p s a t v ∧ v.cell? ⟨bc, 0, none⟩ = some (.int .i64 c.tills) ∧ v.cell? ⟨bc, 1, none⟩ = some (.slice c.cp c.cl c.cc) ∧ v.cell? ⟨bc, 2, none⟩ = some (.slice c.pp c.pl c.pc) ∧ v.cell? ⟨bc, 3, none⟩ = some (.int .i64 c.lease) ∧ v.cell? ⟨bc, 4, none⟩ = some (.int .i64 c.watch) ∧ v.cell? ⟨bc, 5, none⟩ = some (.int .i64 c.beat) ∧ v.cell? ⟨bc, 6, none⟩ = some (.int .i64 c.window) ∧ v.cell? ⟨bc, 7, none⟩ = some (.int .i64 c.cap) ∧ v.cell? ⟨bc, 8, none⟩ = some (.int .i64 c.flight) ∧ v.cell? ⟨w.heap.size, 9, none⟩ = some (.slice s.p s.n s.c) ∧ v.cell? ⟨w.heap.size, 10, none⟩ = some (.slice a.p a.n a.c)) → ∀ till : Int, Calls Try.prog 5 #[.pointer (some ⟨b, 0, none⟩), c.v, .slice s.p s.n s.c, .slice none 0 0, .int .i64 till] v fun e w' => e = .returned (.bool true) ∧ PlS w bc b c p s a t w') := fun v h till => h.1.toldNil Hc2.out Htot.out till
      have HTo : Hid (∀ v : World, (PlS w bc b c p s a t v ∧ v.cell? ⟨bc, 0, none⟩ = some (.int .i64 c.tills) ∧ v.cell? ⟨bc, 1, none⟩ = some (.slice c.cp c.cl c.cc) ∧ v.cell? ⟨bc, 2, none⟩ = some (.slice c.pp c.pl c.pc) ∧ v.cell? ⟨bc, 3, none⟩ = some (.int .i64 c.lease) ∧ v.cell? ⟨bc, 4, none⟩ = some (.int .i64 c.watch) ∧ v.cell? ⟨bc, 5, none⟩ = some (.int .i64 c.beat) ∧ v.cell? ⟨bc, 6, none⟩ = some (.int .i64 c.window) ∧ v.cell? ⟨bc, 7, none⟩ = some (.int .i64 c.cap) ∧ v.cell? ⟨bc, 8, none⟩ = some (.int .i64 c.flight) ∧ v.cell? ⟨w.heap.size, 9, none⟩ = some (.slice s.p s.n s.c) ∧ v.cell? ⟨w.heap.size, 10, none⟩ = some (.slice a.p a.n a.c)) → Calls Try.prog 6 #[.slice s.p s.n s.c] v fun e w' => ∃ d : Sli Eda, e = .returned (.slice d.p d.n d.c) ∧ PlS w bc b c p s a t w' ∧ (∃ K C, Pl w bc b c p s a t w' K C ∧ EntsZ w' K d) ∧ (linesP d.xs).length ≤ 4194304) := fun v h => h.1.other Htot.out
      go_region_held3 (fun w' => PlS w bc b c p s a t w' ∧ w'.cell? ⟨bc, 0, none⟩ = some (.int .i64 c.tills) ∧ w'.cell? ⟨bc, 1, none⟩ = some (.slice c.cp c.cl c.cc) ∧ w'.cell? ⟨bc, 2, none⟩ = some (.slice c.pp c.pl c.pc) ∧ w'.cell? ⟨bc, 3, none⟩ = some (.int .i64 c.lease) ∧ w'.cell? ⟨bc, 4, none⟩ = some (.int .i64 c.watch) ∧ w'.cell? ⟨bc, 5, none⟩ = some (.int .i64 c.beat) ∧ w'.cell? ⟨bc, 6, none⟩ = some (.int .i64 c.window) ∧ w'.cell? ⟨bc, 7, none⟩ = some (.int .i64 c.cap) ∧ w'.cell? ⟨bc, 8, none⟩ = some (.int .i64 c.flight) ∧ w'.cell? ⟨w.heap.size, 9, none⟩ = some (.slice s.p s.n s.c) ∧ w'.cell? ⟨w.heap.size, 10, none⟩ = some (.slice a.p a.n a.c)) (first | exact hS0 | exact HF.out _ (by assumption)) (first
        | (go_at_call 6; refine (HTo.out _ (by assumption)).mono ?_; rintro e w4 ⟨d, rfl, h4, hd4, ht4⟩)
        | (go_at_call_of 5 (Value.slice none 0 0); refine (HT3.out _ (by assumption) _).mono ?_; rintro e w6 ⟨rfl, h6⟩)
        | (go_at_call_of 5 (Value.slice s.p s.n s.c); refine (HT1.out _ (by assumption) _).mono ?_; rintro e w7 ⟨rfl, h7⟩)
        | (go_at_call 5; refine (PlS.toldOther Hc2.out hd4 ht4 _).mono ?_; rintro e w5 ⟨rfl, h5⟩))
      have H7 := hide h7
      clear hS0 h7 HF HT1 HT3 HTo
      go_wp2
      go_roundw
      case rel => exact ⟨k + 1, by omega, by omega, by go_num, H7⟩
      simp [intOf]; omega
    · have HBe : Hid (Below w.heap.size w wr) := by
        obtain ⟨K, C, h⟩ := HI.out
        exact h.bel
      clear HI
      by_cases hlt : k < t.n
      · have hlt' : (k : Int) < (t.n : Int) := by omega
        have hlt2' : ¬ (k : Int) < 20 := by omega
        go_wp2_with (go_at_call 7; refine (wakes_any _).mono ?_; rintro e w9 ⟨rfl, hb9⟩; have HB9 := hide hb9; clear hb9)
        go_ret
        exact ⟨rfl, HBe.out.trans (HB9.out.mono HBe.out.size)⟩
      · have hlt' : ¬ (k : Int) < (t.n : Int) := by omega
        go_wp2_with (go_at_call 7; refine (wakes_any _).mono ?_; rintro e w9 ⟨rfl, hb9⟩; have HB9 := hide hb9; clear hb9)
        go_ret
        exact ⟨rfl, HBe.out.trans (HB9.out.mono HBe.out.size)⟩
end Go.Proofs.Ytecbidaljchmoaa
