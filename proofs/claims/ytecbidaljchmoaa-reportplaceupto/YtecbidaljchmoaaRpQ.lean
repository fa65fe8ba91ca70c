import Derived.Test.YtecbidaljchmoaaRpO
import Derived.Test.YtecbidaljchmoaaRpI
namespace Go.Proofs.Ytecbidaljchmoaa
open Go.RowKit

/-- What the document's Count holds between two rounds. -/
def Rc (w : World) (es : List Eda) (W : World) : Prop :=
  W.heap[w.heap.size]? = some (.cells #[.int .i64 0, .int .i64 0, .int .i64 0, .int .i64 0, .int .i64 0, .int .i64 0] 66 (0, 0)) ∧ W.heap[w.heap.size + 1]? = some (.cells (cntV es) 66 (0, 0)) ∧ Below w.heap.size w W
theorem Rc.below {w W W' : World} {es : List Eda} (h : Rc w es W) (hb : Below W.heap.size W W') : Rc w es W' :=
  ⟨(hb.block _ (ac_lt h.1)).trans h.1, (hb.block _ (ac_lt h.2.1)).trans h.2.1, h.2.2.trans (hb.mono h.2.2.size)⟩
theorem rc_set {w W : World} {es : List Eda} {x : Eda} {k : Nat} {n : Nat} (h : Rc w es W) (hx : x.oc = (k : Int)) (hk : k < 6) (hn : cnt es (k : Int) = n) : Rc w (es ++ [x]) (W.setCell ⟨w.heap.size + 1, k, none⟩ (.int .i64 ((n : Int) + 1))) := by
  refine ⟨?_, ?_, h.2.2.setCell (p := ⟨w.heap.size + 1, k, none⟩) (Nat.le_succ _) _⟩
  · rw [heap_setCell_other _ _ _ _ (by show w.heap.size ≠ w.heap.size + 1; omega)]; exact h.1
  · rw [heap_setCell_same W (w.heap.size + 1) k _ _ _ h.2.1]
    have hcn : ∀ j : Int, cnt (es ++ [x]) j = cnt es j + (if (k : Int) = j then 1 else 0) := fun j => by rw [cnt_snoc, hx]
    unfold cntV
    rw [hcn, hcn, hcn, hcn, hcn, hcn]
    match k, hk with
    | 0, _ => simp [← hn]
    | 1, _ => simp [← hn]
    | 2, _ => simp [← hn]
    | 3, _ => simp [← hn]
    | 4, _ => simp [← hn]
    | 5, _ => simp [← hn]
theorem rc_same {w W : World} {es : List Eda} {x : Eda} (h : Rc w es W) (hx : ¬ (0 ≤ x.oc ∧ x.oc < 6)) : Rc w (es ++ [x]) W := ⟨h.1, by rw [cntV_same _ _ hx]; exact h.2.1, h.2.2⟩
theorem cntV_cell (es : List Eda) {k : Nat} (hk : k < 6) : (cntV es)[k]? = some (.int .i64 (cnt es (k : Int))) := by
  match k, hk with
  | 0, _ => rfl
  | 1, _ => rfl
  | 2, _ => rfl
  | 3, _ => rfl
  | 4, _ => rfl
  | 5, _ => rfl

set_option maxRecDepth 100000 in
set_option maxHeartbeats 8000000 in
theorem rcount_any (w : World) (s : Sli Eda) (till : Int) (hs : Ents w s) :
    Calls Try.prog 17 #[.slice s.p s.n s.c, .int .i64 till] w fun e w' => e = .returned (.agg (cntV (s.xs.filter (ownB till)))) ∧ Below w.heap.size w w' := by
  obtain ⟨p, n, c, xs⟩ := s
  have hlen : xs.length = n := hs.row.len
  have hmost : n ≤ 4194304 := hs.row.most
  have HC := hide hs.row.cel
  clear hs
  simp only at HC ⊢
  have H0 : Hid (Rc w ((xs.take 0).filter (ownB till)) ((w.alloc (.cells #[.int .i64 0, .int .i64 0, .int .i64 0, .int .i64 0, .int .i64 0, .int .i64 0] 66)).alloc (.cells #[.int .i64 0, .int .i64 0, .int .i64 0, .int .i64 0, .int .i64 0, .int .i64 0] 66))) :=
    ⟨by rw [Below.heap_alloc _ _ _ (by simp)]; exact heap_alloc_new _ _, heap_alloc2_new _ _ _, ((Below.refl _ w).alloc (Nat.le_refl _) _).alloc (by simp) _⟩
  go_enter Try.func17, Try.ntmps17
  go_wp2
  go_loopw [6] (fun i wr => ∃ k : Nat, k ≤ n ∧ i = .int .i64 k ∧ Hid (Rc w ((xs.take k).filter (ownB till)) wr)) (fun i _ => n - (intOf i).toNat)
  case atStart => exact ⟨0, Nat.zero_le _, rfl, H0⟩
  case round =>
    clear H0
    obtain ⟨k, hk, rfl, HI⟩ := hrel
    by_cases hlt : k < n
    · obtain ⟨x, hx⟩ : ∃ x, xs[k]? = some x := ⟨_, List.getElem?_eq_getElem (by omega)⟩
      have hlt' : (k : Int) < (n : Int) := by omega
      obtain ⟨b, o, e, hb, hcl⟩ := HC.out.get (i := k) (r := x.list) (by simp [hx])
      subst e
      have hbw : Below w.heap.size w wr := HI.out.2.2
      have f : ∀ i v, x.list[i]? = some v → wr.cell? ⟨b, o + k * 22 + i, none⟩ = some v := fun i v hv => (hbw.cell (p := ⟨b, o + k * 22 + i, none⟩) hb).trans (hcl i v hv)
      obtain ⟨A, hA⟩ : ∃ A, x.arr = A := ⟨_, rfl⟩
      have HZ : Hid (A.size = 22) := by show _ = _; rw [← hA]; rfl
      have HO : Hid (A.all (·.oneCell') = true) := by show _ = _; rw [← hA]; exact x.ones
      have HL1 : Hid ((Instr.loadAt 82 (.pointer (some ⟨b, o + k * 22, none⟩))).run Try.prog wr = .ok (.agg A) wr) := by
        show _ = _
        rw [← hA]
        exact run_loadAt_mid (P := Try.prog) wr b (o + k * 22) 82 x.list _ f Try.underlying82 rfl Try.sizeE
      have hblk : (wr.alloc (.cells A 82)).heap[wr.heap.size]? = some (.cells A 82 (0, 0)) := heap_alloc_new _ _
      have HL2 := hide (loadAt_row (P := Try.prog) (ty := 82) hblk Try.underlying82 rfl (by rw [HZ.out]; exact Try.sizeE))
      have HBa : Hid (Below wr.heap.size wr (wr.alloc (.cells A 82))) := (Below.refl _ wr).alloc (Nat.le_refl _) _
      have a16 : A[16]? = some (.int .i64 x.oc) := by rw [← hA]; rfl
      have HX := hide hx
      obtain ⟨oc, hoc⟩ : ∃ oc, x.oc = oc := ⟨_, rfl⟩
      rw [hoc] at a16
      have HOC := hide hoc
      obtain ⟨t, ht⟩ : ∃ t, ownB till x = t := ⟨_, rfl⟩
      have HOw := hide (own_any (wr.alloc (.cells A 82)) x A hA till t ht)
      have HT := hide ht
      have hcl2 : ∀ j : Int, cnt ((xs.take k).filter (ownB till)) j ≤ 4194304 := fun j => Nat.le_trans (cnt_le _ _) (Nat.le_trans (List.length_filter_le _ _) (by rw [List.length_take]; omega))
      clear hcl f hx hA hoc ht hbw hblk
      cases t with
      | false =>
        have HF : Hid ((xs.take (k + 1)).filter (ownB till) = (xs.take k).filter (ownB till)) := by
          show _ = _
          rw [take_snoc HX.out, List.filter_append]
          simp [HT.out]
        go_wp2_with (
          first
          | ((with_reducible show wpList _ _ _ (⟨_, .load 82 (.tmp 16), _, _, _, _⟩ :: _) _ _); refine lp_load b (o + k * 22) A rfl HL1.out ?_)
          | ((with_reducible show wpList _ _ _ (⟨_, .load 82 (.tmp 7), _, _, _, _⟩ :: _) _ _); refine lp_load wr.heap.size 0 A rfl HL2.out ?_)
          | ((with_reducible show wpList _ _ _ (⟨_, .store 82 (.tmp 7) _, _, _, _, _⟩ :: _) _ _); refine lp_store (t := 82) (x := .tmp 7) (some ⟨wr.heap.size, 0, none⟩) (.agg A) rfl rfl (run_storeAt_new wr _ _ A (by rw [HZ.out]; exact Try.sizeE) (by rw [HZ.out]; rfl) HO.out) ?_)
          | (go_at_call 31; refine HOw.out.mono ?_; rintro e w2 ⟨rfl, hb2⟩; have HB2 : Hid (Below wr.heap.size wr w2) := HBa.out.trans (hb2.mono (by simp)); clear hb2))
        go_roundw
        case rel => exact ⟨k + 1, by omega, by go_num, by rw [HF.out]; exact HI.out.below HB2.out⟩
        case measure => simp [intOf]; omega
      | true =>
        have HF : Hid ((xs.take (k + 1)).filter (ownB till) = (xs.take k).filter (ownB till) ++ [x]) := by
          show _ = _
          rw [take_snoc HX.out, List.filter_append]
          simp [HT.out]
        by_cases hin : 0 ≤ oc ∧ oc < 6
        · obtain ⟨q0, q1⟩ := hin
          have hcases : oc = ((0 : Nat) : Int) ∨ oc = ((1 : Nat) : Int) ∨ oc = ((2 : Nat) : Int) ∨ oc = ((3 : Nat) : Int) ∨ oc = ((4 : Nat) : Int) ∨ oc = ((5 : Nat) : Int) := by omega
          rcases hcases with rfl | rfl | rfl | rfl | rfl | rfl
          · obtain ⟨m, hm⟩ : ∃ m, cnt ((xs.take k).filter (ownB till)) ((0 : Nat) : Int) = m := ⟨_, rfl⟩
            have hml := hcl2 ((0 : Nat) : Int)
            rw [hm] at hml
            have HM := hide hm
            clear hm hcl2
            replace a16 : A[16]? = some (.int .i64 0) := a16
            go_upto_region 7 with (
              first
              | ((with_reducible show wpList _ _ _ (⟨_, .load 82 (.tmp 16), _, _, _, _⟩ :: _) _ _); refine lp_load b (o + k * 22) A rfl HL1.out ?_)
              | ((with_reducible show wpList _ _ _ (⟨_, .load 82 (.tmp 7), _, _, _, _⟩ :: _) _ _); refine lp_load wr.heap.size 0 A rfl HL2.out ?_)
              | ((with_reducible show wpList _ _ _ (⟨_, .store 82 (.tmp 7) _, _, _, _, _⟩ :: _) _ _); refine lp_store (t := 82) (x := .tmp 7) (some ⟨wr.heap.size, 0, none⟩) (.agg A) rfl rfl (run_storeAt_new wr _ _ A (by rw [HZ.out]; exact Try.sizeE) (by rw [HZ.out]; rfl) HO.out) ?_)
              | (go_at_call 31; refine HOw.out.mono ?_; rintro e w2 ⟨rfl, hb2⟩; have HB2 : Hid (Below wr.heap.size wr w2) := HBa.out.trans (hb2.mono (by simp)); have hbk : w2.heap[wr.heap.size]? = some (.cells A 82 (0, 0)) := (hb2.block _ (by simp)).trans (heap_alloc_new _ _); have c16 : w2.cell? ⟨wr.heap.size, 16, none⟩ = some (.int .i64 0) := (by rw [cell_of_row _ _ _ _ _ _ hbk, a16]); have HR2 := hide (HI.out.below HB2.out); clear hb2 hbk)
              | fail)
            have d : w2.cell? ⟨w.heap.size + 1, 0, none⟩ = some (.int .i64 m) := by rw [cell_of_row _ _ _ _ _ _ HR2.out.2.1, cntV_cell _ (by omega), HM.out]
            have fz : w2.frozen? ⟨w.heap.size + 1, 0, none⟩ = false := frozen_of_row _ _ _ _ _ HR2.out.2.1
            have HR3 : Hid (Rc w ((xs.take (k + 1)).filter (ownB till)) (w2.drew.setCell ⟨w.heap.size + 1, 0, none⟩ (.int .i64 ((m : Int) + 1)))) := by
              rw [HF.out]
              have hd : Rc w ((xs.take k).filter (ownB till)) w2.drew := ⟨HR2.out.1, HR2.out.2.1, HR2.out.2.2.drew⟩
              exact rc_set hd HOC.out (by omega) HM.out
            go_region
            all_goals go_wp2
            all_goals go_roundw
            all_goals first | exact ⟨k + 1, by omega, by go_num, HR3⟩ | (simp [intOf]; omega)
          · obtain ⟨m, hm⟩ : ∃ m, cnt ((xs.take k).filter (ownB till)) ((1 : Nat) : Int) = m := ⟨_, rfl⟩
            have hml := hcl2 ((1 : Nat) : Int)
            rw [hm] at hml
            have HM := hide hm
            clear hm hcl2
            replace a16 : A[16]? = some (.int .i64 1) := a16
            go_upto_region 7 with (
              first
              | ((with_reducible show wpList _ _ _ (⟨_, .load 82 (.tmp 16), _, _, _, _⟩ :: _) _ _); refine lp_load b (o + k * 22) A rfl HL1.out ?_)
              | ((with_reducible show wpList _ _ _ (⟨_, .load 82 (.tmp 7), _, _, _, _⟩ :: _) _ _); refine lp_load wr.heap.size 0 A rfl HL2.out ?_)
              | ((with_reducible show wpList _ _ _ (⟨_, .store 82 (.tmp 7) _, _, _, _, _⟩ :: _) _ _); refine lp_store (t := 82) (x := .tmp 7) (some ⟨wr.heap.size, 0, none⟩) (.agg A) rfl rfl (run_storeAt_new wr _ _ A (by rw [HZ.out]; exact Try.sizeE) (by rw [HZ.out]; rfl) HO.out) ?_)
              | (go_at_call 31; refine HOw.out.mono ?_; rintro e w2 ⟨rfl, hb2⟩; have HB2 : Hid (Below wr.heap.size wr w2) := HBa.out.trans (hb2.mono (by simp)); have hbk : w2.heap[wr.heap.size]? = some (.cells A 82 (0, 0)) := (hb2.block _ (by simp)).trans (heap_alloc_new _ _); have c16 : w2.cell? ⟨wr.heap.size, 16, none⟩ = some (.int .i64 1) := (by rw [cell_of_row _ _ _ _ _ _ hbk, a16]); have HR2 := hide (HI.out.below HB2.out); clear hb2 hbk)
              | fail)
            have d : w2.cell? ⟨w.heap.size + 1, 1, none⟩ = some (.int .i64 m) := by rw [cell_of_row _ _ _ _ _ _ HR2.out.2.1, cntV_cell _ (by omega), HM.out]
            have fz : w2.frozen? ⟨w.heap.size + 1, 1, none⟩ = false := frozen_of_row _ _ _ _ _ HR2.out.2.1
            have HR3 : Hid (Rc w ((xs.take (k + 1)).filter (ownB till)) (w2.drew.setCell ⟨w.heap.size + 1, 1, none⟩ (.int .i64 ((m : Int) + 1)))) := by
              rw [HF.out]
              have hd : Rc w ((xs.take k).filter (ownB till)) w2.drew := ⟨HR2.out.1, HR2.out.2.1, HR2.out.2.2.drew⟩
              exact rc_set hd HOC.out (by omega) HM.out
            go_region
            all_goals go_wp2
            all_goals go_roundw
            all_goals first | exact ⟨k + 1, by omega, by go_num, HR3⟩ | (simp [intOf]; omega)
          · obtain ⟨m, hm⟩ : ∃ m, cnt ((xs.take k).filter (ownB till)) ((2 : Nat) : Int) = m := ⟨_, rfl⟩
            have hml := hcl2 ((2 : Nat) : Int)
            rw [hm] at hml
            have HM := hide hm
            clear hm hcl2
            replace a16 : A[16]? = some (.int .i64 2) := a16
            go_upto_region 7 with (
              first
              | ((with_reducible show wpList _ _ _ (⟨_, .load 82 (.tmp 16), _, _, _, _⟩ :: _) _ _); refine lp_load b (o + k * 22) A rfl HL1.out ?_)
              | ((with_reducible show wpList _ _ _ (⟨_, .load 82 (.tmp 7), _, _, _, _⟩ :: _) _ _); refine lp_load wr.heap.size 0 A rfl HL2.out ?_)
              | ((with_reducible show wpList _ _ _ (⟨_, .store 82 (.tmp 7) _, _, _, _, _⟩ :: _) _ _); refine lp_store (t := 82) (x := .tmp 7) (some ⟨wr.heap.size, 0, none⟩) (.agg A) rfl rfl (run_storeAt_new wr _ _ A (by rw [HZ.out]; exact Try.sizeE) (by rw [HZ.out]; rfl) HO.out) ?_)
              | (go_at_call 31; refine HOw.out.mono ?_; rintro e w2 ⟨rfl, hb2⟩; have HB2 : Hid (Below wr.heap.size wr w2) := HBa.out.trans (hb2.mono (by simp)); have hbk : w2.heap[wr.heap.size]? = some (.cells A 82 (0, 0)) := (hb2.block _ (by simp)).trans (heap_alloc_new _ _); have c16 : w2.cell? ⟨wr.heap.size, 16, none⟩ = some (.int .i64 2) := (by rw [cell_of_row _ _ _ _ _ _ hbk, a16]); have HR2 := hide (HI.out.below HB2.out); clear hb2 hbk)
              | fail)
            have d : w2.cell? ⟨w.heap.size + 1, 2, none⟩ = some (.int .i64 m) := by rw [cell_of_row _ _ _ _ _ _ HR2.out.2.1, cntV_cell _ (by omega), HM.out]
            have fz : w2.frozen? ⟨w.heap.size + 1, 2, none⟩ = false := frozen_of_row _ _ _ _ _ HR2.out.2.1
            have HR3 : Hid (Rc w ((xs.take (k + 1)).filter (ownB till)) (w2.drew.setCell ⟨w.heap.size + 1, 2, none⟩ (.int .i64 ((m : Int) + 1)))) := by
              rw [HF.out]
              have hd : Rc w ((xs.take k).filter (ownB till)) w2.drew := ⟨HR2.out.1, HR2.out.2.1, HR2.out.2.2.drew⟩
              exact rc_set hd HOC.out (by omega) HM.out
            go_region
            all_goals go_wp2
            all_goals go_roundw
            all_goals first | exact ⟨k + 1, by omega, by go_num, HR3⟩ | (simp [intOf]; omega)
          · obtain ⟨m, hm⟩ : ∃ m, cnt ((xs.take k).filter (ownB till)) ((3 : Nat) : Int) = m := ⟨_, rfl⟩
            have hml := hcl2 ((3 : Nat) : Int)
            rw [hm] at hml
            have HM := hide hm
            clear hm hcl2
            replace a16 : A[16]? = some (.int .i64 3) := a16
            go_upto_region 7 with (
              first
              | ((with_reducible show wpList _ _ _ (⟨_, .load 82 (.tmp 16), _, _, _, _⟩ :: _) _ _); refine lp_load b (o + k * 22) A rfl HL1.out ?_)
              | ((with_reducible show wpList _ _ _ (⟨_, .load 82 (.tmp 7), _, _, _, _⟩ :: _) _ _); refine lp_load wr.heap.size 0 A rfl HL2.out ?_)
              | ((with_reducible show wpList _ _ _ (⟨_, .store 82 (.tmp 7) _, _, _, _, _⟩ :: _) _ _); refine lp_store (t := 82) (x := .tmp 7) (some ⟨wr.heap.size, 0, none⟩) (.agg A) rfl rfl (run_storeAt_new wr _ _ A (by rw [HZ.out]; exact Try.sizeE) (by rw [HZ.out]; rfl) HO.out) ?_)
              | (go_at_call 31; refine HOw.out.mono ?_; rintro e w2 ⟨rfl, hb2⟩; have HB2 : Hid (Below wr.heap.size wr w2) := HBa.out.trans (hb2.mono (by simp)); have hbk : w2.heap[wr.heap.size]? = some (.cells A 82 (0, 0)) := (hb2.block _ (by simp)).trans (heap_alloc_new _ _); have c16 : w2.cell? ⟨wr.heap.size, 16, none⟩ = some (.int .i64 3) := (by rw [cell_of_row _ _ _ _ _ _ hbk, a16]); have HR2 := hide (HI.out.below HB2.out); clear hb2 hbk)
              | fail)
            have d : w2.cell? ⟨w.heap.size + 1, 3, none⟩ = some (.int .i64 m) := by rw [cell_of_row _ _ _ _ _ _ HR2.out.2.1, cntV_cell _ (by omega), HM.out]
            have fz : w2.frozen? ⟨w.heap.size + 1, 3, none⟩ = false := frozen_of_row _ _ _ _ _ HR2.out.2.1
            have HR3 : Hid (Rc w ((xs.take (k + 1)).filter (ownB till)) (w2.drew.setCell ⟨w.heap.size + 1, 3, none⟩ (.int .i64 ((m : Int) + 1)))) := by
              rw [HF.out]
              have hd : Rc w ((xs.take k).filter (ownB till)) w2.drew := ⟨HR2.out.1, HR2.out.2.1, HR2.out.2.2.drew⟩
              exact rc_set hd HOC.out (by omega) HM.out
            go_region
            all_goals go_wp2
            all_goals go_roundw
            all_goals first | exact ⟨k + 1, by omega, by go_num, HR3⟩ | (simp [intOf]; omega)
          · obtain ⟨m, hm⟩ : ∃ m, cnt ((xs.take k).filter (ownB till)) ((4 : Nat) : Int) = m := ⟨_, rfl⟩
            have hml := hcl2 ((4 : Nat) : Int)
            rw [hm] at hml
            have HM := hide hm
            clear hm hcl2
            replace a16 : A[16]? = some (.int .i64 4) := a16
            go_upto_region 7 with (
              first
              | ((with_reducible show wpList _ _ _ (⟨_, .load 82 (.tmp 16), _, _, _, _⟩ :: _) _ _); refine lp_load b (o + k * 22) A rfl HL1.out ?_)
              | ((with_reducible show wpList _ _ _ (⟨_, .load 82 (.tmp 7), _, _, _, _⟩ :: _) _ _); refine lp_load wr.heap.size 0 A rfl HL2.out ?_)
              | ((with_reducible show wpList _ _ _ (⟨_, .store 82 (.tmp 7) _, _, _, _, _⟩ :: _) _ _); refine lp_store (t := 82) (x := .tmp 7) (some ⟨wr.heap.size, 0, none⟩) (.agg A) rfl rfl (run_storeAt_new wr _ _ A (by rw [HZ.out]; exact Try.sizeE) (by rw [HZ.out]; rfl) HO.out) ?_)
              | (go_at_call 31; refine HOw.out.mono ?_; rintro e w2 ⟨rfl, hb2⟩; have HB2 : Hid (Below wr.heap.size wr w2) := HBa.out.trans (hb2.mono (by simp)); have hbk : w2.heap[wr.heap.size]? = some (.cells A 82 (0, 0)) := (hb2.block _ (by simp)).trans (heap_alloc_new _ _); have c16 : w2.cell? ⟨wr.heap.size, 16, none⟩ = some (.int .i64 4) := (by rw [cell_of_row _ _ _ _ _ _ hbk, a16]); have HR2 := hide (HI.out.below HB2.out); clear hb2 hbk)
              | fail)
            have d : w2.cell? ⟨w.heap.size + 1, 4, none⟩ = some (.int .i64 m) := by rw [cell_of_row _ _ _ _ _ _ HR2.out.2.1, cntV_cell _ (by omega), HM.out]
            have fz : w2.frozen? ⟨w.heap.size + 1, 4, none⟩ = false := frozen_of_row _ _ _ _ _ HR2.out.2.1
            have HR3 : Hid (Rc w ((xs.take (k + 1)).filter (ownB till)) (w2.drew.setCell ⟨w.heap.size + 1, 4, none⟩ (.int .i64 ((m : Int) + 1)))) := by
              rw [HF.out]
              have hd : Rc w ((xs.take k).filter (ownB till)) w2.drew := ⟨HR2.out.1, HR2.out.2.1, HR2.out.2.2.drew⟩
              exact rc_set hd HOC.out (by omega) HM.out
            go_region
            all_goals go_wp2
            all_goals go_roundw
            all_goals first | exact ⟨k + 1, by omega, by go_num, HR3⟩ | (simp [intOf]; omega)
          · obtain ⟨m, hm⟩ : ∃ m, cnt ((xs.take k).filter (ownB till)) ((5 : Nat) : Int) = m := ⟨_, rfl⟩
            have hml := hcl2 ((5 : Nat) : Int)
            rw [hm] at hml
            have HM := hide hm
            clear hm hcl2
            replace a16 : A[16]? = some (.int .i64 5) := a16
            go_upto_region 7 with (
              first
              | ((with_reducible show wpList _ _ _ (⟨_, .load 82 (.tmp 16), _, _, _, _⟩ :: _) _ _); refine lp_load b (o + k * 22) A rfl HL1.out ?_)
              | ((with_reducible show wpList _ _ _ (⟨_, .load 82 (.tmp 7), _, _, _, _⟩ :: _) _ _); refine lp_load wr.heap.size 0 A rfl HL2.out ?_)
              | ((with_reducible show wpList _ _ _ (⟨_, .store 82 (.tmp 7) _, _, _, _, _⟩ :: _) _ _); refine lp_store (t := 82) (x := .tmp 7) (some ⟨wr.heap.size, 0, none⟩) (.agg A) rfl rfl (run_storeAt_new wr _ _ A (by rw [HZ.out]; exact Try.sizeE) (by rw [HZ.out]; rfl) HO.out) ?_)
              | (go_at_call 31; refine HOw.out.mono ?_; rintro e w2 ⟨rfl, hb2⟩; have HB2 : Hid (Below wr.heap.size wr w2) := HBa.out.trans (hb2.mono (by simp)); have hbk : w2.heap[wr.heap.size]? = some (.cells A 82 (0, 0)) := (hb2.block _ (by simp)).trans (heap_alloc_new _ _); have c16 : w2.cell? ⟨wr.heap.size, 16, none⟩ = some (.int .i64 5) := (by rw [cell_of_row _ _ _ _ _ _ hbk, a16]); have HR2 := hide (HI.out.below HB2.out); clear hb2 hbk)
              | fail)
            have d : w2.cell? ⟨w.heap.size + 1, 5, none⟩ = some (.int .i64 m) := by rw [cell_of_row _ _ _ _ _ _ HR2.out.2.1, cntV_cell _ (by omega), HM.out]
            have fz : w2.frozen? ⟨w.heap.size + 1, 5, none⟩ = false := frozen_of_row _ _ _ _ _ HR2.out.2.1
            have HR3 : Hid (Rc w ((xs.take (k + 1)).filter (ownB till)) (w2.drew.setCell ⟨w.heap.size + 1, 5, none⟩ (.int .i64 ((m : Int) + 1)))) := by
              rw [HF.out]
              have hd : Rc w ((xs.take k).filter (ownB till)) w2.drew := ⟨HR2.out.1, HR2.out.2.1, HR2.out.2.2.drew⟩
              exact rc_set hd HOC.out (by omega) HM.out
            go_region
            all_goals go_wp2
            all_goals go_roundw
            all_goals first | exact ⟨k + 1, by omega, by go_num, HR3⟩ | (simp [intOf]; omega)
        · have HR3 : ∀ W, Below wr.heap.size wr W → Rc w ((xs.take (k + 1)).filter (ownB till)) W := fun W hW => by
            rw [HF.out]
            exact rc_same (HI.out.below hW) (by rw [HOC.out]; exact hin)
          have H3 := hide HR3
          clear HR3 hcl2
          by_cases q0 : 0 ≤ oc
          · have q1 : ¬ oc < 6 := fun h => hin ⟨q0, h⟩
            clear hin
            go_wp2_with (
              first
              | ((with_reducible show wpList _ _ _ (⟨_, .load 82 (.tmp 16), _, _, _, _⟩ :: _) _ _); refine lp_load b (o + k * 22) A rfl HL1.out ?_)
              | ((with_reducible show wpList _ _ _ (⟨_, .load 82 (.tmp 7), _, _, _, _⟩ :: _) _ _); refine lp_load wr.heap.size 0 A rfl HL2.out ?_)
              | ((with_reducible show wpList _ _ _ (⟨_, .store 82 (.tmp 7) _, _, _, _, _⟩ :: _) _ _); refine lp_store (t := 82) (x := .tmp 7) (some ⟨wr.heap.size, 0, none⟩) (.agg A) rfl rfl (run_storeAt_new wr _ _ A (by rw [HZ.out]; exact Try.sizeE) (by rw [HZ.out]; rfl) HO.out) ?_)
              | (go_at_call 31; refine HOw.out.mono ?_; rintro e w2 ⟨rfl, hb2⟩; have HB2 : Hid (Below wr.heap.size wr w2) := HBa.out.trans (hb2.mono (by simp)); have hbk : w2.heap[wr.heap.size]? = some (.cells A 82 (0, 0)) := (hb2.block _ (by simp)).trans (heap_alloc_new _ _); have c16 : w2.cell? ⟨wr.heap.size, 16, none⟩ = some (.int .i64 oc) := (by rw [cell_of_row _ _ _ _ _ _ hbk, a16]); clear hb2 hbk))
            go_roundw
            case rel => exact ⟨k + 1, by omega, by go_num, H3.out _ HB2.out⟩
            case measure => simp [intOf]; omega
          · clear hin
            go_wp2_with (
              first
              | ((with_reducible show wpList _ _ _ (⟨_, .load 82 (.tmp 16), _, _, _, _⟩ :: _) _ _); refine lp_load b (o + k * 22) A rfl HL1.out ?_)
              | ((with_reducible show wpList _ _ _ (⟨_, .load 82 (.tmp 7), _, _, _, _⟩ :: _) _ _); refine lp_load wr.heap.size 0 A rfl HL2.out ?_)
              | ((with_reducible show wpList _ _ _ (⟨_, .store 82 (.tmp 7) _, _, _, _, _⟩ :: _) _ _); refine lp_store (t := 82) (x := .tmp 7) (some ⟨wr.heap.size, 0, none⟩) (.agg A) rfl rfl (run_storeAt_new wr _ _ A (by rw [HZ.out]; exact Try.sizeE) (by rw [HZ.out]; rfl) HO.out) ?_)
              | (go_at_call 31; refine HOw.out.mono ?_; rintro e w2 ⟨rfl, hb2⟩; have HB2 : Hid (Below wr.heap.size wr w2) := HBa.out.trans (hb2.mono (by simp)); have hbk : w2.heap[wr.heap.size]? = some (.cells A 82 (0, 0)) := (hb2.block _ (by simp)).trans (heap_alloc_new _ _); have c16 : w2.cell? ⟨wr.heap.size, 16, none⟩ = some (.int .i64 oc) := (by rw [cell_of_row _ _ _ _ _ _ hbk, a16]); clear hb2 hbk))
            go_roundw
            case rel => exact ⟨k + 1, by omega, by go_num, H3.out _ HB2.out⟩
            case measure => simp [intOf]; omega
    · obtain rfl : k = n := by omega
      obtain ⟨C, hC⟩ : ∃ C, cntV (xs.filter (ownB till)) = C := ⟨_, rfl⟩
      have h := HI.out
      rw [List.take_of_length_le (by omega)] at h
      obtain ⟨h1, h2, h3⟩ := h
      rw [hC] at h2
      have hCs : C.size = 6 := by rw [← hC]; rfl
      have hC1 : C.all (·.oneCell') = true := by rw [← hC]; simp [cntV, Value.oneCell']
      have HL := hide (loadAt_row (P := Try.prog) (ty := 66) h2 Try.underlying66 rfl (by rw [hCs]; kernel_rfl))
      have HSt := hide (storeAt_row (P := Try.prog) (c' := C) h1 (by rw [hCs]; kernel_rfl) (by rw [hCs]; rfl) hC1)
      have HR : Hid (Below w.heap.size w (wr.setRow w.heap.size C)) := below_setRow h3 (Nat.le_refl _) C
      have HB := hide (setRow_heap wr w.heap.size _ C _ _ h1)
      have HCe := hide hC
      clear h1 h2 h3 hC
      go_wp2_with (
        first
        | ((with_reducible show wpList _ _ _ (⟨_, .load 66 (.tmp 5), _, _, _, _⟩ :: _) _ _); refine lp_load (w.heap.size + 1) 0 C rfl HL.out ?_)
        | ((with_reducible show wpList _ _ _ (⟨_, .store 66 (.tmp 4) _, _, _, _, _⟩ :: _) _ _); refine lp_store (t := 66) (x := .tmp 4) (some ⟨w.heap.size, 0, none⟩) (.agg C) rfl rfl HSt.out ?_))
      refine bodyPost_ret (results_cell_row rfl _ _ w.heap.size 66 C (0, 0) _ rfl HB.out Try.underlying66 rfl (by rw [hCs]; kernel_rfl)) rfl ?_
      exact ⟨by rw [HCe.out], HR.out⟩
end Go.Proofs.Ytecbidaljchmoaa
