import Derived.Test.YtecbidaljchmoaaRpL
import Derived.Deep.Cut
namespace Go.Proofs.Ytecbidaljchmoaa
open Go.RowKit

theorem sumsT_same (k : Nat) (ls : List Lin) (x : Lin) (h : ¬ (0 ≤ x.c ∧ x.c < (k : Int))) : sumsT k (ls ++ [x]) = sumsT k ls := by
  unfold sumsT
  refine List.map_congr_left fun i hi => ?_
  rw [List.mem_range] at hi
  rw [sumL_snoc, if_neg (by omega)]
theorem sumsT_set (k : Nat) (ls : List Lin) (x : Lin) {j : Nat} (hj : x.c = (j : Int)) : sumsT k (ls ++ [x]) = (sumsT k ls).set j (wrap64 (sumL ls j + x.n)) := by
  apply List.ext_getElem?
  intro i
  by_cases hi : i < k
  · rw [sumsT_get k _ hi, List.getElem?_set]
    rw [sumL_snoc, hj]
    by_cases e : j = i
    · subst e
      rw [if_pos rfl, if_pos rfl, if_pos (by rw [sumsT_len]; exact hi)]
    · rw [if_neg (by omega), if_neg e, sumsT_get k _ hi]
  · rw [List.getElem?_eq_none (by rw [sumsT_len]; omega), List.getElem?_eq_none (by rw [List.length_set, sumsT_len]; omega)]
theorem linesP_snoc (es : List Eda) (e : Eda) : linesP (es ++ [e]) = linesP es ++ e.made.xs := by simp [linesP]
/-- Between two lines. -/
def Sm (w : World) (k : Nat) (ls : List Lin) (W : World) : Prop := W.heap[w.heap.size + 1]? = some (.cells (cellsI (sumsT k ls)) 2 (0, 0)) ∧ Below w.heap.size w W
theorem sumsT_nil (k : Nat) : sumsT k [] = List.replicate k 0 := by
  apply List.ext_getElem?
  intro i
  by_cases hi : i < k
  · rw [sumsT_get k _ hi, List.getElem?_replicate_of_lt hi]; rfl
  · rw [List.getElem?_eq_none (by rw [sumsT_len]; omega), List.getElem?_eq_none (by simp; omega)]
theorem sm_set {w W : World} {k : Nat} {ls : List Lin} {x : Lin} {j : Nat} (h : Sm w k ls W) (hj : x.c = (j : Int)) : Sm w k (ls ++ [x]) (W.setCell ⟨w.heap.size + 1, j, none⟩ (.int .i64 (wrap64 (sumL ls j + x.n)))) := by
  refine ⟨?_, h.2.setCell (p := ⟨w.heap.size + 1, j, none⟩) (Nat.le_succ _) _⟩
  rw [heap_setCell_same _ _ _ _ _ _ h.1, cellsI_set, sumsT_set k ls x hj]

set_option maxRecDepth 100000 in
set_option maxHeartbeats 8000000 in
theorem rsums_any (w : World) (c : Cfg) (s : Sli Eda) (hc : c.cl ≤ 64) (hs : Ents w s) :
    Calls Try.prog 20 #[c.v, .slice s.p s.n s.c] w fun e w' => ∃ g, e = .returned (.slice (some ⟨g, 0, none⟩) c.cl c.cl) ∧ w'.ownsRow w.heap.size 2 1 (.slice (some ⟨g, 0, none⟩) c.cl c.cl) c.cl (flat i64c (sumsT c.cl (linesP s.xs))) ∧ Below w.heap.size w w' := by
  obtain ⟨p, n, cp, xs⟩ := s
  have hlen : xs.length = n := hs.row.len
  have hmost : n ≤ 4194304 := hs.row.most
  have HC := hide hs.row.cel
  have HE := hide hs.each
  clear hs
  simp only at HC HE ⊢
  have hmk := run_make_row' (P := Try.prog) 23 2 (.int .i64 0) 8 Try.underlying23 (by kernel_rfl) rfl .i64 .i64 c.cl (by omega) (by omega)
  rw [made_cells] at hmk
  unfold Cfg.v
  have H0 : Hid (Sm w c.cl (linesP (xs.take 0)) ((w.alloc (.cells #[.int .i64 c.tills, .slice c.cp c.cl c.cc, .slice c.pp c.pl c.pc, .int .i64 c.lease, .int .i64 c.watch, .int .i64 c.beat, .int .i64 c.window, .int .i64 c.cap, .int .i64 c.flight] 34)).alloc (.cells (cellsI (List.replicate c.cl 0)) 2))) := by
    refine ⟨?_, ((Below.refl _ w).alloc (Nat.le_refl _) _).alloc (by simp) _⟩
    have e : linesP (xs.take 0) = [] := rfl
    rw [e, sumsT_nil]
    exact heap_alloc2_new _ _ _
  go_enter Try.func20, Try.ntmps20
  go_wp2
  clear hmk
  go_loopw [6] (fun i wr => ∃ k : Nat, k ≤ n ∧ i = .int .i64 k ∧ Hid (Sm w c.cl (linesP (xs.take k)) wr)) (fun i _ => n - (intOf i).toNat)
  case atStart => exact ⟨0, Nat.zero_le _, rfl, H0⟩
  case round =>
    clear H0
    obtain ⟨k, hk, rfl, HI⟩ := hrel
    by_cases hlt : k < n
    · obtain ⟨x, hx⟩ : ∃ x, xs[k]? = some x := ⟨_, List.getElem?_eq_getElem (by omega)⟩
      have hlt' : (k : Int) < (n : Int) := by omega
      obtain ⟨b, o, e, hb, hcl⟩ := HC.out.get (i := k) (r := x.list) (by simp [hx])
      subst e
      have c17 : wr.cell? ⟨b, o + k * 22 + 17, none⟩ = some (.slice x.made.p x.made.n x.made.c) := (HI.out.2.cell (p := ⟨b, o + k * 22 + 17, none⟩) hb).trans (hcl 17 _ rfl)
      have hok := (HE.out x (List.mem_of_getElem? hx)).made
      have HT : Hid (linesP (xs.take (k + 1)) = linesP (xs.take k) ++ x.made.xs) := by show _ = _; rw [take_snoc hx, linesP_snoc]
      obtain ⟨mp, m, mc, ys, hsl⟩ : ∃ p m c ys, x.made = ⟨p, m, c, ys⟩ := ⟨_, _, _, _, rfl⟩
      rw [hsl] at c17 hok HT
      simp only at c17 HT
      have hyl : ys.length = m := hok.len
      have hym : m ≤ 4194304 := hok.most
      have HCy := hide hok.cel
      simp only at HCy
      obtain ⟨L, hL⟩ : ∃ L, linesP (xs.take k) = L := ⟨_, rfl⟩
      rw [hL] at HI HT
      have HI0 : Hid (Sm w c.cl (L ++ ys.take 0) wr) := by show Sm _ _ _ _; simpa using HI.out
      clear hcl hx hok hsl hL HI
      go_wp2
      go_loopw [8] (fun i wr => ∃ q : Nat, q ≤ m ∧ i = .int .i64 q ∧ Hid (Sm w c.cl (L ++ ys.take q) wr)) (fun i _ => m - (intOf i).toNat)
      case atStart => exact ⟨0, Nat.zero_le _, rfl, HI0⟩
      case round =>
        clear HI0 c17
        obtain ⟨q, hq, rfl, HQ⟩ := hrel
        by_cases hqm : q < m
        · obtain ⟨y, hy⟩ : ∃ y, ys[q]? = some y := ⟨_, List.getElem?_eq_getElem (by omega)⟩
          have hqm' : (q : Int) < (m : Int) := by omega
          obtain ⟨b2, o2, e, hb2, hcl2⟩ := HCy.out.get (i := q) (r := linc y) (by simp [hy])
          subst e
          have c0 : wr.cell? ⟨b2, o2 + q * 2, none⟩ = some (.int .i64 y.c) := (HQ.out.2.cell (p := ⟨b2, o2 + q * 2, none⟩) hb2).trans (hcl2 0 _ rfl)
          have c1 : wr.cell? ⟨b2, o2 + q * 2 + 1, none⟩ = some (.int .i64 y.n) := (HQ.out.2.cell (p := ⟨b2, o2 + q * 2 + 1, none⟩) hb2).trans (hcl2 1 _ rfl)
          have HTq : Hid (L ++ ys.take (q + 1) = (L ++ ys.take q) ++ [y]) := by show _ = _; rw [take_snoc hy, List.append_assoc]
          obtain ⟨M, hM⟩ : ∃ M, L ++ ys.take q = M := ⟨_, rfl⟩
          rw [hM] at HQ HTq
          obtain ⟨yc, yn⟩ := y
          simp only at c0 c1
          clear hcl2 hy hM
          by_cases h0 : 0 ≤ yc
          · by_cases h1 : yc < (c.cl : Int)
            · obtain ⟨j, rfl⟩ : ∃ j : Nat, yc = (j : Int) := ⟨yc.toNat, by omega⟩
              have hj : j < c.cl := by omega
              have hgb : wr.heap[w.heap.size + 1]? = some (.cells (cellsI (sumsT c.cl M)) 2 (0, 0)) := HQ.out.1
              have d : wr.cell? ⟨w.heap.size + 1, j, none⟩ = some (.int .i64 (sumL M (j : Int))) := by rw [cell_of_row _ _ _ _ _ _ hgb]; exact cellsI_get _ (sumsT_get _ _ hj)
              have fz : wr.frozen? ⟨w.heap.size + 1, j, none⟩ = false := frozen_of_row _ _ _ _ _ hgb
              have HR : Hid (Sm w c.cl (L ++ ys.take (q + 1)) (wr.drew.setCell ⟨w.heap.size + 1, j, none⟩ (.int .i64 (wrap64 (sumL M (j : Int) + yn))))) := by
                rw [HTq.out]
                exact sm_set (x := ⟨(j : Int), yn⟩) ⟨HQ.out.1, HQ.out.2.drew⟩ rfl
              clear hgb
              go_upto_region 10 with (fail)
              go_region
              all_goals go_wp2
              all_goals go_roundw
              all_goals first | exact ⟨q + 1, by omega, by go_num, HR⟩ | (simp [intOf]; omega)
            · have HR : Hid (Sm w c.cl (L ++ ys.take (q + 1)) wr) := by
                show Sm _ _ _ _
                rw [HTq.out]
                exact ⟨by rw [sumsT_same _ _ _ (by simp; omega)]; exact HQ.out.1, HQ.out.2⟩
              go_wp2
              go_roundw
              case rel => exact ⟨q + 1, by omega, by go_num, HR⟩
              case measure => simp [intOf]; omega
          · have HR : Hid (Sm w c.cl (L ++ ys.take (q + 1)) wr) := by
              show Sm _ _ _ _
              rw [HTq.out]
              exact ⟨by rw [sumsT_same _ _ _ (by simp; omega)]; exact HQ.out.1, HQ.out.2⟩
            go_wp2
            go_roundw
            case rel => exact ⟨q + 1, by omega, by go_num, HR⟩
            case measure => simp [intOf]; omega
        · obtain rfl : q = m := by omega
          have HR : Hid (Sm w c.cl (linesP (xs.take (k + 1))) wr) := by
            show Sm _ _ _ _
            rw [HT.out]
            have h := HQ.out
            rw [List.take_of_length_le (by omega)] at h
            exact h
          go_wp2
          go_roundw
          case rel => exact ⟨k + 1, by omega, by go_num, HR⟩
          case measure => simp [intOf]; omega
    · obtain rfl : k = n := by omega
      have h := HI.out
      rw [List.take_of_length_le (by omega)] at h
      have h2 := row_of_cells h.1 (Nat.le_succ _) (by rw [sumsT_len]; omega)
      rw [sumsT_len] at h2
      have HE2 := hide (And.intro h2 h.2)
      clear h h2
      go_wp2
      go_ret
      exact ⟨w.heap.size + 1, rfl, HE2.out.1, HE2.out.2⟩
end Go.Proofs.Ytecbidaljchmoaa
