import Derived.Test.YtllpikijakilnaaRwK
import Derived.Lib.MinMax
namespace Go.Proofs.Ytllpikijakilnaa
open Go.RowKit

set_option maxRecDepth 100000 in
set_option maxHeartbeats 2000000 in
theorem cutN_any (w : World) (a b : Int) :
    Calls Try.prog 90 #[.int .i64 a, .int .i64 b] w fun e w' => e = .returned (.int .i64 (max (min a (max b 0)) (wrap64 (-(max b 0))))) ∧ w' = w := by
  go_enter Try.func90, Try.ntmps90
  go_upto_region 2 with (fail)
  generalize hq : max b 0 = q
  have HQ := hide hq
  clear hq
  go_wp2
  go_ret
  rw [HQ.out]
  exact ⟨rfl, rfl⟩

set_option maxRecDepth 100000 in
set_option maxHeartbeats 2000000 in
theorem other_any (w : World) (a b : Int) :
    Calls Try.prog 91 #[.agg #[.int .i64 a, .int .i64 b]] w fun e w' => e = .returned (.agg #[.int .i64 a, .int .i64 (wrap64 (1 - b))]) ∧ Below w.heap.size w w' := by
  obtain ⟨w2, hw2, hb2, hx2, hk2⟩ := box_two w #[.int .i64 a, .int .i64 b] 71 71 #[.int .i64 0, .int .i64 0]
  obtain ⟨c0, c1⟩ := ac2 hx2
  have ct := RB.bk_thaw hx2
  obtain ⟨w3, hw3⟩ : ∃ w3, w2.setCell ⟨w.heap.size, 1, none⟩ (.int .i64 (wrap64 (1 - b))) = w3 := ⟨_, rfl⟩
  have hx3 : w3.heap[w.heap.size]? = some (.cells #[.int .i64 a, .int .i64 (wrap64 (1 - b))] 71 (0, 0)) := by rw [← hw3]; exact RB.block_set hx2 _
  have hk3 : w3.heap[w.heap.size + 1]? = some (.cells #[.int .i64 0, .int .i64 0] 71 (0, 0)) := by rw [← hw3]; exact (Below.heap_setCell _ _ _ _ (by show w.heap.size + 1 ≠ w.heap.size; omega)).trans hk2
  have HB3 : Hid (Below w.heap.size w w3) := by show Below _ _ _; rw [← hw3]; exact hb2.setCell (p := ⟨w.heap.size, 1, none⟩) (Nat.le_refl _) _
  have HX3 := hide hx3
  have HK3 := hide hk3
  have HW2 := hide hw2
  have HW3 := hide hw3
  clear hw2 hb2 hx2 hk2 hw3 hx3 hk3
  go_enter Try.func91, Try.ntmps91
  go_upto_region 1 with (fail)
  rw [HW2.out]
  go_upto_region 2 with (fail)
  rw [HW3.out]
  clear c0 c1 ct
  obtain ⟨c0, c1⟩ := ac2 HX3.out
  obtain ⟨d0, d1⟩ := ac2 HK3.out
  have ct := RB.bk_thaw HK3.out
  go_wp2
  refine bodyPost_ret (results_cell_row rfl _ _ (w.heap.size + 1) 71 #[.int .i64 a, .int .i64 (wrap64 (1 - b))] (0, 0) _ rfl (by rw [RB.block_set (RB.block_set HK3.out _) _]; rfl) Try.underlying71 rfl (by kernel_rfl)) rfl ?_
  exact ⟨rfl, (HB3.out.setCell (p := ⟨w.heap.size + 1, 0, none⟩) (by show w.heap.size ≤ w.heap.size + 1; omega) _).setCell (p := ⟨w.heap.size + 1, 1, none⟩) (by show w.heap.size ≤ w.heap.size + 1; omega) _⟩

set_option maxRecDepth 100000 in
set_option maxHeartbeats 2000000 in
theorem kline_any (w : World) (a b n : Int) :
    Calls Try.prog 92 #[.agg #[.int .i64 a, .int .i64 b], .int .i64 n] w fun e w' => e = .returned (.agg #[.int .i64 a, .int .i64 (if b = 0 then wrap64 (-n) else n)]) ∧ Below w.heap.size w w' := by
  obtain ⟨w2, hw2, hb2, hx2, hk2⟩ := box_two w #[.int .i64 a, .int .i64 b] 71 109 #[.int .i64 0, .int .i64 0]
  obtain ⟨c0, c1⟩ := ac2 hx2
  obtain ⟨d0, d1⟩ := ac2 hk2
  have ct := RB.bk_thaw hk2
  have HB2 := hide hb2
  have HK2 := hide hk2
  have HW2 := hide hw2
  clear hw2 hb2 hx2 hk2
  by_cases hb : b = 0
  · subst hb
    rw [if_pos rfl]
    go_enter Try.func92, Try.ntmps92
    go_upto_region 1 with (fail)
    rw [HW2.out]
    go_wp2
    refine bodyPost_ret (results_cell_row rfl _ _ (w.heap.size + 1) 109 #[.int .i64 a, .int .i64 (wrap64 (-n))] (0, 0) _ rfl (by rw [RB.block_set (RB.block_set HK2.out _) _]; rfl) Try.underlying109 rfl (by kernel_rfl)) rfl ?_
    exact ⟨rfl, (HB2.out.setCell (p := ⟨w.heap.size + 1, 0, none⟩) (by show w.heap.size ≤ w.heap.size + 1; omega) _).setCell (p := ⟨w.heap.size + 1, 1, none⟩) (by show w.heap.size ≤ w.heap.size + 1; omega) _⟩
  · rw [if_neg hb]
    go_enter Try.func92, Try.ntmps92
    go_upto_region 1 with (fail)
    rw [HW2.out]
    go_wp2
    refine bodyPost_ret (results_cell_row rfl _ _ (w.heap.size + 1) 109 #[.int .i64 a, .int .i64 n] (0, 0) _ rfl (by rw [RB.block_set (RB.block_set HK2.out _) _]; rfl) Try.underlying109 rfl (by kernel_rfl)) rfl ?_
    exact ⟨rfl, (HB2.out.setCell (p := ⟨w.heap.size + 1, 0, none⟩) (by show w.heap.size ≤ w.heap.size + 1; omega) _).setCell (p := ⟨w.heap.size + 1, 1, none⟩) (by show w.heap.size ≤ w.heap.size + 1; omega) _⟩
end Go.Proofs.Ytllpikijakilnaa
