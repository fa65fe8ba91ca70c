import Derived.Test.YtajadmkacnfbgaaGreatRbI
import Derived.Laws.ResultCell
namespace Go.Proofs.YtajadmkacnfbgaaGreat
open Go.RowKit

theorem res_ct {fn : Func} {p u : Tmp} {ty : TypeId} (h : fn.results = #[.cell p ty, .tmp u]) (tmps : Array Value) (w : World) (g : Nat) (cs : Array Value)
    (hp : tmps.getD p undef = .pointer (some ⟨g, 0, none⟩)) (hl : (loadVar ty ⟨g, 0, none⟩).run Tryz.prog w = .ok (.agg cs) w) :
    (results fn tmps).run Tryz.prog w = .ok (.tuple #[.agg cs, tmps.getD u undef]) w := by
  rw [results_cell_tmp h, hp]
  simp [asAddr, hl]
theorem ac4 {w : World} {b : Nat} {x0 x1 x2 x3 : Value} {t : TypeId} (h : w.heap[b]? = some (.cells #[x0, x1, x2, x3] t (0, 0))) :
    w.cell? ⟨b, 0, none⟩ = some x0 ∧ w.cell? ⟨b, 1, none⟩ = some x1 ∧ w.cell? ⟨b, 2, none⟩ = some x2 ∧ w.cell? ⟨b, 3, none⟩ = some x3 :=
  ⟨by simp [World.cell?, h], by simp [World.cell?, h], by simp [World.cell?, h], by simp [World.cell?, h]⟩

set_option maxRecDepth 100000 in
set_option maxHeartbeats 1000000 in
theorem atPool_any (w : World) (P : Nat) (i0 i1 i2 : Int) (s : Option Addr) (l c : Nat) (h : w.heap[P]? = some (.cells #[.int .i64 i0, .int .i64 i1, .int .i64 i2, .slice s l c] 80 (0, 0))) :
    Calls Tryz.prog 119 #[.slice (some ⟨P, 0, none⟩) 1 1, .int .i64 0] w fun e w' => e = .returned (.tuple #[.agg #[.int .i64 i0, .int .i64 i1, .int .i64 i2, .slice s l c], .bool true]) ∧ Below w.heap.size w w' := by
  have hlt := ac_lt h
  obtain ⟨w1, hw1⟩ : ∃ w1, w.alloc (.cells #[.int .i64 0, .int .i64 0, .int .i64 0, .slice none 0 0] 80) = w1 := ⟨_, rfl⟩
  have hB : Below w.heap.size w w1 := by rw [← hw1]; exact (Below.refl _ _).alloc (Nat.le_refl _) _
  have hb : w1.heap[w.heap.size]? = some (.cells #[.int .i64 0, .int .i64 0, .int .i64 0, .slice none 0 0] 80 (0, 0)) := by rw [← hw1]; exact heap_alloc_new _ _
  obtain ⟨c0, c1, c2, c3⟩ := ac4 ((hB.block P hlt).trans h)
  obtain ⟨d0, d1, d2, d3⟩ := ac4 hb
  have cf := RB.bk_thaw hb
  have HB := hide hB
  have HW1 := hide hw1
  have HBb := hide hb
  clear hB hw1 hb h
  go_enter Tryz.func119, Tryz.ntmps119
  go_upto_region 1 with (fail)
  rw [HW1.out]
  go_wp2
  refine bodyPost_ret (res_ct rfl _ _ w.heap.size #[.int .i64 i0, .int .i64 i1, .int .i64 i2, .slice s l c] rfl (run_loadVar_row _ _ 80 _ #[.int .i64 i0, .int .i64 i1, .int .i64 i2, .slice s l c] (0, 0) _ (by rw [RB.block_set (RB.block_set (RB.block_set (RB.block_set HBb.out _) _) _) _]; rfl) Tryz.underlying80 rfl (by kernel_rfl))) rfl ?_
  exact ⟨rfl, (((HB.out.setCell (p := ⟨w.heap.size, 0, none⟩) (Nat.le_refl _) _).setCell (p := ⟨w.heap.size, 1, none⟩) (Nat.le_refl _) _).setCell (p := ⟨w.heap.size, 2, none⟩) (Nat.le_refl _) _).setCell (p := ⟨w.heap.size, 3, none⟩) (Nat.le_refl _) _⟩

set_option maxRecDepth 100000 in
set_option maxHeartbeats 1000000 in
theorem atWays_any (w : World) (P : Nat) (i0 i1 : Int) (h : w.heap[P]? = some (.cells #[.int .i64 i0, .int .i64 i1] 77 (0, 0))) :
    Calls Tryz.prog 121 #[.slice (some ⟨P, 0, none⟩) 1 1, .int .i64 0] w fun e w' => e = .returned (.tuple #[.agg #[.int .i64 i0, .int .i64 i1], .bool true]) ∧ Below w.heap.size w w' := by
  have hlt := ac_lt h
  obtain ⟨w1, hw1⟩ : ∃ w1, w.alloc (.cells #[.int .i64 0, .int .i64 0] 77) = w1 := ⟨_, rfl⟩
  have hB : Below w.heap.size w w1 := by rw [← hw1]; exact (Below.refl _ _).alloc (Nat.le_refl _) _
  have hb : w1.heap[w.heap.size]? = some (.cells #[.int .i64 0, .int .i64 0] 77 (0, 0)) := by rw [← hw1]; exact heap_alloc_new _ _
  obtain ⟨c0, c1⟩ := ac2 ((hB.block P hlt).trans h)
  obtain ⟨d0, d1⟩ := ac2 hb
  have cf := RB.bk_thaw hb
  have HB := hide hB
  have HW1 := hide hw1
  have HBb := hide hb
  clear hB hw1 hb h
  go_enter Tryz.func121, Tryz.ntmps121
  go_upto_region 1 with (fail)
  rw [HW1.out]
  go_wp2
  refine bodyPost_ret (res_ct rfl _ _ w.heap.size #[.int .i64 i0, .int .i64 i1] rfl (run_loadVar_row _ _ 77 _ #[.int .i64 i0, .int .i64 i1] (0, 0) _ (by rw [RB.block_set (RB.block_set HBb.out _) _]; rfl) Tryz.underlying77 rfl (by kernel_rfl))) rfl ?_
  exact ⟨rfl, (HB.out.setCell (p := ⟨w.heap.size, 0, none⟩) (Nat.le_refl _) _).setCell (p := ⟨w.heap.size, 1, none⟩) (Nat.le_refl _) _⟩

set_option maxRecDepth 100000 in
set_option maxHeartbeats 1000000 in
theorem atInt_any (w : World) (P : Nat) (i0 i1 : Int) (h : w.heap[P]? = some (.cells #[.int .i64 i0, .int .i64 i1] 77 (0, 0))) :
    Calls Tryz.prog 120 #[.slice (some ⟨P, 0, none⟩) 2 2, .int .i64 0] w fun e w' => e = .returned (.tuple #[.int .i64 i0, .bool true]) ∧ w' = w := by
  obtain ⟨c0, c1⟩ := ac2 h
  clear h
  go_enter Tryz.func120, Tryz.ntmps120
  go_wp2
  refine bodyPost_ret (v := .tuple #[.int .i64 i0, .bool true]) (by simp [results, Tryz.results120, go_sem]) rfl ?_
  exact ⟨rfl, rfl⟩
end Go.Proofs.YtajadmkacnfbgaaGreat
