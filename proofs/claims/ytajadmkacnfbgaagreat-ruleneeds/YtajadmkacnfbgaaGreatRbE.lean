import Derived.Test.YtajadmkacnfbgaaGreatRbA
namespace Go.Proofs.YtajadmkacnfbgaaGreat.RB
open Go.RowKit Go.Proofs.YtajadmkacnfbgaaGreat

set_option maxRecDepth 100000 in
set_option maxHeartbeats 1000000 in
theorem bk_plain (w : World) (b : Nat) (L M : Value) (A turn done used : Int) (h : w.heap[b]? = some (.cells (bkCells L M A turn done used) 45 (0, 0))) :
    Calls Tryz.prog 32 #[.pointer (some ⟨b, 0, none⟩)] w fun e w' => e = .returned (.bool true) ∧ w' = w := by
  have c0 := bk_cell h 0 (.slice none 0 0) rfl
  have c3 := bk_cell h 3 (.slice none 0 0) rfl
  clear h
  go_enter Tryz.func32, Tryz.ntmps32
  go_wp2
  refine wp_loop_rounds 1 ?_
  rw [rounds_succ]
  go_wp2
  refine wp_loop_rounds 1 ?_
  rw [rounds_succ]
  go_wp2
  go_ret
  exact ⟨rfl, rfl⟩

set_option maxRecDepth 100000 in
set_option maxHeartbeats 1000000 in
theorem bk_kept (w : World) (b : Nat) (L M : Value) (A turn done used : Int) (h : w.heap[b]? = some (.cells (bkCells L M A turn done used) 45 (0, 0))) :
    Calls Tryz.prog 33 #[.pointer (some ⟨b, 0, none⟩)] w fun e w' => e = .returned (.bool true) ∧ w' = w := by
  have c6 := bk_cell h 6 (.slice none 0 0) rfl
  have c9 := bk_cell h 9 (.slice none 0 0) rfl
  have c12 := bk_cell h 12 (.slice none 0 0) rfl
  have c15 := bk_cell h 15 (.slice none 0 0) rfl
  clear h
  go_enter Tryz.func33, Tryz.ntmps33
  go_wp2
  refine wp_loop_rounds 1 ?_
  rw [rounds_succ]
  go_wp2
  refine wp_loop_rounds 1 ?_
  rw [rounds_succ]
  go_wp2
  refine wp_loop_rounds 1 ?_
  rw [rounds_succ]
  go_wp2
  refine wp_loop_rounds 1 ?_
  rw [rounds_succ]
  go_wp2
  go_ret
  exact ⟨rfl, rfl⟩

set_option maxRecDepth 100000 in
set_option maxHeartbeats 1000000 in
theorem bk_held (w : World) (b : Nat) (L M : Value) (A turn done used : Int) (h : w.heap[b]? = some (.cells (bkCells L M A turn done used) 45 (0, 0))) :
    Calls Tryz.prog 35 #[.pointer (some ⟨b, 0, none⟩)] w fun e w' => e = .returned (.bool true) ∧ w' = w := by
  have c30 := bk_cell h 30 (.slice none 0 0) rfl
  have c33 := bk_cell h 33 (.slice none 0 0) rfl
  have c36 := bk_cell h 36 (.slice none 0 0) rfl
  have c39 := bk_cell h 39 (.slice none 0 0) rfl
  clear h
  go_enter Tryz.func35, Tryz.ntmps35
  go_wp2
  refine wp_loop_rounds 1 ?_
  rw [rounds_succ]
  go_wp2
  refine wp_loop_rounds 1 ?_
  rw [rounds_succ]
  go_wp2
  refine wp_loop_rounds 1 ?_
  rw [rounds_succ]
  go_wp2
  refine wp_loop_rounds 1 ?_
  rw [rounds_succ]
  go_wp2
  go_ret
  exact ⟨rfl, rfl⟩

set_option maxRecDepth 100000 in
set_option maxHeartbeats 1000000 in
theorem bk_sent (w : World) (b : Nat) (L M : Value) (A turn done used : Int) (h : w.heap[b]? = some (.cells (bkCells L M A turn done used) 45 (0, 0))) :
    Calls Tryz.prog 36 #[.pointer (some ⟨b, 0, none⟩)] w fun e w' => e = .returned (.bool true) ∧ w' = w := by
  have c42 := bk_cell h 42 (.slice none 0 0) rfl
  have c45 := bk_cell h 45 (.slice none 0 0) rfl
  have c48 := bk_cell h 48 (.slice none 0 0) rfl
  have c51 := bk_cell h 51 (.slice none 0 0) rfl
  clear h
  go_enter Tryz.func36, Tryz.ntmps36
  go_wp2
  refine wp_loop_rounds 1 ?_
  rw [rounds_succ]
  go_wp2
  refine wp_loop_rounds 1 ?_
  rw [rounds_succ]
  go_wp2
  refine wp_loop_rounds 1 ?_
  rw [rounds_succ]
  go_wp2
  refine wp_loop_rounds 1 ?_
  rw [rounds_succ]
  go_wp2
  go_ret
  exact ⟨rfl, rfl⟩

set_option maxRecDepth 100000 in
set_option maxHeartbeats 1000000 in
theorem bk_growBytes (w : World) (b : Nat) (L M : Value) (A turn done used : Int) (h : w.heap[b]? = some (.cells (bkCells L M A turn done used) 45 (0, 0))) :
    Calls Tryz.prog 37 #[.pointer (some ⟨b, 0, none⟩)] w fun e w' => e = .returned (.tuple #[]) ∧ w' = w := by
  have c0 := bk_cell h 0 (.slice none 0 0) rfl
  have c2 := bk_cell h 2 (.int .i64 0) rfl
  have cf := bk_thaw h
  have HS := hide (set_cell_same (j := 2) (v := .int .i64 0) h rfl)
  clear h
  go_enter Tryz.func37, Tryz.ntmps37
  go_wp2
  refine wp_loop_rounds 1 ?_
  rw [rounds_succ]
  go_wp2
  go_end0
  exact ⟨rfl, HS.out⟩

set_option maxRecDepth 100000 in
set_option maxHeartbeats 1000000 in
theorem bk_growRows (w : World) (b : Nat) (L M : Value) (A turn done used : Int) (h : w.heap[b]? = some (.cells (bkCells L M A turn done used) 45 (0, 0))) :
    Calls Tryz.prog 38 #[.pointer (some ⟨b, 0, none⟩)] w fun e w' => e = .returned (.tuple #[]) ∧ w' = w := by
  have c0 := bk_cell h 3 (.slice none 0 0) rfl
  have c2 := bk_cell h 5 (.int .i64 0) rfl
  have cf := bk_thaw h
  have HS := hide (set_cell_same (j := 5) (v := .int .i64 0) h rfl)
  clear h
  go_enter Tryz.func38, Tryz.ntmps38
  go_wp2
  refine wp_loop_rounds 1 ?_
  rw [rounds_succ]
  go_wp2
  go_end0
  exact ⟨rfl, HS.out⟩

set_option maxRecDepth 100000 in
set_option maxHeartbeats 1000000 in
theorem bk_growTexts (w : World) (b : Nat) (L M : Value) (A turn done used : Int) (h : w.heap[b]? = some (.cells (bkCells L M A turn done used) 45 (0, 0))) :
    Calls Tryz.prog 39 #[.pointer (some ⟨b, 0, none⟩)] w fun e w' => e = .returned (.tuple #[]) ∧ w' = w := by
  have c0 := bk_cell h 6 (.slice none 0 0) rfl
  have c2 := bk_cell h 8 (.int .i64 0) rfl
  have cf := bk_thaw h
  have HS := hide (set_cell_same (j := 8) (v := .int .i64 0) h rfl)
  clear h
  go_enter Tryz.func39, Tryz.ntmps39
  go_wp2
  refine wp_loop_rounds 1 ?_
  rw [rounds_succ]
  go_wp2
  go_end0
  exact ⟨rfl, HS.out⟩

set_option maxRecDepth 100000 in
set_option maxHeartbeats 1000000 in
theorem bk_growInts (w : World) (b : Nat) (L M : Value) (A turn done used : Int) (h : w.heap[b]? = some (.cells (bkCells L M A turn done used) 45 (0, 0))) :
    Calls Tryz.prog 40 #[.pointer (some ⟨b, 0, none⟩)] w fun e w' => e = .returned (.tuple #[]) ∧ w' = w := by
  have c0 := bk_cell h 9 (.slice none 0 0) rfl
  have c2 := bk_cell h 11 (.int .i64 0) rfl
  have cf := bk_thaw h
  have HS := hide (set_cell_same (j := 11) (v := .int .i64 0) h rfl)
  clear h
  go_enter Tryz.func40, Tryz.ntmps40
  go_wp2
  refine wp_loop_rounds 1 ?_
  rw [rounds_succ]
  go_wp2
  go_end0
  exact ⟨rfl, HS.out⟩

set_option maxRecDepth 100000 in
set_option maxHeartbeats 1000000 in
theorem bk_growWords (w : World) (b : Nat) (L M : Value) (A turn done used : Int) (h : w.heap[b]? = some (.cells (bkCells L M A turn done used) 45 (0, 0))) :
    Calls Tryz.prog 41 #[.pointer (some ⟨b, 0, none⟩)] w fun e w' => e = .returned (.tuple #[]) ∧ w' = w := by
  have c0 := bk_cell h 12 (.slice none 0 0) rfl
  have c2 := bk_cell h 14 (.int .i64 0) rfl
  have cf := bk_thaw h
  have HS := hide (set_cell_same (j := 14) (v := .int .i64 0) h rfl)
  clear h
  go_enter Tryz.func41, Tryz.ntmps41
  go_wp2
  refine wp_loop_rounds 1 ?_
  rw [rounds_succ]
  go_wp2
  go_end0
  exact ⟨rfl, HS.out⟩

set_option maxRecDepth 100000 in
set_option maxHeartbeats 1000000 in
theorem bk_growBools (w : World) (b : Nat) (L M : Value) (A turn done used : Int) (h : w.heap[b]? = some (.cells (bkCells L M A turn done used) 45 (0, 0))) :
    Calls Tryz.prog 42 #[.pointer (some ⟨b, 0, none⟩)] w fun e w' => e = .returned (.tuple #[]) ∧ w' = w := by
  have c0 := bk_cell h 15 (.slice none 0 0) rfl
  have c2 := bk_cell h 17 (.int .i64 0) rfl
  have cf := bk_thaw h
  have HS := hide (set_cell_same (j := 17) (v := .int .i64 0) h rfl)
  clear h
  go_enter Tryz.func42, Tryz.ntmps42
  go_wp2
  refine wp_loop_rounds 1 ?_
  rw [rounds_succ]
  go_wp2
  go_end0
  exact ⟨rfl, HS.out⟩

set_option maxRecDepth 100000 in
set_option maxHeartbeats 1000000 in
theorem bk_growLines (w : World) (b : Nat) (L M : Value) (A turn done used : Int) (h : w.heap[b]? = some (.cells (bkCells L M A turn done used) 45 (0, 0))) :
    Calls Tryz.prog 43 #[.pointer (some ⟨b, 0, none⟩)] w fun e w' => e = .returned (.tuple #[]) ∧ w' = w := by
  have c0 := bk_cell h 18 (.slice none 0 0) rfl
  have c2 := bk_cell h 20 (.int .i64 0) rfl
  have cf := bk_thaw h
  have HS := hide (set_cell_same (j := 20) (v := .int .i64 0) h rfl)
  clear h
  go_enter Tryz.func43, Tryz.ntmps43
  go_wp2
  refine wp_loop_rounds 1 ?_
  rw [rounds_succ]
  go_wp2
  go_end0
  exact ⟨rfl, HS.out⟩

set_option maxRecDepth 100000 in
set_option maxHeartbeats 1000000 in
theorem bk_growGuards (w : World) (b : Nat) (L M : Value) (A turn done used : Int) (h : w.heap[b]? = some (.cells (bkCells L M A turn done used) 45 (0, 0))) :
    Calls Tryz.prog 44 #[.pointer (some ⟨b, 0, none⟩)] w fun e w' => e = .returned (.tuple #[]) ∧ w' = w := by
  have c0 := bk_cell h 21 (.slice none 0 0) rfl
  have c2 := bk_cell h 23 (.int .i64 0) rfl
  have cf := bk_thaw h
  have HS := hide (set_cell_same (j := 23) (v := .int .i64 0) h rfl)
  clear h
  go_enter Tryz.func44, Tryz.ntmps44
  go_wp2
  refine wp_loop_rounds 1 ?_
  rw [rounds_succ]
  go_wp2
  go_end0
  exact ⟨rfl, HS.out⟩

set_option maxRecDepth 100000 in
set_option maxHeartbeats 1000000 in
theorem bk_growSets (w : World) (b : Nat) (L M : Value) (A turn done used : Int) (h : w.heap[b]? = some (.cells (bkCells L M A turn done used) 45 (0, 0))) :
    Calls Tryz.prog 45 #[.pointer (some ⟨b, 0, none⟩)] w fun e w' => e = .returned (.tuple #[]) ∧ w' = w := by
  have c0 := bk_cell h 24 (.slice none 0 0) rfl
  have c2 := bk_cell h 26 (.int .i64 0) rfl
  have cf := bk_thaw h
  have HS := hide (set_cell_same (j := 26) (v := .int .i64 0) h rfl)
  clear h
  go_enter Tryz.func45, Tryz.ntmps45
  go_wp2
  refine wp_loop_rounds 1 ?_
  rw [rounds_succ]
  go_wp2
  go_end0
  exact ⟨rfl, HS.out⟩

set_option maxRecDepth 100000 in
set_option maxHeartbeats 1000000 in
theorem bk_growPrices (w : World) (b : Nat) (L M : Value) (A turn done used : Int) (h : w.heap[b]? = some (.cells (bkCells L M A turn done used) 45 (0, 0))) :
    Calls Tryz.prog 47 #[.pointer (some ⟨b, 0, none⟩)] w fun e w' => e = .returned (.tuple #[]) ∧ w' = w := by
  have c0 := bk_cell h 30 (.slice none 0 0) rfl
  have c2 := bk_cell h 32 (.int .i64 0) rfl
  have cf := bk_thaw h
  have HS := hide (set_cell_same (j := 32) (v := .int .i64 0) h rfl)
  clear h
  go_enter Tryz.func47, Tryz.ntmps47
  go_wp2
  refine wp_loop_rounds 1 ?_
  rw [rounds_succ]
  go_wp2
  go_end0
  exact ⟨rfl, HS.out⟩

set_option maxRecDepth 100000 in
set_option maxHeartbeats 1000000 in
theorem bk_growHelds (w : World) (b : Nat) (L M : Value) (A turn done used : Int) (h : w.heap[b]? = some (.cells (bkCells L M A turn done used) 45 (0, 0))) :
    Calls Tryz.prog 48 #[.pointer (some ⟨b, 0, none⟩)] w fun e w' => e = .returned (.tuple #[]) ∧ w' = w := by
  have c0 := bk_cell h 33 (.slice none 0 0) rfl
  have c2 := bk_cell h 35 (.int .i64 0) rfl
  have cf := bk_thaw h
  have HS := hide (set_cell_same (j := 35) (v := .int .i64 0) h rfl)
  clear h
  go_enter Tryz.func48, Tryz.ntmps48
  go_wp2
  refine wp_loop_rounds 1 ?_
  rw [rounds_succ]
  go_wp2
  go_end0
  exact ⟨rfl, HS.out⟩

set_option maxRecDepth 100000 in
set_option maxHeartbeats 1000000 in
theorem bk_growPools (w : World) (b : Nat) (L M : Value) (A turn done used : Int) (h : w.heap[b]? = some (.cells (bkCells L M A turn done used) 45 (0, 0))) :
    Calls Tryz.prog 49 #[.pointer (some ⟨b, 0, none⟩)] w fun e w' => e = .returned (.tuple #[]) ∧ w' = w := by
  have c0 := bk_cell h 36 (.slice none 0 0) rfl
  have c2 := bk_cell h 38 (.int .i64 0) rfl
  have cf := bk_thaw h
  have HS := hide (set_cell_same (j := 38) (v := .int .i64 0) h rfl)
  clear h
  go_enter Tryz.func49, Tryz.ntmps49
  go_wp2
  refine wp_loop_rounds 1 ?_
  rw [rounds_succ]
  go_wp2
  go_end0
  exact ⟨rfl, HS.out⟩

set_option maxRecDepth 100000 in
set_option maxHeartbeats 1000000 in
theorem bk_growActs (w : World) (b : Nat) (L M : Value) (A turn done used : Int) (h : w.heap[b]? = some (.cells (bkCells L M A turn done used) 45 (0, 0))) :
    Calls Tryz.prog 50 #[.pointer (some ⟨b, 0, none⟩)] w fun e w' => e = .returned (.tuple #[]) ∧ w' = w := by
  have c0 := bk_cell h 39 (.slice none 0 0) rfl
  have c2 := bk_cell h 41 (.int .i64 0) rfl
  have cf := bk_thaw h
  have HS := hide (set_cell_same (j := 41) (v := .int .i64 0) h rfl)
  clear h
  go_enter Tryz.func50, Tryz.ntmps50
  go_wp2
  refine wp_loop_rounds 1 ?_
  rw [rounds_succ]
  go_wp2
  go_end0
  exact ⟨rfl, HS.out⟩

set_option maxRecDepth 100000 in
set_option maxHeartbeats 1000000 in
theorem bk_growEntries (w : World) (b : Nat) (L M : Value) (A turn done used : Int) (h : w.heap[b]? = some (.cells (bkCells L M A turn done used) 45 (0, 0))) :
    Calls Tryz.prog 51 #[.pointer (some ⟨b, 0, none⟩)] w fun e w' => e = .returned (.tuple #[]) ∧ w' = w := by
  have c0 := bk_cell h 42 (.slice none 0 0) rfl
  have c2 := bk_cell h 44 (.int .i64 0) rfl
  have cf := bk_thaw h
  have HS := hide (set_cell_same (j := 44) (v := .int .i64 0) h rfl)
  clear h
  go_enter Tryz.func51, Tryz.ntmps51
  go_wp2
  refine wp_loop_rounds 1 ?_
  rw [rounds_succ]
  go_wp2
  go_end0
  exact ⟨rfl, HS.out⟩

set_option maxRecDepth 100000 in
set_option maxHeartbeats 1000000 in
theorem bk_growFlights (w : World) (b : Nat) (L M : Value) (A turn done used : Int) (h : w.heap[b]? = some (.cells (bkCells L M A turn done used) 45 (0, 0))) :
    Calls Tryz.prog 52 #[.pointer (some ⟨b, 0, none⟩)] w fun e w' => e = .returned (.tuple #[]) ∧ w' = w := by
  have c0 := bk_cell h 45 (.slice none 0 0) rfl
  have c2 := bk_cell h 47 (.int .i64 0) rfl
  have cf := bk_thaw h
  have HS := hide (set_cell_same (j := 47) (v := .int .i64 0) h rfl)
  clear h
  go_enter Tryz.func52, Tryz.ntmps52
  go_wp2
  refine wp_loop_rounds 1 ?_
  rw [rounds_succ]
  go_wp2
  go_end0
  exact ⟨rfl, HS.out⟩

set_option maxRecDepth 100000 in
set_option maxHeartbeats 1000000 in
theorem bk_growFiles (w : World) (b : Nat) (L M : Value) (A turn done used : Int) (h : w.heap[b]? = some (.cells (bkCells L M A turn done used) 45 (0, 0))) :
    Calls Tryz.prog 53 #[.pointer (some ⟨b, 0, none⟩)] w fun e w' => e = .returned (.tuple #[]) ∧ w' = w := by
  have c0 := bk_cell h 48 (.slice none 0 0) rfl
  have c2 := bk_cell h 50 (.int .i64 0) rfl
  have cf := bk_thaw h
  have HS := hide (set_cell_same (j := 50) (v := .int .i64 0) h rfl)
  clear h
  go_enter Tryz.func53, Tryz.ntmps53
  go_wp2
  refine wp_loop_rounds 1 ?_
  rw [rounds_succ]
  go_wp2
  go_end0
  exact ⟨rfl, HS.out⟩

set_option maxRecDepth 100000 in
set_option maxHeartbeats 1000000 in
theorem bk_growItems (w : World) (b : Nat) (L M : Value) (A turn done used : Int) (h : w.heap[b]? = some (.cells (bkCells L M A turn done used) 45 (0, 0))) :
    Calls Tryz.prog 54 #[.pointer (some ⟨b, 0, none⟩)] w fun e w' => e = .returned (.tuple #[]) ∧ w' = w := by
  have c0 := bk_cell h 51 (.slice none 0 0) rfl
  have c2 := bk_cell h 53 (.int .i64 0) rfl
  have cf := bk_thaw h
  have HS := hide (set_cell_same (j := 53) (v := .int .i64 0) h rfl)
  clear h
  go_enter Tryz.func54, Tryz.ntmps54
  go_wp2
  refine wp_loop_rounds 1 ?_
  rw [rounds_succ]
  go_wp2
  go_end0
  exact ⟨rfl, HS.out⟩

end Go.Proofs.YtajadmkacnfbgaaGreat.RB
