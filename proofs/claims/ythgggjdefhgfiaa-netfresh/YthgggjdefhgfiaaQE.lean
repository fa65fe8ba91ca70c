import Derived.Test.YthgggjdefhgfiaaQOwn
namespace Go.Proofs.Ythgggjdefhgfiaa.Q
open Go.RowKit

set_option maxRecDepth 100000 in
set_option maxHeartbeats 1000000 in
set_option maxRecDepth 100000 in
set_option maxHeartbeats 1000000 in
set_option maxRecDepth 100000 in
set_option maxHeartbeats 1000000 in
set_option maxRecDepth 100000 in
set_option maxHeartbeats 1000000 in
set_option maxRecDepth 100000 in
set_option maxHeartbeats 1000000 in
theorem bk_growRows (w : World) (b : Nat) (L M : Value) (A turn done used : Int) (h : w.heap[b]? = some (.cells (bkCells L M A turn done used) 50 (0, 0))) :
    Calls Try.prog 58 #[.pointer (some ⟨b, 0, none⟩)] w fun e w' => e = .returned (.tuple #[]) ∧ w' = w := by
  have c0 := bk_cell h 3 (.slice none 0 0) rfl
  have c2 := bk_cell h 5 (.int .i64 0) rfl
  have cf := bk_thaw h
  have HS := hide (set_cell_same (j := 5) (v := .int .i64 0) h rfl)
  clear h
  go_enter Try.func58, Try.ntmps58
  go_wp2
  refine wp_loop_rounds 1 ?_
  rw [rounds_succ]
  go_wp2
  go_end0
  exact ⟨rfl, HS.out⟩

set_option maxRecDepth 100000 in
set_option maxHeartbeats 1000000 in
theorem bk_growTexts (w : World) (b : Nat) (L M : Value) (A turn done used : Int) (h : w.heap[b]? = some (.cells (bkCells L M A turn done used) 50 (0, 0))) :
    Calls Try.prog 59 #[.pointer (some ⟨b, 0, none⟩)] w fun e w' => e = .returned (.tuple #[]) ∧ w' = w := by
  have c0 := bk_cell h 6 (.slice none 0 0) rfl
  have c2 := bk_cell h 8 (.int .i64 0) rfl
  have cf := bk_thaw h
  have HS := hide (set_cell_same (j := 8) (v := .int .i64 0) h rfl)
  clear h
  go_enter Try.func59, Try.ntmps59
  go_wp2
  refine wp_loop_rounds 1 ?_
  rw [rounds_succ]
  go_wp2
  go_end0
  exact ⟨rfl, HS.out⟩

set_option maxRecDepth 100000 in
set_option maxHeartbeats 1000000 in
theorem bk_growInts (w : World) (b : Nat) (L M : Value) (A turn done used : Int) (h : w.heap[b]? = some (.cells (bkCells L M A turn done used) 50 (0, 0))) :
    Calls Try.prog 60 #[.pointer (some ⟨b, 0, none⟩)] w fun e w' => e = .returned (.tuple #[]) ∧ w' = w := by
  have c0 := bk_cell h 9 (.slice none 0 0) rfl
  have c2 := bk_cell h 11 (.int .i64 0) rfl
  have cf := bk_thaw h
  have HS := hide (set_cell_same (j := 11) (v := .int .i64 0) h rfl)
  clear h
  go_enter Try.func60, Try.ntmps60
  go_wp2
  refine wp_loop_rounds 1 ?_
  rw [rounds_succ]
  go_wp2
  go_end0
  exact ⟨rfl, HS.out⟩

set_option maxRecDepth 100000 in
set_option maxHeartbeats 1000000 in
theorem bk_growWords (w : World) (b : Nat) (L M : Value) (A turn done used : Int) (h : w.heap[b]? = some (.cells (bkCells L M A turn done used) 50 (0, 0))) :
    Calls Try.prog 61 #[.pointer (some ⟨b, 0, none⟩)] w fun e w' => e = .returned (.tuple #[]) ∧ w' = w := by
  have c0 := bk_cell h 12 (.slice none 0 0) rfl
  have c2 := bk_cell h 14 (.int .i64 0) rfl
  have cf := bk_thaw h
  have HS := hide (set_cell_same (j := 14) (v := .int .i64 0) h rfl)
  clear h
  go_enter Try.func61, Try.ntmps61
  go_wp2
  refine wp_loop_rounds 1 ?_
  rw [rounds_succ]
  go_wp2
  go_end0
  exact ⟨rfl, HS.out⟩

set_option maxRecDepth 100000 in
set_option maxHeartbeats 1000000 in
theorem bk_growBools (w : World) (b : Nat) (L M : Value) (A turn done used : Int) (h : w.heap[b]? = some (.cells (bkCells L M A turn done used) 50 (0, 0))) :
    Calls Try.prog 62 #[.pointer (some ⟨b, 0, none⟩)] w fun e w' => e = .returned (.tuple #[]) ∧ w' = w := by
  have c0 := bk_cell h 15 (.slice none 0 0) rfl
  have c2 := bk_cell h 17 (.int .i64 0) rfl
  have cf := bk_thaw h
  have HS := hide (set_cell_same (j := 17) (v := .int .i64 0) h rfl)
  clear h
  go_enter Try.func62, Try.ntmps62
  go_wp2
  refine wp_loop_rounds 1 ?_
  rw [rounds_succ]
  go_wp2
  go_end0
  exact ⟨rfl, HS.out⟩

set_option maxRecDepth 100000 in
set_option maxHeartbeats 1000000 in
theorem bk_growLines (w : World) (b : Nat) (L M : Value) (A turn done used : Int) (h : w.heap[b]? = some (.cells (bkCells L M A turn done used) 50 (0, 0))) :
    Calls Try.prog 63 #[.pointer (some ⟨b, 0, none⟩)] w fun e w' => e = .returned (.tuple #[]) ∧ w' = w := by
  have c0 := bk_cell h 18 (.slice none 0 0) rfl
  have c2 := bk_cell h 20 (.int .i64 0) rfl
  have cf := bk_thaw h
  have HS := hide (set_cell_same (j := 20) (v := .int .i64 0) h rfl)
  clear h
  go_enter Try.func63, Try.ntmps63
  go_wp2
  refine wp_loop_rounds 1 ?_
  rw [rounds_succ]
  go_wp2
  go_end0
  exact ⟨rfl, HS.out⟩

set_option maxRecDepth 100000 in
set_option maxHeartbeats 1000000 in
theorem bk_growGuards (w : World) (b : Nat) (L M : Value) (A turn done used : Int) (h : w.heap[b]? = some (.cells (bkCells L M A turn done used) 50 (0, 0))) :
    Calls Try.prog 64 #[.pointer (some ⟨b, 0, none⟩)] w fun e w' => e = .returned (.tuple #[]) ∧ w' = w := by
  have c0 := bk_cell h 21 (.slice none 0 0) rfl
  have c2 := bk_cell h 23 (.int .i64 0) rfl
  have cf := bk_thaw h
  have HS := hide (set_cell_same (j := 23) (v := .int .i64 0) h rfl)
  clear h
  go_enter Try.func64, Try.ntmps64
  go_wp2
  refine wp_loop_rounds 1 ?_
  rw [rounds_succ]
  go_wp2
  go_end0
  exact ⟨rfl, HS.out⟩

set_option maxRecDepth 100000 in
set_option maxHeartbeats 1000000 in
theorem bk_growSets (w : World) (b : Nat) (L M : Value) (A turn done used : Int) (h : w.heap[b]? = some (.cells (bkCells L M A turn done used) 50 (0, 0))) :
    Calls Try.prog 65 #[.pointer (some ⟨b, 0, none⟩)] w fun e w' => e = .returned (.tuple #[]) ∧ w' = w := by
  have c0 := bk_cell h 24 (.slice none 0 0) rfl
  have c2 := bk_cell h 26 (.int .i64 0) rfl
  have cf := bk_thaw h
  have HS := hide (set_cell_same (j := 26) (v := .int .i64 0) h rfl)
  clear h
  go_enter Try.func65, Try.ntmps65
  go_wp2
  refine wp_loop_rounds 1 ?_
  rw [rounds_succ]
  go_wp2
  go_end0
  exact ⟨rfl, HS.out⟩

set_option maxRecDepth 100000 in
set_option maxHeartbeats 1000000 in
theorem bk_growRights (w : World) (b : Nat) (L M : Value) (A turn done used : Int) (h : w.heap[b]? = some (.cells (bkCells L M A turn done used) 50 (0, 0))) :
    Calls Try.prog 66 #[.pointer (some ⟨b, 0, none⟩)] w fun e w' => e = .returned (.tuple #[]) ∧ w' = w := by
  have c0 := bk_cell h 27 (.slice none 0 0) rfl
  have c2 := bk_cell h 29 (.int .i64 0) rfl
  have cf := bk_thaw h
  have HS := hide (set_cell_same (j := 29) (v := .int .i64 0) h rfl)
  clear h
  go_enter Try.func66, Try.ntmps66
  go_wp2
  refine wp_loop_rounds 1 ?_
  rw [rounds_succ]
  go_wp2
  go_end0
  exact ⟨rfl, HS.out⟩

set_option maxRecDepth 100000 in
set_option maxHeartbeats 1000000 in
theorem bk_growPrices (w : World) (b : Nat) (L M : Value) (A turn done used : Int) (h : w.heap[b]? = some (.cells (bkCells L M A turn done used) 50 (0, 0))) :
    Calls Try.prog 67 #[.pointer (some ⟨b, 0, none⟩)] w fun e w' => e = .returned (.tuple #[]) ∧ w' = w := by
  have c0 := bk_cell h 30 (.slice none 0 0) rfl
  have c2 := bk_cell h 32 (.int .i64 0) rfl
  have cf := bk_thaw h
  have HS := hide (set_cell_same (j := 32) (v := .int .i64 0) h rfl)
  clear h
  go_enter Try.func67, Try.ntmps67
  go_wp2
  refine wp_loop_rounds 1 ?_
  rw [rounds_succ]
  go_wp2
  go_end0
  exact ⟨rfl, HS.out⟩

set_option maxRecDepth 100000 in
set_option maxHeartbeats 1000000 in
theorem bk_growHelds (w : World) (b : Nat) (L M : Value) (A turn done used : Int) (h : w.heap[b]? = some (.cells (bkCells L M A turn done used) 50 (0, 0))) :
    Calls Try.prog 68 #[.pointer (some ⟨b, 0, none⟩)] w fun e w' => e = .returned (.tuple #[]) ∧ w' = w := by
  have c0 := bk_cell h 33 (.slice none 0 0) rfl
  have c2 := bk_cell h 35 (.int .i64 0) rfl
  have cf := bk_thaw h
  have HS := hide (set_cell_same (j := 35) (v := .int .i64 0) h rfl)
  clear h
  go_enter Try.func68, Try.ntmps68
  go_wp2
  refine wp_loop_rounds 1 ?_
  rw [rounds_succ]
  go_wp2
  go_end0
  exact ⟨rfl, HS.out⟩

set_option maxRecDepth 100000 in
set_option maxHeartbeats 1000000 in
theorem bk_growPools (w : World) (b : Nat) (L M : Value) (A turn done used : Int) (h : w.heap[b]? = some (.cells (bkCells L M A turn done used) 50 (0, 0))) :
    Calls Try.prog 69 #[.pointer (some ⟨b, 0, none⟩)] w fun e w' => e = .returned (.tuple #[]) ∧ w' = w := by
  have c0 := bk_cell h 36 (.slice none 0 0) rfl
  have c2 := bk_cell h 38 (.int .i64 0) rfl
  have cf := bk_thaw h
  have HS := hide (set_cell_same (j := 38) (v := .int .i64 0) h rfl)
  clear h
  go_enter Try.func69, Try.ntmps69
  go_wp2
  refine wp_loop_rounds 1 ?_
  rw [rounds_succ]
  go_wp2
  go_end0
  exact ⟨rfl, HS.out⟩

set_option maxRecDepth 100000 in
set_option maxHeartbeats 1000000 in
theorem bk_growActs (w : World) (b : Nat) (L M : Value) (A turn done used : Int) (h : w.heap[b]? = some (.cells (bkCells L M A turn done used) 50 (0, 0))) :
    Calls Try.prog 70 #[.pointer (some ⟨b, 0, none⟩)] w fun e w' => e = .returned (.tuple #[]) ∧ w' = w := by
  have c0 := bk_cell h 39 (.slice none 0 0) rfl
  have c2 := bk_cell h 41 (.int .i64 0) rfl
  have cf := bk_thaw h
  have HS := hide (set_cell_same (j := 41) (v := .int .i64 0) h rfl)
  clear h
  go_enter Try.func70, Try.ntmps70
  go_wp2
  refine wp_loop_rounds 1 ?_
  rw [rounds_succ]
  go_wp2
  go_end0
  exact ⟨rfl, HS.out⟩

set_option maxRecDepth 100000 in
set_option maxHeartbeats 1000000 in
theorem bk_growEntries (w : World) (b : Nat) (L M : Value) (A turn done used : Int) (h : w.heap[b]? = some (.cells (bkCells L M A turn done used) 50 (0, 0))) :
    Calls Try.prog 71 #[.pointer (some ⟨b, 0, none⟩)] w fun e w' => e = .returned (.tuple #[]) ∧ w' = w := by
  have c0 := bk_cell h 42 (.slice none 0 0) rfl
  have c2 := bk_cell h 44 (.int .i64 0) rfl
  have cf := bk_thaw h
  have HS := hide (set_cell_same (j := 44) (v := .int .i64 0) h rfl)
  clear h
  go_enter Try.func71, Try.ntmps71
  go_wp2
  refine wp_loop_rounds 1 ?_
  rw [rounds_succ]
  go_wp2
  go_end0
  exact ⟨rfl, HS.out⟩

set_option maxRecDepth 100000 in
set_option maxHeartbeats 1000000 in
theorem bk_growFlights (w : World) (b : Nat) (L M : Value) (A turn done used : Int) (h : w.heap[b]? = some (.cells (bkCells L M A turn done used) 50 (0, 0))) :
    Calls Try.prog 72 #[.pointer (some ⟨b, 0, none⟩)] w fun e w' => e = .returned (.tuple #[]) ∧ w' = w := by
  have c0 := bk_cell h 45 (.slice none 0 0) rfl
  have c2 := bk_cell h 47 (.int .i64 0) rfl
  have cf := bk_thaw h
  have HS := hide (set_cell_same (j := 47) (v := .int .i64 0) h rfl)
  clear h
  go_enter Try.func72, Try.ntmps72
  go_wp2
  refine wp_loop_rounds 1 ?_
  rw [rounds_succ]
  go_wp2
  go_end0
  exact ⟨rfl, HS.out⟩

set_option maxRecDepth 100000 in
set_option maxHeartbeats 1000000 in
theorem bk_growFiles (w : World) (b : Nat) (L M : Value) (A turn done used : Int) (h : w.heap[b]? = some (.cells (bkCells L M A turn done used) 50 (0, 0))) :
    Calls Try.prog 73 #[.pointer (some ⟨b, 0, none⟩)] w fun e w' => e = .returned (.tuple #[]) ∧ w' = w := by
  have c0 := bk_cell h 48 (.slice none 0 0) rfl
  have c2 := bk_cell h 50 (.int .i64 0) rfl
  have cf := bk_thaw h
  have HS := hide (set_cell_same (j := 50) (v := .int .i64 0) h rfl)
  clear h
  go_enter Try.func73, Try.ntmps73
  go_wp2
  refine wp_loop_rounds 1 ?_
  rw [rounds_succ]
  go_wp2
  go_end0
  exact ⟨rfl, HS.out⟩

set_option maxRecDepth 100000 in
set_option maxHeartbeats 1000000 in
theorem bk_growItems (w : World) (b : Nat) (L M : Value) (A turn done used : Int) (h : w.heap[b]? = some (.cells (bkCells L M A turn done used) 50 (0, 0))) :
    Calls Try.prog 74 #[.pointer (some ⟨b, 0, none⟩)] w fun e w' => e = .returned (.tuple #[]) ∧ w' = w := by
  have c0 := bk_cell h 51 (.slice none 0 0) rfl
  have c2 := bk_cell h 53 (.int .i64 0) rfl
  have cf := bk_thaw h
  have HS := hide (set_cell_same (j := 53) (v := .int .i64 0) h rfl)
  clear h
  go_enter Try.func74, Try.ntmps74
  go_wp2
  refine wp_loop_rounds 1 ?_
  rw [rounds_succ]
  go_wp2
  go_end0
  exact ⟨rfl, HS.out⟩

end Go.Proofs.Ythgggjdefhgfiaa.Q
