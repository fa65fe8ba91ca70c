import Derived.Test.YtjcdnclfakmbpaaGreatDoorQB
namespace Go.Proofs.YtjcdnclfakmbpaaGreatDoor.V
open Go.RowKit Go.Proofs.YtjcdnclfakmbpaaGreatDoor.U Go.Proofs.YtjcdnclfakmbpaaGreatDoor.Q
structure Rv where
  r : Value
  o : Value
  a : Nat
def bkCells (X : Rv) (L M : Value) (A turn done used : Int) : Array Value := #[L, M, .int .i64 A, X.r, X.o, .int .i64 (X.a : Int), .slice none 0 0, .slice none 0 0, .int .i64 0, .slice none 0 0, .slice none 0 0, .int .i64 0, .slice none 0 0, .slice none 0 0, .int .i64 0, .slice none 0 0, .slice none 0 0, .int .i64 0, .slice none 0 0, .slice none 0 0, .int .i64 0, .slice none 0 0, .slice none 0 0, .int .i64 0, .slice none 0 0, .slice none 0 0, .int .i64 0, .slice none 0 0, .slice none 0 0, .int .i64 0, .slice none 0 0, .slice none 0 0, .int .i64 0, .slice none 0 0, .slice none 0 0, .int .i64 0, .slice none 0 0, .slice none 0 0, .int .i64 0, .slice none 0 0, .slice none 0 0, .int .i64 0, .slice none 0 0, .slice none 0 0, .int .i64 0, .slice none 0 0, .slice none 0 0, .int .i64 0, .slice none 0 0, .slice none 0 0, .int .i64 0, .slice none 0 0, .slice none 0 0, .int .i64 0, .int .i64 turn, .int .i64 done, .int .i64 used]
set_option maxRecDepth 100000 in
set_option maxHeartbeats 1000000 in
theorem bk_kept {X : Rv} (w : World) (b : Nat) (L M : Value) (A turn done used : Int) (h : w.heap[b]? = some (.cells (bkCells X L M A turn done used) 70 (0, 0))) :
    Calls Tryz.prog 67 #[.pointer (some ⟨b, 0, none⟩)] w fun e w' => e = .returned (.bool true) ∧ w' = w := by
  have c6 := bk_cell h 6 (.slice none 0 0) rfl
  have c9 := bk_cell h 9 (.slice none 0 0) rfl
  have c12 := bk_cell h 12 (.slice none 0 0) rfl
  have c15 := bk_cell h 15 (.slice none 0 0) rfl
  clear h
  go_enter Tryz.func67, Tryz.ntmps67
  go_wp2
  refine wp_loop_rounds 1 ?_
  rw [rounds_succ]
  go_wp2
  refine wp_loop_rounds 1 ?_
  rw [rounds_succ]
  go_wp2
  refine wp_loop_rounds 1 ?_
  rw [rounds_succ]
  go_wp2
  refine wp_loop_rounds 1 ?_
  rw [rounds_succ]
  go_wp2
  go_ret
  exact ⟨rfl, rfl⟩
set_option maxRecDepth 100000 in
set_option maxHeartbeats 1000000 in
theorem bk_told {X : Rv} (w : World) (b : Nat) (L M : Value) (A turn done used : Int) (h : w.heap[b]? = some (.cells (bkCells X L M A turn done used) 70 (0, 0))) :
    Calls Tryz.prog 68 #[.pointer (some ⟨b, 0, none⟩)] w fun e w' => e = .returned (.bool true) ∧ w' = w := by
  have c18 := bk_cell h 18 (.slice none 0 0) rfl
  have c21 := bk_cell h 21 (.slice none 0 0) rfl
  have c24 := bk_cell h 24 (.slice none 0 0) rfl
  have c27 := bk_cell h 27 (.slice none 0 0) rfl
  clear h
  go_enter Tryz.func68, Tryz.ntmps68
  go_wp2
  refine wp_loop_rounds 1 ?_
  rw [rounds_succ]
  go_wp2
  refine wp_loop_rounds 1 ?_
  rw [rounds_succ]
  go_wp2
  refine wp_loop_rounds 1 ?_
  rw [rounds_succ]
  go_wp2
  refine wp_loop_rounds 1 ?_
  rw [rounds_succ]
  go_wp2
  go_ret
  exact ⟨rfl, rfl⟩
set_option maxRecDepth 100000 in
set_option maxHeartbeats 1000000 in
theorem bk_held {X : Rv} (w : World) (b : Nat) (L M : Value) (A turn done used : Int) (h : w.heap[b]? = some (.cells (bkCells X L M A turn done used) 70 (0, 0))) :
    Calls Tryz.prog 69 #[.pointer (some ⟨b, 0, none⟩)] w fun e w' => e = .returned (.bool true) ∧ w' = w := by
  have c30 := bk_cell h 30 (.slice none 0 0) rfl
  have c33 := bk_cell h 33 (.slice none 0 0) rfl
  have c36 := bk_cell h 36 (.slice none 0 0) rfl
  have c39 := bk_cell h 39 (.slice none 0 0) rfl
  clear h
  go_enter Tryz.func69, Tryz.ntmps69
  go_wp2
  refine wp_loop_rounds 1 ?_
  rw [rounds_succ]
  go_wp2
  refine wp_loop_rounds 1 ?_
  rw [rounds_succ]
  go_wp2
  refine wp_loop_rounds 1 ?_
  rw [rounds_succ]
  go_wp2
  refine wp_loop_rounds 1 ?_
  rw [rounds_succ]
  go_wp2
  go_ret
  exact ⟨rfl, rfl⟩
set_option maxRecDepth 100000 in
set_option maxHeartbeats 1000000 in
theorem bk_sent {X : Rv} (w : World) (b : Nat) (L M : Value) (A turn done used : Int) (h : w.heap[b]? = some (.cells (bkCells X L M A turn done used) 70 (0, 0))) :
    Calls Tryz.prog 70 #[.pointer (some ⟨b, 0, none⟩)] w fun e w' => e = .returned (.bool true) ∧ w' = w := by
  have c42 := bk_cell h 42 (.slice none 0 0) rfl
  have c45 := bk_cell h 45 (.slice none 0 0) rfl
  have c48 := bk_cell h 48 (.slice none 0 0) rfl
  have c51 := bk_cell h 51 (.slice none 0 0) rfl
  clear h
  go_enter Tryz.func70, Tryz.ntmps70
  go_wp2
  refine wp_loop_rounds 1 ?_
  rw [rounds_succ]
  go_wp2
  refine wp_loop_rounds 1 ?_
  rw [rounds_succ]
  go_wp2
  refine wp_loop_rounds 1 ?_
  rw [rounds_succ]
  go_wp2
  refine wp_loop_rounds 1 ?_
  rw [rounds_succ]
  go_wp2
  go_ret
  exact ⟨rfl, rfl⟩
end Go.Proofs.YtjcdnclfakmbpaaGreatDoor.V
namespace Go.Proofs.YtjcdnclfakmbpaaGreatDoor.V
open Go.RowKit Go.Proofs.YtjcdnclfakmbpaaGreatDoor.U Go.Proofs.YtjcdnclfakmbpaaGreatDoor.Q
set_option maxRecDepth 100000 in
set_option maxHeartbeats 1000000 in
theorem bk_growTexts {X : Rv} (w : World) (b : Nat) (L M : Value) (A turn done used : Int) (h : w.heap[b]? = some (.cells (bkCells X L M A turn done used) 70 (0, 0))) :
    Calls Tryz.prog 73 #[.pointer (some ⟨b, 0, none⟩)] w fun e w' => e = .returned (.tuple #[]) ∧ w' = w := by
  have c0 := bk_cell h 6 (.slice none 0 0) rfl
  have c2 := bk_cell h 8 (.int .i64 0) rfl
  have cf := bk_thaw h
  have HS := hide (set_cell_same (j := 8) (v := .int .i64 0) h rfl)
  clear h
  go_enter Tryz.func73, Tryz.ntmps73
  go_wp2
  refine wp_loop_rounds 1 ?_
  rw [rounds_succ]
  go_wp2
  go_end0
  exact ⟨rfl, HS.out⟩
set_option maxRecDepth 100000 in
set_option maxHeartbeats 1000000 in
theorem bk_growInts {X : Rv} (w : World) (b : Nat) (L M : Value) (A turn done used : Int) (h : w.heap[b]? = some (.cells (bkCells X L M A turn done used) 70 (0, 0))) :
    Calls Tryz.prog 74 #[.pointer (some ⟨b, 0, none⟩)] w fun e w' => e = .returned (.tuple #[]) ∧ w' = w := by
  have c0 := bk_cell h 9 (.slice none 0 0) rfl
  have c2 := bk_cell h 11 (.int .i64 0) rfl
  have cf := bk_thaw h
  have HS := hide (set_cell_same (j := 11) (v := .int .i64 0) h rfl)
  clear h
  go_enter Tryz.func74, Tryz.ntmps74
  go_wp2
  refine wp_loop_rounds 1 ?_
  rw [rounds_succ]
  go_wp2
  go_end0
  exact ⟨rfl, HS.out⟩
set_option maxRecDepth 100000 in
set_option maxHeartbeats 1000000 in
theorem bk_growWords {X : Rv} (w : World) (b : Nat) (L M : Value) (A turn done used : Int) (h : w.heap[b]? = some (.cells (bkCells X L M A turn done used) 70 (0, 0))) :
    Calls Tryz.prog 75 #[.pointer (some ⟨b, 0, none⟩)] w fun e w' => e = .returned (.tuple #[]) ∧ w' = w := by
  have c0 := bk_cell h 12 (.slice none 0 0) rfl
  have c2 := bk_cell h 14 (.int .i64 0) rfl
  have cf := bk_thaw h
  have HS := hide (set_cell_same (j := 14) (v := .int .i64 0) h rfl)
  clear h
  go_enter Tryz.func75, Tryz.ntmps75
  go_wp2
  refine wp_loop_rounds 1 ?_
  rw [rounds_succ]
  go_wp2
  go_end0
  exact ⟨rfl, HS.out⟩
set_option maxRecDepth 100000 in
set_option maxHeartbeats 1000000 in
theorem bk_growBools {X : Rv} (w : World) (b : Nat) (L M : Value) (A turn done used : Int) (h : w.heap[b]? = some (.cells (bkCells X L M A turn done used) 70 (0, 0))) :
    Calls Tryz.prog 76 #[.pointer (some ⟨b, 0, none⟩)] w fun e w' => e = .returned (.tuple #[]) ∧ w' = w := by
  have c0 := bk_cell h 15 (.slice none 0 0) rfl
  have c2 := bk_cell h 17 (.int .i64 0) rfl
  have cf := bk_thaw h
  have HS := hide (set_cell_same (j := 17) (v := .int .i64 0) h rfl)
  clear h
  go_enter Tryz.func76, Tryz.ntmps76
  go_wp2
  refine wp_loop_rounds 1 ?_
  rw [rounds_succ]
  go_wp2
  go_end0
  exact ⟨rfl, HS.out⟩
set_option maxRecDepth 100000 in
set_option maxHeartbeats 1000000 in
theorem bk_growLines {X : Rv} (w : World) (b : Nat) (L M : Value) (A turn done used : Int) (h : w.heap[b]? = some (.cells (bkCells X L M A turn done used) 70 (0, 0))) :
    Calls Tryz.prog 77 #[.pointer (some ⟨b, 0, none⟩)] w fun e w' => e = .returned (.tuple #[]) ∧ w' = w := by
  have c0 := bk_cell h 18 (.slice none 0 0) rfl
  have c2 := bk_cell h 20 (.int .i64 0) rfl
  have cf := bk_thaw h
  have HS := hide (set_cell_same (j := 20) (v := .int .i64 0) h rfl)
  clear h
  go_enter Tryz.func77, Tryz.ntmps77
  go_wp2
  refine wp_loop_rounds 1 ?_
  rw [rounds_succ]
  go_wp2
  go_end0
  exact ⟨rfl, HS.out⟩
set_option maxRecDepth 100000 in
set_option maxHeartbeats 1000000 in
theorem bk_growGuards {X : Rv} (w : World) (b : Nat) (L M : Value) (A turn done used : Int) (h : w.heap[b]? = some (.cells (bkCells X L M A turn done used) 70 (0, 0))) :
    Calls Tryz.prog 78 #[.pointer (some ⟨b, 0, none⟩)] w fun e w' => e = .returned (.tuple #[]) ∧ w' = w := by
  have c0 := bk_cell h 21 (.slice none 0 0) rfl
  have c2 := bk_cell h 23 (.int .i64 0) rfl
  have cf := bk_thaw h
  have HS := hide (set_cell_same (j := 23) (v := .int .i64 0) h rfl)
  clear h
  go_enter Tryz.func78, Tryz.ntmps78
  go_wp2
  refine wp_loop_rounds 1 ?_
  rw [rounds_succ]
  go_wp2
  go_end0
  exact ⟨rfl, HS.out⟩
set_option maxRecDepth 100000 in
set_option maxHeartbeats 1000000 in
theorem bk_growSets {X : Rv} (w : World) (b : Nat) (L M : Value) (A turn done used : Int) (h : w.heap[b]? = some (.cells (bkCells X L M A turn done used) 70 (0, 0))) :
    Calls Tryz.prog 79 #[.pointer (some ⟨b, 0, none⟩)] w fun e w' => e = .returned (.tuple #[]) ∧ w' = w := by
  have c0 := bk_cell h 24 (.slice none 0 0) rfl
  have c2 := bk_cell h 26 (.int .i64 0) rfl
  have cf := bk_thaw h
  have HS := hide (set_cell_same (j := 26) (v := .int .i64 0) h rfl)
  clear h
  go_enter Tryz.func79, Tryz.ntmps79
  go_wp2
  refine wp_loop_rounds 1 ?_
  rw [rounds_succ]
  go_wp2
  go_end0
  exact ⟨rfl, HS.out⟩
set_option maxRecDepth 100000 in
set_option maxHeartbeats 1000000 in
theorem bk_growRights {X : Rv} (w : World) (b : Nat) (L M : Value) (A turn done used : Int) (h : w.heap[b]? = some (.cells (bkCells X L M A turn done used) 70 (0, 0))) :
    Calls Tryz.prog 80 #[.pointer (some ⟨b, 0, none⟩)] w fun e w' => e = .returned (.tuple #[]) ∧ w' = w := by
  have c0 := bk_cell h 27 (.slice none 0 0) rfl
  have c2 := bk_cell h 29 (.int .i64 0) rfl
  have cf := bk_thaw h
  have HS := hide (set_cell_same (j := 29) (v := .int .i64 0) h rfl)
  clear h
  go_enter Tryz.func80, Tryz.ntmps80
  go_wp2
  refine wp_loop_rounds 1 ?_
  rw [rounds_succ]
  go_wp2
  go_end0
  exact ⟨rfl, HS.out⟩
set_option maxRecDepth 100000 in
set_option maxHeartbeats 1000000 in
theorem bk_growPrices {X : Rv} (w : World) (b : Nat) (L M : Value) (A turn done used : Int) (h : w.heap[b]? = some (.cells (bkCells X L M A turn done used) 70 (0, 0))) :
    Calls Tryz.prog 81 #[.pointer (some ⟨b, 0, none⟩)] w fun e w' => e = .returned (.tuple #[]) ∧ w' = w := by
  have c0 := bk_cell h 30 (.slice none 0 0) rfl
  have c2 := bk_cell h 32 (.int .i64 0) rfl
  have cf := bk_thaw h
  have HS := hide (set_cell_same (j := 32) (v := .int .i64 0) h rfl)
  clear h
  go_enter Tryz.func81, Tryz.ntmps81
  go_wp2
  refine wp_loop_rounds 1 ?_
  rw [rounds_succ]
  go_wp2
  go_end0
  exact ⟨rfl, HS.out⟩
set_option maxRecDepth 100000 in
set_option maxHeartbeats 1000000 in
theorem bk_growHelds {X : Rv} (w : World) (b : Nat) (L M : Value) (A turn done used : Int) (h : w.heap[b]? = some (.cells (bkCells X L M A turn done used) 70 (0, 0))) :
    Calls Tryz.prog 82 #[.pointer (some ⟨b, 0, none⟩)] w fun e w' => e = .returned (.tuple #[]) ∧ w' = w := by
  have c0 := bk_cell h 33 (.slice none 0 0) rfl
  have c2 := bk_cell h 35 (.int .i64 0) rfl
  have cf := bk_thaw h
  have HS := hide (set_cell_same (j := 35) (v := .int .i64 0) h rfl)
  clear h
  go_enter Tryz.func82, Tryz.ntmps82
  go_wp2
  refine wp_loop_rounds 1 ?_
  rw [rounds_succ]
  go_wp2
  go_end0
  exact ⟨rfl, HS.out⟩
set_option maxRecDepth 100000 in
set_option maxHeartbeats 1000000 in
theorem bk_growPools {X : Rv} (w : World) (b : Nat) (L M : Value) (A turn done used : Int) (h : w.heap[b]? = some (.cells (bkCells X L M A turn done used) 70 (0, 0))) :
    Calls Tryz.prog 83 #[.pointer (some ⟨b, 0, none⟩)] w fun e w' => e = .returned (.tuple #[]) ∧ w' = w := by
  have c0 := bk_cell h 36 (.slice none 0 0) rfl
  have c2 := bk_cell h 38 (.int .i64 0) rfl
  have cf := bk_thaw h
  have HS := hide (set_cell_same (j := 38) (v := .int .i64 0) h rfl)
  clear h
  go_enter Tryz.func83, Tryz.ntmps83
  go_wp2
  refine wp_loop_rounds 1 ?_
  rw [rounds_succ]
  go_wp2
  go_end0
  exact ⟨rfl, HS.out⟩
set_option maxRecDepth 100000 in
set_option maxHeartbeats 1000000 in
theorem bk_growActs {X : Rv} (w : World) (b : Nat) (L M : Value) (A turn done used : Int) (h : w.heap[b]? = some (.cells (bkCells X L M A turn done used) 70 (0, 0))) :
    Calls Tryz.prog 84 #[.pointer (some ⟨b, 0, none⟩)] w fun e w' => e = .returned (.tuple #[]) ∧ w' = w := by
  have c0 := bk_cell h 39 (.slice none 0 0) rfl
  have c2 := bk_cell h 41 (.int .i64 0) rfl
  have cf := bk_thaw h
  have HS := hide (set_cell_same (j := 41) (v := .int .i64 0) h rfl)
  clear h
  go_enter Tryz.func84, Tryz.ntmps84
  go_wp2
  refine wp_loop_rounds 1 ?_
  rw [rounds_succ]
  go_wp2
  go_end0
  exact ⟨rfl, HS.out⟩
set_option maxRecDepth 100000 in
set_option maxHeartbeats 1000000 in
theorem bk_growEntries {X : Rv} (w : World) (b : Nat) (L M : Value) (A turn done used : Int) (h : w.heap[b]? = some (.cells (bkCells X L M A turn done used) 70 (0, 0))) :
    Calls Tryz.prog 85 #[.pointer (some ⟨b, 0, none⟩)] w fun e w' => e = .returned (.tuple #[]) ∧ w' = w := by
  have c0 := bk_cell h 42 (.slice none 0 0) rfl
  have c2 := bk_cell h 44 (.int .i64 0) rfl
  have cf := bk_thaw h
  have HS := hide (set_cell_same (j := 44) (v := .int .i64 0) h rfl)
  clear h
  go_enter Tryz.func85, Tryz.ntmps85
  go_wp2
  refine wp_loop_rounds 1 ?_
  rw [rounds_succ]
  go_wp2
  go_end0
  exact ⟨rfl, HS.out⟩
set_option maxRecDepth 100000 in
set_option maxHeartbeats 1000000 in
theorem bk_growFlights {X : Rv} (w : World) (b : Nat) (L M : Value) (A turn done used : Int) (h : w.heap[b]? = some (.cells (bkCells X L M A turn done used) 70 (0, 0))) :
    Calls Tryz.prog 86 #[.pointer (some ⟨b, 0, none⟩)] w fun e w' => e = .returned (.tuple #[]) ∧ w' = w := by
  have c0 := bk_cell h 45 (.slice none 0 0) rfl
  have c2 := bk_cell h 47 (.int .i64 0) rfl
  have cf := bk_thaw h
  have HS := hide (set_cell_same (j := 47) (v := .int .i64 0) h rfl)
  clear h
  go_enter Tryz.func86, Tryz.ntmps86
  go_wp2
  refine wp_loop_rounds 1 ?_
  rw [rounds_succ]
  go_wp2
  go_end0
  exact ⟨rfl, HS.out⟩
set_option maxRecDepth 100000 in
set_option maxHeartbeats 1000000 in
theorem bk_growFiles {X : Rv} (w : World) (b : Nat) (L M : Value) (A turn done used : Int) (h : w.heap[b]? = some (.cells (bkCells X L M A turn done used) 70 (0, 0))) :
    Calls Tryz.prog 87 #[.pointer (some ⟨b, 0, none⟩)] w fun e w' => e = .returned (.tuple #[]) ∧ w' = w := by
  have c0 := bk_cell h 48 (.slice none 0 0) rfl
  have c2 := bk_cell h 50 (.int .i64 0) rfl
  have cf := bk_thaw h
  have HS := hide (set_cell_same (j := 50) (v := .int .i64 0) h rfl)
  clear h
  go_enter Tryz.func87, Tryz.ntmps87
  go_wp2
  refine wp_loop_rounds 1 ?_
  rw [rounds_succ]
  go_wp2
  go_end0
  exact ⟨rfl, HS.out⟩
set_option maxRecDepth 100000 in
set_option maxHeartbeats 1000000 in
theorem bk_growItems {X : Rv} (w : World) (b : Nat) (L M : Value) (A turn done used : Int) (h : w.heap[b]? = some (.cells (bkCells X L M A turn done used) 70 (0, 0))) :
    Calls Tryz.prog 88 #[.pointer (some ⟨b, 0, none⟩)] w fun e w' => e = .returned (.tuple #[]) ∧ w' = w := by
  have c0 := bk_cell h 51 (.slice none 0 0) rfl
  have c2 := bk_cell h 53 (.int .i64 0) rfl
  have cf := bk_thaw h
  have HS := hide (set_cell_same (j := 53) (v := .int .i64 0) h rfl)
  clear h
  go_enter Tryz.func88, Tryz.ntmps88
  go_wp2
  refine wp_loop_rounds 1 ?_
  rw [rounds_succ]
  go_wp2
  go_end0
  exact ⟨rfl, HS.out⟩
end Go.Proofs.YtjcdnclfakmbpaaGreatDoor.V
