import Derived.Test.YtlnldipiofddkaaFew
namespace Go.Proofs.Ytlnldipiofddkaa
open Go.RowKit

/-- The cells of a Book that has lists of bytes alone: the lists, their marks, how many have grown; the turn, the turn at which all had grown, how much is kept. -/
def bkCells (L M : Value) (A turn done used : Int) : Array Value := #[L, M, .int .i64 A, .slice none 0 0, .slice none 0 0, .int .i64 0, .slice none 0 0, .slice none 0 0, .int .i64 0, .slice none 0 0, .slice none 0 0, .int .i64 0, .slice none 0 0, .slice none 0 0, .int .i64 0, .slice none 0 0, .slice none 0 0, .int .i64 0, .slice none 0 0, .slice none 0 0, .int .i64 0, .slice none 0 0, .slice none 0 0, .int .i64 0, .slice none 0 0, .slice none 0 0, .int .i64 0, .slice none 0 0, .slice none 0 0, .int .i64 0, .slice none 0 0, .slice none 0 0, .int .i64 0, .slice none 0 0, .slice none 0 0, .int .i64 0, .slice none 0 0, .slice none 0 0, .int .i64 0, .slice none 0 0, .slice none 0 0, .int .i64 0, .slice none 0 0, .slice none 0 0, .int .i64 0, .slice none 0 0, .slice none 0 0, .int .i64 0, .slice none 0 0, .slice none 0 0, .int .i64 0, .slice none 0 0, .slice none 0 0, .int .i64 0, .int .i64 turn, .int .i64 done, .int .i64 used]

theorem bk_cell {w : World} {b : Nat} {C : Array Value} {t : TypeId} (h : w.heap[b]? = some (.cells C t (0, 0))) (j : Nat) (v : Value) (hj : C[j]? = some v) : w.cell? ⟨b, j, none⟩ = some v := by simp only [World.cell?, h]; exact hj
theorem bk_thaw {w : World} {b : Nat} {C : Array Value} {t : TypeId} (h : w.heap[b]? = some (.cells C t (0, 0))) (j : Nat) : w.frozen? ⟨b, j, none⟩ = false := by simp [World.frozen?, h]
theorem set_cell_same {w : World} {b j : Nat} {C : Array Value} {t : TypeId} {v : Value} (h : w.heap[b]? = some (.cells C t (0, 0))) (hj : C[j]? = some v) : w.setCell ⟨b, j, none⟩ v = w := by
  rw [setCell_eq_setRow w b j _ _ _ _ h]
  have e : C.setIfInBounds j v = C := by
    apply Array.ext_getElem?
    intro i
    rw [Array.getElem?_setIfInBounds]
    split
    · rename_i h'; subst h'
      have := (Array.getElem?_eq_some_iff.1 hj).1
      rw [if_pos this, hj]
    · rfl
  rw [e]
  exact setRow_self w b _ t _ h

set_option maxRecDepth 100000 in
set_option maxHeartbeats 1000000 in
theorem bk_kept (w : World) (b : Nat) (L M : Value) (A turn done used : Int) (h : w.heap[b]? = some (.cells (bkCells L M A turn done used) 74 (0, 0))) :
    Calls Try.prog 75 #[.pointer (some ⟨b, 0, none⟩)] w fun e w' => e = .returned (.bool true) ∧ w' = w := by
  have c6 := bk_cell h 6 (.slice none 0 0) rfl
  have c9 := bk_cell h 9 (.slice none 0 0) rfl
  have c12 := bk_cell h 12 (.slice none 0 0) rfl
  have c15 := bk_cell h 15 (.slice none 0 0) rfl
  clear h
  go_enter Try.func75, Try.ntmps75
  go_wp2
  refine wp_loop_rounds 1 ?_
  rw [rounds_succ]
  go_wp2
  refine wp_loop_rounds 1 ?_
  rw [rounds_succ]
  go_wp2
  refine wp_loop_rounds 1 ?_
  rw [rounds_succ]
  go_wp2
  refine wp_loop_rounds 1 ?_
  rw [rounds_succ]
  go_wp2
  go_ret
  exact ⟨rfl, rfl⟩

set_option maxRecDepth 100000 in
set_option maxHeartbeats 1000000 in
theorem bk_told (w : World) (b : Nat) (L M : Value) (A turn done used : Int) (h : w.heap[b]? = some (.cells (bkCells L M A turn done used) 74 (0, 0))) :
    Calls Try.prog 76 #[.pointer (some ⟨b, 0, none⟩)] w fun e w' => e = .returned (.bool true) ∧ w' = w := by
  have c18 := bk_cell h 18 (.slice none 0 0) rfl
  have c21 := bk_cell h 21 (.slice none 0 0) rfl
  have c24 := bk_cell h 24 (.slice none 0 0) rfl
  have c27 := bk_cell h 27 (.slice none 0 0) rfl
  clear h
  go_enter Try.func76, Try.ntmps76
  go_wp2
  refine wp_loop_rounds 1 ?_
  rw [rounds_succ]
  go_wp2
  refine wp_loop_rounds 1 ?_
  rw [rounds_succ]
  go_wp2
  refine wp_loop_rounds 1 ?_
  rw [rounds_succ]
  go_wp2
  refine wp_loop_rounds 1 ?_
  rw [rounds_succ]
  go_wp2
  go_ret
  exact ⟨rfl, rfl⟩

set_option maxRecDepth 100000 in
set_option maxHeartbeats 1000000 in
theorem bk_held (w : World) (b : Nat) (L M : Value) (A turn done used : Int) (h : w.heap[b]? = some (.cells (bkCells L M A turn done used) 74 (0, 0))) :
    Calls Try.prog 77 #[.pointer (some ⟨b, 0, none⟩)] w fun e w' => e = .returned (.bool true) ∧ w' = w := by
  have c30 := bk_cell h 30 (.slice none 0 0) rfl
  have c33 := bk_cell h 33 (.slice none 0 0) rfl
  have c36 := bk_cell h 36 (.slice none 0 0) rfl
  have c39 := bk_cell h 39 (.slice none 0 0) rfl
  clear h
  go_enter Try.func77, Try.ntmps77
  go_wp2
  refine wp_loop_rounds 1 ?_
  rw [rounds_succ]
  go_wp2
  refine wp_loop_rounds 1 ?_
  rw [rounds_succ]
  go_wp2
  refine wp_loop_rounds 1 ?_
  rw [rounds_succ]
  go_wp2
  refine wp_loop_rounds 1 ?_
  rw [rounds_succ]
  go_wp2
  go_ret
  exact ⟨rfl, rfl⟩

set_option maxRecDepth 100000 in
set_option maxHeartbeats 1000000 in
theorem bk_sent (w : World) (b : Nat) (L M : Value) (A turn done used : Int) (h : w.heap[b]? = some (.cells (bkCells L M A turn done used) 74 (0, 0))) :
    Calls Try.prog 78 #[.pointer (some ⟨b, 0, none⟩)] w fun e w' => e = .returned (.bool true) ∧ w' = w := by
  have c42 := bk_cell h 42 (.slice none 0 0) rfl
  have c45 := bk_cell h 45 (.slice none 0 0) rfl
  have c48 := bk_cell h 48 (.slice none 0 0) rfl
  have c51 := bk_cell h 51 (.slice none 0 0) rfl
  clear h
  go_enter Try.func78, Try.ntmps78
  go_wp2
  refine wp_loop_rounds 1 ?_
  rw [rounds_succ]
  go_wp2
  refine wp_loop_rounds 1 ?_
  rw [rounds_succ]
  go_wp2
  refine wp_loop_rounds 1 ?_
  rw [rounds_succ]
  go_wp2
  refine wp_loop_rounds 1 ?_
  rw [rounds_succ]
  go_wp2
  go_ret
  exact ⟨rfl, rfl⟩

set_option maxRecDepth 100000 in
set_option maxHeartbeats 1000000 in
theorem bk_growRows (w : World) (b : Nat) (L M : Value) (A turn done used : Int) (h : w.heap[b]? = some (.cells (bkCells L M A turn done used) 74 (0, 0))) :
    Calls Try.prog 80 #[.pointer (some ⟨b, 0, none⟩)] w fun e w' => e = .returned (.tuple #[]) ∧ w' = w := by
  have c0 := bk_cell h 3 (.slice none 0 0) rfl
  have c2 := bk_cell h 5 (.int .i64 0) rfl
  have cf := bk_thaw h
  have HS := hide (set_cell_same (j := 5) (v := .int .i64 0) h rfl)
  clear h
  go_enter Try.func80, Try.ntmps80
  go_wp2
  refine wp_loop_rounds 1 ?_
  rw [rounds_succ]
  go_wp2
  go_end0
  exact ⟨rfl, HS.out⟩

set_option maxRecDepth 100000 in
set_option maxHeartbeats 1000000 in
theorem bk_growTexts (w : World) (b : Nat) (L M : Value) (A turn done used : Int) (h : w.heap[b]? = some (.cells (bkCells L M A turn done used) 74 (0, 0))) :
    Calls Try.prog 81 #[.pointer (some ⟨b, 0, none⟩)] w fun e w' => e = .returned (.tuple #[]) ∧ w' = w := by
  have c0 := bk_cell h 6 (.slice none 0 0) rfl
  have c2 := bk_cell h 8 (.int .i64 0) rfl
  have cf := bk_thaw h
  have HS := hide (set_cell_same (j := 8) (v := .int .i64 0) h rfl)
  clear h
  go_enter Try.func81, Try.ntmps81
  go_wp2
  refine wp_loop_rounds 1 ?_
  rw [rounds_succ]
  go_wp2
  go_end0
  exact ⟨rfl, HS.out⟩

set_option maxRecDepth 100000 in
set_option maxHeartbeats 1000000 in
theorem bk_growInts (w : World) (b : Nat) (L M : Value) (A turn done used : Int) (h : w.heap[b]? = some (.cells (bkCells L M A turn done used) 74 (0, 0))) :
    Calls Try.prog 82 #[.pointer (some ⟨b, 0, none⟩)] w fun e w' => e = .returned (.tuple #[]) ∧ w' = w := by
  have c0 := bk_cell h 9 (.slice none 0 0) rfl
  have c2 := bk_cell h 11 (.int .i64 0) rfl
  have cf := bk_thaw h
  have HS := hide (set_cell_same (j := 11) (v := .int .i64 0) h rfl)
  clear h
  go_enter Try.func82, Try.ntmps82
  go_wp2
  refine wp_loop_rounds 1 ?_
  rw [rounds_succ]
  go_wp2
  go_end0
  exact ⟨rfl, HS.out⟩

set_option maxRecDepth 100000 in
set_option maxHeartbeats 1000000 in
theorem bk_growWords (w : World) (b : Nat) (L M : Value) (A turn done used : Int) (h : w.heap[b]? = some (.cells (bkCells L M A turn done used) 74 (0, 0))) :
    Calls Try.prog 83 #[.pointer (some ⟨b, 0, none⟩)] w fun e w' => e = .returned (.tuple #[]) ∧ w' = w := by
  have c0 := bk_cell h 12 (.slice none 0 0) rfl
  have c2 := bk_cell h 14 (.int .i64 0) rfl
  have cf := bk_thaw h
  have HS := hide (set_cell_same (j := 14) (v := .int .i64 0) h rfl)
  clear h
  go_enter Try.func83, Try.ntmps83
  go_wp2
  refine wp_loop_rounds 1 ?_
  rw [rounds_succ]
  go_wp2
  go_end0
  exact ⟨rfl, HS.out⟩

set_option maxRecDepth 100000 in
set_option maxHeartbeats 1000000 in
theorem bk_growBools (w : World) (b : Nat) (L M : Value) (A turn done used : Int) (h : w.heap[b]? = some (.cells (bkCells L M A turn done used) 74 (0, 0))) :
    Calls Try.prog 84 #[.pointer (some ⟨b, 0, none⟩)] w fun e w' => e = .returned (.tuple #[]) ∧ w' = w := by
  have c0 := bk_cell h 15 (.slice none 0 0) rfl
  have c2 := bk_cell h 17 (.int .i64 0) rfl
  have cf := bk_thaw h
  have HS := hide (set_cell_same (j := 17) (v := .int .i64 0) h rfl)
  clear h
  go_enter Try.func84, Try.ntmps84
  go_wp2
  refine wp_loop_rounds 1 ?_
  rw [rounds_succ]
  go_wp2
  go_end0
  exact ⟨rfl, HS.out⟩

set_option maxRecDepth 100000 in
set_option maxHeartbeats 1000000 in
theorem bk_growLines (w : World) (b : Nat) (L M : Value) (A turn done used : Int) (h : w.heap[b]? = some (.cells (bkCells L M A turn done used) 74 (0, 0))) :
    Calls Try.prog 85 #[.pointer (some ⟨b, 0, none⟩)] w fun e w' => e = .returned (.tuple #[]) ∧ w' = w := by
  have c0 := bk_cell h 18 (.slice none 0 0) rfl
  have c2 := bk_cell h 20 (.int .i64 0) rfl
  have cf := bk_thaw h
  have HS := hide (set_cell_same (j := 20) (v := .int .i64 0) h rfl)
  clear h
  go_enter Try.func85, Try.ntmps85
  go_wp2
  refine wp_loop_rounds 1 ?_
  rw [rounds_succ]
  go_wp2
  go_end0
  exact ⟨rfl, HS.out⟩

set_option maxRecDepth 100000 in
set_option maxHeartbeats 1000000 in
theorem bk_growGuards (w : World) (b : Nat) (L M : Value) (A turn done used : Int) (h : w.heap[b]? = some (.cells (bkCells L M A turn done used) 74 (0, 0))) :
    Calls Try.prog 86 #[.pointer (some ⟨b, 0, none⟩)] w fun e w' => e = .returned (.tuple #[]) ∧ w' = w := by
  have c0 := bk_cell h 21 (.slice none 0 0) rfl
  have c2 := bk_cell h 23 (.int .i64 0) rfl
  have cf := bk_thaw h
  have HS := hide (set_cell_same (j := 23) (v := .int .i64 0) h rfl)
  clear h
  go_enter Try.func86, Try.ntmps86
  go_wp2
  refine wp_loop_rounds 1 ?_
  rw [rounds_succ]
  go_wp2
  go_end0
  exact ⟨rfl, HS.out⟩

set_option maxRecDepth 100000 in
set_option maxHeartbeats 1000000 in
theorem bk_growSets (w : World) (b : Nat) (L M : Value) (A turn done used : Int) (h : w.heap[b]? = some (.cells (bkCells L M A turn done used) 74 (0, 0))) :
    Calls Try.prog 87 #[.pointer (some ⟨b, 0, none⟩)] w fun e w' => e = .returned (.tuple #[]) ∧ w' = w := by
  have c0 := bk_cell h 24 (.slice none 0 0) rfl
  have c2 := bk_cell h 26 (.int .i64 0) rfl
  have cf := bk_thaw h
  have HS := hide (set_cell_same (j := 26) (v := .int .i64 0) h rfl)
  clear h
  go_enter Try.func87, Try.ntmps87
  go_wp2
  refine wp_loop_rounds 1 ?_
  rw [rounds_succ]
  go_wp2
  go_end0
  exact ⟨rfl, HS.out⟩

set_option maxRecDepth 100000 in
set_option maxHeartbeats 1000000 in
theorem bk_growRights (w : World) (b : Nat) (L M : Value) (A turn done used : Int) (h : w.heap[b]? = some (.cells (bkCells L M A turn done used) 74 (0, 0))) :
    Calls Try.prog 88 #[.pointer (some ⟨b, 0, none⟩)] w fun e w' => e = .returned (.tuple #[]) ∧ w' = w := by
  have c0 := bk_cell h 27 (.slice none 0 0) rfl
  have c2 := bk_cell h 29 (.int .i64 0) rfl
  have cf := bk_thaw h
  have HS := hide (set_cell_same (j := 29) (v := .int .i64 0) h rfl)
  clear h
  go_enter Try.func88, Try.ntmps88
  go_wp2
  refine wp_loop_rounds 1 ?_
  rw [rounds_succ]
  go_wp2
  go_end0
  exact ⟨rfl, HS.out⟩

set_option maxRecDepth 100000 in
set_option maxHeartbeats 1000000 in
theorem bk_growPrices (w : World) (b : Nat) (L M : Value) (A turn done used : Int) (h : w.heap[b]? = some (.cells (bkCells L M A turn done used) 74 (0, 0))) :
    Calls Try.prog 89 #[.pointer (some ⟨b, 0, none⟩)] w fun e w' => e = .returned (.tuple #[]) ∧ w' = w := by
  have c0 := bk_cell h 30 (.slice none 0 0) rfl
  have c2 := bk_cell h 32 (.int .i64 0) rfl
  have cf := bk_thaw h
  have HS := hide (set_cell_same (j := 32) (v := .int .i64 0) h rfl)
  clear h
  go_enter Try.func89, Try.ntmps89
  go_wp2
  refine wp_loop_rounds 1 ?_
  rw [rounds_succ]
  go_wp2
  go_end0
  exact ⟨rfl, HS.out⟩

set_option maxRecDepth 100000 in
set_option maxHeartbeats 1000000 in
theorem bk_growHelds (w : World) (b : Nat) (L M : Value) (A turn done used : Int) (h : w.heap[b]? = some (.cells (bkCells L M A turn done used) 74 (0, 0))) :
    Calls Try.prog 90 #[.pointer (some ⟨b, 0, none⟩)] w fun e w' => e = .returned (.tuple #[]) ∧ w' = w := by
  have c0 := bk_cell h 33 (.slice none 0 0) rfl
  have c2 := bk_cell h 35 (.int .i64 0) rfl
  have cf := bk_thaw h
  have HS := hide (set_cell_same (j := 35) (v := .int .i64 0) h rfl)
  clear h
  go_enter Try.func90, Try.ntmps90
  go_wp2
  refine wp_loop_rounds 1 ?_
  rw [rounds_succ]
  go_wp2
  go_end0
  exact ⟨rfl, HS.out⟩

set_option maxRecDepth 100000 in
set_option maxHeartbeats 1000000 in
theorem bk_growPools (w : World) (b : Nat) (L M : Value) (A turn done used : Int) (h : w.heap[b]? = some (.cells (bkCells L M A turn done used) 74 (0, 0))) :
    Calls Try.prog 91 #[.pointer (some ⟨b, 0, none⟩)] w fun e w' => e = .returned (.tuple #[]) ∧ w' = w := by
  have c0 := bk_cell h 36 (.slice none 0 0) rfl
  have c2 := bk_cell h 38 (.int .i64 0) rfl
  have cf := bk_thaw h
  have HS := hide (set_cell_same (j := 38) (v := .int .i64 0) h rfl)
  clear h
  go_enter Try.func91, Try.ntmps91
  go_wp2
  refine wp_loop_rounds 1 ?_
  rw [rounds_succ]
  go_wp2
  go_end0
  exact ⟨rfl, HS.out⟩

set_option maxRecDepth 100000 in
set_option maxHeartbeats 1000000 in
theorem bk_growActs (w : World) (b : Nat) (L M : Value) (A turn done used : Int) (h : w.heap[b]? = some (.cells (bkCells L M A turn done used) 74 (0, 0))) :
    Calls Try.prog 92 #[.pointer (some ⟨b, 0, none⟩)] w fun e w' => e = .returned (.tuple #[]) ∧ w' = w := by
  have c0 := bk_cell h 39 (.slice none 0 0) rfl
  have c2 := bk_cell h 41 (.int .i64 0) rfl
  have cf := bk_thaw h
  have HS := hide (set_cell_same (j := 41) (v := .int .i64 0) h rfl)
  clear h
  go_enter Try.func92, Try.ntmps92
  go_wp2
  refine wp_loop_rounds 1 ?_
  rw [rounds_succ]
  go_wp2
  go_end0
  exact ⟨rfl, HS.out⟩

set_option maxRecDepth 100000 in
set_option maxHeartbeats 1000000 in
theorem bk_growEntries (w : World) (b : Nat) (L M : Value) (A turn done used : Int) (h : w.heap[b]? = some (.cells (bkCells L M A turn done used) 74 (0, 0))) :
    Calls Try.prog 93 #[.pointer (some ⟨b, 0, none⟩)] w fun e w' => e = .returned (.tuple #[]) ∧ w' = w := by
  have c0 := bk_cell h 42 (.slice none 0 0) rfl
  have c2 := bk_cell h 44 (.int .i64 0) rfl
  have cf := bk_thaw h
  have HS := hide (set_cell_same (j := 44) (v := .int .i64 0) h rfl)
  clear h
  go_enter Try.func93, Try.ntmps93
  go_wp2
  refine wp_loop_rounds 1 ?_
  rw [rounds_succ]
  go_wp2
  go_end0
  exact ⟨rfl, HS.out⟩

set_option maxRecDepth 100000 in
set_option maxHeartbeats 1000000 in
theorem bk_growFlights (w : World) (b : Nat) (L M : Value) (A turn done used : Int) (h : w.heap[b]? = some (.cells (bkCells L M A turn done used) 74 (0, 0))) :
    Calls Try.prog 94 #[.pointer (some ⟨b, 0, none⟩)] w fun e w' => e = .returned (.tuple #[]) ∧ w' = w := by
  have c0 := bk_cell h 45 (.slice none 0 0) rfl
  have c2 := bk_cell h 47 (.int .i64 0) rfl
  have cf := bk_thaw h
  have HS := hide (set_cell_same (j := 47) (v := .int .i64 0) h rfl)
  clear h
  go_enter Try.func94, Try.ntmps94
  go_wp2
  refine wp_loop_rounds 1 ?_
  rw [rounds_succ]
  go_wp2
  go_end0
  exact ⟨rfl, HS.out⟩

set_option maxRecDepth 100000 in
set_option maxHeartbeats 1000000 in
theorem bk_growFiles (w : World) (b : Nat) (L M : Value) (A turn done used : Int) (h : w.heap[b]? = some (.cells (bkCells L M A turn done used) 74 (0, 0))) :
    Calls Try.prog 95 #[.pointer (some ⟨b, 0, none⟩)] w fun e w' => e = .returned (.tuple #[]) ∧ w' = w := by
  have c0 := bk_cell h 48 (.slice none 0 0) rfl
  have c2 := bk_cell h 50 (.int .i64 0) rfl
  have cf := bk_thaw h
  have HS := hide (set_cell_same (j := 50) (v := .int .i64 0) h rfl)
  clear h
  go_enter Try.func95, Try.ntmps95
  go_wp2
  refine wp_loop_rounds 1 ?_
  rw [rounds_succ]
  go_wp2
  go_end0
  exact ⟨rfl, HS.out⟩

set_option maxRecDepth 100000 in
set_option maxHeartbeats 1000000 in
theorem bk_growItems (w : World) (b : Nat) (L M : Value) (A turn done used : Int) (h : w.heap[b]? = some (.cells (bkCells L M A turn done used) 74 (0, 0))) :
    Calls Try.prog 96 #[.pointer (some ⟨b, 0, none⟩)] w fun e w' => e = .returned (.tuple #[]) ∧ w' = w := by
  have c0 := bk_cell h 51 (.slice none 0 0) rfl
  have c2 := bk_cell h 53 (.int .i64 0) rfl
  have cf := bk_thaw h
  have HS := hide (set_cell_same (j := 53) (v := .int .i64 0) h rfl)
  clear h
  go_enter Try.func96, Try.ntmps96
  go_wp2
  refine wp_loop_rounds 1 ?_
  rw [rounds_succ]
  go_wp2
  go_end0
  exact ⟨rfl, HS.out⟩

end Go.Proofs.Ytlnldipiofddkaa
