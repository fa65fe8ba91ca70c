import Derived.Test.YthgggjdefhgfiaaNLend
namespace Go.Proofs.Ythgggjdefhgfiaa
open Go.RowKit

/-- The cells of a Book that has lists of bytes alone: the lists, their marks, how many have grown; the turn, the turn at which all had grown, how much is kept. -/
def bkCells (L M : Value) (A turn done used : Int) : Array Value := #[L, M, .int .i64 A, .slice none 0 0, .slice none 0 0, .int .i64 0, .slice none 0 0, .slice none 0 0, .int .i64 0, .slice none 0 0, .slice none 0 0, .int .i64 0, .slice none 0 0, .slice none 0 0, .int .i64 0, .slice none 0 0, .slice none 0 0, .int .i64 0, .slice none 0 0, .slice none 0 0, .int .i64 0, .slice none 0 0, .slice none 0 0, .int .i64 0, .slice none 0 0, .slice none 0 0, .int .i64 0, .slice none 0 0, .slice none 0 0, .int .i64 0, .slice none 0 0, .slice none 0 0, .int .i64 0, .slice none 0 0, .slice none 0 0, .int .i64 0, .slice none 0 0, .slice none 0 0, .int .i64 0, .slice none 0 0, .slice none 0 0, .int .i64 0, .slice none 0 0, .slice none 0 0, .int .i64 0, .slice none 0 0, .slice none 0 0, .int .i64 0, .slice none 0 0, .slice none 0 0, .int .i64 0, .slice none 0 0, .slice none 0 0, .int .i64 0, .int .i64 turn, .int .i64 done, .int .i64 used]

theorem bk_cell {w : World} {b : Nat} {C : Array Value} {t : TypeId} (h : w.heap[b]? = some (.cells C t (0, 0))) (j : Nat) (v : Value) (hj : C[j]? = some v) : w.cell? ⟨b, j, none⟩ = some v := by simp only [World.cell?, h]; exact hj
theorem bk_thaw {w : World} {b : Nat} {C : Array Value} {t : TypeId} (h : w.heap[b]? = some (.cells C t (0, 0))) (j : Nat) : w.frozen? ⟨b, j, none⟩ = false := by simp [World.frozen?, h]
theorem set_cell_same {w : World} {b j : Nat} {C : Array Value} {t : TypeId} {v : Value} (h : w.heap[b]? = some (.cells C t (0, 0))) (hj : C[j]? = some v) : w.setCell ⟨b, j, none⟩ v = w := by
  rw [setCell_eq_setRow w b j _ _ _ _ h]
  have e : C.setIfInBounds j v = C := by
    apply Array.ext_getElem?
    intro i
    rw [Array.getElem?_setIfInBounds]
    split
    · rename_i h'; subst h'
      have := (Array.getElem?_eq_some_iff.1 hj).1
      rw [if_pos this, hj]
    · rfl
  rw [e]
  exact setRow_self w b _ t _ h

set_option maxRecDepth 100000 in
set_option maxHeartbeats 1000000 in
theorem bk_kept (w : World) (b : Nat) (L M : Value) (A turn done used : Int) (h : w.heap[b]? = some (.cells (bkCells L M A turn done used) 50 (0, 0))) :
    Calls Try.prog 53 #[.pointer (some ⟨b, 0, none⟩)] w fun e w' => e = .returned (.bool true) ∧ w' = w := by
  have c6 := bk_cell h 6 (.slice none 0 0) rfl
  have c9 := bk_cell h 9 (.slice none 0 0) rfl
  have c12 := bk_cell h 12 (.slice none 0 0) rfl
  have c15 := bk_cell h 15 (.slice none 0 0) rfl
  clear h
  go_enter Try.func53, Try.ntmps53
  go_wp2
  refine wp_loop_rounds 1 ?_
  rw [rounds_succ]
  go_wp2
  refine wp_loop_rounds 1 ?_
  rw [rounds_succ]
  go_wp2
  refine wp_loop_rounds 1 ?_
  rw [rounds_succ]
  go_wp2
  refine wp_loop_rounds 1 ?_
  rw [rounds_succ]
  go_wp2
  go_ret
  exact ⟨rfl, rfl⟩

set_option maxRecDepth 100000 in
set_option maxHeartbeats 1000000 in
theorem bk_told (w : World) (b : Nat) (L M : Value) (A turn done used : Int) (h : w.heap[b]? = some (.cells (bkCells L M A turn done used) 50 (0, 0))) :
    Calls Try.prog 54 #[.pointer (some ⟨b, 0, none⟩)] w fun e w' => e = .returned (.bool true) ∧ w' = w := by
  have c18 := bk_cell h 18 (.slice none 0 0) rfl
  have c21 := bk_cell h 21 (.slice none 0 0) rfl
  have c24 := bk_cell h 24 (.slice none 0 0) rfl
  have c27 := bk_cell h 27 (.slice none 0 0) rfl
  clear h
  go_enter Try.func54, Try.ntmps54
  go_wp2
  refine wp_loop_rounds 1 ?_
  rw [rounds_succ]
  go_wp2
  refine wp_loop_rounds 1 ?_
  rw [rounds_succ]
  go_wp2
  refine wp_loop_rounds 1 ?_
  rw [rounds_succ]
  go_wp2
  refine wp_loop_rounds 1 ?_
  rw [rounds_succ]
  go_wp2
  go_ret
  exact ⟨rfl, rfl⟩

set_option maxRecDepth 100000 in
set_option maxHeartbeats 1000000 in
theorem bk_held (w : World) (b : Nat) (L M : Value) (A turn done used : Int) (h : w.heap[b]? = some (.cells (bkCells L M A turn done used) 50 (0, 0))) :
    Calls Try.prog 55 #[.pointer (some ⟨b, 0, none⟩)] w fun e w' => e = .returned (.bool true) ∧ w' = w := by
  have c30 := bk_cell h 30 (.slice none 0 0) rfl
  have c33 := bk_cell h 33 (.slice none 0 0) rfl
  have c36 := bk_cell h 36 (.slice none 0 0) rfl
  have c39 := bk_cell h 39 (.slice none 0 0) rfl
  clear h
  go_enter Try.func55, Try.ntmps55
  go_wp2
  refine wp_loop_rounds 1 ?_
  rw [rounds_succ]
  go_wp2
  refine wp_loop_rounds 1 ?_
  rw [rounds_succ]
  go_wp2
  refine wp_loop_rounds 1 ?_
  rw [rounds_succ]
  go_wp2
  refine wp_loop_rounds 1 ?_
  rw [rounds_succ]
  go_wp2
  go_ret
  exact ⟨rfl, rfl⟩

set_option maxRecDepth 100000 in
set_option maxHeartbeats 1000000 in
theorem bk_sent (w : World) (b : Nat) (L M : Value) (A turn done used : Int) (h : w.heap[b]? = some (.cells (bkCells L M A turn done used) 50 (0, 0))) :
    Calls Try.prog 56 #[.pointer (some ⟨b, 0, none⟩)] w fun e w' => e = .returned (.bool true) ∧ w' = w := by
  have c42 := bk_cell h 42 (.slice none 0 0) rfl
  have c45 := bk_cell h 45 (.slice none 0 0) rfl
  have c48 := bk_cell h 48 (.slice none 0 0) rfl
  have c51 := bk_cell h 51 (.slice none 0 0) rfl
  clear h
  go_enter Try.func56, Try.ntmps56
  go_wp2
  refine wp_loop_rounds 1 ?_
  rw [rounds_succ]
  go_wp2
  refine wp_loop_rounds 1 ?_
  rw [rounds_succ]
  go_wp2
  refine wp_loop_rounds 1 ?_
  rw [rounds_succ]
  go_wp2
  refine wp_loop_rounds 1 ?_
  rw [rounds_succ]
  go_wp2
  go_ret
  exact ⟨rfl, rfl⟩


/-- An empty Book. -/
def bk0 : Array Value := bkCells (.slice none 0 0) (.slice none 0 0) 0 0 0 0
set_option maxRecDepth 100000 in
set_option maxHeartbeats 1000000 in
theorem bk_plain0 (w : World) (b : Nat) (h : w.heap[b]? = some (.cells bk0 50 (0, 0))) :
    Calls Try.prog 52 #[.pointer (some ⟨b, 0, none⟩)] w fun e w' => e = .returned (.bool true) ∧ w' = w := by
  have c0 := bk_cell h 0 (.slice none 0 0) rfl
  have c3 := bk_cell h 3 (.slice none 0 0) rfl
  clear h
  go_enter Try.func52, Try.ntmps52
  go_wp2
  refine wp_loop_rounds 1 ?_
  rw [rounds_succ]
  go_wp2
  refine wp_loop_rounds 1 ?_
  rw [rounds_succ]
  go_wp2
  go_ret
  exact ⟨rfl, rfl⟩
set_option maxRecDepth 100000 in
set_option maxHeartbeats 400000 in
theorem bk_holds0 (w : World) (b : Nat) (h : w.heap[b]? = some (.cells bk0 50 (0, 0))) :
    Calls Try.prog 39 #[.pointer (some ⟨b, 0, none⟩)] w fun e w' => e = .returned (.bool true) ∧ w' = w := by
  have HB := hide h
  clear h
  go_enter Try.func39, Try.ntmps39
  go_wp2_with fail
  refine (bk_plain0 w b HB.out).mono ?_
  rintro e w2 ⟨rfl, rfl⟩
  go_wp2_with fail
  refine (bk_kept _ b _ _ _ _ _ _ HB.out).mono ?_
  rintro e w2 ⟨rfl, rfl⟩
  go_wp2_with fail
  refine (bk_told _ b _ _ _ _ _ _ HB.out).mono ?_
  rintro e w2 ⟨rfl, rfl⟩
  go_wp2_with fail
  refine (bk_held _ b _ _ _ _ _ _ HB.out).mono ?_
  rintro e w2 ⟨rfl, rfl⟩
  go_wp2_with fail
  refine (bk_sent _ b _ _ _ _ _ _ HB.out).mono ?_
  rintro e w2 ⟨rfl, rfl⟩
  go_wp2
  go_ret
  exact ⟨rfl, rfl⟩
set_option maxRecDepth 100000 in
set_option maxHeartbeats 400000 in
theorem bk_look0 (w : World) (b : Nat) (h : w.heap[b]? = some (.cells bk0 50 (0, 0))) :
    Calls Try.prog 8 #[.pointer (some ⟨b, 0, none⟩)] w fun e w' => e = .returned (.bool true) ∧ Below w.heap.size w w' := by
  have HH := hide (bk_holds0 w b h)
  have c54 := bk_cell h 54 (.int .i64 0) rfl
  have c55 := bk_cell h 55 (.int .i64 0) rfl
  clear h
  go_enter Try.func8, Try.ntmps8
  go_wp2_with fail
  refine HH.out.mono ?_
  rintro e w2 ⟨rfl, h9⟩
  have h9 := h9.symm
  subst h9
  go_wp2_with fail
  go_region
  all_goals go_wp2
  all_goals
    go_ret
    exact ⟨rfl, (Below.refl _ _).drew⟩

end Go.Proofs.Ythgggjdefhgfiaa
