import Derived.Test.YtfdanocpbhbieaaGreatNdW
import Derived.Laws.CopyRow
import Derived.Laws.Tables
namespace Go.Proofs.YtfdanocpbhbieaaGreat.RB
open Go.RowKit Go.Proofs.YtfdanocpbhbieaaGreat

structure But (b : Nat) (w w' : World) : Prop where
  os : w'.os = w.os
  tape : w'.tape = w.tape
  output : w'.output = w.output
  size : w.heap.size ≤ w'.heap.size
  block : ∀ k, k < w.heap.size → k ≠ b → w'.heap[k]? = w.heap[k]?
theorem But.refl (b : Nat) (w : World) : But b w w := ⟨rfl, rfl, rfl, Nat.le_refl _, fun _ _ _ => rfl⟩
theorem But.setCell {b : Nat} {w w' : World} (h : But b w w') {p : Addr} (hp : p.block = b ∨ w.heap.size ≤ p.block) (u : Value) : But b w (w'.setCell p u) :=
  ⟨h.os, h.tape, h.output, by have := h.size; simp [World.setCell]; omega, fun k hk hb => by rw [Below.heap_setCell _ _ _ _ (by omega)]; exact h.block k hk hb⟩
structure Kept (S : Nat → Prop) (w w' : World) : Prop where
  os : w'.os = w.os
  tape : w'.tape = w.tape
  output : w'.output = w.output
  size : w.heap.size ≤ w'.heap.size
  block : ∀ k, k < w.heap.size → ¬ S k → w'.heap[k]? = w.heap[k]?
theorem Kept.refl (S : Nat → Prop) (w : World) : Kept S w w := ⟨rfl, rfl, rfl, Nat.le_refl _, fun _ _ _ => rfl⟩
theorem Kept.trans {S T : Nat → Prop} {w1 w2 w3 : World} (h : Kept S w1 w2) (k : Kept T w2 w3) (hT : ∀ i, T i → S i ∨ w1.heap.size ≤ i) : Kept S w1 w3 :=
  ⟨k.os.trans h.os, k.tape.trans h.tape, k.output.trans h.output, Nat.le_trans h.size k.size, fun i hi hn => (k.block i (Nat.lt_of_lt_of_le hi h.size) (fun t => (hT i t).elim hn (fun e => by omega))).trans (h.block i hi hn)⟩
theorem kept_below {S : Nat → Prop} {w w' : World} (h : Below w.heap.size w w') : Kept S w w' := ⟨h.os, h.tape, h.output, h.size, fun k hk _ => h.block k hk⟩
theorem kept_grown {r : Option Nat} {w w' : World} (h : w.grownBy w' r) : Kept (fun k => some k = r) w w' := ⟨h.os, h.tape, h.output, h.size, fun k hk hn => h.block k hk hn⟩
theorem kept_but {b : Nat} {w w' : World} (h : But b w w') : Kept (fun k => k = b) w w' := ⟨h.os, h.tape, h.output, h.size, fun k hk hn => h.block k hk hn⟩
def Far (v h : Value) : Prop := ∀ g, v.ownBlock = some g → h.ownBlock ≠ some g
theorem lt_of_block {w : World} {b : Nat} {o : Obj} (h : w.heap[b]? = some o) : b < w.heap.size := (Array.getElem?_eq_some_iff.1 h).1
theorem block_set {w : World} {g i : Nat} {cs : Array Value} {t : TypeId} {fr : Nat × Nat} (h : w.heap[g]? = some (.cells cs t fr)) (v : Value) : (w.setCell ⟨g, i, none⟩ v).heap[g]? = some (.cells (cs.setIfInBounds i v) t fr) := by
  rw [setCell_eq_setRow w g i cs t fr v h]
  exact setRow_heap w g _ _ t _ h
theorem owns_lt {w : World} {B n s : Nat} {t : TypeId} {v : Value} {xs : List Value} (h : w.ownsRow B t s v n xs) (g : Nat) (e : v.ownBlock = some g) : g < w.heap.size := rk_lt h e
theorem owns_ne {w : World} {B n k s : Nat} {t t' : TypeId} {v : Value} {xs : List Value} {C : Array Value} {fr : Nat × Nat} (h : w.ownsRow B t s v n xs) (hk : w.heap[k]? = some (.cells C t' fr)) (ht : t' ≠ t) : v.ownBlock ≠ some k := fun e => owns_apart h hk ht e.symm
theorem owns_kept' {w w' : World} {B n : Nat} {e : TypeId} {size : Nat} {v : Value} {xs : List Value} (h : w.ownsRow B e size v n xs) (hk : ∀ g, v.ownBlock = some g → w'.heap[g]? = w.heap[g]?) : w'.ownsRow B e size v n xs := owns_same h hk
theorem owns_low {w : World} {B n s : Nat} {t : TypeId} {v : Value} {xs : List Value} (h : w.ownsRow B t s v n xs) (g : Nat) (e : v.ownBlock = some g) : B ≤ g := by
  rcases h.2 with ⟨h1, h2⟩ | ⟨g', cap, cur, h1, hb, hg, _⟩
  · rw [h1] at e; simp [Value.ownBlock] at e
  · rw [h1] at e; simp [Value.ownBlock] at e; omega
theorem rows_far {w : World} {B1 B2 n1 n2 s1 s2 : Nat} {t1 t2 : TypeId} {v1 v2 : Value} {xs1 xs2 : List Value} (h1 : w.ownsRow B1 t1 s1 v1 n1 xs1) (h2 : w.ownsRow B2 t2 s2 v2 n2 xs2) (ht : t1 ≠ t2) : Far v1 v2 := by
  intro g e e'
  rcases h1.2 with ⟨h, _⟩ | ⟨g', cap, cur, h, _, hg, _⟩
  · rw [h] at e; simp [Value.ownBlock] at e
  · rw [h] at e; simp [Value.ownBlock] at e; subst e
    exact owns_ne h2 hg ht e'
theorem row_cell {w : World} {B n k s : Nat} {t : TypeId} {v a : Value} {xs : List Value} (h : w.ownsRow B t s v n xs) (hk : xs[k]? = some a) : ∃ g c, v = .slice (some ⟨g, 0, none⟩) n c ∧ w.cell? ⟨g, k, none⟩ = some a := by
  obtain ⟨a', c, rfl⟩ := slice_form h
  obtain ⟨g, e, _, hc⟩ := YtfdanocpbhbieaaGreat.row_cell h hk
  exact ⟨g, c, by rw [e], hc⟩
theorem bad_drews (w : World) (n : Nat) : Below w.heap.size w (w.drewN n) := ⟨rfl, rfl, rfl, Nat.le_refl _, fun _ _ => rfl⟩
def bkCells (L M : Value) (A turn done used : Int) : Array Value := #[.slice none 0 0, .slice none 0 0, .int .i64 0, .slice none 0 0, .slice none 0 0, .int .i64 0, .slice none 0 0, .slice none 0 0, .int .i64 0, .slice none 0 0, .slice none 0 0, .int .i64 0, .slice none 0 0, .slice none 0 0, .int .i64 0, .slice none 0 0, .slice none 0 0, .int .i64 0, .slice none 0 0, .slice none 0 0, .int .i64 0, .slice none 0 0, .slice none 0 0, .int .i64 0, .slice none 0 0, .slice none 0 0, .int .i64 0, L, M, .int .i64 A, .slice none 0 0, .slice none 0 0, .int .i64 0, .slice none 0 0, .slice none 0 0, .int .i64 0, .slice none 0 0, .slice none 0 0, .int .i64 0, .slice none 0 0, .slice none 0 0, .int .i64 0, .slice none 0 0, .slice none 0 0, .int .i64 0, .slice none 0 0, .slice none 0 0, .int .i64 0, .slice none 0 0, .slice none 0 0, .int .i64 0, .slice none 0 0, .slice none 0 0, .int .i64 0, .int .i64 turn, .int .i64 done, .int .i64 used]
theorem bk_cell {w : World} {b : Nat} {C : Array Value} {t : TypeId} (h : w.heap[b]? = some (.cells C t (0, 0))) (j : Nat) (v : Value) (hj : C[j]? = some v) : w.cell? ⟨b, j, none⟩ = some v := by simp only [World.cell?, h]; exact hj
theorem bk_thaw {w : World} {b : Nat} {C : Array Value} {t : TypeId} (h : w.heap[b]? = some (.cells C t (0, 0))) (j : Nat) : w.frozen? ⟨b, j, none⟩ = false := by simp [World.frozen?, h]
theorem set_cell_same {w : World} {b j : Nat} {C : Array Value} {t : TypeId} {v : Value} (h : w.heap[b]? = some (.cells C t (0, 0))) (hj : C[j]? = some v) : w.setCell ⟨b, j, none⟩ v = w := by
  rw [setCell_eq_setRow w b j _ _ _ _ h]
  have e : C.setIfInBounds j v = C := by
    apply Array.ext_getElem?
    intro i
    rw [Array.getElem?_setIfInBounds]
    split
    · rename_i h'; subst h'
      have := (Array.getElem?_eq_some_iff.1 hj).1
      rw [if_pos this, hj]
    · rfl
  rw [e]
  exact setRow_self w b _ t _ h
end Go.Proofs.YtfdanocpbhbieaaGreat.RB
namespace Go.Proofs.YtfdanocpbhbieaaGreat.RB
open Go.RowKit Go.Proofs.YtfdanocpbhbieaaGreat

set_option maxRecDepth 100000 in
set_option maxHeartbeats 1000000 in
theorem bk_plain (w : World) (b : Nat) (L M : Value) (A turn done used : Int) (h : w.heap[b]? = some (.cells (bkCells L M A turn done used) 44 (0, 0))) :
    Calls Tryz.prog 63 #[.pointer (some ⟨b, 0, none⟩)] w fun e w' => e = .returned (.bool true) ∧ w' = w := by
  have c0 := bk_cell h 0 (.slice none 0 0) rfl
  have c3 := bk_cell h 3 (.slice none 0 0) rfl
  clear h
  go_enter Tryz.func63, Tryz.ntmps63
  go_wp2
  refine wp_loop_rounds 1 ?_
  rw [rounds_succ]
  go_wp2
  refine wp_loop_rounds 1 ?_
  rw [rounds_succ]
  go_wp2
  go_ret
  exact ⟨rfl, rfl⟩

set_option maxRecDepth 100000 in
set_option maxHeartbeats 1000000 in
theorem bk_kept (w : World) (b : Nat) (L M : Value) (A turn done used : Int) (h : w.heap[b]? = some (.cells (bkCells L M A turn done used) 44 (0, 0))) :
    Calls Tryz.prog 64 #[.pointer (some ⟨b, 0, none⟩)] w fun e w' => e = .returned (.bool true) ∧ w' = w := by
  have c6 := bk_cell h 6 (.slice none 0 0) rfl
  have c9 := bk_cell h 9 (.slice none 0 0) rfl
  have c12 := bk_cell h 12 (.slice none 0 0) rfl
  have c15 := bk_cell h 15 (.slice none 0 0) rfl
  clear h
  go_enter Tryz.func64, Tryz.ntmps64
  go_wp2
  refine wp_loop_rounds 1 ?_
  rw [rounds_succ]
  go_wp2
  refine wp_loop_rounds 1 ?_
  rw [rounds_succ]
  go_wp2
  refine wp_loop_rounds 1 ?_
  rw [rounds_succ]
  go_wp2
  refine wp_loop_rounds 1 ?_
  rw [rounds_succ]
  go_wp2
  go_ret
  exact ⟨rfl, rfl⟩

set_option maxRecDepth 100000 in
set_option maxHeartbeats 1000000 in
theorem bk_held (w : World) (b : Nat) (L M : Value) (A turn done used : Int) (h : w.heap[b]? = some (.cells (bkCells L M A turn done used) 44 (0, 0))) :
    Calls Tryz.prog 66 #[.pointer (some ⟨b, 0, none⟩)] w fun e w' => e = .returned (.bool true) ∧ w' = w := by
  have c30 := bk_cell h 30 (.slice none 0 0) rfl
  have c33 := bk_cell h 33 (.slice none 0 0) rfl
  have c36 := bk_cell h 36 (.slice none 0 0) rfl
  have c39 := bk_cell h 39 (.slice none 0 0) rfl
  clear h
  go_enter Tryz.func66, Tryz.ntmps66
  go_wp2
  refine wp_loop_rounds 1 ?_
  rw [rounds_succ]
  go_wp2
  refine wp_loop_rounds 1 ?_
  rw [rounds_succ]
  go_wp2
  refine wp_loop_rounds 1 ?_
  rw [rounds_succ]
  go_wp2
  refine wp_loop_rounds 1 ?_
  rw [rounds_succ]
  go_wp2
  go_ret
  exact ⟨rfl, rfl⟩

set_option maxRecDepth 100000 in
set_option maxHeartbeats 1000000 in
theorem bk_sent (w : World) (b : Nat) (L M : Value) (A turn done used : Int) (h : w.heap[b]? = some (.cells (bkCells L M A turn done used) 44 (0, 0))) :
    Calls Tryz.prog 67 #[.pointer (some ⟨b, 0, none⟩)] w fun e w' => e = .returned (.bool true) ∧ w' = w := by
  have c42 := bk_cell h 42 (.slice none 0 0) rfl
  have c45 := bk_cell h 45 (.slice none 0 0) rfl
  have c48 := bk_cell h 48 (.slice none 0 0) rfl
  have c51 := bk_cell h 51 (.slice none 0 0) rfl
  clear h
  go_enter Tryz.func67, Tryz.ntmps67
  go_wp2
  refine wp_loop_rounds 1 ?_
  rw [rounds_succ]
  go_wp2
  refine wp_loop_rounds 1 ?_
  rw [rounds_succ]
  go_wp2
  refine wp_loop_rounds 1 ?_
  rw [rounds_succ]
  go_wp2
  refine wp_loop_rounds 1 ?_
  rw [rounds_succ]
  go_wp2
  go_ret
  exact ⟨rfl, rfl⟩

set_option maxRecDepth 100000 in
set_option maxHeartbeats 1000000 in
theorem bk_growBytes (w : World) (b : Nat) (L M : Value) (A turn done used : Int) (h : w.heap[b]? = some (.cells (bkCells L M A turn done used) 44 (0, 0))) :
    Calls Tryz.prog 68 #[.pointer (some ⟨b, 0, none⟩)] w fun e w' => e = .returned (.tuple #[]) ∧ w' = w := by
  have c0 := bk_cell h 0 (.slice none 0 0) rfl
  have c2 := bk_cell h 2 (.int .i64 0) rfl
  have cf := bk_thaw h
  have HS := hide (set_cell_same (j := 2) (v := .int .i64 0) h rfl)
  clear h
  go_enter Tryz.func68, Tryz.ntmps68
  go_wp2
  refine wp_loop_rounds 1 ?_
  rw [rounds_succ]
  go_wp2
  go_end0
  exact ⟨rfl, HS.out⟩

set_option maxRecDepth 100000 in
set_option maxHeartbeats 1000000 in
theorem bk_growRows (w : World) (b : Nat) (L M : Value) (A turn done used : Int) (h : w.heap[b]? = some (.cells (bkCells L M A turn done used) 44 (0, 0))) :
    Calls Tryz.prog 69 #[.pointer (some ⟨b, 0, none⟩)] w fun e w' => e = .returned (.tuple #[]) ∧ w' = w := by
  have c0 := bk_cell h 3 (.slice none 0 0) rfl
  have c2 := bk_cell h 5 (.int .i64 0) rfl
  have cf := bk_thaw h
  have HS := hide (set_cell_same (j := 5) (v := .int .i64 0) h rfl)
  clear h
  go_enter Tryz.func69, Tryz.ntmps69
  go_wp2
  refine wp_loop_rounds 1 ?_
  rw [rounds_succ]
  go_wp2
  go_end0
  exact ⟨rfl, HS.out⟩

set_option maxRecDepth 100000 in
set_option maxHeartbeats 1000000 in
theorem bk_growTexts (w : World) (b : Nat) (L M : Value) (A turn done used : Int) (h : w.heap[b]? = some (.cells (bkCells L M A turn done used) 44 (0, 0))) :
    Calls Tryz.prog 70 #[.pointer (some ⟨b, 0, none⟩)] w fun e w' => e = .returned (.tuple #[]) ∧ w' = w := by
  have c0 := bk_cell h 6 (.slice none 0 0) rfl
  have c2 := bk_cell h 8 (.int .i64 0) rfl
  have cf := bk_thaw h
  have HS := hide (set_cell_same (j := 8) (v := .int .i64 0) h rfl)
  clear h
  go_enter Tryz.func70, Tryz.ntmps70
  go_wp2
  refine wp_loop_rounds 1 ?_
  rw [rounds_succ]
  go_wp2
  go_end0
  exact ⟨rfl, HS.out⟩

set_option maxRecDepth 100000 in
set_option maxHeartbeats 1000000 in
theorem bk_growInts (w : World) (b : Nat) (L M : Value) (A turn done used : Int) (h : w.heap[b]? = some (.cells (bkCells L M A turn done used) 44 (0, 0))) :
    Calls Tryz.prog 71 #[.pointer (some ⟨b, 0, none⟩)] w fun e w' => e = .returned (.tuple #[]) ∧ w' = w := by
  have c0 := bk_cell h 9 (.slice none 0 0) rfl
  have c2 := bk_cell h 11 (.int .i64 0) rfl
  have cf := bk_thaw h
  have HS := hide (set_cell_same (j := 11) (v := .int .i64 0) h rfl)
  clear h
  go_enter Tryz.func71, Tryz.ntmps71
  go_wp2
  refine wp_loop_rounds 1 ?_
  rw [rounds_succ]
  go_wp2
  go_end0
  exact ⟨rfl, HS.out⟩

set_option maxRecDepth 100000 in
set_option maxHeartbeats 1000000 in
theorem bk_growWords (w : World) (b : Nat) (L M : Value) (A turn done used : Int) (h : w.heap[b]? = some (.cells (bkCells L M A turn done used) 44 (0, 0))) :
    Calls Tryz.prog 72 #[.pointer (some ⟨b, 0, none⟩)] w fun e w' => e = .returned (.tuple #[]) ∧ w' = w := by
  have c0 := bk_cell h 12 (.slice none 0 0) rfl
  have c2 := bk_cell h 14 (.int .i64 0) rfl
  have cf := bk_thaw h
  have HS := hide (set_cell_same (j := 14) (v := .int .i64 0) h rfl)
  clear h
  go_enter Tryz.func72, Tryz.ntmps72
  go_wp2
  refine wp_loop_rounds 1 ?_
  rw [rounds_succ]
  go_wp2
  go_end0
  exact ⟨rfl, HS.out⟩

set_option maxRecDepth 100000 in
set_option maxHeartbeats 1000000 in
theorem bk_growBools (w : World) (b : Nat) (L M : Value) (A turn done used : Int) (h : w.heap[b]? = some (.cells (bkCells L M A turn done used) 44 (0, 0))) :
    Calls Tryz.prog 73 #[.pointer (some ⟨b, 0, none⟩)] w fun e w' => e = .returned (.tuple #[]) ∧ w' = w := by
  have c0 := bk_cell h 15 (.slice none 0 0) rfl
  have c2 := bk_cell h 17 (.int .i64 0) rfl
  have cf := bk_thaw h
  have HS := hide (set_cell_same (j := 17) (v := .int .i64 0) h rfl)
  clear h
  go_enter Tryz.func73, Tryz.ntmps73
  go_wp2
  refine wp_loop_rounds 1 ?_
  rw [rounds_succ]
  go_wp2
  go_end0
  exact ⟨rfl, HS.out⟩

set_option maxRecDepth 100000 in
set_option maxHeartbeats 1000000 in
theorem bk_growLines (w : World) (b : Nat) (L M : Value) (A turn done used : Int) (h : w.heap[b]? = some (.cells (bkCells L M A turn done used) 44 (0, 0))) :
    Calls Tryz.prog 74 #[.pointer (some ⟨b, 0, none⟩)] w fun e w' => e = .returned (.tuple #[]) ∧ w' = w := by
  have c0 := bk_cell h 18 (.slice none 0 0) rfl
  have c2 := bk_cell h 20 (.int .i64 0) rfl
  have cf := bk_thaw h
  have HS := hide (set_cell_same (j := 20) (v := .int .i64 0) h rfl)
  clear h
  go_enter Tryz.func74, Tryz.ntmps74
  go_wp2
  refine wp_loop_rounds 1 ?_
  rw [rounds_succ]
  go_wp2
  go_end0
  exact ⟨rfl, HS.out⟩

set_option maxRecDepth 100000 in
set_option maxHeartbeats 1000000 in
theorem bk_growGuards (w : World) (b : Nat) (L M : Value) (A turn done used : Int) (h : w.heap[b]? = some (.cells (bkCells L M A turn done used) 44 (0, 0))) :
    Calls Tryz.prog 75 #[.pointer (some ⟨b, 0, none⟩)] w fun e w' => e = .returned (.tuple #[]) ∧ w' = w := by
  have c0 := bk_cell h 21 (.slice none 0 0) rfl
  have c2 := bk_cell h 23 (.int .i64 0) rfl
  have cf := bk_thaw h
  have HS := hide (set_cell_same (j := 23) (v := .int .i64 0) h rfl)
  clear h
  go_enter Tryz.func75, Tryz.ntmps75
  go_wp2
  refine wp_loop_rounds 1 ?_
  rw [rounds_succ]
  go_wp2
  go_end0
  exact ⟨rfl, HS.out⟩

set_option maxRecDepth 100000 in
set_option maxHeartbeats 1000000 in
theorem bk_growSets (w : World) (b : Nat) (L M : Value) (A turn done used : Int) (h : w.heap[b]? = some (.cells (bkCells L M A turn done used) 44 (0, 0))) :
    Calls Tryz.prog 76 #[.pointer (some ⟨b, 0, none⟩)] w fun e w' => e = .returned (.tuple #[]) ∧ w' = w := by
  have c0 := bk_cell h 24 (.slice none 0 0) rfl
  have c2 := bk_cell h 26 (.int .i64 0) rfl
  have cf := bk_thaw h
  have HS := hide (set_cell_same (j := 26) (v := .int .i64 0) h rfl)
  clear h
  go_enter Tryz.func76, Tryz.ntmps76
  go_wp2
  refine wp_loop_rounds 1 ?_
  rw [rounds_succ]
  go_wp2
  go_end0
  exact ⟨rfl, HS.out⟩

set_option maxRecDepth 100000 in
set_option maxHeartbeats 1000000 in
theorem bk_growPrices (w : World) (b : Nat) (L M : Value) (A turn done used : Int) (h : w.heap[b]? = some (.cells (bkCells L M A turn done used) 44 (0, 0))) :
    Calls Tryz.prog 78 #[.pointer (some ⟨b, 0, none⟩)] w fun e w' => e = .returned (.tuple #[]) ∧ w' = w := by
  have c0 := bk_cell h 30 (.slice none 0 0) rfl
  have c2 := bk_cell h 32 (.int .i64 0) rfl
  have cf := bk_thaw h
  have HS := hide (set_cell_same (j := 32) (v := .int .i64 0) h rfl)
  clear h
  go_enter Tryz.func78, Tryz.ntmps78
  go_wp2
  refine wp_loop_rounds 1 ?_
  rw [rounds_succ]
  go_wp2
  go_end0
  exact ⟨rfl, HS.out⟩

set_option maxRecDepth 100000 in
set_option maxHeartbeats 1000000 in
theorem bk_growHelds (w : World) (b : Nat) (L M : Value) (A turn done used : Int) (h : w.heap[b]? = some (.cells (bkCells L M A turn done used) 44 (0, 0))) :
    Calls Tryz.prog 79 #[.pointer (some ⟨b, 0, none⟩)] w fun e w' => e = .returned (.tuple #[]) ∧ w' = w := by
  have c0 := bk_cell h 33 (.slice none 0 0) rfl
  have c2 := bk_cell h 35 (.int .i64 0) rfl
  have cf := bk_thaw h
  have HS := hide (set_cell_same (j := 35) (v := .int .i64 0) h rfl)
  clear h
  go_enter Tryz.func79, Tryz.ntmps79
  go_wp2
  refine wp_loop_rounds 1 ?_
  rw [rounds_succ]
  go_wp2
  go_end0
  exact ⟨rfl, HS.out⟩

set_option maxRecDepth 100000 in
set_option maxHeartbeats 1000000 in
theorem bk_growPools (w : World) (b : Nat) (L M : Value) (A turn done used : Int) (h : w.heap[b]? = some (.cells (bkCells L M A turn done used) 44 (0, 0))) :
    Calls Tryz.prog 80 #[.pointer (some ⟨b, 0, none⟩)] w fun e w' => e = .returned (.tuple #[]) ∧ w' = w := by
  have c0 := bk_cell h 36 (.slice none 0 0) rfl
  have c2 := bk_cell h 38 (.int .i64 0) rfl
  have cf := bk_thaw h
  have HS := hide (set_cell_same (j := 38) (v := .int .i64 0) h rfl)
  clear h
  go_enter Tryz.func80, Tryz.ntmps80
  go_wp2
  refine wp_loop_rounds 1 ?_
  rw [rounds_succ]
  go_wp2
  go_end0
  exact ⟨rfl, HS.out⟩

set_option maxRecDepth 100000 in
set_option maxHeartbeats 1000000 in
theorem bk_growActs (w : World) (b : Nat) (L M : Value) (A turn done used : Int) (h : w.heap[b]? = some (.cells (bkCells L M A turn done used) 44 (0, 0))) :
    Calls Tryz.prog 81 #[.pointer (some ⟨b, 0, none⟩)] w fun e w' => e = .returned (.tuple #[]) ∧ w' = w := by
  have c0 := bk_cell h 39 (.slice none 0 0) rfl
  have c2 := bk_cell h 41 (.int .i64 0) rfl
  have cf := bk_thaw h
  have HS := hide (set_cell_same (j := 41) (v := .int .i64 0) h rfl)
  clear h
  go_enter Tryz.func81, Tryz.ntmps81
  go_wp2
  refine wp_loop_rounds 1 ?_
  rw [rounds_succ]
  go_wp2
  go_end0
  exact ⟨rfl, HS.out⟩

set_option maxRecDepth 100000 in
set_option maxHeartbeats 1000000 in
theorem bk_growEntries (w : World) (b : Nat) (L M : Value) (A turn done used : Int) (h : w.heap[b]? = some (.cells (bkCells L M A turn done used) 44 (0, 0))) :
    Calls Tryz.prog 82 #[.pointer (some ⟨b, 0, none⟩)] w fun e w' => e = .returned (.tuple #[]) ∧ w' = w := by
  have c0 := bk_cell h 42 (.slice none 0 0) rfl
  have c2 := bk_cell h 44 (.int .i64 0) rfl
  have cf := bk_thaw h
  have HS := hide (set_cell_same (j := 44) (v := .int .i64 0) h rfl)
  clear h
  go_enter Tryz.func82, Tryz.ntmps82
  go_wp2
  refine wp_loop_rounds 1 ?_
  rw [rounds_succ]
  go_wp2
  go_end0
  exact ⟨rfl, HS.out⟩

set_option maxRecDepth 100000 in
set_option maxHeartbeats 1000000 in
theorem bk_growFlights (w : World) (b : Nat) (L M : Value) (A turn done used : Int) (h : w.heap[b]? = some (.cells (bkCells L M A turn done used) 44 (0, 0))) :
    Calls Tryz.prog 83 #[.pointer (some ⟨b, 0, none⟩)] w fun e w' => e = .returned (.tuple #[]) ∧ w' = w := by
  have c0 := bk_cell h 45 (.slice none 0 0) rfl
  have c2 := bk_cell h 47 (.int .i64 0) rfl
  have cf := bk_thaw h
  have HS := hide (set_cell_same (j := 47) (v := .int .i64 0) h rfl)
  clear h
  go_enter Tryz.func83, Tryz.ntmps83
  go_wp2
  refine wp_loop_rounds 1 ?_
  rw [rounds_succ]
  go_wp2
  go_end0
  exact ⟨rfl, HS.out⟩

set_option maxRecDepth 100000 in
set_option maxHeartbeats 1000000 in
theorem bk_growFiles (w : World) (b : Nat) (L M : Value) (A turn done used : Int) (h : w.heap[b]? = some (.cells (bkCells L M A turn done used) 44 (0, 0))) :
    Calls Tryz.prog 84 #[.pointer (some ⟨b, 0, none⟩)] w fun e w' => e = .returned (.tuple #[]) ∧ w' = w := by
  have c0 := bk_cell h 48 (.slice none 0 0) rfl
  have c2 := bk_cell h 50 (.int .i64 0) rfl
  have cf := bk_thaw h
  have HS := hide (set_cell_same (j := 50) (v := .int .i64 0) h rfl)
  clear h
  go_enter Tryz.func84, Tryz.ntmps84
  go_wp2
  refine wp_loop_rounds 1 ?_
  rw [rounds_succ]
  go_wp2
  go_end0
  exact ⟨rfl, HS.out⟩

set_option maxRecDepth 100000 in
set_option maxHeartbeats 1000000 in
theorem bk_growItems (w : World) (b : Nat) (L M : Value) (A turn done used : Int) (h : w.heap[b]? = some (.cells (bkCells L M A turn done used) 44 (0, 0))) :
    Calls Tryz.prog 85 #[.pointer (some ⟨b, 0, none⟩)] w fun e w' => e = .returned (.tuple #[]) ∧ w' = w := by
  have c0 := bk_cell h 51 (.slice none 0 0) rfl
  have c2 := bk_cell h 53 (.int .i64 0) rfl
  have cf := bk_thaw h
  have HS := hide (set_cell_same (j := 53) (v := .int .i64 0) h rfl)
  clear h
  go_enter Tryz.func85, Tryz.ntmps85
  go_wp2
  refine wp_loop_rounds 1 ?_
  rw [rounds_succ]
  go_wp2
  go_end0
  exact ⟨rfl, HS.out⟩

end Go.Proofs.YtfdanocpbhbieaaGreat.RB
namespace Go.Proofs.YtfdanocpbhbieaaGreat.RB
open Go.RowKit Go.Proofs.YtfdanocpbhbieaaGreat

def mk3 (m : Nat) : Tri := ⟨1000 + (m : Int), 0, 0⟩
def mrow (m l : Nat) : List Value := rcells (List.replicate l (mk3 m))
theorem mrow_len (m l : Nat) : (mrow m l).length = l * 3 := by rw [mrow, rcells_len, List.length_replicate]
theorem mrow_snoc (m l : Nat) : mrow m (l + 1) = mrow m l ++ [.int .i64 (1000 + (m : Int)), .int .i64 0, .int .i64 0] := by
  rw [mrow, List.replicate_succ', rcells_snoc]
  rfl
theorem mrow_get (m l i : Nat) (h : i < l) (j : Nat) (v : Value) (hv : [Value.int .i64 (1000 + (m : Int)), .int .i64 0, .int .i64 0][j]? = some v) : (mrow m l)[i * 3 + j]? = some v :=
  rcells_get _ i (mk3 m) (List.getElem?_replicate_of_lt h) j v hv

set_option maxRecDepth 100000 in
set_option maxHeartbeats 400000 in
theorem mark_any (w : World) (m : Nat) (hm : m ≤ 1000000000000000) :
    Calls Tryz.prog 25 #[.int .i64 m] w fun e w' => e = .returned (.agg #[.int .i64 (1000 + (m : Int)), .int .i64 0, .int .i64 0]) ∧ w' = w.alloc (.cells #[.int .i64 (1000 + (m : Int)), .int .i64 0, .int .i64 0] 82) := by
  go_enter Tryz.func25, Tryz.ntmps25
  go_wp2
  refine bodyPost_ret (results_cell_row rfl _ _ w.heap.size 82 #[.int .i64 (1000 + (m : Int)), .int .i64 0, .int .i64 0] (0, 0) _ rfl (heap_alloc_new _ _) Tryz.underlying82 rfl (by kernel_rfl)) rfl ?_
  exact ⟨rfl, rfl⟩

/-- A list that is kept, with its mark. -/
structure Kl where
  p : Option Addr
  l : Nat
  c : Nat
  m : Nat
def Kl.val (k : Kl) : Value := .slice k.p k.l k.c
/-- A BOOK THAT KEEPS LISTS OF RIGHTS, each full of its mark; lists in one block have one mark. -/
structure Bk (wr : World) (N b : Nat) (L M : Value) (A turn done used : Nat) (ks : List Kl) : Prop where
  blk : wr.heap[b]? = some (.cells (bkCells L M A turn done used) 44 (0, 0))
  ls : wr.ownsRow N 60 1 L ks.length (ks.map fun k => k.val)
  ms : wr.ownsRow N 3 1 M ks.length (ks.map fun k => .int .i64 (k.m : Int))
  rows : ∀ k ∈ ks, wr.ownsRow N 82 3 k.val k.l (mrow k.m k.l)
  num : ∀ k ∈ ks, k.m ≤ 1000000000000000 ∧ k.l ≤ 100000000000
  most : ks.length ≤ 1000000000
  one : ∀ k ∈ ks, ∀ k' ∈ ks, ∀ g, k.val.ownBlock = some g → k'.val.ownBlock = some g → k.m = k'.m

set_option maxRecDepth 100000 in
set_option maxHeartbeats 4000000 in
theorem bk_told (w : World) (N b : Nat) (L M : Value) (A turn done used : Nat) (ks : List Kl) (h : Bk w N b L M A turn done used ks) :
    Calls Tryz.prog 65 #[.pointer (some ⟨b, 0, none⟩)] w fun e w' => e = .returned (.bool true) ∧ Below w.heap.size w w' := by
  have HK := hide h
  have c18 := bk_cell h.blk 18 (.slice none 0 0) rfl
  have c21 := bk_cell h.blk 21 (.slice none 0 0) rfl
  have c24 := bk_cell h.blk 24 (.slice none 0 0) rfl
  have q0 := bk_cell h.blk 27 L rfl
  have q1 := bk_cell h.blk 28 M rfl
  obtain ⟨lp, lc, hL⟩ := slice_form h.ls
  obtain ⟨mp, mc, hM⟩ := slice_form h.ms
  have hmost := h.most
  have hbl := lt_of_block h.blk
  subst hL
  subst hM
  clear h
  go_enter Tryz.func65, Tryz.ntmps65
  go_wp2
  refine wp_loop_rounds 1 ?_
  rw [rounds_succ]
  go_wp2
  refine wp_loop_rounds 1 ?_
  rw [rounds_succ]
  go_wp2
  refine wp_loop_rounds 1 ?_
  rw [rounds_succ]
  go_wp2
  clear c18 c21 c24
  have HQ0 := hide q0
  have HQ1 := hide q1
  clear q0 q1
  go_loopw [9] (fun i wr => ∃ j : Nat, j ≤ ks.length ∧ i = .int .i64 j ∧ Hid (Below w.heap.size w wr)) (fun i _ => ks.length - (intOf i).toNat)
  case atStart => exact ⟨0, Nat.zero_le _, rfl, Below.refl _ _⟩
  case round =>
    obtain ⟨j, hj, rfl, HB⟩ := hrel
    have e0 : wr.cell? ⟨b, 27, none⟩ = some (.slice lp ks.length lc) := (HB.out.cell (p := ⟨b, 27, none⟩) hbl).trans HQ0.out
    by_cases hlt : j < ks.length
    · have hop : ks[j]? = some (ks[j]'hlt) := List.getElem?_eq_getElem _
      obtain ⟨gl, _, hgl, cl0⟩ := row_cell HK.out.ls (k := j) (a := (ks[j]'hlt).val) (by simp [hop])
      obtain ⟨gm, _, hgm, cm0⟩ := row_cell HK.out.ms (k := j) (a := .int .i64 ((ks[j]'hlt).m : Int)) (by simp [hop])
      cases hgl
      cases hgm
      have hll := owns_lt HK.out.ls gl rfl
      have hml := owns_lt HK.out.ms gm rfl
      have HR := hide (HK.out.rows _ (List.mem_of_getElem? hop))
      obtain ⟨n1, n2⟩ := HK.out.num _ (List.mem_of_getElem? hop)
      generalize ks[j]'hlt = kl at *
      obtain ⟨p, l, c, m⟩ := kl
      simp only [Kl.val] at cl0 cm0 HR n1 n2
      clear hop
      have l1 : (j : Int) < (ks.length : Int) := by omega
      have l2 : (0 : Int) ≤ (j : Int) := by omega
      have HL0 := hide cl0
      have HM0 := hide cm0
      clear cl0 cm0
      have HMk := hide (fun w => mark_any w m n1)
      go_wp2
      clear e0
      go_loopw [10] (fun i wr => ∃ i' : Nat, i' ≤ l ∧ i = .int .i64 i' ∧ Hid (Below w.heap.size w wr)) (fun i _ => l - (intOf i).toNat)
      case atStart => exact ⟨0, Nat.zero_le _, rfl, HB⟩
      case round =>
        clear HB
        obtain ⟨i, hi, rfl, HB⟩ := hrel
        have e0 : wr.cell? ⟨b, 27, none⟩ = some (.slice (some ⟨gl, 0, none⟩) ks.length lc) := (HB.out.cell (p := ⟨b, 27, none⟩) hbl).trans HQ0.out
        have e1 : wr.cell? ⟨b, 28, none⟩ = some (.slice (some ⟨gm, 0, none⟩) ks.length mc) := (HB.out.cell (p := ⟨b, 28, none⟩) hbl).trans HQ1.out
        have cl : wr.cell? ⟨gl, j, none⟩ = some (.slice p l c) := (HB.out.cell (p := ⟨gl, j, none⟩) hll).trans HL0.out
        have cm : wr.cell? ⟨gm, j, none⟩ = some (.int .i64 (m : Int)) := (HB.out.cell (p := ⟨gm, j, none⟩) hml).trans HM0.out
        by_cases hil : i < l
        · obtain ⟨gx, _, hgx, cx0⟩ := row_cell HR.out (mrow_get m l i hil 0 _ rfl)
          cases hgx
          obtain ⟨_, _, e2, cx1⟩ := row_cell HR.out (mrow_get m l i hil 1 _ rfl)
          cases e2
          obtain ⟨_, _, e3, cx2⟩ := row_cell HR.out (mrow_get m l i hil 2 _ rfl)
          cases e3
          have hgl2 := owns_lt HR.out gx rfl
          rw [Nat.add_zero] at cx0
          have d0 : wr.cell? ⟨gx, i * 3, none⟩ = some (.int .i64 (1000 + (m : Int))) := (HB.out.cell (p := ⟨gx, i * 3, none⟩) hgl2).trans cx0
          have d1 : wr.cell? ⟨gx, i * 3 + 1, none⟩ = some (.int .i64 0) := (HB.out.cell (p := ⟨gx, i * 3 + 1, none⟩) hgl2).trans cx1
          have d2 : wr.cell? ⟨gx, i * 3 + 2, none⟩ = some (.int .i64 0) := (HB.out.cell (p := ⟨gx, i * 3 + 2, none⟩) hgl2).trans cx2
          have l3 : (i : Int) < (l : Int) := by omega
          have l4 : (0 : Int) ≤ (i : Int) := by omega
          have hws := HB.out.size
          have s1 : b < wr.heap.size := by omega
          have s2 : gl < wr.heap.size := by omega
          have s3 : gm < wr.heap.size := by omega
          have s4 : gx < wr.heap.size := by omega
          obtain ⟨x0, hx0⟩ : ∃ x0 : Int, 1000 + (m : Int) = x0 := ⟨_, rfl⟩
          rw [hx0] at d0 HMk
          have HX0 := hide hx0
          clear cx0 cx1 cx2 hx0
          go_upto_region 31 with (fail)
          have HBd : Hid (Below w.heap.size w (wr.alloc (.cells #[.int .i64 x0, .int .i64 0, .int .i64 0] 82))) := HB.out.alloc hws _
          go_region_held3 (fun w' => w'.cell? ⟨b, 27, none⟩ = some (.slice (some ⟨gl, 0, none⟩) ks.length lc) ∧ w'.cell? ⟨b, 28, none⟩ = some (.slice (some ⟨gm, 0, none⟩) ks.length mc) ∧ w'.cell? ⟨gl, j, none⟩ = some (.slice (some ⟨gx, 0, none⟩) l c) ∧ w'.cell? ⟨gm, j, none⟩ = some (.int .i64 (m : Int)) ∧ w'.cell? ⟨gx, i * 3, none⟩ = some (.int .i64 x0) ∧ w'.cell? ⟨gx, i * 3 + 1, none⟩ = some (.int .i64 0) ∧ w'.cell? ⟨gx, i * 3 + 2, none⟩ = some (.int .i64 0)) (go_keep) (first | (go_at_call 25; refine (HMk.out _).mono ?_; rintro e w3 ⟨rfl, rfl⟩) | fail)
          go_wp2
          go_roundw
          case rel => exact ⟨i + 1, by omega, by go_num, by first | exact HBd.out.drew | exact HBd⟩
          case measure => simp [intOf]; omega
        · have l3 : ¬ (i : Int) < (l : Int) := by omega
          go_wp2
          go_roundw
          case rel => exact ⟨j + 1, by omega, by go_num, HB⟩
          case measure => simp [intOf]; omega
    · have l1 : ¬ (j : Int) < (ks.length : Int) := by omega
      go_wp2
      go_ret
      exact ⟨rfl, HB.out⟩
end Go.Proofs.YtfdanocpbhbieaaGreat.RB
namespace Go.Proofs.YtfdanocpbhbieaaGreat.RB
open Go.RowKit Go.Proofs.YtfdanocpbhbieaaGreat

theorem Bk.below {w w' : World} {N b : Nat} {L M : Value} {A turn done used : Nat} {ks : List Kl} (h : Bk w N b L M A turn done used ks) (hb : Below w.heap.size w w') : Bk w' N b L M A turn done used ks :=
  ⟨(hb.block b (lt_of_block h.blk)).trans h.blk, owns_kept' h.ls (fun g e => hb.block g (owns_lt h.ls g e)), owns_kept' h.ms (fun g e => hb.block g (owns_lt h.ms g e)), fun k hk => owns_kept' (h.rows k hk) (fun g e => hb.block g (owns_lt (h.rows k hk) g e)), h.num, h.most, h.one⟩

set_option maxRecDepth 100000 in
set_option maxHeartbeats 400000 in
theorem bk_holds (w : World) (N b : Nat) (L M : Value) (A turn done used : Nat) (ks : List Kl) (h : Bk w N b L M A turn done used ks) :
    Calls Tryz.prog 38 #[.pointer (some ⟨b, 0, none⟩)] w fun e w' => e = .returned (.bool true) ∧ Below w.heap.size w w' := by
  have HK := hide h
  clear h
  go_enter Tryz.func38, Tryz.ntmps38
  go_wp2_with fail
  refine (bk_plain w b L M A turn done used HK.out.blk).mono ?_
  rintro e w2 ⟨rfl, rfl⟩
  go_wp2_with fail
  refine (bk_kept _ b L M A turn done used HK.out.blk).mono ?_
  rintro e w2 ⟨rfl, rfl⟩
  go_wp2_with fail
  refine (bk_told _ N b L M A turn done used ks HK.out).mono ?_
  rintro e w3 ⟨rfl, hb⟩
  have HB := hide hb
  have HK3 := hide (HK.out.below hb)
  clear hb
  go_wp2_with fail
  refine (bk_held _ b L M A turn done used HK3.out.blk).mono ?_
  rintro e w4 ⟨rfl, rfl⟩
  go_wp2_with fail
  refine (bk_sent _ b L M A turn done used HK3.out.blk).mono ?_
  rintro e w4 ⟨rfl, rfl⟩
  go_wp2
  go_ret
  exact ⟨rfl, HB.out⟩

set_option maxRecDepth 100000 in
set_option maxHeartbeats 400000 in
theorem bk_tight (w : World) (b : Nat) (L M : Value) (A turn done used n : Nat) (hu : used ≤ 16777216) (hn : n ≤ 1000000000000000) (h : w.heap[b]? = some (.cells (bkCells L M A turn done used) 44 (0, 0))) :
    Calls Tryz.prog 26 #[.pointer (some ⟨b, 0, none⟩), .int .i64 n] w fun e w' => (16777216 < used + n ∧ e = .returned (.bool true) ∧ w' = w) ∨ (¬ 16777216 < used + n ∧ e = .returned (.bool false) ∧ w' = w.setCell ⟨b, 56, none⟩ (.int .i64 ((used + n : Nat) : Int))) := by
  have c := bk_cell h 56 (.int .i64 (used : Int)) rfl
  have cf := bk_thaw h
  clear h
  have hs : (used : Int) + (n : Int) = ((used + n : Nat) : Int) := by omega
  have hs2 : used + n ≤ 2000000000000000 := by omega
  generalize used + n = s at *
  by_cases hb : 16777216 < s
  · have l1 : (16777216 : Int) < (s : Int) := by omega
    go_enter Tryz.func26, Tryz.ntmps26
    go_wp2
    go_ret
    show _ ∨ _
    exact Or.inl ⟨hb, rfl, rfl⟩
  · have l1 : ¬ (16777216 : Int) < (s : Int) := by omega
    go_enter Tryz.func26, Tryz.ntmps26
    go_wp2
    go_ret
    exact ⟨rfl, rfl⟩

end Go.Proofs.YtfdanocpbhbieaaGreat.RB
namespace Go.Proofs.YtfdanocpbhbieaaGreat.RB
open Go.RowKit Go.Proofs.YtfdanocpbhbieaaGreat

/-- Other blocks have turned. -/
theorem Bk.keep {w w' : World} {N b : Nat} {L M : Value} {A turn done used : Nat} {ks : List Kl} {S : Nat → Prop} (h : Bk w N b L M A turn done used ks) (k : Kept S w w') (h1 : ¬ S b) (h2 : ∀ g, L.ownBlock = some g → ¬ S g) (h3 : ∀ g, M.ownBlock = some g → ¬ S g) (h4 : ∀ x ∈ ks, ∀ g, x.val.ownBlock = some g → ¬ S g) : Bk w' N b L M A turn done used ks :=
  ⟨(k.block b (lt_of_block h.blk) h1).trans h.blk, owns_kept' h.ls (fun g e => k.block g (owns_lt h.ls g e) (h2 g e)), owns_kept' h.ms (fun g e => k.block g (owns_lt h.ms g e) (h3 g e)), fun x hx => owns_kept' (h.rows x hx) (fun g e => k.block g (owns_lt (h.rows x hx) g e) (h4 x hx g e)), h.num, h.most, h.one⟩
/-- A number of the Book's own is set. -/
theorem Bk.turned {w : World} {N b : Nat} {L M : Value} {A turn done used : Nat} {ks : List Kl} (h : Bk w N b L M A turn done used ks) (t : Nat) : Bk (w.setCell ⟨b, 54, none⟩ (.int .i64 (t : Int))) N b L M A t done used ks := by
  have hs : ∀ j, j ≠ b → (w.setCell ⟨b, 54, none⟩ (.int .i64 (t : Int))).heap[j]? = w.heap[j]? := fun j hj => Below.heap_setCell _ _ _ _ hj
  have hr : ∀ {B0 n s0 : Nat} {ty : TypeId} {v : Value} {xs : List Value}, w.ownsRow B0 ty s0 v n xs → 44 ≠ ty → ∀ g, v.ownBlock = some g → (w.setCell ⟨b, 54, none⟩ (.int .i64 (t : Int))).heap[g]? = w.heap[g]? := fun hv ht g e => hs g (fun e' => owns_ne hv h.blk ht (by rw [e, e']))
  exact ⟨by rw [block_set h.blk]; rfl, owns_kept' h.ls (hr h.ls (by decide)), owns_kept' h.ms (hr h.ms (by decide)), fun x hx => owns_kept' (h.rows x hx) (hr (h.rows x hx) (by decide)), h.num, h.most, h.one⟩
theorem Bk.usedUp {w : World} {N b : Nat} {L M : Value} {A turn done used : Nat} {ks : List Kl} (h : Bk w N b L M A turn done used ks) (t : Nat) : Bk (w.setCell ⟨b, 56, none⟩ (.int .i64 (t : Int))) N b L M A turn done t ks := by
  have hs : ∀ j, j ≠ b → (w.setCell ⟨b, 56, none⟩ (.int .i64 (t : Int))).heap[j]? = w.heap[j]? := fun j hj => Below.heap_setCell _ _ _ _ hj
  have hr : ∀ {B0 n s0 : Nat} {ty : TypeId} {v : Value} {xs : List Value}, w.ownsRow B0 ty s0 v n xs → 44 ≠ ty → ∀ g, v.ownBlock = some g → (w.setCell ⟨b, 56, none⟩ (.int .i64 (t : Int))).heap[g]? = w.heap[g]? := fun hv ht g e => hs g (fun e' => owns_ne hv h.blk ht (by rw [e, e']))
  exact ⟨by rw [block_set h.blk]; rfl, owns_kept' h.ls (hr h.ls (by decide)), owns_kept' h.ms (hr h.ms (by decide)), fun x hx => owns_kept' (h.rows x hx) (hr (h.rows x hx) (by decide)), h.num, h.most, h.one⟩

/-- One list more is kept: its bytes are its mark's. -/
theorem Bk.more {w w' : World} {N b : Nat} {L M L' M' : Value} {A turn done used : Nat} {ks : List Kl} {x : Kl} (h : Bk w N b L M A turn done used ks) (k : Kept (fun i => i = b ∨ some i = L.ownBlock ∨ some i = M.ownBlock) w w') (hb : w'.heap[b]? = some (.cells (bkCells L' M' A turn done used) 44 (0, 0)))
    (hl : w'.ownsRow N 60 1 L' (ks.length + 1) ((ks.map fun k => k.val) ++ [x.val])) (hm : w'.ownsRow N 3 1 M' (ks.length + 1) ((ks.map fun k => Value.int .i64 (k.m : Int)) ++ [.int .i64 (x.m : Int)])) (hx : w.ownsRow N 82 3 x.val x.l (mrow x.m x.l)) (hn : x.m ≤ 1000000000000000 ∧ x.l ≤ 100000000000) (hc : ks.length + 1 ≤ 1000000000)
    (ho : ∀ y ∈ ks, ∀ g, y.val.ownBlock = some g → x.val.ownBlock = some g → y.m = x.m) : Bk w' N b L' M' A turn done used (ks ++ [x]) := by
  have hr : ∀ {n : Nat} {v : Value} {xs : List Value}, w.ownsRow N 82 3 v n xs → w'.ownsRow N 82 3 v n xs := fun hv => owns_kept' hv (fun g e => k.block g (owns_lt hv g e) (by
    rintro (e' | e' | e')
    · subst e'; exact owns_ne hv h.blk (by decide) e
    · exact rows_far h.ls hv (by decide) g e'.symm e
    · exact rows_far h.ms hv (by decide) g e'.symm e))
  refine ⟨hb, by simpa using hl, by simpa using hm, fun y hy => ?_, fun y hy => ?_, by simpa using hc, fun y hy z hz g e1 e2 => ?_⟩
  · rcases List.mem_append.1 hy with h' | h'
    · exact hr (h.rows y h')
    · simp at h'; subst h'; exact hr hx
  · rcases List.mem_append.1 hy with h' | h'
    · exact h.num y h'
    · simp at h'; subst h'; exact hn
  · rcases List.mem_append.1 hy with h' | h' <;> rcases List.mem_append.1 hz with h'' | h''
    · exact h.one y h' z h'' g e1 e2
    · simp at h''; subst h''; exact ho y h' g e1 e2
    · simp at h'; subst h'; exact (ho z h'' g e2 e1).symm
    · simp at h' h''; subst h'; subst h''; rfl

end Go.Proofs.YtfdanocpbhbieaaGreat.RB
