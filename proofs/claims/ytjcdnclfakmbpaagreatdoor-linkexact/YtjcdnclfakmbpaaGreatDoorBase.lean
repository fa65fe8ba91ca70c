import Derived.Test.YtjcdnclfakmbpaaGreatDoorProg
import Derived.WalkKit
import Derived.WalkSpells
import Derived.WalkLawsBesides
import Derived.Laws.CopyOwn
import Derived.Deep.OwnRows
namespace Go.Proofs.YtjcdnclfakmbpaaGreatDoor.C
open Go.RowKit
theorem setRow_alloc_new (w : World) (c cs : Array Value) (t : TypeId) (fr : Nat × Nat) : (w.alloc (.cells c t fr)).setRow w.heap.size cs = w.alloc (.cells cs t fr) := by
  unfold World.setRow World.alloc
  congr 1
  apply Array.ext
  · simp
  · intro k h1 h2
    simp only [Array.getElem_modify, Array.getElem_push]
    split
    · rename_i h; subst h; simp
    · rename_i h
      simp at h1
      rw [dif_pos (by omega), dif_pos (by omega)]
theorem Tryz.info5 : (Tryz.prog.info? 5).map (fun i => (i.zero, i.size, i.bytes)) = some (some (.int .u8 0), 1, 1) := by kernel_rfl
theorem Tryz.size5 : (Tryz.prog.info? 5).map (·.size) = some 1 := by kernel_rfl
theorem made_size (z : Value) (n : Nat) : (madeCells #[z] n).size = n := by simp [madeCells]
theorem made_none (z : Value) : madeCells #[z] 0 = #[] := Array.eq_empty_of_size_eq_zero (made_size z 0)
set_option maxRecDepth 100000 in
set_option maxHeartbeats 400000 in
theorem copied_none (w : World) (sp : Option Addr) (cap : Nat) :
    Calls Tryz.prog 92 #[.slice sp 0 cap] w fun e w' => e = .returned (.slice (some ⟨w.heap.size, 0, none⟩) 0 0) ∧ w' = w.alloc (.cells #[] 5) := by
  have hmk : ∀ w, Sem.run Tryz.prog (Instr.makeSlice 31 (Value.int IntKind.i64 0) (Value.int IntKind.i64 0)) w = Result.ok (Value.slice (some { block := w.heap.size, off := 0 }) 0 0) (w.alloc (.cells #[] 5)) :=
    fun w => by have h := run_make_row' (P := Tryz.prog) 31 5 (.int .u8 0) 1 Tryz.underlying31 Tryz.info5 rfl .i64 .i64 0 (by omega) (by omega) w; rw [made_none] at h; exact h
  have hcp := run_copy_none (P := Tryz.prog) (w.alloc (.cells #[] 5)) 31 31 3 5 (some { block := w.heap.size, off := 0 }) sp 0 0 0 cap Tryz.underlying31 Tryz.size5 rfl
  go_enter Tryz.func92, Tryz.ntmps92
  go_wp2
  go_ret
  exact ⟨rfl, rfl⟩
set_option maxRecDepth 100000 in
set_option maxHeartbeats 400000 in
theorem copied_some (w : World) (ad : Addr) (len cap : Nat) (cs : List Value) (hlen : cs.length = len) (hb : len ≤ 140737488355328) (hsrc : ∀ j v, cs[j]? = some v → w.cell? (ad.add j) = some v) (hblk : ad.block < w.heap.size) (h1 : ∀ v ∈ cs, v.oneCell' = true) :
    Calls Tryz.prog 92 #[.slice (some ad) len cap] w fun e w' => e = .returned (.slice (some ⟨w.heap.size, 0, none⟩) len len) ∧ w' = w.alloc (.cells cs.toArray 5) := by
  have hmk := run_make_row' (P := Tryz.prog) 31 5 (.int .u8 0) 1 Tryz.underlying31 Tryz.info5 rfl .i64 .i64 len (by omega) (by omega)
  have hsz := made_size (.int .u8 0) len
  generalize madeCells #[Value.int .u8 0] len = Z at *
  have hcp : Sem.run Tryz.prog (Builtin.copy_ #[31, 31] 3 #[Value.slice (some { block := w.heap.size, off := 0 }) len len, Value.slice (some ad) len cap]) (w.alloc (Obj.cells Z 5)) = .ok (goInt cs.length) (w.alloc (.cells cs.toArray 5)) := by
    have h := run_copy_row (P := Tryz.prog) (w.alloc (Obj.cells Z 5)) 31 31 3 5 w.heap.size 0 len len ad len cap Z 5 cs Tryz.underlying31 Tryz.size5 (heap_alloc_new _ _) (by simp [hlen]) (fun j v h => by
      rw [World.cell?_of_block (w := w) (Below.heap_alloc _ _ _ (by unfold Addr.add; split <;> exact hblk))]; exact hsrc j v h) (by simp [hlen, hsz]) h1
    rw [h, setRow_alloc_new]
    congr 3
    rw [List.drop_of_length_le (by simp [hlen, hsz])]
    simp
  clear hsrc h1 hlen hsz
  go_enter Tryz.func92, Tryz.ntmps92
  go_wp2
  go_ret
  exact ⟨rfl, rfl⟩
theorem cell_block {w : World} {p : Addr} {v : Value} (h : w.cell? p = some v) : p.block < w.heap.size := by
  unfold World.cell? at h
  rcases Nat.lt_or_ge p.block w.heap.size with hl | hl
  · exact hl
  · rw [Array.getElem?_eq_none hl] at h; cases h
structure Holds (w : World) (sp : Option Addr) (cs : List Value) : Prop where
  at_ : ∀ j v, cs[j]? = some v → ∃ ad, sp = some ad ∧ w.cell? (ad.add j) = some v
  one : ∀ v ∈ cs, v.oneCell' = true
theorem copied_any (w : World) (sp : Option Addr) (len cap : Nat) (cs : List Value) (hlen : cs.length = len) (hb : len ≤ 140737488355328) (hs : Holds w sp cs) :
    Calls Tryz.prog 92 #[.slice sp len cap] w fun e w' => e = .returned (.slice (some ⟨w.heap.size, 0, none⟩) len len) ∧ w' = w.alloc (.cells cs.toArray 5) := by
  match cs, hlen with
  | [], h0 => obtain rfl : len = 0 := by simpa using h0.symm
              exact copied_none w sp cap
  | c :: cs, h0 =>
    obtain ⟨ad, rfl, h⟩ := hs.at_ 0 c rfl
    exact copied_some w ad len cap (c :: cs) h0 hb (fun j v hj => by obtain ⟨ad', e, h'⟩ := hs.at_ j v hj; cases e; exact h') (by have := cell_block h; simpa [Addr.add] using this) hs.one
structure Bytes (w : World) (sp : Option Addr) (xs : List Nat) : Prop where
  small : ∀ x ∈ xs, x < 256
  lie : xs = [] ∨ ∃ g o, sp = some ⟨g, o, none⟩ ∧ g < w.heap.size ∧ ∀ j, j < xs.length → w.cell? ⟨g, o + j, none⟩ = some (.int .u8 (xs.getD j 0))
theorem Bytes.below {w w' : World} {sp : Option Addr} {xs : List Nat} (h : Bytes w sp xs) (hb : Below w.heap.size w w') : Bytes w' sp xs := by
  refine ⟨h.small, ?_⟩
  rcases h.lie with h0 | ⟨g, o, e, hg, hc⟩
  · exact Or.inl h0
  · exact Or.inr ⟨g, o, e, Nat.lt_of_lt_of_le hg hb.size, fun j hj => by rw [hb.cell (p := ⟨g, o + j, none⟩) hg]; exact hc j hj⟩
def vals (xs : List Nat) : List Value := xs.map fun (x : Nat) => Value.int .u8 (x : Int)
theorem Bytes.holds {w : World} {sp : Option Addr} {xs : List Nat} (h : Bytes w sp xs) : Holds w sp (vals xs) := by
  refine ⟨fun j v hj => ?_, fun v hv => ?_⟩
  · rcases h.lie with h0 | ⟨g, o, e, hg, hc⟩
    · subst h0; simp [vals] at hj
    · refine ⟨_, e, ?_⟩
      simp only [vals, List.getElem?_map, Option.map_eq_some_iff] at hj
      obtain ⟨x, hx, rfl⟩ := hj
      have hlt : j < xs.length := (List.getElem?_eq_some_iff.1 hx).1
      have := hc j hlt
      simp only [List.getD, hx, Option.getD_some] at this
      unfold Addr.add
      by_cases h0 : j = 0
      · subst h0; simpa using this
      · simpa [h0] using this
  · simp only [vals, List.mem_map] at hv
    obtain ⟨x, _, rfl⟩ := hv
    rfl
theorem copied_bytes (w : World) (sp : Option Addr) (len cap : Nat) (xs : List Nat) (hlen : xs.length = len) (hb : len ≤ 140737488355328) (hs : Bytes w sp xs) :
    Calls Tryz.prog 92 #[.slice sp len cap] w fun e w' => e = .returned (.slice (some ⟨w.heap.size, 0, none⟩) len len) ∧ w' = w.alloc (.cells (vals xs).toArray 5) :=
  copied_any w sp len cap (vals xs) (by simp [vals, hlen]) hb hs.holds
end Go.Proofs.YtjcdnclfakmbpaaGreatDoor.C
namespace Go.Proofs.YtjcdnclfakmbpaaGreatDoor
open Go.RowKit
theorem setRow_alloc_new (w : World) (c cs : Array Value) (t : TypeId) (fr : Nat × Nat) : (w.alloc (.cells c t fr)).setRow w.heap.size cs = w.alloc (.cells cs t fr) := by
  unfold World.setRow World.alloc
  congr 1
  apply Array.ext
  · simp
  · intro k h1 h2
    simp only [Array.getElem_modify, Array.getElem_push]
    split
    · rename_i h; subst h; simp
    · rename_i h
      simp at h1
      rw [dif_pos (by omega), dif_pos (by omega)]
theorem Tryz.info5 : (Tryz.prog.info? 5).map (fun i => (i.zero, i.size, i.bytes)) = some (some (.int .u8 0), 1, 1) := by kernel_rfl
theorem Tryz.size5 : (Tryz.prog.info? 5).map (·.size) = some 1 := by kernel_rfl
theorem made_size (z : Value) (n : Nat) : (madeCells #[z] n).size = n := by simp [madeCells]
theorem made_none (z : Value) : madeCells #[z] 0 = #[] := Array.eq_empty_of_size_eq_zero (made_size z 0)
theorem cell_block {w : World} {p : Addr} {v : Value} (h : w.cell? p = some v) : p.block < w.heap.size := by
  unfold World.cell? at h
  rcases Nat.lt_or_ge p.block w.heap.size with hl | hl
  · exact hl
  · rw [Array.getElem?_eq_none hl] at h; cases h
structure Holds (w : World) (sp : Option Addr) (cs : List Value) : Prop where
  at_ : ∀ j v, cs[j]? = some v → ∃ ad, sp = some ad ∧ w.cell? (ad.add j) = some v
  one : ∀ v ∈ cs, v.oneCell' = true
structure Bytes (w : World) (sp : Option Addr) (xs : List Nat) : Prop where
  small : ∀ x ∈ xs, x < 256
  lie : xs = [] ∨ ∃ g o, sp = some ⟨g, o, none⟩ ∧ g < w.heap.size ∧ ∀ j, j < xs.length → w.cell? ⟨g, o + j, none⟩ = some (.int .u8 (xs.getD j 0))
theorem Bytes.below {w w' : World} {sp : Option Addr} {xs : List Nat} (h : Bytes w sp xs) (hb : Below w.heap.size w w') : Bytes w' sp xs := by
  refine ⟨h.small, ?_⟩
  rcases h.lie with h0 | ⟨g, o, e, hg, hc⟩
  · exact Or.inl h0
  · exact Or.inr ⟨g, o, e, Nat.lt_of_lt_of_le hg hb.size, fun j hj => by rw [hb.cell (p := ⟨g, o + j, none⟩) hg]; exact hc j hj⟩
def vals (xs : List Nat) : List Value := xs.map fun (x : Nat) => Value.int .u8 (x : Int)
theorem Bytes.holds {w : World} {sp : Option Addr} {xs : List Nat} (h : Bytes w sp xs) : Holds w sp (vals xs) := by
  refine ⟨fun j v hj => ?_, fun v hv => ?_⟩
  · rcases h.lie with h0 | ⟨g, o, e, hg, hc⟩
    · subst h0; simp [vals] at hj
    · refine ⟨_, e, ?_⟩
      simp only [vals, List.getElem?_map, Option.map_eq_some_iff] at hj
      obtain ⟨x, hx, rfl⟩ := hj
      have hlt : j < xs.length := (List.getElem?_eq_some_iff.1 hx).1
      have := hc j hlt
      simp only [List.getD, hx, Option.getD_some] at this
      unfold Addr.add
      by_cases h0 : j = 0
      · subst h0; simpa using this
      · simpa [h0] using this
  · simp only [vals, List.mem_map] at hv
    obtain ⟨x, _, rfl⟩ := hv
    rfl
end Go.Proofs.YtjcdnclfakmbpaaGreatDoor
