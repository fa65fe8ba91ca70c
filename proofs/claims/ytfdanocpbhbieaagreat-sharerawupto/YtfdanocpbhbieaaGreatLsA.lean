import Derived.Test.YtfdanocpbhbieaaGreatAcA
import Derived.Deep.CutRange
import Derived.Lib.MinMax
namespace Go.Proofs.YtfdanocpbhbieaaGreat
open Go.RowKit

/-- One block has turned. -/
structure Onl (b : Nat) (w w' : World) : Prop where
  os : w'.os = w.os
  tape : w'.tape = w.tape
  output : w'.output = w.output
  size : w'.heap.size = w.heap.size
  block : ∀ c, c ≠ b → w'.heap[c]? = w.heap[c]?
theorem Onl.refl (b : Nat) (w : World) : Onl b w w := ⟨rfl, rfl, rfl, rfl, fun _ _ => rfl⟩
theorem Onl.set {b : Nat} {w w1 : World} (h : Onl b w w1) (i : Nat) (v : Value) : Onl b w (w1.setCell ⟨b, i, none⟩ v) :=
  ⟨h.os, h.tape, h.output, by simpa [World.setCell] using h.size, fun c hc => by rw [Below.heap_setCell _ _ _ _ (by simpa using hc)]; exact h.block c hc⟩
theorem Onl.below {b : Nat} {W w w' : World} (h : Onl b w w') (hb : Below W.heap.size W w) (hl : W.heap.size ≤ b) : Below W.heap.size W w' :=
  ⟨h.os.trans hb.os, h.tape.trans hb.tape, h.output.trans hb.output, by rw [h.size]; exact hb.size, fun c hc => (h.block c (by omega)).trans (hb.block c hc)⟩
/-- A block of two numbers. -/
def Lc (ty : TypeId) (w : World) (b : Nat) (t l : Int) : Prop := w.heap[b]? = some (.cells #[.int .i64 t, .int .i64 l] ty (0, 0))
theorem Lc.c0 {ty : TypeId} {w : World} {b : Nat} {t l : Int} (h : Lc ty w b t l) : w.cell? ⟨b, 0, none⟩ = some (.int .i64 t) := by simp [World.cell?, Lc] at h ⊢; rw [h]; rfl
theorem Lc.c1 {ty : TypeId} {w : World} {b : Nat} {t l : Int} (h : Lc ty w b t l) : w.cell? ⟨b, 1, none⟩ = some (.int .i64 l) := by simp [World.cell?, Lc] at h ⊢; rw [h]; rfl
theorem Lc.thaw {ty : TypeId} {w : World} {b : Nat} {t l : Int} (h : Lc ty w b t l) (j : Nat) : w.frozen? ⟨b, j, none⟩ = false := by unfold Lc at h; simp [World.frozen?, h]
theorem Lc.kept {ty : TypeId} {w w' : World} {b : Nat} {t l : Int} (h : Lc ty w b t l) (hb : w'.heap[b]? = w.heap[b]?) : Lc ty w' b t l := Eq.trans hb h
theorem Lc.set {ty : TypeId} {w : World} {b : Nat} {t l : Int} (h : Lc ty w b t l) (l' : Int) : Lc ty (w.setCell ⟨b, 1, none⟩ (.int .i64 l')) b t l' := by
  unfold Lc at h ⊢
  rw [heap_setCell_same _ _ _ _ _ _ h]; rfl
/-- A lease of the program's, one of the document's. -/
abbrev Lp := Lc 104
def tk (l : Int) : Int := max (l - 1) 0

set_option maxRecDepth 100000 in
theorem New_any (w : World) (t : Int) : Calls Tryz.prog 14 #[.int .i64 t] w fun e w' => e = .returned (.pointer (some ⟨w.heap.size, 0, none⟩)) ∧ w' = w.alloc (.cells #[.int .i64 (max t 0), .int .i64 0] 104) := by
  generalize hm : max t 0 = m
  have hm0 : max 0 t = m := by omega
  go_enter Tryz.func14, Tryz.ntmps14
  go_wp2
  go_ret
  exact ⟨rfl, rfl⟩
set_option maxRecDepth 100000 in
theorem Left_any (w : World) (b : Nat) (t l : Int) (h : Lp w b t l) : Calls Tryz.prog 17 #[.pointer (some ⟨b, 0, none⟩)] w fun e w' => e = .returned (.int .i64 l) ∧ w' = w := by
  have c1 := h.c1
  go_enter Tryz.func17, Tryz.ntmps17
  go_wp2
  go_ret
  exact ⟨rfl, rfl⟩
set_option maxRecDepth 100000 in
theorem Runs_any (w : World) (b : Nat) (t l : Int) (h : Lp w b t l) : Calls Tryz.prog 18 #[.pointer (some ⟨b, 0, none⟩)] w fun e w' => e = .returned (.bool (decide (0 < l))) ∧ w' = w := by
  have c1 := h.c1
  go_enter Tryz.func18, Tryz.ntmps18
  go_wp2
  go_ret
  exact ⟨rfl, rfl⟩
set_option maxRecDepth 100000 in
theorem Hear_any (w : World) (b : Nat) (t l : Int) (h : Lp w b t l) : Calls Tryz.prog 16 #[.pointer (some ⟨b, 0, none⟩)] w fun e w' => e = .returned (.tuple #[]) ∧ Lp w' b t t ∧ Onl b w w' := by
  have c0 := h.c0
  have c1 := h.c1
  have f1 := h.thaw 1
  have H := hide h
  clear h
  go_enter Tryz.func16, Tryz.ntmps16
  go_wp2
  go_end0
  exact ⟨rfl, H.out.set t, (Onl.refl b w).set 1 _⟩
set_option maxRecDepth 100000 in
theorem Tick_any (w : World) (b : Nat) (t l : Int) (h : Lp w b t l) (h0 : 0 ≤ l) (h1 : l ≤ 9223372036854775807) : Calls Tryz.prog 15 #[.pointer (some ⟨b, 0, none⟩)] w fun e w' => e = .returned (.tuple #[]) ∧ Lp w' b t (tk l) ∧ Onl b w w' := by
  have c0 := h.c0
  have c1 := h.c1
  have f1 := h.thaw 1
  have H := hide h
  clear h
  have HT : Hid (tk l = max (l - 1) 0) := rfl
  generalize tk l = m at *
  go_enter Tryz.func15, Tryz.ntmps15
  go_wp2
  go_end0
  exact ⟨rfl, by rw [HT.out]; exact H.out.set _, (Onl.refl b w).set 1 _⟩
theorem tmod_into (n m : Int) (hm : 0 < m) : n % m = if n.tmod m < 0 then n.tmod m + m else n.tmod m := by
  have h1 := Int.tmod_lt_of_pos n hm
  have h2 : -m < n.tmod m := Int.lt_tmod_of_pos n hm
  have e : n % m = n.tmod m % m := by rw [Int.tmod_def, Int.sub_mul_emod_self_left]
  split
  · rw [e, ← Int.add_emod_right, Int.emod_eq_of_lt (by omega) (by omega)]
  · rw [e, Int.emod_eq_of_lt (by omega) (by omega)]
end Go.Proofs.YtfdanocpbhbieaaGreat
