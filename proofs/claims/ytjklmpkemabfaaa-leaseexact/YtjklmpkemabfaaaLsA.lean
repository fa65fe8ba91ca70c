import Derived.Test.YtjklmpkemabfaaaKin
import Derived.Deep.CutRange
import Derived.Lib.MinMax
namespace Go.Proofs.Ytjklmpkemabfaaa
open Go.RowKit

/-- One block has turned. -/
structure Onl (b : Nat) (w w' : World) : Prop where
  os : w'.os = w.os
  tape : w'.tape = w.tape
  output : w'.output = w.output
  size : w'.heap.size = w.heap.size
  block : ∀ c, c ≠ b → w'.heap[c]? = w.heap[c]?
theorem Onl.refl (b : Nat) (w : World) : Onl b w w := ⟨rfl, rfl, rfl, rfl, fun _ _ => rfl⟩
theorem Onl.set {b : Nat} {w w1 : World} (h : Onl b w w1) (i : Nat) (v : Value) : Onl b w (w1.setCell ⟨b, i, none⟩ v) :=
  ⟨h.os, h.tape, h.output, by simpa [World.setCell] using h.size, fun c hc => by rw [Below.heap_setCell _ _ _ _ (by simpa using hc)]; exact h.block c hc⟩
theorem Onl.below {b : Nat} {W w w' : World} (h : Onl b w w') (hb : Below W.heap.size W w) (hl : W.heap.size ≤ b) : Below W.heap.size W w' :=
  ⟨h.os.trans hb.os, h.tape.trans hb.tape, h.output.trans hb.output, by rw [h.size]; exact hb.size, fun c hc => (h.block c (by omega)).trans (hb.block c hc)⟩
/-- A block of two numbers. -/
def Lc (ty : TypeId) (w : World) (b : Nat) (t l : Int) : Prop := w.heap[b]? = some (.cells #[.int .i64 t, .int .i64 l] ty (0, 0))
theorem Lc.c0 {ty : TypeId} {w : World} {b : Nat} {t l : Int} (h : Lc ty w b t l) : w.cell? ⟨b, 0, none⟩ = some (.int .i64 t) := by simp [World.cell?, Lc] at h ⊢; rw [h]; rfl
theorem Lc.c1 {ty : TypeId} {w : World} {b : Nat} {t l : Int} (h : Lc ty w b t l) : w.cell? ⟨b, 1, none⟩ = some (.int .i64 l) := by simp [World.cell?, Lc] at h ⊢; rw [h]; rfl
theorem Lc.thaw {ty : TypeId} {w : World} {b : Nat} {t l : Int} (h : Lc ty w b t l) (j : Nat) : w.frozen? ⟨b, j, none⟩ = false := by unfold Lc at h; simp [World.frozen?, h]
theorem Lc.kept {ty : TypeId} {w w' : World} {b : Nat} {t l : Int} (h : Lc ty w b t l) (hb : w'.heap[b]? = w.heap[b]?) : Lc ty w' b t l := Eq.trans hb h
theorem Lc.set {ty : TypeId} {w : World} {b : Nat} {t l : Int} (h : Lc ty w b t l) (l' : Int) : Lc ty (w.setCell ⟨b, 1, none⟩ (.int .i64 l')) b t l' := by
  unfold Lc at h ⊢
  rw [heap_setCell_same _ _ _ _ _ _ h]; rfl
/-- A lease of the program's, one of the document's. -/
abbrev Lp := Lc 38
abbrev Lq := Lc 31
def tk (l : Int) : Int := max (l - 1) 0

set_option maxRecDepth 100000 in
theorem New_any (w : World) (t : Int) : Calls Try.prog 4 #[.int .i64 t] w fun e w' => e = .returned (.pointer (some ⟨w.heap.size, 0, none⟩)) ∧ w' = w.alloc (.cells #[.int .i64 (max t 0), .int .i64 0] 38) := by
  generalize hm : max t 0 = m
  have hm0 : max 0 t = m := by omega
  go_enter Try.func4, Try.ntmps4
  go_wp2
  go_ret
  exact ⟨rfl, rfl⟩
set_option maxRecDepth 100000 in
theorem Left_any (w : World) (b : Nat) (t l : Int) (h : Lp w b t l) : Calls Try.prog 10 #[.pointer (some ⟨b, 0, none⟩)] w fun e w' => e = .returned (.int .i64 l) ∧ w' = w := by
  have c1 := h.c1
  go_enter Try.func10, Try.ntmps10
  go_wp2
  go_ret
  exact ⟨rfl, rfl⟩
set_option maxRecDepth 100000 in
theorem Runs_any (w : World) (b : Nat) (t l : Int) (h : Lp w b t l) : Calls Try.prog 11 #[.pointer (some ⟨b, 0, none⟩)] w fun e w' => e = .returned (.bool (decide (0 < l))) ∧ w' = w := by
  have c1 := h.c1
  go_enter Try.func11, Try.ntmps11
  go_wp2
  go_ret
  exact ⟨rfl, rfl⟩
set_option maxRecDepth 100000 in
theorem Hear_any (w : World) (b : Nat) (t l : Int) (h : Lp w b t l) : Calls Try.prog 6 #[.pointer (some ⟨b, 0, none⟩)] w fun e w' => e = .returned (.tuple #[]) ∧ Lp w' b t t ∧ Onl b w w' := by
  have c0 := h.c0
  have c1 := h.c1
  have f1 := h.thaw 1
  have H := hide h
  clear h
  go_enter Try.func6, Try.ntmps6
  go_wp2
  go_end0
  exact ⟨rfl, H.out.set t, (Onl.refl b w).set 1 _⟩
set_option maxRecDepth 100000 in
theorem Tick_any (w : World) (b : Nat) (t l : Int) (h : Lp w b t l) (h0 : 0 ≤ l) (h1 : l ≤ 9223372036854775807) : Calls Try.prog 8 #[.pointer (some ⟨b, 0, none⟩)] w fun e w' => e = .returned (.tuple #[]) ∧ Lp w' b t (tk l) ∧ Onl b w w' := by
  have c0 := h.c0
  have c1 := h.c1
  have f1 := h.thaw 1
  have H := hide h
  clear h
  have HT : Hid (tk l = max (l - 1) 0) := rfl
  generalize tk l = m at *
  go_enter Try.func8, Try.ntmps8
  go_wp2
  go_end0
  exact ⟨rfl, by rw [HT.out]; exact H.out.set _, (Onl.refl b w).set 1 _⟩
set_option maxRecDepth 100000 in
theorem RHear_any (w : World) (b : Nat) (t l : Int) (h : Lq w b t l) : Calls Try.prog 7 #[.pointer (some ⟨b, 0, none⟩)] w fun e w' => e = .returned (.tuple #[]) ∧ Lq w' b t (max t 0) ∧ Onl b w w' := by
  have c0 := h.c0
  have c1 := h.c1
  have f1 := h.thaw 1
  have H := hide h
  clear h
  have HM : Hid (max t 0 = max t 0) := rfl
  by_cases hn : t < 0
  · have HT : Hid (max t 0 = 0) := by show max t 0 = 0; omega
    generalize max t 0 = m at *
    go_enter Try.func7, Try.ntmps7
    go_wp2
    go_end0
    exact ⟨rfl, by rw [HT.out]; exact (H.out.set t).set 0, ((Onl.refl b w).set 1 _).set 1 _⟩
  · have HT : Hid (max t 0 = t) := by show max t 0 = t; omega
    generalize max t 0 = m at *
    go_enter Try.func7, Try.ntmps7
    go_wp2
    go_end0
    exact ⟨rfl, by rw [HT.out]; exact H.out.set t, (Onl.refl b w).set 1 _⟩
set_option maxRecDepth 100000 in
theorem RTick_any (w : World) (b : Nat) (t l : Int) (h : Lq w b t l) (h0 : 0 ≤ l) (h1 : l ≤ 9223372036854775807) : Calls Try.prog 9 #[.pointer (some ⟨b, 0, none⟩)] w fun e w' => e = .returned (.tuple #[]) ∧ Lq w' b t (tk l) ∧ Onl b w w' := by
  have c0 := h.c0
  have c1 := h.c1
  have f1 := h.thaw 1
  have H := hide h
  clear h
  by_cases hn : 0 < l
  · have HT : Hid (tk l = l - 1) := by show max (l - 1) 0 = l - 1; omega
    generalize tk l = m at *
    go_enter Try.func9, Try.ntmps9
    go_wp2
    go_end0
    exact ⟨rfl, by rw [HT.out]; exact H.out.set _, (Onl.refl b w).set 1 _⟩
  · have HT : Hid (tk l = l) := by show max (l - 1) 0 = l; omega
    generalize tk l = m at *
    go_enter Try.func9, Try.ntmps9
    go_wp2
    go_end0
    exact ⟨rfl, by rw [HT.out]; exact H.out, Onl.refl b w⟩
theorem tmod_into (n m : Int) (hm : 0 < m) : n % m = if n.tmod m < 0 then n.tmod m + m else n.tmod m := by
  have h1 := Int.tmod_lt_of_pos n hm
  have h2 : -m < n.tmod m := Int.lt_tmod_of_pos n hm
  have e : n % m = n.tmod m % m := by rw [Int.tmod_def, Int.sub_mul_emod_self_left]
  split
  · rw [e, ← Int.add_emod_right, Int.emod_eq_of_lt (by omega) (by omega)]
  · rw [e, Int.emod_eq_of_lt (by omega) (by omega)]
set_option maxRecDepth 100000 in
set_option maxHeartbeats 400000 in
theorem Within_any (w : World) (n : Int) :
    Calls Try.prog 5 #[.int .i64 n, .int .i64 2] w fun r w' => r = .returned (.int .i64 ((n % 2).toNat : Int)) ∧ w' = w := by
  have h1 := Int.tmod_lt_of_pos n (show (0 : Int) < 2 by omega)
  have h2 : -2 < n.tmod 2 := Int.lt_tmod_of_pos n (by omega)
  have h3 := tmod_into n 2 (by omega)
  have h4 := Int.emod_nonneg n (show (2 : Int) ≠ 0 by omega)
  have h6 : (((n % 2).toNat : Nat) : Int) = n % 2 := by omega
  rw [h6]
  by_cases hlt : n.tmod 2 < 0
  · rw [if_pos hlt] at h3
    generalize n % 2 = r at *
    have H3 := hide h3
    clear h3 h6 h4
    go_enter Try.func5, Try.ntmps5
    go_wp2
    go_ret
    exact ⟨by rw [H3.out]; rfl, rfl⟩
  · rw [if_neg hlt] at h3
    generalize n % 2 = r at *
    have H3 := hide h3
    clear h3 h6 h4
    go_enter Try.func5, Try.ntmps5
    go_wp2
    go_ret
    exact ⟨by rw [H3.out]; rfl, rfl⟩
end Go.Proofs.Ytjklmpkemabfaaa
