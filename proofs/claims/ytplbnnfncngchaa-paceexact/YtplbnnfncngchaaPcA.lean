import Derived.Test.YtplbnnfncngchaaKin
import Derived.Deep.CutRange
namespace Go.Proofs.Ytplbnnfncngchaa
open Go.RowKit

/-- A pace, as data. -/
structure Pc where
  left : Nat
  gap : Nat
  most : Nat
structure Pc.Ok (P : Pc) : Prop where
  m1 : 1 ≤ P.most
  m2 : P.most ≤ 64
  l : P.left ≤ P.most
  g1 : 1 ≤ P.gap
  g2 : P.gap ≤ P.most
def Pc.tick (P : Pc) : Pc := if 1 < P.left then ⟨P.left - 1, P.gap, P.most⟩ else ⟨P.gap, min (2 * P.gap) P.most, P.most⟩
def Pc.now (P : Pc) : Bool := decide (P.left ≤ 1)
def Pc.new (m : Nat) : Pc := ⟨0, 1, m⟩
theorem Pc.Ok.tick {P : Pc} (h : P.Ok) : P.tick.Ok := by
  obtain ⟨h1, h2, h3, h4, h5⟩ := h
  unfold Pc.tick
  split
  · exact ⟨h1, h2, by show P.left - 1 ≤ P.most; omega, h4, h5⟩
  · exact ⟨h1, h2, h5, by show 1 ≤ min (2 * P.gap) P.most; omega, by show min (2 * P.gap) P.most ≤ P.most; omega⟩
theorem Pc.new_ok {m : Nat} (h1 : 1 ≤ m) (h2 : m ≤ 64) : (Pc.new m).Ok := ⟨h1, h2, Nat.zero_le _, Nat.le_refl _, h1⟩
theorem Pc.tick_most (P : Pc) : P.tick.most = P.most := by unfold Pc.tick; split <;> rfl
def pcells (P : Pc) : Array Value := #[.int .i64 (P.left : Int), .int .i64 (P.gap : Int), .func (.func 18) #[.int .i64 (P.most : Int)] #[]]
/-- A pace in memory. -/
def Pk (w : World) (b : Nat) (P : Pc) : Prop := w.heap[b]? = some (.cells (pcells P) 50 (0, 0))
/-- One block has turned. -/
structure Onl (b : Nat) (w w' : World) : Prop where
  os : w'.os = w.os
  tape : w'.tape = w.tape
  output : w'.output = w.output
  size : w'.heap.size = w.heap.size
  block : ∀ c, c ≠ b → w'.heap[c]? = w.heap[c]?
theorem Onl.refl (b : Nat) (w : World) : Onl b w w := ⟨rfl, rfl, rfl, rfl, fun _ _ => rfl⟩
theorem Onl.trans {b : Nat} {w w1 w2 : World} (h : Onl b w w1) (k : Onl b w1 w2) : Onl b w w2 :=
  ⟨k.os.trans h.os, k.tape.trans h.tape, k.output.trans h.output, k.size.trans h.size, fun c hc => (k.block c hc).trans (h.block c hc)⟩
theorem Onl.set {b : Nat} {w w1 : World} (h : Onl b w w1) (i : Nat) (v : Value) : Onl b w (w1.setCell ⟨b, i, none⟩ v) :=
  ⟨h.os, h.tape, h.output, by simpa [World.setCell] using h.size, fun c hc => by rw [Below.heap_setCell _ _ _ _ (by simpa using hc)]; exact h.block c hc⟩
theorem Onl.drew {b : Nat} {w w1 : World} (h : Onl b w w1) : Onl b w w1.drew := ⟨h.os, h.tape, h.output, h.size, h.block⟩
theorem Onl.below {b : Nat} {W w w' : World} (h : Onl b w w') (hb : Below W.heap.size W w) (hl : W.heap.size ≤ b) : Below W.heap.size W w' :=
  ⟨h.os.trans hb.os, h.tape.trans hb.tape, h.output.trans hb.output, by rw [h.size]; exact hb.size, fun c hc => (h.block c (by omega)).trans (hb.block c hc)⟩
theorem Pk.left {w : World} {b : Nat} {P : Pc} (h : Pk w b P) : w.cell? ⟨b, 0, none⟩ = some (.int .i64 (P.left : Int)) := by simp [World.cell?, Pk] at h ⊢; rw [h]; rfl
theorem Pk.gap {w : World} {b : Nat} {P : Pc} (h : Pk w b P) : w.cell? ⟨b, 1, none⟩ = some (.int .i64 (P.gap : Int)) := by simp [World.cell?, Pk] at h ⊢; rw [h]; rfl
theorem Pk.behind {w : World} {b : Nat} {P : Pc} (h : Pk w b P) : w.cell? ⟨b, 2, none⟩ = some (.func (.func 18) #[.int .i64 (P.most : Int)] #[]) := by simp [World.cell?, Pk] at h ⊢; rw [h]; rfl
theorem Pk.kept {w w' : World} {b : Nat} {P : Pc} (h : Pk w b P) (hb : w'.heap[b]? = w.heap[b]?) : Pk w' b P := Eq.trans hb h
theorem Pk.set {w : World} {b : Nat} {P : Pc} (h : Pk w b P) (i : Nat) (v : Value) (Q : Pc) (he : (pcells P).setIfInBounds i v = pcells Q) : Pk (w.setCell ⟨b, i, none⟩ v) b Q := by
  unfold Pk at h ⊢
  rw [heap_setCell_same _ _ _ _ _ _ h, he]
theorem Pk.thaw {w : World} {b : Nat} {P : Pc} (h : Pk w b P) (j : Nat) : w.frozen? ⟨b, j, none⟩ = false := by
  unfold Pk at h; simp [World.frozen?, h]

set_option maxRecDepth 100000 in
theorem behind_any (w : World) (m g : Nat) (_hm : m ≤ 64) (hg : g ≤ 64) :
    Calls Try.prog 18 #[.int .i64 (m : Int), .int .i64 (g : Int)] w fun e w' => e = .returned (.int .i64 ((min (2 * g) m : Nat) : Int)) ∧ w' = w := by
  go_enter Try.func18, Try.ntmps18
  go_wp2
  · go_ret
    exact ⟨by rw [show ((min (2 * g) m : Nat) : Int) = (m : Int) by omega]; rfl, rfl⟩
  · go_ret
    exact ⟨by rw [show ((min (2 * g) m : Nat) : Int) = 2 * (g : Int) by omega]; rfl, rfl⟩
set_option maxRecDepth 100000 in
theorem Wait_any (w : World) (b : Nat) (P : Pc) (h : Pk w b P) :
    Calls Try.prog 12 #[.pointer (some ⟨b, 0, none⟩)] w fun e w' => e = .returned (.int .i64 (P.left : Int)) ∧ w' = w := by
  have c0 := h.left
  go_enter Try.func12, Try.ntmps12
  go_wp2
  go_ret
  exact ⟨rfl, rfl⟩
set_option maxRecDepth 100000 in
theorem Reset_any (w : World) (b : Nat) (P : Pc) (h : Pk w b P) :
    Calls Try.prog 10 #[.pointer (some ⟨b, 0, none⟩)] w fun e w' => e = .returned (.tuple #[]) ∧ Pk w' b (.new P.most) ∧ Onl b w w' := by
  have c0 := h.left
  have c1 := h.gap
  have f0 := h.thaw 0
  have f1 := h.thaw 1
  have H := hide h
  clear h
  go_enter Try.func10, Try.ntmps10
  go_wp2
  go_end0
  refine ⟨rfl, ?_, ((Onl.refl b w).set 0 _).set 1 _⟩
  exact (H.out.set 0 (.int .i64 0) ⟨0, P.gap, P.most⟩ rfl).set 1 (.int .i64 1) (.new P.most) rfl
set_option maxRecDepth 100000 in
theorem Tick_wait (w : World) (b : Nat) (P : Pc) (h : Pk w b P) (ho : P.Ok) (hl : 1 < P.left) :
    Calls Try.prog 8 #[.pointer (some ⟨b, 0, none⟩)] w fun e w' => e = .returned (.bool P.now) ∧ Pk w' b P.tick ∧ Onl b w w' := by
  have c0 := h.left
  have f0 := h.thaw 0
  have hle := ho.l
  have hm := ho.m2
  have e1 : Hid (P.now = false) := hide (by unfold Pc.now; simp; omega)
  have e2 : Hid (P.tick = ⟨P.left - 1, P.gap, P.most⟩) := hide (by unfold Pc.tick; rw [if_pos hl])
  have e3 : Hid (((P.left : Int) - 1) = ((P.left - 1 : Nat) : Int)) := by show (P.left : Int) - 1 = _; omega
  have H := hide h
  clear h ho
  generalize hL : P.left = L at *
  have HL := hide hL
  clear hL
  have hl1 : (1 : Int) < (L : Int) := by omega
  have hl2 : decide ((1 : Int) < (L : Int)) = true := by simp; omega
  go_enter Try.func8, Try.ntmps8
  go_wp2
  go_ret
  refine ⟨by rw [e1.out]; rfl, ?_, (Onl.refl b w).set 0 _⟩
  rw [e2.out]
  exact H.out.set 0 _ ⟨L - 1, P.gap, P.most⟩ (by rw [e3.out]; rfl)
theorem fn_neq (m : Int) (w : World) : Sem.run Try.prog (binOp BinOp.neq 48 (.func (.func 18) #[.int .i64 m] #[]) Value.nilFunc) w = .ok (.bool true) w := by first | rfl | kernel_rfl | (simp [binOp, go_sem])
set_option maxRecDepth 100000 in
theorem Tick_time (w : World) (b : Nat) (P : Pc) (h : Pk w b P) (ho : P.Ok) (hl : P.left ≤ 1) :
    Calls Try.prog 8 #[.pointer (some ⟨b, 0, none⟩)] w fun e w' => e = .returned (.bool P.now) ∧ Pk w' b P.tick ∧ Onl b w w' := by
  have c0 := h.left
  have c1 := h.gap
  have c2 := h.behind
  have f0 := h.thaw 0
  have f1 := h.thaw 1
  have hle := ho.l
  have hm := ho.m2
  have hg := ho.g2
  have hn := fn_neq
  have HB : ∀ w, Hid (Calls Try.prog 18 #[.int .i64 (P.most : Int), .int .i64 (P.gap : Int)] w fun e w' => e = .returned (.int .i64 ((min (2 * P.gap) P.most : Nat) : Int)) ∧ w' = w) := fun w => behind_any w P.most P.gap hm (by omega)
  have e1 : Hid (P.now = true) := hide (by unfold Pc.now; simp; omega)
  have e2 : Hid (P.tick = ⟨P.gap, min (2 * P.gap) P.most, P.most⟩) := hide (by unfold Pc.tick; rw [if_neg (by omega)])
  generalize hN : min (2 * P.gap) P.most = N at *
  have H := hide h
  clear h ho hN
  go_enter Try.func8, Try.ntmps8
  go_wp2_with fail
  go_region_with (go_at_call 18; refine (HB _).out.mono ?_; rintro e w2 ⟨rfl, rfl⟩)
  all_goals (go_wp2; go_ret; exact ⟨by rw [e1.out]; rfl, by rw [e2.out]; exact (H.out.set 0 _ ⟨P.gap, P.gap, P.most⟩ rfl).set 1 _ ⟨P.gap, N, P.most⟩ rfl, (((Onl.refl b w).set 0 _).set 1 _).drew⟩)
theorem Tick_any (w : World) (b : Nat) (P : Pc) (h : Pk w b P) (ho : P.Ok) :
    Calls Try.prog 8 #[.pointer (some ⟨b, 0, none⟩)] w fun e w' => e = .returned (.bool P.now) ∧ Pk w' b P.tick ∧ Onl b w w' := by
  by_cases hl : 1 < P.left
  · exact Tick_wait w b P h ho hl
  · exact Tick_time w b P h ho (by omega)
def NewPost (w : World) (z : Int) (e : Ending) (w' : World) : Prop :=
    ((1 ≤ z ∧ z ≤ 64) ∧ e = .returned (.tuple #[.pointer (some ⟨w.heap.size, 0, none⟩), .int .i64 0]) ∧ Pk w' w.heap.size (.new z.toNat) ∧ Below w.heap.size w w' ∧ w'.heap.size = w.heap.size + 1) ∨ (¬ (1 ≤ z ∧ z ≤ 64) ∧ e = .returned (.tuple #[.pointer none, .int .i64 70]) ∧ w' = w)
set_option maxRecDepth 100000 in
theorem New_any (w : World) (z : Int) : Calls Try.prog 14 #[.int .i64 z] w (NewPost w z) := by
  by_cases h1 : z < 1
  · have HN : Hid (¬ (1 ≤ z ∧ z ≤ 64)) := by show ¬ _; omega
    go_enter Try.func14, Try.ntmps14
    go_wp2
    go_ret2
    exact Or.inr ⟨HN.out, rfl, rfl⟩
  · by_cases h2 : 64 < z
    · have HN : Hid (¬ (1 ≤ z ∧ z ≤ 64)) := by show ¬ _; omega
      go_enter Try.func14, Try.ntmps14
      go_wp2
      go_ret2
      exact Or.inr ⟨HN.out, rfl, rfl⟩
    · have HN : Hid (1 ≤ z ∧ z ≤ 64) := by show _ ∧ _; omega
      obtain ⟨m, rfl⟩ : ∃ m : Nat, z = (m : Int) := ⟨z.toNat, by omega⟩
      have HR : Hid (Calls Try.prog 10 #[.pointer (some ⟨w.heap.size, 0, none⟩)] (w.alloc (.cells (pcells ⟨0, 0, m⟩) 50)) fun e w' => e = .returned (.tuple #[]) ∧ Pk w' w.heap.size (.new m) ∧ Onl w.heap.size (w.alloc (.cells (pcells ⟨0, 0, m⟩) 50)) w') := Reset_any _ _ ⟨0, 0, m⟩ (heap_alloc_new _ _)
      go_enter Try.func14, Try.ntmps14
      go_wp2_with (go_at_call 10; refine HR.out.mono ?_; rintro e w2 ⟨rfl, hp, ho⟩; have HP := hide hp; have HO := hide ho; clear hp ho)
      go_ret2
      have ho := HO.out
      exact Or.inl ⟨HN.out, rfl, by rw [Int.toNat_natCast]; exact HP.out, ho.below ((Below.refl _ _).alloc (Nat.le_refl _) _) (Nat.le_refl _), ho.size.trans (by unfold World.alloc; exact Array.size_push _)⟩
end Go.Proofs.Ytplbnnfncngchaa
