import Derived.Test.YtfjhbbekeibpkaaDoorLkF
namespace Go.Proofs.YtfjhbbekeibpkaaDoor
open Go.RowKit

/-- A link, as data. -/
structure Lk where
  me : Int
  other : Int
  life : Nat
  window : Int
  known : Nat
  row : List (Nat × ByteArray)
  numbered : Nat
  gone : Nat
  handed : Nat
  ack : Bool
  left : Nat
  gap : Nat
  lim : Option Nat
  asked : Bool
  paced : Bool
def bhV : Option Nat → Value
  | none => Value.nilFunc
  | some m => .func (.func 32) #[.int .i64 (m : Int)] #[]
def lkC (L : Lk) (rv : Value) : Array Value := #[.int .i64 L.me, .int .i64 L.other, .int .u64 (L.life : Int), .int .i64 L.window, .int .u64 (L.known : Int), rv, .int .u64 (L.numbered : Int), .int .u64 (L.gone : Int), .int .u64 (L.handed : Int), .bool L.ack, .int .i64 (L.left : Int), .int .i64 (L.gap : Int), bhV L.lim, .bool L.asked, .bool L.paced]
/-- A link's block. -/
def Lb (w : World) (b : Nat) (L : Lk) (rv : Value) : Prop := w.heap[b]? = some (.cells (lkC L rv) 51 (0, 0))
theorem blk15 {w : World} {b : Nat} {x0 x1 x2 x3 x4 x5 x6 x7 x8 x9 x10 x11 x12 x13 x14 : Value} {t : TypeId} (h : w.heap[b]? = some (.cells #[x0, x1, x2, x3, x4, x5, x6, x7, x8, x9, x10, x11, x12, x13, x14] t (0, 0))) :
    w.cell? ⟨b, 0, none⟩ = some x0 ∧ w.cell? ⟨b, 1, none⟩ = some x1 ∧ w.cell? ⟨b, 2, none⟩ = some x2 ∧ w.cell? ⟨b, 3, none⟩ = some x3 ∧ w.cell? ⟨b, 4, none⟩ = some x4 ∧ w.cell? ⟨b, 5, none⟩ = some x5 ∧ w.cell? ⟨b, 6, none⟩ = some x6 ∧ w.cell? ⟨b, 7, none⟩ = some x7 ∧ w.cell? ⟨b, 8, none⟩ = some x8 ∧ w.cell? ⟨b, 9, none⟩ = some x9 ∧ w.cell? ⟨b, 10, none⟩ = some x10 ∧ w.cell? ⟨b, 11, none⟩ = some x11 ∧ w.cell? ⟨b, 12, none⟩ = some x12 ∧ w.cell? ⟨b, 13, none⟩ = some x13 ∧ w.cell? ⟨b, 14, none⟩ = some x14 ∧ (∀ o, w.frozen? ⟨b, o, none⟩ = false) := by
  simp only [World.cell?, World.frozen?, h]
  exact ⟨rfl, rfl, rfl, rfl, rfl, rfl, rfl, rfl, rfl, rfl, rfl, rfl, rfl, rfl, rfl, fun o => by simp⟩
theorem Lb.kept {w w' : World} {b : Nat} {L : Lk} {rv : Value} (h : Lb w b L rv) (hb : w'.heap[b]? = w.heap[b]?) : Lb w' b L rv := Eq.trans hb h
theorem Lb.below {w w' : World} {b : Nat} {L : Lk} {rv : Value} (h : Lb w b L rv) (hb : Below w.heap.size w w') : Lb w' b L rv := h.kept (hb.block b (C.lt_of_block h))
theorem Lb.set {w : World} {b : Nat} {L : Lk} {rv : Value} (h : Lb w b L rv) (i : Nat) (v : Value) (L' : Lk) (rv' : Value) (he : (lkC L rv).setIfInBounds i v = lkC L' rv') : Lb (w.setCell ⟨b, i, none⟩ v) b L' rv' := by
  unfold Lb at h ⊢
  rw [C.block_set h v, he]
/-- One block has turned. -/
structure Onl (b : Nat) (w w' : World) : Prop where
  os : w'.os = w.os
  tape : w'.tape = w.tape
  output : w'.output = w.output
  size : w'.heap.size = w.heap.size
  block : ∀ c, c ≠ b → w'.heap[c]? = w.heap[c]?
theorem Onl.refl (b : Nat) (w : World) : Onl b w w := ⟨rfl, rfl, rfl, rfl, fun _ _ => rfl⟩
theorem Onl.trans {b : Nat} {w w1 w2 : World} (h : Onl b w w1) (k : Onl b w1 w2) : Onl b w w2 :=
  ⟨k.os.trans h.os, k.tape.trans h.tape, k.output.trans h.output, k.size.trans h.size, fun c hc => (k.block c hc).trans (h.block c hc)⟩
theorem Onl.set {b : Nat} {w w1 : World} (h : Onl b w w1) (i : Nat) (v : Value) : Onl b w (w1.setCell ⟨b, i, none⟩ v) :=
  ⟨h.os, h.tape, h.output, by simpa [World.setCell] using h.size, fun c hc => by rw [Below.heap_setCell _ _ _ _ (by simpa using hc)]; exact h.block c hc⟩
theorem Onl.drew {b : Nat} {w w1 : World} (h : Onl b w w1) : Onl b w w1.drew := ⟨h.os, h.tape, h.output, h.size, h.block⟩
theorem Onl.below {b B : Nat} {W w w' : World} (h : Onl b w w') (hb : Below B W w) (hl : B ≤ b) : Below B W w' :=
  ⟨h.os.trans hb.os, h.tape.trans hb.tape, h.output.trans hb.output, by rw [h.size]; exact hb.size, fun c hc => (h.block c (by omega)).trans (hb.block c hc)⟩

/-! The pace within a link -/
def ltick (L : Lk) : Lk := if 1 < L.left then { L with left := L.left - 1 } else { L with left := L.gap, gap := match L.lim with | none => L.gap | some m => min (2 * L.gap) m }
def lnow (L : Lk) : Bool := decide (L.left ≤ 1)
def lreset (L : Lk) : Lk := { L with left := 0, gap := 1 }
set_option maxRecDepth 100000 in
theorem fn_neq (m : Int) (w : World) : Sem.run Tryd.prog (binOp BinOp.neq 47 (.func (.func 32) #[.int .i64 m] #[]) Value.nilFunc) w = .ok (.bool true) w := by first | kernel_rfl | rfl | (simp [binOp, go_sem])
set_option maxRecDepth 100000 in
theorem fn_neq0 (w : World) : Sem.run Tryd.prog (binOp BinOp.neq 47 Value.nilFunc Value.nilFunc) w = .ok (.bool false) w := by first | kernel_rfl | rfl | (simp [binOp, go_sem])
/-- A pace's numbers are small. -/
structure Lk.Pok (L : Lk) : Prop where
  l : L.left ≤ 64
  g : L.gap ≤ 64
  m : ∀ m, L.lim = some m → m ≤ 64
set_option maxRecDepth 100000 in
theorem behind_any (w : World) (m g : Nat) (_hm : m ≤ 64) (hg : g ≤ 64) :
    Calls Tryd.prog 32 #[.int .i64 (m : Int), .int .i64 (g : Int)] w fun e w' => e = .returned (.int .i64 ((min (2 * g) m : Nat) : Int)) ∧ w' = w := by
  have hm : ((min (2 * g) m : Nat) : Int) = min (2 * (g : Int)) (m : Int) := by omega
  rw [hm]
  generalize hK : min (2 * (g : Int)) (m : Int) = K
  go_enter Tryd.func32, Tryd.ntmps32
  go_wp2
  go_ret
  exact ⟨rfl, rfl⟩
set_option maxRecDepth 100000 in
set_option maxHeartbeats 1000000 in
theorem preset_any (w : World) (b : Nat) (L : Lk) (rv : Value) (h : Lb w b L rv) :
    Calls Tryd.prog 14 #[.pointer (some ⟨b, 10, none⟩)] w fun e w' => e = .returned (.tuple #[]) ∧ Lb w' b (lreset L) rv ∧ Onl b w w' := by
  obtain ⟨-, -, -, -, -, -, -, -, -, -, c10, c11, -, -, -, cf⟩ := blk15 h
  have H := hide h
  clear h
  go_enter Tryd.func14, Tryd.ntmps14
  go_wp2
  go_end0
  exact ⟨rfl, (H.out.set 10 (.int .i64 0) { L with left := 0 } rv rfl).set 11 (.int .i64 1) (lreset L) rv rfl, ((Onl.refl b w).set 10 _).set 11 _⟩
set_option maxRecDepth 100000 in
set_option maxHeartbeats 1000000 in
theorem ptick_any (w : World) (b : Nat) (L : Lk) (rv : Value) (h : Lb w b L rv) (ho : L.Pok) :
    Calls Tryd.prog 19 #[.pointer (some ⟨b, 10, none⟩)] w fun e w' => e = .returned (.bool (lnow L)) ∧ Lb w' b (ltick L) rv ∧ Onl b w w' := by
  obtain ⟨-, -, -, -, -, -, -, -, -, -, c10, c11, c12, -, -, cf⟩ := blk15 h
  have H := hide h
  have hl6 := ho.l
  have hg6 := ho.g
  have hm6 := ho.m
  clear h ho
  by_cases hl : 1 < L.left
  · have E1 : Hid (lnow L = false) := by show _ = _; unfold lnow; exact decide_eq_false (by omega)
    have E2 : Hid (ltick L = { L with left := L.left - 1 }) := by show _ = _; unfold ltick; rw [if_pos hl]
    have E3 : Hid ((L.left : Int) - 1 = ((L.left - 1 : Nat) : Int)) := by show _ = _; omega
    obtain ⟨l, hll⟩ : ∃ l, L.left = l := ⟨_, rfl⟩
    rw [hll] at c10 hl hl6
    have hl1 : (1 : Int) < (l : Int) := by omega
    have HL := hide hll
    clear hll hm6
    go_enter Tryd.func19, Tryd.ntmps19
    go_wp2
    go_ret
    refine ⟨by rw [E1.out]; rfl, ?_, (Onl.refl b w).set 10 _⟩
    rw [E2.out]
    exact H.out.set 10 _ _ rv (by rw [← HL.out, E3.out]; rfl)
  · have E1 : Hid (lnow L = true) := by show _ = _; unfold lnow; exact decide_eq_true (by omega)
    have E2 : Hid (ltick L = { L with left := L.gap, gap := match L.lim with | none => L.gap | some m => min (2 * L.gap) m }) := by show _ = _; unfold ltick; rw [if_neg hl]
    have hl1 : ¬ (1 : Int) < (L.left : Int) := by omega
    cases hlm : L.lim with
    | none =>
      rw [hlm] at c12 E2
      have hn := fn_neq0
      unfold bhV at c12
      have HM := hide hlm
      clear hlm hm6
      go_enter Tryd.func19, Tryd.ntmps19
      go_wp2
      go_ret
      refine ⟨by rw [E1.out]; rfl, ?_, (Onl.refl b w).set 10 _⟩
      rw [E2.out]
      exact H.out.set 10 _ _ rv (by unfold lkC; rw [HM.out]; rfl)
    | some m =>
      rw [hlm] at c12 E2
      have hm64 := hm6 m hlm
      have hn := fn_neq
      unfold bhV at c12
      have HBh := hide (fun w => behind_any w m L.gap hm64 hg6)
      have HM := hide hlm
      clear hlm hm6
      simp only at E2
      generalize hN : min (2 * L.gap) m = N at *
      have HN := hide hN
      clear hN
      go_enter Tryd.func19, Tryd.ntmps19
      go_wp2_with fail
      go_region_with (go_at_call 32; refine (HBh.out _).mono ?_; rintro e w2 ⟨rfl, rfl⟩)
      all_goals (go_wp2; go_ret; exact ⟨by rw [E1.out]; rfl, by rw [E2.out]; exact (H.out.set 10 _ { L with left := L.gap } rv rfl).set 11 _ _ rv (by unfold lkC; rw [HM.out]; rfl), (((Onl.refl b w).set 10 _).set 11 _).drew⟩)
end Go.Proofs.YtfjhbbekeibpkaaDoor
