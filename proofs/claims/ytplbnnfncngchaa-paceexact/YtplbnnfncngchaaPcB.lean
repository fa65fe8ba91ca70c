import Derived.Test.YtplbnnfncngchaaPcA
namespace Go.Proofs.Ytplbnnfncngchaa
open Go.RowKit

/-- A pace of cap m behind n ticks; how many of them were times. -/
def it (m : Nat) : Nat → Pc
  | 0 => .new m
  | n + 1 => (it m n).tick
def cnt (m : Nat) : Nat → Nat
  | 0 => 0
  | n + 1 => cnt m n + if (it m n).now then 1 else 0
theorem it_ok {m : Nat} (h1 : 1 ≤ m) (h2 : m ≤ 64) : ∀ n, (it m n).Ok
  | 0 => Pc.new_ok h1 h2
  | n + 1 => (it_ok h1 h2 n).tick
theorem it_most (m : Nat) : ∀ n, (it m n).most = m
  | 0 => rfl
  | n + 1 => (Pc.tick_most _).trans (it_most m n)
theorem run_on {m a l g : Nat} (hg : 1 ≤ g) (hd : it m a = ⟨l, g, m⟩) (hl : l ≤ 1) : ∀ j, j < g → it m (a + 1 + j) = ⟨g - j, min (2 * g) m, m⟩ ∧ cnt m (a + 1 + j) = cnt m a + 1
  | 0, _ => by
    refine ⟨?_, ?_⟩
    · show (it m a).tick = _
      rw [hd]; unfold Pc.tick; rw [if_neg (by show ¬ 1 < l; omega)]; rfl
    · show cnt m a + (if (it m a).now then 1 else 0) = _
      rw [hd]; unfold Pc.now; simp [hl]
  | j + 1, h => by
    obtain ⟨e1, e2⟩ := run_on hg hd hl j (by omega)
    refine ⟨?_, ?_⟩
    · show (it m (a + 1 + j)).tick = _
      rw [e1]; unfold Pc.tick; rw [if_pos (by show 1 < g - j; omega)]
      show Pc.mk (g - j - 1) _ _ = _
      congr 1
    · show cnt m (a + 1 + j) + (if (it m (a + 1 + j)).now then 1 else 0) = _
      rw [e2, e1]; unfold Pc.now
      rw [if_neg (by simp; omega)]
/-- Where Times' loop stands. -/
structure Tm (m n k at' gap : Nat) : Prop where
  g1 : 1 ≤ gap
  g2 : gap ≤ m
  le : at' ≤ n + 64
  is : (k = 0 ∧ at' = 1 ∧ gap = 1) ∨ ∃ a g, at' = a + g ∧ 1 ≤ a ∧ 1 ≤ g ∧ a ≤ n ∧ ∀ j, j < g → it m (a + j) = ⟨g - j, gap, m⟩ ∧ cnt m (a + j) = k
theorem Tm.start {m n : Nat} (h : 1 ≤ m) : Tm m n 0 1 1 := ⟨Nat.le_refl _, h, by omega, Or.inl ⟨rfl, rfl, rfl⟩⟩
theorem Tm.next {m n k at' gap : Nat} (h : Tm m n k at' gap) (hm : m ≤ 64) (hle : at' ≤ n) : Tm m n (k + 1) (at' + gap) (min (2 * gap) m) := by
  obtain ⟨h1, h2, h3, h4⟩ := h
  refine ⟨by omega, by omega, by omega, Or.inr ⟨at', gap, rfl, ?_, h1, hle, ?_⟩⟩
  · rcases h4 with ⟨_, e, _⟩ | ⟨a, g, e, e1, _⟩ <;> omega
  · rcases h4 with ⟨rfl, rfl, rfl⟩ | ⟨a, g, rfl, e1, e2, _, e4⟩
    · intro j hj
      have := run_on (m := m) (a := 0) (l := 0) (g := 1) (by omega) rfl (by omega) j hj
      simpa [cnt] using this
    · obtain ⟨d1, d2⟩ := e4 (g - 1) (by omega)
      intro j hj
      have := run_on (m := m) (a := a + (g - 1)) (l := g - (g - 1)) (g := gap) h1 d1 (by omega) j hj
      rw [d2, show a + (g - 1) + 1 + j = a + g + j by omega] at this
      exact this
def atOf (m n : Nat) : Nat := if n = 0 then 1 else n + (it m n).left
theorem Tm.done {m n k at' gap : Nat} (h : Tm m n k at' gap) (hlt : n < at') : k = cnt m n ∧ at' = atOf m n := by
  obtain ⟨_, _, _, h4⟩ := h
  unfold atOf
  rcases h4 with ⟨rfl, rfl, _⟩ | ⟨a, g, rfl, e1, e2, e3, e4⟩
  · obtain rfl : n = 0 := by omega
    exact ⟨rfl, rfl⟩
  · obtain ⟨d1, d2⟩ := e4 (n - a) (by omega)
    rw [show a + (n - a) = n by omega] at d1 d2
    rw [if_neg (by omega), d1]
    exact ⟨d2.symm, by show a + g = n + (g - (n - a)); omega⟩

set_option maxRecDepth 100000 in
theorem Times_any (w : World) (m n : Nat) (h1 : 1 ≤ m) (h2 : m ≤ 64) (hn : n ≤ 1000000) :
    Calls Try.prog 17 #[.int .i64 (m : Int), .int .i64 (n : Int)] w fun e w' => e = .returned (.tuple #[.int .i64 (cnt m n : Int), .int .i64 (atOf m n : Int)]) ∧ w' = w := by
  have HS := hide (Tm.start (n := n) h1)
  go_enter Try.func17, Try.ntmps17
  go_wp2
  go_loop [6, 7, 8] (fun g a k => ∃ (k' a' g' : Nat), g = .int .i64 (g' : Int) ∧ a = .int .i64 (a' : Int) ∧ k = .int .i64 (k' : Int) ∧ k' ≤ a' ∧ Hid (Tm m n k' a' g')) (fun _ a _ => n + 65 - (intOf a).toNat)
  case atStart => exact ⟨0, 1, 1, rfl, rfl, rfl, by omega, HS⟩
  case round =>
    obtain ⟨k, a, g, rfl, rfl, rfl, hk, HT⟩ := hrel
    have b1 := HT.out.g1
    have b2 := HT.out.g2
    have b3 := HT.out.le
    by_cases hlt : a ≤ n
    · have HN := hide (HT.out.next h2 hlt)
      by_cases hd : m < 2 * g
      · have hmin : Hid (min (2 * g) m = m) := by show _ = _; omega
        go_wp2
        go_round
        case rel => exact ⟨k + 1, a + g, m, rfl, by go_num, by go_num, by omega, by have h := HN.out; rw [hmin.out] at h; exact h⟩
        case measure => simp [intOf]; omega
      · have hmin : Hid (min (2 * g) m = 2 * g) := by show _ = _; omega
        go_wp2
        go_round
        case rel => exact ⟨k + 1, a + g, 2 * g, by go_num, by go_num, by go_num, by omega, by have h := HN.out; rw [hmin.out] at h; exact h⟩
        case measure => simp [intOf]; omega
    · have HD := hide (HT.out.done (by omega))
      go_wp2
      go_ret2
      exact ⟨by rw [← HD.out.1, ← HD.out.2]; rfl, rfl⟩
/-- The document's pace in memory. -/
def Rf (w : World) (b : Nat) (m n : Nat) : Prop := w.heap[b]? = some (.cells #[.int .i64 (m : Int), .int .i64 (n : Int)] 54 (0, 0))
theorem Rf.cap {w : World} {b m n : Nat} (h : Rf w b m n) : w.cell? ⟨b, 0, none⟩ = some (.int .i64 (m : Int)) := by simp [World.cell?, Rf] at h ⊢; rw [h]; rfl
theorem Rf.ticks {w : World} {b m n : Nat} (h : Rf w b m n) : w.cell? ⟨b, 1, none⟩ = some (.int .i64 (n : Int)) := by simp [World.cell?, Rf] at h ⊢; rw [h]; rfl
theorem Rf.thaw {w : World} {b m n : Nat} (h : Rf w b m n) (j : Nat) : w.frozen? ⟨b, j, none⟩ = false := by unfold Rf at h; simp [World.frozen?, h]
theorem Rf.set {w : World} {b m n : Nat} (h : Rf w b m n) (k : Nat) : Rf (w.setCell ⟨b, 1, none⟩ (.int .i64 (k : Int))) b m k := by
  unfold Rf at h ⊢
  rw [heap_setCell_same _ _ _ _ _ _ h]; rfl
theorem Rf.kept {w w' : World} {b m n : Nat} (h : Rf w b m n) (hb : w'.heap[b]? = w.heap[b]?) : Rf w' b m n := Eq.trans hb h
theorem Onl.drewN {b : Nat} {w w1 : World} (h : Onl b w w1) (q : Nat) : Onl b w (w1.drewN q) := ⟨h.os, h.tape, h.output, h.size, h.block⟩
set_option maxRecDepth 100000 in
theorem RReset_any (w : World) (b m n : Nat) (h : Rf w b m n) :
    Calls Try.prog 11 #[.pointer (some ⟨b, 0, none⟩)] w fun e w' => e = .returned (.tuple #[]) ∧ Rf w' b m 0 ∧ Onl b w w' := by
  have c1 := h.ticks
  have f1 := h.thaw 1
  have H := hide h
  clear h
  go_enter Try.func11, Try.ntmps11
  go_wp2
  go_end0
  exact ⟨rfl, H.out.set 0, (Onl.refl b w).set 1 _⟩
set_option maxRecDepth 100000 in
theorem RWait_any (w : World) (b m n : Nat) (h : Rf w b m n) (h1 : 1 ≤ m) (h2 : m ≤ 64) (hn : n ≤ 1000000) :
    Calls Try.prog 13 #[.pointer (some ⟨b, 0, none⟩)] w fun e w' => e = .returned (.int .i64 ((it m n).left : Int)) ∧ ∃ q, w' = w.drewN q := by
  have c0 := h.cap
  have c1 := h.ticks
  clear h
  by_cases h0 : n = 0
  · subst h0
    go_enter Try.func13, Try.ntmps13
    go_wp2
    go_ret
    exact ⟨rfl, 0, rfl⟩
  · have HT : Hid (∀ w, Calls Try.prog 17 #[.int .i64 (m : Int), .int .i64 (n : Int)] w fun e w' => e = .returned (.tuple #[.int .i64 (cnt m n : Int), .int .i64 (atOf m n : Int)]) ∧ w' = w) := fun w => Times_any w m n h1 h2 hn
    have HA : Hid (((atOf m n : Nat) : Int) - (n : Int) = ((it m n).left : Int)) := by show _ = _; unfold atOf; rw [if_neg h0]; omega
    have hl := (it_ok h1 h2 n).l
    rw [it_most] at hl
    have ha : atOf m n ≤ n + 64 := by unfold atOf; rw [if_neg h0]; omega
    generalize cnt m n = C at *
    generalize atOf m n = A at *
    generalize (it m n).left = L at *
    have h0' : ((n : Int) == 0) = false := by simp; omega
    go_enter Try.func13, Try.ntmps13
    go_wp2_with fail
    go_quiet (first | (go_at_call 17; exact Calls.quiet_of_same (HT.out _)))
    all_goals go_wp2
    all_goals go_ret
    exact ⟨by rw [← HA.out]; rfl, _, rfl⟩
set_option maxRecDepth 100000 in
theorem RTick_any (w : World) (b m n : Nat) (h : Rf w b m n) (h1 : 1 ≤ m) (h2 : m ≤ 64) (hn : n < 1000000) :
    Calls Try.prog 9 #[.pointer (some ⟨b, 0, none⟩)] w fun e w' => e = .returned (.bool (it m n).now) ∧ Rf w' b m (n + 1) ∧ Onl b w w' := by
  have c0 := h.cap
  have c1 := h.ticks
  have f1 := h.thaw 1
  have HT : Hid (∀ w, Calls Try.prog 17 #[.int .i64 (m : Int), .int .i64 (n : Int)] w fun e w' => e = .returned (.tuple #[.int .i64 (cnt m n : Int), .int .i64 (atOf m n : Int)]) ∧ w' = w) := fun w => Times_any w m n h1 h2 (by omega)
  have HT2 : Hid (∀ w, Calls Try.prog 17 #[.int .i64 (m : Int), .int .i64 ((n : Int) + 1)] w fun e w' => e = .returned (.tuple #[.int .i64 (cnt m (n + 1) : Int), .int .i64 (atOf m (n + 1) : Int)]) ∧ w' = w) := fun w => Times_any w m (n + 1) h1 h2 (by omega)
  have HA : Hid (decide (cnt m n < cnt m (n + 1)) = (it m n).now) := by
    show _ = _
    rw [show cnt m (n + 1) = cnt m n + (if (it m n).now then 1 else 0) from rfl]
    cases (it m n).now <;> simp
  have HS := hide (h.set (n + 1))
  clear h
  generalize cnt m n = C at *
  generalize atOf m n = A at *
  generalize cnt m (n + 1) = C' at *
  generalize atOf m (n + 1) = A' at *
  generalize (it m n).now = B at *
  go_enter Try.func9, Try.ntmps9
  go_wp2_with fail
  go_quiet (first | (go_at_call 17; exact Calls.quiet_of_same (HT.out _)))
  go_wp2_with fail
  go_quiet (first | (go_at_call 17; exact Calls.quiet_of_same (HT2.out _)))
  all_goals go_wp2
  all_goals go_ret
  exact ⟨by rw [← HA.out]; rfl, HS.out, (((Onl.refl b w).drewN _).set 1 _).drewN _⟩
def RNewPost (w : World) (z : Int) (e : Ending) (w' : World) : Prop :=
    ((1 ≤ z ∧ z ≤ 64) ∧ e = .returned (.tuple #[.pointer (some ⟨w.heap.size, 0, none⟩), .int .i64 0]) ∧ Rf w' w.heap.size z.toNat 0 ∧ Below w.heap.size w w' ∧ w'.heap.size = w.heap.size + 1) ∨ (¬ (1 ≤ z ∧ z ≤ 64) ∧ e = .returned (.tuple #[.pointer none, .int .i64 70]) ∧ w' = w)
set_option maxRecDepth 100000 in
theorem RNew_any (w : World) (z : Int) : Calls Try.prog 16 #[.int .i64 z] w (RNewPost w z) := by
  by_cases h1 : z < 1
  · have HN : Hid (¬ (1 ≤ z ∧ z ≤ 64)) := by show ¬ _; omega
    go_enter Try.func16, Try.ntmps16
    go_wp2
    go_ret2
    exact Or.inr ⟨HN.out, rfl, rfl⟩
  · by_cases h2 : 64 < z
    · have HN : Hid (¬ (1 ≤ z ∧ z ≤ 64)) := by show ¬ _; omega
      go_enter Try.func16, Try.ntmps16
      go_wp2
      go_ret2
      exact Or.inr ⟨HN.out, rfl, rfl⟩
    · have HN : Hid (1 ≤ z ∧ z ≤ 64) := by show _ ∧ _; omega
      obtain ⟨m, rfl⟩ : ∃ m : Nat, z = (m : Int) := ⟨z.toNat, by omega⟩
      go_enter Try.func16, Try.ntmps16
      go_wp2
      go_ret2
      exact Or.inl ⟨HN.out, rfl, by rw [Int.toNat_natCast]; exact heap_alloc_new _ _, (Below.refl _ _).alloc (Nat.le_refl _) _, by unfold World.alloc; exact Array.size_push _⟩
end Go.Proofs.Ytplbnnfncngchaa
