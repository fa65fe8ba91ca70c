import Derived.Test.YtjklmpkemabfaaaLsA
namespace Go.Proofs.Ytjklmpkemabfaaa
open Go.RowKit

/-- Numbers that came in. -/
structure Nums (w : World) (sp : Option Addr) (xs : List Int) : Prop where
  lie : xs = [] ∨ ∃ g o, sp = some ⟨g, o, none⟩ ∧ g < w.heap.size ∧ ∀ j z, xs[j]? = some z → w.cell? ⟨g, o + j, none⟩ = some (.int .i64 z)
theorem Nums.cell {w wr : World} {sp : Option Addr} {xs : List Int} (h : Nums w sp xs) (hb : Below w.heap.size w wr) {k : Nat} {z : Int} (hz : xs[k]? = some z) : ∃ g o, sp = some ⟨g, o, none⟩ ∧ wr.cell? ⟨g, o + k, none⟩ = some (.int .i64 z) := by
  rcases h.lie with e | ⟨g, o, e, hg, hc⟩
  · rw [e] at hz; cases hz
  · exact ⟨g, o, e, (hb.cell (p := ⟨g, o + k, none⟩) hg).trans (hc k z hz)⟩
def ptr (b : Nat) : Value := .pointer (some ⟨b, 0, none⟩)
/-- WHAT LeaseExact HOLDS: its argument's box, two arrays of two pointers, two leases of each side. -/
structure Ls (w wr : World) (bx : Obj) (a b p0 p1 q0 q1 : Nat) (t0 t1 l0 l1 : Int) : Prop where
  box : wr.heap[w.heap.size]? = some bx
  ra : wr.heap[a]? = some (.cells #[ptr p0, ptr p1] 28 (0, 0))
  rb : wr.heap[b]? = some (.cells #[ptr q0, ptr q1] 32 (0, 0))
  P0 : Lp wr p0 (max t0 0) l0
  P1 : Lp wr p1 (max t1 0) l1
  Q0 : Lq wr q0 t0 l0
  Q1 : Lq wr q1 t1 l1
  z0 : 0 ≤ l0 ∧ l0 ≤ 9223372036854775807
  z1 : 0 ≤ l1 ∧ l1 ≤ 9223372036854775807
  u0 : max t0 0 ≤ 9223372036854775807
  u1 : max t1 0 ≤ 9223372036854775807
  far : [w.heap.size, a, b, p0, p1, q0, q1].Nodup
  lo : w.heap.size ≤ a ∧ w.heap.size ≤ b ∧ w.heap.size ≤ p0 ∧ w.heap.size ≤ p1 ∧ w.heap.size ≤ q0 ∧ w.heap.size ≤ q1
  bel : Below w.heap.size w wr
section
variable {w wr : World} {bx : Obj} {a b p0 p1 q0 q1 : Nat} {t0 t1 l0 l1 : Int}
theorem Ls.turn0 (h : Ls w wr bx a b p0 p1 q0 q1 t0 t1 l0 l1) {w1 w2 : World} {m : Int} (h1 : Onl p0 wr w1) (h2 : Onl q0 w1 w2) (hp : Lp w1 p0 (max t0 0) m) (hq : Lq w2 q0 t0 m) (hm : 0 ≤ m ∧ m ≤ 9223372036854775807) : Ls w w2 bx a b p0 p1 q0 q1 t0 t1 m l1 := by
  have hf := h.far
  have hl := h.lo
  simp only [List.nodup_cons, List.mem_cons, List.not_mem_nil, or_false, not_or] at hf
  obtain ⟨⟨_, _, n1, _, n2, _⟩, ⟨_, n3, _, n4, _⟩, ⟨n5, _, n6, _⟩, ⟨n7, n8, n9⟩, ⟨n10, n11⟩, n12, _⟩ := hf
  have g : ∀ c, c ≠ p0 → c ≠ q0 → w2.heap[c]? = wr.heap[c]? := fun c c1 c2 => (h2.block c c2).trans (h1.block c c1)
  exact ⟨(g _ n1 n2).trans h.box, (g _ n3 n4).trans h.ra, (g _ n5 n6).trans h.rb, hp.kept (h2.block _ n8), h.P1.kept (g _ (Ne.symm n7) n10), hq, h.Q1.kept (g _ (Ne.symm n9) (Ne.symm n12)), hm, h.z1, h.u0, h.u1, h.far, h.lo, h2.below (h1.below h.bel hl.2.2.1) hl.2.2.2.2.1⟩
theorem Ls.turn1 (h : Ls w wr bx a b p0 p1 q0 q1 t0 t1 l0 l1) {w1 w2 : World} {m : Int} (h1 : Onl p1 wr w1) (h2 : Onl q1 w1 w2) (hp : Lp w1 p1 (max t1 0) m) (hq : Lq w2 q1 t1 m) (hm : 0 ≤ m ∧ m ≤ 9223372036854775807) : Ls w w2 bx a b p0 p1 q0 q1 t0 t1 l0 m := by
  have hf := h.far
  have hl := h.lo
  simp only [List.nodup_cons, List.mem_cons, List.not_mem_nil, or_false, not_or] at hf
  obtain ⟨⟨_, _, _, n1, _, n2⟩, ⟨_, _, n3, _, n4⟩, ⟨_, n5, _, n6⟩, ⟨n7, n8, n9⟩, ⟨n10, n11⟩, n12, _⟩ := hf
  have g : ∀ c, c ≠ p1 → c ≠ q1 → w2.heap[c]? = wr.heap[c]? := fun c c1 c2 => (h2.block c c2).trans (h1.block c c1)
  exact ⟨(g _ n1 n2).trans h.box, (g _ n3 n4).trans h.ra, (g _ n5 n6).trans h.rb, h.P0.kept (g _ n7 n9), hp.kept (h2.block _ n11), h.Q0.kept (g _ (Ne.symm n10) n12), hq, h.z0, hm, h.u0, h.u1, h.far, h.lo, h2.below (h1.below h.bel hl.2.2.2.1) hl.2.2.2.2.2⟩
theorem Ls.cells (h : Ls w wr bx a b p0 p1 q0 q1 t0 t1 l0 l1) : wr.cell? ⟨a, 0, none⟩ = some (.pointer (some ⟨p0, 0, none⟩)) ∧ wr.cell? ⟨a, 1, none⟩ = some (.pointer (some ⟨p1, 0, none⟩)) ∧ wr.cell? ⟨b, 0, none⟩ = some (.pointer (some ⟨q0, 0, none⟩)) ∧ wr.cell? ⟨b, 1, none⟩ = some (.pointer (some ⟨q1, 0, none⟩)) :=
  ⟨by simp [World.cell?, h.ra, ptr], by simp [World.cell?, h.ra, ptr], by simp [World.cell?, h.rb, ptr], by simp [World.cell?, h.rb, ptr]⟩
theorem Ls.drewN (h : Ls w wr bx a b p0 p1 q0 q1 t0 t1 l0 l1) (n : Nat) : Ls w (wr.drewN n) bx a b p0 p1 q0 q1 t0 t1 l0 l1 :=
  ⟨h.box, h.ra, h.rb, h.P0, h.P1, h.Q0, h.Q1, h.z0, h.z1, h.u0, h.u1, h.far, h.lo, ⟨h.bel.os, h.bel.tape, h.bel.output, h.bel.size, h.bel.block⟩⟩
theorem Ls.bcell (h : Ls w wr bx a b p0 p1 q0 q1 t0 t1 l0 l1) {w1 : World} {k : Nat} {v : Value} (hv : wr.cell? ⟨b, k, none⟩ = some v) {p : Nat} (hp : p = p0 ∨ p = p1) (h1 : Onl p wr w1) : w1.cell? ⟨b, k, none⟩ = some v := by
  have hf := h.far
  simp only [List.nodup_cons, List.mem_cons, List.not_mem_nil, or_false, not_or] at hf
  have e : w1.heap[b]? = wr.heap[b]? := h1.block _ (by rcases hp with rfl | rfl; exact hf.2.2.1.1; exact hf.2.2.1.2.1)
  simp only [World.cell?, e] at hv ⊢
  exact hv
theorem Ls.left0 (h : Ls w wr bx a b p0 p1 q0 q1 t0 t1 l0 l1) (q : Nat) : Calls Try.prog 10 #[.pointer (some ⟨p0, 0, none⟩)] (wr.drewN q) fun e w' => e = .returned (.int .i64 l0) ∧ w' = wr.drewN q := Left_any (wr.drewN q) _ _ _ h.P0
theorem Ls.runs0 (h : Ls w wr bx a b p0 p1 q0 q1 t0 t1 l0 l1) (q : Nat) : Calls Try.prog 11 #[.pointer (some ⟨p0, 0, none⟩)] (wr.drewN q) fun e w' => e = .returned (.bool (decide (0 < l0))) ∧ w' = wr.drewN q := Runs_any (wr.drewN q) _ _ _ h.P0
theorem Ls.left1 (h : Ls w wr bx a b p0 p1 q0 q1 t0 t1 l0 l1) (q : Nat) : Calls Try.prog 10 #[.pointer (some ⟨p1, 0, none⟩)] (wr.drewN q) fun e w' => e = .returned (.int .i64 l1) ∧ w' = wr.drewN q := Left_any (wr.drewN q) _ _ _ h.P1
theorem Ls.runs1 (h : Ls w wr bx a b p0 p1 q0 q1 t0 t1 l0 l1) (q : Nat) : Calls Try.prog 11 #[.pointer (some ⟨p1, 0, none⟩)] (wr.drewN q) fun e w' => e = .returned (.bool (decide (0 < l1))) ∧ w' = wr.drewN q := Runs_any (wr.drewN q) _ _ _ h.P1
end
theorem al_size (w : World) (o : Obj) : (w.alloc o).heap.size = w.heap.size + 1 := by unfold World.alloc; exact Array.size_push _
theorem al_old {w : World} (o : Obj) {c : Nat} (h : c < w.heap.size) : (w.alloc o).heap[c]? = w.heap[c]? := Below.heap_alloc _ _ _ h
/-- Behind the first array: its argument's box, the array, two leases of the program's. -/
structure Bf (w wc : World) (bx : Obj) (a p0 p1 : Nat) (t0 t1 : Int) : Prop where
  box : wc.heap[w.heap.size]? = some bx
  ra : wc.heap[a]? = some (.cells #[ptr p0, ptr p1] 28 (0, 0))
  P0 : Lp wc p0 (max t0 0) 0
  P1 : Lp wc p1 (max t1 0) 0
  ne : [w.heap.size, a, p0, p1].Nodup
  lo : w.heap.size ≤ a ∧ w.heap.size ≤ p0 ∧ w.heap.size ≤ p1
  hi : a < w.heap.size + 1 + 1 + 1 + 1 ∧ p0 < w.heap.size + 1 + 1 + 1 + 1 ∧ p1 < w.heap.size + 1 + 1 + 1 + 1
  size : wc.heap.size = w.heap.size + 1 + 1 + 1 + 1
  bel : Below w.heap.size w wc
theorem bel4 (w : World) (o1 o2 o3 o4 : Obj) : Below w.heap.size w ((((w.alloc o1).alloc o2).alloc o3).alloc o4) ∧ ((((w.alloc o1).alloc o2).alloc o3).alloc o4).heap.size = w.heap.size + 1 + 1 + 1 + 1 ∧
    ((((w.alloc o1).alloc o2).alloc o3).alloc o4).heap[w.heap.size]? = some o1 ∧ ((((w.alloc o1).alloc o2).alloc o3).alloc o4).heap[w.heap.size + 1]? = some o2 ∧ ((((w.alloc o1).alloc o2).alloc o3).alloc o4).heap[w.heap.size + 1 + 1]? = some o3 ∧ ((((w.alloc o1).alloc o2).alloc o3).alloc o4).heap[w.heap.size + 1 + 1 + 1]? = some o4 := by
  have s1 := al_size w o1
  have s2 := al_size (w.alloc o1) o2
  have s3 := al_size ((w.alloc o1).alloc o2) o3
  have s4 := al_size (((w.alloc o1).alloc o2).alloc o3) o4
  refine ⟨((((Below.refl _ _).alloc (Nat.le_refl _) _).alloc (by omega) _).alloc (by omega) _).alloc (by omega) _, by omega, ?_, ?_, ?_, ?_⟩
  · rw [al_old _ (by omega), al_old _ (by omega), al_old _ (by omega)]; exact heap_alloc_new _ _
  · rw [al_old _ (by omega), al_old _ (by omega), ← s1]; exact heap_alloc_new _ _
  · rw [al_old _ (by omega), ← s1, ← s2]; exact heap_alloc_new _ _
  · rw [← s1, ← s2, ← s3]; exact heap_alloc_new _ _
theorem Bf.next {w wc : World} {bx : Obj} {a p0 p1 : Nat} {t0 t1 : Int} (h : Bf w wc bx a p0 p1 t0 t1) (h0 : t0 ≤ 9223372036854775807) (h1 : t1 ≤ 9223372036854775807) :
    Ls w (((wc.alloc (.cells #[.int .i64 t0, .int .i64 0] 31)).alloc (.cells #[.int .i64 t1, .int .i64 0] 31)).alloc (.cells #[.pointer (some ⟨wc.heap.size, 0, none⟩), .pointer (some ⟨wc.heap.size + 1, 0, none⟩)] 32)) bx a (wc.heap.size + 1 + 1) p0 p1 wc.heap.size (wc.heap.size + 1) t0 t1 0 0 := by
  have s1 := al_size wc (.cells #[.int .i64 t0, .int .i64 0] 31)
  have s2 := al_size (wc.alloc (.cells #[.int .i64 t0, .int .i64 0] 31)) (.cells #[.int .i64 t1, .int .i64 0] 31)
  have hs := h.size
  obtain ⟨l1, l2, l3⟩ := h.lo
  obtain ⟨i1, i2, i3⟩ := h.hi
  have o : ∀ c, c < wc.heap.size → (((wc.alloc (.cells #[.int .i64 t0, .int .i64 0] 31)).alloc (.cells #[.int .i64 t1, .int .i64 0] 31)).alloc (.cells #[.pointer (some ⟨wc.heap.size, 0, none⟩), .pointer (some ⟨wc.heap.size + 1, 0, none⟩)] 32)).heap[c]? = wc.heap[c]? := fun c hc => by
    rw [al_old _ (by omega), al_old _ (by omega), al_old _ (by omega)]
  refine ⟨(o _ (by omega)).trans h.box, (o _ (by omega)).trans h.ra, ?_, (h.P0).kept (o _ (by omega)), (h.P1).kept (o _ (by omega)), ?_, ?_, by omega, by omega, by omega, by omega, ?_, by omega, ((h.bel.alloc (by omega) _).alloc (by omega) _).alloc (by omega) _⟩
  · rw [← s1, ← s2]; exact heap_alloc_new _ _
  · show _ = _; rw [al_old _ (by omega), al_old _ (by omega)]; exact heap_alloc_new _ _
  · show _ = _; rw [al_old _ (by omega), ← s1]; exact heap_alloc_new _ _
  · have hn := h.ne
    simp only [List.nodup_cons, List.mem_cons, List.not_mem_nil, or_false, not_or, not_false_eq_true, List.nodup_nil, and_true] at hn ⊢
    omega
theorem New2_any {w wr : World} (h : Below w.heap.size w wr) : Calls Try.prog 4 #[.int .i64 2] wr fun e w' => e = .returned (.pointer (some ⟨wr.heap.size, 0, none⟩)) ∧ Lp w' wr.heap.size 2 0 ∧ Below w.heap.size w w' :=
  (New_any wr 2).mono fun _ _ ⟨he, hw⟩ => ⟨he, by rw [hw]; exact heap_alloc_new _ _, by rw [hw]; exact h.alloc h.size _⟩
end Go.Proofs.Ytjklmpkemabfaaa
