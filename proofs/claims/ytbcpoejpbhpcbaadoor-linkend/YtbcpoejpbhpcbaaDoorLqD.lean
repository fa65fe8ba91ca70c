import Derived.Test.YtbcpoejpbhpcbaaDoorLqC
import Derived.Test.YtbcpoejpbhpcbaaDoorLkK
namespace Go.Proofs.YtbcpoejpbhpcbaaDoor
open Go.RowKit

theorem blk9 {w : World} {b : Nat} {x0 x1 x2 x3 x4 x5 x6 x7 x8 : Value} {t : TypeId} (h : w.heap[b]? = some (.cells #[x0, x1, x2, x3, x4, x5, x6, x7, x8] t (0, 0))) :
    w.cell? ⟨b, 0, none⟩ = some x0 ∧ w.cell? ⟨b, 1, none⟩ = some x1 ∧ w.cell? ⟨b, 2, none⟩ = some x2 ∧ w.cell? ⟨b, 3, none⟩ = some x3 ∧ w.cell? ⟨b, 4, none⟩ = some x4 ∧ w.cell? ⟨b, 5, none⟩ = some x5 ∧ w.cell? ⟨b, 6, none⟩ = some x6 ∧ w.cell? ⟨b, 7, none⟩ = some x7 ∧ w.cell? ⟨b, 8, none⟩ = some x8 ∧ (∀ o, w.frozen? ⟨b, o, none⟩ = false) := by
  simp only [World.cell?, World.frozen?, h]
  exact ⟨rfl, rfl, rfl, rfl, rfl, rfl, rfl, rfl, rfl, fun o => by simp⟩
def prC (W M : Nat) (b0 b1 : Nat) (sv : Value) : Array Value := #[.int .i64 (W : Int), .int .i64 (M : Int), .int .u64 1, .int .u64 1, .pointer (some ⟨b0, 0, none⟩), .pointer (some ⟨b1, 0, none⟩), sv, .slice none 0 0, .slice none 0 0]
/-- A link of a pair that says words alone. -/
structure Wd (L : Lk) (me other : Int) : Prop where
  me : L.me = me
  other : L.other = other
  life : L.life = 1
  known : L.known ≤ 1
  handed : L.handed = 0
  win : 0 ≤ L.window
  pok : L.Pok
theorem Wd.tick {L : Lk} {me other : Int} (h : Wd L me other) : Wd (tickN L) me other := by
  obtain ⟨e1, e2, e3, e4, e5, _, e7, _⟩ := tickN_same L
  exact ⟨e1.trans h.me, e2.trans h.other, e3.trans h.life, by rw [e5]; exact h.known, e7.trans h.handed, by rw [e4]; exact h.win, tickN_pok h.pok⟩
theorem Wd.owe {L : Lk} {me other : Int} (h : Wd L me other) : Wd { L with asked := true } me other := ⟨h.me, h.other, h.life, h.known, h.handed, h.win, ⟨h.pok.l, h.pok.g, h.pok.m⟩⟩
theorem Wd.hear {L : Lk} {me other : Int} (h : Wd L me other) (y : Nat) : Wd (hearW L 1 y) me other := by
  unfold hearW hear1
  split
  · exact ⟨h.me, h.other, h.life, by show 1 ≤ 1; omega, rfl, h.win, ⟨by show 0 ≤ 64; omega, by show 1 ≤ 64; omega, h.pok.m⟩⟩
  · exact ⟨h.me, h.other, h.life, h.known, h.handed, h.win, ⟨h.pok.l, h.pok.g, h.pok.m⟩⟩
/-- The word that a link says. -/
def wfr (me other : Int) (y : Nat) : Fr := ⟨me, other, 1, y, 0, 0, []⟩
theorem Wd.fr {L : Lk} {me other : Int} (h : Wd L me other) : lfr L 0 ⟨#[]⟩ = wfr me other L.known := by
  unfold lfr wfr
  rw [h.me, h.other, h.life, h.handed]
  rfl
theorem wfr_fit {me other : Int} {y : Nat} (h1 : 0 ≤ me ∧ me ≤ 8) (h2 : 0 ≤ other ∧ other ≤ 8) (hy : y ≤ 1) : (wfr me other y).fit := by
  unfold Fr.fit wfr
  simp
  omega
theorem wfr_small (me other : Int) (y : Nat) : (wfr me other y).small := by intro x hx; simp [wfr] at hx
def sentC (es : List Fe) : List Value := es.flatMap feC
theorem sentC_len : ∀ es : List Fe, (sentC es).length = es.length * 7
  | [] => rfl
  | e :: es => by show (feC e ++ sentC es).length = _; rw [List.length_append, sentC_len es, List.length_cons]; simp [feC]; omega
theorem sentC_snoc (es : List Fe) (e : Fe) : sentC (es ++ [e]) = sentC es ++ feC e := by simp [sentC]
/-- Two links that say words alone, and what they have said. -/
structure Qs (w wr : World) (pb b0 b1 W M : Nat) (A B : Lk) (sv : Value) (es : List Fe) : Prop where
  bel : Below w.heap.size w wr
  pr : wr.heap[pb]? = some (.cells (prC W M b0 b1 sv) 41 (0, 0))
  l0 : Lb wr b0 A (.slice none 0 0)
  l1 : Lb wr b1 B (.slice none 0 0)
  sent : wr.ownsRow w.heap.size 54 7 sv es.length (sentC es)
  ne : pb ≠ b0 ∧ pb ≠ b1 ∧ b0 ≠ b1
  far : ∀ g, sv.ownBlock = some g → g ≠ pb ∧ g ≠ b0 ∧ g ≠ b1
  lo : w.heap.size ≤ pb ∧ w.heap.size ≤ b0 ∧ w.heap.size ≤ b1
  w1 : 1 ≤ W
  a : Wd A 0 5
  b : Wd B 5 0
  tab : C.Tab w
section
variable {w wr w2 : World} {pb b0 b1 W M : Nat} {A B A' B' : Lk} {sv : Value} {es : List Fe}
theorem Qs.tb (h : Qs w wr pb b0 b1 W M A B sv es) : C.Tab wr := h.tab.below h.bel h.tab.pos
theorem Qs.side0 (h : Qs w wr pb b0 b1 W M A B sv es) (hl : Lb w2 b0 A' (.slice none 0 0)) (hb : C.But b0 wr w2) (ha : Wd A' 0 5) : Qs w w2 pb b0 b1 W M A' B sv es := by
  obtain ⟨n1, n2, n3⟩ := h.ne
  obtain ⟨o1, o2, o3⟩ := h.lo
  exact ⟨hb.below h.bel o2 h.bel.size, (hb.block _ (C.lt_of_block h.pr) n1).trans h.pr, hl, h.l1.kept (hb.block _ (C.lt_of_block h.l1) (Ne.symm n3)), owns_same h.sent (fun g hg => hb.block g (rk_lt h.sent hg) (h.far g hg).2.1), h.ne, h.far, h.lo, h.w1, ha, h.b, h.tab⟩
theorem Qs.side1 (h : Qs w wr pb b0 b1 W M A B sv es) (hl : Lb w2 b1 B' (.slice none 0 0)) (hb : C.But b1 wr w2) (ha : Wd B' 5 0) : Qs w w2 pb b0 b1 W M A B' sv es := by
  obtain ⟨n1, n2, n3⟩ := h.ne
  obtain ⟨o1, o2, o3⟩ := h.lo
  exact ⟨hb.below h.bel o3 h.bel.size, (hb.block _ (C.lt_of_block h.pr) n2).trans h.pr, h.l0.kept (hb.block _ (C.lt_of_block h.l0) n3), hl, owns_same h.sent (fun g hg => hb.block g (rk_lt h.sent hg) (h.far g hg).2.2), h.ne, h.far, h.lo, h.w1, h.a, ha, h.tab⟩
theorem Qs.below (h : Qs w wr pb b0 b1 W M A B sv es) (hb : Below wr.heap.size wr w2) : Qs w w2 pb b0 b1 W M A B sv es :=
  ⟨h.bel.trans (hb.mono h.bel.size), (hb.block _ (C.lt_of_block h.pr)).trans h.pr, h.l0.below hb, h.l1.below hb, owns_same h.sent (fun g hg => hb.block g (rk_lt h.sent hg)), h.ne, h.far, h.lo, h.w1, h.a, h.b, h.tab⟩
theorem Qs.cells (h : Qs w wr pb b0 b1 W M A B sv es) : wr.cell? ⟨pb, 0, none⟩ = some (.int .i64 (W : Int)) ∧ wr.cell? ⟨pb, 2, none⟩ = some (.int .u64 1) ∧ wr.cell? ⟨pb, 3, none⟩ = some (.int .u64 1) ∧ wr.cell? ⟨pb, 4, none⟩ = some (.pointer (some ⟨b0, 0, none⟩)) ∧ wr.cell? ⟨pb, 5, none⟩ = some (.pointer (some ⟨b1, 0, none⟩)) ∧ wr.cell? ⟨pb, 6, none⟩ = some sv ∧ (∀ o, wr.frozen? ⟨pb, o, none⟩ = false) ∧ pb < wr.heap.size := by
  obtain ⟨x0, -, x2, x3, x4, x5, x6, -, -, xf⟩ := blk9 h.pr
  exact ⟨x0, x2, x3, x4, x5, x6, xf, C.lt_of_block h.pr⟩
theorem Qs.form (h : Qs w wr pb b0 b1 W M A B sv es) : ∃ a c, sv = .slice a es.length c ∧ es.length ≤ c ∧ c ≤ maxLen := owns_form h.sent
/-- A frame more. -/
theorem Qs.more {wg : World} {sv' : Value} {e : Fe} (h : Qs w wr pb b0 b1 W M A B sv es) (hg : wr.grownBy wg sv.ownBlock) (ho : wg.ownsRow w.heap.size 54 7 sv' (es.length + 1) (sentC es ++ feC e)) (hat : sv'.ownBlock = sv.ownBlock ∨ ∃ g, sv'.ownBlock = some g ∧ wr.heap.size ≤ g) : Qs w (wg.setCell ⟨pb, 6, none⟩ sv') pb b0 b1 W M A B sv' (es ++ [e]) := by
  obtain ⟨n1, n2, n3⟩ := h.ne
  obtain ⟨o1, o2, o3⟩ := h.lo
  have hpb := C.lt_of_block h.pr
  have hl0 := C.lt_of_block h.l0
  have hl1 := C.lt_of_block h.l1
  have hk : ∀ k, k < wr.heap.size → some k ≠ sv.ownBlock → wg.heap[k]? = wr.heap[k]? := fun k hk hn => hg.block k hk hn
  have hfar : ∀ g, sv'.ownBlock = some g → g ≠ pb ∧ g ≠ b0 ∧ g ≠ b1 := fun g hg' => by
    rcases hat with e1 | ⟨g2, e1, e2⟩
    · exact h.far g (by rw [← e1]; exact hg')
    · rw [e1] at hg'; cases hg'; omega
  have nf : ∀ k, (k = pb ∨ k = b0 ∨ k = b1) → some k ≠ sv.ownBlock := fun k hk e => by
    have := h.far k e.symm
    omega
  have hpr : wg.heap[pb]? = some (.cells (prC W M b0 b1 sv) 41 (0, 0)) := (hk pb hpb (nf _ (Or.inl rfl))).trans h.pr
  refine ⟨(h.bel.grown hg h.bel.size (fun k e => ?_)).setCell o1 _, ?_, h.l0.kept ((Below.heap_setCell _ _ _ _ (Ne.symm n1)).trans (hk b0 hl0 (nf _ (Or.inr (Or.inl rfl))))), h.l1.kept ((Below.heap_setCell _ _ _ _ (Ne.symm n2)).trans (hk b1 hl1 (nf _ (Or.inr (Or.inr rfl))))), ?_, h.ne, hfar, h.lo, h.w1, h.a, h.b, h.tab⟩
  · exact (h.sent.lt k e).1
  · rw [C.block_set hpr sv']; rfl
  · rw [sentC_snoc, List.length_append]
    exact owns_same ho (fun g hg' => Below.heap_setCell _ _ _ _ (hfar g hg').1)
end
theorem Tryd.infoFr : (Tryd.prog.info? 54).map (fun i => (i.zero, i.size, i.bytes)) = some (some (.agg #[.int .i64 0, .int .i64 0, .int .u64 0, .int .u64 0, .int .u64 0, .int .u64 0, .slice none 0 0]), 7, 72) := by kernel_rfl
end Go.Proofs.YtbcpoejpbhpcbaaDoor
