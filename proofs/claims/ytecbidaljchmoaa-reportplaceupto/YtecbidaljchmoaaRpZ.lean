import Derived.Test.YtecbidaljchmoaaRpY
import Derived.Test.YtecbidaljchmoaaRpM
namespace Go.Proofs.Ytecbidaljchmoaa
open Go.RowKit

/-- Elements that lie in no block of the owner o. -/
structure SlK {α : Type} (w : World) (K : Knd) (o : Nat) (sz : Nat) (f : α → List Value) (s : Sli α) : Prop where
  ok : SlOk w sz f s
  far : s.xs ≠ [] → ∀ g i, s.p = some ⟨g, i, none⟩ → (K g).1 ≠ o
theorem SlK.kept {α : Type} {p : Nat × Nat → Prop} {w w' : World} {K K' : Knd} {o sz : Nat} {f : α → List Value} {s : Sli α} (h : SlK w K o sz f s) (hk : Kp p K K' w w') (hp : ∀ q, p q → q.1 = o) : SlK w' K' o sz f s := by
  by_cases hne : s.xs = []
  · exact ⟨⟨h.ok.len, h.ok.most, Or.inl (by rw [hne]; rfl)⟩, fun e => absurd hne e⟩
  · rcases h.ok.cel with h1 | ⟨b, i, e, hl, hc⟩
    · exact absurd (by simpa using h1) hne
    · refine ⟨⟨h.ok.len, h.ok.most, Or.inr ⟨b, i, e, Nat.lt_of_lt_of_le hl hk.size, fun j r hr k v hv => ?_⟩⟩, fun _ g i' e' => ?_⟩
      · rw [World.cell?_of_block (w := w) (w' := w') (hk.block b hl (fun e' => h.far hne b i e (hp _ e')))]
        exact hc j r hr k v hv
      · rw [e] at e'
        cases e'
        rw [hk.same b hl]
        exact h.far hne b i e
structure AcdK (w : World) (K : Knd) (o : Nat) (a : Acd) : Prop where
  lines : SlK w K o 2 linc a.lines
  guards : SlK w K o 3 tric a.guards
  sets : SlK w K o 3 tric a.sets
  other : SlK w K o 2 linc a.other
  rights : SlK w K o 3 tric a.rights
theorem AcdK.kept {p : Nat × Nat → Prop} {w w' : World} {K K' : Knd} {o : Nat} {a : Acd} (h : AcdK w K o a) (hk : Kp p K K' w w') (hp : ∀ q, p q → q.1 = o) : AcdK w' K' o a := ⟨h.lines.kept hk hp, h.guards.kept hk hp, h.sets.kept hk hp, h.other.kept hk hp, h.rights.kept hk hp⟩
/-- A slot of a Seat: a row of its own kind. -/
def Slot (w : World) (K : Knd) (o : Nat) (C : Array Value) (j : Nat) (e : TypeId) (sz : Nat) : Prop := ∃ a n c ys, C[j]? = some (.slice a n c) ∧ Rk w K (o, j + 1) e sz (.slice a n c) n ys
theorem Slot.kept {p : Nat × Nat → Prop} {w w' : World} {K K' : Knd} {o j sz : Nat} {C C' : Array Value} {e : TypeId} (h : Slot w K o C j e sz) (hk : Kp p K K' w w') (hp : ¬ p (o, j + 1)) (hC : C'[j]? = C[j]?) : Slot w' K' o C' j e sz := by
  obtain ⟨a, n, c, ys, h1, h2⟩ := h
  exact ⟨a, n, c, ys, hC.trans h1, h2.kept hk hp⟩
/-- An act's lists, laid in a Seat. -/
structure AcRk (w : World) (K : Knd) (o : Nat) (C : Array Value) (a : Acd) : Prop where
  lines : C[0]? = some (.slice a.lines.p a.lines.n a.lines.c) ∧ Rk w K (o, 1) 84 2 (.slice a.lines.p a.lines.n a.lines.c) a.lines.n (flat linc a.lines.xs)
  other : C[1]? = some (.slice a.other.p a.other.n a.other.c) ∧ Rk w K (o, 2) 84 2 (.slice a.other.p a.other.n a.other.c) a.other.n (flat linc a.other.xs)
  guards : C[2]? = some (.slice a.guards.p a.guards.n a.guards.c) ∧ Rk w K (o, 3) 156 3 (.slice a.guards.p a.guards.n a.guards.c) a.guards.n (flat tric a.guards.xs)
  sets : C[3]? = some (.slice a.sets.p a.sets.n a.sets.c) ∧ Rk w K (o, 4) 111 3 (.slice a.sets.p a.sets.n a.sets.c) a.sets.n (flat tric a.sets.xs)
  rights : C[4]? = some (.slice a.rights.p a.rights.n a.rights.c) ∧ Rk w K (o, 5) 78 3 (.slice a.rights.p a.rights.n a.rights.c) a.rights.n (flat tric a.rights.xs)
/-- While an act is laid: the Seat's block and the three boxes of the call. -/
structure SeA (w wr : World) (K : Knd) (o b : Nat) (ty : TypeId) (C A Z X : Array Value) : Prop where
  seat : wr.heap[b]? = some (.cells C 48 (0, 0))
  kb : K b = (o, 0)
  a : wr.heap[w.heap.size]? = some (.cells A ty (0, 0))
  z : wr.heap[w.heap.size + 1]? = some (.cells Z ty (0, 0))
  x : wr.heap[w.heap.size + 1 + 1]? = some (.cells X ty (0, 0))
  ka : K w.heap.size = (o, 99)
  kz : K (w.heap.size + 1) = (o, 99)
  kx : K (w.heap.size + 1 + 1) = (o, 99)
theorem SeA.step {p : Nat × Nat → Prop} {w wr wr' : World} {K K' : Knd} {o b : Nat} {ty : TypeId} {C C' A Z X : Array Value} (h : SeA w wr K o b ty C A Z X) (hk : Kp p K K' wr wr') (hp : ¬ p (o, 99)) (hb : wr'.heap[b]? = some (.cells C' 48 (0, 0))) : SeA w wr' K' o b ty C' A Z X :=
  ⟨hb, (hk.same b (lt_of_block h.seat)).trans h.kb, (hk.block _ (lt_of_block h.a) (by rw [h.ka]; exact hp)).trans h.a, (hk.block _ (lt_of_block h.z) (by rw [h.kz]; exact hp)).trans h.z, (hk.block _ (lt_of_block h.x) (by rw [h.kx]; exact hp)).trans h.x,
    (hk.same _ (lt_of_block h.a)).trans h.ka, (hk.same _ (lt_of_block h.z)).trans h.kz, (hk.same _ (lt_of_block h.x)).trans h.kx⟩
theorem SeA.put {w wr : World} {K : Knd} {o b : Nat} {ty : TypeId} {C A Z X : Array Value} (h : SeA w wr K o b ty C A Z X) (i : Nat) (v : Value) : SeA w (wr.setCell ⟨w.heap.size + 1 + 1, i, none⟩ v) K o b ty C A Z (X.setIfInBounds i v) := by
  have e : b ≠ w.heap.size + 1 + 1 := by rintro rfl; have := h.kb; rw [h.kx] at this; simp at this
  exact ⟨(heap_setCell_other _ _ _ _ e).trans h.seat, h.kb, (heap_setCell_other _ _ _ _ (by show w.heap.size ≠ _; simp only []; omega)).trans h.a, (heap_setCell_other _ _ _ _ (by show w.heap.size + 1 ≠ _; simp only []; omega)).trans h.z, heap_setCell_same _ _ _ _ _ _ h.x, h.ka, h.kz, h.kx⟩
/-- 'p.l = append(p.l[:0], a.l...)'. -/
theorem se_seg {α : Type} {f : α → List Value} {sz by_ : Nat} {t e : TypeId} (E : Elt f sz by_ t e) {wr : World} {K : Knd} {o b : Nat} {C : Array Value} (hb : wr.heap[b]? = some (.cells C 48 (0, 0))) (hK : K b = (o, 0)) (j : Nat) (a : Option Addr) (n c : Nat) (ys : List Value) (h0 : C[j]? = some (.slice a n c)) (hr : Rk wr K (o, j + 1) e sz (.slice a n c) n ys) (s : Sli α) (hs : SlOk wr sz f s) (tt : TypeId) :
    ∃ (d : Sli α) (w4 : World), (Builtin.append_ #[t, t] tt #[.slice a 0 c, .slice s.p s.n s.c]).run Try.prog wr = .ok (.slice d.p d.n d.c) w4 ∧ d.xs = s.xs ∧ d.n = s.n ∧ w4.cell? ⟨b, j, none⟩ = some (.slice a n c) ∧ w4.frozen? ⟨b, j, none⟩ = false ∧
      (w4.setCell ⟨b, j, none⟩ (.slice d.p d.n d.c)).heap[b]? = some (.cells (C.setIfInBounds j (.slice d.p d.n d.c)) 48 (0, 0)) ∧
      Rk (w4.setCell ⟨b, j, none⟩ (.slice d.p d.n d.c)) (ext K wr.heap.size (o, j + 1)) (o, j + 1) e sz (.slice d.p d.n d.c) d.n (flat f d.xs) ∧
      Kp (fun q => q = (o, 0) ∨ q = (o, j + 1)) K (ext K wr.heap.size (o, j + 1)) wr (w4.setCell ⟨b, j, none⟩ (.slice d.p d.n d.c)) ∧
      (∀ g, g < wr.heap.size → K g ≠ (o, j + 1) → w4.heap[g]? = wr.heap[g]?) := by
  obtain ⟨a', c', w4, h1, h2, h3⟩ := E.relay wr K (o, j + 1) tt n a c ys hr s hs
  have hlt : b < wr.heap.size := lt_of_block hb
  have hb' : w4.heap[b]? = some (.cells C 48 (0, 0)) := (h3.block b hlt (by rw [hK]; simp)).trans hb
  refine ⟨⟨a', s.n, c', s.xs⟩, w4, h1, rfl, rfl, by rw [cell_of_row _ _ _ _ _ _ hb']; exact h0, frozen_of_row _ _ _ _ _ hb', heap_setCell_same _ _ _ _ _ _ hb', ⟨owns_same h2.own (fun g hg => ?_), h2.kind⟩, Kp.setCell (p := fun q => q = (o, 0) ∨ q = (o, j + 1)) (b := b) (h3.mono (fun k e => Or.inr e)) (Or.inr (Or.inl hK)) _ _, fun g hg hn => h3.block g hg hn⟩
  refine heap_setCell_other _ _ _ _ ?_
  rintro rfl
  have e3 := h2.kind _ hg
  rw [h3.same _ hlt, hK] at e3
  simp at e3
end Go.Proofs.Ytecbidaljchmoaa
