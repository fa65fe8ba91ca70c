import Derived.Test.YtlnldipiofddkaaWrites
namespace Go.Proofs.Ytlnldipiofddkaa
open Go.RowKit

theorem Far.symm {v h : Value} (f : Far v h) : Far h v := fun g e e' => f g e' e
/-- A row that is new, or stands where the elder stood, is far from a third. -/
theorem far_new {w : World} {v v' h : Value} {n : Nat} {xs : List Value} (f : Far v h) (hat : v'.ownBlock = v.ownBlock ∨ ∃ g, v'.ownBlock = some g ∧ w.heap.size ≤ g) (ho : w.ownsRow 0 5 1 h n xs) : Far v' h := by
  intro g e e'
  rcases hat with h1 | ⟨k, h1, hk⟩
  · exact f g (by rw [← h1, e]) e'
  · rw [h1] at e; cases e
    have := owns_lt ho _ e'
    omega

/-- TWO WRITERS, b0 and b1, IN THE ARRAY A; WHAT THE DOCUMENT HOLDS BESIDE THEM, IN THE ARRAY H. u: the world as the steps begin. -/
structure Pair (u wr : World) (b0 b1 A H : Nat) (v0 v1 h0 h1 : Value) (x0 x1 : List Nat) : Prop where
  w0 : Wr wr b0 v0 x0
  w1 : Wr wr b1 v1 x1
  aa : wr.heap[A]? = some (.cells #[.pointer (some ⟨b0, 0, none⟩), .pointer (some ⟨b1, 0, none⟩)] 29 (0, 0))
  hh : wr.heap[H]? = some (.cells #[h0, h1] 23 (0, 0))
  d0 : wr.ownsRow 0 5 1 h0 x0.length (vals x0)
  d1 : wr.ownsRow 0 5 1 h1 x1.length (vals x1)
  o1 : b0 < b1
  o2 : b1 < A
  o3 : A < H
  o4 : H < u.heap.size
  r0 : ∀ g, v0.ownBlock = some g → u.heap.size ≤ g
  r1 : ∀ g, v1.ownBlock = some g → u.heap.size ≤ g
  s0 : ∀ g, h0.ownBlock = some g → u.heap.size ≤ g
  s1 : ∀ g, h1.ownBlock = some g → u.heap.size ≤ g
  fvv : Far v0 v1
  f00 : Far v0 h0
  f01 : Far v0 h1
  f10 : Far v1 h0
  f11 : Far v1 h1
  fhh : Far h0 h1
  kept : Kept (fun k => k = b0 ∨ k = b1 ∨ k = H) u wr

theorem Pair.below {u wr w' : World} {b0 b1 A H : Nat} {v0 v1 h0 h1 : Value} {x0 x1 : List Nat} (p : Pair u wr b0 b1 A H v0 v1 h0 h1 x0 x1) (k : Below wr.heap.size wr w') : Pair u w' b0 b1 A H v0 v1 h0 h1 x0 x1 :=
  ⟨p.w0.below k, p.w1.below k, (k.block _ (lt_of_block p.aa)).trans p.aa, (k.block _ (lt_of_block p.hh)).trans p.hh, owns_kept p.d0 (fun g e => k.block g (owns_lt p.d0 g e)), owns_kept p.d1 (fun g e => k.block g (owns_lt p.d1 g e)),
   p.o1, p.o2, p.o3, p.o4, p.r0, p.r1, p.s0, p.s1, p.fvv, p.f00, p.f01, p.f10, p.f11, p.fhh, p.kept.trans (kept_below (S := fun _ => False) k) (fun _ h => h.elim)⟩

theorem Pair.not0 {u wr : World} {b0 b1 A H : Nat} {v0 v1 h0 h1 : Value} {x0 x1 : List Nat} (p : Pair u wr b0 b1 A H v0 v1 h0 h1 x0 x1) (k : Nat) (hk : k < u.heap.size) (hb : k ≠ b0) : ¬ Turns b0 v0 h0 k := by
  rintro (e | e | e)
  · exact hb e
  · have := p.r0 k e.symm; omega
  · have := p.s0 k e.symm; omega

theorem Pair.did0 {u wr w' : World} {b0 b1 A H : Nat} {v0 v1 h0 h1 v' h' : Value} {x0 x1 y : List Nat} (p : Pair u wr b0 b1 A H v0 v1 h0 h1 x0 x1) (d : Did wr b0 v0 h0 w' v' h' y y) :
    w'.heap[H]? = some (.cells #[h0, h1] 23 (0, 0)) ∧ w'.heap[A]? = some (.cells #[.pointer (some ⟨b0, 0, none⟩), .pointer (some ⟨b1, 0, none⟩)] 29 (0, 0)) ∧ Pair u (w'.setCell ⟨H, 0, none⟩ h') b0 b1 A H v' v1 h' h1 y x1 := by
  have hu := p.kept.size
  have o1 := p.o1
  have o2 := p.o2
  have o3 := p.o3
  have o4 := p.o4
  have hB : w'.heap[b1]? = wr.heap[b1]? := d.kept.block _ p.w1.lt (p.not0 _ (by omega) (by omega))
  have hA : w'.heap[A]? = wr.heap[A]? := d.kept.block _ (lt_of_block p.aa) (p.not0 _ (by omega) (by omega))
  have hH : w'.heap[H]? = wr.heap[H]? := d.kept.block _ (lt_of_block p.hh) (p.not0 _ (by omega) (by omega))
  have hVj : ∀ g, v1.ownBlock = some g → w'.heap[g]? = wr.heap[g]? := fun g e => d.kept.block g (p.w1.rowLt g e) (by
    rintro (e' | e' | e')
    · subst e'; exact owns_ne p.w1.own p.w0.blk (by decide) e
    · exact p.fvv g e'.symm e
    · exact p.f10 g e e'.symm)
  have hHj : ∀ g, h1.ownBlock = some g → w'.heap[g]? = wr.heap[g]? := fun g e => d.kept.block g (owns_lt p.d1 g e) (by
    rintro (e' | e' | e')
    · subst e'; exact owns_ne p.d1 p.w0.blk (by decide) e
    · exact p.f01 g e'.symm e
    · exact p.fhh g e'.symm e)
  have qH := hH.trans p.hh
  have qA := hA.trans p.aa
  have oj := owns_kept p.d1 hHj
  have wj := p.w1.kept hB hVj
  have hs : ∀ k, k ≠ H → (w'.setCell ⟨H, 0, none⟩ h').heap[k]? = w'.heap[k]? := fun k hk => Below.heap_setCell _ _ _ _ hk
  have hlt := d.kept.size
  refine ⟨qH, qA, ?_⟩
  have Wi : Wr (w'.setCell ⟨H, 0, none⟩ h') b0 v' y := d.wr.kept (hs _ (by omega)) (fun g e => hs g (fun e' => owns_ne d.wr.own qH (by decide) (by rw [e, e'])))
  have Wj : Wr (w'.setCell ⟨H, 0, none⟩ h') b1 v1 x1 := wj.kept (hs _ (by omega)) (fun g e => hs g (fun e' => owns_ne wj.own qH (by decide) (by rw [e, e'])))
  have Di := owns_kept d.hd (w' := w'.setCell ⟨H, 0, none⟩ h') (fun g e => hs g (fun e' => owns_ne d.hd qH (by decide) (by rw [e, e'])))
  have Dj := owns_kept oj (w' := w'.setCell ⟨H, 0, none⟩ h') (fun g e => hs g (fun e' => owns_ne oj qH (by decide) (by rw [e, e'])))
  have Ri : ∀ g, v'.ownBlock = some g → u.heap.size ≤ g := fun g e => by
    rcases d.vat with e' | ⟨k, e', hk⟩
    · exact p.r0 g (by rw [← e', e])
    · rw [e'] at e; cases e; omega
  have Si : ∀ g, h'.ownBlock = some g → u.heap.size ≤ g := fun g e => by
    rcases d.hat with e' | ⟨k, e', hk⟩
    · exact p.s0 g (by rw [← e', e])
    · rw [e'] at e; cases e; omega
  have Fvv : Far v' v1 := far_new p.fvv d.vat p.w1.own
  have Fvh : Far v' h1 := far_new p.f01 d.vat p.d1
  have Fhv : Far h' v1 := far_new p.f10.symm d.hat p.w1.own
  have Fhh : Far h' h1 := far_new p.fhh d.hat p.d1
  have K : Kept (fun k => k = b0 ∨ k = b1 ∨ k = H) u (w'.setCell ⟨H, 0, none⟩ h') := by
    have k1 : Kept (fun k => k = b0 ∨ k = b1 ∨ k = H) u w' := p.kept.trans d.kept (fun k hk => by
      rcases hk with e | e | e
      · exact Or.inl (Or.inl e)
      · exact Or.inr (p.r0 k e.symm)
      · exact Or.inr (p.s0 k e.symm))
    exact k1.trans (kept_but ((But.refl H w').setCell (p := ⟨H, 0, none⟩) (Or.inl rfl) h')) (fun k e => Or.inl (Or.inr (Or.inr e)))
  exact ⟨Wi, Wj, (hs A (by omega)).trans qA, by rw [block_set qH]; rfl, Di, Dj, o1, o2, o3, o4, Ri, p.r1, Si, p.s1, Fvv, d.far, Fvh, Fhv.symm, p.f11, Fhh, K⟩

theorem Pair.not1 {u wr : World} {b0 b1 A H : Nat} {v0 v1 h0 h1 : Value} {x0 x1 : List Nat} (p : Pair u wr b0 b1 A H v0 v1 h0 h1 x0 x1) (k : Nat) (hk : k < u.heap.size) (hb : k ≠ b1) : ¬ Turns b1 v1 h1 k := by
  rintro (e | e | e)
  · exact hb e
  · have := p.r1 k e.symm; omega
  · have := p.s1 k e.symm; omega

theorem Pair.did1 {u wr w' : World} {b0 b1 A H : Nat} {v0 v1 h0 h1 v' h' : Value} {x0 x1 y : List Nat} (p : Pair u wr b0 b1 A H v0 v1 h0 h1 x0 x1) (d : Did wr b1 v1 h1 w' v' h' y y) :
    w'.heap[H]? = some (.cells #[h0, h1] 23 (0, 0)) ∧ w'.heap[A]? = some (.cells #[.pointer (some ⟨b0, 0, none⟩), .pointer (some ⟨b1, 0, none⟩)] 29 (0, 0)) ∧ Pair u (w'.setCell ⟨H, 1, none⟩ h') b0 b1 A H v0 v' h0 h' x0 y := by
  have hu := p.kept.size
  have o1 := p.o1
  have o2 := p.o2
  have o3 := p.o3
  have o4 := p.o4
  have hB : w'.heap[b0]? = wr.heap[b0]? := d.kept.block _ p.w0.lt (p.not1 _ (by omega) (by omega))
  have hA : w'.heap[A]? = wr.heap[A]? := d.kept.block _ (lt_of_block p.aa) (p.not1 _ (by omega) (by omega))
  have hH : w'.heap[H]? = wr.heap[H]? := d.kept.block _ (lt_of_block p.hh) (p.not1 _ (by omega) (by omega))
  have hVj : ∀ g, v0.ownBlock = some g → w'.heap[g]? = wr.heap[g]? := fun g e => d.kept.block g (p.w0.rowLt g e) (by
    rintro (e' | e' | e')
    · subst e'; exact owns_ne p.w0.own p.w1.blk (by decide) e
    · exact p.fvv.symm g e'.symm e
    · exact p.f01 g e e'.symm)
  have hHj : ∀ g, h0.ownBlock = some g → w'.heap[g]? = wr.heap[g]? := fun g e => d.kept.block g (owns_lt p.d0 g e) (by
    rintro (e' | e' | e')
    · subst e'; exact owns_ne p.d0 p.w1.blk (by decide) e
    · exact p.f10 g e'.symm e
    · exact p.fhh.symm g e'.symm e)
  have qH := hH.trans p.hh
  have qA := hA.trans p.aa
  have oj := owns_kept p.d0 hHj
  have wj := p.w0.kept hB hVj
  have hs : ∀ k, k ≠ H → (w'.setCell ⟨H, 1, none⟩ h').heap[k]? = w'.heap[k]? := fun k hk => Below.heap_setCell _ _ _ _ hk
  have hlt := d.kept.size
  refine ⟨qH, qA, ?_⟩
  have Wi : Wr (w'.setCell ⟨H, 1, none⟩ h') b1 v' y := d.wr.kept (hs _ (by omega)) (fun g e => hs g (fun e' => owns_ne d.wr.own qH (by decide) (by rw [e, e'])))
  have Wj : Wr (w'.setCell ⟨H, 1, none⟩ h') b0 v0 x0 := wj.kept (hs _ (by omega)) (fun g e => hs g (fun e' => owns_ne wj.own qH (by decide) (by rw [e, e'])))
  have Di := owns_kept d.hd (w' := w'.setCell ⟨H, 1, none⟩ h') (fun g e => hs g (fun e' => owns_ne d.hd qH (by decide) (by rw [e, e'])))
  have Dj := owns_kept oj (w' := w'.setCell ⟨H, 1, none⟩ h') (fun g e => hs g (fun e' => owns_ne oj qH (by decide) (by rw [e, e'])))
  have Ri : ∀ g, v'.ownBlock = some g → u.heap.size ≤ g := fun g e => by
    rcases d.vat with e' | ⟨k, e', hk⟩
    · exact p.r1 g (by rw [← e', e])
    · rw [e'] at e; cases e; omega
  have Si : ∀ g, h'.ownBlock = some g → u.heap.size ≤ g := fun g e => by
    rcases d.hat with e' | ⟨k, e', hk⟩
    · exact p.s1 g (by rw [← e', e])
    · rw [e'] at e; cases e; omega
  have Fvv : Far v' v0 := far_new p.fvv.symm d.vat p.w0.own
  have Fvh : Far v' h0 := far_new p.f10 d.vat p.d0
  have Fhv : Far h' v0 := far_new p.f01.symm d.hat p.w0.own
  have Fhh : Far h' h0 := far_new p.fhh.symm d.hat p.d0
  have K : Kept (fun k => k = b0 ∨ k = b1 ∨ k = H) u (w'.setCell ⟨H, 1, none⟩ h') := by
    have k1 : Kept (fun k => k = b0 ∨ k = b1 ∨ k = H) u w' := p.kept.trans d.kept (fun k hk => by
      rcases hk with e | e | e
      · exact Or.inl (Or.inr (Or.inl e))
      · exact Or.inr (p.r1 k e.symm)
      · exact Or.inr (p.s1 k e.symm))
    exact k1.trans (kept_but ((But.refl H w').setCell (p := ⟨H, 1, none⟩) (Or.inl rfl) h')) (fun k e => Or.inl (Or.inr (Or.inr e)))
  exact ⟨Wj, Wi, (hs A (by omega)).trans qA, by rw [block_set qH]; rfl, Dj, Di, o1, o2, o3, o4, p.r0, Ri, p.s0, Si, Fvv.symm, p.f00, Fhv.symm, Fvh, d.far, Fhh.symm, K⟩

end Go.Proofs.Ytlnldipiofddkaa
