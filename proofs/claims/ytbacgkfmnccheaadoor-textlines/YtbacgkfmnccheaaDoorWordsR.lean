import Derived.Test.YtbacgkfmnccheaaDoorWords
namespace Go.Proofs.YtbacgkfmnccheaaDoor
open Go.RowKit Go.Shelf

attribute [local go_sem] Oper.semAt_some

/-- Is the object a row of cells that is none of the iterator's? -/
def Cells (o : Obj) : Prop := ∃ c t fz, o = .cells c t fz ∧ t ≠ 66 ∧ t ≠ 5

/-- What the iterator and the loop's own book-keeping do: new blocks, and turns of what is theirs. -/
structure Fx (n1 : Nat) (A B : World) : Prop where
  below : Below n1 A B
  keep : ∀ (k : Nat) (o : Obj), A.heap[k]? = some o → Cells o → B.heap[k]? = some o
/-- What a round keeps: whatever is no such row. -/
structure Kr (A B : World) : Prop where
  size : A.heap.size ≤ B.heap.size
  keep : ∀ (k : Nat) (o : Obj), A.heap[k]? = some o → ¬ Cells o → B.heap[k]? = some o

theorem cells_not_mine {o : Obj} (h : Cells o) : ¬ Mine o := by
  obtain ⟨c, t, fz, rfl, h1, h2⟩ := h
  exact not_mine_cells c t fz h1 h2
theorem mine_not_cells {o : Obj} (h : Mine o) : ¬ Cells o := fun hc => cells_not_mine hc h
theorem Fx.of {n1 n2 : Nat} {A B : World} (h : Fr n1 A B) (hn : n2 ≤ n1) : Fx n2 A B := ⟨h.below.mono hn, fun k o hk hc => h.keep k o hk (cells_not_mine hc)⟩
theorem Fx.alloc {n1 : Nat} (A : World) (o : Obj) (h : n1 ≤ A.heap.size) : Fx n1 A (A.alloc o) := Fx.of (Fr.alloc A o h) (Nat.le_refl _)
theorem Fx.trans {n1 : Nat} {A B C : World} (h : Fx n1 A B) (k : Fx n1 B C) : Fx n1 A C := ⟨h.below.trans k.below, fun i o hi ho => k.keep i o (h.keep i o hi ho) ho⟩
theorem Fx.putObj {n1 l : Nat} {A : World} {o : Obj} (o' : Obj) (h : A.heap[l]? = some o) (hc : ¬ Cells o) (hl : n1 ≤ l) : Fx n1 A (A.putObj l o') :=
  ⟨(Below.refl n1 A).grown (grownBy_putObj' A l o') (by have := (Array.getElem?_eq_some_iff.1 h).1; omega) (fun k e => by cases e; omega), fun k x hk hx => by
    rw [World.putObj_heap_other]
    · exact hk
    · rintro rfl
      rw [h] at hk
      cases hk
      exact hc hx⟩
theorem loop_not (r : Loop) : ¬ Cells (.loop r) := by rintro ⟨_, _, _, h, _⟩; cases h
theorem def_not (r : Option (List Deferred)) : ¬ Cells (.deferred r) := by rintro ⟨_, _, _, h, _⟩; cases h
theorem Kr.refl (A : World) : Kr A A := ⟨Nat.le_refl _, fun _ _ h _ => h⟩

/-- How a round's body may be left. -/
def roundP (I : List ByteArray → World → Prop) (Ix : World → Prop) (ls : List ByteArray) (x : ByteArray) (W : World) : Exit → Act → World → Prop
  | .normal, _, B => Kr W B ∧ ls.length < 32 ∧ I (ls ++ [x]) B
  | .ret, _, B => Kr W B ∧ ls.length = 32 ∧ Ix B
  | _, _, _ => False
def roundF (Ix : World → Prop) (W : World) : Exit → Act → World → Prop
  | .ret, _, B => Kr W B ∧ Ix B
  | _, _, _ => False

/-- The statement 'for word, fault := range words(line)'. -/
theorem range_words {g : Operand} {ps : Array Tmp} {assign body : Code} {Q : Exit → Act → World → Prop} {a : Act} {w : World} (Bn : Nat) (line : ByteArray)
    (hg : a.eval g = .func (.func 31) #[] #[.pointer (some ⟨Bn, 0, none⟩)]) (hBn : w.cell? ⟨Bn, 0, none⟩ = some (.string line)) (hBl : Bn < w.heap.size) (hls : line.size ≤ 1024) (hgd : good line = true) (hps : ps.size = 2)
    (I : List ByteArray → World → Prop) (Ix : World → Prop) (hI : ∀ ls A B, I ls A → Fx w.heap.size A B → I ls B) (hIx : ∀ A B, Ix A → Fx w.heap.size A B → Ix B) (h0 : I [] w) (a₁ : ByteArray → Int → Act)
    (hassign : ∀ (l : Nat) (x : ByteArray) (z : Int) (W : World) (K : Act → World → Prop), K (a₁ x z) W →
      assign.wpIn (Fence.wide.inRound l) 3 Tryd.prog (Exit.then K (fun _ _ _ => False)) { tmps := (ps.zip #[.string x, .int .i64 z]).foldl (fun t (p, v) => t.setIfInBounds p v) a.tmps, defers := [] } W)
    (hbody : ∀ (l : Nat) (ls : List ByteArray) (x : ByteArray) (W : World), I ls W → body.wpIn (Fence.wide.inRound l) 3 Tryd.prog (roundP I Ix ls x W) (a₁ x 0) W)
    (hbodyf : ∀ (l : Nat) (ls : List ByteArray) (W : World), I ls W → body.wpIn (Fence.wide.inRound l) 3 Tryd.prog (roundF Ix W) (a₁ ⟨#[]⟩ 23) W)
    (hdone : ∀ (D : Nat) (ls : List ByteArray) (W : World), w.heap.size ≤ D → ls.map nums = (tot line).1 → (tot line).2 = 0 → ls.length ≤ 32 → I ls W → W.heap[D]? = some (.deferred (some [])) → Q .normal { a with defers := { target := .collected D, args := #[] } :: a.defers } W)
    (hstop : ∀ (D : Nat) (W : World), w.heap.size ≤ D → (32 < (tot line).1.length ∨ (tot line).2 ≠ 0) → Ix W → W.heap[D]? = some (.deferred (some [])) → Code.ret.wpIn Fence.wide 5 Tryd.prog Q { a with defers := { target := .collected D, args := #[] } :: a.defers } W) :
    (Code.rangeFunc g ps assign body).wpIn Fence.wide 5 Tryd.prog Q a w := by
  refine wpIn_rangeFunc ?_
  intro fn hfn
  let lp : LoopState → Option Code → Loop := fun st pe => { state := st, pending := pe, fn, tmps := a.tmps, params := ps, assign, body, defers := w.heap.size }
  obtain ⟨W4, hW4⟩ : ∃ W4, (w.alloc (.deferred (some []))).alloc (.loop (lp .ready none)) = W4 := ⟨_, rfl⟩
  have hsz : W4.heap.size = w.heap.size + 2 := by rw [← hW4]; simp
  have hlp : W4.heap[w.heap.size + 1]? = some (.loop (lp .ready none)) := by
    rw [← hW4]
    have := World.alloc_heap_new (w.alloc (.deferred (some []))) (.loop (lp .ready none))
    rwa [World.size_alloc] at this
  have hdf : W4.heap[w.heap.size]? = some (.deferred (some [])) := by
    rw [← hW4]; exact (Below.heap_alloc _ _ _ (by simp)).trans (World.alloc_heap_new w _)
  have hfx : Fx w.heap.size w W4 := by rw [← hW4]; exact (Fx.alloc w _ (Nat.le_refl _)).trans (Fx.alloc _ _ (by simp))
  have hBn4 : W4.cell? ⟨Bn, 0, none⟩ = some (.string line) := by rw [hfx.below.cell (p := ⟨Bn, 0, none⟩) hBl]; exact hBn
  -- one round
  have hR : ∀ (ls : List ByteArray) (x : ByteArray) (z : Int) (A : World) (R : Ending → World → Prop) (S : Exit → Act → World → Prop), A.heap[w.heap.size + 1]? = some (.loop (lp .ready none)) →
      (∀ A', Fx w.heap.size A A' → A'.heap.size = A.heap.size → (∀ (k : Nat) (o : Obj), A.heap[k]? = some o → k ≠ w.heap.size + 1 → A'.heap[k]? = some o) → A'.heap[w.heap.size + 1]? = some (.loop (lp .busy none)) → body.wpIn (Fence.wide.inRound (w.heap.size + 1)) 3 Tryd.prog (roundPost Tryd.prog (w.heap.size + 1) R) (a₁ x z) A') →
      YieldAt Fence.wide (4 - 1) Tryd.prog (w.heap.size + 1) #[.string x, .int .i64 z] A R := by
    intro ls x z A R S hA hb
    have hlt : w.heap.size + 1 < A.heap.size := (Array.getElem?_eq_some_iff.1 hA).1
    refine ⟨fn, _, assign, body, run_yield hA (by rw [show (lp .ready none).params = ps from rfl, hps]; rfl), roundIn_of_wpIn trivial (hassign _ x z A _ ⟨_, run_beginRound hA rfl, ?_⟩)⟩
    refine hb _ (Fx.putObj _ hA (loop_not _) (by omega)) (by simp) (fun k o hk hne => (World.putObj_heap_other hne).trans hk) (World.putObj_heap_same hlt)
  refine ⟨w.heap.size + 1, [{ target := .collected w.heap.size, args := #[] }], W4, { target := .fn (.func 31) #[.pointer (some ⟨Bn, 0, none⟩)], args := #[.func (.yield (w.heap.size + 1)) #[] #[]] }, W4, 31,
    #[.func (.yield (w.heap.size + 1)) #[] #[], .pointer (some ⟨Bn, 0, none⟩)], W4, ?_, ?_, ?_, ?_, fun _ => by omega, ?_⟩
  · rw [← hW4]; exact run_enterLoop_outer _ _ _ _ _
  · simp only [resolve, hg]
    simp [go_sem]
  · intro f' _; trivial
  · simp [invoke, go_sem]
  · refine (words1_in 4 (w.heap.size + 1) Bn (by omega) line hls hgd
      (fun ls A => I ls A ∧ A.heap[w.heap.size + 1]? = some (.loop (lp .ready none)) ∧ A.heap[w.heap.size]? = some (.deferred (some [])))
      (fun A => Ix A ∧ A.heap[w.heap.size + 1]? = some (.loop (lp .done (some .ret))) ∧ A.heap[w.heap.size]? = some (.deferred (some [])))
      W4 hBn4 (by omega) ?_ ?_ ?_ ⟨hI _ _ _ h0 hfx, hlp, hdf⟩).mono ?_
    · rintro ls A B ⟨q1, q2, q3⟩ hf
      exact ⟨hI _ _ _ q1 (Fx.of hf (by omega)), hf.keep _ _ q2 (by rintro (⟨_, _, h⟩ | ⟨_, _, h⟩ | ⟨_, _, h⟩) <;> cases h), hf.keep _ _ q3 (by rintro (⟨_, _, h⟩ | ⟨_, _, h⟩ | ⟨_, _, h⟩) <;> cases h)⟩
    · rintro ls x A ⟨q1, q2, q3⟩
      refine hR ls x 0 A _ (roundP I Ix ls x A) q2 ?_
      intro A' f1 f2 f3 f4
      refine wpIn_mono (hbody _ ls x A' (hI _ _ _ q1 f1)) ?_
      have hd' := f3 _ _ q3 (by omega)
      intro e a3 W3 hp
      cases e with
      | normal =>
        obtain ⟨k, hl, hi⟩ := hp
        have g1 := k.keep _ _ f4 (loop_not _)
        have g2 := k.keep _ _ hd' (def_not _)
        have hlt3 := (Array.getElem?_eq_some_iff.1 g1).1
        have fx3 : Fx w.heap.size W3 _ := Fx.putObj (.loop (lp .ready none)) g1 (loop_not _) (by omega)
        refine ⟨_, _, run_endRound none g1, Or.inl ⟨rfl, hl, ⟨hI _ _ _ hi fx3, World.putObj_heap_same hlt3, (World.putObj_heap_other (by omega)).trans g2⟩, ?_⟩⟩
        refine ⟨by have := k.size; simp; omega, fun i o hi' hm => ?_⟩
        have hne : i ≠ w.heap.size + 1 := by
          rintro rfl
          rw [q2] at hi'
          cases hi'
          rcases hm with ⟨_, _, h⟩ | ⟨_, _, h⟩ | ⟨_, _, h⟩ <;> cases h
        rw [World.putObj_heap_other hne]
        exact k.keep _ _ (f3 _ _ hi' hne) (mine_not_cells hm)
      | ret =>
        obtain ⟨k, hl, hi⟩ := hp
        have g1 := k.keep _ _ f4 (loop_not _)
        have g2 := k.keep _ _ hd' (def_not _)
        have hlt3 := (Array.getElem?_eq_some_iff.1 g1).1
        have fx3 : Fx w.heap.size W3 _ := Fx.putObj (.loop (lp .done (some .ret))) g1 (loop_not _) (by omega)
        exact ⟨_, _, run_endRound (some .ret) g1, Or.inr ⟨rfl, hl, hIx _ _ hi fx3, World.putObj_heap_same hlt3, (World.putObj_heap_other (by omega)).trans g2⟩⟩
      | exit id => exact hp.elim
      | goto t => exact hp.elim
      | panic ch => exact hp.elim
      | outgrown => exact hp.elim
    · rintro ls A ⟨q1, q2, q3⟩
      refine hR ls ⟨#[]⟩ 23 A _ (roundF Ix A) q2 ?_
      intro A' f1 f2 f3 f4
      refine wpIn_mono (hbodyf _ ls A' (hI _ _ _ q1 f1)) ?_
      have hd' := f3 _ _ q3 (by omega)
      intro e a3 W3 hp
      cases e with
      | normal => exact hp.elim
      | ret =>
        obtain ⟨k, hi⟩ := hp
        have g1 := k.keep _ _ f4 (loop_not _)
        have g2 := k.keep _ _ hd' (def_not _)
        have hlt3 := (Array.getElem?_eq_some_iff.1 g1).1
        have fx3 : Fx w.heap.size W3 _ := Fx.putObj (.loop (lp .done (some .ret))) g1 (loop_not _) (by omega)
        exact ⟨_, _, run_endRound (some .ret) g1, ⟨rfl, hIx _ _ hi fx3, World.putObj_heap_same hlt3, (World.putObj_heap_other (by omega)).trans g2⟩⟩
      | exit id => exact hp.elim
      | goto t => exact hp.elim
      | panic ch => exact hp.elim
      | outgrown => exact hp.elim
    · rintro e W2 ⟨⟨v, rfl⟩, (⟨ls, s1, s2, s3, hi, hl, hd⟩ | ⟨hbad, hi, hl, hd⟩)⟩
      · exact ⟨none, _, run_endLoop hl (by simp [lp]), hdone _ ls _ (Nat.le_refl _) s1 s2 s3 (hI _ _ _ hi (Fx.putObj _ hl (loop_not _) (by omega))) ((World.putObj_heap_other (by omega)).trans hd)⟩
      · exact ⟨some .ret, _, run_endLoop hl (by simp [lp]), hstop _ _ (Nat.le_refl _) hbad (hIx _ _ hi (Fx.putObj _ hl (loop_not _) (by omega))) ((World.putObj_heap_other (by omega)).trans hd)⟩

end Go.Proofs.YtbacgkfmnccheaaDoor
