import Derived.Test.YtlnldipiofddkabPlace
namespace Go.Proofs.Ytlnldipiofddkab
open Go.RowKit

theorem Far.symm {v h : Value} (f : Far v h) : Far h v := fun g e e' => f g e' e
theorem far_new {w : World} {v v' h : Value} {n : Nat} {xs : List Value} (f : Far v h) (hat : v'.ownBlock = v.ownBlock ∨ ∃ g, v'.ownBlock = some g ∧ w.heap.size ≤ g) (ho : w.ownsRow 0 5 1 h n xs) : Far v' h := by
  intro g e e'
  rcases hat with h1 | ⟨k, h1, hk⟩
  · exact f g (by rw [← h1, e]) e'
  · rw [h1] at e; cases e
    have := owns_lt ho _ e'
    omega

section
variable {w w1 w2 : World} {b : Nat} {v h v1 h1 h2 : Value} {ws1 ws2 new : List Nat}
theorem Did.start (hw : Wr w b v ws1) (hh : w.ownsRow 0 5 1 h ws2.length (vals ws2)) (hf : Far v h) : Did w b v h w v h ws1 ws2 := ⟨hw, hh, hf, Or.inl rfl, Or.inl rfl, Kept.refl _ _⟩
theorem Did.laid (m : Did w b v h w1 v1 h1 ws1 ws2) (l : Laid w1 w2 b v1 ws1 new) : ∃ v2, Did w b v h w2 v2 h1 (ws1 ++ new) ws2 := by
  obtain ⟨v2, hwr, hat, hwrote⟩ := l
  have hs := m.kept.size
  refine ⟨v2, ⟨hwr, owns_kept m.hd (fun k e => hwrote.block k (owns_lt m.hd k e) (fun e' => ?_) (fun e' => m.far k e'.symm e)), ?_, ?_, m.hat, ?_⟩⟩
  · subst e'; exact owns_ne m.hd m.wr.blk (by decide) e
  · intro k e
    rcases hat with e' | ⟨k', e', hk'⟩
    · exact m.far k (by rw [← e', e])
    · rw [e'] at e; cases e
      intro e2
      have := owns_lt m.hd k e2
      omega
  · rcases hat with e' | ⟨k', e', hk'⟩
    · rw [e']; exact m.vat
    · exact Or.inr ⟨k', e', by omega⟩
  · refine m.kept.trans (kept_wrote hwrote) (fun i hi => ?_)
    rcases hi with rfl | hi
    · exact Or.inl (Or.inl rfl)
    · rcases m.vat with e | ⟨k, e, hk⟩
      · exact Or.inl (Or.inr (Or.inl (by rw [hi, e])))
      · rw [e] at hi; cases hi; exact Or.inr hk
theorem Did.below (m : Did w b v h w1 v1 h1 ws1 ws2) (k : Below w1.heap.size w1 w2) : Did w b v h w2 v1 h1 ws1 ws2 :=
  ⟨m.wr.below k, owns_kept m.hd (fun g e => k.block g (owns_lt m.hd g e)), m.far, m.vat, m.hat, m.kept.trans (kept_below (S := fun _ => False) k) (fun _ h => h.elim)⟩
theorem Did.grown (m : Did w b v h w1 v1 h1 ws1 ws2) {n : Nat} (hn : new.length = n) (hown : w2.ownsRow 0 5 1 h2 (ws2.length + n) (vals ws2 ++ vals new)) (hg : w1.grownBy w2 h1.ownBlock)
    (hat : h2.ownBlock = h1.ownBlock ∨ h2.ownBlock = some w1.heap.size) : Did w b v h w2 v1 h2 ws1 (ws2 ++ new) := by
  have hs := m.kept.size
  refine ⟨m.wr.kept (hg.block b m.wr.lt (fun e => owns_ne m.hd m.wr.blk (by decide) e.symm)) (fun k e => hg.block k (m.wr.rowLt k e) (fun e' => m.far k e e'.symm)), ?_, ?_, m.vat, ?_, ?_⟩
  · rw [List.length_append, hn, vals_app]; exact hown
  · intro k e e2
    rcases hat with e' | e'
    · exact m.far k e (by rw [← e', e2])
    · rw [e'] at e2; cases e2
      have := m.wr.rowLt _ e
      omega
  · rcases hat with e' | e'
    · rw [e']; exact m.hat
    · exact Or.inr ⟨_, e', hs⟩
  · refine m.kept.trans (kept_grown hg) (fun i hi => ?_)
    rcases m.hat with e | ⟨k, e, hk⟩
    · exact Or.inl (Or.inr (Or.inr (by rw [hi, e])))
    · rw [e] at hi; cases hi; exact Or.inr hk
/-- What the document holds is a row that was made now. -/
theorem Did.made (m : Did w b v h w1 v1 h1 ws1 ws2) (hl : new.length ≤ 140737488355328) : Did w b v h (w1.alloc (.cells (vals new).toArray 5)) v1 (.slice (some ⟨w1.heap.size, 0, none⟩) new.length new.length) ws1 new := by
  have hb : Below w1.heap.size w1 (w1.alloc (.cells (vals new).toArray 5)) := (Below.refl _ _).alloc (Nat.le_refl _) _
  have hz := m.kept.size
  have m2 := m.below hb
  refine ⟨m2.wr, ⟨by rw [vals_len]; omega, Or.inr ⟨w1.heap.size, new.length, (vals new).toArray, rfl, Nat.zero_le _, heap_alloc_new _ _, Nat.le_refl _, ?_, by simp [vals_len], ?_⟩⟩, ?_, m.vat, Or.inr ⟨w1.heap.size, rfl, hz⟩, m2.kept⟩
  · unfold maxLen; omega
  · rw [List.take_of_length_le (by simp [vals_len])]
  · intro k e e2
    simp [Value.ownBlock] at e2
    subst e2
    have := m.wr.rowLt _ e
    omega
end

theorem owns_kept' {w w' : World} {B n : Nat} {e : TypeId} {size : Nat} {v : Value} {xs : List Value} (h : w.ownsRow B e size v n xs) (hk : ∀ g, v.ownBlock = some g → w'.heap[g]? = w.heap[g]?) : w'.ownsRow B e size v n xs := by
  refine ⟨h.1, ?_⟩
  rcases h.2 with h0 | ⟨g, cap, cur, h1, hb, hg, r⟩
  · exact Or.inl h0
  · exact Or.inr ⟨g, cap, cur, h1, hb, (hk g (by rw [h1]; rfl)).trans hg, r⟩
theorem owns_low {w : World} {B n : Nat} {t : TypeId} {v : Value} {xs : List Value} (h : w.ownsRow B t 1 v n xs) (g : Nat) (e : v.ownBlock = some g) : B ≤ g := by
  rcases h.2 with ⟨h1, h2⟩ | ⟨g', cap, cur, h1, hb, hg, _⟩
  · rw [h1] at e; simp [Value.ownBlock] at e
  · rw [h1] at e; simp [Value.ownBlock] at e; omega
theorem rows_far {w : World} {B1 B2 n1 n2 : Nat} {t1 t2 : TypeId} {v1 v2 : Value} {xs1 xs2 : List Value} (h1 : w.ownsRow B1 t1 1 v1 n1 xs1) (h2 : w.ownsRow B2 t2 1 v2 n2 xs2) (ht : t1 ≠ t2) : Far v1 v2 := by
  intro g e e'
  rcases h1.2 with ⟨h, _⟩ | ⟨g', cap, cur, h, _, hg, _⟩
  · rw [h] at e; simp [Value.ownBlock] at e
  · rw [h] at e; simp [Value.ownBlock] at e; subst e
    exact owns_ne h2 hg ht e'
theorem owns_cell {w : World} {B g n c k : Nat} {t : TypeId} {xs : List Value} (h : w.ownsRow B t 1 (.slice (some ⟨g, 0, none⟩) n c) n xs) (a : Value) (hk : xs[k]? = some a) : w.cell? ⟨g, k, none⟩ = some a ∧ w.frozen? ⟨g, k, none⟩ = false := by
  rcases h.2 with ⟨h1, _⟩ | ⟨g', cap, cur, h1, _, hg, _, _, _, ht⟩
  · cases h1
  · cases h1
    have hkl : k < xs.length := (List.getElem?_eq_some_iff.1 hk).1
    have := h.1
    rw [← ht, List.getElem?_take, if_pos (by omega)] at hk
    exact ⟨by simp only [World.cell?, hg]; simpa using hk, by simp only [World.frozen?, hg]; simp⟩
theorem owns_set {w : World} {B g n c k : Nat} {t : TypeId} {xs : List Value} (h : w.ownsRow B t 1 (.slice (some ⟨g, 0, none⟩) n c) n xs) (_hk : k < n) (a : Value) : (w.setCell ⟨g, k, none⟩ a).ownsRow B t 1 (.slice (some ⟨g, 0, none⟩) n c) n (xs.set k a) := by
  rcases h.2 with ⟨h1, _⟩ | ⟨g', cap, cur, h1, h2, hg, h3, h4, h5, ht⟩
  · cases h1
  · cases h1
    refine ⟨by rw [List.length_set]; exact h.1, Or.inr ⟨g, c, cur.setIfInBounds k a, rfl, h2, block_set hg a, h3, h4, by simpa using h5, ?_⟩⟩
    rw [← ht]
    simp [List.take_set, Array.toList_setIfInBounds]

def upd {α : Type} (f : Nat → α) (k : Nat) (a : α) : Nat → α := fun i => if i = k then a else f i
theorem upd_same {α : Type} (f : Nat → α) (k : Nat) (a : α) : upd f k a k = a := by simp [upd]
theorem upd_ne {α : Type} (f : Nat → α) (k : Nat) (a : α) (i : Nat) (h : i ≠ k) : upd f k a i = f i := by simp [upd, h]
theorem map_upd (f : Nat → Value) (n k : Nat) (a : Value) : ((List.range n).map fun i => f i).set k a = (List.range n).map fun i => upd f k a i := by
  apply List.ext_getElem?
  intro i
  rw [List.getElem?_set]
  by_cases h : k = i
  · subst h
    by_cases hn : k < n
    · simp [hn, upd]
    · simp [hn]
  · rw [if_neg h]
    simp only [List.getElem?_map]
    by_cases hn : i < n
    · rw [List.getElem?_range hn]
      simp only [Option.map_some]
      rw [upd_ne _ _ _ _ (Ne.symm h)]
    · rw [List.getElem?_eq_none (by simpa using hn)]
      rfl
theorem map_add {α : Type} (f : Nat → α) (F : α → Value) (n : Nat) (a : α) : (List.range (n + 1)).map (fun i => F (upd f n a i)) = (List.range n).map (fun i => F (f i)) ++ [F a] := by
  rw [List.range_succ, List.map_append, List.map_singleton, upd_same]
  congr 1
  apply List.map_congr_left
  intro i hi
  rw [upd_ne _ _ _ _ (by have := List.mem_range.1 hi; omega)]

/-- MANY WRITERS, WHAT THE DOCUMENT HOLDS BESIDE EACH. -/
structure Crowd (w wr : World) (N n : Nat) (C : Array Value) (P Q : Value) (B : Nat → Nat) (V H : Nat → Value) (X : Nat → List Nat) : Prop where
  below : Below N w wr
  box : wr.heap[N]? = some (.cells C 41 (0, 0))
  pw : wr.ownsRow (N + 1) 28 1 P n ((List.range n).map fun i => .pointer (some ⟨B i, 0, none⟩))
  ph : wr.ownsRow (N + 1) 22 1 Q n ((List.range n).map fun i => H i)
  wrs : ∀ i, i < n → Wr wr (B i) (V i) (X i)
  hds : ∀ i, i < n → wr.ownsRow 0 5 1 (H i) (X i).length (vals (X i))
  bne : ∀ i j, i < n → j < n → i ≠ j → B i ≠ B j
  fvv : ∀ i j, i < n → j < n → i ≠ j → Far (V i) (V j)
  fvh : ∀ i j, i < n → j < n → Far (V i) (H j)
  fhh : ∀ i j, i < n → j < n → i ≠ j → Far (H i) (H j)
  lb : ∀ i, i < n → N < B i
  lv : ∀ i, i < n → ∀ g, (V i).ownBlock = some g → N < g
  lh : ∀ i, i < n → ∀ g, (H i).ownBlock = some g → N < g

section
variable {w wr w' : World} {N n : Nat} {C : Array Value} {P Q : Value} {B : Nat → Nat} {V H : Nat → Value} {X : Nat → List Nat}
theorem Crowd.on (c : Crowd w wr N n C P Q B V H X) (k : Below wr.heap.size wr w') : Crowd w w' N n C P Q B V H X := by
  have hN := lt_of_block c.box
  exact ⟨c.below.trans (k.mono (by omega)), (k.block _ hN).trans c.box, owns_kept' c.pw (fun g e => k.block g (owns_lt c.pw g e)), owns_kept' c.ph (fun g e => k.block g (owns_lt c.ph g e)), fun i hi => (c.wrs i hi).below k, fun i hi => owns_kept' (c.hds i hi) (fun g e => k.block g (owns_lt (c.hds i hi) g e)), c.bne, c.fvv, c.fvh, c.fhh, c.lb, c.lv, c.lh⟩

/-- But for the row of pointers, or of lists, nothing old has turned: one more Writer. -/
theorem Crowd.add (c : Crowd w wr N n C P Q B V H X) {P' Q' : Value} {b : Nat} (k : Kept (fun i => some i = P.ownBlock ∨ some i = Q.ownBlock) wr w') (hb : wr.heap.size ≤ b) (hw : Wr w' b (.slice none 0 0) [])
    (pw : w'.ownsRow (N + 1) 28 1 P' (n + 1) (((List.range n).map fun i => Value.pointer (some ⟨B i, 0, none⟩)) ++ [.pointer (some ⟨b, 0, none⟩)])) (ph : w'.ownsRow (N + 1) 22 1 Q' (n + 1) (((List.range n).map fun i => H i) ++ [.slice none 0 0])) :
    Crowd w w' N (n + 1) C P' Q' (upd B n b) (upd V n (.slice none 0 0)) (upd H n (.slice none 0 0)) (upd X n []) := by
  have hN := lt_of_block c.box
  have e0 : ∀ g, (Value.slice none 0 0).ownBlock = some g → False := fun g e => by simp [Value.ownBlock] at e
  have hpl := fun i e => owns_low c.pw i e
  have hql := fun i e => owns_low c.ph i e
  have hnp : ∀ (j : Nat) (C : Array Value) (t : TypeId) (fr : Nat × Nat), wr.heap[j]? = some (Obj.cells C t fr) → t ≠ 28 → t ≠ 22 → w'.heap[j]? = wr.heap[j]? := fun j C t fr hj h1 h2 => k.block j (lt_of_block hj) (by
    rintro (e | e)
    · exact owns_ne c.pw hj h1 e.symm
    · exact owns_ne c.ph hj h2 e.symm)
  have hrow : ∀ v m xs, wr.ownsRow 0 5 1 v m xs → ∀ g, v.ownBlock = some g → w'.heap[g]? = wr.heap[g]? := fun v m xs h g e => by
    rcases h.2 with ⟨h1, h2⟩ | ⟨g', cap, cur, h1, _, hg, _⟩
    · rw [h1] at e; simp [Value.ownBlock] at e
    · rw [h1] at e; simp [Value.ownBlock] at e; subst e
      exact hnp _ _ _ _ hg (by decide) (by decide)
  refine ⟨k.below c.below (by omega) (fun i hi => ?_), (hnp _ _ _ _ c.box (by decide) (by decide)).trans c.box, by rw [map_add B (fun b => Value.pointer (some ⟨b, 0, none⟩))]; exact pw, by rw [map_add H (fun v => v)]; exact ph, fun i hi => ?_, fun i hi => ?_, fun i j hi hj hne => ?_, fun i j hi hj hne => ?_, fun i j hi hj => ?_, fun i j hi hj hne => ?_, fun i hi => ?_, fun i hi g e => ?_, fun i hi g e => ?_⟩
  · rcases hi with e | e
    · have := hpl i e.symm; omega
    · have := hql i e.symm; omega
  · by_cases h : i = n
    · subst h; simp only [upd_same]; exact hw
    · simp only [upd_ne _ _ _ _ h]
      have hw' := c.wrs i (by omega)
      exact hw'.kept (hnp _ _ _ _ hw'.blk (by decide) (by decide)) (hrow _ _ _ hw'.own)
  · by_cases h : i = n
    · subst h; simp only [upd_same]; exact ⟨rfl, Or.inl ⟨rfl, rfl⟩⟩
    · simp only [upd_ne _ _ _ _ h]
      exact owns_kept' (c.hds i (by omega)) (hrow _ _ _ (c.hds i (by omega)))
  · by_cases h1 : i = n
    · subst h1
      rw [upd_same, upd_ne _ _ _ _ (Ne.symm hne)]
      have := (c.wrs j (by omega)).lt; omega
    · by_cases h2 : j = n
      · subst h2
        rw [upd_same, upd_ne _ _ _ _ h1]
        have := (c.wrs i (by omega)).lt; omega
      · rw [upd_ne _ _ _ _ h1, upd_ne _ _ _ _ h2]; exact c.bne i j (by omega) (by omega) hne
  · by_cases h1 : i = n
    · subst h1; rw [upd_same]; exact fun g e => (e0 g e).elim
    · by_cases h2 : j = n
      · subst h2; rw [upd_same]; exact fun g _ e => e0 g e
      · rw [upd_ne _ _ _ _ h1, upd_ne _ _ _ _ h2]; exact c.fvv i j (by omega) (by omega) hne
  · by_cases h1 : i = n
    · subst h1; rw [upd_same]; exact fun g e => (e0 g e).elim
    · by_cases h2 : j = n
      · subst h2; rw [upd_same]; exact fun g _ e => e0 g e
      · rw [upd_ne _ _ _ _ h1, upd_ne _ _ _ _ h2]; exact c.fvh i j (by omega) (by omega)
  · by_cases h1 : i = n
    · subst h1; rw [upd_same]; exact fun g e => (e0 g e).elim
    · by_cases h2 : j = n
      · subst h2; rw [upd_same]; exact fun g _ e => e0 g e
      · rw [upd_ne _ _ _ _ h1, upd_ne _ _ _ _ h2]; exact c.fhh i j (by omega) (by omega) hne
  · by_cases h : i = n
    · subst h; rw [upd_same]; omega
    · rw [upd_ne _ _ _ _ h]; exact c.lb i (by omega)
  · by_cases h : i = n
    · subst h; rw [upd_same] at e; exact (e0 g e).elim
    · rw [upd_ne _ _ _ _ h] at e; exact c.lv i (by omega) g e
  · by_cases h : i = n
    · subst h; rw [upd_same] at e; exact (e0 g e).elim
    · rw [upd_ne _ _ _ _ h] at e; exact c.lh i (by omega) g e

/-- What is not the k-th Writer's is as it was. -/
theorem Crowd.far (c : Crowd w wr N n C P Q B V H X) {k : Nat} (hk : k < n) {j : Nat} {D : Array Value} {t : TypeId} {fr : Nat × Nat} (hj : wr.heap[j]? = some (.cells D t fr)) (h1 : t ≠ 53) (h2 : t ≠ 5) : ¬ Turns (B k) (V k) (H k) j := by
  rintro (e | e | e)
  · have := (c.wrs k hk).blk
    rw [← e, hj] at this
    simp at this
    exact h1 this.2.1
  · exact owns_ne (c.wrs k hk).own hj h2 e.symm
  · exact owns_ne (c.hds k hk) hj h2 e.symm
theorem Crowd.row (c : Crowd w wr N n C P Q B V H X) {k : Nat} (hk : k < n) {B0 m : Nat} {t : TypeId} {v : Value} {xs : List Value} (h : wr.ownsRow B0 t 1 v m xs) (h1 : t ≠ 53) (h2 : t ≠ 5) (g : Nat) (e : v.ownBlock = some g) : ¬ Turns (B k) (V k) (H k) g := by
  rcases h.2 with ⟨h', _⟩ | ⟨g', cap, cur, h', _, hg, _⟩
  · rw [h'] at e; simp [Value.ownBlock] at e
  · rw [h'] at e; simp [Value.ownBlock] at e; subst e
    exact c.far hk hg h1 h2
end

end Go.Proofs.Ytlnldipiofddkab
