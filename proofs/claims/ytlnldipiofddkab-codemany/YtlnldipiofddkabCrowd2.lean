import Derived.Test.YtlnldipiofddkabCrowd
namespace Go.Proofs.Ytlnldipiofddkab
open Go.RowKit

section
variable {w wr w' : World} {N n : Nat} {C : Array Value} {P Q : Value} {B : Nat → Nat} {V H : Nat → Value} {X : Nat → List Nat}

/-- Behind a call of the k-th Writer, and of the document's. -/
theorem Crowd.held (c : Crowd w wr N n C P Q B V H X) {k : Nat} (hk : k < n) {v' h' : Value} {y1 y2 : List Nat} (d : Did wr (B k) (V k) (H k) w' v' h' y1 y2) :
    w'.heap[N]? = some (.cells C 41 (0, 0)) ∧ w'.ownsRow (N + 1) 28 1 P n ((List.range n).map fun i => .pointer (some ⟨B i, 0, none⟩)) ∧ w'.ownsRow (N + 1) 22 1 Q n ((List.range n).map fun i => H i) ∧ Below N w w' := by
  have hN := lt_of_block c.box
  refine ⟨(d.kept.block _ hN (c.far hk c.box (by decide) (by decide))).trans c.box, owns_kept' c.pw (fun g e => d.kept.block g (owns_lt c.pw g e) (c.row hk c.pw (by decide) (by decide) g e)), owns_kept' c.ph (fun g e => d.kept.block g (owns_lt c.ph g e) (c.row hk c.ph (by decide) (by decide) g e)), d.kept.below c.below (by omega) (fun i hi => ?_)⟩
  rcases hi with e | e | e
  · have := c.lb k hk; omega
  · have := c.lv k hk i e.symm; omega
  · have := c.lh k hk i e.symm; omega

theorem Crowd.did {gq cq : Nat} (c : Crowd w wr N n C P (.slice (some ⟨gq, 0, none⟩) n cq) B V H X) {k : Nat} (hk : k < n) {v' h' : Value} {y : List Nat} (d : Did wr (B k) (V k) (H k) w' v' h' y y) :
    Crowd w (w'.setCell ⟨gq, k, none⟩ h') N n C P (.slice (some ⟨gq, 0, none⟩) n cq) B (upd V k v') (upd H k h') (upd X k y) := by
  obtain ⟨hbox, hpw, hph, hbl⟩ := c.held hk d
  have hN := lt_of_block c.box
  have hgq : N + 1 ≤ gq := owns_low hph gq rfl
  have hz := d.kept.size
  obtain ⟨D, hD⟩ : ∃ D, w'.heap[gq]? = some (.cells D 22 (0, 0)) := by
    rcases hph.2 with ⟨h1, _⟩ | ⟨g', cap, cur, h1, _, hg, _⟩
    · cases h1
    · cases h1; exact ⟨cur, hg⟩
  have hs : ∀ j, j ≠ gq → (w'.setCell ⟨gq, k, none⟩ h').heap[j]? = w'.heap[j]? := fun j hj => Below.heap_setCell _ _ _ _ hj
  have hrw : ∀ {v : Value} {m B0 : Nat} {t : TypeId} {xs : List Value}, w'.ownsRow B0 t 1 v m xs → 22 ≠ t → ∀ g, v.ownBlock = some g → (w'.setCell ⟨gq, k, none⟩ h').heap[g]? = w'.heap[g]? := fun h ht g e => hs g (fun e' => owns_ne h hD ht (by rw [e, e']))
  have hWo : ∀ {b : Nat} {v : Value} {ws : List Nat}, Wr w' b v ws → Wr (w'.setCell ⟨gq, k, none⟩ h') b v ws := fun h => h.kept (hs _ (fun e => by have := h.blk; rw [e, hD] at this; simp at this)) (hrw h.own (by decide))
  have hB : ∀ i, i < n → i ≠ k → ¬ Turns (B k) (V k) (H k) (B i) := fun i hi hne => by
    rintro (e | e | e)
    · exact c.bne i k hi hk hne e
    · exact owns_ne (c.wrs k hk).own (c.wrs i hi).blk (by decide) e.symm
    · exact owns_ne (c.hds k hk) (c.wrs i hi).blk (by decide) e.symm
  have hVr : ∀ i, i < n → i ≠ k → ∀ g, (V i).ownBlock = some g → w'.heap[g]? = wr.heap[g]? := fun i hi hne g e => d.kept.block g ((c.wrs i hi).rowLt g e) (by
    rintro (e' | e' | e')
    · subst e'; exact owns_ne (c.wrs i hi).own (c.wrs k hk).blk (by decide) e
    · exact c.fvv i k hi hk hne g e e'.symm
    · exact c.fvh i k hi hk g e e'.symm)
  have hHr : ∀ i, i < n → i ≠ k → ∀ g, (H i).ownBlock = some g → w'.heap[g]? = wr.heap[g]? := fun i hi hne g e => d.kept.block g (owns_lt (c.hds i hi) g e) (by
    rintro (e' | e' | e')
    · subst e'; exact owns_ne (c.hds i hi) (c.wrs k hk).blk (by decide) e
    · exact c.fvh k i hk hi g e'.symm e
    · exact c.fhh i k hi hk hne g e e'.symm)
  have hW1 : ∀ i, i < n → i ≠ k → Wr w' (B i) (V i) (X i) := fun i hi hne => (c.wrs i hi).kept (d.kept.block _ (c.wrs i hi).lt (hB i hi hne)) (hVr i hi hne)
  have hH1 : ∀ i, i < n → i ≠ k → w'.ownsRow 0 5 1 (H i) (X i).length (vals (X i)) := fun i hi hne => owns_kept' (c.hds i hi) (hHr i hi hne)
  refine ⟨hbl.setCell (by simp; omega) _, (hs N (by omega)).trans hbox, owns_kept' hpw (hrw hpw (by decide)), by rw [← map_upd]; exact owns_set hph hk h', fun i hi => ?_, fun i hi => ?_, c.bne, fun i j hi hj hne => ?_, fun i j hi hj => ?_, fun i j hi hj hne => ?_, c.lb, fun i hi g e => ?_, fun i hi g e => ?_⟩
  · by_cases h : i = k
    · subst h; simp only [upd_same]; exact hWo d.wr
    · simp only [upd_ne _ _ _ _ h]; exact hWo (hW1 i hi h)
  · by_cases h : i = k
    · subst h; simp only [upd_same]; exact owns_kept' d.hd (hrw d.hd (by decide))
    · simp only [upd_ne _ _ _ _ h]; exact owns_kept' (hH1 i hi h) (hrw (hH1 i hi h) (by decide))
  · by_cases h1 : i = k
    · subst h1
      rw [upd_same, upd_ne _ _ _ _ (Ne.symm hne)]
      exact far_new (c.fvv i j hi hj hne) d.vat (c.wrs j hj).own
    · by_cases h2 : j = k
      · subst h2
        rw [upd_same, upd_ne _ _ _ _ h1]
        exact (far_new (c.fvv j i hj hi (Ne.symm hne)) d.vat (c.wrs i hi).own).symm
      · rw [upd_ne _ _ _ _ h1, upd_ne _ _ _ _ h2]; exact c.fvv i j hi hj hne
  · by_cases h1 : i = k
    · by_cases h2 : j = k
      · subst h1; subst h2; rw [upd_same, upd_same]; exact d.far
      · subst h1
        rw [upd_same, upd_ne _ _ _ _ h2]
        exact far_new (c.fvh i j hi hj) d.vat (c.hds j hj)
    · by_cases h2 : j = k
      · subst h2
        rw [upd_same, upd_ne _ _ _ _ h1]
        exact (far_new (c.fvh i j hi hj).symm d.hat (c.wrs i hi).own).symm
      · rw [upd_ne _ _ _ _ h1, upd_ne _ _ _ _ h2]; exact c.fvh i j hi hj
  · by_cases h1 : i = k
    · subst h1
      rw [upd_same, upd_ne _ _ _ _ (Ne.symm hne)]
      exact far_new (c.fhh i j hi hj hne) d.hat (c.hds j hj)
    · by_cases h2 : j = k
      · subst h2
        rw [upd_same, upd_ne _ _ _ _ h1]
        exact (far_new (c.fhh j i hj hi (Ne.symm hne)) d.hat (c.hds i hi)).symm
      · rw [upd_ne _ _ _ _ h1, upd_ne _ _ _ _ h2]; exact c.fhh i j hi hj hne
  · by_cases h : i = k
    · subst h
      rw [upd_same] at e
      rcases d.vat with e' | ⟨x, e', hx⟩
      · exact c.lv i hi g (by rw [← e', e])
      · rw [e'] at e; cases e; omega
    · rw [upd_ne _ _ _ _ h] at e; exact c.lv i hi g e
  · by_cases h : i = k
    · subst h
      rw [upd_same] at e
      rcases d.hat with e' | ⟨x, e', hx⟩
      · exact c.lh i hi g (by rw [← e', e])
      · rw [e'] at e; cases e; omega
    · rw [upd_ne _ _ _ _ h] at e; exact c.lh i hi g e

/-- A Reader is called: the Writers are as they were. -/
theorem Crowd.past {b n1 m1 : Nat} {s1 : Option Addr} {x1 x3 : Int} (c : Crowd w wr N n C P Q B V H X) (k : But b wr w') (hb : wr.heap[b]? = some (.cells #[.slice s1 n1 m1, .int .i64 x1, .int .i64 x3] 66 (0, 0))) (hN : N < b) : Crowd w w' N n C P Q B V H X := by
  have hNl := lt_of_block c.box
  have hr : ∀ {v : Value} {m B0 : Nat} {t : TypeId} {xs : List Value}, wr.ownsRow B0 t 1 v m xs → 66 ≠ t → ∀ g, v.ownBlock = some g → w'.heap[g]? = wr.heap[g]? := fun h ht g e => k.block g (owns_lt h g e) (fun e' => owns_ne h hb ht (by rw [e, e']))
  exact ⟨k.below c.below (by omega) (by omega), (k.block N hNl (by omega)).trans c.box, owns_kept' c.pw (hr c.pw (by decide)), owns_kept' c.ph (hr c.ph (by decide)), fun i hi => (c.wrs i hi).kept (k.block _ (c.wrs i hi).lt (fun e => by have := (c.wrs i hi).blk; rw [e, hb] at this; simp at this)) (hr (c.wrs i hi).own (by decide)), fun i hi => owns_kept' (c.hds i hi) (hr (c.hds i hi) (by decide)), c.bne, c.fvv, c.fvh, c.fhh, c.lb, c.lv, c.lh⟩
end

end Go.Proofs.Ytlnldipiofddkab
