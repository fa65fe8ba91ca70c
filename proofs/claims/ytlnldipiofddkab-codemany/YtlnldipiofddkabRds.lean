import Derived.Test.YtlnldipiofddkabCrowd2
namespace Go.Proofs.Ytlnldipiofddkab
open Go.RowKit

/-- Blocks of other kinds than a crowd's have turned. -/
theorem Crowd.keep {w wr w' : World} {N n : Nat} {C : Array Value} {P Q : Value} {B : Nat → Nat} {V H : Nat → Value} {X : Nat → List Nat} {S : Nat → Prop} (c : Crowd w wr N n C P Q B V H X) (k : Kept S wr w')
    (hS : ∀ j, S j → N < j ∧ ∃ D fr, wr.heap[j]? = some (.cells D 32 fr)) : Crowd w w' N n C P Q B V H X := by
  have hN := lt_of_block c.box
  have hb : ∀ {j : Nat} {D : Array Value} {t : TypeId} {fr : Nat × Nat}, wr.heap[j]? = some (Obj.cells D t fr) → t ≠ 32 → w'.heap[j]? = wr.heap[j]? := fun hj ht => k.block _ (lt_of_block hj) (fun s => by
    obtain ⟨_, D', fr', h'⟩ := hS _ s
    rw [hj] at h'
    simp at h'
    exact ht h'.2.1)
  have hr : ∀ {v : Value} {m B0 : Nat} {t : TypeId} {xs : List Value}, wr.ownsRow B0 t 1 v m xs → t ≠ 32 → ∀ g, v.ownBlock = some g → w'.heap[g]? = wr.heap[g]? := fun h ht g e => by
    rcases h.2 with ⟨h1, _⟩ | ⟨g', cap, cur, h1, _, hg, _⟩
    · rw [h1] at e; simp [Value.ownBlock] at e
    · rw [h1] at e; simp [Value.ownBlock] at e; subst e
      exact hb hg ht
  exact ⟨k.below c.below (by omega) (fun i s => by have := (hS i s).1; omega), (hb c.box (by decide)).trans c.box, owns_kept' c.pw (hr c.pw (by decide)), owns_kept' c.ph (hr c.ph (by decide)), fun i hi => (c.wrs i hi).kept (hb (c.wrs i hi).blk (by decide)) (hr (c.wrs i hi).own (by decide)), fun i hi => owns_kept' (c.hds i hi) (hr (c.hds i hi) (by decide)), c.bne, c.fvv, c.fvh, c.fhh, c.lb, c.lv, c.lh⟩

/-- MANY READERS. -/
structure Rds (wr : World) (N m : Nat) (R : Value) (RB RH : Nat → Nat) (X : Nat → List Nat) : Prop where
  pr : wr.ownsRow (N + 1) 32 1 R m ((List.range m).map fun t => .pointer (some ⟨RB t, 0, none⟩))
  rd : ∀ t, t < m → Rd wr (RB t) (RH t) (X t) 0 0
  ne : ∀ a b, a < m → b < m → a ≠ b → RB a ≠ RB b
  lo : ∀ t, t < m → N < RB t
  rh : ∀ t, t < m → RH t < wr.heap.size ∧ R.ownBlock ≠ some (RH t)

theorem owns_type {w : World} {B n : Nat} {t : TypeId} {v : Value} {xs : List Value} (h : w.ownsRow B t 1 v n xs) (g : Nat) (e : v.ownBlock = some g) : ∃ D fr, w.heap[g]? = some (.cells D t fr) := by
  rcases h.2 with ⟨h1, h2⟩ | ⟨g', cap, cur, h1, _, hg, _⟩
  · rw [h1] at e; simp [Value.ownBlock] at e
  · rw [h1] at e; simp [Value.ownBlock] at e; subst e; exact ⟨_, _, hg⟩

section
variable {wr w' : World} {N m : Nat} {R : Value} {RB RH : Nat → Nat} {X : Nat → List Nat}
theorem Rds.on (r : Rds wr N m R RB RH X) (k : Below wr.heap.size wr w') : Rds w' N m R RB RH X :=
  ⟨owns_kept' r.pr (fun g e => k.block g (owns_lt r.pr g e)), fun t ht => (r.rd t ht).below k, r.ne, r.lo, fun t ht => ⟨Nat.lt_of_lt_of_le (r.rh t ht).1 k.size, (r.rh t ht).2⟩⟩
theorem Rds.add (r : Rds wr N m R RB RH X) {R' : Value} {b h : Nat} (k : Kept (fun i => some i = R.ownBlock) wr w') (pr' : w'.ownsRow (N + 1) 32 1 R' (m + 1) (((List.range m).map fun t => Value.pointer (some ⟨RB t, 0, none⟩)) ++ [.pointer (some ⟨b, 0, none⟩)]))
    (hat : R'.ownBlock = R.ownBlock ∨ ∃ g, R'.ownBlock = some g ∧ wr.heap.size ≤ g ∧ g ≠ h) (rd' : Rd w' b h (X m) 0 0) (hb : wr.heap.size ≤ b) (hh : wr.heap.size ≤ h) (hl : h < w'.heap.size) (hN : N < wr.heap.size) : Rds w' N (m + 1) R' (upd RB m b) (upd RH m h) X := by
  have hs := k.size
  have hold : ∀ t, t < m → Rd w' (RB t) (RH t) (X t) 0 0 := fun t ht => (r.rd t ht).blocks (k.block _ (r.rd t ht).lt (fun e => owns_ne r.pr (r.rd t ht).blk (by decide) e.symm)) (k.block _ (r.rh t ht).1 (fun e => (r.rh t ht).2 e.symm)) hs
  refine ⟨by rw [map_add RB (fun b => Value.pointer (some ⟨b, 0, none⟩))]; exact pr', fun t ht => ?_, fun x y hx hy hne => ?_, fun t ht => ?_, fun t ht => ?_⟩
  · by_cases e : t = m
    · subst e; simp only [upd_same]; exact rd'
    · simp only [upd_ne _ _ _ _ e]; exact hold t (by omega)
  · by_cases h1 : x = m
    · subst h1
      rw [upd_same, upd_ne _ _ _ _ (Ne.symm hne)]
      have := (r.rd y (by omega)).lt; omega
    · by_cases h2 : y = m
      · subst h2
        rw [upd_same, upd_ne _ _ _ _ h1]
        have := (r.rd x (by omega)).lt; omega
      · rw [upd_ne _ _ _ _ h1, upd_ne _ _ _ _ h2]; exact r.ne x y (by omega) (by omega) hne
  · by_cases e : t = m
    · subst e; rw [upd_same]; omega
    · rw [upd_ne _ _ _ _ e]; exact r.lo t (by omega)
  · by_cases e : t = m
    · subst e
      simp only [upd_same]
      refine ⟨hl, fun e2 => ?_⟩
      rcases hat with e' | ⟨g, e', hg, hgh⟩
      · rw [e'] at e2; have := owns_lt r.pr _ e2; omega
      · rw [e'] at e2; cases e2; exact hgh rfl
    · simp only [upd_ne _ _ _ _ e]
      obtain ⟨r1, r2⟩ := r.rh t (by omega)
      refine ⟨by omega, fun e2 => ?_⟩
      rcases hat with e' | ⟨g, e', hg, _⟩
      · exact r2 (by rw [← e', e2])
      · rw [e'] at e2; cases e2; omega
end

theorem rn_first (i : Nat) (X : List Nat) (hi : i < 4294967296) (h4 : X.take 4 = beOf i 4) (hl : 4 ≤ X.length) : rNext 1 0 X 0 0 = (⟨i, 0, 0, 4, 0⟩, 4, 0) := by
  have hb : be (X.take 4) = i := by rw [h4, be_beOf]; omega
  have e : pFind 1 0 (X.drop 0) = ⟨i, 0, 0, 4, 0⟩ := by
    simp [pFind, pFixed, width]
    rw [if_neg (by omega), hb]
  rw [List.drop_zero] at e
  simp [rNext, e]

end Go.Proofs.Ytlnldipiofddkab
