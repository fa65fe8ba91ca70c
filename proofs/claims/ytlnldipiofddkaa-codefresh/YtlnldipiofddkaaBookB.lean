import Derived.Test.YtlnldipiofddkaaBookL
namespace Go.Proofs.Ytlnldipiofddkaa
open Go.RowKit

theorem owns_kept' {w w' : World} {B n : Nat} {e : TypeId} {size : Nat} {v : Value} {xs : List Value} (h : w.ownsRow B e size v n xs) (hk : ∀ g, v.ownBlock = some g → w'.heap[g]? = w.heap[g]?) : w'.ownsRow B e size v n xs := by
  refine ⟨h.1, ?_⟩
  rcases h.2 with h0 | ⟨g, cap, cur, h1, hb, hg, r⟩
  · exact Or.inl h0
  · exact Or.inr ⟨g, cap, cur, h1, hb, (hk g (by rw [h1]; rfl)).trans hg, r⟩
theorem owns_low {w : World} {B n : Nat} {t : TypeId} {v : Value} {xs : List Value} (h : w.ownsRow B t 1 v n xs) (g : Nat) (e : v.ownBlock = some g) : B ≤ g := by
  rcases h.2 with ⟨h1, h2⟩ | ⟨g', cap, cur, h1, hb, hg, _⟩
  · rw [h1] at e; simp [Value.ownBlock] at e
  · rw [h1] at e; simp [Value.ownBlock] at e; omega
theorem rows_far {w : World} {B1 B2 n1 n2 : Nat} {t1 t2 : TypeId} {v1 v2 : Value} {xs1 xs2 : List Value} (h1 : w.ownsRow B1 t1 1 v1 n1 xs1) (h2 : w.ownsRow B2 t2 1 v2 n2 xs2) (ht : t1 ≠ t2) : Far v1 v2 := by
  intro g e e'
  rcases h1.2 with ⟨h, _⟩ | ⟨g', cap, cur, h, _, hg, _⟩
  · rw [h] at e; simp [Value.ownBlock] at e
  · rw [h] at e; simp [Value.ownBlock] at e; subst e
    exact owns_ne h2 hg ht e'
theorem owns_cell {w : World} {B g n c k : Nat} {t : TypeId} {xs : List Value} (h : w.ownsRow B t 1 (.slice (some ⟨g, 0, none⟩) n c) n xs) (a : Value) (hk : xs[k]? = some a) : w.cell? ⟨g, k, none⟩ = some a ∧ w.frozen? ⟨g, k, none⟩ = false := by
  rcases h.2 with ⟨h1, _⟩ | ⟨g', cap, cur, h1, _, hg, _, _, _, ht⟩
  · cases h1
  · cases h1
    have hkl : k < xs.length := (List.getElem?_eq_some_iff.1 hk).1
    have := h.1
    rw [← ht, List.getElem?_take, if_pos (by omega)] at hk
    exact ⟨by simp only [World.cell?, hg]; simpa using hk, by simp only [World.frozen?, hg]; simp⟩
theorem owns_set {w : World} {B g n c k : Nat} {t : TypeId} {xs : List Value} (h : w.ownsRow B t 1 (.slice (some ⟨g, 0, none⟩) n c) n xs) (_hk : k < n) (a : Value) : (w.setCell ⟨g, k, none⟩ a).ownsRow B t 1 (.slice (some ⟨g, 0, none⟩) n c) n (xs.set k a) := by
  rcases h.2 with ⟨h1, _⟩ | ⟨g', cap, cur, h1, h2, hg, h3, h4, h5, ht⟩
  · cases h1
  · cases h1
    refine ⟨by rw [List.length_set]; exact h.1, Or.inr ⟨g, c, cur.setIfInBounds k a, rfl, h2, block_set hg a, h3, h4, by simpa using h5, ?_⟩⟩
    rw [← ht]
    simp [List.take_set, Array.toList_setIfInBounds]

/-- Other blocks have turned. -/
theorem Bk.keep {w w' : World} {N b : Nat} {L M : Value} {A turn done used : Nat} {ks : List Kl} {S : Nat → Prop} (h : Bk w N b L M A turn done used ks) (k : Kept S w w') (h1 : ¬ S b) (h2 : ∀ g, L.ownBlock = some g → ¬ S g) (h3 : ∀ g, M.ownBlock = some g → ¬ S g) (h4 : ∀ x ∈ ks, ∀ g, x.val.ownBlock = some g → ¬ S g) : Bk w' N b L M A turn done used ks :=
  ⟨(k.block b (lt_of_block h.blk) h1).trans h.blk, owns_kept' h.ls (fun g e => k.block g (owns_lt h.ls g e) (h2 g e)), owns_kept' h.ms (fun g e => k.block g (owns_lt h.ms g e) (h3 g e)), fun x hx => owns_kept' (h.rows x hx) (fun g e => k.block g (owns_lt (h.rows x hx) g e) (h4 x hx g e)), h.num, h.most, h.one⟩
/-- A number of the Book's own is set. -/
theorem Bk.turned {w : World} {N b : Nat} {L M : Value} {A turn done used : Nat} {ks : List Kl} (h : Bk w N b L M A turn done used ks) (t : Nat) : Bk (w.setCell ⟨b, 54, none⟩ (.int .i64 (t : Int))) N b L M A t done used ks := by
  have hs : ∀ j, j ≠ b → (w.setCell ⟨b, 54, none⟩ (.int .i64 (t : Int))).heap[j]? = w.heap[j]? := fun j hj => Below.heap_setCell _ _ _ _ hj
  have hr : ∀ {B0 n : Nat} {ty : TypeId} {v : Value} {xs : List Value}, w.ownsRow B0 ty 1 v n xs → 74 ≠ ty → ∀ g, v.ownBlock = some g → (w.setCell ⟨b, 54, none⟩ (.int .i64 (t : Int))).heap[g]? = w.heap[g]? := fun hv ht g e => hs g (fun e' => owns_ne hv h.blk ht (by rw [e, e']))
  exact ⟨by rw [block_set h.blk]; rfl, owns_kept' h.ls (hr h.ls (by decide)), owns_kept' h.ms (hr h.ms (by decide)), fun x hx => owns_kept' (h.rows x hx) (hr (h.rows x hx) (by decide)), h.num, h.most, h.one⟩
theorem Bk.usedUp {w : World} {N b : Nat} {L M : Value} {A turn done used : Nat} {ks : List Kl} (h : Bk w N b L M A turn done used ks) (t : Nat) : Bk (w.setCell ⟨b, 56, none⟩ (.int .i64 (t : Int))) N b L M A turn done t ks := by
  have hs : ∀ j, j ≠ b → (w.setCell ⟨b, 56, none⟩ (.int .i64 (t : Int))).heap[j]? = w.heap[j]? := fun j hj => Below.heap_setCell _ _ _ _ hj
  have hr : ∀ {B0 n : Nat} {ty : TypeId} {v : Value} {xs : List Value}, w.ownsRow B0 ty 1 v n xs → 74 ≠ ty → ∀ g, v.ownBlock = some g → (w.setCell ⟨b, 56, none⟩ (.int .i64 (t : Int))).heap[g]? = w.heap[g]? := fun hv ht g e => hs g (fun e' => owns_ne hv h.blk ht (by rw [e, e']))
  exact ⟨by rw [block_set h.blk]; rfl, owns_kept' h.ls (hr h.ls (by decide)), owns_kept' h.ms (hr h.ms (by decide)), fun x hx => owns_kept' (h.rows x hx) (hr (h.rows x hx) (by decide)), h.num, h.most, h.one⟩

/-- One list more is kept: its bytes are its mark's. -/
theorem Bk.more {w w' : World} {N b : Nat} {L M L' M' : Value} {A turn done used : Nat} {ks : List Kl} {x : Kl} (h : Bk w N b L M A turn done used ks) (k : Kept (fun i => i = b ∨ some i = L.ownBlock ∨ some i = M.ownBlock) w w') (hb : w'.heap[b]? = some (.cells (bkCells L' M' A turn done used) 74 (0, 0)))
    (hl : w'.ownsRow N 22 1 L' (ks.length + 1) ((ks.map fun k => k.val) ++ [x.val])) (hm : w'.ownsRow N 3 1 M' (ks.length + 1) ((ks.map fun k => Value.int .i64 (k.m : Int)) ++ [.int .i64 (x.m : Int)])) (hx : w.ownsRow N 5 1 x.val x.l (vals (mks x.m x.l))) (hn : x.m ≤ 1000000000 ∧ x.l ≤ 100000000000) (hc : ks.length + 1 ≤ 1000000000)
    (ho : ∀ y ∈ ks, ∀ g, y.val.ownBlock = some g → x.val.ownBlock = some g → y.m = x.m) : Bk w' N b L' M' A turn done used (ks ++ [x]) := by
  have hr : ∀ {n : Nat} {v : Value} {xs : List Value}, w.ownsRow N 5 1 v n xs → w'.ownsRow N 5 1 v n xs := fun hv => owns_kept' hv (fun g e => k.block g (owns_lt hv g e) (by
    rintro (e' | e' | e')
    · subst e'; exact owns_ne hv h.blk (by decide) e
    · exact rows_far h.ls hv (by decide) g e'.symm e
    · exact rows_far h.ms hv (by decide) g e'.symm e))
  refine ⟨hb, by simpa using hl, by simpa using hm, fun y hy => ?_, fun y hy => ?_, by simpa using hc, fun y hy z hz g e1 e2 => ?_⟩
  · rcases List.mem_append.1 hy with h' | h'
    · exact hr (h.rows y h')
    · simp at h'; subst h'; exact hr hx
  · rcases List.mem_append.1 hy with h' | h'
    · exact h.num y h'
    · simp at h'; subst h'; exact hn
  · rcases List.mem_append.1 hy with h' | h' <;> rcases List.mem_append.1 hz with h'' | h''
    · exact h.one y h' z h'' g e1 e2
    · simp at h''; subst h''; exact ho y h' g e1 e2
    · simp at h'; subst h'; exact (ho z h'' g e2 e1).symm
    · simp at h' h''; subst h'; subst h''; rfl

end Go.Proofs.Ytlnldipiofddkaa
