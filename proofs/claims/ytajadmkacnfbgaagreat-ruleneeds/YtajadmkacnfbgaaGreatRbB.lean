import Derived.Test.YtajadmkacnfbgaaGreatRbL
namespace Go.Proofs.YtajadmkacnfbgaaGreat.RB
open Go.RowKit Go.Proofs.YtajadmkacnfbgaaGreat

/-- Other blocks have turned. -/
theorem Bk.keep {w w' : World} {N b : Nat} {L M : Value} {A turn done used : Nat} {ks : List Kl} {S : Nat → Prop} (h : Bk w N b L M A turn done used ks) (k : Kept S w w') (h1 : ¬ S b) (h2 : ∀ g, L.ownBlock = some g → ¬ S g) (h3 : ∀ g, M.ownBlock = some g → ¬ S g) (h4 : ∀ x ∈ ks, ∀ g, x.val.ownBlock = some g → ¬ S g) : Bk w' N b L M A turn done used ks :=
  ⟨(k.block b (lt_of_block h.blk) h1).trans h.blk, owns_kept' h.ls (fun g e => k.block g (owns_lt h.ls g e) (h2 g e)), owns_kept' h.ms (fun g e => k.block g (owns_lt h.ms g e) (h3 g e)), fun x hx => owns_kept' (h.rows x hx) (fun g e => k.block g (owns_lt (h.rows x hx) g e) (h4 x hx g e)), h.num, h.most, h.one⟩
/-- A number of the Book's own is set. -/
theorem Bk.turned {w : World} {N b : Nat} {L M : Value} {A turn done used : Nat} {ks : List Kl} (h : Bk w N b L M A turn done used ks) (t : Nat) : Bk (w.setCell ⟨b, 54, none⟩ (.int .i64 (t : Int))) N b L M A t done used ks := by
  have hs : ∀ j, j ≠ b → (w.setCell ⟨b, 54, none⟩ (.int .i64 (t : Int))).heap[j]? = w.heap[j]? := fun j hj => Below.heap_setCell _ _ _ _ hj
  have hr : ∀ {B0 n s0 : Nat} {ty : TypeId} {v : Value} {xs : List Value}, w.ownsRow B0 ty s0 v n xs → 45 ≠ ty → ∀ g, v.ownBlock = some g → (w.setCell ⟨b, 54, none⟩ (.int .i64 (t : Int))).heap[g]? = w.heap[g]? := fun hv ht g e => hs g (fun e' => owns_ne hv h.blk ht (by rw [e, e']))
  exact ⟨by rw [block_set h.blk]; rfl, owns_kept' h.ls (hr h.ls (by decide)), owns_kept' h.ms (hr h.ms (by decide)), fun x hx => owns_kept' (h.rows x hx) (hr (h.rows x hx) (by decide)), h.num, h.most, h.one⟩
theorem Bk.usedUp {w : World} {N b : Nat} {L M : Value} {A turn done used : Nat} {ks : List Kl} (h : Bk w N b L M A turn done used ks) (t : Nat) : Bk (w.setCell ⟨b, 56, none⟩ (.int .i64 (t : Int))) N b L M A turn done t ks := by
  have hs : ∀ j, j ≠ b → (w.setCell ⟨b, 56, none⟩ (.int .i64 (t : Int))).heap[j]? = w.heap[j]? := fun j hj => Below.heap_setCell _ _ _ _ hj
  have hr : ∀ {B0 n s0 : Nat} {ty : TypeId} {v : Value} {xs : List Value}, w.ownsRow B0 ty s0 v n xs → 45 ≠ ty → ∀ g, v.ownBlock = some g → (w.setCell ⟨b, 56, none⟩ (.int .i64 (t : Int))).heap[g]? = w.heap[g]? := fun hv ht g e => hs g (fun e' => owns_ne hv h.blk ht (by rw [e, e']))
  exact ⟨by rw [block_set h.blk]; rfl, owns_kept' h.ls (hr h.ls (by decide)), owns_kept' h.ms (hr h.ms (by decide)), fun x hx => owns_kept' (h.rows x hx) (hr (h.rows x hx) (by decide)), h.num, h.most, h.one⟩

/-- One list more is kept: its bytes are its mark's. -/
theorem Bk.more {w w' : World} {N b : Nat} {L M L' M' : Value} {A turn done used : Nat} {ks : List Kl} {x : Kl} (h : Bk w N b L M A turn done used ks) (k : Kept (fun i => i = b ∨ some i = L.ownBlock ∨ some i = M.ownBlock) w w') (hb : w'.heap[b]? = some (.cells (bkCells L' M' A turn done used) 45 (0, 0)))
    (hl : w'.ownsRow N 50 1 L' (ks.length + 1) ((ks.map fun k => k.val) ++ [x.val])) (hm : w'.ownsRow N 3 1 M' (ks.length + 1) ((ks.map fun k => Value.int .i64 (k.m : Int)) ++ [.int .i64 (x.m : Int)])) (hx : w.ownsRow N 70 3 x.val x.l (mrow x.m x.l)) (hn : x.m ≤ 1000000000000000 ∧ x.l ≤ 100000000000) (hc : ks.length + 1 ≤ 1000000000)
    (ho : ∀ y ∈ ks, ∀ g, y.val.ownBlock = some g → x.val.ownBlock = some g → y.m = x.m) : Bk w' N b L' M' A turn done used (ks ++ [x]) := by
  have hr : ∀ {n : Nat} {v : Value} {xs : List Value}, w.ownsRow N 70 3 v n xs → w'.ownsRow N 70 3 v n xs := fun hv => owns_kept' hv (fun g e => k.block g (owns_lt hv g e) (by
    rintro (e' | e' | e')
    · subst e'; exact owns_ne hv h.blk (by decide) e
    · exact rows_far h.ls hv (by decide) g e'.symm e
    · exact rows_far h.ms hv (by decide) g e'.symm e))
  refine ⟨hb, by simpa using hl, by simpa using hm, fun y hy => ?_, fun y hy => ?_, by simpa using hc, fun y hy z hz g e1 e2 => ?_⟩
  · rcases List.mem_append.1 hy with h' | h'
    · exact hr (h.rows y h')
    · simp at h'; subst h'; exact hr hx
  · rcases List.mem_append.1 hy with h' | h'
    · exact h.num y h'
    · simp at h'; subst h'; exact hn
  · rcases List.mem_append.1 hy with h' | h' <;> rcases List.mem_append.1 hz with h'' | h''
    · exact h.one y h' z h'' g e1 e2
    · simp at h''; subst h''; exact ho y h' g e1 e2
    · simp at h'; subst h'; exact (ho z h'' g e2 e1).symm
    · simp at h' h''; subst h'; subst h''; rfl

end Go.Proofs.YtajadmkacnfbgaaGreat.RB
