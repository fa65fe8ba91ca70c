import Derived.Test.YtlnldipiofddkaaBookI
import Derived.Lib.ConvBytes
import Derived.Lib.AtoiErrMem
namespace Go.Proofs.Ytlnldipiofddkaa
open Go.RowKit

/-- EVERY BLOCK HAS A KIND. Blocks of other kinds than S's are as they were; so are their kinds. -/
structure Mv (S : Nat → Prop) (τ : Nat → Nat) (w : World) (τ' : Nat → Nat) (w' : World) : Prop where
  kept : Kept (fun k => S (τ k)) w w'
  col : ∀ k, k < w.heap.size → ¬ S (τ k) → τ' k = τ k
/-- New blocks are of the kind c. -/
def ext (τ : Nat → Nat) (n c : Nat) (k : Nat) : Nat := if k < n then τ k else c
theorem ext_old {τ : Nat → Nat} {n c k : Nat} (h : k < n) : ext τ n c k = τ k := if_pos h
theorem ext_new {τ : Nat → Nat} {n c k : Nat} (h : n ≤ k) : ext τ n c k = c := if_neg (by omega)
theorem Mv.of {S T : Nat → Prop} {τ : Nat → Nat} {w w' : World} (h : Kept T w w') (hS : ∀ k, k < w.heap.size → T k → S (τ k)) (c : Nat) : Mv S τ w (ext τ w.heap.size c) w' :=
  ⟨⟨h.os, h.tape, h.output, h.size, fun k hk hn => h.block k hk (fun t => hn (hS k hk t))⟩, fun _ hk _ => ext_old hk⟩
theorem Mv.block {S : Nat → Prop} {τ τ' : Nat → Nat} {w w' : World} (m : Mv S τ w τ' w') {g c : Nat} (hg : g < w.heap.size) (h : τ g = c) (hS : ¬ S c) : w'.heap[g]? = w.heap[g]? := m.kept.block g hg (by rw [h]; exact hS)
theorem Mv.kind {S : Nat → Prop} {τ τ' : Nat → Nat} {w w' : World} (m : Mv S τ w τ' w') {g c : Nat} (hg : g < w.heap.size) (h : τ g = c) (hS : ¬ S c) : τ' g = c := (m.col g hg (by rw [h]; exact hS)).trans h

/-- An answer that is kept late, with what it must hold. -/
structure Gt where
  p : Option Addr
  l : Nat
  c : Nat
  ys : List Nat
  wp : Option Addr
  wc : Nat
def Gt.val (x : Gt) : Value := .slice x.p x.l x.c
def Gt.wal (x : Gt) : Value := .slice x.wp x.l x.wc
/-- Bytes at the beginning of a block of bytes. -/
def Lies (w : World) (g : Nat) (ys : List Nat) : Prop := ∃ C fz, w.heap[g]? = some (.cells C 5 fz) ∧ ∀ j, j < ys.length → C[j]? = some (.int .u8 (ys.getD j 0 : Nat))
theorem Lies.bytes {w : World} {g : Nat} {ys : List Nat} (h : Lies w g ys) (hs : ∀ x ∈ ys, x < 256) : Bytes w (some ⟨g, 0, none⟩) ys := by
  obtain ⟨C, fz, hC, hc⟩ := h
  exact lie_row hC hs hc
theorem Lies.lt {w : World} {g : Nat} {ys : List Nat} (h : Lies w g ys) : g < w.heap.size := by
  obtain ⟨C, fz, hC, hc⟩ := h
  exact lt_of_block hC
theorem Lies.kept {w w' : World} {g : Nat} {ys : List Nat} (h : Lies w g ys) (hk : w'.heap[g]? = w.heap[g]?) : Lies w' g ys := by
  obtain ⟨C, fz, hC, hc⟩ := h
  exact ⟨C, fz, hk.trans hC, hc⟩

/-- THE LATE ANSWERS: their lists, what they hold. -/
structure Lt (τ : Nat → Nat) (w : World) (t : Nat) (G W : Value) (xs : List Gt) : Prop where
  blk : w.heap[t]? = some (.cells #[G, W] 77 (0, 0))
  gs : w.ownsRow 0 22 1 G xs.length (xs.map fun x => x.val)
  ws : w.ownsRow 0 22 1 W xs.length (xs.map fun x => x.wal)
  far : Far G W
  rows : ∀ x ∈ xs, w.ownsRow 0 5 1 x.val x.l (vals x.ys)
  small : ∀ x ∈ xs, ∀ y ∈ x.ys, y < 256
  wants : ∀ x ∈ xs, ∃ g, x.wp = some ⟨g, 0, none⟩ ∧ τ g = 6 ∧ Lies w g x.ys
  num : ∀ x ∈ xs, x.l ≤ 140737488355328
  ct : τ t = 6
  cg : ∀ g, G.ownBlock = some g → τ g = 6
  cw : ∀ g, W.ownBlock = some g → τ g = 6
  cx : ∀ j x, xs[j]? = some x → ∀ g, x.val.ownBlock = some g → τ g = 10 + j

theorem Lt.keep {S : Nat → Prop} {τ τ' : Nat → Nat} {w w' : World} {t : Nat} {G W : Value} {xs : List Gt} (h : Lt τ w t G W xs) (m : Mv S τ w τ' w') (h6 : ¬ S 6) (hx : ∀ j, j < xs.length → ¬ S (10 + j)) : Lt τ' w' t G W xs := by
  refine ⟨(m.block (lt_of_block h.blk) h.ct h6).trans h.blk, owns_kept' h.gs (fun g e => m.block (owns_lt h.gs g e) (h.cg g e) h6), owns_kept' h.ws (fun g e => m.block (owns_lt h.ws g e) (h.cw g e) h6), h.far, fun x hm => ?_, h.small, fun x hm => ?_, h.num, m.kind (lt_of_block h.blk) h.ct h6, fun g e => m.kind (owns_lt h.gs g e) (h.cg g e) h6, fun g e => m.kind (owns_lt h.ws g e) (h.cw g e) h6, fun j x hj g e => ?_⟩
  · obtain ⟨j, hj⟩ := List.mem_iff_getElem?.1 hm
    exact owns_kept' (h.rows x hm) (fun g e => m.block (owns_lt (h.rows x hm) g e) (h.cx j x hj g e) (hx j (List.getElem?_eq_some_iff.1 hj).1))
  · obtain ⟨g, e, hc, hl⟩ := h.wants x hm
    exact ⟨g, e, m.kind hl.lt hc h6, hl.kept (m.block hl.lt hc h6)⟩
  · exact m.kind (owns_lt (h.rows x (List.mem_of_getElem? hj)) g e) (h.cx j x hj g e) (hx j (List.getElem?_eq_some_iff.1 hj).1)

theorem Lt.more {τ : Nat → Nat} {w w' : World} {t : Nat} {G W G' W' : Value} {xs : List Gt} {x : Gt} (h : Lt τ w t G W xs) (k : Kept (fun i => i = t ∨ some i = G.ownBlock ∨ some i = W.ownBlock) w w') (hb : w'.heap[t]? = some (.cells #[G', W'] 77 (0, 0)))
    (hg : w'.ownsRow 0 22 1 G' (xs.length + 1) ((xs.map fun x => x.val) ++ [x.val])) (hw : w'.ownsRow 0 22 1 W' (xs.length + 1) ((xs.map fun x => x.wal) ++ [x.wal])) (hf : Far G' W')
    (hG : G'.ownBlock = G.ownBlock ∨ ∃ g, G'.ownBlock = some g ∧ w.heap.size ≤ g) (hW : W'.ownBlock = W.ownBlock ∨ ∃ g, W'.ownBlock = some g ∧ w.heap.size ≤ g)
    (hx : w.ownsRow 0 5 1 x.val x.l (vals x.ys)) (hs : ∀ y ∈ x.ys, y < 256) (hn : x.l ≤ 140737488355328) (hwant : ∃ g, x.wp = some ⟨g, 0, none⟩ ∧ w.heap.size ≤ g ∧ Lies w' g x.ys) (hcx : ∀ g, x.val.ownBlock = some g → τ g = 10 + xs.length) :
    Lt (ext τ w.heap.size 6) w' t G' W' (xs ++ [x]) ∧ Mv (fun c => c = 6) τ w (ext τ w.heap.size 6) w' := by
  have hm : Mv (fun c => c = 6) τ w (ext τ w.heap.size 6) w' := Mv.of k (fun i hi e => by
    rcases e with e | e | e
    · rw [e]; exact h.ct
    · exact h.cg i e.symm
    · exact h.cw i e.symm) 6
  have hr : ∀ {n : Nat} {v : Value} {ys : List Value}, w.ownsRow 0 5 1 v n ys → w'.ownsRow 0 5 1 v n ys := fun hv => owns_kept' hv (fun g e => k.block g (owns_lt hv g e) (by
    rintro (e' | e' | e')
    · subst e'; exact owns_ne hv h.blk (by decide) e
    · exact rows_far h.gs hv (by decide) g e'.symm e
    · exact rows_far h.ws hv (by decide) g e'.symm e))
  have hl : ∀ {g : Nat} {ys : List Nat}, Lies w g ys → Lies w' g ys := fun {g ys} hv => hv.kept (k.block g hv.lt (by
    obtain ⟨C, fz, hC, _⟩ := hv
    rintro (e' | e' | e')
    · subst e'; rw [h.blk] at hC; simp at hC
    · exact owns_ne h.gs hC (by decide) e'.symm
    · exact owns_ne h.ws hC (by decide) e'.symm))
  have hfix : ∀ {X Y : Value}, (∀ g, Y.ownBlock = some g → τ g = 6) → (∀ g, Y.ownBlock = some g → g < w.heap.size) → (X.ownBlock = Y.ownBlock ∨ ∃ g, X.ownBlock = some g ∧ w.heap.size ≤ g) → ∀ g, X.ownBlock = some g → ext τ w.heap.size 6 g = 6 := fun h1 h2 h3 g e => by
    rcases h3 with e' | ⟨g', e', hg'⟩
    · rw [ext_old (h2 g (by rw [← e', e]))]; exact h1 g (by rw [← e', e])
    · rw [e'] at e; cases e; exact ext_new hg'
  refine ⟨⟨hb, by simpa using hg, by simpa using hw, hf, fun y hy => ?_, fun y hy => ?_, fun y hy => ?_, fun y hy => ?_, (ext_old (lt_of_block h.blk)).trans h.ct, hfix h.cg (owns_lt h.gs) hG, hfix h.cw (owns_lt h.ws) hW, fun j y hj g e => ?_⟩, hm⟩
  · rcases List.mem_append.1 hy with h' | h'
    · exact hr (h.rows y h')
    · simp at h'; subst h'; exact hr hx
  · rcases List.mem_append.1 hy with h' | h'
    · exact h.small y h'
    · simp at h'; subst h'; exact hs
  · rcases List.mem_append.1 hy with h' | h'
    · obtain ⟨g, e, hc, hv⟩ := h.wants y h'
      exact ⟨g, e, (ext_old hv.lt).trans hc, hl hv⟩
    · simp at h'; subst h'
      obtain ⟨g, e, hc, hv⟩ := hwant
      exact ⟨g, e, ext_new hc, hv⟩
  · rcases List.mem_append.1 hy with h' | h'
    · exact h.num y h'
    · simp at h'; subst h'; exact hn
  · by_cases hjl : j < xs.length
    · rw [List.getElem?_append_left hjl] at hj
      rw [ext_old (owns_lt (h.rows y (List.mem_of_getElem? hj)) g e)]
      exact h.cx j y hj g e
    · rw [List.getElem?_append_right (by omega)] at hj
      have hj0 : j = xs.length := by
        have := (List.getElem?_eq_some_iff.1 hj).1
        simp at this; omega
      subst hj0
      simp at hj
      subst hj
      rw [ext_old (owns_lt hx g e)]
      exact hcx g e

/-- '[]byte(s)' of a string of bytes. -/
theorem conv_bytes (w : World) (ys : List Nat) (hs : ∀ y ∈ ys, y < 256) : ∃ W c, (convert 9 22 (.string (str ys))).run Try.prog w = .ok (.slice (some ⟨w.heap.size, 0, none⟩) ys.length c) W ∧ Below w.heap.size w W ∧ W.heap.size = w.heap.size + 1 ∧ Lies W w.heap.size ys := by
  have hsz : (str ys).size = ys.length := by rw [str, strOfNums_size]; simp
  refine ⟨Lib.bytesWorld w 5 (str ys), grownCap w (str ys).size 0 5, ?_, Lib.bytesWorld_below _ _ _, Lib.bytesWorld_size _ _ _, _, _, Lib.bytesWorld_at_new _ _ _, fun j hj => ?_⟩
  · rw [Lib.run_convert_string_bytes (P := Try.prog) w 9 22 5 (str ys) Try.underlying9 Try.underlying22 Try.underlying5, hsz]
  · have hlt : ys[j] < 256 := hs _ (List.getElem_mem hj)
    simp only [Lib.bytesCells, str, strOfNums]
    rw [Array.getElem?_append_left (by simpa using hj)]
    simp [List.getD, hj]
    omega

end Go.Proofs.Ytlnldipiofddkaa
