import Derived.Test.YthgggjdefhgfiaaQI
import Derived.Lib.ConvBytes
import Derived.Lib.AtoiErrMem
namespace Go.Proofs.Ythgggjdefhgfiaa.Q
open Go.RowKit

structure BytesS (S : Nat → Prop) (w : World) (sp : Option Addr) (xs : List Nat) : Prop where
  small : ∀ x ∈ xs, x < 256
  lie : xs = [] ∨ ∃ g o, sp = some ⟨g, o, none⟩ ∧ S g ∧ g < w.heap.size ∧ ∀ j, j < xs.length → w.cell? ⟨g, o + j, none⟩ = some (.int .u8 (xs.getD j 0))
theorem BytesS.bytes {S : Nat → Prop} {w : World} {sp : Option Addr} {xs : List Nat} (h : BytesS S w sp xs) : Bytes w sp xs :=
  ⟨h.small, h.lie.elim Or.inl (fun ⟨g, o, e, _, hg, hc⟩ => Or.inr ⟨g, o, e, hg, hc⟩)⟩
theorem BytesS.kept {S : Nat → Prop} {w w' : World} {sp : Option Addr} {xs : List Nat} (h : BytesS S w sp xs) (hk : ∀ k, S k → k < w.heap.size → w'.heap[k]? = w.heap[k]?) (hs : w.heap.size ≤ w'.heap.size) : BytesS S w' sp xs :=
  ⟨h.small, h.lie.elim Or.inl (fun ⟨g, o, e, hS, hg, hc⟩ => Or.inr ⟨g, o, e, hS, Nat.lt_of_lt_of_le hg hs, fun j hj => by rw [World.cell?_of_block (w := w) (hk g hS hg)]; exact hc j hj⟩)⟩
theorem blk2 {w : World} {b : Nat} {x0 x1 : Value} {t : TypeId} (h : w.heap[b]? = some (.cells #[x0, x1] t (0, 0))) : w.cell? ⟨b, 0, none⟩ = some x0 ∧ w.cell? ⟨b, 1, none⟩ = some x1 ∧ (∀ o, w.frozen? ⟨b, o, none⟩ = false) :=
  ⟨by simp [World.cell?, h], by simp [World.cell?, h], fun o => by simp [World.frozen?, h]⟩
theorem Kp.kept {p : Nat × Nat → Prop} {K K' : Knd} {w w' : World} (m : Kp p K K' w w') : Kept (fun i => p (K i)) w w' := ⟨m.os, m.tape, m.output, m.size, fun k hk hn => m.block k hk hn⟩
theorem kpb {p : Nat × Nat → Prop} {K K' : Knd} {w w' : World} (m : Kp p K K' w w') {g : Nat} {c : Nat × Nat} (hg : g < w.heap.size) (h : K g = c) (hS : ¬ p c) : w'.heap[g]? = w.heap[g]? := m.block g hg (by rw [h]; exact hS)
theorem kpk {p : Nat × Nat → Prop} {K K' : Knd} {w w' : World} (m : Kp p K K' w w') {g : Nat} {c : Nat × Nat} (hg : g < w.heap.size) (h : K g = c) : K' g = c := (m.same g hg).trans h

/-- An answer that is kept late, with what it must hold. -/
structure Gt where
  p : Option Addr
  l : Nat
  c : Nat
  ys : List Nat
  wp : Option Addr
  wc : Nat
def Gt.val (x : Gt) : Value := .slice x.p x.l x.c
def Gt.wal (x : Gt) : Value := .slice x.wp x.l x.wc
/-- Bytes at the beginning of a block of bytes. -/
def Lies (w : World) (g : Nat) (ys : List Nat) : Prop := ∃ C fz, w.heap[g]? = some (.cells C 5 fz) ∧ ∀ j, j < ys.length → C[j]? = some (.int .u8 (ys.getD j 0 : Nat))
theorem Lies.bytes {w : World} {g : Nat} {ys : List Nat} (h : Lies w g ys) (hs : ∀ x ∈ ys, x < 256) : Bytes w (some ⟨g, 0, none⟩) ys := by
  obtain ⟨C, fz, hC, hc⟩ := h
  exact lie_row hC hs hc
theorem Lies.lt {w : World} {g : Nat} {ys : List Nat} (h : Lies w g ys) : g < w.heap.size := by
  obtain ⟨C, fz, hC, hc⟩ := h
  exact lt_of_block hC
theorem Lies.kept {w w' : World} {g : Nat} {ys : List Nat} (h : Lies w g ys) (hk : w'.heap[g]? = w.heap[g]?) : Lies w' g ys := by
  obtain ⟨C, fz, hC, hc⟩ := h
  exact ⟨C, fz, hk.trans hC, hc⟩

/-- THE LATE ANSWERS: their lists, what they hold. -/
structure Lt (K : Knd) (w : World) (t : Nat) (G W : Value) (xs : List Gt) : Prop where
  blk : w.heap[t]? = some (.cells #[G, W] 66 (0, 0))
  gs : ownsQ false w 0 59 1 G xs.length (xs.map fun x => x.val)
  ws : ownsQ false w 0 59 1 W xs.length (xs.map fun x => x.wal)
  far : Far G W
  rows : ∀ x ∈ xs, ownsQ true w 0 5 1 x.val x.l (vals x.ys)
  small : ∀ x ∈ xs, ∀ y ∈ x.ys, y < 256
  wants : ∀ x ∈ xs, ∃ g, x.wp = some ⟨g, 0, none⟩ ∧ K g = (6, 0) ∧ Lies w g x.ys
  num : ∀ x ∈ xs, x.l ≤ 140737488355328
  ct : K t = (6, 0)
  cg : ∀ g, G.ownBlock = some g → K g = (6, 0)
  cw : ∀ g, W.ownBlock = some g → K g = (6, 0)
  cx : ∀ j x, xs[j]? = some x → ∀ g, x.val.ownBlock = some g → K g = (7, j)

theorem Lt.keep {p : Nat × Nat → Prop} {K K' : Knd} {w w' : World} {t : Nat} {G W : Value} {xs : List Gt} (h : Lt K w t G W xs) (m : Kp p K K' w w') (h6 : ¬ p (6, 0)) (hx : ∀ j, j < xs.length → ¬ p (7, j)) : Lt K' w' t G W xs := by
  refine ⟨(kpb m (lt_of_block h.blk) h.ct h6).trans h.blk, owns_kept' h.gs (fun g e => kpb m (owns_lt h.gs g e) (h.cg g e) h6), owns_kept' h.ws (fun g e => kpb m (owns_lt h.ws g e) (h.cw g e) h6), h.far, fun x hm => ?_, h.small, fun x hm => ?_, h.num, kpk m (lt_of_block h.blk) h.ct, fun g e => kpk m (owns_lt h.gs g e) (h.cg g e), fun g e => kpk m (owns_lt h.ws g e) (h.cw g e), fun j x hj g e => ?_⟩
  · obtain ⟨j, hj⟩ := List.mem_iff_getElem?.1 hm
    exact owns_kept' (h.rows x hm) (fun g e => kpb m (owns_lt (h.rows x hm) g e) (h.cx j x hj g e) (hx j (List.getElem?_eq_some_iff.1 hj).1))
  · obtain ⟨g, e, hc, hl⟩ := h.wants x hm
    exact ⟨g, e, kpk m hl.lt hc, hl.kept (kpb m hl.lt hc h6)⟩
  · exact kpk m (owns_lt (h.rows x (List.mem_of_getElem? hj)) g e) (h.cx j x hj g e)

theorem Lt.more {K : Knd} {w w' : World} {t : Nat} {G W G' W' : Value} {xs : List Gt} {x : Gt} (h : Lt K w t G W xs) (k : Kept (fun i => i = t ∨ some i = G.ownBlock ∨ some i = W.ownBlock) w w') (hb : w'.heap[t]? = some (.cells #[G', W'] 66 (0, 0)))
    (hg : ownsQ false w' 0 59 1 G' (xs.length + 1) ((xs.map fun x => x.val) ++ [x.val])) (hw : ownsQ false w' 0 59 1 W' (xs.length + 1) ((xs.map fun x => x.wal) ++ [x.wal])) (hf : Far G' W')
    (hG : G'.ownBlock = G.ownBlock ∨ ∃ g, G'.ownBlock = some g ∧ w.heap.size ≤ g) (hW : W'.ownBlock = W.ownBlock ∨ ∃ g, W'.ownBlock = some g ∧ w.heap.size ≤ g)
    (hx : ownsQ true w 0 5 1 x.val x.l (vals x.ys)) (hs : ∀ y ∈ x.ys, y < 256) (hn : x.l ≤ 140737488355328) (hwant : ∃ g, x.wp = some ⟨g, 0, none⟩ ∧ w.heap.size ≤ g ∧ Lies w' g x.ys) (hcx : ∀ g, x.val.ownBlock = some g → K g = (7, xs.length)) :
    Lt (ext K w.heap.size (6, 0)) w' t G' W' (xs ++ [x]) ∧ Kp (fun q => q = (6, 0)) K (ext K w.heap.size (6, 0)) w w' := by
  have hm : Kp (fun q => q = (6, 0)) K (ext K w.heap.size (6, 0)) w w' := kp_kept k (fun q => q = (6, 0)) K (6, 0) (fun i hi e => by
    rcases e with e | e | e
    · rw [e]; exact h.ct
    · exact h.cg i e.symm
    · exact h.cw i e.symm)
  have hr : ∀ {n : Nat} {v : Value} {ys : List Value}, ownsQ true w 0 5 1 v n ys → ownsQ true w' 0 5 1 v n ys := fun hv => owns_kept' hv (fun g e => k.block g (owns_lt hv g e) (by
    rintro (e' | e' | e')
    · subst e'; exact owns_ne hv h.blk (by decide) e
    · exact rows_far h.gs hv (by decide) g e'.symm e
    · exact rows_far h.ws hv (by decide) g e'.symm e))
  have hl : ∀ {g : Nat} {ys : List Nat}, Lies w g ys → Lies w' g ys := fun {g ys} hv => hv.kept (k.block g hv.lt (by
    obtain ⟨C, fz, hC, _⟩ := hv
    rintro (e' | e' | e')
    · subst e'; rw [h.blk] at hC; simp at hC
    · exact owns_ne h.gs hC (by decide) e'.symm
    · exact owns_ne h.ws hC (by decide) e'.symm))
  have hfix : ∀ {X Y : Value}, (∀ g, Y.ownBlock = some g → K g = (6, 0)) → (∀ g, Y.ownBlock = some g → g < w.heap.size) → (X.ownBlock = Y.ownBlock ∨ ∃ g, X.ownBlock = some g ∧ w.heap.size ≤ g) → ∀ g, X.ownBlock = some g → ext K w.heap.size (6, 0) g = (6, 0) := fun h1 h2 h3 g e => by
    rcases h3 with e' | ⟨g', e', hg'⟩
    · rw [ext_old _ _ (h2 g (by rw [← e', e]))]; exact h1 g (by rw [← e', e])
    · rw [e'] at e; cases e; exact ext_new _ _ hg'
  refine ⟨⟨hb, by simpa using hg, by simpa using hw, hf, fun y hy => ?_, fun y hy => ?_, fun y hy => ?_, fun y hy => ?_, (ext_old _ _ (lt_of_block h.blk)).trans h.ct, hfix h.cg (owns_lt h.gs) hG, hfix h.cw (owns_lt h.ws) hW, fun j y hj g e => ?_⟩, hm⟩
  · rcases List.mem_append.1 hy with h' | h'
    · exact hr (h.rows y h')
    · simp at h'; subst h'; exact hr hx
  · rcases List.mem_append.1 hy with h' | h'
    · exact h.small y h'
    · simp at h'; subst h'; exact hs
  · rcases List.mem_append.1 hy with h' | h'
    · obtain ⟨g, e, hc, hv⟩ := h.wants y h'
      exact ⟨g, e, (ext_old _ _ hv.lt).trans hc, hl hv⟩
    · simp at h'; subst h'
      obtain ⟨g, e, hc, hv⟩ := hwant
      exact ⟨g, e, ext_new _ _ hc, hv⟩
  · rcases List.mem_append.1 hy with h' | h'
    · exact h.num y h'
    · simp at h'; subst h'; exact hn
  · by_cases hjl : j < xs.length
    · rw [List.getElem?_append_left hjl] at hj
      rw [ext_old _ _ (owns_lt (h.rows y (List.mem_of_getElem? hj)) g e)]
      exact h.cx j y hj g e
    · rw [List.getElem?_append_right (by omega)] at hj
      have hj0 : j = xs.length := by
        have := (List.getElem?_eq_some_iff.1 hj).1
        simp at this; omega
      subst hj0
      simp at hj
      subst hj
      rw [ext_old _ _ (owns_lt hx g e)]
      exact hcx g e

/-- '[]byte(s)' of a string of bytes. -/
theorem conv_bytes (w : World) (ys : List Nat) (hs : ∀ y ∈ ys, y < 256) : ∃ W c, (convert 9 59 (.string (str ys))).run Try.prog w = .ok (.slice (some ⟨w.heap.size, 0, none⟩) ys.length c) W ∧ Below w.heap.size w W ∧ W.heap.size = w.heap.size + 1 ∧ Lies W w.heap.size ys := by
  have hsz : (str ys).size = ys.length := by rw [str, strOfNums_size]; simp
  refine ⟨Lib.bytesWorld w 5 (str ys), grownCap w (str ys).size 0 5, ?_, Lib.bytesWorld_below _ _ _, Lib.bytesWorld_size _ _ _, _, _, Lib.bytesWorld_at_new _ _ _, fun j hj => ?_⟩
  · rw [Lib.run_convert_string_bytes (P := Try.prog) w 9 59 5 (str ys) Try.underlying9 Try.underlying59 Try.underlying5, hsz]
  · have hlt : ys[j] < 256 := hs _ (List.getElem_mem hj)
    simp only [Lib.bytesCells, str, strOfNums]
    rw [Array.getElem?_append_left (by simpa using hj)]
    simp [List.getD, hj]
    omega


end Go.Proofs.Ythgggjdefhgfiaa.Q
