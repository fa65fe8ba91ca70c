import Derived.Test.YtlijclghojfdpaaGreatDoorQI
import Derived.Lib.ConvBytes
import Derived.Lib.AtoiErrMem
namespace Go.Proofs.YtlijclghojfdpaaGreatDoor.Q
open Go.RowKit Go.Proofs.YtlijclghojfdpaaGreatDoor.U

structure BytesS (S : Nat → Prop) (w : World) (sp : Option Addr) (xs : List Nat) : Prop where
  small : ∀ x ∈ xs, x < 256
  lie : xs = [] ∨ ∃ g o, sp = some ⟨g, o, none⟩ ∧ S g ∧ g < w.heap.size ∧ ∀ j, j < xs.length → w.cell? ⟨g, o + j, none⟩ = some (.int .u8 (xs.getD j 0))
theorem BytesS.bytes {S : Nat → Prop} {w : World} {sp : Option Addr} {xs : List Nat} (h : BytesS S w sp xs) : Bytes w sp xs :=
  ⟨h.small, h.lie.elim Or.inl (fun ⟨g, o, e, _, hg, hc⟩ => Or.inr ⟨g, o, e, hg, hc⟩)⟩
theorem BytesS.kept {S : Nat → Prop} {w w' : World} {sp : Option Addr} {xs : List Nat} (h : BytesS S w sp xs) (hk : ∀ k, S k → k < w.heap.size → w'.heap[k]? = w.heap[k]?) (hs : w.heap.size ≤ w'.heap.size) : BytesS S w' sp xs :=
  ⟨h.small, h.lie.elim Or.inl (fun ⟨g, o, e, hS, hg, hc⟩ => Or.inr ⟨g, o, e, hS, Nat.lt_of_lt_of_le hg hs, fun j hj => by rw [World.cell?_of_block (w := w) (hk g hS hg)]; exact hc j hj⟩)⟩
theorem blk2 {w : World} {b : Nat} {x0 x1 : Value} {t : TypeId} (h : w.heap[b]? = some (.cells #[x0, x1] t (0, 0))) : w.cell? ⟨b, 0, none⟩ = some x0 ∧ w.cell? ⟨b, 1, none⟩ = some x1 ∧ (∀ o, w.frozen? ⟨b, o, none⟩ = false) :=
  ⟨by simp [World.cell?, h], by simp [World.cell?, h], fun o => by simp [World.frozen?, h]⟩
theorem Kp.kept {p : Nat × Nat → Prop} {K K' : Knd} {w w' : World} (m : Kp p K K' w w') : Kept (fun i => p (K i)) w w' := ⟨m.os, m.tape, m.output, m.size, fun k hk hn => m.block k hk hn⟩
theorem kpb {p : Nat × Nat → Prop} {K K' : Knd} {w w' : World} (m : Kp p K K' w w') {g : Nat} {c : Nat × Nat} (hg : g < w.heap.size) (h : K g = c) (hS : ¬ p c) : w'.heap[g]? = w.heap[g]? := m.block g hg (by rw [h]; exact hS)
theorem kpk {p : Nat × Nat → Prop} {K K' : Knd} {w w' : World} (m : Kp p K K' w w') {g : Nat} {c : Nat × Nat} (hg : g < w.heap.size) (h : K g = c) : K' g = c := (m.same g hg).trans h

/-- An answer that is kept late, with what it must hold. -/
structure Gt where
  p : Option Addr
  l : Nat
  c : Nat
  ys : List Nat
  wp : Option Addr
  wc : Nat
def Gt.val (x : Gt) : Value := .slice x.p x.l x.c
def Gt.wal (x : Gt) : Value := .slice x.wp x.l x.wc
/-- Bytes at the beginning of a block of bytes. -/
def Lies (w : World) (g : Nat) (ys : List Nat) : Prop := ∃ C fz, w.heap[g]? = some (.cells C 5 fz) ∧ ∀ j, j < ys.length → C[j]? = some (.int .u8 (ys.getD j 0 : Nat))
theorem Lies.bytes {w : World} {g : Nat} {ys : List Nat} (h : Lies w g ys) (hs : ∀ x ∈ ys, x < 256) : Bytes w (some ⟨g, 0, none⟩) ys := by
  obtain ⟨C, fz, hC, hc⟩ := h
  exact lie_row hC hs hc
theorem Lies.lt {w : World} {g : Nat} {ys : List Nat} (h : Lies w g ys) : g < w.heap.size := by
  obtain ⟨C, fz, hC, hc⟩ := h
  exact lt_of_block hC
theorem Lies.kept {w w' : World} {g : Nat} {ys : List Nat} (h : Lies w g ys) (hk : w'.heap[g]? = w.heap[g]?) : Lies w' g ys := by
  obtain ⟨C, fz, hC, hc⟩ := h
  exact ⟨C, fz, hk.trans hC, hc⟩

/-- THE LATE ANSWERS: their lists, what they hold. -/
structure Lt (K : Knd) (w : World) (t : Nat) (G W : Value) (xs : List Gt) : Prop where
  blk : w.heap[t]? = some (.cells #[G, W] 53 (0, 0))
  gs : ownsQ false w 0 54 1 G xs.length (xs.map fun x => x.val)
  ws : ownsQ false w 0 54 1 W xs.length (xs.map fun x => x.wal)
  far : Far G W
  rows : ∀ x ∈ xs, ownsQ true w 0 5 1 x.val x.l (vals x.ys)
  small : ∀ x ∈ xs, ∀ y ∈ x.ys, y < 256
  wants : ∀ x ∈ xs, ∃ g, x.wp = some ⟨g, 0, none⟩ ∧ K g = (6, 0) ∧ Lies w g x.ys
  num : ∀ x ∈ xs, x.l ≤ 140737488355328
  ct : K t = (6, 0)
  cg : ∀ g, G.ownBlock = some g → K g = (6, 0)
  cw : ∀ g, W.ownBlock = some g → K g = (6, 0)
  cx : ∀ j x, xs[j]? = some x → ∀ g, x.val.ownBlock = some g → K g = (7, j)

theorem Lt.keep {p : Nat × Nat → Prop} {K K' : Knd} {w w' : World} {t : Nat} {G W : Value} {xs : List Gt} (h : Lt K w t G W xs) (m : Kp p K K' w w') (h6 : ¬ p (6, 0)) (hx : ∀ j, j < xs.length → ¬ p (7, j)) : Lt K' w' t G W xs := by
  refine ⟨(kpb m (lt_of_block h.blk) h.ct h6).trans h.blk, owns_kept' h.gs (fun g e => kpb m (owns_lt h.gs g e) (h.cg g e) h6), owns_kept' h.ws (fun g e => kpb m (owns_lt h.ws g e) (h.cw g e) h6), h.far, fun x hm => ?_, h.small, fun x hm => ?_, h.num, kpk m (lt_of_block h.blk) h.ct, fun g e => kpk m (owns_lt h.gs g e) (h.cg g e), fun g e => kpk m (owns_lt h.ws g e) (h.cw g e), fun j x hj g e => ?_⟩
  · obtain ⟨j, hj⟩ := List.mem_iff_getElem?.1 hm
    exact owns_kept' (h.rows x hm) (fun g e => kpb m (owns_lt (h.rows x hm) g e) (h.cx j x hj g e) (hx j (List.getElem?_eq_some_iff.1 hj).1))
  · obtain ⟨g, e, hc, hl⟩ := h.wants x hm
    exact ⟨g, e, kpk m hl.lt hc, hl.kept (kpb m hl.lt hc h6)⟩
  · exact kpk m (owns_lt (h.rows x (List.mem_of_getElem? hj)) g e) (h.cx j x hj g e)

theorem Lt.more {K : Knd} {w w' : World} {t : Nat} {G W G' W' : Value} {xs : List Gt} {x : Gt} (h : Lt K w t G W xs) (k : Kept (fun i => i = t ∨ some i = G.ownBlock ∨ some i = W.ownBlock) w w') (hb : w'.heap[t]? = some (.cells #[G', W'] 53 (0, 0)))
    (hg : ownsQ false w' 0 54 1 G' (xs.length + 1) ((xs.map fun x => x.val) ++ [x.val])) (hw : ownsQ false w' 0 54 1 W' (xs.length + 1) ((xs.map fun x => x.wal) ++ [x.wal])) (hf : Far G' W')
    (hG : G'.ownBlock = G.ownBlock ∨ ∃ g, G'.ownBlock = some g ∧ w.heap.size ≤ g) (hW : W'.ownBlock = W.ownBlock ∨ ∃ g, W'.ownBlock = some g ∧ w.heap.size ≤ g)
    (hx : ownsQ true w 0 5 1 x.val x.l (vals x.ys)) (hs : ∀ y ∈ x.ys, y < 256) (hn : x.l ≤ 140737488355328) (hwant : ∃ g, x.wp = some ⟨g, 0, none⟩ ∧ w.heap.size ≤ g ∧ Lies w' g x.ys) (hcx : ∀ g, x.val.ownBlock = some g → K g = (7, xs.length)) :
    Lt (ext K w.heap.size (6, 0)) w' t G' W' (xs ++ [x]) ∧ Kp (fun q => q = (6, 0)) K (ext K w.heap.size (6, 0)) w w' := by
  have hm : Kp (fun q => q = (6, 0)) K (ext K w.heap.size (6, 0)) w w' := kp_kept k (fun q => q = (6, 0)) K (6, 0) (fun i hi e => by
    rcases e with e | e | e
    · rw [e]; exact h.ct
    · exact h.cg i e.symm
    · exact h.cw i e.symm)
  have hr : ∀ {n : Nat} {v : Value} {ys : List Value}, ownsQ true w 0 5 1 v n ys → ownsQ true w' 0 5 1 v n ys := fun hv => owns_kept' hv (fun g e => k.block g (owns_lt hv g e) (by
    rintro (e' | e' | e')
    · subst e'; exact owns_ne hv h.blk (by decide) e
    · exact rows_far h.gs hv (by decide) g e'.symm e
    · exact rows_far h.ws hv (by decide) g e'.symm e))
  have hl : ∀ {g : Nat} {ys : List Nat}, Lies w g ys → Lies w' g ys := fun {g ys} hv => hv.kept (k.block g hv.lt (by
    obtain ⟨C, fz, hC, _⟩ := hv
    rintro (e' | e' | e')
    · subst e'; rw [h.blk] at hC; simp at hC
    · exact owns_ne h.gs hC (by decide) e'.symm
    · exact owns_ne h.ws hC (by decide) e'.symm))
  have hfix : ∀ {X Y : Value}, (∀ g, Y.ownBlock = some g → K g = (6, 0)) → (∀ g, Y.ownBlock = some g → g < w.heap.size) → (X.ownBlock = Y.ownBlock ∨ ∃ g, X.ownBlock = some g ∧ w.heap.size ≤ g) → ∀ g, X.ownBlock = some g → ext K w.heap.size (6, 0) g = (6, 0) := fun h1 h2 h3 g e => by
    rcases h3 with e' | ⟨g', e', hg'⟩
    · rw [ext_old _ _ (h2 g (by rw [← e', e]))]; exact h1 g (by rw [← e', e])
    · rw [e'] at e; cases e; exact ext_new _ _ hg'
  refine ⟨⟨hb, by simpa using hg, by simpa using hw, hf, fun y hy => ?_, fun y hy => ?_, fun y hy => ?_, fun y hy => ?_, (ext_old _ _ (lt_of_block h.blk)).trans h.ct, hfix h.cg (owns_lt h.gs) hG, hfix h.cw (owns_lt h.ws) hW, fun j y hj g e => ?_⟩, hm⟩
  · rcases List.mem_append.1 hy with h' | h'
    · exact hr (h.rows y h')
    · simp at h'; subst h'; exact hr hx
  · rcases List.mem_append.1 hy with h' | h'
    · exact h.small y h'
    · simp at h'; subst h'; exact hs
  · rcases List.mem_append.1 hy with h' | h'
    · obtain ⟨g, e, hc, hv⟩ := h.wants y h'
      exact ⟨g, e, (ext_old _ _ hv.lt).trans hc, hl hv⟩
    · simp at h'; subst h'
      obtain ⟨g, e, hc, hv⟩ := hwant
      exact ⟨g, e, ext_new _ _ hc, hv⟩
  · rcases List.mem_append.1 hy with h' | h'
    · exact h.num y h'
    · simp at h'; subst h'; exact hn
  · by_cases hjl : j < xs.length
    · rw [List.getElem?_append_left hjl] at hj
      rw [ext_old _ _ (owns_lt (h.rows y (List.mem_of_getElem? hj)) g e)]
      exact h.cx j y hj g e
    · rw [List.getElem?_append_right (by omega)] at hj
      have hj0 : j = xs.length := by
        have := (List.getElem?_eq_some_iff.1 hj).1
        simp at this; omega
      subst hj0
      simp at hj
      subst hj
      rw [ext_old _ _ (owns_lt hx g e)]
      exact hcx g e

/-- '[]byte(s)' of a string of bytes. -/
theorem conv_bytes (w : World) (ys : List Nat) (hs : ∀ y ∈ ys, y < 256) : ∃ W c, (convert 9 54 (.string (str ys))).run Tryz.prog w = .ok (.slice (some ⟨w.heap.size, 0, none⟩) ys.length c) W ∧ Below w.heap.size w W ∧ W.heap.size = w.heap.size + 1 ∧ Lies W w.heap.size ys := by
  have hsz : (str ys).size = ys.length := by rw [str, strOfNums_size]; simp
  refine ⟨Lib.bytesWorld w 5 (str ys), grownCap w (str ys).size 0 5, ?_, Lib.bytesWorld_below _ _ _, Lib.bytesWorld_size _ _ _, _, _, Lib.bytesWorld_at_new _ _ _, fun j hj => ?_⟩
  · rw [Lib.run_convert_string_bytes (P := Tryz.prog) w 9 54 5 (str ys) Tryz.underlying9 Tryz.underlying54 Tryz.underlying5, hsz]
  · have hlt : ys[j] < 256 := hs _ (List.getElem_mem hj)
    simp only [Lib.bytesCells, str, strOfNums]
    rw [Array.getElem?_append_left (by simpa using hj)]
    simp [List.getD, hj]
    omega


end Go.Proofs.YtlijclghojfdpaaGreatDoor.Q
namespace Go.Proofs.YtlijclghojfdpaaGreatDoor.Q
open Go.RowKit Go.Proofs.YtlijclghojfdpaaGreatDoor.U

set_option maxRecDepth 100000 in
set_option maxHeartbeats 2000000 in
theorem late_add (K : Knd) (w : World) (t : Nat) (G W : Value) (xs : List Gt) (p : Option Addr) (l c : Nat) (ys : List Nat) (sp : Option Addr) (sc : Nat) (h : Lt K w t G W xs) (hrow : ownsQ true w 0 5 1 (.slice p l c) l (vals ys)) (hcx : ∀ g, (Value.slice p l c).ownBlock = some g → K g = (7, xs.length)) (hy : BytesS (fun k => K k ≠ (6, 0)) w sp ys) (hl : l ≤ 140737488355328) (hxs : xs.length ≤ 20000) :
    Calls Tryz.prog 12 #[.pointer (some ⟨t, 0, none⟩), .slice p l c, .slice sp l sc] w fun e w' => e = .returned (.tuple #[]) ∧ ∃ G' W' wp wc, Lt (ext K w.heap.size (6, 0)) w' t G' W' (xs ++ [⟨p, l, c, ys, wp, wc⟩]) ∧ Kp (fun q => q = (6, 0)) K (ext K w.heap.size (6, 0)) w w' := by
  obtain ⟨i1, hi1, hz10, hz11, hz12⟩ := info_parts Tryz.infoBy
  have HL := hide h
  have HRow := hide hrow
  have HCx := hide hcx
  have HY := hide hy
  have HYl : Hid (ys.length = l) := by have := hrow.1; rw [vals_len] at this; show _ = _; omega
  obtain ⟨c0, c1, cf⟩ := blk2 h.blk
  clear h hrow hcx hy
  go_enter Tryz.func12, Tryz.ntmps12
  go_upto_region 1 with (at_builtin; refine wpList_append_lies _ rfl (.tmp 10) (.tmp 12) 30 rfl 0 54 i1 (.slice none 0 0) 1 24 Tryz.underlying30 hi1 hz10 hz11 hz12 rfl (by omega) G xs.length _ rfl (HL.out.gs.row.alloc _) ⟨w.heap.size, 0, none⟩ 1 1 [.slice p l c] rfl rfl (World.news_of_block (heap_alloc_new w (.cells #[.slice p l c] 54))) (by simp [Value.oneCell']) (by omega) (by unfold maxLen; omega) (by omega) (Nat.zero_le _) _ rfl ?_; intro gl cl w3 hown3 hgrow3 hat3 hlt3; have k3 : Kept (fun i => some i = G.ownBlock) w w3 := (kept_below (S := fun i => some i = G.ownBlock) ((Below.refl _ _).alloc (Nat.le_refl _) (.cells #[.slice p l c] 54))).trans (kept_grown hgrow3) (fun i e => Or.inl e); have HK3 := hide k3; have HB3 := hide ((k3.block t (lt_of_block HL.out.blk) (fun e => owns_ne HL.out.gs HL.out.blk (by decide) e.symm)).trans HL.out.blk); obtain ⟨c30, c31, cf3⟩ := blk2 HB3.out; have HL3 := hide (ownsQ_of (z := false) hown3); have HA3 := hide hat3; clear hown3 hgrow3 hat3 hlt3 k3)
  have HB4 : Hid ((w3.setCell ⟨t, 0, none⟩ (.slice (some ⟨gl, 0, none⟩) (xs.length + 1) cl)).heap[t]? = some (.cells #[.slice (some ⟨gl, 0, none⟩) (xs.length + 1) cl, W] 53 (0, 0))) := by show _ = _; rw [block_set HB3.out]; rfl
  have HL4 : Hid (ownsQ false (w3.setCell ⟨t, 0, none⟩ (.slice (some ⟨gl, 0, none⟩) (xs.length + 1) cl)) 0 54 1 (.slice (some ⟨gl, 0, none⟩) (xs.length + 1) cl) (xs.length + 1) ((xs.map fun x => x.val) ++ [.slice p l c])) := owns_kept' HL3.out (fun g e => Below.heap_setCell _ _ _ _ (fun e' => owns_ne HL3.out HB3.out (by decide) (by rw [e, e'])))
  have HK4 : Hid (Kept (fun i => i = t ∨ some i = G.ownBlock) w (w3.setCell ⟨t, 0, none⟩ (.slice (some ⟨gl, 0, none⟩) (xs.length + 1) cl))) := ((Kept.refl _ _).trans HK3.out (fun i e => Or.inl (Or.inr e))).trans (kept_but ((But.refl t w3).setCell (p := ⟨t, 0, none⟩) (Or.inl rfl) _)) (fun i e => Or.inl (Or.inl e))
  generalize w3.setCell ⟨t, 0, none⟩ (.slice (some ⟨gl, 0, none⟩) (xs.length + 1) cl) = w4 at *
  clear HK3 HB3 HL3 c30 c31 cf3 c0 c1 cf
  have HW4 : Hid (ownsQ false w4 0 54 1 W xs.length (xs.map fun x => x.wal)) := owns_kept' HL.out.ws (fun g e => HK4.out.block g (owns_lt HL.out.ws g e) (by
    rintro (e' | e')
    · subst e'; exact owns_ne HL.out.ws HL.out.blk (by decide) e
    · exact HL.out.far g e'.symm e))
  have HY4 : Hid (Bytes w4 sp ys) := (HY.out.kept (fun k hk hlt => HK4.out.block k hlt (by
    rintro (e' | e')
    · exact hk (by rw [e']; exact HL.out.ct)
    · exact hk (HL.out.cg k e'.symm))) HK4.out.size).bytes
  have hv := conv_str (HY4.out.below (Below.refl _ _).drew) HYl.out sc
  obtain ⟨w5, wc, hcv, hb5, hs5, hl5⟩ := conv_bytes w4.drew ys HY.out.small
  rw [HYl.out] at hcv
  have HLi5 := hide hl5
  have HB5 : Hid (Below w4.heap.size w4 w5) := (Below.refl _ w4).drew.trans hb5
  have HS5 : Hid (w5.heap.size = w4.heap.size + 1) := hs5
  obtain ⟨c40, c41, cf4⟩ := blk2 HB4.out
  have ht4 : t < w4.heap.size := lt_of_block HB4.out
  have HT5 : Hid (w5.heap[t]? = some (.cells #[.slice (some ⟨gl, 0, none⟩) (xs.length + 1) cl, W] 53 (0, 0))) := (HB5.out.block t ht4).trans HB4.out
  obtain ⟨c50, c51, cf5⟩ := blk2 HT5.out
  have HW5 : Hid (ownsQ false w5 0 54 1 W xs.length (xs.map fun x => x.wal)) := owns_kept' HW4.out (fun g e => HB5.out.block g (owns_lt HW4.out g e))
  have HT6 : Hid ((w5.alloc (.cells #[.slice (some ⟨w4.heap.size, 0, none⟩) l wc] 54)).heap[t]? = some (.cells #[.slice (some ⟨gl, 0, none⟩) (xs.length + 1) cl, W] 53 (0, 0))) := (Below.heap_alloc _ _ _ (by have := HS5.out; omega)).trans HT5.out
  obtain ⟨c60, c61, cf6⟩ := blk2 HT6.out
  clear hb5 hs5 hl5
  generalize str ys = S at *
  go_region_law (first | (refine step_append_lies _ (by rfl) (.tmp 20) (.tmp 24) 30 (by rfl) 0 54 i1 (.slice none 0 0) 1 24 Tryz.underlying30 hi1 hz10 hz11 hz12 rfl (by omega) W xs.length _ (by rfl) (HW5.out.row.alloc _) ⟨w5.heap.size, 0, none⟩ 1 1 [.slice (some ⟨w4.heap.size, 0, none⟩) l wc] (by rfl) rfl (World.news_of_block (heap_alloc_new w5 (.cells #[.slice (some ⟨w4.heap.size, 0, none⟩) l wc] 54))) (by simp [Value.oneCell']) (by omega) (by unfold maxLen; omega) (by omega) (Nat.zero_le _) _ rfl ?_; intro gw cw w7 hown7 hgrow7 hat7 hlt7; have HT7 := hide ((hgrow7.block t (lt_of_block HT6.out) (fun e => owns_ne HW5.out HT5.out (by decide) e.symm)).trans HT6.out); obtain ⟨c70, c71, cf7⟩ := blk2 HT7.out; have HO7 := hide (ownsQ_of (z := false) hown7); have HG7 := hide hgrow7; have HA7 := hide hat7; clear hown7 hgrow7 hat7 hlt7))
  all_goals go_wp2
  all_goals go_end0
  all_goals
    have hz4 := HK4.out.size
    have hz5 := HS5.out
    have hGat : gl < w4.heap.size := owns_lt HL4.out gl rfl
    have hGW : ∀ g, W.ownBlock = some g → g ≠ gl := fun g e e' => by
      rcases HA3.out with h | h
      · exact HL.out.far gl h (by rw [← e', e])
      · have := owns_lt HL.out.ws g e
        simp at h; omega
    have hk57 : Kept (fun i => some i = W.ownBlock) w4 w7 := ((kept_below (S := fun i => some i = W.ownBlock) HB5.out).trans (kept_below (S := fun _ => False) ((Below.refl w5.heap.size w5).alloc (Nat.le_refl _) (.cells #[.slice (some ⟨w4.heap.size, 0, none⟩) l wc] 54))) (fun _ e => e.elim)).trans (kept_grown HG7.out) (fun i e => Or.inl e)
    have hk8 : Kept (fun i => i = t ∨ some i = W.ownBlock) w4 (w7.setCell ⟨t, 1, none⟩ (.slice (some ⟨gw, 0, none⟩) (xs.length + 1) cw)) := ((Kept.refl _ _).trans hk57 (fun i e => Or.inl (Or.inr e))).trans (kept_but ((But.refl t w7).setCell (p := ⟨t, 1, none⟩) (Or.inl rfl) _)) (fun i e => Or.inl (Or.inl e))
    have hl8 : Lies (w7.setCell ⟨t, 1, none⟩ (.slice (some ⟨gw, 0, none⟩) (xs.length + 1) cw)) w4.heap.size ys := by
      refine HLi5.out.kept ((Below.heap_setCell _ _ _ _ (by show w4.heap.size ≠ t; omega)).trans ((HG7.out.block w4.heap.size (by simp; omega) (fun e => by have := owns_lt HW4.out w4.heap.size e.symm; omega)).trans (Below.heap_alloc _ _ _ (by show w4.heap.size < w5.heap.size; omega))))
    obtain ⟨r1, r2⟩ := HL.out.more (x := ⟨p, l, c, ys, some ⟨w4.heap.size, 0, none⟩, wc⟩) (G' := .slice (some ⟨gl, 0, none⟩) (xs.length + 1) cl) (W' := .slice (some ⟨gw, 0, none⟩) (xs.length + 1) cw) (((Kept.refl _ _).trans HK4.out (fun i e => Or.inl (by rcases e with e | e; exact Or.inl e; exact Or.inr (Or.inl e)))).trans hk8 (fun i e => Or.inl (by rcases e with e | e; exact Or.inl e; exact Or.inr (Or.inr e)))) (by rw [block_set HT7.out]; rfl)
      (owns_kept' HL4.out (fun g e => hk8.block g (owns_lt HL4.out g e) (by
        rintro (e' | e')
        · subst e'; exact owns_ne HL4.out HB4.out (by decide) e
        · cases e; exact hGW _ e'.symm rfl)))
      (owns_kept' HO7.out (fun g e => Below.heap_setCell _ _ _ _ (fun e' => owns_ne HO7.out HT7.out (by decide) (by rw [e, e']))))
      (fun g e e2 => by
        cases e; cases e2
        rcases HA7.out with h | h
        · exact hGW _ h rfl
        · simp at h; omega)
      (by rcases HA3.out with h | h
          · exact Or.inl h.symm
          · exact Or.inr ⟨gl, rfl, by simp at h; omega⟩)
      (by rcases HA7.out with h | h
          · exact Or.inl h.symm
          · exact Or.inr ⟨gw, rfl, by simp at h; omega⟩)
      HRow.out HY.out.small hl ⟨w4.heap.size, rfl, hz4, hl8⟩ HCx.out
    exact ⟨rfl, _, _, _, _, r1, r2⟩


end Go.Proofs.YtlijclghojfdpaaGreatDoor.Q
namespace Go.Proofs.YtlijclghojfdpaaGreatDoor.Q
open Go.RowKit Go.Proofs.YtlijclghojfdpaaGreatDoor.U

set_option maxRecDepth 100000 in
set_option maxHeartbeats 2000000 in
theorem late_same (K : Knd) (w : World) (t : Nat) (G W : Value) (xs : List Gt) (h : Lt K w t G W xs) (hxs : xs.length ≤ 20000) :
    Calls Tryz.prog 34 #[.pointer (some ⟨t, 0, none⟩)] w fun e w' => e = .returned (.bool true) ∧ ∃ q, w' = w.drewN q := by
  have HL := hide h
  obtain ⟨q0, q1, qf⟩ := blk2 h.blk
  obtain ⟨lp, lc, hG⟩ : ∃ p c, G = .slice p xs.length c := by
    rcases h.gs.2 with ⟨h1, h2⟩ | ⟨g, cap, cur, h1, _⟩
    · exact ⟨none, 0, by rw [h1, h2]⟩
    · exact ⟨_, cap, h1⟩
  obtain ⟨mp, mc, hM⟩ : ∃ p c, W = .slice p xs.length c := by
    rcases h.ws.2 with ⟨h1, h2⟩ | ⟨g, cap, cur, h1, _⟩
    · exact ⟨none, 0, by rw [h1, h2]⟩
    · exact ⟨_, cap, h1⟩
  subst hG
  subst hM
  clear h
  go_enter Tryz.func34, Tryz.ntmps34
  go_wp2
  go_loopw [3] (fun i wr => ∃ (j q : Nat), j ≤ xs.length ∧ i = .int .i64 j ∧ Hid (wr = w.drewN q)) (fun i _ => xs.length - (intOf i).toNat)
  case atStart => exact ⟨0, 0, Nat.zero_le _, rfl, rfl⟩
  case round =>
    obtain ⟨j, q, hj, rfl, HW⟩ := hrel
    have e0 : wr.cell? ⟨t, 0, none⟩ = some (.slice lp xs.length lc) := by rw [HW.out]; exact q0
    have e1 : wr.cell? ⟨t, 1, none⟩ = some (.slice mp xs.length mc) := by rw [HW.out]; exact q1
    by_cases hlt : j < xs.length
    · have hop : xs[j]? = some (xs[j]'hlt) := List.getElem?_eq_getElem _
      obtain ⟨gl, _, hgl, cl0⟩ := row_cell HL.out.gs (k := j) (a := (xs[j]'hlt).val) (by simp [hop])
      obtain ⟨gm, _, hgm, cm0⟩ := row_cell HL.out.ws (k := j) (a := (xs[j]'hlt).wal) (by simp [hop])
      cases hgl
      cases hgm
      have hmem := List.mem_of_getElem? hop
      have hx := HL.out.rows _ hmem
      have hsm := HL.out.small _ hmem
      obtain ⟨g, hwp, _, hli⟩ := HL.out.wants _ hmem
      generalize xs[j]'hlt = x at *
      obtain ⟨p, l, c, ys, wp, wc⟩ := x
      simp only [Gt.val, Gt.wal] at cl0 cm0 hx hsm hli hwp
      clear hop hmem
      subst hwp
      have hyl : ys.length = l := by have := hx.1; rw [vals_len] at this; omega
      have hv1 : ∀ n, (convert 54 9 (.slice p l c)).run Tryz.prog (wr.drewN n) = .ok (.string (str ys)) (wr.drewN n) := fun n => conv_str (by rw [HW.out]; exact owns_bytes (w := (w.drewN q).drewN n) hx rfl hsm) hyl c
      have hv2 : ∀ n, (convert 54 9 (.slice (some ⟨g, 0, none⟩) l wc)).run Tryz.prog (wr.drewN n) = .ok (.string (str ys)) (wr.drewN n) := fun n => conv_str (by rw [HW.out]; exact Lies.bytes (w := (w.drewN q).drewN n) hli hsm) hyl wc
      have cl : wr.cell? ⟨gl, j, none⟩ = some (.slice p l c) := by rw [HW.out]; exact cl0
      have cm : wr.cell? ⟨gm, j, none⟩ = some (.slice (some ⟨g, 0, none⟩) l wc) := by rw [HW.out]; exact cm0
      clear hx hsm hli hyl
      generalize str ys = S at *
      have l1 : (j : Int) < (xs.length : Int) := by omega
      have l2 : (0 : Int) ≤ (j : Int) := by omega
      go_wp2
      go_quiet (fail)
      go_wp2
      go_roundw
      case rel => exact ⟨j + 1, q + nq, by omega, by go_num, by show _ = _; rw [HW.out, World.drewN_drewN]⟩
      case measure => simp [intOf]; omega
    · have l1 : ¬ (j : Int) < (xs.length : Int) := by omega
      go_wp2
      go_ret
      exact ⟨rfl, q, HW.out⟩


end Go.Proofs.YtlijclghojfdpaaGreatDoor.Q
namespace Go.Proofs.YtlijclghojfdpaaGreatDoor.Q
open Go.RowKit Go.Proofs.YtlijclghojfdpaaGreatDoor.U

/-- A Book among kinds: its block (5, 1), its lists (5, 2), what it keeps of P's kinds. -/
structure Bt (P : Nat × Nat → Prop) (K : Knd) (w : World) (b : Nat) (L M : Value) (A turn done used : Nat) (ks : List Kl) : Prop where
  bk : Bk w 0 b L M A turn done used ks
  cb : K b = (5, 1)
  cl : ∀ g, L.ownBlock = some g → K g = (5, 2)
  cm : ∀ g, M.ownBlock = some g → K g = (5, 2)
  ck : ∀ k ∈ ks, ∀ g, k.val.ownBlock = some g → P (K g)
theorem Bt.keep {P p : Nat × Nat → Prop} {K K' : Knd} {w w' : World} {b : Nat} {L M : Value} {A turn done used : Nat} {ks : List Kl} (h : Bt P K w b L M A turn done used ks) (m : Kp p K K' w w') (h1 : ¬ p (5, 1)) (h2 : ¬ p (5, 2)) (h3 : ∀ q, P q → ¬ p q) : Bt P K' w' b L M A turn done used ks :=
  ⟨h.bk.keep (Kp.kept m) (by rw [h.cb]; exact h1) (fun g e => by rw [h.cl g e]; exact h2) (fun g e => by rw [h.cm g e]; exact h2) (fun x hx g e => h3 _ (h.ck x hx g e)), kpk m (lt_of_block h.bk.blk) h.cb, fun g e => kpk m (owns_lt h.bk.ls g e) (h.cl g e), fun g e => kpk m (owns_lt h.bk.ms g e) (h.cm g e), fun x hx g e => by rw [m.same g (owns_lt (h.bk.rows x hx) g e)]; exact h.ck x hx g e⟩
theorem Bt.imp {P P' : Nat × Nat → Prop} {K : Knd} {w : World} {b : Nat} {L M : Value} {A turn done used : Nat} {ks : List Kl} (h : Bt P K w b L M A turn done used ks) (hi : ∀ q, P q → P' q) : Bt P' K w b L M A turn done used ks := ⟨h.bk, h.cb, h.cl, h.cm, fun k hk g e => hi _ (h.ck k hk g e)⟩
theorem bt_empty {P : Nat × Nat → Prop} {K : Knd} {w : World} {b : Nat} (h : w.heap[b]? = some (.cells bk0 50 (0, 0))) (hb : K b = (5, 1)) : Bt P K w b (.slice none 0 0) (.slice none 0 0) 0 0 0 0 [] := by
  refine ⟨⟨h, ⟨rfl, Or.inl ⟨rfl, rfl⟩⟩, ⟨rfl, Or.inl ⟨rfl, rfl⟩⟩, by simp, by simp, by simp, by simp⟩, hb, fun g e => ?_, fun g e => ?_, by simp⟩
  · simp [Value.ownBlock] at e
  · simp [Value.ownBlock] at e

/-- A Book's numbers; n: how many lists have come. -/
structure Jn (A turn done used : Nat) (ks : List Kl) (n : Nat) : Prop where
  a : A ≤ ks.length
  len : ks.length + 96 * (ks.length - A) ≤ 97 * n
  tn : turn ≤ n
  le : done ≤ turn
  eq : done = turn → A = ks.length
  low : ∀ j x, A ≤ j → ks[j]? = some x → x.l ≤ 99999999000
  us : used ≤ 16777216
theorem jn_empty : Jn 0 0 0 0 [] 0 := ⟨Nat.le_refl _, by simp, Nat.le_refl _, Nat.le_refl _, fun _ => rfl, by simp, by omega⟩

/-- What a Book may turn. -/
def PB (P : Nat × Nat → Prop) (q : Nat × Nat) : Prop := q = (5, 1) ∨ q = (5, 2) ∨ P q

theorem bt_bytes (P : Nat × Nat → Prop) (K : Knd) (w : World) (b : Nat) (L M : Value) (A turn done used : Nat) (ks : List Kl) (n : Nat) (p : Option Addr) (len c : Nat) (ys : List Nat) (h : Bt P K w b L M A turn done used ks) (j : Jn A turn done used ks n) (hn : n ≤ 20000) (hrow : ownsQ true w 0 5 1 (.slice p len c) len (vals ys)) (hfar : ∀ k ∈ ks, Far (.slice p len c) k.val) (hk : ∀ g, (Value.slice p len c).ownBlock = some g → P (K g)) (hlen : len ≤ 140737488355328) :
    Calls Tryz.prog 35 #[.pointer (some ⟨b, 0, none⟩), .slice p len c] w fun e w' => e = .returned (.tuple #[]) ∧ ∃ L' M' turn' used' ks', Bt P (ext K w.heap.size (5, 2)) w' b L' M' A turn' done used' ks' ∧ Jn A turn' done used' ks' (n + 1) ∧ Kp (PB P) K (ext K w.heap.size (5, 2)) w w' := by
  have hlk := j.len
  have hto := j.tn
  refine (bk_bytes w 0 b L M A turn done used ks p len c ys h.bk hrow hfar (Nat.zero_le _) (by omega) hlen j.us (by omega)).mono ?_
  rintro e w' ⟨rfl, L', M', used', ks', hb, hu, hks, hkept, hL, hM⟩
  have hfix : ∀ {X Y : Value}, (∀ g, Y.ownBlock = some g → K g = (5, 2)) → (∀ g, Y.ownBlock = some g → g < w.heap.size) → (X.ownBlock = Y.ownBlock ∨ ∃ g, X.ownBlock = some g ∧ w.heap.size ≤ g) → ∀ g, X.ownBlock = some g → ext K w.heap.size (5, 2) g = (5, 2) := fun h1 h2 h3 g e => by
    rcases h3 with e' | ⟨g', e', hg'⟩
    · rw [ext_old _ _ (h2 g (by rw [← e', e]))]; exact h1 g (by rw [← e', e])
    · rw [e'] at e; cases e; exact ext_new _ _ hg'
  refine ⟨rfl, L', M', turn + 1, used', ks', ⟨hb, (ext_old _ _ (lt_of_block h.bk.blk)).trans h.cb, hfix h.cl (owns_lt h.bk.ls) hL, hfix h.cm (owns_lt h.bk.ms) hM, fun x hx g e => ?_⟩, ⟨?_, ?_, by omega, by have := j.le; omega, fun e => by have := j.le; omega, fun i x hi hx => ?_, hu⟩, kp_kept hkept _ _ _ (fun i hi e => ?_)⟩
  · rcases hks with rfl | ⟨rfl, hsmall⟩
    · rw [ext_old _ _ (owns_lt (h.bk.rows x hx) g e)]; exact h.ck x hx g e
    · rcases List.mem_append.1 hx with h' | h'
      · rw [ext_old _ _ (owns_lt (h.bk.rows x h') g e)]; exact h.ck x h' g e
      · simp at h'; subst h'
        rw [ext_old _ _ (owns_lt hrow g e)]; exact hk g e
  · have := j.a
    rcases hks with rfl | ⟨rfl, hsmall⟩
    · exact this
    · simp; omega
  · have := j.a
    rcases hks with rfl | ⟨rfl, hsmall⟩
    · omega
    · simp; omega
  · rcases hks with rfl | ⟨rfl, hsmall⟩
    · exact j.low i x hi hx
    · by_cases hil : i < ks.length
      · rw [List.getElem?_append_left hil] at hx
        exact j.low i x hi hx
      · rw [List.getElem?_append_right (by omega)] at hx
        have := List.mem_of_getElem? hx
        simp at this; subst this
        simp only; omega
  · rcases e with e | e | e | e
    · rw [e]; exact Or.inl h.cb
    · exact Or.inr (Or.inl (h.cl i e.symm))
    · exact Or.inr (Or.inl (h.cm i e.symm))
    · exact Or.inr (Or.inr (hk i e.symm))

theorem bt_look (P : Nat × Nat → Prop) (hP : P (5, 2)) (K : Knd) (w : World) (b : Nat) (L M : Value) (A turn done used : Nat) (ks : List Kl) (n : Nat) (h : Bt P K w b L M A turn done used ks) (j : Jn A turn done used ks n) (hn : n ≤ 24000) :
    Calls Tryz.prog 19 #[.pointer (some ⟨b, 0, none⟩)] w fun e w' => e = .returned (.bool true) ∧ ∃ L' M' A' done' ks', Bt P (ext K w.heap.size (5, 2)) w' b L' M' A' turn done' used ks' ∧ Jn A' turn done' used ks' n ∧ Kp (PB P) K (ext K w.heap.size (5, 2)) w w' := by
  have hlk := j.len
  refine (bk_look w 0 b L M A turn done used ks h.bk (Nat.zero_le _) j.a (by omega) j.low).mono ?_
  rintro e w' ⟨rfl, L', M', ks', A', done', hg, hc, hcase⟩
  have hfix : ∀ {X Y : Value}, (∀ g, Y.ownBlock = some g → K g = (5, 2)) → (∀ g, Y.ownBlock = some g → g < w.heap.size) → (X.ownBlock = Y.ownBlock ∨ ∃ g, X.ownBlock = some g ∧ w.heap.size ≤ g) → ∀ g, X.ownBlock = some g → ext K w.heap.size (5, 2) g = (5, 2) := fun h1 h2 h3 g e => by
    rcases h3 with e' | ⟨g', e', hg'⟩
    · rw [ext_old _ _ (h2 g (by rw [← e', e]))]; exact h1 g (by rw [← e', e])
    · rw [e'] at e; cases e; exact ext_new _ _ hg'
  refine ⟨rfl, L', M', A', done', ks', ⟨hg.bk, (ext_old _ _ (lt_of_block h.bk.blk)).trans h.cb, hfix h.cl (owns_lt h.bk.ls) hg.lo, hfix h.cm (owns_lt h.bk.ms) hg.mo, fun x hx g e => ?_⟩, ?_, kp_kept hg.kept _ _ _ (fun i hi e => ?_)⟩
  · rcases hg.own x hx g e with ⟨k, hk, e'⟩ | e'
    · rw [ext_old _ _ (owns_lt (h.bk.rows k hk) g e')]; exact h.ck k hk g e'
    · rw [ext_new _ _ e']; exact hP
  · rcases hcase with ⟨rfl, rfl⟩ | ⟨rfl, rfl, hd, rfl⟩
    · exact ⟨Nat.le_refl _, by omega, j.tn, Nat.le_refl _, fun _ => rfl, fun i x hi hx => by have := (List.getElem?_eq_some_iff.1 hx).1; omega, j.us⟩
    · exact j
  · rcases e with e | e | e | ⟨k, hk, e⟩
    · rw [e]; exact Or.inl h.cb
    · exact Or.inr (Or.inl (h.cl i e.symm))
    · exact Or.inr (Or.inl (h.cm i e.symm))
    · exact Or.inr (Or.inr (h.ck k hk i e.symm))

end Go.Proofs.YtlijclghojfdpaaGreatDoor.Q
namespace Go.Proofs.YtlijclghojfdpaaGreatDoor.Q
open Go.RowKit Go.Proofs.YtlijclghojfdpaaGreatDoor.U

/-- The late answers from place j on; those before have gone into the Book. -/
structure Lr (K : Knd) (w : World) (t : Nat) (G W : Value) (xs : List Gt) (j : Nat) : Prop where
  blk : w.heap[t]? = some (.cells #[G, W] 53 (0, 0))
  gs : ownsQ false w 0 54 1 G xs.length (xs.map fun x => x.val)
  rows : ∀ i x, j ≤ i → xs[i]? = some x → ownsQ true w 0 5 1 x.val x.l (vals x.ys)
  num : ∀ x ∈ xs, x.l ≤ 140737488355328
  ct : K t = (6, 0)
  cg : ∀ g, G.ownBlock = some g → K g = (6, 0)
  cx : ∀ i x, j ≤ i → xs[i]? = some x → ∀ g, x.val.ownBlock = some g → K g = (7, i)
theorem Lt.rest {K : Knd} {w : World} {t : Nat} {G W : Value} {xs : List Gt} (h : Lt K w t G W xs) : Lr K w t G W xs 0 :=
  ⟨h.blk, h.gs, fun _ x _ hx => h.rows x (List.mem_of_getElem? hx), h.num, h.ct, h.cg, fun i x _ hx => h.cx i x hx⟩
theorem Lr.keep {p : Nat × Nat → Prop} {K K' : Knd} {w w' : World} {t j j' : Nat} {G W : Value} {xs : List Gt} (h : Lr K w t G W xs j) (m : Kp p K K' w w') (hj : j ≤ j') (h6 : ¬ p (6, 0)) (hx : ∀ i, j' ≤ i → ¬ p (7, i)) : Lr K' w' t G W xs j' :=
  ⟨(kpb m (lt_of_block h.blk) h.ct h6).trans h.blk, owns_kept' h.gs (fun g e => kpb m (owns_lt h.gs g e) (h.cg g e) h6),
   fun i x hi hxi => owns_kept' (h.rows i x (by omega) hxi) (fun g e => kpb m (owns_lt (h.rows i x (by omega) hxi) g e) (h.cx i x (by omega) hxi g e) (hx i hi)), h.num, kpk m (lt_of_block h.blk) h.ct, fun g e => kpk m (owns_lt h.gs g e) (h.cg g e),
   fun i x hi hxi g e => kpk m (owns_lt (h.rows i x (by omega) hxi) g e) (h.cx i x (by omega) hxi g e)⟩
/-- What a Book keeps while k late answers have gone into it. -/
def PL (k : Nat) (q : Nat × Nat) : Prop := q = (5, 2) ∨ (q.1 = 7 ∧ q.2 < k)
def PS (q : Nat × Nat) : Prop := q.1 = 5 ∨ q.1 = 6 ∨ q.1 = 7
theorem ps_pb {k : Nat} : ∀ q, PB (PL k) q → PS q := by
  rintro q (e | e | e | e)
  · subst e; exact Or.inl rfl
  · subst e; exact Or.inl rfl
  · subst e; exact Or.inl rfl
  · exact Or.inr (Or.inr e.1)

set_option maxRecDepth 100000 in
set_option maxHeartbeats 2000000 in
theorem late_settle (K : Knd) (w : World) (t : Nat) (G W : Value) (xs : List Gt) (b : Nat) (L M : Value) (A turn done used : Nat) (ks : List Kl) (n : Nat) (h : Lt K w t G W xs) (hb : Bt (fun q => q = (5, 2)) K w b L M A turn done used ks) (j : Jn A turn done used ks n) (hn : n + xs.length ≤ 20000) :
    Calls Tryz.prog 15 #[.pointer (some ⟨t, 0, none⟩), .pointer (some ⟨b, 0, none⟩), .int .i64 0] w fun e w' => e = .returned (.bool true) ∧ ∃ K' L' M' A' turn' done' used' ks', Bt (PL xs.length) K' w' b L' M' A' turn' done' used' ks' ∧ Jn A' turn' done' used' ks' (n + xs.length) ∧ Kp PS K K' w w' := by
  have HL := hide h
  have HB := hide (hb.imp (P' := PL 0) (fun q e => Or.inl e))
  have HJ := hide j
  obtain ⟨q0, q1, qf⟩ := blk2 h.blk
  obtain ⟨lp, lc, hG⟩ := owns_form h.gs
  subst hG
  clear h hb j
  have l0 : ¬ (xs.length : Int) < 0 := by omega
  go_enter Tryz.func15, Tryz.ntmps15
  go_wp2_with fail
  refine (late_same K w t _ W xs HL.out (by omega)).mono ?_
  rintro e w1 ⟨rfl, q, rfl⟩
  have HM1 : Hid (Kp PS K K w (w.drewN q)) := ⟨rfl, rfl, rfl, Nat.le_refl _, fun _ _ => rfl, fun _ _ _ => rfl⟩
  have HR1 := hide (HL.out.rest.keep (p := fun _ => False) (K' := K) (w' := w.drewN q) ⟨rfl, rfl, rfl, Nat.le_refl _, fun _ _ => rfl, fun _ _ _ => rfl⟩ (Nat.le_refl 0) (fun e => e) (fun _ _ e => e))
  have HB1 := hide (HB.out.keep (p := fun _ => False) (K' := K) (w' := w.drewN q) ⟨rfl, rfl, rfl, Nat.le_refl _, fun _ _ => rfl, fun _ _ _ => rfl⟩ (fun e => e) (fun e => e) (fun _ _ e => e))
  generalize w.drewN q = w1 at *
  go_wp2
  go_loopw [7] (fun i wr => ∃ (k : Nat) (K1 : Knd) (L1 M1 : Value) (turn1 used1 : Nat) (ks1 : List Kl), k ≤ xs.length ∧ i = .int .i64 k ∧ Hid (Lr K1 wr t (.slice lp xs.length lc) W xs k) ∧ Hid (Bt (PL k) K1 wr b L1 M1 A turn1 done used1 ks1) ∧ Hid (Jn A turn1 done used1 ks1 (n + k)) ∧ Hid (Kp PS K K1 w wr)) (fun i _ => xs.length - (intOf i).toNat)
  case atStart => exact ⟨0, K, L, M, turn, used, ks, Nat.zero_le _, rfl, HR1, HB1, HJ, HM1⟩
  case round =>
    clear HR1 HB1 HM1 HB HJ q0 q1 qf
    obtain ⟨k, K1, L1, M1, turn1, used1, ks1, hk, rfl, HR, HB, HJ, HM⟩ := hrel
    obtain ⟨q0, q1, qf⟩ := blk2 HR.out.blk
    by_cases hkl : k < xs.length
    · have hop : xs[k]? = some (xs[k]'hkl) := List.getElem?_eq_getElem _
      obtain ⟨gl, _, hgl, cl⟩ := row_cell HR.out.gs (k := k) (a := (xs[k]'hkl).val) (by simp [hop])
      cases hgl
      have hx := HR.out.rows k _ (Nat.le_refl k) hop
      have hnum := HR.out.num _ (List.mem_of_getElem? hop)
      have hcx := HR.out.cx k _ (Nat.le_refl k) hop
      generalize xs[k]'hkl = x at *
      obtain ⟨p, l, c, ys, wp, wc⟩ := x
      simp only [Gt.val] at cl hx hnum hcx
      clear hop
      have HC := hide (bt_bytes (PL (k + 1)) K1 wr b L1 M1 A turn1 done used1 ks1 (n + k) p l c ys (HB.out.imp (fun q e => e.imp id (fun e => ⟨e.1, by omega⟩))) HJ.out (by omega) hx (fun x hx' g e e' => by
        have h1 := hcx g e
        rcases HB.out.ck x hx' g e' with h2 | h2
        · rw [h1] at h2; simp at h2
        · rw [h1] at h2; have := h2.2; simp at this) (fun g e => by rw [hcx g e]; exact Or.inr ⟨rfl, by show k < k + 1; omega⟩) hnum)
      clear hx hcx
      have l1 : (k : Int) < (xs.length : Int) := by omega
      have l2 : (0 : Int) ≤ (k : Int) := by omega
      go_wp2_with fail
      refine HC.out.mono ?_
      rintro e w2 ⟨rfl, L2, M2, turn2, used2, ks2, hb2, hj2, hm2⟩
      have HB2 := hide hb2
      have HJ2 := hide hj2
      have HM2 := hide (HM.out.trans (hm2.mono ps_pb))
      have HR2 := hide (HR.out.keep hm2 (Nat.le_succ k) (by rintro (e | e | e | e) <;> simp at e) (fun i hi => by
        rintro (e | e | e | e)
        · simp at e
        · simp at e
        · simp at e
        · have := e.2; simp at this; omega))
      clear hb2 hj2 hm2 HC
      go_wp2
      go_roundw
      case rel => exact ⟨k + 1, _, L2, M2, turn2, used2, ks2, by omega, by go_num, HR2, HB2, HJ2, HM2⟩
      case measure => simp [intOf]; omega
    · have l1 : ¬ (k : Int) < (xs.length : Int) := by omega
      have q1' : (wr.setCell ⟨t, 0, none⟩ (.slice none 0 0)).heap[t]? = some (.cells #[.slice none 0 0, W] 53 (0, 0)) := by rw [block_set HR.out.blk]; rfl
      obtain ⟨s0, s1, sf⟩ := blk2 q1'
      have HE : Hid (Kp (fun q => q = (6, 0)) K1 K1 wr ((wr.setCell ⟨t, 0, none⟩ (.slice none 0 0)).setCell ⟨t, 1, none⟩ (.slice none 0 0))) := ((Kp.refl (fun q => q = (6, 0)) K1 wr).setCell (Or.inr HR.out.ct) _ _).setCell (Or.inr HR.out.ct) _ _
      have HB3 := hide (HB.out.keep HE.out (by simp) (by simp) (fun q e e' => by subst e'; rcases e with e | e; simp at e; have := e.1; simp at this))
      have HC := hide (bt_look (PL k) (Or.inl rfl) K1 _ b L1 M1 A turn1 done used1 ks1 (n + k) HB3.out HJ.out (by omega))
      clear q1'
      go_wp2_with fail
      refine HC.out.mono ?_
      rintro e w4 ⟨rfl, L4, M4, A4, done4, ks4, hb4, hj4, hm4⟩
      have HF := hide ((HM.out.trans (HE.out.mono (q := PS) (fun q e => by subst e; exact Or.inr (Or.inl rfl)))).trans (hm4.mono ps_pb))
      obtain rfl : k = xs.length := by omega
      have HB4 := hide hb4
      have HJ4 := hide hj4
      clear hb4 hj4 hm4
      go_wp2
      go_ret
      exact ⟨rfl, _, L4, M4, A4, _, done4, _, ks4, HB4.out, HJ4.out, HF.out⟩

end Go.Proofs.YtlijclghojfdpaaGreatDoor.Q
namespace Go.Proofs.YtlijclghojfdpaaGreatDoor.Q
open Go.RowKit Go.Proofs.YtlijclghojfdpaaGreatDoor.U

set_option maxRecDepth 100000 in
/-- Too few yet. -/
theorem late_few (K : Knd) (w : World) (t : Nat) (G W : Value) (xs : List Gt) (v : Value) (h : Lt K w t G W xs) (n0 : Nat) (hn0 : xs.length < n0) :
    Calls Tryz.prog 15 #[.pointer (some ⟨t, 0, none⟩), v, .int .i64 (n0 : Int)] w fun e w' => e = .returned (.bool true) ∧ w' = w := by
  obtain ⟨q0, q1, qf⟩ := blk2 h.blk
  obtain ⟨lp, lc, hG⟩ := owns_form h.gs
  subst hG
  clear h
  have l0 : (xs.length : Int) < (n0 : Int) := by omega
  go_enter Tryz.func15, Tryz.ntmps15
  go_wp2
  go_ret
  exact ⟨rfl, rfl⟩

set_option maxRecDepth 100000 in
set_option maxHeartbeats 2000000 in
theorem late_settle_n (K : Knd) (w : World) (t : Nat) (G W : Value) (xs : List Gt) (b : Nat) (L M : Value) (A turn done used : Nat) (ks : List Kl) (n : Nat) (h : Lt K w t G W xs) (hb : Bt (fun q => q = (5, 2)) K w b L M A turn done used ks) (j : Jn A turn done used ks n) (hn : n + xs.length ≤ 20000) (n0 : Nat) (hn0 : ¬ xs.length < n0) :
    Calls Tryz.prog 15 #[.pointer (some ⟨t, 0, none⟩), .pointer (some ⟨b, 0, none⟩), .int .i64 (n0 : Int)] w fun e w' => e = .returned (.bool true) ∧ ∃ K' L' M' A' turn' done' used' ks', Bt (PL xs.length) K' w' b L' M' A' turn' done' used' ks' ∧ Jn A' turn' done' used' ks' (n + xs.length) ∧ Kp PS K K' w w' ∧ w'.heap[t]? = some (.cells #[.slice none 0 0, .slice none 0 0] 53 (0, 0)) ∧ K' t = (6, 0) := by
  have HL := hide h
  have HB := hide (hb.imp (P' := PL 0) (fun q e => Or.inl e))
  have HJ := hide j
  obtain ⟨q0, q1, qf⟩ := blk2 h.blk
  obtain ⟨lp, lc, hG⟩ := owns_form h.gs
  subst hG
  clear h hb j
  have l0 : ¬ (xs.length : Int) < (n0 : Int) := by omega
  go_enter Tryz.func15, Tryz.ntmps15
  go_wp2_with fail
  refine (late_same K w t _ W xs HL.out (by omega)).mono ?_
  rintro e w1 ⟨rfl, q, rfl⟩
  have HM1 : Hid (Kp PS K K w (w.drewN q)) := ⟨rfl, rfl, rfl, Nat.le_refl _, fun _ _ => rfl, fun _ _ _ => rfl⟩
  have HR1 := hide (HL.out.rest.keep (p := fun _ => False) (K' := K) (w' := w.drewN q) ⟨rfl, rfl, rfl, Nat.le_refl _, fun _ _ => rfl, fun _ _ _ => rfl⟩ (Nat.le_refl 0) (fun e => e) (fun _ _ e => e))
  have HB1 := hide (HB.out.keep (p := fun _ => False) (K' := K) (w' := w.drewN q) ⟨rfl, rfl, rfl, Nat.le_refl _, fun _ _ => rfl, fun _ _ _ => rfl⟩ (fun e => e) (fun e => e) (fun _ _ e => e))
  generalize w.drewN q = w1 at *
  go_wp2
  go_loopw [7] (fun i wr => ∃ (k : Nat) (K1 : Knd) (L1 M1 : Value) (turn1 used1 : Nat) (ks1 : List Kl), k ≤ xs.length ∧ i = .int .i64 k ∧ Hid (Lr K1 wr t (.slice lp xs.length lc) W xs k) ∧ Hid (Bt (PL k) K1 wr b L1 M1 A turn1 done used1 ks1) ∧ Hid (Jn A turn1 done used1 ks1 (n + k)) ∧ Hid (Kp PS K K1 w wr)) (fun i _ => xs.length - (intOf i).toNat)
  case atStart => exact ⟨0, K, L, M, turn, used, ks, Nat.zero_le _, rfl, HR1, HB1, HJ, HM1⟩
  case round =>
    clear HR1 HB1 HM1 HB HJ q0 q1 qf
    obtain ⟨k, K1, L1, M1, turn1, used1, ks1, hk, rfl, HR, HB, HJ, HM⟩ := hrel
    obtain ⟨q0, q1, qf⟩ := blk2 HR.out.blk
    by_cases hkl : k < xs.length
    · have hop : xs[k]? = some (xs[k]'hkl) := List.getElem?_eq_getElem _
      obtain ⟨gl, _, hgl, cl⟩ := row_cell HR.out.gs (k := k) (a := (xs[k]'hkl).val) (by simp [hop])
      cases hgl
      have hx := HR.out.rows k _ (Nat.le_refl k) hop
      have hnum := HR.out.num _ (List.mem_of_getElem? hop)
      have hcx := HR.out.cx k _ (Nat.le_refl k) hop
      generalize xs[k]'hkl = x at *
      obtain ⟨p, l, c, ys, wp, wc⟩ := x
      simp only [Gt.val] at cl hx hnum hcx
      clear hop
      have HC := hide (bt_bytes (PL (k + 1)) K1 wr b L1 M1 A turn1 done used1 ks1 (n + k) p l c ys (HB.out.imp (fun q e => e.imp id (fun e => ⟨e.1, by omega⟩))) HJ.out (by omega) hx (fun x hx' g e e' => by
        have h1 := hcx g e
        rcases HB.out.ck x hx' g e' with h2 | h2
        · rw [h1] at h2; simp at h2
        · rw [h1] at h2; have := h2.2; simp at this) (fun g e => by rw [hcx g e]; exact Or.inr ⟨rfl, by show k < k + 1; omega⟩) hnum)
      clear hx hcx
      have l1 : (k : Int) < (xs.length : Int) := by omega
      have l2 : (0 : Int) ≤ (k : Int) := by omega
      go_wp2_with fail
      refine HC.out.mono ?_
      rintro e w2 ⟨rfl, L2, M2, turn2, used2, ks2, hb2, hj2, hm2⟩
      have HB2 := hide hb2
      have HJ2 := hide hj2
      have HM2 := hide (HM.out.trans (hm2.mono ps_pb))
      have HR2 := hide (HR.out.keep hm2 (Nat.le_succ k) (by rintro (e | e | e | e) <;> simp at e) (fun i hi => by
        rintro (e | e | e | e)
        · simp at e
        · simp at e
        · simp at e
        · have := e.2; simp at this; omega))
      clear hb2 hj2 hm2 HC
      go_wp2
      go_roundw
      case rel => exact ⟨k + 1, _, L2, M2, turn2, used2, ks2, by omega, by go_num, HR2, HB2, HJ2, HM2⟩
      case measure => simp [intOf]; omega
    · have l1 : ¬ (k : Int) < (xs.length : Int) := by omega
      have q1' : (wr.setCell ⟨t, 0, none⟩ (.slice none 0 0)).heap[t]? = some (.cells #[.slice none 0 0, W] 53 (0, 0)) := by rw [block_set HR.out.blk]; rfl
      obtain ⟨s0, s1, sf⟩ := blk2 q1'
      have HE : Hid (Kp (fun q => q = (6, 0)) K1 K1 wr ((wr.setCell ⟨t, 0, none⟩ (.slice none 0 0)).setCell ⟨t, 1, none⟩ (.slice none 0 0))) := ((Kp.refl (fun q => q = (6, 0)) K1 wr).setCell (Or.inr HR.out.ct) _ _).setCell (Or.inr HR.out.ct) _ _
      have HB3 := hide (HB.out.keep HE.out (by simp) (by simp) (fun q e e' => by subst e'; rcases e with e | e; simp at e; have := e.1; simp at this))
      have HC := hide (bt_look (PL k) (Or.inl rfl) K1 _ b L1 M1 A turn1 done used1 ks1 (n + k) HB3.out HJ.out (by omega))
      clear q1'
      go_wp2_with fail
      refine HC.out.mono ?_
      rintro e w4 ⟨rfl, L4, M4, A4, done4, ks4, hb4, hj4, hm4⟩
      have HF := hide ((HM.out.trans (HE.out.mono (q := PS) (fun q e => by subst e; exact Or.inr (Or.inl rfl)))).trans (hm4.mono ps_pb))
      obtain rfl : k = xs.length := by omega
      have HLt : Hid (w4.heap[t]? = some (.cells #[.slice none 0 0, .slice none 0 0] 53 (0, 0)) ∧ ext K1 ((wr.setCell ⟨t, 0, none⟩ (.slice none 0 0)).setCell ⟨t, 1, none⟩ (.slice none 0 0)).heap.size (5, 2) t = (6, 0)) := by
        have hb2 : ((wr.setCell ⟨t, 0, none⟩ (.slice none 0 0)).setCell ⟨t, 1, none⟩ (.slice none 0 0)).heap[t]? = some (.cells #[.slice none 0 0, .slice none 0 0] 53 (0, 0)) := by rw [block_set (block_set HR.out.blk _)]; rfl
        have hlt := lt_of_block hb2
        exact ⟨(hm4.block t hlt (by rw [HR.out.ct]; rintro (e | e | e | e) <;> simp at e)).trans hb2, (hm4.same t hlt).trans HR.out.ct⟩
      have HB4 := hide hb4
      have HJ4 := hide hj4
      clear hb4 hj4 hm4
      go_wp2
      go_ret
      exact ⟨rfl, _, L4, M4, A4, _, done4, _, ks4, HB4.out, HJ4.out, HF.out, HLt.out.1, HLt.out.2⟩

/-- Kinds anew behind a Settle: what the Book keeps is the Book's. -/
def rek (K : Knd) : Knd := fun b => if (K b).1 = 7 then (5, 2) else K b
theorem rek_of {K : Knd} {b : Nat} {k : Nat × Nat} (h : K b = k) (hk : k.1 ≠ 7) : rek K b = k := by unfold rek; rw [h, if_neg hk]
theorem Bt.rek {n : Nat} {K : Knd} {w : World} {b : Nat} {L M : Value} {A turn done used : Nat} {ks : List Kl} (h : Bt (PL n) K w b L M A turn done used ks) : Bt (fun q => q = (5, 2)) (rek K) w b L M A turn done used ks :=
  ⟨h.bk, rek_of h.cb (by decide), fun g e => rek_of (h.cl g e) (by decide), fun g e => rek_of (h.cm g e) (by decide), fun k hk g e => by
    rcases h.ck k hk g e with q | q
    · exact rek_of q (by decide)
    · show Q.rek K g = (5, 2); unfold Q.rek; rw [if_pos q.1]⟩
end Go.Proofs.YtlijclghojfdpaaGreatDoor.Q
