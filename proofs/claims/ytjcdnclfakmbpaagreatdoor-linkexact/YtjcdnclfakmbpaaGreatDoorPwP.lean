import Derived.Lib.ConvBytes
import Derived.Lib.AtoiErrMem
import Derived.Test.YtjcdnclfakmbpaaGreatDoorVR
namespace Go.Proofs.YtjcdnclfakmbpaaGreatDoor.Q
open Go.RowKit Go.Proofs.YtjcdnclfakmbpaaGreatDoor.U
structure BytesS (S : Nat → Prop) (w : World) (sp : Option Addr) (xs : List Nat) : Prop where
  small : ∀ x ∈ xs, x < 256
  lie : xs = [] ∨ ∃ g o, sp = some ⟨g, o, none⟩ ∧ S g ∧ g < w.heap.size ∧ ∀ j, j < xs.length → w.cell? ⟨g, o + j, none⟩ = some (.int .u8 (xs.getD j 0))
theorem BytesS.bytes {S : Nat → Prop} {w : World} {sp : Option Addr} {xs : List Nat} (h : BytesS S w sp xs) : Bytes w sp xs :=
  ⟨h.small, h.lie.elim Or.inl (fun ⟨g, o, e, _, hg, hc⟩ => Or.inr ⟨g, o, e, hg, hc⟩)⟩
theorem BytesS.kept {S : Nat → Prop} {w w' : World} {sp : Option Addr} {xs : List Nat} (h : BytesS S w sp xs) (hk : ∀ k, S k → k < w.heap.size → w'.heap[k]? = w.heap[k]?) (hs : w.heap.size ≤ w'.heap.size) : BytesS S w' sp xs :=
  ⟨h.small, h.lie.elim Or.inl (fun ⟨g, o, e, hS, hg, hc⟩ => Or.inr ⟨g, o, e, hS, Nat.lt_of_lt_of_le hg hs, fun j hj => by rw [World.cell?_of_block (w := w) (hk g hS hg)]; exact hc j hj⟩)⟩
theorem blk2 {w : World} {b : Nat} {x0 x1 : Value} {t : TypeId} (h : w.heap[b]? = some (.cells #[x0, x1] t (0, 0))) : w.cell? ⟨b, 0, none⟩ = some x0 ∧ w.cell? ⟨b, 1, none⟩ = some x1 ∧ (∀ o, w.frozen? ⟨b, o, none⟩ = false) :=
  ⟨by simp [World.cell?, h], by simp [World.cell?, h], fun o => by simp [World.frozen?, h]⟩
theorem Kp.kept {p : Nat × Nat → Prop} {K K' : Knd} {w w' : World} (m : Kp p K K' w w') : Kept (fun i => p (K i)) w w' := ⟨m.os, m.tape, m.output, m.size, fun k hk hn => m.block k hk hn⟩
theorem kpb {p : Nat × Nat → Prop} {K K' : Knd} {w w' : World} (m : Kp p K K' w w') {g : Nat} {c : Nat × Nat} (hg : g < w.heap.size) (h : K g = c) (hS : ¬ p c) : w'.heap[g]? = w.heap[g]? := m.block g hg (by rw [h]; exact hS)
theorem kpk {p : Nat × Nat → Prop} {K K' : Knd} {w w' : World} (m : Kp p K K' w w') {g : Nat} {c : Nat × Nat} (hg : g < w.heap.size) (h : K g = c) : K' g = c := (m.same g hg).trans h
structure Gt where
  p : Option Addr
  l : Nat
  c : Nat
  ys : List Nat
  wp : Option Addr
  wc : Nat
def Gt.val (x : Gt) : Value := .slice x.p x.l x.c
def Gt.wal (x : Gt) : Value := .slice x.wp x.l x.wc
def Lies (w : World) (g : Nat) (ys : List Nat) : Prop := ∃ C fz, w.heap[g]? = some (.cells C 5 fz) ∧ ∀ j, j < ys.length → C[j]? = some (.int .u8 (ys.getD j 0 : Nat))
theorem Lies.bytes {w : World} {g : Nat} {ys : List Nat} (h : Lies w g ys) (hs : ∀ x ∈ ys, x < 256) : Bytes w (some ⟨g, 0, none⟩) ys := by
  obtain ⟨C, fz, hC, hc⟩ := h
  exact lie_row hC hs hc
theorem Lies.lt {w : World} {g : Nat} {ys : List Nat} (h : Lies w g ys) : g < w.heap.size := by
  obtain ⟨C, fz, hC, hc⟩ := h
  exact lt_of_block hC
theorem Lies.kept {w w' : World} {g : Nat} {ys : List Nat} (h : Lies w g ys) (hk : w'.heap[g]? = w.heap[g]?) : Lies w' g ys := by
  obtain ⟨C, fz, hC, hc⟩ := h
  exact ⟨C, fz, hk.trans hC, hc⟩
structure Lt (K : Knd) (w : World) (t : Nat) (G W : Value) (xs : List Gt) : Prop where
  blk : w.heap[t]? = some (.cells #[G, W] 72 (0, 0))
  gs : ownsQ false w 0 31 1 G xs.length (xs.map fun x => x.val)
  ws : ownsQ false w 0 31 1 W xs.length (xs.map fun x => x.wal)
  far : Far G W
  rows : ∀ x ∈ xs, ownsQ true w 0 5 1 x.val x.l (vals x.ys)
  small : ∀ x ∈ xs, ∀ y ∈ x.ys, y < 256
  wants : ∀ x ∈ xs, ∃ g, x.wp = some ⟨g, 0, none⟩ ∧ K g = (6, 0) ∧ Lies w g x.ys
  num : ∀ x ∈ xs, x.l ≤ 140737488355328
  ct : K t = (6, 0)
  cg : ∀ g, G.ownBlock = some g → K g = (6, 0)
  cw : ∀ g, W.ownBlock = some g → K g = (6, 0)
  cx : ∀ j x, xs[j]? = some x → ∀ g, x.val.ownBlock = some g → K g = (7, j)
theorem Lt.keep {p : Nat × Nat → Prop} {K K' : Knd} {w w' : World} {t : Nat} {G W : Value} {xs : List Gt} (h : Lt K w t G W xs) (m : Kp p K K' w w') (h6 : ¬ p (6, 0)) (hx : ∀ j, j < xs.length → ¬ p (7, j)) : Lt K' w' t G W xs := by
  refine ⟨(kpb m (lt_of_block h.blk) h.ct h6).trans h.blk, owns_kept' h.gs (fun g e => kpb m (owns_lt h.gs g e) (h.cg g e) h6), owns_kept' h.ws (fun g e => kpb m (owns_lt h.ws g e) (h.cw g e) h6), h.far, fun x hm => ?_, h.small, fun x hm => ?_, h.num, kpk m (lt_of_block h.blk) h.ct, fun g e => kpk m (owns_lt h.gs g e) (h.cg g e), fun g e => kpk m (owns_lt h.ws g e) (h.cw g e), fun j x hj g e => ?_⟩
  · obtain ⟨j, hj⟩ := List.mem_iff_getElem?.1 hm
    exact owns_kept' (h.rows x hm) (fun g e => kpb m (owns_lt (h.rows x hm) g e) (h.cx j x hj g e) (hx j (List.getElem?_eq_some_iff.1 hj).1))
  · obtain ⟨g, e, hc, hl⟩ := h.wants x hm
    exact ⟨g, e, kpk m hl.lt hc, hl.kept (kpb m hl.lt hc h6)⟩
  · exact kpk m (owns_lt (h.rows x (List.mem_of_getElem? hj)) g e) (h.cx j x hj g e)
theorem Lt.more {K : Knd} {w w' : World} {t : Nat} {G W G' W' : Value} {xs : List Gt} {x : Gt} (h : Lt K w t G W xs) (k : Kept (fun i => i = t ∨ some i = G.ownBlock ∨ some i = W.ownBlock) w w') (hb : w'.heap[t]? = some (.cells #[G', W'] 72 (0, 0)))
    (hg : ownsQ false w' 0 31 1 G' (xs.length + 1) ((xs.map fun x => x.val) ++ [x.val])) (hw : ownsQ false w' 0 31 1 W' (xs.length + 1) ((xs.map fun x => x.wal) ++ [x.wal])) (hf : Far G' W')
    (hG : G'.ownBlock = G.ownBlock ∨ ∃ g, G'.ownBlock = some g ∧ w.heap.size ≤ g) (hW : W'.ownBlock = W.ownBlock ∨ ∃ g, W'.ownBlock = some g ∧ w.heap.size ≤ g)
    (hx : ownsQ true w 0 5 1 x.val x.l (vals x.ys)) (hs : ∀ y ∈ x.ys, y < 256) (hn : x.l ≤ 140737488355328) (hwant : ∃ g, x.wp = some ⟨g, 0, none⟩ ∧ w.heap.size ≤ g ∧ Lies w' g x.ys) (hcx : ∀ g, x.val.ownBlock = some g → K g = (7, xs.length)) :
    Lt (ext K w.heap.size (6, 0)) w' t G' W' (xs ++ [x]) ∧ Kp (fun q => q = (6, 0)) K (ext K w.heap.size (6, 0)) w w' := by
  have hm : Kp (fun q => q = (6, 0)) K (ext K w.heap.size (6, 0)) w w' := kp_kept k (fun q => q = (6, 0)) K (6, 0) (fun i hi e => by
    rcases e with e | e | e
    · rw [e]; exact h.ct
    · exact h.cg i e.symm
    · exact h.cw i e.symm)
  have hr : ∀ {n : Nat} {v : Value} {ys : List Value}, ownsQ true w 0 5 1 v n ys → ownsQ true w' 0 5 1 v n ys := fun hv => owns_kept' hv (fun g e => k.block g (owns_lt hv g e) (by
    rintro (e' | e' | e')
    · subst e'; exact owns_ne hv h.blk (by decide) e
    · exact rows_far h.gs hv (by decide) g e'.symm e
    · exact rows_far h.ws hv (by decide) g e'.symm e))
  have hl : ∀ {g : Nat} {ys : List Nat}, Lies w g ys → Lies w' g ys := fun {g ys} hv => hv.kept (k.block g hv.lt (by
    obtain ⟨C, fz, hC, _⟩ := hv
    rintro (e' | e' | e')
    · subst e'; rw [h.blk] at hC; simp at hC
    · exact owns_ne h.gs hC (by decide) e'.symm
    · exact owns_ne h.ws hC (by decide) e'.symm))
  have hfix : ∀ {X Y : Value}, (∀ g, Y.ownBlock = some g → K g = (6, 0)) → (∀ g, Y.ownBlock = some g → g < w.heap.size) → (X.ownBlock = Y.ownBlock ∨ ∃ g, X.ownBlock = some g ∧ w.heap.size ≤ g) → ∀ g, X.ownBlock = some g → ext K w.heap.size (6, 0) g = (6, 0) := fun h1 h2 h3 g e => by
    rcases h3 with e' | ⟨g', e', hg'⟩
    · rw [ext_old _ _ (h2 g (by rw [← e', e]))]; exact h1 g (by rw [← e', e])
    · rw [e'] at e; cases e; exact ext_new _ _ hg'
  refine ⟨⟨hb, by simpa using hg, by simpa using hw, hf, fun y hy => ?_, fun y hy => ?_, fun y hy => ?_, fun y hy => ?_, (ext_old _ _ (lt_of_block h.blk)).trans h.ct, hfix h.cg (owns_lt h.gs) hG, hfix h.cw (owns_lt h.ws) hW, fun j y hj g e => ?_⟩, hm⟩
  · rcases List.mem_append.1 hy with h' | h'
    · exact hr (h.rows y h')
    · simp at h'; subst h'; exact hr hx
  · rcases List.mem_append.1 hy with h' | h'
    · exact h.small y h'
    · simp at h'; subst h'; exact hs
  · rcases List.mem_append.1 hy with h' | h'
    · obtain ⟨g, e, hc, hv⟩ := h.wants y h'
      exact ⟨g, e, (ext_old _ _ hv.lt).trans hc, hl hv⟩
    · simp at h'; subst h'
      obtain ⟨g, e, hc, hv⟩ := hwant
      exact ⟨g, e, ext_new _ _ hc, hv⟩
  · rcases List.mem_append.1 hy with h' | h'
    · exact h.num y h'
    · simp at h'; subst h'; exact hn
  · by_cases hjl : j < xs.length
    · rw [List.getElem?_append_left hjl] at hj
      rw [ext_old _ _ (owns_lt (h.rows y (List.mem_of_getElem? hj)) g e)]
      exact h.cx j y hj g e
    · rw [List.getElem?_append_right (by omega)] at hj
      have hj0 : j = xs.length := by
        have := (List.getElem?_eq_some_iff.1 hj).1
        simp at this; omega
      subst hj0
      simp at hj
      subst hj
      rw [ext_old _ _ (owns_lt hx g e)]
      exact hcx g e
theorem conv_bytes (w : World) (ys : List Nat) (hs : ∀ y ∈ ys, y < 256) : ∃ W c, (convert 9 31 (.string (str ys))).run Tryz.prog w = .ok (.slice (some ⟨w.heap.size, 0, none⟩) ys.length c) W ∧ Below w.heap.size w W ∧ W.heap.size = w.heap.size + 1 ∧ Lies W w.heap.size ys := by
  have hsz : (str ys).size = ys.length := by rw [str, strOfNums_size]; simp
  refine ⟨Lib.bytesWorld w 5 (str ys), grownCap w (str ys).size 0 5, ?_, Lib.bytesWorld_below _ _ _, Lib.bytesWorld_size _ _ _, _, _, Lib.bytesWorld_at_new _ _ _, fun j hj => ?_⟩
  · rw [Lib.run_convert_string_bytes (P := Tryz.prog) w 9 31 5 (str ys) Tryz.underlying9 Tryz.underlying31 Tryz.underlying5, hsz]
  · have hlt : ys[j] < 256 := hs _ (List.getElem_mem hj)
    simp only [Lib.bytesCells, str, strOfNums]
    rw [Array.getElem?_append_left (by simpa using hj)]
    simp [List.getD, hj]
    omega
end Go.Proofs.YtjcdnclfakmbpaaGreatDoor.Q
namespace Go.Proofs.YtjcdnclfakmbpaaGreatDoor.Q
open Go.RowKit Go.Proofs.YtjcdnclfakmbpaaGreatDoor.U
set_option maxRecDepth 100000 in
set_option maxHeartbeats 2000000 in
theorem late_add (K : Knd) (w : World) (t : Nat) (G W : Value) (xs : List Gt) (p : Option Addr) (l c : Nat) (ys : List Nat) (sp : Option Addr) (sc : Nat) (h : Lt K w t G W xs) (hrow : ownsQ true w 0 5 1 (.slice p l c) l (vals ys)) (hcx : ∀ g, (Value.slice p l c).ownBlock = some g → K g = (7, xs.length)) (hy : BytesS (fun k => K k ≠ (6, 0)) w sp ys) (hl : l ≤ 140737488355328) (hxs : xs.length ≤ 20000) :
    Calls Tryz.prog 60 #[.pointer (some ⟨t, 0, none⟩), .slice p l c, .slice sp l sc] w fun e w' => e = .returned (.tuple #[]) ∧ ∃ G' W' wp wc, Lt (ext K w.heap.size (6, 0)) w' t G' W' (xs ++ [⟨p, l, c, ys, wp, wc⟩]) ∧ Kp (fun q => q = (6, 0)) K (ext K w.heap.size (6, 0)) w w' := by
  obtain ⟨i1, hi1, hz10, hz11, hz12⟩ := info_parts Tryz.infoBy
  have HL := hide h
  have HRow := hide hrow
  have HCx := hide hcx
  have HY := hide hy
  have HYl : Hid (ys.length = l) := by have := hrow.1; rw [vals_len] at this; show _ = _; omega
  obtain ⟨c0, c1, cf⟩ := blk2 h.blk
  clear h hrow hcx hy
  go_enter Tryz.func60, Tryz.ntmps60
  go_upto_region 1 with (at_builtin; refine wpList_append_lies _ rfl (.tmp 10) (.tmp 12) 44 rfl 0 31 i1 (.slice none 0 0) 1 24 Tryz.underlying44 hi1 hz10 hz11 hz12 rfl (by omega) G xs.length _ rfl (HL.out.gs.row.alloc _) ⟨w.heap.size, 0, none⟩ 1 1 [.slice p l c] rfl rfl (World.news_of_block (heap_alloc_new w (.cells #[.slice p l c] 31))) (by simp [Value.oneCell']) (by omega) (by unfold maxLen; omega) (by omega) (Nat.zero_le _) _ rfl ?_; intro gl cl w3 hown3 hgrow3 hat3 hlt3; have k3 : Kept (fun i => some i = G.ownBlock) w w3 := (kept_below (S := fun i => some i = G.ownBlock) ((Below.refl _ _).alloc (Nat.le_refl _) (.cells #[.slice p l c] 31))).trans (kept_grown hgrow3) (fun i e => Or.inl e); have HK3 := hide k3; have HB3 := hide ((k3.block t (lt_of_block HL.out.blk) (fun e => owns_ne HL.out.gs HL.out.blk (by decide) e.symm)).trans HL.out.blk); obtain ⟨c30, c31, cf3⟩ := blk2 HB3.out; have HL3 := hide (ownsQ_of (z := false) hown3); have HA3 := hide hat3; clear hown3 hgrow3 hat3 hlt3 k3)
  have HB4 : Hid ((w3.setCell ⟨t, 0, none⟩ (.slice (some ⟨gl, 0, none⟩) (xs.length + 1) cl)).heap[t]? = some (.cells #[.slice (some ⟨gl, 0, none⟩) (xs.length + 1) cl, W] 72 (0, 0))) := by show _ = _; rw [block_set HB3.out]; rfl
  have HL4 : Hid (ownsQ false (w3.setCell ⟨t, 0, none⟩ (.slice (some ⟨gl, 0, none⟩) (xs.length + 1) cl)) 0 31 1 (.slice (some ⟨gl, 0, none⟩) (xs.length + 1) cl) (xs.length + 1) ((xs.map fun x => x.val) ++ [.slice p l c])) := owns_kept' HL3.out (fun g e => Below.heap_setCell _ _ _ _ (fun e' => owns_ne HL3.out HB3.out (by decide) (by rw [e, e'])))
  have HK4 : Hid (Kept (fun i => i = t ∨ some i = G.ownBlock) w (w3.setCell ⟨t, 0, none⟩ (.slice (some ⟨gl, 0, none⟩) (xs.length + 1) cl))) := ((Kept.refl _ _).trans HK3.out (fun i e => Or.inl (Or.inr e))).trans (kept_but ((But.refl t w3).setCell (p := ⟨t, 0, none⟩) (Or.inl rfl) _)) (fun i e => Or.inl (Or.inl e))
  generalize w3.setCell ⟨t, 0, none⟩ (.slice (some ⟨gl, 0, none⟩) (xs.length + 1) cl) = w4 at *
  clear HK3 HB3 HL3 c30 c31 cf3 c0 c1 cf
  have HW4 : Hid (ownsQ false w4 0 31 1 W xs.length (xs.map fun x => x.wal)) := owns_kept' HL.out.ws (fun g e => HK4.out.block g (owns_lt HL.out.ws g e) (by
    rintro (e' | e')
    · subst e'; exact owns_ne HL.out.ws HL.out.blk (by decide) e
    · exact HL.out.far g e'.symm e))
  have HY4 : Hid (Bytes w4 sp ys) := (HY.out.kept (fun k hk hlt => HK4.out.block k hlt (by
    rintro (e' | e')
    · exact hk (by rw [e']; exact HL.out.ct)
    · exact hk (HL.out.cg k e'.symm))) HK4.out.size).bytes
  have hv := conv_str (HY4.out.below (Below.refl _ _).drew) HYl.out sc
  obtain ⟨w5, wc, hcv, hb5, hs5, hl5⟩ := conv_bytes w4.drew ys HY.out.small
  rw [HYl.out] at hcv
  have HLi5 := hide hl5
  have HB5 : Hid (Below w4.heap.size w4 w5) := (Below.refl _ w4).drew.trans hb5
  have HS5 : Hid (w5.heap.size = w4.heap.size + 1) := hs5
  obtain ⟨c40, c41, cf4⟩ := blk2 HB4.out
  have ht4 : t < w4.heap.size := lt_of_block HB4.out
  have HT5 : Hid (w5.heap[t]? = some (.cells #[.slice (some ⟨gl, 0, none⟩) (xs.length + 1) cl, W] 72 (0, 0))) := (HB5.out.block t ht4).trans HB4.out
  obtain ⟨c50, c51, cf5⟩ := blk2 HT5.out
  have HW5 : Hid (ownsQ false w5 0 31 1 W xs.length (xs.map fun x => x.wal)) := owns_kept' HW4.out (fun g e => HB5.out.block g (owns_lt HW4.out g e))
  have HT6 : Hid ((w5.alloc (.cells #[.slice (some ⟨w4.heap.size, 0, none⟩) l wc] 31)).heap[t]? = some (.cells #[.slice (some ⟨gl, 0, none⟩) (xs.length + 1) cl, W] 72 (0, 0))) := (Below.heap_alloc _ _ _ (by have := HS5.out; omega)).trans HT5.out
  obtain ⟨c60, c61, cf6⟩ := blk2 HT6.out
  clear hb5 hs5 hl5
  generalize str ys = S at *
  go_region_law (first | (refine step_append_lies _ (by rfl) (.tmp 20) (.tmp 24) 44 (by rfl) 0 31 i1 (.slice none 0 0) 1 24 Tryz.underlying44 hi1 hz10 hz11 hz12 rfl (by omega) W xs.length _ (by rfl) (HW5.out.row.alloc _) ⟨w5.heap.size, 0, none⟩ 1 1 [.slice (some ⟨w4.heap.size, 0, none⟩) l wc] (by rfl) rfl (World.news_of_block (heap_alloc_new w5 (.cells #[.slice (some ⟨w4.heap.size, 0, none⟩) l wc] 31))) (by simp [Value.oneCell']) (by omega) (by unfold maxLen; omega) (by omega) (Nat.zero_le _) _ rfl ?_; intro gw cw w7 hown7 hgrow7 hat7 hlt7; have HT7 := hide ((hgrow7.block t (lt_of_block HT6.out) (fun e => owns_ne HW5.out HT5.out (by decide) e.symm)).trans HT6.out); obtain ⟨c70, c71, cf7⟩ := blk2 HT7.out; have HO7 := hide (ownsQ_of (z := false) hown7); have HG7 := hide hgrow7; have HA7 := hide hat7; clear hown7 hgrow7 hat7 hlt7))
  all_goals go_wp2
  all_goals go_end0
  all_goals
    have hz4 := HK4.out.size
    have hz5 := HS5.out
    have hGat : gl < w4.heap.size := owns_lt HL4.out gl rfl
    have hGW : ∀ g, W.ownBlock = some g → g ≠ gl := fun g e e' => by
      rcases HA3.out with h | h
      · exact HL.out.far gl h (by rw [← e', e])
      · have := owns_lt HL.out.ws g e
        simp at h; omega
    have hk57 : Kept (fun i => some i = W.ownBlock) w4 w7 := ((kept_below (S := fun i => some i = W.ownBlock) HB5.out).trans (kept_below (S := fun _ => False) ((Below.refl w5.heap.size w5).alloc (Nat.le_refl _) (.cells #[.slice (some ⟨w4.heap.size, 0, none⟩) l wc] 31))) (fun _ e => e.elim)).trans (kept_grown HG7.out) (fun i e => Or.inl e)
    have hk8 : Kept (fun i => i = t ∨ some i = W.ownBlock) w4 (w7.setCell ⟨t, 1, none⟩ (.slice (some ⟨gw, 0, none⟩) (xs.length + 1) cw)) := ((Kept.refl _ _).trans hk57 (fun i e => Or.inl (Or.inr e))).trans (kept_but ((But.refl t w7).setCell (p := ⟨t, 1, none⟩) (Or.inl rfl) _)) (fun i e => Or.inl (Or.inl e))
    have hl8 : Lies (w7.setCell ⟨t, 1, none⟩ (.slice (some ⟨gw, 0, none⟩) (xs.length + 1) cw)) w4.heap.size ys := by
      refine HLi5.out.kept ((Below.heap_setCell _ _ _ _ (by show w4.heap.size ≠ t; omega)).trans ((HG7.out.block w4.heap.size (by simp; omega) (fun e => by have := owns_lt HW4.out w4.heap.size e.symm; omega)).trans (Below.heap_alloc _ _ _ (by show w4.heap.size < w5.heap.size; omega))))
    obtain ⟨r1, r2⟩ := HL.out.more (x := ⟨p, l, c, ys, some ⟨w4.heap.size, 0, none⟩, wc⟩) (G' := .slice (some ⟨gl, 0, none⟩) (xs.length + 1) cl) (W' := .slice (some ⟨gw, 0, none⟩) (xs.length + 1) cw) (((Kept.refl _ _).trans HK4.out (fun i e => Or.inl (by rcases e with e | e; exact Or.inl e; exact Or.inr (Or.inl e)))).trans hk8 (fun i e => Or.inl (by rcases e with e | e; exact Or.inl e; exact Or.inr (Or.inr e)))) (by rw [block_set HT7.out]; rfl)
      (owns_kept' HL4.out (fun g e => hk8.block g (owns_lt HL4.out g e) (by
        rintro (e' | e')
        · subst e'; exact owns_ne HL4.out HB4.out (by decide) e
        · cases e; exact hGW _ e'.symm rfl)))
      (owns_kept' HO7.out (fun g e => Below.heap_setCell _ _ _ _ (fun e' => owns_ne HO7.out HT7.out (by decide) (by rw [e, e']))))
      (fun g e e2 => by
        cases e; cases e2
        rcases HA7.out with h | h
        · exact hGW _ h rfl
        · simp at h; omega)
      (by rcases HA3.out with h | h
          · exact Or.inl h.symm
          · exact Or.inr ⟨gl, rfl, by simp at h; omega⟩)
      (by rcases HA7.out with h | h
          · exact Or.inl h.symm
          · exact Or.inr ⟨gw, rfl, by simp at h; omega⟩)
      HRow.out HY.out.small hl ⟨w4.heap.size, rfl, hz4, hl8⟩ HCx.out
    exact ⟨rfl, _, _, _, _, r1, r2⟩
end Go.Proofs.YtjcdnclfakmbpaaGreatDoor.Q
namespace Go.Proofs.YtjcdnclfakmbpaaGreatDoor.Q
open Go.RowKit Go.Proofs.YtjcdnclfakmbpaaGreatDoor.U
set_option maxRecDepth 100000 in
set_option maxHeartbeats 2000000 in
theorem late_same (K : Knd) (w : World) (t : Nat) (G W : Value) (xs : List Gt) (h : Lt K w t G W xs) (hxs : xs.length ≤ 20000) :
    Calls Tryz.prog 29 #[.pointer (some ⟨t, 0, none⟩)] w fun e w' => e = .returned (.bool true) ∧ ∃ q, w' = w.drewN q := by
  have HL := hide h
  obtain ⟨q0, q1, qf⟩ := blk2 h.blk
  obtain ⟨lp, lc, hG⟩ : ∃ p c, G = .slice p xs.length c := by
    rcases h.gs.2 with ⟨h1, h2⟩ | ⟨g, cap, cur, h1, _⟩
    · exact ⟨none, 0, by rw [h1, h2]⟩
    · exact ⟨_, cap, h1⟩
  obtain ⟨mp, mc, hM⟩ : ∃ p c, W = .slice p xs.length c := by
    rcases h.ws.2 with ⟨h1, h2⟩ | ⟨g, cap, cur, h1, _⟩
    · exact ⟨none, 0, by rw [h1, h2]⟩
    · exact ⟨_, cap, h1⟩
  subst hG
  subst hM
  clear h
  go_enter Tryz.func29, Tryz.ntmps29
  go_wp2
  go_loopw [3] (fun i wr => ∃ (j q : Nat), j ≤ xs.length ∧ i = .int .i64 j ∧ Hid (wr = w.drewN q)) (fun i _ => xs.length - (intOf i).toNat)
  case atStart => exact ⟨0, 0, Nat.zero_le _, rfl, rfl⟩
  case round =>
    obtain ⟨j, q, hj, rfl, HW⟩ := hrel
    have e0 : wr.cell? ⟨t, 0, none⟩ = some (.slice lp xs.length lc) := by rw [HW.out]; exact q0
    have e1 : wr.cell? ⟨t, 1, none⟩ = some (.slice mp xs.length mc) := by rw [HW.out]; exact q1
    by_cases hlt : j < xs.length
    · have hop : xs[j]? = some (xs[j]'hlt) := List.getElem?_eq_getElem _
      obtain ⟨gl, _, hgl, cl0⟩ := row_cell HL.out.gs (k := j) (a := (xs[j]'hlt).val) (by simp [hop])
      obtain ⟨gm, _, hgm, cm0⟩ := row_cell HL.out.ws (k := j) (a := (xs[j]'hlt).wal) (by simp [hop])
      cases hgl
      cases hgm
      have hmem := List.mem_of_getElem? hop
      have hx := HL.out.rows _ hmem
      have hsm := HL.out.small _ hmem
      obtain ⟨g, hwp, _, hli⟩ := HL.out.wants _ hmem
      generalize xs[j]'hlt = x at *
      obtain ⟨p, l, c, ys, wp, wc⟩ := x
      simp only [Gt.val, Gt.wal] at cl0 cm0 hx hsm hli hwp
      clear hop hmem
      subst hwp
      have hyl : ys.length = l := by have := hx.1; rw [vals_len] at this; omega
      have hv1 : ∀ n, (convert 31 9 (.slice p l c)).run Tryz.prog (wr.drewN n) = .ok (.string (str ys)) (wr.drewN n) := fun n => conv_str (by rw [HW.out]; exact owns_bytes (w := (w.drewN q).drewN n) hx rfl hsm) hyl c
      have hv2 : ∀ n, (convert 31 9 (.slice (some ⟨g, 0, none⟩) l wc)).run Tryz.prog (wr.drewN n) = .ok (.string (str ys)) (wr.drewN n) := fun n => conv_str (by rw [HW.out]; exact Lies.bytes (w := (w.drewN q).drewN n) hli hsm) hyl wc
      have cl : wr.cell? ⟨gl, j, none⟩ = some (.slice p l c) := by rw [HW.out]; exact cl0
      have cm : wr.cell? ⟨gm, j, none⟩ = some (.slice (some ⟨g, 0, none⟩) l wc) := by rw [HW.out]; exact cm0
      clear hx hsm hli hyl
      generalize str ys = S at *
      have l1 : (j : Int) < (xs.length : Int) := by omega
      have l2 : (0 : Int) ≤ (j : Int) := by omega
      go_wp2
      go_quiet (fail)
      go_wp2
      go_roundw
      case rel => exact ⟨j + 1, q + nq, by omega, by go_num, by show _ = _; rw [HW.out, World.drewN_drewN]⟩
      case measure => simp [intOf]; omega
    · have l1 : ¬ (j : Int) < (xs.length : Int) := by omega
      go_wp2
      go_ret
      exact ⟨rfl, q, HW.out⟩
end Go.Proofs.YtjcdnclfakmbpaaGreatDoor.Q
namespace Go.Proofs.YtjcdnclfakmbpaaGreatDoor.Q
open Go.RowKit Go.Proofs.YtjcdnclfakmbpaaGreatDoor.U
structure Bt (P : Nat × Nat → Prop) (K : Knd) (w : World) (b : Nat) (L M : Value) (A turn done used : Nat) (ks : List Kl) : Prop where
  bk : Bk w 0 b L M A turn done used ks
  cb : K b = (5, 1)
  cl : ∀ g, L.ownBlock = some g → K g = (5, 2)
  cm : ∀ g, M.ownBlock = some g → K g = (5, 2)
  ck : ∀ k ∈ ks, ∀ g, k.val.ownBlock = some g → P (K g)
structure Jn (A turn done used : Nat) (ks : List Kl) (n : Nat) : Prop where
  a : A ≤ ks.length
  len : ks.length + 96 * (ks.length - A) ≤ 97 * n
  tn : turn ≤ n
  le : done ≤ turn
  eq : done = turn → A = ks.length
  low : ∀ j x, A ≤ j → ks[j]? = some x → x.l ≤ 99999999000
  us : used ≤ 16777216
end Go.Proofs.YtjcdnclfakmbpaaGreatDoor.Q
namespace Go.Proofs.YtjcdnclfakmbpaaGreatDoor.Q
open Go.RowKit Go.Proofs.YtjcdnclfakmbpaaGreatDoor.U
structure Lr (K : Knd) (w : World) (t : Nat) (G W : Value) (xs : List Gt) (j : Nat) : Prop where
  blk : w.heap[t]? = some (.cells #[G, W] 72 (0, 0))
  gs : ownsQ false w 0 31 1 G xs.length (xs.map fun x => x.val)
  rows : ∀ i x, j ≤ i → xs[i]? = some x → ownsQ true w 0 5 1 x.val x.l (vals x.ys)
  num : ∀ x ∈ xs, x.l ≤ 140737488355328
  ct : K t = (6, 0)
  cg : ∀ g, G.ownBlock = some g → K g = (6, 0)
  cx : ∀ i x, j ≤ i → xs[i]? = some x → ∀ g, x.val.ownBlock = some g → K g = (7, i)
theorem Lt.rest {K : Knd} {w : World} {t : Nat} {G W : Value} {xs : List Gt} (h : Lt K w t G W xs) : Lr K w t G W xs 0 :=
  ⟨h.blk, h.gs, fun _ x _ hx => h.rows x (List.mem_of_getElem? hx), h.num, h.ct, h.cg, fun i x _ hx => h.cx i x hx⟩
theorem Lr.keep {p : Nat × Nat → Prop} {K K' : Knd} {w w' : World} {t j j' : Nat} {G W : Value} {xs : List Gt} (h : Lr K w t G W xs j) (m : Kp p K K' w w') (hj : j ≤ j') (h6 : ¬ p (6, 0)) (hx : ∀ i, j' ≤ i → ¬ p (7, i)) : Lr K' w' t G W xs j' :=
  ⟨(kpb m (lt_of_block h.blk) h.ct h6).trans h.blk, owns_kept' h.gs (fun g e => kpb m (owns_lt h.gs g e) (h.cg g e) h6),
   fun i x hi hxi => owns_kept' (h.rows i x (by omega) hxi) (fun g e => kpb m (owns_lt (h.rows i x (by omega) hxi) g e) (h.cx i x (by omega) hxi g e) (hx i hi)), h.num, kpk m (lt_of_block h.blk) h.ct, fun g e => kpk m (owns_lt h.gs g e) (h.cg g e),
   fun i x hi hxi g e => kpk m (owns_lt (h.rows i x (by omega) hxi) g e) (h.cx i x (by omega) hxi g e)⟩
def PL (k : Nat) (q : Nat × Nat) : Prop := q = (5, 2) ∨ (q.1 = 7 ∧ q.2 < k)
def PS (q : Nat × Nat) : Prop := q.1 = 5 ∨ q.1 = 6 ∨ q.1 = 7
end Go.Proofs.YtjcdnclfakmbpaaGreatDoor.Q
namespace Go.Proofs.YtjcdnclfakmbpaaGreatDoor.U
open Go.RowKit Go.Maps
theorem bytes_kept {w w' : World} {sp : Option Addr} {xs : List Nat} (h : Bytes w sp xs) (hs : w.heap.size ≤ w'.heap.size) (hb : ∀ g o, sp = some ⟨g, o, none⟩ → g < w.heap.size → w'.heap[g]? = w.heap[g]?) : Bytes w' sp xs := by
  refine ⟨h.small, h.lie.imp id ?_⟩
  rintro ⟨g, o, e, hg, hc⟩
  exact ⟨g, o, e, Nat.lt_of_lt_of_le hg hs, fun j hj => by
    have := hb g o e hg
    have e2 : w'.cell? ⟨g, o + j, none⟩ = w.cell? ⟨g, o + j, none⟩ := by simp only [World.cell?, this]
    rw [e2]; exact hc j hj⟩
theorem bytes_or {w w' : World} {sp : Option Addr} {xs : List Nat} (h : Bytes w sp xs) (hs : w.heap.size ≤ w'.heap.size) (hb : xs = [] ∨ ∀ g o, sp = some ⟨g, o, none⟩ → g < w.heap.size → w'.heap[g]? = w.heap[g]?) : Bytes w' sp xs := by
  rcases hb with e | e
  · subst e; exact ⟨by simp, Or.inl rfl⟩
  · exact bytes_kept h hs e
theorem Tryz.infoBb : (Tryz.prog.info? 31).map (fun i => (i.zero, i.size, i.bytes)) = some (some (.slice none 0 0), 1, 24) := by kernel_rfl
theorem blk2f {w : World} {b : Nat} {x0 x1 : Value} {t : TypeId} (h : w.heap[b]? = some (.cells #[x0, x1] t (0, 0))) : w.cell? ⟨b, 0, none⟩ = some x0 ∧ w.cell? ⟨b, 1, none⟩ = some x1 ∧ (∀ o, w.frozen? ⟨b, o, none⟩ = false) :=
  ⟨by simp [World.cell?, h], by simp [World.cell?, h], fun o => by simp [World.frozen?, h]⟩
theorem rk_cut {w : World} {K : Knd} {k : Nat × Nat} {e : TypeId} {n c : Nat} {p : Option Addr} {xs : List Value} (h : Rk w K k e 1 (.slice p n c) n xs) : Rk w K k e 1 (.slice p 0 c) 0 [] := by
  refine ⟨⟨rfl, ?_⟩, fun g hg => h.kind g (by cases p with | none => simp [Value.ownBlock] at hg | some a => exact hg)⟩
  rcases h.own.2 with ⟨h1, h2⟩ | ⟨g, cap, cur, h1, h2, h3, h4, h5, h6, h7⟩
  · cases h1; exact Or.inl ⟨rfl, rfl⟩
  · cases h1; exact Or.inr ⟨g, c, cur, rfl, h2, h3, Nat.zero_le _, h5, h6, by simp⟩
theorem rk_one {w : World} {K : Knd} {k : Nat × Nat} {e : TypeId} {v x : Value} (h : Rk w K k e 1 v 1 [x]) : ∃ g c cur, v = .slice (some ⟨g, 0, none⟩) 1 c ∧ w.heap[g]? = some (.cells cur e (0, 0)) ∧ K g = k ∧ 1 ≤ c ∧ c ≤ maxLen ∧ cur.size = c ∧ cur[0]? = some x := by
  rcases h.own.2 with ⟨h1, h2⟩ | ⟨g, cap, cur, h1, h2, h3, h4, h5, h6, h7⟩
  · cases h2
  · refine ⟨g, cap, cur, h1, h3, h.kind g (by rw [h1]; rfl), h4, h5, by omega, ?_⟩
    have := congrArg (fun l => l[0]?) h7
    simpa [List.getElem?_take] using this
structure Pl1 (w : World) (K : Knd) (pb : Nat) (O I X : Value) (no m : Nat) (os : List Value) (ys : List Nat) : Prop where
  blk : w.heap[pb]? = some (.cells #[O, I] 46 (0, 0))
  kb : K pb = (8, 0)
  o : Rk w K (8, 1) 31 1 O no os
  i : Rk w K (8, 2) 31 1 I 1 [X]
  x : Rk w K (8, 3) 5 1 X m (vals ys)
def Plc (w : World) (K : Knd) (pb : Nat) : Prop := (w.heap[pb]? = some (.cells #[.slice none 0 0, .slice none 0 0] 46 (0, 0)) ∧ K pb = (8, 0)) ∨ ∃ O I X no m os ys, Pl1 w K pb O I X no m os ys
def Plc1 (w : World) (K : Knd) (pb : Nat) (X : Value) (m : Nat) (ys : List Nat) : Prop := ∃ O I no os, Pl1 w K pb O I X no m os ys
theorem Plc1.plc {w : World} {K : Knd} {pb : Nat} {X : Value} {m : Nat} {ys : List Nat} (h : Plc1 w K pb X m ys) : Plc w K pb := by
  obtain ⟨O, I, no, os, h⟩ := h
  exact Or.inr ⟨O, I, X, no, m, os, ys, h⟩
theorem Plc.kept {p : Nat × Nat → Prop} {K K' : Knd} {w w' : World} {pb : Nat} (h : Plc w K pb) (hk : Kp p K K' w w') (hp : ∀ j, ¬ p (8, j)) : Plc w' K' pb := by
  rcases h with ⟨h1, h2⟩ | ⟨O, I, X, no, m, os, ys, h⟩
  · exact Or.inl ⟨(hk.block _ (lt_of_block h1) (by rw [h2]; exact hp _)).trans h1, (hk.same _ (lt_of_block h1)).trans h2⟩
  · exact Or.inr ⟨O, I, X, no, m, os, ys, (hk.block _ (lt_of_block h.blk) (by rw [h.kb]; exact hp _)).trans h.blk, (hk.same _ (lt_of_block h.blk)).trans h.kb, h.o.kept hk (hp _), h.i.kept hk (hp _), h.x.kept hk (hp _)⟩
def P8 (q : Nat × Nat) : Prop := q.1 = 8
def RoPost (K : Knd) (pb n : Nat) (xs : List Nat) (w : World) (e : Ending) (w' : World) : Prop := ∃ K' go co a c, e = .returned (.slice (some ⟨go, 0, none⟩) 1 co) ∧ 1 ≤ co ∧ w'.cell? ⟨go, 0, none⟩ = some (.slice a n c) ∧ Bytes w' a xs ∧ Plc1 w' K' pb (.slice a n c) n xs ∧ Kp P8 K K' w w' ∧ (∀ g q, a = some ⟨g, q, none⟩ → K' g = (8, 3))
theorem place_done {w0 w1 w2 w3 : World} {K0 K1 : Knd} {pb n gi ci go co : Nat} {O1 X1 a' : Option Addr} {oc xc c' : Nat} {cur : Array Value} {xs : List Nat} (k01 : Kp P8 K0 K1 w0 w1) (hb : w1.heap[pb]? = some (.cells #[.slice O1 0 oc, .slice (some ⟨gi, 0, none⟩) 1 ci] 46 (0, 0))) (hkb : K1 pb = (8, 0)) (hO : Rk w1 K1 (8, 1) 31 1 (.slice O1 0 oc) 0 []) (hI : w1.heap[gi]? = some (.cells cur 31 (0, 0))) (hki : K1 gi = (8, 2)) (hi1 : 1 ≤ ci) (hi2 : ci ≤ maxLen) (hi3 : cur.size = ci)
    (hX : Rk w1 K1 (8, 3) 5 1 (.slice X1 0 xc) 0 []) (hs : ∀ x ∈ xs, x < 256) (hown : w2.ownsRow 0 5 1 (.slice a' n c') n (vals xs)) (hg : w1.grownBy w2 (Value.slice X1 0 xc).ownBlock) (hl : (Value.slice a' n c').ownBlock = (Value.slice X1 0 xc).ownBlock ∨ ∃ g, (Value.slice a' n c').ownBlock = some g ∧ w1.heap.size ≤ g)
    (hown3 : w3.ownsRow 0 31 1 (.slice (some ⟨go, 0, none⟩) 1 co) 1 [.slice a' n c']) (hg3 : ((w2.setCell ⟨gi, 0, none⟩ (.slice a' n c')).alloc (.cells #[.slice a' n c'] 31)).grownBy w3 (Value.slice O1 0 oc).ownBlock) (hat3 : (Value.slice O1 0 oc).ownBlock = some go ∨ go = ((w2.setCell ⟨gi, 0, none⟩ (.slice a' n c')).alloc (.cells #[.slice a' n c'] 31)).heap.size) :
    ∃ K', Kp P8 K0 K' w0 (w3.setCell ⟨pb, 0, none⟩ (.slice (some ⟨go, 0, none⟩) 1 co)) ∧ Plc1 (w3.setCell ⟨pb, 0, none⟩ (.slice (some ⟨go, 0, none⟩) 1 co)) K' pb (.slice a' n c') n xs ∧ (w3.setCell ⟨pb, 0, none⟩ (.slice (some ⟨go, 0, none⟩) 1 co)).cell? ⟨go, 0, none⟩ = some (.slice a' n c') ∧ Bytes (w3.setCell ⟨pb, 0, none⟩ (.slice (some ⟨go, 0, none⟩) 1 co)) a' xs ∧ (∀ g q, a' = some ⟨g, q, none⟩ → K' g = (8, 3)) := by
  have k12 : Kp P8 K1 (ext K1 w1.heap.size (8, 3)) w1 w2 := kp_grown hg K1 (8, 3) (8, 3) P8 (fun g e => hX.kind g e) rfl
  have hX2 : Rk w2 (ext K1 w1.heap.size (8, 3)) (8, 3) 5 1 (.slice a' n c') n (vals xs) := hX.grown hown hl
  have hb2 : w2.heap[pb]? = _ := (hg.block pb (lt_of_block hb) (fun e => by have := hX.kind pb e.symm; rw [hkb] at this; cases this)).trans hb
  have hI2 : w2.heap[gi]? = _ := (hg.block gi (lt_of_block hI) (fun e => by have := hX.kind gi e.symm; rw [hki] at this; cases this)).trans hI
  have hO2 : Rk w2 (ext K1 w1.heap.size (8, 3)) (8, 1) 31 1 (.slice O1 0 oc) 0 [] := ⟨owns_same hO.own (fun g e => hg.block g (rk_lt hO.own e) (fun e' => by have h1 := hX.kind g e'.symm; rw [hO.kind g e] at h1; cases h1)), fun g e => (ext_old _ _ (rk_lt hO.own e)).trans (hO.kind g e)⟩
  generalize hK2 : ext K1 w1.heap.size (8, 3) = K2 at *
  have hki2 : K2 gi = (8, 2) := by rw [← hK2, ext_old _ _ (lt_of_block hI)]; exact hki
  have hkb2 : K2 pb = (8, 0) := by rw [← hK2, ext_old _ _ (lt_of_block hb)]; exact hkb
  -- the store of the list
  obtain ⟨wa, hwa⟩ : ∃ wa, w2.setCell ⟨gi, 0, none⟩ (.slice a' n c') = wa := ⟨_, rfl⟩
  have ka : Kp (fun q => q = (8, 2)) K2 K2 w2 wa := by rw [← hwa]; exact (Kp.refl (fun q => q = (8, 2)) K2 w2).setCell (b := gi) (Or.inr hki2) _ _
  have hIa : wa.heap[gi]? = some (.cells (cur.setIfInBounds 0 (.slice a' n c')) 31 (0, 0)) := by rw [← hwa]; exact block_set hI2 _
  rw [hwa] at hg3 hat3
  obtain ⟨wb, hwb⟩ : ∃ wb, wa.alloc (.cells #[.slice a' n c'] 31) = wb := ⟨_, rfl⟩
  have kb : Kp (fun _ => False) K2 (ext K2 wa.heap.size (8, 1)) wa wb := by rw [← hwb]; exact kp_below ((Below.refl _ _).alloc (Nat.le_refl _) _) _ _ _
  rw [hwb] at hg3 hat3
  have hOb : Rk wb (ext K2 wa.heap.size (8, 1)) (8, 1) 31 1 (.slice O1 0 oc) 0 [] := (hO2.kept ka (by simp)).kept kb (fun h => h)
  have k3 : Kp P8 (ext K2 wa.heap.size (8, 1)) (ext (ext K2 wa.heap.size (8, 1)) wb.heap.size (8, 1)) wb w3 := kp_grown hg3 _ (8, 1) (8, 1) P8 (fun g e => hOb.kind g e) rfl
  have k3' : Kp (fun q => q = (8, 1)) (ext K2 wa.heap.size (8, 1)) (ext (ext K2 wa.heap.size (8, 1)) wb.heap.size (8, 1)) wb w3 := kp_grown hg3 _ (8, 1) (8, 1) _ (fun g e => hOb.kind g e) rfl
  have hO3 := hOb.grown hown3 (by rcases hat3 with e | e; exact Or.inl e.symm; exact Or.inr ⟨go, rfl, by omega⟩)
  have hX3 := ((hX2.kept ka (by simp)).kept kb (fun h => h)).kept k3' (by simp)
  have hI3 : w3.heap[gi]? = _ := (k3'.block gi (Nat.lt_of_lt_of_le (lt_of_block hIa) kb.size) (by rw [kb.same gi (lt_of_block hIa), hki2]; simp)).trans ((kb.block gi (lt_of_block hIa) (fun h => h)).trans hIa)
  have hb3 : w3.heap[pb]? = _ := (k3'.block pb (Nat.lt_of_lt_of_le (lt_of_block hb2) (Nat.le_trans ka.size kb.size)) (by rw [kb.same pb (Nat.lt_of_lt_of_le (lt_of_block hb2) ka.size), hkb2]; simp)).trans ((kb.block pb (Nat.lt_of_lt_of_le (lt_of_block hb2) ka.size) (fun h => h)).trans ((ka.block pb (lt_of_block hb2) (by rw [hkb2]; simp)).trans hb2))
  have hkb3 : (ext (ext K2 wa.heap.size (8, 1)) wb.heap.size (8, 1)) pb = (8, 0) := by rw [k3'.same pb (Nat.lt_of_lt_of_le (lt_of_block hb2) (Nat.le_trans ka.size kb.size)), kb.same pb (Nat.lt_of_lt_of_le (lt_of_block hb2) ka.size), hkb2]
  have hki3 : (ext (ext K2 wa.heap.size (8, 1)) wb.heap.size (8, 1)) gi = (8, 2) := by rw [k3'.same gi (Nat.lt_of_lt_of_le (lt_of_block hIa) kb.size), kb.same gi (lt_of_block hIa), hki2]
  have k03 := ((k01.trans k12).trans (ka.mono (q := P8) (fun q e => by subst e; rfl))).trans ((kb.mono (q := P8) (fun _ h => h.elim)).trans k3)
  generalize hK3 : ext (ext K2 wa.heap.size (8, 1)) wb.heap.size (8, 1) = K3 at *
  have ke : Kp (fun q => q = (8, 0)) K3 K3 w3 (w3.setCell ⟨pb, 0, none⟩ (.slice (some ⟨go, 0, none⟩) 1 co)) := (Kp.refl (fun q => q = (8, 0)) K3 w3).setCell (b := pb) (Or.inr hkb3) _ _
  have hO4 := hO3.kept ke (by simp)
  have hX4 := hX3.kept ke (by simp)
  have hI4 : (w3.setCell ⟨pb, 0, none⟩ (.slice (some ⟨go, 0, none⟩) 1 co)).heap[gi]? = _ := (ke.block gi (lt_of_block hI3) (by rw [hki3]; simp)).trans hI3
  refine ⟨K3, k03.trans (ke.mono (fun q e => by subst e; rfl)), ⟨_, _, _, _, by rw [block_set hb3]; rfl, hkb3, hO4, ⟨⟨rfl, Or.inr ⟨gi, ci, _, rfl, Nat.zero_le _, hI4, hi1, hi2, by simpa using hi3, ?_⟩⟩, fun g e => by cases e; exact hki3⟩, hX4⟩, ?_, ?_, fun g q e => hX3.kind g (by rw [e]; rfl)⟩
  · apply List.ext_getElem?
    intro i
    rw [List.getElem?_take]
    by_cases h0 : i = 0
    · subst h0; simp [show 0 < cur.size by omega]
    · rw [if_neg (by omega), List.getElem?_eq_none (by simp; omega)]
  · obtain ⟨g', c1, cur', e1, e2, _, _, _, _, e3⟩ := rk_one hO4
    cases e1
    simp only [World.cell?, e2]
    simpa using e3
  · exact Q.owns_bytes (Q.ownsQ_of (z := true) hX4.own) rfl hs
set_option maxRecDepth 100000 in
set_option maxHeartbeats 2000000 in
theorem rows_there (w : World) (K : Knd) (pb lb : Nat) (O I X : Value) (no m : Nat) (os : List Value) (ys : List Nat) (h : Pl1 w K pb O I X no m os ys) (sp : Option Addr) (n c : Nat) (xs : List Nat) (hl : w.cell? ⟨lb, 0, none⟩ = some (.slice sp n c)) (hkl : K lb = (0, 0)) (hx : Bytes w sp xs) (hn : xs.length = n) (hn4 : n ≤ 140737488351232) (hsk : xs = [] ∨ ∀ g q, sp = some ⟨g, q, none⟩ → K g = (0, 0)) :
    Calls Tryz.prog 96 #[.pointer (some ⟨pb, 0, none⟩), .slice (some ⟨lb, 0, none⟩) 1 1] w (RoPost K pb n xs w) := by
  obtain ⟨i1, hi1, hz10, hz11, hz12⟩ := info_parts Tryz.infoBb
  have hlt : lb < w.heap.size := cell_block hl
  obtain ⟨gi, ci, cur, rfl, hgi, hki1, hc1, hc2, hc3, hc0⟩ := rk_one h.i
  obtain ⟨O1, oc, rfl, ho1, ho2⟩ := h.o.form
  obtain ⟨X1, xc, rfl, hx1', hx2⟩ := h.x.form
  obtain ⟨w1, hw1⟩ : ∃ w1, w.setCell ⟨pb, 0, none⟩ (.slice O1 0 oc) = w1 := ⟨_, rfl⟩
  have k00 : Kp (fun q => q = (8, 0)) K K w w1 := by rw [← hw1]; exact (Kp.refl (fun q => q = (8, 0)) K w).setCell (b := pb) (Or.inr h.kb) _ _
  have k01 : Kp P8 K K w w1 := k00.mono (fun q e => by subst e; rfl)
  have hb1 : w1.heap[pb]? = some (.cells #[.slice O1 0 oc, .slice (some ⟨gi, 0, none⟩) 1 ci] 46 (0, 0)) := by rw [← hw1, block_set h.blk]; rfl
  have hgi1 : w1.heap[gi]? = _ := (k00.block gi (lt_of_block hgi) (by rw [hki1]; simp)).trans hgi
  have hO1 := (rk_cut h.o).kept k00 (by simp)
  have hX1 := (rk_cut h.x).kept k00 (by simp)
  have hl1 : w1.cell? ⟨lb, 0, none⟩ = some (.slice sp n c) := (World.cell?_of_block (k00.block lb hlt (by rw [hkl]; simp))).trans hl
  have hx1 : Bytes w1 sp xs := bytes_or hx k00.size (hsk.imp id (fun e g q e2 hg => k00.block g hg (by rw [e g q e2]; simp)))
  have t0 : w1.cell? ⟨gi, 0, none⟩ = some (.slice X1 m xc) := by simp only [World.cell?, hgi1]; simpa using hc0
  have hkb1 := h.kb
  have HSm := hide hx.small
  obtain ⟨q0, q1, qf⟩ := blk2f h.blk
  have kd : Kp (fun _ => False) K K w1 w1.drew := (Kp.refl _ _ _).drew
  obtain ⟨a', c', w2, hr, ho, hg, hlz⟩ := run_app_bytes (w := w1.drew) (hX1.kept kd (fun h => h)).own (c := c) hn (bytes_or hx1 (Nat.le_refl _) (Or.inr (fun _ _ _ _ => rfl))) (by omega) 31
  simp only [Nat.zero_add, List.nil_append] at hr ho hlz
  have HR := hide hr
  have HOwn := hide ho
  have HGr := hide hg
  have HLz := hide hlz
  have HX1 := hide (hX1.kept kd (fun h => h))
  have HO1 := hide (hO1.kept kd (fun h => h))
  have HB1 := hide hb1
  have HGi := hide hgi1
  have HK01 : Hid (Kp P8 K K w w1.drew) := k01.trans (kd.mono (fun _ h => h.elim))
  have HKb := hide hkb1
  have HKi := hide hki1
  have HC3 := hide hc3
  have hO2 : w2.ownsRow 0 31 1 (.slice O1 0 oc) 0 [] := owns_same hO1.own (fun g e => hg.block g (rk_lt hO1.own e) (fun e' => by have h1 := hX1.kind g e'.symm; rw [hO1.kind g e] at h1; cases h1))
  have hb2 : w2.heap[pb]? = _ := (hg.block pb (lt_of_block hb1) (fun e => by have := hX1.kind pb e.symm; rw [hkb1] at this; cases this)).trans hb1
  have hI2 : w2.heap[gi]? = _ := (hg.block gi (lt_of_block hgi1) (fun e => by have := hX1.kind gi e.symm; rw [hki1] at this; cases this)).trans hgi1
  obtain ⟨r0, r1, rf⟩ := blk2f hb1
  obtain ⟨s0, s1, sf⟩ := blk2f hb2
  have t2 : w2.cell? ⟨gi, 0, none⟩ = some (.slice X1 m xc) := (World.cell?_of_block (hI2.trans hgi1.symm)).trans t0
  have tf : ∀ o, w2.frozen? ⟨gi, o, none⟩ = false := fun o => by simp [World.frozen?, hI2]
  have hne : gi ≠ pb := fun e => by have := hki1; rw [e, hkb1] at this; cases this
  obtain ⟨wa, hwa⟩ : ∃ wa, w2.setCell ⟨gi, 0, none⟩ (.slice a' n c') = wa := ⟨_, rfl⟩
  have hba : wa.heap[pb]? = some (.cells #[.slice O1 0 oc, .slice (some ⟨gi, 0, none⟩) 1 ci] 46 (0, 0)) := by rw [← hwa]; exact (Below.heap_setCell _ _ _ _ (Ne.symm hne)).trans hb2
  obtain ⟨u0, u1, uf⟩ := blk2f hba
  have HOa : Hid (wa.ownsRow 0 31 1 (.slice O1 0 oc) 0 []) := owns_same hO2 (fun g e => by
    rw [← hwa]
    exact Below.heap_setCell _ _ _ _ (fun e' => by
      have h1 := hO1.kind g e
      have h2 : g = gi := e'
      rw [h2, hki1] at h1; cases h1))
  have HBa := hide hba
  have HWa := hide hwa
  have hpl : pb < w1.heap.size := lt_of_block hb1
  clear hki1 hkb1 hc3 hO1 hX1 hx1 hr ho hg hlz hb1 hgi1 k01 kd hb2 hI2 hba hwa hO2
  clear h hl hkl hx hsk hgi hc0 hlt k00
  go_enter Tryz.func96, Tryz.ntmps96
  go_wp2
  clear hw1 q0 q1 qf
  go_loopw [5] (fun i wr => (i = .int .i64 0 ∧ wr = w1) ∨ (i = .int .i64 1 ∧ ∃ (K' : Knd) (go co : Nat) (a' : Option Addr) (c' : Nat), wr.cell? ⟨pb, 0, none⟩ = some (.slice (some ⟨go, 0, none⟩) 1 co) ∧ 1 ≤ co ∧ Hid (Kp P8 K K' w wr) ∧ Hid (Plc1 wr K' pb (.slice a' n c') n xs) ∧ Hid (wr.cell? ⟨go, 0, none⟩ = some (.slice a' n c')) ∧ Hid (Bytes wr a' xs) ∧ Hid (∀ g q, a' = some ⟨g, q, none⟩ → K' g = (8, 3)))) (fun i _ => 1 - (intOf i).toNat)
  case atStart => exact Or.inl ⟨rfl, rfl⟩
  case round =>
    rcases hrel with ⟨rfl, rfl⟩ | ⟨rfl, K', go, co, a', c', e0, e1, HA, HB, HC, HD, HE⟩
    · go_wp2
      go_region_law (first | (refine step_app_run (by kernel_rfl) (.tmp 44) (.tmp 48) 31 31 (by rfl) _ _ _ _ (by rfl) (by rfl) HR.out ?_))
      all_goals go_upto_region 9 with (fail)
      all_goals rw [HWa.out]
      all_goals go_wp2_with (at_builtin; refine wpList_append_lies _ rfl (.tmp 61) (.tmp 63) 44 rfl 0 31 i1 (.slice none 0 0) 1 24 Tryz.underlying44 hi1 hz10 hz11 hz12 rfl (by omega) (.slice O1 0 oc) 0 _ rfl (HOa.out.alloc _) ⟨wa.heap.size, 0, none⟩ 1 1 [.slice a' n c'] rfl rfl (World.news_of_block (heap_alloc_new wa (.cells #[.slice a' n c'] 31))) (by simp [Value.oneCell']) (by omega) (by unfold maxLen; omega) (by omega) (Nat.zero_le _) _ rfl ?_; intro gl cl w3 hown3 hgrow3 hat3 hlt3; have HO3 := hide hown3; have HG3 := hide hgrow3; have HA3 := hide hat3; have hb3 : w3.heap[pb]? = _ := (hgrow3.block pb (by simp; exact Nat.lt_succ_of_lt (lt_of_block HBa.out)) (fun e => by have := HO1.out.kind pb e.symm; rw [HKb.out] at this; cases this)).trans ((Below.heap_alloc _ _ _ (lt_of_block HBa.out)).trans HBa.out); obtain ⟨v0, v1, vf⟩ := blk2f hb3; have HB3 := hide hb3; clear hown3 hgrow3 hat3 hlt3 hb3)
      all_goals
        obtain ⟨K', d1, d2, d3, d4, d5⟩ := place_done (w0 := w) (w1 := wr.drew) (w2 := w2) (w3 := w3) HK01.out HB1.out HKb.out HO1.out HGi.out HKi.out hc1 hc2 HC3.out HX1.out HSm.out HOwn.out HGr.out HLz.out (by simpa using HO3.out) (by rw [HWa.out]; exact HG3.out) (by rw [HWa.out]; exact HA3.out)
        obtain ⟨_, _, cu3, e1, e2, _, e3, _⟩ := rk_one (w := w3) (K := fun _ => (0, 0)) (k := (0, 0)) (x := .slice a' n c') (v := .slice (some ⟨gl, 0, none⟩) 1 cl) ⟨by simpa using HO3.out, fun _ _ => rfl⟩
        cases e1
        exact ⟨Or.inr ⟨rfl, K', _, _, a', c', (blk2f (show (w3.setCell ⟨pb, 0, none⟩ _).heap[pb]? = _ by rw [block_set HB3.out]; rfl)).1, e3, d1, d2, d3, d4, d5⟩, by simp [intOf]⟩
    · go_wp2
      go_ret
      exact ⟨K', go, co, a', c', rfl, e1, HC.out, HD.out, HB.out, HA.out, HE.out⟩
set_option maxRecDepth 100000 in
set_option maxHeartbeats 2000000 in
theorem rows_new (w : World) (K : Knd) (pb lb : Nat) (hb : w.heap[pb]? = some (.cells #[.slice none 0 0, .slice none 0 0] 46 (0, 0))) (hkb : K pb = (8, 0)) (sp : Option Addr) (n c : Nat) (xs : List Nat) (hl : w.cell? ⟨lb, 0, none⟩ = some (.slice sp n c)) (hkl : K lb = (0, 0)) (hx : Bytes w sp xs) (hn : xs.length = n) (hn4 : n ≤ 140737488351232) (hsk : xs = [] ∨ ∀ g q, sp = some ⟨g, q, none⟩ → K g = (0, 0)) :
    Calls Tryz.prog 96 #[.pointer (some ⟨pb, 0, none⟩), .slice (some ⟨lb, 0, none⟩) 1 1] w (RoPost K pb n xs w) := by
  obtain ⟨i1, hi1, hz10, hz11, hz12⟩ := info_parts Tryz.infoBb
  have hlt : lb < w.heap.size := cell_block hl
  obtain ⟨w1, hw1⟩ : ∃ w1, w.setCell ⟨pb, 0, none⟩ (.slice none 0 0) = w1 := ⟨_, rfl⟩
  have hw1' : w1 = w := by rw [← hw1]; exact set_cell_same hb rfl
  rw [hw1'] at hw1
  clear hw1'
  have HSm := hide hx.small
  obtain ⟨q0, q1, qf⟩ := blk2f hb
  have HB0 := hide hb
  have HKb0 := hide hkb
  have HX0 := hide hx
  have HSk := hide hsk
  have HKl := hide hkl
  have HN0 : Hid (w.ownsRow 0 31 1 (.slice none 0 0) 0 []) := ⟨rfl, Or.inl ⟨rfl, rfl⟩⟩
  clear hb hkb hx hsk hkl w1
  go_enter Tryz.func96, Tryz.ntmps96
  go_wp2
  clear hw1
  go_loopw [5] (fun i wr => (i = .int .i64 0 ∧ wr = w) ∨ (i = .int .i64 1 ∧ ∃ (K' : Knd) (go co : Nat) (a' : Option Addr) (c' : Nat), wr.cell? ⟨pb, 0, none⟩ = some (.slice (some ⟨go, 0, none⟩) 1 co) ∧ 1 ≤ co ∧ Hid (Kp P8 K K' w wr) ∧ Hid (Plc1 wr K' pb (.slice a' n c') n xs) ∧ Hid (wr.cell? ⟨go, 0, none⟩ = some (.slice a' n c')) ∧ Hid (Bytes wr a' xs) ∧ Hid (∀ g q, a' = some ⟨g, q, none⟩ → K' g = (8, 3)))) (fun i _ => 1 - (intOf i).toNat)
  case atStart => exact Or.inl ⟨rfl, rfl⟩
  case round =>
    rcases hrel with ⟨rfl, rfl⟩ | ⟨rfl, K', go, co, a', c', e0, e1, HA, HB, HC, HD, HE⟩
    · go_upto_region 7 with (at_builtin; refine wpList_append_lies _ rfl (.tmp 32) (.tmp 33) 44 rfl 0 31 i1 (.slice none 0 0) 1 24 Tryz.underlying44 hi1 hz10 hz11 hz12 rfl (by omega) (.slice none 0 0) 0 _ rfl (HN0.out.alloc _) ⟨wr.heap.size, 0, none⟩ 1 1 [.slice none 0 0] rfl rfl (World.news_of_block (heap_alloc_new wr (.cells #[.slice none 0 0] 31))) (by simp [Value.oneCell']) (by omega) (by unfold maxLen; omega) (by omega) (Nat.zero_le _) _ rfl ?_; intro gi ci w5 hown5 hgrow5 hat5 hlt5; have HO5 := hide hown5; have HG5 := hide hgrow5; have HA5 := hide hat5; have hb5 : w5.heap[pb]? = _ := (hgrow5.block pb (by simp; exact Nat.lt_succ_of_lt (lt_of_block HB0.out)) (fun e => by simp [Value.ownBlock] at e)).trans ((Below.heap_alloc _ _ _ (lt_of_block HB0.out)).trans HB0.out); obtain ⟨p0, p1, pf⟩ := blk2f hb5; have HB5 := hide hb5; clear hown5 hgrow5 hat5 hlt5 hb5)
      have hbw : Below wr.heap.size wr w5 := ((Below.refl _ _).alloc (Nat.le_refl _) (.cells #[.slice none 0 0] 31)).trans ⟨HG5.out.os, HG5.out.tape, HG5.out.output, Nat.le_trans (by simp) HG5.out.size, fun b hb => HG5.out.block b (by simp; omega) (fun e => by simp [Value.ownBlock] at e)⟩
      have hgn : wr.heap.size ≤ gi := by
        rcases HA5.out with e | e
        · simp [Value.ownBlock] at e
        · simp at e; omega
      have k05 : Kp (fun _ => False) K (ext K wr.heap.size (8, 2)) wr w5 := kp_below hbw _ _ _
      have hkb5 : ext K wr.heap.size (8, 2) pb = (8, 0) := by rw [ext_old _ _ (lt_of_block HB0.out)]; exact HKb0.out
      obtain ⟨w1, hw1⟩ : ∃ w1, w5.setCell ⟨pb, 1, none⟩ (.slice (some ⟨gi, 0, none⟩) 1 ci) = w1 := ⟨_, rfl⟩
      obtain ⟨_, _, cur, e1, e2, _, hc1, hc2, hc3, hc0⟩ := rk_one (w := w5) (K := fun _ => (0, 0)) (k := (0, 0)) (x := .slice none 0 0) (v := .slice (some ⟨gi, 0, none⟩) 1 ci) ⟨by simpa using HO5.out, fun _ _ => rfl⟩
      cases e1
      have hki1 : ext K wr.heap.size (8, 2) gi = (8, 2) := ext_new _ _ hgn
      generalize hK1 : ext K wr.heap.size (8, 2) = K1 at *
      have k51 : Kp (fun q => q = (8, 0)) K1 K1 w5 w1 := by rw [← hw1]; exact (Kp.refl (fun q => q = (8, 0)) K1 w5).setCell (b := pb) (Or.inr hkb5) _ _
      have k01 : Kp P8 K K1 wr w1 := (k05.mono (fun _ h => h.elim)).trans (k51.mono (fun q e => by subst e; rfl))
      have hb1 : w1.heap[pb]? = some (.cells #[.slice none 0 0, .slice (some ⟨gi, 0, none⟩) 1 ci] 46 (0, 0)) := by rw [← hw1, block_set HB5.out]; rfl
      have hgi1 : w1.heap[gi]? = _ := (k51.block gi (lt_of_block e2) (by rw [hki1]; simp)).trans e2
      obtain ⟨O1, hO1e⟩ : ∃ O1 : Option Addr, O1 = none := ⟨_, rfl⟩
      obtain ⟨oc, hoc⟩ : ∃ oc, oc = 0 := ⟨_, rfl⟩
      obtain ⟨X1, hX1e⟩ : ∃ X1 : Option Addr, X1 = none := ⟨_, rfl⟩
      obtain ⟨xc, hxc⟩ : ∃ xc, xc = 0 := ⟨_, rfl⟩
      obtain ⟨m, hm⟩ : ∃ m, m = 0 := ⟨_, rfl⟩
      have hO1 : Rk w1 K1 (8, 1) 31 1 (.slice O1 0 oc) 0 [] := by rw [hO1e, hoc]; exact rk_nil _ _ _ _ _
      have hX1 : Rk w1 K1 (8, 3) 5 1 (.slice X1 0 xc) 0 [] := by rw [hX1e, hxc]; exact rk_nil _ _ _ _ _
      have hl1 : w1.cell? ⟨lb, 0, none⟩ = some (.slice sp n c) := (World.cell?_of_block (k01.block lb hlt (by rw [HKl.out]; intro e; cases e))).trans hl
      have hx1 : Bytes w1 sp xs := bytes_or HX0.out k01.size (HSk.out.imp id (fun e g q e2 hg => k01.block g hg (by rw [e g q e2]; intro e; cases e)))
      have t0 : w1.cell? ⟨gi, 0, none⟩ = some (.slice X1 m xc) := by rw [hX1e, hm, hxc]; simp only [World.cell?, hgi1]; simpa using hc0
      have hkb1 := hkb5
      rw [show (Value.slice none 0 0) = .slice O1 0 oc by rw [hO1e, hoc]] at hb1
      have hl0 : 0 ≤ xc := Nat.zero_le _
      have hm0 : m ≤ xc := by omega
      have kd : Kp (fun _ => False) K1 K1 w1 w1.drew := (Kp.refl _ _ _).drew
      obtain ⟨a', c', w2, hr, ho, hg, hlz⟩ := run_app_bytes (w := w1.drew) (hX1.kept kd (fun h => h)).own (c := c) hn (bytes_or hx1 (Nat.le_refl _) (Or.inr (fun _ _ _ _ => rfl))) (by omega) 31
      simp only [Nat.zero_add, List.nil_append] at hr ho hlz
      have HR := hide hr
      have HOwn := hide ho
      have HGr := hide hg
      have HLz := hide hlz
      have HX1 := hide (hX1.kept kd (fun h => h))
      have HO1 := hide (hO1.kept kd (fun h => h))
      have HB1 := hide hb1
      have HGi := hide hgi1
      have HK01 : Hid (Kp P8 K K1 wr w1.drew) := k01.trans (kd.mono (fun _ h => h.elim))
      have HKb := hide hkb1
      have HKi := hide hki1
      have HC3 := hide hc3
      have hO2 : w2.ownsRow 0 31 1 (.slice O1 0 oc) 0 [] := owns_same hO1.own (fun g e => hg.block g (rk_lt hO1.own e) (fun e' => by have h1 := hX1.kind g e'.symm; rw [hO1.kind g e] at h1; cases h1))
      have hb2 : w2.heap[pb]? = _ := (hg.block pb (lt_of_block hb1) (fun e => by have := hX1.kind pb e.symm; rw [hkb1] at this; cases this)).trans hb1
      have hI2 : w2.heap[gi]? = _ := (hg.block gi (lt_of_block hgi1) (fun e => by have := hX1.kind gi e.symm; rw [hki1] at this; cases this)).trans hgi1
      obtain ⟨r0, r1, rf⟩ := blk2f hb1
      obtain ⟨s0, s1, sf⟩ := blk2f hb2
      have t2 : w2.cell? ⟨gi, 0, none⟩ = some (.slice X1 m xc) := (World.cell?_of_block (hI2.trans hgi1.symm)).trans t0
      have tf : ∀ o, w2.frozen? ⟨gi, o, none⟩ = false := fun o => by simp [World.frozen?, hI2]
      have hne : gi ≠ pb := fun e => by have := hki1; rw [e, hkb1] at this; cases this
      obtain ⟨wa, hwa⟩ : ∃ wa, w2.setCell ⟨gi, 0, none⟩ (.slice a' n c') = wa := ⟨_, rfl⟩
      have hba : wa.heap[pb]? = some (.cells #[.slice O1 0 oc, .slice (some ⟨gi, 0, none⟩) 1 ci] 46 (0, 0)) := by rw [← hwa]; exact (Below.heap_setCell _ _ _ _ (Ne.symm hne)).trans hb2
      obtain ⟨u0, u1, uf⟩ := blk2f hba
      have HOa : Hid (wa.ownsRow 0 31 1 (.slice O1 0 oc) 0 []) := owns_same hO2 (fun g e => by
        rw [← hwa]
        exact Below.heap_setCell _ _ _ _ (fun e' => by
          have h1 := hO1.kind g e
          have h2 : g = gi := e'
          rw [h2, hki1] at h1; cases h1))
      have HBa := hide hba
      have HWa := hide hwa
      have hpl : pb < w1.heap.size := lt_of_block hb1
      clear hki1 hkb1 hc3 hO1 hX1 hx1 hr ho hg hlz hb1 hgi1 k01 kd hb2 hI2 hba hwa hO2
      clear k05 k51 hbw e2 hK1 hO1e hoc hX1e hxc hm
      rw [hw1]
      clear hw1
      go_region_law (first | (refine step_app_run (by kernel_rfl) (.tmp 44) (.tmp 48) 31 31 (by rfl) _ _ _ _ (by rfl) (by rfl) HR.out ?_))
      all_goals go_upto_region 9 with (fail)
      all_goals rw [HWa.out]
      all_goals go_wp2_with (at_builtin; refine wpList_append_lies _ rfl (.tmp 61) (.tmp 63) 44 rfl 0 31 i1 (.slice none 0 0) 1 24 Tryz.underlying44 hi1 hz10 hz11 hz12 rfl (by omega) (.slice O1 0 oc) 0 _ rfl (HOa.out.alloc _) ⟨wa.heap.size, 0, none⟩ 1 1 [.slice a' n c'] rfl rfl (World.news_of_block (heap_alloc_new wa (.cells #[.slice a' n c'] 31))) (by simp [Value.oneCell']) (by omega) (by unfold maxLen; omega) (by omega) (Nat.zero_le _) _ rfl ?_; intro gl cl w3 hown3 hgrow3 hat3 hlt3; have HO3 := hide hown3; have HG3 := hide hgrow3; have HA3 := hide hat3; have hb3 : w3.heap[pb]? = _ := (hgrow3.block pb (by simp; exact Nat.lt_succ_of_lt (lt_of_block HBa.out)) (fun e => by have := HO1.out.kind pb e.symm; rw [HKb.out] at this; cases this)).trans ((Below.heap_alloc _ _ _ (lt_of_block HBa.out)).trans HBa.out); obtain ⟨v0, v1, vf⟩ := blk2f hb3; have HB3 := hide hb3; clear hown3 hgrow3 hat3 hlt3 hb3)
      all_goals
        obtain ⟨K', d1, d2, d3, d4, d5⟩ := place_done (w0 := wr) (w1 := w1.drew) (w2 := w2) (w3 := w3) HK01.out HB1.out HKb.out HO1.out HGi.out HKi.out hc1 hc2 HC3.out HX1.out HSm.out HOwn.out HGr.out HLz.out (by simpa using HO3.out) (by rw [HWa.out]; exact HG3.out) (by rw [HWa.out]; exact HA3.out)
        obtain ⟨_, _, cu3, e1, e2, _, e3, _⟩ := rk_one (w := w3) (K := fun _ => (0, 0)) (k := (0, 0)) (x := .slice a' n c') (v := .slice (some ⟨gl, 0, none⟩) 1 cl) ⟨by simpa using HO3.out, fun _ _ => rfl⟩
        cases e1
        exact ⟨Or.inr ⟨rfl, K', _, _, a', c', (blk2f (show (w3.setCell ⟨pb, 0, none⟩ _).heap[pb]? = _ by rw [block_set HB3.out]; rfl)).1, e3, d1, d2, d3, d4, d5⟩, by simp [intOf]⟩
    · go_wp2
      go_ret
      exact ⟨K', go, co, a', c', rfl, e1, HC.out, HD.out, HB.out, HA.out, HE.out⟩
def PbPost (K : Knd) (pb n : Nat) (xs : List Nat) (w : World) (e : Ending) (w' : World) : Prop := ∃ K' a c, e = .returned (.slice a n c) ∧ Bytes w' a xs ∧ Plc1 w' K' pb (.slice a n c) n xs ∧ Kp P8 K K' w w' ∧ (∀ g q, a = some ⟨g, q, none⟩ → K' g = (8, 3))
set_option maxRecDepth 100000 in
set_option maxHeartbeats 1000000 in
theorem pbytes_any (w : World) (K : Knd) (pb : Nat) (h : Plc w K pb) (sp : Option Addr) (n c : Nat) (xs : List Nat) (hx : Bytes w sp xs) (hn : xs.length = n) (hn4 : n ≤ 140737488351232) (hsk : xs = [] ∨ ∀ g q, sp = some ⟨g, q, none⟩ → g < w.heap.size ∧ K g = (0, 0)) :
    Calls Tryz.prog 50 #[.pointer (some ⟨pb, 0, none⟩), .slice sp n c] w (PbPost K pb n xs w) := by
  obtain ⟨w1, hw1⟩ : ∃ w1, w.alloc (.cells #[.slice sp n c] 31) = w1 := ⟨_, rfl⟩
  have hb1 : Below w.heap.size w w1 := by rw [← hw1]; exact (Below.refl _ _).alloc (Nat.le_refl _) _
  have hl1 : w1.heap[w.heap.size]? = some (.cells #[.slice sp n c] 31 (0, 0)) := by rw [← hw1]; exact heap_alloc_new _ _
  have k1 : Kp P8 K (ext K w.heap.size (0, 0)) w w1 := kp_below hb1 _ _ _
  have hP1 : Plc w1 (ext K w.heap.size (0, 0)) pb := h.kept (kp_below hb1 (fun _ => False) _ _) (fun _ h => h)
  have hx1 := hx.below hb1
  have hs1 : xs = [] ∨ ∀ g q, sp = some ⟨g, q, none⟩ → ext K w.heap.size (0, 0) g = (0, 0) := hsk.imp id (fun e g q e2 => by rw [ext_old _ _ (e g q e2).1]; exact (e g q e2).2)
  have hc1 : w1.cell? ⟨w.heap.size, 0, none⟩ = some (.slice sp n c) := by simp [World.cell?, hl1]
  have hk1 : ext K w.heap.size (0, 0) w.heap.size = (0, 0) := ext_new _ _ (Nat.le_refl _)
  have HC : Hid (Calls Tryz.prog 96 #[.pointer (some ⟨pb, 0, none⟩), .slice (some ⟨w.heap.size, 0, none⟩) 1 1] w1 (RoPost (ext K w.heap.size (0, 0)) pb n xs w1)) := by
    rcases hP1 with ⟨h1, h2⟩ | ⟨O, I, X, no, m, os, ys, h1⟩
    · exact rows_new w1 _ pb _ h1 h2 sp n c xs hc1 hk1 hx1 hn hn4 hs1
    · exact rows_there w1 _ pb _ O I X no m os ys h1 sp n c xs hc1 hk1 hx1 hn hn4 hs1
  have HK1 := hide k1
  have HW1 := hide hw1
  clear h hx hsk hb1 hl1 k1 hP1 hx1 hs1 hc1 hk1 hw1
  go_enter Tryz.func50, Tryz.ntmps50
  go_wp2_with fail
  rw [HW1.out]
  refine HC.out.mono ?_
  rintro e w2 ⟨K', go, co, a, c', rfl, h1, h2, h3, h4, h5, h6⟩
  have HB := hide h3
  have HP := hide h4
  have HK := hide (HK1.out.trans h5)
  have H6 := hide h6
  have h7 : (1 : Int) ≤ (co : Int) := by omega
  clear h3 h4 h5 h6
  go_wp2
  go_ret
  exact ⟨K', a, c', rfl, HB.out, HP.out, HK.out, H6.out⟩
end Go.Proofs.YtjcdnclfakmbpaaGreatDoor.U
namespace Go.Proofs.YtjcdnclfakmbpaaGreatDoor.Pw
open Go.RowKit Go.Proofs.YtjcdnclfakmbpaaGreatDoor Go.Proofs.YtjcdnclfakmbpaaGreatDoor.U
structure Wc where
  m0 : Int
  m1 : Int
  w0 : Int
  w1 : Int
  c0 : Int
  c1 : Int
  l0 : Nat
  l1 : Nat
  k0 : Nat
  k1 : Nat
  sv : Value
  bb : Nat
  lb : Nat
  turn : Nat
def wkC (Y : Wc) (O I : Value) : Array Value := #[.int .i64 Y.m0, .int .i64 Y.m1, .int .i64 Y.w0, .int .i64 Y.w1, .int .i64 Y.c0, .int .i64 Y.c1, .pointer (some ⟨Y.l0, 0, none⟩), .pointer (some ⟨Y.l1, 0, none⟩), .pointer (some ⟨Y.k0, 0, none⟩), .pointer (some ⟨Y.k1, 0, none⟩), Y.sv, .pointer (some ⟨Y.bb, 0, none⟩), .pointer (some ⟨Y.lb, 0, none⟩), O, I, .int .i64 (Y.turn : Int)]
theorem blkW {w : World} {b : Nat} {Y : Wc} {x0 x1 : Value} {t : TypeId} (h : w.heap[b]? = some (.cells (wkC Y x0 x1) t (0, 0))) : w.cell? ⟨b, 13, none⟩ = some x0 ∧ w.cell? ⟨b, 14, none⟩ = some x1 ∧ (∀ o, w.frozen? ⟨b, o, none⟩ = false) :=
  ⟨by simp [World.cell?, h, wkC], by simp [World.cell?, h, wkC], fun o => by simp [World.frozen?, h]⟩
structure Pl1 (Y : Wc) (w : World) (K : Knd) (pb : Nat) (O I X : Value) (no m : Nat) (os : List Value) (ys : List Nat) : Prop where
  blk : w.heap[pb]? = some (.cells (wkC Y (O) (I)) 48 (0, 0))
  kb : K pb = (8, 0)
  o : Rk w K (8, 1) 31 1 O no os
  i : Rk w K (8, 2) 31 1 I 1 [X]
  x : Rk w K (8, 3) 5 1 X m (vals ys)
def Plc (Y : Wc) (w : World) (K : Knd) (pb : Nat) : Prop := (w.heap[pb]? = some (.cells (wkC Y (.slice none 0 0) (.slice none 0 0)) 48 (0, 0)) ∧ K pb = (8, 0)) ∨ ∃ O I X no m os ys, Pl1 Y w K pb O I X no m os ys
def Plc1 (Y : Wc) (w : World) (K : Knd) (pb : Nat) (X : Value) (m : Nat) (ys : List Nat) : Prop := ∃ O I no os, Pl1 Y w K pb O I X no m os ys
theorem Plc1.plc {Y : Wc} {w : World} {K : Knd} {pb : Nat} {X : Value} {m : Nat} {ys : List Nat} (h : Plc1 Y w K pb X m ys) : Plc Y w K pb := by
  obtain ⟨O, I, no, os, h⟩ := h
  exact Or.inr ⟨O, I, X, no, m, os, ys, h⟩
theorem Plc.kept {Y : Wc} {p : Nat × Nat → Prop} {K K' : Knd} {w w' : World} {pb : Nat} (h : Plc Y w K pb) (hk : Kp p K K' w w') (hp : ∀ j, ¬ p (8, j)) : Plc Y w' K' pb := by
  rcases h with ⟨h1, h2⟩ | ⟨O, I, X, no, m, os, ys, h⟩
  · exact Or.inl ⟨(hk.block _ (lt_of_block h1) (by rw [h2]; exact hp _)).trans h1, (hk.same _ (lt_of_block h1)).trans h2⟩
  · exact Or.inr ⟨O, I, X, no, m, os, ys, (hk.block _ (lt_of_block h.blk) (by rw [h.kb]; exact hp _)).trans h.blk, (hk.same _ (lt_of_block h.blk)).trans h.kb, h.o.kept hk (hp _), h.i.kept hk (hp _), h.x.kept hk (hp _)⟩
def P8 (q : Nat × Nat) : Prop := q.1 = 8
def RoPost (Y : Wc) (K : Knd) (pb n : Nat) (xs : List Nat) (w : World) (e : Ending) (w' : World) : Prop := ∃ K' go co a c, e = .returned (.slice (some ⟨go, 0, none⟩) 1 co) ∧ 1 ≤ co ∧ w'.cell? ⟨go, 0, none⟩ = some (.slice a n c) ∧ Bytes w' a xs ∧ Plc1 Y w' K' pb (.slice a n c) n xs ∧ Kp P8 K K' w w' ∧ (∀ g q, a = some ⟨g, q, none⟩ → K' g = (8, 3))
theorem place_done {Y : Wc} {w0 w1 w2 w3 : World} {K0 K1 : Knd} {pb n gi ci go co : Nat} {O1 X1 a' : Option Addr} {oc xc c' : Nat} {cur : Array Value} {xs : List Nat} (k01 : Kp P8 K0 K1 w0 w1) (hb : w1.heap[pb]? = some (.cells (wkC Y (.slice O1 0 oc) (.slice (some ⟨gi, 0, none⟩) 1 ci)) 48 (0, 0))) (hkb : K1 pb = (8, 0)) (hO : Rk w1 K1 (8, 1) 31 1 (.slice O1 0 oc) 0 []) (hI : w1.heap[gi]? = some (.cells cur 31 (0, 0))) (hki : K1 gi = (8, 2)) (hi1 : 1 ≤ ci) (hi2 : ci ≤ maxLen) (hi3 : cur.size = ci)
    (hX : Rk w1 K1 (8, 3) 5 1 (.slice X1 0 xc) 0 []) (hs : ∀ x ∈ xs, x < 256) (hown : w2.ownsRow 0 5 1 (.slice a' n c') n (vals xs)) (hg : w1.grownBy w2 (Value.slice X1 0 xc).ownBlock) (hl : (Value.slice a' n c').ownBlock = (Value.slice X1 0 xc).ownBlock ∨ ∃ g, (Value.slice a' n c').ownBlock = some g ∧ w1.heap.size ≤ g)
    (hown3 : w3.ownsRow 0 31 1 (.slice (some ⟨go, 0, none⟩) 1 co) 1 [.slice a' n c']) (hg3 : ((w2.setCell ⟨gi, 0, none⟩ (.slice a' n c')).alloc (.cells #[.slice a' n c'] 31)).grownBy w3 (Value.slice O1 0 oc).ownBlock) (hat3 : (Value.slice O1 0 oc).ownBlock = some go ∨ go = ((w2.setCell ⟨gi, 0, none⟩ (.slice a' n c')).alloc (.cells #[.slice a' n c'] 31)).heap.size) :
    ∃ K', Kp P8 K0 K' w0 (w3.setCell ⟨pb, 13, none⟩ (.slice (some ⟨go, 0, none⟩) 1 co)) ∧ Plc1 Y (w3.setCell ⟨pb, 13, none⟩ (.slice (some ⟨go, 0, none⟩) 1 co)) K' pb (.slice a' n c') n xs ∧ (w3.setCell ⟨pb, 13, none⟩ (.slice (some ⟨go, 0, none⟩) 1 co)).cell? ⟨go, 0, none⟩ = some (.slice a' n c') ∧ Bytes (w3.setCell ⟨pb, 13, none⟩ (.slice (some ⟨go, 0, none⟩) 1 co)) a' xs ∧ (∀ g q, a' = some ⟨g, q, none⟩ → K' g = (8, 3)) := by
  have k12 : Kp P8 K1 (ext K1 w1.heap.size (8, 3)) w1 w2 := kp_grown hg K1 (8, 3) (8, 3) P8 (fun g e => hX.kind g e) rfl
  have hX2 : Rk w2 (ext K1 w1.heap.size (8, 3)) (8, 3) 5 1 (.slice a' n c') n (vals xs) := hX.grown hown hl
  have hb2 : w2.heap[pb]? = _ := (hg.block pb (lt_of_block hb) (fun e => by have := hX.kind pb e.symm; rw [hkb] at this; cases this)).trans hb
  have hI2 : w2.heap[gi]? = _ := (hg.block gi (lt_of_block hI) (fun e => by have := hX.kind gi e.symm; rw [hki] at this; cases this)).trans hI
  have hO2 : Rk w2 (ext K1 w1.heap.size (8, 3)) (8, 1) 31 1 (.slice O1 0 oc) 0 [] := ⟨owns_same hO.own (fun g e => hg.block g (rk_lt hO.own e) (fun e' => by have h1 := hX.kind g e'.symm; rw [hO.kind g e] at h1; cases h1)), fun g e => (ext_old _ _ (rk_lt hO.own e)).trans (hO.kind g e)⟩
  generalize hK2 : ext K1 w1.heap.size (8, 3) = K2 at *
  have hki2 : K2 gi = (8, 2) := by rw [← hK2, ext_old _ _ (lt_of_block hI)]; exact hki
  have hkb2 : K2 pb = (8, 0) := by rw [← hK2, ext_old _ _ (lt_of_block hb)]; exact hkb
  -- the store of the list
  obtain ⟨wa, hwa⟩ : ∃ wa, w2.setCell ⟨gi, 0, none⟩ (.slice a' n c') = wa := ⟨_, rfl⟩
  have ka : Kp (fun q => q = (8, 2)) K2 K2 w2 wa := by rw [← hwa]; exact (Kp.refl (fun q => q = (8, 2)) K2 w2).setCell (b := gi) (Or.inr hki2) _ _
  have hIa : wa.heap[gi]? = some (.cells (cur.setIfInBounds 0 (.slice a' n c')) 31 (0, 0)) := by rw [← hwa]; exact block_set hI2 _
  rw [hwa] at hg3 hat3
  obtain ⟨wb, hwb⟩ : ∃ wb, wa.alloc (.cells #[.slice a' n c'] 31) = wb := ⟨_, rfl⟩
  have kb : Kp (fun _ => False) K2 (ext K2 wa.heap.size (8, 1)) wa wb := by rw [← hwb]; exact kp_below ((Below.refl _ _).alloc (Nat.le_refl _) _) _ _ _
  rw [hwb] at hg3 hat3
  have hOb : Rk wb (ext K2 wa.heap.size (8, 1)) (8, 1) 31 1 (.slice O1 0 oc) 0 [] := (hO2.kept ka (by simp)).kept kb (fun h => h)
  have k3 : Kp P8 (ext K2 wa.heap.size (8, 1)) (ext (ext K2 wa.heap.size (8, 1)) wb.heap.size (8, 1)) wb w3 := kp_grown hg3 _ (8, 1) (8, 1) P8 (fun g e => hOb.kind g e) rfl
  have k3' : Kp (fun q => q = (8, 1)) (ext K2 wa.heap.size (8, 1)) (ext (ext K2 wa.heap.size (8, 1)) wb.heap.size (8, 1)) wb w3 := kp_grown hg3 _ (8, 1) (8, 1) _ (fun g e => hOb.kind g e) rfl
  have hO3 := hOb.grown hown3 (by rcases hat3 with e | e; exact Or.inl e.symm; exact Or.inr ⟨go, rfl, by omega⟩)
  have hX3 := ((hX2.kept ka (by simp)).kept kb (fun h => h)).kept k3' (by simp)
  have hI3 : w3.heap[gi]? = _ := (k3'.block gi (Nat.lt_of_lt_of_le (lt_of_block hIa) kb.size) (by rw [kb.same gi (lt_of_block hIa), hki2]; simp)).trans ((kb.block gi (lt_of_block hIa) (fun h => h)).trans hIa)
  have hb3 : w3.heap[pb]? = _ := (k3'.block pb (Nat.lt_of_lt_of_le (lt_of_block hb2) (Nat.le_trans ka.size kb.size)) (by rw [kb.same pb (Nat.lt_of_lt_of_le (lt_of_block hb2) ka.size), hkb2]; simp)).trans ((kb.block pb (Nat.lt_of_lt_of_le (lt_of_block hb2) ka.size) (fun h => h)).trans ((ka.block pb (lt_of_block hb2) (by rw [hkb2]; simp)).trans hb2))
  have hkb3 : (ext (ext K2 wa.heap.size (8, 1)) wb.heap.size (8, 1)) pb = (8, 0) := by rw [k3'.same pb (Nat.lt_of_lt_of_le (lt_of_block hb2) (Nat.le_trans ka.size kb.size)), kb.same pb (Nat.lt_of_lt_of_le (lt_of_block hb2) ka.size), hkb2]
  have hki3 : (ext (ext K2 wa.heap.size (8, 1)) wb.heap.size (8, 1)) gi = (8, 2) := by rw [k3'.same gi (Nat.lt_of_lt_of_le (lt_of_block hIa) kb.size), kb.same gi (lt_of_block hIa), hki2]
  have k03 := ((k01.trans k12).trans (ka.mono (q := P8) (fun q e => by subst e; rfl))).trans ((kb.mono (q := P8) (fun _ h => h.elim)).trans k3)
  generalize hK3 : ext (ext K2 wa.heap.size (8, 1)) wb.heap.size (8, 1) = K3 at *
  have ke : Kp (fun q => q = (8, 0)) K3 K3 w3 (w3.setCell ⟨pb, 13, none⟩ (.slice (some ⟨go, 0, none⟩) 1 co)) := (Kp.refl (fun q => q = (8, 0)) K3 w3).setCell (b := pb) (Or.inr hkb3) _ _
  have hO4 := hO3.kept ke (by simp)
  have hX4 := hX3.kept ke (by simp)
  have hI4 : (w3.setCell ⟨pb, 13, none⟩ (.slice (some ⟨go, 0, none⟩) 1 co)).heap[gi]? = _ := (ke.block gi (lt_of_block hI3) (by rw [hki3]; simp)).trans hI3
  refine ⟨K3, k03.trans (ke.mono (fun q e => by subst e; rfl)), ⟨_, _, _, _, by rw [block_set hb3]; rfl, hkb3, hO4, ⟨⟨rfl, Or.inr ⟨gi, ci, _, rfl, Nat.zero_le _, hI4, hi1, hi2, by simpa using hi3, ?_⟩⟩, fun g e => by cases e; exact hki3⟩, hX4⟩, ?_, ?_, fun g q e => hX3.kind g (by rw [e]; rfl)⟩
  · apply List.ext_getElem?
    intro i
    rw [List.getElem?_take]
    by_cases h0 : i = 0
    · subst h0; simp [show 0 < cur.size by omega]
    · rw [if_neg (by omega), List.getElem?_eq_none (by simp; omega)]
  · obtain ⟨g', c1, cur', e1, e2, _, _, _, _, e3⟩ := rk_one hO4
    cases e1
    simp only [World.cell?, e2]
    simpa using e3
  · exact Q.owns_bytes (Q.ownsQ_of (z := true) hX4.own) rfl hs
set_option maxRecDepth 100000 in
set_option maxHeartbeats 2000000 in
theorem rows_there (Y : Wc) (w : World) (K : Knd) (pb lb : Nat) (O I X : Value) (no m : Nat) (os : List Value) (ys : List Nat) (h : Pl1 Y w K pb O I X no m os ys) (sp : Option Addr) (n c : Nat) (xs : List Nat) (hl : w.cell? ⟨lb, 0, none⟩ = some (.slice sp n c)) (hkl : K lb = (0, 0)) (hx : Bytes w sp xs) (hn : xs.length = n) (hn4 : n ≤ 140737488351232) (hsk : xs = [] ∨ ∀ g q, sp = some ⟨g, q, none⟩ → (K g).1 ≠ 8) :
    Calls Tryz.prog 96 #[.pointer (some ⟨pb, 13, none⟩), .slice (some ⟨lb, 0, none⟩) 1 1] w (RoPost Y K pb n xs w) := by
  obtain ⟨i1, hi1, hz10, hz11, hz12⟩ := info_parts Tryz.infoBb
  have hlt : lb < w.heap.size := cell_block hl
  obtain ⟨gi, ci, cur, rfl, hgi, hki1, hc1, hc2, hc3, hc0⟩ := rk_one h.i
  obtain ⟨O1, oc, rfl, ho1, ho2⟩ := h.o.form
  obtain ⟨X1, xc, rfl, hx1', hx2⟩ := h.x.form
  obtain ⟨w1, hw1⟩ : ∃ w1, w.setCell ⟨pb, 13, none⟩ (.slice O1 0 oc) = w1 := ⟨_, rfl⟩
  have k00 : Kp (fun q => q = (8, 0)) K K w w1 := by rw [← hw1]; exact (Kp.refl (fun q => q = (8, 0)) K w).setCell (b := pb) (Or.inr h.kb) _ _
  have k01 : Kp P8 K K w w1 := k00.mono (fun q e => by subst e; rfl)
  have hb1 : w1.heap[pb]? = some (.cells (wkC Y (.slice O1 0 oc) (.slice (some ⟨gi, 0, none⟩) 1 ci)) 48 (0, 0)) := by rw [← hw1, block_set h.blk]; rfl
  have hgi1 : w1.heap[gi]? = _ := (k00.block gi (lt_of_block hgi) (by rw [hki1]; simp)).trans hgi
  have hO1 := (rk_cut h.o).kept k00 (by simp)
  have hX1 := (rk_cut h.x).kept k00 (by simp)
  have hl1 : w1.cell? ⟨lb, 0, none⟩ = some (.slice sp n c) := (World.cell?_of_block (k00.block lb hlt (by rw [hkl]; simp))).trans hl
  have hx1 : Bytes w1 sp xs := bytes_or hx k00.size (hsk.imp id (fun e g q e2 hg => k00.block g hg (fun h => e g q e2 (by rw [h]))))
  have t0 : w1.cell? ⟨gi, 0, none⟩ = some (.slice X1 m xc) := by simp only [World.cell?, hgi1]; simpa using hc0
  have hkb1 := h.kb
  have HSm := hide hx.small
  obtain ⟨q0, q1, qf⟩ := blkW h.blk
  have kd : Kp (fun _ => False) K K w1 w1.drew := (Kp.refl _ _ _).drew
  obtain ⟨a', c', w2, hr, ho, hg, hlz⟩ := run_app_bytes (w := w1.drew) (hX1.kept kd (fun h => h)).own (c := c) hn (bytes_or hx1 (Nat.le_refl _) (Or.inr (fun _ _ _ _ => rfl))) (by omega) 31
  simp only [Nat.zero_add, List.nil_append] at hr ho hlz
  have HR := hide hr
  have HOwn := hide ho
  have HGr := hide hg
  have HLz := hide hlz
  have HX1 := hide (hX1.kept kd (fun h => h))
  have HO1 := hide (hO1.kept kd (fun h => h))
  have HB1 := hide hb1
  have HGi := hide hgi1
  have HK01 : Hid (Kp P8 K K w w1.drew) := k01.trans (kd.mono (fun _ h => h.elim))
  have HKb := hide hkb1
  have HKi := hide hki1
  have HC3 := hide hc3
  have hO2 : w2.ownsRow 0 31 1 (.slice O1 0 oc) 0 [] := owns_same hO1.own (fun g e => hg.block g (rk_lt hO1.own e) (fun e' => by have h1 := hX1.kind g e'.symm; rw [hO1.kind g e] at h1; cases h1))
  have hb2 : w2.heap[pb]? = _ := (hg.block pb (lt_of_block hb1) (fun e => by have := hX1.kind pb e.symm; rw [hkb1] at this; cases this)).trans hb1
  have hI2 : w2.heap[gi]? = _ := (hg.block gi (lt_of_block hgi1) (fun e => by have := hX1.kind gi e.symm; rw [hki1] at this; cases this)).trans hgi1
  obtain ⟨r0, r1, rf⟩ := blkW hb1
  obtain ⟨s0, s1, sf⟩ := blkW hb2
  have t2 : w2.cell? ⟨gi, 0, none⟩ = some (.slice X1 m xc) := (World.cell?_of_block (hI2.trans hgi1.symm)).trans t0
  have tf : ∀ o, w2.frozen? ⟨gi, o, none⟩ = false := fun o => by simp [World.frozen?, hI2]
  have hne : gi ≠ pb := fun e => by have := hki1; rw [e, hkb1] at this; cases this
  obtain ⟨wa, hwa⟩ : ∃ wa, w2.setCell ⟨gi, 0, none⟩ (.slice a' n c') = wa := ⟨_, rfl⟩
  have hba : wa.heap[pb]? = some (.cells (wkC Y (.slice O1 0 oc) (.slice (some ⟨gi, 0, none⟩) 1 ci)) 48 (0, 0)) := by rw [← hwa]; exact (Below.heap_setCell _ _ _ _ (Ne.symm hne)).trans hb2
  obtain ⟨u0, u1, uf⟩ := blkW hba
  have HOa : Hid (wa.ownsRow 0 31 1 (.slice O1 0 oc) 0 []) := owns_same hO2 (fun g e => by
    rw [← hwa]
    exact Below.heap_setCell _ _ _ _ (fun e' => by
      have h1 := hO1.kind g e
      have h2 : g = gi := e'
      rw [h2, hki1] at h1; cases h1))
  have HBa := hide hba
  have HWa := hide hwa
  have hpl : pb < w1.heap.size := lt_of_block hb1
  clear hki1 hkb1 hc3 hO1 hX1 hx1 hr ho hg hlz hb1 hgi1 k01 kd hb2 hI2 hba hwa hO2
  clear h hl hkl hx hsk hgi hc0 hlt k00
  go_enter Tryz.func96, Tryz.ntmps96
  go_wp2
  clear hw1 q0 q1 qf
  go_loopw [5] (fun i wr => (i = .int .i64 0 ∧ wr = w1) ∨ (i = .int .i64 1 ∧ ∃ (K' : Knd) (go co : Nat) (a' : Option Addr) (c' : Nat), wr.cell? ⟨pb, 13, none⟩ = some (.slice (some ⟨go, 0, none⟩) 1 co) ∧ 1 ≤ co ∧ Hid (Kp P8 K K' w wr) ∧ Hid (Plc1 Y wr K' pb (.slice a' n c') n xs) ∧ Hid (wr.cell? ⟨go, 0, none⟩ = some (.slice a' n c')) ∧ Hid (Bytes wr a' xs) ∧ Hid (∀ g q, a' = some ⟨g, q, none⟩ → K' g = (8, 3)))) (fun i _ => 1 - (intOf i).toNat)
  case atStart => exact Or.inl ⟨rfl, rfl⟩
  case round =>
    rcases hrel with ⟨rfl, rfl⟩ | ⟨rfl, K', go, co, a', c', e0, e1, HA, HB, HC, HD, HE⟩
    · go_wp2
      go_region_law (first | (refine step_app_run (by kernel_rfl) (.tmp 44) (.tmp 48) 31 31 (by rfl) _ _ _ _ (by rfl) (by rfl) HR.out ?_))
      all_goals go_upto_region 9 with (fail)
      all_goals rw [HWa.out]
      all_goals go_wp2_with (at_builtin; refine wpList_append_lies _ rfl (.tmp 61) (.tmp 63) 44 rfl 0 31 i1 (.slice none 0 0) 1 24 Tryz.underlying44 hi1 hz10 hz11 hz12 rfl (by omega) (.slice O1 0 oc) 0 _ rfl (HOa.out.alloc _) ⟨wa.heap.size, 0, none⟩ 1 1 [.slice a' n c'] rfl rfl (World.news_of_block (heap_alloc_new wa (.cells #[.slice a' n c'] 31))) (by simp [Value.oneCell']) (by omega) (by unfold maxLen; omega) (by omega) (Nat.zero_le _) _ rfl ?_; intro gl cl w3 hown3 hgrow3 hat3 hlt3; have HO3 := hide hown3; have HG3 := hide hgrow3; have HA3 := hide hat3; have hb3 : w3.heap[pb]? = _ := (hgrow3.block pb (by simp; exact Nat.lt_succ_of_lt (lt_of_block HBa.out)) (fun e => by have := HO1.out.kind pb e.symm; rw [HKb.out] at this; cases this)).trans ((Below.heap_alloc _ _ _ (lt_of_block HBa.out)).trans HBa.out); obtain ⟨v0, v1, vf⟩ := blkW hb3; have HB3 := hide hb3; clear hown3 hgrow3 hat3 hlt3 hb3)
      all_goals
        obtain ⟨K', d1, d2, d3, d4, d5⟩ := place_done (w0 := w) (w1 := wr.drew) (w2 := w2) (w3 := w3) HK01.out HB1.out HKb.out HO1.out HGi.out HKi.out hc1 hc2 HC3.out HX1.out HSm.out HOwn.out HGr.out HLz.out (by simpa using HO3.out) (by rw [HWa.out]; exact HG3.out) (by rw [HWa.out]; exact HA3.out)
        obtain ⟨_, _, cu3, e1, e2, _, e3, _⟩ := rk_one (w := w3) (K := fun _ => (0, 0)) (k := (0, 0)) (x := .slice a' n c') (v := .slice (some ⟨gl, 0, none⟩) 1 cl) ⟨by simpa using HO3.out, fun _ _ => rfl⟩
        cases e1
        exact ⟨Or.inr ⟨rfl, K', _, _, a', c', (blkW (show (w3.setCell ⟨pb, 13, none⟩ _).heap[pb]? = _ by rw [block_set HB3.out]; rfl)).1, e3, d1, d2, d3, d4, d5⟩, by simp [intOf]⟩
    · go_wp2
      go_ret
      exact ⟨K', go, co, a', c', rfl, e1, HC.out, HD.out, HB.out, HA.out, HE.out⟩
set_option maxRecDepth 100000 in
set_option maxHeartbeats 2000000 in
theorem rows_new (Y : Wc) (w : World) (K : Knd) (pb lb : Nat) (hb : w.heap[pb]? = some (.cells (wkC Y (.slice none 0 0) (.slice none 0 0)) 48 (0, 0))) (hkb : K pb = (8, 0)) (sp : Option Addr) (n c : Nat) (xs : List Nat) (hl : w.cell? ⟨lb, 0, none⟩ = some (.slice sp n c)) (hkl : K lb = (0, 0)) (hx : Bytes w sp xs) (hn : xs.length = n) (hn4 : n ≤ 140737488351232) (hsk : xs = [] ∨ ∀ g q, sp = some ⟨g, q, none⟩ → (K g).1 ≠ 8) :
    Calls Tryz.prog 96 #[.pointer (some ⟨pb, 13, none⟩), .slice (some ⟨lb, 0, none⟩) 1 1] w (RoPost Y K pb n xs w) := by
  obtain ⟨i1, hi1, hz10, hz11, hz12⟩ := info_parts Tryz.infoBb
  have hlt : lb < w.heap.size := cell_block hl
  obtain ⟨w1, hw1⟩ : ∃ w1, w.setCell ⟨pb, 13, none⟩ (.slice none 0 0) = w1 := ⟨_, rfl⟩
  have hw1' : w1 = w := by rw [← hw1]; exact set_cell_same hb rfl
  rw [hw1'] at hw1
  clear hw1'
  have HSm := hide hx.small
  obtain ⟨q0, q1, qf⟩ := blkW hb
  have HB0 := hide hb
  have HKb0 := hide hkb
  have HX0 := hide hx
  have HSk := hide hsk
  have HKl := hide hkl
  have HN0 : Hid (w.ownsRow 0 31 1 (.slice none 0 0) 0 []) := ⟨rfl, Or.inl ⟨rfl, rfl⟩⟩
  clear hb hkb hx hsk hkl w1
  go_enter Tryz.func96, Tryz.ntmps96
  go_wp2
  clear hw1
  go_loopw [5] (fun i wr => (i = .int .i64 0 ∧ wr = w) ∨ (i = .int .i64 1 ∧ ∃ (K' : Knd) (go co : Nat) (a' : Option Addr) (c' : Nat), wr.cell? ⟨pb, 13, none⟩ = some (.slice (some ⟨go, 0, none⟩) 1 co) ∧ 1 ≤ co ∧ Hid (Kp P8 K K' w wr) ∧ Hid (Plc1 Y wr K' pb (.slice a' n c') n xs) ∧ Hid (wr.cell? ⟨go, 0, none⟩ = some (.slice a' n c')) ∧ Hid (Bytes wr a' xs) ∧ Hid (∀ g q, a' = some ⟨g, q, none⟩ → K' g = (8, 3)))) (fun i _ => 1 - (intOf i).toNat)
  case atStart => exact Or.inl ⟨rfl, rfl⟩
  case round =>
    rcases hrel with ⟨rfl, rfl⟩ | ⟨rfl, K', go, co, a', c', e0, e1, HA, HB, HC, HD, HE⟩
    · go_upto_region 7 with (at_builtin; refine wpList_append_lies _ rfl (.tmp 32) (.tmp 33) 44 rfl 0 31 i1 (.slice none 0 0) 1 24 Tryz.underlying44 hi1 hz10 hz11 hz12 rfl (by omega) (.slice none 0 0) 0 _ rfl (HN0.out.alloc _) ⟨wr.heap.size, 0, none⟩ 1 1 [.slice none 0 0] rfl rfl (World.news_of_block (heap_alloc_new wr (.cells #[.slice none 0 0] 31))) (by simp [Value.oneCell']) (by omega) (by unfold maxLen; omega) (by omega) (Nat.zero_le _) _ rfl ?_; intro gi ci w5 hown5 hgrow5 hat5 hlt5; have HO5 := hide hown5; have HG5 := hide hgrow5; have HA5 := hide hat5; have hb5 : w5.heap[pb]? = _ := (hgrow5.block pb (by simp; exact Nat.lt_succ_of_lt (lt_of_block HB0.out)) (fun e => by simp [Value.ownBlock] at e)).trans ((Below.heap_alloc _ _ _ (lt_of_block HB0.out)).trans HB0.out); obtain ⟨p0, p1, pf⟩ := blkW hb5; have HB5 := hide hb5; clear hown5 hgrow5 hat5 hlt5 hb5)
      have hbw : Below wr.heap.size wr w5 := ((Below.refl _ _).alloc (Nat.le_refl _) (.cells #[.slice none 0 0] 31)).trans ⟨HG5.out.os, HG5.out.tape, HG5.out.output, Nat.le_trans (by simp) HG5.out.size, fun b hb => HG5.out.block b (by simp; omega) (fun e => by simp [Value.ownBlock] at e)⟩
      have hgn : wr.heap.size ≤ gi := by
        rcases HA5.out with e | e
        · simp [Value.ownBlock] at e
        · simp at e; omega
      have k05 : Kp (fun _ => False) K (ext K wr.heap.size (8, 2)) wr w5 := kp_below hbw _ _ _
      have hkb5 : ext K wr.heap.size (8, 2) pb = (8, 0) := by rw [ext_old _ _ (lt_of_block HB0.out)]; exact HKb0.out
      obtain ⟨w1, hw1⟩ : ∃ w1, w5.setCell ⟨pb, 14, none⟩ (.slice (some ⟨gi, 0, none⟩) 1 ci) = w1 := ⟨_, rfl⟩
      obtain ⟨_, _, cur, e1, e2, _, hc1, hc2, hc3, hc0⟩ := rk_one (w := w5) (K := fun _ => (0, 0)) (k := (0, 0)) (x := .slice none 0 0) (v := .slice (some ⟨gi, 0, none⟩) 1 ci) ⟨by simpa using HO5.out, fun _ _ => rfl⟩
      cases e1
      have hki1 : ext K wr.heap.size (8, 2) gi = (8, 2) := ext_new _ _ hgn
      generalize hK1 : ext K wr.heap.size (8, 2) = K1 at *
      have k51 : Kp (fun q => q = (8, 0)) K1 K1 w5 w1 := by rw [← hw1]; exact (Kp.refl (fun q => q = (8, 0)) K1 w5).setCell (b := pb) (Or.inr hkb5) _ _
      have k01 : Kp P8 K K1 wr w1 := (k05.mono (fun _ h => h.elim)).trans (k51.mono (fun q e => by subst e; rfl))
      have hb1 : w1.heap[pb]? = some (.cells (wkC Y (.slice none 0 0) (.slice (some ⟨gi, 0, none⟩) 1 ci)) 48 (0, 0)) := by rw [← hw1, block_set HB5.out]; rfl
      have hgi1 : w1.heap[gi]? = _ := (k51.block gi (lt_of_block e2) (by rw [hki1]; simp)).trans e2
      obtain ⟨O1, hO1e⟩ : ∃ O1 : Option Addr, O1 = none := ⟨_, rfl⟩
      obtain ⟨oc, hoc⟩ : ∃ oc, oc = 0 := ⟨_, rfl⟩
      obtain ⟨X1, hX1e⟩ : ∃ X1 : Option Addr, X1 = none := ⟨_, rfl⟩
      obtain ⟨xc, hxc⟩ : ∃ xc, xc = 0 := ⟨_, rfl⟩
      obtain ⟨m, hm⟩ : ∃ m, m = 0 := ⟨_, rfl⟩
      have hO1 : Rk w1 K1 (8, 1) 31 1 (.slice O1 0 oc) 0 [] := by rw [hO1e, hoc]; exact rk_nil _ _ _ _ _
      have hX1 : Rk w1 K1 (8, 3) 5 1 (.slice X1 0 xc) 0 [] := by rw [hX1e, hxc]; exact rk_nil _ _ _ _ _
      have hl1 : w1.cell? ⟨lb, 0, none⟩ = some (.slice sp n c) := (World.cell?_of_block (k01.block lb hlt (by rw [HKl.out]; intro e; cases e))).trans hl
      have hx1 : Bytes w1 sp xs := bytes_or HX0.out k01.size (HSk.out.imp id (fun e g q e2 hg => k01.block g hg (fun h => e g q e2 h)))
      have t0 : w1.cell? ⟨gi, 0, none⟩ = some (.slice X1 m xc) := by rw [hX1e, hm, hxc]; simp only [World.cell?, hgi1]; simpa using hc0
      have hkb1 := hkb5
      rw [show (Value.slice none 0 0) = .slice O1 0 oc by rw [hO1e, hoc]] at hb1
      have hl0 : 0 ≤ xc := Nat.zero_le _
      have hm0 : m ≤ xc := by omega
      have kd : Kp (fun _ => False) K1 K1 w1 w1.drew := (Kp.refl _ _ _).drew
      obtain ⟨a', c', w2, hr, ho, hg, hlz⟩ := run_app_bytes (w := w1.drew) (hX1.kept kd (fun h => h)).own (c := c) hn (bytes_or hx1 (Nat.le_refl _) (Or.inr (fun _ _ _ _ => rfl))) (by omega) 31
      simp only [Nat.zero_add, List.nil_append] at hr ho hlz
      have HR := hide hr
      have HOwn := hide ho
      have HGr := hide hg
      have HLz := hide hlz
      have HX1 := hide (hX1.kept kd (fun h => h))
      have HO1 := hide (hO1.kept kd (fun h => h))
      have HB1 := hide hb1
      have HGi := hide hgi1
      have HK01 : Hid (Kp P8 K K1 wr w1.drew) := k01.trans (kd.mono (fun _ h => h.elim))
      have HKb := hide hkb1
      have HKi := hide hki1
      have HC3 := hide hc3
      have hO2 : w2.ownsRow 0 31 1 (.slice O1 0 oc) 0 [] := owns_same hO1.own (fun g e => hg.block g (rk_lt hO1.own e) (fun e' => by have h1 := hX1.kind g e'.symm; rw [hO1.kind g e] at h1; cases h1))
      have hb2 : w2.heap[pb]? = _ := (hg.block pb (lt_of_block hb1) (fun e => by have := hX1.kind pb e.symm; rw [hkb1] at this; cases this)).trans hb1
      have hI2 : w2.heap[gi]? = _ := (hg.block gi (lt_of_block hgi1) (fun e => by have := hX1.kind gi e.symm; rw [hki1] at this; cases this)).trans hgi1
      obtain ⟨r0, r1, rf⟩ := blkW hb1
      obtain ⟨s0, s1, sf⟩ := blkW hb2
      have t2 : w2.cell? ⟨gi, 0, none⟩ = some (.slice X1 m xc) := (World.cell?_of_block (hI2.trans hgi1.symm)).trans t0
      have tf : ∀ o, w2.frozen? ⟨gi, o, none⟩ = false := fun o => by simp [World.frozen?, hI2]
      have hne : gi ≠ pb := fun e => by have := hki1; rw [e, hkb1] at this; cases this
      obtain ⟨wa, hwa⟩ : ∃ wa, w2.setCell ⟨gi, 0, none⟩ (.slice a' n c') = wa := ⟨_, rfl⟩
      have hba : wa.heap[pb]? = some (.cells (wkC Y (.slice O1 0 oc) (.slice (some ⟨gi, 0, none⟩) 1 ci)) 48 (0, 0)) := by rw [← hwa]; exact (Below.heap_setCell _ _ _ _ (Ne.symm hne)).trans hb2
      obtain ⟨u0, u1, uf⟩ := blkW hba
      have HOa : Hid (wa.ownsRow 0 31 1 (.slice O1 0 oc) 0 []) := owns_same hO2 (fun g e => by
        rw [← hwa]
        exact Below.heap_setCell _ _ _ _ (fun e' => by
          have h1 := hO1.kind g e
          have h2 : g = gi := e'
          rw [h2, hki1] at h1; cases h1))
      have HBa := hide hba
      have HWa := hide hwa
      have hpl : pb < w1.heap.size := lt_of_block hb1
      clear hki1 hkb1 hc3 hO1 hX1 hx1 hr ho hg hlz hb1 hgi1 k01 kd hb2 hI2 hba hwa hO2
      clear k05 k51 hbw e2 hK1 hO1e hoc hX1e hxc hm
      rw [hw1]
      clear hw1
      go_region_law (first | (refine step_app_run (by kernel_rfl) (.tmp 44) (.tmp 48) 31 31 (by rfl) _ _ _ _ (by rfl) (by rfl) HR.out ?_))
      all_goals go_upto_region 9 with (fail)
      all_goals rw [HWa.out]
      all_goals go_wp2_with (at_builtin; refine wpList_append_lies _ rfl (.tmp 61) (.tmp 63) 44 rfl 0 31 i1 (.slice none 0 0) 1 24 Tryz.underlying44 hi1 hz10 hz11 hz12 rfl (by omega) (.slice O1 0 oc) 0 _ rfl (HOa.out.alloc _) ⟨wa.heap.size, 0, none⟩ 1 1 [.slice a' n c'] rfl rfl (World.news_of_block (heap_alloc_new wa (.cells #[.slice a' n c'] 31))) (by simp [Value.oneCell']) (by omega) (by unfold maxLen; omega) (by omega) (Nat.zero_le _) _ rfl ?_; intro gl cl w3 hown3 hgrow3 hat3 hlt3; have HO3 := hide hown3; have HG3 := hide hgrow3; have HA3 := hide hat3; have hb3 : w3.heap[pb]? = _ := (hgrow3.block pb (by simp; exact Nat.lt_succ_of_lt (lt_of_block HBa.out)) (fun e => by have := HO1.out.kind pb e.symm; rw [HKb.out] at this; cases this)).trans ((Below.heap_alloc _ _ _ (lt_of_block HBa.out)).trans HBa.out); obtain ⟨v0, v1, vf⟩ := blkW hb3; have HB3 := hide hb3; clear hown3 hgrow3 hat3 hlt3 hb3)
      all_goals
        obtain ⟨K', d1, d2, d3, d4, d5⟩ := place_done (w0 := wr) (w1 := w1.drew) (w2 := w2) (w3 := w3) HK01.out HB1.out HKb.out HO1.out HGi.out HKi.out hc1 hc2 HC3.out HX1.out HSm.out HOwn.out HGr.out HLz.out (by simpa using HO3.out) (by rw [HWa.out]; exact HG3.out) (by rw [HWa.out]; exact HA3.out)
        obtain ⟨_, _, cu3, e1, e2, _, e3, _⟩ := rk_one (w := w3) (K := fun _ => (0, 0)) (k := (0, 0)) (x := .slice a' n c') (v := .slice (some ⟨gl, 0, none⟩) 1 cl) ⟨by simpa using HO3.out, fun _ _ => rfl⟩
        cases e1
        exact ⟨Or.inr ⟨rfl, K', _, _, a', c', (blkW (show (w3.setCell ⟨pb, 13, none⟩ _).heap[pb]? = _ by rw [block_set HB3.out]; rfl)).1, e3, d1, d2, d3, d4, d5⟩, by simp [intOf]⟩
    · go_wp2
      go_ret
      exact ⟨K', go, co, a', c', rfl, e1, HC.out, HD.out, HB.out, HA.out, HE.out⟩
def PbPost (Y : Wc) (K : Knd) (pb n : Nat) (xs : List Nat) (w : World) (e : Ending) (w' : World) : Prop := ∃ K' a c, e = .returned (.slice a n c) ∧ Bytes w' a xs ∧ Plc1 Y w' K' pb (.slice a n c) n xs ∧ Kp P8 K K' w w' ∧ (∀ g q, a = some ⟨g, q, none⟩ → K' g = (8, 3))
set_option maxRecDepth 100000 in
set_option maxHeartbeats 1000000 in
theorem pbytes_any (Y : Wc) (w : World) (K : Knd) (pb : Nat) (h : Plc Y w K pb) (sp : Option Addr) (n c : Nat) (xs : List Nat) (hx : Bytes w sp xs) (hn : xs.length = n) (hn4 : n ≤ 140737488351232) (hsk : xs = [] ∨ ∀ g q, sp = some ⟨g, q, none⟩ → g < w.heap.size ∧ (K g).1 ≠ 8) :
    Calls Tryz.prog 50 #[.pointer (some ⟨pb, 13, none⟩), .slice sp n c] w (PbPost Y K pb n xs w) := by
  obtain ⟨w1, hw1⟩ : ∃ w1, w.alloc (.cells #[.slice sp n c] 31) = w1 := ⟨_, rfl⟩
  have hb1 : Below w.heap.size w w1 := by rw [← hw1]; exact (Below.refl _ _).alloc (Nat.le_refl _) _
  have hl1 : w1.heap[w.heap.size]? = some (.cells #[.slice sp n c] 31 (0, 0)) := by rw [← hw1]; exact heap_alloc_new _ _
  have k1 : Kp P8 K (ext K w.heap.size (0, 0)) w w1 := kp_below hb1 _ _ _
  have hP1 : Plc Y w1 (ext K w.heap.size (0, 0)) pb := h.kept (kp_below hb1 (fun _ => False) _ _) (fun _ h => h)
  have hx1 := hx.below hb1
  have hs1 : xs = [] ∨ ∀ g q, sp = some ⟨g, q, none⟩ → (ext K w.heap.size (0, 0) g).1 ≠ 8 := hsk.imp id (fun e g q e2 => by rw [ext_old _ _ (e g q e2).1]; exact (e g q e2).2)
  have hc1 : w1.cell? ⟨w.heap.size, 0, none⟩ = some (.slice sp n c) := by simp [World.cell?, hl1]
  have hk1 : ext K w.heap.size (0, 0) w.heap.size = (0, 0) := ext_new _ _ (Nat.le_refl _)
  have HC : Hid (Calls Tryz.prog 96 #[.pointer (some ⟨pb, 13, none⟩), .slice (some ⟨w.heap.size, 0, none⟩) 1 1] w1 (RoPost Y (ext K w.heap.size (0, 0)) pb n xs w1)) := by
    rcases hP1 with ⟨h1, h2⟩ | ⟨O, I, X, no, m, os, ys, h1⟩
    · exact rows_new Y w1 _ pb _ h1 h2 sp n c xs hc1 hk1 hx1 hn hn4 hs1
    · exact rows_there Y w1 _ pb _ O I X no m os ys h1 sp n c xs hc1 hk1 hx1 hn hn4 hs1
  have HK1 := hide k1
  have HW1 := hide hw1
  clear h hx hsk hb1 hl1 k1 hP1 hx1 hs1 hc1 hk1 hw1
  go_enter Tryz.func50, Tryz.ntmps50
  go_wp2_with fail
  rw [HW1.out]
  refine HC.out.mono ?_
  rintro e w2 ⟨K', go, co, a, c', rfl, h1, h2, h3, h4, h5, h6⟩
  have HB := hide h3
  have HP := hide h4
  have HK := hide (HK1.out.trans h5)
  have H6 := hide h6
  have h7 : (1 : Int) ≤ (co : Int) := by omega
  clear h3 h4 h5 h6
  go_wp2
  go_ret
  exact ⟨K', a, c', rfl, HB.out, HP.out, HK.out, H6.out⟩
end Go.Proofs.YtjcdnclfakmbpaaGreatDoor.Pw
