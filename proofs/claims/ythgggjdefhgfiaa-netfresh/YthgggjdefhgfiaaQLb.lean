import Derived.Test.YthgggjdefhgfiaaQLa
namespace Go.Proofs.Ythgggjdefhgfiaa.Q
open Go.RowKit

set_option maxRecDepth 100000 in
set_option maxHeartbeats 2000000 in
theorem late_add (K : Knd) (w : World) (t : Nat) (G W : Value) (xs : List Gt) (p : Option Addr) (l c : Nat) (ys : List Nat) (sp : Option Addr) (sc : Nat) (h : Lt K w t G W xs) (hrow : ownsQ true w 0 5 1 (.slice p l c) l (vals ys)) (hcx : ∀ g, (Value.slice p l c).ownBlock = some g → K g = (7, xs.length)) (hy : BytesS (fun k => K k ≠ (6, 0)) w sp ys) (hl : l ≤ 140737488355328) (hxs : xs.length ≤ 5000) :
    Calls Try.prog 19 #[.pointer (some ⟨t, 0, none⟩), .slice p l c, .slice sp l sc] w fun e w' => e = .returned (.tuple #[]) ∧ ∃ G' W' wp wc, Lt (ext K w.heap.size (6, 0)) w' t G' W' (xs ++ [⟨p, l, c, ys, wp, wc⟩]) ∧ Kp (fun q => q = (6, 0)) K (ext K w.heap.size (6, 0)) w w' := by
  obtain ⟨i1, hi1, hz10, hz11, hz12⟩ := info_parts Try.infoBy
  have HL := hide h
  have HRow := hide hrow
  have HCx := hide hcx
  have HY := hide hy
  have HYl : Hid (ys.length = l) := by have := hrow.1; rw [vals_len] at this; show _ = _; omega
  obtain ⟨c0, c1, cf⟩ := blk2 h.blk
  clear h hrow hcx hy
  go_enter Try.func19, Try.ntmps19
  go_upto_region 1 with (at_builtin; refine wpList_append_lies _ rfl (.tmp 10) (.tmp 12) 30 rfl 0 59 i1 (.slice none 0 0) 1 24 Try.underlying30 hi1 hz10 hz11 hz12 rfl (by omega) G xs.length _ rfl (HL.out.gs.row.alloc _) ⟨w.heap.size, 0, none⟩ 1 1 [.slice p l c] rfl rfl (World.news_of_block (heap_alloc_new w (.cells #[.slice p l c] 59))) (by simp [Value.oneCell']) (by omega) (by unfold maxLen; omega) (by omega) (Nat.zero_le _) _ rfl ?_; intro gl cl w3 hown3 hgrow3 hat3 hlt3; have k3 : Kept (fun i => some i = G.ownBlock) w w3 := (kept_below (S := fun i => some i = G.ownBlock) ((Below.refl _ _).alloc (Nat.le_refl _) (.cells #[.slice p l c] 59))).trans (kept_grown hgrow3) (fun i e => Or.inl e); have HK3 := hide k3; have HB3 := hide ((k3.block t (lt_of_block HL.out.blk) (fun e => owns_ne HL.out.gs HL.out.blk (by decide) e.symm)).trans HL.out.blk); obtain ⟨c30, c31, cf3⟩ := blk2 HB3.out; have HL3 := hide (ownsQ_of (z := false) hown3); have HA3 := hide hat3; clear hown3 hgrow3 hat3 hlt3 k3)
  have HB4 : Hid ((w3.setCell ⟨t, 0, none⟩ (.slice (some ⟨gl, 0, none⟩) (xs.length + 1) cl)).heap[t]? = some (.cells #[.slice (some ⟨gl, 0, none⟩) (xs.length + 1) cl, W] 66 (0, 0))) := by show _ = _; rw [block_set HB3.out]; rfl
  have HL4 : Hid (ownsQ false (w3.setCell ⟨t, 0, none⟩ (.slice (some ⟨gl, 0, none⟩) (xs.length + 1) cl)) 0 59 1 (.slice (some ⟨gl, 0, none⟩) (xs.length + 1) cl) (xs.length + 1) ((xs.map fun x => x.val) ++ [.slice p l c])) := owns_kept' HL3.out (fun g e => Below.heap_setCell _ _ _ _ (fun e' => owns_ne HL3.out HB3.out (by decide) (by rw [e, e'])))
  have HK4 : Hid (Kept (fun i => i = t ∨ some i = G.ownBlock) w (w3.setCell ⟨t, 0, none⟩ (.slice (some ⟨gl, 0, none⟩) (xs.length + 1) cl))) := ((Kept.refl _ _).trans HK3.out (fun i e => Or.inl (Or.inr e))).trans (kept_but ((But.refl t w3).setCell (p := ⟨t, 0, none⟩) (Or.inl rfl) _)) (fun i e => Or.inl (Or.inl e))
  generalize w3.setCell ⟨t, 0, none⟩ (.slice (some ⟨gl, 0, none⟩) (xs.length + 1) cl) = w4 at *
  clear HK3 HB3 HL3 c30 c31 cf3 c0 c1 cf
  have HW4 : Hid (ownsQ false w4 0 59 1 W xs.length (xs.map fun x => x.wal)) := owns_kept' HL.out.ws (fun g e => HK4.out.block g (owns_lt HL.out.ws g e) (by
    rintro (e' | e')
    · subst e'; exact owns_ne HL.out.ws HL.out.blk (by decide) e
    · exact HL.out.far g e'.symm e))
  have HY4 : Hid (Bytes w4 sp ys) := (HY.out.kept (fun k hk hlt => HK4.out.block k hlt (by
    rintro (e' | e')
    · exact hk (by rw [e']; exact HL.out.ct)
    · exact hk (HL.out.cg k e'.symm))) HK4.out.size).bytes
  have hv := conv_str (HY4.out.below (Below.refl _ _).drew) HYl.out sc
  obtain ⟨w5, wc, hcv, hb5, hs5, hl5⟩ := conv_bytes w4.drew ys HY.out.small
  rw [HYl.out] at hcv
  have HLi5 := hide hl5
  have HB5 : Hid (Below w4.heap.size w4 w5) := (Below.refl _ w4).drew.trans hb5
  have HS5 : Hid (w5.heap.size = w4.heap.size + 1) := hs5
  obtain ⟨c40, c41, cf4⟩ := blk2 HB4.out
  have ht4 : t < w4.heap.size := lt_of_block HB4.out
  have HT5 : Hid (w5.heap[t]? = some (.cells #[.slice (some ⟨gl, 0, none⟩) (xs.length + 1) cl, W] 66 (0, 0))) := (HB5.out.block t ht4).trans HB4.out
  obtain ⟨c50, c51, cf5⟩ := blk2 HT5.out
  have HW5 : Hid (ownsQ false w5 0 59 1 W xs.length (xs.map fun x => x.wal)) := owns_kept' HW4.out (fun g e => HB5.out.block g (owns_lt HW4.out g e))
  have HT6 : Hid ((w5.alloc (.cells #[.slice (some ⟨w4.heap.size, 0, none⟩) l wc] 59)).heap[t]? = some (.cells #[.slice (some ⟨gl, 0, none⟩) (xs.length + 1) cl, W] 66 (0, 0))) := (Below.heap_alloc _ _ _ (by have := HS5.out; omega)).trans HT5.out
  obtain ⟨c60, c61, cf6⟩ := blk2 HT6.out
  clear hb5 hs5 hl5
  generalize str ys = S at *
  go_region_law (first | (refine step_append_lies _ (by rfl) (.tmp 20) (.tmp 24) 30 (by rfl) 0 59 i1 (.slice none 0 0) 1 24 Try.underlying30 hi1 hz10 hz11 hz12 rfl (by omega) W xs.length _ (by rfl) (HW5.out.row.alloc _) ⟨w5.heap.size, 0, none⟩ 1 1 [.slice (some ⟨w4.heap.size, 0, none⟩) l wc] (by rfl) rfl (World.news_of_block (heap_alloc_new w5 (.cells #[.slice (some ⟨w4.heap.size, 0, none⟩) l wc] 59))) (by simp [Value.oneCell']) (by omega) (by unfold maxLen; omega) (by omega) (Nat.zero_le _) _ rfl ?_; intro gw cw w7 hown7 hgrow7 hat7 hlt7; have HT7 := hide ((hgrow7.block t (lt_of_block HT6.out) (fun e => owns_ne HW5.out HT5.out (by decide) e.symm)).trans HT6.out); obtain ⟨c70, c71, cf7⟩ := blk2 HT7.out; have HO7 := hide (ownsQ_of (z := false) hown7); have HG7 := hide hgrow7; have HA7 := hide hat7; clear hown7 hgrow7 hat7 hlt7))
  all_goals go_wp2
  all_goals go_end0
  all_goals
    have hz4 := HK4.out.size
    have hz5 := HS5.out
    have hGat : gl < w4.heap.size := owns_lt HL4.out gl rfl
    have hGW : ∀ g, W.ownBlock = some g → g ≠ gl := fun g e e' => by
      rcases HA3.out with h | h
      · exact HL.out.far gl h (by rw [← e', e])
      · have := owns_lt HL.out.ws g e
        simp at h; omega
    have hk57 : Kept (fun i => some i = W.ownBlock) w4 w7 := ((kept_below (S := fun i => some i = W.ownBlock) HB5.out).trans (kept_below (S := fun _ => False) ((Below.refl w5.heap.size w5).alloc (Nat.le_refl _) (.cells #[.slice (some ⟨w4.heap.size, 0, none⟩) l wc] 59))) (fun _ e => e.elim)).trans (kept_grown HG7.out) (fun i e => Or.inl e)
    have hk8 : Kept (fun i => i = t ∨ some i = W.ownBlock) w4 (w7.setCell ⟨t, 1, none⟩ (.slice (some ⟨gw, 0, none⟩) (xs.length + 1) cw)) := ((Kept.refl _ _).trans hk57 (fun i e => Or.inl (Or.inr e))).trans (kept_but ((But.refl t w7).setCell (p := ⟨t, 1, none⟩) (Or.inl rfl) _)) (fun i e => Or.inl (Or.inl e))
    have hl8 : Lies (w7.setCell ⟨t, 1, none⟩ (.slice (some ⟨gw, 0, none⟩) (xs.length + 1) cw)) w4.heap.size ys := by
      refine HLi5.out.kept ((Below.heap_setCell _ _ _ _ (by show w4.heap.size ≠ t; omega)).trans ((HG7.out.block w4.heap.size (by simp; omega) (fun e => by have := owns_lt HW4.out w4.heap.size e.symm; omega)).trans (Below.heap_alloc _ _ _ (by show w4.heap.size < w5.heap.size; omega))))
    obtain ⟨r1, r2⟩ := HL.out.more (x := ⟨p, l, c, ys, some ⟨w4.heap.size, 0, none⟩, wc⟩) (G' := .slice (some ⟨gl, 0, none⟩) (xs.length + 1) cl) (W' := .slice (some ⟨gw, 0, none⟩) (xs.length + 1) cw) (((Kept.refl _ _).trans HK4.out (fun i e => Or.inl (by rcases e with e | e; exact Or.inl e; exact Or.inr (Or.inl e)))).trans hk8 (fun i e => Or.inl (by rcases e with e | e; exact Or.inl e; exact Or.inr (Or.inr e)))) (by rw [block_set HT7.out]; rfl)
      (owns_kept' HL4.out (fun g e => hk8.block g (owns_lt HL4.out g e) (by
        rintro (e' | e')
        · subst e'; exact owns_ne HL4.out HB4.out (by decide) e
        · cases e; exact hGW _ e'.symm rfl)))
      (owns_kept' HO7.out (fun g e => Below.heap_setCell _ _ _ _ (fun e' => owns_ne HO7.out HT7.out (by decide) (by rw [e, e']))))
      (fun g e e2 => by
        cases e; cases e2
        rcases HA7.out with h | h
        · exact hGW _ h rfl
        · simp at h; omega)
      (by rcases HA3.out with h | h
          · exact Or.inl h.symm
          · exact Or.inr ⟨gl, rfl, by simp at h; omega⟩)
      (by rcases HA7.out with h | h
          · exact Or.inl h.symm
          · exact Or.inr ⟨gw, rfl, by simp at h; omega⟩)
      HRow.out HY.out.small hl ⟨w4.heap.size, rfl, hz4, hl8⟩ HCx.out
    exact ⟨rfl, _, _, _, _, r1, r2⟩


end Go.Proofs.Ythgggjdefhgfiaa.Q
