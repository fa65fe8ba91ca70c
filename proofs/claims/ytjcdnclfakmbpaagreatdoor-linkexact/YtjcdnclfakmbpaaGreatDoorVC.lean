import Derived.Deep.Cut
import Derived.Test.YtjcdnclfakmbpaaGreatDoorVB
namespace Go.Proofs.YtjcdnclfakmbpaaGreatDoor.Q
open Go.RowKit Go.Proofs.YtjcdnclfakmbpaaGreatDoor.U
theorem Tryz.infoBy : (Tryz.prog.info? 31).map (fun i => (i.zero, i.size, i.bytes)) = some (some (.slice none 0 0), 1, 24) := by kernel_rfl
theorem Tryz.infoIn : (Tryz.prog.info? 3).map (fun i => (i.zero, i.size, i.bytes)) = some (some (.int .i64 0), 1, 8) := by kernel_rfl
theorem mks_mid (m i : Nat) (ys : List Nat) (hi : i < ys.length) : (mks m i ++ ys.drop i).set i (mkB m i) = mks m (i + 1) ++ ys.drop (i + 1) := by
  rw [drop_cons ys i hi, mks_snoc]
  have hl := mks_len m i
  rw [List.set_append_right _ _ (by omega), hl]
  simp
theorem vals_set (xs : List Nat) (i x : Nat) : (vals xs).set i (.int .u8 (x : Int)) = vals (xs.set i x) := by
  simp [vals, List.map_set]
theorem vals_at (xs : List Nat) (i : Nat) (h : i < xs.length) : (vals xs)[i]? = some (.int .u8 ((xs.getD i 0 : Nat) : Int)) := by simp [vals, List.getD, h]
def BkS (b : Nat) (L M v : Value) (i : Nat) : Prop := i = b ∨ some i = L.ownBlock ∨ some i = M.ownBlock ∨ some i = v.ownBlock
set_option maxRecDepth 100000 in
set_option maxHeartbeats 2000000 in
theorem bk_bytes (w : World) (N b : Nat) (L M : Value) (A turn done used : Nat) (ks : List Kl) (p : Option Addr) (len c : Nat) (ys : List Nat) (h : Bk w N b L M A turn done used ks) (hrow : ownsQ true w N 5 1 (.slice p len c) len (vals ys)) (hfar : ∀ k ∈ ks, Far (.slice p len c) k.val) (hN : N ≤ w.heap.size) (ht : turn + 1 ≤ 1000000000) (hlen : len ≤ 140737488355328) (hu : used ≤ 16777216) (hks : ks.length + 1 ≤ 1000000000) :
    Calls Tryz.prog 30 #[.pointer (some ⟨b, 0, none⟩), .slice p len c] w fun e w' => e = .returned (.tuple #[]) ∧ ∃ L' M' used' ks', Bk w' N b L' M' A (turn + 1) done used' ks' ∧ used' ≤ 16777216 ∧ (ks' = ks ∨ (ks' = ks ++ [⟨p, len, c, turn + 1⟩] ∧ len ≤ 16777216)) ∧ Kept (BkS b L M (.slice p len c)) w w' ∧ (L'.ownBlock = L.ownBlock ∨ ∃ g, L'.ownBlock = some g ∧ w.heap.size ≤ g) ∧ (M'.ownBlock = M.ownBlock ∨ ∃ g, M'.ownBlock = some g ∧ w.heap.size ≤ g) := by
  obtain ⟨i1, hi1, hz10, hz11, hz12⟩ := info_parts Tryz.infoBy
  obtain ⟨i2, hi2, hz20, hz21, hz22⟩ := info_parts Tryz.infoIn
  have HH := hide h
  have HFar := hide hfar
  have c54 := bk_cell h.blk 54 (.int .i64 (turn : Int)) rfl
  have cf := bk_thaw h.blk
  have HK1 := hide (h.turned (turn + 1))
  have HYl : Hid (ys.length = len) := by have := hrow.1; rw [vals_len] at this; show _ = _; omega
  have HR1 : Hid (ownsQ true (w.setCell ⟨b, 54, none⟩ (.int .i64 ((turn + 1 : Nat) : Int))) N 5 1 (.slice p len c) len (vals ys)) := owns_kept' hrow (fun g e => Below.heap_setCell _ _ _ _ (fun e' => owns_ne hrow h.blk (by decide) (by rw [e, e'])))
  have HS1 : Hid (Kept (BkS b L M (.slice p len c)) w (w.setCell ⟨b, 54, none⟩ (.int .i64 ((turn + 1 : Nat) : Int)))) := (Kept.refl _ _).trans (kept_but ((But.refl b w).setCell (p := ⟨b, 54, none⟩) (Or.inl rfl) _)) (fun i e => Or.inl (Or.inl e))
  have htn : (turn : Int) + 1 = ((turn + 1 : Nat) : Int) := by omega
  clear h hrow hfar
  generalize turn + 1 = m at *
  go_enter Tryz.func30, Tryz.ntmps30
  go_wp2
  generalize w.setCell ⟨b, 54, none⟩ (.int .i64 (m : Int)) = w1 at *
  clear c54 cf
  have c54 := bk_cell HK1.out.blk 54 (.int .i64 (m : Int)) rfl
  go_loopw [5] (fun i wr => ∃ i' : Nat, i' ≤ len ∧ i = .int .i64 i' ∧ Hid (Bk wr N b L M A m done used ks) ∧ Hid (ownsQ true wr N 5 1 (.slice p len c) len (vals (mks m i' ++ ys.drop i'))) ∧ Hid (Kept (BkS b L M (.slice p len c)) w wr)) (fun i _ => len - (intOf i).toNat)
  case atStart => exact ⟨0, Nat.zero_le _, rfl, HK1, HR1, HS1⟩
  case round =>
    clear HK1 HR1 HS1 c54
    obtain ⟨i, hi, rfl, HK, HR, HS⟩ := hrel
    by_cases hlt : i < len
    · have HAt := hide (vals_at (mks m i ++ ys.drop i) i (by rw [List.length_append, mks_len, List.length_drop, HYl.out]; omega))
      obtain ⟨g, _, hg, _⟩ := row_cell HR.out (k := i) HAt.out
      cases hg
      obtain ⟨q0, qf⟩ := owns_cell HR.out (k := i) _ HAt.out
      have HA := hide (fun w => at_mark w m i ht (by omega))
      have HR2 : Hid (ownsQ true (wr.setCell ⟨g, i, none⟩ (.int .u8 (mkB m i : Nat))) N 5 1 (.slice (some ⟨g, 0, none⟩) len c) len (vals (mks m (i + 1) ++ ys.drop (i + 1)))) := by
        have := owns_set HR.out hlt (.int .u8 (mkB m i : Nat))
        rw [vals_set, mks_mid m i ys (by rw [HYl.out]; exact hlt)] at this
        exact this
      have HB : Hid (But g wr (wr.setCell ⟨g, i, none⟩ (.int .u8 (mkB m i : Nat)))) := (But.refl g wr).setCell (p := ⟨g, i, none⟩) (Or.inl rfl) _
      have HK2 := hide (HK.out.keep (kept_but HB.out) (fun e => by subst e; exact owns_ne HR.out HK.out.blk (by decide) rfl) (fun g' e e' => by subst e'; exact rows_far HK.out.ls HR.out (by decide) _ e rfl) (fun g' e e' => by subst e'; exact rows_far HK.out.ms HR.out (by decide) _ e rfl) (fun x hx g' e e' => by subst e'; exact HFar.out x hx _ rfl e))
      have HS2 : Hid (Kept (BkS b L M (.slice (some ⟨g, 0, none⟩) len c)) w (wr.setCell ⟨g, i, none⟩ (.int .u8 (mkB m i : Nat)))) := HS.out.trans (kept_but HB.out) (fun j e => Or.inl (Or.inr (Or.inr (Or.inr (by rw [e]; rfl)))))
      have hx := mkB_lt m i
      generalize mkB m i = x at *
      generalize (mks m i ++ ys.drop i).getD i 0 = x0 at *
      have l1 : (i : Int) < (len : Int) := by omega
      have l2 : (0 : Int) ≤ (i : Int) := by omega
      go_wp2_with fail
      refine (HA.out _).mono ?_
      rintro e w2 ⟨rfl, rfl⟩
      go_wp2
      go_roundw
      case rel => exact ⟨i + 1, by omega, by go_num, HK2, HR2, HS2⟩
      case measure => simp [intOf]; omega
    · obtain ⟨hil⟩ : Nonempty (i = len) := ⟨by omega⟩
      have HR3 : Hid (ownsQ true wr N 5 1 (.slice p len c) len (vals (mks m len))) := by
        have := HR.out
        rw [hil, List.drop_of_length_le (by rw [HYl.out]; omega), List.append_nil] at this
        exact this
      have l1 : ¬ (i : Int) < (len : Int) := by omega
      clear HR hil
      have hmul : (3 : Int) * (len : Int) = ((3 * len : Nat) : Int) := by omega
      have hadd : (1200 : Int) + ((3 * len : Nat) : Int) = ((1200 + 3 * len : Nat) : Int) := by omega
      have hsz : 1200 + 3 * len ≤ 1000000000000000 := by omega
      have hsz2 : 3 * len ≤ 1000000000000000 := by omega
      have HSz : Hid (len ≤ 1200 + 3 * len) := by show _ ≤ _; omega
      have HC0 := hide (bk_tight wr b L M A m done used (1200 + 3 * len) hu hsz HK.out.blk)
      generalize 1200 + 3 * len = sz at *
      generalize 3 * len = s3 at *
      go_wp2_with fail
      refine HC0.out.mono ?_
      rintro e w2 (⟨ht1, rfl, rfl⟩ | ⟨ht1, rfl, rfl⟩)
      · go_wp2
        exact bodyPost_ret (v := .tuple #[]) (by simp [results, Tryz.results30, go_sem]) rfl ⟨rfl, L, M, used, ks, HK.out, hu, Or.inl rfl, HS.out, Or.inl rfl, Or.inl rfl⟩
      · have HK2 := hide (HK.out.usedUp (used + sz))
        have HR4 : Hid (ownsQ true (wr.setCell ⟨b, 56, none⟩ (.int .i64 ((used + sz : Nat) : Int))) N 5 1 (.slice p len c) len (vals (mks m len))) := owns_kept' HR3.out (fun g e => Below.heap_setCell _ _ _ _ (fun e' => owns_ne HR3.out HK.out.blk (by decide) (by rw [e, e'])))
        have HS4 : Hid (Kept (BkS b L M (.slice p len c)) w (wr.setCell ⟨b, 56, none⟩ (.int .i64 ((used + sz : Nat) : Int)))) := HS.out.trans (kept_but ((But.refl b wr).setCell (p := ⟨b, 56, none⟩) (Or.inl rfl) _)) (fun i e => Or.inl (Or.inl e))
        have hu2 : used + sz ≤ 16777216 := by omega
        have HLs : Hid (len ≤ 16777216) := by have := HSz.out; show _ ≤ _; omega
        generalize used + sz = used2 at *
        generalize wr.setCell ⟨b, 56, none⟩ (.int .i64 (used2 : Int)) = w2 at *
        clear HK HR3 HS HC0 HH
        have c0 := bk_cell HK2.out.blk 0 L rfl
        have cf := bk_thaw HK2.out.blk
        have HN2 : Hid (N ≤ w2.heap.size) := Nat.le_trans hN HS4.out.size
        go_upto_region 8 with (at_builtin; refine wpList_append_lies _ rfl (.tmp 39) (.tmp 41) 44 rfl N 31 i1 (.slice none 0 0) 1 24 Tryz.underlying44 hi1 hz10 hz11 hz12 rfl (by omega) L ks.length _ rfl (HK2.out.ls.row.alloc _) ⟨w2.heap.size, 0, none⟩ 1 1 [.slice p len c] rfl rfl (World.news_of_block (heap_alloc_new w2 (.cells #[.slice p len c] 31))) (by simp [Value.oneCell']) (by omega) (by unfold maxLen; omega) (by omega) (by have := HN2.out; simp; omega) _ rfl ?_; intro gl cl w3 hown3 hgrow3 hat3 hlt3; have k3 : Kept (fun i => some i = L.ownBlock) w2 w3 := (kept_below (S := fun i => some i = L.ownBlock) ((Below.refl _ _).alloc (Nat.le_refl _) (.cells #[.slice p len c] 31))).trans (kept_grown hgrow3) (fun i e => Or.inl e); have HK3 := hide k3; have HB3 := hide ((k3.block b (lt_of_block HK2.out.blk) (fun e => owns_ne HK2.out.ls HK2.out.blk (by decide) e.symm)).trans HK2.out.blk); have c30 := bk_cell HB3.out 0 L rfl; have cf3 := bk_thaw HB3.out; have HL3 := hide (ownsQ_of (z := false) hown3); have HA3 := hide hat3; clear hown3 hgrow3 hat3 hlt3 k3)
        have HB4 : Hid ((w3.setCell ⟨b, 0, none⟩ (.slice (some ⟨gl, 0, none⟩) (ks.length + 1) cl)).heap[b]? = some (.cells (bkCells (.slice (some ⟨gl, 0, none⟩) (ks.length + 1) cl) M A m done used2) 70 (0, 0))) := by show _ = _; rw [block_set HB3.out]; rfl
        have HL4 : Hid (ownsQ false (w3.setCell ⟨b, 0, none⟩ (.slice (some ⟨gl, 0, none⟩) (ks.length + 1) cl)) N 31 1 (.slice (some ⟨gl, 0, none⟩) (ks.length + 1) cl) (ks.length + 1) ((ks.map fun k => k.val) ++ [.slice p len c])) := owns_kept' HL3.out (fun g e => Below.heap_setCell _ _ _ _ (fun e' => owns_ne HL3.out HB3.out (by decide) (by rw [e, e'])))
        have HK4 : Hid (Kept (fun i => i = b ∨ some i = L.ownBlock ∨ some i = M.ownBlock) w2 (w3.setCell ⟨b, 0, none⟩ (.slice (some ⟨gl, 0, none⟩) (ks.length + 1) cl))) := ((Kept.refl _ _).trans HK3.out (fun i e => Or.inl (Or.inr (Or.inl e)))).trans (kept_but ((But.refl b w3).setCell (p := ⟨b, 0, none⟩) (Or.inl rfl) _)) (fun i e => Or.inl (Or.inl e))
        have HM4 : Hid (ownsQ false (w3.setCell ⟨b, 0, none⟩ (.slice (some ⟨gl, 0, none⟩) (ks.length + 1) cl)) N 3 1 M ks.length (ks.map fun k => .int .i64 (k.m : Int))) := owns_kept' HK2.out.ms (fun g e => (Below.heap_setCell _ _ _ _ (fun e' => owns_ne HK2.out.ms HK2.out.blk (by decide) (by rw [e, e']))).trans (HK3.out.block g (owns_lt HK2.out.ms g e) (fun e' => rows_far HK2.out.ls HK2.out.ms (by decide) g e'.symm e)))
        generalize w3.setCell ⟨b, 0, none⟩ (.slice (some ⟨gl, 0, none⟩) (ks.length + 1) cl) = w4 at *
        clear HK3 HB3 HL3 c30 cf3 c0 cf
        have c1 := bk_cell HB4.out 1 M rfl
        have cf := bk_thaw HB4.out
        have HN4 : Hid (N ≤ w4.heap.size) := Nat.le_trans HN2.out HK4.out.size
        go_wp2_with (at_builtin; refine wpList_append_lies _ rfl (.tmp 49) (.tmp 51) 51 rfl N 3 i2 (.int .i64 0) 1 8 Tryz.underlying51 hi2 hz20 hz21 hz22 rfl (by omega) M ks.length _ rfl (HM4.out.row.alloc _) ⟨w4.heap.size, 0, none⟩ 1 1 [.int .i64 (m : Int)] rfl rfl (World.news_of_block (heap_alloc_new w4 (.cells #[.int .i64 (m : Int)] 3))) (by simp [Value.oneCell']) (by omega) (by unfold maxLen; omega) (by omega) (by have := HN4.out; simp; omega) _ rfl ?_; intro gm cm w5 hown5 hgrow5 hat5 hlt5; have k5 : Kept (fun i => some i = M.ownBlock) w4 w5 := (kept_below (S := fun i => some i = M.ownBlock) ((Below.refl _ _).alloc (Nat.le_refl _) (.cells #[.int .i64 (m : Int)] 3))).trans (kept_grown hgrow5) (fun i e => Or.inl e); have HK5 := hide k5; have HB5 := hide ((k5.block b (lt_of_block HB4.out) (fun e => owns_ne HM4.out HB4.out (by decide) e.symm)).trans HB4.out); have c51 := bk_cell HB5.out 1 M rfl; have cf5 := bk_thaw HB5.out; have HM5 := hide (ownsQ_of (z := false) hown5); have HA5 := hide hat5; clear hown5 hgrow5 hat5 hlt5 k5)
        have HB6 : Hid ((w5.setCell ⟨b, 1, none⟩ (.slice (some ⟨gm, 0, none⟩) (ks.length + 1) cm)).heap[b]? = some (.cells (bkCells (.slice (some ⟨gl, 0, none⟩) (ks.length + 1) cl) (.slice (some ⟨gm, 0, none⟩) (ks.length + 1) cm) A m done used2) 70 (0, 0))) := by show _ = _; rw [block_set HB5.out]; rfl
        have HM6 : Hid (ownsQ false (w5.setCell ⟨b, 1, none⟩ (.slice (some ⟨gm, 0, none⟩) (ks.length + 1) cm)) N 3 1 (.slice (some ⟨gm, 0, none⟩) (ks.length + 1) cm) (ks.length + 1) ((ks.map fun k => Value.int .i64 (k.m : Int)) ++ [.int .i64 (m : Int)])) := owns_kept' HM5.out (fun g e => Below.heap_setCell _ _ _ _ (fun e' => owns_ne HM5.out HB5.out (by decide) (by rw [e, e'])))
        have HL6 : Hid (ownsQ false (w5.setCell ⟨b, 1, none⟩ (.slice (some ⟨gm, 0, none⟩) (ks.length + 1) cm)) N 31 1 (.slice (some ⟨gl, 0, none⟩) (ks.length + 1) cl) (ks.length + 1) ((ks.map fun k => k.val) ++ [.slice p len c])) := owns_kept' HL4.out (fun g e => (Below.heap_setCell _ _ _ _ (fun e' => owns_ne HL4.out HB4.out (by decide) (by rw [e, e']))).trans (HK5.out.block g (owns_lt HL4.out g e) (fun e' => rows_far HM4.out HL4.out (by decide) g e'.symm e)))
        have HK6 : Hid (Kept (fun i => i = b ∨ some i = L.ownBlock ∨ some i = M.ownBlock) w2 (w5.setCell ⟨b, 1, none⟩ (.slice (some ⟨gm, 0, none⟩) (ks.length + 1) cm))) := (HK4.out.trans HK5.out (fun i e => Or.inl (Or.inr (Or.inr e)))).trans (kept_but ((But.refl b w5).setCell (p := ⟨b, 1, none⟩) (Or.inl rfl) _)) (fun i e => Or.inl (Or.inl e))
        have HBk := hide (HK2.out.more (x := ⟨p, len, c, m⟩) HK6.out HB6.out HL6.out HM6.out HR4.out ⟨ht, Nat.le_trans HLs.out (by omega)⟩ hks (fun y hy g e1 e2 => absurd e1 (HFar.out y hy g e2)))
        have HS6 : Hid (Kept (BkS b L M (.slice p len c)) w (w5.setCell ⟨b, 1, none⟩ (.slice (some ⟨gm, 0, none⟩) (ks.length + 1) cm))) := HS4.out.trans HK6.out (fun i e => Or.inl (by rcases e with e | e | e; exact Or.inl e; exact Or.inr (Or.inl e); exact Or.inr (Or.inr (Or.inl e))))
        have HLa : Hid ((Value.slice (some ⟨gl, 0, none⟩) (ks.length + 1) cl).ownBlock = L.ownBlock ∨ ∃ g, (Value.slice (some ⟨gl, 0, none⟩) (ks.length + 1) cl).ownBlock = some g ∧ w.heap.size ≤ g) := by
          rcases HA3.out with h | h
          · exact Or.inl h.symm
          · exact Or.inr ⟨gl, rfl, by have := HS4.out.size; simp at h; omega⟩
        have HMa : Hid ((Value.slice (some ⟨gm, 0, none⟩) (ks.length + 1) cm).ownBlock = M.ownBlock ∨ ∃ g, (Value.slice (some ⟨gm, 0, none⟩) (ks.length + 1) cm).ownBlock = some g ∧ w.heap.size ≤ g) := by
          rcases HA5.out with h | h
          · exact Or.inl h.symm
          · exact Or.inr ⟨gm, rfl, by have := HS4.out.size; have := HK4.out.size; simp at h; omega⟩
        go_wp2
        go_end0
        exact ⟨rfl, _, _, used2, _, HBk.out, hu2, Or.inr ⟨rfl, HLs.out⟩, HS6.out, HLa.out, HMa.out⟩
end Go.Proofs.YtjcdnclfakmbpaaGreatDoor.Q
namespace Go.Proofs.YtjcdnclfakmbpaaGreatDoor.V
open Go.RowKit Go.Proofs.YtjcdnclfakmbpaaGreatDoor.U Go.Proofs.YtjcdnclfakmbpaaGreatDoor.Q
set_option maxRecDepth 100000 in
set_option maxHeartbeats 2000000 in
theorem bk_bytes {X : Rv} (w : World) (N b : Nat) (L M : Value) (A turn done used : Nat) (ks : List Kl) (p : Option Addr) (len c : Nat) (ys : List Nat) (h : Bk X w N b L M A turn done used ks) (hrow : ownsQ true w N 5 1 (.slice p len c) len (vals ys)) (hfar : ∀ k ∈ ks, Far (.slice p len c) k.val) (hN : N ≤ w.heap.size) (ht : turn + 1 ≤ 1000000000) (hlen : len ≤ 140737488355328) (hu : used ≤ 16777216) (hks : ks.length + 1 ≤ 1000000000) :
    Calls Tryz.prog 30 #[.pointer (some ⟨b, 0, none⟩), .slice p len c] w fun e w' => e = .returned (.tuple #[]) ∧ ∃ L' M' used' ks', Bk X w' N b L' M' A (turn + 1) done used' ks' ∧ used' ≤ 16777216 ∧ (ks' = ks ∨ (ks' = ks ++ [⟨p, len, c, turn + 1⟩] ∧ len ≤ 16777216)) ∧ Kept (BkS b L M (.slice p len c)) w w' ∧ (L'.ownBlock = L.ownBlock ∨ ∃ g, L'.ownBlock = some g ∧ w.heap.size ≤ g) ∧ (M'.ownBlock = M.ownBlock ∨ ∃ g, M'.ownBlock = some g ∧ w.heap.size ≤ g) := by
  obtain ⟨i1, hi1, hz10, hz11, hz12⟩ := info_parts Tryz.infoBy
  obtain ⟨i2, hi2, hz20, hz21, hz22⟩ := info_parts Tryz.infoIn
  have HH := hide h
  have HFar := hide hfar
  have c54 := bk_cell h.blk 54 (.int .i64 (turn : Int)) rfl
  have cf := bk_thaw h.blk
  have HK1 := hide (h.turned (turn + 1))
  have HYl : Hid (ys.length = len) := by have := hrow.1; rw [vals_len] at this; show _ = _; omega
  have HR1 : Hid (ownsQ true (w.setCell ⟨b, 54, none⟩ (.int .i64 ((turn + 1 : Nat) : Int))) N 5 1 (.slice p len c) len (vals ys)) := owns_kept' hrow (fun g e => Below.heap_setCell _ _ _ _ (fun e' => owns_ne hrow h.blk (by decide) (by rw [e, e'])))
  have HS1 : Hid (Kept (BkS b L M (.slice p len c)) w (w.setCell ⟨b, 54, none⟩ (.int .i64 ((turn + 1 : Nat) : Int)))) := (Kept.refl _ _).trans (kept_but ((But.refl b w).setCell (p := ⟨b, 54, none⟩) (Or.inl rfl) _)) (fun i e => Or.inl (Or.inl e))
  have htn : (turn : Int) + 1 = ((turn + 1 : Nat) : Int) := by omega
  clear h hrow hfar
  generalize turn + 1 = m at *
  go_enter Tryz.func30, Tryz.ntmps30
  go_wp2
  generalize w.setCell ⟨b, 54, none⟩ (.int .i64 (m : Int)) = w1 at *
  clear c54 cf
  have c54 := bk_cell HK1.out.blk 54 (.int .i64 (m : Int)) rfl
  go_loopw [5] (fun i wr => ∃ i' : Nat, i' ≤ len ∧ i = .int .i64 i' ∧ Hid (Bk X wr N b L M A m done used ks) ∧ Hid (ownsQ true wr N 5 1 (.slice p len c) len (vals (mks m i' ++ ys.drop i'))) ∧ Hid (Kept (BkS b L M (.slice p len c)) w wr)) (fun i _ => len - (intOf i).toNat)
  case atStart => exact ⟨0, Nat.zero_le _, rfl, HK1, HR1, HS1⟩
  case round =>
    clear HK1 HR1 HS1 c54
    obtain ⟨i, hi, rfl, HK, HR, HS⟩ := hrel
    by_cases hlt : i < len
    · have HAt := hide (vals_at (mks m i ++ ys.drop i) i (by rw [List.length_append, mks_len, List.length_drop, HYl.out]; omega))
      obtain ⟨g, _, hg, _⟩ := row_cell HR.out (k := i) HAt.out
      cases hg
      obtain ⟨q0, qf⟩ := owns_cell HR.out (k := i) _ HAt.out
      have HA := hide (fun w => at_mark w m i ht (by omega))
      have HR2 : Hid (ownsQ true (wr.setCell ⟨g, i, none⟩ (.int .u8 (mkB m i : Nat))) N 5 1 (.slice (some ⟨g, 0, none⟩) len c) len (vals (mks m (i + 1) ++ ys.drop (i + 1)))) := by
        have := owns_set HR.out hlt (.int .u8 (mkB m i : Nat))
        rw [vals_set, mks_mid m i ys (by rw [HYl.out]; exact hlt)] at this
        exact this
      have HB : Hid (But g wr (wr.setCell ⟨g, i, none⟩ (.int .u8 (mkB m i : Nat)))) := (But.refl g wr).setCell (p := ⟨g, i, none⟩) (Or.inl rfl) _
      have HK2 := hide (HK.out.keep (kept_but HB.out) (fun e => by subst e; exact owns_ne HR.out HK.out.blk (by decide) rfl) (fun g' e e' => by subst e'; exact rows_far HK.out.ls HR.out (by decide) _ e rfl) (fun g' e e' => by subst e'; exact rows_far HK.out.ms HR.out (by decide) _ e rfl) (fun x hx g' e e' => by subst e'; exact HFar.out x hx _ rfl e))
      have HS2 : Hid (Kept (BkS b L M (.slice (some ⟨g, 0, none⟩) len c)) w (wr.setCell ⟨g, i, none⟩ (.int .u8 (mkB m i : Nat)))) := HS.out.trans (kept_but HB.out) (fun j e => Or.inl (Or.inr (Or.inr (Or.inr (by rw [e]; rfl)))))
      have hx := mkB_lt m i
      generalize mkB m i = x at *
      generalize (mks m i ++ ys.drop i).getD i 0 = x0 at *
      have l1 : (i : Int) < (len : Int) := by omega
      have l2 : (0 : Int) ≤ (i : Int) := by omega
      go_wp2_with fail
      refine (HA.out _).mono ?_
      rintro e w2 ⟨rfl, rfl⟩
      go_wp2
      go_roundw
      case rel => exact ⟨i + 1, by omega, by go_num, HK2, HR2, HS2⟩
      case measure => simp [intOf]; omega
    · obtain ⟨hil⟩ : Nonempty (i = len) := ⟨by omega⟩
      have HR3 : Hid (ownsQ true wr N 5 1 (.slice p len c) len (vals (mks m len))) := by
        have := HR.out
        rw [hil, List.drop_of_length_le (by rw [HYl.out]; omega), List.append_nil] at this
        exact this
      have l1 : ¬ (i : Int) < (len : Int) := by omega
      clear HR hil
      have hmul : (3 : Int) * (len : Int) = ((3 * len : Nat) : Int) := by omega
      have hadd : (1200 : Int) + ((3 * len : Nat) : Int) = ((1200 + 3 * len : Nat) : Int) := by omega
      have hsz : 1200 + 3 * len ≤ 1000000000000000 := by omega
      have hsz2 : 3 * len ≤ 1000000000000000 := by omega
      have HSz : Hid (len ≤ 1200 + 3 * len) := by show _ ≤ _; omega
      have HC0 := hide (bk_tight wr b L M A m done used (1200 + 3 * len) hu hsz HK.out.blk)
      generalize 1200 + 3 * len = sz at *
      generalize 3 * len = s3 at *
      go_wp2_with fail
      refine HC0.out.mono ?_
      rintro e w2 (⟨ht1, rfl, rfl⟩ | ⟨ht1, rfl, rfl⟩)
      · go_wp2
        exact bodyPost_ret (v := .tuple #[]) (by simp [results, Tryz.results30, go_sem]) rfl ⟨rfl, L, M, used, ks, HK.out, hu, Or.inl rfl, HS.out, Or.inl rfl, Or.inl rfl⟩
      · have HK2 := hide (HK.out.usedUp (used + sz))
        have HR4 : Hid (ownsQ true (wr.setCell ⟨b, 56, none⟩ (.int .i64 ((used + sz : Nat) : Int))) N 5 1 (.slice p len c) len (vals (mks m len))) := owns_kept' HR3.out (fun g e => Below.heap_setCell _ _ _ _ (fun e' => owns_ne HR3.out HK.out.blk (by decide) (by rw [e, e'])))
        have HS4 : Hid (Kept (BkS b L M (.slice p len c)) w (wr.setCell ⟨b, 56, none⟩ (.int .i64 ((used + sz : Nat) : Int)))) := HS.out.trans (kept_but ((But.refl b wr).setCell (p := ⟨b, 56, none⟩) (Or.inl rfl) _)) (fun i e => Or.inl (Or.inl e))
        have hu2 : used + sz ≤ 16777216 := by omega
        have HLs : Hid (len ≤ 16777216) := by have := HSz.out; show _ ≤ _; omega
        generalize used + sz = used2 at *
        generalize wr.setCell ⟨b, 56, none⟩ (.int .i64 (used2 : Int)) = w2 at *
        clear HK HR3 HS HC0 HH
        have c0 := bk_cell HK2.out.blk 0 L rfl
        have cf := bk_thaw HK2.out.blk
        have HN2 : Hid (N ≤ w2.heap.size) := Nat.le_trans hN HS4.out.size
        go_upto_region 8 with (at_builtin; refine wpList_append_lies _ rfl (.tmp 39) (.tmp 41) 44 rfl N 31 i1 (.slice none 0 0) 1 24 Tryz.underlying44 hi1 hz10 hz11 hz12 rfl (by omega) L ks.length _ rfl (HK2.out.ls.row.alloc _) ⟨w2.heap.size, 0, none⟩ 1 1 [.slice p len c] rfl rfl (World.news_of_block (heap_alloc_new w2 (.cells #[.slice p len c] 31))) (by simp [Value.oneCell']) (by omega) (by unfold maxLen; omega) (by omega) (by have := HN2.out; simp; omega) _ rfl ?_; intro gl cl w3 hown3 hgrow3 hat3 hlt3; have k3 : Kept (fun i => some i = L.ownBlock) w2 w3 := (kept_below (S := fun i => some i = L.ownBlock) ((Below.refl _ _).alloc (Nat.le_refl _) (.cells #[.slice p len c] 31))).trans (kept_grown hgrow3) (fun i e => Or.inl e); have HK3 := hide k3; have HB3 := hide ((k3.block b (lt_of_block HK2.out.blk) (fun e => owns_ne HK2.out.ls HK2.out.blk (by decide) e.symm)).trans HK2.out.blk); have c30 := bk_cell HB3.out 0 L rfl; have cf3 := bk_thaw HB3.out; have HL3 := hide (ownsQ_of (z := false) hown3); have HA3 := hide hat3; clear hown3 hgrow3 hat3 hlt3 k3)
        have HB4 : Hid ((w3.setCell ⟨b, 0, none⟩ (.slice (some ⟨gl, 0, none⟩) (ks.length + 1) cl)).heap[b]? = some (.cells (bkCells X (.slice (some ⟨gl, 0, none⟩) (ks.length + 1) cl) M A m done used2) 70 (0, 0))) := by show _ = _; rw [block_set HB3.out]; rfl
        have HL4 : Hid (ownsQ false (w3.setCell ⟨b, 0, none⟩ (.slice (some ⟨gl, 0, none⟩) (ks.length + 1) cl)) N 31 1 (.slice (some ⟨gl, 0, none⟩) (ks.length + 1) cl) (ks.length + 1) ((ks.map fun k => k.val) ++ [.slice p len c])) := owns_kept' HL3.out (fun g e => Below.heap_setCell _ _ _ _ (fun e' => owns_ne HL3.out HB3.out (by decide) (by rw [e, e'])))
        have HK4 : Hid (Kept (fun i => i = b ∨ some i = L.ownBlock ∨ some i = M.ownBlock) w2 (w3.setCell ⟨b, 0, none⟩ (.slice (some ⟨gl, 0, none⟩) (ks.length + 1) cl))) := ((Kept.refl _ _).trans HK3.out (fun i e => Or.inl (Or.inr (Or.inl e)))).trans (kept_but ((But.refl b w3).setCell (p := ⟨b, 0, none⟩) (Or.inl rfl) _)) (fun i e => Or.inl (Or.inl e))
        have HM4 : Hid (ownsQ false (w3.setCell ⟨b, 0, none⟩ (.slice (some ⟨gl, 0, none⟩) (ks.length + 1) cl)) N 3 1 M ks.length (ks.map fun k => .int .i64 (k.m : Int))) := owns_kept' HK2.out.ms (fun g e => (Below.heap_setCell _ _ _ _ (fun e' => owns_ne HK2.out.ms HK2.out.blk (by decide) (by rw [e, e']))).trans (HK3.out.block g (owns_lt HK2.out.ms g e) (fun e' => rows_far HK2.out.ls HK2.out.ms (by decide) g e'.symm e)))
        generalize w3.setCell ⟨b, 0, none⟩ (.slice (some ⟨gl, 0, none⟩) (ks.length + 1) cl) = w4 at *
        clear HK3 HB3 HL3 c30 cf3 c0 cf
        have c1 := bk_cell HB4.out 1 M rfl
        have cf := bk_thaw HB4.out
        have HN4 : Hid (N ≤ w4.heap.size) := Nat.le_trans HN2.out HK4.out.size
        go_wp2_with (at_builtin; refine wpList_append_lies _ rfl (.tmp 49) (.tmp 51) 51 rfl N 3 i2 (.int .i64 0) 1 8 Tryz.underlying51 hi2 hz20 hz21 hz22 rfl (by omega) M ks.length _ rfl (HM4.out.row.alloc _) ⟨w4.heap.size, 0, none⟩ 1 1 [.int .i64 (m : Int)] rfl rfl (World.news_of_block (heap_alloc_new w4 (.cells #[.int .i64 (m : Int)] 3))) (by simp [Value.oneCell']) (by omega) (by unfold maxLen; omega) (by omega) (by have := HN4.out; simp; omega) _ rfl ?_; intro gm cm w5 hown5 hgrow5 hat5 hlt5; have k5 : Kept (fun i => some i = M.ownBlock) w4 w5 := (kept_below (S := fun i => some i = M.ownBlock) ((Below.refl _ _).alloc (Nat.le_refl _) (.cells #[.int .i64 (m : Int)] 3))).trans (kept_grown hgrow5) (fun i e => Or.inl e); have HK5 := hide k5; have HB5 := hide ((k5.block b (lt_of_block HB4.out) (fun e => owns_ne HM4.out HB4.out (by decide) e.symm)).trans HB4.out); have c51 := bk_cell HB5.out 1 M rfl; have cf5 := bk_thaw HB5.out; have HM5 := hide (ownsQ_of (z := false) hown5); have HA5 := hide hat5; clear hown5 hgrow5 hat5 hlt5 k5)
        have HB6 : Hid ((w5.setCell ⟨b, 1, none⟩ (.slice (some ⟨gm, 0, none⟩) (ks.length + 1) cm)).heap[b]? = some (.cells (bkCells X (.slice (some ⟨gl, 0, none⟩) (ks.length + 1) cl) (.slice (some ⟨gm, 0, none⟩) (ks.length + 1) cm) A m done used2) 70 (0, 0))) := by show _ = _; rw [block_set HB5.out]; rfl
        have HM6 : Hid (ownsQ false (w5.setCell ⟨b, 1, none⟩ (.slice (some ⟨gm, 0, none⟩) (ks.length + 1) cm)) N 3 1 (.slice (some ⟨gm, 0, none⟩) (ks.length + 1) cm) (ks.length + 1) ((ks.map fun k => Value.int .i64 (k.m : Int)) ++ [.int .i64 (m : Int)])) := owns_kept' HM5.out (fun g e => Below.heap_setCell _ _ _ _ (fun e' => owns_ne HM5.out HB5.out (by decide) (by rw [e, e'])))
        have HL6 : Hid (ownsQ false (w5.setCell ⟨b, 1, none⟩ (.slice (some ⟨gm, 0, none⟩) (ks.length + 1) cm)) N 31 1 (.slice (some ⟨gl, 0, none⟩) (ks.length + 1) cl) (ks.length + 1) ((ks.map fun k => k.val) ++ [.slice p len c])) := owns_kept' HL4.out (fun g e => (Below.heap_setCell _ _ _ _ (fun e' => owns_ne HL4.out HB4.out (by decide) (by rw [e, e']))).trans (HK5.out.block g (owns_lt HL4.out g e) (fun e' => rows_far HM4.out HL4.out (by decide) g e'.symm e)))
        have HK6 : Hid (Kept (fun i => i = b ∨ some i = L.ownBlock ∨ some i = M.ownBlock) w2 (w5.setCell ⟨b, 1, none⟩ (.slice (some ⟨gm, 0, none⟩) (ks.length + 1) cm))) := (HK4.out.trans HK5.out (fun i e => Or.inl (Or.inr (Or.inr e)))).trans (kept_but ((But.refl b w5).setCell (p := ⟨b, 1, none⟩) (Or.inl rfl) _)) (fun i e => Or.inl (Or.inl e))
        have HBk := hide (HK2.out.more (x := ⟨p, len, c, m⟩) HK6.out HB6.out HL6.out HM6.out HR4.out ⟨ht, Nat.le_trans HLs.out (by omega)⟩ hks (fun y hy g e1 e2 => absurd e1 (HFar.out y hy g e2)))
        have HS6 : Hid (Kept (BkS b L M (.slice p len c)) w (w5.setCell ⟨b, 1, none⟩ (.slice (some ⟨gm, 0, none⟩) (ks.length + 1) cm))) := HS4.out.trans HK6.out (fun i e => Or.inl (by rcases e with e | e | e; exact Or.inl e; exact Or.inr (Or.inl e); exact Or.inr (Or.inr (Or.inl e))))
        have HLa : Hid ((Value.slice (some ⟨gl, 0, none⟩) (ks.length + 1) cl).ownBlock = L.ownBlock ∨ ∃ g, (Value.slice (some ⟨gl, 0, none⟩) (ks.length + 1) cl).ownBlock = some g ∧ w.heap.size ≤ g) := by
          rcases HA3.out with h | h
          · exact Or.inl h.symm
          · exact Or.inr ⟨gl, rfl, by have := HS4.out.size; simp at h; omega⟩
        have HMa : Hid ((Value.slice (some ⟨gm, 0, none⟩) (ks.length + 1) cm).ownBlock = M.ownBlock ∨ ∃ g, (Value.slice (some ⟨gm, 0, none⟩) (ks.length + 1) cm).ownBlock = some g ∧ w.heap.size ≤ g) := by
          rcases HA5.out with h | h
          · exact Or.inl h.symm
          · exact Or.inr ⟨gm, rfl, by have := HS4.out.size; have := HK4.out.size; simp at h; omega⟩
        go_wp2
        go_end0
        exact ⟨rfl, _, _, used2, _, HBk.out, hu2, Or.inr ⟨rfl, HLs.out⟩, HS6.out, HLa.out, HMa.out⟩
end Go.Proofs.YtjcdnclfakmbpaaGreatDoor.V
