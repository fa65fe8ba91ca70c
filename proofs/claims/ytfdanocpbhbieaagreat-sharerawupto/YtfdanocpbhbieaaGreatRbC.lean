import Derived.Test.YtfdanocpbhbieaaGreatRbB
import Derived.Deep.Cut
namespace Go.Proofs.YtfdanocpbhbieaaGreat.RB
open Go.RowKit Go.Proofs.YtfdanocpbhbieaaGreat

theorem infoBy : (Tryz.prog.info? 60).map (fun i => (i.zero, i.size, i.bytes)) = some (some (.slice none 0 0), 1, 24) := by kernel_rfl
theorem infoIn : (Tryz.prog.info? 3).map (fun i => (i.zero, i.size, i.bytes)) = some (some (.int .i64 0), 1, 8) := by kernel_rfl
theorem owns_setg {w : World} {B g n c k s : Nat} {t : TypeId} {xs : List Value} (h : w.ownsRow B t s (.slice (some ⟨g, 0, none⟩) n c) n xs) (a : Value) : (w.setCell ⟨g, k, none⟩ a).ownsRow B t s (.slice (some ⟨g, 0, none⟩) n c) n (xs.set k a) := by
  rcases h.2 with ⟨h1, _⟩ | ⟨g', cap, cur, h1, h2, hg, h3, h4, h5, ht⟩
  · cases h1
  · cases h1
    refine ⟨by rw [List.length_set]; exact h.1, Or.inr ⟨g, c, cur.setIfInBounds k a, rfl, h2, block_set hg a, h3, h4, by simpa using h5, ?_⟩⟩
    rw [← ht]
    simp [List.take_set, Array.toList_setIfInBounds]
theorem rcells_set (l : List Tri) : ∀ (k : Nat) (x : Tri), k < l.length → (((rcells l).set (k * 3) (.int .i64 x.a)).set (k * 3 + 1) (.int .i64 x.b)).set (k * 3 + 2) (.int .i64 x.n) = rcells (l.set k x) := by
  induction l with
  | nil => intro k x h; simp at h
  | cons y l ih =>
    intro k x h
    have e : ∀ (z : Tri) (l : List Tri), rcells (z :: l) = .int .i64 z.a :: .int .i64 z.b :: .int .i64 z.n :: rcells l := fun _ _ => rfl
    cases k with
    | zero => rw [e]; simp [e]
    | succ k =>
      rw [e, List.set_cons_succ, e, ← ih k x (by simpa using h), show (k + 1) * 3 = k * 3 + 3 by omega]
      simp [List.set_cons_succ]
theorem mid_set (m i : Nat) (ys : List Tri) (hi : i < ys.length) : (List.replicate i (mk3 m) ++ ys.drop i).set i (mk3 m) = List.replicate (i + 1) (mk3 m) ++ ys.drop (i + 1) := by
  rw [List.drop_eq_getElem_cons hi, List.set_append_right _ _ (by simp), List.length_replicate, Nat.sub_self, List.set_cons_zero, List.replicate_succ', List.append_assoc]
  rfl
/-- What Rights of a Book may turn. -/
def BkS (b : Nat) (L M v : Value) (i : Nat) : Prop := i = b ∨ some i = L.ownBlock ∨ some i = M.ownBlock ∨ some i = v.ownBlock

set_option maxRecDepth 100000 in
set_option maxHeartbeats 4000000 in
theorem bk_rights (w : World) (N b : Nat) (L M : Value) (A turn done used : Nat) (ks : List Kl) (p : Option Addr) (len c : Nat) (ys : List Tri) (h : Bk w N b L M A turn done used ks) (hrow : w.ownsRow N 82 3 (.slice p len c) len (rcells ys)) (hfar : ∀ k ∈ ks, Far (.slice p len c) k.val) (hN : N ≤ w.heap.size) (ht : turn + 1 ≤ 1000000000000000) (hlen : len ≤ 1100000000) (hu : used ≤ 16777216) (hks : ks.length + 1 ≤ 1000000000) :
    Calls Tryz.prog 7 #[.pointer (some ⟨b, 0, none⟩), .slice p len c] w fun e w' => e = .returned (.tuple #[]) ∧ ∃ L' M' used' ks', Bk w' N b L' M' A (turn + 1) done used' ks' ∧ used' ≤ 16777216 ∧ (ks' = ks ∨ (ks' = ks ++ [⟨p, len, c, turn + 1⟩] ∧ len ≤ 16777216)) ∧ Kept (BkS b L M (.slice p len c)) w w' ∧ (L'.ownBlock = L.ownBlock ∨ ∃ g, L'.ownBlock = some g ∧ w.heap.size ≤ g) ∧ (M'.ownBlock = M.ownBlock ∨ ∃ g, M'.ownBlock = some g ∧ w.heap.size ≤ g) := by
  obtain ⟨i1, hi1, hz10, hz11, hz12⟩ := info_parts infoBy
  obtain ⟨i2, hi2, hz20, hz21, hz22⟩ := info_parts infoIn
  have HH := hide h
  have HFar := hide hfar
  have c54 := bk_cell h.blk 54 (.int .i64 (turn : Int)) rfl
  have cf := bk_thaw h.blk
  have HK1 := hide (h.turned (turn + 1))
  have HYl : Hid (ys.length = len) := row_len hrow
  have HR1 : Hid ((w.setCell ⟨b, 54, none⟩ (.int .i64 ((turn + 1 : Nat) : Int))).ownsRow N 82 3 (.slice p len c) len (rcells ys)) := owns_kept' hrow (fun g e => Below.heap_setCell _ _ _ _ (fun e' => owns_ne hrow h.blk (by decide) (by rw [e, e'])))
  have HS1 : Hid (Kept (BkS b L M (.slice p len c)) w (w.setCell ⟨b, 54, none⟩ (.int .i64 ((turn + 1 : Nat) : Int)))) := (Kept.refl _ _).trans (kept_but ((But.refl b w).setCell (p := ⟨b, 54, none⟩) (Or.inl rfl) _)) (fun i e => Or.inl (Or.inl e))
  have htn : (turn : Int) + 1 = ((turn + 1 : Nat) : Int) := by omega
  clear h hrow hfar
  generalize turn + 1 = m at *
  have HMk := hide (fun w => mark_any w m ht)
  obtain ⟨x0, hx0⟩ : ∃ x0 : Int, 1000 + (m : Int) = x0 := ⟨_, rfl⟩
  rw [hx0] at HMk
  have HX0 : Hid (mk3 m = ⟨x0, 0, 0⟩) := by show _ = _; unfold mk3; rw [hx0]
  clear hx0
  go_enter Tryz.func7, Tryz.ntmps7
  go_upto_region 1 with (fail)
  generalize w.setCell ⟨b, 54, none⟩ (.int .i64 (m : Int)) = w1 at *
  clear c54 cf
  have c54 := bk_cell HK1.out.blk 54 (.int .i64 (m : Int)) rfl
  go_wp2_with (go_at_call 25; refine (HMk.out _).mono ?_; rintro e w2 ⟨rfl, rfl⟩)
  clear c54
  obtain ⟨w2, hw2⟩ : ∃ w2, (w1.alloc (.cells #[.int .i64 x0, .int .i64 0, .int .i64 0] 82)).alloc (.cells #[.int .i64 x0, .int .i64 0, .int .i64 0] 82) = w2 := ⟨_, rfl⟩
  have hB2 : Below w1.heap.size w1 w2 := by rw [← hw2]; exact ((Below.refl _ _).alloc (Nat.le_refl _) _).alloc (by simp) _
  have hx2 : w2.heap[w1.heap.size + 1]? = some (.cells #[.int .i64 x0, .int .i64 0, .int .i64 0] 82 (0, 0)) := by
    rw [← hw2]
    have h := heap_alloc_new (w1.alloc (.cells #[.int .i64 x0, .int .i64 0, .int .i64 0] 82)) (.cells #[.int .i64 x0, .int .i64 0, .int .i64 0] 82)
    rw [World.size_alloc] at h
    exact h
  rw [hw2]
  have HK2 := hide (HK1.out.below hB2)
  have HR2 := hide (owns_kept' HR1.out (fun g e => hB2.block g (owns_lt HR1.out g e)))
  have HS2 : Hid (Kept (BkS b L M (.slice p len c)) w w2) := HS1.out.trans (kept_below (S := fun _ => False) hB2) (fun _ e => e.elim)
  have HBx := hide hx2
  have HW1 : Hid (∀ g, (Value.slice p len c).ownBlock = some g → g < w1.heap.size) := fun g e => owns_lt HR1.out g e
  have HWb : Hid (b < w1.heap.size) := lt_of_block HK1.out.blk
  clear hw2 hB2 hx2 HK1 HR1 HS1
  generalize w1.heap.size = z1 at *
  go_loopw [6] (fun i wr => ∃ i' : Nat, i' ≤ len ∧ i = .int .i64 i' ∧ Hid (Bk wr N b L M A m done used ks) ∧ Hid (wr.ownsRow N 82 3 (.slice p len c) len (rcells (List.replicate i' (mk3 m) ++ ys.drop i'))) ∧ Hid (Kept (BkS b L M (.slice p len c)) w wr) ∧ Hid (wr.heap[z1 + 1]? = some (.cells #[.int .i64 x0, .int .i64 0, .int .i64 0] 82 (0, 0)))) (fun i _ => len - (intOf i).toNat)
  case atStart => exact ⟨0, Nat.zero_le _, rfl, HK2, HR2, HS2, HBx⟩
  case round =>
    clear HK2 HR2 HS2 HBx
    obtain ⟨i, hi, rfl, HK, HR, HS, HBx⟩ := hrel
    by_cases hlt : i < len
    · have hil : i < (List.replicate i (mk3 m) ++ ys.drop i).length := by rw [List.length_append, List.length_replicate, List.length_drop, HYl.out]; omega
      have HGt := rcells_get (List.replicate i (mk3 m) ++ ys.drop i) i _ (List.getElem?_eq_getElem hil)
      obtain ⟨g, _, hg, q0⟩ := row_cell HR.out (HGt 0 _ rfl)
      cases hg
      obtain ⟨_, _, hg1, q1⟩ := row_cell HR.out (HGt 1 _ rfl)
      cases hg1
      obtain ⟨_, _, hg2, q2⟩ := row_cell HR.out (HGt 2 _ rfl)
      cases hg2
      rw [Nat.add_zero] at q0
      have hgl := HW1.out g rfl
      have hthaw : ∀ k, wr.frozen? ⟨g, k, none⟩ = false := fun k => by
        rcases HR.out.2 with ⟨h1, _⟩ | ⟨g', cap, cur, h1, _, hg', _⟩
        · cases h1
        · cases h1; simp [World.frozen?, hg']
      have HR2 : Hid ((((wr.setCell ⟨g, i * 3, none⟩ (.int .i64 x0)).setCell ⟨g, i * 3 + 1, none⟩ (.int .i64 0)).setCell ⟨g, i * 3 + 2, none⟩ (.int .i64 0)).ownsRow N 82 3 (.slice (some ⟨g, 0, none⟩) len c) len (rcells (List.replicate (i + 1) (mk3 m) ++ ys.drop (i + 1)))) := by
        have h := owns_setg (k := i * 3 + 2) (owns_setg (k := i * 3 + 1) (owns_setg (k := i * 3) HR.out (.int .i64 x0)) (.int .i64 0)) (.int .i64 0)
        have h2 := rcells_set (List.replicate i (mk3 m) ++ ys.drop i) i ⟨x0, 0, 0⟩ hil
        simp only at h2
        rw [h2, ← HX0.out, mid_set m i ys (by rw [HYl.out]; exact hlt)] at h
        exact h
      have HB : Hid (But g wr (((wr.setCell ⟨g, i * 3, none⟩ (.int .i64 x0)).setCell ⟨g, i * 3 + 1, none⟩ (.int .i64 0)).setCell ⟨g, i * 3 + 2, none⟩ (.int .i64 0))) := (((But.refl g wr).setCell (p := ⟨g, i * 3, none⟩) (Or.inl rfl) _).setCell (p := ⟨g, i * 3 + 1, none⟩) (Or.inl rfl) _).setCell (p := ⟨g, i * 3 + 2, none⟩) (Or.inl rfl) _
      have HK2 := hide (HK.out.keep (kept_but HB.out) (fun e => by subst e; exact owns_ne HR.out HK.out.blk (by decide) rfl) (fun g' e e' => by subst e'; exact rows_far HK.out.ls HR.out (by decide) _ e rfl) (fun g' e e' => by subst e'; exact rows_far HK.out.ms HR.out (by decide) _ e rfl) (fun x hx g' e e' => by subst e'; exact HFar.out x hx _ rfl e))
      have HS2 : Hid (Kept (BkS b L M (.slice (some ⟨g, 0, none⟩) len c)) w (((wr.setCell ⟨g, i * 3, none⟩ (.int .i64 x0)).setCell ⟨g, i * 3 + 1, none⟩ (.int .i64 0)).setCell ⟨g, i * 3 + 2, none⟩ (.int .i64 0))) := HS.out.trans (kept_but HB.out) (fun j e => Or.inl (Or.inr (Or.inr (Or.inr (by rw [e]; rfl)))))
      have HBx2 : Hid ((((wr.setCell ⟨g, i * 3, none⟩ (.int .i64 x0)).setCell ⟨g, i * 3 + 1, none⟩ (.int .i64 0)).setCell ⟨g, i * 3 + 2, none⟩ (.int .i64 0)).heap[z1 + 1]? = some (.cells #[.int .i64 x0, .int .i64 0, .int .i64 0] 82 (0, 0))) := (HB.out.block _ (lt_of_block HBx.out) (by omega)).trans HBx.out
      obtain ⟨d0, d1, d2⟩ := ac3 HBx.out
      have l1 : (i : Int) < (len : Int) := by omega
      have l2 : (0 : Int) ≤ (i : Int) := by omega
      clear HGt
      generalize (List.replicate i (mk3 m) ++ ys.drop i)[i]'hil = yy at q0 q1 q2
      go_wp2
      go_roundw
      case rel => exact ⟨i + 1, by omega, by go_num, HK2, HR2, HS2, HBx2⟩
      case measure => simp [intOf]; omega
    · obtain ⟨hil⟩ : Nonempty (i = len) := ⟨by omega⟩
      have HR3 : Hid (wr.ownsRow N 82 3 (.slice p len c) len (mrow m len)) := by
        have := HR.out
        rw [hil, List.drop_of_length_le (by rw [HYl.out]; omega), List.append_nil] at this
        exact this
      have l1 : ¬ (i : Int) < (len : Int) := by omega
      clear HR hil
      have hmul : (300 : Int) * (len : Int) = ((300 * len : Nat) : Int) := by omega
      have hadd : (8000 : Int) + ((300 * len : Nat) : Int) = ((8000 + 300 * len : Nat) : Int) := by omega
      have hsz : 8000 + 300 * len ≤ 1000000000000000 := by omega
      have hsz2 : 300 * len ≤ 1000000000000000 := by omega
      have HSz : Hid (len ≤ 8000 + 300 * len) := by show _ ≤ _; omega
      have HC0 := hide (bk_tight wr b L M A m done used (8000 + 300 * len) hu hsz HK.out.blk)
      generalize 8000 + 300 * len = sz at *
      generalize 300 * len = s3 at *
      go_wp2_with fail
      refine HC0.out.mono ?_
      rintro e w2 (⟨ht1, rfl, rfl⟩ | ⟨ht1, rfl, rfl⟩)
      · go_wp2
        exact bodyPost_ret (v := .tuple #[]) (by simp [results, Tryz.results7, go_sem]) rfl ⟨rfl, L, M, used, ks, HK.out, hu, Or.inl rfl, HS.out, Or.inl rfl, Or.inl rfl⟩
      · have HK2 := hide (HK.out.usedUp (used + sz))
        have HR4 : Hid ((wr.setCell ⟨b, 56, none⟩ (.int .i64 ((used + sz : Nat) : Int))).ownsRow N 82 3 (.slice p len c) len (mrow m len)) := owns_kept' HR3.out (fun g e => Below.heap_setCell _ _ _ _ (fun e' => owns_ne HR3.out HK.out.blk (by decide) (by rw [e, e'])))
        have HS4 : Hid (Kept (BkS b L M (.slice p len c)) w (wr.setCell ⟨b, 56, none⟩ (.int .i64 ((used + sz : Nat) : Int)))) := HS.out.trans (kept_but ((But.refl b wr).setCell (p := ⟨b, 56, none⟩) (Or.inl rfl) _)) (fun i e => Or.inl (Or.inl e))
        have hu2 : used + sz ≤ 16777216 := by omega
        have HLs : Hid (len ≤ 16777216) := by have := HSz.out; show _ ≤ _; omega
        generalize used + sz = used2 at *
        generalize wr.setCell ⟨b, 56, none⟩ (.int .i64 (used2 : Int)) = w2 at *
        clear HK HR3 HS HC0 HH
        have c0 := bk_cell HK2.out.blk 27 L rfl
        have cf := bk_thaw HK2.out.blk
        have HN2 : Hid (N ≤ w2.heap.size) := Nat.le_trans hN HS4.out.size
        go_upto_region 9 with (at_builtin; refine wpList_append_lies _ rfl (.tmp 40) (.tmp 42) 34 rfl N 60 i1 (.slice none 0 0) 1 24 Tryz.underlying34 hi1 hz10 hz11 hz12 rfl (by omega) L ks.length _ rfl (HK2.out.ls.alloc _) ⟨w2.heap.size, 0, none⟩ 1 1 [.slice p len c] rfl rfl (World.news_of_block (heap_alloc_new w2 (.cells #[.slice p len c] 60))) (by simp [Value.oneCell']) (by omega) (by unfold maxLen; omega) (by omega) (by have := HN2.out; simp; omega) _ rfl ?_; intro gl cl w3 hown3 hgrow3 hat3 hlt3; have k3 : Kept (fun i => some i = L.ownBlock) w2 w3 := (kept_below (S := fun i => some i = L.ownBlock) ((Below.refl _ _).alloc (Nat.le_refl _) (.cells #[.slice p len c] 60))).trans (kept_grown hgrow3) (fun i e => Or.inl e); have HK3 := hide k3; have HB3 := hide ((k3.block b (lt_of_block HK2.out.blk) (fun e => owns_ne HK2.out.ls HK2.out.blk (by decide) e.symm)).trans HK2.out.blk); have c30 := bk_cell HB3.out 27 L rfl; have cf3 := bk_thaw HB3.out; have HL3 := hide hown3; have HA3 := hide hat3; clear hown3 hgrow3 hat3 hlt3 k3)
        have HB4 : Hid ((w3.setCell ⟨b, 27, none⟩ (.slice (some ⟨gl, 0, none⟩) (ks.length + 1) cl)).heap[b]? = some (.cells (bkCells (.slice (some ⟨gl, 0, none⟩) (ks.length + 1) cl) M A m done used2) 44 (0, 0))) := by show _ = _; rw [block_set HB3.out]; rfl
        have HL4 : Hid ((w3.setCell ⟨b, 27, none⟩ (.slice (some ⟨gl, 0, none⟩) (ks.length + 1) cl)).ownsRow N 60 1 (.slice (some ⟨gl, 0, none⟩) (ks.length + 1) cl) (ks.length + 1) ((ks.map fun k => k.val) ++ [.slice p len c])) := owns_kept' HL3.out (fun g e => Below.heap_setCell _ _ _ _ (fun e' => owns_ne HL3.out HB3.out (by decide) (by rw [e, e'])))
        have HK4 : Hid (Kept (fun i => i = b ∨ some i = L.ownBlock ∨ some i = M.ownBlock) w2 (w3.setCell ⟨b, 27, none⟩ (.slice (some ⟨gl, 0, none⟩) (ks.length + 1) cl))) := ((Kept.refl _ _).trans HK3.out (fun i e => Or.inl (Or.inr (Or.inl e)))).trans (kept_but ((But.refl b w3).setCell (p := ⟨b, 27, none⟩) (Or.inl rfl) _)) (fun i e => Or.inl (Or.inl e))
        have HM4 : Hid ((w3.setCell ⟨b, 27, none⟩ (.slice (some ⟨gl, 0, none⟩) (ks.length + 1) cl)).ownsRow N 3 1 M ks.length (ks.map fun k => .int .i64 (k.m : Int))) := owns_kept' HK2.out.ms (fun g e => (Below.heap_setCell _ _ _ _ (fun e' => owns_ne HK2.out.ms HK2.out.blk (by decide) (by rw [e, e']))).trans (HK3.out.block g (owns_lt HK2.out.ms g e) (fun e' => rows_far HK2.out.ls HK2.out.ms (by decide) g e'.symm e)))
        generalize w3.setCell ⟨b, 27, none⟩ (.slice (some ⟨gl, 0, none⟩) (ks.length + 1) cl) = w4 at *
        clear HK3 HB3 HL3 c30 cf3 c0 cf
        have c1 := bk_cell HB4.out 28 M rfl
        have cf := bk_thaw HB4.out
        have HN4 : Hid (N ≤ w4.heap.size) := Nat.le_trans HN2.out HK4.out.size
        go_wp2_with (at_builtin; refine wpList_append_lies _ rfl (.tmp 50) (.tmp 52) 25 rfl N 3 i2 (.int .i64 0) 1 8 Tryz.underlying25 hi2 hz20 hz21 hz22 rfl (by omega) M ks.length _ rfl (HM4.out.alloc _) ⟨w4.heap.size, 0, none⟩ 1 1 [.int .i64 (m : Int)] rfl rfl (World.news_of_block (heap_alloc_new w4 (.cells #[.int .i64 (m : Int)] 3))) (by simp [Value.oneCell']) (by omega) (by unfold maxLen; omega) (by omega) (by have := HN4.out; simp; omega) _ rfl ?_; intro gm cm w5 hown5 hgrow5 hat5 hlt5; have k5 : Kept (fun i => some i = M.ownBlock) w4 w5 := (kept_below (S := fun i => some i = M.ownBlock) ((Below.refl _ _).alloc (Nat.le_refl _) (.cells #[.int .i64 (m : Int)] 3))).trans (kept_grown hgrow5) (fun i e => Or.inl e); have HK5 := hide k5; have HB5 := hide ((k5.block b (lt_of_block HB4.out) (fun e => owns_ne HM4.out HB4.out (by decide) e.symm)).trans HB4.out); have c51 := bk_cell HB5.out 28 M rfl; have cf5 := bk_thaw HB5.out; have HM5 := hide hown5; have HA5 := hide hat5; clear hown5 hgrow5 hat5 hlt5 k5)
        have HB6 : Hid ((w5.setCell ⟨b, 28, none⟩ (.slice (some ⟨gm, 0, none⟩) (ks.length + 1) cm)).heap[b]? = some (.cells (bkCells (.slice (some ⟨gl, 0, none⟩) (ks.length + 1) cl) (.slice (some ⟨gm, 0, none⟩) (ks.length + 1) cm) A m done used2) 44 (0, 0))) := by show _ = _; rw [block_set HB5.out]; rfl
        have HM6 : Hid ((w5.setCell ⟨b, 28, none⟩ (.slice (some ⟨gm, 0, none⟩) (ks.length + 1) cm)).ownsRow N 3 1 (.slice (some ⟨gm, 0, none⟩) (ks.length + 1) cm) (ks.length + 1) ((ks.map fun k => Value.int .i64 (k.m : Int)) ++ [.int .i64 (m : Int)])) := owns_kept' HM5.out (fun g e => Below.heap_setCell _ _ _ _ (fun e' => owns_ne HM5.out HB5.out (by decide) (by rw [e, e'])))
        have HL6 : Hid ((w5.setCell ⟨b, 28, none⟩ (.slice (some ⟨gm, 0, none⟩) (ks.length + 1) cm)).ownsRow N 60 1 (.slice (some ⟨gl, 0, none⟩) (ks.length + 1) cl) (ks.length + 1) ((ks.map fun k => k.val) ++ [.slice p len c])) := owns_kept' HL4.out (fun g e => (Below.heap_setCell _ _ _ _ (fun e' => owns_ne HL4.out HB4.out (by decide) (by rw [e, e']))).trans (HK5.out.block g (owns_lt HL4.out g e) (fun e' => rows_far HM4.out HL4.out (by decide) g e'.symm e)))
        have HK6 : Hid (Kept (fun i => i = b ∨ some i = L.ownBlock ∨ some i = M.ownBlock) w2 (w5.setCell ⟨b, 28, none⟩ (.slice (some ⟨gm, 0, none⟩) (ks.length + 1) cm))) := (HK4.out.trans HK5.out (fun i e => Or.inl (Or.inr (Or.inr e)))).trans (kept_but ((But.refl b w5).setCell (p := ⟨b, 28, none⟩) (Or.inl rfl) _)) (fun i e => Or.inl (Or.inl e))
        have HBk := hide (HK2.out.more (x := ⟨p, len, c, m⟩) HK6.out HB6.out HL6.out HM6.out HR4.out ⟨ht, Nat.le_trans HLs.out (by omega)⟩ hks (fun y hy g e1 e2 => absurd e1 (HFar.out y hy g e2)))
        have HS6 : Hid (Kept (BkS b L M (.slice p len c)) w (w5.setCell ⟨b, 28, none⟩ (.slice (some ⟨gm, 0, none⟩) (ks.length + 1) cm))) := HS4.out.trans HK6.out (fun i e => Or.inl (by rcases e with e | e | e; exact Or.inl e; exact Or.inr (Or.inl e); exact Or.inr (Or.inr (Or.inl e))))
        have HLa : Hid ((Value.slice (some ⟨gl, 0, none⟩) (ks.length + 1) cl).ownBlock = L.ownBlock ∨ ∃ g, (Value.slice (some ⟨gl, 0, none⟩) (ks.length + 1) cl).ownBlock = some g ∧ w.heap.size ≤ g) := by
          rcases HA3.out with h | h
          · exact Or.inl h.symm
          · exact Or.inr ⟨gl, rfl, by have := HS4.out.size; simp at h; omega⟩
        have HMa : Hid ((Value.slice (some ⟨gm, 0, none⟩) (ks.length + 1) cm).ownBlock = M.ownBlock ∨ ∃ g, (Value.slice (some ⟨gm, 0, none⟩) (ks.length + 1) cm).ownBlock = some g ∧ w.heap.size ≤ g) := by
          rcases HA5.out with h | h
          · exact Or.inl h.symm
          · exact Or.inr ⟨gm, rfl, by have := HS4.out.size; have := HK4.out.size; simp at h; omega⟩
        go_wp2
        go_end0
        exact ⟨rfl, _, _, used2, _, HBk.out, hu2, Or.inr ⟨rfl, HLs.out⟩, HS6.out, HLa.out, HMa.out⟩

end Go.Proofs.YtfdanocpbhbieaaGreat.RB
