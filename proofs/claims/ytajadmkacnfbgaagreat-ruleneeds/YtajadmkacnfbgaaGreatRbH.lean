import Derived.Test.YtajadmkacnfbgaaGreatRbG
import Derived.Deep.Cut
namespace Go.Proofs.YtajadmkacnfbgaaGreat.RB
open Go.RowKit Go.Proofs.YtajadmkacnfbgaaGreat

/-- What growing may turn. -/
def GS (b : Nat) (L M : Value) (ks : List Kl) (i : Nat) : Prop := i = b ∨ some i = L.ownBlock ∨ some i = M.ownBlock ∨ ∃ k ∈ ks, some i = k.val.ownBlock

/-- WHILE THE LISTS GROW. w, L0, M0, ks: as it began. -/
structure Gr (w : World) (L0 M0 : Value) (ks : List Kl) (wr : World) (N b : Nat) (L M : Value) (A turn done used : Nat) (ks2 : List Kl) : Prop where
  bk : Bk wr N b L M A turn done used ks2
  pre : ∀ j, j < ks.length → ks2[j]? = ks[j]?
  len : ks.length ≤ ks2.length
  own : ∀ x ∈ ks2, ∀ g, x.val.ownBlock = some g → (∃ k ∈ ks, k.val.ownBlock = some g) ∨ w.heap.size ≤ g
  lo : L.ownBlock = L0.ownBlock ∨ ∃ g, L.ownBlock = some g ∧ w.heap.size ≤ g
  mo : M.ownBlock = M0.ownBlock ∨ ∃ g, M.ownBlock = some g ∧ w.heap.size ≤ g
  kept : Kept (GS b L0 M0 ks) w wr

/-- The list that grows. -/
structure Cu (w : World) (ks : List Kl) (wr : World) (N m : Nat) (g : Value) (n : Nat) (ks2 : List Kl) : Prop where
  row : wr.ownsRow N 70 3 g n (mrow m n)
  one : ∀ x ∈ ks2, ∀ q, x.val.ownBlock = some q → g.ownBlock = some q → x.m = m
  own : ∀ q, g.ownBlock = some q → (∃ k ∈ ks, k.val.ownBlock = some q) ∨ w.heap.size ≤ q

section
variable {w wr w' : World} {L0 M0 L M g g' : Value} {ks ks2 : List Kl} {N b A turn done used m n : Nat}
theorem Gr.mark (h : Gr w L0 M0 ks wr N b L M A turn done used ks2) (c : Cu w ks wr N m g n ks2) (hrow : w'.ownsRow N 70 3 g' (n + 1) (mrow m (n + 1))) (hat : g'.ownBlock = g.ownBlock ∨ ∃ q, g'.ownBlock = some q ∧ wr.heap.size ≤ q) (k : Kept (fun i => some i = g.ownBlock) wr w')
    (hm : ∀ u k, wr.ownsRow N 70 3 u k (mrow m k) → w'.ownsRow N 70 3 u k (mrow m k)) : Gr w L0 M0 ks w' N b L M A turn done used ks2 ∧ Cu w ks w' N m g' (n + 1) ks2 := by
  have hz := h.kept.size
  refine ⟨⟨⟨(k.block b (lt_of_block h.bk.blk) (fun e => owns_ne c.row h.bk.blk (by decide) e.symm)).trans h.bk.blk, owns_kept' h.bk.ls (fun q e => k.block q (owns_lt h.bk.ls q e) (fun e' => rows_far h.bk.ls c.row (by decide) q e e'.symm)), owns_kept' h.bk.ms (fun q e => k.block q (owns_lt h.bk.ms q e) (fun e' => rows_far h.bk.ms c.row (by decide) q e e'.symm)), fun x hx => ?_, h.bk.num, h.bk.most, h.bk.one⟩, h.pre, h.len, h.own, h.lo, h.mo, h.kept.trans k (fun i e => ?_)⟩, ⟨hrow, fun x hx q e1 e2 => ?_, fun q e => ?_⟩⟩
  · by_cases hxm : x.m = m
    · have := h.bk.rows x hx
      rw [hxm] at this ⊢
      exact hm _ _ this
    · have hr := h.bk.rows x hx
      exact owns_kept' hr (fun q e => k.block q (owns_lt hr q e) (fun e' => hxm (c.one x hx q e e'.symm)))
  · rcases c.own i e.symm with ⟨x, hx, e'⟩ | e'
    · exact Or.inl (Or.inr (Or.inr (Or.inr ⟨x, hx, e'.symm⟩)))
    · exact Or.inr e'
  · rcases hat with e' | ⟨q', e', hq'⟩
    · exact c.one x hx q e1 (by rw [← e', e2])
    · rw [e'] at e2; cases e2
      have := owns_lt (h.bk.rows x hx) _ e1
      omega
  · rcases hat with e' | ⟨q', e', hq'⟩
    · exact c.own q (by rw [← e', e])
    · rw [e'] at e; cases e; exact Or.inr (by omega)

/-- The list, so far, is kept. -/
theorem Gr.push (h : Gr w L0 M0 ks wr N b L M A turn done used ks2) {p : Option Addr} {cc : Nat} (c : Cu w ks wr N m (.slice p n cc) n ks2) {L' M' : Value} (k : Kept (fun i => i = b ∨ some i = L.ownBlock ∨ some i = M.ownBlock) wr w') (hb : w'.heap[b]? = some (.cells (bkCells L' M' A turn done used) 45 (0, 0)))
    (hl : w'.ownsRow N 50 1 L' (ks2.length + 1) ((ks2.map fun k => k.val) ++ [.slice p n cc])) (hm : w'.ownsRow N 3 1 M' (ks2.length + 1) ((ks2.map fun k => Value.int .i64 (k.m : Int)) ++ [.int .i64 (m : Int)])) (hn : m ≤ 1000000000000000 ∧ n ≤ 100000000000) (hc : ks2.length + 1 ≤ 1000000000)
    (ha : L'.ownBlock = L.ownBlock ∨ ∃ q, L'.ownBlock = some q ∧ wr.heap.size ≤ q) (hb' : M'.ownBlock = M.ownBlock ∨ ∃ q, M'.ownBlock = some q ∧ wr.heap.size ≤ q) :
    Gr w L0 M0 ks w' N b L' M' A turn done used (ks2 ++ [⟨p, n, cc, m⟩]) ∧ Cu w ks w' N m (.slice p n cc) n (ks2 ++ [⟨p, n, cc, m⟩]) := by
  have hz := h.kept.size
  have hbk := h.bk.more (x := ⟨p, n, cc, m⟩) k hb hl hm c.row hn hc (fun y hy q e1 e2 => c.one y hy q e1 e2)
  have hfix : ∀ {X Y Z : Value}, (X.ownBlock = Y.ownBlock ∨ ∃ q, X.ownBlock = some q ∧ w.heap.size ≤ q) → (Z.ownBlock = X.ownBlock ∨ ∃ q, Z.ownBlock = some q ∧ wr.heap.size ≤ q) → (Z.ownBlock = Y.ownBlock ∨ ∃ q, Z.ownBlock = some q ∧ w.heap.size ≤ q) := fun h1 h2 => by
    rcases h2 with e | ⟨q, e, hq⟩
    · rw [e]; exact h1
    · exact Or.inr ⟨q, e, by omega⟩
  refine ⟨⟨hbk, fun j hj => ?_, by simp; have := h.len; omega, fun x hx q e => ?_, hfix h.lo ha, hfix h.mo hb', h.kept.trans k (fun i hi => ?_)⟩, ⟨hbk.rows ⟨p, n, cc, m⟩ (by simp), fun x hx q e1 e2 => ?_, c.own⟩⟩
  · rw [List.getElem?_append_left (by have := h.len; omega)]; exact h.pre j hj
  · rcases List.mem_append.1 hx with h' | h'
    · exact h.own x h' q e
    · simp at h'; subst h'; exact c.own q e
  · rcases hi with e | e | e
    · exact Or.inl (Or.inl e)
    · rcases h.lo with e' | ⟨q, e', hq⟩
      · exact Or.inl (Or.inr (Or.inl (by rw [e, e'])))
      · rw [e'] at e; cases e; exact Or.inr hq
    · rcases h.mo with e' | ⟨q, e', hq⟩
      · exact Or.inl (Or.inr (Or.inr (Or.inl (by rw [e, e']))))
      · rw [e'] at e; cases e; exact Or.inr hq
  · rcases List.mem_append.1 hx with h' | h'
    · exact c.one x h' q e1 e2
    · simp at h'; subst h'; rfl
end

theorem Gr.below {w wr w' : World} {L0 M0 L M : Value} {ks ks2 : List Kl} {N b A turn done used : Nat} (h : Gr w L0 M0 ks wr N b L M A turn done used ks2) (hb : Below wr.heap.size wr w') : Gr w L0 M0 ks w' N b L M A turn done used ks2 :=
  ⟨h.bk.below hb, h.pre, h.len, h.own, h.lo, h.mo, h.kept.trans (kept_below (S := fun _ => False) hb) (fun _ e => e.elim)⟩
theorem Cu.below {w wr w' : World} {g : Value} {ks ks2 : List Kl} {N m n b A turn done used : Nat} {L M : Value} (h : Cu w ks wr N m g n ks2) (hb : Below wr.heap.size wr w') (_ : Bk wr N b L M A turn done used ks2) : Cu w ks w' N m g n ks2 :=
  ⟨owns_kept' h.row (fun q e => hb.block q (owns_lt h.row q e)), h.one, h.own⟩
theorem Bk.grownTo {w : World} {N b : Nat} {L M : Value} {A turn done used : Nat} {ks : List Kl} (h : Bk w N b L M A turn done used ks) (t : Nat) : Bk (w.setCell ⟨b, 29, none⟩ (.int .i64 (t : Int))) N b L M t turn done used ks := by
  have hs : ∀ j, j ≠ b → (w.setCell ⟨b, 29, none⟩ (.int .i64 (t : Int))).heap[j]? = w.heap[j]? := fun j hj => Below.heap_setCell _ _ _ _ hj
  have hr : ∀ {B0 n s0 : Nat} {ty : TypeId} {v : Value} {xs : List Value}, w.ownsRow B0 ty s0 v n xs → 45 ≠ ty → ∀ g, v.ownBlock = some g → (w.setCell ⟨b, 29, none⟩ (.int .i64 (t : Int))).heap[g]? = w.heap[g]? := fun hv ht g e => hs g (fun e' => owns_ne hv h.blk ht (by rw [e, e']))
  exact ⟨by rw [block_set h.blk]; rfl, owns_kept' h.ls (hr h.ls (by decide)), owns_kept' h.ms (hr h.ms (by decide)), fun x hx => owns_kept' (h.rows x hx) (hr (h.rows x hx) (by decide)), h.num, h.most, h.one⟩

set_option maxRecDepth 100000 in
set_option maxHeartbeats 4000000 in
theorem bk_growRights (w : World) (N b : Nat) (L0 M0 : Value) (A turn done used : Nat) (ks : List Kl) (h : Bk w N b L0 M0 A turn done used ks) (hN : N ≤ w.heap.size) (hA : A ≤ ks.length) (hks : ks.length ≤ 1000000) (hl : ∀ j x, A ≤ j → ks[j]? = some x → x.l ≤ 99999999000) :
    Calls Tryz.prog 46 #[.pointer (some ⟨b, 0, none⟩)] w fun e w' => e = .returned (.tuple #[]) ∧ ∃ L M ks2, Gr w L0 M0 ks w' N b L M ks2.length turn done used ks2 ∧ ks2.length ≤ ks.length + 32 * (ks.length - A) := by
  obtain ⟨i1, hi1, hz10, hz11, hz12⟩ := info_parts infoBy
  obtain ⟨i2, hi2, hz20, hz21, hz22⟩ := info_parts infoIn
  have HLs := hide hl
  have q0 := bk_cell h.blk 27 L0 rfl
  have q2 := bk_cell h.blk 29 (.int .i64 (A : Int)) rfl
  have HG0 : Hid (Gr w L0 M0 ks w N b L0 M0 A turn done used ks) := ⟨h, fun _ _ => rfl, Nat.le_refl _, fun x hx g e => Or.inl ⟨x, hx, e⟩, Or.inl rfl, Or.inl rfl, Kept.refl _ _⟩
  obtain ⟨lp, lc, hL0⟩ : ∃ p c, L0 = .slice p ks.length c := by
    rcases h.ls.2 with ⟨h1, h2⟩ | ⟨g, cap, cur, h1, _⟩
    · exact ⟨none, 0, by rw [h1, h2]⟩
    · exact ⟨_, cap, h1⟩
  rw [hL0] at q0
  clear h hl hL0
  go_enter Tryz.func46, Tryz.ntmps46
  go_wp2
  clear q0 q2
  go_loopw [3] (fun i wr => ∃ (k : Nat) (L M : Value) (ks2 : List Kl), A ≤ k ∧ k ≤ ks.length ∧ i = .int .i64 k ∧ Hid (Gr w L0 M0 ks wr N b L M A turn done used ks2) ∧ Hid (ks2.length ≤ ks.length + 32 * (k - A))) (fun i _ => ks.length - (intOf i).toNat)
  case atStart => exact ⟨A, L0, M0, ks, Nat.le_refl _, hA, rfl, HG0, by show _ ≤ _; omega⟩
  case round =>
    clear HG0
    obtain ⟨k, L, M, ks2, hkA, hk, rfl, HG, HC⟩ := hrel
    by_cases hlt : k < ks.length
    · have hop : ks[k]? = some (ks[k]'hlt) := List.getElem?_eq_getElem _
      have hop2 : ks2[k]? = some (ks[k]'hlt) := (HG.out.pre k hlt).trans hop
      have hx9 := HLs.out k _ hkA hop
      have hmem := hide (List.mem_of_getElem? hop2)
      obtain ⟨gl, cl, hgl, cl0⟩ := row_cell HG.out.bk.ls (k := k) (a := (ks[k]'hlt).val) (by simp [hop2])
      obtain ⟨gm, cm, hgm, cm0⟩ := row_cell HG.out.bk.ms (k := k) (a := .int .i64 ((ks[k]'hlt).m : Int)) (by simp [hop2])
      have q0 := bk_cell HG.out.bk.blk 27 L rfl
      have q1 := bk_cell HG.out.bk.blk 28 M rfl
      have HCu : Hid (Cu w ks wr N (ks[k]'hlt).m (ks[k]'hlt).val (ks[k]'hlt).l ks2) := ⟨HG.out.bk.rows _ hmem.out, fun x hx q e1 e2 => HG.out.bk.one x hx _ hmem.out q e1 e2, HG.out.own _ hmem.out⟩
      obtain ⟨hm9, _⟩ := HG.out.bk.num _ hmem.out
      generalize ks[k]'hlt = xk at *
      obtain ⟨p, l, c, m⟩ := xk
      simp only [Kl.val] at cl0 cm0 HCu hm9 hx9
      rw [hgl] at q0
      rw [hgm] at q1
      have HGL := hide hgl
      have HGM := hide hgm
      have hl2 := HG.out.len
      have hcnt := HC.out
      clear hop hop2 hmem hgl hgm
      have l1 : (k : Int) < (ks2.length : Int) := by omega
      have l2 : (0 : Int) ≤ (k : Int) := by omega
      have l3 : (k : Int) < (ks.length : Int) := by omega
      go_wp2
      clear q0 q1 cl0 cm0 l1
      go_loopw [4, 6] (fun gv i wr => ∃ (i' n : Nat) (v L M : Value) (ks3 : List Kl), 1 ≤ i' ∧ i' ≤ 33 ∧ i = .int .i64 i' ∧ gv = v ∧ Hid (Gr w L0 M0 ks wr N b L M A turn done used ks3) ∧ Hid (Cu w ks wr N m v n ks3) ∧ n + 1 = l + i' ∧ ks3.length + 1 ≤ ks2.length + i') (fun _ i _ => 33 - (intOf i).toNat)
      case atStart => exact ⟨1, l, _, L, M, ks2, by omega, by omega, rfl, rfl, HG, HCu, rfl, Nat.le_refl _⟩
      case round =>
        clear HG HCu HGL HGM
        obtain ⟨i, n, v, L3, M3, ks3, hi1', hi33, rfl, rfl, HG, HCu, hnl, hcn⟩ := hrel
        have HNL := hide hnl
        have hn9 : n + 1 ≤ 99999999097 := by omega
        clear hnl
        by_cases hi96 : i < 33
        · obtain ⟨p3, c3, hv3⟩ : ∃ p c, u4 = .slice p n c := by
            rcases HCu.out.row.2 with ⟨h1, h2⟩ | ⟨g, cap, cur, h1, _⟩
            · exact ⟨none, 0, by rw [h1, h2]⟩
            · exact ⟨_, cap, h1⟩
          subst hv3
          have HA := hide (fun w => mark_any w m hm9)
          have HNr : Hid (N ≤ wr.heap.size) := Nat.le_trans hN HG.out.kept.size
          have l4 : (i : Int) ≤ 32 := by omega
          go_wp2_with fail
          refine (HA.out _).mono ?_
          rintro e wx ⟨rfl, rfl⟩
          have hbx : Below wr.heap.size wr (wr.alloc (.cells #[.int .i64 (1000 + (m : Int)), .int .i64 0, .int .i64 0] 70)) := (Below.refl _ _).alloc (Nat.le_refl _) _
          have HGx := hide (HG.out.below hbx)
          have HCx := hide (HCu.out.below hbx HG.out.bk)
          have HNx : Hid (N ≤ (wr.alloc (.cells #[.int .i64 (1000 + (m : Int)), .int .i64 0, .int .i64 0] 70)).heap.size) := Nat.le_trans HNr.out hbx.size
          generalize wr.alloc (.cells #[.int .i64 (1000 + (m : Int)), .int .i64 0, .int .i64 0] 70) = wx at *
          clear hbx
          go_upto_region 10 with (at_builtin; refine wpList_append_mark rfl (.tmp 39) (.tmp 42) rfl N m n (.slice p3 n c3) rfl (HCx.out.row.alloc _) wx.heap.size rfl (heap_alloc_new _ _) (by omega) (by have := HNx.out; simp; omega) ?_; intro v4 w4 r1 r2 r3 r4; have hp4 := HGx.out.mark HCx.out r1 (by rcases r2 with e | ⟨q, e, hq⟩; exact Or.inl e; exact Or.inr ⟨q, e, by simp at hq; omega⟩) ((kept_below (S := fun i => some i = (Value.slice p3 n c3).ownBlock) ((Below.refl _ _).alloc (Nat.le_refl _) (.cells #[.int .i64 (1000 + (m : Int)), .int .i64 0, .int .i64 0] 70))).trans r3 (fun i e => Or.inl e)) (fun u k hu => r4 u k (hu.alloc _)); have HG4 := hide hp4.1; have HC4 := hide hp4.2; clear r1 r2 r3 r4 hp4)
          obtain ⟨p4, k4, hv4⟩ : ∃ p c, v4 = .slice p (n + 1) c := by
            rcases HC4.out.row.2 with ⟨h1, h2⟩ | ⟨g, cap, cur, h1, _⟩
            · omega
            · exact ⟨_, cap, h1⟩
          subst hv4
          clear HG HCu HA HNr HGx HCx HNx
          by_cases hi4 : i < 4
          · have l5 : (i : Int) < 4 := by omega
            have c0 := bk_cell HG4.out.bk.blk 27 L3 rfl
            have cf := bk_thaw HG4.out.bk.blk
            have HN2 : Hid (N ≤ w4.heap.size) := Nat.le_trans hN HG4.out.kept.size
            go_upto_region 12 with (at_builtin; refine wpList_append_lies _ rfl (.tmp 55) (.tmp 57) 35 rfl N 50 i1 (.slice none 0 0) 1 24 Tryz.underlying35 hi1 hz10 hz11 hz12 rfl (by omega) L3 ks3.length _ rfl (HG4.out.bk.ls.alloc _) ⟨w4.heap.size, 0, none⟩ 1 1 [.slice p4 (n + 1) k4] rfl rfl (World.news_of_block (heap_alloc_new w4 (.cells #[.slice p4 (n + 1) k4] 50))) (by simp [Value.oneCell']) (by omega) (by unfold maxLen; omega) (by omega) (by have := HN2.out; simp; omega) _ rfl ?_; intro gl cl w5 hown5 hgrow5 hat5 hlt5; have kk5 : Kept (fun i => some i = L3.ownBlock) w4 w5 := (kept_below (S := fun i => some i = L3.ownBlock) ((Below.refl _ _).alloc (Nat.le_refl _) (.cells #[.slice p4 (n + 1) k4] 50))).trans (kept_grown hgrow5) (fun i e => Or.inl e); have HK5 := hide kk5; have HB5 := hide ((kk5.block b (lt_of_block HG4.out.bk.blk) (fun e => owns_ne HG4.out.bk.ls HG4.out.bk.blk (by decide) e.symm)).trans HG4.out.bk.blk); have c50 := bk_cell HB5.out 27 L3 rfl; have cf5 := bk_thaw HB5.out; have HL5 := hide hown5; have HA5 := hide hat5; clear hown5 hgrow5 hat5 hlt5 kk5)
            have HB6 : Hid ((w5.setCell ⟨b, 27, none⟩ (.slice (some ⟨gl, 0, none⟩) (ks3.length + 1) cl)).heap[b]? = some (.cells (bkCells (.slice (some ⟨gl, 0, none⟩) (ks3.length + 1) cl) M3 A turn done used) 45 (0, 0))) := by show _ = _; rw [block_set HB5.out]; rfl
            have HL6 : Hid ((w5.setCell ⟨b, 27, none⟩ (.slice (some ⟨gl, 0, none⟩) (ks3.length + 1) cl)).ownsRow N 50 1 (.slice (some ⟨gl, 0, none⟩) (ks3.length + 1) cl) (ks3.length + 1) ((ks3.map fun k => k.val) ++ [.slice p4 (n + 1) k4])) := owns_kept' HL5.out (fun g e => Below.heap_setCell _ _ _ _ (fun e' => owns_ne HL5.out HB5.out (by decide) (by rw [e, e'])))
            have HK6 : Hid (Kept (fun i => i = b ∨ some i = L3.ownBlock ∨ some i = M3.ownBlock) w4 (w5.setCell ⟨b, 27, none⟩ (.slice (some ⟨gl, 0, none⟩) (ks3.length + 1) cl))) := ((Kept.refl _ _).trans HK5.out (fun i e => Or.inl (Or.inr (Or.inl e)))).trans (kept_but ((But.refl b w5).setCell (p := ⟨b, 27, none⟩) (Or.inl rfl) _)) (fun i e => Or.inl (Or.inl e))
            have HM6 : Hid ((w5.setCell ⟨b, 27, none⟩ (.slice (some ⟨gl, 0, none⟩) (ks3.length + 1) cl)).ownsRow N 3 1 M3 ks3.length (ks3.map fun k => .int .i64 (k.m : Int))) := owns_kept' HG4.out.bk.ms (fun g e => (Below.heap_setCell _ _ _ _ (fun e' => owns_ne HG4.out.bk.ms HG4.out.bk.blk (by decide) (by rw [e, e']))).trans (HK5.out.block g (owns_lt HG4.out.bk.ms g e) (fun e' => rows_far HG4.out.bk.ls HG4.out.bk.ms (by decide) g e'.symm e)))
            generalize w5.setCell ⟨b, 27, none⟩ (.slice (some ⟨gl, 0, none⟩) (ks3.length + 1) cl) = w6 at *
            clear HK5 HB5 HL5 c50 cf5 c0 cf
            have c1 := bk_cell HB6.out 28 M3 rfl
            have cf := bk_thaw HB6.out
            have HN6 : Hid (N ≤ w6.heap.size) := Nat.le_trans HN2.out HK6.out.size
            go_wp2_with (at_builtin; refine wpList_append_lies _ rfl (.tmp 65) (.tmp 67) 27 rfl N 3 i2 (.int .i64 0) 1 8 Tryz.underlying27 hi2 hz20 hz21 hz22 rfl (by omega) M3 ks3.length _ rfl (HM6.out.alloc _) ⟨w6.heap.size, 0, none⟩ 1 1 [.int .i64 (m : Int)] rfl rfl (World.news_of_block (heap_alloc_new w6 (.cells #[.int .i64 (m : Int)] 3))) (by simp [Value.oneCell']) (by omega) (by unfold maxLen; omega) (by omega) (by have := HN6.out; simp; omega) _ rfl ?_; intro gm cm w7 hown7 hgrow7 hat7 hlt7; have kk7 : Kept (fun i => some i = M3.ownBlock) w6 w7 := (kept_below (S := fun i => some i = M3.ownBlock) ((Below.refl _ _).alloc (Nat.le_refl _) (.cells #[.int .i64 (m : Int)] 3))).trans (kept_grown hgrow7) (fun i e => Or.inl e); have HK7 := hide kk7; have HB7 := hide ((kk7.block b (lt_of_block HB6.out) (fun e => owns_ne HM6.out HB6.out (by decide) e.symm)).trans HB6.out); have c71 := bk_cell HB7.out 28 M3 rfl; have cf7 := bk_thaw HB7.out; have HM7 := hide hown7; have HA7 := hide hat7; clear hown7 hgrow7 hat7 hlt7 kk7)
            have HB8 : Hid ((w7.setCell ⟨b, 28, none⟩ (.slice (some ⟨gm, 0, none⟩) (ks3.length + 1) cm)).heap[b]? = some (.cells (bkCells (.slice (some ⟨gl, 0, none⟩) (ks3.length + 1) cl) (.slice (some ⟨gm, 0, none⟩) (ks3.length + 1) cm) A turn done used) 45 (0, 0))) := by show _ = _; rw [block_set HB7.out]; rfl
            have HM8 : Hid ((w7.setCell ⟨b, 28, none⟩ (.slice (some ⟨gm, 0, none⟩) (ks3.length + 1) cm)).ownsRow N 3 1 (.slice (some ⟨gm, 0, none⟩) (ks3.length + 1) cm) (ks3.length + 1) ((ks3.map fun k => Value.int .i64 (k.m : Int)) ++ [.int .i64 (m : Int)])) := owns_kept' HM7.out (fun g e => Below.heap_setCell _ _ _ _ (fun e' => owns_ne HM7.out HB7.out (by decide) (by rw [e, e'])))
            have HL8 : Hid ((w7.setCell ⟨b, 28, none⟩ (.slice (some ⟨gm, 0, none⟩) (ks3.length + 1) cm)).ownsRow N 50 1 (.slice (some ⟨gl, 0, none⟩) (ks3.length + 1) cl) (ks3.length + 1) ((ks3.map fun k => k.val) ++ [.slice p4 (n + 1) k4])) := owns_kept' HL6.out (fun g e => (Below.heap_setCell _ _ _ _ (fun e' => owns_ne HL6.out HB6.out (by decide) (by rw [e, e']))).trans (HK7.out.block g (owns_lt HL6.out g e) (fun e' => rows_far HM6.out HL6.out (by decide) g e'.symm e)))
            have HK8 : Hid (Kept (fun i => i = b ∨ some i = L3.ownBlock ∨ some i = M3.ownBlock) w4 (w7.setCell ⟨b, 28, none⟩ (.slice (some ⟨gm, 0, none⟩) (ks3.length + 1) cm))) := (HK6.out.trans HK7.out (fun i e => Or.inl (Or.inr (Or.inr e)))).trans (kept_but ((But.refl b w7).setCell (p := ⟨b, 28, none⟩) (Or.inl rfl) _)) (fun i e => Or.inl (Or.inl e))
            have HP8 := hide (HG4.out.push HC4.out HK8.out HB8.out HL8.out HM8.out ⟨hm9, by omega⟩ (by omega) (by
              rcases HA5.out with h | h
              · exact Or.inl h.symm
              · exact Or.inr ⟨gl, rfl, by simp at h; omega⟩) (by
              rcases HA7.out with h | h
              · exact Or.inl h.symm
              · exact Or.inr ⟨gm, rfl, by have := HK6.out.size; simp at h; omega⟩))
            go_wp2
            go_roundw
            case rel => exact ⟨i + 1, n + 1, _, _, _, _, by omega, by omega, by go_num, rfl, HP8.out.1, HP8.out.2, by have := HNL.out; omega, by simp; omega⟩
            case measure => simp [intOf]; omega
          · have l5 : ¬ (i : Int) < 4 := by omega
            by_cases hi16 : i % 16 = 0
            · have l6 : ((i : Int) % 16 == 0) = true := by simp; omega
              have l7 : (i : Int) % 16 = 0 := by omega
              have c0 := bk_cell HG4.out.bk.blk 27 L3 rfl
              have cf := bk_thaw HG4.out.bk.blk
              have HN2 : Hid (N ≤ w4.heap.size) := Nat.le_trans hN HG4.out.kept.size
              go_upto_region 12 with (at_builtin; refine wpList_append_lies _ rfl (.tmp 55) (.tmp 57) 35 rfl N 50 i1 (.slice none 0 0) 1 24 Tryz.underlying35 hi1 hz10 hz11 hz12 rfl (by omega) L3 ks3.length _ rfl (HG4.out.bk.ls.alloc _) ⟨w4.heap.size, 0, none⟩ 1 1 [.slice p4 (n + 1) k4] rfl rfl (World.news_of_block (heap_alloc_new w4 (.cells #[.slice p4 (n + 1) k4] 50))) (by simp [Value.oneCell']) (by omega) (by unfold maxLen; omega) (by omega) (by have := HN2.out; simp; omega) _ rfl ?_; intro gl cl w5 hown5 hgrow5 hat5 hlt5; have kk5 : Kept (fun i => some i = L3.ownBlock) w4 w5 := (kept_below (S := fun i => some i = L3.ownBlock) ((Below.refl _ _).alloc (Nat.le_refl _) (.cells #[.slice p4 (n + 1) k4] 50))).trans (kept_grown hgrow5) (fun i e => Or.inl e); have HK5 := hide kk5; have HB5 := hide ((kk5.block b (lt_of_block HG4.out.bk.blk) (fun e => owns_ne HG4.out.bk.ls HG4.out.bk.blk (by decide) e.symm)).trans HG4.out.bk.blk); have c50 := bk_cell HB5.out 27 L3 rfl; have cf5 := bk_thaw HB5.out; have HL5 := hide hown5; have HA5 := hide hat5; clear hown5 hgrow5 hat5 hlt5 kk5)
              have HB6 : Hid ((w5.setCell ⟨b, 27, none⟩ (.slice (some ⟨gl, 0, none⟩) (ks3.length + 1) cl)).heap[b]? = some (.cells (bkCells (.slice (some ⟨gl, 0, none⟩) (ks3.length + 1) cl) M3 A turn done used) 45 (0, 0))) := by show _ = _; rw [block_set HB5.out]; rfl
              have HL6 : Hid ((w5.setCell ⟨b, 27, none⟩ (.slice (some ⟨gl, 0, none⟩) (ks3.length + 1) cl)).ownsRow N 50 1 (.slice (some ⟨gl, 0, none⟩) (ks3.length + 1) cl) (ks3.length + 1) ((ks3.map fun k => k.val) ++ [.slice p4 (n + 1) k4])) := owns_kept' HL5.out (fun g e => Below.heap_setCell _ _ _ _ (fun e' => owns_ne HL5.out HB5.out (by decide) (by rw [e, e'])))
              have HK6 : Hid (Kept (fun i => i = b ∨ some i = L3.ownBlock ∨ some i = M3.ownBlock) w4 (w5.setCell ⟨b, 27, none⟩ (.slice (some ⟨gl, 0, none⟩) (ks3.length + 1) cl))) := ((Kept.refl _ _).trans HK5.out (fun i e => Or.inl (Or.inr (Or.inl e)))).trans (kept_but ((But.refl b w5).setCell (p := ⟨b, 27, none⟩) (Or.inl rfl) _)) (fun i e => Or.inl (Or.inl e))
              have HM6 : Hid ((w5.setCell ⟨b, 27, none⟩ (.slice (some ⟨gl, 0, none⟩) (ks3.length + 1) cl)).ownsRow N 3 1 M3 ks3.length (ks3.map fun k => .int .i64 (k.m : Int))) := owns_kept' HG4.out.bk.ms (fun g e => (Below.heap_setCell _ _ _ _ (fun e' => owns_ne HG4.out.bk.ms HG4.out.bk.blk (by decide) (by rw [e, e']))).trans (HK5.out.block g (owns_lt HG4.out.bk.ms g e) (fun e' => rows_far HG4.out.bk.ls HG4.out.bk.ms (by decide) g e'.symm e)))
              generalize w5.setCell ⟨b, 27, none⟩ (.slice (some ⟨gl, 0, none⟩) (ks3.length + 1) cl) = w6 at *
              clear HK5 HB5 HL5 c50 cf5 c0 cf
              have c1 := bk_cell HB6.out 28 M3 rfl
              have cf := bk_thaw HB6.out
              have HN6 : Hid (N ≤ w6.heap.size) := Nat.le_trans HN2.out HK6.out.size
              go_wp2_with (at_builtin; refine wpList_append_lies _ rfl (.tmp 65) (.tmp 67) 27 rfl N 3 i2 (.int .i64 0) 1 8 Tryz.underlying27 hi2 hz20 hz21 hz22 rfl (by omega) M3 ks3.length _ rfl (HM6.out.alloc _) ⟨w6.heap.size, 0, none⟩ 1 1 [.int .i64 (m : Int)] rfl rfl (World.news_of_block (heap_alloc_new w6 (.cells #[.int .i64 (m : Int)] 3))) (by simp [Value.oneCell']) (by omega) (by unfold maxLen; omega) (by omega) (by have := HN6.out; simp; omega) _ rfl ?_; intro gm cm w7 hown7 hgrow7 hat7 hlt7; have kk7 : Kept (fun i => some i = M3.ownBlock) w6 w7 := (kept_below (S := fun i => some i = M3.ownBlock) ((Below.refl _ _).alloc (Nat.le_refl _) (.cells #[.int .i64 (m : Int)] 3))).trans (kept_grown hgrow7) (fun i e => Or.inl e); have HK7 := hide kk7; have HB7 := hide ((kk7.block b (lt_of_block HB6.out) (fun e => owns_ne HM6.out HB6.out (by decide) e.symm)).trans HB6.out); have c71 := bk_cell HB7.out 28 M3 rfl; have cf7 := bk_thaw HB7.out; have HM7 := hide hown7; have HA7 := hide hat7; clear hown7 hgrow7 hat7 hlt7 kk7)
              have HB8 : Hid ((w7.setCell ⟨b, 28, none⟩ (.slice (some ⟨gm, 0, none⟩) (ks3.length + 1) cm)).heap[b]? = some (.cells (bkCells (.slice (some ⟨gl, 0, none⟩) (ks3.length + 1) cl) (.slice (some ⟨gm, 0, none⟩) (ks3.length + 1) cm) A turn done used) 45 (0, 0))) := by show _ = _; rw [block_set HB7.out]; rfl
              have HM8 : Hid ((w7.setCell ⟨b, 28, none⟩ (.slice (some ⟨gm, 0, none⟩) (ks3.length + 1) cm)).ownsRow N 3 1 (.slice (some ⟨gm, 0, none⟩) (ks3.length + 1) cm) (ks3.length + 1) ((ks3.map fun k => Value.int .i64 (k.m : Int)) ++ [.int .i64 (m : Int)])) := owns_kept' HM7.out (fun g e => Below.heap_setCell _ _ _ _ (fun e' => owns_ne HM7.out HB7.out (by decide) (by rw [e, e'])))
              have HL8 : Hid ((w7.setCell ⟨b, 28, none⟩ (.slice (some ⟨gm, 0, none⟩) (ks3.length + 1) cm)).ownsRow N 50 1 (.slice (some ⟨gl, 0, none⟩) (ks3.length + 1) cl) (ks3.length + 1) ((ks3.map fun k => k.val) ++ [.slice p4 (n + 1) k4])) := owns_kept' HL6.out (fun g e => (Below.heap_setCell _ _ _ _ (fun e' => owns_ne HL6.out HB6.out (by decide) (by rw [e, e']))).trans (HK7.out.block g (owns_lt HL6.out g e) (fun e' => rows_far HM6.out HL6.out (by decide) g e'.symm e)))
              have HK8 : Hid (Kept (fun i => i = b ∨ some i = L3.ownBlock ∨ some i = M3.ownBlock) w4 (w7.setCell ⟨b, 28, none⟩ (.slice (some ⟨gm, 0, none⟩) (ks3.length + 1) cm))) := (HK6.out.trans HK7.out (fun i e => Or.inl (Or.inr (Or.inr e)))).trans (kept_but ((But.refl b w7).setCell (p := ⟨b, 28, none⟩) (Or.inl rfl) _)) (fun i e => Or.inl (Or.inl e))
              have HP8 := hide (HG4.out.push HC4.out HK8.out HB8.out HL8.out HM8.out ⟨hm9, by omega⟩ (by omega) (by
                rcases HA5.out with h | h
                · exact Or.inl h.symm
                · exact Or.inr ⟨gl, rfl, by simp at h; omega⟩) (by
                rcases HA7.out with h | h
                · exact Or.inl h.symm
                · exact Or.inr ⟨gm, rfl, by have := HK6.out.size; simp at h; omega⟩))
              go_wp2
              go_roundw
              case rel => exact ⟨i + 1, n + 1, _, _, _, _, by omega, by omega, by go_num, rfl, HP8.out.1, HP8.out.2, by have := HNL.out; omega, by simp; omega⟩
              case measure => simp [intOf]; omega
            · have l6 : ((i : Int) % 16 == 0) = false := by simp; omega
              have l7 : ¬ (i : Int) % 16 = 0 := by omega
              go_wp2
              go_roundw
              case rel => exact ⟨i + 1, n + 1, _, _, _, _, by omega, by omega, by go_num, rfl, HG4, HC4, by have := HNL.out; omega, by omega⟩
              case measure => simp [intOf]; omega
        · have l4 : ¬ (i : Int) ≤ 32 := by omega
          go_wp2
          go_roundw
          case rel => exact ⟨k + 1, L3, M3, ks3, by omega, by omega, by go_num, HG, by show _ ≤ _; omega⟩
          case measure => simp [intOf]; omega
    · have q0 := bk_cell HG.out.bk.blk 27 L rfl
      have cf := bk_thaw HG.out.bk.blk
      have q2 := bk_cell HG.out.bk.blk 29 (.int .i64 (A : Int)) rfl
      obtain ⟨lp2, lc2, hL2⟩ : ∃ p c, L = .slice p ks2.length c := by
        rcases HG.out.bk.ls.2 with ⟨h1, h2⟩ | ⟨g, cap, cur, h1, _⟩
        · exact ⟨none, 0, by rw [h1, h2]⟩
        · exact ⟨_, cap, h1⟩
      have HG2 : Hid (Gr w L0 M0 ks (wr.setCell ⟨b, 29, none⟩ (.int .i64 (ks2.length : Int))) N b L M ks2.length turn done used ks2) := ⟨HG.out.bk.grownTo ks2.length, HG.out.pre, HG.out.len, HG.out.own, HG.out.lo, HG.out.mo, HG.out.kept.trans (kept_but ((But.refl b wr).setCell (p := ⟨b, 29, none⟩) (Or.inl rfl) _)) (fun i e => Or.inl (Or.inl e))⟩
      have HCf : Hid (ks2.length ≤ ks.length + 32 * (ks.length - A)) := by show _ ≤ _; have := HC.out; omega
      rw [hL2] at q0
      have l1 : ¬ (k : Int) < (ks.length : Int) := by omega
      go_wp2
      go_end0
      exact ⟨rfl, L, M, ks2, HG2.out, HCf.out⟩

end Go.Proofs.YtajadmkacnfbgaaGreat.RB
