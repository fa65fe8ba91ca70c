import Derived.Test.YthgggjdefhgfiaaNRef
namespace Go.Proofs.Ythgggjdefhgfiaa
open Go.RowKit Go.Maps

theorem Try.infoFl : (Try.prog.info? 75).map (fun i => (i.zero, i.size, i.bytes)) = some (some (.agg #[.int .i64 0, .slice none 0 0]), 2, 32) := by kernel_rfl
/-- A message is put at the end. -/
theorem Fw.push {w w2 w5 : World} {K : Knd} {o fb : Nat} {a : Option Addr} {n c : Nat} {ds : Ds} {N : Nt} (h : Fw w K o fb (.slice a n c) ds N) (hn : N.row.length = n) (hb2 : Below w.heap.size w w2) {m : Ms} {a2 : Option Addr} {c2 : Nat} (hc : Cp w2 w.heap.size a2 m.b.size c2 (nums m.b)) {X : Obj} {g' cap' : Nat}
    (ho : w5.ownsRow 0 75 2 (.slice (some ⟨g', 0, none⟩) (n + 1) cap') (n + 1) (flv N.row ds ++ [.int .i64 m.to, .slice a2 m.b.size c2])) (hg : (w2.alloc X).grownBy w5 (Value.slice a n c).ownBlock) (hat : (Value.slice a n c).ownBlock = some g' ∨ g' = w2.heap.size + 1) (hft : w.heap[fb]? = some (.cells (fcells N (.slice a n c)) 105 (0, 0))) :
    Fk (w5.setCell ⟨fb, 0, none⟩ (.slice (some ⟨g', 0, none⟩) (n + 1) cap')) (ext (ext K w.heap.size (o, 3)) w2.heap.size (o, 2)) o fb { N with row := N.row ++ [m] } ∧ Kp (PNet o) K (ext (ext K w.heap.size (o, 3)) w2.heap.size (o, 2)) w (w5.setCell ⟨fb, 0, none⟩ (.slice (some ⟨g', 0, none⟩) (n + 1) cap')) := by
  have hfl := lt_of_block hft
  have s2 := hb2.size
  have s5 := hg.size
  simp only [World.size_alloc] at s5
  have hrl : ∀ g, (Value.slice a n c).ownBlock = some g → g < w.heap.size ∧ K g = (o, 2) := fun g e => by
    have e' : (Value.slice a N.row.length c).ownBlock = some g := by rw [hn]; exact e
    have hr := h.row
    rw [hn] at hr
    exact ⟨rk_lt hr.own e, hr.kind g e⟩
  have kold : ∀ b, b < w.heap.size → ext (ext K w.heap.size (o, 3)) w2.heap.size (o, 2) b = K b := fun b hb => by rw [ext_old _ _ (by omega), ext_old _ _ hb]
  have blk5 : ∀ b, b < w2.heap.size → some b ≠ (Value.slice a n c).ownBlock → w5.heap[b]? = w2.heap[b]? := fun b hb hne => (hg.block b (by simp; omega) hne).trans (Below.heap_alloc _ _ _ hb)
  have kp5 : Kp (PNet o) K (ext (ext K w.heap.size (o, 3)) w2.heap.size (o, 2)) w w5 :=
    ⟨hg.os.trans hb2.os, hg.tape.trans hb2.tape, hg.output.trans hb2.output, by omega, kold, fun b hb hn => (blk5 b (by omega) (fun e => hn (Or.inr (hrl b e.symm).2))).trans (hb2.block b hb)⟩
  have kpE := kp5.setCell (b := fb) (Or.inr (Or.inl h.kn)) 0 (.slice (some ⟨g', 0, none⟩) (n + 1) cap')
  refine ⟨⟨.slice (some ⟨g', 0, none⟩) (n + 1) cap', ds ++ [(a2, c2)], ?_, (kold fb hfl).trans h.kn, by simp [h.len], ⟨?_, fun g e => ?_⟩, ?_⟩, kpE⟩
  · have hne : some fb ≠ (Value.slice a n c).ownBlock := fun e => by
      have := (hrl fb e.symm).2
      rw [h.kn] at this
      simp at this
    rw [block_set ((blk5 fb (by omega) hne).trans ((hb2.block fb hfl).trans hft))]
    rfl
  · show World.ownsRow _ _ _ _ _ (N.row ++ [m]).length _
    rw [List.length_append, hn, flv_snoc h.len]
    refine owns_set ho (fun e => ?_)
    simp [Value.ownBlock] at e
    rcases hat with e1 | e1
    · have := (hrl g' e1).2
      rw [← e, h.kn] at this
      simp at this
    · omega
  · simp [Value.ownBlock] at e
    subst e
    rcases hat with e1 | e1
    · rw [kold _ (hrl _ e1).1]; exact (hrl _ e1).2
    · exact ext_new _ _ (by omega)
  · intro i mm d h1 h2
    have h1' : (N.row ++ [m])[i]? = some mm := h1
    by_cases hi : i < N.row.length
    · rw [List.getElem?_append_left hi] at h1'
      rw [List.getElem?_append_left (by rw [h.len]; exact hi)] at h2
      exact (h.bys i mm d h1' h2).kept kpE (by rintro (e | e) <;> simp at e)
    · have hi2 : i = N.row.length := by
        have := (List.getElem?_eq_some_iff.1 h1').1
        simp at this; omega
      subst hi2
      rw [List.getElem?_append_right (Nat.le_refl _)] at h1'
      rw [List.getElem?_append_right (by rw [h.len]; exact Nat.le_refl _), h.len] at h2
      simp at h1' h2
      subst h1' h2
      have hkg : ∀ g, w.heap.size ≤ g → g < w2.heap.size → w5.heap[g]? = w2.heap[g]? := fun g h1 h2 => blk5 g h2 (fun e => by have := (hrl g e.symm).1; omega)
      have hc5 : Cp (w5.setCell ⟨fb, 0, none⟩ (.slice (some ⟨g', 0, none⟩) (n + 1) cap')) w.heap.size a2 m.b.size c2 (nums m.b) := hc.same (by have := kpE.size; simp [World.setCell]; omega) (fun g h1 h2 => (Below.heap_setCell _ _ _ _ (by show g ≠ fb; omega)).trans (hkg g h1 h2))
      refine ⟨hc5.by_, fun g e => ?_, hc5.le, hc5.max⟩
      have q := hc.new g e
      exact ⟨by rw [ext_old _ _ q.2, ext_new _ _ q.1], (hc5.new g e).2⟩

set_option maxRecDepth 100000 in
set_option maxHeartbeats 2000000 in
theorem FSend_any (w : World) (K : Knd) (o nb : Nat) (N : Nt) (h : Fk w K o nb N) (hr : N.room ≤ 8192) (hl : N.lost < 18446744073709551615) (to : Int) (sp : Option Addr) (n c : Nat) (xs : List Nat) (hx : Bytes w sp xs) (hn : xs.length = n) (hn2 : n ≤ 140737488355328) :
    Calls Try.prog 15 #[.pointer (some ⟨nb, 0, none⟩), .int .i64 to, .slice sp n c] w fun e w' => ∃ K', e = .returned (.bool N.adds) ∧ Fk w' K' o nb (N.send ⟨to, str xs⟩) ∧ Kp (PNet o) K K' w w' := by
  obtain ⟨i0, hi, hz0, hz1, hz2⟩ := info_parts Try.infoFl
  obtain ⟨rv, ds, hm⟩ := h
  have hbl := hm.blk
  unfold fcells at hbl
  obtain ⟨a, cr, hrv, _, _⟩ := hm.row.form
  subst hrv
  obtain ⟨L, hL⟩ : ∃ L, N.row.length = L := ⟨_, rfl⟩
  have HL := hide hL
  rw [hL] at hm hbl
  have hrow := hm.row.own
  rw [hL] at hrow
  have HRw := hide hrow
  have HM := hide hm
  obtain ⟨q0, q1, q2, qf⟩ := blk3 hbl
  have hjl := lt_of_block hbl
  have HBl := hide hbl
  by_cases hlt : L < N.room
  · have HA : Hid (N.adds = true ∧ N.send ⟨to, str xs⟩ = { N with row := N.row ++ [⟨to, str xs⟩] }) := by
      show _ ∧ _
      unfold Nt.adds Nt.send
      rw [hL, if_pos hlt]; simp [hlt]
    generalize hRm : N.room = RM at *
    have hlt' : (L : Int) < (RM : Int) := by omega
    have HRm := hide hRm
    have HC := hide (copy_any w.drew.drew sp n c xs hn ⟨hx.small, hx.lie⟩ hn2)
    have HXs : Hid (∀ x ∈ xs, x < 256) := hx.small
    have HN := hide hn
    have HNe : Hid (some nb ≠ (Value.slice a L cr).ownBlock) := owns_ne HRw.out HBl.out (by decide)
    clear hm hbl hrow hL hRm hx hn
    go_enter Try.func15, Try.ntmps15
    go_wp2
    go_region
    all_goals go_wp2
    all_goals
      go_region_law (first | (go_simp; go_at_call 43; refine HC.out.mono ?_; rintro e w2 ⟨a2, c2, rfl, ho2, hb2⟩; have HO2 := hide ho2; have HB2 : Hid (Below w.heap.size w w2) := ⟨hb2.os, hb2.tape, hb2.output, hb2.size, hb2.block⟩; have hfb : w2.heap[nb]? = _ := (HB2.out.block nb hjl).trans HBl.out; obtain ⟨z0, z1, z2, zf⟩ := blk3 hfb; have hj2 := lt_of_block hfb; have HR2 : Hid (w2.ownsRow 0 75 2 (.slice a L cr) L (flv N.row ds)) := owns_same HRw.out (fun g e => HB2.out.block g (rk_lt HRw.out e)); have HF2 := hide hfb; clear ho2 hb2 hfb) | (refine step_append_lies _ (by rfl) (.tmp 28) (.tmp 33) 103 (by rfl) 0 75 i0 (.agg #[.int .i64 0, .slice none 0 0]) 2 32 Try.underlying103 hi hz0 hz1 hz2 rfl (by omega) (.slice a L cr) L (flv N.row ds) (by rfl) (HR2.out.alloc _) ⟨w2.heap.size, 0, none⟩ 1 1 [.int .i64 to, .slice a2 n c2] (by rfl) rfl (World.news_of_block (heap_alloc_new w2 (.cells #[.int .i64 to, .slice a2 n c2] 75))) (by simp [Value.oneCell']) (by omega) (by unfold maxLen; omega) (by omega) (by omega) _ rfl ?_; intro g' cap' w4 hown4 hgrow4 hat4 hltg; have HO4 := hide hown4; have HG4 := hide hgrow4; have HA4 := hide hat4; have hdb : w4.heap[nb]? = _ := (hgrow4.block nb (by simp; omega) HNe.out).trans ((Below.heap_alloc _ _ _ hj2).trans HF2.out); obtain ⟨y0, y1, y2, yf⟩ := blk3 hdb; have hd4 := lt_of_block hdb; clear hdb hown4 hgrow4 hat4))
    all_goals go_wp2
    all_goals
      go_ret
      have hsz : (str xs).size = n := by rw [str_size HXs.out, HN.out]
      have hcp : Cp w2 w.heap.size a2 (str xs).size c2 (nums (str xs)) := by rw [hsz, nums_str HXs.out]; exact cp_own HO2.out HXs.out
      have hp := HM.out.push (m := ⟨to, str xs⟩) (g' := g') (cap' := cap') HL.out HB2.out hcp (by simp only [hsz]; exact HO4.out) HG4.out (by rcases HA4.out with e | e; exact Or.inl e; right; simp at e; omega) (by unfold fcells; rw [HRm.out]; exact HBl.out)
      exact ⟨_, by rw [HA.out.1]; rfl, by rw [HA.out.2, ← HRm.out]; exact hp.1, hp.2⟩
  · have HA : Hid (N.adds = false ∧ N.send ⟨to, str xs⟩ = { N with lost := N.lost + 1 }) := by
      show _ ∧ _
      unfold Nt.adds Nt.send
      rw [hL, if_neg hlt]; simp [hlt]
    generalize hRm : N.room = RM at *
    have hlt' : ¬ (L : Int) < (RM : Int) := by omega
    obtain ⟨lo, hlo⟩ : ∃ lo, N.lost = lo := ⟨_, rfl⟩
    obtain ⟨l1, hl1⟩ : ∃ l1, lo + 1 = l1 := ⟨_, rfl⟩
    have hl2 : (lo : Int) + 1 = (l1 : Int) := by omega
    have hl3 : (l1 : Int) < 18446744073709551616 := by omega
    have HLo : Hid (N.lost = lo ∧ lo + 1 = l1) := ⟨hlo, hl1⟩
    rw [hlo] at q2
    have HRm := hide hRm
    clear hm hbl hrow hL hRm hlo hl1 hl hx hn
    go_enter Try.func15, Try.ntmps15
    go_wp2
    go_region
    all_goals go_wp2
    all_goals
      go_ret
      have hm := HM.out
      have kp : Kp (PNet o) K K w (w.drew.setCell ⟨nb, 2, none⟩ (.int .u64 (l1 : Int))) := ((Kp.refl _ _ _).drew).setCell (Or.inr (Or.inl hm.kn)) _ _
      refine ⟨K, by rw [HA.out.1]; rfl, ?_, kp⟩
      rw [HA.out.2]
      refine ⟨_, ds, ?_, hm.kn, hm.len, ⟨owns_set (w := w.drew) hm.row.own (owns_ne hm.row.own hm.blk (by decide)), hm.row.kind⟩, fun i m d h1 h2 => (hm.bys i m d h1 h2).kept kp (by rintro (e | e) <;> simp at e)⟩
      refine (block_set (w := w.drew) (g := nb) (i := 2) HBl.out (.int .u64 (l1 : Int))).trans ?_
      unfold fcells
      simp only [HLo.out.1, HLo.out.2]
      rfl

set_option maxRecDepth 100000 in
set_option maxHeartbeats 2000000 in
theorem Twin_any (w : World) (to : Int) (sp : Option Addr) (n c : Nat) (xs : List Nat) (hx : Bytes w sp xs) (hn : xs.length = n) (hn2 : n ≤ 140737488355328) :
    Calls Try.prog 46 #[.agg #[.int .i64 to, .slice sp n c]] w fun e w' => ∃ a c', e = .returned (.agg #[.int .i64 to, .slice a n c']) ∧ Cp w' w.heap.size a n c' xs ∧ Below w.heap.size w w' := by
  obtain ⟨w2, hw2⟩ : ∃ w2, (w.alloc (.cells #[.int .i64 to, .slice sp n c] 75)).alloc (.cells #[.int .i64 0, .slice none 0 0] 75) = w2 := ⟨_, rfl⟩
  have hs2 : w2.heap.size = w.heap.size + 1 + 1 := by rw [← hw2]; simp
  have hr2 : w2.heap[w.heap.size + 1]? = some (.cells #[.int .i64 0, .slice none 0 0] 75 (0, 0)) := by
    rw [← hw2]
    have := heap_alloc_new (w.alloc (.cells #[.int .i64 to, .slice sp n c] 75)) (.cells #[.int .i64 0, .slice none 0 0] 75)
    rwa [show (w.alloc (.cells #[.int .i64 to, .slice sp n c] 75)).heap.size = w.heap.size + 1 by simp] at this
  have hx2 : w2.heap[w.heap.size]? = some (.cells #[.int .i64 to, .slice sp n c] 75 (0, 0)) := by
    rw [← hw2]
    exact (Below.heap_alloc _ _ _ (by simp)).trans (heap_alloc_new _ _)
  have hb2 : Below w.heap.size w w2 := by rw [← hw2]; exact ((Below.refl _ _).alloc (Nat.le_refl _) _).alloc (by simp) _
  have HC := hide (copy_any w2.drew sp n c xs hn (hx.below (show Below w.heap.size w w2.drew from hb2.drew)) hn2)
  have HXs : Hid (∀ x ∈ xs, x < 256) := hx.small
  have HB2 := hide hb2
  have HR2 := hide hr2
  have HX2 := hide hx2
  have HS2 := hide hs2
  clear hb2 hr2 hx2 hs2 hn hx
  go_enter Try.func46, Try.ntmps46
  go_wp2_with fail
  obtain ⟨x0, x1⟩ := blk2 HX2.out
  have l1 := lt_of_block HX2.out
  have l2 := lt_of_block HR2.out
  obtain ⟨y0, y1⟩ := blk2 HR2.out
  have yf : ∀ j, w2.frozen? ⟨w.heap.size + 1, j, none⟩ = false := fun j => by simp [World.frozen?, HR2.out]
  clear hw2
  go_region_law (first | (go_simp; go_at_call 43; refine HC.out.mono ?_; rintro e w3 ⟨a3, c3, rfl, ho3, hb3⟩; have HO3 := hide ho3; have HB3 : Hid (Below w2.heap.size w2 w3) := ⟨hb3.os, hb3.tape, hb3.output, hb3.size, hb3.block⟩; have hr3 : w3.heap[w.heap.size + 1]? = _ := (HB3.out.block _ l2).trans HR2.out; have hx3 : w3.heap[w.heap.size]? = _ := (HB3.out.block _ l1).trans HX2.out; obtain ⟨z0, z1⟩ := blk2 hx3; obtain ⟨v0, v1⟩ := blk2 hr3; have vf : ∀ j, w3.frozen? ⟨w.heap.size + 1, j, none⟩ = false := (fun j => by simp [World.frozen?, hr3]); have l3 := lt_of_block hx3; have l4 := lt_of_block hr3; have HR3 := hide hr3; clear ho3 hb3 hx3 hr3))
  all_goals go_wp2
  all_goals
    have s2 := HS2.out
    have s3 := HB3.out.size
    have hbE : ∀ x y, Below w.heap.size w ((w3.setCell ⟨w.heap.size + 1, 0, none⟩ x).setCell ⟨w.heap.size + 1, 1, none⟩ y) := fun x y => ((HB2.out.trans (HB3.out.mono (by omega))).setCell (p := ⟨w.heap.size + 1, 0, none⟩) (Nat.le_succ _) x).setCell (p := ⟨w.heap.size + 1, 1, none⟩) (Nat.le_succ _) y
    have hcp := cp_own HO3.out HXs.out
    have hcE : ∀ x y, Cp ((w3.setCell ⟨w.heap.size + 1, 0, none⟩ x).setCell ⟨w.heap.size + 1, 1, none⟩ y) w.heap.size a3 n c3 xs := fun x y => by
      have e := hcp.same (w' := (w3.setCell ⟨w.heap.size + 1, 0, none⟩ x).setCell ⟨w.heap.size + 1, 1, none⟩ y) (by simp [World.setCell]) (fun g h1 h2 => (Below.heap_setCell _ _ _ _ (by show g ≠ w.heap.size + 1; have h1' : w2.heap.size ≤ g := h1; omega)).trans (Below.heap_setCell _ _ _ _ (by show g ≠ w.heap.size + 1; have h1' : w2.heap.size ≤ g := h1; omega)))
      exact ⟨e.by_, fun g q => ⟨by have h1' : w2.heap.size ≤ g := (e.new g q).1; omega, (e.new g q).2⟩, e.le, e.max⟩
    exact bodyPost_ret (res_1 rfl _ _ _ _ _ _ _ rfl (store2 HR3.out) Try.underlying75 Try.sizeFl) rfl ⟨a3, c3, rfl, hcE _ _, hbE _ _⟩

/-- What the document's Look tells. -/
def FLkPost (w : World) (N : Nt) (i : Int) (e : Ending) (w' : World) : Prop :=
  Below w.heap.size w w' ∧ ((N.has i = true ∧ ∃ m a c, N.row[i.toNat]? = some m ∧ e = .returned (.tuple #[.agg #[.int .i64 m.to, .slice a m.b.size c], .bool true]) ∧ Cp w' w.heap.size a m.b.size c (nums m.b)) ∨ (N.has i = false ∧ e = .returned (.tuple #[.agg #[.int .i64 0, .slice none 0 0], .bool false])))
set_option maxRecDepth 100000 in
set_option maxHeartbeats 2000000 in
theorem FLook_any (w : World) (K : Knd) (o nb : Nat) (N : Nt) (h : Fk w K o nb N) (i : Int) (hsz : ∀ m ∈ N.row, m.b.size ≤ 140737488355328) :
    Calls Try.prog 18 #[.pointer (some ⟨nb, 0, none⟩), .int .i64 i] w (FLkPost w N i) := by
  have hw1 : Fk (w.alloc (.cells #[.int .i64 0, .slice none 0 0] 75)) (ext K w.heap.size (0, 0)) o nb N := h.kept (kp_below ((Below.refl _ _).alloc (Nat.le_refl _) _) (fun _ => False) _ _) (fun _ h => h)
  have hr1 : (w.alloc (.cells #[.int .i64 0, .slice none 0 0] 75)).heap[w.heap.size]? = some (.cells #[.int .i64 0, .slice none 0 0] 75 (0, 0)) := heap_alloc_new _ _
  have hb1 : Below w.heap.size w (w.alloc (.cells #[.int .i64 0, .slice none 0 0] 75)) := (Below.refl _ _).alloc (Nat.le_refl _) _
  have HB1 := hide hb1
  have HR1 := hide hr1
  obtain ⟨rv, ds, hw⟩ := hw1
  obtain ⟨a, c, hrv, _, _⟩ := hw.row.form
  subst hrv
  have hblk := hw.blk
  unfold fcells at hblk
  obtain ⟨y0, y1, y2, yf⟩ := blk3 hblk
  by_cases hx : N.has i = true
  · obtain ⟨k, m, rfl, hk, hm⟩ := has_true hx
    obtain ⟨g, d, rfl, hd, c4, c5, c6, c7, c8, _⟩ := hw.at hm
    have HT := hide (Twin_any _ m.to d.1 m.b.size d.2 (nums m.b) (hw.bys k m d hm hd).by_ (nums_len _) (hsz m (List.mem_of_getElem? hm)))
    have HX := hide hx
    have HM := hide hm
    have hkc : (k : Int) < (N.row.length : Int) := by omega
    generalize N.row.length = L at *
    clear hw hblk hm hx hb1 h hr1 hk hd hsz
    go_enter Try.func18, Try.ntmps18
    go_wp2_with (go_at_call 46; refine HT.out.mono ?_; rintro e w2 ⟨a2, c2', rfl, hc2, hb2⟩; have HC2 := hide hc2; have HB2 := hide hb2; have hr2 := (hb2.block w.heap.size (by simp)).trans HR1.out; have HR2 := hide hr2; obtain ⟨z0, z1⟩ := blk2 hr2; have zf : ∀ j, w2.frozen? ⟨w.heap.size, j, none⟩ = false := (fun j => by simp [World.frozen?, hr2]); have hlt2 := lt_of_block hr2; clear hc2 hb2 hr2)
    have hb : ∀ x y, Below w.heap.size w ((w2.setCell ⟨w.heap.size, 0, none⟩ x).setCell ⟨w.heap.size, 1, none⟩ y) := fun x y => ((HB1.out.trans (HB2.out.mono (by simp))).setCell (p := ⟨w.heap.size, 0, none⟩) (Nat.le_refl _) x).setCell (p := ⟨w.heap.size, 1, none⟩) (Nat.le_refl _) y
    have hcE : ∀ x y, Cp ((w2.setCell ⟨w.heap.size, 0, none⟩ x).setCell ⟨w.heap.size, 1, none⟩ y) w.heap.size a2 m.b.size c2' (nums m.b) := fun x y => by
      have e := HC2.out.same (w' := (w2.setCell ⟨w.heap.size, 0, none⟩ x).setCell ⟨w.heap.size, 1, none⟩ y) (by simp [World.setCell]) (fun g h1 h2 => (Below.heap_setCell _ _ _ _ (by show g ≠ w.heap.size; simp at h1; omega)).trans (Below.heap_setCell _ _ _ _ (by show g ≠ w.heap.size; simp at h1; omega)))
      exact ⟨e.by_, fun g q => ⟨by have := (e.new g q).1; simp at this; omega, (e.new g q).2⟩, e.le, e.max⟩
    exact bodyPost_ret (res_ct rfl _ _ _ _ _ _ _ rfl (store2 HR2.out) Try.underlying75 Try.sizeFl) rfl ⟨hb _ _, Or.inl ⟨HX.out, m, a2, c2', HM.out, rfl, hcE _ _⟩⟩
  · have hxf : N.has i = false := by simpa using hx
    have HX := hide hxf
    unfold Nt.has at hxf
    generalize N.row.length = L at *
    clear hx hb1 hr1 h hw hblk hsz
    by_cases h1 : i < 0
    · clear hxf
      go_enter Try.func18, Try.ntmps18
      go_wp2
      exact bodyPost_ret (res_ct rfl _ _ _ _ _ _ _ rfl HR1.out Try.underlying75 Try.sizeFl) rfl ⟨HB1.out, Or.inr ⟨HX.out, rfl⟩⟩
    · have h2 : (L : Int) ≤ i := by simp at hxf; omega
      have h3 : 0 ≤ i := by omega
      clear hxf
      go_enter Try.func18, Try.ntmps18
      go_wp2
      exact bodyPost_ret (res_ct rfl _ _ _ _ _ _ _ rfl HR1.out Try.underlying75 Try.sizeFl) rfl ⟨HB1.out, Or.inr ⟨HX.out, rfl⟩⟩

end Go.Proofs.Ythgggjdefhgfiaa
