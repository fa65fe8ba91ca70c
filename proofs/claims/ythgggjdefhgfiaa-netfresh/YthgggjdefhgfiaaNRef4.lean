import Derived.Test.YthgggjdefhgfiaaNRef3
namespace Go.Proofs.Ythgggjdefhgfiaa
open Go.RowKit Go.Maps

/-- What the document's Take leaves. -/
def FTkPost (K : Knd) (o nb : Nat) (w : World) (N : Nt) (i : Int) (e : Ending) (w' : World) : Prop :=
  ∃ K', Fk w' K' o nb (N.dropped i) ∧ Kp (PNet o) K K' w w' ∧ ((N.has i = true ∧ ∃ m a c, N.row[i.toNat]? = some m ∧ e = .returned (.tuple #[.agg #[.int .i64 m.to, .slice a m.b.size c], .bool true]) ∧ Cp w' w.heap.size a m.b.size c (nums m.b)) ∨ (N.has i = false ∧ e = .returned (.tuple #[.agg #[.int .i64 0, .slice none 0 0], .bool false])))
theorem Cp.kept {w w' : World} {B : Nat} {a : Option Addr} {n c : Nat} {xs : List Nat} {K K' : Knd} {p : Nat × Nat → Prop} {B' : Nat} (h : Cp w B a n c xs) (hk : Kp p K K' w w') (hp : ∀ g, B ≤ g → g < w.heap.size → ¬ p (K g)) (hB : B' ≤ B) : Cp w' B' a n c xs := by
  have e := h.same hk.size (fun g h1 h2 => hk.block g h2 (hp g h1 h2))
  exact ⟨e.by_, fun g q => ⟨Nat.le_trans hB (e.new g q).1, (e.new g q).2⟩, e.le, e.max⟩
set_option maxRecDepth 100000 in
set_option maxHeartbeats 2000000 in
theorem FTake_any (w : World) (K : Knd) (o nb : Nat) (ho : o ≠ 0) (N : Nt) (h : Fk w K o nb N) (hL : N.row.length ≤ 8192) (i : Int) (hsz : ∀ m ∈ N.row, m.b.size ≤ 140737488355328) :
    Calls Try.prog 30 #[.pointer (some ⟨nb, 0, none⟩), .int .i64 i] w (FTkPost K o nb w N i) := by
  have hw1 : Fk (w.alloc (.cells #[.int .i64 0, .slice none 0 0] 75)) (ext K w.heap.size (0, 0)) o nb N := h.kept (kp_below ((Below.refl _ _).alloc (Nat.le_refl _) _) (fun _ => False) _ _) (fun _ h => h)
  have hr1 : (w.alloc (.cells #[.int .i64 0, .slice none 0 0] 75)).heap[w.heap.size]? = some (.cells #[.int .i64 0, .slice none 0 0] 75 (0, 0)) := heap_alloc_new _ _
  have hb1 : Below w.heap.size w (w.alloc (.cells #[.int .i64 0, .slice none 0 0] 75)) := (Below.refl _ _).alloc (Nat.le_refl _) _
  have HL := hide (FLook_any _ _ _ _ _ hw1 i hsz)
  have HB1 := hide hb1
  have HR1 := hide hr1
  have HN := hide h
  have hnl := h.lt
  have HKK : Hid (¬ PNet o (0, 0)) := by rintro (e | e) <;> (simp at e; try exact ho e.1.symm)
  have HLn := hide hL
  have HO := hide ho
  clear hw1 hr1 hb1 h hL hsz ho
  by_cases hx : N.has i = true
  · have HX := hide hx
    go_enter Try.func30, Try.ntmps30
    go_wp2_with fail
    refine HL.out.mono ?_
    rintro e w2 ⟨hb2, ⟨_, m, a, c, hm, rfl, hc⟩ | ⟨hf, _⟩⟩
    rotate_left
    · rw [HX.out] at hf; cases hf
    have HM := hide hm
    have HC := hide hc
    have s2 := hb2.size
    simp only [World.size_alloc] at s2
    have hr3 : (w2.alloc (.cells #[.int .i64 m.to, .slice a m.b.size c] 75)).heap[w.heap.size]? = _ := (Below.heap_alloc _ _ _ (by omega)).trans ((hb2.block w.heap.size (by simp)).trans HR1.out)
    have hx3 : (w2.alloc (.cells #[.int .i64 m.to, .slice a m.b.size c] 75)).heap[w2.heap.size]? = some (.cells #[.int .i64 m.to, .slice a m.b.size c] 75 (0, 0)) := heap_alloc_new _ _
    have hb3 : Below w.heap.size w (w2.alloc (.cells #[.int .i64 m.to, .slice a m.b.size c] 75)) := (HB1.out.trans (hb2.mono (by simp))).alloc (by omega) _
    have hc3 : Cp (w2.alloc (.cells #[.int .i64 m.to, .slice a m.b.size c] 75)) (w.heap.size + 1) a m.b.size c (nums m.b) := by
      have e := hc.same (w' := w2.alloc (.cells #[.int .i64 m.to, .slice a m.b.size c] 75)) (by simp) (fun g _ h2 => Below.heap_alloc _ _ _ h2)
      simp only [World.size_alloc] at e
      exact e
    have hK := kp_below hb3 (fun _ => False) K (0, 0)
    have HD := hide (FDrop_any _ _ o nb N (HN.out.kept hK (fun _ h => h)) HLn.out i)
    have HK3 := hide hK
    have HR3 := hide hr3
    have HX3 := hide hx3
    have HC3 := hide hc3
    have hs3 : w.heap.size < (w2.alloc (.cells #[.int .i64 m.to, .slice a m.b.size c] 75)).heap.size := by simp; omega
    have HS2 := hide s2
    clear hb2 hr3 hx3 hb3 hc3 hK hm hc s2
    obtain ⟨w3, hw3⟩ : ∃ w3, w3 = (w2.alloc (.cells #[.int .i64 m.to, .slice a m.b.size c] 75)) := ⟨_, rfl⟩
    rw [← hw3] at HD HK3 HR3 HX3 HC3 hs3
    have HS3 := hide hs3
    clear hs3
    go_wp2_with fail
    rw [← hw3]
    refine HD.out.mono ?_
    rintro e w5 ⟨rfl, hn5, hk5⟩
    have hx3l := lt_of_block HX3.out
    have hr5 : w5.heap[w.heap.size]? = _ := (hk5.block w.heap.size HS3.out (by rw [ext_new K _ (Nat.le_refl _)]; exact HKK.out)).trans HR3.out
    have hx5 : w5.heap[w2.heap.size]? = _ := (hk5.block w2.heap.size hx3l (by rw [ext_new K _ (by have := HS2.out; omega)]; exact HKK.out)).trans HX3.out
    have HC5 := hide (HC3.out.kept hk5 (fun g h1 h2 => by rw [ext_new K _ (by omega)]; exact HKK.out) (Nat.le_succ w.heap.size))
    have HN5 := hide hn5
    have HK5 := hide hk5
    have HR5 := hide hr5
    obtain ⟨u0, u1⟩ := blk2 hr5
    have uf : ∀ j, w5.frozen? ⟨w.heap.size, j, none⟩ = false := fun j => by simp [World.frozen?, hr5]
    obtain ⟨v0, v1⟩ := blk2 hx5
    have l3 := lt_of_block hr5
    have l4 := lt_of_block hx5
    clear hn5 hk5 hr5 hx5 hw3 hx
    go_wp2
    have kp5 : Kp (PNet o) K (ext (ext K w.heap.size (0, 0)) w3.heap.size (o, 2)) w w5 := (HK3.out.mono (fun _ h => h.elim)).trans HK5.out
    have kw : ext (ext K w.heap.size (0, 0)) w3.heap.size (o, 2) w.heap.size = (0, 0) := by rw [ext_old _ _ HS3.out, ext_new _ _ (Nat.le_refl _)]
    have kpE : ∀ x y, Kp (PNet o) K (ext (ext K w.heap.size (0, 0)) w3.heap.size (o, 2)) w ((w5.setCell ⟨w.heap.size, 0, none⟩ x).setCell ⟨w.heap.size, 1, none⟩ y) := fun x y => (kp5.setCell (Or.inl (Nat.le_refl _)) _ _).setCell (Or.inl (Nat.le_refl _)) _ _
    have nkE : ∀ x y, Fk ((w5.setCell ⟨w.heap.size, 0, none⟩ x).setCell ⟨w.heap.size, 1, none⟩ y) (ext (ext K w.heap.size (0, 0)) w3.heap.size (o, 2)) o nb (N.dropped i) := fun x y => HN5.out.kept (p := fun k => k = (0, 0)) (((Kp.refl (fun k => k = (0, 0)) (ext (ext K w.heap.size (0, 0)) w3.heap.size (o, 2)) w5).setCell (Or.inr kw) _ _).setCell (Or.inr kw) _ _) (fun k e => HO.out (by simpa using congrArg Prod.fst e))
    have hcE : ∀ x y, Cp ((w5.setCell ⟨w.heap.size, 0, none⟩ x).setCell ⟨w.heap.size, 1, none⟩ y) w.heap.size a m.b.size c (nums m.b) := fun x y => by
      have hc5 := HC3.out.kept HK5.out (fun g h1 h2 => by rw [ext_new K _ (by omega)]; exact HKK.out) (Nat.le_refl _)
      have e := hc5.same (w' := (w5.setCell ⟨w.heap.size, 0, none⟩ x).setCell ⟨w.heap.size, 1, none⟩ y) (by simp [World.setCell]) (fun g h1 h2 => (Below.heap_setCell _ _ _ _ (by show g ≠ w.heap.size; omega)).trans (Below.heap_setCell _ _ _ _ (by show g ≠ w.heap.size; omega)))
      exact ⟨e.by_, fun g q => ⟨by have := (e.new g q).1; omega, (e.new g q).2⟩, e.le, e.max⟩
    exact bodyPost_ret (res_ct rfl _ _ _ _ _ _ _ rfl (store2 HR5.out) Try.underlying75 Try.sizeFl) rfl ⟨_, nkE _ _, kpE _ _, Or.inl ⟨HX.out, m, a, c, HM.out, rfl, hcE _ _⟩⟩
  · have hxf : N.has i = false := by simpa using hx
    have HX := hide hxf
    clear hx hxf
    go_enter Try.func30, Try.ntmps30
    go_wp2_with fail
    refine HL.out.mono ?_
    rintro e w2 ⟨hb2, ⟨hf, _⟩ | ⟨hf, rfl⟩⟩
    · rw [HX.out] at hf; cases hf
    have s2 := hb2.size
    simp only [World.size_alloc] at s2
    have hr3 : (w2.alloc (.cells #[.int .i64 0, .slice none 0 0] 75)).heap[w.heap.size]? = _ := (Below.heap_alloc _ _ _ (by omega)).trans ((hb2.block w.heap.size (by simp)).trans HR1.out)
    have hx3 : (w2.alloc (.cells #[.int .i64 0, .slice none 0 0] 75)).heap[w2.heap.size]? = some (.cells #[.int .i64 0, .slice none 0 0] 75 (0, 0)) := heap_alloc_new _ _
    have hb3 : Below w.heap.size w (w2.alloc (.cells #[.int .i64 0, .slice none 0 0] 75)) := (HB1.out.trans (hb2.mono (by simp))).alloc (by omega) _
    have hK := kp_below hb3 (fun _ => False) K (0, 0)
    have HD := hide (FDrop_any _ _ o nb N (HN.out.kept hK (fun _ h => h)) HLn.out i)
    have HK3 := hide hK
    have HR3 := hide hr3
    have HX3 := hide hx3
    have hs3 : w.heap.size < (w2.alloc (.cells #[.int .i64 0, .slice none 0 0] 75)).heap.size := by simp; omega
    have HS2 := hide s2
    clear hb2 hr3 hx3 hb3 hK s2 hf
    obtain ⟨w3, hw3⟩ : ∃ w3, w3 = (w2.alloc (.cells #[.int .i64 0, .slice none 0 0] 75)) := ⟨_, rfl⟩
    rw [← hw3] at HD HK3 HR3 HX3 hs3
    have HS3 := hide hs3
    clear hs3
    go_wp2_with fail
    rw [← hw3]
    refine HD.out.mono ?_
    rintro e w5 ⟨rfl, hn5, hk5⟩
    have hx3l := lt_of_block HX3.out
    have hr5 : w5.heap[w.heap.size]? = _ := (hk5.block w.heap.size HS3.out (by rw [ext_new K _ (Nat.le_refl _)]; exact HKK.out)).trans HR3.out
    have hx5 : w5.heap[w2.heap.size]? = _ := (hk5.block w2.heap.size hx3l (by rw [ext_new K _ (by have := HS2.out; omega)]; exact HKK.out)).trans HX3.out
    have HN5 := hide hn5
    have HK5 := hide hk5
    have HR5 := hide hr5
    obtain ⟨u0, u1⟩ := blk2 hr5
    have uf : ∀ j, w5.frozen? ⟨w.heap.size, j, none⟩ = false := fun j => by simp [World.frozen?, hr5]
    obtain ⟨v0, v1⟩ := blk2 hx5
    have l3 := lt_of_block hr5
    have l4 := lt_of_block hx5
    clear hn5 hk5 hr5 hx5 hw3
    go_wp2
    have kp5 : Kp (PNet o) K (ext (ext K w.heap.size (0, 0)) w3.heap.size (o, 2)) w w5 := (HK3.out.mono (fun _ h => h.elim)).trans HK5.out
    have kw : ext (ext K w.heap.size (0, 0)) w3.heap.size (o, 2) w.heap.size = (0, 0) := by rw [ext_old _ _ HS3.out, ext_new _ _ (Nat.le_refl _)]
    have kpE : ∀ x y, Kp (PNet o) K (ext (ext K w.heap.size (0, 0)) w3.heap.size (o, 2)) w ((w5.setCell ⟨w.heap.size, 0, none⟩ x).setCell ⟨w.heap.size, 1, none⟩ y) := fun x y => (kp5.setCell (Or.inl (Nat.le_refl _)) _ _).setCell (Or.inl (Nat.le_refl _)) _ _
    have nkE : ∀ x y, Fk ((w5.setCell ⟨w.heap.size, 0, none⟩ x).setCell ⟨w.heap.size, 1, none⟩ y) (ext (ext K w.heap.size (0, 0)) w3.heap.size (o, 2)) o nb (N.dropped i) := fun x y => HN5.out.kept (p := fun k => k = (0, 0)) (((Kp.refl (fun k => k = (0, 0)) (ext (ext K w.heap.size (0, 0)) w3.heap.size (o, 2)) w5).setCell (Or.inr kw) _ _).setCell (Or.inr kw) _ _) (fun k e => HO.out (by simpa using congrArg Prod.fst e))
    exact bodyPost_ret (res_ct rfl _ _ _ _ _ _ _ rfl (store2 HR5.out) Try.underlying75 Try.sizeFl) rfl ⟨_, nkE _ _, kpE _ _, Or.inr ⟨HX.out, rfl⟩⟩

set_option maxRecDepth 100000 in
set_option maxHeartbeats 4000000 in
theorem FDouble_any (w : World) (K : Knd) (o nb : Nat) (N : Nt) (h : Fk w K o nb N) (hr : N.room ≤ 8192) (i : Int) (hsz : ∀ m ∈ N.row, m.b.size ≤ 140737488355328) :
    Calls Try.prog 34 #[.pointer (some ⟨nb, 0, none⟩), .int .i64 i] w fun e w' => ∃ K', Kp (PNet o) K K' w w' ∧ ((N.has i = true ∧ ∃ m, N.row[i.toNat]? = some m ∧ e = .returned (.bool N.adds) ∧ Fk w' K' o nb (N.add m)) ∨ (N.has i = false ∧ e = .returned (.bool false) ∧ Fk w' K' o nb N)) := by
  obtain ⟨i0, hi, hz0, hz1, hz2⟩ := info_parts Try.infoFl
  obtain ⟨rv, ds, hm⟩ := h
  have hbl := hm.blk
  unfold fcells at hbl
  obtain ⟨a, cr, hrv, _, _⟩ := hm.row.form
  subst hrv
  obtain ⟨L, hL⟩ : ∃ L, N.row.length = L := ⟨_, rfl⟩
  have HL := hide hL
  rw [hL] at hm hbl
  have hrow := hm.row.own
  rw [hL] at hrow
  have HRw := hide hrow
  have HM := hide hm
  obtain ⟨q0, q1, q2, qf⟩ := blk3 hbl
  have hjl := lt_of_block hbl
  have HBl := hide hbl
  by_cases hx : N.has i = true
  · have HX := hide hx
    obtain ⟨k, m, rfl, hk, hmk⟩ := has_true hx
    have HMk := hide hmk
    rw [hL] at hk
    have hk0 : (0 : Int) ≤ (k : Int) := by omega
    have hk1 : (k : Int) < (L : Int) := by omega
    have hd1 : decide ((k : Int) < 0) = false := by simp
    have hd2 : decide (L ≤ k) = false := by simp; omega
    have hd3 : decide ((L : Int) ≤ (k : Int)) = false := by simp; omega
    by_cases hlt : L < N.room
    · have HA : Hid (N.adds = true ∧ N.add m = { N with row := N.row ++ [m] }) := by
        show _ ∧ _
        unfold Nt.adds Nt.add
        rw [hL, if_pos hlt]; simp [hlt]
      generalize hRm : N.room = RM at *
      have hlt' : (L : Int) < (RM : Int) := by omega
      have hd4 : decide (RM ≤ L) = false := by simp; omega
      have hd5 : decide ((RM : Int) ≤ (L : Int)) = false := by simp; omega
      have HRm := hide hRm
      obtain ⟨g, d, rfl, hd, c4, c5, c6, c7, c8, hKg⟩ := hm.at hmk
      have HT := hide (Twin_any w.drew.drew m.to d.1 m.b.size d.2 (nums m.b) ⟨(hm.bys k m d hmk hd).by_.small, (hm.bys k m d hmk hd).by_.lie⟩ (nums_len _) (hsz m (List.mem_of_getElem? hmk)))
      have HNe : Hid (some nb ≠ (Value.slice (some ⟨g, 0, none⟩) L cr).ownBlock) := owns_ne HRw.out HBl.out (by decide)
      obtain ⟨d1, d2⟩ := d
      simp only at c5 HT
      generalize hms : m.b.size = ms at *
      have HMs := hide hms
      clear hm hbl hrow hL hRm hx hsz hmk hd hms
      go_enter Try.func34, Try.ntmps34
      go_wp2_with fail
      go_region_held3 (fun w' => w'.cell? ⟨nb, 0, none⟩ = some (.slice (some ⟨g, 0, none⟩) L cr) ∧ w'.cell? ⟨nb, 1, none⟩ = some (.int .i64 (RM : Int))) (go_keep) (fail)
      go_wp2_with fail
      go_region_law (first | (go_simp; go_at_call 46; refine HT.out.mono ?_; rintro e w2 ⟨a2, c2, rfl, hc2, hb2⟩; have HC2 := hide hc2; have HB2 : Hid (Below w.heap.size w w2) := ⟨hb2.os, hb2.tape, hb2.output, hb2.size, hb2.block⟩; have hfb : w2.heap[nb]? = _ := (HB2.out.block nb hjl).trans HBl.out; obtain ⟨z0, z1, z2, zf⟩ := blk3 hfb; have hj2 := lt_of_block hfb; have HR2 : Hid (w2.ownsRow 0 75 2 (.slice (some ⟨g, 0, none⟩) L cr) L (flv N.row ds)) := owns_same HRw.out (fun g e => HB2.out.block g (rk_lt HRw.out e)); have HF2 := hide hfb; have p4 : w2.cell? ⟨g, k * 2, none⟩ = _ := (HB2.out.cell (p := ⟨g, k * 2, none⟩) c6).trans c4; have p5 : w2.cell? ⟨g, k * 2 + 1, none⟩ = _ := (HB2.out.cell (p := ⟨g, k * 2 + 1, none⟩) c6).trans c5; clear hc2 hb2 hfb) | (refine step_append_lies _ (by rfl) (.tmp 32) (.tmp 41) 103 (by rfl) 0 75 i0 (.agg #[.int .i64 0, .slice none 0 0]) 2 32 Try.underlying103 hi hz0 hz1 hz2 rfl (by omega) (.slice (some ⟨g, 0, none⟩) L cr) L (flv N.row ds) (by rfl) (HR2.out.alloc _) ⟨w2.heap.size, 0, none⟩ 1 1 [.int .i64 m.to, .slice a2 ms c2] (by rfl) rfl (World.news_of_block (heap_alloc_new w2 (.cells #[.int .i64 m.to, .slice a2 ms c2] 75))) (by simp [Value.oneCell']) (by omega) (by unfold maxLen; omega) (by omega) (by omega) _ rfl ?_; intro g' cap' w4 hown4 hgrow4 hat4 hltg; have HO4 := hide hown4; have HG4 := hide hgrow4; have HA4 := hide hat4; have hdb : w4.heap[nb]? = _ := (hgrow4.block nb (by simp; omega) HNe.out).trans ((Below.heap_alloc _ _ _ hj2).trans HF2.out); obtain ⟨y0, y1, y2, yf⟩ := blk3 hdb; have hd4 := lt_of_block hdb; clear hdb hown4 hgrow4 hat4))
      all_goals go_wp2
      all_goals
        go_ret
        have hcp : Cp w2 w.heap.size a2 m.b.size c2 (nums m.b) := by rw [HMs.out]; exact HC2.out
        have hp := HM.out.push (m := m) (g' := g') (cap' := cap') HL.out HB2.out hcp (by rw [HMs.out]; exact HO4.out) HG4.out (by rcases HA4.out with e | e; exact Or.inl e; right; simp at e; omega) (by unfold fcells; rw [HRm.out]; exact HBl.out)
        exact ⟨_, hp.2, Or.inl ⟨HX.out, m, HMk.out, by rw [HA.out.1]; rfl, by rw [HA.out.2, ← HRm.out]; exact hp.1⟩⟩
    · have HA : Hid (N.adds = false ∧ N.add m = N) := by
        show _ ∧ _
        unfold Nt.adds Nt.add
        rw [hL, if_neg hlt]; simp [hlt]
      generalize hRm : N.room = RM at *
      have hlt' : ¬ (L : Int) < (RM : Int) := by omega
      have hd4 : decide (RM ≤ L) = true := by simp; omega
      have hd5 : decide ((RM : Int) ≤ (L : Int)) = true := by simp; omega
      clear hm hbl hrow hL hRm hx hsz hmk
      go_enter Try.func34, Try.ntmps34
      go_wp2_with fail
      go_region_held3 (fun w' => w'.cell? ⟨nb, 0, none⟩ = some (.slice a L cr) ∧ w'.cell? ⟨nb, 1, none⟩ = some (.int .i64 (RM : Int))) (go_keep) (fail)
      all_goals go_wp2
      all_goals
        go_ret
        exact ⟨K, (Kp.refl _ _ _).drew, Or.inl ⟨HX.out, m, HMk.out, by rw [HA.out.1]; rfl, by rw [HA.out.2]; exact Fk.kept (p := fun _ => False) ⟨_, _, HM.out⟩ (Kp.refl _ _ _).drew (fun _ h => h)⟩⟩
  · have hxf : N.has i = false := by simpa using hx
    have HX := hide hxf
    unfold Nt.has at hxf
    rw [hL] at hxf
    generalize N.room = RM at *
    clear hx hm hbl hrow hL hsz
    by_cases h1 : i < 0
    · clear hxf
      have hd1 : decide (i < 0) = true := by simp [h1]
      go_enter Try.func34, Try.ntmps34
      go_wp2_with fail
      go_region
      all_goals go_wp2
      all_goals
        go_ret
        exact ⟨K, (Kp.refl _ _ _).drew, Or.inr ⟨HX.out, rfl, Fk.kept (p := fun _ => False) ⟨_, _, HM.out⟩ (Kp.refl _ _ _).drew (fun _ h => h)⟩⟩
    · obtain ⟨j, rfl⟩ : ∃ j : Nat, i = (j : Int) := ⟨i.toNat, by omega⟩
      have h2 : L ≤ j := by simp at hxf; omega
      have h3 : (0 : Int) ≤ (j : Int) := by omega
      have hd1 : decide ((j : Int) < 0) = false := by simp
      have hd2 : decide (L ≤ j) = true := by simp [h2]
      have hd3 : decide ((L : Int) ≤ (j : Int)) = true := by simp [h2]
      have h4 : (L : Int) ≤ (j : Int) := by omega
      clear hxf h1
      go_enter Try.func34, Try.ntmps34
      go_wp2_with fail
      go_region
      all_goals go_wp2
      all_goals
        go_ret
        exact ⟨K, (Kp.refl _ _ _).drew, Or.inr ⟨HX.out, rfl, Fk.kept (p := fun _ => False) ⟨_, _, HM.out⟩ (Kp.refl _ _ _).drew (fun _ h => h)⟩⟩

end Go.Proofs.Ythgggjdefhgfiaa
