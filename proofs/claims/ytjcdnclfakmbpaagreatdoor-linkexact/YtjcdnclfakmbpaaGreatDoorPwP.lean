import Derived.Test.YtjcdnclfakmbpaaGreatDoorFrP
namespace Go.Proofs.YtjcdnclfakmbpaaGreatDoor.Pw
open Go.RowKit Go.Proofs.YtjcdnclfakmbpaaGreatDoor Go.Proofs.YtjcdnclfakmbpaaGreatDoor.U
structure Wc where
  m0 : Int
  m1 : Int
  w0 : Int
  w1 : Int
  c0 : Int
  c1 : Int
  l0 : Nat
  l1 : Nat
  k0 : Nat
  k1 : Nat
  sv : Value
  bb : Nat
  lb : Nat
  turn : Nat
def wkC (Y : Wc) (O I : Value) : Array Value := #[.int .i64 Y.m0, .int .i64 Y.m1, .int .i64 Y.w0, .int .i64 Y.w1, .int .i64 Y.c0, .int .i64 Y.c1, .pointer (some ⟨Y.l0, 0, none⟩), .pointer (some ⟨Y.l1, 0, none⟩), .pointer (some ⟨Y.k0, 0, none⟩), .pointer (some ⟨Y.k1, 0, none⟩), Y.sv, .pointer (some ⟨Y.bb, 0, none⟩), .pointer (some ⟨Y.lb, 0, none⟩), O, I, .int .i64 (Y.turn : Int)]
theorem blkW {w : World} {b : Nat} {Y : Wc} {x0 x1 : Value} {t : TypeId} (h : w.heap[b]? = some (.cells (wkC Y x0 x1) t (0, 0))) : w.cell? ⟨b, 13, none⟩ = some x0 ∧ w.cell? ⟨b, 14, none⟩ = some x1 ∧ (∀ o, w.frozen? ⟨b, o, none⟩ = false) :=
  ⟨by simp [World.cell?, h, wkC], by simp [World.cell?, h, wkC], fun o => by simp [World.frozen?, h]⟩
structure Pl1 (Y : Wc) (w : World) (K : Knd) (pb : Nat) (O I X : Value) (no m : Nat) (os : List Value) (ys : List Nat) : Prop where
  blk : w.heap[pb]? = some (.cells (wkC Y (O) (I)) 48 (0, 0))
  kb : K pb = (8, 0)
  o : Rk w K (8, 1) 31 1 O no os
  i : Rk w K (8, 2) 31 1 I 1 [X]
  x : Rk w K (8, 3) 5 1 X m (vals ys)
def Plc (Y : Wc) (w : World) (K : Knd) (pb : Nat) : Prop := (w.heap[pb]? = some (.cells (wkC Y (.slice none 0 0) (.slice none 0 0)) 48 (0, 0)) ∧ K pb = (8, 0)) ∨ ∃ O I X no m os ys, Pl1 Y w K pb O I X no m os ys
def Plc1 (Y : Wc) (w : World) (K : Knd) (pb : Nat) (X : Value) (m : Nat) (ys : List Nat) : Prop := ∃ O I no os, Pl1 Y w K pb O I X no m os ys
theorem Plc1.plc {Y : Wc} {w : World} {K : Knd} {pb : Nat} {X : Value} {m : Nat} {ys : List Nat} (h : Plc1 Y w K pb X m ys) : Plc Y w K pb := by
  obtain ⟨O, I, no, os, h⟩ := h
  exact Or.inr ⟨O, I, X, no, m, os, ys, h⟩
theorem Plc.kept {Y : Wc} {p : Nat × Nat → Prop} {K K' : Knd} {w w' : World} {pb : Nat} (h : Plc Y w K pb) (hk : Kp p K K' w w') (hp : ∀ j, ¬ p (8, j)) : Plc Y w' K' pb := by
  rcases h with ⟨h1, h2⟩ | ⟨O, I, X, no, m, os, ys, h⟩
  · exact Or.inl ⟨(hk.block _ (lt_of_block h1) (by rw [h2]; exact hp _)).trans h1, (hk.same _ (lt_of_block h1)).trans h2⟩
  · exact Or.inr ⟨O, I, X, no, m, os, ys, (hk.block _ (lt_of_block h.blk) (by rw [h.kb]; exact hp _)).trans h.blk, (hk.same _ (lt_of_block h.blk)).trans h.kb, h.o.kept hk (hp _), h.i.kept hk (hp _), h.x.kept hk (hp _)⟩
def P8 (q : Nat × Nat) : Prop := q.1 = 8
def RoPost (Y : Wc) (K : Knd) (pb n : Nat) (xs : List Nat) (w : World) (e : Ending) (w' : World) : Prop := ∃ K' go co a c, e = .returned (.slice (some ⟨go, 0, none⟩) 1 co) ∧ 1 ≤ co ∧ w'.cell? ⟨go, 0, none⟩ = some (.slice a n c) ∧ Bytes w' a xs ∧ Plc1 Y w' K' pb (.slice a n c) n xs ∧ Kp P8 K K' w w' ∧ (∀ g q, a = some ⟨g, q, none⟩ → K' g = (8, 3))
theorem place_done {Y : Wc} {w0 w1 w2 w3 : World} {K0 K1 : Knd} {pb n gi ci go co : Nat} {O1 X1 a' : Option Addr} {oc xc c' : Nat} {cur : Array Value} {xs : List Nat} (k01 : Kp P8 K0 K1 w0 w1) (hb : w1.heap[pb]? = some (.cells (wkC Y (.slice O1 0 oc) (.slice (some ⟨gi, 0, none⟩) 1 ci)) 48 (0, 0))) (hkb : K1 pb = (8, 0)) (hO : Rk w1 K1 (8, 1) 31 1 (.slice O1 0 oc) 0 []) (hI : w1.heap[gi]? = some (.cells cur 31 (0, 0))) (hki : K1 gi = (8, 2)) (hi1 : 1 ≤ ci) (hi2 : ci ≤ maxLen) (hi3 : cur.size = ci)
    (hX : Rk w1 K1 (8, 3) 5 1 (.slice X1 0 xc) 0 []) (hs : ∀ x ∈ xs, x < 256) (hown : w2.ownsRow 0 5 1 (.slice a' n c') n (vals xs)) (hg : w1.grownBy w2 (Value.slice X1 0 xc).ownBlock) (hl : (Value.slice a' n c').ownBlock = (Value.slice X1 0 xc).ownBlock ∨ ∃ g, (Value.slice a' n c').ownBlock = some g ∧ w1.heap.size ≤ g)
    (hown3 : w3.ownsRow 0 31 1 (.slice (some ⟨go, 0, none⟩) 1 co) 1 [.slice a' n c']) (hg3 : ((w2.setCell ⟨gi, 0, none⟩ (.slice a' n c')).alloc (.cells #[.slice a' n c'] 31)).grownBy w3 (Value.slice O1 0 oc).ownBlock) (hat3 : (Value.slice O1 0 oc).ownBlock = some go ∨ go = ((w2.setCell ⟨gi, 0, none⟩ (.slice a' n c')).alloc (.cells #[.slice a' n c'] 31)).heap.size) :
    ∃ K', Kp P8 K0 K' w0 (w3.setCell ⟨pb, 13, none⟩ (.slice (some ⟨go, 0, none⟩) 1 co)) ∧ Plc1 Y (w3.setCell ⟨pb, 13, none⟩ (.slice (some ⟨go, 0, none⟩) 1 co)) K' pb (.slice a' n c') n xs ∧ (w3.setCell ⟨pb, 13, none⟩ (.slice (some ⟨go, 0, none⟩) 1 co)).cell? ⟨go, 0, none⟩ = some (.slice a' n c') ∧ Bytes (w3.setCell ⟨pb, 13, none⟩ (.slice (some ⟨go, 0, none⟩) 1 co)) a' xs ∧ (∀ g q, a' = some ⟨g, q, none⟩ → K' g = (8, 3)) := by
  have k12 : Kp P8 K1 (ext K1 w1.heap.size (8, 3)) w1 w2 := kp_grown hg K1 (8, 3) (8, 3) P8 (fun g e => hX.kind g e) rfl
  have hX2 : Rk w2 (ext K1 w1.heap.size (8, 3)) (8, 3) 5 1 (.slice a' n c') n (vals xs) := hX.grown hown hl
  have hb2 : w2.heap[pb]? = _ := (hg.block pb (lt_of_block hb) (fun e => by have := hX.kind pb e.symm; rw [hkb] at this; cases this)).trans hb
  have hI2 : w2.heap[gi]? = _ := (hg.block gi (lt_of_block hI) (fun e => by have := hX.kind gi e.symm; rw [hki] at this; cases this)).trans hI
  have hO2 : Rk w2 (ext K1 w1.heap.size (8, 3)) (8, 1) 31 1 (.slice O1 0 oc) 0 [] := ⟨owns_same hO.own (fun g e => hg.block g (rk_lt hO.own e) (fun e' => by have h1 := hX.kind g e'.symm; rw [hO.kind g e] at h1; cases h1)), fun g e => (ext_old _ _ (rk_lt hO.own e)).trans (hO.kind g e)⟩
  generalize hK2 : ext K1 w1.heap.size (8, 3) = K2 at *
  have hki2 : K2 gi = (8, 2) := by rw [← hK2, ext_old _ _ (lt_of_block hI)]; exact hki
  have hkb2 : K2 pb = (8, 0) := by rw [← hK2, ext_old _ _ (lt_of_block hb)]; exact hkb
  -- the store of the list
  obtain ⟨wa, hwa⟩ : ∃ wa, w2.setCell ⟨gi, 0, none⟩ (.slice a' n c') = wa := ⟨_, rfl⟩
  have ka : Kp (fun q => q = (8, 2)) K2 K2 w2 wa := by rw [← hwa]; exact (Kp.refl (fun q => q = (8, 2)) K2 w2).setCell (b := gi) (Or.inr hki2) _ _
  have hIa : wa.heap[gi]? = some (.cells (cur.setIfInBounds 0 (.slice a' n c')) 31 (0, 0)) := by rw [← hwa]; exact block_set hI2 _
  rw [hwa] at hg3 hat3
  obtain ⟨wb, hwb⟩ : ∃ wb, wa.alloc (.cells #[.slice a' n c'] 31) = wb := ⟨_, rfl⟩
  have kb : Kp (fun _ => False) K2 (ext K2 wa.heap.size (8, 1)) wa wb := by rw [← hwb]; exact kp_below ((Below.refl _ _).alloc (Nat.le_refl _) _) _ _ _
  rw [hwb] at hg3 hat3
  have hOb : Rk wb (ext K2 wa.heap.size (8, 1)) (8, 1) 31 1 (.slice O1 0 oc) 0 [] := (hO2.kept ka (by simp)).kept kb (fun h => h)
  have k3 : Kp P8 (ext K2 wa.heap.size (8, 1)) (ext (ext K2 wa.heap.size (8, 1)) wb.heap.size (8, 1)) wb w3 := kp_grown hg3 _ (8, 1) (8, 1) P8 (fun g e => hOb.kind g e) rfl
  have k3' : Kp (fun q => q = (8, 1)) (ext K2 wa.heap.size (8, 1)) (ext (ext K2 wa.heap.size (8, 1)) wb.heap.size (8, 1)) wb w3 := kp_grown hg3 _ (8, 1) (8, 1) _ (fun g e => hOb.kind g e) rfl
  have hO3 := hOb.grown hown3 (by rcases hat3 with e | e; exact Or.inl e.symm; exact Or.inr ⟨go, rfl, by omega⟩)
  have hX3 := ((hX2.kept ka (by simp)).kept kb (fun h => h)).kept k3' (by simp)
  have hI3 : w3.heap[gi]? = _ := (k3'.block gi (Nat.lt_of_lt_of_le (lt_of_block hIa) kb.size) (by rw [kb.same gi (lt_of_block hIa), hki2]; simp)).trans ((kb.block gi (lt_of_block hIa) (fun h => h)).trans hIa)
  have hb3 : w3.heap[pb]? = _ := (k3'.block pb (Nat.lt_of_lt_of_le (lt_of_block hb2) (Nat.le_trans ka.size kb.size)) (by rw [kb.same pb (Nat.lt_of_lt_of_le (lt_of_block hb2) ka.size), hkb2]; simp)).trans ((kb.block pb (Nat.lt_of_lt_of_le (lt_of_block hb2) ka.size) (fun h => h)).trans ((ka.block pb (lt_of_block hb2) (by rw [hkb2]; simp)).trans hb2))
  have hkb3 : (ext (ext K2 wa.heap.size (8, 1)) wb.heap.size (8, 1)) pb = (8, 0) := by rw [k3'.same pb (Nat.lt_of_lt_of_le (lt_of_block hb2) (Nat.le_trans ka.size kb.size)), kb.same pb (Nat.lt_of_lt_of_le (lt_of_block hb2) ka.size), hkb2]
  have hki3 : (ext (ext K2 wa.heap.size (8, 1)) wb.heap.size (8, 1)) gi = (8, 2) := by rw [k3'.same gi (Nat.lt_of_lt_of_le (lt_of_block hIa) kb.size), kb.same gi (lt_of_block hIa), hki2]
  have k03 := ((k01.trans k12).trans (ka.mono (q := P8) (fun q e => by subst e; rfl))).trans ((kb.mono (q := P8) (fun _ h => h.elim)).trans k3)
  generalize hK3 : ext (ext K2 wa.heap.size (8, 1)) wb.heap.size (8, 1) = K3 at *
  have ke : Kp (fun q => q = (8, 0)) K3 K3 w3 (w3.setCell ⟨pb, 13, none⟩ (.slice (some ⟨go, 0, none⟩) 1 co)) := (Kp.refl (fun q => q = (8, 0)) K3 w3).setCell (b := pb) (Or.inr hkb3) _ _
  have hO4 := hO3.kept ke (by simp)
  have hX4 := hX3.kept ke (by simp)
  have hI4 : (w3.setCell ⟨pb, 13, none⟩ (.slice (some ⟨go, 0, none⟩) 1 co)).heap[gi]? = _ := (ke.block gi (lt_of_block hI3) (by rw [hki3]; simp)).trans hI3
  refine ⟨K3, k03.trans (ke.mono (fun q e => by subst e; rfl)), ⟨_, _, _, _, by rw [block_set hb3]; rfl, hkb3, hO4, ⟨⟨rfl, Or.inr ⟨gi, ci, _, rfl, Nat.zero_le _, hI4, hi1, hi2, by simpa using hi3, ?_⟩⟩, fun g e => by cases e; exact hki3⟩, hX4⟩, ?_, ?_, fun g q e => hX3.kind g (by rw [e]; rfl)⟩
  · apply List.ext_getElem?
    intro i
    rw [List.getElem?_take]
    by_cases h0 : i = 0
    · subst h0; simp [show 0 < cur.size by omega]
    · rw [if_neg (by omega), List.getElem?_eq_none (by simp; omega)]
  · obtain ⟨g', c1, cur', e1, e2, _, _, _, _, e3⟩ := rk_one hO4
    cases e1
    simp only [World.cell?, e2]
    simpa using e3
  · exact Q.owns_bytes (Q.ownsQ_of (z := true) hX4.own) rfl hs
set_option maxRecDepth 100000 in
set_option maxHeartbeats 2000000 in
theorem rows_there (Y : Wc) (w : World) (K : Knd) (pb lb : Nat) (O I X : Value) (no m : Nat) (os : List Value) (ys : List Nat) (h : Pl1 Y w K pb O I X no m os ys) (sp : Option Addr) (n c : Nat) (xs : List Nat) (hl : w.cell? ⟨lb, 0, none⟩ = some (.slice sp n c)) (hkl : K lb = (0, 0)) (hx : Bytes w sp xs) (hn : xs.length = n) (hn4 : n ≤ 140737488351232) (hsk : xs = [] ∨ ∀ g q, sp = some ⟨g, q, none⟩ → (K g).1 ≠ 8) :
    Calls Tryz.prog 96 #[.pointer (some ⟨pb, 13, none⟩), .slice (some ⟨lb, 0, none⟩) 1 1] w (RoPost Y K pb n xs w) := by
  obtain ⟨i1, hi1, hz10, hz11, hz12⟩ := info_parts Tryz.infoBb
  have hlt : lb < w.heap.size := cell_block hl
  obtain ⟨gi, ci, cur, rfl, hgi, hki1, hc1, hc2, hc3, hc0⟩ := rk_one h.i
  obtain ⟨O1, oc, rfl, ho1, ho2⟩ := h.o.form
  obtain ⟨X1, xc, rfl, hx1', hx2⟩ := h.x.form
  obtain ⟨w1, hw1⟩ : ∃ w1, w.setCell ⟨pb, 13, none⟩ (.slice O1 0 oc) = w1 := ⟨_, rfl⟩
  have k00 : Kp (fun q => q = (8, 0)) K K w w1 := by rw [← hw1]; exact (Kp.refl (fun q => q = (8, 0)) K w).setCell (b := pb) (Or.inr h.kb) _ _
  have k01 : Kp P8 K K w w1 := k00.mono (fun q e => by subst e; rfl)
  have hb1 : w1.heap[pb]? = some (.cells (wkC Y (.slice O1 0 oc) (.slice (some ⟨gi, 0, none⟩) 1 ci)) 48 (0, 0)) := by rw [← hw1, block_set h.blk]; rfl
  have hgi1 : w1.heap[gi]? = _ := (k00.block gi (lt_of_block hgi) (by rw [hki1]; simp)).trans hgi
  have hO1 := (rk_cut h.o).kept k00 (by simp)
  have hX1 := (rk_cut h.x).kept k00 (by simp)
  have hl1 : w1.cell? ⟨lb, 0, none⟩ = some (.slice sp n c) := (World.cell?_of_block (k00.block lb hlt (by rw [hkl]; simp))).trans hl
  have hx1 : Bytes w1 sp xs := bytes_or hx k00.size (hsk.imp id (fun e g q e2 hg => k00.block g hg (fun h => e g q e2 (by rw [h]))))
  have t0 : w1.cell? ⟨gi, 0, none⟩ = some (.slice X1 m xc) := by simp only [World.cell?, hgi1]; simpa using hc0
  have hkb1 := h.kb
  have HSm := hide hx.small
  obtain ⟨q0, q1, qf⟩ := blkW h.blk
  have kd : Kp (fun _ => False) K K w1 w1.drew := (Kp.refl _ _ _).drew
  obtain ⟨a', c', w2, hr, ho, hg, hlz⟩ := run_app_bytes (w := w1.drew) (hX1.kept kd (fun h => h)).own (c := c) hn (bytes_or hx1 (Nat.le_refl _) (Or.inr (fun _ _ _ _ => rfl))) (by omega) 31
  simp only [Nat.zero_add, List.nil_append] at hr ho hlz
  have HR := hide hr
  have HOwn := hide ho
  have HGr := hide hg
  have HLz := hide hlz
  have HX1 := hide (hX1.kept kd (fun h => h))
  have HO1 := hide (hO1.kept kd (fun h => h))
  have HB1 := hide hb1
  have HGi := hide hgi1
  have HK01 : Hid (Kp P8 K K w w1.drew) := k01.trans (kd.mono (fun _ h => h.elim))
  have HKb := hide hkb1
  have HKi := hide hki1
  have HC3 := hide hc3
  have hO2 : w2.ownsRow 0 31 1 (.slice O1 0 oc) 0 [] := owns_same hO1.own (fun g e => hg.block g (rk_lt hO1.own e) (fun e' => by have h1 := hX1.kind g e'.symm; rw [hO1.kind g e] at h1; cases h1))
  have hb2 : w2.heap[pb]? = _ := (hg.block pb (lt_of_block hb1) (fun e => by have := hX1.kind pb e.symm; rw [hkb1] at this; cases this)).trans hb1
  have hI2 : w2.heap[gi]? = _ := (hg.block gi (lt_of_block hgi1) (fun e => by have := hX1.kind gi e.symm; rw [hki1] at this; cases this)).trans hgi1
  obtain ⟨r0, r1, rf⟩ := blkW hb1
  obtain ⟨s0, s1, sf⟩ := blkW hb2
  have t2 : w2.cell? ⟨gi, 0, none⟩ = some (.slice X1 m xc) := (World.cell?_of_block (hI2.trans hgi1.symm)).trans t0
  have tf : ∀ o, w2.frozen? ⟨gi, o, none⟩ = false := fun o => by simp [World.frozen?, hI2]
  have hne : gi ≠ pb := fun e => by have := hki1; rw [e, hkb1] at this; cases this
  obtain ⟨wa, hwa⟩ : ∃ wa, w2.setCell ⟨gi, 0, none⟩ (.slice a' n c') = wa := ⟨_, rfl⟩
  have hba : wa.heap[pb]? = some (.cells (wkC Y (.slice O1 0 oc) (.slice (some ⟨gi, 0, none⟩) 1 ci)) 48 (0, 0)) := by rw [← hwa]; exact (Below.heap_setCell _ _ _ _ (Ne.symm hne)).trans hb2
  obtain ⟨u0, u1, uf⟩ := blkW hba
  have HOa : Hid (wa.ownsRow 0 31 1 (.slice O1 0 oc) 0 []) := owns_same hO2 (fun g e => by
    rw [← hwa]
    exact Below.heap_setCell _ _ _ _ (fun e' => by
      have h1 := hO1.kind g e
      have h2 : g = gi := e'
      rw [h2, hki1] at h1; cases h1))
  have HBa := hide hba
  have HWa := hide hwa
  have hpl : pb < w1.heap.size := lt_of_block hb1
  clear hki1 hkb1 hc3 hO1 hX1 hx1 hr ho hg hlz hb1 hgi1 k01 kd hb2 hI2 hba hwa hO2
  clear h hl hkl hx hsk hgi hc0 hlt k00
  go_enter Tryz.func96, Tryz.ntmps96
  go_wp2
  clear hw1 q0 q1 qf
  go_loopw [5] (fun i wr => (i = .int .i64 0 ∧ wr = w1) ∨ (i = .int .i64 1 ∧ ∃ (K' : Knd) (go co : Nat) (a' : Option Addr) (c' : Nat), wr.cell? ⟨pb, 13, none⟩ = some (.slice (some ⟨go, 0, none⟩) 1 co) ∧ 1 ≤ co ∧ Hid (Kp P8 K K' w wr) ∧ Hid (Plc1 Y wr K' pb (.slice a' n c') n xs) ∧ Hid (wr.cell? ⟨go, 0, none⟩ = some (.slice a' n c')) ∧ Hid (Bytes wr a' xs) ∧ Hid (∀ g q, a' = some ⟨g, q, none⟩ → K' g = (8, 3)))) (fun i _ => 1 - (intOf i).toNat)
  case atStart => exact Or.inl ⟨rfl, rfl⟩
  case round =>
    rcases hrel with ⟨rfl, rfl⟩ | ⟨rfl, K', go, co, a', c', e0, e1, HA, HB, HC, HD, HE⟩
    · go_wp2
      go_region_law (first | (refine step_app_run (by kernel_rfl) (.tmp 44) (.tmp 48) 31 31 (by rfl) _ _ _ _ (by rfl) (by rfl) HR.out ?_))
      all_goals go_upto_region 9 with (fail)
      all_goals rw [HWa.out]
      all_goals go_wp2_with (at_builtin; refine wpList_append_lies _ rfl (.tmp 61) (.tmp 63) 44 rfl 0 31 i1 (.slice none 0 0) 1 24 Tryz.underlying44 hi1 hz10 hz11 hz12 rfl (by omega) (.slice O1 0 oc) 0 _ rfl (HOa.out.alloc _) ⟨wa.heap.size, 0, none⟩ 1 1 [.slice a' n c'] rfl rfl (World.news_of_block (heap_alloc_new wa (.cells #[.slice a' n c'] 31))) (by simp [Value.oneCell']) (by omega) (by unfold maxLen; omega) (by omega) (Nat.zero_le _) _ rfl ?_; intro gl cl w3 hown3 hgrow3 hat3 hlt3; have HO3 := hide hown3; have HG3 := hide hgrow3; have HA3 := hide hat3; have hb3 : w3.heap[pb]? = _ := (hgrow3.block pb (by simp; exact Nat.lt_succ_of_lt (lt_of_block HBa.out)) (fun e => by have := HO1.out.kind pb e.symm; rw [HKb.out] at this; cases this)).trans ((Below.heap_alloc _ _ _ (lt_of_block HBa.out)).trans HBa.out); obtain ⟨v0, v1, vf⟩ := blkW hb3; have HB3 := hide hb3; clear hown3 hgrow3 hat3 hlt3 hb3)
      all_goals
        obtain ⟨K', d1, d2, d3, d4, d5⟩ := place_done (w0 := w) (w1 := wr.drew) (w2 := w2) (w3 := w3) HK01.out HB1.out HKb.out HO1.out HGi.out HKi.out hc1 hc2 HC3.out HX1.out HSm.out HOwn.out HGr.out HLz.out (by simpa using HO3.out) (by rw [HWa.out]; exact HG3.out) (by rw [HWa.out]; exact HA3.out)
        obtain ⟨_, _, cu3, e1, e2, _, e3, _⟩ := rk_one (w := w3) (K := fun _ => (0, 0)) (k := (0, 0)) (x := .slice a' n c') (v := .slice (some ⟨gl, 0, none⟩) 1 cl) ⟨by simpa using HO3.out, fun _ _ => rfl⟩
        cases e1
        exact ⟨Or.inr ⟨rfl, K', _, _, a', c', (blkW (show (w3.setCell ⟨pb, 13, none⟩ _).heap[pb]? = _ by rw [block_set HB3.out]; rfl)).1, e3, d1, d2, d3, d4, d5⟩, by simp [intOf]⟩
    · go_wp2
      go_ret
      exact ⟨K', go, co, a', c', rfl, e1, HC.out, HD.out, HB.out, HA.out, HE.out⟩
set_option maxRecDepth 100000 in
set_option maxHeartbeats 2000000 in
theorem rows_new (Y : Wc) (w : World) (K : Knd) (pb lb : Nat) (hb : w.heap[pb]? = some (.cells (wkC Y (.slice none 0 0) (.slice none 0 0)) 48 (0, 0))) (hkb : K pb = (8, 0)) (sp : Option Addr) (n c : Nat) (xs : List Nat) (hl : w.cell? ⟨lb, 0, none⟩ = some (.slice sp n c)) (hkl : K lb = (0, 0)) (hx : Bytes w sp xs) (hn : xs.length = n) (hn4 : n ≤ 140737488351232) (hsk : xs = [] ∨ ∀ g q, sp = some ⟨g, q, none⟩ → (K g).1 ≠ 8) :
    Calls Tryz.prog 96 #[.pointer (some ⟨pb, 13, none⟩), .slice (some ⟨lb, 0, none⟩) 1 1] w (RoPost Y K pb n xs w) := by
  obtain ⟨i1, hi1, hz10, hz11, hz12⟩ := info_parts Tryz.infoBb
  have hlt : lb < w.heap.size := cell_block hl
  obtain ⟨w1, hw1⟩ : ∃ w1, w.setCell ⟨pb, 13, none⟩ (.slice none 0 0) = w1 := ⟨_, rfl⟩
  have hw1' : w1 = w := by rw [← hw1]; exact set_cell_same hb rfl
  rw [hw1'] at hw1
  clear hw1'
  have HSm := hide hx.small
  obtain ⟨q0, q1, qf⟩ := blkW hb
  have HB0 := hide hb
  have HKb0 := hide hkb
  have HX0 := hide hx
  have HSk := hide hsk
  have HKl := hide hkl
  have HN0 : Hid (w.ownsRow 0 31 1 (.slice none 0 0) 0 []) := ⟨rfl, Or.inl ⟨rfl, rfl⟩⟩
  clear hb hkb hx hsk hkl w1
  go_enter Tryz.func96, Tryz.ntmps96
  go_wp2
  clear hw1
  go_loopw [5] (fun i wr => (i = .int .i64 0 ∧ wr = w) ∨ (i = .int .i64 1 ∧ ∃ (K' : Knd) (go co : Nat) (a' : Option Addr) (c' : Nat), wr.cell? ⟨pb, 13, none⟩ = some (.slice (some ⟨go, 0, none⟩) 1 co) ∧ 1 ≤ co ∧ Hid (Kp P8 K K' w wr) ∧ Hid (Plc1 Y wr K' pb (.slice a' n c') n xs) ∧ Hid (wr.cell? ⟨go, 0, none⟩ = some (.slice a' n c')) ∧ Hid (Bytes wr a' xs) ∧ Hid (∀ g q, a' = some ⟨g, q, none⟩ → K' g = (8, 3)))) (fun i _ => 1 - (intOf i).toNat)
  case atStart => exact Or.inl ⟨rfl, rfl⟩
  case round =>
    rcases hrel with ⟨rfl, rfl⟩ | ⟨rfl, K', go, co, a', c', e0, e1, HA, HB, HC, HD, HE⟩
    · go_upto_region 7 with (at_builtin; refine wpList_append_lies _ rfl (.tmp 32) (.tmp 33) 44 rfl 0 31 i1 (.slice none 0 0) 1 24 Tryz.underlying44 hi1 hz10 hz11 hz12 rfl (by omega) (.slice none 0 0) 0 _ rfl (HN0.out.alloc _) ⟨wr.heap.size, 0, none⟩ 1 1 [.slice none 0 0] rfl rfl (World.news_of_block (heap_alloc_new wr (.cells #[.slice none 0 0] 31))) (by simp [Value.oneCell']) (by omega) (by unfold maxLen; omega) (by omega) (Nat.zero_le _) _ rfl ?_; intro gi ci w5 hown5 hgrow5 hat5 hlt5; have HO5 := hide hown5; have HG5 := hide hgrow5; have HA5 := hide hat5; have hb5 : w5.heap[pb]? = _ := (hgrow5.block pb (by simp; exact Nat.lt_succ_of_lt (lt_of_block HB0.out)) (fun e => by simp [Value.ownBlock] at e)).trans ((Below.heap_alloc _ _ _ (lt_of_block HB0.out)).trans HB0.out); obtain ⟨p0, p1, pf⟩ := blkW hb5; have HB5 := hide hb5; clear hown5 hgrow5 hat5 hlt5 hb5)
      have hbw : Below wr.heap.size wr w5 := ((Below.refl _ _).alloc (Nat.le_refl _) (.cells #[.slice none 0 0] 31)).trans ⟨HG5.out.os, HG5.out.tape, HG5.out.output, Nat.le_trans (by simp) HG5.out.size, fun b hb => HG5.out.block b (by simp; omega) (fun e => by simp [Value.ownBlock] at e)⟩
      have hgn : wr.heap.size ≤ gi := by
        rcases HA5.out with e | e
        · simp [Value.ownBlock] at e
        · simp at e; omega
      have k05 : Kp (fun _ => False) K (ext K wr.heap.size (8, 2)) wr w5 := kp_below hbw _ _ _
      have hkb5 : ext K wr.heap.size (8, 2) pb = (8, 0) := by rw [ext_old _ _ (lt_of_block HB0.out)]; exact HKb0.out
      obtain ⟨w1, hw1⟩ : ∃ w1, w5.setCell ⟨pb, 14, none⟩ (.slice (some ⟨gi, 0, none⟩) 1 ci) = w1 := ⟨_, rfl⟩
      obtain ⟨_, _, cur, e1, e2, _, hc1, hc2, hc3, hc0⟩ := rk_one (w := w5) (K := fun _ => (0, 0)) (k := (0, 0)) (x := .slice none 0 0) (v := .slice (some ⟨gi, 0, none⟩) 1 ci) ⟨by simpa using HO5.out, fun _ _ => rfl⟩
      cases e1
      have hki1 : ext K wr.heap.size (8, 2) gi = (8, 2) := ext_new _ _ hgn
      generalize hK1 : ext K wr.heap.size (8, 2) = K1 at *
      have k51 : Kp (fun q => q = (8, 0)) K1 K1 w5 w1 := by rw [← hw1]; exact (Kp.refl (fun q => q = (8, 0)) K1 w5).setCell (b := pb) (Or.inr hkb5) _ _
      have k01 : Kp P8 K K1 wr w1 := (k05.mono (fun _ h => h.elim)).trans (k51.mono (fun q e => by subst e; rfl))
      have hb1 : w1.heap[pb]? = some (.cells (wkC Y (.slice none 0 0) (.slice (some ⟨gi, 0, none⟩) 1 ci)) 48 (0, 0)) := by rw [← hw1, block_set HB5.out]; rfl
      have hgi1 : w1.heap[gi]? = _ := (k51.block gi (lt_of_block e2) (by rw [hki1]; simp)).trans e2
      obtain ⟨O1, hO1e⟩ : ∃ O1 : Option Addr, O1 = none := ⟨_, rfl⟩
      obtain ⟨oc, hoc⟩ : ∃ oc, oc = 0 := ⟨_, rfl⟩
      obtain ⟨X1, hX1e⟩ : ∃ X1 : Option Addr, X1 = none := ⟨_, rfl⟩
      obtain ⟨xc, hxc⟩ : ∃ xc, xc = 0 := ⟨_, rfl⟩
      obtain ⟨m, hm⟩ : ∃ m, m = 0 := ⟨_, rfl⟩
      have hO1 : Rk w1 K1 (8, 1) 31 1 (.slice O1 0 oc) 0 [] := by rw [hO1e, hoc]; exact rk_nil _ _ _ _ _
      have hX1 : Rk w1 K1 (8, 3) 5 1 (.slice X1 0 xc) 0 [] := by rw [hX1e, hxc]; exact rk_nil _ _ _ _ _
      have hl1 : w1.cell? ⟨lb, 0, none⟩ = some (.slice sp n c) := (World.cell?_of_block (k01.block lb hlt (by rw [HKl.out]; intro e; cases e))).trans hl
      have hx1 : Bytes w1 sp xs := bytes_or HX0.out k01.size (HSk.out.imp id (fun e g q e2 hg => k01.block g hg (fun h => e g q e2 h)))
      have t0 : w1.cell? ⟨gi, 0, none⟩ = some (.slice X1 m xc) := by rw [hX1e, hm, hxc]; simp only [World.cell?, hgi1]; simpa using hc0
      have hkb1 := hkb5
      rw [show (Value.slice none 0 0) = .slice O1 0 oc by rw [hO1e, hoc]] at hb1
      have hl0 : 0 ≤ xc := Nat.zero_le _
      have hm0 : m ≤ xc := by omega
      have kd : Kp (fun _ => False) K1 K1 w1 w1.drew := (Kp.refl _ _ _).drew
      obtain ⟨a', c', w2, hr, ho, hg, hlz⟩ := run_app_bytes (w := w1.drew) (hX1.kept kd (fun h => h)).own (c := c) hn (bytes_or hx1 (Nat.le_refl _) (Or.inr (fun _ _ _ _ => rfl))) (by omega) 31
      simp only [Nat.zero_add, List.nil_append] at hr ho hlz
      have HR := hide hr
      have HOwn := hide ho
      have HGr := hide hg
      have HLz := hide hlz
      have HX1 := hide (hX1.kept kd (fun h => h))
      have HO1 := hide (hO1.kept kd (fun h => h))
      have HB1 := hide hb1
      have HGi := hide hgi1
      have HK01 : Hid (Kp P8 K K1 wr w1.drew) := k01.trans (kd.mono (fun _ h => h.elim))
      have HKb := hide hkb1
      have HKi := hide hki1
      have HC3 := hide hc3
      have hO2 : w2.ownsRow 0 31 1 (.slice O1 0 oc) 0 [] := owns_same hO1.own (fun g e => hg.block g (rk_lt hO1.own e) (fun e' => by have h1 := hX1.kind g e'.symm; rw [hO1.kind g e] at h1; cases h1))
      have hb2 : w2.heap[pb]? = _ := (hg.block pb (lt_of_block hb1) (fun e => by have := hX1.kind pb e.symm; rw [hkb1] at this; cases this)).trans hb1
      have hI2 : w2.heap[gi]? = _ := (hg.block gi (lt_of_block hgi1) (fun e => by have := hX1.kind gi e.symm; rw [hki1] at this; cases this)).trans hgi1
      obtain ⟨r0, r1, rf⟩ := blkW hb1
      obtain ⟨s0, s1, sf⟩ := blkW hb2
      have t2 : w2.cell? ⟨gi, 0, none⟩ = some (.slice X1 m xc) := (World.cell?_of_block (hI2.trans hgi1.symm)).trans t0
      have tf : ∀ o, w2.frozen? ⟨gi, o, none⟩ = false := fun o => by simp [World.frozen?, hI2]
      have hne : gi ≠ pb := fun e => by have := hki1; rw [e, hkb1] at this; cases this
      obtain ⟨wa, hwa⟩ : ∃ wa, w2.setCell ⟨gi, 0, none⟩ (.slice a' n c') = wa := ⟨_, rfl⟩
      have hba : wa.heap[pb]? = some (.cells (wkC Y (.slice O1 0 oc) (.slice (some ⟨gi, 0, none⟩) 1 ci)) 48 (0, 0)) := by rw [← hwa]; exact (Below.heap_setCell _ _ _ _ (Ne.symm hne)).trans hb2
      obtain ⟨u0, u1, uf⟩ := blkW hba
      have HOa : Hid (wa.ownsRow 0 31 1 (.slice O1 0 oc) 0 []) := owns_same hO2 (fun g e => by
        rw [← hwa]
        exact Below.heap_setCell _ _ _ _ (fun e' => by
          have h1 := hO1.kind g e
          have h2 : g = gi := e'
          rw [h2, hki1] at h1; cases h1))
      have HBa := hide hba
      have HWa := hide hwa
      have hpl : pb < w1.heap.size := lt_of_block hb1
      clear hki1 hkb1 hc3 hO1 hX1 hx1 hr ho hg hlz hb1 hgi1 k01 kd hb2 hI2 hba hwa hO2
      clear k05 k51 hbw e2 hK1 hO1e hoc hX1e hxc hm
      rw [hw1]
      clear hw1
      go_region_law (first | (refine step_app_run (by kernel_rfl) (.tmp 44) (.tmp 48) 31 31 (by rfl) _ _ _ _ (by rfl) (by rfl) HR.out ?_))
      all_goals go_upto_region 9 with (fail)
      all_goals rw [HWa.out]
      all_goals go_wp2_with (at_builtin; refine wpList_append_lies _ rfl (.tmp 61) (.tmp 63) 44 rfl 0 31 i1 (.slice none 0 0) 1 24 Tryz.underlying44 hi1 hz10 hz11 hz12 rfl (by omega) (.slice O1 0 oc) 0 _ rfl (HOa.out.alloc _) ⟨wa.heap.size, 0, none⟩ 1 1 [.slice a' n c'] rfl rfl (World.news_of_block (heap_alloc_new wa (.cells #[.slice a' n c'] 31))) (by simp [Value.oneCell']) (by omega) (by unfold maxLen; omega) (by omega) (Nat.zero_le _) _ rfl ?_; intro gl cl w3 hown3 hgrow3 hat3 hlt3; have HO3 := hide hown3; have HG3 := hide hgrow3; have HA3 := hide hat3; have hb3 : w3.heap[pb]? = _ := (hgrow3.block pb (by simp; exact Nat.lt_succ_of_lt (lt_of_block HBa.out)) (fun e => by have := HO1.out.kind pb e.symm; rw [HKb.out] at this; cases this)).trans ((Below.heap_alloc _ _ _ (lt_of_block HBa.out)).trans HBa.out); obtain ⟨v0, v1, vf⟩ := blkW hb3; have HB3 := hide hb3; clear hown3 hgrow3 hat3 hlt3 hb3)
      all_goals
        obtain ⟨K', d1, d2, d3, d4, d5⟩ := place_done (w0 := wr) (w1 := w1.drew) (w2 := w2) (w3 := w3) HK01.out HB1.out HKb.out HO1.out HGi.out HKi.out hc1 hc2 HC3.out HX1.out HSm.out HOwn.out HGr.out HLz.out (by simpa using HO3.out) (by rw [HWa.out]; exact HG3.out) (by rw [HWa.out]; exact HA3.out)
        obtain ⟨_, _, cu3, e1, e2, _, e3, _⟩ := rk_one (w := w3) (K := fun _ => (0, 0)) (k := (0, 0)) (x := .slice a' n c') (v := .slice (some ⟨gl, 0, none⟩) 1 cl) ⟨by simpa using HO3.out, fun _ _ => rfl⟩
        cases e1
        exact ⟨Or.inr ⟨rfl, K', _, _, a', c', (blkW (show (w3.setCell ⟨pb, 13, none⟩ _).heap[pb]? = _ by rw [block_set HB3.out]; rfl)).1, e3, d1, d2, d3, d4, d5⟩, by simp [intOf]⟩
    · go_wp2
      go_ret
      exact ⟨K', go, co, a', c', rfl, e1, HC.out, HD.out, HB.out, HA.out, HE.out⟩
def PbPost (Y : Wc) (K : Knd) (pb n : Nat) (xs : List Nat) (w : World) (e : Ending) (w' : World) : Prop := ∃ K' a c, e = .returned (.slice a n c) ∧ Bytes w' a xs ∧ Plc1 Y w' K' pb (.slice a n c) n xs ∧ Kp P8 K K' w w' ∧ (∀ g q, a = some ⟨g, q, none⟩ → K' g = (8, 3))
set_option maxRecDepth 100000 in
set_option maxHeartbeats 1000000 in
theorem pbytes_any (Y : Wc) (w : World) (K : Knd) (pb : Nat) (h : Plc Y w K pb) (sp : Option Addr) (n c : Nat) (xs : List Nat) (hx : Bytes w sp xs) (hn : xs.length = n) (hn4 : n ≤ 140737488351232) (hsk : xs = [] ∨ ∀ g q, sp = some ⟨g, q, none⟩ → g < w.heap.size ∧ (K g).1 ≠ 8) :
    Calls Tryz.prog 50 #[.pointer (some ⟨pb, 13, none⟩), .slice sp n c] w (PbPost Y K pb n xs w) := by
  obtain ⟨w1, hw1⟩ : ∃ w1, w.alloc (.cells #[.slice sp n c] 31) = w1 := ⟨_, rfl⟩
  have hb1 : Below w.heap.size w w1 := by rw [← hw1]; exact (Below.refl _ _).alloc (Nat.le_refl _) _
  have hl1 : w1.heap[w.heap.size]? = some (.cells #[.slice sp n c] 31 (0, 0)) := by rw [← hw1]; exact heap_alloc_new _ _
  have k1 : Kp P8 K (ext K w.heap.size (0, 0)) w w1 := kp_below hb1 _ _ _
  have hP1 : Plc Y w1 (ext K w.heap.size (0, 0)) pb := h.kept (kp_below hb1 (fun _ => False) _ _) (fun _ h => h)
  have hx1 := hx.below hb1
  have hs1 : xs = [] ∨ ∀ g q, sp = some ⟨g, q, none⟩ → (ext K w.heap.size (0, 0) g).1 ≠ 8 := hsk.imp id (fun e g q e2 => by rw [ext_old _ _ (e g q e2).1]; exact (e g q e2).2)
  have hc1 : w1.cell? ⟨w.heap.size, 0, none⟩ = some (.slice sp n c) := by simp [World.cell?, hl1]
  have hk1 : ext K w.heap.size (0, 0) w.heap.size = (0, 0) := ext_new _ _ (Nat.le_refl _)
  have HC : Hid (Calls Tryz.prog 96 #[.pointer (some ⟨pb, 13, none⟩), .slice (some ⟨w.heap.size, 0, none⟩) 1 1] w1 (RoPost Y (ext K w.heap.size (0, 0)) pb n xs w1)) := by
    rcases hP1 with ⟨h1, h2⟩ | ⟨O, I, X, no, m, os, ys, h1⟩
    · exact rows_new Y w1 _ pb _ h1 h2 sp n c xs hc1 hk1 hx1 hn hn4 hs1
    · exact rows_there Y w1 _ pb _ O I X no m os ys h1 sp n c xs hc1 hk1 hx1 hn hn4 hs1
  have HK1 := hide k1
  have HW1 := hide hw1
  clear h hx hsk hb1 hl1 k1 hP1 hx1 hs1 hc1 hk1 hw1
  go_enter Tryz.func50, Tryz.ntmps50
  go_wp2_with fail
  rw [HW1.out]
  refine HC.out.mono ?_
  rintro e w2 ⟨K', go, co, a, c', rfl, h1, h2, h3, h4, h5, h6⟩
  have HB := hide h3
  have HP := hide h4
  have HK := hide (HK1.out.trans h5)
  have H6 := hide h6
  have h7 : (1 : Int) ≤ (co : Int) := by omega
  clear h3 h4 h5 h6
  go_wp2
  go_ret
  exact ⟨K', a, c', rfl, HB.out, HP.out, HK.out, H6.out⟩
end Go.Proofs.YtjcdnclfakmbpaaGreatDoor.Pw
