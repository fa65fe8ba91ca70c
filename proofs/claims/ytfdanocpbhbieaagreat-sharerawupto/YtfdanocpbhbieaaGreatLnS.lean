import Derived.Test.YtfdanocpbhbieaaGreatLnN
import Derived.Test.YtfdanocpbhbieaaGreatRwD
namespace Go.Proofs.YtfdanocpbhbieaaGreat
open Go.RowKit

def pcells (l : List Pl) : List Value := l.flatMap plc
theorem pcells_snoc (l : List Pl) (x : Pl) : pcells (l ++ [x]) = pcells l ++ plc x := by simp [pcells]
theorem pcells_len (l : List Pl) : (pcells l).length = l.length * 4 := by
  induction l with
  | nil => rfl
  | cons x l ih =>
    have : pcells (x :: l) = plc x ++ pcells l := rfl
    rw [this, List.length_append, ih, List.length_cons]
    simp [plc]
    omega
theorem pcells_get (l : List Pl) : ∀ (i : Nat) (x : Pl), l[i]? = some x → ∀ (j : Nat) (v : Value), (plc x)[j]? = some v → (pcells l)[i * 4 + j]? = some v := by
  induction l with
  | nil => intro i x h; simp at h
  | cons y l ih =>
    intro i x h j v hv
    have e : pcells (y :: l) = .int .i64 y.v :: .int .i64 y.f0 :: .int .i64 y.f1 :: .slice y.hp y.hl y.hc :: pcells l := rfl
    cases i with
    | zero =>
      simp at h
      subst h
      rw [e, Nat.zero_mul, Nat.zero_add]
      match j, hv with
      | 0, hv => exact hv
      | 1, hv => exact hv
      | 2, hv => exact hv
      | 3, hv => exact hv
      | j + 4, hv => simp [plc] at hv
    | succ i =>
      have := ih i x (by simpa using h) j v hv
      rw [e, show (i + 1) * 4 + j = i * 4 + j + 1 + 1 + 1 + 1 by omega]
      rw [List.getElem?_cons_succ, List.getElem?_cons_succ, List.getElem?_cons_succ, List.getElem?_cons_succ]
      exact this
theorem pcells_one (l : List Pl) : ∀ u ∈ pcells l, u.oneCell' = true := by
  intro u hu
  obtain ⟨x, _, hx⟩ := List.mem_flatMap.1 hu
  simp [plc] at hx
  rcases hx with rfl | rfl | rfl | rfl <;> rfl
theorem pcel_row {w : World} {B n c : Nat} {a : Option Addr} {l : List Pl} {e : TypeId} (h : w.ownsRow B e 4 (.slice a n c) n (pcells l)) : Cel w a 4 (l.map plc) := by
  cases l with
  | nil => exact Or.inl rfl
  | cons y l =>
    obtain ⟨g, e1, hg, _⟩ := row_cell h (i := 0) (u := .int .i64 y.v) rfl
    refine Or.inr ⟨g, 0, e1, hg, fun i r hr j v hv => ?_⟩
    rw [List.getElem?_map] at hr
    cases hx : (y :: l)[i]? with
    | none => rw [hx] at hr; simp at hr
    | some x =>
      rw [hx] at hr
      simp at hr
      subst hr
      obtain ⟨g', e2, _, hc⟩ := row_cell h (pcells_get _ i x hx j v hv)
      rw [e1] at e2
      cases e2
      rw [Nat.zero_add]
      exact hc

theorem pool_info : (Tryz.prog.info? 108).map (fun i => (i.zero, i.size, i.bytes)) = some (some (.agg #[.int .i64 0, .int .i64 0, .int .i64 0, .slice none 0 0]), 4, 48) := by kernel_rfl
theorem four_new (w : World) (c0 c1 c2 c3 : Value) (t : TypeId) : ∀ j u, [c0, c1, c2, c3][j]? = some u → (w.alloc (.cells #[c0, c1, c2, c3] t)).cell? ((⟨w.heap.size, 0, none⟩ : Addr).add j) = some u := by
  intro j u hu
  match j, hu with
  | 0, hu => simp at hu; subst hu; simp [Addr.add]
  | 1, hu => simp at hu; subst hu; simp [Addr.add]
  | 2, hu => simp at hu; subst hu; simp [Addr.add]
  | 3, hu => simp at hu; subst hu; simp [Addr.add]
  | j + 4, hu => simp at hu
/-- A pool, and the pool that was lent for it. -/
structure PlLent (B : Nat) (w : World) (x y : Pl) : Prop where
  v : y.v = x.v
  f0 : y.f0 = x.f0
  f1 : y.f1 = x.f1
  hl : y.hl = x.hl
  hs : y.hs = x.hs
  row : ∃ g, y.hp = some ⟨g, 0, none⟩ ∧ w.ownsRow B 105 2 (.slice (some ⟨g, 0, none⟩) (x.hl + 9) y.hc) (x.hl + 9) (lcells (x.hs ++ marksHeld))
theorem PlLent.kept {B : Nat} {w w' : World} {x y : Pl} (h : PlLent B w x y) (hk : ∀ (g : Nat) (cs : Array Value) (fr : Nat × Nat), w.heap[g]? = some (.cells cs 105 fr) → w'.heap[g]? = w.heap[g]?) : PlLent B w' x y := by
  obtain ⟨g, e, hr⟩ := h.row
  refine ⟨h.v, h.f0, h.f1, h.hl, h.hs, g, e, RB.owns_kept' hr (fun g' e' => ?_)⟩
  rcases hr.2 with ⟨h1, _⟩ | ⟨g2, cap, cur, h1, _, hg, _⟩
  · cases h1
  · cases h1; cases e'; exact hk _ _ _ hg
def Lents (B : Nat) (w : World) (ps qs : List Pl) : Prop := ∀ (i : Nat) (x y : Pl), ps[i]? = some x → qs[i]? = some y → PlLent B w x y
theorem Lents.kept {B : Nat} {w w' : World} {ps qs : List Pl} (h : Lents B w ps qs) (hk : ∀ (g : Nat) (cs : Array Value) (fr : Nat × Nat), w.heap[g]? = some (.cells cs 105 fr) → w'.heap[g]? = w.heap[g]?) : Lents B w' ps qs := fun i x y hx hy => (h i x y hx hy).kept hk
theorem keep_below {w w' : World} (hb : Below w.heap.size w w') : ∀ (g : Nat) (cs : Array Value) (fr : Nat × Nat), w.heap[g]? = some (.cells cs 105 fr) → w'.heap[g]? = w.heap[g]? := fun g _ _ h => hb.block g (RB.lt_of_block h)
theorem keep_grown {w w' : World} {r : Option Nat} (hb : w.grownBy w' r) (hr : ∀ (g : Nat) (cs : Array Value) (fr : Nat × Nat), w.heap[g]? = some (.cells cs 105 fr) → some g ≠ r) : ∀ (g : Nat) (cs : Array Value) (fr : Nat × Nat), w.heap[g]? = some (.cells cs 105 fr) → w'.heap[g]? = w.heap[g]? := fun g cs fr h => hb.block g (RB.lt_of_block h) (hr g cs fr h)
theorem Lents.snoc {B : Nat} {w : World} {ps qs : List Pl} (h : Lents B w ps qs) {x y : Pl} (hx : ps[qs.length]? = some x) (hy : PlLent B w x y) : Lents B w ps (qs ++ [y]) := fun i a b ha hb => by
  by_cases hi : i < qs.length
  · rw [List.getElem?_append_left hi] at hb
    exact h i a b ha hb
  · have hb' := hb
    rw [List.getElem?_append_right (by omega)] at hb
    have hi2 : i - qs.length < 1 := by simpa using (List.getElem?_eq_some_iff.1 hb).1
    have : i = qs.length := by omega
    subst this
    rw [Nat.sub_self] at hb
    simp at hb
    subst hb
    rw [hx] at ha
    cases ha
    exact hy
theorem owns_le4 {w : World} {B n cap g s : Nat} {t : TypeId} {ys : List Value} (h : w.ownsRow B t s (.slice (some ⟨g, 0, none⟩) n cap) n ys) : n ≤ cap := (owns_le2 h).1
def mkPool : Pl := ⟨777, 0, 0, none, 0, 0, []⟩
def marksPool : List Pl := List.replicate 9 mkPool
theorem marksPool_take (k : Nat) (h : k < 9) : marksPool.take (k + 1) = marksPool.take k ++ [mkPool] := take_snoc (List.getElem?_replicate_of_lt h)

set_option maxRecDepth 100000 in
set_option maxHeartbeats 4000000 in
theorem lendPools_any (w : World) (sp : Option Addr) (m cap : Nat) (ps : List Pl) (hm : ps.length = m) (hx : Cel w sp 4 (ps.map plc)) (hok : ∀ x ∈ ps, PlOk w x ∧ x.hl ≤ 1073741824) (hlen : m ≤ 1073741824) :
    Calls Tryz.prog 21 #[.slice sp m cap] w fun e w' => ∃ g c' qs, e = .returned (.slice (some ⟨g, 0, none⟩) m c') ∧ qs.length = m ∧ w'.ownsRow w.heap.size 108 4 (.slice (some ⟨g, 0, none⟩) (m + 9) c') (m + 9) (pcells (qs ++ marksPool)) ∧ Lents w.heap.size w' ps qs ∧ Below w.heap.size w w' := by
  have HX := hide hx
  have HM := hide hm
  have HK := hide hok
  clear hx hm hok
  obtain ⟨M, hMi, hMn⟩ : ∃ M : Nat, (m : Int) + 9 = (M : Int) ∧ M = m + 9 := ⟨m + 9, by omega, rfl⟩
  have HMn := hide hMn
  have hM1 : M ≤ 1073741900 := by omega
  clear hMn
  obtain ⟨i0, hi, hz0, hz1, hz2⟩ := info_parts pool_info
  obtain ⟨w1, hmk, hown1, hb1⟩ := run_make_own (P := Tryz.prog) w w.heap.size 46 108 i0 (.agg #[.int .i64 0, .int .i64 0, .int .i64 0, .slice none 0 0]) 4 Tryz.underlying46 hi hz0 hz1 .i64 .i64 M (by rw [hz2]; omega) (by unfold maxLen; omega) (Nat.le_refl _)
  have HO1 := hide hown1
  have HB1 : Hid (Below w.heap.size w w1) := (Below.refl _ w).grown hb1 (Nat.le_refl _) (fun k e => by cases e)
  clear hown1 hb1
  go_enter Tryz.func21, Tryz.ntmps21
  go_wp2_with fail
  clear hmk
  go_loopw [3, 4] (fun lv iv wr => ∃ (k g c : Nat) (qs : List Pl), k ≤ m ∧ iv = .int .i64 k ∧ lv = .slice (some ⟨g, 0, none⟩) k c ∧ qs.length = k ∧ Hid (wr.ownsRow w.heap.size 108 4 (.slice (some ⟨g, 0, none⟩) k c) k (pcells qs)) ∧ Hid (Lents w.heap.size wr ps qs) ∧ Hid (Below w.heap.size w wr)) (fun _ i _ => m - (intOf i).toNat)
  case atStart => exact ⟨0, _, M, [], Nat.zero_le _, rfl, rfl, rfl, HO1, fun i x y _ hy => by simp at hy, HB1⟩
  case round =>
    clear HO1 HB1
    obtain ⟨k, g, c, qs, hk, rfl, rfl, hq, HO, HLe, HB⟩ := hrel
    by_cases hlt : k < m
    · have hlt' : (k : Int) < (m : Int) := by omega
      have k0' : (0 : Int) ≤ (k : Int) := by omega
      obtain ⟨x, hx⟩ : ∃ x, ps[k]? = some x := ⟨_, List.getElem?_eq_getElem (by rw [HM.out]; exact hlt)⟩
      obtain ⟨b, o, rfl, hbl, hcl⟩ := (HX.out.below HB.out).get (i := k) (r := plc x) (by rw [List.getElem?_map, hx]; rfl)
      obtain ⟨hp1, hp2⟩ := HK.out x (List.mem_of_getElem? hx)
      have hp3 := hp1.cel.below HB.out
      have hp4 := hp1.len
      have HXk := hide hx
      clear hp1
      obtain ⟨xv, x0, x1, xp, xl, xc, xs⟩ := x
      dsimp only at hp2 hp3 hp4
      have a0 := hcl 0 _ rfl
      have a1 := hcl 1 _ rfl
      have a2 := hcl 2 _ rfl
      have a3 := hcl 3 _ rfl
      rw [Nat.add_zero] at a0
      dsimp only at a0 a1 a2 a3
      obtain ⟨w6, hw6, hb6, hx6⟩ := box_one wr #[.int .i64 xv, .int .i64 x0, .int .i64 x1, .slice xp xl xc] 108
      have HB6 := hide hb6
      have HX6 := hide hx6
      have HW6 := hide hw6
      have f3 : w6.cell? ⟨b, o + k * 4 + 3, none⟩ = some (.slice xp xl xc) := (hb6.cell (p := ⟨b, o + k * 4 + 3, none⟩) hbl).trans a3
      have HLd := hide (lendHeld_any w6 xp xl xc xs hp4 (hp3.below hb6) hp2)
      clear hcl hx hw6 hb6 hx6 hp3
      go_upto_region 6 with (fail)
      rw [HW6.out]
      have cb := (ac4 HX6.out).2.2.2
      have cth := RB.bk_thaw HX6.out
      go_upto_region 7 with (go_at_call 41; refine HLd.out.mono ?_; rintro e w7 ⟨g2, c2, rfl, hr7, hb7⟩; have HR7 := hide hr7; have HB7 := hide hb7; have cb7 := (ac4 ((hb7.block _ (ac_lt HX6.out)).trans HX6.out)).2.2.2; have cth7 := RB.bk_thaw ((hb7.block _ (ac_lt HX6.out)).trans HX6.out); clear hr7 hb7)
      obtain ⟨w8, hw8⟩ : ∃ w8, w7.setCell ⟨wr.heap.size, 3, none⟩ (.slice (some ⟨g2, 0, none⟩) xl c2) = w8 := ⟨_, rfl⟩
      rw [hw8]
      have hx8 : w8.heap[wr.heap.size]? = some (.cells #[.int .i64 xv, .int .i64 x0, .int .i64 x1, .slice (some ⟨g2, 0, none⟩) xl c2] 108 (0, 0)) := by rw [← hw8]; exact RB.block_set ((HB7.out.block _ (ac_lt HX6.out)).trans HX6.out) _
      have hu8 : ∀ q, q ≠ wr.heap.size → w8.heap[q]? = w7.heap[q]? := fun q hq => by rw [← hw8]; exact Below.heap_setCell _ _ _ _ hq
      have hb68 := HB6.out.trans (HB7.out.mono HB6.out.size)
      have HB8 : Hid (Below wr.heap.size wr w8) := by show Below _ _ _; rw [← hw8]; exact hb68.setCell (p := ⟨wr.heap.size, 3, none⟩) (Nat.le_refl _) _
      have HB8w := hide (HB.out.trans (HB8.out.mono HB.out.size))
      have HO8 := hide (RB.owns_kept' HO.out (fun g e => HB8.out.block g (RB.owns_lt HO.out g e)))
      have HL8 := hide (HLe.out.kept (keep_below HB8.out))
      have hsz6 : wr.heap.size < w6.heap.size := ac_lt HX6.out
      have HR8 := hide (RB.owns_kept' HR7.out (fun g e => hu8 g (by have := RB.owns_low HR7.out g e; omega)))
      have HPl : Hid (PlLent w.heap.size w8 ⟨xv, x0, x1, xp, xl, xc, xs⟩ ⟨xv, x0, x1, some ⟨g2, 0, none⟩, xl, c2, xs⟩) := ⟨rfl, rfl, rfl, rfl, rfl, g2, rfl, owns_mono HR8.out (by have := HB.out.size; omega)⟩
      obtain ⟨u0, u1, u2, u3⟩ := ac4 hx8
      clear hw8 hx8 hu8 hb68 HB7 HR7 HR8 HLe HO a0 a1 a2 a3 f3 cb cth cb7 cth7
      go_wp2_with (at_builtin; refine wpList_append_lies _ rfl (.tmp 28) (.tmp 30) 46 rfl w.heap.size 108 i0 (.agg #[.int .i64 0, .int .i64 0, .int .i64 0, .slice none 0 0]) 4 48 Tryz.underlying46 hi hz0 hz1 hz2 rfl (by omega) _ _ _ rfl (HO8.out.alloc _) ⟨w8.heap.size, 0, none⟩ 1 1 [.int .i64 xv, .int .i64 x0, .int .i64 x1, .slice (some ⟨g2, 0, none⟩) xl c2] rfl rfl (four_new _ _ _ _ _ _) (by simp [Value.oneCell']) (by omega) (by unfold maxLen; omega) (by omega) (by have := HB8w.out.size; simp; omega) _ rfl ?_; intro g1 c1 w9 hown9 hgrow9 hat9 hlt9; have HO9 := hide hown9; have HB9 : Hid (Below w.heap.size w w9) := (HB8w.out.alloc HB8w.out.size _).grown hgrow9 (by have := HB8w.out.size; simp; omega) (fun k e => RB.owns_low HO8.out k e); have hkp : ∀ (g : Nat) (cs : Array Value) (fr : Nat × Nat), w8.heap[g]? = some (.cells cs 105 fr) → w9.heap[g]? = w8.heap[g]? := (fun q cs fr hq => (hgrow9.block q (by have := RB.lt_of_block hq; simp; omega) (fun e => RB.owns_ne HO8.out hq (by decide) e.symm)).trans (Below.heap_alloc _ _ _ (RB.lt_of_block hq))); have HL9 := hide ((HL8.out.snoc (by rw [hq]; exact HXk.out) HPl.out).kept hkp); clear hown9 hgrow9 hat9 hlt9 hkp)
      go_roundw
      case rel => exact ⟨k + 1, g1, c1, _, by omega, by go_num, rfl, by simp [hq], by rw [pcells_snoc]; exact HO9, HL9, HB9⟩
      case measure => simp [intOf]; omega
    · have hlt' : ¬ (k : Int) < (m : Int) := by omega
      obtain rfl : k = m := by omega
      go_wp2_with fail
      go_loopw [3, 6] (fun lv iv wn => ∃ (j g c : Nat), j ≤ 9 ∧ iv = .int .i64 j ∧ lv = .slice (some ⟨g, 0, none⟩) (k + j) c ∧ Hid (wn.ownsRow w.heap.size 108 4 (.slice (some ⟨g, 0, none⟩) (k + j) c) (k + j) (pcells (qs ++ marksPool.take j))) ∧ Hid (Lents w.heap.size wn ps qs) ∧ Hid (Below w.heap.size w wn)) (fun _ i _ => 9 - (intOf i).toNat)
      case atStart => exact ⟨0, g, c, by omega, rfl, by simp, by simpa using HO, HLe, HB⟩
      case round =>
        clear HO HLe HB
        obtain ⟨j, g, c, hj, rfl, rfl, HO, HLe, HB⟩ := hrel
        by_cases hj9 : j < 9
        · have hj9' : (j : Int) < 9 := by omega
          have HT := hide (marksPool_take j hj9)
          go_wp2_with (at_builtin; refine wpList_append_lies _ rfl (.tmp 36) (.tmp 38) 46 rfl w.heap.size 108 i0 (.agg #[.int .i64 0, .int .i64 0, .int .i64 0, .slice none 0 0]) 4 48 Tryz.underlying46 hi hz0 hz1 hz2 rfl (by omega) _ _ _ rfl (HO.out.alloc _) ⟨wr.heap.size, 0, none⟩ 1 1 [.int .i64 777, .int .i64 0, .int .i64 0, .slice none 0 0] rfl rfl (four_new _ _ _ _ _ _) (by simp [Value.oneCell']) (by omega) (by unfold maxLen; omega) (by omega) (by have := HB.out.size; simp; omega) _ rfl ?_; intro g1 c1 w9 hown9 hgrow9 hat9 hlt9; have HO9 := hide hown9; have HB9 : Hid (Below w.heap.size w w9) := (HB.out.alloc HB.out.size _).grown hgrow9 (by have := HB.out.size; simp; omega) (fun k e => RB.owns_low HO.out k e); have hkp : ∀ (g : Nat) (cs : Array Value) (fr : Nat × Nat), wr.heap[g]? = some (.cells cs 105 fr) → w9.heap[g]? = wr.heap[g]? := (fun q cs fr hq => (hgrow9.block q (by have := RB.lt_of_block hq; simp; omega) (fun e => RB.owns_ne HO.out hq (by decide) e.symm)).trans (Below.heap_alloc _ _ _ (RB.lt_of_block hq))); have HL9 := hide (HLe.out.kept hkp); clear hown9 hgrow9 hat9 hlt9 hkp)
          go_roundw
          case rel => exact ⟨j + 1, g1, c1, by omega, by go_num, by simp [Nat.add_assoc], by rw [HT.out, ← List.append_assoc, pcells_snoc]; exact HO9, HL9, HB9⟩
          case measure => simp [intOf]; omega
        · obtain rfl : j = 9 := by omega
          have hc := (owns_le4 HO.out)
          have HE : Hid (wr.ownsRow w.heap.size 108 4 (.slice (some ⟨g, 0, none⟩) (k + 9) c) (k + 9) (pcells (qs ++ marksPool))) := HO.out
          go_wp2
          go_ret
          exact ⟨g, c, qs, rfl, hq, HE.out, HLe.out, HB.out⟩
end Go.Proofs.YtfdanocpbhbieaaGreat
namespace Go.Proofs.YtfdanocpbhbieaaGreat
open Go.RowKit

/-- Three boxes of a Lend: what came in, what is told, the copy. -/
structure LB (w W : World) (A Z D : Array Value) (t : TypeId) : Prop where
  src : W.heap[w.heap.size]? = some (.cells A t (0, 0))
  res : W.heap[w.heap.size + 1]? = some (.cells Z t (0, 0))
  dst : W.heap[w.heap.size + 1 + 1]? = some (.cells D t (0, 0))
  bel : Below w.heap.size w W
theorem LB.below {w W W' : World} {A Z D : Array Value} {t : TypeId} (h : LB w W A Z D t) (hb : Below W.heap.size W W') : LB w W' A Z D t :=
  ⟨(hb.block _ (RB.lt_of_block h.src)).trans h.src, (hb.block _ (RB.lt_of_block h.res)).trans h.res, (hb.block _ (RB.lt_of_block h.dst)).trans h.dst, h.bel.trans (hb.mono h.bel.size)⟩
theorem LB.set {w W : World} {A Z D : Array Value} {t : TypeId} (h : LB w W A Z D t) (j : Nat) (v : Value) : LB w (W.setCell ⟨w.heap.size + 1 + 1, j, none⟩ v) A Z (D.setIfInBounds j v) t :=
  ⟨(Below.heap_setCell _ _ _ _ (by show w.heap.size ≠ w.heap.size + 1 + 1; omega)).trans h.src, (Below.heap_setCell _ _ _ _ (by show w.heap.size + 1 ≠ w.heap.size + 1 + 1; omega)).trans h.res, RB.block_set h.dst v, h.bel.setCell (p := ⟨w.heap.size + 1 + 1, j, none⟩) (by show w.heap.size ≤ w.heap.size + 1 + 1; omega) v⟩
theorem LB.keep {w W : World} {A Z D : Array Value} {t : TypeId} (_h : LB w W A Z D t) (j : Nat) (v : Value) {g : Nat} (hg : w.heap.size + 1 + 1 < g) : (W.setCell ⟨w.heap.size + 1 + 1, j, none⟩ v).heap[g]? = W.heap[g]? :=
  Below.heap_setCell _ _ _ _ (by show g ≠ w.heap.size + 1 + 1; omega)
theorem LB.lt {w W : World} {A Z D : Array Value} {t : TypeId} (h : LB w W A Z D t) : w.heap.size + 1 + 1 < W.heap.size := RB.lt_of_block h.dst
/-- A row of a later block, behind a store into the copy. -/
theorem LB.row {w W : World} {A Z D : Array Value} {t : TypeId} (h : LB w W A Z D t) (j : Nat) (v : Value) {B s n : Nat} {e : TypeId} {u : Value} {xs : List Value} (hr : W.ownsRow B e s u n xs) (hB : w.heap.size + 1 + 1 < B) : (W.setCell ⟨w.heap.size + 1 + 1, j, none⟩ v).ownsRow B e s u n xs :=
  RB.owns_kept' hr (fun g e => h.keep j v (by have := RB.owns_low hr g e; omega))
theorem row_below {W W' : World} {B s n : Nat} {e : TypeId} {u : Value} {xs : List Value} (hr : W.ownsRow B e s u n xs) (hb : Below W.heap.size W W') : W'.ownsRow B e s u n xs := RB.owns_kept' hr (fun g e => hb.block g (RB.owns_lt hr g e))

theorem Lents.set {B : Nat} {W : World} {ps qs : List Pl} (h : Lents B W ps qs) {b j : Nat} {v : Value} (hb : b < B) : Lents B (W.setCell ⟨b, j, none⟩ v) ps qs := fun i x y hx hy => by
  obtain ⟨g, e, hr⟩ := (h i x y hx hy).row
  have q := h i x y hx hy
  exact ⟨q.v, q.f0, q.f1, q.hl, q.hs, g, e, RB.owns_kept' hr (fun g' e' => Below.heap_setCell _ _ _ _ (by show g' ≠ b; have := RB.owns_low hr g' e'; omega))⟩

/-- A state that was lent: its lists are copies, nine marks behind each. -/
structure StaLent (B : Nat) (W : World) (s r : Sta) : Prop where
  pos : r.pos = s.pos
  pools : r.pools.length = s.pools.length ∧ r.pn = s.pn ∧ ∃ g, r.pp = some ⟨g, 0, none⟩ ∧ W.ownsRow B 108 4 (.slice (some ⟨g, 0, none⟩) (s.pn + 9) r.pc) (s.pn + 9) (pcells (r.pools ++ marksPool))
  held : Lents B W s.pools r.pools
  prices : r.prices = s.prices ∧ r.rn = s.rn ∧ ∃ g, r.rp = some ⟨g, 0, none⟩ ∧ W.ownsRow B 101 2 (.slice (some ⟨g, 0, none⟩) (s.rn + 9) r.rc) (s.rn + 9) (lcells (s.prices ++ marksPrices))
  last : r.last = s.last ∧ r.ln = s.ln ∧ ∃ g, r.lp = some ⟨g, 0, none⟩ ∧ W.ownsRow B 45 1 (.slice (some ⟨g, 0, none⟩) (s.ln + 9) r.lc) (s.ln + 9) ((s.last ++ marksNumbers).map (.int .u64 ·))
  gen : r.gen = s.gen ∧ r.gn = s.gn ∧ ∃ g, r.gp = some ⟨g, 0, none⟩ ∧ W.ownsRow B 45 1 (.slice (some ⟨g, 0, none⟩) (s.gn + 9) r.gc) (s.gn + 9) ((s.gen ++ marksNumbers).map (.int .u64 ·))
  owed : r.owed = s.owed ∧ r.on = s.on ∧ ∃ g, r.op = some ⟨g, 0, none⟩ ∧ W.ownsRow B 4 1 (.slice (some ⟨g, 0, none⟩) (s.on + 9) r.oc) (s.on + 9) ((s.owed ++ marksOwed).map (.bool ·))

/-- A state whose lists are not too long to be lent. -/
structure StaSmall (s : Sta) : Prop where
  pn : s.pn ≤ 1073741824
  rn : s.rn ≤ 1073741824
  ln : s.ln ≤ 1073741824
  gn : s.gn ≤ 1073741824
  on : s.on ≤ 1073741824
  hl : ∀ x ∈ s.pools, x.hl ≤ 1073741824

theorem three_boxes (w : World) (A Z : Array Value) (t : TypeId) : ∃ W, ((w.alloc (.cells A t)).alloc (.cells Z t)).alloc (.cells A t) = W ∧ LB w W A Z A t := by
  obtain ⟨w2, hw2, hb2, hx2, hk2⟩ := box_two w A t t Z
  refine ⟨_, rfl, ?_⟩
  rw [hw2]
  have hz : w2.heap.size = w.heap.size + 1 + 1 := by rw [← hw2]; simp
  exact ⟨(Below.heap_alloc _ _ _ (RB.lt_of_block hx2)).trans hx2, (Below.heap_alloc _ _ _ (RB.lt_of_block hk2)).trans hk2, by rw [← hz]; exact heap_alloc_new _ _, hb2.alloc hb2.size _⟩

set_option maxRecDepth 100000 in
set_option maxHeartbeats 4000000 in
theorem lendState_any (w : World) (s : Sta) (hs : StaOk w s) (hz : StaSmall s) :
    Calls Tryz.prog 4 #[.agg s.arr] w fun e w' => ∃ r, e = .returned (.agg r.arr) ∧ StaLent w.heap.size w' s r ∧ Below w.heap.size w w' := by
  obtain ⟨w2, hw2, hb2, hx2, hk2⟩ := box_two w s.arr 51 51 #[.int .u64 0, .slice none 0 0, .slice none 0 0, .slice none 0 0, .slice none 0 0, .slice none 0 0]
  obtain ⟨W2, hW2, hL2⟩ := three_boxes w s.arr #[.int .u64 0, .slice none 0 0, .slice none 0 0, .slice none 0 0, .slice none 0 0, .slice none 0 0] 51
  obtain ⟨c0, c1, c2, c3, c4, c5⟩ := ac6 hx2
  have HS0 : Hid (∀ W, Below w.heap.size w W → StaOk W s) := fun W hb => hs.below hb
  have HS2 := hide (HS0.out W2 hL2.bel)
  have Hw2 := hide hw2
  have HW2 : Hid (w2.alloc (.cells s.arr 51) = W2) := by show _ = _; rw [← hw2]; exact hW2
  have hsz : w2.heap.size = w.heap.size + 1 + 1 := by rw [← hw2]; simp
  have HSz := hide hsz
  have HL2 : Hid (LB w W2 s.arr #[.int .u64 0, .slice none 0 0, .slice none 0 0, .slice none 0 0, .slice none 0 0, .slice none 0 0] #[.int .u64 s.pos, .slice s.pp s.pn s.pc, .slice s.rp s.rn s.rc, .slice s.lp s.ln s.lc, .slice s.gp s.gn s.gc, .slice s.op s.on s.oc] 51) := hL2
  have HZ := hide hz
  clear hw2 hb2 hx2 hk2 hW2 hL2 hs hz hsz
  go_enter Tryz.func4, Tryz.ntmps4
  go_upto_region 1 with (fail)
  rw [Hw2.out]
  go_upto_region 2 with (fail)
  rw [HSz.out]
  rw [show w2.alloc (.cells #[.int .u64 s.pos, .slice s.pp s.pn s.pc, .slice s.rp s.rn s.rc, .slice s.lp s.ln s.lc, .slice s.gp s.gn s.gc, .slice s.op s.on s.oc] 51) = W2 from HW2.out]
  clear c0 c1 c2 c3 c4 c5
  obtain ⟨c0, c1, c2, c3, c4, c5⟩ := ac6 (show W2.heap[w.heap.size]? = some (.cells #[.int .u64 s.pos, .slice s.pp s.pn s.pc, .slice s.rp s.rn s.rc, .slice s.lp s.ln s.lc, .slice s.gp s.gn s.gc, .slice s.op s.on s.oc] 51 (0, 0)) from HL2.out.src)
  go_upto_region 3 with (go_at_call 20; refine (lendNumbers_any W2 s.lp s.ln s.lc s.last HS2.out.ln HS2.out.last HZ.out.ln).mono ?_; rintro e V2 ⟨g2, d2, rfl, hr, hb⟩; have HLv := hide (HL2.out.below hb); have HR2 := hide hr; have HV := hide hb; obtain ⟨e0, e1, e2, e3, e4, e5⟩ := ac6 HLv.out.dst; have ct := RB.bk_thaw HLv.out.dst; clear hr hb)
  obtain ⟨W3, hW⟩ : ∃ W, V2.setCell ⟨w.heap.size + 1 + 1, 3, none⟩ (.slice (some ⟨g2, 0, none⟩) s.ln d2) = W := ⟨_, rfl⟩
  rw [hW]
  have HL3 : Hid (LB w W3 s.arr #[.int .u64 0, .slice none 0 0, .slice none 0 0, .slice none 0 0, .slice none 0 0, .slice none 0 0] #[.int .u64 s.pos, .slice s.pp s.pn s.pc, .slice s.rp s.rn s.rc, .slice (some ⟨g2, 0, none⟩) s.ln d2, .slice s.gp s.gn s.gc, .slice s.op s.on s.oc] 51) := by show LB _ _ _ _ _ _; rw [← hW]; exact HLv.out.set 3 _
  have hlt2 := HL2.out.lt
  have HR2 := hide (show W3.ownsRow _ _ _ _ _ _ by rw [← hW]; exact HLv.out.row 3 _ HR2.out (by omega))
  have HS3 : Hid (StaOk W3 s) := HS0.out W3 HL3.out.bel
  clear c0 c1 c2 c3 c4 c5 e0 e1 e2 e3 e4 e5 ct hW HLv HV
  obtain ⟨c0, c1, c2, c3, c4, c5⟩ := ac6 (show W3.heap[w.heap.size]? = some (.cells #[.int .u64 s.pos, .slice s.pp s.pn s.pc, .slice s.rp s.rn s.rc, .slice s.lp s.ln s.lc, .slice s.gp s.gn s.gc, .slice s.op s.on s.oc] 51 (0, 0)) from HL3.out.src)
  go_upto_region 4 with (go_at_call 20; refine (lendNumbers_any W3 s.gp s.gn s.gc s.gen HS3.out.gn HS3.out.gen HZ.out.gn).mono ?_; rintro e V3 ⟨g3, d3, rfl, hr, hb⟩; have HLv := hide (HL3.out.below hb); have HR3 := hide hr; have HV := hide hb; obtain ⟨e0, e1, e2, e3, e4, e5⟩ := ac6 HLv.out.dst; have ct := RB.bk_thaw HLv.out.dst; clear hr hb)
  obtain ⟨W4, hW⟩ : ∃ W, V3.setCell ⟨w.heap.size + 1 + 1, 4, none⟩ (.slice (some ⟨g3, 0, none⟩) s.gn d3) = W := ⟨_, rfl⟩
  rw [hW]
  have HL4 : Hid (LB w W4 s.arr #[.int .u64 0, .slice none 0 0, .slice none 0 0, .slice none 0 0, .slice none 0 0, .slice none 0 0] #[.int .u64 s.pos, .slice s.pp s.pn s.pc, .slice s.rp s.rn s.rc, .slice (some ⟨g2, 0, none⟩) s.ln d2, .slice (some ⟨g3, 0, none⟩) s.gn d3, .slice s.op s.on s.oc] 51) := by show LB _ _ _ _ _ _; rw [← hW]; exact HLv.out.set 4 _
  have hlt3 := HL3.out.lt
  have HR2 := hide (show W4.ownsRow _ _ _ _ _ _ by rw [← hW]; exact HLv.out.row 4 _ (row_below HR2.out HV.out) (by omega))
  have HR3 := hide (show W4.ownsRow _ _ _ _ _ _ by rw [← hW]; exact HLv.out.row 4 _ HR3.out (by omega))
  have HS4 : Hid (StaOk W4 s) := HS0.out W4 HL4.out.bel
  clear c0 c1 c2 c3 c4 c5 e0 e1 e2 e3 e4 e5 ct hW HLv HV
  obtain ⟨c0, c1, c2, c3, c4, c5⟩ := ac6 (show W4.heap[w.heap.size]? = some (.cells #[.int .u64 s.pos, .slice s.pp s.pn s.pc, .slice s.rp s.rn s.rc, .slice s.lp s.ln s.lc, .slice s.gp s.gn s.gc, .slice s.op s.on s.oc] 51 (0, 0)) from HL4.out.src)
  go_upto_region 5 with (go_at_call 21; refine (lendPools_any W4 s.pp s.pn s.pc s.pools HS4.out.pn HS4.out.pools (fun x hx => ⟨HS4.out.held x hx, HZ.out.hl x hx⟩) HZ.out.pn).mono ?_; rintro e V4 ⟨g4, d4, qs, rfl, hql, hr, hle, hb⟩; have HLv := hide (HL4.out.below hb); have HR4 := hide hr; have HLe := hide hle; have HQl := hide hql; have HV := hide hb; obtain ⟨e0, e1, e2, e3, e4, e5⟩ := ac6 HLv.out.dst; have ct := RB.bk_thaw HLv.out.dst; clear hr hb hle hql)
  obtain ⟨W5, hW⟩ : ∃ W, V4.setCell ⟨w.heap.size + 1 + 1, 1, none⟩ (.slice (some ⟨g4, 0, none⟩) s.pn d4) = W := ⟨_, rfl⟩
  rw [hW]
  have HL5 : Hid (LB w W5 s.arr #[.int .u64 0, .slice none 0 0, .slice none 0 0, .slice none 0 0, .slice none 0 0, .slice none 0 0] #[.int .u64 s.pos, .slice (some ⟨g4, 0, none⟩) s.pn d4, .slice s.rp s.rn s.rc, .slice (some ⟨g2, 0, none⟩) s.ln d2, .slice (some ⟨g3, 0, none⟩) s.gn d3, .slice s.op s.on s.oc] 51) := by show LB _ _ _ _ _ _; rw [← hW]; exact HLv.out.set 1 _
  have hlt4 := HL4.out.lt
  have HR2 := hide (show W5.ownsRow _ _ _ _ _ _ by rw [← hW]; exact HLv.out.row 1 _ (row_below HR2.out HV.out) (by omega))
  have HR3 := hide (show W5.ownsRow _ _ _ _ _ _ by rw [← hW]; exact HLv.out.row 1 _ (row_below HR3.out HV.out) (by omega))
  have HR4 := hide (show W5.ownsRow _ _ _ _ _ _ by rw [← hW]; exact HLv.out.row 1 _ HR4.out (by omega))
  have HLe := hide (show Lents _ W5 _ _ by rw [← hW]; exact HLe.out.set (by omega))
  have HS5 : Hid (StaOk W5 s) := HS0.out W5 HL5.out.bel
  clear c0 c1 c2 c3 c4 c5 e0 e1 e2 e3 e4 e5 ct hW HLv HV
  obtain ⟨c0, c1, c2, c3, c4, c5⟩ := ac6 (show W5.heap[w.heap.size]? = some (.cells #[.int .u64 s.pos, .slice s.pp s.pn s.pc, .slice s.rp s.rn s.rc, .slice s.lp s.ln s.lc, .slice s.gp s.gn s.gc, .slice s.op s.on s.oc] 51 (0, 0)) from HL5.out.src)
  go_upto_region 6 with (go_at_call 22; refine (lendPrices_any W5 s.rp s.rn s.rc s.prices HS5.out.rn HS5.out.prices HZ.out.rn).mono ?_; rintro e V5 ⟨g5, d5, rfl, hr, hb⟩; have HLv := hide (HL5.out.below hb); have HR5 := hide hr; have HV := hide hb; obtain ⟨e0, e1, e2, e3, e4, e5⟩ := ac6 HLv.out.dst; have ct := RB.bk_thaw HLv.out.dst; clear hr hb)
  obtain ⟨W6, hW⟩ : ∃ W, V5.setCell ⟨w.heap.size + 1 + 1, 2, none⟩ (.slice (some ⟨g5, 0, none⟩) s.rn d5) = W := ⟨_, rfl⟩
  rw [hW]
  have HL6 : Hid (LB w W6 s.arr #[.int .u64 0, .slice none 0 0, .slice none 0 0, .slice none 0 0, .slice none 0 0, .slice none 0 0] #[.int .u64 s.pos, .slice (some ⟨g4, 0, none⟩) s.pn d4, .slice (some ⟨g5, 0, none⟩) s.rn d5, .slice (some ⟨g2, 0, none⟩) s.ln d2, .slice (some ⟨g3, 0, none⟩) s.gn d3, .slice s.op s.on s.oc] 51) := by show LB _ _ _ _ _ _; rw [← hW]; exact HLv.out.set 2 _
  have hlt5 := HL5.out.lt
  have HR2 := hide (show W6.ownsRow _ _ _ _ _ _ by rw [← hW]; exact HLv.out.row 2 _ (row_below HR2.out HV.out) (by omega))
  have HR3 := hide (show W6.ownsRow _ _ _ _ _ _ by rw [← hW]; exact HLv.out.row 2 _ (row_below HR3.out HV.out) (by omega))
  have HR4 := hide (show W6.ownsRow _ _ _ _ _ _ by rw [← hW]; exact HLv.out.row 2 _ (row_below HR4.out HV.out) (by omega))
  have HR5 := hide (show W6.ownsRow _ _ _ _ _ _ by rw [← hW]; exact HLv.out.row 2 _ HR5.out (by omega))
  have HLe := hide (show Lents _ W6 _ _ by rw [← hW]; exact (HLe.out.kept (keep_below HV.out)).set (by omega))
  have HS6 : Hid (StaOk W6 s) := HS0.out W6 HL6.out.bel
  clear c0 c1 c2 c3 c4 c5 e0 e1 e2 e3 e4 e5 ct hW HLv HV
  obtain ⟨c0, c1, c2, c3, c4, c5⟩ := ac6 (show W6.heap[w.heap.size]? = some (.cells #[.int .u64 s.pos, .slice s.pp s.pn s.pc, .slice s.rp s.rn s.rc, .slice s.lp s.ln s.lc, .slice s.gp s.gn s.gc, .slice s.op s.on s.oc] 51 (0, 0)) from HL6.out.src)
  go_upto_region 7 with (go_at_call 23; refine (lendOwed_any W6 s.op s.on s.oc s.owed HS6.out.on HS6.out.owed HZ.out.on).mono ?_; rintro e V6 ⟨g6, d6, rfl, hr, hb⟩; have HLv := hide (HL6.out.below hb); have HR6 := hide hr; have HV := hide hb; obtain ⟨e0, e1, e2, e3, e4, e5⟩ := ac6 HLv.out.dst; have ct := RB.bk_thaw HLv.out.dst; clear hr hb)
  obtain ⟨W7, hW⟩ : ∃ W, V6.setCell ⟨w.heap.size + 1 + 1, 5, none⟩ (.slice (some ⟨g6, 0, none⟩) s.on d6) = W := ⟨_, rfl⟩
  rw [hW]
  have HL7 : Hid (LB w W7 s.arr #[.int .u64 0, .slice none 0 0, .slice none 0 0, .slice none 0 0, .slice none 0 0, .slice none 0 0] #[.int .u64 s.pos, .slice (some ⟨g4, 0, none⟩) s.pn d4, .slice (some ⟨g5, 0, none⟩) s.rn d5, .slice (some ⟨g2, 0, none⟩) s.ln d2, .slice (some ⟨g3, 0, none⟩) s.gn d3, .slice (some ⟨g6, 0, none⟩) s.on d6] 51) := by show LB _ _ _ _ _ _; rw [← hW]; exact HLv.out.set 5 _
  have hlt6 := HL6.out.lt
  have HR2 := hide (show W7.ownsRow _ _ _ _ _ _ by rw [← hW]; exact HLv.out.row 5 _ (row_below HR2.out HV.out) (by omega))
  have HR3 := hide (show W7.ownsRow _ _ _ _ _ _ by rw [← hW]; exact HLv.out.row 5 _ (row_below HR3.out HV.out) (by omega))
  have HR4 := hide (show W7.ownsRow _ _ _ _ _ _ by rw [← hW]; exact HLv.out.row 5 _ (row_below HR4.out HV.out) (by omega))
  have HR5 := hide (show W7.ownsRow _ _ _ _ _ _ by rw [← hW]; exact HLv.out.row 5 _ (row_below HR5.out HV.out) (by omega))
  have HR6 := hide (show W7.ownsRow _ _ _ _ _ _ by rw [← hW]; exact HLv.out.row 5 _ HR6.out (by omega))
  have HLe := hide (show Lents _ W7 _ _ by rw [← hW]; exact (HLe.out.kept (keep_below HV.out)).set (by omega))
  have HS7 : Hid (StaOk W7 s) := HS0.out W7 HL7.out.bel
  clear c0 c1 c2 c3 c4 c5 e0 e1 e2 e3 e4 e5 ct hW HLv HV
  obtain ⟨c0, c1, c2, c3, c4, c5⟩ := ac6 HL7.out.dst
  obtain ⟨e0, e1, e2, e3, e4, e5⟩ := ac6 HL7.out.res
  have ct := RB.bk_thaw HL7.out.res
  go_wp2
  refine bodyPost_ret (results_cell_row rfl _ _ (w.heap.size + 1) 51 #[.int .u64 s.pos, .slice (some ⟨g4, 0, none⟩) s.pn d4, .slice (some ⟨g5, 0, none⟩) s.rn d5, .slice (some ⟨g2, 0, none⟩) s.ln d2, .slice (some ⟨g3, 0, none⟩) s.gn d3, .slice (some ⟨g6, 0, none⟩) s.on d6] (0, 0) _ rfl (by rw [RB.block_set (RB.block_set (RB.block_set (RB.block_set (RB.block_set (RB.block_set HL7.out.res _) _) _) _) _) _]; rfl) Tryz.underlying51 rfl (by kernel_rfl)) rfl ?_
  have hk8 : ∀ g, w.heap.size + 1 < g → ((((((W7.setCell ⟨w.heap.size + 1, 0, none⟩ (.int .u64 s.pos)).setCell ⟨w.heap.size + 1, 1, none⟩ (.slice (some ⟨g4, 0, none⟩) s.pn d4)).setCell ⟨w.heap.size + 1, 2, none⟩ (.slice (some ⟨g5, 0, none⟩) s.rn d5)).setCell ⟨w.heap.size + 1, 3, none⟩ (.slice (some ⟨g2, 0, none⟩) s.ln d2)).setCell ⟨w.heap.size + 1, 4, none⟩ (.slice (some ⟨g3, 0, none⟩) s.gn d3)).setCell ⟨w.heap.size + 1, 5, none⟩ (.slice (some ⟨g6, 0, none⟩) s.on d6)).heap[g]? = W7.heap[g]? := fun g hg => by
    have hne : g ≠ w.heap.size + 1 := by omega
    rw [Below.heap_setCell _ _ _ _ hne, Below.heap_setCell _ _ _ _ hne, Below.heap_setCell _ _ _ _ hne, Below.heap_setCell _ _ _ _ hne, Below.heap_setCell _ _ _ _ hne, Below.heap_setCell _ _ _ _ hne]
  refine ⟨⟨s.pos, some ⟨g4, 0, none⟩, s.pn, d4, some ⟨g5, 0, none⟩, s.rn, d5, some ⟨g2, 0, none⟩, s.ln, d2, some ⟨g3, 0, none⟩, s.gn, d3, some ⟨g6, 0, none⟩, s.on, d6, qs, s.prices, s.last, s.gen, s.owed⟩, rfl, ?_, (((((HL7.out.bel.setCell (p := ⟨w.heap.size + 1, 0, none⟩) (by show w.heap.size ≤ w.heap.size + 1; omega) _).setCell (p := ⟨w.heap.size + 1, 1, none⟩) (by show w.heap.size ≤ w.heap.size + 1; omega) _).setCell (p := ⟨w.heap.size + 1, 2, none⟩) (by show w.heap.size ≤ w.heap.size + 1; omega) _).setCell (p := ⟨w.heap.size + 1, 3, none⟩) (by show w.heap.size ≤ w.heap.size + 1; omega) _).setCell (p := ⟨w.heap.size + 1, 4, none⟩) (by show w.heap.size ≤ w.heap.size + 1; omega) _).setCell (p := ⟨w.heap.size + 1, 5, none⟩) (by show w.heap.size ≤ w.heap.size + 1; omega) _⟩
  have HLe8 : Lents w.heap.size _ s.pools qs := fun i x y hx hy => by
    obtain ⟨g, e, hr⟩ := (HLe.out i x y hx hy).row
    have q := HLe.out i x y hx hy
    exact ⟨q.v, q.f0, q.f1, q.hl, q.hs, g, e, owns_mono (RB.owns_kept' hr (fun g' e' => hk8 g' (by have := RB.owns_low hr g' e'; omega))) (by omega)⟩
  exact ⟨rfl, ⟨HQl.out.trans HS2.out.pn.symm, rfl, g4, rfl, owns_mono (RB.owns_kept' HR4.out (fun g e => hk8 g (by have := RB.owns_low HR4.out g e; omega))) (by omega)⟩, HLe8, ⟨rfl, rfl, g5, rfl, owns_mono (RB.owns_kept' HR5.out (fun g e => hk8 g (by have := RB.owns_low HR5.out g e; omega))) (by omega)⟩, ⟨rfl, rfl, g2, rfl, owns_mono (RB.owns_kept' HR2.out (fun g e => hk8 g (by have := RB.owns_low HR2.out g e; omega))) (by omega)⟩, ⟨rfl, rfl, g3, rfl, owns_mono (RB.owns_kept' HR3.out (fun g e => hk8 g (by have := RB.owns_low HR3.out g e; omega))) (by omega)⟩, ⟨rfl, rfl, g6, rfl, owns_mono (RB.owns_kept' HR6.out (fun g e => hk8 g (by have := RB.owns_low HR6.out g e; omega))) (by omega)⟩⟩
end Go.Proofs.YtfdanocpbhbieaaGreat
