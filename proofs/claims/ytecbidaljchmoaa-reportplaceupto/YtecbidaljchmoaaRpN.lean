import Derived.Test.YtecbidaljchmoaaRpM
namespace Go.Proofs.Ytecbidaljchmoaa
open Go.RowKit

def putM (X : Array Value) : Nat → List Value → Array Value
  | _, [] => X
  | o, v :: r => putM (X.setIfInBounds o v) (o + 1) r
theorem heap_setCells {ty : TypeId} {g : Nat} : ∀ (vs : List Value) (o : Nat) (w : World) (X : Array Value), w.heap[g]? = some (.cells X ty (0, 0)) → (w.setCells g o vs).heap[g]? = some (.cells (putM X o vs) ty (0, 0))
  | [], _, _, _, h => h
  | v :: r, o, w, X, h => heap_setCells r (o + 1) _ _ (heap_setCell_same w g o X ty v h)
theorem grown_setCells {g : Nat} : ∀ (vs : List Value) (o : Nat) (w : World), w.grownBy (w.setCells g o vs) (some g)
  | [], _, w => ⟨rfl, rfl, rfl, Nat.le_refl _, fun _ _ _ => rfl⟩
  | v :: r, o, w => by
    have h1 := set_grown w g o v
    have h2 := grown_setCells (g := g) r (o + 1) (w.setCell ⟨g, o, none⟩ v)
    exact ⟨h2.os.trans h1.os, h2.tape.trans h1.tape, h2.output.trans h1.output, Nat.le_trans h1.size h2.size, fun k hk hne => (h2.block k (Nat.lt_of_lt_of_le hk h1.size) hne).trans (h1.block k hk hne)⟩
theorem there_row {w : World} {g : Nat} {X : Array Value} {ty : TypeId} (h : w.heap[g]? = some (.cells X ty (0, 0))) (o n : Nat) (hn : o + n ≤ X.size) : w.there g o n := fun j hj => by
  refine ⟨?_, frozen_of_row _ _ _ _ _ h⟩
  rw [cell_of_row _ _ _ _ _ _ h, Array.getElem?_eq_getElem (by omega)]
  rfl
theorem putM_act (e : Eda) (b : Acd) : putM e.arr 1 b.arr.toList = (⟨e.po, b, e.oc, e.made, e.sets, e.n, e.fe, e.ge⟩ : Eda).arr := by
  simp only [Eda.arr, Acd.arr, putM, List.setIfInBounds_toArray, List.set_cons_zero, List.set_cons_succ]
/-- What an entry says. -/
structure EnP where
  po : Int
  ac : AcP
  oc : Int
  made : List Lin
  sets : List Tri
  n : Int
  fe : Int
  ge : Int
def Eda.d (e : Eda) : EnP := ⟨e.po, e.ac.d, e.oc, e.made.xs, e.sets.xs, e.n, e.fe, e.ge⟩
structure EnOwn (B : Nat) (w : World) (e : Eda) : Prop where
  ac : AcOwn B w e.ac
  made : SlOwn B w 84 2 linc e.made
  sets : SlOwn B w 111 3 tric e.sets
theorem EnOwn.below {B : Nat} {w w' : World} {e : Eda} (h : EnOwn B w e) (hb : Below w.heap.size w w') : EnOwn B w' e := ⟨h.ac.below hb, h.made.below hb, h.sets.below hb⟩
theorem EnOwn.le {B B' : Nat} {w : World} {e : Eda} (h : EnOwn B w e) (hb : B' ≤ B) : EnOwn B' w e := ⟨h.ac.le hb, h.made.le hb, h.sets.le hb⟩
theorem EnOwn.ok {B : Nat} {w : World} {e : Eda} (h : EnOwn B w e) (hw : ∀ x ∈ e.made.xs, LinWf x) : EdaOk w e := ⟨h.ac.ok, h.made.ok (fun _ => rfl), h.sets.ok (fun _ => rfl), hw⟩
theorem SlOwn.by {α : Type} {B : Nat} {w w' : World} {e : TypeId} {sz : Nat} {f : α → List Value} {s : Sli α} (h : SlOwn B w e sz f s) (hk : ∀ e' sz' v n xs, w.ownsRow B e' sz' v n xs → w'.ownsRow B e' sz' v n xs) : SlOwn B w' e sz f s := ⟨hk _ _ _ _ _ h.1, h.2⟩
theorem AcOwn.by {B : Nat} {w w' : World} {a : Acd} (h : AcOwn B w a) (hk : ∀ e' sz' v n xs, w.ownsRow B e' sz' v n xs → w'.ownsRow B e' sz' v n xs) : AcOwn B w' a := ⟨h.lines.by hk, h.guards.by hk, h.sets.by hk, h.other.by hk, h.rights.by hk⟩

set_option maxRecDepth 100000 in
set_option maxHeartbeats 4000000 in
theorem copyEntry_any (w : World) (e : Eda) (hok : EdaOk w e) (A : Array Value) (hA : e.arr = A) :
    Calls Try.prog 32 #[.agg A] w fun r w' => ∃ b : Eda, r = .returned (.agg b.arr) ∧ b.d = e.d ∧ EnOwn w.heap.size w' b ∧ Below w.heap.size w w' := by
  have HZ : Hid (A.size = 22) := by show _ = _; rw [← hA]; rfl
  have HO : Hid (A.all (·.oneCell') = true) := by show _ = _; rw [← hA]; exact e.ones
  obtain ⟨w3, hw3, hC0, hs3⟩ := three_boxes w 82 A #[.int .u64 0, .int .i64 0, .int .u64 0, .int .i64 0, .bool false, .slice none 0 0, .slice none 0 0, .slice none 0 0, .int .i64 0, .slice none 0 0, .int .i64 0, .int .i64 0, .int .i64 0, .int .i64 0, .int .u64 0, .slice none 0 0, .int .i64 0, .slice none 0 0, .slice none 0 0, .int .i64 0, .int .i64 0, .int .u64 0]
  obtain ⟨Z, hZ⟩ : ∃ Z : Array Value, #[.int .u64 0, .int .i64 0, .int .u64 0, .int .i64 0, .bool false, .slice none 0 0, .slice none 0 0, .slice none 0 0, .int .i64 0, .slice none 0 0, .int .i64 0, .int .i64 0, .int .i64 0, .int .i64 0, .int .u64 0, .slice none 0 0, .int .i64 0, .slice none 0 0, .slice none 0 0, .int .i64 0, .int .i64 0, .int .u64 0] = Z := ⟨_, rfl⟩
  have HZz : Hid (Z.size = 22) := by show _ = _; rw [← hZ]; rfl
  rw [hZ] at hC0
  obtain ⟨D, hD⟩ : ∃ D, e.ac.arr = D := ⟨_, rfl⟩
  have hl3 := ac_lt hC0.x
  have HL1 := hide (loadAt_row (P := Try.prog) (ty := 82) (show ((w.alloc (.cells A 82)).alloc (.cells Z 82)).heap[w.heap.size]? = some (.cells A 82 (0, 0)) from by rw [Below.heap_alloc _ _ _ (by simp)]; exact heap_alloc_new _ _) Try.underlying82 rfl (by rw [HZ.out]; exact Try.sizeE))
  have HLA : Hid ((Instr.loadAt 80 (.pointer (some ⟨w.heap.size, 1, none⟩))).run Try.prog w3 = .ok (.agg D) w3) := by
    show _ = _
    rw [← hD]
    refine run_loadAt_mid (P := Try.prog) w3 w.heap.size 1 80 e.ac.list _ (fun j v hv => ?_) Try.underlying80 rfl Try.sizeA
    rw [cell_of_row _ _ _ _ _ _ hC0.a, ← hA]
    exact act_in e j v hv
  have HCp := hide (copyAct_any w3 e.ac (hok.ac.below hC0.bel) D hD)
  have HOk := hide hok
  have HA := hide hA
  have HC0 := hide hC0
  have HW3 := hide hw3
  have HZe := hide hZ
  clear hok hA hC0 hw3 hZ hD hs3 hl3
  go_enter Try.func32, Try.ntmps32
  go_upto_region 2 with (
    first
    | ((with_reducible show wpList _ _ _ (⟨_, .load 82 (.tmp 1), _, _, _, _⟩ :: _) _ _); refine lp_load w.heap.size 0 A rfl (by rw [HZe.out]; exact HL1.out) ?_)
    | ((with_reducible show wpList _ _ _ (⟨_, .store 82 (.tmp 3) _, _, _, _, _⟩ :: _) _ _); refine lp_store (t := 82) (x := .tmp 3) (some ⟨w.heap.size + 1 + 1, 0, none⟩) (.agg A) rfl rfl (by have h := run_storeAt_new (P := Try.prog) ((w.alloc (.cells A 82)).alloc (.cells Z 82)) 82 Z A (by rw [HZ.out]; exact Try.sizeE) (by rw [HZ.out]; exact HZz.out) HO.out; simp only [World.size_alloc] at h; rw [HZe.out]; exact h) ?_))
  rw [HZe.out] at HW3
  rw [HW3.out]
  dsimp only [Act.put]
  go_upto_region 3 with (
    first
    | ((with_reducible show wpList _ _ _ (⟨_, .load 80 (.tmp 5), _, _, _, _⟩ :: _) _ _); refine lp_load w.heap.size 1 D rfl HLA.out ?_)
    | (go_at_call 43; refine HCp.out.mono ?_; rintro r w4 ⟨b, rfl, hbd, hbo, hb4⟩; obtain ⟨E, hE⟩ : ∃ E, b.arr = E := ⟨_, rfl⟩; rw [hE]; have HEs : Hid (E.size = 15) := (by show _ = _; rw [← hE]; rfl); have HEo : Hid (E.all (·.oneCell') = true) := (by show _ = _; rw [← hE]; exact b.ones); have HE := hide hE; have HBd := hide hbd; have HBo := hide hbo; have HB4 := hide hb4; clear hE hbd hbo hb4)
    | ((with_reducible show wpList _ _ _ (⟨_, .store 80 (.tmp 8) _, _, _, _, _⟩ :: _) _ _); refine lp_store (t := 80) (x := .tmp 8) (some ⟨w.heap.size + 1 + 1, 1, none⟩) (.agg E) rfl rfl (run_storeAt_mid (P := Try.prog) w4 (w.heap.size + 1 + 1) 1 80 E (there_row ((HB4.out.block _ (ac_lt HC0.out.x)).trans HC0.out.x) 1 E.size (by rw [HEs.out, HZ.out]; omega)) (by rw [HEs.out]; exact Try.sizeA) HEo.out) ?_))
  obtain ⟨w5, hw5⟩ : ∃ w5, w4.setCells (w.heap.size + 1 + 1) 1 E.toList = w5 := ⟨_, rfl⟩
  rw [hw5]
  have hlt3 : w.heap.size + 1 + 1 < w3.heap.size := ac_lt HC0.out.x
  have hg5 : w4.grownBy w5 (some (w.heap.size + 1 + 1)) := by rw [← hw5]; exact grown_setCells _ _ _
  obtain ⟨X0, hX0⟩ : ∃ X0, putM A 1 E.toList = X0 := ⟨_, rfl⟩
  have hX0e : X0 = (⟨e.po, b, e.oc, e.made, e.sets, e.n, e.fe, e.ge⟩ : Eda).arr := by rw [← hX0, ← HE.out, ← HA.out]; exact putM_act e b
  have hX0s : X0.size = 22 := by rw [hX0e]; rfl
  have hC5 : CpS w w5 82 A Z X0 := by
    have hb := HB4.out
    refine ⟨?_, ?_, ?_, ?_⟩
    · exact (hg5.block _ (Nat.lt_of_lt_of_le (by omega) hb.size) (by simp; omega)).trans ((hb.block _ (by omega)).trans HC0.out.a)
    · exact (hg5.block _ (Nat.lt_of_lt_of_le (by omega) hb.size) (by simp)).trans ((hb.block _ (by omega)).trans HC0.out.z)
    · rw [← hw5, ← hX0]
      exact heap_setCells _ _ _ _ ((hb.block _ hlt3).trans HC0.out.x)
    · exact (HC0.out.bel.trans (hb.mono HC0.out.bel.size)).grown hg5 (Nat.le_trans HC0.out.bel.size hb.size) (fun k e => by cases e; omega)
  have hB5 : AcOwn (w.heap.size + 1 + 1 + 1) w5 b := (HBo.out.le (by omega)).by (fun e' sz' v n xs h => owns_grown h hg5 (fun g e e' => by have := owns_base h g e; cases e'; omega))
  obtain ⟨c0, v0, hr0, hx0, ⟨u0, hu0⟩, hf0, hC6, ho0, hk0⟩ := cp_seg elt_line hC5 (by decide) e.made HOk.out.made 17 (by omega) 37
  obtain ⟨w6, hw6⟩ : ∃ w', v0.setCell ⟨w.heap.size + 1 + 1, 17, none⟩ (.slice c0.p c0.n c0.c) = w' := ⟨_, rfl⟩
  rw [hw6] at hC6 ho0 hk0
  obtain ⟨c1, v1, hr1, hx1, ⟨u1, hu1⟩, hf1, hC7, ho1, hk1⟩ := cp_seg elt_set hC6 (by decide) e.sets HOk.out.sets 18 (by simp only [Array.size_setIfInBounds]; omega) 39
  obtain ⟨w7, hw7⟩ : ∃ w', v1.setCell ⟨w.heap.size + 1 + 1, 18, none⟩ (.slice c1.p c1.n c1.c) = w' := ⟨_, rfl⟩
  rw [hw7] at hC7 ho1 hk1
  have HOwn : Hid (AcOwn (w.heap.size + 1 + 1 + 1) w7 b ∧ SlOwn (w.heap.size + 1 + 1 + 1) w7 84 2 linc c0 ∧ SlOwn (w.heap.size + 1 + 1 + 1) w7 111 3 tric c1) :=
    ⟨(hB5.by (fun e' sz' v n xs h => hk0 _ _ _ _ _ _ (Nat.le_refl _) h)).by (fun e' sz' v n xs h => hk1 _ _ _ _ _ _ (Nat.le_refl _) h), ho0.by (fun e' sz' v n xs h => hk1 _ _ _ _ _ _ (Nat.le_refl _) h), ho1⟩
  have d0 : (w5.alloc (.cells #[] 84)).cell? ⟨w.heap.size, 17, none⟩ = some (.slice e.made.p e.made.n e.made.c) := by rw [World.cell?_of_block (w := w5) (Below.heap_alloc _ _ _ (ac_lt hC5.a)), cell_of_row _ _ _ _ _ _ hC5.a, ← HA.out]; rfl
  have d1 : (w6.alloc (.cells #[] 111)).cell? ⟨w.heap.size, 18, none⟩ = some (.slice e.sets.p e.sets.n e.sets.c) := by rw [World.cell?_of_block (w := w6) (Below.heap_alloc _ _ _ (ac_lt hC6.a)), cell_of_row _ _ _ _ _ _ hC6.a, ← HA.out]; rfl
  obtain ⟨X, hX⟩ : ∃ X, (X0.setIfInBounds 17 (.slice c0.p c0.n c0.c)).setIfInBounds 18 (.slice c1.p c1.n c1.c) = X := ⟨_, rfl⟩
  rw [hX] at hC7
  have HXb : Hid (X = (⟨e.po, b, e.oc, c0, c1, e.n, e.fe, e.ge⟩ : Eda).arr) := by show _ = _; rw [← hX, hX0e]; rfl
  have HXs : Hid (X.size = 22) := by show _ = _; rw [HXb.out]; rfl
  have HXo : Hid (X.all (·.oneCell') = true) := by show _ = _; rw [HXb.out]; exact Eda.ones _
  have HLX := hide (loadAt_row (P := Try.prog) (ty := 82) hC7.x Try.underlying82 rfl (by rw [HXs.out]; exact Try.sizeE))
  have HSX := hide (storeAt_row (P := Try.prog) (c' := X) hC7.z (by rw [HXs.out]; exact Try.sizeE) (by rw [HXs.out]; exact HZz.out) HXo.out)
  have HR0 := hide hr0
  have HW6 := hide hw6
  have HR1 := hide hr1
  have HW7 := hide hw7
  have HEnd : Hid ((w7.setRow (w.heap.size + 1) X).heap[w.heap.size + 1]? = some (.cells X 82 (0, 0)) ∧ EnOwn w.heap.size (w7.setRow (w.heap.size + 1) X) ⟨e.po, b, e.oc, c0, c1, e.n, e.fe, e.ge⟩ ∧ Below w.heap.size w (w7.setRow (w.heap.size + 1) X)) := by
    have hg : w7.grownBy (w7.setRow (w.heap.size + 1) X) (some (w.heap.size + 1)) := ⟨rfl, rfl, rfl, by simp, fun k _ hne => setRow_other w7 _ _ X (fun e => hne (by rw [e]))⟩
    have hk : ∀ e' sz' v n xs, w7.ownsRow (w.heap.size + 1 + 1 + 1) e' sz' v n xs → (w7.setRow (w.heap.size + 1) X).ownsRow (w.heap.size + 1 + 1 + 1) e' sz' v n xs := fun e' sz' v n xs h => owns_grown h hg (fun g e e' => by have := owns_base h g e; cases e'; omega)
    obtain ⟨o0, o1, o2⟩ := HOwn.out
    exact ⟨setRow_heap _ _ _ _ _ _ hC7.z, EnOwn.le ⟨o0.by hk, o1.by hk, o2.by hk⟩ (by omega), below_setRow hC7.bel (by omega) X⟩
  have HD : Hid ((⟨e.po, b, e.oc, c0, c1, e.n, e.fe, e.ge⟩ : Eda).d = e.d) := by
    show _ = _
    simp only [Eda.d, hx0, hx1, HBd.out]
  clear hC5 hC6 hC7 ho0 ho1 hk0 hk1 hx0 hx1 hX hr0 hr1 hw5 hw6 hw7 hg5 hX0 hX0e hX0s hB5 hlt3
  go_upto_region 4 with (at_builtin; refine lp_append (.slice (some ⟨w5.heap.size, 0, none⟩) 0 0) (.slice e.made.p e.made.n e.made.c) rfl rfl ⟨_, v0, HR0.out, ?_⟩)
  rw [HW6.out]
  clear hu0 hf0 d0
  go_upto_region 5 with (at_builtin; refine lp_append (.slice (some ⟨w6.heap.size, 0, none⟩) 0 0) (.slice e.sets.p e.sets.n e.sets.c) rfl rfl ⟨_, v1, HR1.out, ?_⟩)
  rw [HW7.out]
  clear hu1 hf1 d1
  go_wp2_with (
    first
    | ((with_reducible show wpList _ _ _ (⟨_, .load 82 (.tmp 3), _, _, _, _⟩ :: _) _ _); refine lp_load (w.heap.size + 1 + 1) 0 X rfl HLX.out ?_)
    | ((with_reducible show wpList _ _ _ (⟨_, .store 82 (.tmp 2) _, _, _, _, _⟩ :: _) _ _); refine lp_store (t := 82) (x := .tmp 2) (some ⟨w.heap.size + 1, 0, none⟩) (.agg X) rfl rfl HSX.out ?_))
  refine bodyPost_ret (results_cell_row rfl _ _ (w.heap.size + 1) 82 X (0, 0) _ rfl HEnd.out.1 Try.underlying82 rfl (by rw [HXs.out]; exact Try.sizeE)) rfl ?_
  exact ⟨⟨e.po, b, e.oc, c0, c1, e.n, e.fe, e.ge⟩, by rw [HXb.out], HD.out, HEnd.out.2.1, HEnd.out.2.2⟩
end Go.Proofs.Ytecbidaljchmoaa
