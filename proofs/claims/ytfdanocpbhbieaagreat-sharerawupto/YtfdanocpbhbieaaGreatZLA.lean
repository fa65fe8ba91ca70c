import Derived.Test.YtfdanocpbhbieaaGreatZE
import Derived.Deep.Cut
import Derived.Laws.OwnMore
namespace Go.Proofs.YtfdanocpbhbieaaGreat.Z
open Go.RowKit

theorem elt_guard : Elt tric 3 24 77 139 := ⟨fun _ => rfl, fun x u hu => by simp [tric] at hu; rcases hu with rfl | rfl | rfl <;> rfl, by omega, Tryz.underlying77, by
  obtain ⟨i, h⟩ := info_parts (show (Tryz.prog.info? 139).map (fun i => (i.zero, i.size, i.bytes)) = some (some (.agg #[.int .i64 0, .int .i64 0, .int .i64 0]), 3, 24) by kernel_rfl)
  exact ⟨i, _, h.1, h.2.1, h.2.2.1, h.2.2.2, rfl⟩, by omega⟩
theorem elt_right : Elt tric 3 24 60 82 := ⟨fun _ => rfl, fun x u hu => by simp [tric] at hu; rcases hu with rfl | rfl | rfl <;> rfl, by omega, Tryz.underlying60, by
  obtain ⟨i, h⟩ := info_parts (show (Tryz.prog.info? 82).map (fun i => (i.zero, i.size, i.bytes)) = some (some (.agg #[.int .i64 0, .int .i64 0, .int .i64 0]), 3, 24) by kernel_rfl)
  exact ⟨i, _, h.1, h.2.1, h.2.2.1, h.2.2.2, rfl⟩, by omega⟩
/-- A slice of one's own. -/
def SlOwn {α : Type} (B : Nat) (w : World) (e : TypeId) (sz : Nat) (f : α → List Value) (s : Sli α) : Prop := w.ownsRow B e sz (.slice s.p s.n s.c) s.n (flat f s.xs) ∧ s.xs.length = s.n ∧ s.n ≤ 4194304
theorem SlOwn.ok {α : Type} {B : Nat} {w : World} {e : TypeId} {sz : Nat} {f : α → List Value} {s : Sli α} (h : SlOwn B w e sz f s) (hf : ∀ x, (f x).length = sz) : SlOk w sz f s := ⟨h.2.1, h.2.2, cel_row hf h.1 h.2.1⟩
theorem SlOwn.below {α : Type} {B : Nat} {w w' : World} {e : TypeId} {sz : Nat} {f : α → List Value} {s : Sli α} (h : SlOwn B w e sz f s) (hb : Below w.heap.size w w') : SlOwn B w' e sz f s := ⟨owns_keep h.1 hb, h.2⟩
theorem SlOwn.le {α : Type} {B B' : Nat} {w : World} {e : TypeId} {sz : Nat} {f : α → List Value} {s : Sli α} (h : SlOwn B w e sz f s) (hb : B' ≤ B) : SlOwn B' w e sz f s := ⟨owns_le h.1 hb, h.2⟩
/-- Between two lists of a copy: the argument's block, the result's, the variable's. -/
structure CpS (w wr : World) (ty : TypeId) (A Z X : Array Value) : Prop where
  a : wr.heap[w.heap.size]? = some (.cells A ty (0, 0))
  z : wr.heap[w.heap.size + 1]? = some (.cells Z ty (0, 0))
  x : wr.heap[w.heap.size + 1 + 1]? = some (.cells X ty (0, 0))
  bel : Below w.heap.size w wr
theorem cp_lt {w wr : World} {ty : TypeId} {A Z X : Array Value} (h : CpS w wr ty A Z X) : w.heap.size + 2 < wr.heap.size := ac_lt h.x
/-- 'x.l = append([]T{}, a.l...)'. -/
theorem cp_seg {α : Type} {f : α → List Value} {sz by_ : Nat} {t e ty : TypeId} (E : Elt f sz by_ t e) {w wr : World} {A Z X : Array Value} (h : CpS w wr ty A Z X) (hte : ty ≠ e) (s : Sli α) (hs : SlOk w sz f s) (i : Nat) (hi : i < X.size) (tt : TypeId) :
    ∃ (c : Sli α) (w4 : World), (Builtin.append_ #[t, t] tt #[.slice (some ⟨wr.heap.size, 0, none⟩) 0 0, .slice s.p s.n s.c]).run Tryz.prog (wr.alloc (.cells #[] e)) = .ok (.slice c.p c.n c.c) w4 ∧ c.xs = s.xs ∧
      (∃ u, w4.cell? ⟨w.heap.size + 1 + 1, i, none⟩ = some u) ∧ w4.frozen? ⟨w.heap.size + 1 + 1, i, none⟩ = false ∧
      CpS w (w4.setCell ⟨w.heap.size + 1 + 1, i, none⟩ (.slice c.p c.n c.c)) ty A Z (X.setIfInBounds i (.slice c.p c.n c.c)) ∧
      SlOwn (w.heap.size + 1 + 1 + 1) (w4.setCell ⟨w.heap.size + 1 + 1, i, none⟩ (.slice c.p c.n c.c)) e sz f c ∧
      (∀ B e' sz' v n xs, w.heap.size + 1 + 1 + 1 ≤ B → wr.ownsRow B e' sz' v n xs → (w4.setCell ⟨w.heap.size + 1 + 1, i, none⟩ (.slice c.p c.n c.c)).ownsRow B e' sz' v n xs) := by
  have hlt := cp_lt h
  have hal : Below wr.heap.size wr (wr.alloc (.cells #[] e)) := (Below.refl _ wr).alloc (Nat.le_refl _) _
  have hrow : (wr.alloc (.cells #[] e)).ownsRow wr.heap.size e sz (.slice (some ⟨wr.heap.size, 0, none⟩) 0 0) 0 [] := ⟨by simp, .inr ⟨wr.heap.size, 0, #[], rfl, Nat.le_refl _, heap_alloc_new _ _, Nat.le_refl _, by unfold maxLen; omega, by simp, by simp⟩⟩
  have hcel : Cel (wr.alloc (.cells #[] e)) s.p sz (s.xs.map f) := hs.cel.below (h.bel.trans (hal.mono h.bel.size))
  have hm := hs.most
  obtain ⟨v', w4, hr, ho, hg, _⟩ := E.run_append (wr.alloc (.cells #[] e)) tt wr.heap.size 0 (.slice (some ⟨wr.heap.size, 0, none⟩) 0 0) [] hrow s.p s.n s.c s.xs hs.len hcel (by omega) (by simp)
  rw [Nat.zero_add, List.nil_append] at ho
  obtain ⟨p, c, rfl, _⟩ := slice_form ho
  have hg' : Below wr.heap.size wr w4 := hal.grown hg (by simp) (fun k e => by cases e; exact Nat.le_refl _)
  have ha4 : w4.heap[w.heap.size]? = some (.cells A ty (0, 0)) := (hg'.block _ (by omega)).trans h.a
  have hz4 : w4.heap[w.heap.size + 1]? = some (.cells Z ty (0, 0)) := (hg'.block _ (by omega)).trans h.z
  have hx4 : w4.heap[w.heap.size + 1 + 1]? = some (.cells X ty (0, 0)) := (hg'.block _ (by omega)).trans h.x
  refine ⟨⟨p, s.n, c, s.xs⟩, w4, hr, rfl, ⟨X[i], ?_⟩, frozen_of_row _ _ _ _ _ hx4, ⟨?_, ?_, heap_setCell_same _ _ _ _ _ _ hx4, ?_⟩, ⟨?_, hs.len, hs.most⟩, ?_⟩
  · rw [cell_of_row _ _ _ _ _ _ hx4]; exact Array.getElem?_eq_getElem hi
  · rw [heap_setCell_other _ _ _ _ (by show w.heap.size ≠ w.heap.size + 1 + 1; omega)]; exact ha4
  · rw [heap_setCell_other _ _ _ _ (by show w.heap.size + 1 ≠ w.heap.size + 1 + 1; omega)]; exact hz4
  · exact (h.bel.trans (hg'.mono h.bel.size)).setCell (p := ⟨w.heap.size + 1 + 1, i, none⟩) (by show w.heap.size ≤ w.heap.size + 1 + 1; omega) _
  · exact owns_set (owns_le ho (by omega)) hx4 hte
  · intro B e' sz' v n xs hB hown
    exact owns_low_set (owns_keep hown hg') (by omega)
/-- What an act says. -/
structure AcP where
  till : Int
  num : Int
  kind : Int
  sure : Bool
  lines : List Lin
  guards : List Tri
  sets : List Tri
  mg : Int
  other : List Lin
  ra : Int
  rb : Int
  rd : Int
  to : Int
  gen : Int
  rights : List Tri
def Acd.d (a : Acd) : AcP := ⟨a.till, a.num, a.kind, a.sure, a.lines.xs, a.guards.xs, a.sets.xs, a.mg, a.other.xs, a.ra, a.rb, a.rd, a.to, a.gen, a.rights.xs⟩
structure AcOwn (B : Nat) (w : World) (a : Acd) : Prop where
  lines : SlOwn B w 87 2 linc a.lines
  guards : SlOwn B w 139 3 tric a.guards
  sets : SlOwn B w 141 3 tric a.sets
  other : SlOwn B w 87 2 linc a.other
  rights : SlOwn B w 82 3 tric a.rights
theorem AcOwn.ok {B : Nat} {w : World} {a : Acd} (h : AcOwn B w a) : AcdOk w a := ⟨h.lines.ok (fun _ => rfl), h.guards.ok (fun _ => rfl), h.sets.ok (fun _ => rfl), h.other.ok (fun _ => rfl), h.rights.ok (fun _ => rfl)⟩
theorem AcOwn.below {B : Nat} {w w' : World} {a : Acd} (h : AcOwn B w a) (hb : Below w.heap.size w w') : AcOwn B w' a := ⟨h.lines.below hb, h.guards.below hb, h.sets.below hb, h.other.below hb, h.rights.below hb⟩
theorem AcOwn.le {B B' : Nat} {w : World} {a : Acd} (h : AcOwn B w a) (hb : B' ≤ B) : AcOwn B' w a := ⟨h.lines.le hb, h.guards.le hb, h.sets.le hb, h.other.le hb, h.rights.le hb⟩
theorem three_boxes (w : World) (ty : TypeId) (A Z : Array Value) : ∃ w3, ((w.alloc (.cells A ty)).alloc (.cells Z ty)).alloc (.cells A ty) = w3 ∧ CpS w w3 ty A Z A ∧ w3.heap.size = w.heap.size + 1 + 1 + 1 := by
  refine ⟨_, rfl, ⟨?_, ?_, ?_, ?_⟩, by simp⟩
  · rw [Below.heap_alloc _ _ _ (by simp only [World.size_alloc]; omega), Below.heap_alloc _ _ _ (by simp)]; exact heap_alloc_new _ _
  · rw [Below.heap_alloc _ _ _ (by simp)]; exact heap_alloc2_new _ _ _
  · have := heap_alloc_new ((w.alloc (.cells A ty)).alloc (.cells Z ty)) (.cells A ty)
    simp only [World.size_alloc] at this
    exact this
  · exact (((Below.refl _ w).alloc (Nat.le_refl _) _).alloc (by simp) _).alloc (by simp only [World.size_alloc]; omega) _
theorem all_set {A : Array Value} (h : A.all (·.oneCell') = true) (i : Nat) (p : Option Addr) (n c : Nat) : (A.setIfInBounds i (.slice p n c)).all (·.oneCell') = true := by
  rw [Array.all_eq_true'] at h ⊢
  intro x hx
  rcases Array.mem_or_eq_of_mem_setIfInBounds hx with h1 | rfl
  · exact h x h1
  · rfl

end Go.Proofs.YtfdanocpbhbieaaGreat.Z
namespace Go.Proofs.YtfdanocpbhbieaaGreat.Z
open Go.RowKit

/-- A list that was lent: behind it nine marks, in the same row. -/
def Lent {α : Type} (B : Nat) (w : World) (e : TypeId) (sz : Nat) (f : α → List Value) (mk : α) (a : Option Addr) (c : Nat) (xs : List α) : Prop := w.ownsRow B e sz (.slice a (xs.length + 9) c) (xs.length + 9) (flat f (xs ++ List.replicate 9 mk))
theorem rep_snoc {α : Type} (k : Nat) (x : α) : List.replicate (k + 1) x = List.replicate k x ++ [x] := by rw [List.replicate_succ']
theorem below_own {w0 w w' : World} {n s : Nat} {t : TypeId} {v : Value} {ys : List Value} (hb : Below w0.heap.size w0 w) (ho : w.ownsRow w0.heap.size t s v n ys) (hg : w.grownBy w' v.ownBlock) : Below w0.heap.size w0 w' := hb.grown hg hb.size (fun k e => owns_base ho k e)
theorem cel_one1 {w : World} {A : Array Value} {l : List Value} {sz : Nat} {t : TypeId} (h : A.toList = l) : Cel (w.alloc (.cells A t)) (some ⟨w.heap.size, 0, none⟩) sz [l] := by
  refine Or.inr ⟨_, 0, rfl, by simp, fun i r hr j v hv => ?_⟩
  cases i with
  | zero =>
    simp at hr
    subst hr
    rw [cell_of_row _ _ _ _ _ _ (heap_alloc_new w (.cells A t)), ← h] at *
    simpa using hv
  | succ i => simp at hr
set_option maxRecDepth 100000 in
set_option maxHeartbeats 2000000 in
theorem lendLines_v (w : World) (s : Sli Lin) (hs : SlOk w 2 linc s) :
    Calls Tryz.prog 6 #[.slice s.p s.n s.c] w fun e w' => ∃ a c, e = .returned (.slice a s.n c) ∧ Lent w.heap.size w' 87 2 linc (⟨777, 7⟩ : Lin) a c s.xs ∧ Below w.heap.size w w' := by
  obtain ⟨sp, m, cap, xs⟩ := s
  have hm : xs.length = m := hs.len
  have hmost : m ≤ 4194304 := hs.most
  have HX := hide hs.cel
  simp only at HX ⊢
  have HM := hide hm
  clear hs hm
  obtain ⟨M, hMi, hMn⟩ : ∃ M : Nat, (m : Int) + 9 = (M : Int) ∧ M = m + 9 := ⟨m + 9, by omega, rfl⟩
  have hM1 : M ≤ 4194400 := by omega
  clear hMn
  obtain ⟨i0, hi, hz0, hz1, hz2⟩ := info_parts (show (Tryz.prog.info? 87).map (fun i => (i.zero, i.size, i.bytes)) = some (some (.agg #[.int .i64 0, .int .i64 0]), 2, 16) by kernel_rfl)
  obtain ⟨w1, hmk, hown1, hb1⟩ := run_make_own (P := Tryz.prog) w w.heap.size 53 87 i0 (.agg #[.int .i64 0, .int .i64 0]) 2 Tryz.underlying53 hi hz0 hz1 .i64 .i64 M (by rw [hz2]; omega) (by unfold maxLen; omega) (Nat.le_refl _)
  have hB1 : Below w.heap.size w w1 := (Below.refl _ w).grown hb1 (Nat.le_refl _) (fun k e => by cases e)
  obtain ⟨v2, w2, hr2, ho2, hg2, _⟩ := elt_line.run_append w1 53 w.heap.size 0 _ [] hown1 sp m cap xs HM.out (HX.out.below hB1) (by omega) hB1.size
  have hB2 : Below w.heap.size w w2 := below_own hB1 hown1 hg2
  simp only [Nat.zero_add, List.nil_append] at ho2
  obtain ⟨a2, c2, rfl, hc2⟩ := slice_form ho2
  have HR2 := hide hr2
  have H0 : Hid (w2.ownsRow w.heap.size 87 2 (.slice a2 (m + 0) c2) (m + 0) (flat linc (xs ++ List.replicate 0 (⟨777, 7⟩ : Lin))) ∧ Below w.heap.size w w2) := ⟨by simpa using ho2, hB2⟩
  clear hown1 hb1 hB1 hr2 ho2 hg2 hB2
  go_enter Tryz.func6, Tryz.ntmps6
  go_wp2_with (at_builtin; refine lp_append _ (.slice sp m cap) rfl rfl ⟨_, w2, HR2.out, ?_⟩)
  clear hmk
  go_loopw [3, 4] (fun l i wr => ∃ (k : Nat) (a : Option Addr) (c : Nat), k ≤ 9 ∧ i = .int .i64 k ∧ l = .slice a (m + k) c ∧ Hid (wr.ownsRow w.heap.size 87 2 (.slice a (m + k) c) (m + k) (flat linc (xs ++ List.replicate k (⟨777, 7⟩ : Lin))) ∧ Below w.heap.size w wr)) (fun _ i _ => 9 - (intOf i).toNat)
  case atStart => exact ⟨0, a2, c2, by omega, rfl, rfl, H0⟩
  case round =>
    clear H0
    obtain ⟨k, a, c, hk, rfl, rfl, HI⟩ := hrel
    by_cases hlt : k < 9
    · have hlt' : (k : Int) < 9 := by omega
      have hBa : Below wr.heap.size wr (wr.alloc (.cells #[.int .i64 777, .int .i64 7] 87)) := (Below.refl _ wr).alloc (Nat.le_refl _) _
      have hBw := HI.out.2.alloc HI.out.2.size (.cells #[.int .i64 777, .int .i64 7] 87)
      obtain ⟨v3, w3, hr3, ho3, hg3, _⟩ := elt_line.run_append (wr.alloc (.cells #[.int .i64 777, .int .i64 7] 87)) 53 w.heap.size (m + k) _ _ (owns_keep HI.out.1 hBa) (some ⟨wr.heap.size, 0, none⟩) 1 1 [(⟨777, 7⟩ : Lin)] rfl (cel_one1 rfl) (by omega) hBw.size
      have hB3 := below_own hBw (owns_keep HI.out.1 hBa) hg3
      obtain ⟨a3, c3, rfl, _⟩ := slice_form ho3
      have HR3 := hide hr3
      have H3 : Hid (w3.ownsRow w.heap.size 87 2 (.slice a3 (m + (k + 1)) c3) (m + (k + 1)) (flat linc (xs ++ List.replicate (k + 1) (⟨777, 7⟩ : Lin))) ∧ Below w.heap.size w w3) := ⟨by rw [rep_snoc, ← List.append_assoc, flat_app]; exact ho3, hB3⟩
      clear hBa hBw hr3 ho3 hg3 hB3
      go_wp2_with (at_builtin; refine lp_append (.slice a (m + k) c) (.slice (some ⟨wr.heap.size, 0, none⟩) 1 1) rfl rfl ⟨_, w3, HR3.out, ?_⟩)
      go_roundw
      case rel => exact ⟨k + 1, a3, c3, by omega, by go_num, by simp [Nat.add_assoc], H3⟩
      case measure => simp [intOf]; omega
    · obtain rfl : k = 9 := by omega
      obtain ⟨a', c', e', hc'⟩ := slice_form HI.out.1
      simp only [Value.slice.injEq] at e'
      obtain ⟨rfl, _, rfl⟩ := e'
      have hcm : m ≤ c := by omega
      have HE : Hid (Lent w.heap.size wr 87 2 linc (⟨777, 7⟩ : Lin) a c xs ∧ Below w.heap.size w wr) := ⟨by unfold Lent; rw [HM.out]; exact HI.out.1, HI.out.2⟩
      clear HI
      go_wp2
      go_ret
      exact ⟨a, c, rfl, HE.out.1, HE.out.2⟩
set_option maxRecDepth 100000 in
set_option maxHeartbeats 2000000 in
theorem lendGuards_v (w : World) (s : Sli Tri) (hs : SlOk w 3 tric s) :
    Calls Tryz.prog 42 #[.slice s.p s.n s.c] w fun e w' => ∃ a c, e = .returned (.slice a s.n c) ∧ Lent w.heap.size w' 139 3 tric (⟨777, 0, 0⟩ : Tri) a c s.xs ∧ Below w.heap.size w w' := by
  obtain ⟨sp, m, cap, xs⟩ := s
  have hm : xs.length = m := hs.len
  have hmost : m ≤ 4194304 := hs.most
  have HX := hide hs.cel
  simp only at HX ⊢
  have HM := hide hm
  clear hs hm
  obtain ⟨M, hMi, hMn⟩ : ∃ M : Nat, (m : Int) + 9 = (M : Int) ∧ M = m + 9 := ⟨m + 9, by omega, rfl⟩
  have hM1 : M ≤ 4194400 := by omega
  clear hMn
  obtain ⟨i0, hi, hz0, hz1, hz2⟩ := info_parts (show (Tryz.prog.info? 139).map (fun i => (i.zero, i.size, i.bytes)) = some (some (.agg #[.int .i64 0, .int .i64 0, .int .i64 0]), 3, 24) by kernel_rfl)
  obtain ⟨w1, hmk, hown1, hb1⟩ := run_make_own (P := Tryz.prog) w w.heap.size 77 139 i0 (.agg #[.int .i64 0, .int .i64 0, .int .i64 0]) 3 Tryz.underlying77 hi hz0 hz1 .i64 .i64 M (by rw [hz2]; omega) (by unfold maxLen; omega) (Nat.le_refl _)
  have hB1 : Below w.heap.size w w1 := (Below.refl _ w).grown hb1 (Nat.le_refl _) (fun k e => by cases e)
  obtain ⟨v2, w2, hr2, ho2, hg2, _⟩ := elt_guard.run_append w1 77 w.heap.size 0 _ [] hown1 sp m cap xs HM.out (HX.out.below hB1) (by omega) hB1.size
  have hB2 : Below w.heap.size w w2 := below_own hB1 hown1 hg2
  simp only [Nat.zero_add, List.nil_append] at ho2
  obtain ⟨a2, c2, rfl, hc2⟩ := slice_form ho2
  have HR2 := hide hr2
  have H0 : Hid (w2.ownsRow w.heap.size 139 3 (.slice a2 (m + 0) c2) (m + 0) (flat tric (xs ++ List.replicate 0 (⟨777, 0, 0⟩ : Tri))) ∧ Below w.heap.size w w2) := ⟨by simpa using ho2, hB2⟩
  clear hown1 hb1 hB1 hr2 ho2 hg2 hB2
  go_enter Tryz.func42, Tryz.ntmps42
  go_wp2_with (at_builtin; refine lp_append _ (.slice sp m cap) rfl rfl ⟨_, w2, HR2.out, ?_⟩)
  clear hmk
  go_loopw [3, 4] (fun l i wr => ∃ (k : Nat) (a : Option Addr) (c : Nat), k ≤ 9 ∧ i = .int .i64 k ∧ l = .slice a (m + k) c ∧ Hid (wr.ownsRow w.heap.size 139 3 (.slice a (m + k) c) (m + k) (flat tric (xs ++ List.replicate k (⟨777, 0, 0⟩ : Tri))) ∧ Below w.heap.size w wr)) (fun _ i _ => 9 - (intOf i).toNat)
  case atStart => exact ⟨0, a2, c2, by omega, rfl, rfl, H0⟩
  case round =>
    clear H0
    obtain ⟨k, a, c, hk, rfl, rfl, HI⟩ := hrel
    by_cases hlt : k < 9
    · have hlt' : (k : Int) < 9 := by omega
      have hBa : Below wr.heap.size wr (wr.alloc (.cells #[.int .i64 777, .int .i64 0, .int .i64 0] 139)) := (Below.refl _ wr).alloc (Nat.le_refl _) _
      have hBw := HI.out.2.alloc HI.out.2.size (.cells #[.int .i64 777, .int .i64 0, .int .i64 0] 139)
      obtain ⟨v3, w3, hr3, ho3, hg3, _⟩ := elt_guard.run_append (wr.alloc (.cells #[.int .i64 777, .int .i64 0, .int .i64 0] 139)) 77 w.heap.size (m + k) _ _ (owns_keep HI.out.1 hBa) (some ⟨wr.heap.size, 0, none⟩) 1 1 [(⟨777, 0, 0⟩ : Tri)] rfl (cel_one1 rfl) (by omega) hBw.size
      have hB3 := below_own hBw (owns_keep HI.out.1 hBa) hg3
      obtain ⟨a3, c3, rfl, _⟩ := slice_form ho3
      have HR3 := hide hr3
      have H3 : Hid (w3.ownsRow w.heap.size 139 3 (.slice a3 (m + (k + 1)) c3) (m + (k + 1)) (flat tric (xs ++ List.replicate (k + 1) (⟨777, 0, 0⟩ : Tri))) ∧ Below w.heap.size w w3) := ⟨by rw [rep_snoc, ← List.append_assoc, flat_app]; exact ho3, hB3⟩
      clear hBa hBw hr3 ho3 hg3 hB3
      go_wp2_with (at_builtin; refine lp_append (.slice a (m + k) c) (.slice (some ⟨wr.heap.size, 0, none⟩) 1 1) rfl rfl ⟨_, w3, HR3.out, ?_⟩)
      go_roundw
      case rel => exact ⟨k + 1, a3, c3, by omega, by go_num, by simp [Nat.add_assoc], H3⟩
      case measure => simp [intOf]; omega
    · obtain rfl : k = 9 := by omega
      obtain ⟨a', c', e', hc'⟩ := slice_form HI.out.1
      simp only [Value.slice.injEq] at e'
      obtain ⟨rfl, _, rfl⟩ := e'
      have hcm : m ≤ c := by omega
      have HE : Hid (Lent w.heap.size wr 139 3 tric (⟨777, 0, 0⟩ : Tri) a c xs ∧ Below w.heap.size w wr) := ⟨by unfold Lent; rw [HM.out]; exact HI.out.1, HI.out.2⟩
      clear HI
      go_wp2
      go_ret
      exact ⟨a, c, rfl, HE.out.1, HE.out.2⟩
set_option maxRecDepth 100000 in
set_option maxHeartbeats 2000000 in
theorem lendSets_v (w : World) (s : Sli Tri) (hs : SlOk w 3 tric s) :
    Calls Tryz.prog 43 #[.slice s.p s.n s.c] w fun e w' => ∃ a c, e = .returned (.slice a s.n c) ∧ Lent w.heap.size w' 141 3 tric (⟨777, 0, 0⟩ : Tri) a c s.xs ∧ Below w.heap.size w w' := by
  obtain ⟨sp, m, cap, xs⟩ := s
  have hm : xs.length = m := hs.len
  have hmost : m ≤ 4194304 := hs.most
  have HX := hide hs.cel
  simp only at HX ⊢
  have HM := hide hm
  clear hs hm
  obtain ⟨M, hMi, hMn⟩ : ∃ M : Nat, (m : Int) + 9 = (M : Int) ∧ M = m + 9 := ⟨m + 9, by omega, rfl⟩
  have hM1 : M ≤ 4194400 := by omega
  clear hMn
  obtain ⟨i0, hi, hz0, hz1, hz2⟩ := info_parts (show (Tryz.prog.info? 141).map (fun i => (i.zero, i.size, i.bytes)) = some (some (.agg #[.int .i64 0, .int .i64 0, .int .i64 0]), 3, 24) by kernel_rfl)
  obtain ⟨w1, hmk, hown1, hb1⟩ := run_make_own (P := Tryz.prog) w w.heap.size 78 141 i0 (.agg #[.int .i64 0, .int .i64 0, .int .i64 0]) 3 Tryz.underlying78 hi hz0 hz1 .i64 .i64 M (by rw [hz2]; omega) (by unfold maxLen; omega) (Nat.le_refl _)
  have hB1 : Below w.heap.size w w1 := (Below.refl _ w).grown hb1 (Nat.le_refl _) (fun k e => by cases e)
  obtain ⟨v2, w2, hr2, ho2, hg2, _⟩ := elt_set.run_append w1 78 w.heap.size 0 _ [] hown1 sp m cap xs HM.out (HX.out.below hB1) (by omega) hB1.size
  have hB2 : Below w.heap.size w w2 := below_own hB1 hown1 hg2
  simp only [Nat.zero_add, List.nil_append] at ho2
  obtain ⟨a2, c2, rfl, hc2⟩ := slice_form ho2
  have HR2 := hide hr2
  have H0 : Hid (w2.ownsRow w.heap.size 141 3 (.slice a2 (m + 0) c2) (m + 0) (flat tric (xs ++ List.replicate 0 (⟨777, 0, 0⟩ : Tri))) ∧ Below w.heap.size w w2) := ⟨by simpa using ho2, hB2⟩
  clear hown1 hb1 hB1 hr2 ho2 hg2 hB2
  go_enter Tryz.func43, Tryz.ntmps43
  go_wp2_with (at_builtin; refine lp_append _ (.slice sp m cap) rfl rfl ⟨_, w2, HR2.out, ?_⟩)
  clear hmk
  go_loopw [3, 4] (fun l i wr => ∃ (k : Nat) (a : Option Addr) (c : Nat), k ≤ 9 ∧ i = .int .i64 k ∧ l = .slice a (m + k) c ∧ Hid (wr.ownsRow w.heap.size 141 3 (.slice a (m + k) c) (m + k) (flat tric (xs ++ List.replicate k (⟨777, 0, 0⟩ : Tri))) ∧ Below w.heap.size w wr)) (fun _ i _ => 9 - (intOf i).toNat)
  case atStart => exact ⟨0, a2, c2, by omega, rfl, rfl, H0⟩
  case round =>
    clear H0
    obtain ⟨k, a, c, hk, rfl, rfl, HI⟩ := hrel
    by_cases hlt : k < 9
    · have hlt' : (k : Int) < 9 := by omega
      have hBa : Below wr.heap.size wr (wr.alloc (.cells #[.int .i64 777, .int .i64 0, .int .i64 0] 141)) := (Below.refl _ wr).alloc (Nat.le_refl _) _
      have hBw := HI.out.2.alloc HI.out.2.size (.cells #[.int .i64 777, .int .i64 0, .int .i64 0] 141)
      obtain ⟨v3, w3, hr3, ho3, hg3, _⟩ := elt_set.run_append (wr.alloc (.cells #[.int .i64 777, .int .i64 0, .int .i64 0] 141)) 78 w.heap.size (m + k) _ _ (owns_keep HI.out.1 hBa) (some ⟨wr.heap.size, 0, none⟩) 1 1 [(⟨777, 0, 0⟩ : Tri)] rfl (cel_one1 rfl) (by omega) hBw.size
      have hB3 := below_own hBw (owns_keep HI.out.1 hBa) hg3
      obtain ⟨a3, c3, rfl, _⟩ := slice_form ho3
      have HR3 := hide hr3
      have H3 : Hid (w3.ownsRow w.heap.size 141 3 (.slice a3 (m + (k + 1)) c3) (m + (k + 1)) (flat tric (xs ++ List.replicate (k + 1) (⟨777, 0, 0⟩ : Tri))) ∧ Below w.heap.size w w3) := ⟨by rw [rep_snoc, ← List.append_assoc, flat_app]; exact ho3, hB3⟩
      clear hBa hBw hr3 ho3 hg3 hB3
      go_wp2_with (at_builtin; refine lp_append (.slice a (m + k) c) (.slice (some ⟨wr.heap.size, 0, none⟩) 1 1) rfl rfl ⟨_, w3, HR3.out, ?_⟩)
      go_roundw
      case rel => exact ⟨k + 1, a3, c3, by omega, by go_num, by simp [Nat.add_assoc], H3⟩
      case measure => simp [intOf]; omega
    · obtain rfl : k = 9 := by omega
      obtain ⟨a', c', e', hc'⟩ := slice_form HI.out.1
      simp only [Value.slice.injEq] at e'
      obtain ⟨rfl, _, rfl⟩ := e'
      have hcm : m ≤ c := by omega
      have HE : Hid (Lent w.heap.size wr 141 3 tric (⟨777, 0, 0⟩ : Tri) a c xs ∧ Below w.heap.size w wr) := ⟨by unfold Lent; rw [HM.out]; exact HI.out.1, HI.out.2⟩
      clear HI
      go_wp2
      go_ret
      exact ⟨a, c, rfl, HE.out.1, HE.out.2⟩
set_option maxRecDepth 100000 in
set_option maxHeartbeats 2000000 in
theorem lendRights_v (w : World) (s : Sli Tri) (hs : SlOk w 3 tric s) :
    Calls Tryz.prog 44 #[.slice s.p s.n s.c] w fun e w' => ∃ a c, e = .returned (.slice a s.n c) ∧ Lent w.heap.size w' 82 3 tric (⟨777, 0, 0⟩ : Tri) a c s.xs ∧ Below w.heap.size w w' := by
  obtain ⟨sp, m, cap, xs⟩ := s
  have hm : xs.length = m := hs.len
  have hmost : m ≤ 4194304 := hs.most
  have HX := hide hs.cel
  simp only at HX ⊢
  have HM := hide hm
  clear hs hm
  obtain ⟨M, hMi, hMn⟩ : ∃ M : Nat, (m : Int) + 9 = (M : Int) ∧ M = m + 9 := ⟨m + 9, by omega, rfl⟩
  have hM1 : M ≤ 4194400 := by omega
  clear hMn
  obtain ⟨i0, hi, hz0, hz1, hz2⟩ := info_parts (show (Tryz.prog.info? 82).map (fun i => (i.zero, i.size, i.bytes)) = some (some (.agg #[.int .i64 0, .int .i64 0, .int .i64 0]), 3, 24) by kernel_rfl)
  obtain ⟨w1, hmk, hown1, hb1⟩ := run_make_own (P := Tryz.prog) w w.heap.size 60 82 i0 (.agg #[.int .i64 0, .int .i64 0, .int .i64 0]) 3 Tryz.underlying60 hi hz0 hz1 .i64 .i64 M (by rw [hz2]; omega) (by unfold maxLen; omega) (Nat.le_refl _)
  have hB1 : Below w.heap.size w w1 := (Below.refl _ w).grown hb1 (Nat.le_refl _) (fun k e => by cases e)
  obtain ⟨v2, w2, hr2, ho2, hg2, _⟩ := elt_right.run_append w1 60 w.heap.size 0 _ [] hown1 sp m cap xs HM.out (HX.out.below hB1) (by omega) hB1.size
  have hB2 : Below w.heap.size w w2 := below_own hB1 hown1 hg2
  simp only [Nat.zero_add, List.nil_append] at ho2
  obtain ⟨a2, c2, rfl, hc2⟩ := slice_form ho2
  have HR2 := hide hr2
  have H0 : Hid (w2.ownsRow w.heap.size 82 3 (.slice a2 (m + 0) c2) (m + 0) (flat tric (xs ++ List.replicate 0 (⟨777, 0, 0⟩ : Tri))) ∧ Below w.heap.size w w2) := ⟨by simpa using ho2, hB2⟩
  clear hown1 hb1 hB1 hr2 ho2 hg2 hB2
  go_enter Tryz.func44, Tryz.ntmps44
  go_wp2_with (at_builtin; refine lp_append _ (.slice sp m cap) rfl rfl ⟨_, w2, HR2.out, ?_⟩)
  clear hmk
  go_loopw [3, 4] (fun l i wr => ∃ (k : Nat) (a : Option Addr) (c : Nat), k ≤ 9 ∧ i = .int .i64 k ∧ l = .slice a (m + k) c ∧ Hid (wr.ownsRow w.heap.size 82 3 (.slice a (m + k) c) (m + k) (flat tric (xs ++ List.replicate k (⟨777, 0, 0⟩ : Tri))) ∧ Below w.heap.size w wr)) (fun _ i _ => 9 - (intOf i).toNat)
  case atStart => exact ⟨0, a2, c2, by omega, rfl, rfl, H0⟩
  case round =>
    clear H0
    obtain ⟨k, a, c, hk, rfl, rfl, HI⟩ := hrel
    by_cases hlt : k < 9
    · have hlt' : (k : Int) < 9 := by omega
      have hBa : Below wr.heap.size wr (wr.alloc (.cells #[.int .i64 777, .int .i64 0, .int .i64 0] 82)) := (Below.refl _ wr).alloc (Nat.le_refl _) _
      have hBw := HI.out.2.alloc HI.out.2.size (.cells #[.int .i64 777, .int .i64 0, .int .i64 0] 82)
      obtain ⟨v3, w3, hr3, ho3, hg3, _⟩ := elt_right.run_append (wr.alloc (.cells #[.int .i64 777, .int .i64 0, .int .i64 0] 82)) 60 w.heap.size (m + k) _ _ (owns_keep HI.out.1 hBa) (some ⟨wr.heap.size, 0, none⟩) 1 1 [(⟨777, 0, 0⟩ : Tri)] rfl (cel_one1 rfl) (by omega) hBw.size
      have hB3 := below_own hBw (owns_keep HI.out.1 hBa) hg3
      obtain ⟨a3, c3, rfl, _⟩ := slice_form ho3
      have HR3 := hide hr3
      have H3 : Hid (w3.ownsRow w.heap.size 82 3 (.slice a3 (m + (k + 1)) c3) (m + (k + 1)) (flat tric (xs ++ List.replicate (k + 1) (⟨777, 0, 0⟩ : Tri))) ∧ Below w.heap.size w w3) := ⟨by rw [rep_snoc, ← List.append_assoc, flat_app]; exact ho3, hB3⟩
      clear hBa hBw hr3 ho3 hg3 hB3
      go_wp2_with (at_builtin; refine lp_append (.slice a (m + k) c) (.slice (some ⟨wr.heap.size, 0, none⟩) 1 1) rfl rfl ⟨_, w3, HR3.out, ?_⟩)
      go_roundw
      case rel => exact ⟨k + 1, a3, c3, by omega, by go_num, by simp [Nat.add_assoc], H3⟩
      case measure => simp [intOf]; omega
    · obtain rfl : k = 9 := by omega
      obtain ⟨a', c', e', hc'⟩ := slice_form HI.out.1
      simp only [Value.slice.injEq] at e'
      obtain ⟨rfl, _, rfl⟩ := e'
      have hcm : m ≤ c := by omega
      have HE : Hid (Lent w.heap.size wr 82 3 tric (⟨777, 0, 0⟩ : Tri) a c xs ∧ Below w.heap.size w wr) := ⟨by unfold Lent; rw [HM.out]; exact HI.out.1, HI.out.2⟩
      clear HI
      go_wp2
      go_ret
      exact ⟨a, c, rfl, HE.out.1, HE.out.2⟩
end Go.Proofs.YtfdanocpbhbieaaGreat.Z
