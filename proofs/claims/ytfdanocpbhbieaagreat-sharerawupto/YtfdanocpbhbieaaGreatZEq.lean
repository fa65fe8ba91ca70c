import Derived.Test.YtfdanocpbhbieaaGreatZBl
import Derived.Laws.Tables
import Derived.Deep.WholeRow
import Derived.Test.YtfdanocpbhbieaaGreatZLE
namespace Go.Proofs.YtfdanocpbhbieaaGreat.Z
open Go.RowKit

theorem elt_act : Elt Acd.list 15 200 52 84 := ⟨fun _ => rfl, fun x u hu => by
  have := Array.all_eq_true_iff_forall_mem.1 x.ones u (by simpa [Acd.arr, Acd.list] using hu); exact this, by omega, Tryz.underlying52, by
  obtain ⟨i, h⟩ := info_parts (show (Tryz.prog.info? 84).map (fun i => (i.zero, i.size, i.bytes)) = some (some (.agg #[.int .i64 0, .int .u64 0, .int .i64 0, .bool false, .slice none 0 0, .slice none 0 0, .slice none 0 0, .int .i64 0, .slice none 0 0, .int .i64 0, .int .i64 0, .int .i64 0, .int .i64 0, .int .u64 0, .slice none 0 0]), 15, 200) by kernel_rfl)
  exact ⟨i, _, h.1, h.2.1, h.2.2.1, h.2.2.2, rfl⟩, by omega⟩
theorem lp_built {ops : Array Oper} {rest : List Oper} {o : Oper} {a : Act} {w : World} {Q : Exit → Act → World → Prop} (hg : o.guard = none) (t : TypeId) (parts : Array (Nat × Operand)) (ho : o.op = .build t parts) (vs : List (Nat × Value)) (hv : (parts.toList.map fun x => (x.1, a.eval x.2)) = vs) (cells : Array Value) (hb : Tryz.prog.built t vs = some cells)
    (h : wpList Tryz.prog ops Q rest (a.put o.dst (.agg cells)) w) : wpList Tryz.prog ops Q (o :: rest) a w := by
  have e : (parts.map fun (i, x) => (i, a.eval x)).toList = vs := by rw [Array.toList_map]; exact hv
  refine wpList_build hg t parts ho (by rw [e, hb]; rfl) ?_
  rw [e, hb]
  exact h
def nilS {α : Type} : Sli α := ⟨none, 0, 0, []⟩
theorem nilS_ok {α : Type} (w : World) (sz : Nat) (f : α → List Value) : SlOk w sz f nilS := ⟨rfl, Nat.zero_le _, Or.inl rfl⟩
theorem info_Act : ∃ i z, Tryz.prog.info? 84 = some i ∧ i.zero = some z ∧ i.size = 15 := by
  obtain ⟨i, z, h1, h2, h3, _, _⟩ := elt_act.info
  exact ⟨i, z, h1, h2, h3⟩
theorem AcLent.by {B B' : Nat} {w w' : World} {b : Acd} (h : AcLent B w b) (hk : ∀ e' sz' v n xs, w.ownsRow B e' sz' v n xs → w'.ownsRow B' e' sz' v n xs) : AcLent B' w' b :=
  ⟨h.nlines, h.nguards, h.nsets, h.nother, h.nrights, hk _ _ _ _ _ h.lines, hk _ _ _ _ _ h.guards, hk _ _ _ _ _ h.sets, hk _ _ _ _ _ h.other, hk _ _ _ _ _ h.rights⟩
end Go.Proofs.YtfdanocpbhbieaaGreat.Z
namespace Go.Proofs.YtfdanocpbhbieaaGreat.Z
open Go.RowKit

theorem Lent.grown {α : Type} {B B' : Nat} {w w' : World} {e t : TypeId} {sz s n : Nat} {f : α → List Value} {mk : α} {a : Option Addr} {c : Nat} {xs : List α} {v : Value} {ys : List Value} (h : Lent B w e sz f mk a c xs) (hown : w.ownsRow B' t s v n ys) (ht : t ≠ e) (hg : w.grownBy w' v.ownBlock) : Lent B w' e sz f mk a c xs := by
  unfold Lent at h ⊢
  refine owns_grown h hg (fun g e' e'' => ?_)
  rcases owns_two h hown (Ne.symm ht) with h1 | h1
  · rw [h1] at e'; cases e'
  · exact h1 (by rw [e', e''])
theorem AcLent.grown {B B' : Nat} {w w' : World} {b : Acd} {t : TypeId} {s n : Nat} {v : Value} {ys : List Value} (h : AcLent B w b) (hown : w.ownsRow B' t s v n ys) (h1 : t ≠ 87) (h2 : t ≠ 139) (h3 : t ≠ 141) (h4 : t ≠ 82) (hg : w.grownBy w' v.ownBlock) : AcLent B w' b :=
  ⟨h.nlines, h.nguards, h.nsets, h.nother, h.nrights, h.lines.grown hown h1 hg, h.guards.grown hown h2 hg, h.sets.grown hown h3 hg, h.other.grown hown h1 hg, h.rights.grown hown h4 hg⟩
theorem AcLent.le {B B' : Nat} {w : World} {b : Acd} (h : AcLent B w b) (hB : B' ≤ B) : AcLent B' w b := h.by (fun _ _ _ _ _ hr => owns_le hr hB)
def mkA : Acd := ⟨0, 0, 777, false, ⟨none, 0, 0, []⟩, ⟨none, 0, 0, []⟩, ⟨none, 0, 0, []⟩, 0, ⟨none, 0, 0, []⟩, 0, 0, 0, 0, 0, ⟨none, 0, 0, []⟩⟩
theorem mkA_built : Tryz.prog.built 84 [(1, .int .i64 777)] = some mkA.arr := by kernel_rfl
/-- A list that was lent, each element's lists lent besides. -/
structure AcsLent (B : Nat) (w : World) (a : Option Addr) (c : Nat) (xs ys : List Acd) : Prop where
  same : ys.map (·.d) = xs.map (·.d)
  each : ∀ y ∈ ys, AcLent B w y
  row : Lent B w 84 15 Acd.list mkA a c ys
/-- An element more. -/
theorem a_step {w0 wr v1 : World} {ys zs : List Acd} {b : Acd} {a : Option Addr} {c j : Nat} (hrow : wr.ownsRow w0.heap.size 84 15 (.slice a j c) j (flat Acd.list ys)) (hB : Below w0.heap.size w0 wr) (hb : Below wr.heap.size wr v1) (hz : ∀ y ∈ zs, AcLent w0.heap.size v1 y) (hj : j ≤ 4194400) :
    ∃ a3 c3 w3, (Builtin.append_ #[52, 52] 52 #[.slice a j c, .slice (some ⟨v1.heap.size, 0, none⟩) 1 1]).run Tryz.prog (v1.alloc (.cells b.arr 84)) = .ok (.slice a3 (j + 1) c3) w3 ∧ w3.ownsRow w0.heap.size 84 15 (.slice a3 (j + 1) c3) (j + 1) (flat Acd.list (ys ++ [b])) ∧ (∀ y ∈ zs, AcLent w0.heap.size w3 y) ∧ Below w0.heap.size w0 w3 := by
  have hbA : Below v1.heap.size v1 (v1.alloc (.cells b.arr 84)) := (Below.refl _ v1).alloc (Nat.le_refl _) _
  have hb2 : Below wr.heap.size wr (v1.alloc (.cells b.arr 84)) := hb.trans (hbA.mono hb.size)
  have hr2 := owns_keep hrow hb2
  have hB2 : Below w0.heap.size w0 (v1.alloc (.cells b.arr 84)) := hB.trans (hb2.mono hB.size)
  obtain ⟨v3, w3, hr3, ho3, hg3, _⟩ := elt_act.run_append (v1.alloc (.cells b.arr 84)) 52 w0.heap.size j _ _ hr2 (some ⟨v1.heap.size, 0, none⟩) 1 1 [b] rfl (cel_one1 rfl) (by omega) hB2.size
  obtain ⟨a3, c3, rfl, _⟩ := slice_form ho3
  exact ⟨a3, c3, w3, hr3, by rw [flat_app]; exact ho3, fun y hy => ((hz y hy).below hbA).grown hr2 (by decide) (by decide) (by decide) (by decide) hg3, below_own hB2 hr2 hg3⟩
set_option maxRecDepth 100000 in
set_option maxHeartbeats 4000000 in
theorem lendActs_any (w : World) (s : Sli Acd) (hs : Acts w s) :
    Calls Tryz.prog 5 #[.slice s.p s.n s.c] w fun e w' => ∃ a c ys, e = .returned (.slice a s.n c) ∧ AcsLent w.heap.size w' a c s.xs ys ∧ Below w.heap.size w w' := by
  obtain ⟨sp, m, cap, xs⟩ := s
  have hm : xs.length = m := hs.row.len
  have hmost : m ≤ 4194304 := hs.row.most
  have HX := hide hs.row.cel
  have HV := hide hs.each
  simp only at HX HV ⊢
  have HM := hide hm
  clear hs hm
  obtain ⟨M, hMi, hMn⟩ : ∃ M : Nat, (m : Int) + 9 = (M : Int) ∧ M = m + 9 := ⟨m + 9, by omega, rfl⟩
  have hM1 : M ≤ 4194400 := by omega
  clear hMn
  obtain ⟨i0, hi, hz0, hz1, hz2⟩ := info_parts (show (Tryz.prog.info? 84).map (fun i => (i.zero, i.size, i.bytes)) = some (some (.agg #[.int .i64 0, .int .u64 0, .int .i64 0, .bool false, .slice none 0 0, .slice none 0 0, .slice none 0 0, .int .i64 0, .slice none 0 0, .int .i64 0, .int .i64 0, .int .i64 0, .int .i64 0, .int .u64 0, .slice none 0 0]), 15, 200) by kernel_rfl)
  obtain ⟨w1, hmk, hown1, hb1⟩ := run_make_own (P := Tryz.prog) w w.heap.size 52 84 i0 (.agg #[.int .i64 0, .int .u64 0, .int .i64 0, .bool false, .slice none 0 0, .slice none 0 0, .slice none 0 0, .int .i64 0, .slice none 0 0, .int .i64 0, .int .i64 0, .int .i64 0, .int .i64 0, .int .u64 0, .slice none 0 0]) 15 Tryz.underlying52 hi hz0 hz1 .i64 .i64 M (by rw [hz2]; omega) (by unfold maxLen; omega) (Nat.le_refl _)
  have hB1 : Below w.heap.size w w1 := (Below.refl _ w).grown hb1 (Nat.le_refl _) (fun k e => by cases e)
  obtain ⟨a0, c0, e0, _⟩ := slice_form hown1
  rw [e0] at hmk hown1
  have H0 : Hid (w1.ownsRow w.heap.size 84 15 (.slice a0 0 c0) 0 (flat Acd.list ([] : List Acd)) ∧ ([] : List Acd).map (·.d) = (xs.take 0).map (·.d) ∧ (∀ y ∈ ([] : List Acd), AcLent w.heap.size w1 y) ∧ Below w.heap.size w w1) := ⟨hown1, rfl, fun y hy => by simp at hy, hB1⟩
  clear hown1 hb1 hB1 hi hz0 hz1 hz2 e0
  go_enter Tryz.func5, Tryz.ntmps5
  go_wp2
  clear hmk
  go_loopw [3, 4] (fun l i wr => ∃ (j : Nat) (a : Option Addr) (c : Nat) (ys : List Acd), j ≤ m ∧ i = .int .i64 j ∧ l = .slice a j c ∧ Hid (wr.ownsRow w.heap.size 84 15 (.slice a j c) j (flat Acd.list ys) ∧ ys.map (·.d) = (xs.take j).map (·.d) ∧ (∀ y ∈ ys, AcLent w.heap.size wr y) ∧ Below w.heap.size w wr)) (fun _ i _ => m - (intOf i).toNat)
  case atStart => exact ⟨0, a0, c0, [], Nat.zero_le _, rfl, rfl, H0⟩
  case round =>
    clear H0
    obtain ⟨j, a, c, ys, hj, rfl, rfl, HI⟩ := hrel
    by_cases hlt : j < m
    · have hlt' : (j : Int) < (m : Int) := by omega
      have j0 : (0 : Int) ≤ (j : Int) := by omega
      obtain ⟨x, hx⟩ : ∃ x, xs[j]? = some x := ⟨_, List.getElem?_eq_getElem (by rw [HM.out]; exact hlt)⟩
      obtain ⟨b, o, rfl, hbl, hcl⟩ := HX.out.get (i := j) (r := x.list) (by simp [hx])
      have HLd : Hid ((Instr.loadAt 84 (.pointer (some ⟨b, o + j * 15, none⟩))).run Tryz.prog wr = .ok (.agg x.arr) wr) := run_loadAt_mid (P := Tryz.prog) wr b (o + j * 15) 84 x.list _ (fun i v hv => (HI.out.2.2.2.cell (p := ⟨b, o + j * 15 + i, none⟩) hbl).trans (hcl i v hv)) Tryz.underlying84 rfl Tryz.sizeA
      have HLa := hide (lendAct_any wr x ((HV.out x (List.mem_of_getElem? hx)).below HI.out.2.2.2) x.arr rfl)
      have HXj := hide hx
      clear hcl hx
      go_wp2_with (first | (go_at_call 24; refine HLa.out.mono ?_; rintro e v1 ⟨y, rfl, hd, hl, hb⟩; obtain ⟨a3, c3, w3, hr3, ho3, hz3, hB3⟩ := a_step (b := y) (zs := ys ++ [y]) HI.out.1 HI.out.2.2.2 hb (fun z hz => by rcases List.mem_append.1 hz with hz | hz; exact (HI.out.2.2.1 z hz).below hb; simp at hz; subst hz; exact hl.le HI.out.2.2.2.size) (by omega); have HR3 := hide hr3; have HD := hide hd; have H3 := hide ho3; have HZ3 := hide hz3; have HB3 := hide hB3; clear hd hl hb hr3 ho3 hz3 hB3) | ((with_reducible show wpList _ _ _ (⟨_, .load 84 (.tmp 19), _, _, _, _⟩ :: _) _ _); refine lp_load b (o + j * 15) x.arr rfl HLd.out ?_) | ((with_reducible show wpList _ _ _ (⟨_, .buildSlice _ _ _, _, _, _, _⟩ :: _) _ _); refine lp_build_one rfl 52 84 _ rfl y.arr rfl 15 (by omega) (by omega) Tryz.underlying52 info_Act rfl ?_) | (at_builtin; refine lp_append (.slice a j c) (.slice (some ⟨v1.heap.size, 0, none⟩) 1 1) rfl rfl ⟨_, w3, HR3.out, ?_⟩))
      go_roundw
      case rel => exact ⟨j + 1, a3, c3, ys ++ [y], by omega, by go_num, by simp, H3.out, by rw [take_snoc HXj.out, List.map_append, List.map_append, HI.out.2.1]; simp [HD.out], HZ3.out, HB3.out⟩
      case measure => simp [intOf]; omega
    · obtain rfl : j = m := by omega
      have e1 : ¬ (j : Int) < (j : Int) := by omega
      have hyl : ys.length = j := by have h := congrArg List.length HI.out.2.1; simp at h; rw [h, HM.out]; omega
      have HYl := hide hyl
      have HSm : Hid (ys.map (·.d) = xs.map (·.d)) := by show _ = _; rw [HI.out.2.1, List.take_of_length_le (by rw [HM.out]; omega)]
      have H9 : Hid (wr.ownsRow w.heap.size 84 15 (.slice a (j + 0) c) (j + 0) (flat Acd.list (ys ++ List.replicate 0 mkA)) ∧ (∀ y ∈ ys, AcLent w.heap.size wr y) ∧ Below w.heap.size w wr) := ⟨by simpa using HI.out.1, HI.out.2.2⟩
      clear HI hyl
      go_wp2
      go_loopw [3, 5] (fun l i wr => ∃ (k : Nat) (a : Option Addr) (c : Nat), k ≤ 9 ∧ i = .int .i64 k ∧ l = .slice a (j + k) c ∧ Hid (wr.ownsRow w.heap.size 84 15 (.slice a (j + k) c) (j + k) (flat Acd.list (ys ++ List.replicate k mkA)) ∧ (∀ y ∈ ys, AcLent w.heap.size wr y) ∧ Below w.heap.size w wr)) (fun _ i _ => 9 - (intOf i).toNat)
      case atStart => exact ⟨0, a, c, by omega, rfl, by simp, H9⟩
      case round =>
        clear H9
        obtain ⟨k, a, c, hk, rfl, rfl, HI⟩ := hrel
        by_cases hlt : k < 9
        · have hlt' : (k : Int) < 9 := by omega
          obtain ⟨a3, c3, w3, hr3, ho3, hz3, hB3⟩ := a_step (b := mkA) (zs := ys) HI.out.1 HI.out.2.2 (Below.refl _ wr) HI.out.2.1 (by omega)
          have HR3 := hide hr3
          have H3 : Hid (w3.ownsRow w.heap.size 84 15 (.slice a3 (j + (k + 1)) c3) (j + (k + 1)) (flat Acd.list (ys ++ List.replicate (k + 1) mkA)) ∧ (∀ y ∈ ys, AcLent w.heap.size w3 y) ∧ Below w.heap.size w w3) := ⟨by rw [rep_snoc, ← List.append_assoc]; exact ho3, hz3, hB3⟩
          clear hr3 ho3 hz3 hB3
          obtain ⟨D, hD⟩ : ∃ D, mkA.arr = D := ⟨_, rfl⟩
          have HBt : Hid (Tryz.prog.built 84 [(1, .int .i64 777)] = some D) := by show _ = _; rw [← hD]; exact mkA_built
          have HDs : Hid (D.size = 15) := by show _ = _; rw [← hD]; rfl
          rw [hD] at HR3
          clear hD
          go_wp2_with (first | ((with_reducible show wpList _ _ _ (⟨_, .build _ _, _, _, _, _⟩ :: _) _ _); refine lp_built rfl 84 _ rfl [(1, .int .i64 777)] rfl D HBt.out ?_) | ((with_reducible show wpList _ _ _ (⟨_, .buildSlice _ _ _, _, _, _, _⟩ :: _) _ _); refine lp_build_one rfl 52 84 _ rfl D rfl 15 (by omega) (by omega) Tryz.underlying52 info_Act HDs.out ?_) | (at_builtin; refine lp_append (.slice a (j + k) c) (.slice (some ⟨wr.heap.size, 0, none⟩) 1 1) rfl rfl ⟨_, w3, HR3.out, ?_⟩))
          go_roundw
          case rel => exact ⟨k + 1, a3, c3, by omega, by go_num, by simp [Nat.add_assoc], H3⟩
          case measure => simp [intOf]; omega
        · obtain rfl : k = 9 := by omega
          obtain ⟨a', c', e', hc'⟩ := slice_form HI.out.1
          simp only [Value.slice.injEq] at e'
          obtain ⟨rfl, _, rfl⟩ := e'
          have hcm : j ≤ c := by omega
          have HE : Hid (AcsLent w.heap.size wr a c xs ys ∧ Below w.heap.size w wr) := ⟨⟨HSm.out, HI.out.2.1, by unfold Lent; rw [HYl.out]; exact HI.out.1⟩, HI.out.2.2⟩
          clear HI
          go_wp2
          go_ret
          exact ⟨a, c, ys, rfl, HE.out.1, HE.out.2⟩
end Go.Proofs.YtfdanocpbhbieaaGreat.Z
namespace Go.Proofs.YtfdanocpbhbieaaGreat.Z
open Go.RowKit

set_option maxRecDepth 100000 in
set_option maxHeartbeats 4000000 in
theorem eqAct_same (w : World) (x a : Acd) (hx : AcdOk w x) (ha : AcdOk w a) (hd : x.d = a.d) (X A : Array Value) (hX : x.arr = X) (hA : a.arr = A) :
    Calls Tryz.prog 35 #[.agg X, .agg A] w fun e w' => e = .returned (.bool true) ∧ Below w.heap.size w w' := by
  obtain ⟨w2, hw2⟩ : ∃ w2, (w.alloc (.cells X 84)).alloc (.cells A 84) = w2 := ⟨_, rfl⟩
  have hb2 : Below w.heap.size w w2 := by rw [← hw2]; exact ((Below.refl _ w).alloc (Nat.le_refl _) _).alloc (by simp) _
  have hkx : w2.heap[w.heap.size]? = some (.cells X 84 (0, 0)) := by rw [← hw2]; exact heap_alloc2_old _ _ _
  have hka : w2.heap[w.heap.size + 1]? = some (.cells A 84 (0, 0)) := by rw [← hw2]; exact heap_alloc2_new _ _ _
  simp only [Acd.d, AcP.mk.injEq] at hd
  obtain ⟨e0, e1, e2, e3, e4, e5, e6, e7, e8, e9, e10, e11, e12, e13, e14⟩ := hd
  have n_lines : x.lines.n = a.lines.n := by rw [← hx.lines.len, e4, ha.lines.len]
  have H_lines : Hid (∀ W, Below w2.heap.size w2 W → Calls Tryz.prog 37 #[.slice x.lines.p a.lines.n x.lines.c, .slice a.lines.p a.lines.n a.lines.c] W fun e w' => e = .returned (.bool true) ∧ Below w2.heap.size w2 w') := fun W hb => (eqLines_any W x.lines.p a.lines.p a.lines.n a.lines.n x.lines.c a.lines.c x.lines.xs a.lines.xs (by rw [← n_lines]; exact hx.lines.len) ha.lines.len (by have := ha.lines.most; omega) ((hx.lines.below hb2).below hb).cel ((ha.lines.below hb2).below hb).cel true (by simp [e4])).mono fun _ _ ⟨he, h⟩ => ⟨he, hb.trans (h.mono hb.size)⟩
  have n_guards : x.guards.n = a.guards.n := by rw [← hx.guards.len, e5, ha.guards.len]
  have H_guards : Hid (∀ W, Below w2.heap.size w2 W → Calls Tryz.prog 58 #[.slice x.guards.p a.guards.n x.guards.c, .slice a.guards.p a.guards.n a.guards.c] W fun e w' => e = .returned (.bool true) ∧ Below w2.heap.size w2 w') := fun W hb => (eqGuards_any W x.guards.p a.guards.p a.guards.n a.guards.n x.guards.c a.guards.c x.guards.xs a.guards.xs (by rw [← n_guards]; exact hx.guards.len) ha.guards.len (by have := ha.guards.most; omega) ((hx.guards.below hb2).below hb).cel ((ha.guards.below hb2).below hb).cel true (by simp [e5])).mono fun _ _ ⟨he, h⟩ => ⟨he, hb.trans (h.mono hb.size)⟩
  have n_sets : x.sets.n = a.sets.n := by rw [← hx.sets.len, e6, ha.sets.len]
  have H_sets : Hid (∀ W, Below w2.heap.size w2 W → Calls Tryz.prog 59 #[.slice x.sets.p a.sets.n x.sets.c, .slice a.sets.p a.sets.n a.sets.c] W fun e w' => e = .returned (.bool true) ∧ Below w2.heap.size w2 w') := fun W hb => (eqSets_any W x.sets.p a.sets.p a.sets.n a.sets.n x.sets.c a.sets.c x.sets.xs a.sets.xs (by rw [← n_sets]; exact hx.sets.len) ha.sets.len (by have := ha.sets.most; omega) ((hx.sets.below hb2).below hb).cel ((ha.sets.below hb2).below hb).cel true (by simp [e6])).mono fun _ _ ⟨he, h⟩ => ⟨he, hb.trans (h.mono hb.size)⟩
  have n_other : x.other.n = a.other.n := by rw [← hx.other.len, e8, ha.other.len]
  have H_other : Hid (∀ W, Below w2.heap.size w2 W → Calls Tryz.prog 37 #[.slice x.other.p a.other.n x.other.c, .slice a.other.p a.other.n a.other.c] W fun e w' => e = .returned (.bool true) ∧ Below w2.heap.size w2 w') := fun W hb => (eqLines_any W x.other.p a.other.p a.other.n a.other.n x.other.c a.other.c x.other.xs a.other.xs (by rw [← n_other]; exact hx.other.len) ha.other.len (by have := ha.other.most; omega) ((hx.other.below hb2).below hb).cel ((ha.other.below hb2).below hb).cel true (by simp [e8])).mono fun _ _ ⟨he, h⟩ => ⟨he, hb.trans (h.mono hb.size)⟩
  have n_rights : x.rights.n = a.rights.n := by rw [← hx.rights.len, e14, ha.rights.len]
  have H_rights : Hid (∀ W, Below w2.heap.size w2 W → Calls Tryz.prog 40 #[.slice x.rights.p a.rights.n x.rights.c, .slice a.rights.p a.rights.n a.rights.c] W fun e w' => e = .returned (.bool true) ∧ Below w2.heap.size w2 w') := fun W hb => (eqRights_any W x.rights.p a.rights.p a.rights.n a.rights.n x.rights.c a.rights.c x.rights.xs a.rights.xs (by rw [← n_rights]; exact hx.rights.len) ha.rights.len (by have := ha.rights.most; omega) ((hx.rights.below hb2).below hb).cel ((ha.rights.below hb2).below hb).cel true (by simp [e14])).mono fun _ _ ⟨he, h⟩ => ⟨he, hb.trans (h.mono hb.size)⟩
  have HF : Hid (∀ W, Below w2.heap.size w2 W → (W.cell? ⟨w.heap.size, 0, none⟩ = some (.int .i64 a.till) ∧ W.cell? ⟨w.heap.size, 1, none⟩ = some (.int .u64 a.num) ∧ W.cell? ⟨w.heap.size, 2, none⟩ = some (.int .i64 a.kind) ∧ W.cell? ⟨w.heap.size, 3, none⟩ = some (.bool a.sure) ∧ W.cell? ⟨w.heap.size, 4, none⟩ = some (.slice x.lines.p a.lines.n x.lines.c) ∧ W.cell? ⟨w.heap.size, 5, none⟩ = some (.slice x.guards.p a.guards.n x.guards.c) ∧ W.cell? ⟨w.heap.size, 6, none⟩ = some (.slice x.sets.p a.sets.n x.sets.c) ∧ W.cell? ⟨w.heap.size, 7, none⟩ = some (.int .i64 a.mg) ∧ W.cell? ⟨w.heap.size, 8, none⟩ = some (.slice x.other.p a.other.n x.other.c) ∧ W.cell? ⟨w.heap.size, 9, none⟩ = some (.int .i64 a.ra) ∧ W.cell? ⟨w.heap.size, 10, none⟩ = some (.int .i64 a.rb) ∧ W.cell? ⟨w.heap.size, 11, none⟩ = some (.int .i64 a.rd) ∧ W.cell? ⟨w.heap.size, 12, none⟩ = some (.int .i64 a.to) ∧ W.cell? ⟨w.heap.size, 13, none⟩ = some (.int .u64 a.gen) ∧ W.cell? ⟨w.heap.size, 14, none⟩ = some (.slice x.rights.p a.rights.n x.rights.c)) ∧ W.cell? ⟨w.heap.size + 1, 0, none⟩ = some (.int .i64 a.till) ∧ W.cell? ⟨w.heap.size + 1, 1, none⟩ = some (.int .u64 a.num) ∧ W.cell? ⟨w.heap.size + 1, 2, none⟩ = some (.int .i64 a.kind) ∧ W.cell? ⟨w.heap.size + 1, 3, none⟩ = some (.bool a.sure) ∧ W.cell? ⟨w.heap.size + 1, 4, none⟩ = some (.slice a.lines.p a.lines.n a.lines.c) ∧ W.cell? ⟨w.heap.size + 1, 5, none⟩ = some (.slice a.guards.p a.guards.n a.guards.c) ∧ W.cell? ⟨w.heap.size + 1, 6, none⟩ = some (.slice a.sets.p a.sets.n a.sets.c) ∧ W.cell? ⟨w.heap.size + 1, 7, none⟩ = some (.int .i64 a.mg) ∧ W.cell? ⟨w.heap.size + 1, 8, none⟩ = some (.slice a.other.p a.other.n a.other.c) ∧ W.cell? ⟨w.heap.size + 1, 9, none⟩ = some (.int .i64 a.ra) ∧ W.cell? ⟨w.heap.size + 1, 10, none⟩ = some (.int .i64 a.rb) ∧ W.cell? ⟨w.heap.size + 1, 11, none⟩ = some (.int .i64 a.rd) ∧ W.cell? ⟨w.heap.size + 1, 12, none⟩ = some (.int .i64 a.to) ∧ W.cell? ⟨w.heap.size + 1, 13, none⟩ = some (.int .u64 a.gen) ∧ W.cell? ⟨w.heap.size + 1, 14, none⟩ = some (.slice a.rights.p a.rights.n a.rights.c)) := fun W hb => by
    have hx' : W.heap[w.heap.size]? = some (.cells #[.int .i64 a.till, .int .u64 a.num, .int .i64 a.kind, .bool a.sure, .slice x.lines.p a.lines.n x.lines.c, .slice x.guards.p a.guards.n x.guards.c, .slice x.sets.p a.sets.n x.sets.c, .int .i64 a.mg, .slice x.other.p a.other.n x.other.c, .int .i64 a.ra, .int .i64 a.rb, .int .i64 a.rd, .int .i64 a.to, .int .u64 a.gen, .slice x.rights.p a.rights.n x.rights.c] 84 (0, 0)) := by
      rw [hb.block _ (lt_of_block hkx), hkx, ← hX]
      unfold Acd.arr
      rw [e0, e1, e2, e3, e7, e9, e10, e11, e12, e13, n_lines, n_guards, n_sets, n_other, n_rights]
    have ha' : W.heap[w.heap.size + 1]? = some (.cells a.arr 84 (0, 0)) := by rw [hb.block _ (lt_of_block hka), hka, ← hA]
    exact ⟨ac15 hx', ac15 ha'⟩
  have HW2 := hide hw2
  have HB2 := hide hb2
  clear hX hA hw2 hb2 hkx hka hx ha e0 e1 e2 e3 e4 e5 e6 e7 e8 e9 e10 e11 e12 e13 e14 n_lines n_guards n_sets n_other n_rights
  obtain ⟨⟨x0, x1, x2, x3, x4, x5, x6, x7, x8, x9, x10, x11, x12, x13, x14⟩, y0, y1, y2, y3, y4, y5, y6, y7, y8, y9, y10, y11, y12, y13, y14⟩ := HF.out w2 (Below.refl _ _)
  go_enter Tryz.func35, Tryz.ntmps35
  go_upto_region 1 with (fail)
  rw [HW2.out]
  go_wp2_with (
    first
    | (go_at_call_of 37 (Value.slice a.lines.p a.lines.n a.lines.c); refine (H_lines.out _ (Below.refl _ _)).mono ?_; rintro e v0 ⟨rfl, hb⟩; have HB00 := hide hb; clear x0 x1 x2 x3 x4 x5 x6 x7 x8 x9 x10 x11 x12 x13 x14 y0 y1 y2 y3 y4 y5 y6 y7 y8 y9 y10 y11 y12 y13 y14; obtain ⟨⟨x0, x1, x2, x3, x4, x5, x6, x7, x8, x9, x10, x11, x12, x13, x14⟩, y0, y1, y2, y3, y4, y5, y6, y7, y8, y9, y10, y11, y12, y13, y14⟩ := HF.out v0 hb; clear hb)
    | (go_at_call_of 58 (Value.slice a.guards.p a.guards.n a.guards.c); refine (H_guards.out _ HB00.out).mono ?_; rintro e v1 ⟨rfl, hb⟩; have HB11 := hide hb; clear x0 x1 x2 x3 x4 x5 x6 x7 x8 x9 x10 x11 x12 x13 x14 y0 y1 y2 y3 y4 y5 y6 y7 y8 y9 y10 y11 y12 y13 y14; obtain ⟨⟨x0, x1, x2, x3, x4, x5, x6, x7, x8, x9, x10, x11, x12, x13, x14⟩, y0, y1, y2, y3, y4, y5, y6, y7, y8, y9, y10, y11, y12, y13, y14⟩ := HF.out v1 hb; clear hb)
    | (go_at_call_of 59 (Value.slice a.sets.p a.sets.n a.sets.c); refine (H_sets.out _ HB11.out).mono ?_; rintro e v2 ⟨rfl, hb⟩; have HB22 := hide hb; clear x0 x1 x2 x3 x4 x5 x6 x7 x8 x9 x10 x11 x12 x13 x14 y0 y1 y2 y3 y4 y5 y6 y7 y8 y9 y10 y11 y12 y13 y14; obtain ⟨⟨x0, x1, x2, x3, x4, x5, x6, x7, x8, x9, x10, x11, x12, x13, x14⟩, y0, y1, y2, y3, y4, y5, y6, y7, y8, y9, y10, y11, y12, y13, y14⟩ := HF.out v2 hb; clear hb)
    | (go_at_call_of 37 (Value.slice a.other.p a.other.n a.other.c); refine (H_other.out _ HB22.out).mono ?_; rintro e v3 ⟨rfl, hb⟩; have HB33 := hide hb; clear x0 x1 x2 x3 x4 x5 x6 x7 x8 x9 x10 x11 x12 x13 x14 y0 y1 y2 y3 y4 y5 y6 y7 y8 y9 y10 y11 y12 y13 y14; obtain ⟨⟨x0, x1, x2, x3, x4, x5, x6, x7, x8, x9, x10, x11, x12, x13, x14⟩, y0, y1, y2, y3, y4, y5, y6, y7, y8, y9, y10, y11, y12, y13, y14⟩ := HF.out v3 hb; clear hb)
    | (go_at_call_of 40 (Value.slice a.rights.p a.rights.n a.rights.c); refine (H_rights.out _ HB33.out).mono ?_; rintro e v4 ⟨rfl, hb⟩; have HB44 := hide hb; clear x0 x1 x2 x3 x4 x5 x6 x7 x8 x9 x10 x11 x12 x13 x14 y0 y1 y2 y3 y4 y5 y6 y7 y8 y9 y10 y11 y12 y13 y14; obtain ⟨⟨x0, x1, x2, x3, x4, x5, x6, x7, x8, x9, x10, x11, x12, x13, x14⟩, y0, y1, y2, y3, y4, y5, y6, y7, y8, y9, y10, y11, y12, y13, y14⟩ := HF.out v4 hb; clear hb))
  go_ret
  exact ⟨rfl, HB2.out.trans (HB44.out.mono HB2.out.size)⟩
end Go.Proofs.YtfdanocpbhbieaaGreat.Z
