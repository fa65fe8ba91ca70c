import Derived.Test.YtecbidaljchmoaaRpJ
import Derived.Test.YtecbidaljchmoaaRpG
import Derived.Laws.CopyOwn
namespace Go.Proofs.Ytecbidaljchmoaa
open Go.RowKit Go.Shelf
attribute [local go_sem] Oper.semAt_some

abbrev MP (W : World) (b n : Nat) (D : DataW Unit) : Prop := W.ownsMap Try.prog 3 (plainElem (H := Unit) Try.prog 2) b n D
theorem int_law : Maps.Keyed Try.prog 3 := Maps.int_keyed Try.underlying3
theorem int_mk {c : Int} (h : (Lit.int .i64 c).wf = true) : keyOf Try.prog 3 (.int .i64 c) = some (klit c) := Maps.keyOf_int_mk Try.underlying3 h
theorem mp_look {W : World} {b n : Nat} {xs : List L64} (h : MP W b n (tallyL xs)) {c : Int} (hc : (Lit.int .i64 c).wf = true) : (Instr.lookup 98 (.map (some b)) (.int .i64 c) false).run Try.prog W = .ok (.int .i64 (sumL (valsL xs) c)) W := by
  obtain ⟨z, hl, hat, _⟩ := World.ownsMap.lookup_int h int_law Try.underlying98 Try.underlying2 (Try.zeroValue2 _) (int_mk hc)
  have hr := relL_all (H := Unit) xs
  rw [hr.at_ c] at hat
  simp only [DataW.lit.injEq, Lit.int.injEq, true_and] at hat
  rw [hl, hr.sum c, hat]
theorem sumL_wf (xs : List Lin) (k : Int) : (Lit.int .i64 (sumL xs k)).wf = true := by
  suffices h : ∀ n : Int, (Lit.int .i64 n).wf = true → (Lit.int .i64 (xs.foldl (fun n x => if x.c = k then wrap64 (n + x.n) else n) n)).wf = true from h 0 rfl
  induction xs with
  | nil => intro n h; exact h
  | cons x xs ih =>
    intro n h
    refine ih _ ?_
    dsimp only
    split
    · exact wrap64_wf _
    · exact h
theorem mp_put {W : World} {b n : Nat} {xs : List L64} (h : MP W b n (tallyL xs)) (hn : n < maxLen) (x : L64) : ∃ W', (Instr.mapUpdate 98 (.map (some b)) (.int .i64 x.1.c) (.int .i64 (wrap64 (sumL (valsL xs) x.1.c + x.1.n)))).run Try.prog W = .ok () W' ∧ MP W' b (n + 1) (tallyL (xs ++ [x])) ∧ W.grownBy W' (some b) := by
  obtain ⟨W', h1, h2, h3⟩ := World.ownsMap.update h int_law Try.underlying98 hn (int_mk x.2.1) (plainElem_int (H := Unit) Try.underlying2 (wrap64_wf (sumL (valsL xs) x.1.c + x.1.n)))
  refine ⟨W', h1, ?_, h3⟩
  have hr := relL_all (H := Unit) xs
  rw [tallyL_snoc, bumpD, hr.at_ x.1.c, ← hr.sum]
  exact h2
theorem mp_far {W W' : World} {b n : Nat} {D : DataW Unit} (h : MP W b n D) (hb : W'.heap[b]? = W.heap[b]?) : MP W' b n D := by
  obtain ⟨es, ck, h1, h2⟩ := h
  exact ⟨es, ck, hb.trans h1, h2⟩
theorem mp_map {W : World} {b n : Nat} {D : DataW Unit} (h : MP W b n D) : ∃ o : Obj, W.heap[b]? = some o ∧ o.isCells = false := by
  obtain ⟨es, ck, h1, h2⟩ := h
  exact ⟨_, h1, rfl⟩
def linesE {w : World} (x : EdO w) : List L64 := l64s x.1.made.xs x.2.wf
def linesOf {w : World} (ys : List (EdO w)) : List L64 := ys.flatMap linesE
theorem linesOf_snoc {w : World} (ys : List (EdO w)) (x : EdO w) : linesOf (ys ++ [x]) = linesOf ys ++ linesE x := by simp [linesOf]
theorem linesE_len {w : World} (x : EdO w) : (linesE x).length = x.1.made.n := (l64s_len _ _).trans x.2.made.len
theorem linesOf_len {w : World} (ys : List (EdO w)) : (linesOf ys).length ≤ ys.length * 4194304 := by
  induction ys with
  | nil => simp [linesOf]
  | cons x ys ih =>
    have h1 : linesOf (x :: ys) = linesE x ++ linesOf ys := rfl
    have h2 := x.2.made.most
    rw [h1, List.length_append, linesE_len, List.length_cons, Nat.add_mul]
    omega
theorem linesOf_val {w : World} (ys : List (EdO w)) : valsL (linesOf ys) = (ys.map (·.1)).flatMap (fun e => e.made.xs) := by
  induction ys with
  | nil => rfl
  | cons x ys ih =>
    have h1 : linesOf (x :: ys) = linesE x ++ linesOf ys := rfl
    rw [h1]
    simp only [valsL, List.map_append, List.map_cons, List.flatMap_cons] at ih ⊢
    rw [ih]
    congr 1
    exact l64s_val _ _
/-- What gathered holds between two rounds. -/
def Gm (w0 w : World) (N : Nat) (pre : List (EdO w0)) (W : World) : Prop :=
  Boxed W (w.heap.size + 1) 98 (.map (some w.heap.size)) ∧ MP W w.heap.size (linesOf pre).length (tallyL (linesOf pre)) ∧ pre.length ≤ N ∧ Below w.heap.size w W ∧ w.heap.size + 2 ≤ W.heap.size
theorem gm_own (w0 w : World) (N B : Nat) (hB : w.heap.size < B) : OwnFrom B (Gm w0 w N) := fun s A C row hs hg hr => by
  obtain ⟨h1, h2, h3, h4, h5⟩ := hs
  have hr' : ∀ r, row = some r → ∃ o : Obj, A.heap[r]? = some o ∧ o.isCells = false := fun r e => (hr r e).2
  exact ⟨Boxed.far h1 hg hr', mp_far h2 (hg.block _ (by omega) (fun e => by have := (hr _ e.symm).1; omega)), h3, h4.grown hg h4.size (fun k e => Nat.le_trans (Nat.le_of_lt hB) (hr k e).1), Nat.le_trans h5 hg.size⟩

set_option maxRecDepth 100000 in
set_option maxHeartbeats 4000000 in
theorem gathered_in (n : Nat) (hn : 4 ≤ n) (g : Nat) (lb : Array Value) (eg : ∀ args w, (callFunc g args).run Try.prog w = .ok (.enter g args) w) (w0 w : World) (S Sp : List (EdO w0) → Prop) (N : Nat) (hN : N ≤ 4194304) (hb0 : Below w0.heap.size w0 w)
    (hseq : SeqStopsK Fence.wide (n - 1) Try.prog g lb (fun x : EdO w0 => encE x.1) (Below w.heap.size) S Sp N w) :
    CallsIn Fence.wide n Try.prog 34 #[.func (.func g) #[] lb] w fun e w' => ∃ (ys : List (EdO w0)) (b : Nat), e = .returned (.map (some b)) ∧ S ys ∧ MP w' b (linesOf ys).length (tallyL (linesOf ys)) ∧ w.heap.size ≤ b ∧ ys.length ≤ N ∧ Below w.heap.size w w' := by
  have hmx : Try.prog.follows .mixedOrders = true := by kernel_rfl
  have hmm := @run_makeMap Try.prog
  have h1 : 1 ≤ n := by omega
  refine callsIn_of_wp_marks Try.func34 rfl trivial ?_ rfl
  simp only [Try.ntmps34, List.size_toArray, List.length_cons, List.length_nil, Nat.reduceAdd, Nat.reduceSub, Array.replicate_succ, Array.replicate_zero, List.push_toArray, List.append_toArray, List.nil_append, List.cons_append]
  gi_wp2
  have hm0 : MP ((w.alloc (.map #[] 0)).alloc (.cells #[.map (some w.heap.size)] 98)) w.heap.size 0 (tallyL []) := World.ownsMap.alloc (World.ownsMap_made w Try.prog 3 (plainElem (H := Unit) Try.prog 2)) _
  have bM := Boxed.new (w.alloc (.map #[] 0)) 98 (.map (some w.heap.size))
  simp only [World.size_alloc] at bM
  have hB0 : Below w.heap.size w ((w.alloc (.map #[] 0)).alloc (.cells #[.map (some w.heap.size)] 98)) := ((Below.refl _ w).alloc (Nat.le_refl _) _).alloc (by simp) _
  refine wpIn_rangeFunc_ownH rfl h1 (gf := g) (lb := lb) rfl trivial eg hseq belowK_t (belowK_b (by simp; omega)) hB0 (fun _ => rfl)
    (Gm w0 w N) (fun _ _ _ => False) (gm_own w0 w N _ (by simp; omega)) (fun _ _ _ _ _ hs _ _ => hs)
    ⟨bM, hm0, Nat.zero_le _, hB0, by simp⟩
    (fun x a' W => ∃ Bx, w.heap.size + 2 ≤ Bx ∧ W.heap[Bx]? = some (.cells x.1.arr 82 (0, 0)) ∧ a' = { tmps := #[.func (.func g) #[] lb, undef, .map none, .pointer (some ⟨w.heap.size + 1, 0, none⟩), .pointer (some ⟨Bx, 0, none⟩), undef, undef, .map (some w.heap.size), .func (.func g) #[] lb, .agg x.1.arr, undef, undef, undef, undef, undef, undef, undef, undef, undef, undef, undef, undef, undef, undef, undef, undef], defers := [] })
    (fun x a' s A C row hs hg hr => by obtain ⟨Bx, h0, h1, h2⟩ := hs; exact ⟨Bx, h0, cells_far h1 hg (fun r e => (hr r e).2), h2⟩) ?assign ?body ?done ?stop
  case assign =>
    rintro l pre x W K hI hK
    obtain ⟨A, hA⟩ : ∃ A, x.1.arr = A := ⟨_, rfl⟩
    have HZ : Hid (A.size = 22) := by show _ = _; rw [← hA]; rfl
    have HO : Hid (A.all (·.oneCell') = true) := by show _ = _; rw [← hA]; exact x.1.ones
    have HI := hide hI
    have HK := hide hK
    have HA := hide hA
    simp only [encE, hA]
    clear hI hK hA
    gi_wp2_with (((with_reducible show wpListIn _ _ _ _ _ (⟨_, .store 82 (.tmp 4) _, _, _, _, _⟩ :: _) _ _); refine li_store (t := 82) (x := .tmp 4) (some ⟨W.heap.size, 0, none⟩) (.agg A) rfl rfl (run_storeAt_new W _ _ A (by rw [HZ.out]; exact Try.sizeE) (by rw [HZ.out]; rfl) HO.out) ?_))
    obtain ⟨h1, h2, h3, h4, h5⟩ := HI.out
    refine HK.out _ _ ((KeepsOthers.alloc _ _).from _) ((Below.refl _ W).alloc h4.size _) ((gm_own w0 w N (w.heap.size + 1) (by omega)).alloc _ HI.out) ⟨W.heap.size, h5, by rw [HA.out]; exact heap_alloc_new _ _, ?_⟩
    rw [HA.out]
    first | rfl | skip
  case body =>
    rintro l pre x a' W hl ⟨r, hr⟩ ⟨h1, h2, h3, h4, h5⟩ ⟨Bx, hBx, hbx, rfl⟩ hlt
    obtain ⟨A, hA⟩ : ∃ A, x.1.arr = A := ⟨_, rfl⟩
    rw [hA] at hbx
    simp only [hA]
    have a17 : A[17]? = some (.slice x.1.made.p x.1.made.n x.1.made.c) := by rw [← hA]; rfl
    have hc17 : W.cell? ⟨Bx, 17, none⟩ = some (.slice x.1.made.p x.1.made.n x.1.made.c) := by rw [cell_of_row _ _ _ _ _ _ hbx, a17]
    obtain ⟨p, m, c, xs, hsl⟩ : ∃ p m c xs, x.1.made = ⟨p, m, c, xs⟩ := ⟨_, _, _, _, rfl⟩
    rw [hsl] at hc17
    simp only at hc17
    have hok := x.2.made
    have hwf := x.2.wf
    rw [hsl] at hok hwf
    have hlen : xs.length = m := hok.len
    have hmost : m ≤ 4194304 := hok.most
    have HC := hide hok.cel
    have HWf := hide hwf
    have hle : linesE x = l64s xs hwf := by unfold linesE; congr 1 <;> (rw [hsl])
    have HLe : Hid (linesE x = l64s xs HWf.out) := hle
    have hpl := linesOf_len pre
    have hpl2 : (linesOf pre).length ≤ 17592186044416 := Nat.le_trans hpl (Nat.le_trans (Nat.mul_le_mul_right 4194304 (Nat.le_trans h3 hN)) (by omega))
    have HI := hide (And.intro h1 (And.intro h2 (And.intro h3 (And.intro h4 h5))))
    clear hA hbx a17 hsl hok hwf hle hpl h1 h2 h4
    simp only at HC
    gi_wp2
    gi_loopw [13] (fun i wr => ∃ k : Nat, k ≤ m ∧ i = .int .i64 k ∧ Hid (Boxed wr (w.heap.size + 1) 98 (.map (some w.heap.size)) ∧ MP wr w.heap.size ((linesOf pre).length + k) (tallyL (linesOf pre ++ (linesE x).take k)) ∧ Below w.heap.size W wr ∧ KeepsFrom (w.heap.size + 1 + 1) W wr))
      (fun i _ => m - (intOf i).toNat)
    case atStart => exact ⟨0, Nat.zero_le _, rfl, HI.out.1, by simpa using HI.out.2.1, Below.refl _ _, KeepsFrom.refl _ _⟩
    case round =>
      obtain ⟨k, hk, rfl, HR⟩ := hrel
      by_cases hkm : k < m
      · have hkm' : (k : Int) < (m : Int) := by omega
        obtain ⟨y, hy⟩ : ∃ y, xs[k]? = some y := ⟨_, List.getElem?_eq_getElem (by omega)⟩
        obtain ⟨hyw, hy64⟩ := l64s_get xs HWf.out k y hy
        have HTk : Hid ((linesE x).take (k + 1) = (linesE x).take k ++ [⟨y, hyw⟩]) := by show _ = _; rw [HLe.out]; exact take_snoc hy64
        obtain ⟨b, o, e, hb, hcl⟩ := HC.out.get (i := k) (r := linc y) (by simp [hy])
        subst e
        have hbw : Below w0.heap.size w0 wr := (hb0.trans (HI.out.2.2.2.1.mono hb0.size)).trans (HR.out.2.2.1.mono hb0.size)
        have f : ∀ i v, (linc y)[i]? = some v → wr.cell? ⟨b, o + k * 2 + i, none⟩ = some v := fun i v hv => (hbw.cell (p := ⟨b, o + k * 2 + i, none⟩) hb).trans (hcl i v hv)
        have c0 := f 0 _ rfl
        have c1 := f 1 _ rfl
        rw [Nat.add_zero] at c0
        obtain ⟨yc, yn⟩ := y
        simp only at c0 c1
        have hbx := (HR.out.1.alloc (.cells #[.int .i64 yc, .int .i64 yn] 84)).cell
        have hmp : MP (wr.alloc (.cells #[.int .i64 yc, .int .i64 yn] 84)) w.heap.size ((linesOf pre).length + k) (tallyL (linesOf pre ++ (linesE x).take k)) := World.ownsMap.alloc HR.out.2.1 _
        have hlook := mp_look hmp hyw.1
        obtain ⟨w2, hput, hmp2, hg2⟩ := mp_put hmp (by unfold maxLen; omega) ⟨⟨yc, yn⟩, hyw⟩
        simp only at hput
        have hg3 : wr.grownBy w2 (some w.heap.size) := ⟨hg2.os, hg2.tape, hg2.output, Nat.le_trans (by simp) hg2.size, fun j hj hne => (hg2.block j (by simp; omega) hne).trans (Below.heap_alloc _ _ _ hj)⟩
        have HR2 : Hid (Boxed w2 (w.heap.size + 1) 98 (.map (some w.heap.size)) ∧ MP w2 w.heap.size ((linesOf pre).length + (k + 1)) (tallyL (linesOf pre ++ (linesE x).take (k + 1))) ∧ Below w.heap.size W w2 ∧ KeepsFrom (w.heap.size + 1 + 1) W w2) :=
          ⟨HR.out.1.kept hg3 (by simp), by rw [HTk.out, ← List.append_assoc]; exact hmp2, HR.out.2.2.1.grown hg3 (Nat.le_trans HI.out.2.2.2.1.size HR.out.2.2.1.size) (fun j e => by cases e; exact Nat.le_refl _), HR.out.2.2.2.trans (KeepsFrom.of_grownBy hg3 (fun j e => by cases e; omega))⟩
        clear hcl f hbw hmp hmp2 hg2 hg3 hy hy64
        gi_wp2
        go_roundw
        case rel => exact ⟨k + 1, by omega, by go_num, HR2⟩
        case measure => simp [intOf]; omega
      · obtain rfl : k = m := by omega
        have HE : Hid (Gm w0 w N (pre ++ [x]) wr) := by
          have hl2 := linesE_len x
          have ht : (linesE x).take k = linesE x := List.take_of_length_le (by rw [HLe.out, l64s_len]; omega)
          have hm := HR.out.2.1
          rw [ht] at hm
          refine ⟨HR.out.1, ?_, by rw [List.length_append]; simp; omega, HI.out.2.2.2.1.trans HR.out.2.2.1, Nat.le_trans HI.out.2.2.2.2 HR.out.2.2.1.size⟩
          rw [linesOf_snoc, List.length_append, show (linesE x).length = k by rw [HLe.out, l64s_len]; omega]
          exact hm
        gi_wp2
        exact ⟨by simpa using HR.out.2.2.2, HR.out.2.2.1, HE.out⟩
  case done =>
    rintro D ys W hD hys ⟨h1, h2, h3, h4, h5⟩ hK
    have hc := h1.cell
    gi_wp2
    refine ⟨by simp, .inl ⟨_, _, rfl, run_takeDeferred hK, ?_⟩⟩
    have hD' : w.heap.size + 2 ≤ D := by simpa using hD
    refine ⟨_, results_tmp rfl _ _ _, ys, w.heap.size, rfl, hys, mp_far h2 ?_, Nat.le_refl _, h3, h4.trans (belowK_b (w := w) (Nat.le_refl _) W D _ _ (by omega) hK rfl rfl)⟩
    exact (grownBy_putObj' W D (.deferred none)).block _ (by omega) (fun e => by cases e; omega)
  case stop =>
    rintro D c pre W _ _ h _
    exact h.elim
end Go.Proofs.Ytecbidaljchmoaa
namespace Go.Proofs.Ytecbidaljchmoaa
open Go.RowKit Go.Shelf
attribute [local go_sem] Oper.semAt_some

def i64c (n : Int) : List Value := [.int .i64 n]
theorem flat_i64 (l : List Int) : flat i64c l = l.map (Value.int .i64) := by
  induction l with
  | nil => rfl
  | cons x l ih => show i64c x ++ flat i64c l = _; rw [ih]; rfl
theorem elt_i64 : Elt i64c 1 8 23 2 := ⟨fun _ => rfl, fun x u hu => by simp [i64c] at hu; subst hu; rfl, by omega, Try.underlying23, by
  obtain ⟨i, h⟩ := info_parts (show (Try.prog.info? 2).map (fun i => (i.zero, i.size, i.bytes)) = some (some (.int .i64 0), 1, 8) by kernel_rfl)
  exact ⟨i, _, h.1, h.2.1, h.2.2.1, h.2.2.2, rfl⟩, by omega⟩
def cellsI (l : List Int) : Array Value := (l.map (Value.int .i64)).toArray
theorem cellsI_size (l : List Int) : (cellsI l).size = l.length := by simp [cellsI]
theorem cellsI_get (l : List Int) {i : Nat} {z : Int} (h : l[i]? = some z) : (cellsI l)[i]? = some (.int .i64 z) := by simp [cellsI, h]
theorem cellsI_set (l : List Int) (i : Nat) (z : Int) : (cellsI l).setIfInBounds i (.int .i64 z) = cellsI (l.set i z) := by
  unfold cellsI
  rw [List.setIfInBounds_toArray, List.map_set]
theorem made_cells (k : Nat) : madeCells #[Value.int .i64 0] k = cellsI (List.replicate k 0) := by
  apply Array.ext'
  apply List.ext_getElem?
  intro i
  by_cases h : i < k
  · simp [madeCells, cellsI, h, Nat.mod_one]
  · simp [madeCells, cellsI, h]
theorem row_of_cells {w : World} {B g : Nat} {l : List Int} (hg : w.heap[g]? = some (.cells (cellsI l) 2 (0, 0))) (hB : B ≤ g) (hl : l.length ≤ 4194304) : w.ownsRow B 2 1 (.slice (some ⟨g, 0, none⟩) l.length l.length) l.length (flat i64c l) := by
  rw [flat_i64]
  exact ⟨by simp, .inr ⟨g, l.length, _, rfl, hB, hg, Nat.le_refl _, by unfold maxLen; omega, by rw [cellsI_size]; omega, by rw [Nat.mul_one]; exact List.take_of_length_le (by simp [cellsI])⟩⟩
/-- What Sums tells. -/
def sumsT (k : Nat) (ls : List Lin) : List Int := (List.range k).map (fun i : Nat => sumL ls (i : Int))
theorem sumsT_len (k : Nat) (ls : List Lin) : (sumsT k ls).length = k := by simp [sumsT]
theorem sumsT_get (k : Nat) (ls : List Lin) {i : Nat} (h : i < k) : (sumsT k ls)[i]? = some (sumL ls i) := by simp [sumsT, h]
def partS (k : Nat) (ls : List Lin) (i : Nat) : List Int := (sumsT k ls).take i ++ List.replicate (k - i) 0
theorem partS_len (k : Nat) (ls : List Lin) {i : Nat} (h : i ≤ k) : (partS k ls i).length = k := by simp [partS, sumsT_len]; omega
theorem partS_set (k : Nat) (ls : List Lin) {i : Nat} (h : i < k) : (partS k ls i).set i (sumL ls i) = partS k ls (i + 1) := by
  have hl : ((sumsT k ls).take i).length = i := by rw [List.length_take, sumsT_len]; omega
  unfold partS
  rw [List.set_append_right _ _ (by omega), hl, Nat.sub_self, show k - i = (k - (i + 1)) + 1 by omega, List.replicate_succ, List.set_cons_zero, take_snoc (sumsT_get k ls h)]
  simp
def linesP (es : List Eda) : List Lin := es.flatMap (fun e => e.made.xs)
theorem nat_wf {i : Nat} (h : i ≤ 4194304) : (Lit.int .i64 (i : Int)).wf = true := by
  simp [Lit.wf, IntKind.min, IntKind.max, IntKind.signed, IntKind.bits]; omega

set_option maxRecDepth 100000 in
set_option maxHeartbeats 4000000 in
theorem sums_any (w : World) (c : Cfg) (s : Sli Eda) (hc : c.cl ≤ 64) (hs : Ents w s) :
    Calls Try.prog 19 #[c.v, .slice s.p s.n s.c] w fun e w' => ∃ g, e = .returned (.slice (some ⟨g, 0, none⟩) c.cl c.cl) ∧ w'.ownsRow w.heap.size 2 1 (.slice (some ⟨g, 0, none⟩) c.cl c.cl) c.cl (flat i64c (sumsT c.cl (linesP s.xs))) ∧ Below w.heap.size w w' := by
  have hmost := hs.row.most
  have HS := hide hs
  obtain ⟨ls, hls⟩ : ∃ ls, linesP s.xs = ls := ⟨_, rfl⟩
  rw [hls]
  have HLs := hide hls
  clear hs hls
  have hmx : Try.prog.follows .mixedOrders = true := by kernel_rfl
  refine (callsIn_wide (n := 12)).1 ?_
  have hmk := run_make_row' (P := Try.prog) 23 2 (.int .i64 0) 8 Try.underlying23 (by kernel_rfl) rfl .i64 .i64 c.cl (by omega) (by omega)
  rw [made_cells] at hmk
  unfold Cfg.v
  have HG := hide (fun (w1 : World) (hw1 : w1 = (w.alloc (.cells #[.int .i64 c.tills, .slice c.cp c.cl c.cc, .slice c.pp c.pl c.pc, .int .i64 c.lease, .int .i64 c.watch, .int .i64 c.beat, .int .i64 c.window, .int .i64 c.cap, .int .i64 c.flight] 34)).alloc (.cells #[.slice s.p s.n s.c] 26)) => by
    have hb1 : Below w.heap.size w w1 := by rw [hw1]; exact ((Below.refl _ w).alloc (Nat.le_refl _) _).alloc (by simp) _
    have hbs : w1.heap[w.heap.size + 1]? = some (.cells #[.slice s.p s.n s.c] 26 (0, 0)) := by rw [hw1]; exact heap_alloc2_new _ _ _
    exact gathered_in 11 (by omega) 45 #[.pointer (some ⟨w.heap.size + 1, 0, none⟩)] (enters_of Try.func45 (by kernel_rfl) rfl) w w1 _ _ s.n hmost hb1
      (SeqStopsK.mono (values_stops 10 (by omega) (w.heap.size + 1) s w w1 HS.out hb1 hbs) (fun A B h => h.mono hb1.size)))
  refine callsIn_of_wp Try.func19 rfl trivial ?_ rfl
  simp only [Try.ntmps19, List.size_toArray, List.length_cons, List.length_nil, Nat.reduceAdd, Nat.reduceSub, Array.replicate_succ, Array.replicate_zero, List.push_toArray, List.append_toArray, List.nil_append, List.cons_append]
  gi_wp2_with (
    first
    | (refine ⟨trivial, ?_⟩; gi_at_call 35; refine (values_in 11 s.p s.n s.c _).mono ?_; rintro e w' ⟨rfl, rfl⟩)
    | (refine ⟨trivial, ?_⟩; gi_at_call 34; refine (HG.out _ rfl).mono ?_; rintro e w2 ⟨ys, b, rfl, hys, hmp, hbb, hyl, hb2⟩; have hcf : w2.cell? ⟨w.heap.size, 1, none⟩ = some (.slice c.cp c.cl c.cc) := (hb2.cell (p := ⟨w.heap.size, 1, none⟩) (by simp; omega)).trans (by simp [World.cell?, heap_alloc2_old]); have HY := hide hys; have HM := hide hmp; have HB2 : Hid (Below w.heap.size w w2) := (((Below.refl _ w).alloc (Nat.le_refl _) _).alloc (by simp) _).trans (hb2.mono (by simp; omega)); clear hys hmp hb2 hyl))
  have hgz : w.heap.size ≤ w2.heap.size := HB2.out.size
  have HB3 : Hid (Below w.heap.size w (w2.alloc (.cells (cellsI (List.replicate c.cl 0)) 2))) := HB2.out.alloc hgz _
  have HM3 := hide (World.ownsMap.alloc HM.out (.cells (cellsI (List.replicate c.cl 0)) 2))
  have HV : Hid (valsL (linesOf ys) = ls) := by
    show _ = _
    rw [linesOf_val, HY.out, edsOf_val]
    exact HLs.out
  obtain ⟨g, hgg⟩ : ∃ g, w2.heap.size = g := ⟨_, rfl⟩
  rw [hgg]
  have HG0 : Hid ((w2.alloc (.cells (cellsI (List.replicate c.cl 0)) 2)).heap[g]? = some (.cells (cellsI (partS c.cl ls 0)) 2 (0, 0))) := by
    show _ = _
    rw [← hgg, heap_alloc_new]
    simp [partS]
  have hgw : w.heap.size ≤ g := by omega
  have hbg : b < g := by rw [← hgg]; exact HM.out.lt
  clear hcf hmk
  gi_loopw [17] (fun i wr => ∃ k : Nat, k ≤ c.cl ∧ i = .int .i64 k ∧ Hid (wr.heap[g]? = some (.cells (cellsI (partS c.cl ls k)) 2 (0, 0)) ∧ MP wr b (linesOf ys).length (tallyL (linesOf ys)) ∧ Below w.heap.size w wr)) (fun i _ => c.cl - (intOf i).toNat)
  case atStart => exact ⟨0, Nat.zero_le _, rfl, HG0.out, HM3.out, HB3.out⟩
  case round =>
    obtain ⟨k, hk, rfl, HR⟩ := hrel
    by_cases hlt : k < c.cl
    · have hlt' : (k : Int) < (c.cl : Int) := by omega
      have i0 : (0 : Int) ≤ (k : Int) := by omega
      have hlook := mp_look HR.out.2.1 (nat_wf (i := k) (by omega))
      rw [HV.out] at hlook
      have hpl := partS_len c.cl ls (i := k) (by omega)
      obtain ⟨z, hz⟩ : ∃ z, (partS c.cl ls k)[k]? = some z := ⟨_, List.getElem?_eq_getElem (by omega)⟩
      have hce : wr.cell? ⟨g, k, none⟩ = some (.int .i64 z) := by rw [cell_of_row _ _ _ _ _ _ HR.out.1]; exact cellsI_get _ hz
      have hfr : wr.frozen? ⟨g, k, none⟩ = false := frozen_of_row _ _ _ _ _ HR.out.1
      have HR2 : Hid ((wr.setCell ⟨g, k, none⟩ (.int .i64 (sumL ls (k : Int)))).heap[g]? = some (.cells (cellsI (partS c.cl ls (k + 1))) 2 (0, 0)) ∧ MP (wr.setCell ⟨g, k, none⟩ (.int .i64 (sumL ls (k : Int)))) b (linesOf ys).length (tallyL (linesOf ys)) ∧ Below w.heap.size w (wr.setCell ⟨g, k, none⟩ (.int .i64 (sumL ls (k : Int))))) := by
        refine ⟨?_, mp_far HR.out.2.1 (heap_setCell_other _ _ _ _ (by show b ≠ g; omega)), HR.out.2.2.setCell (p := ⟨g, k, none⟩) hgw _⟩
        rw [heap_setCell_same _ _ _ _ _ _ HR.out.1, cellsI_set, partS_set c.cl ls hlt]
      clear hz hpl
      gi_wp2
      go_roundw
      case rel => exact ⟨k + 1, by omega, by go_num, HR2⟩
      case measure => simp [intOf]; omega
    · obtain rfl : k = c.cl := by omega
      have HE : Hid (wr.ownsRow w.heap.size 2 1 (.slice (some ⟨g, 0, none⟩) c.cl c.cl) c.cl (flat i64c (sumsT c.cl ls))) := by
        have he : partS c.cl ls c.cl = sumsT c.cl ls := by
          unfold partS
          rw [List.take_of_length_le (by rw [sumsT_len]; omega)]
          simp
        have h := HR.out.1
        rw [he] at h
        have h2 := row_of_cells h hgw (by rw [sumsT_len]; omega)
        rw [sumsT_len] at h2
        exact h2
      gi_wp2
      go_ret
      exact ⟨g, rfl, HE.out, HR.out.2.2⟩
end Go.Proofs.Ytecbidaljchmoaa
