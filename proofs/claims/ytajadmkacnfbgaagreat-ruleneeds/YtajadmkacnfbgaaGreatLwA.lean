import Derived.Test.YtajadmkacnfbgaaGreatNdW
import Derived.Test.YtajadmkacnfbgaaGreatRbI
import Derived.Test.YtajadmkacnfbgaaGreatWkF
namespace Go.Proofs.YtajadmkacnfbgaaGreat
open Go.RowKit

theorem bx1 {w : World} {b : Nat} {x0 : Value} {t : TypeId} (h : w.heap[b]? = some (.cells #[x0] t (0, 0))) : w.cell? ⟨b, 0, none⟩ = some x0 := by simp [World.cell?, h]
theorem Tryz.builtBook : Tryz.prog.built 45 [] = some (RB.bkCells (.slice none 0 0) (.slice none 0 0) 0 0 0 0) := by kernel_rfl
theorem book_build {o : Oper} {a : Act} {w : World} {K : Act → World → Prop} {Q : Exit → Act → World → Prop} (ho : o.op = .build 45 #[]) (h : K (a.put o.dst (.agg (RB.bkCells (.slice none 0 0) (.slice none 0 0) 0 0 0 0))) w) : o.wp Tryz.prog a w K Q := by
  have e0 : (#[].map fun (i, x) => (i, a.eval x)).toList = ([] : List (Nat × Value)) := by simp
  refine wp_build 45 #[] ho ?_ ?_
  · rw [e0, Tryz.builtBook]; rfl
  · rw [e0, Tryz.builtBook]; exact h
theorem owns_cap {w : World} {B n c s : Nat} {p : Option Addr} {t : TypeId} {ys : List Value} (h : w.ownsRow B t s (.slice p n c) n ys) : n ≤ c := by
  rcases h.2 with ⟨h1, h2⟩ | ⟨g', cap', cur, h1, h2, hg, h3, _⟩
  · cases h1; exact Nat.le_refl _
  · cases h1; exact h3
/-- One list of the argument. -/
structure Ent where
  p : Option Addr
  l : Nat
  c : Nat
  xs : List Lin
structure EntOk (w : World) (e : Ent) : Prop where
  len : e.xs.length = e.l
  most : e.l ≤ 140737488355328
  cel : Cel w e.p 2 (e.xs.map linc)
def Ins (w : World) (sp : Option Addr) (es : List Ent) : Prop :=
  ∀ (i : Nat) (e : Ent), es[i]? = some e → ∃ g o, sp = some ⟨g, o, none⟩ ∧ g < w.heap.size ∧ w.cell? ⟨g, o + i, none⟩ = some (.slice e.p e.l e.c) ∧ EntOk w e
theorem Ins.below {w w' : World} {sp : Option Addr} {es : List Ent} (h : Ins w sp es) (hb : Below w.heap.size w w') : Ins w' sp es := fun i e he => by
  obtain ⟨g, o, e1, hg, hc, h1, h2, h3⟩ := h i e he
  exact ⟨g, o, e1, Nat.lt_of_lt_of_le hg hb.size, (hb.cell (p := ⟨g, o + i, none⟩) hg).trans hc, h1, h2, h3.below hb⟩

/-- A line that the law takes. -/
def LOk (x : Lin) : Prop := 0 ≤ x.c ∧ x.c < 64 ∧ x.n ≠ 0 ∧ -1099511627776 ≤ x.n ∧ x.n ≤ 1099511627776
def negL (x : Lin) : Lin := ⟨x.c, -x.n⟩
theorem LOk.neg {x : Lin} (h : LOk x) : LOk (negL x) := by
  obtain ⟨h1, h2, h3, h4, h5⟩ := h
  refine ⟨h1, h2, ?_, ?_, ?_⟩ <;> (show _; simp only [negL]; omega)
theorem LOk.wf {x : Lin} (h : LOk x) : LinWf x := by
  obtain ⟨h1, h2, h3, h4, h5⟩ := h
  constructor <;> (simp [Lit.wf, IntKind.min, IntKind.max, IntKind.signed, IntKind.bits]; omega)
theorem lok_snoc {xs : List Lin} (h : ∀ x ∈ xs, LOk x) {x : Lin} (hx : LOk x) : ∀ y ∈ xs ++ [x], LOk y := fun y hy => by
  rcases List.mem_append.1 hy with h' | h'
  · exact h y h'
  · simp at h'; subst h'; exact hx
theorem lok_neg {xs : List Lin} (h : ∀ x ∈ xs, LOk x) : ∀ x ∈ xs.map negL, LOk x := fun x hx => by
  obtain ⟨y, hy, rfl⟩ := List.mem_map.1 hx
  exact (h y hy).neg
theorem lok_wf {xs : List Lin} (h : ∀ x ∈ xs, LOk x) : ∀ x ∈ xs, LinWf x := fun x hx => (h x hx).wf
theorem lcells_set (l : List Lin) : ∀ (k : Nat) (x : Lin) (z : Int), l[k]? = some x → (lcells l).set (k * 2 + 1) (.int .i64 z) = lcells (l.set k ⟨x.c, z⟩) := by
  induction l with
  | nil => intro k x z h; simp at h
  | cons y l ih =>
    intro k x z h
    have e : ∀ (z : Lin) (l : List Lin), lcells (z :: l) = .int .i64 z.c :: .int .i64 z.n :: lcells l := fun _ _ => rfl
    cases k with
    | zero => simp at h; subst h; rw [e]; simp [e]
    | succ k =>
      rw [e, show (k + 1) * 2 + 1 = k * 2 + 1 + 1 + 1 by omega, List.set_cons_succ, List.set_cons_succ, ih k x z (by simpa using h), List.set_cons_succ, e]
/-- The first j lines turned. -/
def turned (xs : List Lin) (j : Nat) : List Lin := (xs.take j).map negL ++ xs.drop j
theorem turned_len (xs : List Lin) (j : Nat) : (turned xs j).length = xs.length := by simp [turned]; omega
theorem turned_zero (xs : List Lin) : turned xs 0 = xs := by simp [turned]
theorem turned_all (xs : List Lin) : turned xs xs.length = xs.map negL := by simp [turned]
theorem turned_get {xs : List Lin} {j : Nat} {x : Lin} (h : xs[j]? = some x) : (turned xs j)[j]? = some x := by
  have hj := (List.getElem?_eq_some_iff.1 h).1
  unfold turned
  rw [List.getElem?_append_right (by simp; omega)]
  simp
  rw [Nat.min_eq_left (by omega), Nat.sub_self, Nat.add_zero]
  exact h
theorem turned_set {xs : List Lin} {j : Nat} {x : Lin} (h : xs[j]? = some x) (ys : List Lin) : (turned xs j ++ ys).set j (negL x) = turned xs (j + 1) ++ ys := by
  obtain ⟨hj, e⟩ := List.getElem?_eq_some_iff.1 h
  have hl : ((xs.take j).map negL).length = j := by simp; omega
  unfold turned
  rw [List.set_append_left _ _ (by simp; omega), List.set_append_right _ _ (by omega), hl, Nat.sub_self, List.drop_eq_getElem_cons hj, List.set_cons_zero, take_snoc h]
  simp

/-- Between two lists: the argument's box, the Book. -/
structure OL (w0 wr : World) (sp : Option Addr) (l c : Nat) (L M : Value) (turn used : Nat) (ks : List RB.Kl) : Prop where
  bk : RB.Bk wr w0.heap.size (w0.heap.size + 1) L M 0 turn 0 used ks
  us : used ≤ 16777216
  ek : 8000 * ks.length ≤ used
  low : ∀ x ∈ ks, x.l ≤ 16777216
  box : wr.heap[w0.heap.size]? = some (.cells #[.slice sp l c] 24 (0, 0))
  bel : Below w0.heap.size w0 wr
theorem OL.below {w0 wr w' : World} {sp : Option Addr} {l c : Nat} {L M : Value} {turn used : Nat} {ks : List RB.Kl} (h : OL w0 wr sp l c L M turn used ks) (hb : Below wr.heap.size wr w') : OL w0 w' sp l c L M turn used ks :=
  ⟨h.bk.below hb, h.us, h.ek, h.low, (hb.block _ (ac_lt h.box)).trans h.box, h.bel.trans (hb.mono h.bel.size)⟩
theorem OL.kept {w0 wr w' : World} {sp : Option Addr} {l c : Nat} {L M : Value} {turn used : Nat} {ks : List RB.Kl} (h : OL w0 wr sp l c L M turn used ks) {n g cc : Nat} {xs : List Value} (hr : wr.ownsRow w0.heap.size 48 2 (.slice (some ⟨g, 0, none⟩) n cc) n xs) (hk : RB.Kept (fun k => k = g) wr w') : OL w0 w' sp l c L M turn used ks := by
  have e : (Value.slice (some ⟨g, 0, none⟩) n cc).ownBlock = some g := rfl
  have hg := RB.owns_low hr g e
  refine ⟨h.bk.keep hk (fun e' => RB.owns_ne hr h.bk.blk (by decide) (by rw [e, e'])) (fun g' e1 e2 => ?_) (fun g' e1 e2 => ?_) (fun x hx g' e1 e2 => ?_), h.us, h.ek, h.low, (hk.block _ (ac_lt h.box) (fun e' => RB.owns_ne hr h.box (by decide) (by rw [e, e']))).trans h.box, ?_⟩
  · exact RB.rows_far hr h.bk.ls (by decide) g e (by rw [e1, e2])
  · exact RB.rows_far hr h.bk.ms (by decide) g e (by rw [e1, e2])
  · exact RB.rows_far hr (h.bk.rows x hx) (by decide) g e (by rw [e1, e2])
  · exact h.bel.trans ⟨hk.os, hk.tape, hk.output, hk.size, fun k hk' => hk.block k (Nat.lt_of_lt_of_le hk' h.bel.size) (by intro e'; omega)⟩

theorem ol_rights (w0 wr : World) (sp : Option Addr) (l c : Nat) (L M : Value) (turn used : Nat) (ks : List RB.Kl) (h : OL w0 wr sp l c L M turn used ks) (p : Option Addr) (len cc : Nat) (ys : List Tri) (hrow : wr.ownsRow w0.heap.size 70 3 (.slice p len cc) len (rcells ys)) (hfar : ∀ k ∈ ks, RB.Far (.slice p len cc) k.val) (ht : turn + 1 ≤ 1000000000000000) (hlen : len ≤ 1000000) :
    Calls Tryz.prog 9 #[.pointer (some ⟨w0.heap.size + 1, 0, none⟩), .slice p len cc] wr fun e w' => e = .returned (.tuple #[]) ∧ ∃ L' M' used' ks', OL w0 w' sp l c L' M' (turn + 1) used' ks' ∧ (∀ x ∈ ks', x ∈ ks ∨ x.val = .slice p len cc) ∧ RB.Kept (RB.BkS (w0.heap.size + 1) L M (.slice p len cc)) wr w' := by
  have hks : ks.length ≤ 3000 := by have h1 := h.ek; have h2 := h.us; omega
  refine (RB.bk_rights wr w0.heap.size (w0.heap.size + 1) L M 0 turn 0 used ks p len cc ys h.bk hrow hfar h.bel.size ht (by omega) h.us (by omega) h.ek).mono ?_
  rintro e w' ⟨rfl, L', M', used', ks', hb, hu, he, hks', hkept, hL, hM⟩
  refine ⟨rfl, L', M', used', ks', ⟨hb, hu, he, fun x hx => ?_, ?_, ?_⟩, fun x hx => ?_, hkept⟩
  · rcases hks' with rfl | ⟨rfl, hs⟩
    · exact h.low x hx
    · rcases List.mem_append.1 hx with h' | h'
      · exact h.low x h'
      · simp at h'; subst h'; exact hs
  · refine (hkept.block _ (ac_lt h.box) ?_).trans h.box
    rintro (e | e | e | e)
    · omega
    · exact RB.owns_ne h.bk.ls h.box (by decide) e.symm
    · exact RB.owns_ne h.bk.ms h.box (by decide) e.symm
    · exact RB.owns_ne hrow h.box (by decide) e.symm
  · refine h.bel.trans ⟨hkept.os, hkept.tape, hkept.output, hkept.size, fun k hk => hkept.block k (Nat.lt_of_lt_of_le hk h.bel.size) ?_⟩
    rintro (e | e | e | e)
    · omega
    · have := RB.owns_low h.bk.ls k e.symm; omega
    · have := RB.owns_low h.bk.ms k e.symm; omega
    · have := RB.owns_low hrow k e.symm; omega
  · rcases hks' with rfl | ⟨rfl, hs⟩
    · exact Or.inl hx
    · rcases List.mem_append.1 hx with h' | h'
      · exact Or.inl h'
      · simp at h'; subst h'; exact Or.inr rfl
theorem ol_look (w0 wr : World) (sp : Option Addr) (l c : Nat) (L M : Value) (turn used : Nat) (ks : List RB.Kl) (h : OL w0 wr sp l c L M turn used ks) :
    Calls Tryz.prog 10 #[.pointer (some ⟨w0.heap.size + 1, 0, none⟩)] wr fun e w' => e = .returned (.bool true) ∧ Below w0.heap.size w0 w' := by
  have hks : ks.length ≤ 3000 := by have h1 := h.ek; have h2 := h.us; omega
  refine (RB.bk_look wr w0.heap.size (w0.heap.size + 1) L M 0 turn 0 used ks h.bk h.bel.size (Nat.zero_le _) (by omega) (fun j x _ hx => by have := h.low x (List.mem_of_getElem? hx); omega)).mono ?_
  rintro e w' ⟨rfl, L', M', ks2, A2, done2, hg, _, _⟩
  refine ⟨rfl, h.bel.trans ⟨hg.kept.os, hg.kept.tape, hg.kept.output, hg.kept.size, fun k hk => hg.kept.block k (Nat.lt_of_lt_of_le hk h.bel.size) ?_⟩⟩
  rintro (e | e | e | ⟨x, hx, e⟩)
  · omega
  · have := RB.owns_low h.bk.ls k e.symm; omega
  · have := RB.owns_low h.bk.ms k e.symm; omega
  · have := RB.owns_low (h.bk.rows x hx) k e.symm; omega
end Go.Proofs.YtajadmkacnfbgaaGreat
