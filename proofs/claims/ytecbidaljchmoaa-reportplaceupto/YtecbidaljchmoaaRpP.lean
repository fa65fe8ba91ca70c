import Derived.Test.YtecbidaljchmoaaRpA
import Derived.Maps.OwnIn
import Derived.Maps.OwnSet
import Derived.Maps.Range
namespace Go.Proofs.Ytecbidaljchmoaa
open Go.RowKit

/-- A line into a list that rises by counters, or onto the one of its counter. -/
def layT : List Lin → Lin → List Lin
  | [], r => [r]
  | x :: l, r => if x.c = r.c then ⟨x.c, wrap64 (x.n + r.n)⟩ :: l else if r.c < x.c then r :: x :: l else x :: layT l r
def movT (xs : List Lin) : List Lin := xs.foldl layT []
theorem movT_snoc (xs : List Lin) (x : Lin) : movT (xs ++ [x]) = layT (movT xs) x := by simp [movT]
def ltL (x y : Lin) : Prop := x.c < y.c
def lookL (l : List Lin) (k : Int) : Int := ((l.find? fun x => decide (x.c = k)).map (·.n)).getD 0
/-- The sum of the changes about one counter. -/
def sumL (xs : List Lin) (k : Int) : Int := xs.foldl (fun n x => if x.c = k then wrap64 (n + x.n) else n) 0
theorem sumL_snoc (xs : List Lin) (x : Lin) (k : Int) : sumL (xs ++ [x]) k = if x.c = k then wrap64 (sumL xs k + x.n) else sumL xs k := by simp [sumL]
theorem ex_cons {α : Type} {p : α → Prop} {a : α} {l : List α} : (∃ x, x ∈ a :: l ∧ p x) ↔ p a ∨ ∃ x, x ∈ l ∧ p x := by
  constructor
  · rintro ⟨x, hx, h⟩
    rcases List.mem_cons.1 hx with rfl | hx
    · exact Or.inl h
    · exact Or.inr ⟨x, hx, h⟩
  · rintro (h | ⟨x, hx, h⟩)
    · exact ⟨a, List.mem_cons_self .., h⟩
    · exact ⟨x, List.mem_cons_of_mem _ hx, h⟩
theorem layT_mem (l : List Lin) (r : Lin) (k : Int) : (∃ x ∈ layT l r, x.c = k) ↔ (∃ x ∈ l, x.c = k) ∨ k = r.c := by
  induction l with
  | nil => simp [layT, eq_comm]
  | cons x l ih =>
    unfold layT
    split
    · rename_i h
      simp only [ex_cons]
      constructor
      · rintro (h | h)
        · exact Or.inl (Or.inl h)
        · exact Or.inl (Or.inr h)
      · rintro ((h1 | h1) | h1)
        · exact Or.inl h1
        · exact Or.inr h1
        · exact Or.inl (by show x.c = k; rw [h1, h])
    · split
      · simp only [ex_cons]
        constructor
        · rintro (h | h | h)
          · exact Or.inr h.symm
          · exact Or.inl (Or.inl h)
          · exact Or.inl (Or.inr h)
        · rintro ((h | h) | h)
          · exact Or.inr (Or.inl h)
          · exact Or.inr (Or.inr h)
          · exact Or.inl h.symm
      · simp only [ex_cons, ih]
        constructor
        · rintro (h | h | h)
          · exact Or.inl (Or.inl h)
          · exact Or.inl (Or.inr h)
          · exact Or.inr h
        · rintro ((h | h) | h)
          · exact Or.inl h
          · exact Or.inr (Or.inl h)
          · exact Or.inr (Or.inr h)
theorem layT_from {l : List Lin} {r y : Lin} (h : y ∈ layT l r) : (∃ x ∈ l, x.c = y.c) ∨ y.c = r.c := (layT_mem l r y.c).1 ⟨y, h, rfl⟩
theorem layT_sorted {l : List Lin} (r : Lin) (h : l.Pairwise ltL) : (layT l r).Pairwise ltL := by
  induction l with
  | nil => simp [layT]
  | cons x l ih =>
    obtain ⟨h1, h2⟩ := List.pairwise_cons.1 h
    unfold layT
    split
    · exact List.pairwise_cons.2 ⟨fun y hy => h1 y hy, h2⟩
    · split
      · rename_i hlt
        refine List.pairwise_cons.2 ⟨fun y hy => ?_, h⟩
        rcases List.mem_cons.1 hy with rfl | hy
        · exact hlt
        · have := h1 y hy
          unfold ltL at *
          omega
      · rename_i hne hlt
        refine List.pairwise_cons.2 ⟨fun y hy => ?_, ih h2⟩
        rcases layT_from hy with ⟨z, hz, e⟩ | e
        · have := h1 z hz
          unfold ltL at *
          omega
        · unfold ltL
          omega
theorem lookL_none {l : List Lin} {k : Int} (h : ∀ x ∈ l, x.c ≠ k) : lookL l k = 0 := by
  have : l.find? (fun x => decide (x.c = k)) = none := List.find?_eq_none.2 fun x hx => by simp [h x hx]
  simp [lookL, this]
theorem lookL_cons (x : Lin) (l : List Lin) (k : Int) : lookL (x :: l) k = if x.c = k then x.n else lookL l k := by
  unfold lookL
  rw [List.find?_cons]
  by_cases h : x.c = k <;> simp [h]
theorem lookL_mem {l : List Lin} (hs : l.Pairwise ltL) {x : Lin} (hx : x ∈ l) : lookL l x.c = x.n := by
  induction l with
  | nil => simp at hx
  | cons y l ih =>
    obtain ⟨h1, h2⟩ := List.pairwise_cons.1 hs
    rw [lookL_cons]
    rcases List.mem_cons.1 hx with rfl | hx
    · simp
    · have := h1 x hx
      rw [if_neg, ih h2 hx]
      intro e
      unfold ltL at this
      omega
theorem layT_look {l : List Lin} (hs : l.Pairwise ltL) (r : Lin) (hr : wrap64 r.n = r.n) (k : Int) : lookL (layT l r) k = if k = r.c then wrap64 (lookL l k + r.n) else lookL l k := by
  induction l with
  | nil =>
    have e0 : lookL [] k = 0 := rfl
    show lookL [r] k = _
    rw [lookL_cons, e0, Int.zero_add, hr]
    by_cases h : r.c = k
    · rw [if_pos h, if_pos h.symm]
    · rw [if_neg h, if_neg (fun e => h e.symm)]
  | cons x l ih =>
    obtain ⟨h1, h2⟩ := List.pairwise_cons.1 hs
    unfold layT
    split
    · rename_i h
      rw [lookL_cons, lookL_cons]
      by_cases hk : x.c = k
      · simp [hk, ← h]
      · have : ¬ k = r.c := fun e3 => hk (by rw [h, e3])
        simp [hk, this]
    · rename_i hne
      split
      · rename_i hlt
        rw [lookL_cons]
        by_cases hk : k = r.c
        · have hn : ∀ y ∈ x :: l, y.c ≠ k := fun y hy e => by
            rw [hk] at e
            rcases List.mem_cons.1 hy with rfl | hy
            · exact hne e
            · have := h1 y hy
              unfold ltL at this
              omega
          rw [if_pos hk.symm, if_pos hk, lookL_none hn, Int.zero_add, hr]
        · rw [if_neg (fun e => hk e.symm), if_neg hk]
      · rw [lookL_cons, lookL_cons, ih h2]
        by_cases hk : x.c = k
        · have : ¬ k = r.c := fun e3 => hne (hk.trans e3)
          simp [hk, this]
        · simp [hk]
theorem sorted_lookL {l : List Lin} (hs : l.Pairwise ltL) {ks : List Int} (hk : ks.Pairwise (· < ·)) (hm : ∀ k, k ∈ ks ↔ ∃ x ∈ l, x.c = k) : ks.map (fun k => (⟨k, lookL l k⟩ : Lin)) = l := by
  have hkl : (l.map (·.c)).Pairwise (· < ·) := List.pairwise_map.2 (hs.imp fun h => h)
  have nd : ∀ {m : List Int}, m.Pairwise (· < ·) → m.Nodup := fun h => h.imp fun {a b} h e => by subst e; omega
  have hp : ks.Perm (l.map (·.c)) := (List.perm_ext_iff_of_nodup (nd hk) (nd hkl)).2 fun k => by rw [hm k, List.mem_map]
  have e : ks = l.map (·.c) := List.Perm.eq_of_pairwise (le := (· < ·)) (fun a b _ _ h1 h2 => by omega) hk hkl hp
  rw [e, List.map_map]
  conv => rhs; rw [← List.map_id l]
  refine List.map_congr_left fun x hx => ?_
  show (⟨x.c, lookL l x.c⟩ : Lin) = x
  rw [lookL_mem hs hx]
/-! The map of the counters, as a datum. -/
abbrev L64 := { x : Lin // LinWf x }
def numD {H : Type} : DataW H → Int
  | .lit (.int _ c) => c
  | _ => 0
def klit (k : Int) : Lit := .int .i64 k
def bumpD {H : Type} (D : DataW H) (k : Int) (n : Int) : DataW H := D.put (klit k) (.lit (.int .i64 (wrap64 (numD (D.atKey (klit k) (.lit (.int .i64 0))) + n))))
def tallyL {H : Type} (xs : List L64) : DataW H := xs.foldl (fun D x => bumpD D x.1.c x.1.n) (.map [])
theorem tallyL_snoc {H : Type} (xs : List L64) (x : L64) : tallyL (H := H) (xs ++ [x]) = bumpD (tallyL xs) x.1.c x.1.n := by simp [tallyL]
def valsL (xs : List L64) : List Lin := xs.map (·.1)
theorem valsL_snoc (xs : List L64) (x : L64) : valsL (xs ++ [x]) = valsL xs ++ [x.1] := by simp [valsL]
theorem wrap_wf {n : Int} (h : (Lit.int .i64 n).wf = true) : wrap64 n = n := by
  simp [Lit.wf, IntKind.min, IntKind.max, IntKind.signed, IntKind.bits] at h
  unfold wrap64
  omega
structure RelL {H : Type} (D : DataW H) (xs : List L64) : Prop where
  isMap : Maps.IsMap D
  sorted : (movT (valsL xs)).Pairwise ltL
  has : ∀ k : Int, Maps.has D (klit k) = true ↔ ∃ x ∈ movT (valsL xs), x.c = k
  at_ : ∀ k : Int, D.atKey (klit k) (.lit (.int .i64 0)) = .lit (.int .i64 (lookL (movT (valsL xs)) k))
  sum : ∀ k : Int, sumL (valsL xs) k = lookL (movT (valsL xs)) k
theorem key_ok (k : Int) : WideAt.IsKeyLit (klit k) := trivial
theorem klit_inj {k k' : Int} (h : klit k = klit k') : k = k' := by simpa [klit] using h
theorem RelL.step {H : Type} {D : DataW H} {xs : List L64} (h : RelL D xs) (x : L64) : RelL (bumpD D x.1.c x.1.n) (xs ++ [x]) := by
  have hw := wrap_wf x.2.2
  have e : movT (valsL (xs ++ [x])) = layT (movT (valsL xs)) x.1 := by rw [valsL_snoc, movT_snoc]
  refine ⟨h.isMap.put _ _, by rw [e]; exact layT_sorted _ h.sorted, fun k => ?_, fun k => ?_, fun k => ?_⟩
  · rw [e, layT_mem]
    by_cases hk : k = x.1.c
    · subst hk
      exact ⟨fun _ => Or.inr rfl, fun _ => Maps.has_put_same h.isMap (key_ok _) _⟩
    · have hne : klit k ≠ klit x.1.c := fun e2 => hk (klit_inj e2)
      rw [bumpD, Maps.has_put_other hne, h.has k]
      constructor
      · exact Or.inl
      · rintro (h1 | h1)
        · exact h1
        · exact (hk h1).elim
  · rw [e, layT_look h.sorted x.1 hw]
    by_cases hk : k = x.1.c
    · subst hk
      rw [if_pos rfl, bumpD, Maps.atKey_put_same h.isMap (key_ok _), h.at_]
      rfl
    · have hne : klit k ≠ klit x.1.c := fun e2 => hk (klit_inj e2)
      rw [if_neg hk, bumpD, Maps.atKey_put_other hne, h.at_ k]
  · rw [e, layT_look h.sorted x.1 hw, valsL_snoc, sumL_snoc, h.sum k]
    by_cases hk : k = x.1.c
    · rw [if_pos hk, if_pos hk.symm]
    · rw [if_neg hk, if_neg (fun e => hk e.symm)]
theorem relL_nil {H : Type} : RelL (.map [] : DataW H) [] := ⟨Maps.isMap_empty, List.Pairwise.nil, fun k => by simp [Maps.has, valsL, movT], fun k => rfl, fun k => rfl⟩
theorem relL_all {H : Type} (xs : List L64) : RelL (tallyL xs : DataW H) xs := by
  suffices h : ∀ (ys zs : List L64) (D : DataW H), RelL D ys → RelL (zs.foldl (fun D x => bumpD D x.1.c x.1.n) D) (ys ++ zs) from by simpa [tallyL] using h [] xs _ relL_nil
  intro ys zs
  induction zs generalizing ys with
  | nil => intro D h; simpa using h
  | cons x zs ih =>
    intro D h
    have := ih (ys ++ [x]) _ (h.step x)
    simpa using this
def l64s : (xs : List Lin) → (∀ x ∈ xs, LinWf x) → List L64
  | [], _ => []
  | x :: xs, h => ⟨x, h x (List.mem_cons_self ..)⟩ :: l64s xs (fun y hy => h y (List.mem_cons_of_mem _ hy))
theorem l64s_val (xs : List Lin) (h : ∀ x ∈ xs, LinWf x) : valsL (l64s xs h) = xs := by
  induction xs with
  | nil => rfl
  | cons x xs ih =>
    have := ih (fun y hy => h y (List.mem_cons_of_mem _ hy))
    simp only [valsL] at this
    simp [l64s, valsL, this]
theorem l64s_get (xs : List Lin) (h : ∀ x ∈ xs, LinWf x) : ∀ (i : Nat) (x : Lin), xs[i]? = some x → ∃ hx, (l64s xs h)[i]? = some ⟨x, hx⟩ := by
  induction xs with
  | nil => intro i x hx; simp at hx
  | cons y xs ih =>
    intro i x hx
    cases i with
    | zero => simp at hx; subst hx; exact ⟨_, rfl⟩
    | succ i => exact ih (fun z hz => h z (List.mem_cons_of_mem _ hz)) i x (by simpa using hx)
theorem l64s_len (xs : List Lin) (h : ∀ x ∈ xs, LinWf x) : (l64s xs h).length = xs.length := by
  have := congrArg List.length (l64s_val xs h)
  simpa [valsL] using this
theorem wrap_eq (n : Int) : IntKind.i64.wrap n = wrap64 n := by simp [IntKind.wrap, IntKind.bits, IntKind.signed, wrap64]; split <;> omega
end Go.Proofs.Ytecbidaljchmoaa
