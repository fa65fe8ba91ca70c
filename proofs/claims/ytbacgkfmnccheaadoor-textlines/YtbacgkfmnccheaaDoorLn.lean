import Derived.Test.YtbacgkfmnccheaaDoorMark
namespace Go.Proofs.YtbacgkfmnccheaaDoor
open Go.RowKit

/-- A list that is held. -/
structure EL where
  p : Option Addr
  n : Nat
  c : Nat
def EL.val (e : EL) : Value := .slice e.p e.n e.c
/-- What lies at a place of a list that was written over and appended to. -/
def fM (i n : Nat) : Nat → Value := fun k => .string (if k < n then mkB i 0 else mkB i 1)

structure P1 (B : Nat) (w0 w : World) (tag : Nat → Nat) (pk : Option Addr) (ck : Nat) (es : List EL) (D : Nat → Nat) : Prop where
  base : w0.heap.size = B
  below : Below B w0 w
  rowK : MR B w tag 0 22 (.slice pk es.length ck) es.length (es.map EL.val)
  each : ∀ j e, es[j]? = some e → e.n ≤ 32 ∧ ∃ xs : List ByteArray, MR B w tag (3 + j) 9 e.val e.n (xs.map Value.string) ∧ ∀ k, k < e.n → k < D j → xs[k]? = some (mkB j 0)
theorem P1.le {B : Nat} {w0 w : World} {tag : Nat → Nat} {pk : Option Addr} {ck : Nat} {es : List EL} {D : Nat → Nat} (h : P1 B w0 w tag pk ck es D) : B ≤ w.heap.size := by have := h.below.size; have := h.base; omega
theorem P1.start (w : World) : P1 w.heap.size w w (fun _ => 0) none 0 [] (fun _ => 0) :=
  ⟨rfl, Below.refl _ _, ⟨⟨rfl, Or.inl ⟨rfl, rfl⟩⟩, fun b hb => by cases hb⟩, by simp⟩
/-- New blocks alone. -/
theorem P1.grow {B : Nat} {w0 w w' : World} {tag : Nat → Nat} {pk : Option Addr} {ck : Nat} {es : List EL} {D : Nat → Nat} (h : P1 B w0 w tag pk ck es D) (hb : Below w.heap.size w w') (s : Nat) : P1 B w0 w' (fun b => if b < w.heap.size then tag b else s) pk ck es D := by
  have hS : ∀ t, Step B t w tag w' (fun b => if b < w.heap.size then tag b else s) := fun t => Step.of_below hb h.le s
  refine ⟨h.base, h.below.trans (hb.mono h.le), h.rowK.step (hS 1) (by omega), fun j e he => ?_⟩
  obtain ⟨h1, xs, h2, h3⟩ := h.each j e he
  exact ⟨h1, xs, h2.step (hS 0) (by omega), h3⟩
theorem P1.up {B : Nat} {w0 w w' : World} {tag : Nat → Nat} {pk : Option Addr} {ck : Nat} {es : List EL} {D : Nat → Nat} (h : P1 B w0 w tag pk ck es D) (hb : Below w.heap.size w w') : P1 B w0 w' tag pk ck es D := by
  refine ⟨h.base, h.below.trans (hb.mono h.le), h.rowK.below hb, fun j e he => ?_⟩
  obtain ⟨h1, xs, h2, h3⟩ := h.each j e he
  exact ⟨h1, xs, h2.below hb, h3⟩
/-- Two lists more. -/
theorem P1.add {B : Nat} {w0 w wa : World} {tag taga : Nat → Nat} {pk : Option Addr} {ck : Nat} {es : List EL} {D : Nat → Nat} (h : P1 B w0 w tag pk ck es D) (hD : D = fun _ => 0) {e1 e2 : EL} (n1 : e1.n ≤ 32) (n2 : e2.n ≤ 32) {x1 x2 : List ByteArray}
    (h1 : MR B w tag (3 + es.length) 9 e1.val e1.n (x1.map Value.string)) (h2 : MR B w tag (3 + (es.length + 1)) 9 e2.val e2.n (x2.map Value.string)) {g cap : Nat}
    (ha : MR B wa taga 0 22 (.slice (some ⟨g, 0, none⟩) (es.length + 2) cap) (es.length + 2) (es.map EL.val ++ [e1.val, e2.val])) (hs : Step B 0 w tag wa taga) : P1 B w0 wa taga (some ⟨g, 0, none⟩) cap (es ++ [e1, e2]) D := by
  refine ⟨h.base, h.below.trans hs.low, ?_, fun j e he => ?_⟩
  · rw [show (es ++ [e1, e2]).length = es.length + 2 by simp, List.map_append]; exact ha
  · by_cases hj : j < es.length
    · rw [List.getElem?_append_left hj] at he
      obtain ⟨q1, xs, q2, q3⟩ := h.each j e he
      exact ⟨q1, xs, q2.step hs (by omega), q3⟩
    · rw [List.getElem?_append_right (by omega)] at he
      have hjj : j = es.length ∨ j = es.length + 1 := by
        have := (List.getElem?_eq_some_iff.1 he).1
        simp at this; omega
      rcases hjj with rfl | rfl
      · simp at he; subst he
        exact ⟨n1, x1, h1.step hs (by omega), fun k _ hk => by rw [hD] at hk; simp at hk⟩
      · simp at he; subst he
        exact ⟨n2, x2, h2.step hs (by omega), fun k _ hk => by rw [hD] at hk; simp at hk⟩
/-- One place is written over. -/
theorem P1.write {B : Nat} {w0 w : World} {tag : Nat → Nat} {pk : Option Addr} {ck : Nat} {es : List EL} {i k : Nat} (h : P1 B w0 w tag pk ck es (fun j => if j < i then 32 else if j = i then k else 0)) {e : EL} (he : es[i]? = some e) (hk : k < e.n) :
    ∃ g, e.p = some ⟨g, 0, none⟩ ∧ (∃ v, w.cell? ⟨g, k, none⟩ = some v) ∧ w.frozen? ⟨g, k, none⟩ = false ∧ P1 B w0 (w.setCell ⟨g, k, none⟩ (.string (mkB i 0))) tag pk ck es (fun j => if j < i then 32 else if j = i then k + 1 else 0) := by
  obtain ⟨q1, xs, q2, q3⟩ := h.each i e he
  have hl : xs.length = e.n := by have := q2.row.1; simp at this; exact this
  have hg : (xs.map Value.string)[k]? = some (.string (xs[k]'(by omega))) := by simp [show k < xs.length by omega]
  obtain ⟨p, n, c⟩ := e
  simp only [EL.val] at q2 hk
  obtain ⟨g, rfl, hc, hf⟩ := q2.get hg
  refine ⟨g, rfl, ⟨_, hc⟩, hf, ?_⟩
  obtain ⟨r1, r2⟩ := q2.write (k := k) (.string (mkB i 0))
  refine ⟨h.base, h.below.trans r2.low, h.rowK.step r2 (by omega), fun j e' he' => ?_⟩
  by_cases hji : j = i
  · subst hji
    rw [he] at he'; cases he'
    refine ⟨q1, xs.set k (mkB j 0), by rw [List.map_set]; exact r1, fun k' hk' hd => ?_⟩
    simp at hd
    by_cases hkk : k = k'
    · subst hkk
      simp only at hl
      rw [List.getElem?_set_self (by omega)]
    · rw [List.getElem?_set_ne hkk]
      exact q3 k' hk' (by simp; omega)
  · obtain ⟨s1, ys, s2, s3⟩ := h.each j e' he'
    refine ⟨s1, ys, s2.step r2 (by omega), fun k' hk' hd => s3 k' hk' ?_⟩
    simp [hji] at hd ⊢
    exact hd
theorem P1.next {B : Nat} {w0 w : World} {tag : Nat → Nat} {pk : Option Addr} {ck : Nat} {es : List EL} {i k : Nat} (h : P1 B w0 w tag pk ck es (fun j => if j < i then 32 else if j = i then k else 0)) {e : EL} (he : es[i]? = some e) (hk : e.n ≤ k) : P1 B w0 w tag pk ck es (fun j => if j < i + 1 then 32 else 0) := by
  refine ⟨h.base, h.below, h.rowK, fun j e' he' => ?_⟩
  obtain ⟨s1, ys, s2, s3⟩ := h.each j e' he'
  refine ⟨s1, ys, s2, fun k' hk' hd => s3 k' hk' ?_⟩
  by_cases hj : j < i
  · simp [hj]; omega
  · by_cases hji : j = i
    · subst hji
      rw [he] at he'; cases he'
      simp; omega
    · have : ¬ j < i + 1 := by omega
      simp [this] at hd
theorem P1.begin {B : Nat} {w0 w : World} {tag : Nat → Nat} {pk : Option Addr} {ck : Nat} {es : List EL} {i : Nat} (h : P1 B w0 w tag pk ck es (fun j => if j < i then 32 else 0)) : P1 B w0 w tag pk ck es (fun j => if j < i then 32 else if j = i then 0 else 0) :=
  ⟨h.base, h.below, h.rowK, fun j e he => by
    obtain ⟨s1, ys, s2, s3⟩ := h.each j e he
    refine ⟨s1, ys, s2, fun k' hk' hd => s3 k' hk' ?_⟩
    by_cases hj : j < i
    · simp [hj] at hd ⊢; exact hd
    · simp [hj] at hd⟩

/-- The lists, what lies behind them, in three rows. -/
structure P3 (B : Nat) (w0 w : World) (tag : Nat → Nat) (pk : Option Addr) (ck : Nat) (es : List EL) (pf : Option Addr) (cf : Nat) (fs : List EL) (pm : Option Addr) (cm : Nat) (ms : List EL) : Prop where
  base : w0.heap.size = B
  below : Below B w0 w
  rowK : MR B w tag 0 22 (.slice pk es.length ck) es.length (es.map EL.val)
  rowF : MR B w tag 1 22 (.slice pf fs.length cf) fs.length (fs.map EL.val)
  rowM : MR B w tag 2 22 (.slice pm ms.length cm) ms.length (ms.map EL.val)
  kept : ∀ j e, es[j]? = some e → e.n ≤ 32 ∧ MR B w tag (3 + j) 9 e.val e.n (fr (fM j e.n) e.n)
  first : ∀ j f e, fs[j]? = some f → es[j]? = some e → f.n = e.n + 1 ∧ MR B w tag (3 + j) 9 f.val f.n (fr (fM j e.n) f.n)
  more : ∀ j f e, ms[j]? = some f → es[j]? = some e → f.n = e.n + 70 ∧ MR B w tag (3 + j) 9 f.val f.n (fr (fM j e.n) f.n)
theorem P3.le {B : Nat} {w0 w : World} {tag : Nat → Nat} {pk : Option Addr} {ck : Nat} {es : List EL} {pf : Option Addr} {cf : Nat} {fs : List EL} {pm : Option Addr} {cm : Nat} {ms : List EL} (h : P3 B w0 w tag pk ck es pf cf fs pm cm ms) : B ≤ w.heap.size := by have := h.below.size; have := h.base; omega
theorem fr_all {xs : List ByteArray} {j n : Nat} (hl : xs.length = n) (h : ∀ k, k < n → xs[k]? = some (mkB j 0)) : xs.map Value.string = fr (fM j n) n := by
  apply List.ext_getElem?
  intro i
  by_cases hi : i < n
  · rw [List.getElem?_map, h i hi, fr_get _ hi]; simp [fM, hi]
  · rw [List.getElem?_eq_none (by simp; omega), List.getElem?_eq_none (by rw [fr_len]; omega)]
theorem P3.start {B : Nat} {w0 w : World} {tag : Nat → Nat} {pk : Option Addr} {ck : Nat} {es : List EL} (h : P1 B w0 w tag pk ck es (fun j => if j < es.length then 32 else 0)) : P3 B w0 w tag pk ck es none 0 [] none 0 [] := by
  refine ⟨h.base, h.below, h.rowK, ⟨⟨rfl, Or.inl ⟨rfl, rfl⟩⟩, fun b hb => by cases hb⟩, ⟨⟨rfl, Or.inl ⟨rfl, rfl⟩⟩, fun b hb => by cases hb⟩, fun j e he => ?_, by simp, by simp⟩
  obtain ⟨s1, ys, s2, s3⟩ := h.each j e he
  have hl : ys.length = e.n := by have := s2.row.1; simp at this; exact this
  have hj : j < es.length := (List.getElem?_eq_some_iff.1 he).1
  rw [fr_all hl (fun k hk => s3 k hk (by simp [hj]; omega))] at s2
  exact ⟨s1, s2⟩
theorem P3.up {B : Nat} {w0 w w' : World} {tag : Nat → Nat} {pk : Option Addr} {ck : Nat} {es : List EL} {pf : Option Addr} {cf : Nat} {fs : List EL} {pm : Option Addr} {cm : Nat} {ms : List EL} (h : P3 B w0 w tag pk ck es pf cf fs pm cm ms) (hb : Below w.heap.size w w') : P3 B w0 w' tag pk ck es pf cf fs pm cm ms :=
  ⟨h.base, h.below.trans (hb.mono h.le), h.rowK.below hb, h.rowF.below hb, h.rowM.below hb, fun j e he => ⟨(h.kept j e he).1, (h.kept j e he).2.below hb⟩, fun j f e hf he => ⟨(h.first j f e hf he).1, (h.first j f e hf he).2.below hb⟩, fun j f e hf he => ⟨(h.more j f e hf he).1, (h.more j f e hf he).2.below hb⟩⟩
/-- A list of one place is appended to. -/
theorem P3.appG {B : Nat} {w0 w wa : World} {tag taga : Nat → Nat} {pk : Option Addr} {ck : Nat} {es : List EL} {pf : Option Addr} {cf : Nat} {fs : List EL} {pm : Option Addr} {cm : Nat} {ms : List EL} (h : P3 B w0 w tag pk ck es pf cf fs pm cm ms) {i : Nat} {e0 : EL} (he0 : es[i]? = some e0)
    (hs : Step B (3 + i) w tag wa taga) (hk : ∀ u k, MR B w tag (3 + i) 9 u k (fr (fM i e0.n) k) → MR B wa taga (3 + i) 9 u k (fr (fM i e0.n) k)) : P3 B w0 wa taga pk ck es pf cf fs pm cm ms := by
  have hh : ∀ j (e : EL) u k, es[j]? = some e → MR B w tag (3 + j) 9 u k (fr (fM j e.n) k) → MR B wa taga (3 + j) 9 u k (fr (fM j e.n) k) := fun j e u k he hm => by
    by_cases hji : j = i
    · subst hji; rw [he0] at he; cases he; exact hk u k hm
    · exact hm.step hs (by omega)
  exact ⟨h.base, h.below.trans hs.low, h.rowK.step hs (by omega), h.rowF.step hs (by omega), h.rowM.step hs (by omega), fun j e he => ⟨(h.kept j e he).1, hh j e _ _ he (h.kept j e he).2⟩, fun j f e hf he => ⟨(h.first j f e hf he).1, hh j e _ _ he (h.first j f e hf he).2⟩, fun j f e hf he => ⟨(h.more j f e hf he).1, hh j e _ _ he (h.more j f e hf he).2⟩⟩
/-- One more of the first ones. -/
theorem P3.appF {B : Nat} {w0 w wa : World} {tag taga : Nat → Nat} {pk : Option Addr} {ck : Nat} {es : List EL} {pf : Option Addr} {cf : Nat} {fs : List EL} {pm : Option Addr} {cm : Nat} {ms : List EL} (h : P3 B w0 w tag pk ck es pf cf fs pm cm ms) {e0 f0 : EL} (he0 : es[fs.length]? = some e0) (hn : f0.n = e0.n + 1) (hf0 : MR B w tag (3 + fs.length) 9 f0.val f0.n (fr (fM fs.length e0.n) f0.n)) {g cap : Nat}
    (ha : MR B wa taga 1 22 (.slice (some ⟨g, 0, none⟩) (fs.length + 1) cap) (fs.length + 1) (fs.map EL.val ++ [f0.val])) (hs : Step B 1 w tag wa taga) : P3 B w0 wa taga pk ck es (some ⟨g, 0, none⟩) cap (fs ++ [f0]) pm cm ms := by
  refine ⟨h.base, h.below.trans hs.low, h.rowK.step hs (by omega), ?_, h.rowM.step hs (by omega), fun j e he => ⟨(h.kept j e he).1, (h.kept j e he).2.step hs (by omega)⟩, fun j f e hf he => ?_, fun j f e hf he => ⟨(h.more j f e hf he).1, (h.more j f e hf he).2.step hs (by omega)⟩⟩
  · rw [show (fs ++ [f0]).length = fs.length + 1 by simp, List.map_append]; exact ha
  · by_cases hj : j < fs.length
    · rw [List.getElem?_append_left hj] at hf
      exact ⟨(h.first j f e hf he).1, (h.first j f e hf he).2.step hs (by omega)⟩
    · have hjj : j = fs.length := by
        have := (List.getElem?_eq_some_iff.1 hf).1
        simp at this; omega
      subst hjj
      simp at hf
      subst hf
      rw [he0] at he; cases he
      exact ⟨hn, hf0.step hs (by omega)⟩
theorem P3.appM {B : Nat} {w0 w wa : World} {tag taga : Nat → Nat} {pk : Option Addr} {ck : Nat} {es : List EL} {pf : Option Addr} {cf : Nat} {fs : List EL} {pm : Option Addr} {cm : Nat} {ms : List EL} (h : P3 B w0 w tag pk ck es pf cf fs pm cm ms) {e0 f0 : EL} (he0 : es[ms.length]? = some e0) (hn : f0.n = e0.n + 70) (hf0 : MR B w tag (3 + ms.length) 9 f0.val f0.n (fr (fM ms.length e0.n) f0.n)) {g cap : Nat}
    (ha : MR B wa taga 2 22 (.slice (some ⟨g, 0, none⟩) (ms.length + 1) cap) (ms.length + 1) (ms.map EL.val ++ [f0.val])) (hs : Step B 2 w tag wa taga) : P3 B w0 wa taga pk ck es pf cf fs (some ⟨g, 0, none⟩) cap (ms ++ [f0]) := by
  refine ⟨h.base, h.below.trans hs.low, h.rowK.step hs (by omega), h.rowF.step hs (by omega), ?_, fun j e he => ⟨(h.kept j e he).1, (h.kept j e he).2.step hs (by omega)⟩, fun j f e hf he => ⟨(h.first j f e hf he).1, (h.first j f e hf he).2.step hs (by omega)⟩, fun j f e hf he => ?_⟩
  · rw [show (ms ++ [f0]).length = ms.length + 1 by simp, List.map_append]; exact ha
  · by_cases hj : j < ms.length
    · rw [List.getElem?_append_left hj] at hf
      exact ⟨(h.more j f e hf he).1, (h.more j f e hf he).2.step hs (by omega)⟩
    · have hjj : j = ms.length := by
        have := (List.getElem?_eq_some_iff.1 hf).1
        simp at this; omega
      subst hjj
      simp at hf
      subst hf
      rw [he0] at he; cases he
      exact ⟨hn, hf0.step hs (by omega)⟩
end Go.Proofs.YtbacgkfmnccheaaDoor
