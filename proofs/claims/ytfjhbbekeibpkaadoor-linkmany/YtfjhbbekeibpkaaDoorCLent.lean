import Derived.Test.YtfjhbbekeibpkaaDoorCRef
import Derived.Test.YtfjhbbekeibpkaaDoorCPlayed
import Derived.Laws.BytesArg
import Derived.Lib.JoinLaws
namespace Go.Proofs.YtfjhbbekeibpkaaDoor.C
open Go.RowKit

theorem lie_row {w : World} {b : Nat} {C : Array Value} {xs : List Nat} {t : TypeId} {fr : Nat × Nat} (h : w.heap[b]? = some (.cells C t fr)) (hs : ∀ x ∈ xs, x < 256) (hc : ∀ j, j < xs.length → C[j]? = some (.int .u8 (xs.getD j 0 : Nat))) : Bytes w (some ⟨b, 0, none⟩) xs :=
  ⟨hs, Or.inr ⟨b, 0, rfl, (Array.getElem?_eq_some_iff.1 h).1, fun j hj => by simp only [World.cell?, h, Nat.zero_add]; exact hc j hj⟩⟩

/-- A list of bytes of the call's own. -/
structure Own (B : Nat) (w : World) (g cap : Nat) (xs : List Nat) : Prop where
  base : B ≤ g
  cap : xs.length ≤ cap
  small : ∀ x ∈ xs, x < 256
  row : ∃ C : Array Value, w.heap[g]? = some (.cells C 5 (0, 0)) ∧ ∀ j, j < xs.length → C[j]? = some (.int .u8 (xs.getD j 0 : Nat))

theorem Own.bytes {B : Nat} {w : World} {g cap : Nat} {xs : List Nat} (h : Own B w g cap xs) : Bytes w (some ⟨g, 0, none⟩) xs := by
  obtain ⟨C, hC, hc⟩ := h.row
  exact lie_row hC h.small hc
theorem Own.lt {B : Nat} {w : World} {g cap : Nat} {xs : List Nat} (h : Own B w g cap xs) : g < w.heap.size := by
  obtain ⟨C, hC, _⟩ := h.row
  exact lt_of_block hC
theorem Own.below {B B' : Nat} {w w' : World} {g cap : Nat} {xs : List Nat} (h : Own B w g cap xs) (hb : Below B' w w') (hg : g < B') : Own B w' g cap xs := by
  obtain ⟨C, hC, hc⟩ := h.row
  exact ⟨h.base, h.cap, h.small, C, (hb.block g hg).trans hC, hc⟩
theorem Own.mono {B B' : Nat} {w : World} {g cap : Nat} {xs : List Nat} (h : Own B w g cap xs) (hb : B' ≤ B) : Own B' w g cap xs := ⟨Nat.le_trans hb h.base, h.cap, h.small, h.row⟩
theorem Own.cell {B : Nat} {w : World} {g cap : Nat} {xs : List Nat} (h : Own B w g cap xs) (j : Nat) (hj : j < xs.length) : w.cell? ⟨g, j, none⟩ = some (.int .u8 (xs.getD j 0 : Nat)) ∧ w.frozen? ⟨g, j, none⟩ = false := by
  obtain ⟨C, hC, hc⟩ := h.row
  exact ⟨by simp only [World.cell?, hC]; exact hc j hj, by simp only [World.frozen?, hC]; simp⟩
theorem Own.set {B : Nat} {w : World} {g cap : Nat} {xs : List Nat} (h : Own B w g cap xs) (i y : Nat) (hy : y < 256) : Own B (w.setCell ⟨g, i, none⟩ (.int .u8 (y : Int))) g cap (xs.set i y) := by
  obtain ⟨C, hC, hc⟩ := h.row
  refine ⟨h.base, by simpa using h.cap, ?_, _, heap_setCell_same _ _ _ _ _ _ hC, ?_⟩
  · intro x hx
    rcases List.mem_or_eq_of_mem_set hx with h' | h'
    · exact h.small x h'
    · rw [h']; exact hy
  · intro j hj
    simp at hj
    have hcj := hc j hj
    have hjs : j < C.size := (Array.getElem?_eq_some_iff.1 hcj).1
    by_cases hij : i = j
    · subst hij
      simp [List.getD, hj, hjs]
    · rw [Array.getElem?_setIfInBounds_ne hij, hcj]
      simp [List.getD, List.getElem?_set_ne hij]

theorem bytes_cells {w : World} {g o : Nat} {xs : List Nat} (hx : Bytes w (some ⟨g, o, none⟩) xs) : ∀ j u, (vals xs)[j]? = some u → w.cell? ((⟨g, o, none⟩ : Addr).add j) = some u := by
  intro j u hj
  simp only [vals, List.getElem?_map, Option.map_eq_some_iff] at hj
  obtain ⟨x, hx', rfl⟩ := hj
  have hlt : j < xs.length := (List.getElem?_eq_some_iff.1 hx').1
  rcases hx.lie with h0 | ⟨g', o', e, hg, hc⟩
  · subst h0; simp at hlt
  · cases e
    have := hc j hlt
    simp only [List.getD, hx', Option.getD_some] at this
    unfold Addr.add
    by_cases h0 : j = 0
    · subst h0; simpa using this
    · simpa [h0] using this

theorem own_of {w : World} {B g n c : Nat} {xs : List Nat} (hl : xs.length = n) (hs : ∀ x ∈ xs, x < 256) (h : w.ownsRow B 5 1 (.slice (some ⟨g, 0, none⟩) n c) n (vals xs)) : Own B w g c xs := by
  rcases h.2 with ⟨h1, _⟩ | ⟨g', cap, cur, h1, h2, hg, h3, _, h5, ht⟩
  · cases h1
  · cases h1
    refine ⟨h2, by omega, hs, cur, hg, fun j hj => ?_⟩
    have : (vals xs)[j]? = some (.int .u8 (xs.getD j 0 : Nat)) := by simp [vals, List.getD, hj]
    rw [← ht, List.getElem?_take, if_pos (by omega)] at this
    simpa using this

theorem nil_owns (w : World) (B : Nat) : w.ownsRow B 5 1 (.slice none 0 0) 0 [] := ⟨rfl, Or.inl ⟨rfl, rfl⟩⟩

/-- The marks behind what is lent. -/
def marks : List Nat := (List.range 70).map fun i => 165 - i
theorem marks_len : marks.length = 70 := by decide
theorem marks_small : ∀ x ∈ marks, x < 256 := by decide
theorem marks_at : ∀ i, i < 70 → marks.getD i 0 = 165 - i := by decide
theorem marks_take (i : Nat) (h : i < 70) : marks.take (i + 1) = marks.take i ++ [165 - i] := by
  rw [take_snoc marks i (by rw [marks_len]; exact h), marks_at i h]

theorem vals_one (xs : List Nat) : ∀ u ∈ vals xs, u.oneCell' = true := fun u hu => by
  simp only [vals, List.mem_map] at hu
  obtain ⟨x, _, rfl⟩ := hu
  rfl
theorem vals_len (xs : List Nat) : (vals xs).length = xs.length := by simp [vals]
theorem vals_app (xs ys : List Nat) : vals (xs ++ ys) = vals xs ++ vals ys := by simp [vals]

theorem owns_le {w : World} {B n cap g : Nat} {t : TypeId} {ys : List Value} (h : w.ownsRow B t 1 (.slice (some ⟨g, 0, none⟩) n cap) n ys) : n ≤ cap ∧ B ≤ g ∧ g < w.heap.size := by
  rcases h.2 with ⟨h1, _⟩ | ⟨g', cap', cur, h1, h2, hg, h3, _⟩
  · cases h1
  · cases h1; exact ⟨h3, h2, lt_of_block hg⟩

/-- 'append(l, b...)', l not nil, b any bytes, none too. -/
theorem wpList_append_bytes {w : World} {ops : Array Oper} {rest : List Oper} {o : Oper} {a : Act} {Q : Exit → Act → World → Prop} (hgd : o.guard = none) (s x : Operand)
    (ho : o.op = .call { callee := .builtin .append, args := #[s, x], argTypes := #[27, 27] }) (B g0 n cap0 : Nat) (ys : List Value)
    (hs : a.eval s = .slice (some ⟨g0, 0, none⟩) n cap0) (hown : w.ownsRow B 5 1 (.slice (some ⟨g0, 0, none⟩) n cap0) n ys) (sp : Option Addr) (m c : Nat) (xs : List Nat) (hx : a.eval x = .slice sp m c) (hm : xs.length = m) (hb : Bytes w sp xs)
    (h63 : n + m ≤ 140737488355328) (hB : B ≤ w.heap.size)
    (h : ∀ g cap w', w'.ownsRow B 5 1 (.slice (some ⟨g, 0, none⟩) (n + m) cap) (n + m) (ys ++ vals xs) → w.grownBy w' (some g0) → (g = g0 ∨ g = w.heap.size) → wpList Tryd.prog ops Q rest (a.put o.dst (.slice (some ⟨g, 0, none⟩) (n + m) cap)) w') :
    wpList Tryd.prog ops Q (o :: rest) a w := by
  obtain ⟨i0, hi, hz0, hz1, hz2⟩ := info_parts Tryd.info5'
  rcases hb.lie with h0 | ⟨g, o', rfl, hg, hc⟩
  · subst h0
    simp at hm
    subst hm
    refine wpList_append_zero hgd s x 27 ho 5 i0 Tryd.underlying27 hi _ n cap0 (owns_le hown).1 hs sp c hx ?_
    exact h g0 cap0 w (by simpa [vals] using hown) ⟨rfl, rfl, rfl, Nat.le_refl _, fun _ _ _ => rfl⟩ (Or.inl rfl)
  · by_cases h0 : m = 0
    · subst h0
      have hxs : xs = [] := List.eq_nil_of_length_eq_zero hm
      subst hxs
      refine wpList_append_zero hgd s x 27 ho 5 i0 Tryd.underlying27 hi _ n cap0 (owns_le hown).1 hs _ c hx ?_
      exact h g0 cap0 w (by simpa [vals] using hown) ⟨rfl, rfl, rfl, Nat.le_refl _, fun _ _ _ => rfl⟩ (Or.inl rfl)
    · refine wpList_append_lies _ hgd s x 27 ho B 5 i0 (.int .u8 0) 1 1 Tryd.underlying27 hi hz0 hz1 hz2 rfl (by omega) _ n ys hs hown ⟨g, o', none⟩ m c (vals xs) hx (by rw [vals_len, hm, Nat.mul_one]) (bytes_cells hb) (vals_one xs) (by omega) (by unfold maxLen; omega) (by omega) hB _ rfl ?_
      intro g' cap w' h1 h2 h3 _
      refine h g' cap w' h1 h2 ?_
      rcases h3 with h3 | h3
      · left; simpa [Value.ownBlock] using h3.symm
      · exact Or.inr h3

theorem run_make_lent (w : World) (m : Nat) (hm : m ≤ 140737488351400) :
    ∃ w', (Instr.makeSlice 27 (.int .i64 0) (.int .i64 (m : Int))).run Tryd.prog w = .ok (.slice (some ⟨w.heap.size, 0, none⟩) 0 m) w' ∧ w'.ownsRow w.heap.size 5 1 (.slice (some ⟨w.heap.size, 0, none⟩) 0 m) 0 [] ∧ Below w.heap.size w w' := by
  refine ⟨_, run_make_room (P := Tryd.prog) 27 5 (.int .u8 0) 1 Tryd.underlying27 Tryd.info5' rfl .i64 .i64 m (by omega) (by omega) w, World.ownsRow_made w _ m (Nat.le_refl _) (by unfold maxLen; omega) ?_, (Below.refl _ _).alloc (Nat.le_refl _) _⟩
  rw [made_rep]; simp

/-- What was lent, or made, with what lies behind it. -/
theorem own_full {w : World} {B g n c : Nat} {xs : List Nat} (hs : ∀ x ∈ xs, x < 256) (h : w.ownsRow B 5 1 (.slice (some ⟨g, 0, none⟩) n c) n (vals xs)) : Own B w g c xs := by
  have hl : xs.length = n := by have := h.1; rw [vals_len] at this; omega
  exact own_of hl hs h

end Go.Proofs.YtfjhbbekeibpkaaDoor.C
