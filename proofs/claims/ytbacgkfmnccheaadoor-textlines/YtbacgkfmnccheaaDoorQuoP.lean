import Derived.Test.YtbacgkfmnccheaaDoorWordsA
namespace Go.Proofs.YtbacgkfmnccheaaDoor
open Go.RowKit

/-- A text that may stand in a line, in quotes. -/
def esc : List Nat → List Nat
  | [] => []
  | c :: r => (if c = 34 ∨ c = 92 then [92, c] else [c]) ++ esc r
def quo (l : List Nat) : List Nat := 34 :: (esc l ++ [34])

/-- A byte that may stand there. -/
def may1 (c : Nat) : Prop := 32 ≤ c ∧ c < 127

/-- What wrd makes of one more byte. -/
theorem wrd_go (c : Nat) (l : List Nat) (a : Nat) (word : List Nat) (b : Nat) (wd : List Nat) (hb : fol a c = b) (h0 : ¬ (b = 0 ∧ a ≠ 0)) (hw : word ++ (if std a b = true then [c] else []) = wd) : wrd (c :: l) a word = wrd l b wd := by
  rw [wrd, hb, if_neg h0, if_neg h0, hw]
theorem wrd_end (c : Nat) (l : List Nat) (a : Nat) (word : List Nat) (hb : fol a c = 0) (h0 : a ≠ 0) : wrd (c :: l) a word = (word :: (wrd l 0 []).1, (wrd l 0 []).2) := by
  have hs : std a 0 = false := by simp [std]
  rw [wrd, hb, if_pos ⟨rfl, h0⟩, if_pos ⟨rfl, h0⟩, hs]
  rfl

theorem wrd_esc : ∀ (w : List Nat) (l acc : List Nat), (∀ x ∈ w, may1 x) → wrd (esc w ++ 34 :: l) 2 acc = wrd l 4 (acc ++ w)
  | [], l, acc, _ => by
    rw [esc, List.nil_append, wrd_go 34 l 2 acc 4 acc (by decide) (by omega) (by rw [show std 2 4 = false by decide]; simp), List.append_nil]
  | c :: r, l, acc, h => by
    have hc := h c (List.mem_cons_self ..)
    have hr : ∀ x ∈ r, may1 x := fun x hx => h x (List.mem_cons_of_mem _ hx)
    unfold may1 at hc
    rw [esc]
    by_cases hq : c = 34 ∨ c = 92
    · rw [if_pos hq]
      have e1 : fol 2 92 = 3 := by decide
      have e2 : fol 3 c = 2 := by rcases hq with rfl | rfl <;> decide
      simp only [List.cons_append, List.nil_append]
      rw [wrd_go 92 _ 2 acc 3 acc e1 (by omega) (by rw [show std 2 3 = false by decide]; simp),
        wrd_go c _ 3 acc 2 (acc ++ [c]) e2 (by omega) (by rw [show std 3 2 = true by decide]; simp), wrd_esc r l _ hr]
      simp
    · rw [if_neg hq]
      have e1 : fol 2 c = 2 := by
        unfold fol folQ
        rw [if_neg (by omega), if_neg (by omega), if_pos rfl, if_neg (by omega), if_neg (by omega)]
      simp only [List.cons_append, List.nil_append]
      rw [wrd_go c _ 2 acc 2 (acc ++ [c]) e1 (by omega) (by rw [show std 2 2 = true by decide]; simp), wrd_esc r l _ hr]
      simp

theorem blank_fol (c a : Nat) (h : isBlank c = true) (ha : a = 0 ∨ a = 4) : fol a c = 0 := by
  have hc : c = 32 ∨ c = 9 := by simpa [isBlank] using h
  rcases hc with rfl | rfl <;> rcases ha with rfl | rfl <;> decide

theorem wrd_blanks : ∀ (g : List Nat) (l : List Nat), (∀ x ∈ g, isBlank x = true) → wrd (g ++ l) 0 [] = wrd l 0 []
  | [], l, _ => rfl
  | c :: g, l, h => by
    rw [List.cons_append, wrd_go c _ 0 [] 0 [] (blank_fol c 0 (h c (List.mem_cons_self ..)) (Or.inl rfl)) (by omega) (by rw [show std 0 0 = false by decide]; simp), wrd_blanks g l (fun x hx => h x (List.mem_cons_of_mem _ hx))]

/-- Blanks, a quoted word, again and again. -/
def lineOf : List (List Nat × List Nat) → List Nat
  | [] => []
  | (g, w) :: r => g ++ (quo w ++ lineOf r)

def Item (x : List Nat × List Nat) : Prop := x.1 ≠ [] ∧ (∀ c ∈ x.1, isBlank c = true) ∧ (∀ c ∈ x.2, may1 c)

theorem wrd_line : ∀ (r : List (List Nat × List Nat)), (∀ x ∈ r, Item x) → wrd (lineOf r ++ [32]) 0 [] = (r.map Prod.snd, 0) ∧ ∀ acc, wrd (lineOf r ++ [32]) 4 acc = (acc :: r.map Prod.snd, 0)
  | [], _ => by
    refine ⟨by decide, fun acc => ?_⟩
    rw [lineOf, List.nil_append, wrd_end 32 [] 4 acc (by decide) (by omega)]
    rfl
  | (g, w) :: r, h => by
    obtain ⟨h1, h2, h3⟩ := h (g, w) (List.mem_cons_self ..)
    obtain ⟨_, i2⟩ := wrd_line r (fun x hx => h x (List.mem_cons_of_mem _ hx))
    have key : wrd (quo w ++ (lineOf r ++ [32])) 0 [] = (w :: r.map Prod.snd, 0) := by
      rw [quo, List.cons_append, wrd_go 34 _ 0 [] 2 [] (by decide) (by omega) (by rw [show std 0 2 = false by decide]; simp), List.append_assoc, List.singleton_append, wrd_esc w _ [] h3, List.nil_append]
      exact i2 w
    have e : lineOf ((g, w) :: r) ++ [32] = g ++ (quo w ++ (lineOf r ++ [32])) := by simp [lineOf]
    rw [e]
    refine ⟨by rw [wrd_blanks g _ h2, key]; rfl, fun acc => ?_⟩
    cases g with
    | nil => exact absurd rfl h1
    | cons c g =>
      rw [List.cons_append, wrd_end c _ 4 acc (blank_fol c 4 (h2 c (List.mem_cons_self ..)) (Or.inr rfl)) (by omega), wrd_blanks g _ (fun x hx => h2 x (List.mem_cons_of_mem _ hx)), key]
      rfl

end Go.Proofs.YtbacgkfmnccheaaDoor
