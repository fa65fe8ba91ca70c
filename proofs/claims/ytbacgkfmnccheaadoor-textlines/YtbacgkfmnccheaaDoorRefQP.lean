import Derived.Test.YtbacgkfmnccheaaDoorQuoP
namespace Go.Proofs.YtbacgkfmnccheaaDoor
open Go.RowKit

/-- The document's Words, one byte: the place, the word, is it bad, what is told. -/
structure RS where
  a : Nat
  word : List Nat
  bad : Bool
  out : List (List Nat)

def ctl (c : Nat) : Bool := (decide (c < 32) && c != 9) || c == 127
def rst (s : RS) (c : Nat) : RS :=
  if s.a = 3 then ⟨2, s.word ++ [c], s.bad || ctl c || (c != 34 && c != 92), s.out⟩
  else if s.a = 2 ∧ c = 92 then ⟨3, s.word, s.bad || ctl c, s.out⟩
  else if s.a = 2 ∧ c = 34 then ⟨4, [], s.bad || ctl c, s.out ++ [s.word]⟩
  else if s.a = 2 then ⟨2, s.word ++ [c], s.bad || ctl c, s.out⟩
  else if isBlank c = true ∧ s.a = 1 then ⟨0, [], s.bad || ctl c, s.out ++ [s.word]⟩
  else if isBlank c = true then ⟨0, s.word, s.bad || ctl c, s.out⟩
  else if s.a = 0 ∧ c = 34 then ⟨2, s.word, s.bad || ctl c, s.out⟩
  else if s.a = 4 ∨ c = 34 ∨ c = 92 then ⟨s.a, s.word, true, s.out⟩
  else ⟨1, s.word ++ [c], s.bad || ctl c, s.out⟩

theorem rst_bad (s : RS) (c : Nat) (h : s.bad = true) : (rst s c).bad = true := by
  unfold rst
  repeat' split
  all_goals simp [h]

theorem rfold_bad : ∀ (l : List Nat) (s : RS), s.bad = true → (l.foldl rst s).bad = true
  | [], _, h => h
  | c :: l, s, h => rfold_bad l _ (rst_bad s c h)

theorem wrd_five : ∀ (l acc : List Nat), (wrd l 5 acc).2 = 5
  | [], _ => rfl
  | c :: l, acc => by
    have e : fol 5 c = 5 := by
      unfold fol
      split
      · rfl
      · simp
    rw [wrd_go c l 5 acc 5 (acc ++ (if std 5 5 = true then [c] else [])) e (by omega) rfl]
    exact wrd_five l _

/-- What the document tells and what package text tells. -/
def Same (a : Nat) (word acc : List Nat) (out : List (List Nat)) (l : List Nat) : Prop :=
  ((((l.foldl rst ⟨a, word, false, out⟩).bad = true ∨ (l.foldl rst ⟨a, word, false, out⟩).a = 2 ∨ (l.foldl rst ⟨a, word, false, out⟩).a = 3) → (wrd (l ++ [32]) a acc).2 ≠ 0) ∧
   ((l.foldl rst ⟨a, word, false, out⟩).bad = false ∧ (l.foldl rst ⟨a, word, false, out⟩).a ≠ 2 ∧ (l.foldl rst ⟨a, word, false, out⟩).a ≠ 3 → ∃ rest, (l.foldl rst ⟨a, word, false, out⟩).out ++ (if (l.foldl rst ⟨a, word, false, out⟩).a = 1 then [(l.foldl rst ⟨a, word, false, out⟩).word] else []) = out ++ rest ∧ wrd (l ++ [32]) a acc = ((if a = 4 then acc :: rest else rest), 0)))

theorem same_bad (a c : Nat) (word acc : List Nat) (out : List (List Nat)) (l : List Nat) (hb : (rst ⟨a, word, false, out⟩ c).bad = true) (hf : fol a c = 5) : Same a word acc out (c :: l) := by
  have h := rfold_bad l _ hb
  constructor
  · intro _
    rw [List.cons_append, wrd_go c _ a acc 5 (acc ++ (if std a 5 = true then [c] else [])) hf (by omega) rfl, wrd_five]
    omega
  · rintro ⟨h1, _⟩
    rw [List.foldl_cons, h] at h1
    cases h1

/-- A byte that tells nothing. -/
theorem same_on (a c b : Nat) (word acc wd' acc' : List Nat) (out : List (List Nat)) (l : List Nat) (hr : rst ⟨a, word, false, out⟩ c = ⟨b, wd', false, out⟩) (hw : wrd (c :: (l ++ [32])) a acc = wrd (l ++ [32]) b acc') (h4 : a ≠ 4) (hb4 : b ≠ 4) (ih : Same b wd' acc' out l) : Same a word acc out (c :: l) := by
  obtain ⟨i1, i2⟩ := ih
  unfold Same
  rw [List.foldl_cons, hr, List.cons_append, hw]
  refine ⟨i1, fun h => ?_⟩
  obtain ⟨rest, e1, e2⟩ := i2 h
  exact ⟨rest, e1, by rw [e2, if_neg h4, if_neg hb4]⟩

theorem ctl_fol (a c : Nat) (h : ctl c = true) : fol a c = 5 := by
  unfold fol
  rw [if_pos]
  simp [ctl] at h
  omega
theorem not_ctl {c : Nat} (h : ctl c = false) : ¬ ((c < 32 ∧ c ≠ 9) ∨ c = 127) := by
  intro hh
  have : ctl c = true := by simp [ctl]; omega
  rw [h] at this; cases this

theorem same_all : ∀ (l : List Nat) (a : Nat) (word acc : List Nat) (out : List (List Nat)), a ≤ 4 → (a = 0 ∨ a = 4 → word = []) → (a ≠ 4 → acc = word) → Same a word acc out l
  | [], a, word, acc, out, ha, h0, h4 => by
    have hc : a = 0 ∨ a = 1 ∨ a = 2 ∨ a = 3 ∨ a = 4 := by omega
    unfold Same
    simp only [List.foldl_nil, List.nil_append]
    rcases hc with rfl | rfl | rfl | rfl | rfl
    · obtain rfl := h0 (Or.inl rfl)
      obtain rfl := h4 (by omega)
      exact ⟨by simp, fun _ => ⟨[], by simp, by decide⟩⟩
    · obtain rfl := h4 (by omega)
      exact ⟨by simp, fun _ => ⟨[acc], by simp, by rw [wrd_end 32 [] 1 acc (by decide) (by omega)]; rfl⟩⟩
    · refine ⟨fun _ => ?_, fun h => absurd rfl h.2.1⟩
      rw [wrd_go 32 [] 2 acc 2 (acc ++ [32]) (by decide) (by omega) (by rw [show std 2 2 = true by decide]; rfl)]
      show (2 : Nat) ≠ 0
      omega
    · refine ⟨fun _ => ?_, fun h => absurd rfl h.2.2⟩
      rw [wrd_go 32 [] 3 acc 5 (acc ++ (if std 3 5 = true then [32] else [])) (by decide) (by omega) rfl, wrd_five]
      omega
    · exact ⟨by simp, fun _ => ⟨[], by simp, by rw [wrd_end 32 [] 4 acc (by decide) (by omega)]; rfl⟩⟩
  | c :: l, a, word, acc, out, ha, h0, h4 => by
    have hc : a = 0 ∨ a = 1 ∨ a = 2 ∨ a = 3 ∨ a = 4 := by omega
    by_cases hctl : ctl c = true
    · refine same_bad a c word acc out l ?_ (ctl_fol a c hctl)
      unfold rst
      repeat' split
      all_goals simp [hctl]
    · have hctl' : ctl c = false := by simpa using hctl
      have hnc := not_ctl hctl'
      have IH := fun b wd ac o h1 h2 h3 => same_all l b wd ac o h1 h2 h3
      rcases hc with rfl | rfl | rfl | rfl | rfl
      · obtain rfl := h0 (Or.inl rfl)
        obtain rfl := h4 (by omega)
        by_cases hbl : isBlank c = true
        · exact same_on 0 c 0 [] [] [] [] out l (by simp [rst, hbl, hctl']) (wrd_go c _ 0 [] 0 [] (blank_fol c 0 hbl (Or.inl rfl)) (by omega) (by rw [show std 0 0 = false by decide]; simp)) (by omega) (by omega) (IH 0 [] [] out (by omega) (fun _ => rfl) (fun _ => rfl))
        · have hbl' : isBlank c = false := by simpa using hbl
          by_cases h34 : c = 34
          · subst h34
            exact same_on 0 34 2 [] [] [] [] out l (by simp [rst, isBlank, ctl]) (wrd_go 34 _ 0 [] 2 [] (by decide) (by omega) (by rw [show std 0 2 = false by decide]; simp)) (by omega) (by omega) (IH 2 [] [] out (by omega) (by omega) (fun _ => rfl))
          · by_cases h92 : c = 92
            · subst h92
              exact same_bad 0 92 [] [] out l (by simp [rst, isBlank]) (by decide)
            · have e1 : fol 0 c = 1 := by unfold fol folB; rw [if_neg hnc, if_pos (Or.inl rfl), hbl', if_neg (by simp), if_neg (by omega), if_neg (by omega)]
              exact same_on 0 c 1 [] [] [c] [c] out l (by simp [rst, hbl', h34, h92, hctl']) (wrd_go c _ 0 [] 1 [c] e1 (by omega) (by rw [show std 0 1 = true by decide]; rfl)) (by omega) (by omega) (IH 1 [c] [c] out (by omega) (by omega) (fun _ => rfl))
      · obtain rfl := h4 (by omega)
        by_cases hbl : isBlank c = true
        · obtain ⟨i1, i2⟩ := IH 0 [] [] (out ++ [acc]) (by omega) (fun _ => rfl) (fun _ => rfl)
          have hr : rst ⟨1, acc, false, out⟩ c = ⟨0, [], false, out ++ [acc]⟩ := by simp [rst, hbl, hctl']
          have hf : fol 1 c = 0 := by unfold fol folB; rw [if_neg hnc, if_pos (Or.inr rfl), if_pos hbl]
          unfold Same
          rw [List.foldl_cons, hr, List.cons_append, wrd_end c _ 1 acc hf (by omega)]
          refine ⟨i1, fun h => ?_⟩
          obtain ⟨rest, e1, e2⟩ := i2 h
          refine ⟨acc :: rest, by rw [e1]; simp, ?_⟩
          rw [e2]; rfl
        · have hbl' : isBlank c = false := by simpa using hbl
          by_cases hq : c = 34 ∨ c = 92
          · have e1 : fol 1 c = 5 := by unfold fol folB; rw [if_neg hnc, if_pos (Or.inr rfl), hbl', if_neg (by simp), if_neg (by omega), if_pos hq]
            exact same_bad 1 c acc acc out l (by simp [rst, hbl', hq]) e1
          · have e1 : fol 1 c = 1 := by unfold fol folB; rw [if_neg hnc, if_pos (Or.inr rfl), hbl', if_neg (by simp), if_neg (by omega), if_neg hq]
            exact same_on 1 c 1 acc acc (acc ++ [c]) (acc ++ [c]) out l (by simp [rst, hbl', hq, hctl']) (wrd_go c _ 1 acc 1 (acc ++ [c]) e1 (by omega) (by rw [show std 1 1 = true by decide]; rfl)) (by omega) (by omega) (IH 1 _ _ out (by omega) (by omega) (fun _ => rfl))
      · obtain rfl := h4 (by omega)
        by_cases h92 : c = 92
        · subst h92
          exact same_on 2 92 3 acc acc acc acc out l (by simp [rst, ctl]) (wrd_go 92 _ 2 acc 3 acc (by decide) (by omega) (by rw [show std 2 3 = false by decide]; simp)) (by omega) (by omega) (IH 3 acc acc out (by omega) (by omega) (fun _ => rfl))
        · by_cases h34 : c = 34
          · subst h34
            obtain ⟨i1, i2⟩ := IH 4 [] acc (out ++ [acc]) (by omega) (fun _ => rfl) (by omega)
            have hr : rst ⟨2, acc, false, out⟩ 34 = ⟨4, [], false, out ++ [acc]⟩ := by simp [rst, ctl]
            unfold Same
            rw [List.foldl_cons, hr, List.cons_append, wrd_go 34 _ 2 acc 4 acc (by decide) (by omega) (by rw [show std 2 4 = false by decide]; simp)]
            refine ⟨i1, fun h => ?_⟩
            obtain ⟨rest, e1, e2⟩ := i2 h
            exact ⟨acc :: rest, by rw [e1]; simp, by rw [e2]; rfl⟩
          · have e1 : fol 2 c = 2 := by unfold fol folQ; rw [if_neg hnc, if_neg (by omega), if_pos rfl, if_neg h34, if_neg h92]
            exact same_on 2 c 2 acc acc (acc ++ [c]) (acc ++ [c]) out l (by simp [rst, h92, h34, hctl']) (wrd_go c _ 2 acc 2 (acc ++ [c]) e1 (by omega) (by rw [show std 2 2 = true by decide]; rfl)) (by omega) (by omega) (IH 2 _ _ out (by omega) (by omega) (fun _ => rfl))
      · obtain rfl := h4 (by omega)
        by_cases hq : c = 34 ∨ c = 92
        · have e1 : fol 3 c = 2 := by unfold fol; rw [if_neg hnc, if_neg (by omega), if_neg (by omega), if_pos rfl, if_pos hq]
          have hb : (c != 34 && c != 92) = false := by rcases hq with h | h <;> simp [h]
          exact same_on 3 c 2 acc acc (acc ++ [c]) (acc ++ [c]) out l (by simp [rst, hctl', hb]) (wrd_go c _ 3 acc 2 (acc ++ [c]) e1 (by omega) (by rw [show std 3 2 = true by decide]; rfl)) (by omega) (by omega) (IH 2 _ _ out (by omega) (by omega) (fun _ => rfl))
        · have e1 : fol 3 c = 5 := by unfold fol; rw [if_neg hnc, if_neg (by omega), if_neg (by omega), if_pos rfl, if_neg hq]
          refine same_bad 3 c acc acc out l ?_ e1
          simp [rst]
          omega
      · obtain rfl := h0 (Or.inr rfl)
        by_cases hbl : isBlank c = true
        · obtain ⟨i1, i2⟩ := IH 0 [] [] out (by omega) (fun _ => rfl) (fun _ => rfl)
          have hr : rst ⟨4, [], false, out⟩ c = ⟨0, [], false, out⟩ := by simp [rst, hbl, hctl']
          unfold Same
          rw [List.foldl_cons, hr, List.cons_append, wrd_end c _ 4 acc (blank_fol c 4 hbl (Or.inr rfl)) (by omega)]
          refine ⟨i1, fun h => ?_⟩
          obtain ⟨rest, e1, e2⟩ := i2 h
          refine ⟨rest, e1, ?_⟩
          rw [e2]; rfl
        · have hbl' : isBlank c = false := by simpa using hbl
          have e1 : fol 4 c = 5 := by unfold fol; rw [if_neg hnc, if_neg (by omega), if_neg (by omega), if_neg (by omega), if_pos rfl, hbl']; rfl
          exact same_bad 4 c [] acc out l (by simp [rst, hbl']) e1

end Go.Proofs.YtbacgkfmnccheaaDoor
