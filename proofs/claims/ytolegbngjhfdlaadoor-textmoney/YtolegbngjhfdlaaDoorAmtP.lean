import Derived.Test.YtolegbngjhfdlaaDoorWholesP
import Derived.Test.YtolegbngjhfdlaaDoorBegun
namespace Go.Proofs.YtolegbngjhfdlaaDoor
open Go.RowKit

/-- Each place: a mark where what is left has a length that four divides, a digit elsewhere. -/
def posok : List Nat → Bool
  | [] => true
  | c :: r => (if (r.length + 1) % 4 = 0 then c == 39 else isDig c) && posok r

theorem dig_not39 {c : Nat} (h : isDig c = true) : c ≠ 39 := by
  rintro rfl; simp [isDig] at h

/-- The digits alone. -/
def digs (l : List Nat) : List Nat := l.filter isDig

/-- Behind a mark. -/
theorem G_many : ∀ (l : List Nat) (n d m : Nat), 1 ≤ m → d ≤ 3 → ((∃ n' m', G l n d m = some (n', 3, m')) ↔ (posok l = true ∧ (l.length + d) % 4 = 3))
  | [], n, d, m, hm, hd => by
    simp only [G, Option.some.injEq, Prod.mk.injEq, posok, List.length_nil, true_and]
    constructor
    · rintro ⟨_, _, _, h, _⟩; omega
    · intro h; exact ⟨n, m, rfl, by omega, rfl⟩
  | c :: r, n, d, m, hm, hd => by
    rw [G, posok, List.length_cons]
    by_cases hc : isDig c = true
    · rw [if_pos hc]
      by_cases h3 : d = 3
      · subst h3
        constructor
        · rintro ⟨n', m', h⟩
          exfalso
          -- four digits in a row
          have key : ∀ (l : List Nat) (n d m n' m' : Nat), 1 ≤ m → 4 ≤ d → G l n d m ≠ some (n', 3, m') := by
            intro l
            induction l with
            | nil => intro n d m n' m' _ h4 h; simp only [G, Option.some.injEq, Prod.mk.injEq] at h; omega
            | cons a l ih =>
              intro n d m n' m' h1 h4 h
              rw [G] at h
              split at h
              · exact ih _ _ _ _ _ h1 (by omega) h
              · split at h
                · rename_i hh
                  have := hh.2
                  unfold ends at this
                  rw [if_neg (by omega)] at this
                  simp at this
                  omega
                · cases h
          exact key r _ _ _ _ _ hm (by omega) h
        · rintro ⟨h1, h2⟩
          rw [if_pos (by omega)] at h1
          simp only [Bool.and_eq_true, beq_iff_eq] at h1
          exact absurd h1.1 (dig_not39 hc)
      · rw [G_many r _ (d + 1) m hm (by omega)]
        constructor
        · rintro ⟨h1, h2⟩
          rw [if_neg (by omega), hc, h1]
          exact ⟨rfl, by omega⟩
        · rintro ⟨h1, h2⟩
          simp only [Bool.and_eq_true] at h1
          exact ⟨h1.2, by omega⟩
    · rw [if_neg hc]
      have hc' : isDig c = false := by simpa using hc
      by_cases h39 : c = 39
      · subst h39
        by_cases h3 : d = 3
        · subst h3
          have e : ends 3 m = true := by unfold ends; rw [if_neg (by omega)]; rfl
          rw [if_pos ⟨rfl, e⟩, G_many r _ 0 (m + 1) (by omega) (by omega)]
          constructor
          · rintro ⟨h1, h2⟩
            rw [if_pos (by omega), h1]
            exact ⟨rfl, by omega⟩
          · rintro ⟨h1, h2⟩
            simp only [Bool.and_eq_true] at h1
            exact ⟨h1.2, by omega⟩
        · have e : ends d m = false := by unfold ends; rw [if_neg (by omega)]; simp; omega
          rw [if_neg (by rw [e]; simp)]
          constructor
          · rintro ⟨_, _, h⟩; cases h
          · rintro ⟨h1, h2⟩
            rw [if_neg (by omega), hc'] at h1
            simp at h1
      · rw [if_neg (by rintro ⟨h, _⟩; exact h39 h)]
        constructor
        · rintro ⟨_, _, h⟩; cases h
        · rintro ⟨h1, h2⟩
          simp only [Bool.and_eq_true] at h1
          have h1 := h1.1
          split at h1
          · exact absurd (by simpa using h1) h39
          · exact absurd h1 hc

/-- Ahead of the first mark. -/
theorem G_first : ∀ (l : List Nat) (n d : Nat), 39 ∈ l → ((∃ n' m', G l n d 0 = some (n', 3, m') ∧ m' ≠ 0) ↔ (posok l = true ∧ 1 ≤ d + l.length % 4 ∧ d + l.length % 4 ≤ 3))
  | [], _, _, h => by simp at h
  | c :: r, n, d, h => by
    rw [G, posok, List.length_cons]
    by_cases hc : isDig c = true
    · have hr : 39 ∈ r := by
        rcases List.mem_cons.1 h with e | e
        · exact absurd e.symm (dig_not39 hc)
        · exact e
      rw [if_pos hc, G_first r _ (d + 1) hr]
      constructor
      · rintro ⟨h1, h2, h3⟩
        rw [if_neg (by omega), hc, h1]
        exact ⟨rfl, by omega, by omega⟩
      · rintro ⟨h1, h2, h3⟩
        simp only [Bool.and_eq_true] at h1
        have h4 : ¬ (r.length + 1) % 4 = 0 := by
          intro e
          rw [if_pos e] at h1
          exact absurd (by simpa using h1.1) (dig_not39 hc)
        exact ⟨h1.2, by omega, by omega⟩
    · rw [if_neg hc]
      have hc' : isDig c = false := by simpa using hc
      by_cases h39 : c = 39
      · subst h39
        by_cases h3 : 1 ≤ d ∧ d ≤ 3
        · have e : ends d 0 = true := by unfold ends; rw [if_pos rfl]; simp; omega
          rw [if_pos ⟨rfl, e⟩]
          have hm := G_many r n 0 (0 + 1) (by omega) (by omega)
          constructor
          · rintro ⟨n', m', h1, h2⟩
            obtain ⟨k1, k2⟩ := hm.1 ⟨n', m', h1⟩
            rw [if_pos (by omega), k1]
            exact ⟨rfl, by omega, by omega⟩
          · rintro ⟨h1, h2, h4⟩
            simp only [Bool.and_eq_true] at h1
            have h5 : (r.length + 1) % 4 = 0 := by
              rcases Nat.eq_zero_or_pos ((r.length + 1) % 4) with e | e
              · exact e
              · rw [if_neg (by omega), hc'] at h1; simp at h1
            obtain ⟨n', m', h6⟩ := hm.2 ⟨h1.2, by omega⟩
            refine ⟨n', m', h6, ?_⟩
            have := (G_back _ _ _ _ _ _ _ h6).1
            omega
        · have e : ends d 0 = false := by unfold ends; rw [if_pos rfl]; simp; omega
          rw [if_neg (by rw [e]; simp)]
          constructor
          · rintro ⟨_, _, h, _⟩; cases h
          · rintro ⟨h1, h2, h4⟩
            simp only [Bool.and_eq_true] at h1
            have h5 : (r.length + 1) % 4 = 0 := by
              rcases Nat.eq_zero_or_pos ((r.length + 1) % 4) with e | e
              · exact e
              · rw [if_neg (by omega), hc'] at h1; simp at h1
            omega
      · rw [if_neg (by rintro ⟨h, _⟩; exact h39 h)]
        constructor
        · rintro ⟨_, _, h, _⟩; cases h
        · rintro ⟨h1, h2, h3⟩
          simp only [Bool.and_eq_true] at h1
          have h1 := h1.1
          split at h1
          · exact absurd (by simpa using h1) h39
          · exact absurd h1 hc

/-- The number is that of the digits. -/
theorem G_val : ∀ (l : List Nat) (n d m n' d' m' : Nat), G l n d m = some (n', d', m') → n' = (digs l).foldl beh n ∧ (39 ∈ l → m < m') ∧ m ≤ m' ∧ (39 ∉ l → m' = m ∧ (∀ x ∈ l, isDig x = true) ∧ d' = d + l.length)
  | [], n, d, m, n', d', m', h => by
    simp only [G, Option.some.injEq, Prod.mk.injEq] at h
    obtain ⟨rfl, rfl, rfl⟩ := h
    simp [digs]
  | c :: r, n, d, m, n', d', m', h => by
    rw [G] at h
    split at h
    · rename_i hc
      obtain ⟨h1, h2, h3, h4⟩ := G_val r _ _ _ _ _ _ h
      refine ⟨by rw [h1]; simp [digs, hc], fun hm => ?_, h3, fun hm => ?_⟩
      · rcases List.mem_cons.1 hm with e | e
        · exact absurd e.symm (dig_not39 hc)
        · exact h2 e
      · obtain ⟨k1, k2, k3⟩ := h4 (fun e => hm (List.mem_cons_of_mem _ e))
        exact ⟨k1, fun x hx => (List.mem_cons.1 hx).elim (fun e => e ▸ hc) (k2 x), by rw [k3, List.length_cons]; omega⟩
    · rename_i hc
      split at h
      · rename_i hh
        obtain ⟨h1, h2, h3, h4⟩ := G_val r _ _ _ _ _ _ h
        refine ⟨by rw [h1]; simp [digs, hc], fun _ => by omega, by omega, fun hm => ?_⟩
        exact absurd (List.mem_cons.2 (Or.inl hh.1.symm)) hm
      · cases h

/-- What the document looks at, ahead of the dot. -/
def headok (l : List Nat) : Bool := match l with
  | [] => false
  | c :: r => isDig c && !(c == 48 && decide (0 < r.length)) && (if 39 ∈ l then posok l else l.all isDig)

theorem headok_cons (c : Nat) (r : List Nat) : headok (c :: r) = (isDig c && !(c == 48 && decide (0 < r.length)) && (if 39 ∈ c :: r then posok (c :: r) else (c :: r).all isDig)) := rfl

theorem grp_head (l : List Nat) : (grpR l).2.2 = headok l ∧ (headok l = true → (grpR l).1 = val (digs l)) := by
  cases l with
  | nil => simp [grpR, headok, G]
  | cons c r =>
    by_cases h48 : c = 48
    · subst h48
      unfold grpR
      rw [List.head?_cons, if_pos rfl]
      cases r with
      | nil => exact ⟨by decide, fun _ => by decide⟩
      | cons a r => simp [headok]
    · unfold grpR
      rw [List.head?_cons, if_neg (by simpa using h48)]
      have e48 : (c == 48) = false := by simpa using h48
      by_cases hm : 39 ∈ c :: r
      · have hf := G_first (c :: r) 0 0 hm
        cases hG : G (c :: r) 0 0 0 with
        | none =>
          have hno : ¬ (posok (c :: r) = true ∧ 1 ≤ 0 + (c :: r).length % 4 ∧ 0 + (c :: r).length % 4 ≤ 3) := by
            rw [← hf, hG]; rintro ⟨_, _, h, _⟩; cases h
          have hh : headok (c :: r) = false := by
            rw [headok_cons, if_pos hm, e48]
            simp only [Bool.false_and, Bool.not_false, Bool.and_true]
            by_cases hd : isDig c = true
            · by_cases hp : posok (c :: r) = true
              · exfalso
                apply hno
                refine ⟨hp, ?_, by omega⟩
                have h0 : ¬ (r.length + 1) % 4 = 0 := by
                  intro e
                  rw [posok, if_pos e] at hp
                  simp only [Bool.and_eq_true] at hp
                  exact absurd (by simpa using hp.1) (dig_not39 hd)
                rw [List.length_cons]; omega
              · simp [hp]
            · simp [hd]
          rw [hh]
          exact ⟨rfl, fun h => by cases h⟩
        | some t =>
          obtain ⟨n', d', m'⟩ := t
          obtain ⟨v1, v2, _, _⟩ := G_val _ _ _ _ _ _ _ hG
          have hm0 : m' ≠ 0 := by have := v2 hm; omega
          simp only
          rw [if_neg hm0]
          refine ⟨?_, fun _ => v1⟩
          by_cases hd3 : d' = 3
          · subst hd3
            obtain ⟨k1, k2, k3⟩ := hf.1 ⟨n', m', hG, hm0⟩
            have hd : isDig c = true := by
              rw [posok, List.length_cons] at *
              rw [if_neg (by omega)] at k1
              simp only [Bool.and_eq_true] at k1
              exact k1.1
            rw [headok_cons, if_pos hm, e48, hd, k1]
            rfl
          · have hno : ¬ posok (c :: r) = true ∨ ¬ (1 ≤ 0 + (c :: r).length % 4) := by
              by_cases hp : posok (c :: r) = true
              · right
                intro h1
                obtain ⟨n2, m2, hh, _⟩ := hf.2 ⟨hp, h1, by omega⟩
                rw [hG] at hh
                simp only [Option.some.injEq, Prod.mk.injEq] at hh
                exact hd3 hh.2.1
              · exact .inl hp
            have e3 : (d' == 3) = false := by simpa using hd3
            rw [e3]
            rw [headok_cons, if_pos hm, e48]
            rcases hno with h | h
            · simp [h]
            · rw [List.length_cons] at h
              have h0 : (r.length + 1) % 4 = 0 := by omega
              by_cases hd : isDig c = true
              · have : posok (c :: r) = false := by
                  rw [posok, if_pos h0]
                  have : (c == 39) = false := by simpa using dig_not39 hd
                  rw [this]; rfl
                simp [this]
              · simp [hd]
      · cases hG : G (c :: r) 0 0 0 with
        | none =>
          have hna : (c :: r).all isDig = false := by
            by_cases ha : (c :: r).all isDig = true
            · rw [G_dig _ _ _ _ (fun x hx => List.all_eq_true.1 ha x hx)] at hG; cases hG
            · simpa using ha
          have hh : headok (c :: r) = false := by
            rw [headok_cons, if_neg hm, hna]
            simp
          rw [hh]
          exact ⟨rfl, fun h => by cases h⟩
        | some t =>
          obtain ⟨n', d', m'⟩ := t
          obtain ⟨v1, _, _, v4⟩ := G_val _ _ _ _ _ _ _ hG
          obtain ⟨k1, k2, k3⟩ := v4 hm
          subst k1
          simp only [if_true]
          refine ⟨?_, fun _ => v1⟩
          rw [k3]
          have ha : (c :: r).all isDig = true := List.all_eq_true.2 k2
          have hd := k2 c (List.mem_cons_self ..)
          rw [headok_cons, if_neg hm, e48, hd, ha]
          simp

end Go.Proofs.YtolegbngjhfdlaaDoor
