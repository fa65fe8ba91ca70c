import Derived.Test.YtolegbngjhfdlaaDoorMoney
import Derived.Test.YtolegbngjhfdlaaDoorWhole
namespace Go.Proofs.YtolegbngjhfdlaaDoor
open Go.RowKit

/-- The number that digits make, as package text reckons it. -/
def val (l : List Nat) : Nat := l.foldl beh 0

theorem val_snoc (l : List Nat) (c : Nat) : val (l ++ [c]) = beh (val l) c := by simp [val]

theorem G_dig : ∀ (l : List Nat) (n d m : Nat), (∀ x ∈ l, isDig x = true) → G l n d m = some (l.foldl beh n, d + l.length, m)
  | [], n, d, m, _ => by simp [G]
  | c :: l, n, d, m, h => by
    rw [G, if_pos (h c (List.mem_cons_self ..)), G_dig l _ _ _ (fun x hx => h x (List.mem_cons_of_mem _ hx))]
    simp only [List.foldl_cons, List.length_cons, Option.some.injEq, Prod.mk.injEq, true_and, and_true]
    omega

/-- What digits make of a number. -/
theorem val_dn (u : Nat) : (u ≤ 92233720368547749 → val (dn u) = u) ∧ (92233720368547749 < u → 9223372036854774 < val (dn u)) := by
  induction u using Nat.strongRecOn with
  | ind u ih =>
    by_cases h : u < 10
    · rw [dn_one h]
      refine ⟨fun _ => ?_, fun hh => by omega⟩
      simp [val, beh]
    · rw [dn_more h, val_snoc]
      obtain ⟨i1, i2⟩ := ih (u / 10) (by omega)
      unfold beh
      refine ⟨fun hu => ?_, fun hu => ?_⟩
      · rw [i1 (by omega), if_neg (by omega)]; omega
      · by_cases h2 : u / 10 ≤ 92233720368547749
        · rw [i1 h2, if_pos (by omega)]; omega
        · rw [if_pos (i2 (by omega))]; omega

theorem dn_head (u : Nat) (h : u ≠ 0) : (dn u).head? ≠ some 48 := by
  induction u using Nat.strongRecOn with
  | ind u ih =>
    by_cases h1 : u < 10
    · rw [dn_one h1]; simp; omega
    · rw [dn_more h1, List.head?_append]
      have hne := dn_ne (u / 10)
      cases hd : (dn (u / 10)).head? with
      | none => exact absurd (List.head?_eq_none_iff.1 hd) hne
      | some x =>
        have := ih (u / 10) (by omega) (by omega)
        rw [hd] at this
        exact this

theorem dn_zero : dn 0 = [48] := dn_one (by omega)

theorem grp_dn (u : Nat) : grpR (dn u) = (val (dn u), 0, true) := by
  by_cases h : u = 0
  · subst h; rw [dn_zero]; rfl
  · unfold grpR
    rw [if_neg (dn_head u h), G_dig _ _ _ _ (dn_dig u)]
    have : 0 < (dn u).length := by
      rcases Nat.eq_zero_or_pos (dn u).length with h0 | h0
      · exact absurd (List.eq_nil_of_length_eq_zero h0) (dn_ne u)
      · exact h0
    simp [val, this]

/-- The digits of a number with its sign. -/
def dz (n : Int) : List Nat := (Lib.itoa n).map fun b => b.toNat
theorem dz_neg (n : Int) (h : n < 0) : dz n = 45 :: dn n.natAbs := by rw [dz, Lib.itoa, if_pos h]; rfl
theorem dz_pos (n : Int) (h : ¬ n < 0) : dz n = dn n.natAbs := by
  rw [dz, Lib.itoa, if_neg h, show n.toNat = n.natAbs by omega]; rfl

theorem dn_head45 (u : Nat) : (dn u).head? ≠ some 45 := by
  cases hd : (dn u).head? with
  | none => simp
  | some x =>
    have := dn_dig u x (List.mem_of_mem_head? hd)
    simp [isDig] at this
    simp
    omega

theorem whole_dz (n : Int) : wholeR (dz n) = if -9007199254740992 ≤ n ∧ n ≤ 9007199254740992 then (n, 0) else (0, 22) := by
  obtain ⟨v1, v2⟩ := val_dn n.natAbs
  unfold wholeR
  by_cases h : n < 0
  · rw [dz_neg n h, List.head?_cons, if_pos rfl, List.tail_cons, grp_dn]
    by_cases hb : n.natAbs ≤ 92233720368547749
    · rw [v1 hb, if_pos ⟨rfl, rfl, by omega⟩]
      by_cases hc : -9007199254740992 ≤ n ∧ n ≤ 9007199254740992
      · rw [if_pos hc, if_neg (by simp only; omega)]
        simp only [Prod.mk.injEq, and_true]
        omega
      · rw [if_neg hc, if_pos (by simp only; omega)]
    · have := v2 (by omega)
      rw [if_pos ⟨rfl, rfl, by simp only; omega⟩, if_pos (by simp only; omega), if_neg (by omega)]
  · rw [dz_pos n h, if_neg (dn_head45 _), grp_dn, if_pos ⟨rfl, rfl⟩]
    by_cases hb : n.natAbs ≤ 92233720368547749
    · rw [v1 hb]
      by_cases hc : -9007199254740992 ≤ n ∧ n ≤ 9007199254740992
      · rw [if_pos hc, if_neg (by simp only; omega)]
        simp only [Prod.mk.injEq, and_true]
        omega
      · rw [if_neg hc, if_pos (by simp only; omega)]
    · have := v2 (by omega)
      rw [if_pos (by simp only; omega), if_neg (by omega)]

theorem nd_mono {a b : Nat} (h : a ≤ b) : (dn a).length ≤ (dn b).length := by
  induction b using Nat.strongRecOn generalizing a with
  | ind b ih =>
    by_cases hb : b < 10
    · rw [dn_one hb, dn_one (by omega)]; simp
    · by_cases ha : a < 10
      · rw [dn_one ha, dn_more hb]; simp
      · rw [dn_more ha, dn_more hb]
        have := ih (b / 10) (by omega) (a := a / 10) (by omega)
        simp only [List.length_append, List.length_cons, List.length_nil]
        omega

/-- What was gone through without a mark are digits. -/
theorem G_back : ∀ (l : List Nat) (n d m n' d' m' : Nat), G l n d m = some (n', d', m') → m ≤ m' ∧ (m' = 0 → (∀ x ∈ l, isDig x = true) ∧ n' = l.foldl beh n)
  | [], n, d, m, n', d', m', h => by
    simp only [G, Option.some.injEq, Prod.mk.injEq] at h
    obtain ⟨rfl, rfl, rfl⟩ := h
    exact ⟨Nat.le_refl _, fun _ => ⟨by simp, rfl⟩⟩
  | c :: l, n, d, m, n', d', m', h => by
    rw [G] at h
    split at h
    · rename_i hc
      obtain ⟨h1, h2⟩ := G_back l _ _ _ _ _ _ h
      refine ⟨h1, fun h0 => ?_⟩
      obtain ⟨h3, h4⟩ := h2 h0
      exact ⟨fun x hx => (List.mem_cons.1 hx).elim (fun e => e ▸ hc) (h3 x), h4⟩
    · split at h
      · obtain ⟨h1, h2⟩ := G_back l _ _ _ _ _ _ h
        exact ⟨by omega, fun h0 => by omega⟩
      · cases h

theorem val_lead : ∀ (l : List Nat), (∀ x ∈ l, isDig x = true) → l ≠ [] → l.head? ≠ some 48 → 1 ≤ val l := by
  intro l hd hne hh
  cases l with
  | nil => exact absurd rfl hne
  | cons c l =>
    have hc := hd c (List.mem_cons_self ..)
    simp only [isDig, Bool.and_eq_true, decide_eq_true_eq] at hc
    simp only [List.head?_cons, ne_eq, Option.some.injEq] at hh
    have key : ∀ (r : List Nat) (n : Nat), 1 ≤ n → 1 ≤ r.foldl beh n := by
      intro r
      induction r with
      | nil => intro n h; exact h
      | cons x r ih => intro n h; exact ih _ (by unfold beh; split <;> omega)
    unfold val
    rw [List.foldl_cons]
    exact key l _ (by unfold beh; rw [if_neg (by omega)]; omega)

/-- There is one way to write a number. -/
theorem dn_unique : ∀ (k : Nat) (l : List Nat), l.length = k → (∀ x ∈ l, isDig x = true) → l ≠ [] → l.head? ≠ some 48 → val l ≤ 9223372036854774 → l = dn (val l) := by
  intro k
  induction k with
  | zero => intro l hl _ hne; exact absurd (List.eq_nil_of_length_eq_zero hl) hne
  | succ k ih =>
    intro l hl hd hne hh hv
    obtain ⟨r, c, rfl⟩ : ∃ r c, l = r ++ [c] := ⟨l.dropLast, l.getLast hne, (List.dropLast_concat_getLast hne).symm⟩
    have hc := hd c (by simp)
    simp only [isDig, Bool.and_eq_true, decide_eq_true_eq] at hc
    rw [val_snoc] at hv ⊢
    by_cases hr : r = []
    · subst hr
      have e0 : beh (val []) c = c - 48 := by simp [val, beh]
      rw [e0, dn_one (by omega), List.nil_append, show 48 + (c - 48) = c by omega]
    · have hrd : ∀ x ∈ r, isDig x = true := fun x hx => hd x (List.mem_append_left _ hx)
      have hrh : r.head? ≠ some 48 := by
        intro e
        apply hh
        rw [List.head?_append, e]
        rfl
      have h1 := val_lead r hrd hr hrh
      have hlt : ¬ 9223372036854774 < val r := by
        intro h
        unfold beh at hv
        rw [if_pos h] at hv
        omega
      have e1 : beh (val r) c = val r * 10 + (c - 48) := by unfold beh; rw [if_neg hlt]
      rw [e1, dn_more (by omega), show (val r * 10 + (c - 48)) / 10 = val r by omega, show 48 + (val r * 10 + (c - 48)) % 10 = c by omega, ← ih r (by simpa using hl) hrd hr hrh (by omega)]

theorem grp_whole (l : List Nat) (n m : Nat) (h : grpR l = (n, m, true)) (hm : m = 0) (hn : n ≤ 9223372036854774) : l = dn n := by
  unfold grpR at h
  split at h
  · simp only [Prod.mk.injEq, decide_eq_true_eq] at h
    obtain ⟨rfl, _, h3⟩ := h
    rw [dn_zero]; exact h3
  · rename_i hh
    split at h
    · simp at h
    · rename_i n' d' m' hG
      simp only [Prod.mk.injEq] at h
      obtain ⟨rfl, rfl, h3⟩ := h
      subst hm
      obtain ⟨_, h2⟩ := G_back _ _ _ _ _ _ _ hG
      obtain ⟨h4, h5⟩ := h2 rfl
      have hne : l ≠ [] := by
        rintro rfl
        simp only [G, Option.some.injEq, Prod.mk.injEq] at hG
        obtain ⟨_, rfl, _⟩ := hG
        simp at h3
      have hv : n' = val l := h5
      rw [hv]
      exact dn_unique _ l rfl h4 hne hh (by rw [← hv]; exact hn)

theorem whole_back (l : List Nat) (a : Int) (h : wholeR l = (a, 0)) : dz a = l := by
  unfold wholeR at h
  split at h
  · rename_i h45
    split at h
    · rename_i hc
      split at h
      · simp at h
      · rename_i hb
        simp only [Prod.mk.injEq, and_true] at h
        subst h
        have e := grp_whole l.tail _ _ (by rw [← hc.1]) hc.2.1 (by omega)
        rw [dz_neg _ (by omega)]
        have : l = 45 :: l.tail := by
          cases l with
          | nil => simp at h45
          | cons x r => simp at h45; subst h45; rfl
        rw [this]
        simp only [List.tail_cons, List.cons.injEq, true_and]
        rw [show (-((grpR l.tail).1 : Int)).natAbs = (grpR l.tail).1 by omega, ← e]
    · simp at h
  · split at h
    · rename_i hc
      split at h
      · simp at h
      · simp only [Prod.mk.injEq, and_true] at h
        subst h
        have e := grp_whole l _ _ (by rw [← hc.1]) hc.2 (by omega)
        rw [dz_pos _ (by omega), show ((grpR l).1 : Int).natAbs = (grpR l).1 by omega, ← e]
    · simp at h

theorem whole_err (l : List Nat) (h : (wholeR l).2 ≠ 0) : (wholeR l).1 = 0 ∧ ((wholeR l).2 = 21 ∨ (wholeR l).2 = 22) := by
  unfold wholeR at *
  repeat' split
  all_goals simp_all

theorem whole_range (l : List Nat) : -9007199254740992 ≤ (wholeR l).1 ∧ (wholeR l).1 ≤ 9007199254740992 := by
  unfold wholeR
  repeat' split
  all_goals simp only
  all_goals omega

end Go.Proofs.YtolegbngjhfdlaaDoor
