import Derived.Test.YtolegbngjhfdlaaDoorAmtP
import Derived.Test.YtolegbngjhfdlaaDoorRefM
import Derived.Test.YtolegbngjhfdlaaDoorRefBP
namespace Go.Proofs.YtolegbngjhfdlaaDoor
open Go.RowKit

theorem mrk_flen : ∀ (l : List Nat), (mrk false l).length = l.length + l.length / 3
  | [] => rfl
  | c :: r => by
    simp only [mrk, List.length_append, List.length_cons, true_and]
    rw [mrk_flen r]
    split
    · simp; omega
    · simp; omega

theorem mrk_pos : ∀ (l : List Nat) (B : Bool), (∀ x ∈ l, isDig x = true) → posok (mrk B l) = true
  | [], _, _ => rfl
  | c :: r, B, h => by
    have ih := mrk_pos r false (fun x hx => h x (List.mem_cons_of_mem _ hx))
    have hl := mrk_flen r
    have hc := h c (List.mem_cons_self ..)
    have h1 : posok (c :: mrk false r) = true := by
      rw [posok, if_neg (by omega), hc, ih]; rfl
    simp only [mrk]
    split
    · rename_i hh
      rw [List.singleton_append, posok, List.length_cons, if_pos (by omega), h1]
      rfl
    · rw [List.nil_append]; exact h1

theorem mrk_digs : ∀ (l : List Nat) (B : Bool), (∀ x ∈ l, isDig x = true) → digs (mrk B l) = l
  | [], _, _ => rfl
  | c :: r, B, h => by
    have ih := mrk_digs r false (fun x hx => h x (List.mem_cons_of_mem _ hx))
    have hc := h c (List.mem_cons_self ..)
    have h1 : digs (c :: mrk false r) = c :: r := by
      unfold digs at ih ⊢
      rw [List.filter_cons, if_pos hc, ih]
    simp only [mrk]
    split
    · rw [List.singleton_append]
      unfold digs at h1 ⊢
      rw [List.filter_cons, if_neg (by decide)]
      exact h1
    · rw [List.nil_append]; exact h1

theorem mrk_mem : ∀ (l : List Nat) (B : Bool) (x : Nat), x ∈ mrk B l → x = 39 ∨ x ∈ l
  | [], _, x, h => by simp [mrk] at h
  | c :: r, B, x, h => by
    simp only [mrk, List.mem_append, List.mem_cons] at h
    rcases h with h | h | h
    · split at h
      · left; simpa using h
      · simp at h
    · right; rw [h]; exact List.mem_cons_self ..
    · rcases mrk_mem r false x h with h | h
      · exact .inl h
      · exact .inr (List.mem_cons_of_mem _ h)

theorem mrk_head (c : Nat) (r : List Nat) : mrk true (c :: r) = c :: mrk false r := by simp [mrk]

/-- The digits of an amount in groups are an amount. -/
theorem headok_mrk (p : Nat) : headok (mrk true (dn p)) = true := by
  cases hd : dn p with
  | nil => exact absurd hd (dn_ne p)
  | cons c r =>
    have hdig := dn_dig p
    rw [hd] at hdig
    have hp := mrk_pos (c :: r) true hdig
    have hc := hdig c (List.mem_cons_self ..)
    rw [mrk_head] at hp ⊢
    rw [headok_cons, hc]
    have hz : (c == 48 && decide (0 < (mrk false r).length)) = false := by
      by_cases h48 : c = 48
      · have hp0 : p = 0 := by
          rcases Nat.eq_zero_or_pos p with h | h
          · exact h
          · exact absurd (by rw [hd, List.head?_cons, h48]) (dn_head p (by omega))
        subst hp0
        rw [dn_zero] at hd
        simp only [List.cons.injEq] at hd
        rw [← hd.2]
        simp [mrk]
      · simp [h48]
    rw [hz]
    split
    · simp [hp]
    · rename_i hn
      have : (c :: mrk false r).all isDig = true := by
        rw [List.all_eq_true]
        intro x hx
        have hm : x ∈ mrk true (c :: r) := by rw [mrk_head]; exact hx
        rcases mrk_mem _ _ _ hm with h | h
        · subst h; exact absurd hx hn
        · exact hdig x h
      simp [this]

/-- What is written without its sign. -/
def mnu (u : Nat) : List Nat := mrk true (dn (u / 100)) ++ [46, 48 + u % 100 / 10, 48 + u % 10]
theorem mny_pos (n : Int) (h : ¬ n < 0) : mny n = mnu n.natAbs := by rw [mny, if_neg h]; rfl
theorem mny_neg (n : Int) (h : n < 0) : mny n = 45 :: mnu n.natAbs := by rw [mny, if_pos h]; rfl

theorem mrk_no46 (p : Nat) : 46 ∉ mrk true (dn p) := fun h => by
  rcases mrk_mem _ _ _ h with h | h
  · cases h
  · have := dn_dig p 46 h
    simp [isDig] at this

theorem amt_mnu (u : Nat) : amtL (mnu u) = if u ≤ 1099511627776 then (u, 0) else (0, 22) := by
  obtain ⟨hce, hc9⟩ := cents_ab (48 + u % 100 / 10) (48 + u % 10) (by omega) (by omega) (by omega) (by omega)
  rw [← parted_eq (h := mrk true (dn (u / 100))) (t := [48 + u % 100 / 10, 48 + u % 10]) (B := true) ⟨by rw [if_pos rfl]; rfl, mrk_no46 _, fun h => by cases h⟩]
  rw [amt_end _ _ _ (headok_mrk _) (fun _ => by simp [twoD, isDig]; omega) hc9, hce, mrk_digs _ _ (dn_dig _)]
  obtain ⟨v1, v2⟩ := val_dn (u / 100)
  unfold capA
  by_cases hu : u / 100 ≤ 92233720368547749
  · rw [v1 hu]
    by_cases h : u ≤ 1099511627776
    · rw [if_pos h, if_pos (show u / 100 ≤ 1099511627776 by omega), if_neg (by omega)]
      simp only [Prod.mk.injEq, and_true]
      omega
    · rw [if_neg h]
      by_cases h2 : u / 100 ≤ 1099511627776
      · rw [if_pos h2, if_pos (by omega)]
      · rw [if_neg h2, if_pos (by omega)]
  · have := v2 (by omega)
    rw [if_neg (show ¬ val (dn (u / 100)) ≤ 1099511627776 by omega), if_pos (by omega), if_neg (by omega)]

theorem amt_neg (u : Nat) : amtL (45 :: mnu u) = (0, 21) := by
  rw [← parted_eq (h := 45 :: mrk true (dn (u / 100))) (t := [48 + u % 100 / 10, 48 + u % 10]) (B := true) ⟨by rw [if_pos rfl]; rfl, fun h => by
    rcases List.mem_cons.1 h with h | h
    · cases h
    · exact mrk_no46 _ h, fun h => by cases h⟩]
  exact amt_bad1 _ _ _ (headok_bad _ (Or.inr ⟨45, rfl, Or.inl (by decide)⟩))

theorem dn_inj : ∀ (u v : Nat), dn u = dn v → u = v := by
  intro u
  induction u using Nat.strongRecOn with
  | ind u ih =>
    intro v h
    have hl := congrArg List.length h
    by_cases hu : u < 10
    · by_cases hv : v < 10
      · rw [dn_one hu, dn_one hv] at h
        simp at h; omega
      · rw [dn_one hu, dn_more hv] at hl
        have := List.length_pos_iff.2 (dn_ne (v / 10))
        simp at hl
        exact absurd hl (dn_ne _)
    · by_cases hv : v < 10
      · rw [dn_more hu, dn_one hv] at hl
        simp at hl
        exact absurd hl (dn_ne _)
      · rw [dn_more hu, dn_more hv] at h
        obtain ⟨h1, h2⟩ := List.append_inj' h rfl
        have := ih (u / 10) (by omega) _ h1
        simp at h2
        omega

theorem mnu_inj (u v : Nat) (h : mnu u = mnu v) : u = v := by
  unfold mnu at h
  obtain ⟨h1, h2⟩ := List.append_inj' h rfl
  have h3 := congrArg digs h1
  rw [mrk_digs _ _ (dn_dig _), mrk_digs _ _ (dn_dig _)] at h3
  have := dn_inj _ _ h3
  simp at h2
  omega
theorem mnu_not45 (u v : Nat) : mnu u ≠ 45 :: v :: [] ∧ (mnu u).head? ≠ some 45 := by
  have key : (mnu u).head? ≠ some 45 := by
    unfold mnu
    cases hd : dn (u / 100) with
    | nil => exact absurd hd (dn_ne _)
    | cons c r =>
      rw [mrk_head, List.cons_append, List.head?_cons]
      have := dn_dig (u / 100) c (by rw [hd]; exact List.mem_cons_self ..)
      simp [isDig] at this
      simp; omega
  exact ⟨fun h => key (by rw [h]; rfl), key⟩
theorem mny_inj (a b : Int) (h : mny a = mny b) : a = b := by
  by_cases ha : a < 0
  · by_cases hb : b < 0
    · rw [mny_neg a ha, mny_neg b hb, List.cons.injEq] at h
      have := mnu_inj _ _ h.2
      omega
    · rw [mny_neg a ha, mny_pos b hb] at h
      exact absurd (by rw [← h]; rfl) (mnu_not45 b.natAbs 0).2
  · by_cases hb : b < 0
    · rw [mny_pos a ha, mny_neg b hb] at h
      exact absurd (by rw [h]; rfl) (mnu_not45 a.natAbs 0).2
    · rw [mny_pos a ha, mny_pos b hb] at h
      have := mnu_inj _ _ h
      omega

theorem amt_err (l : List Nat) : ((amtL l).2 = 0 ∧ (amtL l).1 ≤ 1099511627776) ∨ ((amtL l).1 = 0 ∧ ((amtL l).2 = 21 ∨ (amtL l).2 = 22)) := by
  unfold amtL amtR
  repeat' split
  all_goals simp
  all_goals omega

end Go.Proofs.YtolegbngjhfdlaaDoor
