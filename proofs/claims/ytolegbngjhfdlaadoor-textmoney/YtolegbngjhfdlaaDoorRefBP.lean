import Derived.Test.YtolegbngjhfdlaaDoorRefA
import Derived.Test.YtolegbngjhfdlaaDoorAmtP
namespace Go.Proofs.YtolegbngjhfdlaaDoor
open Go.RowKit

/-- A number that is cut where it is too great anyway. -/
def capA (v : Nat) : Nat := if v ≤ 1099511627776 then v else 1099511627776
theorem capA_le (v : Nat) : capA v ≤ 1099511627776 := by unfold capA; split <;> omega
theorem capA_step (v c : Nat) (_h1 : 48 ≤ c) (_h2 : c ≤ 57) : capA (beh v c) = if 1099511627776 < 10 * capA v + (c - 48) then 1099511627776 else 10 * capA v + (c - 48) := by
  unfold capA beh
  by_cases h : v ≤ 1099511627776
  · rw [if_pos h, if_neg (show ¬ 9223372036854774 < v by omega)]
    by_cases h3 : v * 10 + (c - 48) ≤ 1099511627776
    · rw [if_pos h3, if_neg (by omega)]; omega
    · rw [if_neg h3, if_pos (by omega)]
  · rw [if_neg h, if_neg (by split <;> omega), if_pos (by omega)]

theorem amt_bad1 (h t : List Nat) (B : Bool) (hh : headok h = false) : amtR h t B = (0, 21) := by
  unfold amtR
  rw [if_neg]
  rw [(grp_head h).1, hh]
  simp
theorem amt_bad2 (h t : List Nat) (ht : twoD t = false) : amtR h t true = (0, 21) := by
  unfold amtR
  rw [if_neg]
  rw [ht]
  simp
theorem amt_end (h t : List Nat) (B : Bool) (hh : headok h = true) (hB : B = true → twoD t = true) (hc : cents t ≤ 99) :
    amtR h t B = if 1099511627776 < 100 * capA (val (digs h)) + cents t then (0, 22) else (100 * capA (val (digs h)) + cents t, 0) := by
  obtain ⟨e1, e2⟩ := grp_head h
  unfold amtR
  rw [if_pos ⟨by rw [e1, hh], hB⟩, e2 hh]
  generalize val (digs h) = v
  generalize cents t = c at *
  unfold capA
  by_cases h1 : v ≤ 1099511627776
  · rw [if_pos h1]
    by_cases h2 : 10995116277 < v
    · rw [if_pos h2, if_pos (by omega)]
    · rw [if_neg h2]
      by_cases h3 : 1099511627776 < c + v * 100
      · rw [if_pos h3, if_pos (by omega)]
      · rw [if_neg h3, if_neg (by omega), show c + v * 100 = 100 * v + c by omega]
  · rw [if_neg h1, if_pos (by omega), if_pos (by omega)]

/-- What is still to be looked at. -/
def rest (M : Bool) (l : List Nat) : Bool := if M then posok l else l.all isDig

structure AInv (h : List Nat) (M : Bool) (k n : Nat) : Prop where
  ok : rest M h = rest M (h.drop k)
  n : n = capA (val (digs (h.take k)))

theorem AInv.start (h : List Nat) (M : Bool) : AInv h M 0 0 := ⟨by simp, by simp [digs, val, capA]⟩

theorem head_drop (s : ByteArray) (e k : Nat) (he : e ≤ s.size) (hk : k < e) (c : Nat) (hc : (s[k]'(by omega)).toNat = c) : ((nums s).take e).drop k = c :: ((nums s).take e).drop (k + 1) ∧ (((nums s).take e).drop (k + 1)).length + 1 = e - k ∧ ((nums s).take e).take (k + 1) = ((nums s).take e).take k ++ [c] := by
  have hl : ((nums s).take e).length = e := by rw [List.length_take, nums_len]; omega
  have hg : ((nums s).take e)[k]? = some c := by rw [List.getElem?_take_of_lt hk, nums_at s k (by omega), hc]
  obtain ⟨hk', hg'⟩ := List.getElem?_eq_some_iff.1 hg
  refine ⟨by rw [List.drop_eq_getElem_cons hk', hg'], by rw [List.length_drop, hl]; omega, ?_⟩
  rw [List.take_add_one, hg]; rfl

theorem digs_snoc_dig (l : List Nat) (c : Nat) (h : isDig c = true) : digs (l ++ [c]) = digs l ++ [c] := by simp [digs, h]
theorem digs_snoc_not (l : List Nat) (c : Nat) (h : isDig c = false) : digs (l ++ [c]) = digs l := by simp [digs, h]

theorem rest_cons (M : Bool) (c : Nat) (r : List Nat) : rest M (c :: r) = ((if M = true ∧ (r.length + 1) % 4 = 0 then c == 39 else isDig c) && rest M r) := by
  cases M with
  | true =>
    simp only [rest, if_true, posok, true_and]
  | false => simp [rest]

theorem AInv.mark {s : ByteArray} {e k n : Nat} {M : Bool} (h : AInv ((nums s).take e) M k n) (he : e ≤ s.size) (hk : k < e) (hc : (s[k]'(by omega)).toNat = 39) (hM : M = true) (h4 : (e - k) % 4 = 0) : AInv ((nums s).take e) M (k + 1) n := by
  obtain ⟨a1, a2, a3⟩ := head_drop s e k he hk 39 hc
  refine ⟨?_, ?_⟩
  · rw [h.ok, a1, rest_cons, if_pos ⟨hM, by omega⟩]; rfl
  · rw [h.n, a3, digs_snoc_not _ _ (by decide)]
theorem AInv.dig {s : ByteArray} {e k n : Nat} {M : Bool} (h : AInv ((nums s).take e) M k n) (he : e ≤ s.size) (hk : k < e) (c : Nat) (hc : (s[k]'(by omega)).toNat = c) (hM : ¬ (M = true ∧ (e - k) % 4 = 0)) (h1 : 48 ≤ c) (h2 : c ≤ 57) :
    (1099511627776 < 10 * n + (c - 48) → AInv ((nums s).take e) M (k + 1) 1099511627776) ∧ (¬ 1099511627776 < 10 * n + (c - 48) → AInv ((nums s).take e) M (k + 1) (10 * n + (c - 48))) := by
  obtain ⟨a1, a2, a3⟩ := head_drop s e k he hk c hc
  have hd : isDig c = true := by simp [isDig]; omega
  have e1 : rest M ((nums s).take e) = rest M (((nums s).take e).drop (k + 1)) := by
    rw [h.ok, a1, rest_cons, if_neg (by rw [a2]; exact hM), hd]; rfl
  have hst := capA_step (val (digs (((nums s).take e).take k))) c h1 h2
  rw [← h.n] at hst
  have e2 : capA (val (digs (((nums s).take e).take (k + 1)))) = capA (beh (val (digs (((nums s).take e).take k))) c) := by
    rw [a3, digs_snoc_dig _ _ hd, val_snoc]
  constructor
  · intro hg; exact ⟨e1, by rw [e2, hst, if_pos hg]⟩
  · intro hg; exact ⟨e1, by rw [e2, hst, if_neg hg]⟩
theorem AInv.fail {s : ByteArray} {e k n : Nat} {M : Bool} (h : AInv ((nums s).take e) M k n) (he : e ≤ s.size) (hk : k < e) (c : Nat) (hc : (s[k]'(by omega)).toNat = c) (hf : (if M = true ∧ (e - k) % 4 = 0 then c == 39 else isDig c) = false) : rest M ((nums s).take e) = false := by
  obtain ⟨a1, a2, a3⟩ := head_drop s e k he hk c hc
  rw [h.ok, a1, rest_cons, a2, hf]; rfl
theorem AInv.le {h : List Nat} {M : Bool} {k n : Nat} (i : AInv h M k n) : n ≤ 1099511627776 := by rw [i.n]; exact capA_le _
theorem AInv.done {h : List Nat} {M : Bool} {k n : Nat} (i : AInv h M k n) (hk : h.length ≤ k) : rest M h = true ∧ n = capA (val (digs h)) := by
  refine ⟨?_, by have := i.n; rw [List.take_of_length_le hk] at this; exact this⟩
  rw [i.ok, List.drop_eq_nil_of_le hk]
  cases M <;> rfl

theorem headok_of (h : List Nat) (c0 : Nat) (hc : h.head? = some c0) (hd : isDig c0 = true) (hz : ¬ (c0 = 48 ∧ 1 < h.length)) : headok h = rest (decide (39 ∈ h)) h := by
  cases h with
  | nil => simp at hc
  | cons c r =>
    simp only [List.head?_cons, Option.some.injEq] at hc
    subst hc
    rw [headok_cons, hd]
    have : (c == 48 && decide (0 < r.length)) = false := by
      by_cases h1 : c = 48
      · have : ¬ 0 < r.length := fun h2 => hz ⟨h1, by rw [List.length_cons]; omega⟩
        simp [this]
      · simp [h1]
    rw [this]
    simp [rest]
theorem headok_bad (h : List Nat) (hb : h = [] ∨ ∃ c0, h.head? = some c0 ∧ (isDig c0 = false ∨ (c0 = 48 ∧ 1 < h.length))) : headok h = false := by
  rcases hb with rfl | ⟨c0, hc, hb⟩
  · rfl
  · cases h with
    | nil => rfl
    | cons c r =>
      simp only [List.head?_cons, Option.some.injEq] at hc
      subst hc
      rw [headok_cons]
      rcases hb with hb | ⟨rfl, hb⟩
      · rw [hb]; rfl
      · rw [List.length_cons] at hb
        have : decide (0 < r.length) = true := by simp; omega
        rw [this]; simp

theorem take_head (s : ByteArray) (e : Nat) (he : 0 < e) (h0 : 0 < s.size) : ((nums s).take e).head? = some (s[0]'h0).toNat := by
  have := nums_at s 0 h0
  rw [List.head?_take, if_neg (by omega), List.head?_eq_getElem?, this]

theorem take_mem (s : ByteArray) (k x c : Nat) (hk : k < s.size) (hc : (s[k]'hk).toNat = c) : x ∈ (nums s).take (k + 1) ↔ x ∈ (nums s).take k ∨ x = c := by
  rw [List.take_add_one, nums_at s k hk, hc]
  simp

theorem parted_dot (s : ByteArray) (k : Nat) (hk : k < s.size) (hc : (s[k]'hk).toNat = 46) (hn : 46 ∉ (nums s).take k) : amtL (nums s) = amtR ((nums s).take k) ((nums s).drop (k + 1)) true := by
  refine (parted_eq ⟨?_, hn, fun h => by cases h⟩).symm
  rw [if_pos rfl]
  conv => lhs; rw [← List.take_append_drop k (nums s), nums_drop s k hk, hc]
theorem parted_none (s : ByteArray) (hn : 46 ∉ (nums s).take s.size) : amtL (nums s) = amtR ((nums s).take s.size) [] false := by
  have e : (nums s).take s.size = nums s := List.take_of_length_le (by rw [nums_len]; omega)
  rw [e] at hn ⊢
  exact (parted_eq (B := false) ⟨by rw [if_neg (by simp)], hn, fun _ => rfl⟩).symm

theorem two_no (s : ByteArray) (k : Nat) (h : k + 3 ≠ s.size) (_hk : k < s.size) : twoD ((nums s).drop (k + 1)) = false := by
  have : ¬ ((nums s).drop (k + 1)).length = 2 := by rw [List.length_drop, nums_len]; omega
  simp only [twoD, Bool.and_eq_false_iff]
  exact .inr (by simpa using this)
theorem two_drop (s : ByteArray) (k : Nat) (h : k + 3 = s.size) (a b : Nat) (ha : (s[k + 1]'(by omega)).toNat = a) (hb : (s[k + 2]'(by omega)).toNat = b) : (nums s).drop (k + 1) = [a, b] := by
  rw [nums_drop s (k + 1) (by omega), nums_drop s (k + 1 + 1) (by omega), nums_end s _ (by omega), ha]
  have : (s[k + 1 + 1]'(by omega)).toNat = b := hb
  rw [this]
theorem cents_ab (a b : Nat) (h1 : 48 ≤ a) (h2 : a ≤ 57) (h3 : 48 ≤ b) (h4 : b ≤ 57) : cents [a, b] = 10 * (a - 48) + (b - 48) ∧ cents [a, b] ≤ 99 := by
  have : cents [a, b] = 10 * (a - 48) + (b - 48) := by
    have e1 : beh 0 a = a - 48 := by unfold beh; rw [if_neg (by omega)]; omega
    have e2 : beh (a - 48) b = 10 * (a - 48) + (b - 48) := by unfold beh; rw [if_neg (by omega)]; omega
    show beh (beh 0 a) b = _
    rw [e1, e2]
  exact ⟨this, by omega⟩

theorem ret_am {a a' b b' : Int} (h1 : a = a') (h2 : b = b') : Ending.returned (.tuple #[.int .i64 a, .int .i64 b]) = .returned (.tuple #[.int .i64 a', .int .i64 b']) := by rw [h1, h2]

end Go.Proofs.YtolegbngjhfdlaaDoor
