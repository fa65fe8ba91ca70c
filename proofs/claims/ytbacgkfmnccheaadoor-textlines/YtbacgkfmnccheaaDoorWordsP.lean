import Derived.Test.YtbacgkfmnccheaaDoorCheck
import Derived.Lib.MapLaws
import Derived.Lib.ValidLaws
import Derived.Lib.TrimUEq
namespace Go.Proofs.YtbacgkfmnccheaaDoor
open Go.RowKit

/-- A line gone through, byte by byte: the words that end, and the place in the end. -/
def wrd : List Nat → Nat → List Nat → List (List Nat) × Nat
  | [], a, _ => ([], a)
  | c :: l, a, word =>
    (if fol a c = 0 ∧ a ≠ 0 then word :: (wrd l (fol a c) ((if fol a c = 0 ∧ a ≠ 0 then [] else word) ++ (if std a (fol a c) = true then [c] else []))).1
      else (wrd l (fol a c) ((if fol a c = 0 ∧ a ≠ 0 then [] else word) ++ (if std a (fol a c) = true then [c] else []))).1,
     (wrd l (fol a c) ((if fol a c = 0 ∧ a ≠ 0 then [] else word) ++ (if std a (fol a c) = true then [c] else []))).2)

/-- What a code point above ASCII does to a place. -/
def hi (a : Nat) : Nat := if a = 0 ∨ a = 1 then 1 else if a = 2 then 2 else 5

theorem fol_hi (a x : Nat) (h : 128 ≤ x) : fol a x = hi a := by
  have hb : isBlank x = false := by simp [isBlank]; omega
  unfold fol hi folB folQ
  rw [if_neg (by omega)]
  simp only [hb]
  have e1 : ¬ x = 34 := by omega
  have e2 : ¬ x = 92 := by omega
  simp only [e1, e2]
  by_cases h0 : a = 0 ∨ a = 1
  · simp [h0]
  · by_cases h2 : a = 2
    · simp [h2]
    · simp [h0, h2]
theorem hi_ne (a : Nat) : hi a ≠ 0 := by unfold hi; split <;> (try split) <;> omega
theorem hi_hi (a : Nat) : hi (hi a) = hi a := by
  by_cases h0 : a = 0 ∨ a = 1
  · simp [hi, h0]
  · by_cases h2 : a = 2
    · simp [hi, h2]
    · simp [hi, h0, h2]
theorem std_hi (a : Nat) : std (hi a) (hi a) = std a (hi a) := by
  unfold hi
  split
  · rename_i h; rcases h with rfl | rfl <;> rfl
  · split
    · rename_i h; subst h; rfl
    · rfl

theorem wrd_run : ∀ (ch rest : List Nat) (a : Nat) (word : List Nat), (∀ x ∈ ch, 128 ≤ x) → hi a = a → wrd (ch ++ rest) a word = wrd rest a (word ++ (if std a a = true then ch else []))
  | [], rest, a, word, _, _ => by simp
  | x :: ch, rest, a, word, h, ha => by
    have hx := fol_hi a x (h x (List.mem_cons_self ..))
    have hne := hi_ne a
    rw [ha] at hx hne
    rw [List.cons_append, wrd, hx, if_neg (by omega), if_neg (by omega), wrd_run ch rest a _ (fun y hy => h y (List.mem_cons_of_mem _ hy)) ha]
    by_cases hs : std a a = true
    · simp [hs]
    · simp [hs]

/-- A code point of more bytes than one. -/
theorem wrd_chunk (ch rest : List Nat) (a c : Nat) (word : List Nat) (hc : 128 ≤ c) (h : ∀ x ∈ ch, 128 ≤ x) (hne : ch ≠ []) : wrd (ch ++ rest) a word = wrd rest (fol a c) (word ++ (if std a (fol a c) = true then ch else [])) := by
  match ch, hne with
  | x :: ch, _ =>
    have hx := fol_hi a x (h x (List.mem_cons_self ..))
    have hcc := fol_hi a c hc
    have h0 := hi_ne a
    rw [List.cons_append, wrd, hx, hcc, if_neg (by omega), if_neg (by omega), wrd_run ch rest (hi a) _ (fun y hy => h y (List.mem_cons_of_mem _ hy)) (hi_hi a), std_hi]
    by_cases hs : std a (hi a) = true
    · simp [hs]
    · simp [hs]

theorem dec_snoc (l : List UInt8) (hne : l ≠ []) (hv : ¬ ((Lib.decodeL l).1 = 65533 ∧ (Lib.decodeL l).2 = 1)) : Lib.decodeL (l ++ [32]) = Lib.decodeL l := by
  rw [Lib.decodeL_N] at hv
  rw [Lib.decodeL_N, Lib.decodeL_N]
  have hlen : (l ++ [32]).length = l.length + 1 := by simp
  have hpos : 1 ≤ l.length := by cases l with | nil => exact absurd rfl hne | cons => simp
  have hk : ∀ k, k < l.length → ((l ++ [32]).getD k 0).toNat = (l.getD k 0).toNat := fun k hk => by
    simp only [List.getD, List.getElem?_append_left hk]
  have k0 := hk 0; have k1 := hk 1; have k2 := hk 2; have k3 := hk 3
  rw [hlen]
  generalize ((l ++ [32]).getD 0 0).toNat = c0 at *
  generalize ((l ++ [32]).getD 1 0).toNat = c1 at *
  generalize ((l ++ [32]).getD 2 0).toNat = c2 at *
  generalize ((l ++ [32]).getD 3 0).toNat = c3 at *
  generalize (l.getD 0 0).toNat = b0 at *
  generalize (l.getD 1 0).toNat = b1 at *
  generalize (l.getD 2 0).toNat = b2 at *
  generalize (l.getD 3 0).toNat = b3 at *
  generalize l.length = n at *
  have e0 : c0 = b0 := k0 (by omega)
  subst e0
  clear hk k0 hlen
  unfold Lib.decodeN at hv ⊢
  by_cases q1 : c0 < 128
  · rw [if_pos q1, if_pos q1]
  rw [if_neg q1] at hv ⊢
  rw [if_neg q1]
  by_cases q2 : c0 / 32 = 6 ∧ (1 < n ∧ b1 / 64 = 2)
  · have e1 := k1 q2.2.1
    subst e1
    rw [if_pos q2, if_pos ⟨q2.1, by omega, q2.2.2⟩]
  rw [if_neg q2] at hv ⊢
  by_cases q3 : c0 / 16 = 14 ∧ (1 < n ∧ b1 / 64 = 2) ∧ (2 < n ∧ b2 / 64 = 2)
  · have e1 := k1 q3.2.1.1
    have e2 := k2 q3.2.2.1
    subst e1 e2
    rw [if_pos q3, if_neg (by omega), if_pos ⟨q3.1, ⟨by omega, q3.2.1.2⟩, ⟨by omega, q3.2.2.2⟩⟩]
  rw [if_neg q3] at hv ⊢
  by_cases q4 : c0 / 8 = 30 ∧ (1 < n ∧ b1 / 64 = 2) ∧ (2 < n ∧ b2 / 64 = 2) ∧ (3 < n ∧ b3 / 64 = 2)
  · have e1 := k1 q4.2.1.1
    have e2 := k2 q4.2.2.1.1
    have e3 := k3 q4.2.2.2.1
    subst e1 e2 e3
    rw [if_pos q4, if_neg (by omega), if_neg (by omega), if_pos ⟨q4.1, ⟨by omega, q4.2.1.2⟩, ⟨by omega, q4.2.2.1.2⟩, ⟨by omega, q4.2.2.2.2⟩⟩]
  rw [if_neg q4] at hv
  exact absurd ⟨rfl, rfl⟩ hv

theorem valid_snoc : ∀ (n : Nat) (l : List UInt8), l.length ≤ n → Lib.validD l = true → Lib.validD (l ++ [32]) = true
  | 0, l, hn, _ => by
    obtain rfl : l = [] := List.eq_nil_of_length_eq_zero (by omega)
    rfl
  | n + 1, l, hn, hv => by
    by_cases hne : l = []
    · subst hne; rfl
    · rw [Lib.validD_step l hne] at hv
      by_cases hb : (Lib.decodeL l).1 = 65533 ∧ (Lib.decodeL l).2 = 1
      · rw [if_pos hb] at hv; cases hv
      · rw [if_neg hb] at hv
        have hw := Lib.decodeL_width l
        have hle := Lib.decodeL_le l hne
        rw [Lib.validD_step _ (by simp), dec_snoc l hne hb, if_neg hb, List.drop_append_of_le_length hle]
        exact valid_snoc n _ (by rw [List.length_drop]; omega) hv

/-- At each place of a good text to which one comes: the code point and its bytes. -/
theorem good_at (t : ByteArray) (pos : Nat) (hp : pos < t.size) (hv : Lib.validD (t.data.toList.drop pos) = true) :
    ∃ c wd, Utf8.decode t pos = (c, wd) ∧ 1 ≤ wd ∧ c ≤ 1114111 ∧ pos + wd ≤ t.size ∧ Lib.validD (t.data.toList.drop (pos + wd)) = true ∧ (nums t).drop pos = ((Lib.encodeRune (c : Int)).map fun b => b.toNat) ++ (nums t).drop (pos + wd) ∧
      ((c < 128 ∧ (Lib.encodeRune (c : Int)).map (fun b => b.toNat) = [c]) ∨ (128 ≤ c ∧ (∀ x ∈ (Lib.encodeRune (c : Int)).map (fun b => b.toNat), 128 ≤ x) ∧ (Lib.encodeRune (c : Int)).map (fun b => b.toNat) ≠ [])) := by
  have hne : t.data.toList.drop pos ≠ [] := by
    intro h
    have := congrArg List.length h
    rw [List.length_drop] at this
    have h2 : t.data.toList.length = t.size := rfl
    simp only [List.length_nil] at this
    omega
  have hdl := Lib.decodeL_drop t pos
  have hst := Lib.validD_step _ hne
  rw [hv] at hst
  by_cases hb : (Lib.decodeL (t.data.toList.drop pos)).1 = 65533 ∧ (Lib.decodeL (t.data.toList.drop pos)).2 = 1
  · rw [if_pos hb] at hst; cases hst
  rw [if_neg hb] at hst
  have hen := Lib.encode_decode _ hne hb
  have hle := Lib.decodeL_le _ hne
  have hw := Lib.decodeL_width (t.data.toList.drop pos)
  have hru := Lib.decodeL_rune (t.data.toList.drop pos)
  rw [hdl] at hst hen hle hw hru
  obtain ⟨c, wd, hd⟩ : ∃ c wd, Utf8.decode t pos = (c, wd) := ⟨_, _, rfl⟩
  rw [hd] at hst hen hle hw hru
  simp only at hst hen hle hw hru
  rw [List.length_drop, show t.data.toList.length = t.size from rfl] at hle
  rw [List.drop_drop] at hst
  have hch : (nums t).drop pos = ((Lib.encodeRune (c : Int)).map fun b => b.toNat) ++ (nums t).drop (pos + wd) := by
    rw [hen, nums, ← List.map_drop, ← List.map_drop, ← List.map_append, ← List.drop_drop, List.take_append_drop]
  refine ⟨c, wd, hd, hw, hru, by omega, hst.symm, hch, ?_⟩
  obtain ⟨c', wd', hd', _, _, hcase⟩ := next_tells t pos hp
  rw [hd] at hd'
  cases hd'
  rcases hcase with ⟨h1, h2, h3⟩ | ⟨h1, h2⟩
  · left
    refine ⟨by omega, ?_⟩
    rw [Lib.encodeRune, Lib.encodeRuneZ_one (by omega) (by omega)]
    have e : c % 256 = c := by omega
    simp [e]
  · right
    refine ⟨h2, ?_, ?_⟩
    · intro x hx
      have hct := decode_cont t pos hp
      rw [hd] at hct
      simp only at hct
      rw [hen, List.map_take, List.map_drop] at hx
      obtain ⟨k, hk⟩ := List.getElem?_of_mem hx
      obtain ⟨hk1, _⟩ := List.getElem?_eq_some_iff.1 hk
      rw [List.length_take, List.length_drop, List.length_map, show t.data.toList.length = t.size from rfl] at hk1
      rw [List.getElem?_take_of_lt (by omega), List.getElem?_drop] at hk
      have := nums_at t (pos + k) (by omega)
      rw [nums] at this
      rw [this] at hk
      by_cases h0 : k = 0
      · subst h0
        rw [← Option.some.inj hk]; exact h1
      · obtain ⟨_, hx2⟩ := hct (pos + k) (by omega) (by omega)
        rw [← Option.some.inj hk]; exact hx2
    · intro h
      have := Lib.encodeRuneZ_length (c : Int)
      have h3 : (Lib.encodeRune (c : Int)).length = 0 := by simpa using h
      rw [Lib.encodeRune, List.length_map] at h3
      omega

end Go.Proofs.YtbacgkfmnccheaaDoor
