import Derived.Test.YtbacgkfmnccheaaDoorCaps
import Derived.Test.YtbacgkfmnccheaaDoorCheck
namespace Go.Proofs.YtbacgkfmnccheaaDoor
open Go.RowKit

/-- One byte of a name, behind the byte p. -/
def fb (p x : Nat) : Nat := if (65 ≤ x ∧ x ≤ 90) ∨ (p = 195 ∧ 128 ≤ x ∧ x ≤ 158 ∧ x ≠ 151) then x + 32 else x
def foldF : Nat → List Nat → List Nat
  | _, [] => []
  | p, x :: l => fb p x :: foldF x l
def foldR (l : List Nat) : List Nat := foldF 0 l

theorem foldF_len : ∀ (l : List Nat) (p : Nat), (foldF p l).length = l.length
  | [], _ => rfl
  | x :: l, p => by simp [foldF, foldF_len l x]
theorem foldR_len (l : List Nat) : (foldR l).length = l.length := foldF_len l 0

/-- The byte ahead. -/
def prv (l : List Nat) (j : Nat) : Nat := if j = 0 then 0 else l.getD (j - 1) 0

theorem foldF_at : ∀ (l : List Nat) (p j : Nat), j < l.length → (foldF p l).getD j 0 = fb (if j = 0 then p else l.getD (j - 1) 0) (l.getD j 0)
  | [], _, _, h => by simp at h
  | x :: l, p, 0, _ => by simp [foldF]
  | x :: l, p, j + 1, h => by
    have := foldF_at l x j (by simpa using h)
    simp only [foldF, List.getD_cons_succ, this]
    cases j with
    | zero => simp
    | succ j => simp
theorem foldR_at (l : List Nat) (j : Nat) (h : j < l.length) : (foldR l).getD j 0 = fb (prv l j) (l.getD j 0) := foldF_at l 0 j h

theorem prv_succ (l : List Nat) (j : Nat) : prv l (j + 1) = l.getD j 0 := by simp [prv]

/-- What is known of the code point at a place: c, of wd bytes. -/
def Dec (l : List Nat) (pos c wd : Nat) : Prop :=
  (l.getD pos 0 < 128 ∧ c = l.getD pos 0 ∧ wd = 1) ∨
  (l.getD pos 0 = 195 ∧ pos + 1 < l.length ∧ 128 ≤ l.getD (pos + 1) 0 ∧ l.getD (pos + 1) 0 < 192 ∧ c = l.getD (pos + 1) 0 + 64 ∧ wd = 2) ∨
  (l.getD pos 0 = 195 ∧ ¬ (pos + 1 < l.length ∧ 128 ≤ l.getD (pos + 1) 0 ∧ l.getD (pos + 1) 0 < 192) ∧ isCap c = false ∧ wd = 1) ∨
  (128 ≤ l.getD pos 0 ∧ l.getD pos 0 ≠ 195 ∧ isCap c = false ∧ 1 ≤ wd ∧ pos + wd ≤ l.length ∧ ∀ k, pos < k → k < pos + wd → 128 ≤ l.getD k 0 ∧ l.getD k 0 < 192)

/-- What lies there when the places ahead of pos are folded. -/
structure FoInv (l : List Nat) (pos : Nat) (f : List Nat) : Prop where
  len : f.length = l.length
  le : pos ≤ l.length
  at_ : ∀ j, j < l.length → f.getD j 0 = if j < pos then fb (prv l j) (l.getD j 0) else l.getD j 0
  fresh : ¬ (pos < l.length ∧ prv l pos = 195 ∧ 128 ≤ l.getD pos 0 ∧ l.getD pos 0 < 192)

theorem FoInv.start (l : List Nat) : FoInv l 0 l := ⟨rfl, Nat.zero_le _, fun j _ => by simp, by simp [prv]⟩

theorem cap_iff (c : Nat) : isCap c = true ↔ (65 ≤ c ∧ c ≤ 90) ∨ (192 ≤ c ∧ c ≤ 214) ∨ (216 ≤ c ∧ c ≤ 222) := by simp [isCap, or_assoc]
theorem cap_not (c : Nat) : isCap c = false ↔ ¬ ((65 ≤ c ∧ c ≤ 90) ∨ (192 ≤ c ∧ c ≤ 214) ∨ (216 ≤ c ∧ c ≤ 222)) := by rw [← cap_iff]; simp

theorem FoInv.step_no {l f : List Nat} {pos c wd : Nat} (h : FoInv l pos f) (hp : pos < l.length) (hd : Dec l pos c wd) (hc : isCap c = false) : FoInv l (pos + wd) f := by
  have hfr := h.fresh
  rw [cap_not] at hc
  rcases hd with ⟨d1, rfl, rfl⟩ | ⟨d1, d2, d3, d4, rfl, rfl⟩ | ⟨d1, d2, _, rfl⟩ | ⟨d1, d2, _, d3, d4, d5⟩
  · refine ⟨h.len, by omega, fun j hj => ?_, ?_⟩
    · rw [h.at_ j hj]
      by_cases e : j = pos
      · subst e
        rw [if_neg (by omega), if_pos (by omega), fb, if_neg (by omega)]
      · by_cases e2 : j < pos
        · rw [if_pos e2, if_pos (by omega)]
        · rw [if_neg e2, if_neg (by omega)]
    · rw [prv_succ]; omega
  · refine ⟨h.len, by omega, fun j hj => ?_, ?_⟩
    · rw [h.at_ j hj]
      by_cases e : j = pos
      · subst e
        rw [if_neg (by omega), if_pos (by omega), fb, if_neg (by omega)]
      · by_cases e1 : j = pos + 1
        · subst e1
          rw [if_neg (by omega), if_pos (by omega), fb, prv_succ, if_neg (by omega)]
        · by_cases e2 : j < pos
          · rw [if_pos e2, if_pos (by omega)]
          · rw [if_neg e2, if_neg (by omega)]
    · rw [show pos + 2 = (pos + 1) + 1 from rfl, prv_succ]; omega
  · refine ⟨h.len, by omega, fun j hj => ?_, ?_⟩
    · rw [h.at_ j hj]
      by_cases e : j = pos
      · subst e
        rw [if_neg (by omega), if_pos (by omega), fb, if_neg (by omega)]
      · by_cases e2 : j < pos
        · rw [if_pos e2, if_pos (by omega)]
        · rw [if_neg e2, if_neg (by omega)]
    · rw [prv_succ]; omega
  · refine ⟨h.len, d4, fun j hj => ?_, ?_⟩
    · rw [h.at_ j hj]
      by_cases e : j < pos
      · rw [if_pos e, if_pos (by omega)]
      · by_cases e2 : j < pos + wd
        · rw [if_neg e, if_pos e2]
          by_cases e3 : j = pos
          · subst e3
            rw [fb, if_neg]
            intro hh
            rcases hh with hh | hh
            · omega
            · exact hfr ⟨hp, hh.1, hh.2.1, by omega⟩
          · have hj1 := d5 j (by omega) e2
            rw [fb, if_neg]
            intro hh
            rcases hh with hh | hh
            · omega
            · obtain ⟨i, rfl⟩ : ∃ i, j = i + 1 := ⟨j - 1, by omega⟩
              rw [prv_succ] at hh
              by_cases e4 : i = pos
              · subst e4; exact d2 hh.1
              · have := d5 i (by omega) (by omega); omega
        · rw [if_neg e, if_neg e2]
    · obtain ⟨i, hi⟩ : ∃ i, pos + wd = i + 1 := ⟨pos + wd - 1, by omega⟩
      rw [hi, prv_succ]
      by_cases e4 : i = pos
      · subst e4; exact fun hh => d2 hh.2.1
      · have := d5 i (by omega) (by omega); omega

theorem set_at (f : List Nat) (i v j : Nat) (hj : j < f.length) : (f.set i v).getD j 0 = if i = j then v else f.getD j 0 := by
  simp only [List.getD, List.getElem?_set]
  by_cases h : i = j
  · subst h; simp [hj]
  · simp [h]

theorem FoInv.step_one {l f : List Nat} {pos c wd : Nat} (h : FoInv l pos f) (hp : pos < l.length) (hd : Dec l pos c wd) (hc : isCap c = true) (h128 : c < 128) : wd = 1 ∧ l.getD pos 0 = c ∧ FoInv l (pos + 1) (f.set pos (c + 32)) := by
  rw [cap_iff] at hc
  have hd1 : l.getD pos 0 = c ∧ wd = 1 := by
    rcases hd with d | d | ⟨_, _, d, _⟩ | ⟨_, _, d, _⟩
    · omega
    · omega
    · rw [cap_not] at d; omega
    · rw [cap_not] at d; omega
  refine ⟨hd1.2, hd1.1, ⟨by simp [h.len], by omega, fun j hj => ?_, ?_⟩⟩
  · rw [set_at _ _ _ _ (by rw [h.len]; exact hj)]
    by_cases e : pos = j
    · subst e
      rw [if_pos rfl, if_pos (by omega), hd1.1, fb, if_pos (by omega)]
    · rw [if_neg e, h.at_ j hj]
      by_cases e2 : j < pos
      · rw [if_pos e2, if_pos (by omega)]
      · rw [if_neg e2, if_neg (by omega)]
  · rw [prv_succ, hd1.1]; omega

theorem FoInv.step_two {l f : List Nat} {pos c wd : Nat} (h : FoInv l pos f) (hp : pos < l.length) (hd : Dec l pos c wd) (hc : isCap c = true) (h128 : ¬ c < 128) : wd = 2 ∧ pos + 1 < l.length ∧ l.getD pos 0 = 195 ∧ f.getD pos 0 = 195 ∧ f.getD (pos + 1) 0 = l.getD (pos + 1) 0 ∧ c = l.getD (pos + 1) 0 + 64 ∧ FoInv l (pos + 2) (f.set (pos + 1) (l.getD (pos + 1) 0 + 32)) := by
  rw [cap_iff] at hc
  have hd1 : l.getD pos 0 = 195 ∧ pos + 1 < l.length ∧ 128 ≤ l.getD (pos + 1) 0 ∧ l.getD (pos + 1) 0 < 192 ∧ c = l.getD (pos + 1) 0 + 64 ∧ wd = 2 := by
    rcases hd with d | d | ⟨_, _, d, _⟩ | ⟨_, _, d, _⟩
    · omega
    · exact d
    · rw [cap_not] at d; omega
    · rw [cap_not] at d; omega
  obtain ⟨d1, d2, d3, d4, d5, d6⟩ := hd1
  refine ⟨d6, d2, d1, by rw [h.at_ pos hp, if_neg (by omega), d1], by rw [h.at_ _ d2, if_neg (by omega)], d5, ⟨by simp [h.len], by omega, fun j hj => ?_, ?_⟩⟩
  · rw [set_at _ _ _ _ (by rw [h.len]; exact hj)]
    by_cases e : pos + 1 = j
    · subst e
      rw [if_pos rfl, if_pos (by omega), fb, prv_succ, if_pos (by omega)]
    · rw [if_neg e, h.at_ j hj]
      by_cases e2 : j < pos
      · rw [if_pos e2, if_pos (by omega)]
      · by_cases e3 : j = pos
        · subst e3
          rw [if_neg (by omega), if_pos (by omega), fb, if_neg (by omega)]
        · rw [if_neg e2, if_neg (by omega)]
  · rw [show pos + 2 = (pos + 1) + 1 from rfl, prv_succ]; omega

theorem getD_ext {a b : List Nat} (h1 : a.length = b.length) (h2 : ∀ j, j < a.length → a.getD j 0 = b.getD j 0) : a = b := by
  apply List.ext_getElem h1
  intro j k1 k2
  have := h2 j k1
  simp only [List.getD, List.getElem?_eq_getElem k1, List.getElem?_eq_getElem k2, Option.getD_some] at this
  exact this

theorem FoInv.done {l f : List Nat} {pos : Nat} (h : FoInv l pos f) (hp : ¬ pos < l.length) : f = foldR l := by
  apply getD_ext
  · rw [h.len, foldR_len]
  · intro j hj
    rw [h.len] at hj
    rw [h.at_ j hj, if_pos (by have := h.le; omega), foldR_at l j hj]

theorem nums_getD (s : ByteArray) (k : Nat) (h : k < s.size) : (nums s).getD k 0 = (s.get! k).toNat := by
  rw [List.getD, nums_at s k h, byte_get s k h]; rfl

/-- The model's decoder keeps to it. -/
theorem dec_text (s : ByteArray) (pos : Nat) (h : pos < s.size) : Dec (nums s) pos (Utf8.decode s pos).1 (Utf8.decode s pos).2 := by
  have hct := decode_cont s pos h
  have hwd : 1 ≤ (Utf8.decode s pos).2 := by
    obtain ⟨c, wd, e, h1, _⟩ := next_tells s pos h
    rw [e]; exact h1
  have hlast : pos + (Utf8.decode s pos).2 ≤ s.size := by
    by_cases h1 : (Utf8.decode s pos).2 = 1
    · omega
    · obtain ⟨hk, _⟩ := hct (pos + (Utf8.decode s pos).2 - 1) (by omega) (by omega)
      omega
  have hN : ∀ k, k < s.size → (nums s).getD k 0 = (s.get! k).toNat := nums_getD s
  have hb := fun k : Nat => (s.get! k).toNat_lt
  have b0 := hb pos; have b1 := hb (pos + 1); have b2 := hb (pos + 2); have b3 := hb (pos + 3)
  have hcont : ∀ k, pos < k → k < pos + (Utf8.decode s pos).2 → (s.get! k).toNat < 192 := by
    intro k h1 h2
    rw [Lib.decode_at] at h2
    obtain ⟨n, hn⟩ : ∃ n, s.size - pos = n := ⟨_, rfl⟩
    rw [hn] at h2
    obtain ⟨d, rfl⟩ : ∃ d, k = pos + d := ⟨k - pos, by omega⟩
    obtain ⟨x0, e0⟩ : ∃ b, (s.get! pos).toNat = b := ⟨_, rfl⟩
    obtain ⟨x1, e1⟩ : ∃ b, (s.get! (pos + 1)).toNat = b := ⟨_, rfl⟩
    obtain ⟨x2, e2⟩ : ∃ b, (s.get! (pos + 2)).toNat = b := ⟨_, rfl⟩
    obtain ⟨x3, e3⟩ : ∃ b, (s.get! (pos + 3)).toNat = b := ⟨_, rfl⟩
    rw [e0, e1, e2, e3] at h2
    unfold Lib.decodeN at h2
    have hd : d = 1 ∨ d = 2 ∨ d = 3 ∨ 4 ≤ d := by omega
    rcases hd with rfl | rfl | rfl | hd
    · rw [e1]
      repeat' split at h2
      all_goals simp only at h2
      all_goals omega
    · rw [e2]
      repeat' split at h2
      all_goals simp only at h2
      all_goals omega
    · rw [e3]
      repeat' split at h2
      all_goals simp only at h2
      all_goals omega
    · exfalso
      repeat' split at h2
      all_goals simp only at h2
      all_goals omega
  have hct2 : ∀ k, pos < k → k < pos + (Utf8.decode s pos).2 → 128 ≤ (s.get! k).toNat := fun k h1 h2 => by
    obtain ⟨hk, hx⟩ := hct k h1 h2
    rw [byte_get s k hk]; exact hx
  unfold Dec
  rw [nums_len, hN pos h]
  by_cases h128 : (s.get! pos).toNat < 128
  · left
    have h' : (s[pos]'h).toNat < 128 := by rw [← byte_get]; exact h128
    rw [decode_ascii s pos h h', byte_get s pos h]
    exact ⟨h', rfl, rfl⟩
  · right
    by_cases h195 : (s.get! pos).toNat = 195
    · by_cases hn : pos + 1 < s.size ∧ 128 ≤ (s.get! (pos + 1)).toNat ∧ (s.get! (pos + 1)).toNat < 192
      · left
        rw [hN _ hn.1]
        refine ⟨h195, hn.1, hn.2.1, hn.2.2, ?_⟩
        rw [Lib.decode_at]
        unfold Lib.decodeN
        rw [if_neg (by omega), if_pos (by omega), if_pos (by omega)]
        constructor
        · simp only; omega
        · rfl
      · right; left
        have hn' : ¬ (pos + 1 < s.size ∧ 128 ≤ (nums s).getD (pos + 1) 0 ∧ (nums s).getD (pos + 1) 0 < 192) := by
          intro hh
          rw [hN _ hh.1] at hh
          exact hn hh
        refine ⟨h195, hn', ?_⟩
        rw [Lib.decode_at]
        unfold Lib.decodeN
        rw [if_neg (by omega), if_neg (by omega), if_neg (by omega), if_neg (by omega)]
        exact ⟨by decide, rfl⟩
    · right; right
      refine ⟨by omega, h195, ?_, hwd, hlast, fun k h1 h2 => ?_⟩
      · rw [cap_not, Lib.decode_at]
        obtain ⟨n, hn⟩ : ∃ n, s.size - pos = n := ⟨_, rfl⟩
        rw [hn]
        obtain ⟨x0, e0⟩ : ∃ b, (s.get! pos).toNat = b := ⟨_, rfl⟩
        obtain ⟨x1, e1⟩ : ∃ b, (s.get! (pos + 1)).toNat = b := ⟨_, rfl⟩
        obtain ⟨x2, e2⟩ : ∃ b, (s.get! (pos + 2)).toNat = b := ⟨_, rfl⟩
        obtain ⟨x3, e3⟩ : ∃ b, (s.get! (pos + 3)).toNat = b := ⟨_, rfl⟩
        rw [e0] at h128 h195
        rw [e0, e1, e2, e3]
        unfold Lib.decodeN
        repeat' split
        all_goals simp only
        all_goals omega
      · obtain ⟨hk, _⟩ := hct k h1 h2
        rw [hN k hk]
        exact ⟨hct2 k h1 h2, hcont k h1 h2⟩

end Go.Proofs.YtbacgkfmnccheaaDoor
