import Derived.Test.YtbacgkfmnccheaaDoorFoldQ
namespace Go.Proofs.YtbacgkfmnccheaaDoor
open Go.RowKit

/-- The document's code point: 0, 0 where the byte belongs to none. -/
def pt (s : ByteArray) (i : Nat) : Nat × Nat := if (Utf8.decode s i).1 = 65533 ∧ (Utf8.decode s i).2 = 1 then (0, 0) else Utf8.decode s i

/-- How many bytes the first one asks for, what it brings, the least number. -/
def kind (b0 : Nat) : Nat × Nat × Nat := if b0 ≤ 223 then (2, b0 - 192, 128) else if b0 ≤ 239 then (3, b0 - 224, 2048) else (4, b0 - 240, 65536)

/-- The number behind k bytes. -/
def accB (s : ByteArray) (i c0 : Nat) : Nat → Nat
  | 0 => c0
  | 1 => c0
  | k + 2 => 64 * accB s i c0 (k + 1) + (s.get! (i + (k + 1))).toNat - 128

/-- Bytes that go on. -/
def cont (s : ByteArray) (i j : Nat) : Prop := i + j < s.size ∧ 128 ≤ (s.get! (i + j)).toNat ∧ (s.get! (i + j)).toNat ≤ 191

theorem pt_ascii (s : ByteArray) (i : Nat) (h : i < s.size) (ha : (s.get! i).toNat < 128) : pt s i = ((s.get! i).toNat, 1) := by
  have h' : (s[i]'h).toNat < 128 := by rw [← byte_get]; exact ha
  unfold pt
  rw [decode_ascii s i h h', byte_get s i h, if_neg (by simp only; omega)]

theorem pt_lead (s : ByteArray) (i : Nat) (_h : i < s.size) (ha : 128 ≤ (s.get! i).toNat) (hb : (s.get! i).toNat < 194 ∨ 244 < (s.get! i).toNat) : pt s i = (0, 0) := by
  unfold pt
  rw [Lib.decode_at, Lib.decodeN_bad _ _ _ _ _ (by have := (s.get! i).toNat_lt; omega), if_pos ⟨rfl, rfl⟩]

theorem kind_lt {b j : Nat} (hb : b ≤ 244) (hj : j < (kind b).1) : (j < 2 ∧ b ≤ 223) ∨ (j < 3 ∧ 224 ≤ b ∧ b ≤ 239) ∨ (j < 4 ∧ 240 ≤ b) := by
  unfold kind at hj
  by_cases h1 : b ≤ 223
  · rw [if_pos h1] at hj; exact .inl ⟨hj, h1⟩
  · rw [if_neg h1] at hj
    by_cases h2 : b ≤ 239
    · rw [if_pos h2] at hj; exact .inr (.inl ⟨hj, by omega, h2⟩)
    · rw [if_neg h2] at hj; exact .inr (.inr ⟨hj, by omega⟩)

theorem decodeN_short (n b0 b1 b2 b3 j : Nat) (ha : 194 ≤ b0) (hb : b0 ≤ 244) (hj1 : 1 ≤ j) (hj : j < (kind b0).1)
    (h1 : j = 1 → ¬ (1 < n ∧ b1 / 64 = 2)) (h2 : j = 2 → ¬ (2 < n ∧ b2 / 64 = 2)) (h3 : j = 3 → ¬ (3 < n ∧ b3 / 64 = 2)) : Lib.decodeN n b0 b1 b2 b3 = (65533, 1) := by
  have hk := kind_lt hb hj
  clear hj
  have hjj : j = 1 ∨ j = 2 ∨ j = 3 := by omega
  unfold Lib.decodeN
  rw [if_neg (by omega : ¬ b0 < 128)]
  rcases hjj with rfl | rfl | rfl
  · have h1 := h1 rfl
    rw [if_neg (fun h => h1 h.2), if_neg (fun h => h1 h.2.1), if_neg (fun h => h1 h.2.1)]
  · have h2 := h2 rfl
    rw [if_neg (fun h => by have := h.1; omega), if_neg (fun h => h2 h.2.2), if_neg (fun h => h2 h.2.2.1)]
  · have h3 := h3 rfl
    rw [if_neg (fun h => by have := h.1; omega), if_neg (fun h => by have := h.1; omega), if_neg (fun h => h3 h.2.2.2)]

theorem pt_short (s : ByteArray) (i j : Nat) (_h : i < s.size) (ha : 194 ≤ (s.get! i).toNat) (hb : (s.get! i).toNat ≤ 244) (hj1 : 1 ≤ j) (hj : j < (kind (s.get! i).toNat).1) (hc : ¬ cont s i j) : pt s i = (0, 0) := by
  unfold pt
  rw [Lib.decode_at, decodeN_short _ _ _ _ _ j ha hb hj1 hj, if_pos ⟨rfl, rfl⟩]
  · rintro rfl ⟨e1, e2⟩; exact hc ⟨by omega, by omega, by omega⟩
  · rintro rfl ⟨e1, e2⟩; exact hc ⟨by omega, by omega, by omega⟩
  · rintro rfl ⟨e1, e2⟩; exact hc ⟨by omega, by omega, by omega⟩

set_option maxRecDepth 100000 in
theorem decodeN_two (n b0 b1 b2 b3 : Nat) (ha : 194 ≤ b0) (hb : b0 ≤ 223) (hn : 1 < n) (h1 : 128 ≤ b1 ∧ b1 ≤ 191) : Lib.decodeN n b0 b1 b2 b3 = (64 * (b0 - 192) + b1 - 128, 2) := by
  unfold Lib.decodeN
  rw [if_neg (show ¬ b0 < 128 by omega), if_pos (show b0 / 32 = 6 ∧ (1 < n ∧ b1 / 64 = 2) from ⟨by omega, hn, by omega⟩), if_pos (show b0 % 32 * 64 + b1 % 64 ≥ 128 by omega)]
  congr 1
  omega

set_option maxRecDepth 100000 in
theorem decodeN_three (n b0 b1 b2 b3 v : Nat) (ha : 224 ≤ b0) (hb : b0 ≤ 239) (hn : 2 < n) (h1 : 128 ≤ b1 ∧ b1 ≤ 191) (h2 : 128 ≤ b2 ∧ b2 ≤ 191) (hv : v = 64 * (64 * (b0 - 224) + b1 - 128) + b2 - 128) :
    Lib.decodeN n b0 b1 b2 b3 = if v < 2048 ∨ 1114111 < v ∨ (55296 ≤ v ∧ v ≤ 57343) then (65533, 1) else (v, 3) := by
  have e : b0 % 16 * 4096 + b1 % 64 * 64 + b2 % 64 = v := by omega
  unfold Lib.decodeN
  rw [if_neg (show ¬ b0 < 128 by omega), if_neg (show ¬ (b0 / 32 = 6 ∧ (1 < n ∧ b1 / 64 = 2)) from fun h => by have := h.1; omega),
    if_pos (show b0 / 16 = 14 ∧ (1 < n ∧ b1 / 64 = 2) ∧ (2 < n ∧ b2 / 64 = 2) from ⟨by omega, ⟨by omega, by omega⟩, hn, by omega⟩), e]
  by_cases hc : v ≥ 2048 ∧ (v < 55296 ∨ (57344 ≤ v ∧ v ≤ 1114111))
  · rw [if_pos hc, if_neg (by omega)]
  · rw [if_neg hc, if_pos (by omega)]

set_option maxRecDepth 100000 in
theorem decodeN_four (n b0 b1 b2 b3 v : Nat) (ha : 240 ≤ b0) (hb : b0 ≤ 244) (hn : 3 < n) (h1 : 128 ≤ b1 ∧ b1 ≤ 191) (h2 : 128 ≤ b2 ∧ b2 ≤ 191) (h3 : 128 ≤ b3 ∧ b3 ≤ 191) (hv : v = 64 * (64 * (64 * (b0 - 240) + b1 - 128) + b2 - 128) + b3 - 128) :
    Lib.decodeN n b0 b1 b2 b3 = if v < 65536 ∨ 1114111 < v ∨ (55296 ≤ v ∧ v ≤ 57343) then (65533, 1) else (v, 4) := by
  have e : b0 % 8 * 262144 + b1 % 64 * 4096 + b2 % 64 * 64 + b3 % 64 = v := by omega
  unfold Lib.decodeN
  rw [if_neg (show ¬ b0 < 128 by omega), if_neg (show ¬ (b0 / 32 = 6 ∧ (1 < n ∧ b1 / 64 = 2)) from fun h => by have := h.1; omega),
    if_neg (show ¬ (b0 / 16 = 14 ∧ (1 < n ∧ b1 / 64 = 2) ∧ (2 < n ∧ b2 / 64 = 2)) from fun h => by have := h.1; omega),
    if_pos (show b0 / 8 = 30 ∧ (1 < n ∧ b1 / 64 = 2) ∧ (2 < n ∧ b2 / 64 = 2) ∧ (3 < n ∧ b3 / 64 = 2) from ⟨by omega, ⟨by omega, by omega⟩, ⟨by omega, by omega⟩, hn, by omega⟩), e]
  by_cases hc : v ≥ 65536 ∧ (v < 55296 ∨ (57344 ≤ v ∧ v ≤ 1114111))
  · rw [if_pos hc, if_neg (by omega)]
  · rw [if_neg hc, if_pos (by omega)]

theorem pt_of {s : ByteArray} {i v n : Nat} {P : Prop} [Decidable P] (h : Utf8.decode s i = if P then (65533, 1) else (v, n)) (hn : n ≠ 1) : pt s i = if P then (0, 0) else (v, n) := by
  unfold pt
  rw [h]
  by_cases hp : P
  · rw [if_pos hp, if_pos hp, if_pos ⟨rfl, rfl⟩]
  · rw [if_neg hp, if_neg hp, if_neg (fun h => hn h.2)]

/-- All bytes are there. -/
theorem pt_all (s : ByteArray) (i : Nat) (_hi : i < s.size) (ha : 194 ≤ (s.get! i).toNat) (hb : (s.get! i).toNat ≤ 244) (hc : ∀ j, 1 ≤ j → j < (kind (s.get! i).toNat).1 → cont s i j) (v : Nat)
    (hv : v = accB s i (kind (s.get! i).toNat).2.1 (kind (s.get! i).toNat).1) :
    pt s i = if v < (kind (s.get! i).toNat).2.2 ∨ 1114111 < v ∨ (55296 ≤ v ∧ v ≤ 57343) then (0, 0) else (v, (kind (s.get! i).toNat).1) := by
  have hk : (s.get! i).toNat ≤ 223 ∨ (224 ≤ (s.get! i).toNat ∧ (s.get! i).toNat ≤ 239) ∨ 240 ≤ (s.get! i).toNat := by omega
  rcases hk with hk | hk | hk
  · have ek : kind (s.get! i).toNat = (2, (s.get! i).toNat - 192, 128) := by unfold kind; rw [if_pos hk]
    rw [ek] at hc hv ⊢
    obtain ⟨c1, c1'⟩ := hc 1 (Nat.le_refl _) (by show 1 < 2; omega)
    have hv' : v = 64 * ((s.get! i).toNat - 192) + (s.get! (i + 1)).toNat - 128 := hv
    refine pt_of ?_ (by show 2 ≠ 1; omega)
    rw [Lib.decode_at, decodeN_two _ _ _ _ _ ha hk (by omega) c1', ← hv']
    exact (if_neg (by show ¬ (v < 128 ∨ _); omega)).symm
  · have ek : kind (s.get! i).toNat = (3, (s.get! i).toNat - 224, 2048) := by unfold kind; rw [if_neg (by omega), if_pos hk.2]
    rw [ek] at hc hv ⊢
    obtain ⟨c1, c1'⟩ := hc 1 (Nat.le_refl _) (by show 1 < 3; omega)
    obtain ⟨c2, c2'⟩ := hc 2 (by omega) (by show 2 < 3; omega)
    refine pt_of ?_ (by show 3 ≠ 1; omega)
    rw [Lib.decode_at]
    exact decodeN_three _ _ _ _ _ _ hk.1 hk.2 (by omega) c1' c2' hv
  · have ek : kind (s.get! i).toNat = (4, (s.get! i).toNat - 240, 65536) := by unfold kind; rw [if_neg (by omega), if_neg (by omega)]
    rw [ek] at hc hv ⊢
    obtain ⟨c1, c1'⟩ := hc 1 (Nat.le_refl _) (by show 1 < 4; omega)
    obtain ⟨c2, c2'⟩ := hc 2 (by omega) (by show 2 < 4; omega)
    obtain ⟨c3, c3'⟩ := hc 3 (by omega) (by show 3 < 4; omega)
    refine pt_of ?_ (by show 4 ≠ 1; omega)
    rw [Lib.decode_at]
    exact decodeN_four _ _ _ _ _ _ hk hb (by omega) c1' c2' c3' hv

end Go.Proofs.YtbacgkfmnccheaaDoor
