import Derived.Test.YtfdclebajninfaaGreatDoorJParse
import Derived.Test.YtfdclebajninfaaGreatDoorCEyeP
import Derived.Test.YtfdclebajninfaaGreatDoorJOpen
namespace Go.Proofs.YtfdclebajninfaaGreatDoor
open Go.RowKit

/-! What the document reads of a record, as numbers -/
/-- Texts one behind the other, none above m. -/
def gA (m : Int) (xs : List Nat) (a0 f0 : Nat) : Nat → Nat × Nat
  | 0 => (a0, f0)
  | j + 1 => (C.rText m xs (gA m xs a0 f0 j).1 (gA m xs a0 f0 j).2).2
def gP (m : Int) (xs : List Nat) (a0 f0 j : Nat) : List Nat := C.got xs (gA m xs a0 f0 j).1 (C.rText m xs (gA m xs a0 f0 j).1 (gA m xs a0 f0 j).2)
theorem rA_gA (xs : List Nat) (a0 f0 : Nat) : ∀ j, rA xs a0 f0 j = gA 4194291 xs a0 f0 j
  | 0 => rfl
  | j + 1 => by rw [rA, gA, rA_gA xs a0 f0 j]
theorem rP_gP (xs : List Nat) (a0 f0 j : Nat) : rP xs a0 f0 j = gP 4194291 xs a0 f0 j := by unfold rP gP; rw [rA_gA]
theorem gA_stays (m : Int) (xs : List Nat) (a0 f0 j : Nat) (h : (gA m xs a0 f0 (j + 1)).2 = 0) : (gA m xs a0 f0 j).2 = 0 := by
  rcases Nat.eq_zero_or_pos (gA m xs a0 f0 j).2 with h0 | h0
  · exact h0
  · rw [gA, C.rt_done _ _ _ _ (by omega)] at h
    simp only at h
    omega
theorem gA_bad (m : Int) (xs : List Nat) (a0 f0 : Nat) (hf : f0 ≠ 0) : ∀ j, (gA m xs a0 f0 j).2 ≠ 0
  | 0 => hf
  | j + 1 => fun h => gA_bad m xs a0 f0 hf j (gA_stays m xs a0 f0 j h)
theorem take_cut (l : List Nat) (a b c : Nat) (h1 : a ≤ b) (h2 : b ≤ c) : (l.drop a).take (b - a) ++ (l.drop b).take (c - b) = (l.drop a).take (c - a) := by
  have e : c - a = (b - a) + (c - b) := by omega
  rw [e, List.take_add, List.drop_drop, show a + (b - a) = b by omega]
theorem gA_anew (m : Int) (hm : m ≤ 9223372036854775807) (xs : List Nat) (hs : ∀ x ∈ xs, x < 256) (hl : xs.length ≤ 140737488355328) (a0 : Nat) (ha : a0 ≤ xs.length) :
    ∀ j, (gA m xs a0 0 j).2 = 0 → a0 ≤ (gA m xs a0 0 j).1 ∧ (gA m xs a0 0 j).1 ≤ xs.length ∧ partsB ((List.range j).map (gP m xs a0 0)) = (xs.drop a0).take ((gA m xs a0 0 j).1 - a0)
  | 0, _ => by simp [gA, partsB, ha]
  | j + 1, h => by
    have h0 := gA_stays m xs a0 0 j h
    obtain ⟨i1, i2, i3⟩ := gA_anew m hm xs hs hl a0 ha j h0
    have han := C.anew_text m xs (gA m xs a0 0 j).1 hs i2 hm hl
    have eA : gA m xs a0 0 (j + 1) = (C.rText m xs (gA m xs a0 0 j).1 0).2 := by rw [gA, h0]
    have eP : gP m xs a0 0 j = C.got xs (gA m xs a0 0 j).1 (C.rText m xs (gA m xs a0 0 j).1 0) := by unfold gP; rw [h0]
    rw [eA] at h
    obtain ⟨k1, k2, k3⟩ := han.1 h
    rw [eA]
    refine ⟨by omega, k2, ?_⟩
    rw [List.range_succ, List.map_append, partsB_app, i3, List.map_singleton, eP]
    have e2 : partsB [C.got xs (gA m xs a0 0 j).1 (C.rText m xs (gA m xs a0 0 j).1 0)] = C.varOf (C.got xs (gA m xs a0 0 j).1 (C.rText m xs (gA m xs a0 0 j).1 0)).length (C.vs (C.got xs (gA m xs a0 0 j).1 (C.rText m xs (gA m xs a0 0 j).1 0)).length - 1) ++ C.got xs (gA m xs a0 0 j).1 (C.rText m xs (gA m xs a0 0 j).1 0) := by simp [partsB, partB]
    rw [e2, k3, take_cut _ _ _ _ i1 k1]

/-- ONE FORM: what is read as a body, written anew, is the bytes. -/
theorem readB_one {xs : List Nat} {num : Nat} {ps : List (List Nat)} (hs : ∀ x ∈ xs, x < 256) (hl : xs.length ≤ 140737488355328) (h : readB xs = some (num, ps)) :
    bodyB num ps = xs ∧ 1 ≤ num ∧ num ≤ 1099511627776 ∧ ps.length ≤ 4096 := by
  unfold readB at h
  split at h
  · cases h
  rename_i hn
  split at h
  · cases h
  rename_i he
  simp only [Option.some.injEq, Prod.mk.injEq] at h
  obtain ⟨rfl, rfl⟩ := h
  have hn' : ¬ (bNum xs).1.num < 1 ∧ ¬ 1099511627776 < (bNum xs).1.num ∧ ¬ 4096 < (bCnt xs).1.num := by omega
  have f3 : (bEnd xs).2 = 0 ∧ xs.length ≤ (bEnd xs).1 := by
    unfold C.pEnd at he
    constructor
    · by_cases q : (bEnd xs).2 = 0
      · exact q
      · rw [if_pos q] at he; exact absurd q (by omega)
    · by_cases q : (bEnd xs).2 = 0
      · rw [if_neg (by omega)] at he
        by_cases q2 : (bEnd xs).1 < xs.length
        · rw [if_pos q2] at he; omega
        · omega
      · rw [if_pos q] at he; exact absurd q (by omega)
  have f2 : (bCnt xs).2.2 = 0 := by
    by_cases q : (bCnt xs).2.2 = 0
    · exact q
    · have := gA_bad 4194291 xs (bCnt xs).2.1 _ q (bCnt xs).1.num
      unfold bEnd at f3
      rw [rA_gA] at f3
      exact absurd f3.1 this
  have f1 : (bNum xs).2.2 = 0 := by
    by_cases q : (bNum xs).2.2 = 0
    · exact q
    · unfold bCnt at f2
      rw [C.rn_done _ _ _ _ _ q] at f2
      exact absurd f2 q
  have a1 := C.anew_fixed 2 8 xs 0 hs (Nat.zero_le _) rfl (by omega) (by decide) (by decide) (by decide)
  obtain ⟨b1, b2, b3⟩ := a1.1 f1
  have e1 : (C.rNext 2 0 xs 0 0) = bNum xs := rfl
  rw [e1] at b1 b2 b3
  have ec : bCnt xs = C.rNext 1 0 xs (bNum xs).2.1 0 := by unfold bCnt; rw [f1]
  have a2 := C.anew_fixed 1 4 xs (bNum xs).2.1 hs b2 rfl (by omega) (by decide) (by decide) (by decide)
  rw [← ec] at a2
  obtain ⟨c1, c2, c3⟩ := a2.1 f2
  have eE : bEnd xs = gA 4194291 xs (bCnt xs).2.1 0 (bCnt xs).1.num := by unfold bEnd; rw [rA_gA, f2]
  rw [eE] at f3
  obtain ⟨d1, d2, d3⟩ := gA_anew 4194291 (by omega) xs hs hl (bCnt xs).2.1 c2 (bCnt xs).1.num f3.1
  have eP : bParts xs (bCnt xs).1.num = (List.range (bCnt xs).1.num).map (gP 4194291 xs (bCnt xs).2.1 0) := by
    unfold bParts
    rw [f2]
    exact List.map_congr_left (fun j _ => rP_gP _ _ _ _)
  have eL : (gA 4194291 xs (bCnt xs).2.1 0 (bCnt xs).1.num).1 = xs.length := by omega
  refine ⟨?_, by omega, by omega, by rw [bParts_len]; omega⟩
  unfold bodyB
  rw [bParts_len, b3, c3, eP, d3, eL]
  rw [take_cut _ _ _ _ b1 c1, take_cut _ _ _ _ (by omega) c2]
  simp
theorem cut_rec (xs : List Nat) (h : 13 ≤ xs.length) : (xs.take 9 ++ bodyOf xs) ++ tailOf xs = xs := by
  unfold bodyOf tailOf
  have e1 := take_cut xs 0 9 (xs.length - 4) (by omega) (by omega)
  simp only [List.drop_zero, Nat.sub_zero] at e1
  rw [show xs.length - 13 = xs.length - 4 - 9 by omega, e1]
  exact List.take_append_drop _ _
theorem readR_one {xs : List Nat} {num : Nat} {ps : List (List Nat)} (hs : ∀ x ∈ xs, x < 256) (hl : xs.length ≤ 4194304) (hh : hdOk xs = true) (hn : xs.length = hdN xs + 13) (h : readR xs = some (num, ps)) :
    recB num ps = xs ∧ 1 ≤ num ∧ num ≤ 1099511627776 ∧ ps.length ≤ 4096 := by
  have hb12 := hdOk_bounds hh
  unfold readR at h
  split at h
  · cases h
  rename_i hsum
  have hbs : ∀ x ∈ bodyOf xs, x < 256 := fun x hx => hs x (List.mem_of_mem_drop (List.mem_of_mem_take hx))
  have hbl : (bodyOf xs).length = xs.length - 13 := by unfold bodyOf; rw [List.length_take, List.length_drop]; omega
  obtain ⟨e1, e2, e3, e4⟩ := readB_one hbs (by omega) h
  refine ⟨?_, e2, e3, e4⟩
  have hts : ∀ x ∈ tailOf xs, x < 256 := fun x hx => hs x (List.mem_of_mem_drop hx)
  have htl : (tailOf xs).length = 4 := by unfold tailOf; rw [List.length_drop]; omega
  have hq : C.be (tailOf xs) = C.sumOf (bodyOf xs) := by omega
  have ht := C.beOf_be (tailOf xs) hts
  rw [htl, hq] at ht
  unfold recB framedB
  rw [e1, ht, hbl]
  have hk : xs.take 9 = headB (hdN xs) := by
    simp only [hdOk, Bool.and_eq_true, decide_eq_true_eq] at hh
    exact hh.2
  rw [show xs.length - 13 = hdN xs by omega, ← hk]
  exact cut_rec xs (by omega)

/-! the document's eye over a record -/
theorem rn_fix (k : Int) (s : Nat) (xs : List Nat) (a : Nat) (hk : C.width k = s) (h3 : k ≠ 3) (h4 : k ≠ 4) (h5 : k ≠ 5) (h : a + s ≤ xs.length) : C.rNext k 0 xs a 0 = (⟨C.be ((xs.drop a).take s), 0, 0, s, 0⟩, a + s, 0) :=
  C.rn_of k 0 xs a _ (by simp only [C.pFind, if_neg h3, if_neg h4, if_neg h5, hk, C.pFixed]; rw [if_neg (by rw [List.length_drop]; omega)]) rfl
def dNum (xs : List Nat) : Nat := C.be ((xs.drop 9).take 8)
def dCnt (xs : List Nat) : Nat := C.be ((xs.drop 17).take 4)
def dA (xs : List Nat) (j : Nat) : Nat × Nat := gA 4194304 xs 21 0 j
def dPs (xs : List Nat) (k : Nat) : List (List Nat) := (List.range k).map (gP 4194304 xs 21 0)
theorem dPs_len (xs : List Nat) (k : Nat) : (dPs xs k).length = k := by simp [dPs]
theorem dPs_succ (xs : List Nat) (k : Nat) : dPs xs (k + 1) = dPs xs k ++ [gP 4194304 xs 21 0 k] := by simp [dPs, List.range_succ]
theorem rec_drop (num : Nat) (ps : List (List Nat)) (k : Nat) (hk : k ≤ (bodyB num ps).length) : (recB num ps).drop (9 + k) = (bodyB num ps).drop k ++ C.beOf (C.sumOf (bodyB num ps)) 4 := by
  unfold recB framedB
  rw [← List.drop_drop, List.append_assoc, drop_app _ _ 9 (headB_len _), List.drop_append_of_le_length hk]
theorem dNum_rec (num : Nat) (ps : List (List Nat)) (hn : num < 18446744073709551616) : dNum (recB num ps) = num := by
  unfold dNum
  rw [show (recB num ps).drop 9 = (recB num ps).drop (9 + 0) from rfl, rec_drop num ps 0 (Nat.zero_le _), List.drop_zero]
  unfold bodyB
  rw [List.append_assoc, List.append_assoc, List.take_append_of_le_length (by rw [be_len]; omega), List.take_of_length_le (by rw [be_len]; omega), C.be_beOf]
  omega
theorem dCnt_rec (num : Nat) (ps : List (List Nat)) (hk : ps.length < 4294967296) : dCnt (recB num ps) = ps.length := by
  unfold dCnt
  rw [show (17 : Nat) = 9 + 8 from rfl, rec_drop num ps 8 (by rw [bodyB_len]; omega)]
  unfold bodyB
  rw [List.append_assoc, drop_app _ _ 8 (be_len _ _), List.append_assoc, List.take_append_of_le_length (by rw [be_len]; omega), List.take_of_length_le (by rw [be_len]; omega), C.be_beOf]
  omega
theorem gText_rec (num : Nat) (ps : List (List Nat)) (j : Nat) (p : List Nat) (h : ps[j]? = some p) (hb : (bodyB num ps).length ≤ 4194291) :
    C.rText 4194304 (recB num ps) (21 + (partsB (ps.take j)).length) 0 = (⟨0, C.vs p.length, p.length, C.vs p.length + p.length, 0⟩, 21 + (partsB (ps.take (j + 1))).length, 0) ∧
    (recB num ps).drop (21 + (partsB (ps.take j)).length) = partB p ++ (partsB (ps.drop (j + 1)) ++ C.beOf (C.sumOf (bodyB num ps)) 4) := by
  have hp := part_fits num ps hb p (List.mem_of_getElem? h)
  have hle : 12 + (partsB (ps.take j)).length ≤ (bodyB num ps).length := by
    rw [bodyB_len]; have := partsB_le (ps := ps) (k := j); omega
  have hd : (recB num ps).drop (21 + (partsB (ps.take j)).length) = partB p ++ (partsB (ps.drop (j + 1)) ++ C.beOf (C.sumOf (bodyB num ps)) 4) := by
    rw [show 21 + (partsB (ps.take j)).length = 9 + (12 + (partsB (ps.take j)).length) by omega, rec_drop num ps _ hle, body_drop num ps j p h, List.append_assoc]
  refine ⟨?_, hd⟩
  have hr := C.rn_of 4 4194304 (recB num ps) (21 + (partsB (ps.take j)).length) _ (C.by_most 4194304 _ p (partsB (ps.drop (j + 1)) ++ C.beOf (C.sumOf (bodyB num ps)) 4) (by omega) (by omega) (by rw [hd]; rfl)) rfl
  show C.rNext 4 4194304 _ _ _ = _
  rw [hr, part_in ps j p h, partB_len2 p (by omega)]
  simp only [Nat.add_assoc]
theorem dA_rec (num : Nat) (ps : List (List Nat)) (hb : (bodyB num ps).length ≤ 4194291) : ∀ j, j ≤ ps.length → dA (recB num ps) j = (21 + (partsB (ps.take j)).length, 0)
  | 0, _ => by simp [dA, gA, partsB]
  | j + 1, hj => by
    obtain ⟨p, hp⟩ : ∃ p, ps[j]? = some p := ⟨_, List.getElem?_eq_getElem (by omega)⟩
    have ih := dA_rec num ps hb j (by omega)
    unfold dA at ih ⊢
    rw [gA, ih, (gText_rec num ps j p hp hb).1]
theorem dPs_rec (num : Nat) (ps : List (List Nat)) (hb : (bodyB num ps).length ≤ 4194291) : dPs (recB num ps) ps.length = ps := by
  apply List.ext_getElem?
  intro i
  unfold dPs
  by_cases hi : i < ps.length
  · rw [List.getElem?_map, List.getElem?_range hi, List.getElem?_eq_getElem hi]
    simp only [Option.map_some, Option.some.injEq]
    have hp := List.getElem?_eq_getElem hi
    have ih := dA_rec num ps hb i (by omega)
    unfold dA at ih
    unfold gP
    obtain ⟨q1, q2⟩ := gText_rec num ps i ps[i] hp hb
    rw [ih, q1]
    show (((recB num ps).drop _).drop (C.vs ps[i].length)).take ps[i].length = ps[i]
    rw [q2]
    have hv := C.vs_bounds ps[i].length (by have := part_fits num ps hb ps[i] (List.mem_of_getElem? hp); omega)
    unfold partB
    rw [List.append_assoc, drop_app _ _ _ (by rw [C.varOf_length]; omega)]
    simp
  · rw [List.getElem?_eq_none (by simp; omega), List.getElem?_eq_none (by omega)]

/-- What the document finds: a record that is written so. -/
structure DGood (xs : List Nat) (i : Nat) : Prop where
  f : (dA xs i).2 = 0
  lo : 1 ≤ dNum xs
  hi : dNum xs ≤ 1099511627776
  few : i ≤ 4096
  len : (recB (dNum xs) (dPs xs i)).length ≤ 4194304
  eq : recB (dNum xs) (dPs xs i) = xs.take (recB (dNum xs) (dPs xs i)).length
theorem doc_first {xs : List Nat} (hs : ∀ x ∈ xs, x < 256) (hl : xs.length ≤ 4194304) (hh : hdOk xs = true) (hn : xs.length = hdN xs + 13) (i : Nat) (hi : i ≤ dCnt xs) (hi2 : i = dCnt xs ∨ (dA xs i).2 ≠ 0) :
    (∀ num ps, readR xs = some (num, ps) → DGood xs i ∧ dNum xs = num ∧ dPs xs i = ps ∧ (recB (dNum xs) (dPs xs i)).length = xs.length) ∧
    (readR xs = none → DGood xs i → (recB (dNum xs) (dPs xs i)).length ≠ xs.length) := by
  constructor
  · intro num ps hr
    obtain ⟨e, h1, h2, h3⟩ := readR_one hs hl hh hn hr
    have hb : (bodyB num ps).length ≤ 4194291 := by
      have := recB_len num ps
      rw [e] at this
      omega
    have ec := dCnt_rec num ps (by omega)
    have en := dNum_rec num ps (by omega)
    rw [e] at ec en
    have ed := dA_rec num ps hb i (by omega)
    rw [e] at ed
    have ei : i = ps.length := by
      rcases hi2 with q | q
      · omega
      · rw [ed] at q; exact absurd rfl q
    have ep := dPs_rec num ps hb
    rw [e, ← ei] at ep
    rw [en, ep, e]
    refine ⟨⟨by rw [ed], by omega, by omega, by omega, ?_, ?_⟩, rfl, rfl, rfl⟩
    · rw [en, ep, e]; exact hl
    · rw [en, ep, e, List.take_of_length_le (Nat.le_refl _)]
  · intro hr hg hlen
    have e := hg.eq
    rw [hlen, List.take_of_length_le (Nat.le_refl _)] at e
    have hb : (bodyB (dNum xs) (dPs xs i)).length ≤ 4194291 := by
      have := recB_len (dNum xs) (dPs xs i)
      omega
    have hbs : ∀ x ∈ bodyB (dNum xs) (dPs xs i), x < 256 := fun x hx => hs x (by
      rw [← e]; unfold recB framedB
      exact List.mem_append_left _ (List.mem_append_right _ hx))
    have := readR_rec (dNum xs) (dPs xs i) hg.lo (by
      unfold recOk
      simp only [Bool.and_eq_true, decide_eq_true_eq]
      exact ⟨⟨by rw [dPs_len]; exact hg.few, hg.hi⟩, hb⟩) (sum_lt _ hbs)
    rw [e, hr] at this
    cases this

end Go.Proofs.YtfdclebajninfaaGreatDoor
