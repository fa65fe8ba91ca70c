import Derived.Test.YtfdclebajninfaaGreatDoorJChk
import Derived.Test.YtfdclebajninfaaGreatDoorCTurn
namespace Go.Proofs.YtfdclebajninfaaGreatDoor
open Go.RowKit Go.Maps

/-! What was written is read -/
theorem drop_app {α : Type} (a b : List α) (n : Nat) (h : a.length = n) : (a ++ b).drop n = b := by subst h; simp
theorem bNum_body (num : Nat) (ps : List (List Nat)) (hn : num < 18446744073709551616) : bNum (bodyB num ps) = (⟨num, 0, 0, 8, 0⟩, 8, 0) := by
  unfold bNum
  refine C.rn_of 2 0 _ 0 _ (C.fx_ok 2 8 num _ (C.beOf ps.length 4 ++ partsB ps) rfl (by decide) (by decide) (by decide) ?_ ?_) rfl
  · rw [List.drop_zero]
    unfold bodyB
    rw [List.append_assoc]
  · exact hn
theorem bCnt_body (num : Nat) (ps : List (List Nat)) (hn : num < 18446744073709551616) (hk : ps.length < 4294967296) : bCnt (bodyB num ps) = (⟨ps.length, 0, 0, 4, 0⟩, 12, 0) := by
  unfold bCnt
  rw [bNum_body num ps hn]
  refine C.rn_of 1 0 _ 8 _ (C.fx_ok 1 4 ps.length _ (partsB ps) rfl (by decide) (by decide) (by decide) ?_ ?_) rfl
  · unfold bodyB
    rw [List.append_assoc, drop_app _ _ 8 (by simp [C.beOf])]
  · exact hk
theorem take_cons_drop {α : Type} (l : List α) (j : Nat) (x : α) (h : l[j]? = some x) : l = l.take j ++ x :: l.drop (j + 1) := by
  have hj : j < l.length := (List.getElem?_eq_some_iff.1 h).1
  have hx : l[j] = x := (List.getElem?_eq_some_iff.1 h).2
  conv => lhs; rw [← List.take_append_drop j l, List.drop_eq_getElem_cons hj, hx]
theorem partsB_app (a b : List (List Nat)) : partsB (a ++ b) = partsB a ++ partsB b := by simp [partsB]
theorem partsB_cons (p : List Nat) (b : List (List Nat)) : partsB (p :: b) = partB p ++ partsB b := by simp [partsB]
theorem body_drop (num : Nat) (ps : List (List Nat)) (j : Nat) (p : List Nat) (h : ps[j]? = some p) : (bodyB num ps).drop (12 + (partsB (ps.take j)).length) = partB p ++ partsB (ps.drop (j + 1)) := by
  unfold bodyB
  have e : partsB ps = partsB (ps.take j) ++ (partB p ++ partsB (ps.drop (j + 1))) := by
    conv => lhs; rw [take_cons_drop ps j p h]
    rw [partsB_app, partsB_cons]
  rw [e, ← List.append_assoc]
  exact drop_app _ _ _ (by simp [C.beOf]; omega)
theorem partB_len2 (p : List Nat) (h : p.length < 18446744073709551616) : (partB p).length = C.vs p.length + p.length := by
  have := C.vs_bounds p.length h
  unfold partB
  rw [List.length_append, C.varOf_length]
  omega
theorem part_in (ps : List (List Nat)) (j : Nat) (p : List Nat) (h : ps[j]? = some p) : (partsB (ps.take (j + 1))).length = (partsB (ps.take j)).length + (partB p).length := by
  rw [List.take_add_one, h]
  simp [partsB]
theorem part_fits (num : Nat) (ps : List (List Nat)) (hb : (bodyB num ps).length ≤ 4194291) (p : List Nat) (hp : p ∈ ps) : p.length ≤ 4194291 := by
  have h1 : (partB p).length ≤ (partsB ps).length := by
    unfold partsB
    exact (List.Sublist.length_le (List.sublist_flatten_of_mem (List.mem_map_of_mem hp)))
  rw [bodyB_len] at hb
  have : p.length ≤ (partB p).length := by unfold partB; rw [List.length_append]; omega
  omega
theorem rText_body (num : Nat) (ps : List (List Nat)) (j : Nat) (p : List Nat) (h : ps[j]? = some p) (hb : (bodyB num ps).length ≤ 4194291) :
    C.rText 4194291 (bodyB num ps) (12 + (partsB (ps.take j)).length) 0 = (⟨0, C.vs p.length, p.length, C.vs p.length + p.length, 0⟩, 12 + (partsB (ps.take (j + 1))).length, 0) := by
  have hp := part_fits num ps hb p (List.mem_of_getElem? h)
  have hr := C.rn_of 4 4194291 (bodyB num ps) (12 + (partsB (ps.take j)).length) _ (C.by_most 4194291 _ p (partsB (ps.drop (j + 1))) (by omega) hp (by rw [body_drop num ps j p h]; rfl)) rfl
  show C.rNext 4 4194291 _ _ _ = _
  rw [hr, part_in ps j p h, partB_len2 p (by omega)]
  simp only [Nat.add_assoc]
theorem rA_body (num : Nat) (ps : List (List Nat)) (hb : (bodyB num ps).length ≤ 4194291) : ∀ j, j ≤ ps.length → rA (bodyB num ps) 12 0 j = (12 + (partsB (ps.take j)).length, 0)
  | 0, _ => by simp [rA, partsB]
  | j + 1, hj => by
    obtain ⟨p, hp⟩ : ∃ p, ps[j]? = some p := ⟨_, List.getElem?_eq_getElem (by omega)⟩
    rw [rA, rA_body num ps hb j (by omega), rText_body num ps j p hp hb]
theorem rP_body (num : Nat) (ps : List (List Nat)) (hb : (bodyB num ps).length ≤ 4194291) (j : Nat) (p : List Nat) (hp : ps[j]? = some p) : rP (bodyB num ps) 12 0 j = p := by
  have hj : j < ps.length := (List.getElem?_eq_some_iff.1 hp).1
  unfold rP
  rw [rA_body num ps hb j (by omega), rText_body num ps j p hp hb]
  show (((bodyB num ps).drop _).drop (C.vs p.length)).take p.length = p
  rw [body_drop num ps j p hp]
  have hv := C.vs_bounds p.length (by have := part_fits num ps hb p (List.mem_of_getElem? hp); omega)
  unfold partB
  rw [List.append_assoc, drop_app _ _ _ (by rw [C.varOf_length]; omega)]
  simp
theorem readB_body (num : Nat) (ps : List (List Nat)) (h1 : 1 ≤ num) (hok : recOk num ps = true) : readB (bodyB num ps) = some (num, ps) := by
  unfold recOk at hok
  simp only [Bool.and_eq_true, decide_eq_true_eq] at hok
  obtain ⟨⟨h2, h3⟩, hb⟩ := hok
  have e1 := bNum_body num ps (by omega)
  have e2 := bCnt_body num ps (by omega) (by omega)
  have e3 : bEnd (bodyB num ps) = ((bodyB num ps).length, 0) := by
    unfold bEnd
    rw [e2, rA_body num ps hb _ (Nat.le_refl _), List.take_of_length_le (Nat.le_refl _), bodyB_len]
  have e4 : bParts (bodyB num ps) ps.length = ps := by
    apply List.ext_getElem?
    intro i
    unfold bParts
    rw [e2]
    by_cases hi : i < ps.length
    · rw [List.getElem?_map, List.getElem?_range hi, List.getElem?_eq_getElem hi]
      simp only [Option.map_some]
      rw [rP_body num ps hb i ps[i] (List.getElem?_eq_getElem hi)]
    · rw [List.getElem?_eq_none (by simp; omega), List.getElem?_eq_none (by omega)]
  unfold readB
  rw [e1, e2, e3, if_neg (by simp only; omega), e4, if_neg (by simp [C.pEnd])]

theorem framed_parts (b : List Nat) : bodyOf (framedB b) = b ∧ tailOf (framedB b) = C.beOf (C.sumOf b) 4 := by
  unfold bodyOf tailOf
  rw [framedB_len]
  unfold framedB
  constructor
  · rw [List.append_assoc, drop_app _ _ 9 (by rw [headB_len]), Nat.add_sub_cancel]
    simp
  · exact drop_app _ _ _ (by rw [List.length_append, headB_len]; omega)
theorem readR_rec (num : Nat) (ps : List (List Nat)) (h1 : 1 ≤ num) (hok : recOk num ps = true) (hs : C.sumOf (bodyB num ps) < 4294967296) : readR (recB num ps) = some (num, ps) := by
  unfold readR recB
  rw [(framed_parts _).1, (framed_parts _).2, C.be_beOf, Nat.mod_eq_of_lt (by exact hs), if_neg (by simp)]
  exact readB_body num ps h1 hok

theorem bodyB_small (num : Nat) {ps : List (List Nat)} (h : ∀ p ∈ ps, ∀ x ∈ p, x < 256) (hl : ∀ p ∈ ps, p.length < 18446744073709551616) : ∀ x ∈ bodyB num ps, x < 256 := fun x hx => by
  rcases List.mem_append.1 hx with h1 | h1
  · rcases List.mem_append.1 h1 with h2 | h2
    · exact be_small _ _ x h2
    · exact be_small _ _ x h2
  · unfold partsB at h1
    obtain ⟨l, hl1, hl2⟩ := List.mem_flatten.1 h1
    obtain ⟨p, hp1, hp2⟩ := List.mem_map.1 hl1
    subst hp2
    exact partB_small (h p hp1) (hl p hp1) x hl2
/-- A transaction that can be kept under a number. -/
structure Trn (num : Nat) (ps : List (List Nat)) : Prop where
  pos : 1 ≤ num
  ok : recOk num ps = true
  small : ∀ p ∈ ps, ∀ x ∈ p, x < 256
theorem Trn.body {num : Nat} {ps : List (List Nat)} (h : Trn num ps) : 12 ≤ (bodyB num ps).length ∧ (bodyB num ps).length ≤ 4194291 := by
  have := h.ok
  unfold recOk at this
  simp only [Bool.and_eq_true, decide_eq_true_eq] at this
  refine ⟨?_, this.2⟩
  rw [bodyB_len]; omega
theorem Trn.bytes {num : Nat} {ps : List (List Nat)} (h : Trn num ps) : ∀ x ∈ bodyB num ps, x < 256 :=
  bodyB_small num h.small (fun p hp => by have := part_fits num ps h.body.2 p hp; omega)
theorem Trn.read {num : Nat} {ps : List (List Nat)} (h : Trn num ps) : readR (recB num ps) = some (num, ps) := readR_rec num ps h.pos h.ok (sum_lt _ h.bytes)
theorem recB_len (num : Nat) (ps : List (List Nat)) : (recB num ps).length = (bodyB num ps).length + 13 := by unfold recB; rw [framedB_len]
theorem rec_hdN (num : Nat) (ps : List (List Nat)) (h : (bodyB num ps).length ≤ 4194291) (xs : List Nat) : hdN (recB num ps ++ xs) = (bodyB num ps).length := by
  unfold hdN recB framedB headB hd5
  simp only [List.append_assoc]
  rw [drop_app _ _ 1 (be_len _ _), List.take_append_of_le_length (by rw [be_len]; omega), List.take_of_length_le (by rw [be_len]; omega), C.be_beOf, Nat.mod_eq_of_lt (by rw [show (256 : Nat) ^ 4 = 4294967296 from rfl]; omega)]
theorem rec_hdOk {num : Nat} {ps : List (List Nat)} (h : Trn num ps) (xs : List Nat) : hdOk (recB num ps ++ xs) = true := by
  have hb := h.body
  unfold hdOk
  rw [rec_hdN num ps hb.2 xs]
  have e : (recB num ps ++ xs).take 9 = headB (bodyB num ps).length := by
    unfold recB framedB
    simp only [List.append_assoc]
    rw [List.take_append_of_le_length (by rw [headB_len]; omega), List.take_of_length_le (by rw [headB_len]; omega)]
  rw [e]
  simp [hb.1, hb.2]
theorem goB_step (f : Nat) (xs : List Nat) (R : List (List Nat)) (last num : Nat) (ps : List (List Nat)) (h : Trn num ps) (hR : R.length = 0 ∨ num = last + 1) : goB (f + 1) (recB num ps ++ xs) R last = goB f xs (R ++ [recB num ps]) num := by
  have hb := h.body
  have hl := recB_len num ps
  have hL : (recB num ps ++ xs).length = (bodyB num ps).length + 13 + xs.length := by rw [List.length_append, hl]
  have ht : (recB num ps ++ xs).take ((bodyB num ps).length + 13) = recB num ps := by
    rw [List.take_append_of_le_length (by omega), List.take_of_length_le (by omega)]
  have hd : (recB num ps ++ xs).drop ((bodyB num ps).length + 13) = xs := drop_app _ _ _ hl
  rw [goB]
  simp only [rec_hdN num ps hb.2 xs]
  rw [if_neg (by omega), if_neg (by omega), if_neg (by rw [rec_hdOk h xs]; simp), if_neg (by omega), ht, hd, h.read]
  simp only
  rw [if_neg (by omega)]

/-- The records of transactions, numbered one behind the other. -/
def recsOf : Nat → List (List (List Nat)) → List (List Nat)
  | _, [] => []
  | n, t :: l => recB n t :: recsOf (n + 1) l
def Trns : Nat → List (List (List Nat)) → Prop
  | _, [] => True
  | n, t :: l => Trn n t ∧ Trns (n + 1) l
theorem goB_recs : ∀ (l : List (List (List Nat))) (n f : Nat) (xs : List Nat) (R : List (List Nat)) (last : Nat), Trns n l → (R.length = 0 ∨ n = last + 1) →
    goB (f + l.length) ((recsOf n l).flatten ++ xs) R last = goB f xs (R ++ recsOf n l) (if l = [] then last else n + l.length - 1)
  | [], n, f, xs, R, last, _, _ => by simp [recsOf]
  | t :: l, n, f, xs, R, last, h, hR => by
    have e : (recsOf n (t :: l)).flatten ++ xs = recB n t ++ ((recsOf (n + 1) l).flatten ++ xs) := by simp [recsOf]
    rw [e, List.length_cons, ← Nat.add_assoc, goB_step _ _ R last n t h.1 hR, goB_recs l (n + 1) f xs _ n h.2 (Or.inr rfl)]
    have e2 : R ++ [recB n t] ++ recsOf (n + 1) l = R ++ recsOf n (t :: l) := by simp [recsOf]
    rw [e2]
    congr 1
    by_cases hl : l = []
    · subst hl; simp
    · rw [if_neg hl, if_neg (by simp)]; omega
theorem allOf_recs : ∀ (l : List (List (List Nat))) (n : Nat), Trns n l → allOf (recsOf n l) = l
  | [], _, _ => rfl
  | t :: l, n, h => by
    show partsOf (recB n t) :: allOf (recsOf (n + 1) l) = _
    rw [allOf_recs l (n + 1) h.2]
    unfold partsOf
    rw [h.1.read]

end Go.Proofs.YtfdclebajninfaaGreatDoor
