import Derived.Test.YtlnldipiofddkaaTurn2
namespace Go.Proofs.Ytlnldipiofddkaa
open Go.RowKit

/-- The first item, and what is laid behind k steps. -/
def o7 : Op1 := ⟨1, 0, 0, 7, none, 0, 0, []⟩
def pre (P : List Op1) (k : Nat) : List Nat := beOf 7 1 ++ (P.take k).flatMap enc
def all (P : List Op1) : List Nat := pre P P.length

theorem enc_len (o : Op1) (h : o.Nums) : (enc o).length ≤ 10 + o.bl := by
  unfold enc
  have hb := h.len
  have h1 := vs_bounds o.n h.n2
  have h2 := vs_bounds o.bs.length (by have := h.cap; have := h.most; omega)
  split
  · simp [beOf]; omega
  · split
    · simp [beOf]; omega
    · split
      · simp [beOf]; omega
      · split
        · rw [varOf_length]; omega
        · split
          · rw [List.length_append, varOf_length]; omega
          · split
            · omega
            · simp
theorem enc_small (o : Op1) (h : o.Nums) (hb : ∀ x ∈ o.bs, x < 256) : ∀ x ∈ enc o, x < 256 := by
  have hbe : ∀ n s, ∀ x ∈ beOf n s, x < 256 := fun n s x hx => by
    simp only [beOf, List.mem_map] at hx
    obtain ⟨i, _, rfl⟩ := hx
    exact Nat.mod_lt _ (by omega)
  have h2 := vs_bounds o.bs.length (by have := h.cap; have := h.most; have := h.len; omega)
  have h1 := vs_bounds o.n h.n2
  have hv : ∀ n, n < 18446744073709551616 → ∀ x ∈ varOf n (vs n - 1), x < 256 := fun n hn => varOf_small n _ (by
    have := vs_fits n hn
    have e : vs n - 1 + 1 = vs n := by have := vs_bounds n hn; omega
    rw [e]; exact this)
  intro x hx
  unfold enc at hx
  split at hx
  · exact hbe _ _ x hx
  · split at hx
    · exact hbe _ _ x hx
    · split at hx
      · exact hbe _ _ x hx
      · split at hx
        · exact hv _ h.n2 x hx
        · split at hx
          · rcases List.mem_append.1 hx with h' | h'
            · exact hv _ (by have := h.cap; have := h.most; have := h.len; omega) x h'
            · exact hb x h'
          · split at hx
            · exact hb x hx
            · cases hx

theorem flat_enc_len (P : List Op1) (h : ∀ o ∈ P, o.Nums) : (P.flatMap enc).length ≤ 10 * P.length + (P.map (·.bl)).sum := by
  induction P with
  | nil => simp
  | cons o P ih =>
    have h1 := enc_len o (h o (by simp))
    have h2 := ih (fun o ho => h o (List.mem_cons_of_mem _ ho))
    simp only [List.flatMap_cons, List.length_append, List.length_cons, List.map_cons, List.sum_cons]
    omega
theorem pre_succ (P : List Op1) (k : Nat) (hk : k < P.length) : pre P (k + 1) = pre P k ++ enc P[k] := by
  unfold pre
  rw [List.take_succ_eq_append_getElem hk, List.flatMap_append, List.append_assoc]
  congr 2
  rw [List.flatMap_cons, List.flatMap_nil, List.append_nil]
theorem drop_last (l : List Nat) (n : Nat) : l.dropLast.drop n = (l.drop n).dropLast := by
  rw [List.dropLast_eq_take, List.drop_take, List.dropLast_eq_take, List.length_drop]
  congr 1
  omega
theorem pre_le (P : List Op1) (k : Nat) : (pre P k).length ≤ (all P).length := by
  unfold all pre
  rw [List.length_append, List.length_append]
  have : P.take P.length = P := List.take_length
  rw [this]
  have e : P.flatMap enc = (P.take k).flatMap enc ++ (P.drop k).flatMap enc := by rw [← List.flatMap_append, List.take_append_drop]
  rw [e, List.length_append]
  omega
/-- What is still to come behind k steps. -/
def post (P : List Op1) (k : Nat) : List Nat := (P.drop k).flatMap enc
theorem all_split (P : List Op1) (k : Nat) : all P = pre P k ++ post P k := by
  unfold all pre post
  rw [List.take_length, List.append_assoc, ← List.flatMap_append, List.take_append_drop]
theorem post_cons (P : List Op1) (k : Nat) (hk : k < P.length) : post P k = enc P[k] ++ post P (k + 1) := by
  unfold post
  rw [List.drop_eq_getElem_cons hk, List.flatMap_cons]
theorem all_drop (P : List Op1) (k : Nat) (hk : k < P.length) : (all P).drop (pre P k).length = enc P[k] ++ post P (k + 1) := by
  rw [all_split P k, List.drop_left', post_cons P k hk]
  rfl

/-- The Reader over all but the last byte, behind k steps. -/
def Cut (P : List Op1) (k a f : Nat) : Prop := (a = (pre P k).length ∧ f = 0 ∧ (pre P k).length < (all P).length) ∨ (f = 10 ∧ (pre P k).length = (all P).length)

theorem cut_step (P : List Op1) (k a f : Nat) (hk : k < P.length) (h : ∀ o ∈ P, o.Nums) (hc : Cut P k a f) :
    Cut P (k + 1) (rBack P[k] (all P).dropLast a f).2.1 (rBack P[k] (all P).dropLast a f).2.2 := by
  have hN := h P[k] (List.getElem_mem hk)
  have hb : (P[k]).bs.length < 18446744073709551616 := by have := hN.cap; have := hN.most; have := hN.len; omega
  have hs := pre_succ P k hk
  have hle := pre_le P (k + 1)
  rcases hc with ⟨rfl, rfl, hlt⟩ | ⟨rfl, heq⟩
  · have hd : (all P).dropLast.drop (pre P k).length = (enc P[k] ++ post P (k + 1)).dropLast := by
      rw [drop_last, all_drop P k hk]
    by_cases hr : post P (k + 1) = []
    · rw [hr, List.append_nil] at hd
      have hall : (pre P (k + 1)).length = (all P).length := by rw [all_split P (k + 1), hr, List.append_nil]
      have h0 : enc P[k] ≠ [] := by
        intro e
        rw [e, List.append_nil] at hs
        rw [hs] at hall
        omega
      rw [turn_cut P[k] _ _ hN.n2 hb h0 hd]
      exact Or.inr ⟨rfl, hall⟩
    · rw [List.dropLast_append_of_ne_nil hr] at hd
      obtain ⟨e, _⟩ := turn_ok P[k] _ _ _ hN.n2 hb hd
      rw [e]
      refine Or.inl ⟨by rw [hs, List.length_append], rfl, ?_⟩
      rw [all_split P (k + 1), List.length_append]
      have := List.length_pos_iff.2 hr
      omega
  · rw [turn_done P[k] _ _ 10 (by omega)]
    refine Or.inr ⟨rfl, ?_⟩
    rw [hs, List.length_append] at hle ⊢
    omega

theorem cut_first (P : List Op1) : Cut P 0 (rNext 0 0 (all P).dropLast 0 0).2.1 (rNext 0 0 (all P).dropLast 0 0).2.2 := by
  have e7 : rBack o7 (all P).dropLast 0 0 = rNext 0 0 (all P).dropLast 0 0 := by simp [rBack, o7]
  have he : enc o7 = beOf 7 1 := by simp [enc, o7]
  have hp : pre P 0 = beOf 7 1 := by simp [pre]
  have hd : (all P).dropLast.drop 0 = (enc o7 ++ post P 0).dropLast := by rw [List.drop_zero, all_split P 0, hp, he]
  rw [← e7]
  by_cases hr : post P 0 = []
  · rw [hr, List.append_nil] at hd
    rw [turn_cut o7 _ 0 (by simp [o7]) (by simp [o7]) (by rw [he]; simp [beOf]) hd]
    exact Or.inr ⟨rfl, by rw [all_split P 0, hr, List.append_nil]⟩
  · rw [List.dropLast_append_of_ne_nil hr] at hd
    obtain ⟨e, _⟩ := turn_ok o7 _ _ 0 (by simp [o7]) (by simp [o7]) hd
    rw [e]
    refine Or.inl ⟨by rw [hp, he]; simp, rfl, ?_⟩
    rw [all_split P 0, List.length_append]
    have := List.length_pos_iff.2 hr
    omega
theorem cut_end (P : List Op1) (a f : Nat) (h : Cut P P.length a f) : f = 10 := by
  rcases h with ⟨_, _, h⟩ | ⟨h, _⟩
  · exact absurd rfl (Nat.ne_of_lt h)
  · exact h

theorem first_ok (P : List Op1) : rNext 0 0 (all P) 0 0 = (⟨7, 0, 0, 1, 0⟩, 1, 0) := by
  have hp : pre P 0 = beOf 7 1 := by simp [pre]
  have := rn_of 0 0 (all P) 0 _ (fx_ok 0 1 7 _ (post P 0) (by simp [width]) (by omega) (by omega) (by omega) (by rw [List.drop_zero, all_split P 0, hp]) (by omega)) rfl
  simpa using this
theorem step_ok (P : List Op1) (k : Nat) (hk : k < P.length) (h : ∀ o ∈ P, o.Nums) :
    (rBack P[k] (all P) (pre P k).length 0).2 = ((pre P (k + 1)).length, 0) ∧ Same P[k] (all P) (pre P k).length (rBack P[k] (all P) (pre P k).length 0) := by
  have hN := h P[k] (List.getElem_mem hk)
  have hb : (P[k]).bs.length < 18446744073709551616 := by have := hN.cap; have := hN.most; have := hN.len; omega
  have := turn_ok P[k] (all P) (post P (k + 1)) _ hN.n2 hb (all_drop P k hk)
  rw [pre_succ P k hk, List.length_append]
  exact this
theorem all_small (P : List Op1) (h : ∀ o ∈ P, o.Nums) (hb : ∀ o ∈ P, ∀ x ∈ o.bs, x < 256) : ∀ x ∈ all P, x < 256 := by
  intro x hx
  unfold all pre at hx
  rcases List.mem_append.1 hx with h' | h'
  · simp [beOf] at h'; omega
  · rw [List.take_length] at h'
    obtain ⟨o, ho, hx⟩ := List.mem_flatMap.1 h'
    exact enc_small o (h o ho) (hb o ho) x hx
theorem pre_len (P : List Op1) (h : ∀ o ∈ P, o.Nums) (h4 : P.length ≤ 400) (hs : (P.map (·.bl)).sum ≤ 4194304) (k : Nat) : (pre P k).length ≤ 4200000 := by
  have h1 := pre_le P k
  have h2 : (all P).length ≤ 4200000 := by
    unfold all pre
    rw [List.take_length, List.length_append]
    have := flat_enc_len P h
    have h7 : (beOf 7 1).length = 1 := by simp [beOf]
    omega
  omega
theorem bl_le (P : List Op1) (hs : (P.map (·.bl)).sum ≤ 4194304) : ∀ o ∈ P, o.bl ≤ 4194304 := by
  induction P with
  | nil => intro o ho; cases ho
  | cons p P ih =>
    intro o ho
    simp only [List.map_cons, List.sum_cons] at hs
    rcases List.mem_cons.1 ho with rfl | ho
    · omega
    · exact ih (by omega) o ho

end Go.Proofs.Ytlnldipiofddkaa
