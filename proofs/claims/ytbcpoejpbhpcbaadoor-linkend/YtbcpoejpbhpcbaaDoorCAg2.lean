import Derived.Test.YtbcpoejpbhpcbaaDoorCTurn
import Derived.Test.YtbcpoejpbhpcbaaDoorCReader4
import Derived.BigQuiet
import Derived.Deep.QuietTactic
namespace Go.Proofs.YtbcpoejpbhpcbaaDoor.C
open Go.RowKit

theorem beOf_be (ys : List Nat) (h : ∀ x ∈ ys, x < 256) : beOf (be ys) ys.length = ys := by
  rw [← List.reverse_reverse ys] at h ⊢
  generalize ys.reverse = zs at *
  induction zs with
  | nil => rfl
  | cons z zs ih =>
    have h1 : ∀ x ∈ zs.reverse, x < 256 := fun x hx => h x (by rw [List.reverse_cons]; exact List.mem_append_left _ hx)
    have h2 := h z (by simp)
    rw [List.reverse_cons, be_snoc, List.length_append, List.length_singleton, beOf_snoc _ _ _ h2, ih h1]

/-- WHAT IS READ AS A NUMBER WAS WRITTEN SO: behind i bytes that make n. -/
theorem pv_form' (most : Nat) : ∀ (xs : List Nat) (i n : Nat), (∀ x ∈ xs, x < 256) → (pVar most xs i n).fault = 0 → ∃ k V, (pVar most xs i n).size = i + k + 1 ∧ (pVar most xs i n).num = n + 128 ^ i * V ∧ varOf V k = xs.take (k + 1) ∧ V < 128 ^ (k + 1) ∧ ((i = 0 ∧ k = 0) ∨ 128 ^ k ≤ V) := by
  intro xs
  induction xs with
  | nil => intro i n _ h; simp [pVar, no] at h
  | cons c cs ih =>
    intro i n hs h
    unfold pVar at h ⊢
    by_cases h1 : i = 9 ∧ 1 < c
    · rw [if_pos h1] at h; simp [no] at h
    · rw [if_neg h1] at h ⊢
      by_cases h2 : 128 ≤ c
      · rw [if_pos h2] at h ⊢
        have hc := hs c (by simp)
        obtain ⟨k, V, e1, e2, e3, e4, e5⟩ := ih _ _ (fun x hx => hs x (List.mem_cons_of_mem _ hx)) h
        refine ⟨k + 1, (c - 128) + 128 * V, ?_, ?_, ?_, ?_, ?_⟩
        · rw [e1]; omega
        · rw [e2, Nat.pow_succ]
          rw [Nat.mul_add, Nat.mul_comm (c - 128), Nat.mul_assoc]
          omega
        · rw [varOf_cons, show ((c - 128) + 128 * V) % 128 + 128 = c by omega, show ((c - 128) + 128 * V) / 128 = V by omega, e3]
          rfl
        · rw [Nat.pow_succ]; omega
        · right
          rcases e5 with ⟨h0, _⟩ | h5
          · omega
          · rw [Nat.pow_succ]; omega
      · rw [if_neg h2] at h ⊢
        by_cases h3 : c = 0 ∧ 0 < i
        · rw [if_pos h3] at h; simp [no] at h
        · rw [if_neg h3] at h ⊢
          by_cases h4 : most < n + c * 128 ^ i
          · rw [if_pos h4] at h; simp [no] at h
          · rw [if_neg h4]
            refine ⟨0, c, rfl, by simp only; rw [Nat.mul_comm], by simp [varOf], by omega, ?_⟩
            by_cases hi : i = 0
            · left; exact ⟨hi, rfl⟩
            · right; simp; omega

theorem vs_eq (n k : Nat) (hn : n < 18446744073709551616) (h1 : n < 128 ^ (k + 1)) (h2 : k = 0 ∨ 128 ^ k ≤ n) : vs n = k + 1 := by
  have f := vs_fits n hn
  have l := vs_least n hn
  have hp := (vs_bounds n hn).1
  rcases Nat.lt_trichotomy (vs n) (k + 1) with h | h | h
  · rcases h2 with rfl | h2
    · omega
    · have := Nat.pow_le_pow_right (n := 128) (by omega) (show vs n ≤ k by omega)
      omega
  · exact h
  · have := l (by omega)
    have := Nat.pow_le_pow_right (n := 128) (by omega) (show k + 1 ≤ vs n - 1 by omega)
    omega

/-- A number's bytes, read and written anew. -/
theorem pv_again (most : Nat) (xs : List Nat) (hs : ∀ x ∈ xs, x < 256) (hm : most < 18446744073709551616) (h : (pVar most xs 0 0).fault = 0) :
    varOf (pVar most xs 0 0).num (vs (pVar most xs 0 0).num - 1) = xs.take (pVar most xs 0 0).size := by
  obtain ⟨k, V, e1, e2, e3, e4, e5⟩ := pv_form' most xs 0 0 hs h
  have h4 := pv_size most xs 0 0 h
  simp only [Nat.pow_zero, Nat.one_mul, Nat.zero_add] at e1 e2
  rw [e1, e2]
  have hv := vs_eq V k (by rw [← e2]; omega) e4 (by rcases e5 with h | h; exact Or.inl h.2; exact Or.inr h)
  rw [hv, Nat.add_sub_cancel, e3]

end Go.Proofs.YtbcpoejpbhpcbaaDoor.C
namespace Go.Proofs.YtbcpoejpbhpcbaaDoor.C
open Go.RowKit

/-- n taken into 0 to m - 1. -/
def intoP (n m : Int) : Int := n % m

theorem rn_ok (k : Int) (bound : Nat) (xs : List Nat) (a : Nat) (h : (rNext k bound xs a 0).2.2 = 0) : (pFind k bound (xs.drop a)).fault = 0 ∧ rNext k bound xs a 0 = (pFind k bound (xs.drop a), a + (pFind k bound (xs.drop a)).size, 0) := by
  unfold rNext at h ⊢
  rw [if_neg (by omega)] at h ⊢
  by_cases h1 : (pFind k bound (xs.drop a)).fault ≠ 0
  · rw [if_pos h1] at h; exact absurd h h1
  · rw [if_neg h1]; exact ⟨by omega, rfl⟩
theorem rn_bad (k : Int) (bound : Nat) (xs : List Nat) (a : Nat) (h : (rNext k bound xs a 0).2.2 ≠ 0) : (rNext k bound xs a 0).2.1 = a := by
  unfold rNext at h ⊢
  rw [if_neg (by omega)] at h ⊢
  by_cases h1 : (pFind k bound (xs.drop a)).fault ≠ 0
  · rw [if_pos h1]
  · rw [if_neg h1] at h; exact absurd rfl h

/-- What was read, written: just the bytes that were read. -/
def Anew (xs : List Nat) (a : Nat) (x : It × Nat × Nat) (new : List Nat) : Prop :=
  (x.2.2 = 0 → a ≤ x.2.1 ∧ x.2.1 ≤ xs.length ∧ new = (xs.drop a).take (x.2.1 - a)) ∧ (x.2.2 ≠ 0 → x.2.1 = a) ∧ new.length ≤ xs.length + 10

theorem anew_fixed (k : Int) (s : Nat) (xs : List Nat) (a : Nat) (hs : ∀ x ∈ xs, x < 256) (ha : a ≤ xs.length) (hk : width k = s) (hs8 : s ≤ 8) (h3 : k ≠ 3) (h4 : k ≠ 4) (h5 : k ≠ 5) : Anew xs a (rNext k 0 xs a 0) (beOf (rNext k 0 xs a 0).1.num s) := by
  refine ⟨fun h => ?_, rn_bad k 0 xs a, by simp [beOf]; omega⟩
  obtain ⟨h1, e⟩ := rn_ok k 0 xs a h
  rw [e]
  have hsz := pf_size k 0 (xs.drop a) h1
  rw [List.length_drop] at hsz
  refine ⟨by simp only; omega, by simp only; omega, ?_⟩
  simp only [pFind, if_neg h3, if_neg h4, if_neg h5, hk] at h1 ⊢
  unfold pFixed at h1 ⊢
  by_cases hl : (xs.drop a).length < s
  · rw [if_pos hl] at h1; simp [no] at h1
  · rw [if_neg hl]
    simp only
    have hlen : ((xs.drop a).take s).length = s := by rw [List.length_take]; omega
    have := beOf_be ((xs.drop a).take s) (fun x hx => hs x (List.mem_of_mem_drop (List.mem_of_mem_take hx)))
    rw [hlen] at this
    rw [this, Nat.add_sub_cancel_left]

theorem anew_var (n : Nat) (xs : List Nat) (a : Nat) (hs : ∀ x ∈ xs, x < 256) (ha : a ≤ xs.length) (hn : n < 18446744073709551616) : Anew xs a (rNext 3 n xs a 0) (varOf (rNext 3 n xs a 0).1.num (vs (rNext 3 n xs a 0).1.num - 1)) := by
  have hsm : ∀ x ∈ xs.drop a, x < 256 := fun x hx => hs x (List.mem_of_mem_drop hx)
  have hb : (rNext 3 n xs a 0).1.num < 18446744073709551616 := by
    unfold rNext
    rw [if_neg (by omega)]
    by_cases h1 : (pFind 3 n (xs.drop a)).fault ≠ 0
    · rw [if_pos h1]; simp [no]
    · rw [if_neg h1]
      simp only [pFind, if_true] at h1 ⊢
      have := (pv_size n (xs.drop a) 0 0 (by omega)).2.2.1
      omega
  refine ⟨fun h => ?_, rn_bad 3 n xs a, by rw [varOf_length]; have := vs_bounds _ hb; omega⟩
  obtain ⟨h1, e⟩ := rn_ok 3 n xs a h
  rw [e]
  have hsz := pf_size 3 n (xs.drop a) h1
  rw [List.length_drop] at hsz
  refine ⟨by simp only; omega, by simp only; omega, ?_⟩
  simp only [pFind, if_true] at h1 ⊢
  rw [pv_again n (xs.drop a) hsm hn h1, Nat.add_sub_cancel_left]

theorem anew_text (m : Int) (xs : List Nat) (a : Nat) (hs : ∀ x ∈ xs, x < 256) (ha : a ≤ xs.length) (hm : m ≤ 9223372036854775807) (hl : xs.length ≤ 140737488355328) :
    Anew xs a (rText m xs a 0) (varOf (got xs a (rText m xs a 0)).length (vs (got xs a (rText m xs a 0)).length - 1) ++ got xs a (rText m xs a 0)) := by
  have hsm : ∀ x ∈ xs.drop a, x < 256 := fun x hx => hs x (List.mem_of_mem_drop hx)
  have hgl : (got xs a (rText m xs a 0)).length ≤ xs.length := by unfold got; rw [List.length_take, List.length_drop, List.length_drop]; omega
  refine ⟨fun h => ?_, rn_bad 4 _ xs a, by rw [List.length_append, varOf_length]; have := vs_bounds (got xs a (rText m xs a 0)).length (by omega); omega⟩
  unfold rText at h ⊢
  generalize hM : (max 0 m).toNat = M at *
  have hM64 : M < 18446744073709551616 := by omega
  obtain ⟨h1, e⟩ := rn_ok 4 M xs a h
  have hlen := rn_len 4 M xs a 0
  rw [e] at hlen ⊢
  have hsz := pf_size 4 M (xs.drop a) h1
  rw [List.length_drop] at hsz
  refine ⟨by simp only; omega, by simp only; omega, ?_⟩
  simp only [pFind, show ¬ (4 : Int) = 3 by omega, if_false, if_true] at h1 hlen ⊢
  have hv0 : (pVar M (xs.drop a) 0 0).fault = 0 := by
    by_cases hx : (pVar M (xs.drop a) 0 0).fault = 0
    · exact hx
    · unfold pBytes at h1; simp only [ne_eq, hx, not_false_eq_true, if_true, no] at h1
  have hag := pv_again M (xs.drop a) hsm hM64 hv0
  unfold got
  unfold pBytes at h1 hlen ⊢
  simp only [hv0, ne_eq, not_true_eq_false, if_false] at h1 hlen ⊢
  by_cases h6 : (xs.drop a).length - (pVar M (xs.drop a) 0 0).size < (pVar M (xs.drop a) 0 0).num
  · rw [if_pos h6] at h1; simp [no] at h1
  · rw [if_neg h6] at hlen ⊢
    simp only at hlen ⊢
    rw [hlen, hag, Nat.add_sub_cancel_left, List.take_add]

theorem anew_raw (m : Nat) (xs : List Nat) (a : Nat) (ha : a ≤ xs.length) : Anew xs a (rNext 5 m xs a 0) (got xs a (rNext 5 m xs a 0)) := by
  refine ⟨fun h => ?_, rn_bad 5 m xs a, by unfold got; rw [List.length_take, List.length_drop, List.length_drop]; omega⟩
  obtain ⟨h1, e⟩ := rn_ok 5 m xs a h
  rw [e]
  have hsz := pf_size 5 m (xs.drop a) h1
  rw [List.length_drop] at hsz
  refine ⟨by simp only; omega, by simp only; omega, ?_⟩
  unfold got
  simp only [pFind, show ¬ (5 : Int) = 3 by omega, show ¬ (5 : Int) = 4 by omega, if_false, if_true] at h1 ⊢
  unfold pRaw at h1 ⊢
  by_cases h6 : (xs.drop a).length < m
  · rw [if_pos h6] at h1; simp [no] at h1
  · rw [if_neg h6]; simp

theorem tmod_of (n m : Int) : n.tmod m = if 0 ≤ n then n % m else -((-n) % m) := by
  by_cases h : 0 ≤ n
  · rw [if_pos h, Int.tmod_eq_emod_of_nonneg h]
  · rw [if_neg h]
    have e : n = -(-n) := by omega
    rw [e, Int.neg_tmod, Int.tmod_eq_emod_of_nonneg (by omega)]
    simp

theorem below_draws2 {B : Nat} {a w : World} (h : Below B a w) (n : Nat) : Below B a (w.drewN n) := h.trans ⟨rfl, rfl, rfl, Nat.le_refl _, fun _ _ => rfl⟩

set_option maxRecDepth 100000 in
set_option maxHeartbeats 400000 in
/-- Two lists of the same bytes are alike. -/
theorem eq_true (w : World) (sp sq : Option Addr) (n c1 c2 : Nat) (xs : List Nat) (hl : xs.length = n) (hn : n ≤ 140737488355328) (h1 : Bytes w sp xs) (h2 : Bytes w sq xs) :
    Calls Tryd.prog 41 #[.slice sp n c1, .slice sq n c2] w fun e w' => e = .returned (.bool true) ∧ Below w.heap.size w w' := by
  by_cases h0 : n = 0
  · subst h0
    go_enter Tryd.func41, Tryd.ntmps41
    go_wp2
    refine wp_loop_rounds 1 ?_
    rw [rounds_succ]
    go_wp2
    go_ret
    exact ⟨rfl, Below.refl _ _⟩
  · obtain ⟨g, o, rfl, hg, hc⟩ : ∃ g o, sp = some ⟨g, o, none⟩ ∧ g < w.heap.size ∧ ∀ j, j < xs.length → w.cell? ⟨g, o + j, none⟩ = some (.int .u8 (xs.getD j 0)) := by
      rcases h1.lie with h | h
      · subst h; simp at hl; omega
      · exact h
    obtain ⟨g', o', rfl, hg', hc'⟩ : ∃ g o, sq = some ⟨g, o, none⟩ ∧ g < w.heap.size ∧ ∀ j, j < xs.length → w.cell? ⟨g, o + j, none⟩ = some (.int .u8 (xs.getD j 0)) := by
      rcases h2.lie with h | h
      · subst h; simp at hl; omega
      · exact h
    rw [hl] at hc hc'
    have HC := hide hc
    have HC' := hide hc'
    clear hc hc' h1 h2 hl
    go_enter Tryd.func41, Tryd.ntmps41
    go_wp2
    go_loopw [5] (fun i wr => ∃ k : Nat, k ≤ n ∧ i = .int .i64 k ∧ Hid (Below w.heap.size w wr)) (fun i _ => n - (intOf i).toNat)
    case atStart => exact ⟨0, Nat.zero_le _, rfl, Below.refl _ _⟩
    case round =>
      obtain ⟨k, hk, rfl, HB⟩ := hrel
      by_cases hlt : k < n
      · have d1 := (HB.out.cell (p := ⟨g, o + k, none⟩) hg).trans (HC.out k hlt)
        have d2 := (HB.out.cell (p := ⟨g', o' + k, none⟩) hg').trans (HC'.out k hlt)
        have i1 : (0 : Int) ≤ (k : Int) := by omega
        have i2 : (k : Int) < (n : Int) := by omega
        generalize xs.getD k 0 = x at *
        go_wp2
        go_quiet (fail)
        go_wp2
        go_roundw
        case rel => exact ⟨k + 1, by omega, by go_num, below_draws2 HB.out _⟩
        case measure => simp [intOf]; omega
      · go_wp2
        go_ret
        exact ⟨rfl, HB.out⟩

end Go.Proofs.YtbcpoejpbhpcbaaDoor.C
