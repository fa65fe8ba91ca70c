import Derived.Test.YtjcdnclfakmbpaaGreatDoorCTurn
import Derived.Test.YtjcdnclfakmbpaaGreatDoorCReader4
import Derived.BigQuiet
import Derived.Deep.QuietTactic
namespace Go.Proofs.YtjcdnclfakmbpaaGreatDoor.C
open Go.RowKit
theorem beOf_be (ys : List Nat) (h : ∀ x ∈ ys, x < 256) : beOf (be ys) ys.length = ys := by
  rw [← List.reverse_reverse ys] at h ⊢
  generalize ys.reverse = zs at *
  induction zs with
  | nil => rfl
  | cons z zs ih =>
    have h1 : ∀ x ∈ zs.reverse, x < 256 := fun x hx => h x (by rw [List.reverse_cons]; exact List.mem_append_left _ hx)
    have h2 := h z (by simp)
    rw [List.reverse_cons, be_snoc, List.length_append, List.length_singleton, beOf_snoc _ _ _ h2, ih h1]
theorem pv_form' (most : Nat) : ∀ (xs : List Nat) (i n : Nat), (∀ x ∈ xs, x < 256) → (pVar most xs i n).fault = 0 → ∃ k V, (pVar most xs i n).size = i + k + 1 ∧ (pVar most xs i n).num = n + 128 ^ i * V ∧ varOf V k = xs.take (k + 1) ∧ V < 128 ^ (k + 1) ∧ ((i = 0 ∧ k = 0) ∨ 128 ^ k ≤ V) := by
  intro xs
  induction xs with
  | nil => intro i n _ h; simp [pVar, no] at h
  | cons c cs ih =>
    intro i n hs h
    unfold pVar at h ⊢
    by_cases h1 : i = 9 ∧ 1 < c
    · rw [if_pos h1] at h; simp [no] at h
    · rw [if_neg h1] at h ⊢
      by_cases h2 : 128 ≤ c
      · rw [if_pos h2] at h ⊢
        have hc := hs c (by simp)
        obtain ⟨k, V, e1, e2, e3, e4, e5⟩ := ih _ _ (fun x hx => hs x (List.mem_cons_of_mem _ hx)) h
        refine ⟨k + 1, (c - 128) + 128 * V, ?_, ?_, ?_, ?_, ?_⟩
        · rw [e1]; omega
        · rw [e2, Nat.pow_succ]
          rw [Nat.mul_add, Nat.mul_comm (c - 128), Nat.mul_assoc]
          omega
        · rw [varOf_cons, show ((c - 128) + 128 * V) % 128 + 128 = c by omega, show ((c - 128) + 128 * V) / 128 = V by omega, e3]
          rfl
        · rw [Nat.pow_succ]; omega
        · right
          rcases e5 with ⟨h0, _⟩ | h5
          · omega
          · rw [Nat.pow_succ]; omega
      · rw [if_neg h2] at h ⊢
        by_cases h3 : c = 0 ∧ 0 < i
        · rw [if_pos h3] at h; simp [no] at h
        · rw [if_neg h3] at h ⊢
          by_cases h4 : most < n + c * 128 ^ i
          · rw [if_pos h4] at h; simp [no] at h
          · rw [if_neg h4]
            refine ⟨0, c, rfl, by simp only; rw [Nat.mul_comm], by simp [varOf], by omega, ?_⟩
            by_cases hi : i = 0
            · left; exact ⟨hi, rfl⟩
            · right; simp; omega
theorem vs_eq (n k : Nat) (hn : n < 18446744073709551616) (h1 : n < 128 ^ (k + 1)) (h2 : k = 0 ∨ 128 ^ k ≤ n) : vs n = k + 1 := by
  have f := vs_fits n hn
  have l := vs_least n hn
  have hp := (vs_bounds n hn).1
  rcases Nat.lt_trichotomy (vs n) (k + 1) with h | h | h
  · rcases h2 with rfl | h2
    · omega
    · have := Nat.pow_le_pow_right (n := 128) (by omega) (show vs n ≤ k by omega)
      omega
  · exact h
  · have := l (by omega)
    have := Nat.pow_le_pow_right (n := 128) (by omega) (show k + 1 ≤ vs n - 1 by omega)
    omega
theorem pv_again (most : Nat) (xs : List Nat) (hs : ∀ x ∈ xs, x < 256) (hm : most < 18446744073709551616) (h : (pVar most xs 0 0).fault = 0) :
    varOf (pVar most xs 0 0).num (vs (pVar most xs 0 0).num - 1) = xs.take (pVar most xs 0 0).size := by
  obtain ⟨k, V, e1, e2, e3, e4, e5⟩ := pv_form' most xs 0 0 hs h
  have h4 := pv_size most xs 0 0 h
  simp only [Nat.pow_zero, Nat.one_mul, Nat.zero_add] at e1 e2
  rw [e1, e2]
  have hv := vs_eq V k (by rw [← e2]; omega) e4 (by rcases e5 with h | h; exact Or.inl h.2; exact Or.inr h)
  rw [hv, Nat.add_sub_cancel, e3]
end Go.Proofs.YtjcdnclfakmbpaaGreatDoor.C
namespace Go.Proofs.YtjcdnclfakmbpaaGreatDoor.C
open Go.RowKit
theorem rn_ok (k : Int) (bound : Nat) (xs : List Nat) (a : Nat) (h : (rNext k bound xs a 0).2.2 = 0) : (pFind k bound (xs.drop a)).fault = 0 ∧ rNext k bound xs a 0 = (pFind k bound (xs.drop a), a + (pFind k bound (xs.drop a)).size, 0) := by
  unfold rNext at h ⊢
  rw [if_neg (by omega)] at h ⊢
  by_cases h1 : (pFind k bound (xs.drop a)).fault ≠ 0
  · rw [if_pos h1] at h; exact absurd h h1
  · rw [if_neg h1]; exact ⟨by omega, rfl⟩
theorem rn_bad (k : Int) (bound : Nat) (xs : List Nat) (a : Nat) (h : (rNext k bound xs a 0).2.2 ≠ 0) : (rNext k bound xs a 0).2.1 = a := by
  unfold rNext at h ⊢
  rw [if_neg (by omega)] at h ⊢
  by_cases h1 : (pFind k bound (xs.drop a)).fault ≠ 0
  · rw [if_pos h1]
  · rw [if_neg h1] at h; exact absurd rfl h
def Anew (xs : List Nat) (a : Nat) (x : It × Nat × Nat) (new : List Nat) : Prop :=
  (x.2.2 = 0 → a ≤ x.2.1 ∧ x.2.1 ≤ xs.length ∧ new = (xs.drop a).take (x.2.1 - a)) ∧ (x.2.2 ≠ 0 → x.2.1 = a) ∧ new.length ≤ xs.length + 10
theorem anew_fixed (k : Int) (s : Nat) (xs : List Nat) (a : Nat) (hs : ∀ x ∈ xs, x < 256) (ha : a ≤ xs.length) (hk : width k = s) (hs8 : s ≤ 8) (h3 : k ≠ 3) (h4 : k ≠ 4) (h5 : k ≠ 5) : Anew xs a (rNext k 0 xs a 0) (beOf (rNext k 0 xs a 0).1.num s) := by
  refine ⟨fun h => ?_, rn_bad k 0 xs a, by simp [beOf]; omega⟩
  obtain ⟨h1, e⟩ := rn_ok k 0 xs a h
  rw [e]
  have hsz := pf_size k 0 (xs.drop a) h1
  rw [List.length_drop] at hsz
  refine ⟨by simp only; omega, by simp only; omega, ?_⟩
  simp only [pFind, if_neg h3, if_neg h4, if_neg h5, hk] at h1 ⊢
  unfold pFixed at h1 ⊢
  by_cases hl : (xs.drop a).length < s
  · rw [if_pos hl] at h1; simp [no] at h1
  · rw [if_neg hl]
    simp only
    have hlen : ((xs.drop a).take s).length = s := by rw [List.length_take]; omega
    have := beOf_be ((xs.drop a).take s) (fun x hx => hs x (List.mem_of_mem_drop (List.mem_of_mem_take hx)))
    rw [hlen] at this
    rw [this, Nat.add_sub_cancel_left]
theorem anew_var (n : Nat) (xs : List Nat) (a : Nat) (hs : ∀ x ∈ xs, x < 256) (ha : a ≤ xs.length) (hn : n < 18446744073709551616) : Anew xs a (rNext 3 n xs a 0) (varOf (rNext 3 n xs a 0).1.num (vs (rNext 3 n xs a 0).1.num - 1)) := by
  have hsm : ∀ x ∈ xs.drop a, x < 256 := fun x hx => hs x (List.mem_of_mem_drop hx)
  have hb : (rNext 3 n xs a 0).1.num < 18446744073709551616 := by
    unfold rNext
    rw [if_neg (by omega)]
    by_cases h1 : (pFind 3 n (xs.drop a)).fault ≠ 0
    · rw [if_pos h1]; simp [no]
    · rw [if_neg h1]
      simp only [pFind, if_true] at h1 ⊢
      have := (pv_size n (xs.drop a) 0 0 (by omega)).2.2.1
      omega
  refine ⟨fun h => ?_, rn_bad 3 n xs a, by rw [varOf_length]; have := vs_bounds _ hb; omega⟩
  obtain ⟨h1, e⟩ := rn_ok 3 n xs a h
  rw [e]
  have hsz := pf_size 3 n (xs.drop a) h1
  rw [List.length_drop] at hsz
  refine ⟨by simp only; omega, by simp only; omega, ?_⟩
  simp only [pFind, if_true] at h1 ⊢
  rw [pv_again n (xs.drop a) hsm hn h1, Nat.add_sub_cancel_left]
theorem anew_text (m : Int) (xs : List Nat) (a : Nat) (hs : ∀ x ∈ xs, x < 256) (ha : a ≤ xs.length) (hm : m ≤ 9223372036854775807) (hl : xs.length ≤ 140737488355328) :
    Anew xs a (rText m xs a 0) (varOf (got xs a (rText m xs a 0)).length (vs (got xs a (rText m xs a 0)).length - 1) ++ got xs a (rText m xs a 0)) := by
  have hsm : ∀ x ∈ xs.drop a, x < 256 := fun x hx => hs x (List.mem_of_mem_drop hx)
  have hgl : (got xs a (rText m xs a 0)).length ≤ xs.length := by unfold got; rw [List.length_take, List.length_drop, List.length_drop]; omega
  refine ⟨fun h => ?_, rn_bad 4 _ xs a, by rw [List.length_append, varOf_length]; have := vs_bounds (got xs a (rText m xs a 0)).length (by omega); omega⟩
  unfold rText at h ⊢
  generalize hM : (max 0 m).toNat = M at *
  have hM64 : M < 18446744073709551616 := by omega
  obtain ⟨h1, e⟩ := rn_ok 4 M xs a h
  have hlen := rn_len 4 M xs a 0
  rw [e] at hlen ⊢
  have hsz := pf_size 4 M (xs.drop a) h1
  rw [List.length_drop] at hsz
  refine ⟨by simp only; omega, by simp only; omega, ?_⟩
  simp only [pFind, show ¬ (4 : Int) = 3 by omega, if_false, if_true] at h1 hlen ⊢
  have hv0 : (pVar M (xs.drop a) 0 0).fault = 0 := by
    by_cases hx : (pVar M (xs.drop a) 0 0).fault = 0
    · exact hx
    · unfold pBytes at h1; simp only [ne_eq, hx, not_false_eq_true, if_true, no] at h1
  have hag := pv_again M (xs.drop a) hsm hM64 hv0
  unfold got
  unfold pBytes at h1 hlen ⊢
  simp only [hv0, ne_eq, not_true_eq_false, if_false] at h1 hlen ⊢
  by_cases h6 : (xs.drop a).length - (pVar M (xs.drop a) 0 0).size < (pVar M (xs.drop a) 0 0).num
  · rw [if_pos h6] at h1; simp [no] at h1
  · rw [if_neg h6] at hlen ⊢
    simp only at hlen ⊢
    rw [hlen, hag, Nat.add_sub_cancel_left, List.take_add]
theorem below_draws2 {B : Nat} {a w : World} (h : Below B a w) (n : Nat) : Below B a (w.drewN n) := h.trans ⟨rfl, rfl, rfl, Nat.le_refl _, fun _ _ => rfl⟩
end Go.Proofs.YtjcdnclfakmbpaaGreatDoor.C
namespace Go.Proofs.YtjcdnclfakmbpaaGreatDoor.C
open Go.RowKit
def fxRow (n s j : Nat) : List Value := List.replicate (s - j) (.int .u8 0) ++ (vals (beOf n s)).drop (s - j)
theorem fxRow_zero (n s : Nat) : fxRow n s 0 = List.replicate s (.int .u8 0) := by
  unfold fxRow
  rw [List.drop_of_length_le (by simp [vals, beOf]), List.append_nil, Nat.sub_zero]
theorem fxRow_all (n s : Nat) : fxRow n s s = vals (beOf n s) := by simp [fxRow]
theorem fxRow_len (n s j : Nat) (h : j ≤ s) : (fxRow n s j).length = s := by
  unfold fxRow
  rw [List.length_append, List.length_replicate, List.length_drop]
  simp only [vals, beOf, List.length_map, List.length_range]
  omega
theorem fxRow_step (n s j : Nat) (h : j < s) : (fxRow n s j).set (s - 1 - j) (.int .u8 ((n / 256 ^ j % 256 : Nat) : Int)) = fxRow n s (j + 1) := by
  apply List.ext_getElem?
  intro i
  unfold fxRow
  rw [List.getElem?_set]
  have hl : (vals (beOf n s)).length = s := by simp [vals, beOf]
  by_cases hi : s - 1 - j = i
  · subst hi
    rw [if_pos rfl, if_pos (by simp [hl]; omega)]
    rw [List.getElem?_append_right (by simp; omega), List.getElem?_drop, List.length_replicate]
    rw [show s - (j + 1) + (s - 1 - j - (s - (j + 1))) = s - 1 - j by omega]
    simp only [vals, beOf, List.getElem?_map]
    rw [List.getElem?_range (by omega)]
    simp only [Option.map_some]
    rw [show s - 1 - (s - 1 - j) = j by omega]
  · rw [if_neg hi]
    by_cases h1 : i < s - (j + 1)
    · rw [List.getElem?_append_left (by simp; omega), List.getElem?_append_left (by simp; omega)]
      rw [List.getElem?_replicate, List.getElem?_replicate, if_pos (by omega), if_pos h1]
    · rw [List.getElem?_append_right (by simp; omega), List.getElem?_append_right (by simp; omega), List.getElem?_drop, List.getElem?_drop]
      congr 1
      simp; omega
theorem made_rep (z : Value) (n : Nat) : madeCells #[z] n = (List.replicate n z).toArray := by
  apply Array.ext
  · simp [madeCells]
  · intro i h1 h2
    simp [madeCells, Nat.mod_one]
set_option maxRecDepth 100000 in
set_option maxHeartbeats 400000 in
theorem ref_fixed (w : World) (n s : Nat) (hs : s ≤ 8) (hn : n < 18446744073709551616) :
    Calls Tryz.prog 152 #[.int .u64 n, .int .i64 s] w fun e w' => e = .returned (.slice (some ⟨w.heap.size, 0, none⟩) s s) ∧ w' = w.alloc (.cells (vals (beOf n s)).toArray 5) := by
  have hmk := run_make_row' (P := Tryz.prog) 31 5 (.int .u8 0) 1 Tryz.underlying31 Tryz.info5 rfl .i64 .i64 s (by omega) (by omega)
  have HZ : Hid (madeCells #[Value.int .u8 0] s = (fxRow n s 0).toArray) := by show _ = _; rw [made_rep, fxRow_zero]
  generalize madeCells #[Value.int .u8 0] s = Z at *
  go_enter Tryz.func152, Tryz.ntmps152
  go_wp2
  clear hmk
  go_loopw [0, 6] (fun nn i wr => ∃ (j N : Nat) (C : Array Value), j ≤ s ∧ i = .int .i64 ((s : Int) - 1 - (j : Int)) ∧ nn = .int .u64 (N : Int) ∧ wr = w.alloc (.cells C 5) ∧ Hid (N = n / 256 ^ j) ∧ Hid (C = (fxRow n s j).toArray)) (fun _ i _ => (intOf i + 1).toNat)
  case atStart => exact ⟨0, n, Z, Nat.zero_le _, by simp, rfl, rfl, by simp [Hid], HZ⟩
  case round =>
    obtain ⟨j, N, C, hj, rfl, rfl, hwr, HN, HC⟩ := hrel
    subst hwr
    by_cases hlt : j < s
    · have hsz : C.size = s := by rw [HC.out]; simp [fxRow_len n s j hj]
      have i1 : (0 : Int) ≤ (s : Int) - 1 - (j : Int) := by omega
      have i2 : (s : Int) - 1 - (j : Int) < (s : Int) := by omega
      have hcell : ∃ u, (w.alloc (.cells C 5)).cell? ⟨w.heap.size, s - 1 - j, none⟩ = some u := by
        have hlt' : s - 1 - j < C.size := by omega
        have hb := heap_alloc_new w (.cells C 5 (0, 0))
        exact ⟨C[s - 1 - j], by simp only [World.cell?, hb]; simp [hlt']⟩
      obtain ⟨u, hu⟩ := hcell
      have hfz : (w.alloc (.cells C 5)).frozen? ⟨w.heap.size, s - 1 - j, none⟩ = false := by
        have hb := heap_alloc_new w (.cells C 5 (0, 0))
        simp only [World.frozen?, hb]; simp
      have HS1 : Hid (C.setIfInBounds (s - 1 - j) (.int .u8 ((N : Int) % 256)) = (fxRow n s (j + 1)).toArray) := by
        show _ = _
        rw [← fxRow_step n s j hlt, HC.out, HN.out, List.setIfInBounds_toArray]
        simp
      have HN1 : Hid (N / 256 = n / 256 ^ (j + 1)) := by show _ = _; rw [HN.out, Nat.div_div_eq_div_mul, Nat.pow_succ]
      have hwp : IntKind.u64.wrap ((N : Int) / 256) = ((N / 256 : Nat) : Int) := by
        have : N ≤ n := by rw [HN.out]; exact Nat.div_le_self _ _
        rw [IntKind.wrap_u64]; omega
      clear hsz
      go_wp2
      go_roundw
      case rel => exact ⟨j + 1, N / 256, _, by omega, by go_num, by simp, rfl, HN1, HS1⟩
      case measure => simp [intOf]; omega
    · obtain rfl : j = s := by omega
      go_wp2
      go_ret
      refine ⟨rfl, ?_⟩
      rw [HC.out, fxRow_all]
set_option maxRecDepth 100000 in
set_option maxHeartbeats 400000 in
theorem ref_u32 (w : World) (n : Nat) (hn : n < 4294967296) :
    Calls Tryz.prog 142 #[.int .u32 n] w fun e w' => e = .returned (.slice (some ⟨w.heap.size, 0, none⟩) 4 4) ∧ w' = w.alloc (.cells (vals (beOf n 4)).toArray 5) := by
  have HC := hide (ref_fixed w n 4 (by omega) (by omega))
  generalize vals (beOf n 4) = V at *
  go_enter Tryz.func142, Tryz.ntmps142
  go_wp2_with fail
  refine HC.out.mono ?_
  rintro e w' ⟨rfl, rfl⟩
  go_wp2
  go_ret
  exact ⟨rfl, rfl⟩
theorem vs_div (n : Nat) (hn : n < 18446744073709551616) (h : 128 ≤ n) : vs n = vs (n / 128) + 1 := by
  have hb := vs_bounds (n / 128) (by omega)
  have hf := vs_fits (n / 128) (by omega)
  have hl := vs_least (n / 128) (by omega)
  have e := vs_eq n (vs (n / 128)) hn (by
    rw [Nat.pow_succ]
    have := Nat.div_add_mod n 128
    have := Nat.mod_lt n (show 0 < 128 by omega)
    omega) (Or.inr (by
      by_cases h1 : 1 < vs (n / 128)
      · have h2 := hl h1
        have e : vs (n / 128) = vs (n / 128) - 1 + 1 := by omega
        rw [e, Nat.pow_succ]
        have := Nat.div_mul_le_self n 128
        have := Nat.mul_le_mul_right 128 h2
        omega
      · have : vs (n / 128) = 1 := by omega
        rw [this]; simpa using h))
  exact e
theorem vs_one (n : Nat) (h : n < 128) : vs n = 1 := vs_eq n 0 (by omega) (by simpa using h) (Or.inl rfl)
theorem owns_cells {w : World} {B g n c : Nat} {e : TypeId} {xs : List Value} (h : w.ownsRow B e 1 (.slice (some ⟨g, 0, none⟩) n c) n xs) : ∀ j u, xs[j]? = some u → w.cell? ((⟨g, 0, none⟩ : Addr).add j) = some u := by
  intro j u hj
  rcases h.2 with ⟨h1, _⟩ | ⟨g', cap, cur, h1, _, hg, _, _, _, ht⟩
  · cases h1
  · cases h1
    have hadd : (⟨g, 0, none⟩ : Addr).add j = ⟨g, j, none⟩ := by unfold Addr.add; split <;> simp_all
    have hjl : j < xs.length := (List.getElem?_eq_some_iff.1 hj).1
    have hxl := h.1
    rw [← ht, List.getElem?_take, if_pos (by omega)] at hj
    rw [hadd]
    simp only [World.cell?, hg]
    simpa using hj
theorem owns_built (w : World) (x : Value) : (w.alloc (.cells #[x] 5)).ownsRow w.heap.size 5 1 (.slice (some ⟨w.heap.size, 0, none⟩) 1 1) 1 [x] :=
  ⟨rfl, Or.inr ⟨w.heap.size, 1, #[x], rfl, Nat.le_refl _, heap_alloc_new _ _, Nat.le_refl _, by unfold maxLen; omega, rfl, rfl⟩⟩
theorem owns_below {w w' : World} {B n : Nat} {e : TypeId} {size : Nat} {v : Value} {xs : List Value} (h : w.ownsRow B e size v n xs) (hb : Below w.heap.size w w') : w'.ownsRow B e size v n xs := by
  refine ⟨h.1, h.2.elim Or.inl ?_⟩
  rintro ⟨g, cap, cur, h1, h2, hg, r⟩
  exact Or.inr ⟨g, cap, cur, h1, h2, (hb.block g (Array.getElem?_eq_some_iff.1 hg).1).trans hg, r⟩
set_option maxRecDepth 100000 in
set_option maxHeartbeats 400000 in
theorem ref_var_small (w : World) (n : Nat) (h : n < 128) :
    Calls Tryz.prog 139 #[.int .u64 n] w fun e w' => e = .returned (.slice (some ⟨w.heap.size, 0, none⟩) 1 1) ∧ w' = w.alloc (.cells #[.int .u8 (n : Int)] 5) := by
  have h1 : (n : Int) < 128 := by omega
  have h2 : (n : Int) % 256 = (n : Int) := by omega
  go_enter Tryz.func139, Tryz.ntmps139
  go_wp2
  go_ret
  exact ⟨rfl, rfl⟩
def Vared (w w' : World) (n : Nat) (e : Ending) : Prop :=
  ∃ g c, e = .returned (.slice (some ⟨g, 0, none⟩) (vs n) c) ∧ w'.ownsRow w.heap.size 5 1 (.slice (some ⟨g, 0, none⟩) (vs n) c) (vs n) (vals (varOf n (vs n - 1))) ∧ Below w.heap.size w w'
set_option maxRecDepth 100000 in
set_option maxHeartbeats 1000000 in
theorem ref_var_big (w : World) (n : Nat) (hn : n < 18446744073709551616) (h : 128 ≤ n) (hrec : ∀ w, Calls Tryz.prog 139 #[.int .u64 (n / 128 : Nat)] w fun e w' => Vared w w' (n / 128) e) :
    Calls Tryz.prog 139 #[.int .u64 n] w fun e w' => Vared w w' n e := by
  obtain ⟨i0, hi, hz0, hz1, hz2⟩ := info_parts Tryz.info5'
  have hv := vs_bounds (n / 128) (by omega)
  have HV := hide (vs_div n hn h)
  have HE : Hid (vals (varOf n (vs n - 1)) = [.int .u8 ((n % 128 + 128 : Nat) : Int)] ++ vals (varOf (n / 128) (vs (n / 128) - 1))) := by
    show _ = _
    rw [HV.out, Nat.add_sub_cancel, show vs (n / 128) = (vs (n / 128) - 1) + 1 by omega, varOf_cons]
    simp [vals]
  have HL : Hid ((vals (varOf (n / 128) (vs (n / 128) - 1))).length = vs (n / 128) * 1) := by show _ = _; simp [vals, varOf_length]; omega
  have H1 : Hid (∀ u ∈ vals (varOf (n / 128) (vs (n / 128) - 1)), u.oneCell' = true) := fun u hu => by
    simp only [vals, List.mem_map] at hu
    obtain ⟨x, _, rfl⟩ := hu
    rfl
  have hnot : ¬ (n : Int) < 128 := by omega
  have hx1 : 128 + (n : Int) % 128 = ((n % 128 + 128 : Nat) : Int) := by omega
  have hq : (n : Int) / 128 = ((n / 128 : Nat) : Int) := by omega
  generalize hM : n / 128 = M at *
  generalize hX : n % 128 + 128 = X at *
  have HR := hide hrec
  clear hrec hM hX
  go_enter Tryz.func139, Tryz.ntmps139
  go_wp2_with fail
  refine (HR.out _).mono ?_
  rintro e w1 ⟨g, c, rfl, hown1, hb1⟩
  have HO := hide (owns_below (owns_built w (.int .u8 (X : Int))) hb1)
  have HN := hide (owns_cells hown1)
  have hs1 : w.heap.size + 1 ≤ w1.heap.size := by have := hb1.size; simp at this; omega
  have HB1 : Hid (Below w.heap.size w w1) := ((Below.refl _ _).alloc (Nat.le_refl _) _).trans (hb1.mono (by simp))
  clear hown1 hb1 HR
  generalize vs M = V at *
  generalize vals (varOf M (V - 1)) = Y at *
  go_wp2_with (at_builtin; refine wpList_append_lies _ rfl (.tmp 14) (.tmp 17) 31 rfl w.heap.size 5 i0 (.int .u8 0) 1 1 Tryz.underlying31 hi hz0 hz1 hz2 rfl (by omega) _ _ _ rfl HO.out ⟨g, 0, none⟩ V c Y rfl HL.out HN.out H1.out (by omega) (by unfold maxLen; omega) (by omega) (by omega) _ rfl ?_; intro g' cap' w2 hown2 hgrow hat hltg)
  go_ret
  have e1 : vs n = 1 + V := by rw [HV.out]; omega
  refine ⟨g', cap', by rw [e1]; rfl, ?_, HB1.out.grown hgrow (by omega) (fun k e => Nat.le_of_eq (by injection e))⟩
  rw [HE.out, e1]
  exact hown2
theorem ref_var : ∀ (f n : Nat), n < 128 ^ (f + 1) → n < 18446744073709551616 → ∀ w : World, Calls Tryz.prog 139 #[.int .u64 n] w fun e w' => Vared w w' n e := by
  intro f
  induction f with
  | zero =>
    intro n h _ w
    have h1 : n < 128 := by simpa using h
    refine (ref_var_small w n h1).mono ?_
    rintro e w' ⟨rfl, rfl⟩
    rw [Vared, vs_one n h1]
    refine ⟨w.heap.size, 1, rfl, ?_, (Below.refl _ _).alloc (Nat.le_refl _) _⟩
    have := owns_built w (.int .u8 (n : Int))
    simpa [vals, varOf] using this
  | succ f ih =>
    intro n h hn w
    by_cases h1 : n < 128
    · refine (ref_var_small w n h1).mono ?_
      rintro e w' ⟨rfl, rfl⟩
      rw [Vared, vs_one n h1]
      refine ⟨w.heap.size, 1, rfl, ?_, (Below.refl _ _).alloc (Nat.le_refl _) _⟩
      have := owns_built w (.int .u8 (n : Int))
      simpa [vals, varOf] using this
    · refine ref_var_big w n hn (by omega) (fun w => ih (n / 128) ?_ (by omega) w)
      rw [Nat.div_lt_iff_lt_mul (by omega)]
      rw [Nat.pow_succ] at h; exact h
theorem ref_var_any (n : Nat) (hn : n < 18446744073709551616) (w : World) : Calls Tryz.prog 139 #[.int .u64 n] w fun e w' => Vared w w' n e :=
  ref_var 9 n (by have : (128 : Nat) ^ 10 = 1180591620717411303424 := rfl; omega) hn w
end Go.Proofs.YtjcdnclfakmbpaaGreatDoor.C
namespace Go.Proofs.YtjcdnclfakmbpaaGreatDoor.C
open Go.RowKit
structure BytesS (S : Nat → Prop) (w : World) (sp : Option Addr) (xs : List Nat) : Prop where
  small : ∀ x ∈ xs, x < 256
  lie : xs = [] ∨ ∃ g o, sp = some ⟨g, o, none⟩ ∧ S g ∧ g < w.heap.size ∧ ∀ j, j < xs.length → w.cell? ⟨g, o + j, none⟩ = some (.int .u8 (xs.getD j 0))
theorem BytesS.bytes {S : Nat → Prop} {w : World} {sp : Option Addr} {xs : List Nat} (h : BytesS S w sp xs) : Bytes w sp xs :=
  ⟨h.small, h.lie.elim Or.inl (fun ⟨g, o, e, _, hg, hc⟩ => Or.inr ⟨g, o, e, hg, hc⟩)⟩
theorem BytesS.kept {S : Nat → Prop} {w w' : World} {sp : Option Addr} {xs : List Nat} (h : BytesS S w sp xs) (hk : ∀ k, S k → k < w.heap.size → w'.heap[k]? = w.heap[k]?) (hs : w.heap.size ≤ w'.heap.size) : BytesS S w' sp xs :=
  ⟨h.small, h.lie.elim Or.inl (fun ⟨g, o, e, hS, hg, hc⟩ => Or.inr ⟨g, o, e, hS, Nat.lt_of_lt_of_le hg hs, fun j hj => by rw [World.cell?_of_block (w := w) (hk g hS hg)]; exact hc j hj⟩)⟩
end Go.Proofs.YtjcdnclfakmbpaaGreatDoor.C
namespace Go.Proofs.YtjcdnclfakmbpaaGreatDoor.C
theorem rn_done (k : Int) (bound : Nat) (xs : List Nat) (a f : Nat) (hf : f ≠ 0) : rNext k bound xs a f = (no 0, a, f) := by rw [rNext, if_pos hf]
def hv : List Nat → Nat
  | [] => 0
  | x :: r => hv r * 128 + x % 128
theorem hv_snoc : ∀ (xs : List Nat) (x : Nat), hv (xs ++ [x]) = hv xs + (x % 128) * 128 ^ xs.length
  | [], x => by simp [hv]
  | y :: r, x => by
    have := hv_snoc r x
    simp only [List.cons_append, hv, List.length_cons, Nat.pow_succ]
    rw [this, Nat.add_mul, Nat.mul_assoc]
    omega
theorem hv_lt : ∀ (xs : List Nat), hv xs < 128 ^ xs.length
  | [] => by simp [hv]
  | x :: r => by
    have := hv_lt r
    simp only [hv, List.length_cons, Nat.pow_succ]
    omega
theorem hv_take (ys : List Nat) (k : Nat) (h : k < ys.length) : hv (ys.take (k + 1)) = hv (ys.take k) + (ys.getD k 0 % 128) * 128 ^ k := by
  rw [take_snoc ys k h, hv_snoc, List.length_take, Nat.min_eq_left (by omega)]
theorem hv_take_lt (ys : List Nat) (k : Nat) (h : k ≤ ys.length) : hv (ys.take k) < 128 ^ k := by
  have := hv_lt (ys.take k)
  rwa [List.length_take, Nat.min_eq_left h] at this
theorem pv_run (most : Nat) (ys : List Nat) (hs : ∀ x ∈ ys, x < 256) : ∀ (k : Nat), k ≤ 9 → k ≤ ys.length → (∀ j, j < k → 128 ≤ ys.getD j 0) → pVar most ys 0 0 = pVar most (ys.drop k) k (hv (ys.take k)) := by
  intro k
  induction k with
  | zero => intro _ _ _; simp [hv]
  | succ k ih =>
    intro h9 hl ha
    rw [ih (by omega) (by omega) (fun j hj => ha j (by omega)), drop_cons ys k (by omega), pv_on most _ _ k _ (by omega) (ha k (by omega)) (getD_small hs k), hv_take ys k (by omega)]
theorem eye_short (most : Nat) (ys : List Nat) (hs : ∀ x ∈ ys, x < 256) (h : ys.length < 10) (ha : ∀ j, j < ys.length → 128 ≤ ys.getD j 0) : pVar most ys 0 0 = no 10 := by
  rw [pv_run most ys hs ys.length (by omega) (Nat.le_refl _) ha, List.drop_length]
  rfl
theorem eye_long (most : Nat) (ys : List Nat) (hs : ∀ x ∈ ys, x < 256) (h : 10 ≤ ys.length) (ha : ∀ j, j < 10 → 128 ≤ ys.getD j 0) : pVar most ys 0 0 = no 11 := by
  rw [pv_run most ys hs 9 (by omega) (by omega) (fun j hj => ha j (by omega)), drop_cons ys 9 (by omega), pv_form most _ _ 9 _ ⟨rfl, by have := ha 9 (by omega); omega⟩]
def Bad (k c : Nat) : Prop := (k = 9 ∧ 1 < c) ∨ (c = 0 ∧ 0 < k)
instance (k c : Nat) : Decidable (Bad k c) := by unfold Bad; infer_instance
theorem eye_found (most : Nat) (ys : List Nat) (hs : ∀ x ∈ ys, x < 256) (k : Nat) (hk : k < 10) (hl : k < ys.length) (ha : ∀ j, j < k → 128 ≤ ys.getD j 0) (hc : ys.getD k 0 < 128) :
    pVar most ys 0 0 = if Bad k (ys.getD k 0) then no 11 else if most < hv (ys.take (k + 1)) then no 12 else ⟨hv (ys.take (k + 1)), 0, 0, k + 1, 0⟩ := by
  rw [pv_run most ys hs k (by omega) (by omega) ha, drop_cons ys k hl, hv_take ys k hl]
  by_cases h1 : k = 9 ∧ 1 < ys.getD k 0
  · rw [pv_form most _ _ k _ h1, if_pos (show Bad k (ys.getD k 0) from Or.inl h1)]
  · by_cases h2 : ys.getD k 0 = 0 ∧ 0 < k
    · rw [pv_zero most _ _ k _ h1 hc h2, if_pos (show Bad k (ys.getD k 0) from Or.inr h2)]
    · rw [if_neg (show ¬ Bad k (ys.getD k 0) by rintro (h | h); exact h1 h; exact h2 h)]
      by_cases h3 : most < hv (ys.take k) + (ys.getD k 0 % 128) * 128 ^ k
      · rw [pv_max most _ _ k _ h1 hc h2 h3, if_pos h3]
      · rw [pv_ok most _ _ k _ h1 hc h2 h3, if_neg h3]
theorem eye_fits (ys : List Nat) (hs : ∀ x ∈ ys, x < 256) (k : Nat) (hk : k < 10) (hl : k < ys.length) (hb : ¬ Bad k (ys.getD k 0)) : hv (ys.take (k + 1)) < 18446744073709551616 := by
  rw [hv_take ys k hl]
  exact var_fits _ _ k (hv_take_lt ys k (by omega)) (getD_small hs k) (by omega) (fun e => by
    rcases Nat.lt_or_ge 1 (ys.getD k 0) with h | h
    · exact (hb (Or.inl ⟨e, h⟩)).elim
    · exact h)
theorem eye_form (ys : List Nat) (hs : ∀ x ∈ ys, x < 256) (k : Nat) (hk : k < 10) (hl : k < ys.length) (ha : ∀ j, j < k → 128 ≤ ys.getD j 0) (hc : ys.getD k 0 < 128) :
    (varOf (hv (ys.take (k + 1)) % 18446744073709551616) (vs (hv (ys.take (k + 1)) % 18446744073709551616) - 1) = ys.take (k + 1)) ↔ ¬ Bad k (ys.getD k 0) := by
  constructor
  · intro e hb
    generalize hN : hv (ys.take (k + 1)) % 18446744073709551616 = N at *
    have hN64 : N < 18446744073709551616 := by omega
    have hv1 := vs_bounds N hN64
    have hlen := congrArg List.length e
    rw [varOf_length, List.length_take, Nat.min_eq_left (by omega)] at hlen
    rcases hb with ⟨h9, h1⟩ | ⟨h0, hk0⟩
    · subst h9
      have h2 := congrArg (fun l => l.getD 9 0) e
      rw [show vs N - 1 = 9 by omega] at h2
      have h3 : (varOf N 9).getD 9 0 = N / 128 ^ 9 := by simp [varOf, List.getD]
      have h4 : (ys.take 10).getD 9 0 = ys.getD 9 0 := by simp [List.getD]
      simp only [h3, h4] at h2
      have h5 : N / 128 ^ 9 ≤ 1 := by
        rw [show (128 : Nat) ^ 9 = 9223372036854775808 from rfl]; omega
      omega
    · rw [hv_take ys k hl, h0, Nat.zero_mod, Nat.zero_mul, Nat.add_zero] at hN
      have h1 := hv_take_lt ys k (by omega)
      have h2 := vs_least N hN64 (by omega)
      rw [show vs N - 1 = k by omega] at h2
      have h3 : N ≤ hv (ys.take k) := by rw [← hN]; exact Nat.mod_le _ _
      omega
  · intro hb
    have hf := eye_fits ys hs k hk hl hb
    rw [Nat.mod_eq_of_lt hf]
    have e := eye_found 18446744073709551615 ys hs k hk hl ha hc
    rw [if_neg hb, if_neg (by omega)] at e
    have := pv_again 18446744073709551615 ys hs (by omega) (by rw [e])
    rw [e] at this
    exact this
end Go.Proofs.YtjcdnclfakmbpaaGreatDoor.C
