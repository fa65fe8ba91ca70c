import Derived.Test.YtjjhpffkeloadaaGreatDoorCAg2
namespace Go.Proofs.YtjjhpffkeloadaaGreatDoor.C
open Go.RowKit

/-- What the document's own fixed has laid behind j bytes from the end. -/
def fxRow (n s j : Nat) : List Value := List.replicate (s - j) (.int .u8 0) ++ (vals (beOf n s)).drop (s - j)
theorem fxRow_zero (n s : Nat) : fxRow n s 0 = List.replicate s (.int .u8 0) := by
  unfold fxRow
  rw [List.drop_of_length_le (by simp [vals, beOf]), List.append_nil, Nat.sub_zero]
theorem fxRow_all (n s : Nat) : fxRow n s s = vals (beOf n s) := by simp [fxRow]
theorem fxRow_len (n s j : Nat) (h : j ≤ s) : (fxRow n s j).length = s := by
  unfold fxRow
  rw [List.length_append, List.length_replicate, List.length_drop]
  simp only [vals, beOf, List.length_map, List.length_range]
  omega
theorem fxRow_step (n s j : Nat) (h : j < s) : (fxRow n s j).set (s - 1 - j) (.int .u8 ((n / 256 ^ j % 256 : Nat) : Int)) = fxRow n s (j + 1) := by
  apply List.ext_getElem?
  intro i
  unfold fxRow
  rw [List.getElem?_set]
  have hl : (vals (beOf n s)).length = s := by simp [vals, beOf]
  by_cases hi : s - 1 - j = i
  · subst hi
    rw [if_pos rfl, if_pos (by simp [hl]; omega)]
    rw [List.getElem?_append_right (by simp; omega), List.getElem?_drop, List.length_replicate]
    rw [show s - (j + 1) + (s - 1 - j - (s - (j + 1))) = s - 1 - j by omega]
    simp only [vals, beOf, List.getElem?_map]
    rw [List.getElem?_range (by omega)]
    simp only [Option.map_some]
    rw [show s - 1 - (s - 1 - j) = j by omega]
  · rw [if_neg hi]
    by_cases h1 : i < s - (j + 1)
    · rw [List.getElem?_append_left (by simp; omega), List.getElem?_append_left (by simp; omega)]
      rw [List.getElem?_replicate, List.getElem?_replicate, if_pos (by omega), if_pos h1]
    · rw [List.getElem?_append_right (by simp; omega), List.getElem?_append_right (by simp; omega), List.getElem?_drop, List.getElem?_drop]
      congr 1
      simp; omega

theorem made_rep (z : Value) (n : Nat) : madeCells #[z] n = (List.replicate n z).toArray := by
  apply Array.ext
  · simp [madeCells]
  · intro i h1 h2
    simp [madeCells, Nat.mod_one]

set_option maxRecDepth 100000 in
set_option maxHeartbeats 400000 in
theorem ref_fixed (w : World) (n s : Nat) (hs : s ≤ 8) (hn : n < 18446744073709551616) :
    Calls Tryz.prog 59 #[.int .u64 n, .int .i64 s] w fun e w' => e = .returned (.slice (some ⟨w.heap.size, 0, none⟩) s s) ∧ w' = w.alloc (.cells (vals (beOf n s)).toArray 5) := by
  have hmk := run_make_row' (P := Tryz.prog) 55 5 (.int .u8 0) 1 Tryz.underlying55 Tryz.info5 rfl .i64 .i64 s (by omega) (by omega)
  have HZ : Hid (madeCells #[Value.int .u8 0] s = (fxRow n s 0).toArray) := by show _ = _; rw [made_rep, fxRow_zero]
  generalize madeCells #[Value.int .u8 0] s = Z at *
  go_enter Tryz.func59, Tryz.ntmps59
  go_wp2
  clear hmk
  go_loopw [0, 6] (fun nn i wr => ∃ (j N : Nat) (C : Array Value), j ≤ s ∧ i = .int .i64 ((s : Int) - 1 - (j : Int)) ∧ nn = .int .u64 (N : Int) ∧ wr = w.alloc (.cells C 5) ∧ Hid (N = n / 256 ^ j) ∧ Hid (C = (fxRow n s j).toArray)) (fun _ i _ => (intOf i + 1).toNat)
  case atStart => exact ⟨0, n, Z, Nat.zero_le _, by simp, rfl, rfl, by simp [Hid], HZ⟩
  case round =>
    obtain ⟨j, N, C, hj, rfl, rfl, hwr, HN, HC⟩ := hrel
    subst hwr
    by_cases hlt : j < s
    · have hsz : C.size = s := by rw [HC.out]; simp [fxRow_len n s j hj]
      have i1 : (0 : Int) ≤ (s : Int) - 1 - (j : Int) := by omega
      have i2 : (s : Int) - 1 - (j : Int) < (s : Int) := by omega
      have hcell : ∃ u, (w.alloc (.cells C 5)).cell? ⟨w.heap.size, s - 1 - j, none⟩ = some u := by
        have hlt' : s - 1 - j < C.size := by omega
        have hb := heap_alloc_new w (.cells C 5 (0, 0))
        exact ⟨C[s - 1 - j], by simp only [World.cell?, hb]; simp [hlt']⟩
      obtain ⟨u, hu⟩ := hcell
      have hfz : (w.alloc (.cells C 5)).frozen? ⟨w.heap.size, s - 1 - j, none⟩ = false := by
        have hb := heap_alloc_new w (.cells C 5 (0, 0))
        simp only [World.frozen?, hb]; simp
      have HS1 : Hid (C.setIfInBounds (s - 1 - j) (.int .u8 ((N : Int) % 256)) = (fxRow n s (j + 1)).toArray) := by
        show _ = _
        rw [← fxRow_step n s j hlt, HC.out, HN.out, List.setIfInBounds_toArray]
        simp
      have HN1 : Hid (N / 256 = n / 256 ^ (j + 1)) := by show _ = _; rw [HN.out, Nat.div_div_eq_div_mul, Nat.pow_succ]
      have hwp : IntKind.u64.wrap ((N : Int) / 256) = ((N / 256 : Nat) : Int) := by
        have : N ≤ n := by rw [HN.out]; exact Nat.div_le_self _ _
        rw [IntKind.wrap_u64]; omega
      clear hsz
      go_wp2
      go_roundw
      case rel => exact ⟨j + 1, N / 256, _, by omega, by go_num, by simp, rfl, HN1, HS1⟩
      case measure => simp [intOf]; omega
    · obtain rfl : j = s := by omega
      go_wp2
      go_ret
      refine ⟨rfl, ?_⟩
      rw [HC.out, fxRow_all]

set_option maxRecDepth 100000 in
set_option maxHeartbeats 400000 in
theorem ref_u32 (w : World) (n : Nat) (hn : n < 4294967296) :
    Calls Tryz.prog 27 #[.int .u32 n] w fun e w' => e = .returned (.slice (some ⟨w.heap.size, 0, none⟩) 4 4) ∧ w' = w.alloc (.cells (vals (beOf n 4)).toArray 5) := by
  have HC := hide (ref_fixed w n 4 (by omega) (by omega))
  generalize vals (beOf n 4) = V at *
  go_enter Tryz.func27, Tryz.ntmps27
  go_wp2_with fail
  refine HC.out.mono ?_
  rintro e w' ⟨rfl, rfl⟩
  go_wp2
  go_ret
  exact ⟨rfl, rfl⟩

/-- BYTES THAT A CALL HAS MADE BY APPENDS: a row of its own from B on. -/
def Row (B : Nat) (w : World) (v : Value) (ys : List Nat) : Prop := w.ownsRow B 5 1 v ys.length (vals ys)

/-- The document's own shortest form, s bytes ahead of the last. -/
theorem vs_div (n : Nat) (hn : n < 18446744073709551616) (h : 128 ≤ n) : vs n = vs (n / 128) + 1 := by
  have hb := vs_bounds (n / 128) (by omega)
  have hf := vs_fits (n / 128) (by omega)
  have hl := vs_least (n / 128) (by omega)
  have e := vs_eq n (vs (n / 128)) hn (by
    rw [Nat.pow_succ]
    have := Nat.div_add_mod n 128
    have := Nat.mod_lt n (show 0 < 128 by omega)
    omega) (Or.inr (by
      by_cases h1 : 1 < vs (n / 128)
      · have h2 := hl h1
        have e : vs (n / 128) = vs (n / 128) - 1 + 1 := by omega
        rw [e, Nat.pow_succ]
        have := Nat.div_mul_le_self n 128
        have := Nat.mul_le_mul_right 128 h2
        omega
      · have : vs (n / 128) = 1 := by omega
        rw [this]; simpa using h))
  exact e
theorem vs_one (n : Nat) (h : n < 128) : vs n = 1 := vs_eq n 0 (by omega) (by simpa using h) (Or.inl rfl)

theorem owns_cells {w : World} {B g n c : Nat} {e : TypeId} {xs : List Value} (h : w.ownsRow B e 1 (.slice (some ⟨g, 0, none⟩) n c) n xs) : ∀ j u, xs[j]? = some u → w.cell? ((⟨g, 0, none⟩ : Addr).add j) = some u := by
  intro j u hj
  rcases h.2 with ⟨h1, _⟩ | ⟨g', cap, cur, h1, _, hg, _, _, _, ht⟩
  · cases h1
  · cases h1
    have hadd : (⟨g, 0, none⟩ : Addr).add j = ⟨g, j, none⟩ := by unfold Addr.add; split <;> simp_all
    have hjl : j < xs.length := (List.getElem?_eq_some_iff.1 hj).1
    have hxl := h.1
    rw [← ht, List.getElem?_take, if_pos (by omega)] at hj
    rw [hadd]
    simp only [World.cell?, hg]
    simpa using hj
theorem owns_built (w : World) (x : Value) : (w.alloc (.cells #[x] 5)).ownsRow w.heap.size 5 1 (.slice (some ⟨w.heap.size, 0, none⟩) 1 1) 1 [x] :=
  ⟨rfl, Or.inr ⟨w.heap.size, 1, #[x], rfl, Nat.le_refl _, heap_alloc_new _ _, Nat.le_refl _, by unfold maxLen; omega, rfl, rfl⟩⟩
theorem owns_below {w w' : World} {B n : Nat} {e : TypeId} {size : Nat} {v : Value} {xs : List Value} (h : w.ownsRow B e size v n xs) (hb : Below w.heap.size w w') : w'.ownsRow B e size v n xs := by
  refine ⟨h.1, h.2.elim Or.inl ?_⟩
  rintro ⟨g, cap, cur, h1, h2, hg, r⟩
  exact Or.inr ⟨g, cap, cur, h1, h2, (hb.block g (Array.getElem?_eq_some_iff.1 hg).1).trans hg, r⟩

set_option maxRecDepth 100000 in
set_option maxHeartbeats 400000 in
theorem ref_var_small (w : World) (n : Nat) (h : n < 128) :
    Calls Tryz.prog 25 #[.int .u64 n] w fun e w' => e = .returned (.slice (some ⟨w.heap.size, 0, none⟩) 1 1) ∧ w' = w.alloc (.cells #[.int .u8 (n : Int)] 5) := by
  have h1 : (n : Int) < 128 := by omega
  have h2 : (n : Int) % 256 = (n : Int) := by omega
  go_enter Tryz.func25, Tryz.ntmps25
  go_wp2
  go_ret
  exact ⟨rfl, rfl⟩

/-- What the document's own Var leaves. -/
def Vared (w w' : World) (n : Nat) (e : Ending) : Prop :=
  ∃ g c, e = .returned (.slice (some ⟨g, 0, none⟩) (vs n) c) ∧ w'.ownsRow w.heap.size 5 1 (.slice (some ⟨g, 0, none⟩) (vs n) c) (vs n) (vals (varOf n (vs n - 1))) ∧ Below w.heap.size w w'

set_option maxRecDepth 100000 in
set_option maxHeartbeats 1000000 in
theorem ref_var_big (w : World) (n : Nat) (hn : n < 18446744073709551616) (h : 128 ≤ n) (hrec : ∀ w, Calls Tryz.prog 25 #[.int .u64 (n / 128 : Nat)] w fun e w' => Vared w w' (n / 128) e) :
    Calls Tryz.prog 25 #[.int .u64 n] w fun e w' => Vared w w' n e := by
  obtain ⟨i0, hi, hz0, hz1, hz2⟩ := info_parts Tryz.info5'
  have hv := vs_bounds (n / 128) (by omega)
  have HV := hide (vs_div n hn h)
  have HE : Hid (vals (varOf n (vs n - 1)) = [.int .u8 ((n % 128 + 128 : Nat) : Int)] ++ vals (varOf (n / 128) (vs (n / 128) - 1))) := by
    show _ = _
    rw [HV.out, Nat.add_sub_cancel, show vs (n / 128) = (vs (n / 128) - 1) + 1 by omega, varOf_cons]
    simp [vals]
  have HL : Hid ((vals (varOf (n / 128) (vs (n / 128) - 1))).length = vs (n / 128) * 1) := by show _ = _; simp [vals, varOf_length]; omega
  have H1 : Hid (∀ u ∈ vals (varOf (n / 128) (vs (n / 128) - 1)), u.oneCell' = true) := fun u hu => by
    simp only [vals, List.mem_map] at hu
    obtain ⟨x, _, rfl⟩ := hu
    rfl
  have hnot : ¬ (n : Int) < 128 := by omega
  have hx1 : 128 + (n : Int) % 128 = ((n % 128 + 128 : Nat) : Int) := by omega
  have hq : (n : Int) / 128 = ((n / 128 : Nat) : Int) := by omega
  generalize hM : n / 128 = M at *
  generalize hX : n % 128 + 128 = X at *
  have HR := hide hrec
  clear hrec hM hX
  go_enter Tryz.func25, Tryz.ntmps25
  go_wp2_with fail
  refine (HR.out _).mono ?_
  rintro e w1 ⟨g, c, rfl, hown1, hb1⟩
  have HO := hide (owns_below (owns_built w (.int .u8 (X : Int))) hb1)
  have HN := hide (owns_cells hown1)
  have hs1 : w.heap.size + 1 ≤ w1.heap.size := by have := hb1.size; simp at this; omega
  have HB1 : Hid (Below w.heap.size w w1) := ((Below.refl _ _).alloc (Nat.le_refl _) _).trans (hb1.mono (by simp))
  clear hown1 hb1 HR
  generalize vs M = V at *
  generalize vals (varOf M (V - 1)) = Y at *
  go_wp2_with (at_builtin; refine wpList_append_lies _ rfl (.tmp 14) (.tmp 17) 55 rfl w.heap.size 5 i0 (.int .u8 0) 1 1 Tryz.underlying55 hi hz0 hz1 hz2 rfl (by omega) _ _ _ rfl HO.out ⟨g, 0, none⟩ V c Y rfl HL.out HN.out H1.out (by omega) (by unfold maxLen; omega) (by omega) (by omega) _ rfl ?_; intro g' cap' w2 hown2 hgrow hat hltg)
  go_ret
  have e1 : vs n = 1 + V := by rw [HV.out]; omega
  refine ⟨g', cap', by rw [e1]; rfl, ?_, HB1.out.grown hgrow (by omega) (fun k e => Nat.le_of_eq (by injection e))⟩
  rw [HE.out, e1]
  exact hown2

theorem ref_var : ∀ (f n : Nat), n < 128 ^ (f + 1) → n < 18446744073709551616 → ∀ w : World, Calls Tryz.prog 25 #[.int .u64 n] w fun e w' => Vared w w' n e := by
  intro f
  induction f with
  | zero =>
    intro n h _ w
    have h1 : n < 128 := by simpa using h
    refine (ref_var_small w n h1).mono ?_
    rintro e w' ⟨rfl, rfl⟩
    rw [Vared, vs_one n h1]
    refine ⟨w.heap.size, 1, rfl, ?_, (Below.refl _ _).alloc (Nat.le_refl _) _⟩
    have := owns_built w (.int .u8 (n : Int))
    simpa [vals, varOf] using this
  | succ f ih =>
    intro n h hn w
    by_cases h1 : n < 128
    · refine (ref_var_small w n h1).mono ?_
      rintro e w' ⟨rfl, rfl⟩
      rw [Vared, vs_one n h1]
      refine ⟨w.heap.size, 1, rfl, ?_, (Below.refl _ _).alloc (Nat.le_refl _) _⟩
      have := owns_built w (.int .u8 (n : Int))
      simpa [vals, varOf] using this
    · refine ref_var_big w n hn (by omega) (fun w => ih (n / 128) ?_ (by omega) w)
      rw [Nat.div_lt_iff_lt_mul (by omega)]
      rw [Nat.pow_succ] at h; exact h
theorem ref_var_any (n : Nat) (hn : n < 18446744073709551616) (w : World) : Calls Tryz.prog 25 #[.int .u64 n] w fun e w' => Vared w w' n e :=
  ref_var 9 n (by have : (128 : Nat) ^ 10 = 1180591620717411303424 := rfl; omega) hn w

end Go.Proofs.YtjjhpffkeloadaaGreatDoor.C
