import Derived.Test.YthgggjdefhgfiaaNTake2
import Derived.Lib.SlBytesConst
namespace Go.Proofs.Ythgggjdefhgfiaa
open Go.RowKit

set_option maxRecDepth 100000 in
theorem num_any (w : World) (e : Nat) : Calls Try.prog 21 #[.int .i64 (e : Int)] w fun r w' => r = .returned (.int .i64 (e : Int)) ∧ w' = w := by
  go_enter Try.func21, Try.ntmps21
  go_wp2
  go_ret
  exact ⟨rfl, rfl⟩

theorem tmod_into (n m : Int) (hm : 0 < m) : n % m = if n.tmod m < 0 then n.tmod m + m else n.tmod m := by
  have h1 := Int.tmod_lt_of_pos n hm
  have h2 : -m < n.tmod m := Int.lt_tmod_of_pos n hm
  have e : n % m = n.tmod m % m := by rw [Int.tmod_def, Int.sub_mul_emod_self_left]
  split
  · rw [e, ← Int.add_emod_right, Int.emod_eq_of_lt (by omega) (by omega)]
  · rw [e, Int.emod_eq_of_lt (by omega) (by omega)]

set_option maxRecDepth 100000 in
theorem into_any (w : World) (n : Int) (m : Nat) (hm : 0 < m) (hm2 : m ≤ 1000000) :
    Calls Try.prog 11 #[.int .i64 n, .int .i64 (m : Int)] w fun r w' => r = .returned (.int .i64 ((n % (m : Int)).toNat : Int)) ∧ w' = w := by
  have h1 := Int.tmod_lt_of_pos n (show (0 : Int) < (m : Int) by omega)
  have h2 : -(m : Int) < n.tmod m := Int.lt_tmod_of_pos n (by omega)
  have h3 := tmod_into n m (by omega)
  have h4 := Int.emod_nonneg n (show (m : Int) ≠ 0 by omega)
  have h6 : (((n % (m : Int)).toNat : Nat) : Int) = n % (m : Int) := by omega
  rw [h6]
  have hm0 : ¬ (m : Int) = 0 := by omega
  by_cases hlt : n.tmod m < 0
  · rw [if_pos hlt] at h3
    generalize n % (m : Int) = r at *
    have H3 := hide h3
    clear h3 h6 h4
    go_enter Try.func11, Try.ntmps11
    go_wp2
    go_ret
    exact ⟨by rw [H3.out]; rfl, rfl⟩
  · rw [if_neg hlt] at h3
    generalize n % (m : Int) = r at *
    have H3 := hide h3
    clear h3 h6 h4
    go_enter Try.func11, Try.ntmps11
    go_wp2
    go_ret
    exact ⟨by rw [H3.out]; rfl, rfl⟩

set_option maxRecDepth 100000 in
set_option maxHeartbeats 400000 in
theorem eq_same (w : World) (sp sq : Option Addr) (n c1 c2 : Nat) (xs : List Nat) (hl : xs.length = n) (hn : n ≤ 140737488355328) (h1 : Bytes w sp xs) (h2 : Bytes w sq xs) :
    Calls Try.prog 47 #[.slice sp n c1, .slice sq n c2] w fun e w' => e = .returned (.bool true) ∧ ∃ q, w' = w.drewN q := by
  by_cases h0 : n = 0
  · subst h0
    go_enter Try.func47, Try.ntmps47
    go_wp2
    refine wp_loop_rounds 1 ?_
    rw [rounds_succ]
    go_wp2
    go_ret
    exact ⟨rfl, 0, rfl⟩
  · obtain ⟨g, o, rfl, hg, hc⟩ : ∃ g o, sp = some ⟨g, o, none⟩ ∧ g < w.heap.size ∧ ∀ j, j < xs.length → w.cell? ⟨g, o + j, none⟩ = some (.int .u8 (xs.getD j 0)) := by
      rcases h1.lie with h | h
      · subst h; simp at hl; omega
      · exact h
    obtain ⟨g', o', rfl, hg', hc'⟩ : ∃ g o, sq = some ⟨g, o, none⟩ ∧ g < w.heap.size ∧ ∀ j, j < xs.length → w.cell? ⟨g, o + j, none⟩ = some (.int .u8 (xs.getD j 0)) := by
      rcases h2.lie with h | h
      · subst h; simp at hl; omega
      · exact h
    rw [hl] at hc hc'
    have HC := hide hc
    have HC' := hide hc'
    clear hc hc' h1 h2 hl
    go_enter Try.func47, Try.ntmps47
    go_wp2
    go_loopw [5] (fun i wr => ∃ k q : Nat, k ≤ n ∧ i = .int .i64 k ∧ Hid (wr = w.drewN q)) (fun i _ => n - (intOf i).toNat)
    case atStart => exact ⟨0, 0, Nat.zero_le _, rfl, rfl⟩
    case round =>
      obtain ⟨k, q, hk, rfl, HW⟩ := hrel
      by_cases hlt : k < n
      · have d1 : wr.cell? ⟨g, o + k, none⟩ = some (.int .u8 (xs.getD k 0)) := by rw [HW.out]; exact HC.out k hlt
        have d2 : wr.cell? ⟨g', o' + k, none⟩ = some (.int .u8 (xs.getD k 0)) := by rw [HW.out]; exact HC'.out k hlt
        have i1 : (0 : Int) ≤ (k : Int) := by omega
        have i2 : (k : Int) < (n : Int) := by omega
        generalize xs.getD k 0 = x at *
        go_wp2
        go_quiet (fail)
        go_wp2
        go_roundw
        case rel => exact ⟨k + 1, q + nq, by omega, by go_num, by show _ = _; rw [HW.out, World.drewN_drewN]⟩
        case measure => simp [intOf]; omega
      · obtain rfl : k = n := by omega
        go_wp2
        go_ret
        exact ⟨rfl, q, HW.out⟩

/-- Two bytes. -/
theorem lit2 {w : World} {g x y : Nat} {fr : Nat × Nat} (h : x < 256 ∧ y < 256) (hb : w.heap[g]? = some (.cells #[.int .u8 x, .int .u8 y] 5 fr)) : Bytes w (some ⟨g, 0, none⟩) [x, y] := by
  refine ⟨fun u hu => ?_, Or.inr ⟨g, 0, rfl, lt_of_block hb, fun j hj => ?_⟩⟩
  · simp only [List.mem_cons, List.not_mem_nil, or_false] at hu
    rcases hu with e | e <;> (subst e; omega)
  · have h3 : j = 0 ∨ j = 1 := by simp at hj; omega
    rcases h3 with e | e <;> (subst e; simp [World.cell?, hb, List.getD])
theorem lit1 {w : World} {g x : Nat} {fr : Nat × Nat} (h : x < 256) (hb : w.heap[g]? = some (.cells #[.int .u8 x] 5 fr)) : Bytes w (some ⟨g, 0, none⟩) [x] := by
  refine ⟨fun u hu => ?_, Or.inr ⟨g, 0, rfl, lt_of_block hb, fun j hj => ?_⟩⟩
  · simp only [List.mem_cons, List.not_mem_nil, or_false] at hu
    subst hu; exact h
  · have h3 : j = 0 := by simp at hj; omega
    subst h3; simp [World.cell?, hb, List.getD]
def tagB (i : Nat) : List Nat := [i % 256, i / 256 % 256]
theorem tagB_small (i : Nat) : ∀ x ∈ tagB i, x < 256 := by
  intro x hx
  simp only [tagB, List.mem_cons, List.not_mem_nil, or_false] at hx
  rcases hx with e | e <;> (subst e; omega)
def TagPost (w : World) (i : Nat) (e : Ending) (w' : World) : Prop := e = .returned (.slice (some ⟨w.heap.size, 0, none⟩) 2 2) ∧ Bytes w' (some ⟨w.heap.size, 0, none⟩) (tagB i) ∧ Below w.heap.size w w'
set_option maxRecDepth 100000 in
set_option maxHeartbeats 1000000 in
theorem same_any (w : World) (to : Int) (sp sq : Option Addr) (n c1 c2 : Nat) (xs : List Nat) (hl : xs.length = n) (hn : n ≤ 140737488355328) (h1 : Bytes w sp xs) (h2 : Bytes w sq xs) :
    Calls Try.prog 23 #[.agg #[.int .i64 to, .slice sp n c1], .agg #[.int .i64 to, .slice sq n c2]] w fun e w' => e = .returned (.bool true) ∧ Below w.heap.size w w' := by
  have hb1 : Below w.heap.size w ((w.alloc (.cells #[.int .i64 to, .slice sp n c1] 75)).alloc (.cells #[.int .i64 to, .slice sq n c2] 75)) := ((Below.refl _ _).alloc (Nat.le_refl _) _).alloc (by simp) _
  have HB1 := hide hb1
  have HE := hide (eq_same _ sp sq n c1 c2 xs hl hn (h1.below hb1) (h2.below hb1))
  clear hb1 h1 h2 hl
  have n0 : w.heap.size < w.heap.size + 1 := by omega
  go_enter Try.func23, Try.ntmps23
  go_wp2_with (go_at_call 47; refine HE.out.mono ?_; rintro e w2 ⟨rfl, q, hw2⟩; have HW2 := hide hw2; clear hw2)
  go_ret
  refine ⟨rfl, ?_⟩
  rw [HW2.out]
  exact ⟨HB1.out.os, HB1.out.tape, HB1.out.output, HB1.out.size, HB1.out.block⟩

/-- All is of no kind but what is new. -/
def K00 : Knd := fun _ => (0, 0)
set_option maxRecDepth 100000 in
set_option maxHeartbeats 4000000 in
theorem lives_any (w : World) : Calls Try.prog 10 #[] w fun e w' => e = .returned (.bool true) ∧ Below w.heap.size w w' := by
  have HNew := hide (New_any w K00 1 1)
  have hcb := fun (w : World) (C : Array Value) (n c : Nat) => Lib.run_convert_bytes_const (P := Try.prog) w 59 5 C n c Try.underlying59 Try.underlying5
  go_enter Try.func10, Try.ntmps10
  go_wp2_with fail
  refine HNew.out.mono ?_
  rintro e w1 ⟨hb1, ⟨_, rfl, hn1⟩ | ⟨hf, _⟩⟩
  rotate_left
  · exact absurd hf (by decide)
  have HN1 := hide hn1
  have HB1 := hide hb1
  clear hn1 hb1
  go_wp2_with fail
  refine (num_any _ 0).mono ?_
  rintro e w2 ⟨rfl, h9⟩
  have h9 := h9.symm
  subst h9
  go_wp2_with fail
  have hb2 : Below w1.heap.size w1 (w1.alloc (.cells #[.int .u8 120] 5 (1, 2))) := (Below.refl _ _).alloc (Nat.le_refl _) _
  have hn2 := HN1.out.kept (kp_below hb2 (fun _ => False) _ (0, 0)) (fun _ h => h)
  have hy2 : Bytes (w1.alloc (.cells #[.int .u8 120] 5 (1, 2))) (some ⟨w1.heap.size, 0, none⟩) [120] := lit1 (by decide) (heap_alloc_new _ _)
  have HB2 := hide (HB1.out.trans (hb2.mono HB1.out.size))
  have HS1 := hide (Send_any _ _ 1 w.heap.size _ hn2 (by decide) (by show (0 : Nat) < _; omega) 3 (some ⟨w1.heap.size, 0, none⟩) 1 1 [120] hy2 rfl)
  clear hb2 hn2 hy2
  refine HS1.out.mono ?_
  rintro e w2 ⟨K2, rfl, hn2, hk2⟩
  rw [show Nt.send ⟨Int.toNat 1, [], 0⟩ ⟨3, str [120]⟩ = ⟨1, [⟨3, str [120]⟩], 0⟩ from rfl] at hn2
  have had : Nt.adds ⟨Int.toNat 1, [], 0⟩ = true := rfl
  rw [had]
  have hb2 : Below w.heap.size w w2 := hk2.below HB2.out (fun b hb => by
    rw [ext_old _ _ (Nat.lt_of_lt_of_le hb HB1.out.size), ext_old _ _ hb]
    rintro (e | e) <;> cases e)
  have hold2 : ∀ b, b < w.heap.size → K2 b = (0, 0) := fun b hb => by
    rw [hk2.same b (Nat.lt_of_lt_of_le hb HB2.out.size), ext_old _ _ (Nat.lt_of_lt_of_le hb HB1.out.size), ext_old _ _ hb]; rfl
  have HO2 := hide hold2
  have HB3 := hide hb2
  have HS2 := hide (Send_any _ _ 1 w.heap.size _ hn2 (by decide) (by show (0 : Nat) < _; omega) 4 none 0 0 [] ⟨by simp, Or.inl rfl⟩ rfl)
  clear hb2 hn2 hk2 hold2
  go_wp2_with fail
  refine HS2.out.mono ?_
  rintro e w3 ⟨K3, rfl, hn3, hk3⟩
  rw [show Nt.send ⟨1, [⟨3, str [120]⟩], 0⟩ ⟨4, str []⟩ = ⟨1, [⟨3, str [120]⟩], 1⟩ from rfl] at hn3
  have had2 : Nt.adds ⟨1, [⟨3, str [120]⟩], 0⟩ = false := rfl
  rw [had2]
  have HB4 := hide (hk3.below HB3.out (fun b hb => by rw [HO2.out b hb]; rintro (e | e) <;> cases e))
  have HO3 : Hid (∀ b, b < w.heap.size → K3 b = (0, 0)) := fun b hb => by rw [hk3.same b (Nat.lt_of_lt_of_le hb HB3.out.size)]; exact HO2.out b hb
  have HLo := hide (lost_any _ _ _ _ _ hn3)
  have HTk := hide (Take_any _ _ (0, 0) _ _ (by decide) _ hn3 (by decide) 0)
  clear hn3 hk3
  go_wp2_with fail
  refine HLo.out.mono ?_
  rintro e w4 ⟨rfl, h9⟩
  have h9 := h9.symm
  subst h9
  go_wp2_with fail
  refine HTk.out.mono ?_
  rintro e w5 ⟨hn5, hk5, ⟨_, m, g, c, hm, rfl, hg, ht⟩ | ⟨hf, _⟩⟩
  rotate_left
  · exact absurd hf (by decide)
  obtain rfl : m = ⟨3, str [120]⟩ := by simpa using hm.symm
  simp only
  rw [show Nt.dropped ⟨1, [⟨3, str [120]⟩], 1⟩ 0 = ⟨1, [], 1⟩ from rfl] at hn5
  have hby := ht.bytes
  rw [show nums (str [120]) = [120] from nums_str (by decide)] at hby
  rw [show (str [120]).size = 1 from str_size (xs := [120]) (by decide)]
  have HB5 := hide (hk5.below HB4.out (fun b hb => by rw [HO3.out b hb]; rintro (e | e) <;> cases e))
  have HN5 := hide hn5
  have HY5 := hide hby
  clear hn5 hk5 hm ht hby
  have n0 : w5.heap.size < w5.heap.size + 1 := by omega
  have hcc := hcb (w5.alloc (.cells #[.int .i64 3, .slice (some ⟨g, 0, none⟩) 1 c] 75)) #[.int .u8 120] 1 1
  rw [show (w5.alloc (.cells #[.int .i64 3, .slice (some ⟨g, 0, none⟩) 1 c] 75)).heap.size = w5.heap.size + 1 by simp] at hcc
  have hb6 : Below w5.heap.size w5 ((w5.alloc (.cells #[.int .i64 3, .slice (some ⟨g, 0, none⟩) 1 c] 75)).alloc (.cells #[.int .u8 120] 5 (1, 2))) := ((Below.refl _ _).alloc (Nat.le_refl _) _).alloc (by simp) _
  have hy6 : Bytes ((w5.alloc (.cells #[.int .i64 3, .slice (some ⟨g, 0, none⟩) 1 c] 75)).alloc (.cells #[.int .u8 120] 5 (1, 2))) (some ⟨w5.heap.size + 1, 0, none⟩) [120] := by
    have := heap_alloc_new (w5.alloc (.cells #[.int .i64 3, .slice (some ⟨g, 0, none⟩) 1 c] 75)) (.cells #[.int .u8 120] 5 (1, 2))
    rw [show (w5.alloc (.cells #[.int .i64 3, .slice (some ⟨g, 0, none⟩) 1 c] 75)).heap.size = w5.heap.size + 1 by simp] at this
    exact lit1 (by decide) this
  have HSa := hide (same_any _ 3 _ _ 1 c 1 [120] rfl (by omega) (HY5.out.below hb6) hy6)
  have hn6 := HN5.out.kept (kp_below hb6 (fun _ => False) _ (0, 0)) (fun _ h => h)
  have HN6 := hide hn6
  have HB6 := hide (HB5.out.trans (hb6.mono HB5.out.size))
  clear hn6 hy6 hb6
  go_wp2_with fail
  refine HSa.out.mono ?_
  rintro e w7 ⟨rfl, hb7⟩
  have HB7 := hide (HB6.out.trans (hb7.mono HB6.out.size))
  have HLn := hide (nlen_any _ _ _ _ _ (HN6.out.kept (kp_below hb7 (fun _ => False) _ (0, 0)) (fun _ h => h)))
  clear hb7
  go_wp2_with fail
  refine HLn.out.mono ?_
  rintro e w8 ⟨rfl, h9⟩
  have h9 := h9.symm
  subst h9
  go_wp2
  go_ret
  exact ⟨rfl, HB7.out⟩

end Go.Proofs.Ythgggjdefhgfiaa
