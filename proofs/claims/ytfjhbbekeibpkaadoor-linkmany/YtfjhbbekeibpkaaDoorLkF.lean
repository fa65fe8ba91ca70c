import Derived.Test.YtfjhbbekeibpkaaDoorLkE
namespace Go.Proofs.YtfjhbbekeibpkaaDoor
open Go.RowKit

theorem Fr.ext_iff' {f g : Fr} : f = g ↔ f.fr = g.fr ∧ f.tt = g.tt ∧ f.mine = g.mine ∧ f.yours = g.yours ∧ f.seq = g.seq ∧ f.ack = g.ack ∧ f.body = g.body :=
  ⟨fun h => by subst h; exact ⟨rfl, rfl, rfl, rfl, rfl, rfl, rfl⟩, fun ⟨h1, h2, h3, h4, h5, h6, h7⟩ => Fr.ext' h1 h2 h3 h4 h5 h6 h7⟩
set_option maxRecDepth 100000 in
set_option maxHeartbeats 2000000 in
/-- EqFrame tells whether two frames are alike. -/
theorem eqfr_any (w : World) (f g : Fr) (sp sq : Option Addr) (c d : Nat) (hf : Bytes w sp f.body) (hg : Bytes w sq g.body) (hfl : f.body.length ≤ 140737488355328) (hgl : g.body.length ≤ 140737488355328) :
    Calls Tryd.prog 10 #[frV f sp c, frV g sq d] w fun e w' => ∃ r, e = .returned (.bool r) ∧ (r = true ↔ f = g) ∧ Below w.heap.size w w' := by
  have HI := hide (Fr.ext_iff' (f := f) (g := g))
  have HV := hide (fun w' h1 h2 => eq_val w' sp sq f.body.length g.body.length c d f.body g.body rfl rfl hfl hgl h1 h2)
  have HBf := hide hf
  have HBg := hide hg
  have HFe := hide (rfl : f.body = f.body)
  clear hf hg
  unfold frV
  obtain ⟨f0, f1, f2, f3, f4, f5, fb⟩ := f
  obtain ⟨g0, g1, g2, g3, g4, g5, gb⟩ := g
  simp only at *
  generalize fb.length = n at *
  generalize gb.length = m at *
  have hB : Below w.heap.size w ((w.alloc (.cells #[.int .i64 f0, .int .i64 f1, .int .u64 (f2 : Int), .int .u64 (f3 : Int), .int .u64 (f4 : Int), .int .u64 (f5 : Int), .slice sp n c] 32)).alloc (.cells #[.int .i64 g0, .int .i64 g1, .int .u64 (g2 : Int), .int .u64 (g3 : Int), .int .u64 (g4 : Int), .int .u64 (g5 : Int), .slice sq m d] 32)) := ((Below.refl _ _).alloc (Nat.le_refl _) _).alloc (by simp) _
  have hk2 := heap_alloc2_new w (.cells #[.int .i64 f0, .int .i64 f1, .int .u64 (f2 : Int), .int .u64 (f3 : Int), .int .u64 (f4 : Int), .int .u64 (f5 : Int), .slice sp n c] 32) (.cells #[.int .i64 g0, .int .i64 g1, .int .u64 (g2 : Int), .int .u64 (g3 : Int), .int .u64 (g4 : Int), .int .u64 (g5 : Int), .slice sq m d] 32)
  have hk1 : ((w.alloc (.cells #[.int .i64 f0, .int .i64 f1, .int .u64 (f2 : Int), .int .u64 (f3 : Int), .int .u64 (f4 : Int), .int .u64 (f5 : Int), .slice sp n c] 32)).alloc (.cells #[.int .i64 g0, .int .i64 g1, .int .u64 (g2 : Int), .int .u64 (g3 : Int), .int .u64 (g4 : Int), .int .u64 (g5 : Int), .slice sq m d] 32)).heap[w.heap.size]? = some (.cells #[.int .i64 f0, .int .i64 f1, .int .u64 (f2 : Int), .int .u64 (f3 : Int), .int .u64 (f4 : Int), .int .u64 (f5 : Int), .slice sp n c] 32 (0, 0)) := by
    rw [Below.heap_alloc _ _ _ (by simp)]; exact heap_alloc_new _ _
  obtain ⟨w2, hw2⟩ : ∃ w2, (w.alloc (.cells #[.int .i64 f0, .int .i64 f1, .int .u64 (f2 : Int), .int .u64 (f3 : Int), .int .u64 (f4 : Int), .int .u64 (f5 : Int), .slice sp n c] 32)).alloc (.cells #[.int .i64 g0, .int .i64 g1, .int .u64 (g2 : Int), .int .u64 (g3 : Int), .int .u64 (g4 : Int), .int .u64 (g5 : Int), .slice sq m d] 32) = w2 := ⟨_, rfl⟩
  rw [hw2] at hB hk1 hk2
  obtain ⟨c0, c1, c2, c3, c4, c5, c6, -⟩ := blk7 hk1
  obtain ⟨d0, d1, d2, d3, d4, d5, d6, -⟩ := blk7 hk2
  have HB := hide hB
  have HW := hide hw2
  clear hB hk1 hk2 hw2
  by_cases h0 : ¬ (f0 = g0)
  · have e0 : (f0 == g0) = false := by simp; omega
    go_enter Tryd.func10, Tryd.ntmps10
    go_upto_region 1 with (fail)
    rw [HW.out]
    go_wp2
    go_ret
    exact ⟨false, rfl, ⟨fun h => (by cases h), fun h => absurd (HI.out.1 h).1 h0⟩, HB.out⟩
  replace h0 := Decidable.not_not.1 h0
  have e0 : (f0 == g0) = true := by simp; omega
  have H0 := hide h0
  clear h0
  by_cases h1 : ¬ (f1 = g1)
  · have e1 : (f1 == g1) = false := by simp; omega
    go_enter Tryd.func10, Tryd.ntmps10
    go_upto_region 1 with (fail)
    rw [HW.out]
    go_wp2
    go_ret
    exact ⟨false, rfl, ⟨fun h => (by cases h), fun h => absurd (HI.out.1 h).2.1 h1⟩, HB.out⟩
  replace h1 := Decidable.not_not.1 h1
  have e1 : (f1 == g1) = true := by simp; omega
  have H1 := hide h1
  clear h1
  by_cases h2 : ¬ (f2 = g2)
  · have e2 : ((f2 : Int) == (g2 : Int)) = false := by simp; omega
    go_enter Tryd.func10, Tryd.ntmps10
    go_upto_region 1 with (fail)
    rw [HW.out]
    go_wp2
    go_ret
    exact ⟨false, rfl, ⟨fun h => (by cases h), fun h => absurd (HI.out.1 h).2.2.1 h2⟩, HB.out⟩
  replace h2 := Decidable.not_not.1 h2
  have e2 : ((f2 : Int) == (g2 : Int)) = true := by simp; omega
  have H2 := hide h2
  clear h2
  by_cases h3 : ¬ (f3 = g3)
  · have e3 : ((f3 : Int) == (g3 : Int)) = false := by simp; omega
    go_enter Tryd.func10, Tryd.ntmps10
    go_upto_region 1 with (fail)
    rw [HW.out]
    go_wp2
    go_ret
    exact ⟨false, rfl, ⟨fun h => (by cases h), fun h => absurd (HI.out.1 h).2.2.2.1 h3⟩, HB.out⟩
  replace h3 := Decidable.not_not.1 h3
  have e3 : ((f3 : Int) == (g3 : Int)) = true := by simp; omega
  have H3 := hide h3
  clear h3
  by_cases h4 : ¬ (f4 = g4)
  · have e4 : ((f4 : Int) == (g4 : Int)) = false := by simp; omega
    go_enter Tryd.func10, Tryd.ntmps10
    go_upto_region 1 with (fail)
    rw [HW.out]
    go_wp2
    go_ret
    exact ⟨false, rfl, ⟨fun h => (by cases h), fun h => absurd (HI.out.1 h).2.2.2.2.1 h4⟩, HB.out⟩
  replace h4 := Decidable.not_not.1 h4
  have e4 : ((f4 : Int) == (g4 : Int)) = true := by simp; omega
  have H4 := hide h4
  clear h4
  by_cases h5 : ¬ (f5 = g5)
  · have e5 : ((f5 : Int) == (g5 : Int)) = false := by simp; omega
    go_enter Tryd.func10, Tryd.ntmps10
    go_upto_region 1 with (fail)
    rw [HW.out]
    go_wp2
    go_ret
    exact ⟨false, rfl, ⟨fun h => (by cases h), fun h => absurd (HI.out.1 h).2.2.2.2.2.1 h5⟩, HB.out⟩
  replace h5 := Decidable.not_not.1 h5
  have e5 : ((f5 : Int) == (g5 : Int)) = true := by simp; omega
  have H5 := hide h5
  clear h5
  have HQ := hide (HV.out w2 (HBf.out.below HB.out) (HBg.out.below HB.out))
  go_enter Tryd.func10, Tryd.ntmps10
  go_upto_region 1 with (fail)
  rw [HW.out]
  go_wp2_with fail
  refine HQ.out.mono ?_
  rintro e w3 ⟨rfl, q, rfl⟩
  go_wp2
  go_ret
  refine ⟨decide (fb = gb), rfl, ?_, below_drewN HB.out q⟩
  rw [decide_eq_true_iff, HI.out]
  exact ⟨fun h => ⟨H0.out, H1.out, H2.out, H3.out, H4.out, H5.out, h⟩, fun h => h.2.2.2.2.2.2⟩
theorem tmod_into (n m : Int) (hm : 0 < m) : n % m = if n.tmod m < 0 then n.tmod m + m else n.tmod m := by
  have h1 := Int.tmod_lt_of_pos n hm
  have h2 : -m < n.tmod m := Int.lt_tmod_of_pos n hm
  have e : n % m = n.tmod m % m := by rw [Int.tmod_def, Int.sub_mul_emod_self_left]
  split
  · rw [e, ← Int.add_emod_right, Int.emod_eq_of_lt (by omega) (by omega)]
  · rw [e, Int.emod_eq_of_lt (by omega) (by omega)]
set_option maxRecDepth 100000 in
set_option maxHeartbeats 400000 in
/-- Within(n, m): n taken into 0 to m - 1. -/
theorem within_any (w : World) (n : Int) (m : Nat) (hm : 0 < m) (hb : m ≤ 1125899906842624) :
    Calls Tryd.prog 4 #[.int .i64 n, .int .i64 (m : Int)] w fun r w' => r = .returned (.int .i64 ((n % (m : Int)).toNat : Int)) ∧ w' = w := by
  have m0 : (0 : Int) < (m : Int) := by omega
  have h1 := Int.tmod_lt_of_pos n m0
  have h2 : -(m : Int) < n.tmod (m : Int) := Int.lt_tmod_of_pos n m0
  have h3 := tmod_into n (m : Int) m0
  have h4 := Int.emod_nonneg n (show (m : Int) ≠ 0 by omega)
  have h6 : (((n % (m : Int)).toNat : Nat) : Int) = n % (m : Int) := by omega
  have m1 : ((m : Int) == 0) = false := by simp; omega
  have m2 : (m : Int) ≠ 0 := by omega
  rw [h6]
  by_cases hlt : n.tmod (m : Int) < 0
  · rw [if_pos hlt] at h3
    generalize n % (m : Int) = r at *
    have H3 := hide h3
    clear h3 h6 h4
    go_enter Tryd.func4, Tryd.ntmps4
    go_wp2
    go_ret
    exact ⟨by rw [H3.out]; rfl, rfl⟩
  · rw [if_neg hlt] at h3
    generalize n % (m : Int) = r at *
    have H3 := hide h3
    clear h3 h6 h4
    go_enter Tryd.func4, Tryd.ntmps4
    go_wp2
    go_ret
    exact ⟨by rw [H3.out]; rfl, rfl⟩
end Go.Proofs.YtfjhbbekeibpkaaDoor
