import Derived.Test.YtfjhbbekeibpkaaDoorLkA
import Derived.Lib.MinMax
import Derived.Handy
import Derived.Deep.DeepCutAuto
import Derived.Deep.CutRange
namespace Go.Proofs.YtfjhbbekeibpkaaDoor
open Go.RowKit

/-- A frame as a value. -/
def frV (f : Fr) (sp : Option Addr) (c : Nat) : Value := .agg #[.int .i64 f.fr, .int .i64 f.tt, .int .u64 (f.mine : Int), .int .u64 (f.yours : Int), .int .u64 (f.seq : Int), .int .u64 (f.ack : Int), .slice sp f.body.length c]
def frC (f : Fr) (sp : Option Addr) (c : Nat) : Array Value := #[.int .i64 f.fr, .int .i64 f.tt, .int .u64 (f.mine : Int), .int .u64 (f.yours : Int), .int .u64 (f.seq : Int), .int .u64 (f.ack : Int), .slice sp f.body.length c]
theorem blk7 {w : World} {b : Nat} {x0 x1 x2 x3 x4 x5 x6 : Value} {t : TypeId} (h : w.heap[b]? = some (.cells #[x0, x1, x2, x3, x4, x5, x6] t (0, 0))) :
    w.cell? ⟨b, 0, none⟩ = some x0 ∧ w.cell? ⟨b, 1, none⟩ = some x1 ∧ w.cell? ⟨b, 2, none⟩ = some x2 ∧ w.cell? ⟨b, 3, none⟩ = some x3 ∧ w.cell? ⟨b, 4, none⟩ = some x4 ∧ w.cell? ⟨b, 5, none⟩ = some x5 ∧ w.cell? ⟨b, 6, none⟩ = some x6 ∧ (∀ o, w.frozen? ⟨b, o, none⟩ = false) := by
  simp only [World.cell?, World.frozen?, h]
  exact ⟨rfl, rfl, rfl, rfl, rfl, rfl, rfl, fun o => by simp⟩

set_option maxRecDepth 100000 in
theorem isNode_any (w : World) (n : Int) : Calls Tryd.prog 33 #[.int .i64 n] w fun e w' => e = .returned (.bool (decide (0 ≤ n ∧ n ≤ 8))) ∧ w' = w := by
  by_cases h0 : 0 ≤ n
  · by_cases h8 : n ≤ 8
    · rw [decide_eq_true (p := 0 ≤ n ∧ n ≤ 8) ⟨h0, h8⟩]
      go_enter Tryd.func33, Tryd.ntmps33
      go_wp2
      go_ret
      exact ⟨rfl, rfl⟩
    · rw [decide_eq_false (p := 0 ≤ n ∧ n ≤ 8) (by omega)]
      go_enter Tryd.func33, Tryd.ntmps33
      go_wp2
      go_ret
      exact ⟨rfl, rfl⟩
  · rw [decide_eq_false (p := 0 ≤ n ∧ n ≤ 8) (by omega)]
    go_enter Tryd.func33, Tryd.ntmps33
    go_wp2
    go_ret
    exact ⟨rfl, rfl⟩
theorem run_max4 {P : Program} (ts : Array TypeId) (t : TypeId) (a b c d : Int) (w : World) :
    (Builtin.max_ ts t #[.int .u64 a, .int .u64 b, .int .u64 c, .int .u64 d]).run P w = .ok (.int .u64 (max (max (max a b) c) d)) w := by
  have e : ∀ x y : Int, (if y > x then y else x) = max x y := fun x y => by rw [Int.max_def]; split <;> split <;> omega
  simp [Builtin.max_, Builtin.max2, e]
/-- What mayBe asks, one behind the other. -/
theorem fit_iff (f : Fr) : f.fit ↔ (0 ≤ f.fr ∧ f.fr ≤ 8) ∧ (0 ≤ f.tt ∧ f.tt ≤ 8) ∧ 1 ≤ f.mine ∧ max (max (max (f.mine : Int) (f.yours : Int)) (f.seq : Int)) (f.ack : Int) ≤ 1099511627776 ∧ f.body.length ≤ (if f.seq = 0 then 0 else 2048) := by
  unfold Fr.fit
  by_cases h : f.seq = 0
  · rw [if_pos h]; omega
  · rw [if_neg h]; omega
set_option maxRecDepth 100000 in
set_option maxHeartbeats 1000000 in
theorem mayBe_go (w : World) (fr tt : Int) (mine yours seq ack n c : Nat) (sp : Option Addr) (r : Bool) (m : Int) (most : Nat) (hm : max (max (max (mine : Int) (yours : Int)) (seq : Int)) (ack : Int) = m)
    (hmost : most = if seq = 0 then 0 else 2048)
    (hr : r = decide ((0 ≤ fr ∧ fr ≤ 8) ∧ (0 ≤ tt ∧ tt ≤ 8) ∧ 1 ≤ mine ∧ m ≤ 1099511627776 ∧ n ≤ most)) :
    Calls Tryd.prog 13 #[.agg #[.int .i64 fr, .int .i64 tt, .int .u64 (mine : Int), .int .u64 (yours : Int), .int .u64 (seq : Int), .int .u64 (ack : Int), .slice sp n c]] w fun e w' => e = .returned (.bool r) ∧ Below w.heap.size w w' := by
  have hmx := fun ts t w => @run_max4 Tryd.prog ts t (mine : Int) (yours : Int) (seq : Int) (ack : Int) w
  rw [hm] at hmx
  have HN := hide isNode_any
  have hB : Below w.heap.size w (w.alloc (.cells #[.int .i64 fr, .int .i64 tt, .int .u64 (mine : Int), .int .u64 (yours : Int), .int .u64 (seq : Int), .int .u64 (ack : Int), .slice sp n c] 32)) := (Below.refl _ _).alloc (Nat.le_refl _) _
  obtain ⟨c0, c1, c2, c3, c4, c5, c6, -⟩ := blk7 (heap_alloc_new w (.cells #[.int .i64 fr, .int .i64 tt, .int .u64 (mine : Int), .int .u64 (yours : Int), .int .u64 (seq : Int), .int .u64 (ack : Int), .slice sp n c] 32))
  obtain ⟨w1, hw1⟩ : ∃ w1, w.alloc (.cells #[.int .i64 fr, .int .i64 tt, .int .u64 (mine : Int), .int .u64 (yours : Int), .int .u64 (seq : Int), .int .u64 (ack : Int), .slice sp n c] 32) = w1 := ⟨_, rfl⟩
  rw [hw1] at hB c0 c1 c2 c3 c4 c5 c6
  have HB := hide hB
  have HW := hide hw1
  have HR := hide hr
  clear hB hw1 hr hm
  by_cases hs : seq = 0
  · rw [if_pos hs] at hmost
    subst hmost
    have hs' : ((seq : Int) == 0) = true := by simp [hs]
    clear hs
    by_cases h1 : ¬ ((0 ≤ fr ∧ fr ≤ 8))
    · replace HR : Hid (r = false) := by show r = false; rw [HR.out]; exact decide_eq_false (fun h => h1 (h.1))
      have HN1 := hide (isNode_any w1 fr)
      rw [decide_eq_false h1] at HN1
      go_enter Tryd.func13, Tryd.ntmps13
      go_upto_region 1 with (fail)
      rw [HW.out]
      go_wp2_with fail
      refine HN1.out.mono ?_
      rintro e w2 ⟨rfl, rfl⟩
      go_wp2
      go_ret
      exact ⟨by rw [HR.out]; first | rfl | (show Ending.returned (.bool (decide (n = 0))) = _; rw [decide_eq_true (by omega)]) | (show Ending.returned (.bool (decide (n = 0))) = _; rw [decide_eq_false (by omega)]) | (show Ending.returned (.bool (decide ((n : Int) ≤ 2048))) = _; rw [decide_eq_true (by omega)]) | (show Ending.returned (.bool (decide ((n : Int) ≤ 2048))) = _; rw [decide_eq_false (by omega)]), HB.out⟩
    replace h1 := Decidable.not_not.1 h1
    have HN1 := hide (isNode_any w1 fr)
    rw [decide_eq_true h1] at HN1
    by_cases h2 : ¬ ((0 ≤ tt ∧ tt ≤ 8))
    · replace HR : Hid (r = false) := by show r = false; rw [HR.out]; exact decide_eq_false (fun h => h2 (h.2.1))
      have HN2 := hide (isNode_any w1 tt)
      rw [decide_eq_false h2] at HN2
      go_enter Tryd.func13, Tryd.ntmps13
      go_upto_region 1 with (fail)
      rw [HW.out]
      go_wp2_with fail
      refine HN1.out.mono ?_
      rintro e w2 ⟨rfl, rfl⟩
      go_wp2_with fail
      refine HN2.out.mono ?_
      rintro e w3 ⟨rfl, rfl⟩
      go_wp2
      go_ret
      exact ⟨by rw [HR.out]; first | rfl | (show Ending.returned (.bool (decide (n = 0))) = _; rw [decide_eq_true (by omega)]) | (show Ending.returned (.bool (decide (n = 0))) = _; rw [decide_eq_false (by omega)]) | (show Ending.returned (.bool (decide ((n : Int) ≤ 2048))) = _; rw [decide_eq_true (by omega)]) | (show Ending.returned (.bool (decide ((n : Int) ≤ 2048))) = _; rw [decide_eq_false (by omega)]), HB.out⟩
    replace h2 := Decidable.not_not.1 h2
    have HN2 := hide (isNode_any w1 tt)
    rw [decide_eq_true h2] at HN2
    by_cases h3 : ¬ (1 ≤ mine)
    · replace HR : Hid (r = false) := by show r = false; rw [HR.out]; exact decide_eq_false (fun h => h3 (h.2.2.1))
      have h3' : ¬ (1 : Int) ≤ (mine : Int) := by omega
      go_enter Tryd.func13, Tryd.ntmps13
      go_upto_region 1 with (fail)
      rw [HW.out]
      go_wp2_with fail
      refine HN1.out.mono ?_
      rintro e w2 ⟨rfl, rfl⟩
      go_wp2_with fail
      refine HN2.out.mono ?_
      rintro e w3 ⟨rfl, rfl⟩
      go_wp2
      go_ret
      exact ⟨by rw [HR.out]; first | rfl | (show Ending.returned (.bool (decide (n = 0))) = _; rw [decide_eq_true (by omega)]) | (show Ending.returned (.bool (decide (n = 0))) = _; rw [decide_eq_false (by omega)]) | (show Ending.returned (.bool (decide ((n : Int) ≤ 2048))) = _; rw [decide_eq_true (by omega)]) | (show Ending.returned (.bool (decide ((n : Int) ≤ 2048))) = _; rw [decide_eq_false (by omega)]), HB.out⟩
    replace h3 := Decidable.not_not.1 h3
    have h3' : (1 : Int) ≤ (mine : Int) := by omega
    by_cases h4 : ¬ (m ≤ 1099511627776)
    · replace HR : Hid (r = false) := by show r = false; rw [HR.out]; exact decide_eq_false (fun h => h4 (h.2.2.2.1))
      go_enter Tryd.func13, Tryd.ntmps13
      go_upto_region 1 with (fail)
      rw [HW.out]
      go_wp2_with fail
      refine HN1.out.mono ?_
      rintro e w2 ⟨rfl, rfl⟩
      go_wp2_with fail
      refine HN2.out.mono ?_
      rintro e w3 ⟨rfl, rfl⟩
      go_wp2
      go_ret
      exact ⟨by rw [HR.out]; first | rfl | (show Ending.returned (.bool (decide (n = 0))) = _; rw [decide_eq_true (by omega)]) | (show Ending.returned (.bool (decide (n = 0))) = _; rw [decide_eq_false (by omega)]) | (show Ending.returned (.bool (decide ((n : Int) ≤ 2048))) = _; rw [decide_eq_true (by omega)]) | (show Ending.returned (.bool (decide ((n : Int) ≤ 2048))) = _; rw [decide_eq_false (by omega)]), HB.out⟩
    replace h4 := Decidable.not_not.1 h4
    by_cases h5 : n ≤ 0
    · replace HR : Hid (r = true) := by show r = true; rw [HR.out]; exact decide_eq_true ⟨h1, h2, h3, h4, h5⟩
      have h5' : (n : Int) ≤ 0 := by omega
      go_enter Tryd.func13, Tryd.ntmps13
      go_upto_region 1 with (fail)
      rw [HW.out]
      go_wp2_with fail
      refine HN1.out.mono ?_
      rintro e w2 ⟨rfl, rfl⟩
      go_wp2_with fail
      refine HN2.out.mono ?_
      rintro e w3 ⟨rfl, rfl⟩
      go_wp2
      go_ret
      exact ⟨by rw [HR.out]; first | rfl | (show Ending.returned (.bool (decide (n = 0))) = _; rw [decide_eq_true (by omega)]) | (show Ending.returned (.bool (decide (n = 0))) = _; rw [decide_eq_false (by omega)]) | (show Ending.returned (.bool (decide ((n : Int) ≤ 2048))) = _; rw [decide_eq_true (by omega)]) | (show Ending.returned (.bool (decide ((n : Int) ≤ 2048))) = _; rw [decide_eq_false (by omega)]), HB.out⟩
    · replace HR : Hid (r = false) := by show r = false; rw [HR.out]; exact decide_eq_false (fun h => h5 h.2.2.2.2)
      have h5' : ¬ (n : Int) ≤ 0 := by omega
      go_enter Tryd.func13, Tryd.ntmps13
      go_upto_region 1 with (fail)
      rw [HW.out]
      go_wp2_with fail
      refine HN1.out.mono ?_
      rintro e w2 ⟨rfl, rfl⟩
      go_wp2_with fail
      refine HN2.out.mono ?_
      rintro e w3 ⟨rfl, rfl⟩
      go_wp2
      go_ret
      exact ⟨by rw [HR.out]; first | rfl | (show Ending.returned (.bool (decide (n = 0))) = _; rw [decide_eq_true (by omega)]) | (show Ending.returned (.bool (decide (n = 0))) = _; rw [decide_eq_false (by omega)]) | (show Ending.returned (.bool (decide ((n : Int) ≤ 2048))) = _; rw [decide_eq_true (by omega)]) | (show Ending.returned (.bool (decide ((n : Int) ≤ 2048))) = _; rw [decide_eq_false (by omega)]), HB.out⟩
  · rw [if_neg hs] at hmost
    subst hmost
    have hs' : ((seq : Int) == 0) = false := by simp [hs]
    clear hs
    by_cases h1 : ¬ ((0 ≤ fr ∧ fr ≤ 8))
    · replace HR : Hid (r = false) := by show r = false; rw [HR.out]; exact decide_eq_false (fun h => h1 (h.1))
      have HN1 := hide (isNode_any w1 fr)
      rw [decide_eq_false h1] at HN1
      go_enter Tryd.func13, Tryd.ntmps13
      go_upto_region 1 with (fail)
      rw [HW.out]
      go_wp2_with fail
      refine HN1.out.mono ?_
      rintro e w2 ⟨rfl, rfl⟩
      go_wp2
      go_ret
      exact ⟨by rw [HR.out]; first | rfl | (show Ending.returned (.bool (decide (n = 0))) = _; rw [decide_eq_true (by omega)]) | (show Ending.returned (.bool (decide (n = 0))) = _; rw [decide_eq_false (by omega)]) | (show Ending.returned (.bool (decide ((n : Int) ≤ 2048))) = _; rw [decide_eq_true (by omega)]) | (show Ending.returned (.bool (decide ((n : Int) ≤ 2048))) = _; rw [decide_eq_false (by omega)]), HB.out⟩
    replace h1 := Decidable.not_not.1 h1
    have HN1 := hide (isNode_any w1 fr)
    rw [decide_eq_true h1] at HN1
    by_cases h2 : ¬ ((0 ≤ tt ∧ tt ≤ 8))
    · replace HR : Hid (r = false) := by show r = false; rw [HR.out]; exact decide_eq_false (fun h => h2 (h.2.1))
      have HN2 := hide (isNode_any w1 tt)
      rw [decide_eq_false h2] at HN2
      go_enter Tryd.func13, Tryd.ntmps13
      go_upto_region 1 with (fail)
      rw [HW.out]
      go_wp2_with fail
      refine HN1.out.mono ?_
      rintro e w2 ⟨rfl, rfl⟩
      go_wp2_with fail
      refine HN2.out.mono ?_
      rintro e w3 ⟨rfl, rfl⟩
      go_wp2
      go_ret
      exact ⟨by rw [HR.out]; first | rfl | (show Ending.returned (.bool (decide (n = 0))) = _; rw [decide_eq_true (by omega)]) | (show Ending.returned (.bool (decide (n = 0))) = _; rw [decide_eq_false (by omega)]) | (show Ending.returned (.bool (decide ((n : Int) ≤ 2048))) = _; rw [decide_eq_true (by omega)]) | (show Ending.returned (.bool (decide ((n : Int) ≤ 2048))) = _; rw [decide_eq_false (by omega)]), HB.out⟩
    replace h2 := Decidable.not_not.1 h2
    have HN2 := hide (isNode_any w1 tt)
    rw [decide_eq_true h2] at HN2
    by_cases h3 : ¬ (1 ≤ mine)
    · replace HR : Hid (r = false) := by show r = false; rw [HR.out]; exact decide_eq_false (fun h => h3 (h.2.2.1))
      have h3' : ¬ (1 : Int) ≤ (mine : Int) := by omega
      go_enter Tryd.func13, Tryd.ntmps13
      go_upto_region 1 with (fail)
      rw [HW.out]
      go_wp2_with fail
      refine HN1.out.mono ?_
      rintro e w2 ⟨rfl, rfl⟩
      go_wp2_with fail
      refine HN2.out.mono ?_
      rintro e w3 ⟨rfl, rfl⟩
      go_wp2
      go_ret
      exact ⟨by rw [HR.out]; first | rfl | (show Ending.returned (.bool (decide (n = 0))) = _; rw [decide_eq_true (by omega)]) | (show Ending.returned (.bool (decide (n = 0))) = _; rw [decide_eq_false (by omega)]) | (show Ending.returned (.bool (decide ((n : Int) ≤ 2048))) = _; rw [decide_eq_true (by omega)]) | (show Ending.returned (.bool (decide ((n : Int) ≤ 2048))) = _; rw [decide_eq_false (by omega)]), HB.out⟩
    replace h3 := Decidable.not_not.1 h3
    have h3' : (1 : Int) ≤ (mine : Int) := by omega
    by_cases h4 : ¬ (m ≤ 1099511627776)
    · replace HR : Hid (r = false) := by show r = false; rw [HR.out]; exact decide_eq_false (fun h => h4 (h.2.2.2.1))
      go_enter Tryd.func13, Tryd.ntmps13
      go_upto_region 1 with (fail)
      rw [HW.out]
      go_wp2_with fail
      refine HN1.out.mono ?_
      rintro e w2 ⟨rfl, rfl⟩
      go_wp2_with fail
      refine HN2.out.mono ?_
      rintro e w3 ⟨rfl, rfl⟩
      go_wp2
      go_ret
      exact ⟨by rw [HR.out]; first | rfl | (show Ending.returned (.bool (decide (n = 0))) = _; rw [decide_eq_true (by omega)]) | (show Ending.returned (.bool (decide (n = 0))) = _; rw [decide_eq_false (by omega)]) | (show Ending.returned (.bool (decide ((n : Int) ≤ 2048))) = _; rw [decide_eq_true (by omega)]) | (show Ending.returned (.bool (decide ((n : Int) ≤ 2048))) = _; rw [decide_eq_false (by omega)]), HB.out⟩
    replace h4 := Decidable.not_not.1 h4
    by_cases h5 : n ≤ 2048
    · replace HR : Hid (r = true) := by show r = true; rw [HR.out]; exact decide_eq_true ⟨h1, h2, h3, h4, h5⟩
      have h5' : (n : Int) ≤ 2048 := by omega
      go_enter Tryd.func13, Tryd.ntmps13
      go_upto_region 1 with (fail)
      rw [HW.out]
      go_wp2_with fail
      refine HN1.out.mono ?_
      rintro e w2 ⟨rfl, rfl⟩
      go_wp2_with fail
      refine HN2.out.mono ?_
      rintro e w3 ⟨rfl, rfl⟩
      go_wp2
      go_ret
      exact ⟨by rw [HR.out]; first | rfl | (show Ending.returned (.bool (decide (n = 0))) = _; rw [decide_eq_true (by omega)]) | (show Ending.returned (.bool (decide (n = 0))) = _; rw [decide_eq_false (by omega)]) | (show Ending.returned (.bool (decide ((n : Int) ≤ 2048))) = _; rw [decide_eq_true (by omega)]) | (show Ending.returned (.bool (decide ((n : Int) ≤ 2048))) = _; rw [decide_eq_false (by omega)]), HB.out⟩
    · replace HR : Hid (r = false) := by show r = false; rw [HR.out]; exact decide_eq_false (fun h => h5 h.2.2.2.2)
      have h5' : ¬ (n : Int) ≤ 2048 := by omega
      go_enter Tryd.func13, Tryd.ntmps13
      go_upto_region 1 with (fail)
      rw [HW.out]
      go_wp2_with fail
      refine HN1.out.mono ?_
      rintro e w2 ⟨rfl, rfl⟩
      go_wp2_with fail
      refine HN2.out.mono ?_
      rintro e w3 ⟨rfl, rfl⟩
      go_wp2
      go_ret
      exact ⟨by rw [HR.out]; first | rfl | (show Ending.returned (.bool (decide (n = 0))) = _; rw [decide_eq_true (by omega)]) | (show Ending.returned (.bool (decide (n = 0))) = _; rw [decide_eq_false (by omega)]) | (show Ending.returned (.bool (decide ((n : Int) ≤ 2048))) = _; rw [decide_eq_true (by omega)]) | (show Ending.returned (.bool (decide ((n : Int) ≤ 2048))) = _; rw [decide_eq_false (by omega)]), HB.out⟩
theorem mayBe_any (w : World) (f : Fr) (sp : Option Addr) (c : Nat) : Calls Tryd.prog 13 #[frV f sp c] w fun e w' => e = .returned (.bool (decide f.fit)) ∧ Below w.heap.size w w' :=
  mayBe_go w f.fr f.tt f.mine f.yours f.seq f.ack f.body.length c sp (decide f.fit) _ _ rfl rfl (decide_eq_decide.2 (fit_iff f))
end Go.Proofs.YtfjhbbekeibpkaaDoor
