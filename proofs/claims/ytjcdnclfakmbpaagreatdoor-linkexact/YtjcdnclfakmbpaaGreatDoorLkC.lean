import Derived.Lib.MinMax
import Derived.Handy
import Derived.Deep.DeepCutAuto
import Derived.Deep.CutRange
import Derived.Test.YtjcdnclfakmbpaaGreatDoorLkA
namespace Go.Proofs.YtjcdnclfakmbpaaGreatDoor
open Go.RowKit
def frV (f : Fr) (sp : Option Addr) (c : Nat) : Value := .agg #[.int .i64 f.fr, .int .i64 f.tt, .int .u64 (f.mine : Int), .int .u64 (f.yours : Int), .int .u64 (f.seq : Int), .int .u64 (f.ack : Int), .slice sp f.body.length c]
def frC (f : Fr) (sp : Option Addr) (c : Nat) : Array Value := #[.int .i64 f.fr, .int .i64 f.tt, .int .u64 (f.mine : Int), .int .u64 (f.yours : Int), .int .u64 (f.seq : Int), .int .u64 (f.ack : Int), .slice sp f.body.length c]
theorem blk7 {w : World} {b : Nat} {x0 x1 x2 x3 x4 x5 x6 : Value} {t : TypeId} (h : w.heap[b]? = some (.cells #[x0, x1, x2, x3, x4, x5, x6] t (0, 0))) :
    w.cell? ⟨b, 0, none⟩ = some x0 ∧ w.cell? ⟨b, 1, none⟩ = some x1 ∧ w.cell? ⟨b, 2, none⟩ = some x2 ∧ w.cell? ⟨b, 3, none⟩ = some x3 ∧ w.cell? ⟨b, 4, none⟩ = some x4 ∧ w.cell? ⟨b, 5, none⟩ = some x5 ∧ w.cell? ⟨b, 6, none⟩ = some x6 ∧ (∀ o, w.frozen? ⟨b, o, none⟩ = false) := by
  simp only [World.cell?, World.frozen?, h]
  exact ⟨rfl, rfl, rfl, rfl, rfl, rfl, rfl, fun o => by simp⟩
set_option maxRecDepth 100000 in
theorem isNode_any (w : World) (n : Int) : Calls Tryz.prog 95 #[.int .i64 n] w fun e w' => e = .returned (.bool (decide (0 ≤ n ∧ n ≤ 8))) ∧ w' = w := by
  by_cases h0 : 0 ≤ n
  · by_cases h8 : n ≤ 8
    · rw [decide_eq_true (p := 0 ≤ n ∧ n ≤ 8) ⟨h0, h8⟩]
      go_enter Tryz.func95, Tryz.ntmps95
      go_wp2
      go_ret
      exact ⟨rfl, rfl⟩
    · rw [decide_eq_false (p := 0 ≤ n ∧ n ≤ 8) (by omega)]
      go_enter Tryz.func95, Tryz.ntmps95
      go_wp2
      go_ret
      exact ⟨rfl, rfl⟩
  · rw [decide_eq_false (p := 0 ≤ n ∧ n ≤ 8) (by omega)]
    go_enter Tryz.func95, Tryz.ntmps95
    go_wp2
    go_ret
    exact ⟨rfl, rfl⟩
theorem run_max4 {P : Program} (ts : Array TypeId) (t : TypeId) (a b c d : Int) (w : World) :
    (Builtin.max_ ts t #[.int .u64 a, .int .u64 b, .int .u64 c, .int .u64 d]).run P w = .ok (.int .u64 (max (max (max a b) c) d)) w := by
  have e : ∀ x y : Int, (if y > x then y else x) = max x y := fun x y => by rw [Int.max_def]; split <;> split <;> omega
  simp [Builtin.max_, Builtin.max2, e]
theorem fit_iff (f : Fr) : f.fit ↔ (0 ≤ f.fr ∧ f.fr ≤ 8) ∧ (0 ≤ f.tt ∧ f.tt ≤ 8) ∧ 1 ≤ f.mine ∧ max (max (max (f.mine : Int) (f.yours : Int)) (f.seq : Int)) (f.ack : Int) ≤ 1099511627776 ∧ f.body.length ≤ (if f.seq = 0 then 0 else 2048) := by
  unfold Fr.fit
  by_cases h : f.seq = 0
  · rw [if_pos h]; omega
  · rw [if_neg h]; omega
set_option maxRecDepth 100000 in
set_option maxHeartbeats 1000000 in
theorem mayBe_go (w : World) (fr tt : Int) (mine yours seq ack n c : Nat) (sp : Option Addr) (r : Bool) (m : Int) (most : Nat) (hm : max (max (max (mine : Int) (yours : Int)) (seq : Int)) (ack : Int) = m)
    (hmost : most = if seq = 0 then 0 else 2048)
    (hr : r = decide ((0 ≤ fr ∧ fr ≤ 8) ∧ (0 ≤ tt ∧ tt ≤ 8) ∧ 1 ≤ mine ∧ m ≤ 1099511627776 ∧ n ≤ most)) :
    Calls Tryz.prog 48 #[.agg #[.int .i64 fr, .int .i64 tt, .int .u64 (mine : Int), .int .u64 (yours : Int), .int .u64 (seq : Int), .int .u64 (ack : Int), .slice sp n c]] w fun e w' => e = .returned (.bool r) ∧ Below w.heap.size w w' := by
  have hmx := fun ts t w => @run_max4 Tryz.prog ts t (mine : Int) (yours : Int) (seq : Int) (ack : Int) w
  rw [hm] at hmx
  have HN := hide isNode_any
  have hB : Below w.heap.size w (w.alloc (.cells #[.int .i64 fr, .int .i64 tt, .int .u64 (mine : Int), .int .u64 (yours : Int), .int .u64 (seq : Int), .int .u64 (ack : Int), .slice sp n c] 33)) := (Below.refl _ _).alloc (Nat.le_refl _) _
  obtain ⟨c0, c1, c2, c3, c4, c5, c6, -⟩ := blk7 (heap_alloc_new w (.cells #[.int .i64 fr, .int .i64 tt, .int .u64 (mine : Int), .int .u64 (yours : Int), .int .u64 (seq : Int), .int .u64 (ack : Int), .slice sp n c] 33))
  obtain ⟨w1, hw1⟩ : ∃ w1, w.alloc (.cells #[.int .i64 fr, .int .i64 tt, .int .u64 (mine : Int), .int .u64 (yours : Int), .int .u64 (seq : Int), .int .u64 (ack : Int), .slice sp n c] 33) = w1 := ⟨_, rfl⟩
  rw [hw1] at hB c0 c1 c2 c3 c4 c5 c6
  have HB := hide hB
  have HW := hide hw1
  have HR := hide hr
  clear hB hw1 hr hm
  by_cases hs : seq = 0
  · rw [if_pos hs] at hmost
    subst hmost
    have hs' : ((seq : Int) == 0) = true := by simp [hs]
    clear hs
    by_cases h1 : ¬ ((0 ≤ fr ∧ fr ≤ 8))
    · replace HR : Hid (r = false) := by show r = false; rw [HR.out]; exact decide_eq_false (fun h => h1 (h.1))
      have HN1 := hide (isNode_any w1 fr)
      rw [decide_eq_false h1] at HN1
      go_enter Tryz.func48, Tryz.ntmps48
      go_upto_region 1 with (fail)
      rw [HW.out]
      go_wp2_with fail
      refine HN1.out.mono ?_
      rintro e w2 ⟨rfl, rfl⟩
      go_wp2
      go_ret
      exact ⟨by rw [HR.out]; first | rfl | (show Ending.returned (.bool (decide (n = 0))) = _; rw [decide_eq_true (by omega)]) | (show Ending.returned (.bool (decide (n = 0))) = _; rw [decide_eq_false (by omega)]) | (show Ending.returned (.bool (decide ((n : Int) ≤ 2048))) = _; rw [decide_eq_true (by omega)]) | (show Ending.returned (.bool (decide ((n : Int) ≤ 2048))) = _; rw [decide_eq_false (by omega)]), HB.out⟩
    replace h1 := Decidable.not_not.1 h1
    have HN1 := hide (isNode_any w1 fr)
    rw [decide_eq_true h1] at HN1
    by_cases h2 : ¬ ((0 ≤ tt ∧ tt ≤ 8))
    · replace HR : Hid (r = false) := by show r = false; rw [HR.out]; exact decide_eq_false (fun h => h2 (h.2.1))
      have HN2 := hide (isNode_any w1 tt)
      rw [decide_eq_false h2] at HN2
      go_enter Tryz.func48, Tryz.ntmps48
      go_upto_region 1 with (fail)
      rw [HW.out]
      go_wp2_with fail
      refine HN1.out.mono ?_
      rintro e w2 ⟨rfl, rfl⟩
      go_wp2_with fail
      refine HN2.out.mono ?_
      rintro e w3 ⟨rfl, rfl⟩
      go_wp2
      go_ret
      exact ⟨by rw [HR.out]; first | rfl | (show Ending.returned (.bool (decide (n = 0))) = _; rw [decide_eq_true (by omega)]) | (show Ending.returned (.bool (decide (n = 0))) = _; rw [decide_eq_false (by omega)]) | (show Ending.returned (.bool (decide ((n : Int) ≤ 2048))) = _; rw [decide_eq_true (by omega)]) | (show Ending.returned (.bool (decide ((n : Int) ≤ 2048))) = _; rw [decide_eq_false (by omega)]), HB.out⟩
    replace h2 := Decidable.not_not.1 h2
    have HN2 := hide (isNode_any w1 tt)
    rw [decide_eq_true h2] at HN2
    by_cases h3 : ¬ (1 ≤ mine)
    · replace HR : Hid (r = false) := by show r = false; rw [HR.out]; exact decide_eq_false (fun h => h3 (h.2.2.1))
      have h3' : ¬ (1 : Int) ≤ (mine : Int) := by omega
      go_enter Tryz.func48, Tryz.ntmps48
      go_upto_region 1 with (fail)
      rw [HW.out]
      go_wp2_with fail
      refine HN1.out.mono ?_
      rintro e w2 ⟨rfl, rfl⟩
      go_wp2_with fail
      refine HN2.out.mono ?_
      rintro e w3 ⟨rfl, rfl⟩
      go_wp2
      go_ret
      exact ⟨by rw [HR.out]; first | rfl | (show Ending.returned (.bool (decide (n = 0))) = _; rw [decide_eq_true (by omega)]) | (show Ending.returned (.bool (decide (n = 0))) = _; rw [decide_eq_false (by omega)]) | (show Ending.returned (.bool (decide ((n : Int) ≤ 2048))) = _; rw [decide_eq_true (by omega)]) | (show Ending.returned (.bool (decide ((n : Int) ≤ 2048))) = _; rw [decide_eq_false (by omega)]), HB.out⟩
    replace h3 := Decidable.not_not.1 h3
    have h3' : (1 : Int) ≤ (mine : Int) := by omega
    by_cases h4 : ¬ (m ≤ 1099511627776)
    · replace HR : Hid (r = false) := by show r = false; rw [HR.out]; exact decide_eq_false (fun h => h4 (h.2.2.2.1))
      go_enter Tryz.func48, Tryz.ntmps48
      go_upto_region 1 with (fail)
      rw [HW.out]
      go_wp2_with fail
      refine HN1.out.mono ?_
      rintro e w2 ⟨rfl, rfl⟩
      go_wp2_with fail
      refine HN2.out.mono ?_
      rintro e w3 ⟨rfl, rfl⟩
      go_wp2
      go_ret
      exact ⟨by rw [HR.out]; first | rfl | (show Ending.returned (.bool (decide (n = 0))) = _; rw [decide_eq_true (by omega)]) | (show Ending.returned (.bool (decide (n = 0))) = _; rw [decide_eq_false (by omega)]) | (show Ending.returned (.bool (decide ((n : Int) ≤ 2048))) = _; rw [decide_eq_true (by omega)]) | (show Ending.returned (.bool (decide ((n : Int) ≤ 2048))) = _; rw [decide_eq_false (by omega)]), HB.out⟩
    replace h4 := Decidable.not_not.1 h4
    by_cases h5 : n ≤ 0
    · replace HR : Hid (r = true) := by show r = true; rw [HR.out]; exact decide_eq_true ⟨h1, h2, h3, h4, h5⟩
      have h5' : (n : Int) ≤ 0 := by omega
      go_enter Tryz.func48, Tryz.ntmps48
      go_upto_region 1 with (fail)
      rw [HW.out]
      go_wp2_with fail
      refine HN1.out.mono ?_
      rintro e w2 ⟨rfl, rfl⟩
      go_wp2_with fail
      refine HN2.out.mono ?_
      rintro e w3 ⟨rfl, rfl⟩
      go_wp2
      go_ret
      exact ⟨by rw [HR.out]; first | rfl | (show Ending.returned (.bool (decide (n = 0))) = _; rw [decide_eq_true (by omega)]) | (show Ending.returned (.bool (decide (n = 0))) = _; rw [decide_eq_false (by omega)]) | (show Ending.returned (.bool (decide ((n : Int) ≤ 2048))) = _; rw [decide_eq_true (by omega)]) | (show Ending.returned (.bool (decide ((n : Int) ≤ 2048))) = _; rw [decide_eq_false (by omega)]), HB.out⟩
    · replace HR : Hid (r = false) := by show r = false; rw [HR.out]; exact decide_eq_false (fun h => h5 h.2.2.2.2)
      have h5' : ¬ (n : Int) ≤ 0 := by omega
      go_enter Tryz.func48, Tryz.ntmps48
      go_upto_region 1 with (fail)
      rw [HW.out]
      go_wp2_with fail
      refine HN1.out.mono ?_
      rintro e w2 ⟨rfl, rfl⟩
      go_wp2_with fail
      refine HN2.out.mono ?_
      rintro e w3 ⟨rfl, rfl⟩
      go_wp2
      go_ret
      exact ⟨by rw [HR.out]; first | rfl | (show Ending.returned (.bool (decide (n = 0))) = _; rw [decide_eq_true (by omega)]) | (show Ending.returned (.bool (decide (n = 0))) = _; rw [decide_eq_false (by omega)]) | (show Ending.returned (.bool (decide ((n : Int) ≤ 2048))) = _; rw [decide_eq_true (by omega)]) | (show Ending.returned (.bool (decide ((n : Int) ≤ 2048))) = _; rw [decide_eq_false (by omega)]), HB.out⟩
  · rw [if_neg hs] at hmost
    subst hmost
    have hs' : ((seq : Int) == 0) = false := by simp [hs]
    clear hs
    by_cases h1 : ¬ ((0 ≤ fr ∧ fr ≤ 8))
    · replace HR : Hid (r = false) := by show r = false; rw [HR.out]; exact decide_eq_false (fun h => h1 (h.1))
      have HN1 := hide (isNode_any w1 fr)
      rw [decide_eq_false h1] at HN1
      go_enter Tryz.func48, Tryz.ntmps48
      go_upto_region 1 with (fail)
      rw [HW.out]
      go_wp2_with fail
      refine HN1.out.mono ?_
      rintro e w2 ⟨rfl, rfl⟩
      go_wp2
      go_ret
      exact ⟨by rw [HR.out]; first | rfl | (show Ending.returned (.bool (decide (n = 0))) = _; rw [decide_eq_true (by omega)]) | (show Ending.returned (.bool (decide (n = 0))) = _; rw [decide_eq_false (by omega)]) | (show Ending.returned (.bool (decide ((n : Int) ≤ 2048))) = _; rw [decide_eq_true (by omega)]) | (show Ending.returned (.bool (decide ((n : Int) ≤ 2048))) = _; rw [decide_eq_false (by omega)]), HB.out⟩
    replace h1 := Decidable.not_not.1 h1
    have HN1 := hide (isNode_any w1 fr)
    rw [decide_eq_true h1] at HN1
    by_cases h2 : ¬ ((0 ≤ tt ∧ tt ≤ 8))
    · replace HR : Hid (r = false) := by show r = false; rw [HR.out]; exact decide_eq_false (fun h => h2 (h.2.1))
      have HN2 := hide (isNode_any w1 tt)
      rw [decide_eq_false h2] at HN2
      go_enter Tryz.func48, Tryz.ntmps48
      go_upto_region 1 with (fail)
      rw [HW.out]
      go_wp2_with fail
      refine HN1.out.mono ?_
      rintro e w2 ⟨rfl, rfl⟩
      go_wp2_with fail
      refine HN2.out.mono ?_
      rintro e w3 ⟨rfl, rfl⟩
      go_wp2
      go_ret
      exact ⟨by rw [HR.out]; first | rfl | (show Ending.returned (.bool (decide (n = 0))) = _; rw [decide_eq_true (by omega)]) | (show Ending.returned (.bool (decide (n = 0))) = _; rw [decide_eq_false (by omega)]) | (show Ending.returned (.bool (decide ((n : Int) ≤ 2048))) = _; rw [decide_eq_true (by omega)]) | (show Ending.returned (.bool (decide ((n : Int) ≤ 2048))) = _; rw [decide_eq_false (by omega)]), HB.out⟩
    replace h2 := Decidable.not_not.1 h2
    have HN2 := hide (isNode_any w1 tt)
    rw [decide_eq_true h2] at HN2
    by_cases h3 : ¬ (1 ≤ mine)
    · replace HR : Hid (r = false) := by show r = false; rw [HR.out]; exact decide_eq_false (fun h => h3 (h.2.2.1))
      have h3' : ¬ (1 : Int) ≤ (mine : Int) := by omega
      go_enter Tryz.func48, Tryz.ntmps48
      go_upto_region 1 with (fail)
      rw [HW.out]
      go_wp2_with fail
      refine HN1.out.mono ?_
      rintro e w2 ⟨rfl, rfl⟩
      go_wp2_with fail
      refine HN2.out.mono ?_
      rintro e w3 ⟨rfl, rfl⟩
      go_wp2
      go_ret
      exact ⟨by rw [HR.out]; first | rfl | (show Ending.returned (.bool (decide (n = 0))) = _; rw [decide_eq_true (by omega)]) | (show Ending.returned (.bool (decide (n = 0))) = _; rw [decide_eq_false (by omega)]) | (show Ending.returned (.bool (decide ((n : Int) ≤ 2048))) = _; rw [decide_eq_true (by omega)]) | (show Ending.returned (.bool (decide ((n : Int) ≤ 2048))) = _; rw [decide_eq_false (by omega)]), HB.out⟩
    replace h3 := Decidable.not_not.1 h3
    have h3' : (1 : Int) ≤ (mine : Int) := by omega
    by_cases h4 : ¬ (m ≤ 1099511627776)
    · replace HR : Hid (r = false) := by show r = false; rw [HR.out]; exact decide_eq_false (fun h => h4 (h.2.2.2.1))
      go_enter Tryz.func48, Tryz.ntmps48
      go_upto_region 1 with (fail)
      rw [HW.out]
      go_wp2_with fail
      refine HN1.out.mono ?_
      rintro e w2 ⟨rfl, rfl⟩
      go_wp2_with fail
      refine HN2.out.mono ?_
      rintro e w3 ⟨rfl, rfl⟩
      go_wp2
      go_ret
      exact ⟨by rw [HR.out]; first | rfl | (show Ending.returned (.bool (decide (n = 0))) = _; rw [decide_eq_true (by omega)]) | (show Ending.returned (.bool (decide (n = 0))) = _; rw [decide_eq_false (by omega)]) | (show Ending.returned (.bool (decide ((n : Int) ≤ 2048))) = _; rw [decide_eq_true (by omega)]) | (show Ending.returned (.bool (decide ((n : Int) ≤ 2048))) = _; rw [decide_eq_false (by omega)]), HB.out⟩
    replace h4 := Decidable.not_not.1 h4
    by_cases h5 : n ≤ 2048
    · replace HR : Hid (r = true) := by show r = true; rw [HR.out]; exact decide_eq_true ⟨h1, h2, h3, h4, h5⟩
      have h5' : (n : Int) ≤ 2048 := by omega
      go_enter Tryz.func48, Tryz.ntmps48
      go_upto_region 1 with (fail)
      rw [HW.out]
      go_wp2_with fail
      refine HN1.out.mono ?_
      rintro e w2 ⟨rfl, rfl⟩
      go_wp2_with fail
      refine HN2.out.mono ?_
      rintro e w3 ⟨rfl, rfl⟩
      go_wp2
      go_ret
      exact ⟨by rw [HR.out]; first | rfl | (show Ending.returned (.bool (decide (n = 0))) = _; rw [decide_eq_true (by omega)]) | (show Ending.returned (.bool (decide (n = 0))) = _; rw [decide_eq_false (by omega)]) | (show Ending.returned (.bool (decide ((n : Int) ≤ 2048))) = _; rw [decide_eq_true (by omega)]) | (show Ending.returned (.bool (decide ((n : Int) ≤ 2048))) = _; rw [decide_eq_false (by omega)]), HB.out⟩
    · replace HR : Hid (r = false) := by show r = false; rw [HR.out]; exact decide_eq_false (fun h => h5 h.2.2.2.2)
      have h5' : ¬ (n : Int) ≤ 2048 := by omega
      go_enter Tryz.func48, Tryz.ntmps48
      go_upto_region 1 with (fail)
      rw [HW.out]
      go_wp2_with fail
      refine HN1.out.mono ?_
      rintro e w2 ⟨rfl, rfl⟩
      go_wp2_with fail
      refine HN2.out.mono ?_
      rintro e w3 ⟨rfl, rfl⟩
      go_wp2
      go_ret
      exact ⟨by rw [HR.out]; first | rfl | (show Ending.returned (.bool (decide (n = 0))) = _; rw [decide_eq_true (by omega)]) | (show Ending.returned (.bool (decide (n = 0))) = _; rw [decide_eq_false (by omega)]) | (show Ending.returned (.bool (decide ((n : Int) ≤ 2048))) = _; rw [decide_eq_true (by omega)]) | (show Ending.returned (.bool (decide ((n : Int) ≤ 2048))) = _; rw [decide_eq_false (by omega)]), HB.out⟩
theorem mayBe_any (w : World) (f : Fr) (sp : Option Addr) (c : Nat) : Calls Tryz.prog 48 #[frV f sp c] w fun e w' => e = .returned (.bool (decide f.fit)) ∧ Below w.heap.size w w' :=
  mayBe_go w f.fr f.tt f.mine f.yours f.seq f.ack f.body.length c sp (decide f.fit) _ _ rfl rfl (decide_eq_decide.2 (fit_iff f))
end Go.Proofs.YtjcdnclfakmbpaaGreatDoor
namespace Go.Proofs.YtjcdnclfakmbpaaGreatDoor
open Go.RowKit
structure Wl (B : Nat) (w0 w : World) (b : Nat) (v : Value) (ws : List Nat) : Prop where
  wr : C.Wr w b v ws
  lo : B ≤ b
  row : ∀ g, v.ownBlock = some g → B ≤ g
  bel : Below B w0 w
theorem Wl.size {B : Nat} {w0 w : World} {b : Nat} {v : Value} {ws : List Nat} (h : Wl B w0 w b v ws) : B ≤ w.heap.size := Nat.le_of_lt (Nat.lt_of_le_of_lt h.lo h.wr.lt)
theorem Wl.laid {B : Nat} {w0 w w' : World} {b : Nat} {v : Value} {ws new : List Nat} (h : Wl B w0 w b v ws) (hl : C.Laid w w' b v ws new) : ∃ v', Wl B w0 w' b v' (ws ++ new) := by
  obtain ⟨v', h1, h2, h3⟩ := hl
  refine ⟨v', h1, h.lo, fun g e => ?_, h3.below h.bel h.lo h.size h.row⟩
  rcases h2 with e2 | ⟨g2, e2, h4⟩
  · exact h.row g (by rw [← e2]; exact e)
  · rw [e2] at e; cases e; exact Nat.le_trans h.size h4
theorem Wl.below {B : Nat} {w0 w w' : World} {b : Nat} {v : Value} {ws : List Nat} (h : Wl B w0 w b v ws) (hb : Below w.heap.size w w') : Wl B w0 w' b v ws :=
  ⟨h.wr.below hb, h.lo, h.row, h.bel.trans (hb.mono h.size)⟩
theorem wl_new (w : World) : Wl w.heap.size w (w.alloc (.cells #[.slice none 0 0] 228)) w.heap.size (.slice none 0 0) [] :=
  ⟨C.new_wr w, Nat.le_refl _, fun g e => by simp [Value.ownBlock] at e, (Below.refl _ _).alloc (Nat.le_refl _) _⟩
theorem made_by (w : World) (xs : List Nat) (hs : ∀ x ∈ xs, x < 256) : C.Bytes (w.alloc (.cells (C.vals xs).toArray 5)) (some ⟨w.heap.size, 0, none⟩) xs := by
  have key : ∀ (w3 : World) (g j : Nat), j < xs.length → w3.heap[g]? = some (.cells (C.vals xs).toArray 5 (0, 0)) → w3.cell? ⟨g, 0 + j, none⟩ = some (.int .u8 ((xs.getD j 0 : Nat) : Int)) := fun w3 g j hj hb => by
    simp only [World.cell?, hb]
    simp [C.vals, List.getD, hj]
  exact ⟨hs, Or.inr ⟨w.heap.size, 0, rfl, by simp, fun j hj => key _ _ j hj (heap_alloc_new _ _)⟩⟩
set_option maxRecDepth 100000 in
set_option maxHeartbeats 2000000 in
theorem enc_no (w : World) (f : Fr) (sp : Option Addr) (c : Nat) (hn : ¬ f.fit) :
    Calls Tryz.prog 91 #[frV f sp c] w fun e w' => e = .returned (.slice none 0 0) ∧ Below w.heap.size w w' := by
  have HM := hide (fun w => mayBe_any w f sp c)
  rw [decide_eq_false hn] at HM
  simp only [frV] at HM ⊢
  generalize f.body.length = n at *
  go_enter Tryz.func91, Tryz.ntmps91
  go_wp2_with fail
  refine (HM.out _).mono ?_
  rintro e w1 ⟨rfl, hb1⟩
  have HB : Hid (Below w.heap.size w w1) := ((Below.refl _ _).alloc (Nat.le_refl _) _).trans (hb1.mono (by simp))
  clear hb1
  go_wp2
  go_ret
  exact ⟨rfl, HB.out⟩
set_option maxRecDepth 100000 in
set_option maxHeartbeats 4000000 in
theorem enc_go (w : World) (a b mine yours seq ack n c : Nat) (sp : Option Addr) (body : List Nat) (hn : body.length = n) (hx : Bytes w sp body) (hT : C.Tab w) (hf : (⟨(a : Int), (b : Int), mine, yours, seq, ack, body⟩ : Fr).fit) :
    Calls Tryz.prog 91 #[.agg #[.int .i64 (a : Int), .int .i64 (b : Int), .int .u64 (mine : Int), .int .u64 (yours : Int), .int .u64 (seq : Int), .int .u64 (ack : Int), .slice sp n c]] w fun e w' =>
      ∃ g m, m = (⟨(a : Int), (b : Int), mine, yours, seq, ack, body⟩ : Fr).bytes.length ∧ e = .returned (.slice (some ⟨g, 0, none⟩) m m) ∧ w.heap.size ≤ g ∧ w'.heap[g]? = some (.cells (C.vals (⟨(a : Int), (b : Int), mine, yours, seq, ack, body⟩ : Fr).bytes).toArray 5 (0, 0)) ∧ Below w.heap.size w w' := by
  obtain ⟨f, hfe⟩ : ∃ f : Fr, f = ⟨(a : Int), (b : Int), mine, yours, seq, ack, body⟩ := ⟨_, rfl⟩
  rw [← hfe] at hf ⊢
  have hsm : f.small := by rw [hfe]; exact hx.small
  have HM := hide (fun w => mayBe_any w f sp c)
  rw [decide_eq_true hf, hfe] at HM
  simp only [frV, hn] at HM
  have HHs := hide (Fr.head_small hf hsm)
  have HHl := hide (Fr.head_len hf)
  have HBl := hide (Fr.bytes_len f)
  have HHd : Hid (f.head = (((((((([] ++ C.beOf a 1) ++ C.beOf b 1) ++ vB mine) ++ vB yours) ++ vB seq) ++ vB ack) ++ tB body))) := by
    show _ = _
    rw [hfe]; unfold Fr.head; simp [List.append_assoc]
  obtain ⟨k1, k2, k3, k4, k5, k6, k7, -⟩ := hf
  rw [hfe] at k1 k2 k3 k4 k5 k6 k7
  simp only [hn] at k1 k2 k3 k4 k5 k6 k7
  have a8 : a ≤ 8 := by omega
  have b8 : b ≤ 8 := by omega
  have hHe := hide hfe
  clear k1 k2 hsm hfe
  have HX := hide hx
  have HN := hide hn
  have HT := hide hT
  clear hx hn hT
  have hB1 : Below w.heap.size w (w.alloc (.cells #[.int .i64 (a : Int), .int .i64 (b : Int), .int .u64 (mine : Int), .int .u64 (yours : Int), .int .u64 (seq : Int), .int .u64 (ack : Int), .slice sp n c] 33)) := (Below.refl _ _).alloc (Nat.le_refl _) _
  have hK := heap_alloc_new w (.cells #[.int .i64 (a : Int), .int .i64 (b : Int), .int .u64 (mine : Int), .int .u64 (yours : Int), .int .u64 (seq : Int), .int .u64 (ack : Int), .slice sp n c] 33)
  have hS1 : (w.alloc (.cells #[.int .i64 (a : Int), .int .i64 (b : Int), .int .u64 (mine : Int), .int .u64 (yours : Int), .int .u64 (seq : Int), .int .u64 (ack : Int), .slice sp n c] 33)).heap.size = w.heap.size + 1 := by simp
  obtain ⟨w1, hw1⟩ : ∃ w1, w.alloc (.cells #[.int .i64 (a : Int), .int .i64 (b : Int), .int .u64 (mine : Int), .int .u64 (yours : Int), .int .u64 (seq : Int), .int .u64 (ack : Int), .slice sp n c] 33) = w1 := ⟨_, rfl⟩
  rw [hw1] at hB1 hK hS1
  obtain ⟨c0, c1, c2, c3, c4, c5, c6, -⟩ := blk7 hK
  have HB1 := hide hB1
  have HK := hide hK
  have HW := hide hw1
  have HS1 := hide hS1
  clear hB1 hw1 hK hS1
  have HC : Hid (∀ w', Below (w.heap.size + 1) w1 w' → w'.cell? ⟨w.heap.size, 0, none⟩ = some (.int .i64 (a : Int)) ∧ w'.cell? ⟨w.heap.size, 1, none⟩ = some (.int .i64 (b : Int)) ∧ w'.cell? ⟨w.heap.size, 2, none⟩ = some (.int .u64 (mine : Int)) ∧ w'.cell? ⟨w.heap.size, 3, none⟩ = some (.int .u64 (yours : Int)) ∧ w'.cell? ⟨w.heap.size, 4, none⟩ = some (.int .u64 (seq : Int)) ∧ w'.cell? ⟨w.heap.size, 5, none⟩ = some (.int .u64 (ack : Int)) ∧ w'.cell? ⟨w.heap.size, 6, none⟩ = some (.slice sp n c)) := fun w' hb => by
    obtain ⟨d0, d1, d2, d3, d4, d5, d6, -⟩ := blk7 ((hb.block _ (by omega)).trans HK.out)
    exact ⟨d0, d1, d2, d3, d4, d5, d6⟩
  go_enter Tryz.func91, Tryz.ntmps91
  go_upto_region 1 with (fail)
  rw [HW.out]
  go_wp2_with fail
  refine (HM.out _).mono ?_
  rintro e w2 ⟨rfl, hb2⟩
  have HB2 := hide hb2
  clear hb2 c0 c1 c2 c3 c4 c5 c6
  go_wp2_with fail
  refine (C.new_any w2).mono ?_
  rintro e w3 ⟨rfl, hw3⟩
  have H3 := hide (wl_new w2)
  rw [← hw3] at H3
  have HP : Hid (Below (w.heap.size + 1) w1 w2) := by show Below _ _ _; rw [← HS1.out]; exact HB2.out
  have HPs : Hid (w.heap.size + 1 ≤ w2.heap.size) := by show _ ≤ _; rw [← HS1.out]; exact HB2.out.size
  have HQ : Hid (∀ w' v ws, Wl w2.heap.size w2 w' w2.heap.size v ws → Below (w.heap.size + 1) w1 w') := fun w' v ws h => HP.out.trans (h.bel.mono HPs.out)
  have HQw : Hid (∀ w' v ws, Wl w2.heap.size w2 w' w2.heap.size v ws → Below w.heap.size w w') := fun w' v ws h => HB1.out.trans ((HQ.out w' v ws h).mono (Nat.le_succ _))
  clear hw3
  have l1 := be_len a 1
  have l2 := be_len b 1
  have v1 := vB_len (show mine < 18446744073709551616 by omega)
  have v2 := vB_len (show yours < 18446744073709551616 by omega)
  have v3 := vB_len (show seq < 18446744073709551616 by omega)
  have v4 := vB_len (show ack < 18446744073709551616 by omega)
  have u1 := C.vs_bounds mine (by omega)
  have u2 := C.vs_bounds yours (by omega)
  have u3 := C.vs_bounds seq (by omega)
  have u4 := C.vs_bounds ack (by omega)
  have HLn : Hid ((C.beOf a 1).length = 1 ∧ (C.beOf b 1).length = 1 ∧ (vB mine).length ≤ 10 ∧ (vB yours).length ≤ 10 ∧ (vB seq).length ≤ 10 ∧ (vB ack).length ≤ 10) := ⟨l1, l2, by omega, by omega, by omega, by omega⟩
  clear l1 l2 v1 v2 v3 v4 u1 u2 u3 u4
  obtain ⟨c0, c1, c2, c3, c4, c5, c6⟩ := HC.out w3 (HQ.out _ _ _ H3.out)
  have HU := hide (C.wu8_any w3 _ _ _ a H3.out.wr (by omega) (by simp))
  go_wp2_with fail
  refine HU.out.mono ?_
  rintro e w4 ⟨rfl, hl⟩
  obtain ⟨v4, h⟩ := H3.out.laid hl
  have H4 : Hid (Wl w2.heap.size w2 w4 w2.heap.size v4 ([] ++ C.beOf a 1)) := h
  clear hl h HU H3 c0 c1 c2 c3 c4 c5 c6
  obtain ⟨c0, c1, c2, c3, c4, c5, c6⟩ := HC.out w4 (HQ.out _ _ _ H4.out)
  have HU := hide (C.wu8_any w4 _ _ _ b H4.out.wr (by omega) (by have := HLn.out; simp only [List.length_append, List.length_nil]; omega))
  go_wp2_with fail
  refine HU.out.mono ?_
  rintro e w5 ⟨rfl, hl⟩
  obtain ⟨v5, h⟩ := H4.out.laid hl
  have H5 : Hid (Wl w2.heap.size w2 w5 w2.heap.size v5 (([] ++ C.beOf a 1) ++ C.beOf b 1)) := h
  clear hl h HU H4 c0 c1 c2 c3 c4 c5 c6
  obtain ⟨c0, c1, c2, c3, c4, c5, c6⟩ := HC.out w5 (HQ.out _ _ _ H5.out)
  have HU := hide (C.var_lays w5 _ _ _ mine H5.out.wr (by omega) (by have := HLn.out; simp only [List.length_append, List.length_nil]; omega))
  go_wp2_with fail
  refine HU.out.mono ?_
  rintro e w6 ⟨rfl, hl⟩
  obtain ⟨v6, h⟩ := H5.out.laid hl
  have H6 : Hid (Wl w2.heap.size w2 w6 w2.heap.size v6 ((([] ++ C.beOf a 1) ++ C.beOf b 1) ++ vB mine)) := h
  clear hl h HU H5 c0 c1 c2 c3 c4 c5 c6
  obtain ⟨c0, c1, c2, c3, c4, c5, c6⟩ := HC.out w6 (HQ.out _ _ _ H6.out)
  have HU := hide (C.var_lays w6 _ _ _ yours H6.out.wr (by omega) (by have := HLn.out; simp only [List.length_append, List.length_nil]; omega))
  go_wp2_with fail
  refine HU.out.mono ?_
  rintro e w7 ⟨rfl, hl⟩
  obtain ⟨v7, h⟩ := H6.out.laid hl
  have H7 : Hid (Wl w2.heap.size w2 w7 w2.heap.size v7 (((([] ++ C.beOf a 1) ++ C.beOf b 1) ++ vB mine) ++ vB yours)) := h
  clear hl h HU H6 c0 c1 c2 c3 c4 c5 c6
  obtain ⟨c0, c1, c2, c3, c4, c5, c6⟩ := HC.out w7 (HQ.out _ _ _ H7.out)
  have HU := hide (C.var_lays w7 _ _ _ seq H7.out.wr (by omega) (by have := HLn.out; simp only [List.length_append, List.length_nil]; omega))
  go_wp2_with fail
  refine HU.out.mono ?_
  rintro e w8 ⟨rfl, hl⟩
  obtain ⟨v8, h⟩ := H7.out.laid hl
  have H8 : Hid (Wl w2.heap.size w2 w8 w2.heap.size v8 ((((([] ++ C.beOf a 1) ++ C.beOf b 1) ++ vB mine) ++ vB yours) ++ vB seq)) := h
  clear hl h HU H7 c0 c1 c2 c3 c4 c5 c6
  obtain ⟨c0, c1, c2, c3, c4, c5, c6⟩ := HC.out w8 (HQ.out _ _ _ H8.out)
  have HU := hide (C.var_lays w8 _ _ _ ack H8.out.wr (by omega) (by have := HLn.out; simp only [List.length_append, List.length_nil]; omega))
  go_wp2_with fail
  refine HU.out.mono ?_
  rintro e w9 ⟨rfl, hl⟩
  obtain ⟨v9, h⟩ := H8.out.laid hl
  have H9 : Hid (Wl w2.heap.size w2 w9 w2.heap.size v9 (((((([] ++ C.beOf a 1) ++ C.beOf b 1) ++ vB mine) ++ vB yours) ++ vB seq) ++ vB ack)) := h
  clear hl h HU H8 c0 c1 c2 c3 c4 c5 c6
  obtain ⟨c0, c1, c2, c3, c4, c5, c6⟩ := HC.out w9 (HQ.out _ _ _ H9.out)
  have HU := hide (C.wbytes_any w9 _ _ _ sp n c body H9.out.wr HN.out (HX.out.below (HQw.out _ _ _ H9.out)).c (by have := HLn.out; simp only [List.length_append, List.length_nil]; omega) (fun g2 o2 e2 h0 => by
    have h3 : g2 < w.heap.size := by
      rcases HX.out.lie with h | ⟨g3, o3, e3, h3, _⟩
      · have := HN.out; rw [h] at this; simp at this; omega
      · rw [e2] at e3; cases e3; exact h3
    have h4 := HPs.out
    refine ⟨by omega, fun e3 => ?_⟩
    have := H9.out.row g2 e3.symm
    omega))
  go_wp2_with fail
  refine HU.out.mono ?_
  rintro e w10 ⟨rfl, hl⟩
  obtain ⟨v10, h⟩ := H9.out.laid hl
  have H10 : Hid (Wl w2.heap.size w2 w10 w2.heap.size v10 f.head) := by
    show Wl _ _ _ _ _ _
    rw [HHd.out]; unfold tB vB; rw [HN.out]; exact h
  clear hl h HU H9 c0 c1 c2 c3 c4 c5 c6
  obtain ⟨hl, hhl⟩ : ∃ hl, f.head.length = hl := ⟨_, rfl⟩
  have HO := hide (C.out_any w10 _ _ _ H10.out.wr (by have := HHl.out; omega))
  rw [hhl] at HO HHl HBl
  have HHL := hide hhl
  have h84 : hl ≤ 2084 := HHl.out.2
  clear hhl
  go_wp2_with fail
  refine HO.out.mono ?_
  rintro e w11 ⟨rfl, hw⟩
  have hb : Below w10.heap.size w10 w11 := by rw [hw]; exact (Below.refl _ _).alloc (Nat.le_refl _) _
  have H11 := hide (H10.out.below hb)
  have HS := hide (C.sum_any w11 (some ⟨w10.heap.size, 0, none⟩) hl hl f.head HHL.out (by rw [hw]; exact made_by _ _ HHs.out) (by omega) (HT.out.below (HQw.out _ _ _ H11.out) HT.out.pos))
  clear hw hb HO H10
  go_wp2_with fail
  refine HS.out.mono ?_
  rintro e w12 ⟨rfl, rfl⟩
  have HU := hide (C.wu32_any w12 _ _ _ (C.sumOf f.head) H11.out.wr (sum_lt _ HHs.out) (by rw [HHL.out]; omega))
  go_wp2_with fail
  refine HU.out.mono ?_
  rintro e w13 ⟨rfl, hl2⟩
  obtain ⟨v13, h⟩ := H11.out.laid hl2
  have H13 : Hid (Wl w2.heap.size w2 w13 w2.heap.size v13 f.bytes) := h
  have HO := hide (C.out_any w13 _ _ _ H13.out.wr (by rw [HBl.out]; omega))
  rw [HBl.out] at HO
  clear hl2 h HU HS
  go_wp2_with fail
  refine HO.out.mono ?_
  rintro e w14 ⟨rfl, hw⟩
  have HF : Hid (w14.heap[w13.heap.size]? = some (.cells (C.vals f.bytes).toArray 5 (0, 0))) := by show _ = _; rw [hw]; exact heap_alloc_new _ _
  have HB : Hid (Below w.heap.size w w14) := by show Below _ _ _; rw [hw]; exact (HQw.out _ _ _ H13.out).alloc (HQw.out _ _ _ H13.out).size _
  have HG : Hid (w.heap.size ≤ w13.heap.size) := (HQw.out _ _ _ H13.out).size
  clear hw
  go_wp2
  go_ret
  exact ⟨_, _, HBl.out.symm, rfl, HG.out, HF.out, HB.out⟩
theorem enc_any (w : World) (f : Fr) (sp : Option Addr) (c : Nat) (hx : Bytes w sp f.body) (hT : C.Tab w) :
    Calls Tryz.prog 91 #[frV f sp c] w fun e w' => ∃ sq, e = .returned (.slice sq (encB f).length (encB f).length) ∧ C.Mine w.heap.size w' sq (encB f) ∧ Below w.heap.size w w' := by
  by_cases h : f.fit
  · obtain ⟨a, ha⟩ : ∃ a : Nat, f.fr = (a : Int) := ⟨f.fr.toNat, by have := h.1; omega⟩
    obtain ⟨b, hb⟩ : ∃ a : Nat, f.tt = (a : Int) := ⟨f.tt.toNat, by have := h.2.1; omega⟩
    obtain ⟨fr, tt, mine, yours, seq, ack, body⟩ := f
    simp only at ha hb
    subst ha hb
    refine (enc_go w a b mine yours seq ack body.length c sp body rfl hx hT h).mono ?_
    rintro e w' ⟨g, m, rfl, rfl, hg, hh, hbe⟩
    unfold encB
    rw [if_pos h]
    exact ⟨_, rfl, Or.inr ⟨g, rfl, hg, hh⟩, hbe⟩
  · refine (enc_no w f sp c h).mono ?_
    rintro e w' ⟨rfl, hbe⟩
    unfold encB
    rw [if_neg h]
    exact ⟨_, rfl, Or.inl ⟨rfl, rfl⟩, hbe⟩
end Go.Proofs.YtjcdnclfakmbpaaGreatDoor
