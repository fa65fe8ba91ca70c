import Derived.Lib.QuietBelow
import Derived.BigQuiet
import Derived.Test.YtjcdnclfakmbpaaGreatDoorMqJ
import Derived.Test.YtjcdnclfakmbpaaGreatDoorLqC
namespace Go.Proofs.YtjcdnclfakmbpaaGreatDoor
open Go.RowKit Go.Sort
theorem put4z {w : World} {b : Nat} {t : TypeId} {x0 x1 x2 x3 : Value} (h : w.heap[b]? = some (.cells #[x0, x1, x2, x3] t (0, 0))) (y0 y1 y2 y3 : Value) :
    ((((w.setCell ⟨b, 0, none⟩ y0).setCell ⟨b, 1, none⟩ y1).setCell ⟨b, 2, none⟩ y2).setCell ⟨b, 3, none⟩ y3).heap[b]? = some (.cells #[y0, y1, y2, y3] t (0, 0)) := by
  have h0 : (w.setCell ⟨b, 0, none⟩ y0).heap[b]? = some (.cells #[y0, x1, x2, x3] t (0, 0)) := C.block_set h y0
  generalize w.setCell ⟨b, 0, none⟩ y0 = w0 at *
  have h1 : (w0.setCell ⟨b, 1, none⟩ y1).heap[b]? = some (.cells #[y0, y1, x2, x3] t (0, 0)) := C.block_set h0 y1
  generalize w0.setCell ⟨b, 1, none⟩ y1 = w1 at *
  have h2 : (w1.setCell ⟨b, 2, none⟩ y2).heap[b]? = some (.cells #[y0, y1, y2, x3] t (0, 0)) := C.block_set h1 y2
  generalize w1.setCell ⟨b, 2, none⟩ y2 = w2 at *
  exact C.block_set h2 y3
def rcv (L : Lk) (f0 f1 : Int) (mine yours seq ack : Nat) (body : List Nat) : Prop := (⟨f0, f1, mine, yours, seq, ack, body⟩ : Fr).fit ∧ f0 = L.other ∧ f1 = L.me ∧ L.known ≤ mine
set_option maxRecDepth 100000 in
set_option maxHeartbeats 4000000 in
theorem hear_no (w : World) (b : Nat) (L : Lk) (rv : Value) (h : Lb w b L rv) (f0 f1 : Int) (mine yours seq ack n c : Nat) (sp : Option Addr) (body : List Nat) (hn : body.length = n) (hbad : ¬ rcv L f0 f1 mine yours seq ack body) :
    Calls Tryz.prog 58 #[.pointer (some ⟨b, 0, none⟩), .agg #[.int .i64 f0, .int .i64 f1, .int .u64 (mine : Int), .int .u64 (yours : Int), .int .u64 (seq : Int), .int .u64 (ack : Int), .slice sp n c]] w fun e w' => e = .returned (.agg #[.slice none 0 0, .bool false, .bool false, .bool false]) ∧ Below w.heap.size w w' := by
  have HM := hide (fun w => mayBe_any w ⟨f0, f1, mine, yours, seq, ack, body⟩ sp c)
  simp only [frV, hn] at HM
  have hlt := C.lt_of_block h
  obtain ⟨w2, hw2⟩ : ∃ w2, (w.alloc (.cells #[.int .i64 f0, .int .i64 f1, .int .u64 (mine : Int), .int .u64 (yours : Int), .int .u64 (seq : Int), .int .u64 (ack : Int), .slice sp n c] 33)).alloc (.cells #[.slice none 0 0, .bool false, .bool false, .bool false] 127) = w2 := ⟨_, rfl⟩
  have hb2 : Below w.heap.size w w2 := by rw [← hw2]; exact ((Below.refl _ _).alloc (Nat.le_refl _) _).alloc (by simp) _
  have hk2 : w2.heap[w.heap.size + 1]? = some (.cells #[.slice none 0 0, .bool false, .bool false, .bool false] 127 (0, 0)) := by rw [← hw2]; exact heap_alloc2_new w _ _
  have hk1 : w2.heap[w.heap.size]? = some (.cells #[.int .i64 f0, .int .i64 f1, .int .u64 (mine : Int), .int .u64 (yours : Int), .int .u64 (seq : Int), .int .u64 (ack : Int), .slice sp n c] 33 (0, 0)) := by
    rw [← hw2, Below.heap_alloc _ _ _ (by simp)]; exact heap_alloc_new _ _
  obtain ⟨c0, c1, c2, c3, c4, c5, c6, -⟩ := blk7 hk1
  obtain ⟨l0, l1, l2, -, l4, -⟩ := blk15 (h.below hb2)
  obtain ⟨r, hr⟩ : ∃ r, decide (Fr.fit ⟨f0, f1, mine, yours, seq, ack, body⟩) = r := ⟨_, rfl⟩
  rw [hr] at HM
  have HMq : Hid (∀ d os, Calls Tryz.prog 48 #[.agg #[.int .i64 f0, .int .i64 f1, .int .u64 (mine : Int), .int .u64 (yours : Int), .int .u64 (seq : Int), .int .u64 (ack : Int), .slice sp n c]] (grow (redrawn w2 d) os) fun e w'' => e = .returned (.bool r) ∧ ∃ p : Regrown, w'' = grow (redrawn w2 p.d) p.os) := fun d os => Calls.regrown_of (HM.out _)
  have e0 := cell_regrown c0
  have e1 := cell_regrown c1
  have e2 := cell_regrown c2
  have e3 := cell_regrown c3
  have e4 := cell_regrown c4
  have e5 := cell_regrown c5
  have e6 := cell_regrown c6
  have g0 := cell_regrown l0
  have g1 := cell_regrown l1
  have g4 := cell_regrown l4
  have HK2 := hide hk2
  have HB2 := hide hb2
  have HW := hide hw2
  have HEnd : Hid (∀ dq osq, ∃ w3, grow (redrawn w2 dq) osq = w3 ∧ w3.heap[w.heap.size + 1]? = some (.cells #[.slice none 0 0, .bool false, .bool false, .bool false] 127 (0, 0)) ∧ Below w.heap.size w w3) := fun dq osq => by
    have hb := below_regrown w2 dq osq
    exact ⟨_, rfl, (hb.block _ (C.lt_of_block HK2.out)).trans HK2.out, HB2.out.trans (hb.mono HB2.out.size)⟩
  have hz : ∀ (z : Int), (z != z) = false := fun z => by simp
  clear h hw2 hk1 hk2 hb2 c0 c1 c2 c3 c4 c5 c6 l0 l1 l2 l4 HM
  by_cases hf : Fr.fit ⟨f0, f1, mine, yours, seq, ack, body⟩
  · obtain rfl : r = true := by rw [← hr]; exact decide_eq_true hf
    by_cases h0 : f0 = L.other
    · have b0 : (f0 != L.other) = false := by simp [h0]
      by_cases h1 : f1 = L.me
      · have b1 : (f1 != L.me) = false := by simp [h1]
        have b2 : (mine : Int) < (L.known : Int) := by
          rcases Nat.lt_or_ge mine L.known with q | q
          · omega
          · exact absurd ⟨hf, h0, h1, q⟩ hbad
        clear hbad hf hr h0 h1
        go_enter Tryz.func58, Tryz.ntmps58
        go_upto_region 1 with (fail)
        rw [HW.out]
        refine wp_region_quiet_below (by kernel_rfl) (by kernel_rfl) ?_
        repeat (go_big_quiet_step (first | (go_at_call 48; exact HMq.out _ _)))
        refine wpQuiet_nil ?_
        intro _ hw'
        obtain ⟨⟨dq, osq⟩, hw''⟩ := hw'
        obtain ⟨w3, hw3, hk3, hb3⟩ := HEnd.out dq osq
        rw [hw3] at hw''
        subst hw''
        have HK3 := hide hk3
        have HB3 := hide hb3
        clear hk3 hb3 hw3
        obtain ⟨y0, y1, y2, y3, yf⟩ := blk4 HK3.out
        go_wp2
        refine bodyPost_ret (results_cell_row rfl _ _ (w.heap.size + 1) 127 _ (0, 0) _ rfl (put4z HK3.out (.slice none 0 0) (.bool false) (.bool false) (.bool false)) Tryz.underlying127 rfl (by kernel_rfl)) rfl ?_
        exact ⟨rfl, (((HB3.out.setCell (p := ⟨w.heap.size + 1, 0, none⟩) (Nat.le_succ _) _).setCell (p := ⟨w.heap.size + 1, 1, none⟩) (Nat.le_succ _) _).setCell (p := ⟨w.heap.size + 1, 2, none⟩) (Nat.le_succ _) _).setCell (p := ⟨w.heap.size + 1, 3, none⟩) (Nat.le_succ _) _⟩
      · have b1 : (f1 != L.me) = true := by simpa using h1
        clear hbad hf hr h0 h1
        go_enter Tryz.func58, Tryz.ntmps58
        go_upto_region 1 with (fail)
        rw [HW.out]
        refine wp_region_quiet_below (by kernel_rfl) (by kernel_rfl) ?_
        repeat (go_big_quiet_step (first | (go_at_call 48; exact HMq.out _ _)))
        refine wpQuiet_nil ?_
        intro _ hw'
        obtain ⟨⟨dq, osq⟩, hw''⟩ := hw'
        obtain ⟨w3, hw3, hk3, hb3⟩ := HEnd.out dq osq
        rw [hw3] at hw''
        subst hw''
        have HK3 := hide hk3
        have HB3 := hide hb3
        clear hk3 hb3 hw3
        obtain ⟨y0, y1, y2, y3, yf⟩ := blk4 HK3.out
        go_wp2
        refine bodyPost_ret (results_cell_row rfl _ _ (w.heap.size + 1) 127 _ (0, 0) _ rfl (put4z HK3.out (.slice none 0 0) (.bool false) (.bool false) (.bool false)) Tryz.underlying127 rfl (by kernel_rfl)) rfl ?_
        exact ⟨rfl, (((HB3.out.setCell (p := ⟨w.heap.size + 1, 0, none⟩) (Nat.le_succ _) _).setCell (p := ⟨w.heap.size + 1, 1, none⟩) (Nat.le_succ _) _).setCell (p := ⟨w.heap.size + 1, 2, none⟩) (Nat.le_succ _) _).setCell (p := ⟨w.heap.size + 1, 3, none⟩) (Nat.le_succ _) _⟩
    · have b0 : (f0 != L.other) = true := by simpa using h0
      clear hbad hf hr h0
      go_enter Tryz.func58, Tryz.ntmps58
      go_upto_region 1 with (fail)
      rw [HW.out]
      refine wp_region_quiet_below (by kernel_rfl) (by kernel_rfl) ?_
      repeat (go_big_quiet_step (first | (go_at_call 48; exact HMq.out _ _)))
      refine wpQuiet_nil ?_
      intro _ hw'
      obtain ⟨⟨dq, osq⟩, hw''⟩ := hw'
      obtain ⟨w3, hw3, hk3, hb3⟩ := HEnd.out dq osq
      rw [hw3] at hw''
      subst hw''
      have HK3 := hide hk3
      have HB3 := hide hb3
      clear hk3 hb3 hw3
      obtain ⟨y0, y1, y2, y3, yf⟩ := blk4 HK3.out
      go_wp2
      refine bodyPost_ret (results_cell_row rfl _ _ (w.heap.size + 1) 127 _ (0, 0) _ rfl (put4z HK3.out (.slice none 0 0) (.bool false) (.bool false) (.bool false)) Tryz.underlying127 rfl (by kernel_rfl)) rfl ?_
      exact ⟨rfl, (((HB3.out.setCell (p := ⟨w.heap.size + 1, 0, none⟩) (Nat.le_succ _) _).setCell (p := ⟨w.heap.size + 1, 1, none⟩) (Nat.le_succ _) _).setCell (p := ⟨w.heap.size + 1, 2, none⟩) (Nat.le_succ _) _).setCell (p := ⟨w.heap.size + 1, 3, none⟩) (Nat.le_succ _) _⟩
  · obtain rfl : r = false := by rw [← hr]; exact decide_eq_false hf
    clear hbad hf hr
    go_enter Tryz.func58, Tryz.ntmps58
    go_upto_region 1 with (fail)
    rw [HW.out]
    refine wp_region_quiet_below (by kernel_rfl) (by kernel_rfl) ?_
    repeat (go_big_quiet_step (first | (go_at_call 48; exact HMq.out _ _)))
    refine wpQuiet_nil ?_
    intro _ hw'
    obtain ⟨⟨dq, osq⟩, hw''⟩ := hw'
    obtain ⟨w3, hw3, hk3, hb3⟩ := HEnd.out dq osq
    rw [hw3] at hw''
    subst hw''
    have HK3 := hide hk3
    have HB3 := hide hb3
    clear hk3 hb3 hw3
    obtain ⟨y0, y1, y2, y3, yf⟩ := blk4 HK3.out
    go_wp2
    refine bodyPost_ret (results_cell_row rfl _ _ (w.heap.size + 1) 127 _ (0, 0) _ rfl (put4z HK3.out (.slice none 0 0) (.bool false) (.bool false) (.bool false)) Tryz.underlying127 rfl (by kernel_rfl)) rfl ?_
    exact ⟨rfl, (((HB3.out.setCell (p := ⟨w.heap.size + 1, 0, none⟩) (Nat.le_succ _) _).setCell (p := ⟨w.heap.size + 1, 1, none⟩) (Nat.le_succ _) _).setCell (p := ⟨w.heap.size + 1, 2, none⟩) (Nat.le_succ _) _).setCell (p := ⟨w.heap.size + 1, 3, none⟩) (Nat.le_succ _) _⟩
end Go.Proofs.YtjcdnclfakmbpaaGreatDoor
