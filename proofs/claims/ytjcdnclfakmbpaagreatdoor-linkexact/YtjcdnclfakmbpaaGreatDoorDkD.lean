import Derived.Test.YtjcdnclfakmbpaaGreatDoorHeB
import Derived.Test.YtjcdnclfakmbpaaGreatDoorDkE
import Derived.Test.YtjcdnclfakmbpaaGreatDoorRfA
import Derived.Test.YtjcdnclfakmbpaaGreatDoorHeA
namespace Go.Proofs.YtjcdnclfakmbpaaGreatDoor
open Go.RowKit
structure Rn (L : Lk) (i : Nat) : Prop where
  row : L.row.length ≤ i
  num : L.numbered ≤ i
  hand : L.handed ≤ i
  pok : L.Pok
  win : 0 ≤ L.window
theorem rn_new (me other : Int) (life : Nat) (window most : Int) : Rn (Lk.new me other life window most) 0 := by
  refine ⟨Nat.zero_le _, Nat.zero_le _, Nat.zero_le _, ⟨Nat.zero_le _, ?_, ?_⟩, by show 0 ≤ max window 0; omega⟩
  · show (if 1 ≤ most ∧ most ≤ 64 then 1 else 0) ≤ 64
    split <;> omega
  · intro m hm
    have h : (if 1 ≤ most ∧ most ≤ 64 then some most.toNat else none) = some m := hm
    split at h
    · injection h with h; omega
    · cases h
theorem Rn.up {L : Lk} {i : Nat} (h : Rn L i) : Rn L (i + 1) := ⟨Nat.le_succ_of_le h.row, Nat.le_succ_of_le h.num, Nat.le_succ_of_le h.hand, h.pok, h.win⟩
theorem Rn.reset {L : Lk} {i : Nat} (h : Rn L i) : Rn (lreset L) i := ⟨h.row, h.num, h.hand, ⟨by show 0 ≤ 64; omega, by show 1 ≤ 64; omega, h.pok.m⟩, h.win⟩
theorem Rn.send {L : Lk} {i : Nat} (h : Rn L i) (s : ByteArray) : Rn (sendN L s) (i + 1) := by
  have h1 : Rn (sendL L) i := by
    unfold sendL
    split
    · exact h.reset
    · exact h
  have h2 := h.row
  have h3 := h.num
  exact ⟨by show (L.row ++ [(L.numbered + 1, s)]).length ≤ i + 1; simp; omega, by show L.numbered + 1 ≤ i + 1; omega, Nat.le_succ_of_le h1.hand, ⟨h1.pok.l, h1.pok.g, h1.pok.m⟩, h1.win⟩
theorem Rn.owe {L : Lk} {i : Nat} (h : Rn L i) : Rn { L with asked := true } i := ⟨h.row, h.num, h.hand, ⟨h.pok.l, h.pok.g, h.pok.m⟩, h.win⟩
theorem Rn.hear1 {L : Lk} {i : Nat} (h : Rn L i) (mine : Nat) : Rn (hear1 L mine) i := by
  unfold Go.Proofs.YtjcdnclfakmbpaaGreatDoor.hear1
  split
  · exact ⟨Nat.zero_le _, Nat.zero_le _, Nat.zero_le _, ⟨by show 0 ≤ 64; omega, by show 1 ≤ 64; omega, h.pok.m⟩, h.win⟩
  · exact h
theorem Rn.paced {L : Lk} {i : Nat} (h : Rn L i) (p : Bool) : Rn { L with paced := p } i := ⟨h.row, h.num, h.hand, ⟨h.pok.l, h.pok.g, h.pok.m⟩, h.win⟩
theorem Rn.ack {L : Lk} {i : Nat} (h : Rn L i) (a : Nat) : Rn (ackL L a) i := by
  unfold ackL
  split
  · have h1 := h.row
    exact ⟨by show (L.row.drop _).length ≤ i; rw [List.length_drop]; omega, h.num, h.hand, ⟨h.pok.l, h.pok.g, h.pok.m⟩, h.win⟩
  · exact h
theorem Rn.body {L : Lk} {i : Nat} (h : Rn L i) (seq : Nat) : Rn (bodyL L seq) (i + 1) := by
  have h1 := h.hand
  unfold bodyL
  split
  · exact h.up
  · split
    · exact ⟨Nat.le_succ_of_le h.row, Nat.le_succ_of_le h.num, by show L.handed + 1 ≤ i + 1; omega, ⟨h.pok.l, h.pok.g, h.pok.m⟩, h.win⟩
    · exact ⟨Nat.le_succ_of_le h.row, Nat.le_succ_of_le h.num, Nat.le_succ_of_le h.hand, ⟨h.pok.l, h.pok.g, h.pok.m⟩, h.win⟩
theorem Rn.hear {L : Lk} {i : Nat} (h : Rn L i) (mine yours seq ack : Nat) : Rn (hrL L mine yours seq ack) (i + 1) := by
  unfold hrL
  split
  · exact (((h.hear1 mine).paced false).ack ack).body seq
  · exact ((h.hear1 mine).paced true).up
theorem Rn.ltick {L : Lk} {i : Nat} (h : Rn L i) : Rn (ltick L) i := by
  obtain ⟨h1, h2, h3, ⟨p1, p2, p3⟩, h5⟩ := h
  unfold Go.Proofs.YtjcdnclfakmbpaaGreatDoor.ltick
  split
  · exact ⟨h1, h2, h3, ⟨by show L.left - 1 ≤ 64; omega, p2, p3⟩, h5⟩
  · refine ⟨h1, h2, h3, ⟨p2, ?_, p3⟩, h5⟩
    show (match L.lim with | none => L.gap | some m => min (2 * L.gap) m) ≤ 64
    cases hm : L.lim with
    | none => exact p2
    | some m => have := p3 m hm; show min (2 * L.gap) m ≤ 64; omega
theorem Rn.tick {L : Lk} {i : Nat} (h : Rn L i) : Rn (tickL L) i := by
  have h1 : Rn (tkR L) i := by
    unfold tkR
    split
    · exact h.ltick
    · exact h
  have h2 : Rn (bodL L) i := ⟨h1.row, h1.num, h1.hand, ⟨h1.pok.l, h1.pok.g, h1.pok.m⟩, h1.win⟩
  unfold tickL
  split
  · exact h2
  · exact ⟨h2.row, h2.num, h2.hand, ⟨h2.pok.l, h2.pok.g, h2.pok.m⟩, h2.win⟩
end Go.Proofs.YtjcdnclfakmbpaaGreatDoor
namespace Go.Proofs.YtjcdnclfakmbpaaGreatDoor
open Go.RowKit Go.Sort
set_option maxRecDepth 100000 in
set_option maxHeartbeats 4000000 in
theorem dhear_no (w : World) (b : Nat) (L : Lk) (rv : Value) (m t : Nat) (h : Db w b L rv m t) (f0 f1 : Int) (mine yours seq ack n c : Nat) (sp : Option Addr) (body : List Nat) (hn : body.length = n) (hbad : ¬ rcv L f0 f1 mine yours seq ack body) :
    Calls Tryz.prog 59 #[.pointer (some ⟨b, 0, none⟩), .agg #[.int .i64 f0, .int .i64 f1, .int .u64 (mine : Int), .int .u64 (yours : Int), .int .u64 (seq : Int), .int .u64 (ack : Int), .slice sp n c]] w fun e w' => e = .returned (.agg #[.slice none 0 0, .bool false, .bool false, .bool false]) ∧ Below w.heap.size w w' := by
  have HM := hide (fun w => rfit_any w ⟨f0, f1, mine, yours, seq, ack, body⟩ sp c)
  simp only [frV, hn] at HM
  have hlt := C.lt_of_block h
  obtain ⟨w1, hw1⟩ : ∃ w1, (w.alloc (.cells #[.int .i64 f0, .int .i64 f1, .int .u64 (mine : Int), .int .u64 (yours : Int), .int .u64 (seq : Int), .int .u64 (ack : Int), .slice sp n c] 33)).alloc (.cells #[.slice none 0 0, .bool false, .bool false, .bool false] 129) = w1 := ⟨_, rfl⟩
  have hs1 : w1.heap.size = w.heap.size + 2 := by rw [← hw1]; simp
  have hb1 : Below w.heap.size w w1 := by rw [← hw1]; exact ((Below.refl _ _).alloc (Nat.le_refl _) _).alloc (by simp) _
  have hk2a : w1.heap[w.heap.size + 1]? = some (.cells #[.slice none 0 0, .bool false, .bool false, .bool false] 129 (0, 0)) := by rw [← hw1]; exact heap_alloc2_new w _ _
  have hk1a : w1.heap[w.heap.size]? = some (.cells #[.int .i64 f0, .int .i64 f1, .int .u64 (mine : Int), .int .u64 (yours : Int), .int .u64 (seq : Int), .int .u64 (ack : Int), .slice sp n c] 33 (0, 0)) := by
    rw [← hw1, Below.heap_alloc _ _ _ (by simp)]; exact heap_alloc_new _ _
  obtain ⟨w2, hw2a⟩ : ∃ w2, w1.alloc (.cells #[.slice none 0 0, .bool false, .bool false, .bool false] 129) = w2 := ⟨_, rfl⟩
  have hw2 : ((w.alloc (.cells #[.int .i64 f0, .int .i64 f1, .int .u64 (mine : Int), .int .u64 (yours : Int), .int .u64 (seq : Int), .int .u64 (ack : Int), .slice sp n c] 33)).alloc (.cells #[.slice none 0 0, .bool false, .bool false, .bool false] 129)).alloc (.cells #[.slice none 0 0, .bool false, .bool false, .bool false] 129) = w2 := by rw [hw1]; exact hw2a
  have hb12 : Below w1.heap.size w1 w2 := by rw [← hw2a]; exact (Below.refl _ _).alloc (Nat.le_refl _) _
  have hb2 : Below w.heap.size w w2 := hb1.trans (hb12.mono hb1.size)
  have hk2 := (hb12.block _ (C.lt_of_block hk2a)).trans hk2a
  have hk1 := (hb12.block _ (C.lt_of_block hk1a)).trans hk1a
  have hk3 : w2.heap[w.heap.size + 2]? = some (.cells #[.slice none 0 0, .bool false, .bool false, .bool false] 129 (0, 0)) := by rw [← hs1, ← hw2a]; exact heap_alloc_new _ _
  obtain ⟨c0, c1, c2, c3, c4, c5, c6, -⟩ := blk7 hk1
  obtain ⟨l0, l1, -, l4, -⟩ := blk14 (h.kept (hb2.block b (C.lt_of_block h)))
  obtain ⟨r, hr⟩ : ∃ r, decide (Fr.fit ⟨f0, f1, mine, yours, seq, ack, body⟩) = r := ⟨_, rfl⟩
  rw [hr] at HM
  have HMq : Hid (∀ d os, Calls Tryz.prog 100 #[.agg #[.int .i64 f0, .int .i64 f1, .int .u64 (mine : Int), .int .u64 (yours : Int), .int .u64 (seq : Int), .int .u64 (ack : Int), .slice sp n c]] (grow (redrawn w2 d) os) fun e w'' => e = .returned (.bool r) ∧ ∃ p : Regrown, w'' = grow (redrawn w2 p.d) p.os) := fun d os => Calls.regrown_of (HM.out _)
  have e0 := cell_regrown c0
  have e1 := cell_regrown c1
  have e2 := cell_regrown c2
  have e3 := cell_regrown c3
  have e4 := cell_regrown c4
  have e5 := cell_regrown c5
  have e6 := cell_regrown c6
  have g0 := cell_regrown l0
  have g1 := cell_regrown l1
  have g4 := cell_regrown l4
  have HK2 := hide hk2
  have HK3' := hide hk3
  have HB2 := hide hb2
  have HW := hide hw2
  have HEnd : Hid (∀ dq osq, ∃ w3, grow (redrawn w2 dq) osq = w3 ∧ w3.heap[w.heap.size + 1]? = some (.cells #[.slice none 0 0, .bool false, .bool false, .bool false] 129 (0, 0)) ∧ w3.heap[w.heap.size + 2]? = some (.cells #[.slice none 0 0, .bool false, .bool false, .bool false] 129 (0, 0)) ∧ Below w.heap.size w w3) := fun dq osq => by
    have hb := below_regrown w2 dq osq
    exact ⟨_, rfl, (hb.block _ (C.lt_of_block HK2.out)).trans HK2.out, (hb.block _ (C.lt_of_block HK3'.out)).trans HK3'.out, HB2.out.trans (hb.mono HB2.out.size)⟩
  have hz : ∀ (z : Int), (z != z) = false := fun z => by simp
  clear h hw2 hw2a hw1 hs1 hb1 hb12 hk1a hk2a hk1 hk2 hk3 hb2 c0 c1 c2 c3 c4 c5 c6 l0 l1 l4 HM
  by_cases hf : Fr.fit ⟨f0, f1, mine, yours, seq, ack, body⟩
  · obtain rfl : r = true := by rw [← hr]; exact decide_eq_true hf
    by_cases h0 : f0 = L.other
    · have b0 : (f0 != L.other) = false := by simp [h0]
      by_cases h1 : f1 = L.me
      · have b1 : (f1 != L.me) = false := by simp [h1]
        have b2 : (mine : Int) < (L.known : Int) := by
          rcases Nat.lt_or_ge mine L.known with q | q
          · omega
          · exact absurd ⟨hf, h0, h1, q⟩ hbad
        clear hbad hf hr h0 h1
        go_enter Tryz.func59, Tryz.ntmps59
        go_upto_region 2 with (fail)
        rw [HW.out]
        refine wp_region_quiet_below (by kernel_rfl) (by kernel_rfl) ?_
        repeat (go_big_quiet_step (first | (go_at_call 100; exact HMq.out _ _)))
        refine wpQuiet_nil ?_
        intro _ hw'
        obtain ⟨⟨dq, osq⟩, hw''⟩ := hw'
        obtain ⟨w3, hw3, hk3, hk4, hb3⟩ := HEnd.out dq osq
        rw [hw3] at hw''
        subst hw''
        have HK3 := hide hk3
        have HK4 := hide hk4
        have HB3 := hide hb3
        clear hk3 hk4 hb3 hw3
        obtain ⟨y0, y1, y2, y3, yf⟩ := blk4 HK3.out
        obtain ⟨x0, x1, x2, x3, xf⟩ := blk4 HK4.out
        go_wp2
        refine bodyPost_ret (results_cell_row rfl _ _ (w.heap.size + 1) 129 _ (0, 0) _ rfl (put4z HK3.out (.slice none 0 0) (.bool false) (.bool false) (.bool false)) Tryz.underlying129 rfl (by kernel_rfl)) rfl ?_
        exact ⟨rfl, (((HB3.out.setCell (p := ⟨w.heap.size + 1, 0, none⟩) (Nat.le_succ _) _).setCell (p := ⟨w.heap.size + 1, 1, none⟩) (Nat.le_succ _) _).setCell (p := ⟨w.heap.size + 1, 2, none⟩) (Nat.le_succ _) _).setCell (p := ⟨w.heap.size + 1, 3, none⟩) (Nat.le_succ _) _⟩
      · have b1 : (f1 != L.me) = true := by simpa using h1
        clear hbad hf hr h0 h1
        go_enter Tryz.func59, Tryz.ntmps59
        go_upto_region 2 with (fail)
        rw [HW.out]
        refine wp_region_quiet_below (by kernel_rfl) (by kernel_rfl) ?_
        repeat (go_big_quiet_step (first | (go_at_call 100; exact HMq.out _ _)))
        refine wpQuiet_nil ?_
        intro _ hw'
        obtain ⟨⟨dq, osq⟩, hw''⟩ := hw'
        obtain ⟨w3, hw3, hk3, hk4, hb3⟩ := HEnd.out dq osq
        rw [hw3] at hw''
        subst hw''
        have HK3 := hide hk3
        have HK4 := hide hk4
        have HB3 := hide hb3
        clear hk3 hk4 hb3 hw3
        obtain ⟨y0, y1, y2, y3, yf⟩ := blk4 HK3.out
        obtain ⟨x0, x1, x2, x3, xf⟩ := blk4 HK4.out
        go_wp2
        refine bodyPost_ret (results_cell_row rfl _ _ (w.heap.size + 1) 129 _ (0, 0) _ rfl (put4z HK3.out (.slice none 0 0) (.bool false) (.bool false) (.bool false)) Tryz.underlying129 rfl (by kernel_rfl)) rfl ?_
        exact ⟨rfl, (((HB3.out.setCell (p := ⟨w.heap.size + 1, 0, none⟩) (Nat.le_succ _) _).setCell (p := ⟨w.heap.size + 1, 1, none⟩) (Nat.le_succ _) _).setCell (p := ⟨w.heap.size + 1, 2, none⟩) (Nat.le_succ _) _).setCell (p := ⟨w.heap.size + 1, 3, none⟩) (Nat.le_succ _) _⟩
    · have b0 : (f0 != L.other) = true := by simpa using h0
      clear hbad hf hr h0
      go_enter Tryz.func59, Tryz.ntmps59
      go_upto_region 2 with (fail)
      rw [HW.out]
      refine wp_region_quiet_below (by kernel_rfl) (by kernel_rfl) ?_
      repeat (go_big_quiet_step (first | (go_at_call 100; exact HMq.out _ _)))
      refine wpQuiet_nil ?_
      intro _ hw'
      obtain ⟨⟨dq, osq⟩, hw''⟩ := hw'
      obtain ⟨w3, hw3, hk3, hk4, hb3⟩ := HEnd.out dq osq
      rw [hw3] at hw''
      subst hw''
      have HK3 := hide hk3
      have HK4 := hide hk4
      have HB3 := hide hb3
      clear hk3 hk4 hb3 hw3
      obtain ⟨y0, y1, y2, y3, yf⟩ := blk4 HK3.out
      obtain ⟨x0, x1, x2, x3, xf⟩ := blk4 HK4.out
      go_wp2
      refine bodyPost_ret (results_cell_row rfl _ _ (w.heap.size + 1) 129 _ (0, 0) _ rfl (put4z HK3.out (.slice none 0 0) (.bool false) (.bool false) (.bool false)) Tryz.underlying129 rfl (by kernel_rfl)) rfl ?_
      exact ⟨rfl, (((HB3.out.setCell (p := ⟨w.heap.size + 1, 0, none⟩) (Nat.le_succ _) _).setCell (p := ⟨w.heap.size + 1, 1, none⟩) (Nat.le_succ _) _).setCell (p := ⟨w.heap.size + 1, 2, none⟩) (Nat.le_succ _) _).setCell (p := ⟨w.heap.size + 1, 3, none⟩) (Nat.le_succ _) _⟩
  · obtain rfl : r = false := by rw [← hr]; exact decide_eq_false hf
    clear hbad hf hr
    go_enter Tryz.func59, Tryz.ntmps59
    go_upto_region 2 with (fail)
    rw [HW.out]
    refine wp_region_quiet_below (by kernel_rfl) (by kernel_rfl) ?_
    repeat (go_big_quiet_step (first | (go_at_call 100; exact HMq.out _ _)))
    refine wpQuiet_nil ?_
    intro _ hw'
    obtain ⟨⟨dq, osq⟩, hw''⟩ := hw'
    obtain ⟨w3, hw3, hk3, hk4, hb3⟩ := HEnd.out dq osq
    rw [hw3] at hw''
    subst hw''
    have HK3 := hide hk3
    have HK4 := hide hk4
    have HB3 := hide hb3
    clear hk3 hk4 hb3 hw3
    obtain ⟨y0, y1, y2, y3, yf⟩ := blk4 HK3.out
    obtain ⟨x0, x1, x2, x3, xf⟩ := blk4 HK4.out
    go_wp2
    refine bodyPost_ret (results_cell_row rfl _ _ (w.heap.size + 1) 129 _ (0, 0) _ rfl (put4z HK3.out (.slice none 0 0) (.bool false) (.bool false) (.bool false)) Tryz.underlying129 rfl (by kernel_rfl)) rfl ?_
    exact ⟨rfl, (((HB3.out.setCell (p := ⟨w.heap.size + 1, 0, none⟩) (Nat.le_succ _) _).setCell (p := ⟨w.heap.size + 1, 1, none⟩) (Nat.le_succ _) _).setCell (p := ⟨w.heap.size + 1, 2, none⟩) (Nat.le_succ _) _).setCell (p := ⟨w.heap.size + 1, 3, none⟩) (Nat.le_succ _) _⟩
end Go.Proofs.YtjcdnclfakmbpaaGreatDoor
