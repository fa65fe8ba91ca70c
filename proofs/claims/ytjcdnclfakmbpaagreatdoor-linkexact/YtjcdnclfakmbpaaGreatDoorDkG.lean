import Derived.Deep.CutRange
import Derived.Test.YtjcdnclfakmbpaaGreatDoorDkF
namespace Go.Proofs.YtjcdnclfakmbpaaGreatDoor
open Go.RowKit Go.Sort
theorem blk7f {w : World} {b : Nat} {x0 x1 x2 x3 x4 x5 x6 : Value} {t : TypeId} (h : w.heap[b]? = some (.cells #[x0, x1, x2, x3, x4, x5, x6] t (0, 0))) : w.cell? ⟨b, 2, none⟩ = some x2 ∧ w.cell? ⟨b, 3, none⟩ = some x3 ∧ w.cell? ⟨b, 4, none⟩ = some x4 ∧ w.cell? ⟨b, 5, none⟩ = some x5 ∧ w.cell? ⟨b, 6, none⟩ = some x6 := by
  refine ⟨?_, ?_, ?_, ?_, ?_⟩ <;> simp [World.cell?, h]
set_option maxRecDepth 100000 in
set_option maxHeartbeats 8000000 in
theorem dhear_any (w : World) (K : Knd) (kd kb : Nat × Nat) (hkk : kd ≠ kb) (b : Nat) (L : Lk) (rv : Value) (m t : Nat) (h : Dk w K kd kb b L rv m t) (mine yours seq ack n c : Nat) (sp : Option Addr) (body : List Nat) (hn : body.length = n) (hx : Bytes w sp body) (hxk : ∀ a, sp = some a → body ≠ [] → K a.block ≠ kd) (hok : rcv L L.other L.me mine yours seq ack body) (hN : L.numbered ≤ 1099511627776) (hhd : L.handed ≤ 1099511627776) :
    Calls Tryz.prog 59 #[.pointer (some ⟨b, 0, none⟩), .agg #[.int .i64 L.other, .int .i64 L.me, .int .u64 (mine : Int), .int .u64 (yours : Int), .int .u64 (seq : Int), .int .u64 (ack : Int), .slice sp n c]] w fun e w' => ∃ a mm cc, e = .returned (.agg #[.slice a mm cc, .bool (hrH L mine yours seq ack), .bool (decide (L.known < mine)), .bool (decide (yours = L.life))]) ∧ DhPost w K kd kb b L m t mine yours seq ack body w' a mm := by
  have hle : L.known ≤ mine := hok.2.2.2
  have hnl : n ≤ 2048 := by rw [← hn]; exact hok.1.2.2.2.2.2.2.1
  have HM := hide (fun w => rfit_any w ⟨L.other, L.me, mine, yours, seq, ack, body⟩ sp c)
  rw [decide_eq_true hok.1] at HM
  simp only [frV, hn] at HM
  have hlt := C.lt_of_block h.db
  obtain ⟨w1, hw1⟩ : ∃ w1, (w.alloc (.cells #[.int .i64 L.other, .int .i64 L.me, .int .u64 (mine : Int), .int .u64 (yours : Int), .int .u64 (seq : Int), .int .u64 (ack : Int), .slice sp n c] 33)).alloc (.cells #[.slice none 0 0, .bool false, .bool false, .bool false] 129) = w1 := ⟨_, rfl⟩
  have hs1 : w1.heap.size = w.heap.size + 2 := by rw [← hw1]; simp
  have hb1 : Below w.heap.size w w1 := by rw [← hw1]; exact ((Below.refl _ _).alloc (Nat.le_refl _) _).alloc (by simp) _
  have hk2a : w1.heap[w.heap.size + 1]? = some (.cells #[.slice none 0 0, .bool false, .bool false, .bool false] 129 (0, 0)) := by rw [← hw1]; exact heap_alloc2_new w _ _
  have hk1a : w1.heap[w.heap.size]? = some (.cells #[.int .i64 L.other, .int .i64 L.me, .int .u64 (mine : Int), .int .u64 (yours : Int), .int .u64 (seq : Int), .int .u64 (ack : Int), .slice sp n c] 33 (0, 0)) := by
    rw [← hw1, Below.heap_alloc _ _ _ (by simp)]; exact heap_alloc_new _ _
  obtain ⟨w2, hw2a⟩ : ∃ w2, w1.alloc (.cells #[.slice none 0 0, .bool false, .bool false, .bool false] 129) = w2 := ⟨_, rfl⟩
  have hw2 : ((w.alloc (.cells #[.int .i64 L.other, .int .i64 L.me, .int .u64 (mine : Int), .int .u64 (yours : Int), .int .u64 (seq : Int), .int .u64 (ack : Int), .slice sp n c] 33)).alloc (.cells #[.slice none 0 0, .bool false, .bool false, .bool false] 129)).alloc (.cells #[.slice none 0 0, .bool false, .bool false, .bool false] 129) = w2 := by rw [hw1]; exact hw2a
  have hb12 : Below w1.heap.size w1 w2 := by rw [← hw2a]; exact (Below.refl _ _).alloc (Nat.le_refl _) _
  have hb2 : Below w.heap.size w w2 := hb1.trans (hb12.mono hb1.size)
  have hk2 := (hb12.block _ (C.lt_of_block hk2a)).trans hk2a
  have hk1 := (hb12.block _ (C.lt_of_block hk1a)).trans hk1a
  have hk3 : w2.heap[w.heap.size + 2]? = some (.cells #[.slice none 0 0, .bool false, .bool false, .bool false] 129 (0, 0)) := by rw [← hs1, ← hw2a]; exact heap_alloc_new _ _
  obtain ⟨c0, c1, c2, c3, c4, c5, c6, -⟩ := blk7 hk1
  obtain ⟨l0, l1, -, l4, -⟩ := blk14 (h.db.kept (hb2.block b (C.lt_of_block h.db)))
  have HMq : Hid (∀ d os, Calls Tryz.prog 100 #[.agg #[.int .i64 L.other, .int .i64 L.me, .int .u64 (mine : Int), .int .u64 (yours : Int), .int .u64 (seq : Int), .int .u64 (ack : Int), .slice sp n c]] (grow (redrawn w2 d) os) fun e w'' => e = .returned (.bool true) ∧ ∃ p : Regrown, w'' = grow (redrawn w2 p.d) p.os) := fun d os => Calls.regrown_of (HM.out _)
  have e0 := cell_regrown c0
  have e1 := cell_regrown c1
  have e2 := cell_regrown c2
  have e3 := cell_regrown c3
  have e4 := cell_regrown c4
  have e5 := cell_regrown c5
  have e6 := cell_regrown c6
  have g0 := cell_regrown l0
  have g1 := cell_regrown l1
  have g4 := cell_regrown l4
  have HW := hide hw2
  have HEnd : Hid (∀ dq osq, ∃ w3, grow (redrawn w2 dq) osq = w3 ∧ D5 w w3 K kd kb b L rv m t #[.int .i64 L.other, .int .i64 L.me, .int .u64 (mine : Int), .int .u64 (yours : Int), .int .u64 (seq : Int), .int .u64 (ack : Int), .slice sp n c] #[.slice none 0 0, .bool false, .bool false, .bool false]) := fun dq osq => by
    have hb := below_regrown w2 dq osq
    have hb' : Below w.heap.size w (grow (redrawn w2 dq) osq) := hb2.trans (hb.mono hb2.size)
    exact ⟨_, rfl, h.db.kept (hb'.block _ hlt), (hb.block _ (C.lt_of_block hk1)).trans hk1, (hb.block _ (C.lt_of_block hk2)).trans hk2, (hb.block _ (C.lt_of_block hk3)).trans hk3, C.but_of hb' b, hlt, h.row, fun g hg => ⟨h.kr g hg, fun e => h.d0.ne (by rw [hg, e])⟩, h.con, h.pc⟩
  have HX := hide hx
  have HXn := hide hn
  have HXk := hide hxk
  have HKk := hide hkk
  have HKb := hide h.kind
  have HNu := hide hN
  have HHd := hide hhd
  have HF := hide (fun w => fresh_d w m h.pc.m1 h.pc.m2)
  have hle' : ¬ (mine : Int) < (L.known : Int) := by omega
  have hz : ∀ (z : Int), (z != z) = false := fun z => by simp
  clear h hw2 hw2a hw1 hs1 hb1 hb12 hk1a hk2a hk1 hk2 hk3 hb2 c0 c1 c2 c3 c4 c5 c6 l0 l1 l4 HM hx hn hxk hkk hN hhd hok hlt
  go_enter Tryz.func59, Tryz.ntmps59
  go_upto_region 2 with (fail)
  rw [HW.out]
  refine wp_region_quiet_below (by kernel_rfl) (by kernel_rfl) ?_
  repeat (go_big_quiet_step (first | (go_at_call 100; exact HMq.out _ _)))
  refine wpQuiet_nil ?_
  intro w3 hw'
  obtain ⟨⟨dq, osq⟩, hw''⟩ := hw'
  obtain ⟨wq, hwq, h3⟩ := HEnd.out dq osq
  rw [hwq] at hw''
  rw [← hw''] at h3
  have H3 := hide h3
  clear h3 hw'' hwq HEnd HMq HW e0 e1 e2 e3 e4 e5 e6 g0 g1 g4
  obtain ⟨d2, d3, d4, d5, d6⟩ := blk7f H3.out.fr
  obtain ⟨-, -, -, l3, -⟩ := blk14 H3.out.db
  have i3 : (L.known : Int) < (mine : Int) ∨ ¬ (L.known : Int) < (mine : Int) := by omega
  go_upto_region 4 with (fail)
  go_quiet (fail)
  have Hd := hide (H3.out.drewN nq)
  generalize w3.drewN nq = w4 at *
  clear d2 d3 d4 d5 d6 l3 H3
  go_upto_if 43 with (fail)
  go_cut [] from 37 to 73 (fun wc => Hid (∃ rv1 t1, D5 w wc K kd kb b (hear1 L mine) rv1 m t1 #[.int .i64 L.other, .int .i64 L.me, .int .u64 (mine : Int), .int .u64 (yours : Int), .int .u64 (seq : Int), .int .u64 (ack : Int), .slice sp n c] #[.slice none 0 0, .bool false, .bool (decide (L.known < mine)), .bool false] ∧ t1 ≤ t))
  case first =>
    obtain ⟨d2, d3, d4, d5, d6⟩ := blk7f Hd.out.fr
    obtain ⟨-, -, -, n3, -, n5, n6, n7, n8, n9, n10, n11, -, -, nf⟩ := blk14 Hd.out.db
    have hbl := C.lt_of_block Hd.out.db
    by_cases han : L.known < mine
    · have ha' : (L.known : Int) < (mine : Int) := by omega
      have HA : Hid (decide (L.known < mine) = true) := decide_eq_true han
      have HH1 : Hid (hear1 L mine = lreset (lanew L mine)) := by show _ = _; unfold hear1; rw [if_pos han]
      clear han
      go_upto_region 11 with (fail)
      obtain ⟨w5, hw5⟩ : ∃ w5, (((((w4.setCell ⟨b, 3, none⟩ (.int .u64 (mine : Int))).setCell ⟨b, 5, none⟩ (.slice none 0 0)).setCell ⟨b, 6, none⟩ (.int .u64 1)).setCell ⟨b, 7, none⟩ (.int .u64 0)).setCell ⟨b, 8, none⟩ (.int .u64 1)).setCell ⟨b, 11, none⟩ (.bool false) = w5 := ⟨_, rfl⟩
      rw [hw5]
      have h5 := Hd.out.anew mine
      rw [hw5] at h5
      have H5 : Hid (D5 w w5 K kd kb b (lanew L mine) (.slice none 0 0) m t #[.int .i64 L.other, .int .i64 L.me, .int .u64 (mine : Int), .int .u64 (yours : Int), .int .u64 (seq : Int), .int .u64 (ack : Int), .slice sp n c] #[.slice none 0 0, .bool false, .bool false, .bool false]) := Hd.out.onl h5.1 h5.2 (Drow.nil w K kb) (fun g hg => by simp [Value.ownBlock] at hg) ⟨(Lcon.anew L mine).p4, (Lcon.anew L mine).p5⟩ ⟨Hd.out.pc.lim, Hd.out.pc.m1, Hd.out.pc.m2, Hd.out.pc.left, Hd.out.pc.gap⟩
      clear hw5 h5 d2 d3 d4 d5 d6 n3 n5 n6 n7 n8 n9 n10 n11 nf hbl Hd
      obtain ⟨-, -, -, -, -, -, -, -, -, n9, n10, -, -, -, nf⟩ := blk14 H5.out.db
      have hbl := C.lt_of_block H5.out.db
      go_wp2_with fail
      refine (HF.out w5).mono ?_
      rintro e w6 ⟨rfl, hb6⟩
      have H6 := hide (H5.out.below hb6)
      clear hb6 n9 n10 nf hbl H5
      obtain ⟨-, -, -, -, -, -, -, -, -, n9, n10, -, -, -, nf⟩ := blk14 H6.out.db
      have hbl := C.lt_of_block H6.out.db
      obtain ⟨x0, x1, x2, x3, xf⟩ := blk4 H6.out.hd
      have hxl := C.lt_of_block H6.out.hd
      have HE : Hid (D5 w (((w6.setCell ⟨b, 9, none⟩ (.int .i64 (m : Int))).setCell ⟨b, 10, none⟩ (.int .i64 0)).setCell ⟨w.heap.size + 2, 2, none⟩ (.bool true)) K kd kb b (hear1 L mine) (.slice none 0 0) m 0 #[.int .i64 L.other, .int .i64 L.me, .int .u64 (mine : Int), .int .u64 (yours : Int), .int .u64 (seq : Int), .int .u64 (ack : Int), .slice sp n c] #[.slice none 0 0, .bool false, .bool (decide (L.known < mine)), .bool false]) := by
        have s1 : Db (w6.setCell ⟨b, 9, none⟩ (.int .i64 (m : Int))) b (lanew L mine) (.slice none 0 0) m t := H6.out.db.set 9 _ rfl
        have s2 : Db ((w6.setCell ⟨b, 9, none⟩ (.int .i64 (m : Int))).setCell ⟨b, 10, none⟩ (.int .i64 0)) b (lreset (lanew L mine)) (.slice none 0 0) m 0 := s1.set 10 _ rfl
        have s3 := H6.out.onl s2 (((Onl.refl b w6).set 9 _).set 10 _) (Drow.nil w K kb) (fun g hg => by simp [Value.ownBlock] at hg) (Lcon.anew L mine) ⟨H6.out.pc.lim, H6.out.pc.m1, H6.out.pc.m2, rfl, rfl⟩
        have s4 := s3.hset 2 (.bool true)
        rw [HA.out, HH1.out]
        exact s4
      go_wp2_with fail
      go_meet
      exact hide ⟨_, 0, HE.out, Nat.zero_le _⟩
    · have ha' : ¬ (L.known : Int) < (mine : Int) := by omega
      have HA : Hid (decide (L.known < mine) = false) := decide_eq_false han
      have HH1 : Hid (hear1 L mine = L) := by show _ = _; unfold hear1; rw [if_neg han]
      clear han
      go_wp2_with fail
      go_meet
      exact hide ⟨rv, t, by rw [HA.out, HH1.out]; exact Hd.out, Nat.le_refl _⟩
  case rest =>
    obtain ⟨rv1, t1, h6, ht1⟩ := hcut.out
    have H6 := hide h6
    have HT1 := hide ht1
    clear h6 ht1 hcut Hd HF i3 hle'
    obtain ⟨w6, hw6⟩ : ∃ w6, wc = w6 := ⟨_, rfl⟩
    rw [hw6] at H6 ⊢
    clear hw6
    have HLi : Hid ((hear1 L mine).life = L.life) := by show _ = _; unfold hear1; split <;> rfl
    have HRw : Hid ((hear1 L mine).numbered ≤ 1099511627776) := by show _ ≤ _; unfold hear1; split; exact Nat.zero_le _; exact HNu.out
    have HHh : Hid ((hear1 L mine).handed ≤ 1099511627776) := by show _ ≤ _; unfold hear1; split; exact Nat.zero_le _; exact HHd.out
    obtain ⟨an, han⟩ : ∃ an, decide (L.known < mine) = an := ⟨_, rfl⟩
    rw [han] at H6
    by_cases hri : yours = L.life
    · have HY : Hid (decide (yours = L.life) = true) := decide_eq_true hri
      have HHl : Hid (hrL L mine yours seq ack = bodyL (ackL { hear1 L mine with paced := false } ack) seq) := by show _ = _; unfold hrL; rw [if_pos hri]
      have HHb : Hid (hrH L mine yours seq ack = handN (ackL { hear1 L mine with paced := false } ack) seq) := by show _ = _; unfold hrH; rw [decide_eq_true hri, Bool.true_and]
      have hr' : ((yours : Int) != (L.life : Int)) = false := by simp; omega
      have HAn := hide han
      have HPost : Hid (∀ w' a mm, (Bytes w' a (if handN (ackL { hear1 L mine with paced := false } ack) seq = true then body else [])) → (mm = if handN (ackL { hear1 L mine with paced := false } ack) seq = true then body.length else 0) → (∀ p, a = some p → w.heap.size ≤ p.block) → (∃ rv t', Dk w' (ext K w.heap.size kd) kd kb b (bodyL (ackL { hear1 L mine with paced := false } ack) seq) rv m t' ∧ t' ≤ t) → Kp (fun q => q = kd) K (ext K w.heap.size kd) w w' → DhPost w K kd kb b L m t mine yours seq ack body w' a mm) := fun w' a mm q1 q2 q5 q3 q4 => ⟨by rw [HHb.out]; exact q1, by rw [HHb.out]; exact q2, q5, by rw [HHl.out]; exact q3, q4⟩
      clear hri han HHl
      generalize hear1 L mine = L1 at *
      obtain ⟨d2, d3, d4, d5, d6⟩ := blk7f H6.out.fr
      obtain ⟨-, -, l2, -⟩ := blk14 H6.out.db
      rw [HLi.out] at l2
      go_upto_region 13 with (fail)
      go_quiet (fail)
      have Hf := hide (H6.out.drewN nq)
      generalize w6.drewN nq = w7 at *
      clear d2 d3 d4 d5 d6 l2 H6
      obtain ⟨-, -, -, -, -, -, -, -, -, -, -, -, -, n13, nf⟩ := blk14 Hf.out.db
      have hbl := C.lt_of_block Hf.out.db
      obtain ⟨x0, x1, x2, x3, xf⟩ := blk4 Hf.out.hd
      have hxl := C.lt_of_block Hf.out.hd
      have hne : ¬ b = w.heap.size + 2 := by have := Hf.out.lt; omega
      have H8 : Hid (D5 w ((w7.setCell ⟨w.heap.size + 2, 3, none⟩ (.bool true)).setCell ⟨b, 13, none⟩ (.bool false)) K kd kb b { L1 with paced := false } rv1 m t1 #[.int .i64 L.other, .int .i64 L.me, .int .u64 (mine : Int), .int .u64 (yours : Int), .int .u64 (seq : Int), .int .u64 (ack : Int), .slice sp n c] #[.slice none 0 0, .bool false, .bool an, .bool true]) := (Hf.out.hset 3 (.bool true)).word false
      go_upto_block 0 with (fail)
      generalize (w7.setCell ⟨w.heap.size + 2, 3, none⟩ (.bool true)).setCell ⟨b, 13, none⟩ (.bool false) = w8 at *
      clear Hf n13 nf hbl x0 x1 x2 x3 xf hxl hne
      have HRw2 : Hid (({ L1 with paced := false } : Lk).numbered ≤ 1099511627776) := HRw.out
      have HHh2 : Hid (({ L1 with paced := false } : Lk).handed ≤ 1099511627776) := HHh.out
      clear HRw HHh HLi
      generalize ({ L1 with paced := false } : Lk) = L2 at *
      go_cut [] from 89 to 127 (fun wc => Hid (∃ rv2, D5 w wc K kd kb b (ackL L2 ack) rv2 m t1 #[.int .i64 L.other, .int .i64 L.me, .int .u64 (mine : Int), .int .u64 (yours : Int), .int .u64 (seq : Int), .int .u64 (ack : Int), .slice sp n c] #[.slice none 0 0, .bool false, .bool an, .bool true]))
      case first =>
        obtain ⟨q, hq⟩ : ∃ q, L2.row.length = q := ⟨_, rfl⟩
        have HQ := hide hq
        clear hq
        go_wp2_with fail
        go_loopg [] q (fun k wr => ∃ (j : Nat) (rvj : Value), j + k = q ∧ Hid (D5 w wr K kd kb b (dropL L2 j) rvj m t1 #[.int .i64 L.other, .int .i64 L.me, .int .u64 (mine : Int), .int .u64 (yours : Int), .int .u64 (seq : Int), .int .u64 (ack : Int), .slice sp n c] #[.slice none 0 0, .bool false, .bool an, .bool true]) ∧ Hid (∀ i x, i < j → L2.row[i]? = some x → x.1 ≤ ack) ∧ Hid (0 < j → ack ≤ L2.gone))
        case atStart => exact ⟨0, rv1, by omega, H8, fun i x hi => by omega, fun hi => by omega⟩
        case round =>
          obtain ⟨j, rvj, hj, HD, HI, HG⟩ := hrel
          have hlen : (dropL L2 j).row.length = gk := by
            show (L2.row.drop j).length = gk
            rw [List.length_drop, HQ.out]; omega
          have hp5 := HD.out.con.p5
          rw [hlen] at hp5
          have hnu : (dropL L2 j).numbered = L2.numbered := rfl
          rw [hnu] at hp5
          obtain ⟨a, cap, hrv, hcap, hcm, hsome⟩ := HD.out.row.form
          rw [hlen] at hrv hcap hsome
          obtain ⟨d2, d3, d4, d5, d6⟩ := blk7f HD.out.fr
          obtain ⟨-, -, -, -, -, n5, n6, n7, -, -, -, -, -, -, nf⟩ := blk14 HD.out.db
          have hbl := C.lt_of_block HD.out.db
          rw [hlen, hnu] at n6
          have hgo : (dropL L2 j).gone = L2.gone := rfl
          rw [hgo] at n7
          rw [hrv] at n5
          obtain ⟨F, hF⟩ : ∃ F, L2.numbered - gk + 1 = F := ⟨_, rfl⟩
          rw [hF] at n6
          have HFe := hide hF
          have hFb : F ≤ 1099511627777 := by have := HRw2.out; omega
          have hgb : gk ≤ 1099511627776 := by have := HRw2.out; omega
          have HLen := hide hlen
          have HRv := hide hrv
          have HNr := hide hnu
          have hj' := hide hj
          clear hF hlen hrv hp5 hnu hgo hj
          by_cases g1 : ack ≤ L2.gone
          · have i1 : (ack : Int) ≤ (L2.gone : Int) := by omega
            by_cases g2 : F ≤ ack
            · have i2 : (F : Int) ≤ (ack : Int) := by omega
              by_cases g3 : 0 < gk
              · have i3 : (0 : Int) < (gk : Int) := by omega
                obtain ⟨g, o, ha⟩ := hsome g3
                subst ha
                have i4 : (1 : Int) ≤ (gk : Int) := by omega
                have i5 : (gk : Int) ≤ (cap : Int) := by omega
                have i6 : (1 : Int) ≤ (cap : Int) := by omega
                have HG1 := hide g1
                have HG2 := hide g2
                clear g1 g2 hsome
                have HStep : Hid (∀ (wx : World) (rv' : Value), D5 w wx K kd kb b (dropL L2 j) (.slice (some ⟨g, o, none⟩) gk cap) m t1 #[.int .i64 L.other, .int .i64 L.me, .int .u64 (mine : Int), .int .u64 (yours : Int), .int .u64 (seq : Int), .int .u64 (ack : Int), .slice sp n c] #[.slice none 0 0, .bool false, .bool an, .bool true] → (rv' = .slice (some ⟨g, o + 1, none⟩) (gk - 1) (cap - 1) ∨ (rv' = .slice (some ⟨g, o, none⟩) 0 0 ∧ gk = 1)) → ∃ (j' : Nat) (rvj' : Value), j' + (gk - 1) = q ∧ Hid (D5 w ((wx.setCell ⟨b, 5, none⟩ rv').setCell ⟨b, 6, none⟩ (.int .u64 ((F : Int) + 1))) K kd kb b (dropL L2 j') rvj' m t1 #[.int .i64 L.other, .int .i64 L.me, .int .u64 (mine : Int), .int .u64 (yours : Int), .int .u64 (seq : Int), .int .u64 (ack : Int), .slice sp n c] #[.slice none 0 0, .bool false, .bool an, .bool true]) ∧ Hid (∀ i x, i < j' → L2.row[i]? = some x → x.1 ≤ ack) ∧ Hid (0 < j' → ack ≤ L2.gone)) := by
                  intro wx rv' hx hr
                  have e1 : dropL (dropL L2 j) 1 = dropL L2 (j + 1) := by unfold dropL; simp [List.drop_drop]
                  have hl0 : 0 < (dropL L2 j).row.length := by rw [HLen.out]; exact g3
                  have h1 := hx.dropped hl0 (hx.row.tail HLen.out g3 rv' hr) (by rcases hr with rfl | ⟨rfl, _⟩ <;> rfl)
                  rw [e1, HLen.out, HNr.out, HFe.out] at h1
                  have hjj := hj'.out
                  refine ⟨j + 1, rv', by omega, h1, fun i x hi hx' => ?_, fun _ => HG1.out⟩
                  by_cases hij : i < j
                  · exact HI.out i x hij hx'
                  · obtain rfl : i = j := by omega
                    have h4 : (dropL L2 i).row[0]? = some x := by
                      show (L2.row.drop i)[0]? = some x
                      rw [List.getElem?_drop]; exact hx'
                    have h5 := hx.con.p4 0 x h4
                    rw [HLen.out, HNr.out] at h5
                    have h6 := HFe.out
                    have h7 := HG2.out
                    have h8 := hx.con.p5
                    rw [HLen.out, HNr.out] at h8
                    omega
                have HDr : Hid (∀ q, D5 w (wr.drewN q) K kd kb b (dropL L2 j) (.slice (some ⟨g, o, none⟩) gk cap) m t1 #[.int .i64 L.other, .int .i64 L.me, .int .u64 (mine : Int), .int .u64 (yours : Int), .int .u64 (seq : Int), .int .u64 (ack : Int), .slice sp n c] #[.slice none 0 0, .bool false, .bool an, .bool true]) := fun q => by rw [← HRv.out]; exact HD.out.drewN q
                go_upto_region 18 with (fail)
                go_quiet (fail)
                have HD9 := hide (HDr.out nq)
                generalize wr.drewN nq = w9 at *
                clear d2 d3 d4 d5 d6 n5 n6 n7 nf hbl HD HDr
                obtain ⟨-, -, -, -, -, n5, n6, -, -, -, -, -, -, -, nf⟩ := blk14 HD9.out.db
                rw [HLen.out, HNr.out, HFe.out] at n6
                have hbl := C.lt_of_block HD9.out.db
                by_cases hc1 : cap = 1
                · have hg1 : gk = 1 := by omega
                  have HS1 := hide (HStep.out w9 _ HD9.out (Or.inr ⟨rfl, hg1⟩))
                  subst hc1
                  subst hg1
                  go_wp2
                  go_roundg 0
                  case measure => omega
                  case rel => exact HS1.out
                · have hc2 : 1 < cap := by omega
                  have HS1 := hide (HStep.out w9 _ HD9.out (Or.inl rfl))
                  go_wp2
                  go_roundg (gk - 1)
                  case measure => omega
                  case rel => exact HS1.out
              · have i3 : ¬ (0 : Int) < (gk : Int) := by omega
                have HEx : Hid (∀ q, D5 w (wr.drewN q) K kd kb b (ackL L2 ack) rvj m t1 #[.int .i64 L.other, .int .i64 L.me, .int .u64 (mine : Int), .int .u64 (yours : Int), .int .u64 (seq : Int), .int .u64 (ack : Int), .slice sp n c] #[.slice none 0 0, .bool false, .bool an, .bool true]) := fun q => by
                  have hc : cnt ack L2.row = j := cnt_at ack L2.row j (by have := hj'.out; have := HQ.out; omega) HI.out (fun x hx => by have := (List.getElem?_eq_some_iff.1 hx).1; have := hj'.out; have := HQ.out; omega)
                  have e : ackL L2 ack = dropL L2 j := by unfold ackL goneL dropL; rw [if_pos g1, hc]
                  rw [e]; exact HD.out.drewN q
                clear g1 g2 g3
                go_upto_region 18 with (fail)
                go_quiet (fail)
                go_wp2
                go_meet
                exact hide ⟨rvj, HEx.out _⟩
            · have i2 : ¬ (F : Int) ≤ (ack : Int) := by omega
              have HEx : Hid (∀ q, D5 w (wr.drewN q) K kd kb b (ackL L2 ack) rvj m t1 #[.int .i64 L.other, .int .i64 L.me, .int .u64 (mine : Int), .int .u64 (yours : Int), .int .u64 (seq : Int), .int .u64 (ack : Int), .slice sp n c] #[.slice none 0 0, .bool false, .bool an, .bool true]) := fun q => by
                have hc : cnt ack L2.row = j := cnt_at ack L2.row j (by have := hj'.out; have := HQ.out; omega) HI.out (fun x hx => by
                  have h4 : (dropL L2 j).row[0]? = some x := by
                    show (L2.row.drop j)[0]? = some x
                    rw [List.getElem?_drop]; exact hx
                  have h5 := HD.out.con.p4 0 x h4
                  rw [HLen.out, HNr.out] at h5
                  have h6 := HFe.out
                  have h8 := HD.out.con.p5
                  rw [HLen.out, HNr.out] at h8
                  omega)
                have e : ackL L2 ack = dropL L2 j := by unfold ackL goneL dropL; rw [if_pos g1, hc]
                rw [e]; exact HD.out.drewN q
              clear g1 g2
              go_upto_region 18 with (fail)
              go_quiet (fail)
              go_wp2
              go_meet
              exact hide ⟨rvj, HEx.out _⟩
          · have i1 : ¬ (ack : Int) ≤ (L2.gone : Int) := by omega
            have HEx : Hid (∀ q, D5 w (wr.drewN q) K kd kb b (ackL L2 ack) rvj m t1 #[.int .i64 L.other, .int .i64 L.me, .int .u64 (mine : Int), .int .u64 (yours : Int), .int .u64 (seq : Int), .int .u64 (ack : Int), .slice sp n c] #[.slice none 0 0, .bool false, .bool an, .bool true]) := fun q => by
              have hj0 : j = 0 := by
                rcases Nat.eq_zero_or_pos j with e | e
                · exact e
                · exact absurd (HG.out e) g1
              have e : ackL L2 ack = dropL L2 j := by unfold ackL dropL; rw [if_neg g1, hj0]; rfl
              rw [e]; exact HD.out.drewN q
            clear g1
            go_upto_region 18 with (fail)
            go_quiet (fail)
            go_wp2
            go_meet
            exact hide ⟨rvj, HEx.out _⟩
      case rest =>
        obtain ⟨rv2, h9⟩ := hcut.out
        have H9 := hide h9
        clear h9 hcut H8
        obtain ⟨w9, hw9⟩ : ∃ w9, wc = w9 := ⟨_, rfl⟩
        rw [hw9] at H9 ⊢
        clear hw9
        have HAk : Hid ((ackL L2 ack).handed ≤ 1099511627776) := by
          show _ ≤ _
          unfold ackL
          split
          · exact HHh2.out
          · exact HHh2.out
        clear HRw2 HHh2
        generalize ackL L2 ack = L3 at *
        obtain ⟨d2, d3, d4, d5, d6⟩ := blk7f H9.out.fr
        have hnb : ¬ b = w.heap.size + 1 := by have := H9.out.lt; omega
        have hnc : ¬ b = w.heap.size + 2 := by have := H9.out.lt; omega
        by_cases hs0 : seq = 0
        · have i1 : ((seq : Int) != 0) = false := by simp [hs0]
          have HBL : Hid (bodyL L3 seq = L3) := by show _ = _; unfold bodyL; rw [if_pos hs0]
          have HHN : Hid (handN L3 seq = false) := decide_eq_false (by omega)
          obtain ⟨x0, x1, x2, x3, xf⟩ := blk4 H9.out.hd
          obtain ⟨y0, y1, y2, y3, yf⟩ := blk4 H9.out.rs
          have hyl := C.lt_of_block H9.out.rs
          clear hs0
          go_wp2
          obtain ⟨wz, hwz, hkz, hdk, hkp, hoz⟩ := H9.out.put HKk.out HKb.out (.slice none 0 0) (.bool false) (.bool an) (.bool true)
          rw [hwz]
          refine bodyPost_ret (results_cell_row rfl _ _ (w.heap.size + 1) 129 _ (0, 0) _ rfl hkz Tryz.underlying129 rfl (by kernel_rfl)) rfl ?_
          first | exact ⟨none, 0, 0, by rw [HHb.out, HHN.out, HAn.out, HY.out], HPost.out wz none 0 (by rw [HHN.out]; exact ⟨fun x hx => by simp at hx, Or.inl rfl⟩) (by rw [HHN.out]; rfl) (fun p e => by cases e) ⟨rv2, t1, by rw [HBL.out]; exact hdk, HT1.out⟩ hkp⟩ | exact ⟨none, 0, ⟨0, by rw [HHb.out, HHN.out, HAn.out, HY.out]⟩, HPost.out wz none 0 (by rw [HHN.out]; exact ⟨fun x hx => by simp at hx, Or.inl rfl⟩) (by rw [HHN.out]; rfl) (fun p e => by cases e) ⟨rv2, t1, by rw [HBL.out]; exact hdk, HT1.out⟩ hkp⟩
        · have i1 : ((seq : Int) != 0) = true := by simp [hs0]
          obtain ⟨-, -, -, -, -, -, -, -, -, -, -, n11, -, -, nf⟩ := blk14 H9.out.db
          have hbl := C.lt_of_block H9.out.db
          have H10 := hide H9.out.acked
          go_upto_region 23 with (fail)
          generalize w9.setCell ⟨b, 11, none⟩ (.bool true) = w10 at *
          clear d2 d3 d4 d5 d6 n11 nf hbl H9
          obtain ⟨d2, d3, d4, d5, d6⟩ := blk7f H10.out.fr
          obtain ⟨-, -, -, -, -, -, -, -, n8, -⟩ := blk14 H10.out.db
          have n8' : w10.cell? ⟨b, 8, none⟩ = some (.int .u64 ((L3.handed : Int) + 1)) := by rw [n8]; simp
          clear n8
          by_cases hs1 : seq = L3.handed + 1
          · have i2 : ((seq : Int) == (L3.handed : Int) + 1) = true := by simp; omega
            have HBL : Hid (bodyL L3 seq = { L3 with ack := true, handed := L3.handed + 1 }) := by show _ = _; unfold bodyL; rw [if_neg hs0, if_pos hs1]
            have HHN : Hid (handN L3 seq = true) := decide_eq_true hs1
            clear hs0 hs1
            go_quiet (fail)
            have H11 := hide (H10.out.drewN nq)
            generalize w10.drewN nq = w11 at *
            clear d2 d3 d4 d5 d6 n8' H10
            obtain ⟨d2, d3, d4, d5, d6⟩ := blk7f H11.out.fr
            have hx11 : Bytes w11 sp body := by
              by_cases hb0 : body = []
              · exact ⟨HX.out.small, Or.inl hb0⟩
              refine ⟨HX.out.small, HX.out.lie.imp id ?_⟩
              rintro ⟨g, o, e, hg, hc⟩
              refine ⟨g, o, e, Nat.lt_of_lt_of_le hg H11.out.but.size, fun j hj => ?_⟩
              rw [← hc j hj]
              exact World.cell?_of_block (a := ⟨g, o + j, none⟩) (H11.out.but.block g hg (fun e' => HXk.out _ e hb0 (by show K g = kd; rw [e']; exact HKb.out)))
            have HCp := hide (copy_any w11 sp n c body HXn.out hx11 (by omega))
            clear hx11
            go_wp2_with fail
            refine HCp.out.mono ?_
            rintro e w12 ⟨a8, c8, rfl, ho8, hb8⟩
            have HO8 := hide ho8
            have HS11 : Hid (w.heap.size + 2 < w11.heap.size) := C.lt_of_block H11.out.hd
            have H12 := hide (H11.out.below hb8)
            clear hb8 ho8 HCp H11 d2 d3 d4 d5 d6
            obtain ⟨-, -, -, -, -, -, -, -, n8, -, -, -, -, -, nf⟩ := blk14 H12.out.db
            have n8' : w12.cell? ⟨b, 8, none⟩ = some (.int .u64 ((L3.handed : Int) + 1)) := by rw [n8]; simp
            clear n8
            have hbl := C.lt_of_block H12.out.db
            have hhk := HAk.out
            obtain ⟨x0, x1, x2, x3, xf⟩ := blk4 H12.out.hd
            have hxl := C.lt_of_block H12.out.hd
            have H13 := hide ((H12.out.hset 0 (.slice a8 n c8)).hset 1 (.bool true)).expect
            have e13 : (((({ L3 with ack := true } : Lk).handed + 1 : Nat) : Int) + 1) = (L3.handed : Int) + 1 + 1 := by simp
            rw [e13] at H13
            have HK13 : Hid (∀ g, w11.heap.size ≤ g → (((w12.setCell ⟨w.heap.size + 2, 0, none⟩ (.slice a8 n c8)).setCell ⟨w.heap.size + 2, 1, none⟩ (.bool true)).setCell ⟨b, 8, none⟩ (.int .u64 ((L3.handed : Int) + 1 + 1))).heap[g]? = w12.heap[g]?) := fun g hg => by
              have := HS11.out
              have := H12.out.lt
              rw [Below.heap_setCell _ _ _ _ (show g ≠ b by omega), Below.heap_setCell _ _ _ _ (show g ≠ w.heap.size + 2 by omega), Below.heap_setCell _ _ _ _ (show g ≠ w.heap.size + 2 by omega)]
            go_upto_region 27 with (fail)
            generalize ((w12.setCell ⟨w.heap.size + 2, 0, none⟩ (.slice a8 n c8)).setCell ⟨w.heap.size + 2, 1, none⟩ (.bool true)).setCell ⟨b, 8, none⟩ (.int .u64 ((L3.handed : Int) + 1 + 1)) = w13 at *
            clear n8' nf hbl x0 x1 x2 x3 xf hxl e13
            obtain ⟨x0, x1, x2, x3, xf⟩ := blk4 H13.out.hd
            obtain ⟨y0, y1, y2, y3, yf⟩ := blk4 H13.out.rs
            have hyl := C.lt_of_block H13.out.rs
            go_wp2
            obtain ⟨wz, hwz, hkz, hdk, hkp, hoz⟩ := H13.out.put HKk.out HKb.out (.slice a8 n c8) (.bool true) (.bool an) (.bool true)
            rw [hwz]
            refine bodyPost_ret (results_cell_row rfl _ _ (w.heap.size + 1) 129 _ (0, 0) _ rfl hkz Tryz.underlying129 rfl (by kernel_rfl)) rfl ?_
            have hby : Bytes wz a8 body := by
              have hs11 := HS11.out
              have ho := HO8.out
              have ho' : wz.ownsRow w11.heap.size 5 1 (.slice a8 n c8) n (C.vals body) := ⟨ho.1, ho.2.imp id (by
                rintro ⟨g, cap, cur, q1, q2, q3, q4⟩
                exact ⟨g, cap, cur, q1, q2, ((hoz g (by omega)).trans (HK13.out g q2)).trans q3, q4⟩)⟩
              exact owns_bytes ho' HX.out.small
            have hlo : ∀ p, a8 = some p → w.heap.size ≤ p.block := fun p e => by
              have hs11 := HS11.out
              rcases HO8.out.2 with ⟨e1, _⟩ | ⟨g, cap, cur, e1, e2, _⟩
              · cases e1; cases e
              · cases e1; cases e; show _ ≤ g; omega
            first | exact ⟨a8, n, c8, by rw [HHb.out, HHN.out, HAn.out, HY.out], HPost.out wz a8 n (by rw [HHN.out]; exact hby) (by rw [HHN.out]; exact HXn.out.symm) hlo ⟨rv2, t1, by rw [HBL.out]; exact hdk, HT1.out⟩ hkp⟩ | exact ⟨a8, n, ⟨c8, by rw [HHb.out, HHN.out, HAn.out, HY.out]⟩, HPost.out wz a8 n (by rw [HHN.out]; exact hby) (by rw [HHN.out]; exact HXn.out.symm) hlo ⟨rv2, t1, by rw [HBL.out]; exact hdk, HT1.out⟩ hkp⟩
          · have i2 : ((seq : Int) == (L3.handed : Int) + 1) = false := by simp; omega
            have HBL : Hid (bodyL L3 seq = { L3 with ack := true }) := by show _ = _; unfold bodyL; rw [if_neg hs0, if_neg hs1]
            have HHN : Hid (handN L3 seq = false) := decide_eq_false hs1
            clear hs0 hs1
            go_quiet (fail)
            have H11 := hide (H10.out.drewN nq)
            generalize w10.drewN nq = w11 at *
            clear d2 d3 d4 d5 d6 n8' H10
            obtain ⟨x0, x1, x2, x3, xf⟩ := blk4 H11.out.hd
            obtain ⟨y0, y1, y2, y3, yf⟩ := blk4 H11.out.rs
            have hyl := C.lt_of_block H11.out.rs
            go_wp2
            obtain ⟨wz, hwz, hkz, hdk, hkp, hoz⟩ := H11.out.put HKk.out HKb.out (.slice none 0 0) (.bool false) (.bool an) (.bool true)
            rw [hwz]
            refine bodyPost_ret (results_cell_row rfl _ _ (w.heap.size + 1) 129 _ (0, 0) _ rfl hkz Tryz.underlying129 rfl (by kernel_rfl)) rfl ?_
            first | exact ⟨none, 0, 0, by rw [HHb.out, HHN.out, HAn.out, HY.out], HPost.out wz none 0 (by rw [HHN.out]; exact ⟨fun x hx => by simp at hx, Or.inl rfl⟩) (by rw [HHN.out]; rfl) (fun p e => by cases e) ⟨rv2, t1, by rw [HBL.out]; exact hdk, HT1.out⟩ hkp⟩ | exact ⟨none, 0, ⟨0, by rw [HHb.out, HHN.out, HAn.out, HY.out]⟩, HPost.out wz none 0 (by rw [HHN.out]; exact ⟨fun x hx => by simp at hx, Or.inl rfl⟩) (by rw [HHN.out]; rfl) (fun p e => by cases e) ⟨rv2, t1, by rw [HBL.out]; exact hdk, HT1.out⟩ hkp⟩
    · have HY : Hid (decide (yours = L.life) = false) := decide_eq_false hri
      have HHl : Hid (hrL L mine yours seq ack = { hear1 L mine with paced := true }) := by show _ = _; unfold hrL; rw [if_neg hri]
      have HHb : Hid (hrH L mine yours seq ack = false) := by show _ = _; unfold hrH; rw [decide_eq_false hri, Bool.false_and]
      have hr' : ((yours : Int) != (L.life : Int)) = true := by simp; omega
      have HAn := hide han
      have HPost : Hid (∀ w', (∃ rv t', Dk w' (ext K w.heap.size kd) kd kb b { hear1 L mine with paced := true } rv m t' ∧ t' ≤ t) → Kp (fun q => q = kd) K (ext K w.heap.size kd) w w' → DhPost w K kd kb b L m t mine yours seq ack body w' none 0) := fun w' q3 q4 => ⟨by rw [HHb.out]; exact ⟨fun x hx => by simp at hx, Or.inl rfl⟩, by rw [HHb.out]; rfl, (fun p e => by cases e), by rw [HHl.out]; exact q3, q4⟩
      clear hri han HHl
      generalize hear1 L mine = L1 at *
      obtain ⟨d2, d3, d4, d5, d6⟩ := blk7f H6.out.fr
      obtain ⟨-, -, l2, -⟩ := blk14 H6.out.db
      rw [HLi.out] at l2
      go_upto_region 13 with (fail)
      go_quiet (fail)
      have Hf := hide (H6.out.drewN nq)
      generalize w6.drewN nq = w7 at *
      clear d2 d3 d4 d5 d6 l2 H6
      obtain ⟨-, -, -, -, -, -, -, -, -, -, -, -, -, n13, nf⟩ := blk14 Hf.out.db
      have hbl := C.lt_of_block Hf.out.db
      have H8 := hide (Hf.out.word true)
      go_upto_region 15 with (fail)
      generalize w7.setCell ⟨b, 13, none⟩ (.bool true) = w8 at *
      clear Hf n13 nf hbl
      obtain ⟨x0, x1, x2, x3, xf⟩ := blk4 H8.out.hd
      obtain ⟨y0, y1, y2, y3, yf⟩ := blk4 H8.out.rs
      have hyl := C.lt_of_block H8.out.rs
      go_wp2
      obtain ⟨wz, hwz, hkz, hdk, hkp, hoz⟩ := H8.out.put HKk.out HKb.out (.slice none 0 0) (.bool false) (.bool an) (.bool false)
      rw [hwz]
      refine bodyPost_ret (results_cell_row rfl _ _ (w.heap.size + 1) 129 _ (0, 0) _ rfl hkz Tryz.underlying129 rfl (by kernel_rfl)) rfl ?_
      first | exact ⟨none, 0, 0, by rw [HHb.out, HAn.out, HY.out], HPost.out wz ⟨rv1, t1, hdk, HT1.out⟩ hkp⟩ | exact ⟨none, 0, ⟨0, by rw [HHb.out, HAn.out, HY.out]⟩, HPost.out wz ⟨rv1, t1, hdk, HT1.out⟩ hkp⟩
end Go.Proofs.YtjcdnclfakmbpaaGreatDoor
