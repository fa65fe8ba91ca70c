import Derived.Test.YtjcdnclfakmbpaaGreatDoorHeA
namespace Go.Proofs.YtjcdnclfakmbpaaGreatDoor
open Go.RowKit Go.Sort
structure H4s (w wr : World) (b : Nat) (L : Lk) (rv rv0 : Value) (cs : Array Value) : Prop where
  lw : Lw wr b L rv
  fr : wr.heap[w.heap.size]? = some (.cells cs 33 (0, 0))
  hd : wr.heap[w.heap.size + 1]? = some (.cells #[.slice none 0 0, .bool false, .bool false, .bool false] 127 (0, 0))
  tw : Tw b rv0.ownBlock w wr
  lt : b < w.heap.size
  rb : rv.ownBlock = rv0.ownBlock ∨ rv.ownBlock = none
  r0 : ∀ g, rv0.ownBlock = some g → g < w.heap.size
theorem Tw.trans {b : Nat} {v : Option Nat} {w w1 w2 : World} (h : Tw b v w w1) (k : Tw b v w1 w2) : Tw b v w w2 :=
  ⟨k.os.trans h.os, k.tape.trans h.tape, k.output.trans h.output, Nat.le_trans h.size k.size, fun i hi hb hv => (k.block i (Nat.lt_of_lt_of_le hi h.size) hb hv).trans (h.block i hi hb hv)⟩
theorem Tw.wide {b : Nat} {v : Option Nat} {w w' : World} (h : Tw b none w w') : Tw b v w w' := ⟨h.os, h.tape, h.output, h.size, fun i hi hb _ => h.block i hi hb (by simp)⟩
section
variable {w wr wd : World} {b : Nat} {L L' : Lk} {rv rv0 rv' : Value} {cs : Array Value}
theorem H4s.step (h : H4s w wr b L rv rv0 cs) (hl : Lw wd b L' rv') (ht : Tw b rv.ownBlock wr wd) (hr : rv'.ownBlock = rv.ownBlock ∨ rv'.ownBlock = none) : H4s w wd b L' rv' rv0 cs := by
  have hb := h.lt
  have hn : ∀ k, w.heap.size ≤ k → some k ≠ rv.ownBlock := fun k hk e => by
    rcases h.rb with q | q
    · have := h.r0 k (by rw [← q, ← e]); omega
    · rw [q] at e; cases e
  have ht' : Tw b rv0.ownBlock wr wd := by
    rcases h.rb with q | q
    · rw [← q]; exact ht
    · rw [q] at ht; exact ht.wide
  refine ⟨hl, (ht.block _ (C.lt_of_block h.fr) (by omega) (hn _ (Nat.le_refl _))).trans h.fr, (ht.block _ (C.lt_of_block h.hd) (by omega) (hn _ (Nat.le_succ _))).trans h.hd, h.tw.trans ht', h.lt, ?_, h.r0⟩
  rcases hr with q | q
  · rw [q]; exact h.rb
  · exact Or.inr q
theorem H4s.but (h : H4s w wr b L rv rv0 cs) (hl : Lb wd b L' rv) (hb : C.But b wr wd) (hr : L'.row = L.row) : H4s w wd b L' rv rv0 cs := h.step (h.lw.but hb hl hr) (Tw.of hb) (Or.inl rfl)
theorem H4s.onl (h : H4s w wr b L rv rv0 cs) (hl : Lb wd b L' rv) (ho : Onl b wr wd) (hr : L'.row = L.row) : H4s w wd b L' rv rv0 cs := h.but hl ho.but hr
theorem H4s.drewN (h : H4s w wr b L rv rv0 cs) (q : Nat) : H4s w (wr.drewN q) b L rv rv0 cs := h.but h.lw.lb ⟨rfl, rfl, rfl, Nat.le_refl _, fun _ _ _ => rfl⟩ rfl
theorem H4s.paced (h : H4s w wr b L rv rv0 cs) (p : Bool) : H4s w (wr.setCell ⟨b, 14, none⟩ (.bool p)) b { L with paced := p } rv rv0 cs :=
  h.but (h.lw.lb.set 14 _ _ _ rfl) ((C.But.refl b wr).setCell (p := ⟨b, 14, none⟩) (Or.inl rfl) _) rfl
theorem H4s.anew (h : H4s w wr b L rv rv0 cs) (mine : Nat) : H4s w ((((((wr.setCell ⟨b, 4, none⟩ (.int .u64 (mine : Int))).setCell ⟨b, 5, none⟩ (.slice none 0 0)).setCell ⟨b, 6, none⟩ (.int .u64 0)).setCell ⟨b, 7, none⟩ (.int .u64 0)).setCell ⟨b, 8, none⟩ (.int .u64 0)).setCell ⟨b, 9, none⟩ (.bool false)) b (lanew L mine) (.slice none 0 0) rv0 cs := by
  have h1 : Lb _ b { L with known := mine } rv := h.lw.lb.set 4 (.int .u64 (mine : Int)) _ _ rfl
  have h2 : Lb _ b { L with known := mine } (.slice none 0 0) := h1.set 5 (.slice none 0 0) _ _ rfl
  have h3 : Lb _ b { L with known := mine, numbered := 0 } (.slice none 0 0) := h2.set 6 (.int .u64 0) _ _ rfl
  have h4 : Lb _ b { L with known := mine, numbered := 0, gone := 0 } (.slice none 0 0) := h3.set 7 (.int .u64 0) _ _ rfl
  have h5 : Lb _ b { L with known := mine, numbered := 0, gone := 0, handed := 0 } (.slice none 0 0) := h4.set 8 (.int .u64 0) _ _ rfl
  have h6 : Lb _ b (lanew L mine) (.slice none 0 0) := h5.set 9 (.bool false) _ _ rfl
  have hb := (((((((C.But.refl b wr).setCell (p := ⟨b, 4, none⟩) (Or.inl rfl) (.int .u64 (mine : Int))).setCell (p := ⟨b, 5, none⟩) (Or.inl rfl) (.slice none 0 0)).setCell (p := ⟨b, 6, none⟩) (Or.inl rfl) (.int .u64 0)).setCell (p := ⟨b, 7, none⟩) (Or.inl rfl) (.int .u64 0)).setCell (p := ⟨b, 8, none⟩) (Or.inl rfl) (.int .u64 0)).setCell (p := ⟨b, 9, none⟩) (Or.inl rfl) (.bool false))
  exact h.step ⟨h6, ⟨rfl, Or.inl ⟨rfl, rfl⟩⟩⟩ (Tw.of hb) (Or.inr rfl)
theorem H4s.put (h : H4s w wr b L rv rv0 cs) (y0 y1 y2 y3 : Value) : ∃ wz, ((((wr.setCell ⟨w.heap.size + 1, 0, none⟩ y0).setCell ⟨w.heap.size + 1, 1, none⟩ y1).setCell ⟨w.heap.size + 1, 2, none⟩ y2).setCell ⟨w.heap.size + 1, 3, none⟩ y3) = wz ∧ wz.heap[w.heap.size + 1]? = some (.cells #[y0, y1, y2, y3] 127 (0, 0)) ∧ Lw wz b L rv ∧ Tw b rv0.ownBlock w wz ∧ (∀ g, g ≠ w.heap.size + 1 → wz.heap[g]? = wr.heap[g]?) := by
  have hs : ∀ (W : World) (i : Nat) (v : Value) (g : Nat), g ≠ w.heap.size + 1 → (W.setCell ⟨w.heap.size + 1, i, none⟩ v).heap[g]? = W.heap[g]? := fun W i v g hg => Below.heap_setCell _ _ _ _ hg
  have hk : ∀ g, g ≠ w.heap.size + 1 → ((((wr.setCell ⟨w.heap.size + 1, 0, none⟩ y0).setCell ⟨w.heap.size + 1, 1, none⟩ y1).setCell ⟨w.heap.size + 1, 2, none⟩ y2).setCell ⟨w.heap.size + 1, 3, none⟩ y3).heap[g]? = wr.heap[g]? := fun g hg => by rw [hs _ _ _ g hg, hs _ _ _ g hg, hs _ _ _ g hg, hs _ _ _ g hg]
  have hb := h.lt
  refine ⟨_, rfl, put4z h.hd y0 y1 y2 y3, ⟨h.lw.lb.kept (hk b (by omega)), h.lw.row.same (fun g hg => hk g (fun e => ?_))⟩, ⟨h.tw.os, h.tw.tape, h.tw.output, by simpa [World.setCell] using h.tw.size, fun k hk2 hkb hkv => (hk k (by omega)).trans (h.tw.block k hk2 hkb hkv)⟩, hk⟩
  rcases h.rb with q | q
  · have := h.r0 g (by rw [← q, hg]); omega
  · rw [q] at hg; cases hg
end
def hrL (L : Lk) (mine yours seq ack : Nat) : Lk := if yours = L.life then bodyL (ackL { hear1 L mine with paced := false } ack) seq else { hear1 L mine with paced := true }
def hrH (L : Lk) (mine yours seq ack : Nat) : Bool := decide (yours = L.life) && handN (ackL { hear1 L mine with paced := false } ack) seq
structure HrPost (w : World) (b : Nat) (L : Lk) (rv : Value) (mine yours seq ack : Nat) (xs : List Nat) (w' : World) (a : Option Addr) (m cc : Nat) (rv' : Value) : Prop where
  row : w'.ownsRow w.heap.size 5 1 (.slice a m cc) m (vals (if hrH L mine yours seq ack = true then xs else []))
  len : m = if hrH L mine yours seq ack = true then xs.length else 0
  lw : Lw w' b (hrL L mine yours seq ack) rv'
  tw : Tw b rv.ownBlock w w'
  rb : rv'.ownBlock = rv.ownBlock ∨ rv'.ownBlock = none
set_option maxRecDepth 100000 in
set_option maxHeartbeats 4000000 in
theorem hear_any (w : World) (b : Nat) (L : Lk) (rv : Value) (h : Lw w b L rv) (mine yours seq ack n c : Nat) (sp : Option Addr) (body : List Nat) (hn : body.length = n) (hx : Bytes w sp body) (hspb : ∀ a, sp = some a → a.block ≠ b ∧ some a.block ≠ rv.ownBlock) (hok : rcv L L.other L.me mine yours seq ack body) (hrl : L.row.length ≤ 1099511627776) (hhd : L.handed ≤ 1099511627776) :
    Calls Tryz.prog 58 #[.pointer (some ⟨b, 0, none⟩), .agg #[.int .i64 L.other, .int .i64 L.me, .int .u64 (mine : Int), .int .u64 (yours : Int), .int .u64 (seq : Int), .int .u64 (ack : Int), .slice sp n c]] w fun e w' => ∃ a m cc rv', e = .returned (.agg #[.slice a m cc, .bool (hrH L mine yours seq ack), .bool (decide (L.known < mine)), .bool (decide (yours = L.life))]) ∧ HrPost w b L rv mine yours seq ack body w' a m cc rv' := by
  have hle : L.known ≤ mine := hok.2.2.2
  have hnl : n ≤ 2048 := by rw [← hn]; exact hok.1.2.2.2.2.2.2.1
  have HM := hide (fun w => mayBe_any w ⟨L.other, L.me, mine, yours, seq, ack, body⟩ sp c)
  rw [decide_eq_true hok.1] at HM
  simp only [frV, hn] at HM
  have hlt := C.lt_of_block h.lb
  obtain ⟨w2, hw2⟩ : ∃ w2, (w.alloc (.cells #[.int .i64 L.other, .int .i64 L.me, .int .u64 (mine : Int), .int .u64 (yours : Int), .int .u64 (seq : Int), .int .u64 (ack : Int), .slice sp n c] 33)).alloc (.cells #[.slice none 0 0, .bool false, .bool false, .bool false] 127) = w2 := ⟨_, rfl⟩
  have hb2 : Below w.heap.size w w2 := by rw [← hw2]; exact ((Below.refl _ _).alloc (Nat.le_refl _) _).alloc (by simp) _
  have hk2 : w2.heap[w.heap.size + 1]? = some (.cells #[.slice none 0 0, .bool false, .bool false, .bool false] 127 (0, 0)) := by rw [← hw2]; exact heap_alloc2_new w _ _
  have hk1 : w2.heap[w.heap.size]? = some (.cells #[.int .i64 L.other, .int .i64 L.me, .int .u64 (mine : Int), .int .u64 (yours : Int), .int .u64 (seq : Int), .int .u64 (ack : Int), .slice sp n c] 33 (0, 0)) := by
    rw [← hw2, Below.heap_alloc _ _ _ (by simp)]; exact heap_alloc_new _ _
  obtain ⟨c0, c1, c2, c3, c4, c5, c6, -⟩ := blk7 hk1
  obtain ⟨l0, l1, l2, -, l4, -⟩ := blk15 (h.below hb2).lb
  have HMq : Hid (∀ d os, Calls Tryz.prog 48 #[.agg #[.int .i64 L.other, .int .i64 L.me, .int .u64 (mine : Int), .int .u64 (yours : Int), .int .u64 (seq : Int), .int .u64 (ack : Int), .slice sp n c]] (grow (redrawn w2 d) os) fun e w'' => e = .returned (.bool true) ∧ ∃ p : Regrown, w'' = grow (redrawn w2 p.d) p.os) := fun d os => Calls.regrown_of (HM.out _)
  have e0 := cell_regrown c0
  have e1 := cell_regrown c1
  have e2 := cell_regrown c2
  have e3 := cell_regrown c3
  have e4 := cell_regrown c4
  have e5 := cell_regrown c5
  have e6 := cell_regrown c6
  have g0 := cell_regrown l0
  have g1 := cell_regrown l1
  have g4 := cell_regrown l4
  have HEnd : Hid (∀ dq osq, ∃ w3, grow (redrawn w2 dq) osq = w3 ∧ H4s w w3 b L rv rv #[.int .i64 L.other, .int .i64 L.me, .int .u64 (mine : Int), .int .u64 (yours : Int), .int .u64 (seq : Int), .int .u64 (ack : Int), .slice sp n c]) := fun dq osq => by
    have hb := below_regrown w2 dq osq
    have hb' : Below w.heap.size w (grow (redrawn w2 dq) osq) := hb2.trans (hb.mono hb2.size)
    exact ⟨_, rfl, h.below hb', (hb.block _ (C.lt_of_block hk1)).trans hk1, (hb.block _ (C.lt_of_block hk2)).trans hk2, Tw.of (C.but_of hb' b), hlt, Or.inl rfl, fun g hg => (h.row.lt g hg).2⟩
  have HW := hide hw2
  have HX := hide hx
  have HN := hide hn
  have HSp := hide hspb
  have HRl := hide hrl
  have HHd := hide hhd
  have hle' : ¬ (mine : Int) < (L.known : Int) := by omega
  have hz : ∀ (z : Int), (z != z) = false := fun z => by simp
  clear h hw2 hk1 hk2 hb2 c0 c1 c2 c3 c4 c5 c6 l0 l1 l2 l4 HM hok hx hn hspb hrl hhd
  go_enter Tryz.func58, Tryz.ntmps58
  go_upto_region 1 with (fail)
  rw [HW.out]
  refine wp_region_quiet_below (by kernel_rfl) (by kernel_rfl) ?_
  repeat (go_big_quiet_step (first | (go_at_call 48; exact HMq.out _ _)))
  refine wpQuiet_nil ?_
  intro w3 hw'
  obtain ⟨⟨dq, osq⟩, hw''⟩ := hw'
  obtain ⟨wq, hwq, h3⟩ := HEnd.out dq osq
  rw [hwq] at hw''
  rw [← hw''] at h3
  have H3 := hide h3
  clear h3 hw'' hwq HEnd HMq HW e0 e1 e2 e3 e4 e5 e6 g0 g1 g4
  obtain ⟨d0, d1, d2, d3, d4, d5, d6, -⟩ := blk7 H3.out.fr
  obtain ⟨-, -, m2, -, m4, -⟩ := blk15 H3.out.lw.lb
  by_cases han : L.known < mine
  · have ha' : (L.known : Int) < (mine : Int) := by omega
    have HA : Hid (decide (L.known < mine) = true) := decide_eq_true han
    have HH1 : Hid (hear1 L mine = lreset (lanew L mine)) := by show _ = _; unfold hear1; rw [if_pos han]
    by_cases hri : yours = L.life
    · have hr' : ((yours : Int) != (L.life : Int)) = false := by simp; omega
      have HY : Hid (decide (yours = L.life) = true) := decide_eq_true hri
      have HHl : Hid (hrL L mine yours seq ack = bodyL (ackL { hear1 L mine with paced := false } ack) seq) := by show _ = _; unfold hrL; rw [if_pos hri]
      have HHb : Hid (hrH L mine yours seq ack = handN (ackL { hear1 L mine with paced := false } ack) seq) := by show _ = _; unfold hrH; rw [decide_eq_true hri, Bool.true_and]
      clear hri han
      go_upto_region 3 with (fail)
      go_quiet (fail)
      have Hd := hide (H3.out.drewN nq)
      generalize w3.drewN nq = w4 at *
      clear d0 d1 d2 d3 d4 d5 d6 m2 m4 H3
      obtain ⟨d0, d1, d2, d3, d4, d5, d6, -⟩ := blk7 Hd.out.fr
      obtain ⟨-, -, -, -, n4, n5, n6, n7, n8, n9, -, -, -, -, -, nf⟩ := blk15 Hd.out.lw.lb
      have hbl := C.lt_of_block Hd.out.lw.lb
      go_upto_region 6 with (fail)
      obtain ⟨w5, hw5⟩ : ∃ w5, (((((w4.setCell ⟨b, 4, none⟩ (.int .u64 (mine : Int))).setCell ⟨b, 5, none⟩ (.slice none 0 0)).setCell ⟨b, 6, none⟩ (.int .u64 0)).setCell ⟨b, 7, none⟩ (.int .u64 0)).setCell ⟨b, 8, none⟩ (.int .u64 0)).setCell ⟨b, 9, none⟩ (.bool false) = w5 := ⟨_, rfl⟩
      rw [hw5]
      have H5 := hide (Hd.out.anew mine)
      rw [hw5] at H5
      have HP := hide (preset_any w5 b (lanew L mine) _ H5.out.lw.lb)
      clear hw5 n4 n5 n6 n7 n8 n9 nf d0 d1 d2 d3 d4 d5 d6 hbl Hd
      go_wp2_with fail
      refine HP.out.mono ?_
      rintro e w6 ⟨rfl, hl6, ho6⟩
      have H6 : Hid (H4s w w6 b (hear1 L mine) (.slice none 0 0) rv #[.int .i64 L.other, .int .i64 L.me, .int .u64 (mine : Int), .int .u64 (yours : Int), .int .u64 (seq : Int), .int .u64 (ack : Int), .slice sp n c]) := by
        have h1 : H4s w w6 b (lreset (lanew L mine)) (.slice none 0 0) rv #[.int .i64 L.other, .int .i64 L.me, .int .u64 (mine : Int), .int .u64 (yours : Int), .int .u64 (seq : Int), .int .u64 (ack : Int), .slice sp n c] := H5.out.onl hl6 ho6 rfl
        rw [← HH1.out] at h1
        exact h1
      clear hl6 ho6 HP H5
      obtain ⟨rv1, hrv1⟩ : ∃ rv1 : Value, rv1 = .slice none 0 0 := ⟨_, rfl⟩
      rw [← hrv1] at H6
      clear hrv1
      have HLi : Hid ((hear1 L mine).life = L.life) := by show _ = _; rw [HH1.out]; try rfl
      have HRw : Hid ((hear1 L mine).row.length ≤ 1099511627776) := by show _ ≤ _; rw [HH1.out]; first | exact HRl.out | exact Nat.zero_le _
      have HHh : Hid ((hear1 L mine).handed ≤ 1099511627776) := by show _ ≤ _; rw [HH1.out]; first | exact HHd.out | exact Nat.zero_le _
      generalize hear1 L mine = L1 at *
      obtain ⟨d0, d1, d2, d3, d4, d5, d6, -⟩ := blk7 H6.out.fr
      obtain ⟨-, -, m2, -⟩ := blk15 H6.out.lw.lb
      rw [HLi.out] at m2
      go_upto_region 7 with (fail)
      go_quiet (fail)
      have Hf := hide (H6.out.drewN nq)
      generalize w6.drewN nq = w7 at *
      clear d0 d1 d2 d3 d4 d5 d6 m2 H6
      obtain ⟨d0, d1, d2, d3, d4, d5, d6, -⟩ := blk7 Hf.out.fr
      obtain ⟨-, -, -, -, -, -, -, -, -, -, -, -, -, -, n14, nf⟩ := blk15 Hf.out.lw.lb
      have hbl := C.lt_of_block Hf.out.lw.lb
      obtain ⟨y0, y1, y2, y3, yf⟩ := blk4 Hf.out.hd
      clear y0 y1 y2 y3 yf
      go_upto_region 11 with (fail)
      obtain ⟨w8, hw8⟩ : ∃ w8, w7.setCell ⟨b, 14, none⟩ (.bool false) = w8 := ⟨_, rfl⟩
      rw [hw8]
      have H8 := hide (Hf.out.paced false)
      rw [hw8] at H8
      have HTa := hide (takeAck_any w8 b { L1 with paced := false } rv1 H8.out.lw ack HRw.out)
      have HAk : Hid ((ackL { L1 with paced := false } ack).handed ≤ 1099511627776) := by
        show _ ≤ _
        unfold ackL
        split
        · exact HHh.out
        · exact HHh.out
      clear hw8 Hf n14 nf hbl d0 d1 d2 d3 d4 d5 d6
      obtain ⟨d0, d1, d2, d3, d4, d5, d6, -⟩ := blk7 H8.out.fr
      go_wp2_with fail
      refine HTa.out.mono ?_
      rintro e w9 ⟨rfl, rv2, hl9, ht9, hr9⟩
      have H9 := hide (H8.out.step hl9 ht9 (Or.inl hr9))
      clear hl9 ht9 hr9 HTa H8 d0 d1 d2 d3 d4 d5 d6
      generalize ackL { L1 with paced := false } ack = L2 at *
      obtain ⟨d0, d1, d2, d3, d4, d5, d6, -⟩ := blk7 H9.out.fr
      have hx9 : Bytes w9 sp body := by
        refine ⟨HX.out.small, HX.out.lie.imp id ?_⟩
        rintro ⟨g, o, e, hg, hc⟩
        refine ⟨g, o, e, Nat.lt_of_lt_of_le hg H9.out.tw.size, fun j hj => ?_⟩
        rw [← hc j hj]
        exact World.cell?_of_block (a := ⟨g, o + j, none⟩) (H9.out.tw.block g hg (HSp.out _ e).1 (HSp.out _ e).2)
      have HTb := hide (takeBody_any w9 b L2 rv2 H9.out.lw.lb HAk.out L.other L.me mine yours ack seq sp n c body HN.out hx9 (fun a e => (HSp.out a e).1) (by omega))
      clear hx9
      go_wp2_with fail
      refine HTb.out.mono ?_
      rintro e w10 ⟨a, m, cc, rfl, hp⟩
      have H10 : Hid (H4s w w10 b (bodyL L2 seq) rv2 rv #[.int .i64 L.other, .int .i64 L.me, .int .u64 (mine : Int), .int .u64 (yours : Int), .int .u64 (seq : Int), .int .u64 (ack : Int), .slice sp n c]) := H9.out.but hp.lb hp.but (by unfold bodyL; split; rfl; split <;> rfl)
      have HRow := hide hp.row
      have HLen := hide hp.len
      have HS9 : Hid (w.heap.size + 1 < w9.heap.size) := C.lt_of_block H9.out.hd
      clear hp HTb H9 d0 d1 d2 d3 d4 d5 d6
      obtain ⟨y0, y1, y2, y3, yf⟩ := blk4 H10.out.hd
      have hhb := C.lt_of_block H10.out.hd
      generalize handN L2 seq = HB at *
      go_wp2
      obtain ⟨wz, hwz, hkz, hlz, htz, hoz⟩ := H10.out.put (.slice a m cc) (.bool HB) (.bool true) (.bool true)
      rw [hwz]
      refine bodyPost_ret (results_cell_row rfl _ _ (w.heap.size + 1) 127 _ (0, 0) _ rfl hkz Tryz.underlying127 rfl (by kernel_rfl)) rfl ?_
      refine ⟨a, m, cc, rv2, by rw [HA.out, HY.out, HHb.out], ⟨?_, by rw [HHb.out]; exact HLen.out, by rw [HHl.out]; exact hlz, htz, H10.out.rb⟩⟩
      rw [HHb.out]
      refine ⟨HRow.out.1, HRow.out.2.imp id ?_⟩
      rintro ⟨g, cap, cur, q1, q2, q3, q4⟩
      have hs9 := HS9.out
      exact ⟨g, cap, cur, q1, by omega, (hoz g (by omega)).trans q3, q4⟩
    · have hr' : ((yours : Int) != (L.life : Int)) = true := by simp; omega
      have HY : Hid (decide (yours = L.life) = false) := decide_eq_false hri
      have HHl : Hid (hrL L mine yours seq ack = { hear1 L mine with paced := true }) := by show _ = _; unfold hrL; rw [if_neg hri]
      have HHb : Hid (hrH L mine yours seq ack = false) := by show _ = _; unfold hrH; rw [decide_eq_false hri, Bool.false_and]
      clear hri han
      go_upto_region 3 with (fail)
      go_quiet (fail)
      have Hd := hide (H3.out.drewN nq)
      generalize w3.drewN nq = w4 at *
      clear d0 d1 d2 d3 d4 d5 d6 m2 m4 H3
      obtain ⟨d0, d1, d2, d3, d4, d5, d6, -⟩ := blk7 Hd.out.fr
      obtain ⟨-, -, -, -, n4, n5, n6, n7, n8, n9, -, -, -, -, -, nf⟩ := blk15 Hd.out.lw.lb
      have hbl := C.lt_of_block Hd.out.lw.lb
      go_upto_region 6 with (fail)
      obtain ⟨w5, hw5⟩ : ∃ w5, (((((w4.setCell ⟨b, 4, none⟩ (.int .u64 (mine : Int))).setCell ⟨b, 5, none⟩ (.slice none 0 0)).setCell ⟨b, 6, none⟩ (.int .u64 0)).setCell ⟨b, 7, none⟩ (.int .u64 0)).setCell ⟨b, 8, none⟩ (.int .u64 0)).setCell ⟨b, 9, none⟩ (.bool false) = w5 := ⟨_, rfl⟩
      rw [hw5]
      have H5 := hide (Hd.out.anew mine)
      rw [hw5] at H5
      have HP := hide (preset_any w5 b (lanew L mine) _ H5.out.lw.lb)
      clear hw5 n4 n5 n6 n7 n8 n9 nf d0 d1 d2 d3 d4 d5 d6 hbl Hd
      go_wp2_with fail
      refine HP.out.mono ?_
      rintro e w6 ⟨rfl, hl6, ho6⟩
      have H6 : Hid (H4s w w6 b (hear1 L mine) (.slice none 0 0) rv #[.int .i64 L.other, .int .i64 L.me, .int .u64 (mine : Int), .int .u64 (yours : Int), .int .u64 (seq : Int), .int .u64 (ack : Int), .slice sp n c]) := by
        have h1 : H4s w w6 b (lreset (lanew L mine)) (.slice none 0 0) rv #[.int .i64 L.other, .int .i64 L.me, .int .u64 (mine : Int), .int .u64 (yours : Int), .int .u64 (seq : Int), .int .u64 (ack : Int), .slice sp n c] := H5.out.onl hl6 ho6 rfl
        rw [← HH1.out] at h1
        exact h1
      clear hl6 ho6 HP H5
      obtain ⟨rv1, hrv1⟩ : ∃ rv1 : Value, rv1 = .slice none 0 0 := ⟨_, rfl⟩
      rw [← hrv1] at H6
      clear hrv1
      have HLi : Hid ((hear1 L mine).life = L.life) := by show _ = _; rw [HH1.out]; try rfl
      have HRw : Hid ((hear1 L mine).row.length ≤ 1099511627776) := by show _ ≤ _; rw [HH1.out]; first | exact HRl.out | exact Nat.zero_le _
      have HHh : Hid ((hear1 L mine).handed ≤ 1099511627776) := by show _ ≤ _; rw [HH1.out]; first | exact HHd.out | exact Nat.zero_le _
      generalize hear1 L mine = L1 at *
      obtain ⟨d0, d1, d2, d3, d4, d5, d6, -⟩ := blk7 H6.out.fr
      obtain ⟨-, -, m2, -⟩ := blk15 H6.out.lw.lb
      rw [HLi.out] at m2
      go_upto_region 7 with (fail)
      go_quiet (fail)
      have Hf := hide (H6.out.drewN nq)
      generalize w6.drewN nq = w7 at *
      clear d0 d1 d2 d3 d4 d5 d6 m2 H6
      obtain ⟨d0, d1, d2, d3, d4, d5, d6, -⟩ := blk7 Hf.out.fr
      obtain ⟨-, -, -, -, -, -, -, -, -, -, -, -, -, -, n14, nf⟩ := blk15 Hf.out.lw.lb
      have hbl := C.lt_of_block Hf.out.lw.lb
      obtain ⟨y0, y1, y2, y3, yf⟩ := blk4 Hf.out.hd
      have hhb := C.lt_of_block Hf.out.hd
      go_wp2
      have hp := Hf.out.paced true
      obtain ⟨wz, hwz, hkz, hlz, htz, hoz⟩ := hp.put (.slice none 0 0) (.bool false) (.bool true) (.bool false)
      rw [hwz]
      refine bodyPost_ret (results_cell_row rfl _ _ (w.heap.size + 1) 127 _ (0, 0) _ rfl hkz Tryz.underlying127 rfl (by kernel_rfl)) rfl ?_
      have hpost : HrPost w b L rv mine yours seq ack body wz none 0 0 rv1 := ⟨by rw [HHb.out]; exact ⟨rfl, Or.inl ⟨rfl, rfl⟩⟩, by rw [HHb.out]; rfl, by rw [HHl.out]; exact hlz, htz, hp.rb⟩
      first | exact ⟨none, 0, 0, rv1, by rw [HA.out, HY.out, HHb.out], hpost⟩ | exact ⟨none, 0, 0, by rw [HA.out, HY.out, HHb.out], rv1, hpost⟩
  · have ha' : ¬ (L.known : Int) < (mine : Int) := by omega
    have HA : Hid (decide (L.known < mine) = false) := decide_eq_false han
    have HH1 : Hid (hear1 L mine = L) := by show _ = _; unfold hear1; rw [if_neg han]
    by_cases hri : yours = L.life
    · have hr' : ((yours : Int) != (L.life : Int)) = false := by simp; omega
      have HY : Hid (decide (yours = L.life) = true) := decide_eq_true hri
      have HHl : Hid (hrL L mine yours seq ack = bodyL (ackL { hear1 L mine with paced := false } ack) seq) := by show _ = _; unfold hrL; rw [if_pos hri]
      have HHb : Hid (hrH L mine yours seq ack = handN (ackL { hear1 L mine with paced := false } ack) seq) := by show _ = _; unfold hrH; rw [decide_eq_true hri, Bool.true_and]
      clear hri han
      go_upto_region 3 with (fail)
      go_quiet (fail)
      have Hd := hide (H3.out.drewN nq)
      generalize w3.drewN nq = w4 at *
      clear d0 d1 d2 d3 d4 d5 d6 m2 m4 H3
      have H6 : Hid (H4s w w4 b (hear1 L mine) rv rv #[.int .i64 L.other, .int .i64 L.me, .int .u64 (mine : Int), .int .u64 (yours : Int), .int .u64 (seq : Int), .int .u64 (ack : Int), .slice sp n c]) := by show H4s _ _ _ _ _ _ _; rw [HH1.out]; exact Hd.out
      obtain ⟨w6, hw6⟩ : ∃ w6, w4 = w6 := ⟨_, rfl⟩
      subst hw6
      obtain ⟨rv1, hrv1⟩ : ∃ rv1 : Value, rv1 = rv := ⟨_, rfl⟩
      rw [show H4s w w4 b (hear1 L mine) rv rv #[.int .i64 L.other, .int .i64 L.me, .int .u64 (mine : Int), .int .u64 (yours : Int), .int .u64 (seq : Int), .int .u64 (ack : Int), .slice sp n c] = H4s w w4 b (hear1 L mine) rv1 rv #[.int .i64 L.other, .int .i64 L.me, .int .u64 (mine : Int), .int .u64 (yours : Int), .int .u64 (seq : Int), .int .u64 (ack : Int), .slice sp n c] by rw [hrv1]] at H6
      clear hrv1 Hd
      have HLi : Hid ((hear1 L mine).life = L.life) := by show _ = _; rw [HH1.out]; try rfl
      have HRw : Hid ((hear1 L mine).row.length ≤ 1099511627776) := by show _ ≤ _; rw [HH1.out]; first | exact HRl.out | exact Nat.zero_le _
      have HHh : Hid ((hear1 L mine).handed ≤ 1099511627776) := by show _ ≤ _; rw [HH1.out]; first | exact HHd.out | exact Nat.zero_le _
      generalize hear1 L mine = L1 at *
      obtain ⟨d0, d1, d2, d3, d4, d5, d6, -⟩ := blk7 H6.out.fr
      obtain ⟨-, -, m2, -⟩ := blk15 H6.out.lw.lb
      rw [HLi.out] at m2
      go_upto_region 7 with (fail)
      go_quiet (fail)
      have Hf := hide (H6.out.drewN nq)
      generalize w4.drewN nq = w7 at *
      clear d0 d1 d2 d3 d4 d5 d6 m2 H6
      obtain ⟨d0, d1, d2, d3, d4, d5, d6, -⟩ := blk7 Hf.out.fr
      obtain ⟨-, -, -, -, -, -, -, -, -, -, -, -, -, -, n14, nf⟩ := blk15 Hf.out.lw.lb
      have hbl := C.lt_of_block Hf.out.lw.lb
      obtain ⟨y0, y1, y2, y3, yf⟩ := blk4 Hf.out.hd
      clear y0 y1 y2 y3 yf
      go_upto_region 11 with (fail)
      obtain ⟨w8, hw8⟩ : ∃ w8, w7.setCell ⟨b, 14, none⟩ (.bool false) = w8 := ⟨_, rfl⟩
      rw [hw8]
      have H8 := hide (Hf.out.paced false)
      rw [hw8] at H8
      have HTa := hide (takeAck_any w8 b { L1 with paced := false } rv1 H8.out.lw ack HRw.out)
      have HAk : Hid ((ackL { L1 with paced := false } ack).handed ≤ 1099511627776) := by
        show _ ≤ _
        unfold ackL
        split
        · exact HHh.out
        · exact HHh.out
      clear hw8 Hf n14 nf hbl d0 d1 d2 d3 d4 d5 d6
      obtain ⟨d0, d1, d2, d3, d4, d5, d6, -⟩ := blk7 H8.out.fr
      go_wp2_with fail
      refine HTa.out.mono ?_
      rintro e w9 ⟨rfl, rv2, hl9, ht9, hr9⟩
      have H9 := hide (H8.out.step hl9 ht9 (Or.inl hr9))
      clear hl9 ht9 hr9 HTa H8 d0 d1 d2 d3 d4 d5 d6
      generalize ackL { L1 with paced := false } ack = L2 at *
      obtain ⟨d0, d1, d2, d3, d4, d5, d6, -⟩ := blk7 H9.out.fr
      have hx9 : Bytes w9 sp body := by
        refine ⟨HX.out.small, HX.out.lie.imp id ?_⟩
        rintro ⟨g, o, e, hg, hc⟩
        refine ⟨g, o, e, Nat.lt_of_lt_of_le hg H9.out.tw.size, fun j hj => ?_⟩
        rw [← hc j hj]
        exact World.cell?_of_block (a := ⟨g, o + j, none⟩) (H9.out.tw.block g hg (HSp.out _ e).1 (HSp.out _ e).2)
      have HTb := hide (takeBody_any w9 b L2 rv2 H9.out.lw.lb HAk.out L.other L.me mine yours ack seq sp n c body HN.out hx9 (fun a e => (HSp.out a e).1) (by omega))
      clear hx9
      go_wp2_with fail
      refine HTb.out.mono ?_
      rintro e w10 ⟨a, m, cc, rfl, hp⟩
      have H10 : Hid (H4s w w10 b (bodyL L2 seq) rv2 rv #[.int .i64 L.other, .int .i64 L.me, .int .u64 (mine : Int), .int .u64 (yours : Int), .int .u64 (seq : Int), .int .u64 (ack : Int), .slice sp n c]) := H9.out.but hp.lb hp.but (by unfold bodyL; split; rfl; split <;> rfl)
      have HRow := hide hp.row
      have HLen := hide hp.len
      have HS9 : Hid (w.heap.size + 1 < w9.heap.size) := C.lt_of_block H9.out.hd
      clear hp HTb H9 d0 d1 d2 d3 d4 d5 d6
      obtain ⟨y0, y1, y2, y3, yf⟩ := blk4 H10.out.hd
      have hhb := C.lt_of_block H10.out.hd
      generalize handN L2 seq = HB at *
      go_wp2
      obtain ⟨wz, hwz, hkz, hlz, htz, hoz⟩ := H10.out.put (.slice a m cc) (.bool HB) (.bool false) (.bool true)
      rw [hwz]
      refine bodyPost_ret (results_cell_row rfl _ _ (w.heap.size + 1) 127 _ (0, 0) _ rfl hkz Tryz.underlying127 rfl (by kernel_rfl)) rfl ?_
      refine ⟨a, m, cc, rv2, by rw [HA.out, HY.out, HHb.out], ⟨?_, by rw [HHb.out]; exact HLen.out, by rw [HHl.out]; exact hlz, htz, H10.out.rb⟩⟩
      rw [HHb.out]
      refine ⟨HRow.out.1, HRow.out.2.imp id ?_⟩
      rintro ⟨g, cap, cur, q1, q2, q3, q4⟩
      have hs9 := HS9.out
      exact ⟨g, cap, cur, q1, by omega, (hoz g (by omega)).trans q3, q4⟩
    · have hr' : ((yours : Int) != (L.life : Int)) = true := by simp; omega
      have HY : Hid (decide (yours = L.life) = false) := decide_eq_false hri
      have HHl : Hid (hrL L mine yours seq ack = { hear1 L mine with paced := true }) := by show _ = _; unfold hrL; rw [if_neg hri]
      have HHb : Hid (hrH L mine yours seq ack = false) := by show _ = _; unfold hrH; rw [decide_eq_false hri, Bool.false_and]
      clear hri han
      go_upto_region 3 with (fail)
      go_quiet (fail)
      have Hd := hide (H3.out.drewN nq)
      generalize w3.drewN nq = w4 at *
      clear d0 d1 d2 d3 d4 d5 d6 m2 m4 H3
      have H6 : Hid (H4s w w4 b (hear1 L mine) rv rv #[.int .i64 L.other, .int .i64 L.me, .int .u64 (mine : Int), .int .u64 (yours : Int), .int .u64 (seq : Int), .int .u64 (ack : Int), .slice sp n c]) := by show H4s _ _ _ _ _ _ _; rw [HH1.out]; exact Hd.out
      obtain ⟨w6, hw6⟩ : ∃ w6, w4 = w6 := ⟨_, rfl⟩
      subst hw6
      obtain ⟨rv1, hrv1⟩ : ∃ rv1 : Value, rv1 = rv := ⟨_, rfl⟩
      rw [show H4s w w4 b (hear1 L mine) rv rv #[.int .i64 L.other, .int .i64 L.me, .int .u64 (mine : Int), .int .u64 (yours : Int), .int .u64 (seq : Int), .int .u64 (ack : Int), .slice sp n c] = H4s w w4 b (hear1 L mine) rv1 rv #[.int .i64 L.other, .int .i64 L.me, .int .u64 (mine : Int), .int .u64 (yours : Int), .int .u64 (seq : Int), .int .u64 (ack : Int), .slice sp n c] by rw [hrv1]] at H6
      clear hrv1 Hd
      have HLi : Hid ((hear1 L mine).life = L.life) := by show _ = _; rw [HH1.out]; try rfl
      have HRw : Hid ((hear1 L mine).row.length ≤ 1099511627776) := by show _ ≤ _; rw [HH1.out]; first | exact HRl.out | exact Nat.zero_le _
      have HHh : Hid ((hear1 L mine).handed ≤ 1099511627776) := by show _ ≤ _; rw [HH1.out]; first | exact HHd.out | exact Nat.zero_le _
      generalize hear1 L mine = L1 at *
      obtain ⟨d0, d1, d2, d3, d4, d5, d6, -⟩ := blk7 H6.out.fr
      obtain ⟨-, -, m2, -⟩ := blk15 H6.out.lw.lb
      rw [HLi.out] at m2
      go_upto_region 7 with (fail)
      go_quiet (fail)
      have Hf := hide (H6.out.drewN nq)
      generalize w4.drewN nq = w7 at *
      clear d0 d1 d2 d3 d4 d5 d6 m2 H6
      obtain ⟨d0, d1, d2, d3, d4, d5, d6, -⟩ := blk7 Hf.out.fr
      obtain ⟨-, -, -, -, -, -, -, -, -, -, -, -, -, -, n14, nf⟩ := blk15 Hf.out.lw.lb
      have hbl := C.lt_of_block Hf.out.lw.lb
      obtain ⟨y0, y1, y2, y3, yf⟩ := blk4 Hf.out.hd
      have hhb := C.lt_of_block Hf.out.hd
      go_wp2
      have hp := Hf.out.paced true
      obtain ⟨wz, hwz, hkz, hlz, htz, hoz⟩ := hp.put (.slice none 0 0) (.bool false) (.bool false) (.bool false)
      rw [hwz]
      refine bodyPost_ret (results_cell_row rfl _ _ (w.heap.size + 1) 127 _ (0, 0) _ rfl hkz Tryz.underlying127 rfl (by kernel_rfl)) rfl ?_
      have hpost : HrPost w b L rv mine yours seq ack body wz none 0 0 rv1 := ⟨by rw [HHb.out]; exact ⟨rfl, Or.inl ⟨rfl, rfl⟩⟩, by rw [HHb.out]; rfl, by rw [HHl.out]; exact hlz, htz, hp.rb⟩
      first | exact ⟨none, 0, 0, rv1, by rw [HA.out, HY.out, HHb.out], hpost⟩ | exact ⟨none, 0, 0, by rw [HA.out, HY.out, HHb.out], rv1, hpost⟩
end Go.Proofs.YtjcdnclfakmbpaaGreatDoor
