import Derived.Test.YtbcpoejpbhpcbaaDoorLqB
namespace Go.Proofs.YtbcpoejpbhpcbaaDoor
open Go.RowKit

set_option maxRecDepth 100000 in
set_option maxHeartbeats 1000000 in
theorem takeAck_nil (w : World) (b : Nat) (L : Lk) (h : Lb w b L (.slice none 0 0)) (ack : Nat) :
    Calls Tryd.prog 52 #[.pointer (some ⟨b, 0, none⟩), .int .u64 (ack : Int)] w fun e w' => e = .returned (.tuple #[]) ∧ Lb w' b L (.slice none 0 0) ∧ C.But b w w' := by
  have hlt := C.lt_of_block h
  obtain ⟨w1, hw1⟩ : ∃ w1, w.alloc (.cells #[.int .u64 (ack : Int)] 33) = w1 := ⟨_, rfl⟩
  have hb1 : Below w.heap.size w w1 := by rw [← hw1]; exact (Below.refl _ _).alloc (Nat.le_refl _) _
  have hk1 : w1.heap[w.heap.size]? = some (.cells #[.int .u64 (ack : Int)] 33 (0, 0)) := by rw [← hw1]; exact heap_alloc_new _ _
  have d0 : w1.cell? ⟨w.heap.size, 0, none⟩ = some (.int .u64 (ack : Int)) := by simp [World.cell?, hk1]
  have HL1 := hide (h.below hb1)
  obtain ⟨-, -, -, -, -, -, -, c7, -⟩ := blk15 HL1.out
  have HG := hide (fun fv => letGo_nil w1.drew b L HL1.out fv)
  have HB1 := hide hb1
  have HW := hide hw1
  clear h hk1 hw1 hb1
  by_cases hle : ack ≤ L.gone
  · have hle' : (ack : Int) ≤ (L.gone : Int) := by omega
    go_enter Tryd.func52, Tryd.ntmps52
    go_upto_region 1 with (fail)
    rw [HW.out]
    go_region_held3 (fun w' => w'.cell? ⟨b, 7, none⟩ = some (.int .u64 (L.gone : Int)) ∧ w'.cell? ⟨w.heap.size, 0, none⟩ = some (.int .u64 (ack : Int))) (go_keep) (fail)
    go_wp2_with fail
    refine (HG.out _).mono ?_
    rintro e w2 ⟨rfl, hl2, hb2⟩
    have HL2 := hide hl2
    have HB2 : Hid (C.But b w w2) := ((C.but_of HB1.out b).drew).trans hb2
    clear hl2 hb2
    go_wp2
    go_end0
    exact ⟨rfl, HL2.out, HB2.out⟩
  · have hle' : ¬ (ack : Int) ≤ (L.gone : Int) := by omega
    go_enter Tryd.func52, Tryd.ntmps52
    go_upto_region 1 with (fail)
    rw [HW.out]
    go_region_held3 (fun w' => w'.cell? ⟨b, 7, none⟩ = some (.int .u64 (L.gone : Int)) ∧ w'.cell? ⟨w.heap.size, 0, none⟩ = some (.int .u64 (ack : Int))) (go_keep) (fail)
    go_wp2
    go_end0
    exact ⟨rfl, HL1.out, (C.but_of HB1.out b).drew⟩
set_option maxRecDepth 100000 in
set_option maxHeartbeats 1000000 in
theorem takeBody_none (w : World) (b : Nat) (f0 f1 : Int) (f2 f3 f5 : Nat) (sp : Option Addr) (n c : Nat) :
    Calls Tryd.prog 53 #[.pointer (some ⟨b, 0, none⟩), .agg #[.int .i64 f0, .int .i64 f1, .int .u64 (f2 : Int), .int .u64 (f3 : Int), .int .u64 0, .int .u64 (f5 : Int), .slice sp n c]] w fun e w' => e = .returned (.tuple #[.slice none 0 0, .bool false]) ∧ Below w.heap.size w w' := by
  go_enter Tryd.func53, Tryd.ntmps53
  go_wp2
  go_ret2
  exact ⟨rfl, (Below.refl _ _).alloc (Nat.le_refl _) _⟩
/-- What a word makes of a link with an empty row. -/
def lanew (L : Lk) (mine : Nat) : Lk := { L with known := mine, row := [], numbered := 0, gone := 0, handed := 0, ack := false }
def hear1 (L : Lk) (mine : Nat) : Lk := if L.known < mine then lreset (lanew L mine) else L
/-- What Hear has in hand: the link, its frame's box, its result's box. -/
structure H3s (w wr : World) (b : Nat) (L : Lk) (f0 f1 : Int) (mine yours ack : Nat) (sp : Option Addr) (c : Nat) : Prop where
  lb : Lb wr b L (.slice none 0 0)
  fr : wr.heap[w.heap.size]? = some (.cells #[.int .i64 f0, .int .i64 f1, .int .u64 (mine : Int), .int .u64 (yours : Int), .int .u64 0, .int .u64 (ack : Int), .slice sp 0 c] 54 (0, 0))
  hd : wr.heap[w.heap.size + 1]? = some (.cells #[.slice none 0 0, .bool false, .bool false, .bool false] 93 (0, 0))
  but : C.But b w wr
  lt : b < w.heap.size
section
variable {w wr : World} {b : Nat} {L : Lk} {f0 f1 : Int} {mine yours ack : Nat} {sp : Option Addr} {c : Nat}
theorem H3s.facts (h : H3s w wr b L f0 f1 mine yours ack sp c) : wr.cell? ⟨w.heap.size, 2, none⟩ = some (.int .u64 (mine : Int)) ∧ wr.cell? ⟨w.heap.size, 3, none⟩ = some (.int .u64 (yours : Int)) ∧ wr.cell? ⟨w.heap.size, 5, none⟩ = some (.int .u64 (ack : Int)) ∧ wr.cell? ⟨b, 2, none⟩ = some (.int .u64 (L.life : Int)) ∧ wr.cell? ⟨b, 4, none⟩ = some (.int .u64 (L.known : Int)) ∧ b < wr.heap.size ∧ w.heap.size < wr.heap.size ∧ w.heap.size + 1 < wr.heap.size := by
  obtain ⟨-, -, x2, x3, -, x5, -⟩ := blk7 h.fr
  obtain ⟨-, -, y2, -, y4, -⟩ := blk15 h.lb
  exact ⟨x2, x3, x5, y2, y4, C.lt_of_block h.lb, C.lt_of_block h.fr, C.lt_of_block h.hd⟩
theorem H3s.drew (h : H3s w wr b L f0 f1 mine yours ack sp c) : H3s w wr.drew b L f0 f1 mine yours ack sp c := ⟨h.lb, h.fr, h.hd, h.but.drew, h.lt⟩
theorem H3s.below {wd : World} (h : H3s w wr b L f0 f1 mine yours ack sp c) (hb : Below wr.heap.size wr wd) : H3s w wd b L f0 f1 mine yours ack sp c :=
  ⟨h.lb.below hb, (hb.block _ (C.lt_of_block h.fr)).trans h.fr, (hb.block _ (C.lt_of_block h.hd)).trans h.hd, h.but.trans (C.but_of hb b), h.lt⟩
theorem H3s.but' {wd : World} {L' : Lk} (h : H3s w wr b L f0 f1 mine yours ack sp c) (hl : Lb wd b L' (.slice none 0 0)) (hb : C.But b wr wd) : H3s w wd b L' f0 f1 mine yours ack sp c := by
  have := h.lt
  exact ⟨hl, (hb.block _ (C.lt_of_block h.fr) (by omega)).trans h.fr, (hb.block _ (C.lt_of_block h.hd) (by omega)).trans h.hd, h.but.trans hb, h.lt⟩
theorem H3s.onl {wd : World} {L' : Lk} (h : H3s w wr b L f0 f1 mine yours ack sp c) (hl : Lb wd b L' (.slice none 0 0)) (ho : Onl b wr wd) : H3s w wd b L' f0 f1 mine yours ack sp c :=
  h.but' hl ⟨ho.os, ho.tape, ho.output, by rw [ho.size]; exact Nat.le_refl _, fun k _ hk => ho.block k hk⟩
theorem H3s.set {L' : Lk} (h : H3s w wr b L f0 f1 mine yours ack sp c) (i : Nat) (v : Value) (he : (lkC L (.slice none 0 0)).setIfInBounds i v = lkC L' (.slice none 0 0)) : H3s w (wr.setCell ⟨b, i, none⟩ v) b L' f0 f1 mine yours ack sp c :=
  h.but' (h.lb.set i v L' _ he) ((C.But.refl b wr).setCell (p := ⟨b, i, none⟩) (Or.inl rfl) v)
theorem H3s.paced (h : H3s w wr b L f0 f1 mine yours ack sp c) (p : Bool) : H3s w (wr.setCell ⟨b, 14, none⟩ (.bool p)) b { L with paced := p } f0 f1 mine yours ack sp c := h.set 14 _ rfl
theorem H3s.anew (h : H3s w wr b L f0 f1 mine yours ack sp c) : H3s w ((((((wr.setCell ⟨b, 4, none⟩ (.int .u64 (mine : Int))).setCell ⟨b, 5, none⟩ (.slice none 0 0)).setCell ⟨b, 6, none⟩ (.int .u64 0)).setCell ⟨b, 7, none⟩ (.int .u64 0)).setCell ⟨b, 8, none⟩ (.int .u64 0)).setCell ⟨b, 9, none⟩ (.bool false)) b (lanew L mine) f0 f1 mine yours ack sp c := by
  have h1 : H3s w _ b { L with known := mine } f0 f1 mine yours ack sp c := h.set 4 (.int .u64 (mine : Int)) rfl
  have h2 : H3s w _ b { L with known := mine } f0 f1 mine yours ack sp c := h1.set 5 (.slice none 0 0) rfl
  have h3 : H3s w _ b { L with known := mine, numbered := 0 } f0 f1 mine yours ack sp c := h2.set 6 (.int .u64 0) rfl
  have h4 : H3s w _ b { L with known := mine, numbered := 0, gone := 0 } f0 f1 mine yours ack sp c := h3.set 7 (.int .u64 0) rfl
  have h5 : H3s w _ b { L with known := mine, numbered := 0, gone := 0, handed := 0 } f0 f1 mine yours ack sp c := h4.set 8 (.int .u64 0) rfl
  exact h5.set 9 (.bool false) rfl
theorem H3s.put4 (h : H3s w wr b L f0 f1 mine yours ack sp c) (y0 y1 y2 y3 : Value) : ((((wr.setCell ⟨w.heap.size + 1, 0, none⟩ y0).setCell ⟨w.heap.size + 1, 1, none⟩ y1).setCell ⟨w.heap.size + 1, 2, none⟩ y2).setCell ⟨w.heap.size + 1, 3, none⟩ y3).heap[w.heap.size + 1]? = some (.cells #[y0, y1, y2, y3] 93 (0, 0)) := by
  have h0 : (wr.setCell ⟨w.heap.size + 1, 0, none⟩ y0).heap[w.heap.size + 1]? = some (.cells #[y0, .bool false, .bool false, .bool false] 93 (0, 0)) := C.block_set h.hd y0
  generalize wr.setCell ⟨w.heap.size + 1, 0, none⟩ y0 = w0 at *
  have h1 : (w0.setCell ⟨w.heap.size + 1, 1, none⟩ y1).heap[w.heap.size + 1]? = some (.cells #[y0, y1, .bool false, .bool false] 93 (0, 0)) := C.block_set h0 y1
  generalize w0.setCell ⟨w.heap.size + 1, 1, none⟩ y1 = w1 at *
  have h2 : (w1.setCell ⟨w.heap.size + 1, 2, none⟩ y2).heap[w.heap.size + 1]? = some (.cells #[y0, y1, y2, .bool false] 93 (0, 0)) := C.block_set h1 y2
  generalize w1.setCell ⟨w.heap.size + 1, 2, none⟩ y2 = w2 at *
  exact C.block_set h2 y3
theorem H3s.lbput (h : H3s w wr b L f0 f1 mine yours ack sp c) (y0 y1 y2 y3 : Value) : Lb ((((wr.setCell ⟨w.heap.size + 1, 0, none⟩ y0).setCell ⟨w.heap.size + 1, 1, none⟩ y1).setCell ⟨w.heap.size + 1, 2, none⟩ y2).setCell ⟨w.heap.size + 1, 3, none⟩ y3) b L (.slice none 0 0) := by
  have hn : b ≠ w.heap.size + 1 := by have := h.lt; omega
  exact h.lb.kept ((Below.heap_setCell _ _ _ _ hn).trans ((Below.heap_setCell _ _ _ _ hn).trans ((Below.heap_setCell _ _ _ _ hn).trans (Below.heap_setCell _ _ _ _ hn))))
theorem H3s.butput (h : H3s w wr b L f0 f1 mine yours ack sp c) (y0 y1 y2 y3 : Value) : C.But b w ((((wr.setCell ⟨w.heap.size + 1, 0, none⟩ y0).setCell ⟨w.heap.size + 1, 1, none⟩ y1).setCell ⟨w.heap.size + 1, 2, none⟩ y2).setCell ⟨w.heap.size + 1, 3, none⟩ y3) :=
  (((h.but.setCell (p := ⟨w.heap.size + 1, 0, none⟩) (Or.inr (Nat.le_succ _)) _).setCell (p := ⟨w.heap.size + 1, 1, none⟩) (Or.inr (Nat.le_succ _)) _).setCell (p := ⟨w.heap.size + 1, 2, none⟩) (Or.inr (Nat.le_succ _)) _).setCell (p := ⟨w.heap.size + 1, 3, none⟩) (Or.inr (Nat.le_succ _)) _
end
def hearW (L : Lk) (mine yours : Nat) : Lk := { hear1 L mine with paced := decide (yours ≠ L.life) }
set_option maxRecDepth 100000 in
set_option maxHeartbeats 4000000 in
theorem hear_word (w : World) (b : Nat) (L : Lk) (mine yours ack : Nat) (sp : Option Addr) (c : Nat) (h : Lb w b L (.slice none 0 0)) (hfit : (⟨L.other, L.me, mine, yours, 0, ack, []⟩ : Fr).fit) (hle : L.known ≤ mine) :
    Calls Tryd.prog 44 #[.pointer (some ⟨b, 0, none⟩), .agg #[.int .i64 L.other, .int .i64 L.me, .int .u64 (mine : Int), .int .u64 (yours : Int), .int .u64 0, .int .u64 (ack : Int), .slice sp 0 c]] w fun e w' => e = .returned (.agg #[.slice none 0 0, .bool false, .bool (decide (L.known < mine)), .bool (decide (yours = L.life))]) ∧ Lb w' b (hearW L mine yours) (.slice none 0 0) ∧ C.But b w w' := by
  have HM := hide (fun w => mayBe_any w ⟨L.other, L.me, mine, yours, 0, ack, []⟩ sp c)
  rw [decide_eq_true hfit] at HM
  simp only [frV, List.length_nil] at HM
  have hlt := C.lt_of_block h
  obtain ⟨w2, hw2⟩ : ∃ w2, (w.alloc (.cells #[.int .i64 L.other, .int .i64 L.me, .int .u64 (mine : Int), .int .u64 (yours : Int), .int .u64 0, .int .u64 (ack : Int), .slice sp 0 c] 54)).alloc (.cells #[.slice none 0 0, .bool false, .bool false, .bool false] 93) = w2 := ⟨_, rfl⟩
  have hb2 : Below w.heap.size w w2 := by rw [← hw2]; exact ((Below.refl _ _).alloc (Nat.le_refl _) _).alloc (by simp) _
  have hk2 : w2.heap[w.heap.size + 1]? = some (.cells #[.slice none 0 0, .bool false, .bool false, .bool false] 93 (0, 0)) := by rw [← hw2]; exact heap_alloc2_new w _ _
  have hk1 : w2.heap[w.heap.size]? = some (.cells #[.int .i64 L.other, .int .i64 L.me, .int .u64 (mine : Int), .int .u64 (yours : Int), .int .u64 0, .int .u64 (ack : Int), .slice sp 0 c] 54 (0, 0)) := by
    rw [← hw2, Below.heap_alloc _ _ _ (by simp)]; exact heap_alloc_new _ _
  have hfx := C.lt_of_block hk1
  have hhx := C.lt_of_block hk2
  have HL2 := hide (h.below hb2)
  have hlb := C.lt_of_block HL2.out
  obtain ⟨c0, c1, c2, c3, c4, c5, c6, -⟩ := blk7 hk1
  obtain ⟨l0, l1, l2, -, l4, -⟩ := blk15 HL2.out
  have HK1 := hide hk1
  have HK2 := hide hk2
  have HB2 := hide hb2
  have HW := hide hw2
  clear h hw2 hk1 hk2 hb2 hfit
  have hle' : ¬ (mine : Int) < (L.known : Int) := by omega
  have HD : Hid (decide (L.known < mine) = decide ((L.known : Int) < (mine : Int))) := decide_eq_decide.2 (by omega)
  have hz0 : ((0 : Nat) : Int) = 0 := rfl
  go_enter Tryd.func44, Tryd.ntmps44
  go_upto_region 1 with (fail)
  rw [HW.out]
  go_region_held3 (fun w' => w'.cell? ⟨w.heap.size, 0, none⟩ = some (.int .i64 L.other) ∧ w'.cell? ⟨w.heap.size, 1, none⟩ = some (.int .i64 L.me) ∧ w'.cell? ⟨w.heap.size, 2, none⟩ = some (.int .u64 (mine : Int)) ∧ w'.cell? ⟨w.heap.size, 3, none⟩ = some (.int .u64 (yours : Int)) ∧ w'.cell? ⟨w.heap.size, 4, none⟩ = some (.int .u64 0) ∧ w'.cell? ⟨w.heap.size, 5, none⟩ = some (.int .u64 (ack : Int)) ∧ w'.cell? ⟨w.heap.size, 6, none⟩ = some (.slice sp 0 c) ∧ w'.cell? ⟨b, 0, none⟩ = some (.int .i64 L.me) ∧ w'.cell? ⟨b, 1, none⟩ = some (.int .i64 L.other) ∧ w'.cell? ⟨b, 4, none⟩ = some (.int .u64 (L.known : Int))) (go_keep) (first | (go_at_call 40; refine (HM.out _).mono ?_; rintro e w3 ⟨rfl, hb3⟩; have c0n := (hb3.cell (p := ⟨w.heap.size, 0, none⟩) hfx).trans c0; have c1n := (hb3.cell (p := ⟨w.heap.size, 1, none⟩) hfx).trans c1; have c2n := (hb3.cell (p := ⟨w.heap.size, 2, none⟩) hfx).trans c2; have c3n := (hb3.cell (p := ⟨w.heap.size, 3, none⟩) hfx).trans c3; have c4n := (hb3.cell (p := ⟨w.heap.size, 4, none⟩) hfx).trans c4; have c5n := (hb3.cell (p := ⟨w.heap.size, 5, none⟩) hfx).trans c5; have c6n := (hb3.cell (p := ⟨w.heap.size, 6, none⟩) hfx).trans c6; have l0n := (hb3.cell (p := ⟨b, 0, none⟩) hlb).trans l0; have l1n := (hb3.cell (p := ⟨b, 1, none⟩) hlb).trans l1; have l4n := (hb3.cell (p := ⟨b, 4, none⟩) hlb).trans l4; have HB3 := hide hb3; clear hb3))
  have hd3 : Below w2.heap.size w2 w3 := Below.trans ((Below.refl _ _).drew) HB3.out
  have H3 : Hid (H3s w w3 b L L.other L.me mine yours ack sp c) := ⟨HL2.out.below hd3, (hd3.block _ hfx).trans HK1.out, (hd3.block _ hhx).trans HK2.out, C.but_of (HB2.out.trans (hd3.mono HB2.out.size)) b, hlt⟩
  clear hd3 HB3 HB2 HK1 HK2 HL2 c0 c1 c2 c3 c4 c5 c6 l0 l1 l2 l4 c0n c1n c2n c3n c4n c5n c6n l0n l1n l4n HM hfx hhx hlb HW
  obtain ⟨d2, d3, d5, m2, m4, hbl, hfb, hhb⟩ := H3.out.facts
  by_cases han : L.known < mine
  · have ha' : (L.known : Int) < (mine : Int) := by omega
    have HA : Hid (decide (L.known < mine) = true) := decide_eq_true han
    have HH1 : Hid (hear1 L mine = lreset (lanew L mine)) := by show _ = _; unfold hear1; rw [if_pos han]
    by_cases hri : yours = L.life
    · have hr' : ((yours : Int) != (L.life : Int)) = false := by simp; omega
      have HY : Hid (decide (yours = L.life) = true) := decide_eq_true hri
      have HHw : Hid (hearW L mine yours = { lreset (lanew L mine) with paced := false }) := by show _ = _; unfold hearW; rw [HH1.out, decide_eq_false (fun h => h hri)]
      clear hri han HH1
      go_upto_region 3 with (fail)
      go_region_held3 (fun w' => w'.cell? ⟨w.heap.size, 2, none⟩ = some (.int .u64 (mine : Int)) ∧ w'.cell? ⟨b, 4, none⟩ = some (.int .u64 (L.known : Int))) (go_keep) (fail)
      have Hd := hide (H3.out.drew)
      obtain ⟨w4, hw4⟩ : ∃ w4, w3.drew = w4 := ⟨_, rfl⟩
      rw [hw4] at Hd ⊢
      clear hw4
      clear d2 d3 d5 m2 m4 hbl hfb hhb
      obtain ⟨d2, d3, d5, m2, m4, hbl, hfb, hhb⟩ := Hd.out.facts
      obtain ⟨-, -, -, -, n4, n5, n6, n7, n8, n9, -, -, -, -, -, nf⟩ := blk15 Hd.out.lb
      go_upto_region 6 with (fail)
      obtain ⟨w5, hw5⟩ : ∃ w5, (((((w4.setCell ⟨b, 4, none⟩ (.int .u64 (mine : Int))).setCell ⟨b, 5, none⟩ (.slice none 0 0)).setCell ⟨b, 6, none⟩ (.int .u64 0)).setCell ⟨b, 7, none⟩ (.int .u64 0)).setCell ⟨b, 8, none⟩ (.int .u64 0)).setCell ⟨b, 9, none⟩ (.bool false) = w5 := ⟨_, rfl⟩
      rw [hw5]
      have H5 : Hid (H3s w w5 b (lanew L mine) L.other L.me mine yours ack sp c) := by rw [← hw5]; exact Hd.out.anew
      have HP := hide (preset_any w5 b (lanew L mine) _ H5.out.lb)
      clear hw5 n4 n5 n6 n7 n8 n9 nf d2 d3 d5 m2 m4 hbl hfb hhb Hd
      go_wp2_with fail
      refine HP.out.mono ?_
      rintro e w6 ⟨rfl, hl6, ho6⟩
      have H6 := hide (H5.out.onl hl6 ho6)
      clear hl6 ho6 HP H5
      obtain ⟨d2, d3, d5, m2, m4, hbl, hfb, hhb⟩ := H6.out.facts
      have HLi : Hid ((lreset (lanew L mine)).life = L.life) := rfl
      rw [HLi.out] at m2
      go_upto_region 7 with (fail)
      go_region_held3 (fun w' => w'.cell? ⟨w.heap.size, 3, none⟩ = some (.int .u64 (yours : Int)) ∧ w'.cell? ⟨b, 2, none⟩ = some (.int .u64 (L.life : Int))) (go_keep) (fail)
      have Hf := hide (H6.out.drew)
      obtain ⟨w7, hw7⟩ : ∃ w7, w6.drew = w7 := ⟨_, rfl⟩
      rw [hw7] at Hf ⊢
      clear hw7
      clear d2 d3 d5 m2 m4 hbl hfb hhb
      obtain ⟨d2, d3, d5, m2, m4, hbl, hfb, hhb⟩ := Hf.out.facts
      obtain ⟨-, -, -, -, -, -, -, -, -, -, -, -, -, -, n14, nf⟩ := blk15 Hf.out.lb
      obtain ⟨h0, h1, h2, h3, hf⟩ := blk4 Hf.out.hd
      go_upto_region 11 with (fail)
      obtain ⟨w8, hw8⟩ : ∃ w8, w7.setCell ⟨b, 14, none⟩ (.bool false) = w8 := ⟨_, rfl⟩
      rw [hw8]
      have H8 := hide (Hf.out.paced false)
      rw [hw8] at H8
      have HTa := hide (takeAck_nil w8 b _ H8.out.lb ack)
      clear hw8 Hf n14 nf h0 h1 h2 h3 hf d2 d3 d5 m2 m4 hbl hfb hhb
      obtain ⟨d2, d3, d5, m2, m4, hbl, hfb, hhb⟩ := H8.out.facts
      go_wp2_with fail
      refine HTa.out.mono ?_
      rintro e w9 ⟨rfl, hl9, hb9⟩
      have H9 := hide (H8.out.but' hl9 hb9)
      obtain ⟨f0, f1, f2, f3, f4, f5, f6, -⟩ := blk7 H9.out.fr
      clear hl9 hb9 HTa H8 d2 d3 d5 m2 m4 hbl hfb hhb
      go_wp2_with fail
      refine (takeBody_none w9 b L.other L.me mine yours ack sp 0 c).mono ?_
      rintro e w10 ⟨rfl, hb10⟩
      have H10 := hide (H9.out.below hb10)
      obtain ⟨h0, h1, h2, h3, hf⟩ := blk4 H10.out.hd
      clear hb10 H9 f0 f1 f2 f3 f4 f5 f6
      go_wp2
      refine bodyPost_ret (results_cell_row rfl _ _ (w.heap.size + 1) 93 _ (0, 0) _ rfl (H10.out.put4 (.slice none 0 0) (.bool false) (.bool true) (.bool true)) Tryd.underlying93 rfl (by kernel_rfl)) rfl ?_
      exact ⟨by rw [HA.out, HY.out], by rw [HHw.out]; exact H10.out.lbput _ _ _ _, H10.out.butput _ _ _ _⟩
    · have hr' : ((yours : Int) != (L.life : Int)) = true := by simp; omega
      have HY : Hid (decide (yours = L.life) = false) := decide_eq_false hri
      have HHw : Hid (hearW L mine yours = { lreset (lanew L mine) with paced := true }) := by show _ = _; unfold hearW; rw [HH1.out, decide_eq_true hri]
      clear hri han HH1
      go_upto_region 3 with (fail)
      go_region_held3 (fun w' => w'.cell? ⟨w.heap.size, 2, none⟩ = some (.int .u64 (mine : Int)) ∧ w'.cell? ⟨b, 4, none⟩ = some (.int .u64 (L.known : Int))) (go_keep) (fail)
      have Hd := hide (H3.out.drew)
      obtain ⟨w4, hw4⟩ : ∃ w4, w3.drew = w4 := ⟨_, rfl⟩
      rw [hw4] at Hd ⊢
      clear hw4
      clear d2 d3 d5 m2 m4 hbl hfb hhb
      obtain ⟨d2, d3, d5, m2, m4, hbl, hfb, hhb⟩ := Hd.out.facts
      obtain ⟨-, -, -, -, n4, n5, n6, n7, n8, n9, -, -, -, -, -, nf⟩ := blk15 Hd.out.lb
      go_upto_region 6 with (fail)
      obtain ⟨w5, hw5⟩ : ∃ w5, (((((w4.setCell ⟨b, 4, none⟩ (.int .u64 (mine : Int))).setCell ⟨b, 5, none⟩ (.slice none 0 0)).setCell ⟨b, 6, none⟩ (.int .u64 0)).setCell ⟨b, 7, none⟩ (.int .u64 0)).setCell ⟨b, 8, none⟩ (.int .u64 0)).setCell ⟨b, 9, none⟩ (.bool false) = w5 := ⟨_, rfl⟩
      rw [hw5]
      have H5 : Hid (H3s w w5 b (lanew L mine) L.other L.me mine yours ack sp c) := by rw [← hw5]; exact Hd.out.anew
      have HP := hide (preset_any w5 b (lanew L mine) _ H5.out.lb)
      clear hw5 n4 n5 n6 n7 n8 n9 nf d2 d3 d5 m2 m4 hbl hfb hhb Hd
      go_wp2_with fail
      refine HP.out.mono ?_
      rintro e w6 ⟨rfl, hl6, ho6⟩
      have H6 := hide (H5.out.onl hl6 ho6)
      clear hl6 ho6 HP H5
      obtain ⟨d2, d3, d5, m2, m4, hbl, hfb, hhb⟩ := H6.out.facts
      have HLi : Hid ((lreset (lanew L mine)).life = L.life) := rfl
      rw [HLi.out] at m2
      go_upto_region 7 with (fail)
      go_region_held3 (fun w' => w'.cell? ⟨w.heap.size, 3, none⟩ = some (.int .u64 (yours : Int)) ∧ w'.cell? ⟨b, 2, none⟩ = some (.int .u64 (L.life : Int))) (go_keep) (fail)
      have Hf := hide (H6.out.drew)
      obtain ⟨w7, hw7⟩ : ∃ w7, w6.drew = w7 := ⟨_, rfl⟩
      rw [hw7] at Hf ⊢
      clear hw7
      clear d2 d3 d5 m2 m4 hbl hfb hhb
      obtain ⟨d2, d3, d5, m2, m4, hbl, hfb, hhb⟩ := Hf.out.facts
      obtain ⟨-, -, -, -, -, -, -, -, -, -, -, -, -, -, n14, nf⟩ := blk15 Hf.out.lb
      obtain ⟨h0, h1, h2, h3, hf⟩ := blk4 Hf.out.hd
      go_wp2
      have hp := Hf.out.paced true
      refine bodyPost_ret (results_cell_row rfl _ _ (w.heap.size + 1) 93 _ (0, 0) _ rfl (hp.put4 (.slice none 0 0) (.bool false) (.bool true) (.bool false)) Tryd.underlying93 rfl (by kernel_rfl)) rfl ?_
      exact ⟨by rw [HA.out, HY.out], by rw [HHw.out]; exact hp.lbput _ _ _ _, hp.butput _ _ _ _⟩
  · have ha' : ¬ (L.known : Int) < (mine : Int) := by omega
    have HA : Hid (decide (L.known < mine) = false) := decide_eq_false han
    have HH1 : Hid (hear1 L mine = L) := by show _ = _; unfold hear1; rw [if_neg han]
    by_cases hri : yours = L.life
    · have hr' : ((yours : Int) != (L.life : Int)) = false := by simp; omega
      have HY : Hid (decide (yours = L.life) = true) := decide_eq_true hri
      have HHw : Hid (hearW L mine yours = { L with paced := false }) := by show _ = _; unfold hearW; rw [HH1.out, decide_eq_false (fun h => h hri)]
      clear hri han HH1
      go_upto_region 3 with (fail)
      go_region_held3 (fun w' => w'.cell? ⟨w.heap.size, 2, none⟩ = some (.int .u64 (mine : Int)) ∧ w'.cell? ⟨b, 4, none⟩ = some (.int .u64 (L.known : Int))) (go_keep) (fail)
      have Hd := hide (H3.out.drew)
      obtain ⟨w4, hw4⟩ : ∃ w4, w3.drew = w4 := ⟨_, rfl⟩
      rw [hw4] at Hd ⊢
      clear hw4
      clear d2 d3 d5 m2 m4 hbl hfb hhb
      obtain ⟨d2, d3, d5, m2, m4, hbl, hfb, hhb⟩ := Hd.out.facts
      have HLi : Hid (L.life = L.life) := rfl
      rw [HLi.out] at m2
      go_upto_region 7 with (fail)
      go_region_held3 (fun w' => w'.cell? ⟨w.heap.size, 3, none⟩ = some (.int .u64 (yours : Int)) ∧ w'.cell? ⟨b, 2, none⟩ = some (.int .u64 (L.life : Int))) (go_keep) (fail)
      have Hf := hide (Hd.out.drew)
      obtain ⟨w7, hw7⟩ : ∃ w7, w4.drew = w7 := ⟨_, rfl⟩
      rw [hw7] at Hf ⊢
      clear hw7
      clear d2 d3 d5 m2 m4 hbl hfb hhb
      obtain ⟨d2, d3, d5, m2, m4, hbl, hfb, hhb⟩ := Hf.out.facts
      obtain ⟨-, -, -, -, -, -, -, -, -, -, -, -, -, -, n14, nf⟩ := blk15 Hf.out.lb
      obtain ⟨h0, h1, h2, h3, hf⟩ := blk4 Hf.out.hd
      go_upto_region 11 with (fail)
      obtain ⟨w8, hw8⟩ : ∃ w8, w7.setCell ⟨b, 14, none⟩ (.bool false) = w8 := ⟨_, rfl⟩
      rw [hw8]
      have H8 := hide (Hf.out.paced false)
      rw [hw8] at H8
      have HTa := hide (takeAck_nil w8 b _ H8.out.lb ack)
      clear hw8 Hf n14 nf h0 h1 h2 h3 hf d2 d3 d5 m2 m4 hbl hfb hhb
      obtain ⟨d2, d3, d5, m2, m4, hbl, hfb, hhb⟩ := H8.out.facts
      go_wp2_with fail
      refine HTa.out.mono ?_
      rintro e w9 ⟨rfl, hl9, hb9⟩
      have H9 := hide (H8.out.but' hl9 hb9)
      obtain ⟨f0, f1, f2, f3, f4, f5, f6, -⟩ := blk7 H9.out.fr
      clear hl9 hb9 HTa H8 d2 d3 d5 m2 m4 hbl hfb hhb
      go_wp2_with fail
      refine (takeBody_none w9 b L.other L.me mine yours ack sp 0 c).mono ?_
      rintro e w10 ⟨rfl, hb10⟩
      have H10 := hide (H9.out.below hb10)
      obtain ⟨h0, h1, h2, h3, hf⟩ := blk4 H10.out.hd
      clear hb10 H9 f0 f1 f2 f3 f4 f5 f6
      go_wp2
      refine bodyPost_ret (results_cell_row rfl _ _ (w.heap.size + 1) 93 _ (0, 0) _ rfl (H10.out.put4 (.slice none 0 0) (.bool false) (.bool false) (.bool true)) Tryd.underlying93 rfl (by kernel_rfl)) rfl ?_
      exact ⟨by rw [HA.out, HY.out], by rw [HHw.out]; exact H10.out.lbput _ _ _ _, H10.out.butput _ _ _ _⟩
    · have hr' : ((yours : Int) != (L.life : Int)) = true := by simp; omega
      have HY : Hid (decide (yours = L.life) = false) := decide_eq_false hri
      have HHw : Hid (hearW L mine yours = { L with paced := true }) := by show _ = _; unfold hearW; rw [HH1.out, decide_eq_true hri]
      clear hri han HH1
      go_upto_region 3 with (fail)
      go_region_held3 (fun w' => w'.cell? ⟨w.heap.size, 2, none⟩ = some (.int .u64 (mine : Int)) ∧ w'.cell? ⟨b, 4, none⟩ = some (.int .u64 (L.known : Int))) (go_keep) (fail)
      have Hd := hide (H3.out.drew)
      obtain ⟨w4, hw4⟩ : ∃ w4, w3.drew = w4 := ⟨_, rfl⟩
      rw [hw4] at Hd ⊢
      clear hw4
      clear d2 d3 d5 m2 m4 hbl hfb hhb
      obtain ⟨d2, d3, d5, m2, m4, hbl, hfb, hhb⟩ := Hd.out.facts
      have HLi : Hid (L.life = L.life) := rfl
      rw [HLi.out] at m2
      go_upto_region 7 with (fail)
      go_region_held3 (fun w' => w'.cell? ⟨w.heap.size, 3, none⟩ = some (.int .u64 (yours : Int)) ∧ w'.cell? ⟨b, 2, none⟩ = some (.int .u64 (L.life : Int))) (go_keep) (fail)
      have Hf := hide (Hd.out.drew)
      obtain ⟨w7, hw7⟩ : ∃ w7, w4.drew = w7 := ⟨_, rfl⟩
      rw [hw7] at Hf ⊢
      clear hw7
      clear d2 d3 d5 m2 m4 hbl hfb hhb
      obtain ⟨d2, d3, d5, m2, m4, hbl, hfb, hhb⟩ := Hf.out.facts
      obtain ⟨-, -, -, -, -, -, -, -, -, -, -, -, -, -, n14, nf⟩ := blk15 Hf.out.lb
      obtain ⟨h0, h1, h2, h3, hf⟩ := blk4 Hf.out.hd
      go_wp2
      have hp := Hf.out.paced true
      refine bodyPost_ret (results_cell_row rfl _ _ (w.heap.size + 1) 93 _ (0, 0) _ rfl (hp.put4 (.slice none 0 0) (.bool false) (.bool false) (.bool false)) Tryd.underlying93 rfl (by kernel_rfl)) rfl ?_
      exact ⟨by rw [HA.out, HY.out], by rw [HHw.out]; exact hp.lbput _ _ _ _, hp.butput _ _ _ _⟩
end Go.Proofs.YtbcpoejpbhpcbaaDoor
