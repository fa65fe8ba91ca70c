import Derived.Test.YtjcdnclfakmbpaaGreatDoorMqI
namespace Go.Proofs.YtjcdnclfakmbpaaGreatDoor
open Go.RowKit
def handN (L : Lk) (seq : Nat) : Bool := decide (seq = L.handed + 1)
def bodyL (L : Lk) (seq : Nat) : Lk := if seq = 0 then L else if seq = L.handed + 1 then { L with ack := true, handed := L.handed + 1 } else { L with ack := true }
structure TbPost (w : World) (b : Nat) (L : Lk) (rv : Value) (seq : Nat) (sp : Option Addr) (xs : List Nat) (w' : World) (a : Option Addr) (m c : Nat) : Prop where
  row : w'.ownsRow w.heap.size 5 1 (.slice a m c) m (vals (if handN L seq = true then xs else []))
  len : m = if handN L seq = true then xs.length else 0
  nil : a.isNone = (!(handN L seq) || sp.isNone)
  lb : Lb w' b (bodyL L seq) rv
  but : C.But b w w'
theorem frbox {w : World} {b : Nat} {x0 x1 x2 x3 x4 x5 x6 : Value} {t : TypeId} (h : w.heap[b]? = some (.cells #[x0, x1, x2, x3, x4, x5, x6] t (0, 0))) : w.cell? ⟨b, 4, none⟩ = some x4 ∧ w.cell? ⟨b, 6, none⟩ = some x6 :=
  ⟨by simp [World.cell?, h], by simp [World.cell?, h]⟩
set_option maxRecDepth 100000 in
set_option maxHeartbeats 2000000 in
theorem takeBody_any (w : World) (b : Nat) (L : Lk) (rv : Value) (h : Lb w b L rv) (hh : L.handed ≤ 1099511627776) (f0 f1 : Int) (f2 f3 f5 seq : Nat) (sp : Option Addr) (n c : Nat) (xs : List Nat) (hn : xs.length = n) (hx : Bytes w sp xs) (hspb : ∀ a, sp = some a → a.block ≠ b) (hlen : n ≤ 140737488355328) :
    Calls Tryz.prog 99 #[.pointer (some ⟨b, 0, none⟩), .agg #[.int .i64 f0, .int .i64 f1, .int .u64 (f2 : Int), .int .u64 (f3 : Int), .int .u64 (seq : Int), .int .u64 (f5 : Int), .slice sp n c]] w fun e w' => ∃ a m cc, e = .returned (.tuple #[.slice a m cc, .bool (handN L seq)]) ∧ TbPost w b L rv seq sp xs w' a m cc := by
  obtain ⟨z, hz⟩ : ∃ z : Int, (seq : Int) = z := ⟨_, rfl⟩
  rw [hz]
  obtain ⟨w1, hw1⟩ : ∃ w1, w.alloc (.cells #[.int .i64 f0, .int .i64 f1, .int .u64 (f2 : Int), .int .u64 (f3 : Int), .int .u64 z, .int .u64 (f5 : Int), .slice sp n c] 33) = w1 := ⟨_, rfl⟩
  have hb1 : Below w.heap.size w w1 := by rw [← hw1]; exact (Below.refl _ _).alloc (Nat.le_refl _) _
  have hk1 : w1.heap[w.heap.size]? = some (.cells #[.int .i64 f0, .int .i64 f1, .int .u64 (f2 : Int), .int .u64 (f3 : Int), .int .u64 z, .int .u64 (f5 : Int), .slice sp n c] 33 (0, 0)) := by rw [← hw1]; exact heap_alloc_new _ _
  have hl1 := h.below hb1
  have hlt := C.lt_of_block h
  obtain ⟨s4, s6⟩ := frbox hk1
  have hne : ¬ w.heap.size = b := by omega
  have hne2 : ¬ b = w.heap.size := by omega
  have hlx := C.lt_of_block hk1
  have HW := hide hw1
  clear hw1
  by_cases h0 : seq = 0
  · obtain rfl : z = 0 := by omega
    have HP : Hid (handN L seq = false ∧ bodyL L seq = L) := ⟨by unfold handN; exact decide_eq_false (by omega), by unfold bodyL; rw [if_pos h0]⟩
    have HL1 := hide hl1
    have HB1 := hide hb1
    rw [HP.out.1]
    clear hk1 hl1 h hb1 hx hh hlen hz h0
    go_enter Tryz.func99, Tryz.ntmps99
    go_upto_region 1 with (fail)
    rw [HW.out]
    go_wp2
    go_ret2
    exact ⟨none, 0, 0, rfl, by rw [HP.out.1]; exact World.ownsRow_nil _ _ _ _, by rw [HP.out.1]; rfl, by rw [HP.out.1]; rfl, by rw [HP.out.2]; exact HL1.out, C.but_of HB1.out b⟩
  · have HZ0 : Hid ((z == 0) = false) := by show _ = _; rw [← hz]; simpa using h0
    obtain ⟨w2, hw2⟩ : ∃ w2, w1.setCell ⟨b, 9, none⟩ (.bool true) = w2 := ⟨_, rfl⟩
    have hl2 : Lb w2 b { L with ack := true } rv := by rw [← hw2]; exact hl1.set 9 _ _ rv rfl
    have ho2 : Onl b w1 w2 := by rw [← hw2]; exact (Onl.refl b w1).set 9 _
    obtain ⟨-, -, -, -, -, -, -, -, -, c9, -, -, -, -, -, cf⟩ := blk15 hl1
    obtain ⟨-, -, -, -, -, -, -, -, c8, -, -, -, -, -, -, cf2⟩ := blk15 hl2
    have hk2 := (ho2.block w.heap.size hne).trans hk1
    obtain ⟨q4, q6⟩ := frbox hk2
    simp only at c8
    obtain ⟨H, hH⟩ : ∃ H, L.handed = H := ⟨_, rfl⟩
    rw [hH] at c8 hh
    have i4 : (H : Int) + 1 < 18446744073709551616 := by omega
    have i5 : (0 : Int) ≤ (H : Int) := by omega
    have HWr : Hid (IntKind.u64.wrap ((H : Int) + 1) = (H : Int) + 1) := by show _ = _; rw [IntKind.wrap_u64]; omega
    have hlt1 : b < w1.heap.size := C.lt_of_block hl1
    have hlt2 : b < w2.heap.size := C.lt_of_block hl2
    have hlx2 : w.heap.size < w2.heap.size := C.lt_of_block hk2
    have HB2 : Hid (C.But b w w2) := (C.but_of hb1 b).trans ho2.but
    by_cases he : seq = H + 1
    · have HP : Hid (handN L seq = true ∧ bodyL L seq = { L with ack := true, handed := L.handed + 1 }) := ⟨by unfold handN; rw [hH]; exact decide_eq_true he, by unfold bodyL; rw [if_neg h0, hH, if_pos he]⟩
      have HZn : Hid ((z != (H : Int) + 1) = false) := by show _ = _; rw [← hz, he]; simp
      have hx2 : Bytes w2 sp xs := by
        refine ⟨hx.small, hx.lie.imp id ?_⟩
        rintro ⟨g, o, e, hg, hc⟩
        refine ⟨g, o, e, Nat.lt_of_lt_of_le hg HB2.out.size, fun j hj => ?_⟩
        rw [← hc j hj]
        exact World.cell?_of_block (a := ⟨g, o + j, none⟩) (HB2.out.block g hg (hspb _ e))
      obtain ⟨w3, hw3⟩ : ∃ w3, (w2.setCell ⟨b, 8, none⟩ (.int .u64 ((H : Int) + 1))).drew = w3 := ⟨_, rfl⟩
      have hl3 : Lb w3 b { L with ack := true, handed := L.handed + 1 } rv := by rw [← hw3]; exact hl2.set 8 _ _ rv (by rw [hH]; rfl)
      have ho3 : Onl b w2 w3 := by rw [← hw3]; exact ((Onl.refl b w2).set 8 _).drew
      have hx3 : Bytes w3 sp xs := by
        refine ⟨hx.small, hx.lie.imp id ?_⟩
        rintro ⟨g, o, e, hg, hc⟩
        refine ⟨g, o, e, Nat.lt_of_lt_of_le hg (HB2.out.trans ho3.but).size, fun j hj => ?_⟩
        rw [← hc j hj]
        exact World.cell?_of_block (a := ⟨g, o + j, none⟩) ((HB2.out.trans ho3.but).block g hg (hspb _ e))
      have hk3 := (ho3.block w.heap.size hne).trans hk2
      obtain ⟨p4, p6⟩ := frbox hk3
      have HCl := hide (clone_any w3 sp n c xs hn hx3 hlen)
      have HB3 := hide (HB2.out.trans ho3.but)
      have HL3 := hide hl3
      have HXl := hide hn
      rw [HP.out.1]
      have HW2 := hide hw2
      have HW3 := hide hw3
      clear hk1 hl1 h hb1 hx hh hlen hl2 ho2 hk2 he h0 hw2 hz hH hx2 hw3 hl3 ho3 hx3 hk3 hn
      go_enter Tryz.func99, Tryz.ntmps99
      go_upto_region 1 with (fail)
      rw [HW.out]
      go_upto_if 8 with (fail)
      try rw [HZ0.out]
      go_upto_region 4 with (fail)
      rw [HW2.out]
      go_region_held3 (fun w' => w'.cell? ⟨w.heap.size, 4, none⟩ = some (.int .u64 z) ∧ w'.cell? ⟨b, 8, none⟩ = some (.int .u64 (H : Int))) (go_keep) (fail)
      go_upto_if 21 with (fail)
      first | rw [HWr.out, HZn.out] | rw [HZn.out]
      go_upto_region 7 with (fail)
      rw [HW3.out]
      go_wp2_with fail
      refine HCl.out.mono ?_
      rintro e w5 ⟨a, cc, rfl, hrow, hb5, hnil⟩
      have HR5 := hide hrow
      have HB5 := hide hb5
      have HN5 := hide hnil
      clear hrow hb5 hnil
      go_wp2
      go_ret2
      refine ⟨a, n, cc, rfl, ?_, ?_, ?_, ?_, HB3.out.trans (C.but_of HB5.out b)⟩
      · rw [HP.out.1]
        have hr := HR5.out
        refine ⟨hr.1, hr.2.imp id ?_⟩
        rintro ⟨g, cap, cur, e1, e2, r⟩
        exact ⟨g, cap, cur, e1, Nat.le_trans HB3.out.size e2, r⟩
      · rw [HP.out.1]; exact HXl.out.symm
      · rw [HP.out.1, HN5.out]; simp
      · rw [HP.out.2]; exact HL3.out.below HB5.out
    · have HP : Hid (handN L seq = false ∧ bodyL L seq = { L with ack := true }) := ⟨by unfold handN; rw [hH]; exact decide_eq_false he, by unfold bodyL; rw [if_neg h0, hH, if_neg he]⟩
      have HZn : Hid ((z != (H : Int) + 1) = true) := by show _ = _; rw [← hz]; simp; omega
      have HL2 := hide hl2
      rw [HP.out.1]
      have HW2 := hide hw2
      clear hk1 hl1 h hb1 hx hh hlen hl2 ho2 hk2 he h0 hw2 hz hH
      go_enter Tryz.func99, Tryz.ntmps99
      go_upto_region 1 with (fail)
      rw [HW.out]
      go_upto_if 8 with (fail)
      try rw [HZ0.out]
      go_upto_region 4 with (fail)
      rw [HW2.out]
      go_region_held3 (fun w' => w'.cell? ⟨w.heap.size, 4, none⟩ = some (.int .u64 z) ∧ w'.cell? ⟨b, 8, none⟩ = some (.int .u64 (H : Int))) (go_keep) (fail)
      go_upto_if 21 with (fail)
      first | rw [HWr.out, HZn.out] | rw [HZn.out]
      go_wp2
      go_ret2
      exact ⟨none, 0, 0, rfl, by rw [HP.out.1]; exact World.ownsRow_nil _ _ _ _, by rw [HP.out.1]; rfl, by rw [HP.out.1]; rfl, by rw [HP.out.2]; exact HL2.out, HB2.out.drew⟩
end Go.Proofs.YtjcdnclfakmbpaaGreatDoor
