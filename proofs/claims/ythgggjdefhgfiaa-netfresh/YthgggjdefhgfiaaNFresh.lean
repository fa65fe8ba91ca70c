import Derived.Test.YthgggjdefhgfiaaNScr
import Derived.Test.YthgggjdefhgfiaaHHeld
namespace Go.Proofs.Ythgggjdefhgfiaa
open Go.RowKit

theorem Nopi.below {w w' : World} {sp : Option Addr} {ops : List NOp} (h : Nopi w sp ops) (hb : Below w.heap.size w w') : Nopi w' sp ops := by
  refine ⟨h.lie.imp id ?_, fun q hq => have k := h.ok q hq; ⟨k.by_.below hb, k.len, k.le, k.max, k.near.imp id (fun h g p e => Nat.lt_of_lt_of_le (h g p e) hb.size)⟩⟩
  rintro ⟨g, o, e, hg, hc⟩
  exact ⟨g, o, e, Nat.lt_of_lt_of_le hg hb.size, fun j q hq i v hv => (hb.cell (p := ⟨g, o + j * 5 + i, none⟩) hg).trans (hc j q hq i v hv)⟩
set_option maxRecDepth 100000 in
set_option maxHeartbeats 1000000 in
theorem fresh_all (w : World) (r0 r1 : Int) (sp : Option Addr) (m c : Nat) (ops : List NOp) (hm : ops.length = m) (hml : m ≤ 140737488355328) (h : Nopi w sp ops) :
    Calls Try.prog 3 #[.agg #[.int .i64 r0, .int .i64 r1, .slice sp m c]] w fun e w' => e = .returned (.bool true) ∧ Below w.heap.size w w' := by
  obtain ⟨w1, hw1⟩ : ∃ w1, w.alloc (.cells #[.int .i64 r0, .int .i64 r1, .slice sp m c] 25) = w1 := ⟨_, rfl⟩
  have hb1 : Below w.heap.size w w1 := by rw [← hw1]; exact (Below.refl _ _).alloc (Nat.le_refl _) _
  have hx1 : w1.heap[w.heap.size]? = some (.cells #[.int .i64 r0, .int .i64 r1, .slice sp m c] 25 (0, 0)) := by rw [← hw1]; exact heap_alloc_new _ _
  have h1 := h.below hb1
  have HP := hide (play_any w1 r0 r1 sp m c ops hm hml h1 true)
  have HH := hide (fun (W : World) (hb : Below w1.heap.size w1 W) => held_any W r0 r1 sp m c ops hm hml (h1.below hb))
  have HB := hide hb1
  have HX := hide hx1
  have HW1 := hide hw1
  obtain ⟨y0, y1, y2, yf⟩ := blk3 hx1
  have hl1 := lt_of_block hx1
  clear hb1 h1 h hm hx1 hw1
  have n0 : w.heap.size < w.heap.size + 1 := by omega
  go_enter Try.func3, Try.ntmps3
  go_wp2_with fail
  rw [HW1.out]
  refine HP.out.mono ?_
  rintro e w2 ⟨rfl, hb2⟩
  have hx2 : w2.heap[w.heap.size]? = _ := (hb2.block _ hl1).trans HX.out
  obtain ⟨z0, z1, z2, zf⟩ := blk3 hx2
  have hl2 := lt_of_block hx2
  have HH2 := hide (HH.out w2 hb2)
  have HB2 := hide (HB.out.trans (hb2.mono HB.out.size))
  clear hb2 y0 y1 y2 yf hx2
  go_wp2_with fail
  refine HH2.out.mono ?_
  rintro e w3 ⟨rfl, hb3⟩
  have HB3 := hide (HB2.out.trans (hb3.mono HB2.out.size))
  clear hb3
  go_wp2
  go_ret
  exact ⟨rfl, HB3.out⟩
end Go.Proofs.Ythgggjdefhgfiaa
