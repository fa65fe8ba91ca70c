import Derived.Test.YtfjhbbekeibpkaaDoorCWriter3
namespace Go.Proofs.YtfjhbbekeibpkaaDoor.C
open Go.RowKit

set_option maxRecDepth 100000 in
set_option maxHeartbeats 400000 in
theorem wu8_any (w : World) (b : Nat) (v : Value) (ws : List Nat) (n : Nat) (hw : Wr w b v ws) (hn : n < 256) (hlen : ws.length + 8 ≤ 140737488355328) :
    Calls Tryd.prog 56 #[.pointer (some ⟨b, 0, none⟩), .int .u8 n] w fun e w' => e = .returned (.tuple #[]) ∧ Laid w w' b v ws (beOf n 1) := by
  have HC := hide1 (fixed_lays w b v ws n 0 hw (by omega) hlen)
  rw [show width 0 = 1 by simp [width]] at HC
  clear hw
  generalize beOf n 1 = A at *
  go_enter Tryd.func56, Tryd.ntmps56
  go_wp2_with fail
  refine HC.out.mono ?_
  rintro e w1 ⟨rfl, hl1⟩
  have HL1 := hide1 hl1
  clear hl1
  go_wp2
  go_end0
  exact ⟨rfl, HL1.out⟩

set_option maxRecDepth 100000 in
set_option maxHeartbeats 400000 in
theorem wu32_any (w : World) (b : Nat) (v : Value) (ws : List Nat) (n : Nat) (hw : Wr w b v ws) (hn : n < 4294967296) (hlen : ws.length + 8 ≤ 140737488355328) :
    Calls Tryd.prog 59 #[.pointer (some ⟨b, 0, none⟩), .int .u32 n] w fun e w' => e = .returned (.tuple #[]) ∧ Laid w w' b v ws (beOf n 4) := by
  have HC := hide1 (fixed_lays w b v ws n 1 hw (by omega) hlen)
  rw [show width 1 = 4 by simp [width]] at HC
  clear hw
  generalize beOf n 4 = A at *
  go_enter Tryd.func59, Tryd.ntmps59
  go_wp2_with fail
  refine HC.out.mono ?_
  rintro e w1 ⟨rfl, hl1⟩
  have HL1 := hide1 hl1
  clear hl1
  go_wp2
  go_end0
  exact ⟨rfl, HL1.out⟩

set_option maxRecDepth 100000 in
set_option maxHeartbeats 400000 in
theorem new_any (w : World) :
    Calls Tryd.prog 55 #[] w fun e w' => e = .returned (.pointer (some ⟨w.heap.size, 0, none⟩)) ∧ w' = w.alloc (.cells #[.slice none 0 0] 106) := by
  go_enter Tryd.func55, Tryd.ntmps55
  go_wp2
  go_ret
  exact ⟨rfl, rfl⟩
theorem new_wr (w : World) : Wr (w.alloc (.cells #[.slice none 0 0] 106)) w.heap.size (.slice none 0 0) [] :=
  ⟨heap_alloc_new _ _, ⟨rfl, Or.inl ⟨rfl, rfl⟩⟩, by simp⟩

theorem Wr.bytes {w : World} {b : Nat} {ws : List Nat} {a : Option Addr} {n c : Nat} (hw : Wr w b (.slice a n c) ws) : Bytes w a ws := by
  refine ⟨hw.small, ?_⟩
  rcases hw.own.2 with ⟨h1, h2⟩ | ⟨g, cap, cur, h1, _, hg, h2, h3, h4, h5⟩
  · exact Or.inl (List.eq_nil_of_length_eq_zero h2)
  · simp at h1
    refine Or.inr ⟨g, 0, h1.1, (Array.getElem?_eq_some_iff.1 hg).1, fun j hj => ?_⟩
    simp only [World.cell?, hg]
    have e : (cur.toList.take (ws.length * 1))[j]? = (vals ws)[j]? := by rw [h5]
    rw [List.getElem?_take] at e
    simp only [Nat.mul_one, if_pos hj] at e
    simp only [Nat.zero_add]
    rw [← Array.getElem?_toList]
    simp [e, vals, List.getD, List.getElem?_eq_getElem hj]

set_option maxRecDepth 100000 in
set_option maxHeartbeats 400000 in
theorem out_any (w : World) (b : Nat) (v : Value) (ws : List Nat) (hw : Wr w b v ws) (hlen : ws.length ≤ 140737488355328) :
    Calls Tryd.prog 60 #[.pointer (some ⟨b, 0, none⟩)] w fun e w' => e = .returned (.slice (some ⟨w.heap.size, 0, none⟩) ws.length ws.length) ∧ w' = w.alloc (.cells (vals ws).toArray 5) := by
  obtain ⟨a, c, rfl, hc⟩ := hw.form
  obtain ⟨q0, qf⟩ := blk1 hw.blk
  have HC := hide1 (copied_bytes w a ws.length c ws rfl hlen hw.bytes)
  clear hw
  generalize vals ws = V at *
  generalize ws.length = n at *
  go_enter Tryd.func60, Tryd.ntmps60
  go_wp2_with fail
  refine HC.out.mono ?_
  rintro e w1 ⟨rfl, rfl⟩
  go_wp2
  go_ret
  exact ⟨rfl, rfl⟩

end Go.Proofs.YtfjhbbekeibpkaaDoor.C
