import Derived.Test.YtfjhbbekeibpkaaDoorLqB
namespace Go.Proofs.YtfjhbbekeibpkaaDoor
open Go.RowKit

/-- Messages that lie from a spot on. -/
structure Ms (w : World) (g o : Nat) (ms : List (Nat × ByteArray)) : Prop where
  lt : g < w.heap.size
  num : ∀ j m, ms[j]? = some m → w.cell? ⟨g, o + j * 2, none⟩ = some (.int .u64 (m.1 : Int))
  body : ∀ j m, ms[j]? = some m → w.cell? ⟨g, o + j * 2 + 1, none⟩ = some (.string m.2)
theorem Ms.kept {w w' : World} {g o : Nat} {ms : List (Nat × ByteArray)} (h : Ms w g o ms) (hs : w.heap.size ≤ w'.heap.size) (hb : w'.heap[g]? = w.heap[g]?) : Ms w' g o ms :=
  ⟨Nat.lt_of_lt_of_le h.lt hs, fun j m hm => (World.cell?_of_block (a := ⟨g, o + j * 2, none⟩) hb).trans (h.num j m hm), fun j m hm => (World.cell?_of_block (a := ⟨g, o + j * 2 + 1, none⟩) hb).trans (h.body j m hm)⟩
theorem Ms.but {w w' : World} {g o b : Nat} {ms : List (Nat × ByteArray)} (h : Ms w g o ms) (hb : C.But b w w') (hn : g ≠ b) : Ms w' g o ms := h.kept hb.size (hb.block g h.lt hn)

set_option maxRecDepth 100000 in
set_option maxHeartbeats 1000000 in
theorem first_any (w : World) (b : Nat) (L : Lk) (win g o n c k : Nat) (h : Lb w b L (.slice (some ⟨g, o, none⟩) n c)) (hnc : n ≤ c) (hk : min win n = k) :
    Calls Tryd.prog 37 #[.pointer (some ⟨b, 5, none⟩), .int .i64 (win : Int)] w fun e w' => e = .returned (.slice (some ⟨g, o, none⟩) k c) ∧ Below w.heap.size w w' := by
  obtain ⟨-, -, -, -, -, c5, -⟩ := blk15 h
  have hmin : min (win : Int) (n : Int) = (k : Int) := by omega
  have i1 : (0 : Int) ≤ (k : Int) := by omega
  have i2 : (k : Int) ≤ (c : Int) := by omega
  have i3 : k ≤ c := by omega
  clear h hk
  go_enter Tryd.func37, Tryd.ntmps37
  go_wp2
  go_region_held3 (fun w' => w'.cell? ⟨b, 5, none⟩ = some (.slice (some ⟨g, o, none⟩) n c)) (go_keep) (fail)
  all_goals go_wp2
  all_goals go_ret
  all_goals exact ⟨rfl, (Below.refl _ _).drew⟩
set_option maxRecDepth 100000 in
set_option maxHeartbeats 1000000 in
theorem goes_any (w : World) (tb gb : Nat) (tm : Bool) (gn n : Nat) (s : ByteArray) (h1 : w.heap[tb]? = some (.cells #[.bool tm] 4 (0, 0))) (h2 : w.heap[gb]? = some (.cells #[.int .u64 (gn : Int)] 26 (0, 0))) :
    Calls Tryd.prog 21 #[.agg #[.int .u64 (n : Int), .string s], .pointer (some ⟨tb, 0, none⟩), .pointer (some ⟨gb, 0, none⟩)] w fun e w' => e = .returned (.bool (tm || decide (gn < n))) ∧ Below w.heap.size w w' := by
  obtain ⟨w1, hw1⟩ : ∃ w1, w.alloc (.cells #[.int .u64 (n : Int), .string s] 61) = w1 := ⟨_, rfl⟩
  have hb1 : Below w.heap.size w w1 := by rw [← hw1]; exact (Below.refl _ _).alloc (Nat.le_refl _) _
  have hk1 : w1.heap[w.heap.size]? = some (.cells #[.int .u64 (n : Int), .string s] 61 (0, 0)) := by rw [← hw1]; exact heap_alloc_new _ _
  have d0 : w1.cell? ⟨w.heap.size, 0, none⟩ = some (.int .u64 (n : Int)) := by simp [World.cell?, hk1]
  have t0 : w1.cell? ⟨tb, 0, none⟩ = some (.bool tm) := by have := (hb1.block tb (C.lt_of_block h1)).trans h1; simp [World.cell?, this]
  have g0 : w1.cell? ⟨gb, 0, none⟩ = some (.int .u64 (gn : Int)) := by have := (hb1.block gb (C.lt_of_block h2)).trans h2; simp [World.cell?, this]
  have HD : Hid (decide (gn < n) = decide ((gn : Int) < (n : Int))) := decide_eq_decide.2 (by omega)
  rw [HD.out]
  have HB := hide hb1
  clear hk1 hb1 h1 h2
  cases tm with
  | true =>
    go_enter Tryd.func21, Tryd.ntmps21
    go_upto_region 1 with (fail)
    try rw [hw1]
    go_wp2
    go_ret
    exact ⟨rfl, HB.out⟩
  | false =>
    go_enter Tryd.func21, Tryd.ntmps21
    go_upto_region 1 with (fail)
    try rw [hw1]
    go_wp2
    go_ret
    exact ⟨by simp, HB.out⟩
end Go.Proofs.YtfjhbbekeibpkaaDoor
