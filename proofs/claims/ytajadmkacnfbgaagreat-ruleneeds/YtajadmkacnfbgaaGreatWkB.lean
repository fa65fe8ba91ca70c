import Derived.Test.YtajadmkacnfbgaaGreatWkA
namespace Go.Proofs.YtajadmkacnfbgaaGreat
open Go.RowKit

/-- The state that wakes makes. -/
def Sv (P A B C : Nat) : Value := .agg #[.int .u64 0, .slice (some ⟨P, 0, none⟩) 1 1, .slice none 0 0, .slice (some ⟨A, 0, none⟩) 1 1, .slice (some ⟨B, 0, none⟩) 1 1, .slice (some ⟨C, 0, none⟩) 1 1]
structure Sok (w : World) (P H : Nat) : Prop where
  pool : w.heap[P]? = some (.cells #[.int .i64 6, .int .i64 5, .int .i64 4, .slice (some ⟨H, 0, none⟩) 1 1] 80 (0, 0))
  held : w.heap[H]? = some (.cells #[.int .i64 1, .int .i64 0] 77 (0, 0))
theorem Sok.below {w w' : World} {P H : Nat} (h : Sok w P H) {n : Nat} (hb : Below n w w') (hn : w.heap.size ≤ n) : Sok w' P H :=
  ⟨(hb.block P (Nat.lt_of_lt_of_le (ac_lt h.pool) hn)).trans h.pool, (hb.block H (Nat.lt_of_lt_of_le (ac_lt h.held) hn)).trans h.held⟩
theorem ac6 {w : World} {b : Nat} {x0 x1 x2 x3 x4 x5 : Value} {t : TypeId} (h : w.heap[b]? = some (.cells #[x0, x1, x2, x3, x4, x5] t (0, 0))) :
    w.cell? ⟨b, 0, none⟩ = some x0 ∧ w.cell? ⟨b, 1, none⟩ = some x1 ∧ w.cell? ⟨b, 2, none⟩ = some x2 ∧ w.cell? ⟨b, 3, none⟩ = some x3 ∧ w.cell? ⟨b, 4, none⟩ = some x4 ∧ w.cell? ⟨b, 5, none⟩ = some x5 :=
  ⟨by simp [World.cell?, h], by simp [World.cell?, h], by simp [World.cell?, h], by simp [World.cell?, h], by simp [World.cell?, h], by simp [World.cell?, h]⟩

set_option maxRecDepth 100000 in
set_option maxHeartbeats 2000000 in
theorem held_one (w : World) (P H A B C : Nat) (hs : Sok w P H) :
    Calls Tryz.prog 103 #[Sv P A B C, .int .i64 0, .agg #[.int .i64 0, .int .i64 0]] w fun e w' => e = .returned (.int .i64 1) ∧ Below w.heap.size w w' := by
  unfold Sv
  obtain ⟨w2, hw2⟩ : ∃ w2, (w.alloc (.cells #[.int .u64 0, .slice (some ⟨P, 0, none⟩) 1 1, .slice none 0 0, .slice (some ⟨A, 0, none⟩) 1 1, .slice (some ⟨B, 0, none⟩) 1 1, .slice (some ⟨C, 0, none⟩) 1 1] 86)).alloc (.cells #[.int .i64 0, .int .i64 0] 62) = w2 := ⟨_, rfl⟩
  have hb2 : Below w.heap.size w w2 := by rw [← hw2]; exact ((Below.refl _ _).alloc (Nat.le_refl _) _).alloc (by simp) _
  have hx2 : w2.heap[w.heap.size]? = some (.cells #[.int .u64 0, .slice (some ⟨P, 0, none⟩) 1 1, .slice none 0 0, .slice (some ⟨A, 0, none⟩) 1 1, .slice (some ⟨B, 0, none⟩) 1 1, .slice (some ⟨C, 0, none⟩) 1 1] 86 (0, 0)) := by rw [← hw2]; exact (Below.heap_alloc _ _ _ (by simp)).trans (heap_alloc_new _ _)
  have hk2 : w2.heap[w.heap.size + 1]? = some (.cells #[.int .i64 0, .int .i64 0] 62 (0, 0)) := by rw [← hw2]; have h := heap_alloc_new (w.alloc (.cells #[.int .u64 0, .slice (some ⟨P, 0, none⟩) 1 1, .slice none 0 0, .slice (some ⟨A, 0, none⟩) 1 1, .slice (some ⟨B, 0, none⟩) 1 1, .slice (some ⟨C, 0, none⟩) 1 1] 86)) (.cells #[.int .i64 0, .int .i64 0] 62); rw [World.size_alloc] at h; exact h
  have hs2 := hs.below hb2 (Nat.le_refl _)
  obtain ⟨c0, c1, c2, c3, c4, c5⟩ := ac6 hx2
  obtain ⟨k0, k1⟩ := ac2 hk2
  have HW2 := hide hw2
  have HB2 := hide hb2
  have HK2 := hide hk2
  have HS2 := hide hs2
  have HAp := hide (atPool_any w2 P 6 5 4 (some ⟨H, 0, none⟩) 1 1 hs2.pool)
  clear hw2 hb2 hx2 hk2 hs2 hs
  go_enter Tryz.func103, Tryz.ntmps103
  go_upto_region 1 with (fail)
  rw [HW2.out]
  go_upto_region 2 with (go_at_call 119; refine HAp.out.mono ?_; rintro e w3 ⟨rfl, hb3⟩; have HB3 := hide hb3; clear hb3)
  obtain ⟨w4, hw4⟩ : ∃ w4, w3.alloc (.cells #[.int .i64 6, .int .i64 5, .int .i64 4, .slice (some ⟨H, 0, none⟩) 1 1] 80) = w4 := ⟨_, rfl⟩
  have hb4 : Below w2.heap.size w2 w4 := by rw [← hw4]; exact HB3.out.alloc HB3.out.size _
  have hp4 : w4.heap[w3.heap.size]? = some (.cells #[.int .i64 6, .int .i64 5, .int .i64 4, .slice (some ⟨H, 0, none⟩) 1 1] 80 (0, 0)) := by rw [← hw4]; exact heap_alloc_new _ _
  rw [hw4]
  obtain ⟨p0, p1, p2, p3⟩ := ac4 hp4
  have HS4 := hide (HS2.out.below hb4 (Nat.le_refl _))
  have HK4 := hide ((hb4.block _ (ac_lt HK2.out)).trans HK2.out)
  have HAw := hide (atWays_any w4 H 1 0 HS4.out.held)
  have HB4 := hide (HB2.out.trans (hb4.mono HB2.out.size))
  clear hw4 hb4 hp4 c0 c1 c2 c3 c4 c5 k0 k1
  go_upto_region 3 with (go_at_call 121; refine HAw.out.mono ?_; rintro e w5 ⟨rfl, hb5⟩; have HB5 := hide hb5; clear hb5)
  obtain ⟨w6, hw6⟩ : ∃ w6, w5.alloc (.cells #[.int .i64 1, .int .i64 0] 77) = w6 := ⟨_, rfl⟩
  have hb6 : Below w4.heap.size w4 w6 := by rw [← hw6]; exact HB5.out.alloc HB5.out.size _
  have hp6 : w6.heap[w5.heap.size]? = some (.cells #[.int .i64 1, .int .i64 0] 77 (0, 0)) := by rw [← hw6]; exact heap_alloc_new _ _
  rw [hw6]
  obtain ⟨k0, k1⟩ := ac2 ((hb6.block _ (ac_lt HK4.out)).trans HK4.out)
  have HAi := hide (atInt_any w6 w5.heap.size 1 0 hp6)
  have HAd := hide (atInt_any w6.drew w5.heap.size 1 0 hp6)
  have HB6 := hide (HB4.out.trans (hb6.mono HB4.out.size))
  clear hw6 hb6 hp6 p0 p1 p2 p3
  go_region_held3 (fun w' => w'.cell? ⟨w.heap.size + 1, 0, none⟩ = some (.int .i64 0) ∧ w'.cell? ⟨w.heap.size + 1, 1, none⟩ = some (.int .i64 0)) (go_keep) (first | (go_at_call 120; refine HAd.out.mono ?_; rintro e w7 ⟨rfl, rfl⟩) | (go_at_call 120; refine HAi.out.mono ?_; rintro e w7 ⟨rfl, rfl⟩) | fail)
  all_goals go_wp2
  all_goals go_ret
  all_goals first | exact ⟨rfl, HB6.out⟩ | exact ⟨rfl, HB6.out.drew⟩
end Go.Proofs.YtajadmkacnfbgaaGreat
