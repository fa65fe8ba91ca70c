import Derived.Test.YtajadmkacnfbgaaGreatWkD
namespace Go.Proofs.YtajadmkacnfbgaaGreat
open Go.RowKit

set_option maxRecDepth 100000 in
set_option maxHeartbeats 2000000 in
theorem judge_one (w : World) (P H A B C g : Nat) (a : Int) (ha : a = 1 ∨ a = 2) (hs : Sok w P H) (hg : w.heap[g]? = some (.cells #[.int .i64 0, .int .i64 (-a)] 48 (0, 0))) :
    Calls Tryz.prog 24 #[.agg #[.int .u64 0, .slice (some ⟨P, 0, none⟩) 1 1, .slice none 0 0, .slice (some ⟨A, 0, none⟩) 1 1, .slice (some ⟨B, 0, none⟩) 1 1, .slice (some ⟨C, 0, none⟩) 1 1], .agg #[.int .i64 0, .int .u64 1, .int .i64 1, .bool true, .slice (some ⟨g, 0, none⟩) 1 1, .slice none 0 0, .slice none 0 0, .int .i64 0, .slice none 0 0, .int .i64 0, .int .i64 0, .int .i64 0, .int .i64 0, .int .u64 0, .slice none 0 0]] w fun e w' => ∃ o v, e = .returned (.agg #[.int .i64 o, v, .slice none 0 0, .int .i64 0]) ∧ Mv w.heap.size w' a o v ∧ Below w.heap.size w w' := by
  obtain ⟨w1, hw1⟩ : ∃ w1, (w.alloc (.cells #[.int .u64 0, .slice (some ⟨P, 0, none⟩) 1 1, .slice none 0 0, .slice (some ⟨A, 0, none⟩) 1 1, .slice (some ⟨B, 0, none⟩) 1 1, .slice (some ⟨C, 0, none⟩) 1 1] 86)).alloc (.cells #[.int .i64 0, .int .u64 1, .int .i64 1, .bool true, .slice (some ⟨g, 0, none⟩) 1 1, .slice none 0 0, .slice none 0 0, .int .i64 0, .slice none 0 0, .int .i64 0, .int .i64 0, .int .i64 0, .int .i64 0, .int .u64 0, .slice none 0 0] 94) = w1 := ⟨_, rfl⟩
  have hb1 : Below w.heap.size w w1 := by rw [← hw1]; exact ((Below.refl _ _).alloc (Nat.le_refl _) _).alloc (by simp) _
  have hz1 : w1.heap.size = w.heap.size + 1 + 1 := by rw [← hw1]; simp
  have hx1 : w1.heap[w.heap.size]? = some (.cells #[.int .u64 0, .slice (some ⟨P, 0, none⟩) 1 1, .slice none 0 0, .slice (some ⟨A, 0, none⟩) 1 1, .slice (some ⟨B, 0, none⟩) 1 1, .slice (some ⟨C, 0, none⟩) 1 1] 86 (0, 0)) := by rw [← hw1]; exact (Below.heap_alloc _ _ _ (by simp)).trans (heap_alloc_new _ _)
  have ha1 : w1.heap[w.heap.size + 1]? = some (.cells #[.int .i64 0, .int .u64 1, .int .i64 1, .bool true, .slice (some ⟨g, 0, none⟩) 1 1, .slice none 0 0, .slice none 0 0, .int .i64 0, .slice none 0 0, .int .i64 0, .int .i64 0, .int .i64 0, .int .i64 0, .int .u64 0, .slice none 0 0] 94 (0, 0)) := by rw [← hw1]; have h := heap_alloc_new (w.alloc (.cells #[.int .u64 0, .slice (some ⟨P, 0, none⟩) 1 1, .slice none 0 0, .slice (some ⟨A, 0, none⟩) 1 1, .slice (some ⟨B, 0, none⟩) 1 1, .slice (some ⟨C, 0, none⟩) 1 1] 86)) (.cells #[.int .i64 0, .int .u64 1, .int .i64 1, .bool true, .slice (some ⟨g, 0, none⟩) 1 1, .slice none 0 0, .slice none 0 0, .int .i64 0, .slice none 0 0, .int .i64 0, .int .i64 0, .int .i64 0, .int .i64 0, .int .u64 0, .slice none 0 0] 94); rw [World.size_alloc] at h; exact h
  obtain ⟨w2, hw2⟩ : ∃ w2, w1.alloc (.cells #[.int .i64 0, .slice none 0 0, .slice none 0 0, .int .i64 0] 96) = w2 := ⟨_, rfl⟩
  have hb12 : Below w1.heap.size w1 w2 := by rw [← hw2]; exact (Below.refl _ _).alloc (Nat.le_refl _) _
  have ht2 : w2.heap[w.heap.size + 1 + 1]? = some (.cells #[.int .i64 0, .slice none 0 0, .slice none 0 0, .int .i64 0] 96 (0, 0)) := by rw [← hw2, ← hz1]; exact heap_alloc_new _ _
  have hb2 : Below w.heap.size w w2 := hb1.trans (hb12.mono hb1.size)
  obtain ⟨c0, c1, c2, c3, c4, c5⟩ := ac6 ((hb12.block _ (ac_lt hx1)).trans hx1)
  obtain ⟨k0, k1, k2, k3, k4, k5, k6, k7, k8, k9, k10, k11, k12, k13, k14⟩ := ac15 ((hb12.block _ (ac_lt ha1)).trans ha1)
  have HJ := hide (Judge_one w2 P H A B C g a ha (hs.below hb2 (Nat.le_refl _)) ((hb2.block g (ac_lt hg)).trans hg))
  have HW : Hid (((w.alloc (.cells #[.int .u64 0, .slice (some ⟨P, 0, none⟩) 1 1, .slice none 0 0, .slice (some ⟨A, 0, none⟩) 1 1, .slice (some ⟨B, 0, none⟩) 1 1, .slice (some ⟨C, 0, none⟩) 1 1] 86)).alloc (.cells #[.int .i64 0, .int .u64 1, .int .i64 1, .bool true, .slice (some ⟨g, 0, none⟩) 1 1, .slice none 0 0, .slice none 0 0, .int .i64 0, .slice none 0 0, .int .i64 0, .int .i64 0, .int .i64 0, .int .i64 0, .int .u64 0, .slice none 0 0] 94)).alloc (.cells #[.int .i64 0, .slice none 0 0, .slice none 0 0, .int .i64 0] 96) = w2) := by show _ = _; rw [hw1]; exact hw2
  have HB2 := hide hb2
  have HT2 := hide ht2
  clear hw1 hb1 hz1 hx1 ha1 hw2 hb12 ht2 hb2 hs hg ha
  go_enter Tryz.func24, Tryz.ntmps24
  go_upto_region 1 with (fail)
  rw [HW.out]
  go_upto_region 2 with (go_at_call 55; refine HJ.out.mono ?_; rintro e w3 ⟨o, v, rfl, hm, hb3⟩; have HM := hide hm; have HB3 := hide hb3; clear hm hb3)
  have ht3 := (HB3.out.block _ (ac_lt HT2.out)).trans HT2.out
  obtain ⟨d0, d1, d2, d3⟩ := ac4 ht3
  have cf := RB.bk_thaw ht3
  have HT3 := hide ht3
  have HB := hide (HB2.out.trans (HB3.out.mono HB2.out.size))
  clear ht3
  rcases HM.out with ⟨e1, e2, q, c, rfl, hq0, hq, hc⟩ | ⟨e1, e2, rfl⟩
  · have HQ := hide hq
    have HQ0 := hide hq0
    have HC := hide hc
    have HE := hide (And.intro e1 e2)
    clear hq hq0 hc e1 e2
    go_wp2
    have HBf : Hid (Below w.heap.size w ((((w3.setCell ⟨w.heap.size + 1 + 1, 0, none⟩ (.int .i64 o)).setCell ⟨w.heap.size + 1 + 1, 1, none⟩ (.slice (some ⟨q, 0, none⟩) 1 c)).setCell ⟨w.heap.size + 1 + 1, 2, none⟩ (.slice none 0 0)).setCell ⟨w.heap.size + 1 + 1, 3, none⟩ (.int .i64 0))) := (((HB.out.setCell (p := ⟨w.heap.size + 1 + 1, 0, none⟩) (by show w.heap.size ≤ w.heap.size + 1 + 1; omega) _).setCell (p := ⟨w.heap.size + 1 + 1, 1, none⟩) (by show w.heap.size ≤ w.heap.size + 1 + 1; omega) _).setCell (p := ⟨w.heap.size + 1 + 1, 2, none⟩) (by show w.heap.size ≤ w.heap.size + 1 + 1; omega) _).setCell (p := ⟨w.heap.size + 1 + 1, 3, none⟩) (by show w.heap.size ≤ w.heap.size + 1 + 1; omega) _
    refine bodyPost_ret (results_cell_row rfl _ _ (w.heap.size + 1 + 1) 96 #[.int .i64 o, .slice (some ⟨q, 0, none⟩) 1 c, .slice none 0 0, .int .i64 0] (0, 0) _ rfl (by rw [RB.block_set (RB.block_set (RB.block_set (RB.block_set HT3.out _) _) _) _]; rfl) Tryz.underlying96 rfl (by kernel_rfl)) rfl ?_
    have hne : q ≠ w.heap.size + 1 + 1 := by have h1 := HQ0.out; have h2 := ac_lt HT2.out; omega
    refine ⟨o, _, rfl, Or.inl ⟨HE.out.1, HE.out.2, q, c, rfl, Nat.le_trans HB2.out.size HQ0.out, by simp only [World.size_setCell]; exact HQ.out, ?_⟩, HBf.out⟩
    have hh : ((((w3.setCell ⟨w.heap.size + 1 + 1, 0, none⟩ (.int .i64 o)).setCell ⟨w.heap.size + 1 + 1, 1, none⟩ (.slice (some ⟨q, 0, none⟩) 1 c)).setCell ⟨w.heap.size + 1 + 1, 2, none⟩ (.slice none 0 0)).setCell ⟨w.heap.size + 1 + 1, 3, none⟩ (.int .i64 0)).heap[q]? = w3.heap[q]? := by
      rw [Below.heap_setCell _ _ _ _ hne, Below.heap_setCell _ _ _ _ hne, Below.heap_setCell _ _ _ _ hne, Below.heap_setCell _ _ _ _ hne]
    have h := HC.out
    unfold World.cell? at h ⊢
    simp only [hh]
    exact h
  · have HE := hide (And.intro e1 e2)
    clear e1 e2
    go_wp2
    have HBf : Hid (Below w.heap.size w ((((w3.setCell ⟨w.heap.size + 1 + 1, 0, none⟩ (.int .i64 o)).setCell ⟨w.heap.size + 1 + 1, 1, none⟩ (.slice none 0 0)).setCell ⟨w.heap.size + 1 + 1, 2, none⟩ (.slice none 0 0)).setCell ⟨w.heap.size + 1 + 1, 3, none⟩ (.int .i64 0))) := (((HB.out.setCell (p := ⟨w.heap.size + 1 + 1, 0, none⟩) (by show w.heap.size ≤ w.heap.size + 1 + 1; omega) _).setCell (p := ⟨w.heap.size + 1 + 1, 1, none⟩) (by show w.heap.size ≤ w.heap.size + 1 + 1; omega) _).setCell (p := ⟨w.heap.size + 1 + 1, 2, none⟩) (by show w.heap.size ≤ w.heap.size + 1 + 1; omega) _).setCell (p := ⟨w.heap.size + 1 + 1, 3, none⟩) (by show w.heap.size ≤ w.heap.size + 1 + 1; omega) _
    refine bodyPost_ret (results_cell_row rfl _ _ (w.heap.size + 1 + 1) 96 #[.int .i64 o, .slice none 0 0, .slice none 0 0, .int .i64 0] (0, 0) _ rfl (by rw [RB.block_set (RB.block_set (RB.block_set (RB.block_set HT3.out _) _) _) _]; rfl) Tryz.underlying96 rfl (by kernel_rfl)) rfl ?_
    exact ⟨o, _, rfl, Or.inr ⟨HE.out.1, HE.out.2, rfl⟩, HBf.out⟩
end Go.Proofs.YtajadmkacnfbgaaGreat
