import Derived.Test.YtajadmkacnfbgaaGreatWkB
namespace Go.Proofs.YtajadmkacnfbgaaGreat
open Go.RowKit

set_option maxRecDepth 100000 in
set_option maxHeartbeats 1000000 in
theorem kindOf_any (w : World) (a b n : Int) :
    Calls Tryz.prog 82 #[.agg #[.int .i64 a, .int .i64 b, .int .i64 n]] w fun e w' => e = .returned (.agg #[.int .i64 a, .int .i64 b]) ∧ Below w.heap.size w w' := by
  go_enter Tryz.func82, Tryz.ntmps82
  go_wp2
  refine bodyPost_ret (results_cell_row rfl _ _ (w.heap.size + 1) 62 #[.int .i64 a, .int .i64 b] (0, 0) _ rfl ?_ Tryz.underlying62 rfl (by kernel_rfl)) rfl ?_
  · have h := heap_alloc_new (w.alloc (.cells #[.int .i64 a, .int .i64 b, .int .i64 n] 70)) (.cells #[.int .i64 a, .int .i64 b] 62)
    rw [World.size_alloc] at h
    exact h
  · exact ⟨rfl, ((Below.refl _ _).alloc (Nat.le_refl _) _).alloc (by simp) _⟩

def SvC (P A B C : Nat) : Array Value := #[.int .u64 0, .slice (some ⟨P, 0, none⟩) 1 1, .slice none 0 0, .slice (some ⟨A, 0, none⟩) 1 1, .slice (some ⟨B, 0, none⟩) 1 1, .slice (some ⟨C, 0, none⟩) 1 1]
theorem Sv_eq (P A B C : Nat) : Sv P A B C = .agg (SvC P A B C) := rfl

set_option maxRecDepth 100000 in
set_option maxHeartbeats 1000000 in
theorem holds1_any (w : World) (P H A B C S T : Nat) (hs : Sok w P H) (hS : w.heap[S]? = some (.cells (SvC P A B C) 86 (0, 0))) (hT : w.heap[T]? = some (.cells #[.int .i64 0] 3 (0, 0))) :
    Calls Tryz.prog 112 #[.agg #[.int .i64 0, .int .i64 0], .pointer (some ⟨S, 0, none⟩), .pointer (some ⟨T, 0, none⟩)] w fun e w' => e = .returned (.int .i64 1) ∧ Below w.heap.size w w' := by
  obtain ⟨w2, hw2⟩ : ∃ w2, w.alloc (.cells #[.int .i64 0, .int .i64 0] 62) = w2 := ⟨_, rfl⟩
  have hb2 : Below w.heap.size w w2 := by rw [← hw2]; exact (Below.refl _ _).alloc (Nat.le_refl _) _
  have hk2 : w2.heap[w.heap.size]? = some (.cells #[.int .i64 0, .int .i64 0] 62 (0, 0)) := by rw [← hw2]; exact heap_alloc_new _ _
  unfold SvC at hS
  obtain ⟨c0, c1, c2, c3, c4, c5⟩ := ac6 ((hb2.block S (ac_lt hS)).trans hS)
  obtain ⟨k0, k1⟩ := ac2 hk2
  have t0 : w2.cell? ⟨T, 0, none⟩ = some (.int .i64 0) := by simp [World.cell?, (hb2.block T (ac_lt hT)).trans hT]
  have HH := hide (held_one w2 P H A B C (hs.below hb2 (Nat.le_refl _)))
  have HW2 := hide hw2
  have HB2 := hide hb2
  clear hw2 hb2 hk2 hS hT hs
  unfold Sv at HH
  go_enter Tryz.func112, Tryz.ntmps112
  go_upto_region 1 with (fail)
  rw [HW2.out]
  go_wp2_with (go_at_call 103; refine HH.out.mono ?_; rintro e w3 ⟨rfl, hb3⟩; have HB3 := hide hb3; clear hb3)
  go_ret
  exact ⟨rfl, HB2.out.trans (HB3.out.mono HB2.out.size)⟩

theorem need_one (a : Int) (h : a = 1 ∨ a = 2) : needT [⟨0, -a⟩] = [⟨0, 0, a⟩] := by
  rcases h with rfl | rfl <;> simp [needT, putT, triOf, wayOf, amtOf, wrap64]

set_option maxRecDepth 100000 in
set_option maxHeartbeats 2000000 in
theorem afford_any (w : World) (P H A B C S T g : Nat) (a : Int) (ha : a = 1 ∨ a = 2) (hs : Sok w P H) (hS : w.heap[S]? = some (.cells (SvC P A B C) 86 (0, 0))) (hT : w.heap[T]? = some (.cells #[.int .i64 0] 3 (0, 0))) (hg : w.heap[g]? = some (.cells #[.int .i64 0, .int .i64 (-a)] 48 (0, 0))) (R : Bool) (hR : R = decide (a = 1)) :
    Calls Tryz.prog 111 #[.slice (some ⟨g, 0, none⟩) 1 1, .func (.func 112) #[] #[.pointer (some ⟨S, 0, none⟩), .pointer (some ⟨T, 0, none⟩)]] w fun e w' => e = .returned (.bool R) ∧ Below w.heap.size w w' := by
  obtain ⟨l0, l1⟩ := ac2 hg
  have hL : Lins w.heap.size w (some ⟨g, 0, none⟩) [⟨0, -a⟩] := Or.inr ⟨g, 0, rfl, ac_lt hg, fun i x hx => by
    cases i with
    | zero => simp at hx; subst hx; exact ⟨l0, l1⟩
    | succ i => simp at hx⟩
  have hN := needs_any w (some ⟨g, 0, none⟩) 1 1 [⟨0, -a⟩] rfl (by omega) (fun x hx => by simp at hx; subst hx; rcases ha with rfl | rfl <;> exact ⟨rfl, rfl⟩) hL
  rw [need_one a ha] at hN
  have HN := hide hN
  have HSk := hide hs
  have HSb := hide hS
  have HTb := hide hT
  have HRv := hide hR
  clear hN hs hS hT hg hL l0 l1 hR
  go_enter Tryz.func111, Tryz.ntmps111
  go_wp2_with (go_at_call 5; refine HN.out.mono ?_; rintro e w1 ⟨v, rfl, hr1, hb1⟩; obtain ⟨va, vc, rfl⟩ := slice_form hr1; have HR1 := hide hr1; have HB1 := hide hb1; clear hr1 hb1)
  refine wp_loop_rounds 2 ?_
  rw [rounds_succ]
  obtain ⟨q, rfl, hql, q0⟩ := row_cell HR1.out (i := 0) (u := .int .i64 0) rfl
  obtain ⟨_, e1, _, q1⟩ := row_cell HR1.out (i := 1) (u := .int .i64 0) rfl
  cases e1
  obtain ⟨_, e2, _, q2⟩ := row_cell HR1.out (i := 2) (u := .int .i64 a) rfl
  cases e2
  obtain ⟨w2, hw2⟩ : ∃ w2, w1.alloc (.cells #[.int .i64 0, .int .i64 0, .int .i64 a] 70) = w2 := ⟨_, rfl⟩
  have hb2 : Below w.heap.size w w2 := by rw [← hw2]; exact HB1.out.alloc HB1.out.size _
  have hx2 : w2.heap[w1.heap.size]? = some (.cells #[.int .i64 0, .int .i64 0, .int .i64 a] 70 (0, 0)) := by rw [← hw2]; exact heap_alloc_new _ _
  obtain ⟨x0, x1, x2⟩ := ac3 hx2
  have HX2 := hide hx2
  have HB2 := hide hb2
  have HW2 := hide hw2
  have HKo := hide (fun W => kindOf_any W 0 0 a)
  have HHo := hide (fun (W : World) (hb : Below w.heap.size w W) => holds1_any W P H A B C S T (HSk.out.below hb (Nat.le_refl _)) ((hb.block S (ac_lt HSb.out)).trans HSb.out) ((hb.block T (ac_lt HTb.out)).trans HTb.out))
  clear hw2 hb2 hx2
  go_upto_region 4 with (fail)
  rw [HW2.out]
  go_region_held3 (fun w' => w'.cell? ⟨w1.heap.size, 0, none⟩ = some (.int .i64 0) ∧ w'.cell? ⟨w1.heap.size, 1, none⟩ = some (.int .i64 0) ∧ w'.cell? ⟨w1.heap.size, 2, none⟩ = some (.int .i64 a)) (go_keep) (first | (go_at_call 112; refine (HHo.out _ HB3.out).mono ?_; rintro e w4 ⟨rfl, hb4⟩; have hx4 : w4.heap[w1.heap.size]? = _ := (hb4.block _ (ac_lt HX3.out)).trans HX3.out; obtain ⟨y0, y1, y2⟩ := ac3 hx4; have HX4 := hide hx4; have HB4 : Hid (Below w.heap.size w w4) := HB3.out.trans (hb4.mono HB3.out.size); clear hb4 hx4) | (go_at_call 82; refine (HKo.out _).mono ?_; rintro e w3 ⟨rfl, hb3'⟩; have hb3 : Below w2.heap.size w2 w3 := ⟨hb3'.os, hb3'.tape, hb3'.output, hb3'.size, hb3'.block⟩; clear hb3'; have hx3 : w3.heap[w1.heap.size]? = _ := (hb3.block _ (ac_lt HX2.out)).trans HX2.out; obtain ⟨y0, y1, y2⟩ := ac3 hx3; have HX3 := hide hx3; have HB3 : Hid (Below w.heap.size w w3) := HB2.out.trans (hb3.mono HB2.out.size); clear hb3 hx3) | fail)
  rcases ha with rfl | rfl
  · go_wp2
    rw [rounds_succ]
    go_wp2
    go_ret
    exact ⟨by rw [HRv.out]; rfl, HB4.out⟩
  · go_wp2
    go_ret
    exact ⟨by rw [HRv.out]; rfl, HB4.out⟩
end Go.Proofs.YtajadmkacnfbgaaGreat
