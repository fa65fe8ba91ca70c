import Derived.Test.YtllpikijakilnaaRwA
namespace Go.Proofs.Ytllpikijakilnaa
open Go.RowKit

/-- The state that wakes makes. -/
def Sv (P A B C : Nat) : Value := .agg #[.int .u64 0, .slice (some ⟨P, 0, none⟩) 1 1, .slice none 0 0, .slice (some ⟨A, 0, none⟩) 1 1, .slice (some ⟨B, 0, none⟩) 1 1, .slice (some ⟨C, 0, none⟩) 1 1]
structure Sok (w : World) (P H : Nat) : Prop where
  pool : w.heap[P]? = some (.cells #[.int .i64 6, .int .i64 5, .int .i64 4, .slice (some ⟨H, 0, none⟩) 1 1] 107 (0, 0))
  held : w.heap[H]? = some (.cells #[.int .i64 1, .int .i64 0] 104 (0, 0))
theorem Sok.below {w w' : World} {P H : Nat} (h : Sok w P H) {n : Nat} (hb : Below n w w') (hn : w.heap.size ≤ n) : Sok w' P H :=
  ⟨(hb.block P (Nat.lt_of_lt_of_le (ac_lt h.pool) hn)).trans h.pool, (hb.block H (Nat.lt_of_lt_of_le (ac_lt h.held) hn)).trans h.held⟩
theorem ac6 {w : World} {b : Nat} {x0 x1 x2 x3 x4 x5 : Value} {t : TypeId} (h : w.heap[b]? = some (.cells #[x0, x1, x2, x3, x4, x5] t (0, 0))) :
    w.cell? ⟨b, 0, none⟩ = some x0 ∧ w.cell? ⟨b, 1, none⟩ = some x1 ∧ w.cell? ⟨b, 2, none⟩ = some x2 ∧ w.cell? ⟨b, 3, none⟩ = some x3 ∧ w.cell? ⟨b, 4, none⟩ = some x4 ∧ w.cell? ⟨b, 5, none⟩ = some x5 :=
  ⟨by simp [World.cell?, h], by simp [World.cell?, h], by simp [World.cell?, h], by simp [World.cell?, h], by simp [World.cell?, h], by simp [World.cell?, h]⟩

set_option maxRecDepth 100000 in
set_option maxHeartbeats 2000000 in
theorem held_one (w : World) (P H A B C : Nat) (hs : Sok w P H) :
    Calls Try.prog 31 #[Sv P A B C, .int .i64 0, .agg #[.int .i64 0, .int .i64 0]] w fun e w' => e = .returned (.int .i64 1) ∧ Below w.heap.size w w' := by
  unfold Sv
  obtain ⟨w2, hw2⟩ : ∃ w2, (w.alloc (.cells #[.int .u64 0, .slice (some ⟨P, 0, none⟩) 1 1, .slice none 0 0, .slice (some ⟨A, 0, none⟩) 1 1, .slice (some ⟨B, 0, none⟩) 1 1, .slice (some ⟨C, 0, none⟩) 1 1] 32)).alloc (.cells #[.int .i64 0, .int .i64 0] 71) = w2 := ⟨_, rfl⟩
  have hb2 : Below w.heap.size w w2 := by rw [← hw2]; exact ((Below.refl _ _).alloc (Nat.le_refl _) _).alloc (by simp) _
  have hx2 : w2.heap[w.heap.size]? = some (.cells #[.int .u64 0, .slice (some ⟨P, 0, none⟩) 1 1, .slice none 0 0, .slice (some ⟨A, 0, none⟩) 1 1, .slice (some ⟨B, 0, none⟩) 1 1, .slice (some ⟨C, 0, none⟩) 1 1] 32 (0, 0)) := by rw [← hw2]; exact (Below.heap_alloc _ _ _ (by simp)).trans (heap_alloc_new _ _)
  have hk2 : w2.heap[w.heap.size + 1]? = some (.cells #[.int .i64 0, .int .i64 0] 71 (0, 0)) := by rw [← hw2]; have h := heap_alloc_new (w.alloc (.cells #[.int .u64 0, .slice (some ⟨P, 0, none⟩) 1 1, .slice none 0 0, .slice (some ⟨A, 0, none⟩) 1 1, .slice (some ⟨B, 0, none⟩) 1 1, .slice (some ⟨C, 0, none⟩) 1 1] 32)) (.cells #[.int .i64 0, .int .i64 0] 71); rw [World.size_alloc] at h; exact h
  have hs2 := hs.below hb2 (Nat.le_refl _)
  obtain ⟨c0, c1, c2, c3, c4, c5⟩ := ac6 hx2
  obtain ⟨k0, k1⟩ := ac2 hk2
  have HW2 := hide hw2
  have HB2 := hide hb2
  have HK2 := hide hk2
  have HS2 := hide hs2
  have HAp := hide (atPool_any w2 P 6 5 4 (some ⟨H, 0, none⟩) 1 1 hs2.pool)
  clear hw2 hb2 hx2 hk2 hs2 hs
  go_enter Try.func31, Try.ntmps31
  go_upto_region 1 with (fail)
  rw [HW2.out]
  go_upto_region 2 with (go_at_call 58; refine HAp.out.mono ?_; rintro e w3 ⟨rfl, hb3⟩; have HB3 := hide hb3; clear hb3)
  obtain ⟨w4, hw4⟩ : ∃ w4, w3.alloc (.cells #[.int .i64 6, .int .i64 5, .int .i64 4, .slice (some ⟨H, 0, none⟩) 1 1] 107) = w4 := ⟨_, rfl⟩
  have hb4 : Below w2.heap.size w2 w4 := by rw [← hw4]; exact HB3.out.alloc HB3.out.size _
  have hp4 : w4.heap[w3.heap.size]? = some (.cells #[.int .i64 6, .int .i64 5, .int .i64 4, .slice (some ⟨H, 0, none⟩) 1 1] 107 (0, 0)) := by rw [← hw4]; exact heap_alloc_new _ _
  rw [hw4]
  obtain ⟨p0, p1, p2, p3⟩ := ac4 hp4
  have HS4 := hide (HS2.out.below hb4 (Nat.le_refl _))
  have HK4 := hide ((hb4.block _ (ac_lt HK2.out)).trans HK2.out)
  have HAw := hide (atWays_any w4 H 1 0 HS4.out.held)
  have HB4 := hide (HB2.out.trans (hb4.mono HB2.out.size))
  clear hw4 hb4 hp4 c0 c1 c2 c3 c4 c5 k0 k1
  go_upto_region 3 with (go_at_call 60; refine HAw.out.mono ?_; rintro e w5 ⟨rfl, hb5⟩; have HB5 := hide hb5; clear hb5)
  obtain ⟨w6, hw6⟩ : ∃ w6, w5.alloc (.cells #[.int .i64 1, .int .i64 0] 104) = w6 := ⟨_, rfl⟩
  have hb6 : Below w4.heap.size w4 w6 := by rw [← hw6]; exact HB5.out.alloc HB5.out.size _
  have hp6 : w6.heap[w5.heap.size]? = some (.cells #[.int .i64 1, .int .i64 0] 104 (0, 0)) := by rw [← hw6]; exact heap_alloc_new _ _
  rw [hw6]
  obtain ⟨k0, k1⟩ := ac2 ((hb6.block _ (ac_lt HK4.out)).trans HK4.out)
  have HAi := hide (atInt_any w6 w5.heap.size 1 0 hp6)
  have HAd := hide (atInt_any w6.drew w5.heap.size 1 0 hp6)
  have HB6 := hide (HB4.out.trans (hb6.mono HB4.out.size))
  clear hw6 hb6 hp6 p0 p1 p2 p3
  go_region_held3 (fun w' => w'.cell? ⟨w.heap.size + 1, 0, none⟩ = some (.int .i64 0) ∧ w'.cell? ⟨w.heap.size + 1, 1, none⟩ = some (.int .i64 0)) (go_keep) (first | (go_at_call 59; refine HAd.out.mono ?_; rintro e w7 ⟨rfl, rfl⟩) | (go_at_call 59; refine HAi.out.mono ?_; rintro e w7 ⟨rfl, rfl⟩) | fail)
  all_goals go_wp2
  all_goals go_ret
  all_goals first | exact ⟨rfl, HB6.out⟩ | exact ⟨rfl, HB6.out.drew⟩
end Go.Proofs.Ytllpikijakilnaa
namespace Go.Proofs.Ytllpikijakilnaa
open Go.RowKit

set_option maxRecDepth 100000 in
set_option maxHeartbeats 1000000 in
theorem kindOf_any (w : World) (a b n : Int) :
    Calls Try.prog 39 #[.agg #[.int .i64 a, .int .i64 b, .int .i64 n]] w fun e w' => e = .returned (.agg #[.int .i64 a, .int .i64 b]) ∧ Below w.heap.size w w' := by
  go_enter Try.func39, Try.ntmps39
  go_wp2
  refine bodyPost_ret (results_cell_row rfl _ _ (w.heap.size + 1) 71 #[.int .i64 a, .int .i64 b] (0, 0) _ rfl ?_ Try.underlying71 rfl (by kernel_rfl)) rfl ?_
  · have h := heap_alloc_new (w.alloc (.cells #[.int .i64 a, .int .i64 b, .int .i64 n] 42)) (.cells #[.int .i64 a, .int .i64 b] 71)
    rw [World.size_alloc] at h
    exact h
  · exact ⟨rfl, ((Below.refl _ _).alloc (Nat.le_refl _) _).alloc (by simp) _⟩

def SvC (P A B C : Nat) : Array Value := #[.int .u64 0, .slice (some ⟨P, 0, none⟩) 1 1, .slice none 0 0, .slice (some ⟨A, 0, none⟩) 1 1, .slice (some ⟨B, 0, none⟩) 1 1, .slice (some ⟨C, 0, none⟩) 1 1]
theorem Sv_eq (P A B C : Nat) : Sv P A B C = .agg (SvC P A B C) := rfl

set_option maxRecDepth 100000 in
set_option maxHeartbeats 1000000 in
theorem holds1_any (w : World) (P H A B C S T : Nat) (hs : Sok w P H) (hS : w.heap[S]? = some (.cells (SvC P A B C) 32 (0, 0))) (hT : w.heap[T]? = some (.cells #[.int .i64 0] 3 (0, 0))) :
    Calls Try.prog 30 #[.agg #[.int .i64 0, .int .i64 0], .pointer (some ⟨S, 0, none⟩), .pointer (some ⟨T, 0, none⟩)] w fun e w' => e = .returned (.int .i64 1) ∧ Below w.heap.size w w' := by
  obtain ⟨w2, hw2⟩ : ∃ w2, w.alloc (.cells #[.int .i64 0, .int .i64 0] 71) = w2 := ⟨_, rfl⟩
  have hb2 : Below w.heap.size w w2 := by rw [← hw2]; exact (Below.refl _ _).alloc (Nat.le_refl _) _
  have hk2 : w2.heap[w.heap.size]? = some (.cells #[.int .i64 0, .int .i64 0] 71 (0, 0)) := by rw [← hw2]; exact heap_alloc_new _ _
  unfold SvC at hS
  obtain ⟨c0, c1, c2, c3, c4, c5⟩ := ac6 ((hb2.block S (ac_lt hS)).trans hS)
  obtain ⟨k0, k1⟩ := ac2 hk2
  have t0 : w2.cell? ⟨T, 0, none⟩ = some (.int .i64 0) := by simp [World.cell?, (hb2.block T (ac_lt hT)).trans hT]
  have HH := hide (held_one w2 P H A B C (hs.below hb2 (Nat.le_refl _)))
  have HW2 := hide hw2
  have HB2 := hide hb2
  clear hw2 hb2 hk2 hS hT hs
  unfold Sv at HH
  go_enter Try.func30, Try.ntmps30
  go_upto_region 1 with (fail)
  rw [HW2.out]
  go_wp2_with (go_at_call 31; refine HH.out.mono ?_; rintro e w3 ⟨rfl, hb3⟩; have HB3 := hide hb3; clear hb3)
  go_ret
  exact ⟨rfl, HB2.out.trans (HB3.out.mono HB2.out.size)⟩

theorem need_one (a : Int) (h : a = 1 ∨ a = 2) : needT [⟨0, -a⟩] = [⟨0, 0, a⟩] := by
  rcases h with rfl | rfl <;> simp [needT, putT, triOf, wayOf, amtOf, wrap64]

set_option maxRecDepth 100000 in
set_option maxHeartbeats 2000000 in
theorem afford_any (w : World) (P H A B C S T g : Nat) (a : Int) (ha : a = 1 ∨ a = 2) (hs : Sok w P H) (hS : w.heap[S]? = some (.cells (SvC P A B C) 32 (0, 0))) (hT : w.heap[T]? = some (.cells #[.int .i64 0] 3 (0, 0))) (hg : w.heap[g]? = some (.cells #[.int .i64 0, .int .i64 (-a)] 109 (0, 0))) (R : Bool) (hR : R = decide (a = 1)) :
    Calls Try.prog 27 #[.slice (some ⟨g, 0, none⟩) 1 1, .func (.func 30) #[] #[.pointer (some ⟨S, 0, none⟩), .pointer (some ⟨T, 0, none⟩)]] w fun e w' => e = .returned (.bool R) ∧ Below w.heap.size w w' := by
  obtain ⟨l0, l1⟩ := ac2 hg
  have hL : Lins w.heap.size w (some ⟨g, 0, none⟩) [⟨0, -a⟩] := Or.inr ⟨g, 0, rfl, ac_lt hg, fun i x hx => by
    cases i with
    | zero => simp at hx; subst hx; exact ⟨l0, l1⟩
    | succ i => simp at hx⟩
  have hN := needs_any w (some ⟨g, 0, none⟩) 1 1 [⟨0, -a⟩] rfl (by omega) (fun x hx => by simp at hx; subst hx; rcases ha with rfl | rfl <;> exact ⟨rfl, rfl⟩) hL
  rw [need_one a ha] at hN
  have HN := hide hN
  have HSk := hide hs
  have HSb := hide hS
  have HTb := hide hT
  have HRv := hide hR
  clear hN hs hS hT hg hL l0 l1 hR
  go_enter Try.func27, Try.ntmps27
  go_wp2_with (go_at_call 6; refine HN.out.mono ?_; rintro e w1 ⟨v, rfl, hr1, hb1⟩; obtain ⟨va, vc, rfl⟩ := slice_form hr1; have HR1 := hide hr1; have HB1 := hide hb1; clear hr1 hb1)
  refine wp_loop_rounds 2 ?_
  rw [rounds_succ]
  obtain ⟨q, rfl, hql, q0⟩ := row_cell HR1.out (i := 0) (u := .int .i64 0) rfl
  obtain ⟨_, e1, _, q1⟩ := row_cell HR1.out (i := 1) (u := .int .i64 0) rfl
  cases e1
  obtain ⟨_, e2, _, q2⟩ := row_cell HR1.out (i := 2) (u := .int .i64 a) rfl
  cases e2
  obtain ⟨w2, hw2⟩ : ∃ w2, w1.alloc (.cells #[.int .i64 0, .int .i64 0, .int .i64 a] 42) = w2 := ⟨_, rfl⟩
  have hb2 : Below w.heap.size w w2 := by rw [← hw2]; exact HB1.out.alloc HB1.out.size _
  have hx2 : w2.heap[w1.heap.size]? = some (.cells #[.int .i64 0, .int .i64 0, .int .i64 a] 42 (0, 0)) := by rw [← hw2]; exact heap_alloc_new _ _
  obtain ⟨x0, x1, x2⟩ := ac3 hx2
  have HX2 := hide hx2
  have HB2 := hide hb2
  have HW2 := hide hw2
  have HKo := hide (fun W => kindOf_any W 0 0 a)
  have HHo := hide (fun (W : World) (hb : Below w.heap.size w W) => holds1_any W P H A B C S T (HSk.out.below hb (Nat.le_refl _)) ((hb.block S (ac_lt HSb.out)).trans HSb.out) ((hb.block T (ac_lt HTb.out)).trans HTb.out))
  clear hw2 hb2 hx2
  go_upto_region 4 with (fail)
  rw [HW2.out]
  go_region_held3 (fun w' => w'.cell? ⟨w1.heap.size, 0, none⟩ = some (.int .i64 0) ∧ w'.cell? ⟨w1.heap.size, 1, none⟩ = some (.int .i64 0) ∧ w'.cell? ⟨w1.heap.size, 2, none⟩ = some (.int .i64 a)) (go_keep) (first | (go_at_call 30; refine (HHo.out _ HB3.out).mono ?_; rintro e w4 ⟨rfl, hb4⟩; have hx4 : w4.heap[w1.heap.size]? = _ := (hb4.block _ (ac_lt HX3.out)).trans HX3.out; obtain ⟨y0, y1, y2⟩ := ac3 hx4; have HX4 := hide hx4; have HB4 : Hid (Below w.heap.size w w4) := HB3.out.trans (hb4.mono HB3.out.size); clear hb4 hx4) | (go_at_call 39; refine (HKo.out _).mono ?_; rintro e w3 ⟨rfl, hb3'⟩; have hb3 : Below w2.heap.size w2 w3 := ⟨hb3'.os, hb3'.tape, hb3'.output, hb3'.size, hb3'.block⟩; clear hb3'; have hx3 : w3.heap[w1.heap.size]? = _ := (hb3.block _ (ac_lt HX2.out)).trans HX2.out; obtain ⟨y0, y1, y2⟩ := ac3 hx3; have HX3 := hide hx3; have HB3 : Hid (Below w.heap.size w w3) := HB2.out.trans (hb3.mono HB2.out.size); clear hb3 hx3) | fail)
  rcases ha with rfl | rfl
  · go_wp2
    rw [rounds_succ]
    go_wp2
    go_ret
    exact ⟨by rw [HRv.out]; rfl, HB4.out⟩
  · go_wp2
    go_ret
    exact ⟨by rw [HRv.out]; rfl, HB4.out⟩
end Go.Proofs.Ytllpikijakilnaa
