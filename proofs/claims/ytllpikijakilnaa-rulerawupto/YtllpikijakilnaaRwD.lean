import Derived.Test.YtllpikijakilnaaRwB
import Derived.Test.YtllpikijakilnaaWkC
namespace Go.Proofs.Ytllpikijakilnaa
open Go.RowKit

/-- Two boxes: a state, and something of two cells. -/
theorem box_two (w : World) (A : Array Value) (t1 t2 : TypeId) (B : Array Value) : ∃ w2, (w.alloc (.cells A t1)).alloc (.cells B t2) = w2 ∧ Below w.heap.size w w2 ∧ w2.heap[w.heap.size]? = some (.cells A t1 (0, 0)) ∧ w2.heap[w.heap.size + 1]? = some (.cells B t2 (0, 0)) :=
  ⟨_, rfl, ((Below.refl _ _).alloc (Nat.le_refl _) _).alloc (by simp) _, (Below.heap_alloc _ _ _ (by simp)).trans (heap_alloc_new _ _), by have h := heap_alloc_new (w.alloc (.cells A t1)) (.cells B t2); rw [World.size_alloc] at h; exact h⟩

set_option maxRecDepth 100000 in
set_option maxHeartbeats 2000000 in
theorem free_gen (w : World) (s : Sta) (hs : StaOk w s) (kc kw : Int) :
    Calls Try.prog 29 #[.agg s.arr, .agg #[.int .i64 kc, .int .i64 kw]] w fun e w' => e = .returned (.int .i64 (s.free kc kw)) ∧ Below w.heap.size w w' := by
  obtain ⟨w2, hw2, hb2, hx2, hk2⟩ := box_two w s.arr 32 71 #[.int .i64 kc, .int .i64 kw]
  have hs2 := hs.below hb2
  obtain ⟨c0, c1, c2, c3, c4, c5⟩ := ac6 hx2
  obtain ⟨k0, k1⟩ := ac2 hk2
  have HW2 := hide hw2
  have HB2 := hide hb2
  have HK2 := hide hk2
  have HAp := hide (atPool_gen w2 s.pp s.pn s.pc s.pools hs2.pn hs2.pools kc)
  obtain ⟨x, hx⟩ : ∃ x, getAt s.pools pl0 kc = x := ⟨_, rfl⟩
  obtain ⟨hb', hhb⟩ : ∃ q, hasAt s.pools kc = q := ⟨_, rfl⟩
  rw [hx, hhb] at HAp
  have HR : s.free kc kw = getAt [x.f0, x.f1] 0 kw := by unfold Sta.free; rw [hx]
  rw [HR]
  obtain ⟨xv, x0, x1, xp, xl, xc, xs⟩ := x
  dsimp only [plc] at HAp
  clear hw2 hb2 hx2 hk2 hs2 hs hx hhb HR
  go_enter Try.func29, Try.ntmps29
  go_upto_region 1 with (fail)
  rw [HW2.out]
  go_upto_region 2 with (go_at_call 58; refine HAp.out.mono ?_; rintro e w3 ⟨rfl, hb3⟩; have HB3 := hide hb3; clear hb3)
  obtain ⟨w4, hw4⟩ : ∃ w4, w3.alloc (.cells #[.int .i64 xv, .int .i64 x0, .int .i64 x1, .slice xp xl xc] 107) = w4 := ⟨_, rfl⟩
  have hb4 : Below w2.heap.size w2 w4 := by rw [← hw4]; exact HB3.out.alloc HB3.out.size _
  have hp4 : w4.heap[w3.heap.size]? = some (.cells #[.int .i64 xv, .int .i64 x0, .int .i64 x1, .slice xp xl xc] 107 (0, 0)) := by rw [← hw4]; exact heap_alloc_new _ _
  rw [show w3.alloc (.cells #[.int .i64 xv, .int .i64 x0, .int .i64 x1, .slice xp xl xc] 107) = w4 from hw4]
  obtain ⟨p0, p1, p2, p3⟩ := ac4 hp4
  obtain ⟨k0', k1'⟩ := ac2 ((hb4.block _ (ac_lt HK2.out)).trans HK2.out)
  have HAi := hide (atInt_gen w4 (some ⟨w3.heap.size, 1, none⟩) 2 2 [x0, x1] rfl (cel_two (ac_lt hp4) p1 p2) kw)
  have HAd := hide (atInt_gen w4.drew (some ⟨w3.heap.size, 1, none⟩) 2 2 [x0, x1] rfl (cel_two (ac_lt hp4) p1 p2) kw)
  have HB4 := hide (HB2.out.trans (hb4.mono HB2.out.size))
  clear hw4 hb4 hp4 c0 c1 c2 c3 c4 c5 k0 k1
  go_region_held3 (fun w' => w'.cell? ⟨w.heap.size + 1, 0, none⟩ = some (.int .i64 kc) ∧ w'.cell? ⟨w.heap.size + 1, 1, none⟩ = some (.int .i64 kw)) (go_keep) (first | (go_at_call 59; refine HAd.out.mono ?_; rintro e w7 ⟨rfl, rfl⟩) | (go_at_call 59; refine HAi.out.mono ?_; rintro e w7 ⟨rfl, rfl⟩) | fail)
  all_goals go_wp2
  all_goals go_ret
  all_goals first | exact ⟨rfl, HB4.out⟩ | exact ⟨rfl, HB4.out.drew⟩

set_option maxRecDepth 100000 in
set_option maxHeartbeats 2000000 in
theorem heldRoom_gen (w : World) (s : Sta) (hs : StaOk w s) (t kc kw : Int) :
    Calls Try.prog 38 #[.agg s.arr, .int .i64 t, .agg #[.int .i64 kc, .int .i64 kw]] w fun e w' => e = .returned (.int .i64 (wrap64 (18014398509481984 - s.held t kc kw))) ∧ Below w.heap.size w w' := by
  obtain ⟨w2, hw2, hb2, hx2, hk2⟩ := box_two w s.arr 32 71 #[.int .i64 kc, .int .i64 kw]
  obtain ⟨c0, c1, c2, c3, c4, c5⟩ := ac6 hx2
  obtain ⟨k0, k1⟩ := ac2 hk2
  have HH := hide (held_gen w2 s (hs.below hb2) t kc kw)
  have HW2 := hide hw2
  have HB2 := hide hb2
  generalize s.held t kc kw = q at HH ⊢
  clear hw2 hb2 hx2 hk2 hs
  go_enter Try.func38, Try.ntmps38
  go_upto_region 1 with (fail)
  rw [HW2.out]
  go_wp2_with (go_at_call 31; refine HH.out.mono ?_; rintro e w3 ⟨rfl, hb3⟩; have HB3 := hide (HB2.out.trans (hb3.mono HB2.out.size)); clear hb3)
  go_ret
  exact ⟨rfl, HB3.out⟩
end Go.Proofs.Ytllpikijakilnaa
namespace Go.Proofs.Ytllpikijakilnaa
open Go.RowKit

set_option maxRecDepth 100000 in
set_option maxHeartbeats 2000000 in
theorem has_gen (w : World) (s : Sta) (hs : StaOk w s) (t a b n : Int) :
    Calls Try.prog 37 #[.agg s.arr, .int .i64 t, .agg #[.int .i64 a, .int .i64 b, .int .i64 n]] w fun e w' => e = .returned (.bool (decide (n ≤ s.held t a b))) ∧ Below w.heap.size w w' := by
  obtain ⟨w2, hw2, hb2, hx2, hk2⟩ := box_two w s.arr 32 42 #[.int .i64 a, .int .i64 b, .int .i64 n]
  obtain ⟨c0, c1, c2, c3, c4, c5⟩ := ac6 hx2
  obtain ⟨k0, k1, k2⟩ := ac3 hk2
  have HKo := hide (fun W => kindOf_any W a b n)
  have HHo := hide (fun (W : World) (hb : Below w.heap.size w W) => held_gen W s (hs.below hb) t a b)
  have HW2 := hide hw2
  have HB2 := hide hb2
  have HX2 := hide hx2
  have HK2 := hide hk2
  generalize s.held t a b = q at HHo ⊢
  clear hw2 hb2 hx2 hk2 hs
  go_enter Try.func37, Try.ntmps37
  go_upto_region 1 with (fail)
  rw [HW2.out]
  go_region_held3 (fun w' => w'.cell? ⟨w.heap.size, 0, none⟩ = some (.int .u64 s.pos) ∧ w'.cell? ⟨w.heap.size, 1, none⟩ = some (.slice s.pp s.pn s.pc) ∧ w'.cell? ⟨w.heap.size, 2, none⟩ = some (.slice s.rp s.rn s.rc) ∧ w'.cell? ⟨w.heap.size, 3, none⟩ = some (.slice s.lp s.ln s.lc) ∧ w'.cell? ⟨w.heap.size, 4, none⟩ = some (.slice s.gp s.gn s.gc) ∧ w'.cell? ⟨w.heap.size, 5, none⟩ = some (.slice s.op s.on s.oc) ∧ w'.cell? ⟨w.heap.size + 1, 0, none⟩ = some (.int .i64 a) ∧ w'.cell? ⟨w.heap.size + 1, 1, none⟩ = some (.int .i64 b) ∧ w'.cell? ⟨w.heap.size + 1, 2, none⟩ = some (.int .i64 n)) (go_keep) (first | (go_at_call 31; refine (HHo.out _ HB3.out).mono ?_; rintro e w4 ⟨rfl, hb4⟩; obtain ⟨d0, d1, d2, d3, d4, d5⟩ := ac6 ((hb4.block _ (ac_lt HX3.out)).trans HX3.out); obtain ⟨y0, y1, y2⟩ := ac3 ((hb4.block _ (ac_lt HK3.out)).trans HK3.out); have HB4 : Hid (Below w.heap.size w w4) := HB3.out.trans (hb4.mono HB3.out.size); clear hb4) | (go_at_call 39; refine (HKo.out _).mono ?_; rintro e w3 ⟨rfl, hb3'⟩; have hb3 : Below w2.heap.size w2 w3 := ⟨hb3'.os, hb3'.tape, hb3'.output, hb3'.size, hb3'.block⟩; clear hb3'; have HX3 := hide ((hb3.block _ (ac_lt HX2.out)).trans HX2.out); have HK3 := hide ((hb3.block _ (ac_lt HK2.out)).trans HK2.out); obtain ⟨d0, d1, d2, d3, d4, d5⟩ := ac6 HX3.out; obtain ⟨y0, y1, y2⟩ := ac3 HK3.out; have HB3 : Hid (Below w.heap.size w w3) := HB2.out.trans (hb3.mono HB2.out.size); clear hb3) | fail)
  all_goals go_wp2
  all_goals go_ret
  all_goals first | exact ⟨rfl, HB4.out⟩ | exact ⟨rfl, HB4.out.drew⟩

theorem box_one (w : World) (A : Array Value) (t : TypeId) : ∃ w2, w.alloc (.cells A t) = w2 ∧ Below w.heap.size w w2 ∧ w2.heap[w.heap.size]? = some (.cells A t (0, 0)) := ⟨_, rfl, (Below.refl _ _).alloc (Nat.le_refl _) _, heap_alloc_new _ _⟩
def Sta.isOpen (s : Sta) (p : Int) : Bool := hasAt s.prices p && decide ((getAt s.prices ⟨0, 0⟩ p).n < 1099511627776)

set_option maxRecDepth 100000 in
set_option maxHeartbeats 2000000 in
theorem isOpen_gen (w : World) (s : Sta) (hs : StaOk w s) (p : Int) :
    Calls Try.prog 33 #[.agg s.arr, .int .i64 p] w fun e w' => e = .returned (.bool (s.isOpen p)) ∧ Below w.heap.size w w' := by
  obtain ⟨w2, hw2, hb2, hx2⟩ := box_one w s.arr 32
  have hs2 := hs.below hb2
  obtain ⟨c0, c1, c2, c3, c4, c5⟩ := ac6 hx2
  have HAp := hide (atPrice_gen w2 s.rp s.rn s.rc s.prices hs2.rn hs2.prices p)
  have HW2 := hide hw2
  have HB2 := hide hb2
  unfold Sta.isOpen
  generalize getAt s.prices ⟨0, 0⟩ p = x at HAp ⊢
  generalize hasAt s.prices p = hq at HAp ⊢
  obtain ⟨x0, x1⟩ := x
  dsimp only [linc] at HAp ⊢
  clear hw2 hb2 hx2 hs2 hs
  cases hq
  · go_enter Try.func33, Try.ntmps33
    go_upto_region 1 with (fail)
    rw [HW2.out]
    go_upto_region 2 with (go_at_call 61; refine HAp.out.mono ?_; rintro e w3 ⟨rfl, hb3⟩; have HB3 := hide hb3; clear hb3)
    obtain ⟨w4, hw4, hb4, hx4⟩ := box_one w3 #[.int .i64 x0, .int .i64 x1] 99
    have HB4 := hide (HB2.out.trans ((HB3.out.trans (hb4.mono HB3.out.size)).mono HB2.out.size))
    rw [show w3.alloc (.cells #[.int .i64 x0, .int .i64 x1] 99) = w4 from hw4]
    obtain ⟨p0, p1⟩ := ac2 hx4
    clear hw4 hb4 hx4 c0 c1 c2 c3 c4 c5
    go_wp2
    go_ret
    exact ⟨rfl, HB4.out⟩
  · go_enter Try.func33, Try.ntmps33
    go_upto_region 1 with (fail)
    rw [HW2.out]
    go_upto_region 2 with (go_at_call 61; refine HAp.out.mono ?_; rintro e w3 ⟨rfl, hb3⟩; have HB3 := hide hb3; clear hb3)
    obtain ⟨w4, hw4, hb4, hx4⟩ := box_one w3 #[.int .i64 x0, .int .i64 x1] 99
    have HB4 := hide (HB2.out.trans ((HB3.out.trans (hb4.mono HB3.out.size)).mono HB2.out.size))
    rw [show w3.alloc (.cells #[.int .i64 x0, .int .i64 x1] 99) = w4 from hw4]
    obtain ⟨p0, p1⟩ := ac2 hx4
    clear hw4 hb4 hx4 c0 c1 c2 c3 c4 c5
    go_wp2
    go_ret
    exact ⟨rfl, HB4.out⟩
end Go.Proofs.Ytllpikijakilnaa
