import Derived.Test.YtllpikijakilnaaRwD
namespace Go.Proofs.Ytllpikijakilnaa
open Go.RowKit

set_option maxRecDepth 100000 in
set_option maxHeartbeats 2000000 in
theorem open_gen (w : World) (s : Sta) (hs : StaOk w s) (p : Option Addr) (n c : Nat) (xs : List Tri) (hn : xs.length = n) (hnl : n ≤ 140737488355328) (hx : Cel w p 3 (xs.map tric)) :
    Calls Try.prog 10 #[.agg s.arr, .slice p n c] w fun e w' => e = .returned (.bool (xs.all (fun x => s.isOpen x.a))) ∧ Below w.heap.size w w' := by
  obtain ⟨w2, hw2, hb2, hx2⟩ := box_one w s.arr 32
  have HS := hide (hs.below hb2)
  have HX := hide (hx.below hb2)
  have HN := hide hn
  have HW2 := hide hw2
  have HB2 := hide hb2
  have HX2 := hide hx2
  have HC := hide (fun (W : World) (hb : Below w2.heap.size w2 W) (a b d : Int) => isOpen_gen W s (HS.out.below hb) a)
  clear hw2 hb2 hx2 hs hx hn
  obtain ⟨f, hf⟩ : ∃ f : Tri → Bool, (fun x => s.isOpen x.a) = f := ⟨_, rfl⟩
  have HF : Hid (∀ a b d, s.isOpen a = f ⟨a, b, d⟩) := fun a b d => by rw [← hf]
  rw [hf]
  clear hf
  go_enter Try.func10, Try.ntmps10
  go_upto_region 1 with (fail)
  rw [HW2.out]
  go_wp2_with fail
  go_loopw [9] (fun i wr => ∃ j : Nat, j ≤ n ∧ i = .int .i64 j ∧ Hid ((xs.take j).all f = true) ∧ Hid (Below w2.heap.size w2 wr)) (fun i _ => n - (intOf i).toNat)
  case atStart => exact ⟨0, Nat.zero_le _, rfl, rfl, Below.refl _ _⟩
  case round =>
    obtain ⟨j, hj, rfl, HA, HB⟩ := hrel
    by_cases hlt : j < n
    · have hlt' : (j : Int) < (n : Int) := by omega
      have j0' : (0 : Int) ≤ (j : Int) := by omega
      obtain ⟨x, hx⟩ : ∃ x, xs[j]? = some x := ⟨_, List.getElem?_eq_getElem (by rw [HN.out]; exact hlt)⟩
      obtain ⟨b, o, rfl, hbl, hcl⟩ := (HX.out.below HB.out).get (i := j) (r := tric x) (by rw [List.getElem?_map, hx]; rfl)
      obtain ⟨xa, xb, xd⟩ := x
      have a0 := hcl 0 _ rfl
      have a1 := hcl 1 _ rfl
      have a2 := hcl 2 _ rfl
      rw [Nat.add_zero] at a0
      have HT := hide (show (xs.take (j + 1)).all f = ((xs.take j).all f && f ⟨xa, xb, xd⟩) by rw [take_snoc hx, List.all_append]; simp)
      have HI := hide (show f ⟨xa, xb, xd⟩ = false → xs.all f = false from fun h => by rw [List.all_eq_false]; exact ⟨_, List.mem_of_getElem? hx, by simp [h]⟩)
      obtain ⟨w6, hw6, hb6, hx6⟩ := box_one wr #[.int .i64 xa, .int .i64 xb, .int .i64 xd] 86
      have HB6 := hide (HB.out.trans (hb6.mono HB.out.size))
      obtain ⟨y0, y1, y2⟩ := ac3 hx6
      obtain ⟨c0, c1, c2, c3, c4, c5⟩ := ac6 ((HB6.out.block _ (ac_lt HX2.out)).trans HX2.out)
      have HQ := hide (HC.out w6 HB6.out xa xb xd)
      rw [HF.out xa xb xd] at HQ
      have HW6 := hide hw6
      clear hx hcl hw6 hb6 hx6
      go_upto_region 4 with (fail)
      rw [HW6.out]
      cases hv : f ⟨xa, xb, xd⟩ with
      | true =>
        rw [hv] at HQ
        go_wp2_with (go_at_call 33; refine HQ.out.mono ?_; rintro e w7 ⟨rfl, hb7⟩; have HB7 := hide (HB6.out.trans (hb7.mono HB6.out.size)); clear hb7)
        go_roundw
        case rel => exact ⟨j + 1, by omega, by go_num, by show _ = _; rw [HT.out, HA.out, hv]; rfl, HB7⟩
        case measure => simp [intOf]; omega
      | false =>
        rw [hv] at HQ
        have HV := HI.out hv
        clear hv
        go_wp2_with (go_at_call 33; refine HQ.out.mono ?_; rintro e w7 ⟨rfl, hb7⟩; have HB7 := hide (HB6.out.trans (hb7.mono HB6.out.size)); clear hb7)
        go_ret
        try rw [HV]
        exact ⟨rfl, HB2.out.trans (HB7.out.mono HB2.out.size)⟩
    · have hlt' : ¬ (j : Int) < (n : Int) := by omega
      have HV : xs.all f = true := by have h := HA.out; rw [List.take_of_length_le (by rw [HN.out]; omega)] at h; exact h
      go_wp2
      go_ret
      try rw [HV]
      exact ⟨rfl, HB2.out.trans (HB.out.mono HB2.out.size)⟩
set_option maxRecDepth 100000 in
set_option maxHeartbeats 2000000 in
theorem hasAll_gen (w : World) (s : Sta) (hs : StaOk w s) (t : Int) (p : Option Addr) (n c : Nat) (xs : List Tri) (hn : xs.length = n) (hnl : n ≤ 140737488355328) (hx : Cel w p 3 (xs.map tric)) :
    Calls Try.prog 41 #[.agg s.arr, .int .i64 t, .slice p n c] w fun e w' => e = .returned (.bool (xs.all (fun x => decide (x.n ≤ s.held t x.a x.b)))) ∧ Below w.heap.size w w' := by
  obtain ⟨w2, hw2, hb2, hx2⟩ := box_one w s.arr 32
  have HS := hide (hs.below hb2)
  have HX := hide (hx.below hb2)
  have HN := hide hn
  have HW2 := hide hw2
  have HB2 := hide hb2
  have HX2 := hide hx2
  have HC := hide (fun (W : World) (hb : Below w2.heap.size w2 W) (a b d : Int) => has_gen W s (HS.out.below hb) t a b d)
  clear hw2 hb2 hx2 hs hx hn
  obtain ⟨f, hf⟩ : ∃ f : Tri → Bool, (fun x => decide (x.n ≤ s.held t x.a x.b)) = f := ⟨_, rfl⟩
  have HF : Hid (∀ a b d, decide (d ≤ s.held t a b) = f ⟨a, b, d⟩) := fun a b d => by rw [← hf]
  rw [hf]
  clear hf
  go_enter Try.func41, Try.ntmps41
  go_upto_region 1 with (fail)
  rw [HW2.out]
  go_wp2_with fail
  go_loopw [11] (fun i wr => ∃ j : Nat, j ≤ n ∧ i = .int .i64 j ∧ Hid ((xs.take j).all f = true) ∧ Hid (Below w2.heap.size w2 wr)) (fun i _ => n - (intOf i).toNat)
  case atStart => exact ⟨0, Nat.zero_le _, rfl, rfl, Below.refl _ _⟩
  case round =>
    obtain ⟨j, hj, rfl, HA, HB⟩ := hrel
    by_cases hlt : j < n
    · have hlt' : (j : Int) < (n : Int) := by omega
      have j0' : (0 : Int) ≤ (j : Int) := by omega
      obtain ⟨x, hx⟩ : ∃ x, xs[j]? = some x := ⟨_, List.getElem?_eq_getElem (by rw [HN.out]; exact hlt)⟩
      obtain ⟨b, o, rfl, hbl, hcl⟩ := (HX.out.below HB.out).get (i := j) (r := tric x) (by rw [List.getElem?_map, hx]; rfl)
      obtain ⟨xa, xb, xd⟩ := x
      have a0 := hcl 0 _ rfl
      have a1 := hcl 1 _ rfl
      have a2 := hcl 2 _ rfl
      rw [Nat.add_zero] at a0
      have HT := hide (show (xs.take (j + 1)).all f = ((xs.take j).all f && f ⟨xa, xb, xd⟩) by rw [take_snoc hx, List.all_append]; simp)
      have HI := hide (show f ⟨xa, xb, xd⟩ = false → xs.all f = false from fun h => by rw [List.all_eq_false]; exact ⟨_, List.mem_of_getElem? hx, by simp [h]⟩)
      obtain ⟨w6, hw6, hb6, hx6⟩ := box_one wr #[.int .i64 xa, .int .i64 xb, .int .i64 xd] 42
      have HB6 := hide (HB.out.trans (hb6.mono HB.out.size))
      obtain ⟨y0, y1, y2⟩ := ac3 hx6
      obtain ⟨c0, c1, c2, c3, c4, c5⟩ := ac6 ((HB6.out.block _ (ac_lt HX2.out)).trans HX2.out)
      have HQ := hide (HC.out w6 HB6.out xa xb xd)
      rw [HF.out xa xb xd] at HQ
      have HW6 := hide hw6
      clear hx hcl hw6 hb6 hx6
      go_upto_region 4 with (fail)
      rw [HW6.out]
      cases hv : f ⟨xa, xb, xd⟩ with
      | true =>
        rw [hv] at HQ
        go_wp2_with (go_at_call 37; refine HQ.out.mono ?_; rintro e w7 ⟨rfl, hb7⟩; have HB7 := hide (HB6.out.trans (hb7.mono HB6.out.size)); clear hb7)
        go_roundw
        case rel => exact ⟨j + 1, by omega, by go_num, by show _ = _; rw [HT.out, HA.out, hv]; rfl, HB7⟩
        case measure => simp [intOf]; omega
      | false =>
        rw [hv] at HQ
        have HV := HI.out hv
        clear hv
        go_wp2_with (go_at_call 37; refine HQ.out.mono ?_; rintro e w7 ⟨rfl, hb7⟩; have HB7 := hide (HB6.out.trans (hb7.mono HB6.out.size)); clear hb7)
        go_ret
        try rw [HV]
        exact ⟨rfl, HB2.out.trans (HB7.out.mono HB2.out.size)⟩
    · have hlt' : ¬ (j : Int) < (n : Int) := by omega
      have HV : xs.all f = true := by have h := HA.out; rw [List.take_of_length_le (by rw [HN.out]; omega)] at h; exact h
      go_wp2
      go_ret
      try rw [HV]
      exact ⟨rfl, HB2.out.trans (HB.out.mono HB2.out.size)⟩
end Go.Proofs.Ytllpikijakilnaa
namespace Go.Proofs.Ytllpikijakilnaa
open Go.RowKit

def Sta.guard (s : Sta) (k what n : Int) : Bool :=
  if k = 4 then hasAt s.prices what && decide ((getAt s.prices ⟨0, 0⟩ what).n = n)
  else if k = 1 then hasAt s.pools what && decide (n ≤ (getAt s.pools pl0 what).v)
  else if k = 2 then hasAt s.pools what && decide ((getAt s.pools pl0 what).v ≤ n)
  else if k = 3 then hasAt s.pools what && decide ((getAt s.pools pl0 what).v = n)
  else false

set_option maxRecDepth 100000 in
set_option maxHeartbeats 2000000 in
theorem guard_gen (w : World) (s : Sta) (hs : StaOk w s) (k what n : Int) :
    Calls Try.prog 32 #[.agg s.arr, .agg #[.int .i64 k, .int .i64 what, .int .i64 n]] w fun e w' => e = .returned (.bool (s.guard k what n)) ∧ Below w.heap.size w w' := by
  obtain ⟨w2, hw2, hb2, hx2, hk2⟩ := box_two w s.arr 32 83 #[.int .i64 k, .int .i64 what, .int .i64 n]
  have hs2 := hs.below hb2
  obtain ⟨c0, c1, c2, c3, c4, c5⟩ := ac6 hx2
  obtain ⟨k0, k1, k2⟩ := ac3 hk2
  have HAr := hide (atPrice_gen w2 s.rp s.rn s.rc s.prices hs2.rn hs2.prices what)
  have HAp := hide (atPool_gen w2 s.pp s.pn s.pc s.pools hs2.pn hs2.pools what)
  have HW2 := hide hw2
  have HB2 := hide hb2
  have HK2 := hide hk2
  unfold Sta.guard
  generalize getAt s.prices ⟨0, 0⟩ what = x at HAr ⊢
  generalize hasAt s.prices what = hq at HAr ⊢
  generalize getAt s.pools pl0 what = y at HAp ⊢
  generalize hasAt s.pools what = hr at HAp ⊢
  obtain ⟨x0, x1⟩ := x
  obtain ⟨yv, y0, y1, yp, yl, yc, ys⟩ := y
  dsimp only [linc, plc] at HAr HAp ⊢
  clear hw2 hb2 hx2 hk2 hs2 hs
  by_cases g4 : k = 4
  · subst g4
    rw [if_pos rfl]
    clear HAp
    cases hq
    all_goals (
      go_enter Try.func32, Try.ntmps32
      go_upto_region 1 with (fail)
      rw [HW2.out]
      go_upto_region 3 with (go_at_call 61; refine HAr.out.mono ?_; rintro e w3 ⟨rfl, hb3⟩; have HB3 := hide hb3; clear hb3)
      obtain ⟨w4, hw4, hb4, hx4⟩ := box_one w3 #[.int .i64 x0, .int .i64 x1] 99
      have hb24 := HB3.out.trans (hb4.mono HB3.out.size)
      have HB4 := hide (HB2.out.trans (hb24.mono HB2.out.size))
      rw [show w3.alloc (.cells #[.int .i64 x0, .int .i64 x1] 99) = w4 from hw4]
      obtain ⟨p0, p1⟩ := ac2 hx4
      obtain ⟨l0, l1, l2⟩ := ac3 ((hb24.block _ (ac_lt HK2.out)).trans HK2.out)
      clear hw4 hb4 hx4 hb24 c0 c1 c2 c3 c4 c5 k0 k1 k2
      go_wp2
      go_ret
      first | exact ⟨rfl, HB4.out⟩ | exact ⟨by simp, HB4.out⟩)
  · rw [if_neg g4]
    clear HAr
    by_cases g1 : k = 1
    · subst g1
      rw [if_pos rfl]
      cases hr
      all_goals (
        go_enter Try.func32, Try.ntmps32
        go_upto_region 1 with (fail)
        rw [HW2.out]
        go_upto_region 5 with (go_at_call 58; refine HAp.out.mono ?_; rintro e w3 ⟨rfl, hb3⟩; have HB3 := hide hb3; clear hb3)
        obtain ⟨w4, hw4, hb4, hx4⟩ := box_one w3 #[.int .i64 yv, .int .i64 y0, .int .i64 y1, .slice yp yl yc] 107
        have hb24 := HB3.out.trans (hb4.mono HB3.out.size)
        have HB4 := hide (HB2.out.trans (hb24.mono HB2.out.size))
        rw [show w3.alloc (.cells #[.int .i64 yv, .int .i64 y0, .int .i64 y1, .slice yp yl yc] 107) = w4 from hw4]
        obtain ⟨p0, p1, p2, p3⟩ := ac4 hx4
        obtain ⟨l0, l1, l2⟩ := ac3 ((hb24.block _ (ac_lt HK2.out)).trans HK2.out)
        clear hw4 hb4 hx4 hb24 c0 c1 c2 c3 c4 c5 k0 k1 k2
        go_wp2
        go_ret
        first | exact ⟨rfl, HB4.out⟩ | exact ⟨by simp, HB4.out⟩)
    · rw [if_neg g1]
      by_cases g2 : k = 2
      · subst g2
        rw [if_pos rfl]
        cases hr
        all_goals (
          go_enter Try.func32, Try.ntmps32
          go_upto_region 1 with (fail)
          rw [HW2.out]
          go_upto_region 5 with (go_at_call 58; refine HAp.out.mono ?_; rintro e w3 ⟨rfl, hb3⟩; have HB3 := hide hb3; clear hb3)
          obtain ⟨w4, hw4, hb4, hx4⟩ := box_one w3 #[.int .i64 yv, .int .i64 y0, .int .i64 y1, .slice yp yl yc] 107
          have hb24 := HB3.out.trans (hb4.mono HB3.out.size)
          have HB4 := hide (HB2.out.trans (hb24.mono HB2.out.size))
          rw [show w3.alloc (.cells #[.int .i64 yv, .int .i64 y0, .int .i64 y1, .slice yp yl yc] 107) = w4 from hw4]
          obtain ⟨p0, p1, p2, p3⟩ := ac4 hx4
          obtain ⟨l0, l1, l2⟩ := ac3 ((hb24.block _ (ac_lt HK2.out)).trans HK2.out)
          clear hw4 hb4 hx4 hb24 c0 c1 c2 c3 c4 c5 k0 k1 k2
          go_wp2
          go_ret
          first | exact ⟨rfl, HB4.out⟩ | exact ⟨by simp, HB4.out⟩)
      · rw [if_neg g2]
        by_cases g3 : k = 3
        · subst g3
          rw [if_pos rfl]
          cases hr
          all_goals (
            go_enter Try.func32, Try.ntmps32
            go_upto_region 1 with (fail)
            rw [HW2.out]
            go_upto_region 5 with (go_at_call 58; refine HAp.out.mono ?_; rintro e w3 ⟨rfl, hb3⟩; have HB3 := hide hb3; clear hb3)
            obtain ⟨w4, hw4, hb4, hx4⟩ := box_one w3 #[.int .i64 yv, .int .i64 y0, .int .i64 y1, .slice yp yl yc] 107
            have hb24 := HB3.out.trans (hb4.mono HB3.out.size)
            have HB4 := hide (HB2.out.trans (hb24.mono HB2.out.size))
            rw [show w3.alloc (.cells #[.int .i64 yv, .int .i64 y0, .int .i64 y1, .slice yp yl yc] 107) = w4 from hw4]
            obtain ⟨p0, p1, p2, p3⟩ := ac4 hx4
            obtain ⟨l0, l1, l2⟩ := ac3 ((hb24.block _ (ac_lt HK2.out)).trans HK2.out)
            clear hw4 hb4 hx4 hb24 c0 c1 c2 c3 c4 c5 k0 k1 k2
            go_wp2
            go_ret
            first | exact ⟨rfl, HB4.out⟩ | exact ⟨by simp, HB4.out⟩)
        · rw [if_neg g3]
          all_goals (
            go_enter Try.func32, Try.ntmps32
            go_upto_region 1 with (fail)
            rw [HW2.out]
            go_upto_region 5 with (go_at_call 58; refine HAp.out.mono ?_; rintro e w3 ⟨rfl, hb3⟩; have HB3 := hide hb3; clear hb3)
            obtain ⟨w4, hw4, hb4, hx4⟩ := box_one w3 #[.int .i64 yv, .int .i64 y0, .int .i64 y1, .slice yp yl yc] 107
            have hb24 := HB3.out.trans (hb4.mono HB3.out.size)
            have HB4 := hide (HB2.out.trans (hb24.mono HB2.out.size))
            rw [show w3.alloc (.cells #[.int .i64 yv, .int .i64 y0, .int .i64 y1, .slice yp yl yc] 107) = w4 from hw4]
            obtain ⟨p0, p1, p2, p3⟩ := ac4 hx4
            obtain ⟨l0, l1, l2⟩ := ac3 ((hb24.block _ (ac_lt HK2.out)).trans HK2.out)
            clear hw4 hb4 hx4 hb24 c0 c1 c2 c3 c4 c5 k0 k1 k2
            go_wp2
            go_ret
            first | exact ⟨rfl, HB4.out⟩ | exact ⟨by simp, HB4.out⟩)
set_option maxRecDepth 100000 in
set_option maxHeartbeats 2000000 in
theorem guarded_gen (w : World) (s : Sta) (hs : StaOk w s) (p : Option Addr) (n c : Nat) (xs : List Tri) (hn : xs.length = n) (hnl : n ≤ 140737488355328) (hx : Cel w p 3 (xs.map tric)) :
    Calls Try.prog 9 #[.agg s.arr, .slice p n c] w fun e w' => e = .returned (.bool (xs.all (fun x => s.guard x.a x.b x.n))) ∧ Below w.heap.size w w' := by
  obtain ⟨w2, hw2, hb2, hx2⟩ := box_one w s.arr 32
  have HS := hide (hs.below hb2)
  have HX := hide (hx.below hb2)
  have HN := hide hn
  have HW2 := hide hw2
  have HB2 := hide hb2
  have HX2 := hide hx2
  have HC := hide (fun (W : World) (hb : Below w2.heap.size w2 W) (a b d : Int) => guard_gen W s (HS.out.below hb) a b d)
  clear hw2 hb2 hx2 hs hx hn
  obtain ⟨f, hf⟩ : ∃ f : Tri → Bool, (fun x => s.guard x.a x.b x.n) = f := ⟨_, rfl⟩
  have HF : Hid (∀ a b d, s.guard a b d = f ⟨a, b, d⟩) := fun a b d => by rw [← hf]
  rw [hf]
  clear hf
  go_enter Try.func9, Try.ntmps9
  go_upto_region 1 with (fail)
  rw [HW2.out]
  go_wp2_with fail
  go_loopw [9] (fun i wr => ∃ j : Nat, j ≤ n ∧ i = .int .i64 j ∧ Hid ((xs.take j).all f = true) ∧ Hid (Below w2.heap.size w2 wr)) (fun i _ => n - (intOf i).toNat)
  case atStart => exact ⟨0, Nat.zero_le _, rfl, rfl, Below.refl _ _⟩
  case round =>
    obtain ⟨j, hj, rfl, HA, HB⟩ := hrel
    by_cases hlt : j < n
    · have hlt' : (j : Int) < (n : Int) := by omega
      have j0' : (0 : Int) ≤ (j : Int) := by omega
      obtain ⟨x, hx⟩ : ∃ x, xs[j]? = some x := ⟨_, List.getElem?_eq_getElem (by rw [HN.out]; exact hlt)⟩
      obtain ⟨b, o, rfl, hbl, hcl⟩ := (HX.out.below HB.out).get (i := j) (r := tric x) (by rw [List.getElem?_map, hx]; rfl)
      obtain ⟨xa, xb, xd⟩ := x
      have a0 := hcl 0 _ rfl
      have a1 := hcl 1 _ rfl
      have a2 := hcl 2 _ rfl
      rw [Nat.add_zero] at a0
      have HT := hide (show (xs.take (j + 1)).all f = ((xs.take j).all f && f ⟨xa, xb, xd⟩) by rw [take_snoc hx, List.all_append]; simp)
      have HI := hide (show f ⟨xa, xb, xd⟩ = false → xs.all f = false from fun h => by rw [List.all_eq_false]; exact ⟨_, List.mem_of_getElem? hx, by simp [h]⟩)
      obtain ⟨w6, hw6, hb6, hx6⟩ := box_one wr #[.int .i64 xa, .int .i64 xb, .int .i64 xd] 83
      have HB6 := hide (HB.out.trans (hb6.mono HB.out.size))
      obtain ⟨y0, y1, y2⟩ := ac3 hx6
      obtain ⟨c0, c1, c2, c3, c4, c5⟩ := ac6 ((HB6.out.block _ (ac_lt HX2.out)).trans HX2.out)
      have HQ := hide (HC.out w6 HB6.out xa xb xd)
      rw [HF.out xa xb xd] at HQ
      have HW6 := hide hw6
      clear hx hcl hw6 hb6 hx6
      go_upto_region 4 with (fail)
      rw [HW6.out]
      cases hv : f ⟨xa, xb, xd⟩ with
      | true =>
        rw [hv] at HQ
        go_wp2_with (go_at_call 32; refine HQ.out.mono ?_; rintro e w7 ⟨rfl, hb7⟩; have HB7 := hide (HB6.out.trans (hb7.mono HB6.out.size)); clear hb7)
        go_roundw
        case rel => exact ⟨j + 1, by omega, by go_num, by show _ = _; rw [HT.out, HA.out, hv]; rfl, HB7⟩
        case measure => simp [intOf]; omega
      | false =>
        rw [hv] at HQ
        have HV := HI.out hv
        clear hv
        go_wp2_with (go_at_call 32; refine HQ.out.mono ?_; rintro e w7 ⟨rfl, hb7⟩; have HB7 := hide (HB6.out.trans (hb7.mono HB6.out.size)); clear hb7)
        go_ret
        try rw [HV]
        exact ⟨rfl, HB2.out.trans (HB7.out.mono HB2.out.size)⟩
    · have hlt' : ¬ (j : Int) < (n : Int) := by omega
      have HV : xs.all f = true := by have h := HA.out; rw [List.take_of_length_le (by rw [HN.out]; omega)] at h; exact h
      go_wp2
      go_ret
      try rw [HV]
      exact ⟨rfl, HB2.out.trans (HB.out.mono HB2.out.size)⟩
end Go.Proofs.Ytllpikijakilnaa
namespace Go.Proofs.Ytllpikijakilnaa
open Go.RowKit

set_option maxRecDepth 100000 in
set_option maxHeartbeats 2000000 in
theorem atWord_gen (w : World) (p : Option Addr) (n c : Nat) (ps : List Int) (hn : ps.length = n) (hc : Cel w p 1 (ps.map uc)) (i : Int) :
    Calls Try.prog 65 #[.slice p n c, .int .i64 i] w fun e w' => e = .returned (.tuple #[.int .u64 (getAt ps 0 i), .bool (hasAt ps i)]) ∧ w' = w := by
  have HC := hide hc
  have HN := hide hn
  rcases at_case ps n hn i with h | ⟨h, h2⟩ | ⟨k, x, rfl, hk, hx⟩
  · obtain ⟨e1, e2⟩ := at_out (l := ps) (z := 0) (i := i) (Or.inl h)
    rw [e1, e2]
    clear e1 e2 hc hn
    go_enter Try.func65, Try.ntmps65
    go_wp2
    refine bodyPost_ret (v := .tuple #[.int .u64 0, .bool false]) (by simp [results, Try.results65, go_sem]) rfl ?_
    exact ⟨rfl, rfl⟩
  · obtain ⟨e1, e2⟩ := at_out (l := ps) (z := 0) (i := i) (Or.inr (by rw [hn]; exact h2))
    rw [e1, e2]
    clear e1 e2 hc hn
    go_enter Try.func65, Try.ntmps65
    go_wp2
    refine bodyPost_ret (v := .tuple #[.int .u64 0, .bool false]) (by simp [results, Try.results65, go_sem]) rfl ?_
    exact ⟨rfl, rfl⟩
  · obtain ⟨e1, e2⟩ := at_in (z := 0) hx
    rw [e1, e2]
    obtain ⟨b, o, rfl, hbl, hcl⟩ := HC.out.get (i := k) (r := uc x) (by rw [List.getElem?_map, hx]; rfl)
    have c0 := hcl 0 _ rfl
    rw [Nat.add_zero, Nat.mul_one] at c0
    have hk' : (k : Int) < (n : Int) := by omega
    have k0' : ¬ (k : Int) < 0 := by omega
    clear e1 e2 hc hn hcl hx
    go_enter Try.func65, Try.ntmps65
    go_wp2
    refine bodyPost_ret (v := .tuple #[.int .u64 x, .bool true]) (by simp [results, Try.results65, go_sem]) rfl ?_
    exact ⟨rfl, rfl⟩
set_option maxRecDepth 100000 in
set_option maxHeartbeats 2000000 in
theorem atBool_gen (w : World) (p : Option Addr) (n c : Nat) (ps : List Bool) (hn : ps.length = n) (hc : Cel w p 1 (ps.map boolc)) (i : Int) :
    Calls Try.prog 66 #[.slice p n c, .int .i64 i] w fun e w' => e = .returned (.tuple #[.bool (getAt ps false i), .bool (hasAt ps i)]) ∧ w' = w := by
  have HC := hide hc
  have HN := hide hn
  rcases at_case ps n hn i with h | ⟨h, h2⟩ | ⟨k, x, rfl, hk, hx⟩
  · obtain ⟨e1, e2⟩ := at_out (l := ps) (z := false) (i := i) (Or.inl h)
    rw [e1, e2]
    clear e1 e2 hc hn
    go_enter Try.func66, Try.ntmps66
    go_wp2
    refine bodyPost_ret (v := .tuple #[.bool false, .bool false]) (by simp [results, Try.results66, go_sem]) rfl ?_
    exact ⟨rfl, rfl⟩
  · obtain ⟨e1, e2⟩ := at_out (l := ps) (z := false) (i := i) (Or.inr (by rw [hn]; exact h2))
    rw [e1, e2]
    clear e1 e2 hc hn
    go_enter Try.func66, Try.ntmps66
    go_wp2
    refine bodyPost_ret (v := .tuple #[.bool false, .bool false]) (by simp [results, Try.results66, go_sem]) rfl ?_
    exact ⟨rfl, rfl⟩
  · obtain ⟨e1, e2⟩ := at_in (z := false) hx
    rw [e1, e2]
    obtain ⟨b, o, rfl, hbl, hcl⟩ := HC.out.get (i := k) (r := boolc x) (by rw [List.getElem?_map, hx]; rfl)
    have c0 := hcl 0 _ rfl
    rw [Nat.add_zero, Nat.mul_one] at c0
    have hk' : (k : Int) < (n : Int) := by omega
    have k0' : ¬ (k : Int) < 0 := by omega
    clear e1 e2 hc hn hcl hx
    go_enter Try.func66, Try.ntmps66
    go_wp2
    refine bodyPost_ret (v := .tuple #[.bool x, .bool true]) (by simp [results, Try.results66, go_sem]) rfl ?_
    exact ⟨rfl, rfl⟩
def Sta.owes (s : Sta) (t g : Int) : Bool := hasAt s.gen t && decide (getAt s.gen 0 t = g) && getAt s.owed false t

set_option maxRecDepth 100000 in
set_option maxHeartbeats 2000000 in
theorem owes_gen (w : World) (s : Sta) (hs : StaOk w s) (t g : Int) :
    Calls Try.prog 40 #[.agg s.arr, .int .i64 t, .int .u64 g] w fun e w' => e = .returned (.bool (s.owes t g)) ∧ Below w.heap.size w w' := by
  obtain ⟨w2, hw2, hb2, hx2⟩ := box_one w s.arr 32
  have hs2 := hs.below hb2
  obtain ⟨c0, c1, c2, c3, c4, c5⟩ := ac6 hx2
  have HAg := hide (atWord_gen w2 s.gp s.gn s.gc s.gen hs2.gn hs2.gen t)
  have HAo := hide (atBool_gen w2 s.op s.on s.oc s.owed hs2.on hs2.owed t)
  have HW2 := hide hw2
  have HB2 := hide hb2
  unfold Sta.owes
  generalize getAt s.gen 0 t = x at HAg ⊢
  generalize hasAt s.gen t = hq at HAg ⊢
  generalize getAt s.owed false t = y at HAo ⊢
  generalize hasAt s.owed t = hr at HAo ⊢
  clear hw2 hb2 hx2 hs2 hs
  by_cases hx : x = g
  · subst hx
    rw [decide_eq_true rfl]
    cases hq <;> cases y
    all_goals (
      go_enter Try.func40, Try.ntmps40
      go_upto_region 1 with (fail)
      rw [HW2.out]
      go_wp2_with (first | (go_at_call 65; refine HAg.out.mono ?_; rintro e w3 ⟨rfl, rfl⟩) | (go_at_call 66; refine HAo.out.mono ?_; rintro e w3 ⟨rfl, rfl⟩) | fail)
      go_ret
      exact ⟨rfl, HB2.out⟩)
  · rw [decide_eq_false hx]
    cases hq <;> cases y
    all_goals (
      go_enter Try.func40, Try.ntmps40
      go_upto_region 1 with (fail)
      rw [HW2.out]
      go_wp2_with (first | (go_at_call 65; refine HAg.out.mono ?_; rintro e w3 ⟨rfl, rfl⟩) | (go_at_call 66; refine HAo.out.mono ?_; rintro e w3 ⟨rfl, rfl⟩) | fail)
      go_ret
      exact ⟨rfl, HB2.out⟩)
end Go.Proofs.Ytllpikijakilnaa
namespace Go.Proofs.Ytllpikijakilnaa
open Go.RowKit

set_option maxRecDepth 100000 in
set_option maxHeartbeats 2000000 in
theorem free1_gen (w : World) (s : Sta) (hs : StaOk w s) (S : Nat) (a b : Int) (hS : w.heap[S]? = some (.cells s.arr 32 (0, 0))) :
    Calls Try.prog 28 #[.agg #[.int .i64 a, .int .i64 b], .pointer (some ⟨S, 0, none⟩)] w fun e w' => e = .returned (.int .i64 (s.free a b)) ∧ Below w.heap.size w w' := by
  obtain ⟨w2, hw2, hb2, hk2⟩ := box_one w #[.int .i64 a, .int .i64 b] 71
  obtain ⟨c0, c1, c2, c3, c4, c5⟩ := ac6 ((hb2.block S (ac_lt hS)).trans hS)
  obtain ⟨k0, k1⟩ := ac2 hk2
  have HH := hide (free_gen w2 s (hs.below hb2) a b)
  have HW2 := hide hw2
  have HB2 := hide hb2
  generalize s.free a b = q at HH ⊢
  clear hw2 hb2 hk2 hS hs
  go_enter Try.func28, Try.ntmps28
  go_upto_region 1 with (fail)
  rw [HW2.out]
  go_wp2_with (go_at_call 29; refine HH.out.mono ?_; rintro e w3 ⟨rfl, hb3⟩; have HB3 := hide (HB2.out.trans (hb3.mono HB2.out.size)); clear hb3)
  go_ret
  exact ⟨rfl, HB3.out⟩

set_option maxRecDepth 100000 in
set_option maxHeartbeats 2000000 in
theorem freeA_gen (w : World) (s : Sta) (hs : StaOk w s) (S : Nat) (hS : w.heap[S]? = some (.cells s.arr 32 (0, 0))) (p : Option Addr) (n c : Nat) (xs : List Lin) (hn : xs.length = n) (hnl : n ≤ 1099511627776) (hwf : ∀ x ∈ xs, LinWf x) (hx : Cel w p 2 (xs.map linc)) :
    Calls Try.prog 27 #[.slice p n c, .func (.func 28) #[] #[.pointer (some ⟨S, 0, none⟩)]] w fun e w' => e = .returned (.bool ((needT xs).all (fun x => decide (x.n ≤ s.free x.a x.b)))) ∧ Below w.heap.size w w' := by
  have HN := hide (needs_any w p n c xs hn hnl hwf (cel_lins hx))
  obtain ⟨ys, hys⟩ : ∃ ys, needT xs = ys := ⟨_, rfl⟩
  have hyl : ys.length ≤ 1099511627776 := by rw [← hys]; exact Nat.le_trans (needT_len xs) (by omega)
  rw [hys] at HN ⊢
  have HSt := hide hs
  have HS := hide hS
  skip
  have HKo := hide (fun W a b n => kindOf_any W a b n)
  have HHo := hide (fun (W : World) (hb : Below w.heap.size w W) (a b : Int) => free1_gen W s (hs.below hb) S a b ((hb.block S (ac_lt hS)).trans hS))
  obtain ⟨f, hf⟩ : ∃ f : Tri → Bool, (fun x : Tri => decide (x.n ≤ s.free x.a x.b)) = f := ⟨_, rfl⟩
  have HF : Hid (∀ x : Tri, decide (x.n ≤ s.free x.a x.b) = f x) := fun x => by rw [← hf]
  rw [hf]
  clear hf hs hS hx hwf hn hys
  go_enter Try.func27, Try.ntmps27
  go_wp2_with (go_at_call 6; refine HN.out.mono ?_; rintro e w1 ⟨v, rfl, hr1, hb1⟩; obtain ⟨va, vc, rfl⟩ := slice_form hr1; have HR1 := hide hr1; have HB1 := hide hb1; clear hr1 hb1)
  go_loopw [10] (fun i wr => ∃ j : Nat, j ≤ ys.length ∧ i = .int .i64 j ∧ Hid ((ys.take j).all f = true) ∧ Hid (Below w1.heap.size w1 wr)) (fun i _ => ys.length - (intOf i).toNat)
  case atStart => exact ⟨0, Nat.zero_le _, rfl, rfl, Below.refl _ _⟩
  case round =>
    obtain ⟨j, hj, rfl, HA, HB⟩ := hrel
    by_cases hlt : j < ys.length
    · have hlt' : (j : Int) < (ys.length : Int) := by omega
      have j0' : (0 : Int) ≤ (j : Int) := by omega
      obtain ⟨x, hx⟩ : ∃ x, ys[j]? = some x := ⟨_, List.getElem?_eq_getElem hlt⟩
      obtain ⟨b, o, rfl, hbl, hcl⟩ := ((cel_row HR1.out).below HB.out).get (i := j) (r := tric x) (by rw [List.getElem?_map, hx]; rfl)
      have HT1 := hide (show (ys.take (j + 1)).all f = ((ys.take j).all f && f x) by rw [take_snoc hx, List.all_append]; simp)
      have HI := hide (show f x = false → ys.all f = false from fun h => by rw [List.all_eq_false]; exact ⟨_, List.mem_of_getElem? hx, by simp [h]⟩)
      have HFx := HF.out x
      obtain ⟨xa, xb, xd⟩ := x
      dsimp only at HFx
      have a0 := hcl 0 _ rfl
      have a1 := hcl 1 _ rfl
      have a2 := hcl 2 _ rfl
      rw [Nat.add_zero] at a0
      obtain ⟨w2, hw2, hb2', hx2⟩ := box_one wr #[.int .i64 xa, .int .i64 xb, .int .i64 xd] 42
      have HB12 := hide (HB.out.trans (hb2'.mono HB.out.size))
      have HB2 := hide (HB1.out.trans (HB12.out.mono HB1.out.size))
      obtain ⟨y0, y1, y2⟩ := ac3 hx2
      have HX2 := hide hx2
      have HW2 := hide hw2
      have HHx := hide (fun W hb => HHo.out W hb xa xb)
      generalize s.free xa xb = q at HHx HFx
      clear hx hcl hw2 hb2' hx2
      go_upto_region 4 with (fail)
      rw [HW2.out]
      go_region_held3 (fun w' => w'.cell? ⟨wr.heap.size, 0, none⟩ = some (.int .i64 xa) ∧ w'.cell? ⟨wr.heap.size, 1, none⟩ = some (.int .i64 xb) ∧ w'.cell? ⟨wr.heap.size, 2, none⟩ = some (.int .i64 xd)) (go_keep) (first | (go_at_call 28; refine (HHx.out _ HB3.out).mono ?_; rintro e w4 ⟨rfl, hb4⟩; obtain ⟨z0, z1, z2⟩ := ac3 ((hb4.block _ (ac_lt HX3.out)).trans HX3.out); have HB4 : Hid (Below w1.heap.size w1 w4) := HB13.out.trans (hb4.mono HB13.out.size); clear hb4) | (go_at_call 39; refine (HKo.out _ xa xb xd).mono ?_; rintro e w3 ⟨rfl, hb3'⟩; have hb3 : Below w2.heap.size w2 w3 := ⟨hb3'.os, hb3'.tape, hb3'.output, hb3'.size, hb3'.block⟩; clear hb3'; have HX3 := hide ((hb3.block _ (ac_lt HX2.out)).trans HX2.out); obtain ⟨z0, z1, z2⟩ := ac3 HX3.out; have HB3 : Hid (Below w.heap.size w w3) := HB2.out.trans (hb3.mono HB2.out.size); have HB13 : Hid (Below w1.heap.size w1 w3) := HB12.out.trans (hb3.mono HB12.out.size); clear hb3) | fail)
      by_cases hq : xd ≤ q
      · have hq' : ¬ q < xd := by omega
        rw [decide_eq_true hq] at HFx
        go_wp2
        go_roundw
        case rel => exact ⟨j + 1, by omega, by go_num, by show _ = _; rw [HT1.out, HA.out, ← HFx]; rfl, by first | exact HB4 | exact HB4.out.drew⟩
        case measure => simp [intOf]; omega
      · have hq' : q < xd := by omega
        rw [decide_eq_false hq] at HFx
        have HV := HI.out HFx.symm
        clear HFx
        go_wp2
        go_ret
        try rw [HV]
        first | exact ⟨rfl, HB1.out.trans (HB4.out.mono HB1.out.size)⟩ | exact ⟨rfl, (HB1.out.trans (HB4.out.mono HB1.out.size)).drew⟩
    · have hlt' : ¬ (j : Int) < (ys.length : Int) := by omega
      have HV : ys.all f = true := by have h := HA.out; rw [List.take_of_length_le (by omega)] at h; exact h
      go_wp2
      go_ret
      try rw [HV]
      exact ⟨rfl, HB1.out.trans (HB.out.mono HB1.out.size)⟩

set_option maxRecDepth 100000 in
set_option maxHeartbeats 2000000 in
theorem holds1_gen (w : World) (s : Sta) (hs : StaOk w s) (t : Int) (S : Nat) (T : Nat) (a b : Int) (hS : w.heap[S]? = some (.cells s.arr 32 (0, 0))) (hT : w.heap[T]? = some (.cells #[.int .i64 t] 3 (0, 0))) :
    Calls Try.prog 30 #[.agg #[.int .i64 a, .int .i64 b], .pointer (some ⟨S, 0, none⟩), .pointer (some ⟨T, 0, none⟩)] w fun e w' => e = .returned (.int .i64 (s.held t a b)) ∧ Below w.heap.size w w' := by
  obtain ⟨w2, hw2, hb2, hk2⟩ := box_one w #[.int .i64 a, .int .i64 b] 71
  obtain ⟨c0, c1, c2, c3, c4, c5⟩ := ac6 ((hb2.block S (ac_lt hS)).trans hS)
  obtain ⟨k0, k1⟩ := ac2 hk2
  have t0 : w2.cell? ⟨T, 0, none⟩ = some (.int .i64 t) := by simp [World.cell?, (hb2.block T (ac_lt hT)).trans hT]
  have HH := hide (held_gen w2 s (hs.below hb2) t a b)
  have HW2 := hide hw2
  have HB2 := hide hb2
  generalize s.held t a b = q at HH ⊢
  clear hw2 hb2 hk2 hS hT hs
  go_enter Try.func30, Try.ntmps30
  go_upto_region 1 with (fail)
  rw [HW2.out]
  go_wp2_with (go_at_call 31; refine HH.out.mono ?_; rintro e w3 ⟨rfl, hb3⟩; have HB3 := hide (HB2.out.trans (hb3.mono HB2.out.size)); clear hb3)
  go_ret
  exact ⟨rfl, HB3.out⟩

set_option maxRecDepth 100000 in
set_option maxHeartbeats 2000000 in
theorem holdsA_gen (w : World) (s : Sta) (hs : StaOk w s) (t : Int) (S : Nat) (T : Nat) (hS : w.heap[S]? = some (.cells s.arr 32 (0, 0))) (hT : w.heap[T]? = some (.cells #[.int .i64 t] 3 (0, 0))) (p : Option Addr) (n c : Nat) (xs : List Lin) (hn : xs.length = n) (hnl : n ≤ 1099511627776) (hwf : ∀ x ∈ xs, LinWf x) (hx : Cel w p 2 (xs.map linc)) :
    Calls Try.prog 27 #[.slice p n c, .func (.func 30) #[] #[.pointer (some ⟨S, 0, none⟩), .pointer (some ⟨T, 0, none⟩)]] w fun e w' => e = .returned (.bool ((needT xs).all (fun x => decide (x.n ≤ s.held t x.a x.b)))) ∧ Below w.heap.size w w' := by
  have HN := hide (needs_any w p n c xs hn hnl hwf (cel_lins hx))
  obtain ⟨ys, hys⟩ : ∃ ys, needT xs = ys := ⟨_, rfl⟩
  have hyl : ys.length ≤ 1099511627776 := by rw [← hys]; exact Nat.le_trans (needT_len xs) (by omega)
  rw [hys] at HN ⊢
  have HSt := hide hs
  have HS := hide hS
  have HT := hide hT
  have HKo := hide (fun W a b n => kindOf_any W a b n)
  have HHo := hide (fun (W : World) (hb : Below w.heap.size w W) (a b : Int) => holds1_gen W s (hs.below hb) t S T a b ((hb.block S (ac_lt hS)).trans hS) ((hb.block T (ac_lt hT)).trans hT))
  obtain ⟨f, hf⟩ : ∃ f : Tri → Bool, (fun x : Tri => decide (x.n ≤ s.held t x.a x.b)) = f := ⟨_, rfl⟩
  have HF : Hid (∀ x : Tri, decide (x.n ≤ s.held t x.a x.b) = f x) := fun x => by rw [← hf]
  rw [hf]
  clear hf hs hS hT hx hwf hn hys
  go_enter Try.func27, Try.ntmps27
  go_wp2_with (go_at_call 6; refine HN.out.mono ?_; rintro e w1 ⟨v, rfl, hr1, hb1⟩; obtain ⟨va, vc, rfl⟩ := slice_form hr1; have HR1 := hide hr1; have HB1 := hide hb1; clear hr1 hb1)
  go_loopw [10] (fun i wr => ∃ j : Nat, j ≤ ys.length ∧ i = .int .i64 j ∧ Hid ((ys.take j).all f = true) ∧ Hid (Below w1.heap.size w1 wr)) (fun i _ => ys.length - (intOf i).toNat)
  case atStart => exact ⟨0, Nat.zero_le _, rfl, rfl, Below.refl _ _⟩
  case round =>
    obtain ⟨j, hj, rfl, HA, HB⟩ := hrel
    by_cases hlt : j < ys.length
    · have hlt' : (j : Int) < (ys.length : Int) := by omega
      have j0' : (0 : Int) ≤ (j : Int) := by omega
      obtain ⟨x, hx⟩ : ∃ x, ys[j]? = some x := ⟨_, List.getElem?_eq_getElem hlt⟩
      obtain ⟨b, o, rfl, hbl, hcl⟩ := ((cel_row HR1.out).below HB.out).get (i := j) (r := tric x) (by rw [List.getElem?_map, hx]; rfl)
      have HT1 := hide (show (ys.take (j + 1)).all f = ((ys.take j).all f && f x) by rw [take_snoc hx, List.all_append]; simp)
      have HI := hide (show f x = false → ys.all f = false from fun h => by rw [List.all_eq_false]; exact ⟨_, List.mem_of_getElem? hx, by simp [h]⟩)
      have HFx := HF.out x
      obtain ⟨xa, xb, xd⟩ := x
      dsimp only at HFx
      have a0 := hcl 0 _ rfl
      have a1 := hcl 1 _ rfl
      have a2 := hcl 2 _ rfl
      rw [Nat.add_zero] at a0
      obtain ⟨w2, hw2, hb2', hx2⟩ := box_one wr #[.int .i64 xa, .int .i64 xb, .int .i64 xd] 42
      have HB12 := hide (HB.out.trans (hb2'.mono HB.out.size))
      have HB2 := hide (HB1.out.trans (HB12.out.mono HB1.out.size))
      obtain ⟨y0, y1, y2⟩ := ac3 hx2
      have HX2 := hide hx2
      have HW2 := hide hw2
      have HHx := hide (fun W hb => HHo.out W hb xa xb)
      generalize s.held t xa xb = q at HHx HFx
      clear hx hcl hw2 hb2' hx2
      go_upto_region 4 with (fail)
      rw [HW2.out]
      go_region_held3 (fun w' => w'.cell? ⟨wr.heap.size, 0, none⟩ = some (.int .i64 xa) ∧ w'.cell? ⟨wr.heap.size, 1, none⟩ = some (.int .i64 xb) ∧ w'.cell? ⟨wr.heap.size, 2, none⟩ = some (.int .i64 xd)) (go_keep) (first | (go_at_call 30; refine (HHx.out _ HB3.out).mono ?_; rintro e w4 ⟨rfl, hb4⟩; obtain ⟨z0, z1, z2⟩ := ac3 ((hb4.block _ (ac_lt HX3.out)).trans HX3.out); have HB4 : Hid (Below w1.heap.size w1 w4) := HB13.out.trans (hb4.mono HB13.out.size); clear hb4) | (go_at_call 39; refine (HKo.out _ xa xb xd).mono ?_; rintro e w3 ⟨rfl, hb3'⟩; have hb3 : Below w2.heap.size w2 w3 := ⟨hb3'.os, hb3'.tape, hb3'.output, hb3'.size, hb3'.block⟩; clear hb3'; have HX3 := hide ((hb3.block _ (ac_lt HX2.out)).trans HX2.out); obtain ⟨z0, z1, z2⟩ := ac3 HX3.out; have HB3 : Hid (Below w.heap.size w w3) := HB2.out.trans (hb3.mono HB2.out.size); have HB13 : Hid (Below w1.heap.size w1 w3) := HB12.out.trans (hb3.mono HB12.out.size); clear hb3) | fail)
      by_cases hq : xd ≤ q
      · have hq' : ¬ q < xd := by omega
        rw [decide_eq_true hq] at HFx
        go_wp2
        go_roundw
        case rel => exact ⟨j + 1, by omega, by go_num, by show _ = _; rw [HT1.out, HA.out, ← HFx]; rfl, by first | exact HB4 | exact HB4.out.drew⟩
        case measure => simp [intOf]; omega
      · have hq' : q < xd := by omega
        rw [decide_eq_false hq] at HFx
        have HV := HI.out HFx.symm
        clear HFx
        go_wp2
        go_ret
        try rw [HV]
        first | exact ⟨rfl, HB1.out.trans (HB4.out.mono HB1.out.size)⟩ | exact ⟨rfl, (HB1.out.trans (HB4.out.mono HB1.out.size)).drew⟩
    · have hlt' : ¬ (j : Int) < (ys.length : Int) := by omega
      have HV : ys.all f = true := by have h := HA.out; rw [List.take_of_length_le (by omega)] at h; exact h
      go_wp2
      go_ret
      try rw [HV]
      exact ⟨rfl, HB1.out.trans (HB.out.mono HB1.out.size)⟩

set_option maxRecDepth 100000 in
set_option maxHeartbeats 2000000 in
theorem free_all (w : World) (s : Sta) (hs : StaOk w s) (p : Option Addr) (n c : Nat) (xs : List Lin) (hn : xs.length = n) (hnl : n ≤ 1099511627776) (hwf : ∀ x ∈ xs, LinWf x) (hx : Cel w p 2 (xs.map linc)) :
    Calls Try.prog 7 #[.agg s.arr, .slice p n c] w fun e w' => e = .returned (.bool ((needT xs).all (fun x => decide (x.n ≤ s.free x.a x.b)))) ∧ Below w.heap.size w w' := by
  obtain ⟨w2, hw2, hb2, hx2⟩ := box_one w s.arr 32
  have HH := hide (freeA_gen w2 s (hs.below hb2) w.heap.size hx2 p n c xs hn hnl hwf (hx.below hb2))
  have HW2 := hide hw2
  have HB2 := hide hb2
  generalize (needT xs).all (fun x => decide (x.n ≤ s.free x.a x.b)) = q at HH ⊢
  clear hw2 hb2 hx2 hs hx hwf
  go_enter Try.func7, Try.ntmps7
  go_upto_region 1 with (fail)
  rw [HW2.out]
  go_wp2_with (go_at_call 27; refine HH.out.mono ?_; rintro e w3 ⟨rfl, hb3⟩; have HB3 := hide (HB2.out.trans (hb3.mono HB2.out.size)); clear hb3)
  go_ret
  exact ⟨rfl, HB3.out⟩

set_option maxRecDepth 100000 in
set_option maxHeartbeats 2000000 in
theorem holds_all (w : World) (s : Sta) (hs : StaOk w s) (t : Int) (p : Option Addr) (n c : Nat) (xs : List Lin) (hn : xs.length = n) (hnl : n ≤ 1099511627776) (hwf : ∀ x ∈ xs, LinWf x) (hx : Cel w p 2 (xs.map linc)) :
    Calls Try.prog 8 #[.agg s.arr, .int .i64 t, .slice p n c] w fun e w' => e = .returned (.bool ((needT xs).all (fun x => decide (x.n ≤ s.held t x.a x.b)))) ∧ Below w.heap.size w w' := by
  obtain ⟨w2, hw2, hb2, hx2, ht2⟩ := box_two w s.arr 32 3 #[.int .i64 t]
  have HH := hide (holdsA_gen w2 s (hs.below hb2) t w.heap.size (w.heap.size + 1) hx2 ht2 p n c xs hn hnl hwf (hx.below hb2))
  have HW2 := hide hw2
  have HB2 := hide hb2
  generalize (needT xs).all (fun x => decide (x.n ≤ s.held t x.a x.b)) = q at HH ⊢
  clear hw2 hb2 hx2 ht2 hs hx hwf
  go_enter Try.func8, Try.ntmps8
  go_upto_region 1 with (fail)
  rw [HW2.out]
  go_wp2_with (go_at_call 27; refine HH.out.mono ?_; rintro e w3 ⟨rfl, hb3⟩; have HB3 := hide (HB2.out.trans (hb3.mono HB2.out.size)); clear hb3)
  go_ret
  exact ⟨rfl, HB3.out⟩
end Go.Proofs.Ytllpikijakilnaa
namespace Go.Proofs.Ytllpikijakilnaa
open Go.RowKit

theorem set_info3 : (Try.prog.info? 86).map (fun i => (i.zero, i.size, i.bytes)) = some (some (.agg #[.int .i64 0, .int .i64 0, .int .i64 0]), 3, 24) := by kernel_rfl
def Sta.raise (s : Sta) (x : Tri) : Tri := ⟨x.a, wrap64 ((getAt s.prices ⟨0, 0⟩ x.a).n + 1), x.n⟩

set_option maxRecDepth 100000 in
set_option maxHeartbeats 2000000 in
theorem raised_gen (w : World) (s : Sta) (hs : StaOk w s) (p : Option Addr) (n c : Nat) (xs : List Tri) (hn : xs.length = n) (hnl : n ≤ 1099511627776) (hx : Cel w p 3 (xs.map tric)) :
    Calls Try.prog 63 #[.agg s.arr, .slice p n c] w fun e w' => ∃ v, e = .returned v ∧ w'.ownsRow w.heap.size 86 3 v n (rcells (xs.map s.raise)) ∧ Below w.heap.size w w' := by
  obtain ⟨i0, hi, hz0, hz1, hz2⟩ := info_parts set_info3
  obtain ⟨w2, hw2, hb2, hx2⟩ := box_one w s.arr 32
  have HS := hide (hs.below hb2)
  have HX := hide (hx.below hb2)
  have HN := hide hn
  have HW2 := hide hw2
  have HB2 := hide hb2
  have HX2 := hide hx2
  have hsz : w.heap.size < w2.heap.size := ac_lt hx2
  clear hw2 hb2 hx2 hs hx hn
  go_enter Try.func63, Try.ntmps63
  go_upto_region 1 with (fail)
  rw [HW2.out]
  go_wp2_with fail
  go_loopw [5, 12] (fun ov i wr => ∃ j : Nat, j ≤ n ∧ i = .int .i64 j ∧ Hid (wr.ownsRow w2.heap.size 86 3 ov j (rcells ((xs.take j).map s.raise))) ∧ Hid (Below w2.heap.size w2 wr)) (fun _ i _ => n - (intOf i).toNat)
  case atStart => exact ⟨0, Nat.zero_le _, rfl, World.ownsRow_nil _ _ _ _, Below.refl _ _⟩
  case round =>
    obtain ⟨j, hj, rfl, HR, HB⟩ := hrel
    obtain ⟨oa, oc, rfl⟩ := slice_form HR.out
    by_cases hlt : j < n
    · have hlt' : (j : Int) < (n : Int) := by omega
      have j0' : (0 : Int) ≤ (j : Int) := by omega
      obtain ⟨x, hx⟩ : ∃ x, xs[j]? = some x := ⟨_, List.getElem?_eq_getElem (by rw [HN.out]; exact hlt)⟩
      obtain ⟨b, o, rfl, hbl, hcl⟩ := (HX.out.below HB.out).get (i := j) (r := tric x) (by rw [List.getElem?_map, hx]; rfl)
      have HT := hide (show (xs.take (j + 1)).map s.raise = (xs.take j).map s.raise ++ [s.raise x] by rw [take_snoc hx]; simp)
      obtain ⟨xa, xb, xd⟩ := x
      have a0 := hcl 0 _ rfl
      have a1 := hcl 1 _ rfl
      have a2 := hcl 2 _ rfl
      rw [Nat.add_zero] at a0
      obtain ⟨w6, hw6, hb6, hx6⟩ := box_one wr #[.int .i64 xa, .int .i64 xb, .int .i64 xd] 86
      have HB6 := hide (HB.out.trans (hb6.mono HB.out.size))
      have HR6 := hide (RB.owns_kept' HR.out (fun g e => hb6.block g (RB.owns_lt HR.out g e)))
      have HNe : Hid ((Value.slice oa j oc).ownBlock ≠ some wr.heap.size) := fun e => by have := RB.owns_lt HR.out _ e; omega
      obtain ⟨y0, y1, y2⟩ := ac3 hx6
      obtain ⟨c0, c1, c2, c3, c4, c5⟩ := ac6 ((HB6.out.block _ (ac_lt HX2.out)).trans HX2.out)
      have hs6 := HS.out.below HB6.out
      have HAp := hide (atPrice_gen w6 s.rp s.rn s.rc s.prices hs6.rn hs6.prices xa)
      have HV : Hid (s.raise ⟨xa, xb, xd⟩ = ⟨xa, wrap64 ((getAt s.prices ⟨0, 0⟩ xa).n + 1), xd⟩) := rfl
      generalize getAt s.prices ⟨0, 0⟩ xa = q at HAp HV
      generalize hasAt s.prices xa = hq at HAp
      obtain ⟨q0, q1⟩ := q
      dsimp only [linc] at HAp HV
      have HW6 := hide hw6
      have HX6 := hide hx6
      clear hx hcl hw6 hb6 hx6 hs6
      go_upto_region 5 with (fail)
      rw [HW6.out]
      go_upto_region 6 with (go_at_call 61; refine HAp.out.mono ?_; rintro e w7 ⟨rfl, hb7⟩; have HB7 := hide hb7; clear hb7)
      obtain ⟨w8, hw8, hb8, hx8⟩ := box_one w7 #[.int .i64 q0, .int .i64 q1] 99
      have hb68 := HB7.out.trans (hb8.mono HB7.out.size)
      rw [show w7.alloc (.cells #[.int .i64 q0, .int .i64 q1] 99) = w8 from hw8]
      have HB8 := hide (HB6.out.trans (hb68.mono HB6.out.size))
      have HR8 := hide (RB.owns_kept' HR6.out (fun g e => hb68.block g (RB.owns_lt HR6.out g e)))
      obtain ⟨p0, p1⟩ := ac2 hx8
      have hx68 := (hb68.block _ (ac_lt HX6.out)).trans HX6.out
      obtain ⟨z0, z1, z2⟩ := ac3 hx68
      have ct := RB.bk_thaw hx68
      obtain ⟨w9, hw9⟩ : ∃ w9, w8.setCell ⟨wr.heap.size, 1, none⟩ (.int .i64 (wrap64 (q1 + 1))) = w9 := ⟨_, rfl⟩
      have hx9 : w9.heap[wr.heap.size]? = some (.cells #[.int .i64 xa, .int .i64 (wrap64 (q1 + 1)), .int .i64 xd] 86 (0, 0)) := by rw [← hw9]; exact RB.block_set hx68 _
      have HB9 : Hid (Below w2.heap.size w2 w9) := by show Below _ _ _; rw [← hw9]; exact HB8.out.setCell (p := ⟨wr.heap.size, 1, none⟩) (HB.out.size) _
      have HR9 : Hid (w9.ownsRow w2.heap.size 86 3 (.slice oa j oc) j (rcells ((xs.take j).map s.raise))) := by
        show World.ownsRow _ _ _ _ _ _ _
        rw [← hw9]
        exact RB.owns_kept' HR8.out (fun g e => Below.heap_setCell _ _ _ _ (fun e' => HNe.out (by rw [e, e'])))
      have HW9 := hide hw9
      have HX9 := hide hx9
      clear hw8 hb8 hx8 hb68 hx68 hw9 hx9 HR HR6 c0 c1 c2 c3 c4 c5 y0 y1 y2 a0 a1 a2
      go_upto_region 7 with (fail)
      rw [HW9.out]
      clear z0 z1 z2 ct p0 p1
      obtain ⟨u0, u1, u2⟩ := ac3 HX9.out
      go_wp2_with (at_builtin; refine wpList_append_lies _ rfl (.tmp 28) (.tmp 30) 38 rfl w2.heap.size 86 i0 (.agg #[.int .i64 0, .int .i64 0, .int .i64 0]) 3 24 Try.underlying38 hi hz0 hz1 hz2 rfl (by omega) _ _ _ rfl (HR9.out.alloc _) ⟨w9.heap.size, 0, none⟩ 1 1 [.int .i64 xa, .int .i64 (wrap64 (q1 + 1)), .int .i64 xd] rfl rfl (three_new _ _ _ _ _) (by simp [Value.oneCell']) (by omega) (by unfold maxLen; omega) (by omega) (by have := HB9.out.size; simp; omega) _ rfl ?_; intro g1 c1 w3 hown3 hgrow3 hat3 hlt3; have HO3 := hide hown3; have HB3 : Hid (Below w2.heap.size w2 w3) := (HB9.out.alloc HB9.out.size _).grown hgrow3 (by have := HB9.out.size; simp; omega) (fun k e => RB.owns_low HR9.out k e); clear hown3 hgrow3 hat3 hlt3)
      go_roundw
      case rel => exact ⟨j + 1, by omega, by go_num, by rw [HT.out, HV.out, rcells_snoc]; exact HO3, HB3⟩
      case measure => simp [intOf]; omega
    · have hlt' : ¬ (j : Int) < (n : Int) := by omega
      obtain rfl : j = n := by omega
      have HRe : Hid (wr.ownsRow w2.heap.size 86 3 (.slice oa j oc) j (rcells (xs.map s.raise))) := by
        have h := HR.out
        rw [List.take_of_length_le (by rw [HN.out]; omega)] at h
        exact h
      go_wp2
      go_ret
      exact ⟨_, rfl, owns_mono HRe.out (by omega), HB2.out.trans (HB.out.mono HB2.out.size)⟩
end Go.Proofs.Ytllpikijakilnaa
namespace Go.Proofs.Ytllpikijakilnaa
open Go.RowKit

def Sta.want (s : Sta) (x : Tri) : Bool := s.isOpen x.a && (decide (x.b = -1) || decide (x.b = (getAt s.prices ⟨0, 0⟩ x.a).n))

set_option maxRecDepth 100000 in
set_option maxHeartbeats 2000000 in
theorem wanted_gen (w : World) (s : Sta) (hs : StaOk w s) (p : Option Addr) (n c : Nat) (xs : List Tri) (hn : xs.length = n) (hnl : n ≤ 1099511627776) (hx : Cel w p 3 (xs.map tric)) :
    Calls Try.prog 78 #[.agg s.arr, .slice p n c] w fun e w' => ∃ v, e = .returned v ∧ w'.ownsRow w.heap.size 86 3 v (xs.filter s.want).length (rcells (xs.filter s.want)) ∧ Below w.heap.size w w' := by
  obtain ⟨i0, hi, hz0, hz1, hz2⟩ := info_parts set_info3
  obtain ⟨w2, hw2, hb2, hx2⟩ := box_one w s.arr 32
  have HS := hide (hs.below hb2)
  have HX := hide (hx.below hb2)
  have HN := hide hn
  have HW2 := hide hw2
  have HB2 := hide hb2
  have HX2 := hide hx2
  have hsz : w.heap.size < w2.heap.size := ac_lt hx2
  clear hw2 hb2 hx2 hs hx hn
  go_enter Try.func78, Try.ntmps78
  go_upto_region 1 with (fail)
  rw [HW2.out]
  go_wp2_with fail
  go_loopw [5, 12] (fun ov i wr => ∃ j : Nat, j ≤ n ∧ i = .int .i64 j ∧ Hid (wr.ownsRow w2.heap.size 86 3 ov ((xs.take j).filter s.want).length (rcells ((xs.take j).filter s.want))) ∧ Hid (Below w2.heap.size w2 wr)) (fun _ i _ => n - (intOf i).toNat)
  case atStart => exact ⟨0, Nat.zero_le _, rfl, World.ownsRow_nil _ _ _ _, Below.refl _ _⟩
  case round =>
    obtain ⟨j, hj, rfl, HR, HB⟩ := hrel
    obtain ⟨oa, oc, rfl⟩ := slice_form HR.out
    obtain ⟨ml, hmm⟩ : ∃ ml, ((xs.take j).filter s.want).length = ml := ⟨_, rfl⟩
    have HMm := hide hmm
    rw [hmm] at HR ⊢
    by_cases hlt : j < n
    · have hlt' : (j : Int) < (n : Int) := by omega
      have j0' : (0 : Int) ≤ (j : Int) := by omega
      obtain ⟨x, hx⟩ : ∃ x, xs[j]? = some x := ⟨_, List.getElem?_eq_getElem (by rw [HN.out]; exact hlt)⟩
      obtain ⟨b, o, rfl, hbl, hcl⟩ := (HX.out.below HB.out).get (i := j) (r := tric x) (by rw [List.getElem?_map, hx]; rfl)
      have HT := hide (show (xs.take (j + 1)).filter s.want = (xs.take j).filter s.want ++ (if s.want x then [x] else []) by rw [take_snoc hx, List.filter_append]; simp [List.filter_cons])
      have hml : ((xs.take j).filter s.want).length ≤ j := Nat.le_trans (List.length_filter_le _ _) (by rw [List.length_take]; omega)
      obtain ⟨xa, xb, xd⟩ := x
      have a0 := hcl 0 _ rfl
      have a1 := hcl 1 _ rfl
      have a2 := hcl 2 _ rfl
      rw [Nat.add_zero] at a0
      obtain ⟨w6, hw6, hb6, hx6⟩ := box_one wr #[.int .i64 xa, .int .i64 xb, .int .i64 xd] 86
      have HB6 := hide (HB.out.trans (hb6.mono HB.out.size))
      have HR6 := hide (RB.owns_kept' HR.out (fun g e => hb6.block g (RB.owns_lt HR.out g e)))
      have HNe : Hid ((Value.slice oa ml oc).ownBlock ≠ some wr.heap.size) := fun e => by have := RB.owns_lt HR.out _ e; omega
      obtain ⟨y0, y1, y2⟩ := ac3 hx6
      obtain ⟨c0, c1, c2, c3, c4, c5⟩ := ac6 ((HB6.out.block _ (ac_lt HX2.out)).trans HX2.out)
      have hs6 := HS.out.below HB6.out
      have HAp := hide (atPrice_gen w6 s.rp s.rn s.rc s.prices hs6.rn hs6.prices xa)
      have HV : Hid (s.want ⟨xa, xb, xd⟩ = (s.isOpen xa && (decide (xb = -1) || decide (xb = (getAt s.prices ⟨0, 0⟩ xa).n)))) := rfl
      have HIo := hide (fun (W : World) (hb : Below w2.heap.size w2 W) => isOpen_gen W s (HS.out.below hb) xa)
      rw [hmm] at hml
      clear hmm
      generalize s.isOpen xa = iso at HIo HV
      generalize getAt s.prices ⟨0, 0⟩ xa = q at HAp HV
      generalize hasAt s.prices xa = hq at HAp
      obtain ⟨q0, q1⟩ := q
      dsimp only [linc] at HAp HV
      have HW6 := hide hw6
      have HX6 := hide hx6
      clear hx hcl hw6 hb6 hx6 hs6
      go_upto_region 5 with (fail)
      rw [HW6.out]
      go_upto_region 6 with (go_at_call 61; refine HAp.out.mono ?_; rintro e w7 ⟨rfl, hb7⟩; have HB7 := hide hb7; clear hb7)
      obtain ⟨w8, hw8, hb8, hx8⟩ := box_one w7 #[.int .i64 q0, .int .i64 q1] 99
      have hb68 := HB7.out.trans (hb8.mono HB7.out.size)
      rw [show w7.alloc (.cells #[.int .i64 q0, .int .i64 q1] 99) = w8 from hw8]
      have HB8 := hide (HB6.out.trans (hb68.mono HB6.out.size))
      have HR8 := hide (RB.owns_kept' HR6.out (fun g e => hb68.block g (RB.owns_lt HR6.out g e)))
      obtain ⟨p0, p1⟩ := ac2 hx8
      have hx68 := (hb68.block _ (ac_lt HX6.out)).trans HX6.out
      obtain ⟨z0, z1, z2⟩ := ac3 hx68
      have ct := RB.bk_thaw hx68
      have HX68 := hide hx68
      have HX8 := hide hx8
      obtain ⟨c0, c1, c2, c3, c4, c5⟩ := ac6 ((HB8.out.block _ (ac_lt HX2.out)).trans HX2.out)
      clear hw8 hb8 hx8 hb68 hx68 HR HR6 y0 y1 y2 a0 a1 a2 ct HNe
      cases iso with
      | false =>
        have HVf : ¬ s.want ⟨xa, xb, xd⟩ = true := by rw [HV.out]; simp
        go_wp2_with (first | (go_at_call 33; refine (HIo.out w8 HB8.out).mono ?_; rintro e w9 ⟨rfl, hb9⟩; have HB9 := hide (HB8.out.trans (hb9.mono HB8.out.size)); have HR9 := hide (RB.owns_kept' HR8.out (fun g e => hb9.block g (RB.owns_lt HR8.out g e))); obtain ⟨u0, u1, u2⟩ := ac3 ((hb9.block _ (ac_lt HX68.out)).trans HX68.out); obtain ⟨v0, v1⟩ := ac2 ((hb9.block _ (ac_lt HX8.out)).trans HX8.out); clear hb9) | fail)
        go_roundw
        case rel => exact ⟨j + 1, by omega, by go_num, by rw [HT.out, if_neg HVf, List.append_nil, HMm.out]; exact HR9, HB9⟩
        case measure => simp [intOf]; omega
      | true =>
        by_cases b1 : xb = -1
        · have HVt : s.want ⟨xa, xb, xd⟩ = true := by rw [HV.out]; simp [b1]
          subst b1
          go_wp2_with (first | (at_builtin; refine wpList_append_lies _ rfl (.tmp 40) (.tmp 42) 38 rfl w2.heap.size 86 i0 (.agg #[.int .i64 0, .int .i64 0, .int .i64 0]) 3 24 Try.underlying38 hi hz0 hz1 hz2 rfl (by omega) _ _ _ rfl (HR9.out.alloc _) ⟨w9.heap.size, 0, none⟩ 1 1 [.int .i64 xa, .int .i64 (-1), .int .i64 xd] rfl rfl (three_new _ _ _ _ _) (by simp [Value.oneCell']) (by omega) (by unfold maxLen; omega) (by omega) (by have := HB9.out.size; simp; omega) _ rfl ?_; intro g1 c1 w3 hown3 hgrow3 hat3 hlt3; have HO3 := hide hown3; have HB3 : Hid (Below w2.heap.size w2 w3) := (HB9.out.alloc HB9.out.size _).grown hgrow3 (by have := HB9.out.size; simp; omega) (fun k e => RB.owns_low HR9.out k e); clear hown3 hgrow3 hat3 hlt3) | (go_at_call 33; refine (HIo.out w8 HB8.out).mono ?_; rintro e w9 ⟨rfl, hb9⟩; have HB9 := hide (HB8.out.trans (hb9.mono HB8.out.size)); have HR9 := hide (RB.owns_kept' HR8.out (fun g e => hb9.block g (RB.owns_lt HR8.out g e))); obtain ⟨u0, u1, u2⟩ := ac3 ((hb9.block _ (ac_lt HX68.out)).trans HX68.out); obtain ⟨v0, v1⟩ := ac2 ((hb9.block _ (ac_lt HX8.out)).trans HX8.out); clear hb9) | fail)
          go_roundw
          case rel => exact ⟨j + 1, by omega, by go_num, by rw [HT.out, if_pos HVt, List.length_append, HMm.out, rcells_snoc]; exact HO3, HB3⟩
          case measure => simp [intOf]; omega
        · by_cases b2 : xb = q1
          · have HVt : s.want ⟨xa, xb, xd⟩ = true := by rw [HV.out]; simp [b2]
            subst b2
            go_wp2_with (first | (at_builtin; refine wpList_append_lies _ rfl (.tmp 40) (.tmp 42) 38 rfl w2.heap.size 86 i0 (.agg #[.int .i64 0, .int .i64 0, .int .i64 0]) 3 24 Try.underlying38 hi hz0 hz1 hz2 rfl (by omega) _ _ _ rfl (HR9.out.alloc _) ⟨w9.heap.size, 0, none⟩ 1 1 [.int .i64 xa, .int .i64 xb, .int .i64 xd] rfl rfl (three_new _ _ _ _ _) (by simp [Value.oneCell']) (by omega) (by unfold maxLen; omega) (by omega) (by have := HB9.out.size; simp; omega) _ rfl ?_; intro g1 c1 w3 hown3 hgrow3 hat3 hlt3; have HO3 := hide hown3; have HB3 : Hid (Below w2.heap.size w2 w3) := (HB9.out.alloc HB9.out.size _).grown hgrow3 (by have := HB9.out.size; simp; omega) (fun k e => RB.owns_low HR9.out k e); clear hown3 hgrow3 hat3 hlt3) | (go_at_call 33; refine (HIo.out w8 HB8.out).mono ?_; rintro e w9 ⟨rfl, hb9⟩; have HB9 := hide (HB8.out.trans (hb9.mono HB8.out.size)); have HR9 := hide (RB.owns_kept' HR8.out (fun g e => hb9.block g (RB.owns_lt HR8.out g e))); obtain ⟨u0, u1, u2⟩ := ac3 ((hb9.block _ (ac_lt HX68.out)).trans HX68.out); obtain ⟨v0, v1⟩ := ac2 ((hb9.block _ (ac_lt HX8.out)).trans HX8.out); clear hb9) | fail)
            go_roundw
            case rel => exact ⟨j + 1, by omega, by go_num, by rw [HT.out, if_pos HVt, List.length_append, HMm.out, rcells_snoc]; exact HO3, HB3⟩
            case measure => simp [intOf]; omega
          · have HVf : ¬ s.want ⟨xa, xb, xd⟩ = true := by rw [HV.out]; simp [b1, b2]
            have b3 : (xb == -1 || xb == q1) = false := by simp [b1, b2]
            go_wp2_with (first | (go_at_call 33; refine (HIo.out w8 HB8.out).mono ?_; rintro e w9 ⟨rfl, hb9⟩; have HB9 := hide (HB8.out.trans (hb9.mono HB8.out.size)); have HR9 := hide (RB.owns_kept' HR8.out (fun g e => hb9.block g (RB.owns_lt HR8.out g e))); obtain ⟨u0, u1, u2⟩ := ac3 ((hb9.block _ (ac_lt HX68.out)).trans HX68.out); obtain ⟨v0, v1⟩ := ac2 ((hb9.block _ (ac_lt HX8.out)).trans HX8.out); clear hb9) | fail)
            go_roundw
            case rel => exact ⟨j + 1, by omega, by go_num, by rw [HT.out, if_neg HVf, List.append_nil, HMm.out]; exact HR9, HB9⟩
            case measure => simp [intOf]; omega
    · have hlt' : ¬ (j : Int) < (n : Int) := by omega
      obtain rfl : j = n := by omega
      have HRe : Hid (wr.ownsRow w2.heap.size 86 3 (.slice oa ml oc) (xs.filter s.want).length (rcells (xs.filter s.want))) := by
        have h := HR.out
        rw [← HMm.out, List.take_of_length_le (by rw [HN.out]; omega)] at h
        rw [← HMm.out, List.take_of_length_le (by rw [HN.out]; omega)]
        exact h
      go_wp2
      go_ret
      exact ⟨_, rfl, owns_mono HRe.out (by omega), HB2.out.trans (HB.out.mono HB2.out.size)⟩
end Go.Proofs.Ytllpikijakilnaa
namespace Go.Proofs.Ytllpikijakilnaa
open Go.RowKit

@[local go_sem high] theorem run_min3 {P : Program} (w : World) (ts : Array TypeId) (t : TypeId) (k k' k'' : IntKind) (x y z : Int) :
    (Builtin.min_ ts t #[.int k x, .int k' y, .int k'' z]).run P w = .ok (.int k (min (min x y) z)) w := by
  have e : ∀ x y : Int, (if y < x then y else x) = min x y := fun x y => by
    rw [Int.min_def]
    split <;> split <;> omega
  simp [Builtin.min_, Builtin.min2, e]

set_option maxRecDepth 100000 in
set_option maxHeartbeats 2000000 in
theorem grant_gen (w : World) (s : Sta) (hs : StaOk w s) (t a b n : Int) :
    Calls Try.prog 35 #[.agg s.arr, .int .i64 t, .agg #[.int .i64 a, .int .i64 b, .int .i64 n]] w fun e w' => e = .returned (.int .i64 (min n (min (s.free a b) (wrap64 (18014398509481984 - s.held t a b))))) ∧ Below w.heap.size w w' := by
  obtain ⟨w2, hw2, hb2, hx2, hk2⟩ := box_two w s.arr 32 42 #[.int .i64 a, .int .i64 b, .int .i64 n]
  obtain ⟨c0, c1, c2, c3, c4, c5⟩ := ac6 hx2
  obtain ⟨k0, k1, k2⟩ := ac3 hk2
  have HKo := hide (kindOf_any w2 a b n)
  have HFr := hide (fun (W : World) (hb : Below w.heap.size w W) => free_gen W s (hs.below hb) a b)
  have HRo := hide (fun (W : World) (hb : Below w.heap.size w W) => heldRoom_gen W s (hs.below hb) t a b)
  have HW2 := hide hw2
  have HB2 := hide hb2
  have HX2 := hide hx2
  have HK2 := hide hk2
  generalize s.free a b = qf at HFr ⊢
  generalize wrap64 (18014398509481984 - s.held t a b) = qr at HRo ⊢
  clear hw2 hb2 hx2 hk2 hs
  go_enter Try.func35, Try.ntmps35
  go_upto_region 1 with (fail)
  rw [HW2.out]
  go_upto_region 2 with (go_at_call 39; refine HKo.out.mono ?_; rintro e w3 ⟨rfl, hb3⟩; have HB3 := hide hb3; clear hb3)
  obtain ⟨w4, hw4, hb4, hx4⟩ := box_one w3 #[.int .i64 a, .int .i64 b] 71
  have hb24 := HB3.out.trans (hb4.mono HB3.out.size)
  rw [show w3.alloc (.cells #[.int .i64 a, .int .i64 b] 71) = w4 from hw4]
  have HX4 := hide ((hb24.block _ (ac_lt HX2.out)).trans HX2.out)
  have HK4 := hide ((hb24.block _ (ac_lt HK2.out)).trans HK2.out)
  have HQ4 := hide hx4
  have HB4 := hide (HB2.out.trans (hb24.mono HB2.out.size))
  clear c0 c1 c2 c3 c4 c5 k0 k1 k2 hw4 hb4 hx4 hb24
  obtain ⟨c0, c1, c2, c3, c4, c5⟩ := ac6 HX4.out
  obtain ⟨k0, k1, k2⟩ := ac3 HK4.out
  obtain ⟨l0, l1⟩ := ac2 HQ4.out
  go_region_held3 (fun w' => w'.cell? ⟨w.heap.size, 0, none⟩ = some (.int .u64 s.pos) ∧ w'.cell? ⟨w.heap.size, 1, none⟩ = some (.slice s.pp s.pn s.pc) ∧ w'.cell? ⟨w.heap.size, 2, none⟩ = some (.slice s.rp s.rn s.rc) ∧ w'.cell? ⟨w.heap.size, 3, none⟩ = some (.slice s.lp s.ln s.lc) ∧ w'.cell? ⟨w.heap.size, 4, none⟩ = some (.slice s.gp s.gn s.gc) ∧ w'.cell? ⟨w.heap.size, 5, none⟩ = some (.slice s.op s.on s.oc) ∧ w'.cell? ⟨w.heap.size + 1, 0, none⟩ = some (.int .i64 a) ∧ w'.cell? ⟨w.heap.size + 1, 1, none⟩ = some (.int .i64 b) ∧ w'.cell? ⟨w.heap.size + 1, 2, none⟩ = some (.int .i64 n) ∧ w'.cell? ⟨w3.heap.size, 0, none⟩ = some (.int .i64 a) ∧ w'.cell? ⟨w3.heap.size, 1, none⟩ = some (.int .i64 b)) (go_keep) (first | (go_at_call 38; refine (HRo.out _ HB5.out).mono ?_; rintro e w6 ⟨rfl, hb6⟩; obtain ⟨d0, d1, d2, d3, d4, d5⟩ := ac6 ((hb6.block _ (ac_lt HX5.out)).trans HX5.out); obtain ⟨e0, e1, e2⟩ := ac3 ((hb6.block _ (ac_lt HK5.out)).trans HK5.out); obtain ⟨f0, f1⟩ := ac2 ((hb6.block _ (ac_lt HQ5.out)).trans HQ5.out); have HB6 : Hid (Below w.heap.size w w6) := HB5.out.trans (hb6.mono HB5.out.size); clear hb6) | (go_at_call 29; refine (HFr.out _ (by first | exact HB4.out | exact HB4.out.drew)).mono ?_; rintro e w5 ⟨rfl, hb5'⟩; have hb5 : Below w4.heap.size w4 w5 := ⟨hb5'.os, hb5'.tape, hb5'.output, hb5'.size, hb5'.block⟩; clear hb5'; have HX5 := hide ((hb5.block _ (ac_lt HX4.out)).trans HX4.out); have HK5 := hide ((hb5.block _ (ac_lt HK4.out)).trans HK4.out); have HQ5 := hide ((hb5.block _ (ac_lt HQ4.out)).trans HQ4.out); obtain ⟨d0, d1, d2, d3, d4, d5⟩ := ac6 HX5.out; obtain ⟨e0, e1, e2⟩ := ac3 HK5.out; obtain ⟨f0, f1⟩ := ac2 HQ5.out; have HB5 : Hid (Below w.heap.size w w5) := HB4.out.trans (hb5.mono HB4.out.size); clear hb5) | fail)
  all_goals go_wp2
  all_goals go_ret
  all_goals first | exact ⟨rfl, HB6.out⟩ | exact ⟨rfl, HB6.out.drew⟩
end Go.Proofs.Ytllpikijakilnaa
