import Derived.Test.YtfcakfedlcajaaaTwC
import Derived.Lib.QuietBelow
import Derived.BigCall
namespace Go.Proofs.Ytfcakfedlcajaaa
open Go.RowKit Go.Sort
open Fl

theorem and_word {x y : Nat} (hx : Wf x) (hy : Wf y) (h1 : pM x = 0) (h2 : pM y = 0) : bits .and .u64 (x : Int) (y : Int) = ((wd (ng x && ng y) 0 : Nat) : Int) := by
  rw [bits_and_u64_nat x y hx hy]
  congr 1
  rw [← wf_wd hx, ← wf_wd hy, pM_zero h1, pM_zero h2, ng_wd _ (by omega), ng_wd _ (by omega)]
  cases ng x <;> cases ng y <;> simp [wd]

theorem wW_low {m : Nat} (h : m < 18446744073709551616) : wW m = .agg #[.int .u64 0, .int .u64 (m : Int)] := wW_of (H := 0) (by omega) h

theorem lt_MM {n : Nat} (h : n < 2 ^ 113) : n < MM := by unfold MM; omega
theorem lt_MM2 {n m : Nat} (h : n < 2 ^ 113) (h2 : m < 2 ^ 113) : n + m < MM := by unfold MM; omega

theorem addN_zero {a b : Nat} (fa : Fnt a) (fb : Fnt b) (h1 : pM a = 0) (h2 : pM b = 0) : addN a b = wd (ng a && ng b) 0 := by unfold addN; rw [add_zero fa fb h1 h2]; rfl
theorem addN_left {a b : Nat} (fa : Fnt a) (fb : Fnt b) (hw : Wf b) (h1 : pM a = 0) (h2 : pM b ≠ 0) : addN a b = b := by unfold addN; rw [add_left fa fb hw h1 h2]; rfl
theorem addN_right {a b : Nat} (fa : Fnt a) (fb : Fnt b) (hw : Wf a) (h1 : pM a ≠ 0) (h2 : pM b = 0) : addN a b = a := by unfold addN; rw [add_right fa fb hw h1 h2]; rfl
theorem addN_main {a b k : Nat} (fa : Fnt a) (fb : Fnt b) (hk : pE a - pE b = (k : Int)) (h1 : pM a ≠ 0) (he : pE a ≤ 700) : addN a b = addW a b k := by unfold addN; rw [add_main fa fb hk h1 he]; rfl

set_option maxRecDepth 100000 in
set_option maxHeartbeats 1000000 in
/-- One of them is nought. -/
theorem Add_nil (w : World) (a b : Nat) (wa : Wf a) (wb : Wf b) (fa : Fnt a) (fb : Fnt b) (h0 : pM a = 0 ∨ pM b = 0) :
    Calls Try.prog 22 #[.int .u64 (a : Int), .int .u64 (b : Int)] w fun r w' => r = .returned (.int .u64 ((addN a b : Nat) : Int)) ∧ Below w.heap.size w w' := by
  have HPa := hide (fun w => parts_any w a wa)
  have HPb := hide (fun w => parts_any w b wb)
  unfold ptv at HPa HPb
  by_cases z1 : pM a = 0
  · by_cases z2 : pM b = 0
    · rw [addN_zero fa fb z1 z2, ← and_word wa wb z1 z2]
      rw [z1] at HPa
      rw [z2] at HPb
      go_enter Try.func22, Try.ntmps22
      go_wp2_with (first
        | (go_at_call 31; refine (HPa.out _).mono ?_; rintro r w1 ⟨rfl, h⟩; obtain rfl := h.symm; clear h HPa) | (go_at_call 31; refine (HPb.out _).mono ?_; rintro r w1 ⟨rfl, h⟩; obtain rfl := h.symm; clear h))
      go_ret
      exact ⟨rfl, Below.refl _ _⟩
    · rw [addN_left fa fb wb z1 z2]
      rw [z1] at HPa
      have z2' : (((pM b : Nat) : Int) == 0) = false := by simp; exact z2
      generalize pM b = mb at *
      go_enter Try.func22, Try.ntmps22
      go_wp2_with (first
        | (go_at_call 31; refine (HPa.out _).mono ?_; rintro r w1 ⟨rfl, h⟩; obtain rfl := h.symm; clear h HPa) | (go_at_call 31; refine (HPb.out _).mono ?_; rintro r w1 ⟨rfl, h⟩; obtain rfl := h.symm; clear h))
      go_ret
      exact ⟨rfl, Below.refl _ _⟩
  · have z2 : pM b = 0 := h0.resolve_left z1
    rw [addN_right fa fb wa z1 z2]
    rw [z2] at HPb
    have z1' : (((pM a : Nat) : Int) == 0) = false := by simp; exact z1
    generalize pM a = ma at *
    go_enter Try.func22, Try.ntmps22
    go_wp2_with (first
      | (go_at_call 31; refine (HPa.out _).mono ?_; rintro r w1 ⟨rfl, h⟩; obtain rfl := h.symm; clear h HPa) | (go_at_call 31; refine (HPb.out _).mono ?_; rintro r w1 ⟨rfl, h⟩; obtain rfl := h.symm; clear h))
    go_ret
    exact ⟨rfl, Below.refl _ _⟩

set_option maxRecDepth 100000 in
set_option maxHeartbeats 1000000 in
theorem Add_ge (w : World) (a b : Nat) (wa : Wf a) (wb : Wf b) (fa : Fnt a) (fb : Fnt b) (he : pE a ≤ 700) (hge : pE b ≤ pE a) (z1 : pM a ≠ 0) (z2 : pM b ≠ 0) :
    Calls Try.prog 22 #[.int .u64 (a : Int), .int .u64 (b : Int)] w fun r w' => r = .returned (.int .u64 ((addN a b : Nat) : Int)) ∧ Below w.heap.size w w' := by
  have HPa := hide (fun w => parts_any w a wa)
  have HPb := hide (fun w => parts_any w b wb)
  unfold ptv at HPa HPb
  obtain ⟨k, hk⟩ : ∃ k : Nat, pE a - pE b = (k : Int) := ⟨(pE a - pE b).toNat, by omega⟩
  rw [addN_main fa fb hk z1 he]
  have l1 := pM_lt a
  have l2 := pM_lt b
  have ge1 := pE_ge a
  have ge2 := pE_ge b
  have hk2 : k ≤ 2000 := by omega
  have HW : Hid (addW a b k = if ng a = ng b then wd (ng a) (rR (pM a * 2 ^ 60 + pM b * 2 ^ 60 / 2 ^ k) (pE a - 60) (decide (pM b * 2 ^ 60 % 2 ^ k ≠ 0))) else if pM a * 2 ^ 60 = pM b * 2 ^ 60 / 2 ^ k ∧ decide (pM b * 2 ^ 60 % 2 ^ k ≠ 0) = false then 0 else if pM a * 2 ^ 60 < pM b * 2 ^ 60 / 2 ^ k then wd (ng b) (rR (pM b * 2 ^ 60 / 2 ^ k - pM a * 2 ^ 60) (pE a - 60) (decide (pM b * 2 ^ 60 % 2 ^ k ≠ 0))) else wd (ng a) (rR (pM a * 2 ^ 60 - pM b * 2 ^ 60 / 2 ^ k - (decide (pM b * 2 ^ 60 % 2 ^ k ≠ 0)).toNat) (pE a - 60) (decide (pM b * 2 ^ 60 % 2 ^ k ≠ 0)))) := hide rfl
  have hxl : pM a * 2 ^ 60 < 2 ^ 113 := mul60 l1
  have hyl : pM b * 2 ^ 60 < 2 ^ 113 := mul60 l2
  have hdl : pM b * 2 ^ 60 / 2 ^ k ≤ pM b * 2 ^ 60 := Nat.div_le_self _ _
  have hdm : pM b * 2 ^ 60 / 2 ^ k * 2 ^ k + pM b * 2 ^ 60 % 2 ^ k = pM b * 2 ^ 60 := by rw [Nat.mul_comm]; exact Nat.div_add_mod _ _
  have hkr : pM b * 2 ^ 60 % 2 ^ k = 0 → k < 128 := fun h => rest_k hyl (fun h => by rcases Nat.mul_eq_zero.1 h with h | h; exact z2 h; exact absurd h (by omega)) h
  have hxy : pM b * 2 ^ 60 % 2 ^ k ≠ 0 → pM b * 2 ^ 60 / 2 ^ k < pM a * 2 ^ 60 := rest_y hk
  have HSx : Hid (∀ w : World, Calls Try.prog 32 #[.agg #[.int .u64 0, .int .u64 ((pM a : Nat) : Int)], .int .i64 60] w fun e w' => e = .returned (.agg #[.int .u64 ((hi (pM a * 2 ^ 60) : Nat) : Int), .int .u64 ((lo (pM a * 2 ^ 60) : Nat) : Int)]) ∧ Below w.heap.size w w') := hide (fun w => by
    have := shl_any w (pM a) 60 (lt_MM (Nat.lt_trans (pM_lt a) (by omega))) (by omega)
    rw [wW_low (Nat.lt_trans (pM_lt a) (by omega)), Nat.mod_eq_of_lt (lt_MM hxl)] at this
    exact this)
  have HSy : Hid (∀ w : World, Calls Try.prog 32 #[.agg #[.int .u64 0, .int .u64 ((pM b : Nat) : Int)], .int .i64 60] w fun e w' => e = .returned (.agg #[.int .u64 ((hi (pM b * 2 ^ 60) : Nat) : Int), .int .u64 ((lo (pM b * 2 ^ 60) : Nat) : Int)]) ∧ Below w.heap.size w w') := hide (fun w => by
    have := shl_any w (pM b) 60 (lt_MM (Nat.lt_trans (pM_lt b) (by omega))) (by omega)
    rw [wW_low (Nat.lt_trans (pM_lt b) (by omega)), Nat.mod_eq_of_lt (lt_MM hyl)] at this
    exact this)
  have z1' : (((pM a : Nat) : Int) == 0) = false := by simp; exact z1
  have z2' : (((pM b : Nat) : Int) == 0) = false := by simp; exact z2
  obtain ⟨x, hx⟩ : ∃ x, pM a * 2 ^ 60 = x := ⟨_, rfl⟩
  obtain ⟨y0, hy0⟩ : ∃ y, pM b * 2 ^ 60 = y := ⟨_, rfl⟩
  rw [hx] at hxl hxy HSx HW
  rw [hy0] at hyl hdl hdm hkr hxy HSy HW
  obtain ⟨y, hy⟩ : ∃ y, y0 / 2 ^ k = y := ⟨_, rfl⟩
  obtain ⟨r, hr⟩ : ∃ r, y0 % 2 ^ k = r := ⟨_, rfl⟩
  have HRy : Hid (∀ w : World, Calls Try.prog 33 #[.agg #[.int .u64 ((hi (y0) : Nat) : Int), .int .u64 ((lo (y0) : Nat) : Int)], .int .i64 (k : Int)] w fun e w' => e = .returned (.agg #[.int .u64 ((hi (y) : Nat) : Int), .int .u64 ((lo (y) : Nat) : Int)]) ∧ Below w.heap.size w w') := hide (fun w => by
    have := shr_any w y0 k (lt_MM hyl) (by omega)
    rw [hy] at this
    exact this)
  rw [hy, hr] at hdm hxy HW
  rw [hy] at hdl
  rw [hr] at hkr
  have HSl : Hid (∀ w : World, Calls Try.prog 32 #[.agg #[.int .u64 ((hi (y) : Nat) : Int), .int .u64 ((lo (y) : Nat) : Int)], .int .i64 (k : Int)] w fun e w' => e = .returned (.agg #[.int .u64 ((hi (y * 2 ^ k) : Nat) : Int), .int .u64 ((lo (y * 2 ^ k) : Nat) : Int)]) ∧ Below w.heap.size w w') := hide (fun w => by
    have := shl_any w y k (lt_MM (Nat.lt_of_le_of_lt hdl hyl)) (by omega)
    rw [Nat.mod_eq_of_lt (lt_MM (Nat.lt_of_le_of_lt (by rw [← hdm]; exact Nat.le_add_right _ _) hyl))] at this
    exact this)
  obtain ⟨mo, hmo⟩ : ∃ mo, decide (r ≠ 0) = mo := ⟨_, rfl⟩
  rw [hmo] at HW
  have HMo := hide hmo
  clear hmo
  have HK := hide hk
  have hea : pE a = pE b + (k : Int) := by omega
  have HEa := hide hea
  have l3 : ¬ pE a < pE b := by omega
  have hd : pE a - pE b = (k : Int) := hk
  clear hx hy0 hy hr l1 l2 z1 z2 hk hea
  generalize pM a = ma at *
  generalize pM b = mb at *
  generalize hea : pE a = ea at *
  generalize heb : pE b = eb at *
  have HQ := hide hea
  clear hea heb
  generalize ng a = na at *
  generalize ng b = nb at *
  go_enter Try.func22, Try.ntmps22
  go_upto_region 14 with (first
    | (go_at_call 31; refine (HPa.out _).mono ?_; rintro r w1 ⟨rfl, h⟩; obtain rfl := h.symm; clear h HPa) | (go_at_call 31; refine (HPb.out _).mono ?_; rintro r w1 ⟨rfl, h⟩; obtain rfl := h.symm; clear h)
    | (go_at_call 32; refine (HSx.out _).mono ?_; rintro r w2 ⟨rfl, hb⟩; have HX3 : Hid (Bw (w2.alloc (.cells #[.int .u64 ((hi x : Nat) : Int), .int .u64 ((lo x : Nat) : Int)] 77)) w2.heap.size x) := hide (heap_alloc_new _ _); have HB3 := hide (below_alloc hb (.cells #[.int .u64 ((hi x : Nat) : Int), .int .u64 ((lo x : Nat) : Int)] 77)); have hsz2 := hb.size; clear hb HSx)
    | (go_at_call 32; refine (HSy.out _).mono ?_; rintro r w4 ⟨rfl, hb⟩; have HX5 := hide ((HX3.out.kept hb).alloc (.cells #[.int .u64 ((hi y0 : Nat) : Int), .int .u64 ((lo y0 : Nat) : Int)] 77)); have HY5 : Hid (Bw (w4.alloc (.cells #[.int .u64 ((hi y0 : Nat) : Int), .int .u64 ((lo y0 : Nat) : Int)] 77)) w4.heap.size y0) := hide (heap_alloc_new _ _); have HB5 := hide (below_alloc (below_go HB3.out hb) (.cells #[.int .u64 ((hi y0 : Nat) : Int), .int .u64 ((lo y0 : Nat) : Int)] 77)); have hlt5 := (HX3.out.kept hb).lt; clear hb HSy))
  have y0c := HY5.out.c0
  have y1c := HY5.out.c1
  have hkr' := hide hkr
  have hdm' := hide hdm
  have hxy' := hide hxy
  have HEx := hide (@wide_ext (y * 2 ^ k) y0)
  have kc0 := cell_regrown y0c
  have kc1 := cell_regrown y1c
  have K1 : Hid (∀ d os, Calls Try.prog 33 #[.agg #[.int .u64 ((hi (y0) : Nat) : Int), .int .u64 ((lo (y0) : Nat) : Int)], .int .i64 (k : Int)] (grow (redrawn (w4.alloc (.cells #[.int .u64 ((hi y0 : Nat) : Int), .int .u64 ((lo y0 : Nat) : Int)] 77)) d) os) fun e w'' => e = .returned (.agg #[.int .u64 ((hi (y) : Nat) : Int), .int .u64 ((lo (y) : Nat) : Int)]) ∧ ∃ p : Regrown, w'' = grow (redrawn (w4.alloc (.cells #[.int .u64 ((hi y0 : Nat) : Int), .int .u64 ((lo y0 : Nat) : Int)] 77)) p.d) p.os) := hide (fun d os => Calls.regrown_of (HRy.out _))
  have K2 : Hid (∀ d os, Calls Try.prog 32 #[.agg #[.int .u64 ((hi (y) : Nat) : Int), .int .u64 ((lo (y) : Nat) : Int)], .int .i64 (k : Int)] (grow (redrawn (w4.alloc (.cells #[.int .u64 ((hi y0 : Nat) : Int), .int .u64 ((lo y0 : Nat) : Int)] 77)) d) os) fun e w'' => e = .returned (.agg #[.int .u64 ((hi (y * 2 ^ k) : Nat) : Int), .int .u64 ((lo (y * 2 ^ k) : Nat) : Int)]) ∧ ∃ p : Regrown, w'' = grow (redrawn (w4.alloc (.cells #[.int .u64 ((hi y0 : Nat) : Int), .int .u64 ((lo y0 : Nat) : Int)] 77)) p.d) p.os) := hide (fun d os => Calls.regrown_of (HSl.out _))
  clear hkr hdm hxy HSl
  generalize hv : y * 2 ^ k = v3 at *
  clear hv
  go_cut [14] (fun v wx => v = .bool mo ∧ Hid (Bw wx w2.heap.size x) ∧ Hid (Bw wx w4.heap.size y0) ∧ Hid (Below w.heap.size w wx))
  case first =>
    by_cases hr0 : r = 0
    · have hk128 := hkr'.out hr0
      have hv3 : v3 = y0 := by have := hdm'.out; omega
      have hk1 : ¬ (128 : Int) ≤ (k : Int) := by omega
      have hk1' : decide ((128 : Int) ≤ (k : Int)) = false := decide_eq_false hk1
      subst hv3
      have hdr : mo = false := by rw [← HMo.out]; simp [hr0]
      have HDR := hide hdr
      clear hdr hr0
      refine wp_region_quiet_below (by kernel_rfl) (by kernel_rfl) ?_
      repeat (go_big_quiet_step (first | (go_at_call 32; exact K2.out _ _) | (go_at_call 33; exact K1.out _ _)))
      refine wpQuiet_nil ?_
      intro _ hw'
      obtain ⟨⟨dq, osq⟩, hw''⟩ := hw'
      subst hw''
      all_goals go_wp2
      all_goals go_meet
      all_goals exact ⟨by rw [HDR.out], hide (HX5.out.kept (below_regrown _ _ _)), hide (HY5.out.kept (below_regrown _ _ _)), hide (below_go HB5.out (below_regrown _ _ _))⟩
    · have hdr : mo = true := by rw [← HMo.out]; exact decide_eq_true hr0
      have HDR := hide hdr
      have hne : ¬ v3 = y0 := by have := hdm'.out; omega
      by_cases hh : hi v3 = hi y0
      · have hl : ¬ lo v3 = lo y0 := fun h => hne (HEx.out hh h)
        have b2 : (((lo v3 : Nat) : Int) == ((lo y0 : Nat) : Int)) = false := beq_eq_false_iff_ne.2 (by omega)
        rw [hh] at K2
        clear hdr hr0 hne hh hl
        refine wp_region_quiet_below (by kernel_rfl) (by kernel_rfl) ?_
        repeat (go_big_quiet_step (first | (go_at_call 32; exact K2.out _ _) | (go_at_call 33; exact K1.out _ _)))
        refine wpQuiet_nil ?_
        intro _ hw'
        obtain ⟨⟨dq, osq⟩, hw''⟩ := hw'
        subst hw''
        all_goals go_wp2
        all_goals go_meet
        all_goals exact ⟨by rw [HDR.out], hide (HX5.out.kept (below_regrown _ _ _)), hide (HY5.out.kept (below_regrown _ _ _)), hide (below_go HB5.out (below_regrown _ _ _))⟩
      · have b1 : (((hi v3 : Nat) : Int) == ((hi y0 : Nat) : Int)) = false := beq_eq_false_iff_ne.2 (by omega)
        clear hdr hr0 hne hh
        refine wp_region_quiet_below (by kernel_rfl) (by kernel_rfl) ?_
        repeat (go_big_quiet_step (first | (go_at_call 32; exact K2.out _ _) | (go_at_call 33; exact K1.out _ _)))
        refine wpQuiet_nil ?_
        intro _ hw'
        obtain ⟨⟨dq, osq⟩, hw''⟩ := hw'
        subst hw''
        all_goals go_wp2
        all_goals go_meet
        all_goals exact ⟨by rw [HDR.out], hide (HX5.out.kept (below_regrown _ _ _)), hide (HY5.out.kept (below_regrown _ _ _)), hide (below_go HB5.out (below_regrown _ _ _))⟩
  case rest =>
    obtain ⟨rfl, HX6, HY6, HB6⟩ := hcut
    have hw4 : Hid (w.heap.size < w4.heap.size) := hide (by omega)
    have hne : Hid (w2.heap.size ≠ w4.heap.size) := hide (by omega)
    generalize w2.heap.size = bx at *
    generalize w4.heap.size = bY at *
    have y0c := HY6.out.c0
    have y1c := HY6.out.c1
    have yf := HY6.out.thaw
    clear HX5 HY5 HB5 HX3 HB3 HPb K1 K2 kc0 kc1 hkr' hdm' HEx
    go_upto_region 16 with (first
      | (go_at_call 33; refine (HRy.out _).mono ?_; rintro r u1 ⟨rfl, hb⟩; clear y0c y1c yf; have HXu1 := hide (HX6.out.kept hb); have HYu1 := hide (HY6.out.kept hb); have HBu1 := hide (below_go HB6.out hb); obtain ⟨y0c, y1c⟩ := cells2 HYu1.out; have yf := HYu1.out.thaw; clear hb))
    have HX7 := hide (HXu1.out.other hne.out (.int .u64 ((hi y : Nat) : Int)) (.int .u64 ((lo y : Nat) : Int)))
    have HY7 := hide (HYu1.out.set y)
    have HB7 := hide (below_set2 HBu1.out (Nat.le_of_lt hw4.out) (.int .u64 ((hi y : Nat) : Int)) (.int .u64 ((lo y : Nat) : Int)))
    clear HXu1 HYu1 HBu1 y0c y1c yf HX6 HY6 HB6 HRy
    generalize ((u1.setCell ⟨bY, 0, none⟩ (.int .u64 ((hi y : Nat) : Int))).setCell ⟨bY, 1, none⟩ (.int .u64 ((lo y : Nat) : Int))) = u2 at *
    have x0 := HX7.out.c0
    have x1 := HX7.out.c1
    have y0c := HY7.out.c0
    have y1c := HY7.out.c1
    have hyl2 : y < 2 ^ 113 := Nat.lt_of_le_of_lt hdl hyl
    have HXY : Hid (mo = true → y < x) := hide (fun h => hxy'.out (of_decide_eq_true (HMo.out.trans h)))
    clear hxy' HMo
    by_cases hs : na = nb
    · subst hs
      have HFin : Hid (addW a b k = wd na (rR (x + y) (ea - 60) mo)) := hide (by rw [HW.out, if_pos rfl])
      have HAd : Hid (∀ w : World, Calls Try.prog 34 #[.agg #[.int .u64 ((hi (x) : Nat) : Int), .int .u64 ((lo (x) : Nat) : Int)], .agg #[.int .u64 ((hi (y) : Nat) : Int), .int .u64 ((lo (y) : Nat) : Int)]] w fun e w' => e = .returned (.agg #[.int .u64 ((hi (x + y) : Nat) : Int), .int .u64 ((lo (x + y) : Nat) : Int)]) ∧ Below w.heap.size w w') := hide (fun w => by
        have := add_any w x y (lt_MM hxl) (lt_MM hyl2)
        rw [Nat.mod_eq_of_lt (lt_MM2 hxl hyl2)] at this
        exact this)
      have HRd : Hid (∀ w : World, Calls Try.prog 30 #[.bool na, .agg #[.int .u64 ((hi (x + y) : Nat) : Int), .int .u64 ((lo (x + y) : Nat) : Int)], .int .i64 (ea - 60), .bool mo] w fun r w' => r = .returned (.int .u64 ((wd na (rR (x + y) (ea - 60) mo) : Nat) : Int)) ∧ Below w.heap.size w w') := hide (fun w => round_any w na (x + y) (ea - 60) mo (lt_MM2 hxl hyl2) (by omega) (by omega))
      generalize x + y = sxy at *
      go_wp2_with (first
        | (go_at_call 34; refine (HAd.out _).mono ?_; rintro r u3 ⟨rfl, hb⟩; have HB8 := hide (below_go HB7.out hb); clear hb)
        | (go_at_call 30; refine (HRd.out _).mono ?_; rintro r u4 ⟨rfl, hb⟩; have HB9 := hide (below_go HB8.out hb); clear hb))
      go_ret
      exact ⟨by rw [HFin.out]; rfl, HB9.out⟩
    · have hs' : (na == nb) = false := beq_eq_false_iff_ne.2 hs
      have HW2 := HW.out
      rw [if_neg hs] at HW2
      clear HW hs
      have HLs : Hid (∀ w : World, Calls Try.prog 35 #[.agg #[.int .u64 ((hi (x) : Nat) : Int), .int .u64 ((lo (x) : Nat) : Int)], .agg #[.int .u64 ((hi (y) : Nat) : Int), .int .u64 ((lo (y) : Nat) : Int)]] w fun e w' => e = .returned (.bool (decide (x < y))) ∧ Below w.heap.size w w') := hide (fun w => less_any w x y)
      by_cases c1 : x = y
      · have hm : mo = false := by
          cases hmo : mo
          · rfl
          · have := HXY.out hmo; omega
        subst hm
        subst c1
        rw [if_pos ⟨rfl, rfl⟩] at HW2
        have HFin := hide HW2
        clear HW2
        go_wp2
        go_ret
        exact ⟨by rw [HFin.out]; rfl, HB7.out⟩
      · rw [if_neg (fun h => c1 h.1)] at HW2
        have hcmp : ((((hi x : Nat) : Int) == ((hi y : Nat) : Int)) = false) ∨ (((((hi x : Nat) : Int) == ((hi y : Nat) : Int)) = true) ∧ ((((lo x : Nat) : Int) == ((lo y : Nat) : Int)) = false)) := by
          by_cases hh : hi x = hi y
          · exact Or.inr ⟨by simp [hh], beq_eq_false_iff_ne.2 (fun h => c1 (wide_ext hh (by omega)))⟩
          · exact Or.inl (beq_eq_false_iff_ne.2 (by omega))
        by_cases c2 : x < y
        · have hm : mo = false := by
            cases hmo : mo
            · rfl
            · have := HXY.out hmo; omega
          subst hm
          rw [if_pos c2] at HW2
          rw [decide_eq_true c2] at HLs
          have HFin := hide HW2
          have HSb : Hid (∀ w : World, Calls Try.prog 36 #[.agg #[.int .u64 ((hi (y) : Nat) : Int), .int .u64 ((lo (y) : Nat) : Int)], .agg #[.int .u64 ((hi (x) : Nat) : Int), .int .u64 ((lo (x) : Nat) : Int)]] w fun e w' => e = .returned (.agg #[.int .u64 ((hi (y - x) : Nat) : Int), .int .u64 ((lo (y - x) : Nat) : Int)]) ∧ Below w.heap.size w w') := hide (fun w => sub_any w y x (lt_MM hyl2) (Nat.le_of_lt c2))
          have HRd : Hid (∀ w : World, Calls Try.prog 30 #[.bool nb, .agg #[.int .u64 ((hi (y - x) : Nat) : Int), .int .u64 ((lo (y - x) : Nat) : Int)], .int .i64 (ea - 60), .bool false] w fun r w' => r = .returned (.int .u64 ((wd nb (rR (y - x) (ea - 60) false) : Nat) : Int)) ∧ Below w.heap.size w w') := hide (fun w => round_any w nb (y - x) (ea - 60) false (lt_MM (Nat.lt_of_le_of_lt (Nat.sub_le _ _) hyl2)) (by omega) (by omega))
          clear HW2 c1 c2
          generalize y - x = dd at *
          rcases hcmp with b1 | ⟨b1, b2⟩
          all_goals go_wp2_with (first
            | (go_at_call 35; refine (HLs.out _).mono ?_; rintro r u3 ⟨rfl, hb⟩; have HB8 := hide (below_go HB7.out hb); have HX8 := hide (HX7.out.kept hb); have HY8 := hide (HY7.out.kept hb); obtain ⟨p0, p1⟩ := cells2 HX8.out; obtain ⟨p2, p3⟩ := cells2 HY8.out; clear hb)
            | (go_at_call 36; refine (HSb.out _).mono ?_; rintro r u4 ⟨rfl, hb⟩; have HB9 := hide (below_go HB8.out hb); clear hb)
            | (go_at_call 30; refine (HRd.out _).mono ?_; rintro r u9 ⟨rfl, hb⟩; have HB10 := hide (below_go HB9.out hb); clear hb))
          all_goals go_ret
          all_goals exact ⟨by rw [HFin.out]; rfl, HB10.out⟩
        · rw [if_neg c2] at HW2
          rw [decide_eq_false c2] at HLs
          have HFin := hide HW2
          have HSb : Hid (∀ w : World, Calls Try.prog 36 #[.agg #[.int .u64 ((hi (x) : Nat) : Int), .int .u64 ((lo (x) : Nat) : Int)], .agg #[.int .u64 ((hi (y) : Nat) : Int), .int .u64 ((lo (y) : Nat) : Int)]] w fun e w' => e = .returned (.agg #[.int .u64 ((hi (x - y) : Nat) : Int), .int .u64 ((lo (x - y) : Nat) : Int)]) ∧ Below w.heap.size w w') := hide (fun w => sub_any w x y (lt_MM hxl) (by omega))
          have HS1 : Hid (∀ w : World, Calls Try.prog 36 #[.agg #[.int .u64 ((hi (x - y) : Nat) : Int), .int .u64 ((lo (x - y) : Nat) : Int)], .agg #[.int .u64 0, .int .u64 1]] w fun e w' => e = .returned (.agg #[.int .u64 ((hi (x - y - 1) : Nat) : Int), .int .u64 ((lo (x - y - 1) : Nat) : Int)]) ∧ Below w.heap.size w w') := hide (fun w => sub_any w (x - y) 1 (lt_MM (Nat.lt_of_le_of_lt (Nat.sub_le _ _) hxl)) (by omega))
          have HR : Hid (∀ (w : World) (W : Nat) (mo : Bool), W ≤ x → Calls Try.prog 30 #[.bool na, .agg #[.int .u64 ((hi W : Nat) : Int), .int .u64 ((lo W : Nat) : Int)], .int .i64 (ea - 60), .bool mo] w fun r w' => r = .returned (.int .u64 ((wd na (rR W (ea - 60) mo) : Nat) : Int)) ∧ Below w.heap.size w w') := hide (fun w W mo hW => round_any w na W (ea - 60) mo (lt_MM (Nat.lt_of_le_of_lt hW hxl)) (by omega) (by omega))
          cases mo
          · have HRd := hide (fun w => HR.out w (x - y) false (Nat.sub_le _ _))
            have HFin2 : Hid (addW a b k = wd na (rR (x - y) (ea - 60) false)) := hide HFin.out
            clear HW2 c1 c2 HR HS1 HFin
            generalize x - y = dd at *
            rcases hcmp with b1 | ⟨b1, b2⟩
            all_goals go_wp2_with (first
              | (go_at_call 35; refine (HLs.out _).mono ?_; rintro r u3 ⟨rfl, hb⟩; have HB8 := hide (below_go HB7.out hb); have HX8 := hide (HX7.out.kept hb); have HY8 := hide (HY7.out.kept hb); obtain ⟨p0, p1⟩ := cells2 HX8.out; obtain ⟨p2, p3⟩ := cells2 HY8.out; clear hb)
              | (go_at_call 36; refine (HSb.out _).mono ?_; rintro r u4 ⟨rfl, hb⟩; have HB9 := hide (below_alloc (below_go HB8.out hb) (.cells #[.int .u64 ((hi dd : Nat) : Int), .int .u64 ((lo dd : Nat) : Int)] 77)); clear hb)
              | (go_at_call 30; refine (HRd.out _).mono ?_; rintro r u9 ⟨rfl, hb⟩; have HB10 := hide (below_go HB9.out hb); clear hb))
            all_goals go_ret
            all_goals exact ⟨by rw [HFin2.out]; rfl, HB10.out⟩
          · have HRd := hide (fun w => HR.out w (x - y - 1) true (Nat.le_trans (Nat.sub_le _ _) (Nat.sub_le _ _)))
            have HFin2 : Hid (addW a b k = wd na (rR (x - y - 1) (ea - 60) true)) := hide HFin.out
            clear HW2 c1 c2 HR HFin
            generalize x - y - 1 = de at *
            generalize x - y = dd at *
            rcases hcmp with b1 | ⟨b1, b2⟩
            all_goals go_wp2_with (first
              | (go_at_call 35; refine (HLs.out _).mono ?_; rintro r u3 ⟨rfl, hb⟩; have HB8 := hide (below_go HB7.out hb); have HX8 := hide (HX7.out.kept hb); have HY8 := hide (HY7.out.kept hb); obtain ⟨p0, p1⟩ := cells2 HX8.out; obtain ⟨p2, p3⟩ := cells2 HY8.out; clear hb)
              | (go_at_call 36; refine (HSb.out _).mono ?_; rintro r u4 ⟨rfl, hb⟩; have HD9 : Hid (Bw (u4.alloc (.cells #[.int .u64 ((hi dd : Nat) : Int), .int .u64 ((lo dd : Nat) : Int)] 77)) u4.heap.size dd) := hide (heap_alloc_new _ _); have hle4 := (below_go HB8.out hb).size; have HB9 := hide (below_alloc (below_go HB8.out hb) (.cells #[.int .u64 ((hi dd : Nat) : Int), .int .u64 ((lo dd : Nat) : Int)] 77)); clear hb HSb)
              | (go_at_call 36; refine (HS1.out _).mono ?_; rintro r u5 ⟨rfl, hb⟩; have HD10 := hide (HD9.out.kept hb); obtain ⟨d0, d1⟩ := cells2 HD10.out; have df := HD10.out.thaw; have HB99 := hide (below_set2 (below_go HB9.out hb) hle4 (.int .u64 ((hi de : Nat) : Int)) (.int .u64 ((lo de : Nat) : Int))); clear hb)
              | (go_at_call 30; refine (HRd.out _).mono ?_; rintro r u9 ⟨rfl, hb⟩; have HB10 := hide (below_go HB99.out hb); clear hb))
            all_goals go_ret
            all_goals exact ⟨by rw [HFin2.out]; rfl, HB10.out⟩

set_option maxRecDepth 100000 in
theorem Add_any (w : World) (a b : Nat) (wa : Wf a) (wb : Wf b) (fa : Fnt a) (fb : Fnt b) (he : pE a ≤ 700) (he2 : pE b ≤ 700) :
    Calls Try.prog 22 #[.int .u64 (a : Int), .int .u64 (b : Int)] w fun r w' => r = .returned (.int .u64 ((addN a b : Nat) : Int)) ∧ Below w.heap.size w w' := by
  by_cases h0 : pM a = 0 ∨ pM b = 0
  · exact Add_nil w a b wa wb fa fb h0
  · have z1 : pM a ≠ 0 := fun h => h0 (Or.inl h)
    have z2 : pM b ≠ 0 := fun h => h0 (Or.inr h)
    by_cases hge : pE b ≤ pE a
    · exact Add_ge w a b wa wb fa fb he hge z1 z2
    · have HC : Hid (addN a b = addN b a) := hide (by unfold addN; rw [add_comm' fa fb])
      rw [HC.out]
      have HPa := hide (fun w => parts_any w a wa)
      have HPb := hide (fun w => parts_any w b wb)
      unfold ptv at HPa HPb
      have HAg := hide (fun w => Add_ge w b a wb wa fb fa he2 (by omega) z2 z1)
      have z1' : (((pM a : Nat) : Int) == 0) = false := by simp; exact z1
      have z2' : (((pM b : Nat) : Int) == 0) = false := by simp; exact z2
      have l3 : pE a < pE b := by omega
      clear hge h0 z1 z2
      generalize addN b a = R at *
      generalize pM a = ma at *
      generalize pM b = mb at *
      generalize pE a = ea at *
      generalize pE b = eb at *
      go_enter Try.func22, Try.ntmps22
      go_wp2_with (first
        | (go_at_call 31; refine (HPa.out _).mono ?_; rintro r w1 ⟨rfl, h⟩; obtain rfl := h.symm; clear h HPa) | (go_at_call 31; refine (HPb.out _).mono ?_; rintro r w1 ⟨rfl, h⟩; obtain rfl := h.symm; clear h)
        | (go_at_call 22; refine (HAg.out _).mono ?_; rintro r w2 ⟨rfl, hb⟩; have HB2 := hide hb; clear hb))
      go_ret
      exact ⟨rfl, HB2.out⟩
end Go.Proofs.Ytfcakfedlcajaaa
namespace Go.Proofs.Ytfcakfedlcajaaa
open Go.RowKit Go.Sort
open Fl

set_option maxRecDepth 100000 in
theorem Amount_any (w : World) (x : Int) (h1 : -9223372036854775808 ≤ x) (h2 : x ≤ 9223372036854775807) :
    Calls Try.prog 28 #[.int .i64 x] w fun r w' => r = .returned (.int .u64 ((x.natAbs : Nat) : Int)) ∧ w' = w := by
  by_cases h : x < 0
  · have e : Hid (((x.natAbs : Nat) : Int) = -(x + 1) + 1) := hide (by omega)
    rw [e.out]
    go_enter Try.func28, Try.ntmps28
    go_wp2
    go_ret
    exact ⟨rfl, rfl⟩
  · have e : Hid (((x.natAbs : Nat) : Int) = x) := hide (by omega)
    rw [e.out]
    go_enter Try.func28, Try.ntmps28
    go_wp2
    go_ret
    exact ⟨rfl, rfl⟩

set_option maxRecDepth 100000 in
theorem Of_any (w : World) (x : Int) (h1 : -9223372036854775808 ≤ x) (h2 : x ≤ 9223372036854775807) :
    Calls Try.prog 21 #[.int .i64 x] w fun r w' => r = .returned (.int .u64 ((floatOfInt .f64 x : Nat) : Int)) ∧ Below w.heap.size w w' := by
  have HA := hide (fun w => Amount_any w x h1 h2)
  have HF : Hid (wd (decide (x < 0)) (rR x.natAbs 0 false) = floatOfInt .f64 x) := hide (of_eq h1 (by omega))
  have HR : Hid (∀ w : World, Calls Try.prog 30 #[.bool (decide (x < 0)), .agg #[.int .u64 0, .int .u64 ((x.natAbs : Nat) : Int)], .int .i64 0, .bool false] w fun r w' => r = .returned (.int .u64 ((wd (decide (x < 0)) (rR x.natAbs 0 false) : Nat) : Int)) ∧ Below w.heap.size w w') := hide (fun w => by
    have := round_any w (decide (x < 0)) x.natAbs 0 false (by unfold MM; omega) (by omega) (by omega)
    rw [wW_low (by omega)] at this
    exact this)
  rw [HF.out] at HR
  generalize floatOfInt .f64 x = F at *
  generalize x.natAbs = n at *
  go_enter Try.func21, Try.ntmps21
  go_wp2_with (first
    | (go_at_call 28; refine (HA.out _).mono ?_; rintro r w2 ⟨rfl, h⟩; obtain rfl := h.symm; clear h)
    | (go_at_call 30; refine (HR.out _).mono ?_; rintro r w3 ⟨rfl, hb⟩; have HB := hide hb; clear hb))
  go_ret
  exact ⟨rfl, HB.out⟩

/-- A word with the other sign. -/
def negW (x : Nat) : Nat := wd (!ng x) (rg x)
set_option maxRecDepth 100000 in
theorem Neg_any (w : World) (x : Nat) (h : Wf x) :
    Calls Try.prog 24 #[.int .u64 (x : Int)] w fun r w' => r = .returned (.int .u64 ((negW x : Nat) : Int)) ∧ w' = w := by
  have q := xor_sign h
  show Calls Try.prog 24 #[.int .u64 (x : Int)] w fun r w' => r = .returned (.int .u64 ((wd (!ng x) (rg x) : Nat) : Int)) ∧ w' = w
  generalize wd (!ng x) (rg x) = R at *
  go_enter Try.func24, Try.ntmps24
  go_wp2
  go_ret
  exact ⟨rfl, rfl⟩

theorem twice_nil {x : Nat} (h : Wf x) : (IntKind.u64.wrap ((x : Int) * 2) == 0) = decide (rg x = 0) := by
  have hw : x < 18446744073709551616 := h
  unfold rg
  rw [IntKind.wrap_u64]
  by_cases c : x % 9223372036854775808 = 0
  · rw [decide_eq_true c]; simp; omega
  · rw [decide_eq_false c]; simp; omega
theorem rg_split {x : Nat} (h : Wf x) : (ng x = true ∧ x = 9223372036854775808 + rg x) ∨ (ng x = false ∧ x = rg x) := by
  have hw : x < 18446744073709551616 := h
  unfold rg ng
  by_cases c : x < 9223372036854775808
  · right; rw [Nat.div_eq_of_lt c]; exact ⟨rfl, by omega⟩
  · left; rw [show x / 9223372036854775808 = 1 by omega]; exact ⟨rfl, by omega⟩

set_option maxRecDepth 100000 in
theorem Less_any (w : World) (a b : Nat) (wa : Wf a) (wb : Wf b) :
    Calls Try.prog 25 #[.int .u64 (a : Int), .int .u64 (b : Int)] w fun r w' => r = .returned (.bool (decide (key a < key b))) ∧ w' = w := by
  have sa := and_sign wa
  have sb := and_sign wb
  have ta := twice_nil wa
  have tb := twice_nil wb
  have ra := rg_split wa
  have rb := rg_split wb
  unfold key
  by_cases hz : rg a = 0 ∧ rg b = 0
  · obtain ⟨ha, hb⟩ := hz
    rw [decide_eq_true ha] at ta
    rw [decide_eq_true hb] at tb
    have e : Hid (decide ((if ng a = true then -((rg a : Nat) : Int) else ((rg a : Nat) : Int)) < (if ng b = true then -((rg b : Nat) : Int) else ((rg b : Nat) : Int))) = false) := hide (decide_eq_false (by rw [ha, hb]; split <;> split <;> omega))
    rw [e.out]
    rcases ra with ⟨na, -⟩ | ⟨na, -⟩ <;> rcases rb with ⟨nb, -⟩ | ⟨nb, -⟩ <;> rw [na] at sa <;> rw [nb] at sb <;> simp only [if_true, if_false, Bool.false_eq_true] at sa sb <;> clear na nb ha hb e <;> (go_enter Try.func25, Try.ntmps25; go_wp2; go_ret; exact ⟨rfl, rfl⟩)
  · have tt : ((IntKind.u64.wrap ((a : Int) * 2) == 0) = false) ∨ ((IntKind.u64.wrap ((a : Int) * 2) == 0) = true ∧ (IntKind.u64.wrap ((b : Int) * 2) == 0) = false) := by
      rw [ta, tb]
      by_cases ha : rg a = 0
      · exact Or.inr ⟨decide_eq_true ha, decide_eq_false (fun hb => hz ⟨ha, hb⟩)⟩
      · exact Or.inl (decide_eq_false ha)
    clear ta tb
    rcases ra with ⟨na, ea⟩ | ⟨na, ea⟩ <;> rcases rb with ⟨nb, eb⟩ | ⟨nb, eb⟩ <;> rw [na] at sa ⊢ <;> rw [nb] at sb ⊢ <;> simp only [if_true, if_false, Bool.false_eq_true] at sa sb ⊢
    · have e : Hid (decide (-((rg a : Nat) : Int) < -((rg b : Nat) : Int)) = decide (b < a)) := hide (decide_eq_decide.2 (by omega))
      rw [e.out]
      clear e ea eb na nb hz
      rcases tt with t1 | ⟨t1, t2⟩
      all_goals (go_enter Try.func25, Try.ntmps25; go_wp2; go_ret; exact ⟨rfl, rfl⟩)
    · have e : Hid (decide (-((rg a : Nat) : Int) < ((rg b : Nat) : Int)) = true) := hide (decide_eq_true (by omega))
      rw [e.out]
      clear e ea eb na nb hz
      rcases tt with t1 | ⟨t1, t2⟩
      all_goals (go_enter Try.func25, Try.ntmps25; go_wp2; go_ret; exact ⟨rfl, rfl⟩)
    · have e : Hid (decide (((rg a : Nat) : Int) < -((rg b : Nat) : Int)) = false) := hide (decide_eq_false (by omega))
      rw [e.out]
      clear e ea eb na nb hz
      rcases tt with t1 | ⟨t1, t2⟩
      all_goals (go_enter Try.func25, Try.ntmps25; go_wp2; go_ret; exact ⟨rfl, rfl⟩)
    · have e : Hid (decide (((rg a : Nat) : Int) < ((rg b : Nat) : Int)) = decide (a < b)) := hide (decide_eq_decide.2 (by omega))
      rw [e.out]
      clear e ea eb na nb hz
      rcases tt with t1 | ⟨t1, t2⟩
      all_goals (go_enter Try.func25, Try.ntmps25; go_wp2; go_ret; exact ⟨rfl, rfl⟩)

/-- The product's word. -/
def mulW (a b : Nat) : Nat := wd (ng a != ng b) (rR (pM a * pM b) (pE a + pE b) false)
theorem mul_gen (B a b c d : Nat) : a * c * (B * B) + (b * c + a * d) * B + b * d = (B * a + b) * (B * c + d) := by
  simp only [Nat.mul_add, Nat.mul_comm, Nat.mul_left_comm]
  omega
theorem mul_halves (m n : Nat) : m / 4294967296 * (n / 4294967296) * 18446744073709551616 + (m % 4294967296 * (n / 4294967296) + m / 4294967296 * (n % 4294967296)) * 4294967296 + m % 4294967296 * (n % 4294967296) = m * n := by
  have h := mul_gen 4294967296 (m / 4294967296) (m % 4294967296) (n / 4294967296) (n % 4294967296)
  rw [Nat.div_add_mod, Nat.div_add_mod] at h
  exact h
theorem mul_lt {a b m n : Nat} (h1 : a ≤ m) (h2 : b ≤ n) : a * b ≤ m * n := Nat.mul_le_mul h1 h2

set_option maxRecDepth 100000 in
set_option maxHeartbeats 1000000 in
theorem Mul_any (w : World) (a b : Nat) (wa : Wf a) (wb : Wf b) (he : pE a + pE b ≤ 700) :
    Calls Try.prog 23 #[.int .u64 (a : Int), .int .u64 (b : Int)] w fun r w' => r = .returned (.int .u64 ((mulW a b : Nat) : Int)) ∧ Below w.heap.size w w' := by
  have HPa := hide (fun w => parts_any w a wa)
  have HPb := hide (fun w => parts_any w b wb)
  unfold ptv at HPa HPb
  have l1 := pM_lt a
  have l2 := pM_lt b
  have ge1 := pE_ge a
  have ge2 := pE_ge b
  have hhalf := mul_halves (pM a) (pM b)
  have hlt : pM a * pM b < MM := Nat.lt_of_lt_of_le (mul_bits l1 l2) (by unfold MM; omega)
  have HRd : Hid (∀ w : World, Calls Try.prog 30 #[.bool (ng a != ng b), .agg #[.int .u64 ((hi (pM a * pM b) : Nat) : Int), .int .u64 ((lo (pM a * pM b) : Nat) : Int)], .int .i64 (pE a + pE b), .bool false] w fun r w' => r = .returned (.int .u64 ((mulW a b : Nat) : Int)) ∧ Below w.heap.size w w') := hide (fun w => round_any w (ng a != ng b) (pM a * pM b) (pE a + pE b) false hlt (by omega) he)
  have q1 : bits .and .u64 ((pM a : Nat) : Int) 4294967295 = ((pM a % 4294967296 : Nat) : Int) := by
    have := bits_and_u64_nat (pM a) 4294967295 (by omega) (by omega)
    exact this.trans (congrArg _ (Nat.and_two_pow_sub_one_eq_mod (pM a) 32))
  have q2 : bits .and .u64 ((pM b : Nat) : Int) 4294967295 = ((pM b % 4294967296 : Nat) : Int) := by
    have := bits_and_u64_nat (pM b) 4294967295 (by omega) (by omega)
    exact this.trans (congrArg _ (Nat.and_two_pow_sub_one_eq_mod (pM b) 32))
  have q3 : ((pM a : Nat) : Int) / 4294967296 = ((pM a / 4294967296 : Nat) : Int) := by omega
  have q4 : ((pM b : Nat) : Int) / 4294967296 = ((pM b / 4294967296 : Nat) : Int) := by omega
  have a0l : pM a % 4294967296 ≤ 4294967295 := by omega
  have b0l : pM b % 4294967296 ≤ 4294967295 := by omega
  have a1l : pM a / 4294967296 ≤ 2097151 := by omega
  have b1l : pM b / 4294967296 ≤ 2097151 := by omega
  clear l1 l2
  generalize pM a * pM b = R at *
  generalize pM a % 4294967296 = a0 at *
  generalize pM b % 4294967296 = b0 at *
  generalize pM a / 4294967296 = a1 at *
  generalize pM b / 4294967296 = b1 at *
  have m1 := mul_lt a0l b0l
  have m2 := mul_lt a0l b1l
  have m3 := mul_lt a1l b0l
  have m4 := mul_lt a1l b1l
  have p1 : (a0 : Int) * (b0 : Int) = ((a0 * b0 : Nat) : Int) := (Int.natCast_mul _ _).symm
  have p2 : (a0 : Int) * (b1 : Int) = ((a0 * b1 : Nat) : Int) := (Int.natCast_mul _ _).symm
  have p3 : (a1 : Int) * (b0 : Int) = ((a1 * b0 : Nat) : Int) := (Int.natCast_mul _ _).symm
  have p4 : (a1 : Int) * (b1 : Int) = ((a1 * b1 : Nat) : Int) := (Int.natCast_mul _ _).symm
  generalize a0 * b0 = c0 at *
  generalize a0 * b1 = c1 at *
  generalize a1 * b0 = c2 at *
  generalize a1 * b1 = c3 at *
  obtain ⟨d1, hd1⟩ : ∃ d, c1 + c2 = d := ⟨_, rfl⟩
  obtain ⟨d2, hd2⟩ : ∃ d, d1 * 4294967296 = d := ⟨_, rfl⟩
  obtain ⟨d3, hd3⟩ : ∃ d, c3 * 18446744073709551616 = d := ⟨_, rfl⟩
  obtain ⟨d4, hd4⟩ : ∃ d, d3 + d2 = d := ⟨_, rfl⟩
  rw [hd1, hd2, hd3, hd4] at hhalf
  have HAd1 : Hid (∀ w : World, Calls Try.prog 34 #[.agg #[.int .u64 0, .int .u64 (c1 : Int)], .agg #[.int .u64 0, .int .u64 (c2 : Int)]] w fun e w' => e = .returned (.agg #[.int .u64 ((hi d1 : Nat) : Int), .int .u64 ((lo d1 : Nat) : Int)]) ∧ Below w.heap.size w w') := hide (fun w => by
    have := add_any w c1 c2 (by unfold MM; omega) (by unfold MM; omega)
    rw [wW_low (by omega), wW_low (by omega), hd1, Nat.mod_eq_of_lt (by unfold MM; omega)] at this
    exact this)
  have HSh : Hid (∀ w : World, Calls Try.prog 32 #[.agg #[.int .u64 0, .int .u64 (c3 : Int)], .int .i64 64] w fun e w' => e = .returned (.agg #[.int .u64 ((hi d3 : Nat) : Int), .int .u64 ((lo d3 : Nat) : Int)]) ∧ Below w.heap.size w w') := hide (fun w => by
    have := shl_any w c3 64 (by unfold MM; omega) (by omega)
    rw [wW_low (by omega), show (2 : Nat) ^ 64 = 18446744073709551616 from rfl, hd3, Nat.mod_eq_of_lt (by unfold MM; omega)] at this
    exact this)
  have HSm : Hid (∀ w : World, Calls Try.prog 32 #[.agg #[.int .u64 ((hi d1 : Nat) : Int), .int .u64 ((lo d1 : Nat) : Int)], .int .i64 32] w fun e w' => e = .returned (.agg #[.int .u64 ((hi d2 : Nat) : Int), .int .u64 ((lo d2 : Nat) : Int)]) ∧ Below w.heap.size w w') := hide (fun w => by
    have := shl_any w d1 32 (by unfold MM; omega) (by omega)
    rw [show (2 : Nat) ^ 32 = 4294967296 from rfl, hd2, Nat.mod_eq_of_lt (by unfold MM; omega)] at this
    exact this)
  have HAd2 : Hid (∀ w : World, Calls Try.prog 34 #[.agg #[.int .u64 ((hi d3 : Nat) : Int), .int .u64 ((lo d3 : Nat) : Int)], .agg #[.int .u64 ((hi d2 : Nat) : Int), .int .u64 ((lo d2 : Nat) : Int)]] w fun e w' => e = .returned (.agg #[.int .u64 ((hi d4 : Nat) : Int), .int .u64 ((lo d4 : Nat) : Int)]) ∧ Below w.heap.size w w') := hide (fun w => by
    have := add_any w d3 d2 (by unfold MM; omega) (by unfold MM; omega)
    rw [hd4, Nat.mod_eq_of_lt (by unfold MM; omega)] at this
    exact this)
  have HAd3 : Hid (∀ w : World, Calls Try.prog 34 #[.agg #[.int .u64 ((hi d4 : Nat) : Int), .int .u64 ((lo d4 : Nat) : Int)], .agg #[.int .u64 0, .int .u64 (c0 : Int)]] w fun e w' => e = .returned (.agg #[.int .u64 ((hi R : Nat) : Int), .int .u64 ((lo R : Nat) : Int)]) ∧ Below w.heap.size w w') := hide (fun w => by
    have := add_any w d4 c0 (by unfold MM; omega) (by unfold MM; omega)
    rw [wW_low (m := c0) (by omega), hhalf, Nat.mod_eq_of_lt hlt] at this
    exact this)
  clear hhalf hd1 hd2 hd3 hd4
  generalize mulW a b = F at *
  generalize pM a = ma at *
  generalize pM b = mb at *
  generalize pE a = ea at *
  generalize pE b = eb at *
  go_enter Try.func23, Try.ntmps23
  go_upto_region 6 with (first
    | (go_at_call 31; refine (HPa.out _).mono ?_; rintro r w1 ⟨rfl, h⟩; obtain rfl := h.symm; clear h HPa) | (go_at_call 31; refine (HPb.out _).mono ?_; rintro r w1 ⟨rfl, h⟩; obtain rfl := h.symm; clear h)
    | (go_at_call 34; refine (HAd1.out _).mono ?_; rintro r w2 ⟨rfl, hb⟩; have HB2 := hide hb; clear hb))
  have hs1 := HB2.out.size
  have e1 : (w.alloc (.cells #[.int .u64 0, .int .u64 (c0 : Int)] 77)).heap.size = w.heap.size + 1 := by unfold World.alloc; exact Array.size_push _
  have g0 : w2.heap[w.heap.size]? = some (.cells #[.int .u64 0, .int .u64 (c0 : Int)] 77 (0, 0)) := (HB2.out.block _ (by omega)).trans (heap_alloc_new _ _)
  have HB6 : Hid (Below w.heap.size w ((w2.alloc (.cells #[.int .u64 ((hi d1 : Nat) : Int), .int .u64 ((lo d1 : Nat) : Int)] 77)).alloc (.cells #[.int .u64 0, .int .u64 (c3 : Int)] 77))) := hide (below_alloc (below_alloc (below_go ((Below.refl _ _).alloc (Nat.le_refl _) _) HB2.out) _) _)
  have g1 : ((w2.alloc (.cells #[.int .u64 ((hi d1 : Nat) : Int), .int .u64 ((lo d1 : Nat) : Int)] 77)).alloc (.cells #[.int .u64 0, .int .u64 (c3 : Int)] 77)).heap[w2.heap.size + 1]? = _ := heap_two w2 _ _
  have g2 : ((w2.alloc (.cells #[.int .u64 ((hi d1 : Nat) : Int), .int .u64 ((lo d1 : Nat) : Int)] 77)).alloc (.cells #[.int .u64 0, .int .u64 (c3 : Int)] 77)).heap[w2.heap.size]? = _ := (((Below.refl _ (w2.alloc (.cells #[.int .u64 ((hi d1 : Nat) : Int), .int .u64 ((lo d1 : Nat) : Int)] 77))).alloc (Nat.le_refl _) (.cells #[.int .u64 0, .int .u64 (c3 : Int)] 77)).block _ (by unfold World.alloc; rw [Array.size_push]; omega)).trans (heap_alloc_new w2 _)
  have g3 : ((w2.alloc (.cells #[.int .u64 ((hi d1 : Nat) : Int), .int .u64 ((lo d1 : Nat) : Int)] 77)).alloc (.cells #[.int .u64 0, .int .u64 (c3 : Int)] 77)).heap[w.heap.size]? = _ := ((below_two w2 _ _).block _ (by omega)).trans g0
  generalize ((w2.alloc (.cells #[.int .u64 ((hi d1 : Nat) : Int), .int .u64 ((lo d1 : Nat) : Int)] 77)).alloc (.cells #[.int .u64 0, .int .u64 (c3 : Int)] 77)) = w6 at *
  obtain ⟨k1, k2⟩ := cells2 g1
  obtain ⟨k3, k4⟩ := cells2 g2
  obtain ⟨k5, k6⟩ := cells2 g3
  have k1 := cell_regrown k1
  have k2 := cell_regrown k2
  have k3 := cell_regrown k3
  have k4 := cell_regrown k4
  have k5 := cell_regrown k5
  have k6 := cell_regrown k6
  have K1 : Hid (∀ d os, Calls Try.prog 32 #[.agg #[.int .u64 0, .int .u64 (c3 : Int)], .int .i64 64] (grow (redrawn w6 d) os) fun e w'' => e = .returned (.agg #[.int .u64 ((hi d3 : Nat) : Int), .int .u64 ((lo d3 : Nat) : Int)]) ∧ ∃ p : Regrown, w'' = grow (redrawn w6 p.d) p.os) := hide (fun d os => Calls.regrown_of (HSh.out _))
  have K2 : Hid (∀ d os, Calls Try.prog 32 #[.agg #[.int .u64 ((hi d1 : Nat) : Int), .int .u64 ((lo d1 : Nat) : Int)], .int .i64 32] (grow (redrawn w6 d) os) fun e w'' => e = .returned (.agg #[.int .u64 ((hi d2 : Nat) : Int), .int .u64 ((lo d2 : Nat) : Int)]) ∧ ∃ p : Regrown, w'' = grow (redrawn w6 p.d) p.os) := hide (fun d os => Calls.regrown_of (HSm.out _))
  have K3 : Hid (∀ d os, Calls Try.prog 34 #[.agg #[.int .u64 ((hi d3 : Nat) : Int), .int .u64 ((lo d3 : Nat) : Int)], .agg #[.int .u64 ((hi d2 : Nat) : Int), .int .u64 ((lo d2 : Nat) : Int)]] (grow (redrawn w6 d) os) fun e w'' => e = .returned (.agg #[.int .u64 ((hi d4 : Nat) : Int), .int .u64 ((lo d4 : Nat) : Int)]) ∧ ∃ p : Regrown, w'' = grow (redrawn w6 p.d) p.os) := hide (fun d os => Calls.regrown_of (HAd2.out _))
  have K4 : Hid (∀ d os, Calls Try.prog 34 #[.agg #[.int .u64 ((hi d4 : Nat) : Int), .int .u64 ((lo d4 : Nat) : Int)], .agg #[.int .u64 0, .int .u64 (c0 : Int)]] (grow (redrawn w6 d) os) fun e w'' => e = .returned (.agg #[.int .u64 ((hi R : Nat) : Int), .int .u64 ((lo R : Nat) : Int)]) ∧ ∃ p : Regrown, w'' = grow (redrawn w6 p.d) p.os) := hide (fun d os => Calls.regrown_of (HAd3.out _))
  have K5 : Hid (∀ d os, Calls Try.prog 30 #[.bool (ng a != ng b), .agg #[.int .u64 ((hi R : Nat) : Int), .int .u64 ((lo R : Nat) : Int)], .int .i64 (ea + eb), .bool false] (grow (redrawn w6 d) os) fun e w'' => e = .returned (.int .u64 ((F : Nat) : Int)) ∧ ∃ p : Regrown, w'' = grow (redrawn w6 p.d) p.os) := hide (fun d os => Calls.regrown_of (HRd.out _))
  clear hs1 e1 g0 g1 g2 g3 HB2 HSh HSm HAd1 HAd2 HAd3 HRd p1 p2 p3 p4 q1 q2 q3 q4
  refine wp_region_quiet_below (by kernel_rfl) (by kernel_rfl) ?_
  go_big_quiet_step (first | fail)
  go_big_quiet_step (first | fail)
  go_big_quiet_step (first | fail)
  go_big_quiet_step (first | fail)
  go_big_quiet_step (first | (go_at_call 32; exact K1.out _ _))
  go_big_quiet_step (first | fail)
  go_big_quiet_step (first | (go_at_call 32; exact K2.out _ _))
  go_big_quiet_step (first | (go_at_call 34; exact K3.out _ _))
  go_big_quiet_step (first | fail)
  go_big_quiet_step (first | (go_at_call 34; exact K4.out _ _))
  go_big_quiet_step (first | fail)
  go_big_quiet_step (first | fail)
  go_big_quiet_step (first | fail)
  go_big_quiet_step (first | (go_at_call 30; exact K5.out _ _))
  go_big_quiet_step (first | fail)
  refine wpQuiet_nil ?_
  intro _ hw'
  obtain ⟨⟨dq, osq⟩, hw''⟩ := hw'
  subst hw''
  go_wp2
  go_ret
  exact ⟨rfl, below_go HB6.out (below_regrown _ _ _)⟩
end Go.Proofs.Ytfcakfedlcajaaa
namespace Go.Proofs.Ytfcakfedlcajaaa
open Go.RowKit
open Fl
namespace Fl

theorem pE_le {x k : Nat} (h : rg x < k * 4503599627370496) (hk : 2 ≤ k) : pE x ≤ (k : Int) - 1076 := by
  unfold pE
  split
  · omega
  · have : rg x / 4503599627370496 < k := by rw [Nat.div_lt_iff_lt_mul (by omega)]; exact h
    omega
theorem rR_le {W z : Nat} (e : Int) (more : Bool) (h : sz W ≤ z) : rR W e more ≤ (max (e + (z : Int) - 53) (-1074) + 1074).toNat * 4503599627370496 + 9007199254740992 := by
  unfold rR
  split
  · omega
  · have h1 := mR_le W e more
    have h2 : (lastR W e + 1074).toNat ≤ (max (e + (z : Int) - 53) (-1074) + 1074).toNat := by unfold lastR; omega
    exact Nat.add_le_add (Nat.mul_le_mul_right 4503599627370496 h2) h1
theorem rR_lt_k {W z k : Nat} {e : Int} {more : Bool} (h : sz W ≤ z) (he : e + (z : Int) ≤ (k : Int) - 1024) (hk : 3 ≤ k) : rR W e more < k * 4503599627370496 := by
  have h1 := rR_le e more h
  have h2 : (max (e + (z : Int) - 53) (-1074) + 1074).toNat + 3 ≤ k := by omega
  have h3 := Nat.mul_le_mul_right 4503599627370496 h2
  generalize (max (e + (z : Int) - 53) (-1074) + 1074).toNat = q at *
  rw [Nat.add_mul] at h3
  omega
theorem lt114 {m n : Nat} (h : m < 2 ^ 113) (h2 : n < 2 ^ 113) : m + n < 2 ^ 114 := by omega
theorem lt114' {m : Nat} (h : m < 2 ^ 113) : m < 2 ^ 114 := by omega
theorem wd_small {s : Bool} {r k : Nat} (h : r < k * 4503599627370496) (hk : k ≤ 2000) : Wf (wd s r) ∧ rg (wd s r) < k * 4503599627370496 ∧ Fnt (wd s r) := by
  have h1 : r < 9218868437227405312 := by omega
  refine ⟨(nn_wd (by omega)).2, ?_, ?_⟩
  · rw [rg_wd _ (by omega)]; exact h
  · unfold Fnt; rw [rg_wd _ (by omega)]; exact h1
theorem fin_small {x k : Nat} (h : rg x < k * 4503599627370496) (hk : k ≤ 2000) : Fnt x := by unfold Fnt; omega

theorem addW_small {a b j k : Nat} (fa : rg a < k * 4503599627370496) (hk2 : 2 ≤ k) (hk : k ≤ 1500) : ∃ s r, addW a b j = wd s r ∧ r < (k + 3) * 4503599627370496 := by
  have l1 := mul60 (pM_lt a)
  have l2 := mul60 (pM_lt b)
  have l3 : pM b * 2 ^ 60 / 2 ^ j ≤ pM b * 2 ^ 60 := Nat.div_le_self _ _
  have hp := pE_le fa hk2
  have key : ∀ W mo, W < 2 ^ 114 → rR W (pE a - 60) mo < (k + 3) * 4503599627370496 := fun W mo hW => rR_lt_k (z := 114) (sz_le hW) (by omega) (by omega)
  unfold addW
  simp only []
  have l4 := Nat.lt_of_le_of_lt l3 l2
  split
  · exact ⟨_, _, rfl, key _ _ (lt114 l1 l4)⟩
  · split
    · exact ⟨false, 0, rfl, Nat.mul_pos (by omega) (by decide)⟩
    · split
      · exact ⟨_, _, rfl, key _ _ (lt114' (Nat.lt_of_le_of_lt (Nat.sub_le _ _) l4))⟩
      · exact ⟨_, _, rfl, key _ _ (lt114' (Nat.lt_of_le_of_lt (Nat.le_trans (Nat.sub_le _ _) (Nat.sub_le _ _)) l1))⟩

theorem add_small {a b k : Nat} (wa : Wf a) (wb : Wf b) (fa : rg a < k * 4503599627370496) (fb : rg b < k * 4503599627370496) (hk2 : 2 ≤ k) (hk : k ≤ 1500) : Wf (addN a b) ∧ rg (addN a b) < (k + 3) * 4503599627370496 := by
  have ha := fin_small fa (by omega)
  have hb := fin_small fb (by omega)
  have pa := pE_le fa hk2
  have pb := pE_le fb hk2
  by_cases z1 : pM a = 0
  · by_cases z2 : pM b = 0
    · unfold addN; rw [add_zero ha hb z1 z2]
      exact ⟨(wd_small (k := 1) (by decide) (by decide)).1, Nat.lt_of_lt_of_le (wd_small (k := 1) (by decide) (by decide)).2.1 (Nat.mul_le_mul_right _ (by omega))⟩
    · unfold addN; rw [add_left ha hb wb z1 z2]
      exact ⟨wb, Nat.lt_of_lt_of_le fb (Nat.mul_le_mul_right _ (by omega))⟩
  · by_cases z2 : pM b = 0
    · unfold addN; rw [add_right ha hb wa z1 z2]
      exact ⟨wa, Nat.lt_of_lt_of_le fa (Nat.mul_le_mul_right _ (by omega))⟩
    · by_cases hge : pE b ≤ pE a
      · obtain ⟨s, r, e, hr⟩ := addW_small (b := b) (j := (pE a - pE b).toNat) fa hk2 hk
        unfold addN; rw [add_main (k := (pE a - pE b).toNat) ha hb (by omega) z1 (by omega), e]
        have := wd_small (s := s) hr (by omega)
        exact ⟨this.1, this.2.1⟩
      · obtain ⟨s, r, e, hr⟩ := addW_small (b := a) (j := (pE b - pE a).toNat) fb hk2 hk
        unfold addN; rw [add_comm' ha hb, add_main (k := (pE b - pE a).toNat) hb ha (by omega) z2 (by omega), e]
        have := wd_small (s := s) hr (by omega)
        exact ⟨this.1, this.2.1⟩

theorem mul_small {a b k : Nat} (fa : rg a < k * 4503599627370496) (fb : rg b ≤ 4607182418800017408) (hk2 : 2 ≤ k) (hk : k ≤ 1500) : Wf (mulW a b) ∧ rg (mulW a b) < (k + 3) * 4503599627370496 ∧ pE b ≤ -52 := by
  have pa := pE_le fa hk2
  have pb : pE b ≤ -52 := pE_le (x := b) (k := 1024) (by omega) (by omega)
  have := wd_small (s := ng a != ng b) (rR_lt_k (W := pM a * pM b) (z := 106) (k := k + 3) (e := pE a + pE b) (more := false) (sz_le (mul_bits (pM_lt a) (pM_lt b))) (by omega) (by omega)) (by omega)
  exact ⟨this.1, this.2.1, pb⟩

/-- No nought below nought. -/
def NZ (x : Nat) : Prop := rg x = 0 → ng x = false

theorem ofInt_top {n : Int} (h1 : -9223372036854775808 ≤ n) (h2 : n ≤ 9223372036854775808) : rg (floatOfInt .f64 n) ≤ 4890909195324358656 ∧ NZ (floatOfInt .f64 n) := by
  rw [← of_eq h1 h2]
  have hr : rR n.natAbs 0 false ≤ 4890909195324358656 := by
    by_cases c : n.natAbs < 2 ^ 63
    · have h3 := rR_le (z := 63) 0 false (sz_le c)
      rw [show (max ((0 : Int) + ((63 : Nat) : Int) - 53) (-1074) + 1074).toNat = 1084 by omega] at h3
      exact Nat.le_trans h3 (by decide)
    · rw [show n.natAbs = 9223372036854775808 by omega]
      have hs : sz 9223372036854775808 = 64 := by decide
      have hl : lastR 9223372036854775808 0 = 11 := by unfold lastR; rw [hs]; omega
      have hm : mR 9223372036854775808 0 false = 4503599627370496 := by unfold mR; rw [hl]; decide
      unfold rR
      rw [if_neg (by omega), hl, hm]
      decide
  refine ⟨by rw [rg_wd _ (by omega)]; exact hr, fun h => ?_⟩
  rw [rg_wd _ (by omega)] at h
  rw [ng_wd _ (by omega)]
  by_cases h0 : n.natAbs = 0
  · exact decide_eq_false (by omega)
  · have hl : -1074 < lastR n.natAbs 0 := by unfold lastR; omega
    have := mR_ge 0 false h0 hl
    unfold rR at h
    rw [if_neg h0] at h
    omega

theorem nearest_pos (s : Bool) {m : Nat} (h : m ≠ 0) {p : Int} (hp : -1074 ≤ p) : ∃ r, 1 ≤ r ∧ r ≤ 9218868437227405312 ∧ db.nearest s m p = wd s r := by
  by_cases c : lastP m p = -1074
  · refine ⟨_, ?_, Nat.min_le_right _ _, nearest_form s h p (p + 1074).toNat 0 (by rw [c]; omega)⟩
    have : rneD (m * 2 ^ (p + 1074).toNat) (2 ^ 0) = m * 2 ^ (p + 1074).toNat := by
      have := rneD_exact (m * 2 ^ (p + 1074).toNat) 1 (by omega)
      rw [Nat.mul_one] at this; exact this
    rw [this]
    have := Nat.mul_pos (Nat.pos_of_ne_zero h) (Nat.two_pow_pos (p + 1074).toNat)
    omega
  · have hl : -1074 < lastP m p := by have : -1074 ≤ lastP m p := Int.le_max_right ..; omega
    by_cases d : 0 ≤ p - lastP m p
    · refine ⟨_, ?_, Nat.min_le_right _ _, nearest_form s h p (p - lastP m p).toNat 0 (by omega)⟩
      have : 1 ≤ (lastP m p + 1074).toNat := by omega
      have := Nat.mul_le_mul_right 4503599627370496 this
      omega
    · refine ⟨_, ?_, Nat.min_le_right _ _, nearest_form s h p 0 (lastP m p - p).toNat (by omega)⟩
      have : 1 ≤ (lastP m p + 1074).toNat := by omega
      have := Nat.mul_le_mul_right 4503599627370496 this
      omega

theorem add_nz1 {a b : Nat} (fa : Fnt a) (fb : Fnt b) (hge : pE b ≤ pE a) (h : NZ a ∨ NZ b) : NZ (addN a b) := by
  unfold addN
  rw [sum_parts fa fb (pE a - pE b).toNat (by omega)]
  show NZ (db.nearest _ _ _)
  intro h0
  by_cases c : sg (ng a) (pM a * 2 ^ (pE a - pE b).toNat) + sg (ng b) (pM b) = 0
  · rw [if_pos c, c] at h0 ⊢
    show ng (db.word (ng a && ng b) 0) = false
    rw [word_wd, ng_wd _ (by omega)]
    cases na : ng a
    · rfl
    · cases nb : ng b
      · rfl
      · exfalso
        rw [na, nb] at c
        simp only [sg, if_true] at c
        have hP := Nat.two_pow_pos (pE a - pE b).toNat
        have hb0 : pM b = 0 := by omega
        have ha0 : pM a = 0 := by
          rcases Nat.mul_eq_zero.1 (show pM a * 2 ^ (pE a - pE b).toNat = 0 by omega) with h | h
          · exact h
          · omega
        rcases h with h | h
        · rw [h (pM_zero ha0)] at na; cases na
        · rw [h (pM_zero hb0)] at nb; cases nb
  · have hne : (sg (ng a) (pM a * 2 ^ (pE a - pE b).toNat) + sg (ng b) (pM b)).natAbs ≠ 0 := by omega
    obtain ⟨r, r1, r2, e⟩ := nearest_pos (if sg (ng a) (pM a * 2 ^ (pE a - pE b).toNat) + sg (ng b) (pM b) = 0 then ng a && ng b else decide (sg (ng a) (pM a * 2 ^ (pE a - pE b).toNat) + sg (ng b) (pM b) < 0)) hne (pE_ge b)
    rw [e, rg_wd _ (by omega)] at h0
    omega
theorem add_nz {a b : Nat} (fa : Fnt a) (fb : Fnt b) (h : NZ a) : NZ (addN a b) := by
  by_cases hge : pE b ≤ pE a
  · exact add_nz1 fa fb hge (Or.inl h)
  · have : addN a b = addN b a := by unfold addN; rw [add_comm' fa fb]
    rw [this]; exact add_nz1 fb fa (by omega) (Or.inr h)

theorem word_ext {x y : Nat} (wx : Wf x) (wy : Wf y) (zx : NZ x) (zy : NZ y) (h : key x = key y) : x = y := by
  have hx := rg_split wx
  have hy := rg_split wy
  unfold key at h
  by_cases c : rg x = 0
  · have nx := zx c
    rw [nx, c] at h
    have cy : rg y = 0 := by
      revert h; cases ng y <;> simp <;> omega
    have ny := zy cy
    rcases hx with ⟨e, _⟩ | ⟨_, e⟩
    · rw [nx] at e; cases e
    · rcases hy with ⟨e', _⟩ | ⟨_, e'⟩
      · rw [ny] at e'; cases e'
      · omega
  · rcases hx with ⟨n1, e⟩ | ⟨n1, e⟩ <;> rcases hy with ⟨n2, e'⟩ | ⟨n2, e'⟩ <;> rw [n1, n2] at h <;> simp only [if_true, if_false, Bool.false_eq_true] at h <;> omega

/-- The document's way to hold a number between two others. -/
def heldR (b a y : Nat) : Nat :=
  let lo := if key y < key a then y else a
  let hi := if key y < key a then a else y
  let c := if key b < key lo then lo else b
  if key hi < key c then hi else c
theorem heldR_eq {b a y : Nat} (wb : Wf b) (wa : Wf a) (wy : Wf y) (zb : NZ b) (za : NZ a) (zy : NZ y) : heldR b a y = held b a y := by
  have q1 : Wf (heldR b a y) ∧ NZ (heldR b a y) := by
    unfold heldR; simp only []
    repeat' split
    all_goals first | exact ⟨wa, za⟩ | exact ⟨wy, zy⟩ | exact ⟨wb, zb⟩
  have q2 : Wf (held b a y) ∧ NZ (held b a y) := ⟨held_wf wb wa wy, by unfold held; exact fmin_both (fmax_both zb (fmin_both za zy)) (fmax_both za zy)⟩
  refine word_ext q1.1 q2.1 q1.2 q2.2 ?_
  unfold held
  have h1 := fmin_one a y
  have h2 := fmax_one a y
  have h3 := fmax_one b (fmin a y)
  have h4 := fmin_one (fmax b (fmin a y)) (fmax a y)
  generalize fmin (fmax b (fmin a y)) (fmax a y) = r at *
  generalize fmax b (fmin a y) = s at *
  generalize fmax a y = u at *
  generalize fmin a y = v at *
  have k1 : key v = min (key a) (key y) := by rcases h1 with ⟨rfl, k⟩ | ⟨rfl, k⟩ <;> omega
  have k2 : key u = max (key a) (key y) := by rcases h2 with ⟨rfl, k⟩ | ⟨rfl, k⟩ <;> omega
  have k3 : key s = max (key b) (key v) := by rcases h3 with ⟨rfl, k⟩ | ⟨rfl, k⟩ <;> omega
  have k4 : key r = min (key s) (key u) := by rcases h4 with ⟨rfl, k⟩ | ⟨rfl, k⟩ <;> omega
  rw [k4, k3, k2, k1]
  unfold heldR
  simp only []
  repeat' split
  all_goals omega

theorem neg_parts {x : Nat} : rg (negW x) = rg x ∧ ng (negW x) = !ng x ∧ Wf (negW x) := by
  have h : rg x < 9223372036854775808 := Nat.mod_lt _ (by omega)
  unfold negW
  refine ⟨rg_wd _ h, ng_wd _ h, ?_⟩
  unfold Wf wd; split <;> omega
theorem sub_add {a y : Nat} (fa : Fnt a) (_fy : Fnt y) : db.sub y a = db.add y (negW a) := by
  obtain ⟨e1, e2, _⟩ := neg_parts (x := a)
  have fn : Fnt (negW a) := by unfold Fnt; rw [e1]; exact fa
  unfold Ieee.Format.sub Ieee.Format.add
  rw [read_parts fa, read_parts fn]
  have p1 : pM (negW a) = pM a := by unfold pM; rw [e1]
  have p2 : pE (negW a) = pE a := by unfold pE; rw [e1]
  rw [p1, p2, e2]
  rfl
end Fl
end Go.Proofs.Ytfcakfedlcajaaa
