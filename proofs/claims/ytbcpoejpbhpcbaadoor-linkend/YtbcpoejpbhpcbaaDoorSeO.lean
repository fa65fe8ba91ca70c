import Derived.Test.YtbcpoejpbhpcbaaDoorEnG
import Derived.Test.YtbcpoejpbhpcbaaDoorSeN
import Derived.Test.YtbcpoejpbhpcbaaDoorSeK
import Derived.Test.YtbcpoejpbhpcbaaDoorSeL
namespace Go.Proofs.YtbcpoejpbhpcbaaDoor
open Go.RowKit

set_option linter.unusedVariables false in
theorem hear_at (w wr : World) (K : Knd) (pb W M l0 l1 b0 b1 : Nat) (sv s0 s1 : Value) (A B : Lk) (ra rb : Value) (S T : List Sm) (es : List Fe) (k : Nat) (h : Pm w wr K pb W M l0 l1 b0 b1 sv s0 s1 A B ra rb S T es) (hd : Pd W M l0 l1 A B S T es k) (hpe : Pe W M l0 l1 A B S T es) (hk : k ≤ 19999) {n : Nat} {e : Fe} (he : es[n]? = some e) :
    Calls Tryd.prog 25 #[.pointer (some ⟨pb, 0, none⟩), .agg (feC e).toArray] wr fun r w' => r = .returned (.bool true) ∧ Ps w w' pb W M (k + 1) := by
  have hm := List.mem_of_getElem? he
  have hby := h.bod e hm
  have hfo := hd.fok e hm
  obtain ⟨⟨fr, tt, mine, yours, seq, ack, bo⟩, sp, c⟩ := e
  rcases hfo with hf | hf
  · obtain rfl : fr = 0 := hf.fr
    obtain rfl : tt = 5 := hf.tt
    exact (hearP1 w wr K pb W M l0 l1 b0 b1 sv s0 s1 A B ra rb S T es k h hd (by omega) mine yours seq ack bo.length c sp bo rfl hby hf).mono (fun r w' ⟨q, K', s', r', S', hp, hd', hs⟩ => ⟨q, _, _, _, _, _, _, _, _, _, _, _, _, _, _, _, hp, hd', hpe.hear1 hd hf ((hpe.e _ hm).1 rfl) hs⟩)
  · obtain rfl : fr = 5 := hf.fr
    obtain rfl : tt = 0 := hf.tt
    exact (hearP0 w wr K pb W M l0 l1 b0 b1 sv s0 s1 A B ra rb S T es k h hd (by omega) mine yours seq ack bo.length c sp bo rfl hby hf).mono (fun r w' ⟨q, K', s', r', S', hp, hd', hs⟩ => ⟨q, _, _, _, _, _, _, _, _, _, _, _, _, _, _, _, hp, hd', hpe.hear0 hd hf ((hpe.e _ hm).2 rfl) hs⟩)
set_option maxRecDepth 100000 in
set_option maxHeartbeats 4000000 in
set_option linter.unusedVariables false in
theorem step_hear3 (w wr : World) (K : Knd) (pb W M l0 l1 b0 b1 : Nat) (sv s0 s1 : Value) (A B : Lk) (ra rb : Value) (S T : List Sm) (es : List Fe) (k : Nat) (h : Pm w wr K pb W M l0 l1 b0 b1 sv s0 s1 A B ra rb S T es) (hd : Pd W M l0 l1 A B S T es k) (hpe : Pe W M l0 l1 A B S T es) (hk : k ≤ 19999) (on pick more : Int) (bp : Option Addr) (nb bc : Nat) :
    Calls Tryd.prog 7 #[.pointer (some ⟨pb, 0, none⟩), .agg #[.int .i64 3, .int .i64 on, .slice bp nb bc, .int .i64 pick, .int .i64 more]] wr fun e w' => e = .returned (.bool true) ∧ Ps w w' pb W M (k + 1) := by
  obtain ⟨w1, hw1⟩ : ∃ w1, wr.alloc (.cells #[.int .i64 3, .int .i64 on, .slice bp nb bc, .int .i64 pick, .int .i64 more] 31) = w1 := ⟨_, rfl⟩
  have hb1 : Below wr.heap.size wr w1 := by rw [← hw1]; exact (Below.refl _ _).alloc (Nat.le_refl _) _
  have hk1 : w1.heap[wr.heap.size]? = some (.cells #[.int .i64 3, .int .i64 on, .slice bp nb bc, .int .i64 pick, .int .i64 more] 31 (0, 0)) := by rw [← hw1]; exact heap_alloc_new _ _
  have HP1 := hide (h.below hb1 (9, 9))
  have HKx : Hid (ext K wr.heap.size (9, 9) wr.heap.size = (9, 9)) := ext_new _ _ (Nat.le_refl _)
  generalize ext K wr.heap.size (9, 9) = K1 at *
  obtain ⟨x0, x1, x2, x3, x4, xf⟩ := sblk5 hk1
  have hob := C.lt_of_block hk1
  have HX1 := hide hk1
  have HW1 := hide hw1
  have HB1 := hide hb1
  have HD := hide hd
  have HE := hide hpe
  obtain ⟨p0, p1, p2, p3, p4, p5, p6, p7, p8, pf, hpb⟩ := HP1.out.pk.cells
  clear hk1 hw1 hb1 h hd hpe
  obtain ⟨o1, ho1⟩ : ∃ o1, bits .and .i64 on 1 = o1 := ⟨_, rfl⟩
  obtain ⟨sa, sc, hsv, hsl, hsm⟩ := HP1.out.sent.form
  obtain ⟨q, hq⟩ : ∃ q, es.length = q := ⟨_, rfl⟩
  have HQ := hide hq
  have hql : q ≤ 100000 := by rw [← hq]; have := HD.out.el; omega
  rw [hq] at hsv hsl
  rw [hsv] at p6
  have HSv := hide hsv
  clear hq hsv
  by_cases hz : q = 0
  · subst hz
    have HPd := hide HD.out.up
    go_enter Tryd.func7, Tryd.ntmps7
    go_upto_region 1 with (fail)
    rw [HW1.out]
    go_wp2
    go_ret
    exact ⟨rfl, _, _, _, _, _, _, _, _, _, _, _, _, _, _, _, HP1.out, HPd.out, HE.out⟩
  have d0 : ((q : Int) == 0) = false := by simp; omega
  have HWi := hide (fun w => within_any w pick q (by omega) (by omega))
  obtain ⟨r, hr⟩ : ∃ r : Nat, (pick % (q : Int)).toNat = r := ⟨_, rfl⟩
  have hrq : r < q := by rw [← hr]; have := Int.emod_lt_of_pos pick (show (0 : Int) < (q : Int) by omega); have := Int.emod_nonneg pick (show (q : Int) ≠ 0 by omega); omega
  rw [hr] at HWi
  clear hr hz
  have r1 : (r : Int) < (q : Int) := by omega
  have r2 : ¬ (r : Int) < 0 := by omega
  have r3 : (0 : Int) ≤ (r : Int) := by omega
  obtain ⟨e, he⟩ : ∃ e, es[r]? = some e := ⟨_, List.getElem?_eq_getElem (by rw [HQ.out]; omega)⟩
  have HH : Hid (∀ w', Pm w w' K1 pb W M l0 l1 b0 b1 sv s0 s1 A B ra rb S T es → Calls Tryd.prog 25 #[.pointer (some ⟨pb, 0, none⟩), .agg (feC e).toArray] w' fun r w' => r = .returned (.bool true) ∧ Ps w w' pb W M (k + 1)) := fun w' hp => hear_at w w' K1 pb W M l0 l1 b0 b1 sv s0 s1 A B ra rb S T es k hp HD.out HE.out hk he
  obtain ⟨g, c, hg, hce⟩ := sent_at HP1.out.sent he
  rw [HSv.out] at hg
  injection hg with hg1 hg2 hg3
  subst hg1
  obtain ⟨⟨fr, tt, mine, yours, seq, ack, bo⟩, sp, cb⟩ := e
  obtain ⟨nbo, hnbo⟩ : ∃ nbo, bo.length = nbo := ⟨_, rfl⟩
  have hfe : feC (⟨⟨fr, tt, mine, yours, seq, ack, bo⟩, sp, cb⟩ : Fe) = [.int .i64 fr, .int .i64 tt, .int .u64 (mine : Int), .int .u64 (yours : Int), .int .u64 (seq : Int), .int .u64 (ack : Int), .slice sp nbo cb] := by unfold feC; rw [hnbo]
  rw [hfe] at HH hce
  have y0 : w1.cell? ⟨g, r * 7, none⟩ = some (.int .i64 fr) := hce 0 _ rfl
  have y1 : w1.cell? ⟨g, r * 7 + 1, none⟩ = some (.int .i64 tt) := hce 1 _ rfl
  have y2 : w1.cell? ⟨g, r * 7 + 2, none⟩ = some (.int .u64 (mine : Int)) := hce 2 _ rfl
  have y3 : w1.cell? ⟨g, r * 7 + 3, none⟩ = some (.int .u64 (yours : Int)) := hce 3 _ rfl
  have y4 : w1.cell? ⟨g, r * 7 + 4, none⟩ = some (.int .u64 (seq : Int)) := hce 4 _ rfl
  have y5 : w1.cell? ⟨g, r * 7 + 5, none⟩ = some (.int .u64 (ack : Int)) := hce 5 _ rfl
  have y6 : w1.cell? ⟨g, r * 7 + 6, none⟩ = some (.slice sp nbo cb) := hce 6 _ rfl
  clear he hce hfe hnbo hg2 hg3
  go_enter Tryd.func7, Tryd.ntmps7
  go_upto_region 1 with (fail)
  rw [HW1.out]
  go_upto_region 17 with (fail)
  go_quiet (first | (go_at_call 14; exact Calls.quiet_of_same (HWi.out _)))
  go_wp2_with fail
  refine (HH.out _ (HP1.out.drewN nq)).mono ?_
  rintro e w2 ⟨rfl, hps⟩
  have HPs := hide hps
  clear hps
  go_wp2
  go_ret
  exact ⟨rfl, HPs.out⟩
set_option maxRecDepth 100000 in
set_option maxHeartbeats 4000000 in
set_option linter.unusedVariables false in
theorem step_hear4 (w wr : World) (K : Knd) (pb W M l0 l1 b0 b1 : Nat) (sv s0 s1 : Value) (A B : Lk) (ra rb : Value) (S T : List Sm) (es : List Fe) (k : Nat) (h : Pm w wr K pb W M l0 l1 b0 b1 sv s0 s1 A B ra rb S T es) (hd : Pd W M l0 l1 A B S T es k) (hpe : Pe W M l0 l1 A B S T es) (hk : k ≤ 19999) (on pick more : Int) (bp : Option Addr) (nb bc : Nat) :
    Calls Tryd.prog 7 #[.pointer (some ⟨pb, 0, none⟩), .agg #[.int .i64 4, .int .i64 on, .slice bp nb bc, .int .i64 pick, .int .i64 more]] wr fun e w' => e = .returned (.bool true) ∧ Ps w w' pb W M (k + 1) := by
  obtain ⟨w1, hw1⟩ : ∃ w1, wr.alloc (.cells #[.int .i64 4, .int .i64 on, .slice bp nb bc, .int .i64 pick, .int .i64 more] 31) = w1 := ⟨_, rfl⟩
  have hb1 : Below wr.heap.size wr w1 := by rw [← hw1]; exact (Below.refl _ _).alloc (Nat.le_refl _) _
  have hk1 : w1.heap[wr.heap.size]? = some (.cells #[.int .i64 4, .int .i64 on, .slice bp nb bc, .int .i64 pick, .int .i64 more] 31 (0, 0)) := by rw [← hw1]; exact heap_alloc_new _ _
  have HP1 := hide (h.below hb1 (9, 9))
  have HKx : Hid (ext K wr.heap.size (9, 9) wr.heap.size = (9, 9)) := ext_new _ _ (Nat.le_refl _)
  generalize ext K wr.heap.size (9, 9) = K1 at *
  obtain ⟨x0, x1, x2, x3, x4, xf⟩ := sblk5 hk1
  have hob := C.lt_of_block hk1
  have HX1 := hide hk1
  have HW1 := hide hw1
  have HB1 := hide hb1
  have HD := hide hd
  have HE := hide hpe
  obtain ⟨p0, p1, p2, p3, p4, p5, p6, p7, p8, pf, hpb⟩ := HP1.out.pk.cells
  clear hk1 hw1 hb1 h hd hpe
  obtain ⟨o1, ho1⟩ : ∃ o1, bits .and .i64 on 1 = o1 := ⟨_, rfl⟩
  obtain ⟨sa, sc, hsv, hsl, hsm⟩ := HP1.out.sent.form
  obtain ⟨q, hq⟩ : ∃ q, es.length = q := ⟨_, rfl⟩
  have HQ := hide hq
  have hql : q ≤ 100000 := by rw [← hq]; have := HD.out.el; omega
  rw [hq] at hsv hsl
  rw [hsv] at p6
  have HSv := hide hsv
  clear hq hsv
  by_cases hz : q = 0
  · subst hz
    have HPd := hide HD.out.up
    go_enter Tryd.func7, Tryd.ntmps7
    go_upto_region 1 with (fail)
    rw [HW1.out]
    go_wp2
    go_ret
    exact ⟨rfl, _, _, _, _, _, _, _, _, _, _, _, _, _, _, _, HP1.out, HPd.out, HE.out⟩
  have d0 : ((q : Int) == 0) = false := by simp; omega
  have HWi := hide (fun w => within_any w pick q (by omega) (by omega))
  obtain ⟨r, hr⟩ : ∃ r : Nat, (pick % (q : Int)).toNat = r := ⟨_, rfl⟩
  have hrq : r < q := by rw [← hr]; have := Int.emod_lt_of_pos pick (show (0 : Int) < (q : Int) by omega); have := Int.emod_nonneg pick (show (q : Int) ≠ 0 by omega); omega
  rw [hr] at HWi
  clear hr hz
  have HWj := hide (fun w => within_any w pick 40 (by omega) (by omega))
  obtain ⟨s, hs⟩ : ∃ s : Nat, (pick % ((40 : Nat) : Int)).toNat = s := ⟨_, rfl⟩
  rw [hs] at HWj
  have e4 : ((40 : Nat) : Int) = 40 := rfl
  rw [e4] at HWj
  have hs40 : s < 40 := by omega
  clear hs e4
  by_cases hle : s + 1 ≤ q
  · obtain ⟨n, hn⟩ : ∃ n : Nat, q - 1 - s = n := ⟨_, rfl⟩
    have hN : (q : Int) - 1 - (s : Int) = (n : Int) := by omega
    have hnq : n < q := by omega
    have r1 : (n : Int) < (q : Int) := by omega
    have r2 : ¬ (n : Int) < 0 := by omega
    have r3 : (0 : Int) ≤ (n : Int) := by omega
    clear hn
    obtain ⟨e, he⟩ : ∃ e, es[n]? = some e := ⟨_, List.getElem?_eq_getElem (by rw [HQ.out]; omega)⟩
    have HH : Hid (∀ w', Pm w w' K1 pb W M l0 l1 b0 b1 sv s0 s1 A B ra rb S T es → Calls Tryd.prog 25 #[.pointer (some ⟨pb, 0, none⟩), .agg (feC e).toArray] w' fun r w' => r = .returned (.bool true) ∧ Ps w w' pb W M (k + 1)) := fun w' hp => hear_at w w' K1 pb W M l0 l1 b0 b1 sv s0 s1 A B ra rb S T es k hp HD.out HE.out hk he
    obtain ⟨g, c, hg, hce⟩ := sent_at HP1.out.sent he
    rw [HSv.out] at hg
    injection hg with hg1 hg2 hg3
    subst hg1
    obtain ⟨⟨fr, tt, mine, yours, seq, ack, bo⟩, sp, cb⟩ := e
    obtain ⟨nbo, hnbo⟩ : ∃ nbo, bo.length = nbo := ⟨_, rfl⟩
    have hfe : feC (⟨⟨fr, tt, mine, yours, seq, ack, bo⟩, sp, cb⟩ : Fe) = [.int .i64 fr, .int .i64 tt, .int .u64 (mine : Int), .int .u64 (yours : Int), .int .u64 (seq : Int), .int .u64 (ack : Int), .slice sp nbo cb] := by unfold feC; rw [hnbo]
    rw [hfe] at HH hce
    have y0 : w1.cell? ⟨g, n * 7, none⟩ = some (.int .i64 fr) := hce 0 _ rfl
    have y1 : w1.cell? ⟨g, n * 7 + 1, none⟩ = some (.int .i64 tt) := hce 1 _ rfl
    have y2 : w1.cell? ⟨g, n * 7 + 2, none⟩ = some (.int .u64 (mine : Int)) := hce 2 _ rfl
    have y3 : w1.cell? ⟨g, n * 7 + 3, none⟩ = some (.int .u64 (yours : Int)) := hce 3 _ rfl
    have y4 : w1.cell? ⟨g, n * 7 + 4, none⟩ = some (.int .u64 (seq : Int)) := hce 4 _ rfl
    have y5 : w1.cell? ⟨g, n * 7 + 5, none⟩ = some (.int .u64 (ack : Int)) := hce 5 _ rfl
    have y6 : w1.cell? ⟨g, n * 7 + 6, none⟩ = some (.slice sp nbo cb) := hce 6 _ rfl
    clear he hce hfe hnbo hg2 hg3
    go_enter Tryd.func7, Tryd.ntmps7
    go_upto_region 1 with (fail)
    rw [HW1.out]
    go_upto_region 17 with (fail)
    go_quiet (first | (go_at_call 14; exact Calls.quiet_of_same (HWi.out _)))
    have HP2 := hide (HP1.out.drewN nq)
    have HX2 : Hid ((w1.drewN nq).heap[wr.heap.size]? = some (.cells #[.int .i64 4, .int .i64 on, .slice bp nb bc, .int .i64 pick, .int .i64 more] 31 (0, 0))) := HX1.out
    have HY2 : Hid ((w1.drewN nq).cell? ⟨g, n * 7, none⟩ = some (.int .i64 fr) ∧ (w1.drewN nq).cell? ⟨g, n * 7 + 1, none⟩ = some (.int .i64 tt) ∧ (w1.drewN nq).cell? ⟨g, n * 7 + 2, none⟩ = some (.int .u64 (mine : Int)) ∧ (w1.drewN nq).cell? ⟨g, n * 7 + 3, none⟩ = some (.int .u64 (yours : Int)) ∧ (w1.drewN nq).cell? ⟨g, n * 7 + 4, none⟩ = some (.int .u64 (seq : Int)) ∧ (w1.drewN nq).cell? ⟨g, n * 7 + 5, none⟩ = some (.int .u64 (ack : Int)) ∧ (w1.drewN nq).cell? ⟨g, n * 7 + 6, none⟩ = some (.slice sp nbo cb)) := ⟨y0, y1, y2, y3, y4, y5, y6⟩
    obtain ⟨w2, hw2⟩ : ∃ w2, w1.drewN nq = w2 := ⟨_, rfl⟩
    rw [hw2] at HP2 HX2 HY2 ⊢
    clear hw2 x0 x1 x2 x3 x4 xf p0 p1 p2 p3 p4 p5 p6 p7 p8 pf hpb y0 y1 y2 y3 y4 y5 y6
    obtain ⟨p0, p1, p2, p3, p4, p5, p6, p7, p8, pf, hpb⟩ := HP2.out.pk.cells
    obtain ⟨x0, x1, x2, x3, x4, xf⟩ := sblk5 HX2.out
    obtain ⟨y0, y1, y2, y3, y4, y5, y6⟩ := HY2.out
    rw [HSv.out] at p6
    go_upto_region 19 with (fail)
    go_quiet (first | (go_at_call 14; exact Calls.quiet_of_same (HWj.out _)))
    go_wp2_with fail
    refine (HH.out _ (HP2.out.drewN nq)).mono ?_
    rintro e w2 ⟨rfl, hps⟩
    have HPs := hide hps
    clear hps
    go_wp2
    go_ret
    exact ⟨rfl, HPs.out⟩
  · have hN : (q : Int) - 1 - (s : Int) < 0 := by omega
    have r1 : (0 : Int) < (q : Int) := by omega
    obtain ⟨e, he⟩ : ∃ e, es[0]? = some e := ⟨_, List.getElem?_eq_getElem (by rw [HQ.out]; omega)⟩
    have HH : Hid (∀ w', Pm w w' K1 pb W M l0 l1 b0 b1 sv s0 s1 A B ra rb S T es → Calls Tryd.prog 25 #[.pointer (some ⟨pb, 0, none⟩), .agg (feC e).toArray] w' fun r w' => r = .returned (.bool true) ∧ Ps w w' pb W M (k + 1)) := fun w' hp => hear_at w w' K1 pb W M l0 l1 b0 b1 sv s0 s1 A B ra rb S T es k hp HD.out HE.out hk he
    obtain ⟨g, c, hg, hce⟩ := sent_at HP1.out.sent he
    rw [HSv.out] at hg
    injection hg with hg1 hg2 hg3
    subst hg1
    obtain ⟨⟨fr, tt, mine, yours, seq, ack, bo⟩, sp, cb⟩ := e
    obtain ⟨nbo, hnbo⟩ : ∃ nbo, bo.length = nbo := ⟨_, rfl⟩
    have hfe : feC (⟨⟨fr, tt, mine, yours, seq, ack, bo⟩, sp, cb⟩ : Fe) = [.int .i64 fr, .int .i64 tt, .int .u64 (mine : Int), .int .u64 (yours : Int), .int .u64 (seq : Int), .int .u64 (ack : Int), .slice sp nbo cb] := by unfold feC; rw [hnbo]
    rw [hfe] at HH hce
    have y0 : w1.cell? ⟨g, 0, none⟩ = some (.int .i64 fr) := hce 0 _ rfl
    have y1 : w1.cell? ⟨g, 1, none⟩ = some (.int .i64 tt) := hce 1 _ rfl
    have y2 : w1.cell? ⟨g, 2, none⟩ = some (.int .u64 (mine : Int)) := hce 2 _ rfl
    have y3 : w1.cell? ⟨g, 3, none⟩ = some (.int .u64 (yours : Int)) := hce 3 _ rfl
    have y4 : w1.cell? ⟨g, 4, none⟩ = some (.int .u64 (seq : Int)) := hce 4 _ rfl
    have y5 : w1.cell? ⟨g, 5, none⟩ = some (.int .u64 (ack : Int)) := hce 5 _ rfl
    have y6 : w1.cell? ⟨g, 6, none⟩ = some (.slice sp nbo cb) := hce 6 _ rfl
    clear he hce hfe hnbo hg2 hg3
    go_enter Tryd.func7, Tryd.ntmps7
    go_upto_region 1 with (fail)
    rw [HW1.out]
    go_upto_region 17 with (fail)
    go_quiet (first | (go_at_call 14; exact Calls.quiet_of_same (HWi.out _)))
    have HP2 := hide (HP1.out.drewN nq)
    have HX2 : Hid ((w1.drewN nq).heap[wr.heap.size]? = some (.cells #[.int .i64 4, .int .i64 on, .slice bp nb bc, .int .i64 pick, .int .i64 more] 31 (0, 0))) := HX1.out
    have HY2 : Hid ((w1.drewN nq).cell? ⟨g, 0, none⟩ = some (.int .i64 fr) ∧ (w1.drewN nq).cell? ⟨g, 1, none⟩ = some (.int .i64 tt) ∧ (w1.drewN nq).cell? ⟨g, 2, none⟩ = some (.int .u64 (mine : Int)) ∧ (w1.drewN nq).cell? ⟨g, 3, none⟩ = some (.int .u64 (yours : Int)) ∧ (w1.drewN nq).cell? ⟨g, 4, none⟩ = some (.int .u64 (seq : Int)) ∧ (w1.drewN nq).cell? ⟨g, 5, none⟩ = some (.int .u64 (ack : Int)) ∧ (w1.drewN nq).cell? ⟨g, 6, none⟩ = some (.slice sp nbo cb)) := ⟨y0, y1, y2, y3, y4, y5, y6⟩
    obtain ⟨w2, hw2⟩ : ∃ w2, w1.drewN nq = w2 := ⟨_, rfl⟩
    rw [hw2] at HP2 HX2 HY2 ⊢
    clear hw2 x0 x1 x2 x3 x4 xf p0 p1 p2 p3 p4 p5 p6 p7 p8 pf hpb y0 y1 y2 y3 y4 y5 y6
    obtain ⟨p0, p1, p2, p3, p4, p5, p6, p7, p8, pf, hpb⟩ := HP2.out.pk.cells
    obtain ⟨x0, x1, x2, x3, x4, xf⟩ := sblk5 HX2.out
    obtain ⟨y0, y1, y2, y3, y4, y5, y6⟩ := HY2.out
    rw [HSv.out] at p6
    go_upto_region 19 with (fail)
    go_quiet (first | (go_at_call 14; exact Calls.quiet_of_same (HWj.out _)))
    go_wp2_with fail
    refine (HH.out _ (HP2.out.drewN nq)).mono ?_
    rintro e w2 ⟨rfl, hps⟩
    have HPs := hide hps
    clear hps
    go_wp2
    go_ret
    exact ⟨rfl, HPs.out⟩
end Go.Proofs.YtbcpoejpbhpcbaaDoor
