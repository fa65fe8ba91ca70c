import Derived.Test.YtllpikijakilnaaJgC
import Derived.Lib.QuietBelow
import Derived.Lib.SmallJoins
namespace Go.Proofs.Ytllpikijakilnaa
open Go.RowKit
open Z (Sli SlOk Acd AcdOk)

set_option maxRecDepth 100000 in
theorem doneIf_any (w : World) (b : Bool) : Calls Try.prog 36 #[.bool b] w fun e w' => e = .returned (.int .i64 (doneT b)) ∧ w' = w := by
  cases b
  · go_enter Try.func36, Try.ntmps36
    go_wp2
    go_ret
    exact ⟨rfl, rfl⟩
  · go_enter Try.func36, Try.ntmps36
    go_wp2
    go_ret
    exact ⟨rfl, rfl⟩
set_option maxRecDepth 100000 in
set_option maxHeartbeats 4000000 in
theorem judge_1 (w : World) (s : Sta) (hs : StaOk w s) (a : Acd) (ha : AcdOk w a) (hz : AcWf a) (hk : a.kind = 1) :
    Calls Try.prog 11 #[.agg s.arr, .agg a.arr] w (JgP w.heap.size w (judgeT s a)) := by
  obtain ⟨w2, hw2, hb2, hx2, hy2⟩ := two_boxes w s.arr a.arr 32 45
  have HS2 : Hid (∀ W, Below w2.heap.size w2 W → StaOk W s) := fun W hb => (hs.below hb2).below hb
  have HA2 : Hid (∀ W, Below w2.heap.size w2 W → AcdOk W a) := fun W hb => (ha.below hb2).below hb
  have HX2 : Hid (∀ W, Below w2.heap.size w2 W → W.heap[w.heap.size]? = some (.cells s.arr 32 (0, 0))) := fun W hb => (hb.block _ (ac_lt hx2)).trans hx2
  have HY2 : Hid (∀ W, Below w2.heap.size w2 W → W.heap[w.heap.size + 1]? = some (.cells a.arr 45 (0, 0))) := fun W hb => (hb.block _ (ac_lt hy2)).trans hy2
  have HZ := hide hz
  have HW2 := hide hw2
  have HB2 := hide hb2
  have HE : Hid (∀ W, Below w2.heap.size w2 W → Below w.heap.size w W) := fun W hb => hb2.trans (hb.mono hb2.size)
  have HD : Hid (∀ W, Below w2.heap.size w2 W → Below w2.heap.size w2 W.drew) := fun W hb => ⟨hb.os, hb.tape, hb.output, hb.size, hb.block⟩
  have HR : Hid (Below w2.heap.size w2 w2) := Below.refl _ _
  have HO : Hid (∀ (W W' : World) (B k n : Nat) (t : TypeId) (v : Value) (xs : List Value), Below w2.heap.size w2 W → W.ownsRow W.heap.size t k v n xs → W.ownsRow w.heap.size t k v n xs) := fun W W' B k n t v xs hb h => owns_mono h (Nat.le_trans hb2.size hb.size)
  obtain ⟨c0, c1, c2, c3, c4, c5⟩ := ac6 hx2
  obtain ⟨k0, k1, k2, k3, k4, k5, k6, k7, k8, k9, k10, k11, k12, k13, k14⟩ := ac15 hy2
  have k1' : (a.kind == 1) = true := by simp [hk]
  have HMg : Hid (∀ W, Below w2.heap.size w2 W → Calls Try.prog 34 #[.agg s.arr, .agg a.arr] W (fun e w' => ∃ v u, e = .returned (.tuple #[.int .i64 (writeT s a).1, v, u]) ∧ TwoRows w.heap.size w' v u (writeT s a).2.1 (writeT s a).2.2 ∧ Below w2.heap.size w2 w')) := fun W hb => (write_any W s (HS2.out W hb) a (HA2.out W hb) HZ.out).mono fun _ _ ⟨v, u, he, ⟨hr1, hr2⟩, h⟩ => ⟨v, u, he, ⟨owns_mono hr1 (Nat.le_trans HB2.out.size hb.size), owns_mono hr2 (Nat.le_trans HB2.out.size hb.size)⟩, hb.trans (h.mono hb.size)⟩
  obtain ⟨mo, hmo⟩ : ∃ x, (writeT s a).1 = x := ⟨_, rfl⟩
  rw [hmo] at HMg
  have HM : Hid (judgeT s a = (mo, (writeT s a).2.1, (writeT s a).2.2, 0)) := by show _ = _; simp [judgeT, hk, hmo]
  clear hw2 hb2 hx2 hy2 hs ha hz hk hmo
  go_enter Try.func11, Try.ntmps11
  go_upto_region 1 with (fail)
  rw [HW2.out]
  go_wp2_with (go_at_call 34; refine (HMg.out _ (by first | exact HR.out | exact HD.out _ HR.out)).mono ?_; rintro e w6 ⟨vm, um, rfl, hrm, hbw6⟩; have Hw6 := hide hbw6; clear hbw6; obtain ⟨c0, c1, c2, c3, c4, c5⟩ := ac6 (HX2.out _ Hw6.out); obtain ⟨k0, k1, k2, k3, k4, k5, k6, k7, k8, k9, k10, k11, k12, k13, k14⟩ := ac15 (HY2.out _ Hw6.out); have Hrm := hide hrm; clear hrm)
  refine bodyPost_ret (v := .tuple #[.int .i64 mo, vm, um, .int .i64 0]) (by simp [results, Try.results11, go_sem]) rfl ?_
  exact ⟨_, _, by rw [HM.out], by rw [HM.out]; exact Hrm.out, HE.out _ Hw6.out⟩

set_option maxRecDepth 100000 in
set_option maxHeartbeats 4000000 in
theorem judge_2 (w : World) (s : Sta) (hs : StaOk w s) (a : Acd) (ha : AcdOk w a) (hz : AcWf a) (hk : a.kind = 2) :
    Calls Try.prog 11 #[.agg s.arr, .agg a.arr] w (JgP w.heap.size w (judgeT s a)) := by
  obtain ⟨w2, hw2, hb2, hx2, hy2⟩ := two_boxes w s.arr a.arr 32 45
  have HS2 : Hid (∀ W, Below w2.heap.size w2 W → StaOk W s) := fun W hb => (hs.below hb2).below hb
  have HA2 : Hid (∀ W, Below w2.heap.size w2 W → AcdOk W a) := fun W hb => (ha.below hb2).below hb
  have HX2 : Hid (∀ W, Below w2.heap.size w2 W → W.heap[w.heap.size]? = some (.cells s.arr 32 (0, 0))) := fun W hb => (hb.block _ (ac_lt hx2)).trans hx2
  have HY2 : Hid (∀ W, Below w2.heap.size w2 W → W.heap[w.heap.size + 1]? = some (.cells a.arr 45 (0, 0))) := fun W hb => (hb.block _ (ac_lt hy2)).trans hy2
  have HZ := hide hz
  have HW2 := hide hw2
  have HB2 := hide hb2
  have HE : Hid (∀ W, Below w2.heap.size w2 W → Below w.heap.size w W) := fun W hb => hb2.trans (hb.mono hb2.size)
  have HD : Hid (∀ W, Below w2.heap.size w2 W → Below w2.heap.size w2 W.drew) := fun W hb => ⟨hb.os, hb.tape, hb.output, hb.size, hb.block⟩
  have HR : Hid (Below w2.heap.size w2 w2) := Below.refl _ _
  have HO : Hid (∀ (W W' : World) (B k n : Nat) (t : TypeId) (v : Value) (xs : List Value), Below w2.heap.size w2 W → W.ownsRow W.heap.size t k v n xs → W.ownsRow w.heap.size t k v n xs) := fun W W' B k n t v xs hb h => owns_mono h (Nat.le_trans hb2.size hb.size)
  obtain ⟨c0, c1, c2, c3, c4, c5⟩ := ac6 hx2
  obtain ⟨k0, k1, k2, k3, k4, k5, k6, k7, k8, k9, k10, k11, k12, k13, k14⟩ := ac15 hy2
  have k1' : (a.kind == 1) = false := by simp [hk]
  have k2' : (a.kind == 2) = true := by simp [hk]
  obtain ⟨nGr, hGr⟩ : ∃ b, min a.rd (min (s.free a.ra a.rb) (wrap64 (18014398509481984 - s.held a.till a.ra a.rb))) = b := ⟨_, rfl⟩
  have HEGr := hide hGr
  have HGr : Hid (∀ W, Below w2.heap.size w2 W → Calls Try.prog 35 #[.agg s.arr, .int .i64 a.till, .agg #[.int .i64 a.ra, .int .i64 a.rb, .int .i64 a.rd]] W fun e w' => e = .returned (.int .i64 nGr) ∧ Below w2.heap.size w2 w') := fun W hb => (grant_gen W s (HS2.out W hb) a.till a.ra a.rb a.rd).mono fun _ _ ⟨he, h⟩ => ⟨by rw [he, ← HEGr.out], hb.trans (h.mono hb.size)⟩
  have HM : Hid (judgeT s a = (4, [], [], nGr)) := by show _ = _; simp [judgeT, hk, hGr]
  clear hw2 hb2 hx2 hy2 hs ha hz hk hGr
  go_enter Try.func11, Try.ntmps11
  go_upto_region 1 with (fail)
  rw [HW2.out]
  go_wp2_with (go_at_call 35; refine (HGr.out _ (by first | exact HR.out | exact HD.out _ HR.out)).mono ?_; rintro e w3 ⟨rfl, hbw3⟩; have Hw3 := hide hbw3; clear hbw3; obtain ⟨c0, c1, c2, c3, c4, c5⟩ := ac6 (HX2.out _ Hw3.out); obtain ⟨k0, k1, k2, k3, k4, k5, k6, k7, k8, k9, k10, k11, k12, k13, k14⟩ := ac15 (HY2.out _ Hw3.out))
  refine bodyPost_ret (v := .tuple #[.int .i64 4, .slice none 0 0, .slice none 0 0, .int .i64 nGr]) (by simp [results, Try.results11, go_sem]) rfl ?_
  have HM2 : Hid (judgeT s a = (4, [], [], nGr)) := by show _ = _; exact HM.out.trans rfl
  exact ⟨_, _, by rw [HM2.out], by rw [HM2.out]; exact two_nil _ _, HE.out _ Hw3.out⟩

set_option maxRecDepth 100000 in
set_option maxHeartbeats 4000000 in
theorem judge_3 (w : World) (s : Sta) (hs : StaOk w s) (a : Acd) (ha : AcdOk w a) (hz : AcWf a) (hk : a.kind = 3) :
    Calls Try.prog 11 #[.agg s.arr, .agg a.arr] w (JgP w.heap.size w (judgeT s a)) := by
  obtain ⟨w2, hw2, hb2, hx2, hy2⟩ := two_boxes w s.arr a.arr 32 45
  have HS2 : Hid (∀ W, Below w2.heap.size w2 W → StaOk W s) := fun W hb => (hs.below hb2).below hb
  have HA2 : Hid (∀ W, Below w2.heap.size w2 W → AcdOk W a) := fun W hb => (ha.below hb2).below hb
  have HX2 : Hid (∀ W, Below w2.heap.size w2 W → W.heap[w.heap.size]? = some (.cells s.arr 32 (0, 0))) := fun W hb => (hb.block _ (ac_lt hx2)).trans hx2
  have HY2 : Hid (∀ W, Below w2.heap.size w2 W → W.heap[w.heap.size + 1]? = some (.cells a.arr 45 (0, 0))) := fun W hb => (hb.block _ (ac_lt hy2)).trans hy2
  have HZ := hide hz
  have HW2 := hide hw2
  have HB2 := hide hb2
  have HE : Hid (∀ W, Below w2.heap.size w2 W → Below w.heap.size w W) := fun W hb => hb2.trans (hb.mono hb2.size)
  have HD : Hid (∀ W, Below w2.heap.size w2 W → Below w2.heap.size w2 W.drew) := fun W hb => ⟨hb.os, hb.tape, hb.output, hb.size, hb.block⟩
  have HR : Hid (Below w2.heap.size w2 w2) := Below.refl _ _
  have HO : Hid (∀ (W W' : World) (B k n : Nat) (t : TypeId) (v : Value) (xs : List Value), Below w2.heap.size w2 W → W.ownsRow W.heap.size t k v n xs → W.ownsRow w.heap.size t k v n xs) := fun W W' B k n t v xs hb h => owns_mono h (Nat.le_trans hb2.size hb.size)
  obtain ⟨c0, c1, c2, c3, c4, c5⟩ := ac6 hx2
  obtain ⟨k0, k1, k2, k3, k4, k5, k6, k7, k8, k9, k10, k11, k12, k13, k14⟩ := ac15 hy2
  have k1' : (a.kind == 1) = false := by simp [hk]
  have k2' : (a.kind == 2) = false := by simp [hk]
  have k3' : (a.kind == 3) = true := by simp [hk]
  obtain ⟨bHs, hHs⟩ : ∃ b, decide (a.rd ≤ s.held a.till a.ra a.rb) = b := ⟨_, rfl⟩
  have HEHs := hide hHs
  have HHs : Hid (∀ W, Below w2.heap.size w2 W → Calls Try.prog 37 #[.agg s.arr, .int .i64 a.till, .agg #[.int .i64 a.ra, .int .i64 a.rb, .int .i64 a.rd]] W fun e w' => e = .returned (.bool bHs) ∧ Below w2.heap.size w2 w') := fun W hb => (has_gen W s (HS2.out W hb) a.till a.ra a.rb a.rd).mono fun _ _ ⟨he, h⟩ => ⟨by rw [he, ← HEHs.out]; try rfl, hb.trans (h.mono hb.size)⟩
  have HDn : Hid (∀ W b, Below w2.heap.size w2 W → Calls Try.prog 36 #[.bool b] W fun e w' => e = .returned (.int .i64 (doneT b)) ∧ Below w2.heap.size w2 w') := fun W b hb => (doneIf_any W b).mono fun _ _ ⟨he, h⟩ => ⟨he, by rw [h]; exact hb⟩
  have HM : Hid (judgeT s a = (doneT bHs, [], [], 0)) := by show _ = _; simp [judgeT, hk, hHs]
  clear hw2 hb2 hx2 hy2 hs ha hz hk hHs
  go_enter Try.func11, Try.ntmps11
  go_upto_region 1 with (fail)
  rw [HW2.out]
  go_wp2_with (first | (go_at_call 36; refine (HDn.out _ bHs (by first | exact Hw3.out | exact HD.out _ Hw3.out)).mono ?_; rintro e w4 ⟨rfl, hbw4⟩; have Hw4 := hide hbw4; clear hbw4) | (go_at_call 37; refine (HHs.out _ (by first | exact HR.out | exact HD.out _ HR.out)).mono ?_; rintro e w3 ⟨rfl, hbw3⟩; have Hw3 := hide hbw3; clear hbw3; obtain ⟨c0, c1, c2, c3, c4, c5⟩ := ac6 (HX2.out _ Hw3.out); obtain ⟨k0, k1, k2, k3, k4, k5, k6, k7, k8, k9, k10, k11, k12, k13, k14⟩ := ac15 (HY2.out _ Hw3.out)))
  refine bodyPost_ret (v := .tuple #[.int .i64 (doneT bHs), .slice none 0 0, .slice none 0 0, .int .i64 0]) (by simp [results, Try.results11, go_sem]) rfl ?_
  have HM2 : Hid (judgeT s a = (doneT bHs, [], [], 0)) := by show _ = _; exact HM.out.trans rfl
  exact ⟨_, _, by rw [HM2.out], by rw [HM2.out]; exact two_nil _ _, HE.out _ Hw4.out⟩

set_option maxRecDepth 100000 in
set_option maxHeartbeats 4000000 in
theorem judge_5 (w : World) (s : Sta) (hs : StaOk w s) (a : Acd) (ha : AcdOk w a) (hz : AcWf a) (hk : a.kind = 5) :
    Calls Try.prog 11 #[.agg s.arr, .agg a.arr] w (JgP w.heap.size w (judgeT s a)) := by
  obtain ⟨w2, hw2, hb2, hx2, hy2⟩ := two_boxes w s.arr a.arr 32 45
  have HS2 : Hid (∀ W, Below w2.heap.size w2 W → StaOk W s) := fun W hb => (hs.below hb2).below hb
  have HA2 : Hid (∀ W, Below w2.heap.size w2 W → AcdOk W a) := fun W hb => (ha.below hb2).below hb
  have HX2 : Hid (∀ W, Below w2.heap.size w2 W → W.heap[w.heap.size]? = some (.cells s.arr 32 (0, 0))) := fun W hb => (hb.block _ (ac_lt hx2)).trans hx2
  have HY2 : Hid (∀ W, Below w2.heap.size w2 W → W.heap[w.heap.size + 1]? = some (.cells a.arr 45 (0, 0))) := fun W hb => (hb.block _ (ac_lt hy2)).trans hy2
  have HZ := hide hz
  have HW2 := hide hw2
  have HB2 := hide hb2
  have HE : Hid (∀ W, Below w2.heap.size w2 W → Below w.heap.size w W) := fun W hb => hb2.trans (hb.mono hb2.size)
  have HD : Hid (∀ W, Below w2.heap.size w2 W → Below w2.heap.size w2 W.drew) := fun W hb => ⟨hb.os, hb.tape, hb.output, hb.size, hb.block⟩
  have HR : Hid (Below w2.heap.size w2 w2) := Below.refl _ _
  have HO : Hid (∀ (W W' : World) (B k n : Nat) (t : TypeId) (v : Value) (xs : List Value), Below w2.heap.size w2 W → W.ownsRow W.heap.size t k v n xs → W.ownsRow w.heap.size t k v n xs) := fun W W' B k n t v xs hb h => owns_mono h (Nat.le_trans hb2.size hb.size)
  obtain ⟨c0, c1, c2, c3, c4, c5⟩ := ac6 hx2
  obtain ⟨k0, k1, k2, k3, k4, k5, k6, k7, k8, k9, k10, k11, k12, k13, k14⟩ := ac15 hy2
  have k1' : (a.kind == 1) = false := by simp [hk]
  have k2' : (a.kind == 2) = false := by simp [hk]
  have k3' : (a.kind == 3) = false := by simp [hk]
  have k4' : (a.kind == 4) = false := by simp [hk]
  have k5' : (a.kind == 5) = true := by simp [hk]
  obtain ⟨bOw, hOw⟩ : ∃ b, s.owes a.till a.gen = b := ⟨_, rfl⟩
  have HEOw := hide hOw
  have HOw : Hid (∀ W, Below w2.heap.size w2 W → Calls Try.prog 40 #[.agg s.arr, .int .i64 a.till, .int .u64 a.gen] W fun e w' => e = .returned (.bool bOw) ∧ Below w2.heap.size w2 w') := fun W hb => (owes_gen W s (HS2.out W hb) a.till a.gen).mono fun _ _ ⟨he, h⟩ => ⟨by rw [he, ← HEOw.out]; try rfl, hb.trans (h.mono hb.size)⟩
  obtain ⟨bHa, hHa⟩ : ∃ b, s.hasAll a.till a.rights.xs = b := ⟨_, rfl⟩
  have HEHa := hide hHa
  have HHa : Hid (∀ W, Below w2.heap.size w2 W → Calls Try.prog 41 #[.agg s.arr, .int .i64 a.till, .slice a.rights.p a.rights.n a.rights.c] W fun e w' => e = .returned (.bool bHa) ∧ Below w2.heap.size w2 w') := fun W hb => (hasAll_gen W s (HS2.out W hb) a.till a.rights.p a.rights.n a.rights.c a.rights.xs (HA2.out W hb).rights.len (by have := (HA2.out W hb).rights.most; omega) (HA2.out W hb).rights.cel).mono fun _ _ ⟨he, h⟩ => ⟨by rw [he, ← HEHa.out]; try rfl, hb.trans (h.mono hb.size)⟩
  have HDn : Hid (∀ W b, Below w2.heap.size w2 W → Calls Try.prog 36 #[.bool b] W fun e w' => e = .returned (.int .i64 (doneT b)) ∧ Below w2.heap.size w2 w') := fun W b hb => (doneIf_any W b).mono fun _ _ ⟨he, h⟩ => ⟨he, by rw [h]; exact hb⟩
  have HM : Hid (judgeT s a = (doneT (bOw && bHa), [], [], 0)) := by show _ = _; simp [judgeT, hk, hOw, hHa]
  clear hw2 hb2 hx2 hy2 hs ha hz hk hOw hHa
  cases bOw with
  | true =>
    go_enter Try.func11, Try.ntmps11
    go_upto_region 1 with (fail)
    rw [HW2.out]
    go_wp2_with (first | (go_at_call 36; refine (HDn.out _ bHa (by first | exact Hw4.out | exact HD.out _ Hw4.out)).mono ?_; rintro e w5 ⟨rfl, hbw5⟩; have Hw5 := hide hbw5; clear hbw5) | (go_at_call 41; refine (HHa.out _ (by first | exact Hw3.out | exact HD.out _ Hw3.out)).mono ?_; rintro e w4 ⟨rfl, hbw4⟩; have Hw4 := hide hbw4; clear hbw4; obtain ⟨c0, c1, c2, c3, c4, c5⟩ := ac6 (HX2.out _ Hw4.out); obtain ⟨k0, k1, k2, k3, k4, k5, k6, k7, k8, k9, k10, k11, k12, k13, k14⟩ := ac15 (HY2.out _ Hw4.out)) | (go_at_call 40; refine (HOw.out _ (by first | exact HR.out | exact HD.out _ HR.out)).mono ?_; rintro e w3 ⟨rfl, hbw3⟩; have Hw3 := hide hbw3; clear hbw3; obtain ⟨c0, c1, c2, c3, c4, c5⟩ := ac6 (HX2.out _ Hw3.out); obtain ⟨k0, k1, k2, k3, k4, k5, k6, k7, k8, k9, k10, k11, k12, k13, k14⟩ := ac15 (HY2.out _ Hw3.out)))
    refine bodyPost_ret (v := .tuple #[.int .i64 (doneT bHa), .slice none 0 0, .slice none 0 0, .int .i64 0]) (by simp [results, Try.results11, go_sem]) rfl ?_
    have HM2 : Hid (judgeT s a = (doneT bHa, [], [], 0)) := by show _ = _; exact HM.out.trans rfl
    exact ⟨_, _, by rw [HM2.out], by rw [HM2.out]; exact two_nil _ _, HE.out _ Hw5.out⟩
  | false =>
    go_enter Try.func11, Try.ntmps11
    go_upto_region 1 with (fail)
    rw [HW2.out]
    go_wp2_with (first | (go_at_call 36; refine (HDn.out _ false (by first | exact Hw3.out | exact HD.out _ Hw3.out)).mono ?_; rintro e w4 ⟨rfl, hbw4⟩; have Hw4 := hide hbw4; clear hbw4) | (go_at_call 40; refine (HOw.out _ (by first | exact HR.out | exact HD.out _ HR.out)).mono ?_; rintro e w3 ⟨rfl, hbw3⟩; have Hw3 := hide hbw3; clear hbw3; obtain ⟨c0, c1, c2, c3, c4, c5⟩ := ac6 (HX2.out _ Hw3.out); obtain ⟨k0, k1, k2, k3, k4, k5, k6, k7, k8, k9, k10, k11, k12, k13, k14⟩ := ac15 (HY2.out _ Hw3.out)))
    refine bodyPost_ret (v := .tuple #[.int .i64 (doneT false), .slice none 0 0, .slice none 0 0, .int .i64 0]) (by simp [results, Try.results11, go_sem]) rfl ?_
    have HM2 : Hid (judgeT s a = (doneT false, [], [], 0)) := by show _ = _; exact HM.out.trans rfl
    exact ⟨_, _, by rw [HM2.out], by rw [HM2.out]; exact two_nil _ _, HE.out _ Hw4.out⟩

set_option maxRecDepth 100000 in
set_option maxHeartbeats 4000000 in
theorem judge_0 (w : World) (s : Sta) (hs : StaOk w s) (a : Acd) (ha : AcdOk w a) (hz : AcWf a) (n1 : ¬ a.kind = 1) (n2 : ¬ a.kind = 2) (n3 : ¬ a.kind = 3) (n4 : ¬ a.kind = 4) (n5 : ¬ a.kind = 5) :
    Calls Try.prog 11 #[.agg s.arr, .agg a.arr] w (JgP w.heap.size w (judgeT s a)) := by
  obtain ⟨w2, hw2, hb2, hx2, hy2⟩ := two_boxes w s.arr a.arr 32 45
  have HS2 : Hid (∀ W, Below w2.heap.size w2 W → StaOk W s) := fun W hb => (hs.below hb2).below hb
  have HA2 : Hid (∀ W, Below w2.heap.size w2 W → AcdOk W a) := fun W hb => (ha.below hb2).below hb
  have HX2 : Hid (∀ W, Below w2.heap.size w2 W → W.heap[w.heap.size]? = some (.cells s.arr 32 (0, 0))) := fun W hb => (hb.block _ (ac_lt hx2)).trans hx2
  have HY2 : Hid (∀ W, Below w2.heap.size w2 W → W.heap[w.heap.size + 1]? = some (.cells a.arr 45 (0, 0))) := fun W hb => (hb.block _ (ac_lt hy2)).trans hy2
  have HZ := hide hz
  have HW2 := hide hw2
  have HB2 := hide hb2
  have HE : Hid (∀ W, Below w2.heap.size w2 W → Below w.heap.size w W) := fun W hb => hb2.trans (hb.mono hb2.size)
  have HD : Hid (∀ W, Below w2.heap.size w2 W → Below w2.heap.size w2 W.drew) := fun W hb => ⟨hb.os, hb.tape, hb.output, hb.size, hb.block⟩
  have HR : Hid (Below w2.heap.size w2 w2) := Below.refl _ _
  have HO : Hid (∀ (W W' : World) (B k n : Nat) (t : TypeId) (v : Value) (xs : List Value), Below w2.heap.size w2 W → W.ownsRow W.heap.size t k v n xs → W.ownsRow w.heap.size t k v n xs) := fun W W' B k n t v xs hb h => owns_mono h (Nat.le_trans hb2.size hb.size)
  obtain ⟨c0, c1, c2, c3, c4, c5⟩ := ac6 hx2
  obtain ⟨k0, k1, k2, k3, k4, k5, k6, k7, k8, k9, k10, k11, k12, k13, k14⟩ := ac15 hy2
  have k1' : (a.kind == 1) = false := beq_eq_false_iff_ne.2 n1
  have k2' : (a.kind == 2) = false := beq_eq_false_iff_ne.2 n2
  have k3' : (a.kind == 3) = false := beq_eq_false_iff_ne.2 n3
  have k4' : (a.kind == 4) = false := beq_eq_false_iff_ne.2 n4
  have k5' : (a.kind == 5) = false := beq_eq_false_iff_ne.2 n5
  have HM : Hid (judgeT s a = (0, [], [], 0)) := by show _ = _; simp [judgeT, n1, n2, n3, n4, n5]
  clear hw2 hb2 hx2 hy2 hs ha hz n1 n2 n3 n4 n5
  go_enter Try.func11, Try.ntmps11
  go_upto_region 1 with (fail)
  rw [HW2.out]
  go_wp2
  refine bodyPost_ret (v := .tuple #[.int .i64 0, .slice none 0 0, .slice none 0 0, .int .i64 0]) (by simp [results, Try.results11, go_sem]) rfl ?_
  have HM2 : Hid (judgeT s a = (0, [], [], 0)) := by show _ = _; exact HM.out.trans rfl
  exact ⟨_, _, by rw [HM2.out], by rw [HM2.out]; exact two_nil _ _, HE.out _ HR.out⟩

end Go.Proofs.Ytllpikijakilnaa
namespace Go.Proofs.Ytllpikijakilnaa
open Go.RowKit Go.Sort
open Z (Sli SlOk Acd AcdOk)

set_option maxRecDepth 100000 in
set_option maxHeartbeats 4000000 in
theorem judge_4 (w : World) (s : Sta) (hs : StaOk w s) (a : Acd) (ha : AcdOk w a) (hz : AcWf a) (hk : a.kind = 4) :
    Calls Try.prog 11 #[.agg s.arr, .agg a.arr] w (JgP w.heap.size w (judgeT s a)) := by
  obtain ⟨w2, hw2, hb2, hx2, hy2⟩ := two_boxes w s.arr a.arr 32 45
  have HS2 : Hid (∀ W, Below w2.heap.size w2 W → StaOk W s) := fun W hb => (hs.below hb2).below hb
  have HA2 : Hid (∀ W, Below w2.heap.size w2 W → AcdOk W a) := fun W hb => (ha.below hb2).below hb
  have HX2 : Hid (∀ W, Below w2.heap.size w2 W → W.heap[w.heap.size]? = some (.cells s.arr 32 (0, 0))) := fun W hb => (hb.block _ (ac_lt hx2)).trans hx2
  have HY2 : Hid (∀ W, Below w2.heap.size w2 W → W.heap[w.heap.size + 1]? = some (.cells a.arr 45 (0, 0))) := fun W hb => (hb.block _ (ac_lt hy2)).trans hy2
  have HZ := hide hz
  have HW2 := hide hw2
  have HB2 := hide hb2
  have HE : Hid (∀ W, Below w2.heap.size w2 W → Below w.heap.size w W) := fun W hb => hb2.trans (hb.mono hb2.size)
  have HD : Hid (∀ W, Below w2.heap.size w2 W → Below w2.heap.size w2 W.drew) := fun W hb => ⟨hb.os, hb.tape, hb.output, hb.size, hb.block⟩
  have HR : Hid (Below w2.heap.size w2 w2) := Below.refl _ _
  have HO : Hid (∀ (W W' : World) (B k n : Nat) (t : TypeId) (v : Value) (xs : List Value), Below w2.heap.size w2 W → W.ownsRow W.heap.size t k v n xs → W.ownsRow w.heap.size t k v n xs) := fun W W' B k n t v xs hb h => owns_mono h (Nat.le_trans hb2.size hb.size)
  obtain ⟨c0, c1, c2, c3, c4, c5⟩ := ac6 hx2
  obtain ⟨k0, k1, k2, k3, k4, k5, k6, k7, k8, k9, k10, k11, k12, k13, k14⟩ := ac15 hy2
  have k1' : (a.kind == 1) = false := by simp [hk]
  have k2' : (a.kind == 2) = false := by simp [hk]
  have k3' : (a.kind == 3) = false := by simp [hk]
  have k4' : (a.kind == 4) = true := by simp [hk]
  obtain ⟨bHs, hHs⟩ : ∃ b, decide (a.rd ≤ s.held a.till a.ra a.rb) = b := ⟨_, rfl⟩
  have HEHs := hide hHs
  have HHs : Hid (∀ W, Below w2.heap.size w2 W → Calls Try.prog 37 #[.agg s.arr, .int .i64 a.till, .agg #[.int .i64 a.ra, .int .i64 a.rb, .int .i64 a.rd]] W fun e w' => e = .returned (.bool bHs) ∧ Below w2.heap.size w2 w') := fun W hb => (has_gen W s (HS2.out W hb) a.till a.ra a.rb a.rd).mono fun _ _ ⟨he, h⟩ => ⟨by rw [he, ← HEHs.out]; try rfl, hb.trans (h.mono hb.size)⟩
  obtain ⟨nHr, hHr⟩ : ∃ b, wrap64 (18014398509481984 - s.held a.to a.ra a.rb) = b := ⟨_, rfl⟩
  have HEHr := hide hHr
  have HHr : Hid (∀ W, Below w2.heap.size w2 W → Calls Try.prog 38 #[.agg s.arr, .int .i64 a.to, .agg #[.int .i64 a.ra, .int .i64 a.rb]] W fun e w' => e = .returned (.int .i64 nHr) ∧ Below w2.heap.size w2 w') := fun W hb => (heldRoom_gen W s (HS2.out W hb) a.to a.ra a.rb).mono fun _ _ ⟨he, h⟩ => ⟨by rw [he, ← HEHr.out], hb.trans (h.mono hb.size)⟩
  have HDn : Hid (∀ W b, Below w2.heap.size w2 W → Calls Try.prog 36 #[.bool b] W fun e w' => e = .returned (.int .i64 (doneT b)) ∧ Below w2.heap.size w2 w') := fun W b hb => (doneIf_any W b).mono fun _ _ ⟨he, h⟩ => ⟨he, by rw [h]; exact hb⟩
  have HKo : Hid (∀ W, Below w2.heap.size w2 W → Calls Try.prog 39 #[.agg #[.int .i64 a.ra, .int .i64 a.rb, .int .i64 a.rd]] W fun e w' => e = .returned (.agg #[.int .i64 a.ra, .int .i64 a.rb]) ∧ Below w2.heap.size w2 w') := fun W hb => (kindOf_any W a.ra a.rb a.rd).mono fun _ _ ⟨he, h⟩ => ⟨he, hb.trans (h.mono hb.size)⟩
  have HM : Hid (judgeT s a = (doneT (bHs && decide (a.rd ≤ nHr)), [], [], 0)) := by show _ = _; simp [judgeT, hk, hHs, hHr]
  clear hw2 hb2 hx2 hy2 hs ha hz hk hHs hHr
  cases bHs with
  | true =>
    go_enter Try.func11, Try.ntmps11
    go_upto_region 1 with (fail)
    rw [HW2.out]
    go_upto_region 9 with (fail)
    go_region_held3 (fun w' => w'.cell? ⟨w.heap.size, 0, none⟩ = some (.int .u64 s.pos) ∧ w'.cell? ⟨w.heap.size, 1, none⟩ = some (.slice s.pp s.pn s.pc) ∧ w'.cell? ⟨w.heap.size, 2, none⟩ = some (.slice s.rp s.rn s.rc) ∧ w'.cell? ⟨w.heap.size, 3, none⟩ = some (.slice s.lp s.ln s.lc) ∧ w'.cell? ⟨w.heap.size, 4, none⟩ = some (.slice s.gp s.gn s.gc) ∧ w'.cell? ⟨w.heap.size, 5, none⟩ = some (.slice s.op s.on s.oc) ∧ w'.cell? ⟨w.heap.size + 1, 0, none⟩ = some (.int .i64 a.till) ∧ w'.cell? ⟨w.heap.size + 1, 9, none⟩ = some (.int .i64 a.ra) ∧ w'.cell? ⟨w.heap.size + 1, 10, none⟩ = some (.int .i64 a.rb) ∧ w'.cell? ⟨w.heap.size + 1, 11, none⟩ = some (.int .i64 a.rd) ∧ w'.cell? ⟨w.heap.size + 1, 12, none⟩ = some (.int .i64 a.to)) (go_keep) (first | (go_at_call 36; refine (HDn.out _ _ (by first | exact Hw5.out | exact HD.out _ Hw5.out)).mono ?_; rintro e w6 ⟨rfl, hbw6⟩; have Hw6 := hide hbw6; obtain ⟨cw60, cw61, cw62, cw63, cw64, cw65⟩ := ac6 (HX2.out _ Hw6.out); obtain ⟨kw60, kw61, kw62, kw63, kw64, kw65, kw66, kw67, kw68, kw69, kw610, kw611, kw612, kw613, kw614⟩ := ac15 (HY2.out _ Hw6.out); clear hbw6) | (go_at_call 38; refine (HHr.out _ (by first | exact Hw4.out | exact HD.out _ Hw4.out)).mono ?_; rintro e w5 ⟨rfl, hbw5⟩; have Hw5 := hide hbw5; obtain ⟨cw50, cw51, cw52, cw53, cw54, cw55⟩ := ac6 (HX2.out _ Hw5.out); obtain ⟨kw50, kw51, kw52, kw53, kw54, kw55, kw56, kw57, kw58, kw59, kw510, kw511, kw512, kw513, kw514⟩ := ac15 (HY2.out _ Hw5.out); clear hbw5) | (go_at_call 39; refine (HKo.out _ (by first | exact Hw3.out | exact HD.out _ Hw3.out)).mono ?_; rintro e w4 ⟨rfl, hbw4⟩; have Hw4 := hide hbw4; obtain ⟨cw40, cw41, cw42, cw43, cw44, cw45⟩ := ac6 (HX2.out _ Hw4.out); obtain ⟨kw40, kw41, kw42, kw43, kw44, kw45, kw46, kw47, kw48, kw49, kw410, kw411, kw412, kw413, kw414⟩ := ac15 (HY2.out _ Hw4.out); clear hbw4) | (go_at_call 37; refine (HHs.out _ (by first | exact HR.out | exact HD.out _ HR.out)).mono ?_; rintro e w3 ⟨rfl, hbw3⟩; have Hw3 := hide hbw3; obtain ⟨cw30, cw31, cw32, cw33, cw34, cw35⟩ := ac6 (HX2.out _ Hw3.out); obtain ⟨kw30, kw31, kw32, kw33, kw34, kw35, kw36, kw37, kw38, kw39, kw310, kw311, kw312, kw313, kw314⟩ := ac15 (HY2.out _ Hw3.out); clear hbw3) | fail)
    go_wp2
    refine bodyPost_ret (v := .tuple #[.int .i64 (doneT (decide (a.rd ≤ nHr))), .slice none 0 0, .slice none 0 0, .int .i64 0]) (by simp [results, Try.results11, go_sem]) rfl ?_
    have HM2 : Hid (judgeT s a = (doneT (decide (a.rd ≤ nHr)), [], [], 0)) := by show _ = _; exact HM.out.trans rfl
    exact ⟨_, _, by rw [HM2.out], by rw [HM2.out]; exact two_nil _ _, HE.out _ Hw6.out⟩
  | false =>
    go_enter Try.func11, Try.ntmps11
    go_upto_region 1 with (fail)
    rw [HW2.out]
    clear c0 c1 c2 c3 c4 c5
    obtain ⟨c0, c1, c2, c3, c4, c5⟩ := ac6 (HX2.out _ HR.out)
    have hbr : ∀ d os, Below w2.heap.size w2 (grow (redrawn w2 d) os) := fun d os => below_regrown w2 d os
    have HQh := hide (fun d os => Calls.regrown_of ((has_gen (grow (redrawn w2 d) os) s (HS2.out _ (hbr d os)) a.till a.ra a.rb a.rd).mono fun _ _ ⟨he, h⟩ => (⟨by rw [he, HEHs.out], h⟩ : _ = Ending.returned (.bool false) ∧ _)))
    have HQd := hide (fun d os => Calls.regrown_of ((doneIf_any (grow (redrawn w2 d) os) false).mono fun _ _ ⟨he, h⟩ => (⟨he, by rw [h]; exact Below.refl _ _⟩ : _ ∧ Below _ _ _)))
    have HBr := hide hbr
    go_upto_region 9 with (fail)
    have r0 := cell_regrown c0
    have r1 := cell_regrown c1
    have r2 := cell_regrown c2
    have r3 := cell_regrown c3
    have r4 := cell_regrown c4
    have r5 := cell_regrown c5
    have q0 := cell_regrown k0
    have q9 := cell_regrown k9
    have q10 := cell_regrown k10
    have q11 := cell_regrown k11
    have q12 := cell_regrown k12
    clear c0 c1 c2 c3 c4 c5 hbr
    refine wp_region_quiet_below (by kernel_rfl) (by kernel_rfl) ?_
    repeat (go_big_quiet_step (first | (go_at_call 37; exact HQh.out _ _) | (go_at_call 36; exact HQd.out _ _)))
    refine wpQuiet_nil ?_
    intro _ hw'
    obtain ⟨⟨dq, osq⟩, hw''⟩ := hw'
    have HB3 := hide (HBr.out dq osq)
    obtain ⟨w3, hw3⟩ : ∃ w3, grow (redrawn w2 dq) osq = w3 := ⟨_, rfl⟩
    rw [hw3] at HB3
    have hw4 := (hw''.trans hw3).symm
    subst hw4
    clear hw3 hw''
    go_wp2
    refine bodyPost_ret (v := .tuple #[.int .i64 (doneT false), .slice none 0 0, .slice none 0 0, .int .i64 0]) (by simp [results, Try.results11, go_sem]) rfl ?_
    have HM2 : Hid (judgeT s a = (doneT false, [], [], 0)) := by show _ = _; exact HM.out.trans rfl
    exact ⟨_, _, by rw [HM2.out], by rw [HM2.out]; exact two_nil _ _, HE.out _ HB3.out⟩

theorem judge_any (w : World) (s : Sta) (hs : StaOk w s) (a : Acd) (ha : AcdOk w a) (hz : AcWf a) : Calls Try.prog 11 #[.agg s.arr, .agg a.arr] w (JgP w.heap.size w (judgeT s a)) := by
  by_cases h1 : a.kind = 1
  · exact judge_1 w s hs a ha hz h1
  by_cases h2 : a.kind = 2
  · exact judge_2 w s hs a ha hz h2
  by_cases h3 : a.kind = 3
  · exact judge_3 w s hs a ha hz h3
  by_cases h4 : a.kind = 4
  · exact judge_4 w s hs a ha hz h4
  by_cases h5 : a.kind = 5
  · exact judge_5 w s hs a ha hz h5
  exact judge_0 w s hs a ha hz h1 h2 h3 h4 h5
end Go.Proofs.Ytllpikijakilnaa
