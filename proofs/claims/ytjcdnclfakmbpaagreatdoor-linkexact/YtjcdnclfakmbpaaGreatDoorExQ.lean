import Derived.Test.YtjcdnclfakmbpaaGreatDoorExO
namespace Go.Proofs.YtjcdnclfakmbpaaGreatDoor
open Go.RowKit
set_option maxRecDepth 100000 in
set_option maxHeartbeats 8000000 in
set_option linter.unusedVariables false in
set_option linter.unusedSimpArgs false in
theorem step_send0 (w0 w : World) (K : Knd) (wb : Nat) (Y : Pw.Wc) (A B : Lk) (es : List Fe) (xn bn st : Nat) (h : Wm w0 w K wb Y A A B B es xn bn st) (hd : Wd Y A B es xn bn st) (hst : st ≤ 700) (on pick : Int) (bp fp : Option Addr) (nb bc nf fc mine yours seq ack olife : Nat) (f0 f1 : Int) (hon : bits .and .i64 on 1 = 0) (bo : List Nat) (hnb : bo.length = nb) (hlen : nb ≤ 140737488351232) (hx : Sx w K bp bo) (hx0 : ∀ q, bp = some q → bo ≠ [] → q.block < w.heap.size ∧ K q.block = (0, 0)) :
    Calls Tryz.prog 6 #[.pointer (some ⟨wb, 0, none⟩), .agg #[.int .i64 1, .int .i64 on, .slice bp nb bc, .int .i64 f0, .int .i64 f1, .int .u64 (mine : Int), .int .u64 (yours : Int), .int .u64 (seq : Int), .int .u64 (ack : Int), .slice fp nf fc, .int .i64 pick, .int .u64 (olife : Int)]] w fun e w' => e = .returned (.bool true) ∧ Ws w0 w' wb (st + 1) := by
  obtain ⟨w1, hw1⟩ : ∃ w1, w.alloc (.cells #[.int .i64 1, .int .i64 on, .slice bp nb bc, .int .i64 f0, .int .i64 f1, .int .u64 (mine : Int), .int .u64 (yours : Int), .int .u64 (seq : Int), .int .u64 (ack : Int), .slice fp nf fc, .int .i64 pick, .int .u64 (olife : Int)] 35) = w1 := ⟨_, rfl⟩
  have hb1 : Below w.heap.size w w1 := by rw [← hw1]; exact (Below.refl _ _).alloc (Nat.le_refl _) _
  have hk1 : w1.heap[w.heap.size]? = some (.cells #[.int .i64 1, .int .i64 on, .slice bp nb bc, .int .i64 f0, .int .i64 f1, .int .u64 (mine : Int), .int .u64 (yours : Int), .int .u64 (seq : Int), .int .u64 (ack : Int), .slice fp nf fc, .int .i64 pick, .int .u64 (olife : Int)] 35 (0, 0)) := by rw [← hw1]; exact heap_alloc_new _ _
  have mb1 : Kp (fun _ => False) K (ext K w.heap.size (9, 9)) w w1 := kp_below hb1 _ _ _
  have hBx : Bq w1 (ext K w.heap.size (9, 9)) w.heap.size #[.int .i64 1, .int .i64 on, .slice bp nb bc, .int .i64 f0, .int .i64 f1, .int .u64 (mine : Int), .int .u64 (yours : Int), .int .u64 (seq : Int), .int .u64 (ack : Int), .slice fp nf fc, .int .i64 pick, .int .u64 (olife : Int)] 35 := ⟨hk1, ext_new _ _ (Nat.le_refl _)⟩
  obtain ⟨K1, hK1⟩ : ∃ K1, ext K w.heap.size (9, 9) = K1 := ⟨_, rfl⟩
  rw [hK1] at mb1 hBx
  have HP1 := hide (h.k9 mb1 (fun _ e => e.elim))
  have HM1 := hide mb1
  have HBx := hide hBx
  obtain ⟨bx, hbx⟩ : ∃ bx, w.heap.size = bx := ⟨_, rfl⟩
  rw [hbx] at HBx hk1
  obtain ⟨x0, x1, x2, x3, x4, x5, x6, x7, x8, x9, x10, x11⟩ := sblk12 hk1
  have hob := C.lt_of_block hk1
  have HW1 := hide hw1
  have HD := hide hd
  have hBX := hide hbx
  obtain ⟨O, I, hwb, hkwb⟩ := HP1.out.blk
  obtain ⟨-, -, -, -, -, -, p6, p7, p8, p9, p10, -, -, -, -⟩ := cellW hwb
  have hpb := C.lt_of_block hwb
  clear hk1 hw1 hb1 mb1 hBx hK1 h hd hwb hbx
  have hS1 := hx.kp HM1.out (fun e => e) (fun e => e)
  have HS1 := hide hS1
  have HX1 : Hid (∀ q, bp = some q → bo ≠ [] → q.block < w1.heap.size ∧ K1 q.block = (0, 0)) := fun q e hn => ⟨Nat.lt_of_lt_of_le (hx0 q e hn).1 HM1.out.size, (HM1.out.same _ (hx0 q e hn).1).trans (hx0 q e hn).2⟩
  have HG := hide (given_any w0 w1 K1 wb Y A A B B es xn bn st HP1.out (by have := HD.out.tn; omega) bp nb bc bo hS1.by_ hnb hlen (fun q e hn => ⟨(hS1.kind q e hn).1, by rcases (hS1.kind q e hn).2 with r | r <;> rw [r] <;> simp⟩))
  have HNb := hide hnb
  clear hx hx0 hS1 hnb
  go_enter Tryz.func6, Tryz.ntmps6
  go_upto_region 1 with (fail)
  rw [HW1.out]
  rw [hBX.out]
  go_wp2_with fail
  refine HG.out.mono ?_
  rintro e w2 ⟨K2, a5, c5, rfl, hW2, hG2, hkp2⟩
  obtain ⟨Y1, hY1⟩ : ∃ Y1 : Pw.Wc, { Y with turn := Y.turn + 1 } = Y1 := ⟨_, rfl⟩
  have ht1 : Y1.turn ≤ 200000 := by rw [← hY1]; show Y.turn + 1 ≤ 200000; have := HD.out.tn; omega
  rw [hY1] at hW2 hG2
  have HYe := hide hY1
  have HBx2 := hide (HBx.out.kp hkp2 (by simp [U.P8]))
  have HS2 := hide (HS1.out.kp hkp2 (by simp [U.P8]) (by simp [U.P8]))
  have HX2 : Hid (∀ q, bp = some q → bo ≠ [] → q.block < w2.heap.size ∧ K2 q.block = (0, 0)) := fun q e hn => ⟨Nat.lt_of_lt_of_le (HX1.out q e hn).1 hkp2.size, (hkp2.same _ (HX1.out q e hn).1).trans (HX1.out q e hn).2⟩
  have HW2 := hide hW2
  have HG2 := hide hG2
  obtain ⟨O2, I2, hwb2, -⟩ := hW2.blk
  clear p6 p7 p8 p9 p10 x0 x1 x2 x3 x4 x5 x6 x7 x8 x9 x10 x11
  obtain ⟨-, -, -, -, -, -, p6, p7, p8, p9, p10, -, -, -, -⟩ := cellW hwb2
  obtain ⟨ll, hll⟩ : ∃ ll, Y1.l0 = ll := ⟨_, rfl⟩
  obtain ⟨kk, hkk⟩ : ∃ kk, Y1.k0 = kk := ⟨_, rfl⟩
  obtain ⟨rv, hlx⟩ := hW2.la
  rw [hll] at p6 hlx
  have hby := hG2.by
  have HSn := hide (psend_x hlx HD.out.ra (by omega) a5 nb c5 bo HNb.out hby.1 (fun q e => by rcases hby.2 q e with r | r <;> rw [r] <;> simp))
  have HLl := hide hll
  have HKk := hide hkk
  clear hkp2 hW2 hG2 hwb2 hlx hby hll hkk HG HP1 HS1 HX1 HBx hY1
  go_wp2_with fail
  refine HSn.out.mono ?_
  rintro e w3 ⟨rfl, hla, hkp3⟩
  obtain ⟨K3, hK3⟩ : ∃ K3, ext K2 w2.heap.size (1, 0) = K3 := ⟨_, rfl⟩
  rw [hK3] at hla hkp3
  have HW3 := hide (HW2.out.tla hkp3 (by simp) (fun j => by simp) (by simp) (by simp) (by simp) (by simp) (by simp) (by simp) (by simp) (by simp) (fun j => by simp) (fun j => by simp) (by rw [HLl.out]; exact hla))
  have HG3 := hide (HG2.out.kp hkp3 (by simp) (by simp))
  have HS3 := hide (HS2.out.kp hkp3 (by simp) (by simp))
  have HX3 : Hid (∀ q, bp = some q → bo ≠ [] → q.block < w3.heap.size ∧ K3 q.block = (0, 0)) := fun q e hn => ⟨Nat.lt_of_lt_of_le (HX2.out q e hn).1 hkp3.size, (hkp3.same _ (HX2.out q e hn).1).trans (HX2.out q e hn).2⟩
  have HBx3 := hide (HBx2.out.kp hkp3 (by simp))
  obtain ⟨ze, hze⟩ : ∃ ze, sdE bo = ze := ⟨_, rfl⟩
  rw [hze]
  have HZe := hide hze
  clear hla hkp3 hK3 HW2 HG2 HS2 HX2 HBx2 HSn hze p6 p7 p8 p9 p10
  obtain ⟨O3, I3, hwb3, -⟩ := HW3.out.blk
  obtain ⟨-, -, -, -, -, -, p6, p7, p8, p9, p10, -, -, -, -⟩ := cellW hwb3
  rw [HKk.out] at p8
  obtain ⟨-, -, x2, -⟩ := sblk12 HBx3.out.blk
  have hob3 := HBx3.out.lt
  have hwl3 := C.lt_of_block hwb3
  clear hwb3
  have HMa : Hid (Kp (fun _ => False) K3 K3 w3 w3.drew) := (Kp.refl _ _ _).drew
  have HKe : Hid (∀ w', Kp (fun _ => False) K3 K3 w3 w' → Calls Tryz.prog 21 #[.pointer (some ⟨wb, 0, none⟩), .slice a5 nb c5, .slice bp nb bc] w' fun e w'' => e = .returned (.bool true) ∧ Hid (Wm w0 w'' K3 wb Y1 (sdL A bo) A B B es xn bn st) ∧ Hid (Bq w'' K3 bx #[.int .i64 1, .int .i64 on, .slice bp nb bc, .int .i64 f0, .int .i64 f1, .int .u64 (mine : Int), .int .u64 (yours : Int), .int .u64 (seq : Int), .int .u64 (ack : Int), .slice fp nf fc, .int .i64 pick, .int .u64 (olife : Int)] 35) ∧ Hid (Sx w'' K3 bp bo) ∧ Hid (∀ q, bp = some q → bo ≠ [] → q.block < w''.heap.size ∧ K3 q.block = (0, 0))) := fun w' mw => by
    refine (kept_any w0 w' K3 wb Y1 _ _ _ _ es xn bn st (HW3.out.k9 mw (fun _ e => e.elim)) ht1 a5 bp nb c5 bc bo (HG3.out.kp mw (fun e => e) (fun _ e => e)) (HS3.out.kp mw (fun e => e) (fun e => e)).by_ HNb.out hlen).mono ?_
    rintro e w'' ⟨he, hw, hkp⟩
    exact ⟨he, hw, (HBx3.out.kp mw (fun e => e)).kp hkp (by simp [P89]), (HS3.out.kp mw (fun e => e) (fun e => e)).kp hkp (by simp [P89]) (by simp [P89]), fun q e hn => ⟨Nat.lt_of_lt_of_le (HX3.out q e hn).1 (Nat.le_trans mw.size hkp.size), (HX3.out q e hn).2⟩⟩
  have HNu := hide (fun w => num_any w ze)
  have HDs : Hid (∀ w', Wm w0 w' K3 wb Y1 (sdL A bo) A B B es xn bn st → Sx w' K3 bp bo → (∀ q, bp = some q → bo ≠ [] → q.block < w'.heap.size ∧ K3 q.block = (0, 0)) → Bq w' K3 bx #[.int .i64 1, .int .i64 on, .slice bp nb bc, .int .i64 f0, .int .i64 f1, .int .u64 (mine : Int), .int .u64 (yours : Int), .int .u64 (seq : Int), .int .u64 (ack : Int), .slice fp nf fc, .int .i64 pick, .int .u64 (olife : Int)] 35 → Calls Tryz.prog 23 #[.pointer (some ⟨kk, 0, none⟩), .slice bp nb bc] w' fun e w'' => e = .returned (.int .i64 ze) ∧ Hid (Ws w0 w'' wb (st + 1)) ∧ Hid (w''.cell? ⟨bx, 2, none⟩ = some (.slice bp nb bc) ∧ w''.cell? ⟨wb, 8, none⟩ = some (.pointer (some ⟨kk, 0, none⟩)))) := fun w' hw hs hx hb => by
    obtain ⟨rv2, t2, hdk, htl⟩ := hw.ka
    rw [HKk.out] at hdk
    refine (dsend_x (by simp) hdk HD.out.ra (by omega) bp nb bc bo HNb.out hs.by_ (fun q e hn => by rw [(hx q e hn).2]; simp) htl).mono ?_
    rintro e w'' ⟨he, K5, hda, hkp⟩
    have hwm := hw.tka hkp (by simp) (fun j => by simp) (by simp) (by simp) (by simp) (by simp) (by simp) (by simp) (by simp) (fun j => by simp) (fun j => by simp) (by rw [HKk.out]; exact hda)
    have hb5 := hb.kp hkp (by simp)
    obtain ⟨-, -, b2, -⟩ := sblk12 hb5.blk
    obtain ⟨O5, I5, hwb5, -⟩ := hwm.blk
    obtain ⟨-, -, -, -, -, -, -, -, q8, q9, -⟩ := cellW hwb5
    have hd := HD.out
    rw [HKk.out] at q8
    refine ⟨by rw [he, HZe.out], ⟨K5, Y1, _, _, es, xn, bn, hwm.up, ?_⟩, ⟨b2, q8⟩⟩
    rw [← HYe.out]
    exact ⟨(sdL_rn hd.ra bo).1, hd.rb.up, by rw [(sdL_rn hd.ra bo).2]; exact hd.wa, hd.wb, by show Y.turn + 1 ≤ st + 1; have := hd.tn; omega, Nat.le_succ_of_le hd.xl, by have := hd.bl; omega, by have := hd.el; omega, hd.y0, hd.y1, hd.c0, hd.c1⟩
  have q1 : (ze == ze) = true := by simp
  go_upto_region 6 with (fail)
  go_region_held3 (fun w' => w'.cell? ⟨bx, 2, none⟩ = some (.slice bp nb bc) ∧ w'.cell? ⟨wb, 8, none⟩ = some (.pointer (some ⟨kk, 0, none⟩))) (go_keep) (first | (go_at_call 21; refine (HKe.out _ HMa.out).mono ?_; rintro e w4 ⟨rfl, HW4, HB4, HS4, HX4⟩; obtain ⟨-, -, x2n, -⟩ := sblk12 HB4.out.blk; obtain ⟨O4, I4, hwb4, -⟩ := HW4.out.blk; obtain ⟨-, -, -, -, -, -, -, -, p8n, p9n, -⟩ := cellW hwb4; rw [HKk.out] at p8n; clear hwb4) | (go_at_call 22; refine (HNu.out _).mono ?_; rintro e wx ⟨rfl, rfl⟩) | (go_at_call 23; refine (HDs.out _ HW4.out HS4.out HX4.out HB4.out).mono ?_; rintro e w5 ⟨rfl, HR5, HC5⟩; have v2 := HC5.out.1; have v8 := HC5.out.2))
  go_wp2
  go_ret
  exact ⟨rfl, HR5.out⟩
set_option maxRecDepth 100000 in
set_option maxHeartbeats 8000000 in
set_option linter.unusedVariables false in
set_option linter.unusedSimpArgs false in
theorem step_send1 (w0 w : World) (K : Knd) (wb : Nat) (Y : Pw.Wc) (A B : Lk) (es : List Fe) (xn bn st : Nat) (h : Wm w0 w K wb Y A A B B es xn bn st) (hd : Wd Y A B es xn bn st) (hst : st ≤ 700) (on pick : Int) (bp fp : Option Addr) (nb bc nf fc mine yours seq ack olife : Nat) (f0 f1 : Int) (hon : bits .and .i64 on 1 = 1) (bo : List Nat) (hnb : bo.length = nb) (hlen : nb ≤ 140737488351232) (hx : Sx w K bp bo) (hx0 : ∀ q, bp = some q → bo ≠ [] → q.block < w.heap.size ∧ K q.block = (0, 0)) :
    Calls Tryz.prog 6 #[.pointer (some ⟨wb, 0, none⟩), .agg #[.int .i64 1, .int .i64 on, .slice bp nb bc, .int .i64 f0, .int .i64 f1, .int .u64 (mine : Int), .int .u64 (yours : Int), .int .u64 (seq : Int), .int .u64 (ack : Int), .slice fp nf fc, .int .i64 pick, .int .u64 (olife : Int)]] w fun e w' => e = .returned (.bool true) ∧ Ws w0 w' wb (st + 1) := by
  obtain ⟨w1, hw1⟩ : ∃ w1, w.alloc (.cells #[.int .i64 1, .int .i64 on, .slice bp nb bc, .int .i64 f0, .int .i64 f1, .int .u64 (mine : Int), .int .u64 (yours : Int), .int .u64 (seq : Int), .int .u64 (ack : Int), .slice fp nf fc, .int .i64 pick, .int .u64 (olife : Int)] 35) = w1 := ⟨_, rfl⟩
  have hb1 : Below w.heap.size w w1 := by rw [← hw1]; exact (Below.refl _ _).alloc (Nat.le_refl _) _
  have hk1 : w1.heap[w.heap.size]? = some (.cells #[.int .i64 1, .int .i64 on, .slice bp nb bc, .int .i64 f0, .int .i64 f1, .int .u64 (mine : Int), .int .u64 (yours : Int), .int .u64 (seq : Int), .int .u64 (ack : Int), .slice fp nf fc, .int .i64 pick, .int .u64 (olife : Int)] 35 (0, 0)) := by rw [← hw1]; exact heap_alloc_new _ _
  have mb1 : Kp (fun _ => False) K (ext K w.heap.size (9, 9)) w w1 := kp_below hb1 _ _ _
  have hBx : Bq w1 (ext K w.heap.size (9, 9)) w.heap.size #[.int .i64 1, .int .i64 on, .slice bp nb bc, .int .i64 f0, .int .i64 f1, .int .u64 (mine : Int), .int .u64 (yours : Int), .int .u64 (seq : Int), .int .u64 (ack : Int), .slice fp nf fc, .int .i64 pick, .int .u64 (olife : Int)] 35 := ⟨hk1, ext_new _ _ (Nat.le_refl _)⟩
  obtain ⟨K1, hK1⟩ : ∃ K1, ext K w.heap.size (9, 9) = K1 := ⟨_, rfl⟩
  rw [hK1] at mb1 hBx
  have HP1 := hide (h.k9 mb1 (fun _ e => e.elim))
  have HM1 := hide mb1
  have HBx := hide hBx
  obtain ⟨bx, hbx⟩ : ∃ bx, w.heap.size = bx := ⟨_, rfl⟩
  rw [hbx] at HBx hk1
  obtain ⟨x0, x1, x2, x3, x4, x5, x6, x7, x8, x9, x10, x11⟩ := sblk12 hk1
  have hob := C.lt_of_block hk1
  have HW1 := hide hw1
  have HD := hide hd
  have hBX := hide hbx
  obtain ⟨O, I, hwb, hkwb⟩ := HP1.out.blk
  obtain ⟨-, -, -, -, -, -, p6, p7, p8, p9, p10, -, -, -, -⟩ := cellW hwb
  have hpb := C.lt_of_block hwb
  clear hk1 hw1 hb1 mb1 hBx hK1 h hd hwb hbx
  have hS1 := hx.kp HM1.out (fun e => e) (fun e => e)
  have HS1 := hide hS1
  have HX1 : Hid (∀ q, bp = some q → bo ≠ [] → q.block < w1.heap.size ∧ K1 q.block = (0, 0)) := fun q e hn => ⟨Nat.lt_of_lt_of_le (hx0 q e hn).1 HM1.out.size, (HM1.out.same _ (hx0 q e hn).1).trans (hx0 q e hn).2⟩
  have HG := hide (given_any w0 w1 K1 wb Y A A B B es xn bn st HP1.out (by have := HD.out.tn; omega) bp nb bc bo hS1.by_ hnb hlen (fun q e hn => ⟨(hS1.kind q e hn).1, by rcases (hS1.kind q e hn).2 with r | r <;> rw [r] <;> simp⟩))
  have HNb := hide hnb
  clear hx hx0 hS1 hnb
  go_enter Tryz.func6, Tryz.ntmps6
  go_upto_region 1 with (fail)
  rw [HW1.out]
  rw [hBX.out]
  go_wp2_with fail
  refine HG.out.mono ?_
  rintro e w2 ⟨K2, a5, c5, rfl, hW2, hG2, hkp2⟩
  obtain ⟨Y1, hY1⟩ : ∃ Y1 : Pw.Wc, { Y with turn := Y.turn + 1 } = Y1 := ⟨_, rfl⟩
  have ht1 : Y1.turn ≤ 200000 := by rw [← hY1]; show Y.turn + 1 ≤ 200000; have := HD.out.tn; omega
  rw [hY1] at hW2 hG2
  have HYe := hide hY1
  have HBx2 := hide (HBx.out.kp hkp2 (by simp [U.P8]))
  have HS2 := hide (HS1.out.kp hkp2 (by simp [U.P8]) (by simp [U.P8]))
  have HX2 : Hid (∀ q, bp = some q → bo ≠ [] → q.block < w2.heap.size ∧ K2 q.block = (0, 0)) := fun q e hn => ⟨Nat.lt_of_lt_of_le (HX1.out q e hn).1 hkp2.size, (hkp2.same _ (HX1.out q e hn).1).trans (HX1.out q e hn).2⟩
  have HW2 := hide hW2
  have HG2 := hide hG2
  obtain ⟨O2, I2, hwb2, -⟩ := hW2.blk
  clear p6 p7 p8 p9 p10 x0 x1 x2 x3 x4 x5 x6 x7 x8 x9 x10 x11
  obtain ⟨-, -, -, -, -, -, p6, p7, p8, p9, p10, -, -, -, -⟩ := cellW hwb2
  obtain ⟨ll, hll⟩ : ∃ ll, Y1.l1 = ll := ⟨_, rfl⟩
  obtain ⟨kk, hkk⟩ : ∃ kk, Y1.k1 = kk := ⟨_, rfl⟩
  obtain ⟨rv, hlx⟩ := hW2.lb
  rw [hll] at p7 hlx
  have hby := hG2.by
  have HSn := hide (psend_x hlx HD.out.rb (by omega) a5 nb c5 bo HNb.out hby.1 (fun q e => by rcases hby.2 q e with r | r <;> rw [r] <;> simp))
  have HLl := hide hll
  have HKk := hide hkk
  clear hkp2 hW2 hG2 hwb2 hlx hby hll hkk HG HP1 HS1 HX1 HBx hY1
  go_wp2_with fail
  refine HSn.out.mono ?_
  rintro e w3 ⟨rfl, hla, hkp3⟩
  obtain ⟨K3, hK3⟩ : ∃ K3, ext K2 w2.heap.size (1, 1) = K3 := ⟨_, rfl⟩
  rw [hK3] at hla hkp3
  have HW3 := hide (HW2.out.tlb hkp3 (by simp) (fun j => by simp) (by simp) (by simp) (by simp) (by simp) (by simp) (by simp) (by simp) (by simp) (fun j => by simp) (fun j => by simp) (by rw [HLl.out]; exact hla))
  have HG3 := hide (HG2.out.kp hkp3 (by simp) (by simp))
  have HS3 := hide (HS2.out.kp hkp3 (by simp) (by simp))
  have HX3 : Hid (∀ q, bp = some q → bo ≠ [] → q.block < w3.heap.size ∧ K3 q.block = (0, 0)) := fun q e hn => ⟨Nat.lt_of_lt_of_le (HX2.out q e hn).1 hkp3.size, (hkp3.same _ (HX2.out q e hn).1).trans (HX2.out q e hn).2⟩
  have HBx3 := hide (HBx2.out.kp hkp3 (by simp))
  obtain ⟨ze, hze⟩ : ∃ ze, sdE bo = ze := ⟨_, rfl⟩
  rw [hze]
  have HZe := hide hze
  clear hla hkp3 hK3 HW2 HG2 HS2 HX2 HBx2 HSn hze p6 p7 p8 p9 p10
  obtain ⟨O3, I3, hwb3, -⟩ := HW3.out.blk
  obtain ⟨-, -, -, -, -, -, p6, p7, p8, p9, p10, -, -, -, -⟩ := cellW hwb3
  rw [HKk.out] at p9
  obtain ⟨-, -, x2, -⟩ := sblk12 HBx3.out.blk
  have hob3 := HBx3.out.lt
  have hwl3 := C.lt_of_block hwb3
  clear hwb3
  have HMa : Hid (Kp (fun _ => False) K3 K3 w3 w3.drew) := (Kp.refl _ _ _).drew
  have HKe : Hid (∀ w', Kp (fun _ => False) K3 K3 w3 w' → Calls Tryz.prog 21 #[.pointer (some ⟨wb, 0, none⟩), .slice a5 nb c5, .slice bp nb bc] w' fun e w'' => e = .returned (.bool true) ∧ Hid (Wm w0 w'' K3 wb Y1 A A (sdL B bo) B es xn bn st) ∧ Hid (Bq w'' K3 bx #[.int .i64 1, .int .i64 on, .slice bp nb bc, .int .i64 f0, .int .i64 f1, .int .u64 (mine : Int), .int .u64 (yours : Int), .int .u64 (seq : Int), .int .u64 (ack : Int), .slice fp nf fc, .int .i64 pick, .int .u64 (olife : Int)] 35) ∧ Hid (Sx w'' K3 bp bo) ∧ Hid (∀ q, bp = some q → bo ≠ [] → q.block < w''.heap.size ∧ K3 q.block = (0, 0))) := fun w' mw => by
    refine (kept_any w0 w' K3 wb Y1 _ _ _ _ es xn bn st (HW3.out.k9 mw (fun _ e => e.elim)) ht1 a5 bp nb c5 bc bo (HG3.out.kp mw (fun e => e) (fun _ e => e)) (HS3.out.kp mw (fun e => e) (fun e => e)).by_ HNb.out hlen).mono ?_
    rintro e w'' ⟨he, hw, hkp⟩
    exact ⟨he, hw, (HBx3.out.kp mw (fun e => e)).kp hkp (by simp [P89]), (HS3.out.kp mw (fun e => e) (fun e => e)).kp hkp (by simp [P89]) (by simp [P89]), fun q e hn => ⟨Nat.lt_of_lt_of_le (HX3.out q e hn).1 (Nat.le_trans mw.size hkp.size), (HX3.out q e hn).2⟩⟩
  have HNu := hide (fun w => num_any w ze)
  have HDs : Hid (∀ w', Wm w0 w' K3 wb Y1 A A (sdL B bo) B es xn bn st → Sx w' K3 bp bo → (∀ q, bp = some q → bo ≠ [] → q.block < w'.heap.size ∧ K3 q.block = (0, 0)) → Bq w' K3 bx #[.int .i64 1, .int .i64 on, .slice bp nb bc, .int .i64 f0, .int .i64 f1, .int .u64 (mine : Int), .int .u64 (yours : Int), .int .u64 (seq : Int), .int .u64 (ack : Int), .slice fp nf fc, .int .i64 pick, .int .u64 (olife : Int)] 35 → Calls Tryz.prog 23 #[.pointer (some ⟨kk, 0, none⟩), .slice bp nb bc] w' fun e w'' => e = .returned (.int .i64 ze) ∧ Hid (Ws w0 w'' wb (st + 1)) ∧ Hid (w''.cell? ⟨bx, 2, none⟩ = some (.slice bp nb bc) ∧ w''.cell? ⟨wb, 9, none⟩ = some (.pointer (some ⟨kk, 0, none⟩)))) := fun w' hw hs hx hb => by
    obtain ⟨rv2, t2, hdk, htl⟩ := hw.kb
    rw [HKk.out] at hdk
    refine (dsend_x (by simp) hdk HD.out.rb (by omega) bp nb bc bo HNb.out hs.by_ (fun q e hn => by rw [(hx q e hn).2]; simp) htl).mono ?_
    rintro e w'' ⟨he, K5, hda, hkp⟩
    have hwm := hw.tkb hkp (by simp) (fun j => by simp) (by simp) (by simp) (by simp) (by simp) (by simp) (by simp) (by simp) (fun j => by simp) (fun j => by simp) (by rw [HKk.out]; exact hda)
    have hb5 := hb.kp hkp (by simp)
    obtain ⟨-, -, b2, -⟩ := sblk12 hb5.blk
    obtain ⟨O5, I5, hwb5, -⟩ := hwm.blk
    obtain ⟨-, -, -, -, -, -, -, -, q8, q9, -⟩ := cellW hwb5
    have hd := HD.out
    rw [HKk.out] at q9
    refine ⟨by rw [he, HZe.out], ⟨K5, Y1, _, _, es, xn, bn, hwm.up, ?_⟩, ⟨b2, q9⟩⟩
    rw [← HYe.out]
    exact ⟨hd.ra.up, (sdL_rn hd.rb bo).1, hd.wa, by rw [(sdL_rn hd.rb bo).2]; exact hd.wb, by show Y.turn + 1 ≤ st + 1; have := hd.tn; omega, Nat.le_succ_of_le hd.xl, by have := hd.bl; omega, by have := hd.el; omega, hd.y0, hd.y1, hd.c0, hd.c1⟩
  have q1 : (ze == ze) = true := by simp
  go_upto_region 6 with (fail)
  go_region_held3 (fun w' => w'.cell? ⟨bx, 2, none⟩ = some (.slice bp nb bc) ∧ w'.cell? ⟨wb, 9, none⟩ = some (.pointer (some ⟨kk, 0, none⟩))) (go_keep) (first | (go_at_call 21; refine (HKe.out _ HMa.out).mono ?_; rintro e w4 ⟨rfl, HW4, HB4, HS4, HX4⟩; obtain ⟨-, -, x2n, -⟩ := sblk12 HB4.out.blk; obtain ⟨O4, I4, hwb4, -⟩ := HW4.out.blk; obtain ⟨-, -, -, -, -, -, -, -, p8n, p9n, -⟩ := cellW hwb4; rw [HKk.out] at p9n; clear hwb4) | (go_at_call 22; refine (HNu.out _).mono ?_; rintro e wx ⟨rfl, rfl⟩) | (go_at_call 23; refine (HDs.out _ HW4.out HS4.out HX4.out HB4.out).mono ?_; rintro e w5 ⟨rfl, HR5, HC5⟩; have v2 := HC5.out.1; have v8 := HC5.out.2))
  go_wp2
  go_ret
  exact ⟨rfl, HR5.out⟩
end Go.Proofs.YtjcdnclfakmbpaaGreatDoor
