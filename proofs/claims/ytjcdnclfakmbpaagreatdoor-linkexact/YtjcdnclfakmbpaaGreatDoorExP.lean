import Derived.Test.YtjcdnclfakmbpaaGreatDoorExO
namespace Go.Proofs.YtjcdnclfakmbpaaGreatDoor
open Go.RowKit
set_option maxRecDepth 100000 in
set_option maxHeartbeats 8000000 in
set_option linter.unusedVariables false in
set_option linter.unusedSimpArgs false in
theorem step_taken0 (w0 w : World) (K : Knd) (wb : Nat) (Y : Pw.Wc) (A B : Lk) (es : List Fe) (xn bn st : Nat) (h : Wm w0 w K wb Y A A B B es xn bn st) (hd : Wd Y A B es xn bn st) (hst : st ≤ 700) (on pick : Int) (bp fp : Option Addr) (nb bc nf fc mine yours seq ack olife : Nat) (f0 f1 : Int) (hon : bits .and .i64 on 1 = 0) :
    Calls Tryz.prog 6 #[.pointer (some ⟨wb, 0, none⟩), .agg #[.int .i64 4, .int .i64 on, .slice bp nb bc, .int .i64 f0, .int .i64 f1, .int .u64 (mine : Int), .int .u64 (yours : Int), .int .u64 (seq : Int), .int .u64 (ack : Int), .slice fp nf fc, .int .i64 pick, .int .u64 (olife : Int)]] w fun e w' => e = .returned (.bool true) ∧ Ws w0 w' wb (st + 1) := by
  obtain ⟨w1, hw1⟩ : ∃ w1, w.alloc (.cells #[.int .i64 4, .int .i64 on, .slice bp nb bc, .int .i64 f0, .int .i64 f1, .int .u64 (mine : Int), .int .u64 (yours : Int), .int .u64 (seq : Int), .int .u64 (ack : Int), .slice fp nf fc, .int .i64 pick, .int .u64 (olife : Int)] 35) = w1 := ⟨_, rfl⟩
  have hb1 : Below w.heap.size w w1 := by rw [← hw1]; exact (Below.refl _ _).alloc (Nat.le_refl _) _
  have hk1 : w1.heap[w.heap.size]? = some (.cells #[.int .i64 4, .int .i64 on, .slice bp nb bc, .int .i64 f0, .int .i64 f1, .int .u64 (mine : Int), .int .u64 (yours : Int), .int .u64 (seq : Int), .int .u64 (ack : Int), .slice fp nf fc, .int .i64 pick, .int .u64 (olife : Int)] 35 (0, 0)) := by rw [← hw1]; exact heap_alloc_new _ _
  have mb1 : Kp (fun _ => False) K (ext K w.heap.size (9, 9)) w w1 := kp_below hb1 _ _ _
  have hBx : Bq w1 (ext K w.heap.size (9, 9)) w.heap.size #[.int .i64 4, .int .i64 on, .slice bp nb bc, .int .i64 f0, .int .i64 f1, .int .u64 (mine : Int), .int .u64 (yours : Int), .int .u64 (seq : Int), .int .u64 (ack : Int), .slice fp nf fc, .int .i64 pick, .int .u64 (olife : Int)] 35 := ⟨hk1, ext_new _ _ (Nat.le_refl _)⟩
  obtain ⟨K1, hK1⟩ : ∃ K1, ext K w.heap.size (9, 9) = K1 := ⟨_, rfl⟩
  rw [hK1] at mb1 hBx
  have HP1 := hide (h.k9 mb1 (fun _ e => e.elim))
  have HM1 := hide mb1
  have HBx := hide hBx
  obtain ⟨bx, hbx⟩ : ∃ bx, w.heap.size = bx := ⟨_, rfl⟩
  rw [hbx] at HBx hk1
  obtain ⟨x0, x1, x2, x3, x4, x5, x6, x7, x8, x9, x10, x11⟩ := sblk12 hk1
  have hob := C.lt_of_block hk1
  have HW1 := hide hw1
  have HD := hide hd
  have hBX := hide hbx
  obtain ⟨O, I, hwb, hkwb⟩ := HP1.out.blk
  obtain ⟨-, -, -, -, -, -, p6, p7, p8, p9, p10, -, -, -, -⟩ := cellW hwb
  have hpb := C.lt_of_block hwb
  clear hk1 hw1 hb1 mb1 hBx hK1 h hd hwb hbx
  obtain ⟨sa, scp, hsv, hsl, hsm⟩ := HP1.out.sent.form
  obtain ⟨q, hq⟩ : ∃ q, es.length = q := ⟨_, rfl⟩
  have HQ := hide hq
  have hql : q ≤ 100000 := by rw [← hq]; have := HD.out.el; omega
  rw [hq] at hsv hsl
  rw [hsv] at p10
  have HSv := hide hsv
  clear hq hsv
  by_cases hz : q = 0
  · subst hz
    go_enter Tryz.func6, Tryz.ntmps6
    go_upto_region 1 with (fail)
    rw [HW1.out]
    rw [hBX.out]
    go_wp2
    go_ret
    exact ⟨rfl, K1, Y, A, B, es, xn, bn, HP1.out.up, HD.out.up⟩
  have d0 : (0 : Int) < (q : Int) := by omega
  have HWi := hide (fun w => within_any w pick q (by omega) (by omega))
  obtain ⟨r, hr⟩ : ∃ r : Nat, (pick % (q : Int)).toNat = r := ⟨_, rfl⟩
  have hrq : r < q := by rw [← hr]; have := Int.emod_lt_of_pos pick (show (0 : Int) < (q : Int) by omega); have := Int.emod_nonneg pick (show (q : Int) ≠ 0 by omega); omega
  rw [hr] at HWi
  clear hr hz
  have r1 : (r : Int) < (q : Int) := by omega
  have r2 : ¬ (r : Int) < 0 := by omega
  have r3 : (0 : Int) ≤ (r : Int) := by omega
  obtain ⟨e, he⟩ : ∃ e, es[r]? = some e := ⟨_, List.getElem?_eq_getElem (by rw [HQ.out]; omega)⟩
  have hmem := List.mem_of_getElem? he
  have HCell : Hid (∀ (w' : World) (K' : Knd), Rk w' K' (2, 1) 33 7 (.slice sa q scp) q (sentC es) → ∃ g, sa = some ⟨g, 0, none⟩ ∧ ∀ (j : Nat) (v : Value), (feC e)[j]? = some v → w'.cell? ⟨g, r * 7 + j, none⟩ = some v) := fun w' K' hrk => by
    have hat := sentC_at es r e he
    rcases hrk.own.2 with ⟨_, e2⟩ | ⟨g, cap, cur, e1, _, hg, _, _, hsz, ht⟩
    · omega
    · cases e1
      refine ⟨g, rfl, fun j v hv => ?_⟩
      have h1 := hat j v hv
      have hj : j < 7 := (List.getElem?_eq_some_iff.1 hv).1
      rw [← ht, List.getElem?_take] at h1
      split at h1
      · simp only [World.cell?, hg]; simpa using h1
      · cases h1
  obtain ⟨g, hg, hce⟩ := HCell.out w1 K1 (by have := HP1.out.sent; rw [HSv.out, HQ.out] at this; exact this)
  subst hg
  have hbo := HP1.out.bod e hmem
  have hbl := HP1.out.bl e hmem
  obtain ⟨⟨fr, tt, mi, yo, sq, ak, bo⟩, sp, cb⟩ := e
  obtain ⟨nbo, hnbo⟩ : ∃ nbo, bo.length = nbo := ⟨_, rfl⟩
  have hfe : feC (⟨⟨fr, tt, mi, yo, sq, ak, bo⟩, sp, cb⟩ : Fe) = [.int .i64 fr, .int .i64 tt, .int .u64 (mi : Int), .int .u64 (yo : Int), .int .u64 (sq : Int), .int .u64 (ak : Int), .slice sp nbo cb] := by unfold feC; rw [hnbo]
  rw [hfe] at hce HCell
  have hbl2 : nbo ≤ 140737488351232 := by rw [← hnbo]; exact hbl
  have HSx : Hid (Sx w1 K1 sp bo) := ⟨hbo.by_, fun q e hn => ⟨(hbo.kind q e hn).1, Or.inr (hbo.kind q e hn).2⟩⟩
  have HNb := hide hnbo
  have y0 : w1.cell? ⟨g, r * 7, none⟩ = some (.int .i64 fr) := hce 0 _ rfl
  have y1 : w1.cell? ⟨g, r * 7 + 1, none⟩ = some (.int .i64 tt) := hce 1 _ rfl
  have y2 : w1.cell? ⟨g, r * 7 + 2, none⟩ = some (.int .u64 (mi : Int)) := hce 2 _ rfl
  have y3 : w1.cell? ⟨g, r * 7 + 3, none⟩ = some (.int .u64 (yo : Int)) := hce 3 _ rfl
  have y4 : w1.cell? ⟨g, r * 7 + 4, none⟩ = some (.int .u64 (sq : Int)) := hce 4 _ rfl
  have y5 : w1.cell? ⟨g, r * 7 + 5, none⟩ = some (.int .u64 (ak : Int)) := hce 5 _ rfl
  have y6 : w1.cell? ⟨g, r * 7 + 6, none⟩ = some (.slice sp nbo cb) := hce 6 _ rfl
  clear he hce hfe hnbo hbo hbl hmem
  have HMa : Hid (Kp (fun _ => False) K1 K1 w1 w1.drew) := (Kp.refl _ _ _).drew
  have HH : Hid (∀ w', Kp (fun _ => False) K1 K1 w1 w' → Calls Tryz.prog 26 #[.pointer (some ⟨wb, 0, none⟩), .int .i64 0, .agg #[.int .i64 fr, .int .i64 tt, .int .u64 (mi : Int), .int .u64 (yo : Int), .int .u64 (sq : Int), .int .u64 (ak : Int), .slice sp nbo cb]] w' fun e w'' => e = .returned (.bool true) ∧ Hid (Ws w0 w'' wb (st + 1)) ∧ Hid (w''.cell? ⟨wb, 10, none⟩ = some (.slice (some ⟨g, 0, none⟩) q scp) ∧ w''.cell? ⟨bx, 10, none⟩ = some (.int .i64 pick) ∧ ∀ (j : Nat) (v : Value), [.int .i64 fr, .int .i64 tt, .int .u64 (mi : Int), .int .u64 (yo : Int), .int .u64 (sq : Int), .int .u64 (ak : Int), .slice sp nbo cb][j]? = some v → w''.cell? ⟨g, r * 7 + j, none⟩ = some v)) := fun w' mw => by
    refine (hearW0 w0 w' K1 wb Y A B es xn bn st (HP1.out.k9 mw (fun _ e => e.elim)) HD.out.ra (by omega) (by have := HD.out.xl; omega) (by have := HD.out.tn; omega) fr tt mi yo sq ak nbo cb sp bo HNb.out hbl2 (HSx.out.kp mw (fun e => e) (fun e => e))).mono ?_
    rintro e w2 ⟨rfl, K2, A2, xs, t1, t2, t3, hh, hwm, hkp⟩
    have hd := HD.out
    obtain ⟨O2, I2, hwb2, -⟩ := hwm.blk
    obtain ⟨-, -, -, -, -, -, -, -, -, -, z10, -, -, -, -⟩ := cellW hwb2
    have z10' : w2.cell? ⟨wb, 10, none⟩ = some Y.sv := z10
    have hB2 := (HBx.out.kp mw (fun e => e)).kp hkp (by simp [PH])
    obtain ⟨-, -, -, -, -, -, -, -, -, -, b10, -⟩ := sblk12 hB2.blk
    have hs2 := hwm.sent
    have hs3 : Rk w2 K2 (2, 1) 33 7 (.slice (some ⟨g, 0, none⟩) q scp) q (sentC es) := by
      have h9 : Rk w2 K2 (2, 1) 33 7 Y.sv es.length (sentC es) := hs2
      rw [HSv.out, HQ.out] at h9; exact h9
    obtain ⟨g', hg', hce'⟩ := HCell.out w2 K2 hs3
    cases hg'
    exact ⟨rfl, ⟨K2, _, _, _, es, _, bn, hwm.up, ⟨(hh.rn hd.ra).1, hd.rb.up, by rw [(hh.rn hd.ra).2]; exact hd.wa, hd.wb, by show Y.turn + 1 ≤ st + 1; have := hd.tn; omega, by have := hd.xl; omega, by have := hd.bl; omega, by have := hd.el; omega, hd.y0, hd.y1, hd.c0, hd.c1⟩⟩, ⟨by rw [z10', HSv.out], b10, hce'⟩⟩
  go_enter Tryz.func6, Tryz.ntmps6
  go_upto_region 1 with (fail)
  rw [HW1.out]
  rw [hBX.out]
  go_upto_region 14 with (fail)
  go_region_held3 (fun w' => w'.cell? ⟨wb, 10, none⟩ = some (.slice (some ⟨g, 0, none⟩) q scp) ∧ w'.cell? ⟨bx, 10, none⟩ = some (.int .i64 pick) ∧ w'.cell? ⟨g, r * 7, none⟩ = some (.int .i64 fr) ∧ w'.cell? ⟨g, r * 7 + 1, none⟩ = some (.int .i64 tt) ∧ w'.cell? ⟨g, r * 7 + 2, none⟩ = some (.int .u64 (mi : Int)) ∧ w'.cell? ⟨g, r * 7 + 3, none⟩ = some (.int .u64 (yo : Int)) ∧ w'.cell? ⟨g, r * 7 + 4, none⟩ = some (.int .u64 (sq : Int)) ∧ w'.cell? ⟨g, r * 7 + 5, none⟩ = some (.int .u64 (ak : Int)) ∧ w'.cell? ⟨g, r * 7 + 6, none⟩ = some (.slice sp nbo cb)) (go_keep) (first | (go_at_call 10; refine (HWi.out _).mono ?_; rintro e wx ⟨rfl, rfl⟩) | (go_at_call 26; refine (HH.out _ HMa.out).mono ?_; rintro e w2 ⟨rfl, HR, HC2⟩; have v10 := HC2.out.1; have v11 := HC2.out.2.1; have v0 := HC2.out.2.2 0 _ rfl; have v1 := HC2.out.2.2 1 _ rfl; have v2 := HC2.out.2.2 2 _ rfl; have v3 := HC2.out.2.2 3 _ rfl; have v4 := HC2.out.2.2 4 _ rfl; have v5 := HC2.out.2.2 5 _ rfl; have v6 := HC2.out.2.2 6 _ rfl; rw [Nat.add_zero] at v0))
  go_wp2
  go_ret
  exact ⟨rfl, HR.out⟩
set_option maxRecDepth 100000 in
set_option maxHeartbeats 8000000 in
set_option linter.unusedVariables false in
set_option linter.unusedSimpArgs false in
theorem step_taken1 (w0 w : World) (K : Knd) (wb : Nat) (Y : Pw.Wc) (A B : Lk) (es : List Fe) (xn bn st : Nat) (h : Wm w0 w K wb Y A A B B es xn bn st) (hd : Wd Y A B es xn bn st) (hst : st ≤ 700) (on pick : Int) (bp fp : Option Addr) (nb bc nf fc mine yours seq ack olife : Nat) (f0 f1 : Int) (hon : bits .and .i64 on 1 = 1) :
    Calls Tryz.prog 6 #[.pointer (some ⟨wb, 0, none⟩), .agg #[.int .i64 4, .int .i64 on, .slice bp nb bc, .int .i64 f0, .int .i64 f1, .int .u64 (mine : Int), .int .u64 (yours : Int), .int .u64 (seq : Int), .int .u64 (ack : Int), .slice fp nf fc, .int .i64 pick, .int .u64 (olife : Int)]] w fun e w' => e = .returned (.bool true) ∧ Ws w0 w' wb (st + 1) := by
  obtain ⟨w1, hw1⟩ : ∃ w1, w.alloc (.cells #[.int .i64 4, .int .i64 on, .slice bp nb bc, .int .i64 f0, .int .i64 f1, .int .u64 (mine : Int), .int .u64 (yours : Int), .int .u64 (seq : Int), .int .u64 (ack : Int), .slice fp nf fc, .int .i64 pick, .int .u64 (olife : Int)] 35) = w1 := ⟨_, rfl⟩
  have hb1 : Below w.heap.size w w1 := by rw [← hw1]; exact (Below.refl _ _).alloc (Nat.le_refl _) _
  have hk1 : w1.heap[w.heap.size]? = some (.cells #[.int .i64 4, .int .i64 on, .slice bp nb bc, .int .i64 f0, .int .i64 f1, .int .u64 (mine : Int), .int .u64 (yours : Int), .int .u64 (seq : Int), .int .u64 (ack : Int), .slice fp nf fc, .int .i64 pick, .int .u64 (olife : Int)] 35 (0, 0)) := by rw [← hw1]; exact heap_alloc_new _ _
  have mb1 : Kp (fun _ => False) K (ext K w.heap.size (9, 9)) w w1 := kp_below hb1 _ _ _
  have hBx : Bq w1 (ext K w.heap.size (9, 9)) w.heap.size #[.int .i64 4, .int .i64 on, .slice bp nb bc, .int .i64 f0, .int .i64 f1, .int .u64 (mine : Int), .int .u64 (yours : Int), .int .u64 (seq : Int), .int .u64 (ack : Int), .slice fp nf fc, .int .i64 pick, .int .u64 (olife : Int)] 35 := ⟨hk1, ext_new _ _ (Nat.le_refl _)⟩
  obtain ⟨K1, hK1⟩ : ∃ K1, ext K w.heap.size (9, 9) = K1 := ⟨_, rfl⟩
  rw [hK1] at mb1 hBx
  have HP1 := hide (h.k9 mb1 (fun _ e => e.elim))
  have HM1 := hide mb1
  have HBx := hide hBx
  obtain ⟨bx, hbx⟩ : ∃ bx, w.heap.size = bx := ⟨_, rfl⟩
  rw [hbx] at HBx hk1
  obtain ⟨x0, x1, x2, x3, x4, x5, x6, x7, x8, x9, x10, x11⟩ := sblk12 hk1
  have hob := C.lt_of_block hk1
  have HW1 := hide hw1
  have HD := hide hd
  have hBX := hide hbx
  obtain ⟨O, I, hwb, hkwb⟩ := HP1.out.blk
  obtain ⟨-, -, -, -, -, -, p6, p7, p8, p9, p10, -, -, -, -⟩ := cellW hwb
  have hpb := C.lt_of_block hwb
  clear hk1 hw1 hb1 mb1 hBx hK1 h hd hwb hbx
  obtain ⟨sa, scp, hsv, hsl, hsm⟩ := HP1.out.sent.form
  obtain ⟨q, hq⟩ : ∃ q, es.length = q := ⟨_, rfl⟩
  have HQ := hide hq
  have hql : q ≤ 100000 := by rw [← hq]; have := HD.out.el; omega
  rw [hq] at hsv hsl
  rw [hsv] at p10
  have HSv := hide hsv
  clear hq hsv
  by_cases hz : q = 0
  · subst hz
    go_enter Tryz.func6, Tryz.ntmps6
    go_upto_region 1 with (fail)
    rw [HW1.out]
    rw [hBX.out]
    go_wp2
    go_ret
    exact ⟨rfl, K1, Y, A, B, es, xn, bn, HP1.out.up, HD.out.up⟩
  have d0 : (0 : Int) < (q : Int) := by omega
  have HWi := hide (fun w => within_any w pick q (by omega) (by omega))
  obtain ⟨r, hr⟩ : ∃ r : Nat, (pick % (q : Int)).toNat = r := ⟨_, rfl⟩
  have hrq : r < q := by rw [← hr]; have := Int.emod_lt_of_pos pick (show (0 : Int) < (q : Int) by omega); have := Int.emod_nonneg pick (show (q : Int) ≠ 0 by omega); omega
  rw [hr] at HWi
  clear hr hz
  have r1 : (r : Int) < (q : Int) := by omega
  have r2 : ¬ (r : Int) < 0 := by omega
  have r3 : (0 : Int) ≤ (r : Int) := by omega
  obtain ⟨e, he⟩ : ∃ e, es[r]? = some e := ⟨_, List.getElem?_eq_getElem (by rw [HQ.out]; omega)⟩
  have hmem := List.mem_of_getElem? he
  have HCell : Hid (∀ (w' : World) (K' : Knd), Rk w' K' (2, 1) 33 7 (.slice sa q scp) q (sentC es) → ∃ g, sa = some ⟨g, 0, none⟩ ∧ ∀ (j : Nat) (v : Value), (feC e)[j]? = some v → w'.cell? ⟨g, r * 7 + j, none⟩ = some v) := fun w' K' hrk => by
    have hat := sentC_at es r e he
    rcases hrk.own.2 with ⟨_, e2⟩ | ⟨g, cap, cur, e1, _, hg, _, _, hsz, ht⟩
    · omega
    · cases e1
      refine ⟨g, rfl, fun j v hv => ?_⟩
      have h1 := hat j v hv
      have hj : j < 7 := (List.getElem?_eq_some_iff.1 hv).1
      rw [← ht, List.getElem?_take] at h1
      split at h1
      · simp only [World.cell?, hg]; simpa using h1
      · cases h1
  obtain ⟨g, hg, hce⟩ := HCell.out w1 K1 (by have := HP1.out.sent; rw [HSv.out, HQ.out] at this; exact this)
  subst hg
  have hbo := HP1.out.bod e hmem
  have hbl := HP1.out.bl e hmem
  obtain ⟨⟨fr, tt, mi, yo, sq, ak, bo⟩, sp, cb⟩ := e
  obtain ⟨nbo, hnbo⟩ : ∃ nbo, bo.length = nbo := ⟨_, rfl⟩
  have hfe : feC (⟨⟨fr, tt, mi, yo, sq, ak, bo⟩, sp, cb⟩ : Fe) = [.int .i64 fr, .int .i64 tt, .int .u64 (mi : Int), .int .u64 (yo : Int), .int .u64 (sq : Int), .int .u64 (ak : Int), .slice sp nbo cb] := by unfold feC; rw [hnbo]
  rw [hfe] at hce HCell
  have hbl2 : nbo ≤ 140737488351232 := by rw [← hnbo]; exact hbl
  have HSx : Hid (Sx w1 K1 sp bo) := ⟨hbo.by_, fun q e hn => ⟨(hbo.kind q e hn).1, Or.inr (hbo.kind q e hn).2⟩⟩
  have HNb := hide hnbo
  have y0 : w1.cell? ⟨g, r * 7, none⟩ = some (.int .i64 fr) := hce 0 _ rfl
  have y1 : w1.cell? ⟨g, r * 7 + 1, none⟩ = some (.int .i64 tt) := hce 1 _ rfl
  have y2 : w1.cell? ⟨g, r * 7 + 2, none⟩ = some (.int .u64 (mi : Int)) := hce 2 _ rfl
  have y3 : w1.cell? ⟨g, r * 7 + 3, none⟩ = some (.int .u64 (yo : Int)) := hce 3 _ rfl
  have y4 : w1.cell? ⟨g, r * 7 + 4, none⟩ = some (.int .u64 (sq : Int)) := hce 4 _ rfl
  have y5 : w1.cell? ⟨g, r * 7 + 5, none⟩ = some (.int .u64 (ak : Int)) := hce 5 _ rfl
  have y6 : w1.cell? ⟨g, r * 7 + 6, none⟩ = some (.slice sp nbo cb) := hce 6 _ rfl
  clear he hce hfe hnbo hbo hbl hmem
  have HMa : Hid (Kp (fun _ => False) K1 K1 w1 w1.drew) := (Kp.refl _ _ _).drew
  have HH : Hid (∀ w', Kp (fun _ => False) K1 K1 w1 w' → Calls Tryz.prog 26 #[.pointer (some ⟨wb, 0, none⟩), .int .i64 1, .agg #[.int .i64 fr, .int .i64 tt, .int .u64 (mi : Int), .int .u64 (yo : Int), .int .u64 (sq : Int), .int .u64 (ak : Int), .slice sp nbo cb]] w' fun e w'' => e = .returned (.bool true) ∧ Hid (Ws w0 w'' wb (st + 1)) ∧ Hid (w''.cell? ⟨wb, 10, none⟩ = some (.slice (some ⟨g, 0, none⟩) q scp) ∧ w''.cell? ⟨bx, 10, none⟩ = some (.int .i64 pick) ∧ ∀ (j : Nat) (v : Value), [.int .i64 fr, .int .i64 tt, .int .u64 (mi : Int), .int .u64 (yo : Int), .int .u64 (sq : Int), .int .u64 (ak : Int), .slice sp nbo cb][j]? = some v → w''.cell? ⟨g, r * 7 + j, none⟩ = some v)) := fun w' mw => by
    refine (hearW1 w0 w' K1 wb Y A B es xn bn st (HP1.out.k9 mw (fun _ e => e.elim)) HD.out.rb (by omega) (by have := HD.out.xl; omega) (by have := HD.out.tn; omega) fr tt mi yo sq ak nbo cb sp bo HNb.out hbl2 (HSx.out.kp mw (fun e => e) (fun e => e))).mono ?_
    rintro e w2 ⟨rfl, K2, A2, xs, t1, t2, t3, hh, hwm, hkp⟩
    have hd := HD.out
    obtain ⟨O2, I2, hwb2, -⟩ := hwm.blk
    obtain ⟨-, -, -, -, -, -, -, -, -, -, z10, -, -, -, -⟩ := cellW hwb2
    have z10' : w2.cell? ⟨wb, 10, none⟩ = some Y.sv := z10
    have hB2 := (HBx.out.kp mw (fun e => e)).kp hkp (by simp [PH])
    obtain ⟨-, -, -, -, -, -, -, -, -, -, b10, -⟩ := sblk12 hB2.blk
    have hs2 := hwm.sent
    have hs3 : Rk w2 K2 (2, 1) 33 7 (.slice (some ⟨g, 0, none⟩) q scp) q (sentC es) := by
      have h9 : Rk w2 K2 (2, 1) 33 7 Y.sv es.length (sentC es) := hs2
      rw [HSv.out, HQ.out] at h9; exact h9
    obtain ⟨g', hg', hce'⟩ := HCell.out w2 K2 hs3
    cases hg'
    exact ⟨rfl, ⟨K2, _, _, _, es, _, bn, hwm.up, ⟨hd.ra.up, (hh.rn hd.rb).1, hd.wa, by rw [(hh.rn hd.rb).2]; exact hd.wb, by show Y.turn + 1 ≤ st + 1; have := hd.tn; omega, by have := hd.xl; omega, by have := hd.bl; omega, by have := hd.el; omega, hd.y0, hd.y1, hd.c0, hd.c1⟩⟩, ⟨by rw [z10', HSv.out], b10, hce'⟩⟩
  go_enter Tryz.func6, Tryz.ntmps6
  go_upto_region 1 with (fail)
  rw [HW1.out]
  rw [hBX.out]
  go_upto_region 14 with (fail)
  go_region_held3 (fun w' => w'.cell? ⟨wb, 10, none⟩ = some (.slice (some ⟨g, 0, none⟩) q scp) ∧ w'.cell? ⟨bx, 10, none⟩ = some (.int .i64 pick) ∧ w'.cell? ⟨g, r * 7, none⟩ = some (.int .i64 fr) ∧ w'.cell? ⟨g, r * 7 + 1, none⟩ = some (.int .i64 tt) ∧ w'.cell? ⟨g, r * 7 + 2, none⟩ = some (.int .u64 (mi : Int)) ∧ w'.cell? ⟨g, r * 7 + 3, none⟩ = some (.int .u64 (yo : Int)) ∧ w'.cell? ⟨g, r * 7 + 4, none⟩ = some (.int .u64 (sq : Int)) ∧ w'.cell? ⟨g, r * 7 + 5, none⟩ = some (.int .u64 (ak : Int)) ∧ w'.cell? ⟨g, r * 7 + 6, none⟩ = some (.slice sp nbo cb)) (go_keep) (first | (go_at_call 10; refine (HWi.out _).mono ?_; rintro e wx ⟨rfl, rfl⟩) | (go_at_call 26; refine (HH.out _ HMa.out).mono ?_; rintro e w2 ⟨rfl, HR, HC2⟩; have v10 := HC2.out.1; have v11 := HC2.out.2.1; have v0 := HC2.out.2.2 0 _ rfl; have v1 := HC2.out.2.2 1 _ rfl; have v2 := HC2.out.2.2 2 _ rfl; have v3 := HC2.out.2.2 3 _ rfl; have v4 := HC2.out.2.2 4 _ rfl; have v5 := HC2.out.2.2 5 _ rfl; have v6 := HC2.out.2.2 6 _ rfl; rw [Nat.add_zero] at v0))
  go_wp2
  go_ret
  exact ⟨rfl, HR.out⟩
end Go.Proofs.YtjcdnclfakmbpaaGreatDoor
