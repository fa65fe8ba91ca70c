import Derived.Test.YtjcdnclfakmbpaaGreatDoorExO
namespace Go.Proofs.YtjcdnclfakmbpaaGreatDoor
open Go.RowKit
set_option maxRecDepth 100000 in
set_option maxHeartbeats 8000000 in
set_option linter.unusedVariables false in
set_option linter.unusedSimpArgs false in
theorem step_taken0 (w0 w : World) (K : Knd) (wb : Nat) (Y : Pw.Wc) (A B : Lk) (es : List Fe) (xn bn st : Nat) (h : Wm w0 w K wb Y A A B B es xn bn st) (hd : Wd Y A B es xn bn st) (hst : st ≤ 700) (on pick : Int) (bp fp : Option Addr) (nb bc nf fc mine yours seq ack olife : Nat) (f0 f1 : Int) (hon : bits .and .i64 on 1 = 0) :
    Calls Tryz.prog 6 #[.pointer (some ⟨wb, 0, none⟩), .agg #[.int .i64 4, .int .i64 on, .slice bp nb bc, .int .i64 f0, .int .i64 f1, .int .u64 (mine : Int), .int .u64 (yours : Int), .int .u64 (seq : Int), .int .u64 (ack : Int), .slice fp nf fc, .int .i64 pick, .int .u64 (olife : Int)]] w fun e w' => e = .returned (.bool true) ∧ Ws w0 w' wb (st + 1) := by
  obtain ⟨w1, hw1⟩ : ∃ w1, w.alloc (.cells #[.int .i64 4, .int .i64 on, .slice bp nb bc, .int .i64 f0, .int .i64 f1, .int .u64 (mine : Int), .int .u64 (yours : Int), .int .u64 (seq : Int), .int .u64 (ack : Int), .slice fp nf fc, .int .i64 pick, .int .u64 (olife : Int)] 35) = w1 := ⟨_, rfl⟩
  have hb1 : Below w.heap.size w w1 := by rw [← hw1]; exact (Below.refl _ _).alloc (Nat.le_refl _) _
  have hk1 : w1.heap[w.heap.size]? = some (.cells #[.int .i64 4, .int .i64 on, .slice bp nb bc, .int .i64 f0, .int .i64 f1, .int .u64 (mine : Int), .int .u64 (yours : Int), .int .u64 (seq : Int), .int .u64 (ack : Int), .slice fp nf fc, .int .i64 pick, .int .u64 (olife : Int)] 35 (0, 0)) := by rw [← hw1]; exact heap_alloc_new _ _
  have mb1 : Kp (fun _ => False) K (ext K w.heap.size (9, 9)) w w1 := kp_below hb1 _ _ _
  have hBx : Bq w1 (ext K w.heap.size (9, 9)) w.heap.size #[.int .i64 4, .int .i64 on, .slice bp nb bc, .int .i64 f0, .int .i64 f1, .int .u64 (mine : Int), .int .u64 (yours : Int), .int .u64 (seq : Int), .int .u64 (ack : Int), .slice fp nf fc, .int .i64 pick, .int .u64 (olife : Int)] 35 := ⟨hk1, ext_new _ _ (Nat.le_refl _)⟩
  obtain ⟨K1, hK1⟩ : ∃ K1, ext K w.heap.size (9, 9) = K1 := ⟨_, rfl⟩
  rw [hK1] at mb1 hBx
  have HP1 := hide (h.k9 mb1 (fun _ e => e.elim))
  have HM1 := hide mb1
  have HBx := hide hBx
  obtain ⟨bx, hbx⟩ : ∃ bx, w.heap.size = bx := ⟨_, rfl⟩
  rw [hbx] at HBx hk1
  obtain ⟨x0, x1, x2, x3, x4, x5, x6, x7, x8, x9, x10, x11⟩ := sblk12 hk1
  have hob := C.lt_of_block hk1
  have HW1 := hide hw1
  have HD := hide hd
  have hBX := hide hbx
  obtain ⟨O, I, hwb, hkwb⟩ := HP1.out.blk
  obtain ⟨-, -, -, -, -, -, p6, p7, p8, p9, p10, -, -, -, -⟩ := cellW hwb
  have hpb := C.lt_of_block hwb
  clear hk1 hw1 hb1 mb1 hBx hK1 h hd hwb hbx
  obtain ⟨sa, scp, hsv, hsl, hsm⟩ := HP1.out.sent.form
  obtain ⟨q, hq⟩ : ∃ q, es.length = q := ⟨_, rfl⟩
  have HQ := hide hq
  have hql : q ≤ 100000 := by rw [← hq]; have := HD.out.el; omega
  rw [hq] at hsv hsl
  rw [hsv] at p10
  have HSv := hide hsv
  clear hq hsv
  by_cases hz : q = 0
  · subst hz
    go_enter Tryz.func6, Tryz.ntmps6
    go_upto_region 1 with (fail)
    rw [HW1.out]
    rw [hBX.out]
    go_wp2
    go_ret
    exact ⟨rfl, K1, Y, A, B, es, xn, bn, HP1.out.up, HD.out.up⟩
  have d0 : (0 : Int) < (q : Int) := by omega
  have HWi := hide (fun w => within_any w pick q (by omega) (by omega))
  obtain ⟨r, hr⟩ : ∃ r : Nat, (pick % (q : Int)).toNat = r := ⟨_, rfl⟩
  have hrq : r < q := by rw [← hr]; have := Int.emod_lt_of_pos pick (show (0 : Int) < (q : Int) by omega); have := Int.emod_nonneg pick (show (q : Int) ≠ 0 by omega); omega
  rw [hr] at HWi
  clear hr hz
  have r1 : (r : Int) < (q : Int) := by omega
  have r2 : ¬ (r : Int) < 0 := by omega
  have r3 : (0 : Int) ≤ (r : Int) := by omega
  obtain ⟨e, he⟩ : ∃ e, es[r]? = some e := ⟨_, List.getElem?_eq_getElem (by rw [HQ.out]; omega)⟩
  have hmem := List.mem_of_getElem? he
  have HCell : Hid (∀ (w' : World) (K' : Knd), Rk w' K' (2, 1) 33 7 (.slice sa q scp) q (sentC es) → ∃ g, sa = some ⟨g, 0, none⟩ ∧ ∀ (j : Nat) (v : Value), (feC e)[j]? = some v → w'.cell? ⟨g, r * 7 + j, none⟩ = some v) := fun w' K' hrk => by
    have hat := sentC_at es r e he
    rcases hrk.own.2 with ⟨_, e2⟩ | ⟨g, cap, cur, e1, _, hg, _, _, hsz, ht⟩
    · omega
    · cases e1
      refine ⟨g, rfl, fun j v hv => ?_⟩
      have h1 := hat j v hv
      have hj : j < 7 := (List.getElem?_eq_some_iff.1 hv).1
      rw [← ht, List.getElem?_take] at h1
      split at h1
      · simp only [World.cell?, hg]; simpa using h1
      · cases h1
  obtain ⟨g, hg, hce⟩ := HCell.out w1 K1 (by have := HP1.out.sent; rw [HSv.out, HQ.out] at this; exact this)
  subst hg
  have hbo := HP1.out.bod e hmem
  have hbl := HP1.out.bl e hmem
  obtain ⟨⟨fr, tt, mi, yo, sq, ak, bo⟩, sp, cb⟩ := e
  obtain ⟨nbo, hnbo⟩ : ∃ nbo, bo.length = nbo := ⟨_, rfl⟩
  have hfe : feC (⟨⟨fr, tt, mi, yo, sq, ak, bo⟩, sp, cb⟩ : Fe) = [.int .i64 fr, .int .i64 tt, .int .u64 (mi : Int), .int .u64 (yo : Int), .int .u64 (sq : Int), .int .u64 (ak : Int), .slice sp nbo cb] := by unfold feC; rw [hnbo]
  rw [hfe] at hce HCell
  have hbl2 : nbo ≤ 140737488351232 := by rw [← hnbo]; exact hbl
  have HSx : Hid (Sx w1 K1 sp bo) := ⟨hbo.by_, fun q e hn => ⟨(hbo.kind q e hn).1, Or.inr (hbo.kind q e hn).2⟩⟩
  have HNb := hide hnbo
  have y0 : w1.cell? ⟨g, r * 7, none⟩ = some (.int .i64 fr) := hce 0 _ rfl
  have y1 : w1.cell? ⟨g, r * 7 + 1, none⟩ = some (.int .i64 tt) := hce 1 _ rfl
  have y2 : w1.cell? ⟨g, r * 7 + 2, none⟩ = some (.int .u64 (mi : Int)) := hce 2 _ rfl
  have y3 : w1.cell? ⟨g, r * 7 + 3, none⟩ = some (.int .u64 (yo : Int)) := hce 3 _ rfl
  have y4 : w1.cell? ⟨g, r * 7 + 4, none⟩ = some (.int .u64 (sq : Int)) := hce 4 _ rfl
  have y5 : w1.cell? ⟨g, r * 7 + 5, none⟩ = some (.int .u64 (ak : Int)) := hce 5 _ rfl
  have y6 : w1.cell? ⟨g, r * 7 + 6, none⟩ = some (.slice sp nbo cb) := hce 6 _ rfl
  clear he hce hfe hnbo hbo hbl hmem
  have HMa : Hid (Kp (fun _ => False) K1 K1 w1 w1.drew) := (Kp.refl _ _ _).drew
  have HH : Hid (∀ w', Kp (fun _ => False) K1 K1 w1 w' → Calls Tryz.prog 26 #[.pointer (some ⟨wb, 0, none⟩), .int .i64 0, .agg #[.int .i64 fr, .int .i64 tt, .int .u64 (mi : Int), .int .u64 (yo : Int), .int .u64 (sq : Int), .int .u64 (ak : Int), .slice sp nbo cb]] w' fun e w'' => e = .returned (.bool true) ∧ Hid (Ws w0 w'' wb (st + 1)) ∧ Hid (w''.cell? ⟨wb, 10, none⟩ = some (.slice (some ⟨g, 0, none⟩) q scp) ∧ w''.cell? ⟨bx, 10, none⟩ = some (.int .i64 pick) ∧ ∀ (j : Nat) (v : Value), [.int .i64 fr, .int .i64 tt, .int .u64 (mi : Int), .int .u64 (yo : Int), .int .u64 (sq : Int), .int .u64 (ak : Int), .slice sp nbo cb][j]? = some v → w''.cell? ⟨g, r * 7 + j, none⟩ = some v)) := fun w' mw => by
    refine (hearW0 w0 w' K1 wb Y A B es xn bn st (HP1.out.k9 mw (fun _ e => e.elim)) HD.out.ra (by omega) (by have := HD.out.xl; omega) (by have := HD.out.tn; omega) fr tt mi yo sq ak nbo cb sp bo HNb.out hbl2 (HSx.out.kp mw (fun e => e) (fun e => e))).mono ?_
    rintro e w2 ⟨rfl, K2, A2, xs, t1, t2, t3, hh, hwm, hkp⟩
    have hd := HD.out
    obtain ⟨O2, I2, hwb2, -⟩ := hwm.blk
    obtain ⟨-, -, -, -, -, -, -, -, -, -, z10, -, -, -, -⟩ := cellW hwb2
    have z10' : w2.cell? ⟨wb, 10, none⟩ = some Y.sv := z10
    have hB2 := (HBx.out.kp mw (fun e => e)).kp hkp (by simp [PH])
    obtain ⟨-, -, -, -, -, -, -, -, -, -, b10, -⟩ := sblk12 hB2.blk
    have hs2 := hwm.sent
    have hs3 : Rk w2 K2 (2, 1) 33 7 (.slice (some ⟨g, 0, none⟩) q scp) q (sentC es) := by
      have h9 : Rk w2 K2 (2, 1) 33 7 Y.sv es.length (sentC es) := hs2
      rw [HSv.out, HQ.out] at h9; exact h9
    obtain ⟨g', hg', hce'⟩ := HCell.out w2 K2 hs3
    cases hg'
    exact ⟨rfl, ⟨K2, _, _, _, es, _, bn, hwm.up, ⟨(hh.rn hd.ra).1, hd.rb.up, by rw [(hh.rn hd.ra).2]; exact hd.wa, hd.wb, by show Y.turn + 1 ≤ st + 1; have := hd.tn; omega, by have := hd.xl; omega, by have := hd.bl; omega, by have := hd.el; omega, hd.y0, hd.y1, hd.c0, hd.c1⟩⟩, ⟨by rw [z10', HSv.out], b10, hce'⟩⟩
  go_enter Tryz.func6, Tryz.ntmps6
  go_upto_region 1 with (fail)
  rw [HW1.out]
  rw [hBX.out]
  go_upto_region 14 with (fail)
  go_region_held3 (fun w' => w'.cell? ⟨wb, 10, none⟩ = some (.slice (some ⟨g, 0, none⟩) q scp) ∧ w'.cell? ⟨bx, 10, none⟩ = some (.int .i64 pick) ∧ w'.cell? ⟨g, r * 7, none⟩ = some (.int .i64 fr) ∧ w'.cell? ⟨g, r * 7 + 1, none⟩ = some (.int .i64 tt) ∧ w'.cell? ⟨g, r * 7 + 2, none⟩ = some (.int .u64 (mi : Int)) ∧ w'.cell? ⟨g, r * 7 + 3, none⟩ = some (.int .u64 (yo : Int)) ∧ w'.cell? ⟨g, r * 7 + 4, none⟩ = some (.int .u64 (sq : Int)) ∧ w'.cell? ⟨g, r * 7 + 5, none⟩ = some (.int .u64 (ak : Int)) ∧ w'.cell? ⟨g, r * 7 + 6, none⟩ = some (.slice sp nbo cb)) (go_keep) (first | (go_at_call 10; refine (HWi.out _).mono ?_; rintro e wx ⟨rfl, rfl⟩) | (go_at_call 26; refine (HH.out _ HMa.out).mono ?_; rintro e w2 ⟨rfl, HR, HC2⟩; have v10 := HC2.out.1; have v11 := HC2.out.2.1; have v0 := HC2.out.2.2 0 _ rfl; have v1 := HC2.out.2.2 1 _ rfl; have v2 := HC2.out.2.2 2 _ rfl; have v3 := HC2.out.2.2 3 _ rfl; have v4 := HC2.out.2.2 4 _ rfl; have v5 := HC2.out.2.2 5 _ rfl; have v6 := HC2.out.2.2 6 _ rfl; rw [Nat.add_zero] at v0))
  go_wp2
  go_ret
  exact ⟨rfl, HR.out⟩
set_option maxRecDepth 100000 in
set_option maxHeartbeats 8000000 in
set_option linter.unusedVariables false in
set_option linter.unusedSimpArgs false in
theorem step_taken1 (w0 w : World) (K : Knd) (wb : Nat) (Y : Pw.Wc) (A B : Lk) (es : List Fe) (xn bn st : Nat) (h : Wm w0 w K wb Y A A B B es xn bn st) (hd : Wd Y A B es xn bn st) (hst : st ≤ 700) (on pick : Int) (bp fp : Option Addr) (nb bc nf fc mine yours seq ack olife : Nat) (f0 f1 : Int) (hon : bits .and .i64 on 1 = 1) :
    Calls Tryz.prog 6 #[.pointer (some ⟨wb, 0, none⟩), .agg #[.int .i64 4, .int .i64 on, .slice bp nb bc, .int .i64 f0, .int .i64 f1, .int .u64 (mine : Int), .int .u64 (yours : Int), .int .u64 (seq : Int), .int .u64 (ack : Int), .slice fp nf fc, .int .i64 pick, .int .u64 (olife : Int)]] w fun e w' => e = .returned (.bool true) ∧ Ws w0 w' wb (st + 1) := by
  obtain ⟨w1, hw1⟩ : ∃ w1, w.alloc (.cells #[.int .i64 4, .int .i64 on, .slice bp nb bc, .int .i64 f0, .int .i64 f1, .int .u64 (mine : Int), .int .u64 (yours : Int), .int .u64 (seq : Int), .int .u64 (ack : Int), .slice fp nf fc, .int .i64 pick, .int .u64 (olife : Int)] 35) = w1 := ⟨_, rfl⟩
  have hb1 : Below w.heap.size w w1 := by rw [← hw1]; exact (Below.refl _ _).alloc (Nat.le_refl _) _
  have hk1 : w1.heap[w.heap.size]? = some (.cells #[.int .i64 4, .int .i64 on, .slice bp nb bc, .int .i64 f0, .int .i64 f1, .int .u64 (mine : Int), .int .u64 (yours : Int), .int .u64 (seq : Int), .int .u64 (ack : Int), .slice fp nf fc, .int .i64 pick, .int .u64 (olife : Int)] 35 (0, 0)) := by rw [← hw1]; exact heap_alloc_new _ _
  have mb1 : Kp (fun _ => False) K (ext K w.heap.size (9, 9)) w w1 := kp_below hb1 _ _ _
  have hBx : Bq w1 (ext K w.heap.size (9, 9)) w.heap.size #[.int .i64 4, .int .i64 on, .slice bp nb bc, .int .i64 f0, .int .i64 f1, .int .u64 (mine : Int), .int .u64 (yours : Int), .int .u64 (seq : Int), .int .u64 (ack : Int), .slice fp nf fc, .int .i64 pick, .int .u64 (olife : Int)] 35 := ⟨hk1, ext_new _ _ (Nat.le_refl _)⟩
  obtain ⟨K1, hK1⟩ : ∃ K1, ext K w.heap.size (9, 9) = K1 := ⟨_, rfl⟩
  rw [hK1] at mb1 hBx
  have HP1 := hide (h.k9 mb1 (fun _ e => e.elim))
  have HM1 := hide mb1
  have HBx := hide hBx
  obtain ⟨bx, hbx⟩ : ∃ bx, w.heap.size = bx := ⟨_, rfl⟩
  rw [hbx] at HBx hk1
  obtain ⟨x0, x1, x2, x3, x4, x5, x6, x7, x8, x9, x10, x11⟩ := sblk12 hk1
  have hob := C.lt_of_block hk1
  have HW1 := hide hw1
  have HD := hide hd
  have hBX := hide hbx
  obtain ⟨O, I, hwb, hkwb⟩ := HP1.out.blk
  obtain ⟨-, -, -, -, -, -, p6, p7, p8, p9, p10, -, -, -, -⟩ := cellW hwb
  have hpb := C.lt_of_block hwb
  clear hk1 hw1 hb1 mb1 hBx hK1 h hd hwb hbx
  obtain ⟨sa, scp, hsv, hsl, hsm⟩ := HP1.out.sent.form
  obtain ⟨q, hq⟩ : ∃ q, es.length = q := ⟨_, rfl⟩
  have HQ := hide hq
  have hql : q ≤ 100000 := by rw [← hq]; have := HD.out.el; omega
  rw [hq] at hsv hsl
  rw [hsv] at p10
  have HSv := hide hsv
  clear hq hsv
  by_cases hz : q = 0
  · subst hz
    go_enter Tryz.func6, Tryz.ntmps6
    go_upto_region 1 with (fail)
    rw [HW1.out]
    rw [hBX.out]
    go_wp2
    go_ret
    exact ⟨rfl, K1, Y, A, B, es, xn, bn, HP1.out.up, HD.out.up⟩
  have d0 : (0 : Int) < (q : Int) := by omega
  have HWi := hide (fun w => within_any w pick q (by omega) (by omega))
  obtain ⟨r, hr⟩ : ∃ r : Nat, (pick % (q : Int)).toNat = r := ⟨_, rfl⟩
  have hrq : r < q := by rw [← hr]; have := Int.emod_lt_of_pos pick (show (0 : Int) < (q : Int) by omega); have := Int.emod_nonneg pick (show (q : Int) ≠ 0 by omega); omega
  rw [hr] at HWi
  clear hr hz
  have r1 : (r : Int) < (q : Int) := by omega
  have r2 : ¬ (r : Int) < 0 := by omega
  have r3 : (0 : Int) ≤ (r : Int) := by omega
  obtain ⟨e, he⟩ : ∃ e, es[r]? = some e := ⟨_, List.getElem?_eq_getElem (by rw [HQ.out]; omega)⟩
  have hmem := List.mem_of_getElem? he
  have HCell : Hid (∀ (w' : World) (K' : Knd), Rk w' K' (2, 1) 33 7 (.slice sa q scp) q (sentC es) → ∃ g, sa = some ⟨g, 0, none⟩ ∧ ∀ (j : Nat) (v : Value), (feC e)[j]? = some v → w'.cell? ⟨g, r * 7 + j, none⟩ = some v) := fun w' K' hrk => by
    have hat := sentC_at es r e he
    rcases hrk.own.2 with ⟨_, e2⟩ | ⟨g, cap, cur, e1, _, hg, _, _, hsz, ht⟩
    · omega
    · cases e1
      refine ⟨g, rfl, fun j v hv => ?_⟩
      have h1 := hat j v hv
      have hj : j < 7 := (List.getElem?_eq_some_iff.1 hv).1
      rw [← ht, List.getElem?_take] at h1
      split at h1
      · simp only [World.cell?, hg]; simpa using h1
      · cases h1
  obtain ⟨g, hg, hce⟩ := HCell.out w1 K1 (by have := HP1.out.sent; rw [HSv.out, HQ.out] at this; exact this)
  subst hg
  have hbo := HP1.out.bod e hmem
  have hbl := HP1.out.bl e hmem
  obtain ⟨⟨fr, tt, mi, yo, sq, ak, bo⟩, sp, cb⟩ := e
  obtain ⟨nbo, hnbo⟩ : ∃ nbo, bo.length = nbo := ⟨_, rfl⟩
  have hfe : feC (⟨⟨fr, tt, mi, yo, sq, ak, bo⟩, sp, cb⟩ : Fe) = [.int .i64 fr, .int .i64 tt, .int .u64 (mi : Int), .int .u64 (yo : Int), .int .u64 (sq : Int), .int .u64 (ak : Int), .slice sp nbo cb] := by unfold feC; rw [hnbo]
  rw [hfe] at hce HCell
  have hbl2 : nbo ≤ 140737488351232 := by rw [← hnbo]; exact hbl
  have HSx : Hid (Sx w1 K1 sp bo) := ⟨hbo.by_, fun q e hn => ⟨(hbo.kind q e hn).1, Or.inr (hbo.kind q e hn).2⟩⟩
  have HNb := hide hnbo
  have y0 : w1.cell? ⟨g, r * 7, none⟩ = some (.int .i64 fr) := hce 0 _ rfl
  have y1 : w1.cell? ⟨g, r * 7 + 1, none⟩ = some (.int .i64 tt) := hce 1 _ rfl
  have y2 : w1.cell? ⟨g, r * 7 + 2, none⟩ = some (.int .u64 (mi : Int)) := hce 2 _ rfl
  have y3 : w1.cell? ⟨g, r * 7 + 3, none⟩ = some (.int .u64 (yo : Int)) := hce 3 _ rfl
  have y4 : w1.cell? ⟨g, r * 7 + 4, none⟩ = some (.int .u64 (sq : Int)) := hce 4 _ rfl
  have y5 : w1.cell? ⟨g, r * 7 + 5, none⟩ = some (.int .u64 (ak : Int)) := hce 5 _ rfl
  have y6 : w1.cell? ⟨g, r * 7 + 6, none⟩ = some (.slice sp nbo cb) := hce 6 _ rfl
  clear he hce hfe hnbo hbo hbl hmem
  have HMa : Hid (Kp (fun _ => False) K1 K1 w1 w1.drew) := (Kp.refl _ _ _).drew
  have HH : Hid (∀ w', Kp (fun _ => False) K1 K1 w1 w' → Calls Tryz.prog 26 #[.pointer (some ⟨wb, 0, none⟩), .int .i64 1, .agg #[.int .i64 fr, .int .i64 tt, .int .u64 (mi : Int), .int .u64 (yo : Int), .int .u64 (sq : Int), .int .u64 (ak : Int), .slice sp nbo cb]] w' fun e w'' => e = .returned (.bool true) ∧ Hid (Ws w0 w'' wb (st + 1)) ∧ Hid (w''.cell? ⟨wb, 10, none⟩ = some (.slice (some ⟨g, 0, none⟩) q scp) ∧ w''.cell? ⟨bx, 10, none⟩ = some (.int .i64 pick) ∧ ∀ (j : Nat) (v : Value), [.int .i64 fr, .int .i64 tt, .int .u64 (mi : Int), .int .u64 (yo : Int), .int .u64 (sq : Int), .int .u64 (ak : Int), .slice sp nbo cb][j]? = some v → w''.cell? ⟨g, r * 7 + j, none⟩ = some v)) := fun w' mw => by
    refine (hearW1 w0 w' K1 wb Y A B es xn bn st (HP1.out.k9 mw (fun _ e => e.elim)) HD.out.rb (by omega) (by have := HD.out.xl; omega) (by have := HD.out.tn; omega) fr tt mi yo sq ak nbo cb sp bo HNb.out hbl2 (HSx.out.kp mw (fun e => e) (fun e => e))).mono ?_
    rintro e w2 ⟨rfl, K2, A2, xs, t1, t2, t3, hh, hwm, hkp⟩
    have hd := HD.out
    obtain ⟨O2, I2, hwb2, -⟩ := hwm.blk
    obtain ⟨-, -, -, -, -, -, -, -, -, -, z10, -, -, -, -⟩ := cellW hwb2
    have z10' : w2.cell? ⟨wb, 10, none⟩ = some Y.sv := z10
    have hB2 := (HBx.out.kp mw (fun e => e)).kp hkp (by simp [PH])
    obtain ⟨-, -, -, -, -, -, -, -, -, -, b10, -⟩ := sblk12 hB2.blk
    have hs2 := hwm.sent
    have hs3 : Rk w2 K2 (2, 1) 33 7 (.slice (some ⟨g, 0, none⟩) q scp) q (sentC es) := by
      have h9 : Rk w2 K2 (2, 1) 33 7 Y.sv es.length (sentC es) := hs2
      rw [HSv.out, HQ.out] at h9; exact h9
    obtain ⟨g', hg', hce'⟩ := HCell.out w2 K2 hs3
    cases hg'
    exact ⟨rfl, ⟨K2, _, _, _, es, _, bn, hwm.up, ⟨hd.ra.up, (hh.rn hd.rb).1, hd.wa, by rw [(hh.rn hd.rb).2]; exact hd.wb, by show Y.turn + 1 ≤ st + 1; have := hd.tn; omega, by have := hd.xl; omega, by have := hd.bl; omega, by have := hd.el; omega, hd.y0, hd.y1, hd.c0, hd.c1⟩⟩, ⟨by rw [z10', HSv.out], b10, hce'⟩⟩
  go_enter Tryz.func6, Tryz.ntmps6
  go_upto_region 1 with (fail)
  rw [HW1.out]
  rw [hBX.out]
  go_upto_region 14 with (fail)
  go_region_held3 (fun w' => w'.cell? ⟨wb, 10, none⟩ = some (.slice (some ⟨g, 0, none⟩) q scp) ∧ w'.cell? ⟨bx, 10, none⟩ = some (.int .i64 pick) ∧ w'.cell? ⟨g, r * 7, none⟩ = some (.int .i64 fr) ∧ w'.cell? ⟨g, r * 7 + 1, none⟩ = some (.int .i64 tt) ∧ w'.cell? ⟨g, r * 7 + 2, none⟩ = some (.int .u64 (mi : Int)) ∧ w'.cell? ⟨g, r * 7 + 3, none⟩ = some (.int .u64 (yo : Int)) ∧ w'.cell? ⟨g, r * 7 + 4, none⟩ = some (.int .u64 (sq : Int)) ∧ w'.cell? ⟨g, r * 7 + 5, none⟩ = some (.int .u64 (ak : Int)) ∧ w'.cell? ⟨g, r * 7 + 6, none⟩ = some (.slice sp nbo cb)) (go_keep) (first | (go_at_call 10; refine (HWi.out _).mono ?_; rintro e wx ⟨rfl, rfl⟩) | (go_at_call 26; refine (HH.out _ HMa.out).mono ?_; rintro e w2 ⟨rfl, HR, HC2⟩; have v10 := HC2.out.1; have v11 := HC2.out.2.1; have v0 := HC2.out.2.2 0 _ rfl; have v1 := HC2.out.2.2 1 _ rfl; have v2 := HC2.out.2.2 2 _ rfl; have v3 := HC2.out.2.2 3 _ rfl; have v4 := HC2.out.2.2 4 _ rfl; have v5 := HC2.out.2.2 5 _ rfl; have v6 := HC2.out.2.2 6 _ rfl; rw [Nat.add_zero] at v0))
  go_wp2
  go_ret
  exact ⟨rfl, HR.out⟩
end Go.Proofs.YtjcdnclfakmbpaaGreatDoor
namespace Go.Proofs.YtjcdnclfakmbpaaGreatDoor
open Go.RowKit
set_option maxRecDepth 100000 in
set_option maxHeartbeats 8000000 in
set_option linter.unusedVariables false in
set_option linter.unusedSimpArgs false in
theorem step_send0 (w0 w : World) (K : Knd) (wb : Nat) (Y : Pw.Wc) (A B : Lk) (es : List Fe) (xn bn st : Nat) (h : Wm w0 w K wb Y A A B B es xn bn st) (hd : Wd Y A B es xn bn st) (hst : st ≤ 700) (on pick : Int) (bp fp : Option Addr) (nb bc nf fc mine yours seq ack olife : Nat) (f0 f1 : Int) (hon : bits .and .i64 on 1 = 0) (bo : List Nat) (hnb : bo.length = nb) (hlen : nb ≤ 140737488351232) (hx : Sx w K bp bo) (hx0 : ∀ q, bp = some q → bo ≠ [] → q.block < w.heap.size ∧ K q.block = (0, 0)) :
    Calls Tryz.prog 6 #[.pointer (some ⟨wb, 0, none⟩), .agg #[.int .i64 1, .int .i64 on, .slice bp nb bc, .int .i64 f0, .int .i64 f1, .int .u64 (mine : Int), .int .u64 (yours : Int), .int .u64 (seq : Int), .int .u64 (ack : Int), .slice fp nf fc, .int .i64 pick, .int .u64 (olife : Int)]] w fun e w' => e = .returned (.bool true) ∧ Ws w0 w' wb (st + 1) := by
  obtain ⟨w1, hw1⟩ : ∃ w1, w.alloc (.cells #[.int .i64 1, .int .i64 on, .slice bp nb bc, .int .i64 f0, .int .i64 f1, .int .u64 (mine : Int), .int .u64 (yours : Int), .int .u64 (seq : Int), .int .u64 (ack : Int), .slice fp nf fc, .int .i64 pick, .int .u64 (olife : Int)] 35) = w1 := ⟨_, rfl⟩
  have hb1 : Below w.heap.size w w1 := by rw [← hw1]; exact (Below.refl _ _).alloc (Nat.le_refl _) _
  have hk1 : w1.heap[w.heap.size]? = some (.cells #[.int .i64 1, .int .i64 on, .slice bp nb bc, .int .i64 f0, .int .i64 f1, .int .u64 (mine : Int), .int .u64 (yours : Int), .int .u64 (seq : Int), .int .u64 (ack : Int), .slice fp nf fc, .int .i64 pick, .int .u64 (olife : Int)] 35 (0, 0)) := by rw [← hw1]; exact heap_alloc_new _ _
  have mb1 : Kp (fun _ => False) K (ext K w.heap.size (9, 9)) w w1 := kp_below hb1 _ _ _
  have hBx : Bq w1 (ext K w.heap.size (9, 9)) w.heap.size #[.int .i64 1, .int .i64 on, .slice bp nb bc, .int .i64 f0, .int .i64 f1, .int .u64 (mine : Int), .int .u64 (yours : Int), .int .u64 (seq : Int), .int .u64 (ack : Int), .slice fp nf fc, .int .i64 pick, .int .u64 (olife : Int)] 35 := ⟨hk1, ext_new _ _ (Nat.le_refl _)⟩
  obtain ⟨K1, hK1⟩ : ∃ K1, ext K w.heap.size (9, 9) = K1 := ⟨_, rfl⟩
  rw [hK1] at mb1 hBx
  have HP1 := hide (h.k9 mb1 (fun _ e => e.elim))
  have HM1 := hide mb1
  have HBx := hide hBx
  obtain ⟨bx, hbx⟩ : ∃ bx, w.heap.size = bx := ⟨_, rfl⟩
  rw [hbx] at HBx hk1
  obtain ⟨x0, x1, x2, x3, x4, x5, x6, x7, x8, x9, x10, x11⟩ := sblk12 hk1
  have hob := C.lt_of_block hk1
  have HW1 := hide hw1
  have HD := hide hd
  have hBX := hide hbx
  obtain ⟨O, I, hwb, hkwb⟩ := HP1.out.blk
  obtain ⟨-, -, -, -, -, -, p6, p7, p8, p9, p10, -, -, -, -⟩ := cellW hwb
  have hpb := C.lt_of_block hwb
  clear hk1 hw1 hb1 mb1 hBx hK1 h hd hwb hbx
  have hS1 := hx.kp HM1.out (fun e => e) (fun e => e)
  have HS1 := hide hS1
  have HX1 : Hid (∀ q, bp = some q → bo ≠ [] → q.block < w1.heap.size ∧ K1 q.block = (0, 0)) := fun q e hn => ⟨Nat.lt_of_lt_of_le (hx0 q e hn).1 HM1.out.size, (HM1.out.same _ (hx0 q e hn).1).trans (hx0 q e hn).2⟩
  have HG := hide (given_any w0 w1 K1 wb Y A A B B es xn bn st HP1.out (by have := HD.out.tn; omega) bp nb bc bo hS1.by_ hnb hlen (fun q e hn => ⟨(hS1.kind q e hn).1, by rcases (hS1.kind q e hn).2 with r | r <;> rw [r] <;> simp⟩))
  have HNb := hide hnb
  clear hx hx0 hS1 hnb
  go_enter Tryz.func6, Tryz.ntmps6
  go_upto_region 1 with (fail)
  rw [HW1.out]
  rw [hBX.out]
  go_wp2_with fail
  refine HG.out.mono ?_
  rintro e w2 ⟨K2, a5, c5, rfl, hW2, hG2, hkp2⟩
  obtain ⟨Y1, hY1⟩ : ∃ Y1 : Pw.Wc, { Y with turn := Y.turn + 1 } = Y1 := ⟨_, rfl⟩
  have ht1 : Y1.turn ≤ 200000 := by rw [← hY1]; show Y.turn + 1 ≤ 200000; have := HD.out.tn; omega
  rw [hY1] at hW2 hG2
  have HYe := hide hY1
  have HBx2 := hide (HBx.out.kp hkp2 (by simp [U.P8]))
  have HS2 := hide (HS1.out.kp hkp2 (by simp [U.P8]) (by simp [U.P8]))
  have HX2 : Hid (∀ q, bp = some q → bo ≠ [] → q.block < w2.heap.size ∧ K2 q.block = (0, 0)) := fun q e hn => ⟨Nat.lt_of_lt_of_le (HX1.out q e hn).1 hkp2.size, (hkp2.same _ (HX1.out q e hn).1).trans (HX1.out q e hn).2⟩
  have HW2 := hide hW2
  have HG2 := hide hG2
  obtain ⟨O2, I2, hwb2, -⟩ := hW2.blk
  clear p6 p7 p8 p9 p10 x0 x1 x2 x3 x4 x5 x6 x7 x8 x9 x10 x11
  obtain ⟨-, -, -, -, -, -, p6, p7, p8, p9, p10, -, -, -, -⟩ := cellW hwb2
  obtain ⟨ll, hll⟩ : ∃ ll, Y1.l0 = ll := ⟨_, rfl⟩
  obtain ⟨kk, hkk⟩ : ∃ kk, Y1.k0 = kk := ⟨_, rfl⟩
  obtain ⟨rv, hlx⟩ := hW2.la
  rw [hll] at p6 hlx
  have hby := hG2.by
  have HSn := hide (psend_x hlx HD.out.ra (by omega) a5 nb c5 bo HNb.out hby.1 (fun q e => by rcases hby.2 q e with r | r <;> rw [r] <;> simp))
  have HLl := hide hll
  have HKk := hide hkk
  clear hkp2 hW2 hG2 hwb2 hlx hby hll hkk HG HP1 HS1 HX1 HBx hY1
  go_wp2_with fail
  refine HSn.out.mono ?_
  rintro e w3 ⟨rfl, hla, hkp3⟩
  obtain ⟨K3, hK3⟩ : ∃ K3, ext K2 w2.heap.size (1, 0) = K3 := ⟨_, rfl⟩
  rw [hK3] at hla hkp3
  have HW3 := hide (HW2.out.tla hkp3 (by simp) (fun j => by simp) (by simp) (by simp) (by simp) (by simp) (by simp) (by simp) (by simp) (by simp) (fun j => by simp) (fun j => by simp) (by rw [HLl.out]; exact hla))
  have HG3 := hide (HG2.out.kp hkp3 (by simp) (by simp))
  have HS3 := hide (HS2.out.kp hkp3 (by simp) (by simp))
  have HX3 : Hid (∀ q, bp = some q → bo ≠ [] → q.block < w3.heap.size ∧ K3 q.block = (0, 0)) := fun q e hn => ⟨Nat.lt_of_lt_of_le (HX2.out q e hn).1 hkp3.size, (hkp3.same _ (HX2.out q e hn).1).trans (HX2.out q e hn).2⟩
  have HBx3 := hide (HBx2.out.kp hkp3 (by simp))
  obtain ⟨ze, hze⟩ : ∃ ze, sdE bo = ze := ⟨_, rfl⟩
  rw [hze]
  have HZe := hide hze
  clear hla hkp3 hK3 HW2 HG2 HS2 HX2 HBx2 HSn hze p6 p7 p8 p9 p10
  obtain ⟨O3, I3, hwb3, -⟩ := HW3.out.blk
  obtain ⟨-, -, -, -, -, -, p6, p7, p8, p9, p10, -, -, -, -⟩ := cellW hwb3
  rw [HKk.out] at p8
  obtain ⟨-, -, x2, -⟩ := sblk12 HBx3.out.blk
  have hob3 := HBx3.out.lt
  have hwl3 := C.lt_of_block hwb3
  clear hwb3
  have HMa : Hid (Kp (fun _ => False) K3 K3 w3 w3.drew) := (Kp.refl _ _ _).drew
  have HKe : Hid (∀ w', Kp (fun _ => False) K3 K3 w3 w' → Calls Tryz.prog 21 #[.pointer (some ⟨wb, 0, none⟩), .slice a5 nb c5, .slice bp nb bc] w' fun e w'' => e = .returned (.bool true) ∧ Hid (Wm w0 w'' K3 wb Y1 (sdL A bo) A B B es xn bn st) ∧ Hid (Bq w'' K3 bx #[.int .i64 1, .int .i64 on, .slice bp nb bc, .int .i64 f0, .int .i64 f1, .int .u64 (mine : Int), .int .u64 (yours : Int), .int .u64 (seq : Int), .int .u64 (ack : Int), .slice fp nf fc, .int .i64 pick, .int .u64 (olife : Int)] 35) ∧ Hid (Sx w'' K3 bp bo) ∧ Hid (∀ q, bp = some q → bo ≠ [] → q.block < w''.heap.size ∧ K3 q.block = (0, 0))) := fun w' mw => by
    refine (kept_any w0 w' K3 wb Y1 _ _ _ _ es xn bn st (HW3.out.k9 mw (fun _ e => e.elim)) ht1 a5 bp nb c5 bc bo (HG3.out.kp mw (fun e => e) (fun _ e => e)) (HS3.out.kp mw (fun e => e) (fun e => e)).by_ HNb.out hlen).mono ?_
    rintro e w'' ⟨he, hw, hkp⟩
    exact ⟨he, hw, (HBx3.out.kp mw (fun e => e)).kp hkp (by simp [P89]), (HS3.out.kp mw (fun e => e) (fun e => e)).kp hkp (by simp [P89]) (by simp [P89]), fun q e hn => ⟨Nat.lt_of_lt_of_le (HX3.out q e hn).1 (Nat.le_trans mw.size hkp.size), (HX3.out q e hn).2⟩⟩
  have HNu := hide (fun w => num_any w ze)
  have HDs : Hid (∀ w', Wm w0 w' K3 wb Y1 (sdL A bo) A B B es xn bn st → Sx w' K3 bp bo → (∀ q, bp = some q → bo ≠ [] → q.block < w'.heap.size ∧ K3 q.block = (0, 0)) → Bq w' K3 bx #[.int .i64 1, .int .i64 on, .slice bp nb bc, .int .i64 f0, .int .i64 f1, .int .u64 (mine : Int), .int .u64 (yours : Int), .int .u64 (seq : Int), .int .u64 (ack : Int), .slice fp nf fc, .int .i64 pick, .int .u64 (olife : Int)] 35 → Calls Tryz.prog 23 #[.pointer (some ⟨kk, 0, none⟩), .slice bp nb bc] w' fun e w'' => e = .returned (.int .i64 ze) ∧ Hid (Ws w0 w'' wb (st + 1)) ∧ Hid (w''.cell? ⟨bx, 2, none⟩ = some (.slice bp nb bc) ∧ w''.cell? ⟨wb, 8, none⟩ = some (.pointer (some ⟨kk, 0, none⟩)))) := fun w' hw hs hx hb => by
    obtain ⟨rv2, t2, hdk, htl⟩ := hw.ka
    rw [HKk.out] at hdk
    refine (dsend_x (by simp) hdk HD.out.ra (by omega) bp nb bc bo HNb.out hs.by_ (fun q e hn => by rw [(hx q e hn).2]; simp) htl).mono ?_
    rintro e w'' ⟨he, K5, hda, hkp⟩
    have hwm := hw.tka hkp (by simp) (fun j => by simp) (by simp) (by simp) (by simp) (by simp) (by simp) (by simp) (by simp) (fun j => by simp) (fun j => by simp) (by rw [HKk.out]; exact hda)
    have hb5 := hb.kp hkp (by simp)
    obtain ⟨-, -, b2, -⟩ := sblk12 hb5.blk
    obtain ⟨O5, I5, hwb5, -⟩ := hwm.blk
    obtain ⟨-, -, -, -, -, -, -, -, q8, q9, -⟩ := cellW hwb5
    have hd := HD.out
    rw [HKk.out] at q8
    refine ⟨by rw [he, HZe.out], ⟨K5, Y1, _, _, es, xn, bn, hwm.up, ?_⟩, ⟨b2, q8⟩⟩
    rw [← HYe.out]
    exact ⟨(sdL_rn hd.ra bo).1, hd.rb.up, by rw [(sdL_rn hd.ra bo).2]; exact hd.wa, hd.wb, by show Y.turn + 1 ≤ st + 1; have := hd.tn; omega, Nat.le_succ_of_le hd.xl, by have := hd.bl; omega, by have := hd.el; omega, hd.y0, hd.y1, hd.c0, hd.c1⟩
  have q1 : (ze == ze) = true := by simp
  go_upto_region 6 with (fail)
  go_region_held3 (fun w' => w'.cell? ⟨bx, 2, none⟩ = some (.slice bp nb bc) ∧ w'.cell? ⟨wb, 8, none⟩ = some (.pointer (some ⟨kk, 0, none⟩))) (go_keep) (first | (go_at_call 21; refine (HKe.out _ HMa.out).mono ?_; rintro e w4 ⟨rfl, HW4, HB4, HS4, HX4⟩; obtain ⟨-, -, x2n, -⟩ := sblk12 HB4.out.blk; obtain ⟨O4, I4, hwb4, -⟩ := HW4.out.blk; obtain ⟨-, -, -, -, -, -, -, -, p8n, p9n, -⟩ := cellW hwb4; rw [HKk.out] at p8n; clear hwb4) | (go_at_call 22; refine (HNu.out _).mono ?_; rintro e wx ⟨rfl, rfl⟩) | (go_at_call 23; refine (HDs.out _ HW4.out HS4.out HX4.out HB4.out).mono ?_; rintro e w5 ⟨rfl, HR5, HC5⟩; have v2 := HC5.out.1; have v8 := HC5.out.2))
  go_wp2
  go_ret
  exact ⟨rfl, HR5.out⟩
set_option maxRecDepth 100000 in
set_option maxHeartbeats 8000000 in
set_option linter.unusedVariables false in
set_option linter.unusedSimpArgs false in
theorem step_send1 (w0 w : World) (K : Knd) (wb : Nat) (Y : Pw.Wc) (A B : Lk) (es : List Fe) (xn bn st : Nat) (h : Wm w0 w K wb Y A A B B es xn bn st) (hd : Wd Y A B es xn bn st) (hst : st ≤ 700) (on pick : Int) (bp fp : Option Addr) (nb bc nf fc mine yours seq ack olife : Nat) (f0 f1 : Int) (hon : bits .and .i64 on 1 = 1) (bo : List Nat) (hnb : bo.length = nb) (hlen : nb ≤ 140737488351232) (hx : Sx w K bp bo) (hx0 : ∀ q, bp = some q → bo ≠ [] → q.block < w.heap.size ∧ K q.block = (0, 0)) :
    Calls Tryz.prog 6 #[.pointer (some ⟨wb, 0, none⟩), .agg #[.int .i64 1, .int .i64 on, .slice bp nb bc, .int .i64 f0, .int .i64 f1, .int .u64 (mine : Int), .int .u64 (yours : Int), .int .u64 (seq : Int), .int .u64 (ack : Int), .slice fp nf fc, .int .i64 pick, .int .u64 (olife : Int)]] w fun e w' => e = .returned (.bool true) ∧ Ws w0 w' wb (st + 1) := by
  obtain ⟨w1, hw1⟩ : ∃ w1, w.alloc (.cells #[.int .i64 1, .int .i64 on, .slice bp nb bc, .int .i64 f0, .int .i64 f1, .int .u64 (mine : Int), .int .u64 (yours : Int), .int .u64 (seq : Int), .int .u64 (ack : Int), .slice fp nf fc, .int .i64 pick, .int .u64 (olife : Int)] 35) = w1 := ⟨_, rfl⟩
  have hb1 : Below w.heap.size w w1 := by rw [← hw1]; exact (Below.refl _ _).alloc (Nat.le_refl _) _
  have hk1 : w1.heap[w.heap.size]? = some (.cells #[.int .i64 1, .int .i64 on, .slice bp nb bc, .int .i64 f0, .int .i64 f1, .int .u64 (mine : Int), .int .u64 (yours : Int), .int .u64 (seq : Int), .int .u64 (ack : Int), .slice fp nf fc, .int .i64 pick, .int .u64 (olife : Int)] 35 (0, 0)) := by rw [← hw1]; exact heap_alloc_new _ _
  have mb1 : Kp (fun _ => False) K (ext K w.heap.size (9, 9)) w w1 := kp_below hb1 _ _ _
  have hBx : Bq w1 (ext K w.heap.size (9, 9)) w.heap.size #[.int .i64 1, .int .i64 on, .slice bp nb bc, .int .i64 f0, .int .i64 f1, .int .u64 (mine : Int), .int .u64 (yours : Int), .int .u64 (seq : Int), .int .u64 (ack : Int), .slice fp nf fc, .int .i64 pick, .int .u64 (olife : Int)] 35 := ⟨hk1, ext_new _ _ (Nat.le_refl _)⟩
  obtain ⟨K1, hK1⟩ : ∃ K1, ext K w.heap.size (9, 9) = K1 := ⟨_, rfl⟩
  rw [hK1] at mb1 hBx
  have HP1 := hide (h.k9 mb1 (fun _ e => e.elim))
  have HM1 := hide mb1
  have HBx := hide hBx
  obtain ⟨bx, hbx⟩ : ∃ bx, w.heap.size = bx := ⟨_, rfl⟩
  rw [hbx] at HBx hk1
  obtain ⟨x0, x1, x2, x3, x4, x5, x6, x7, x8, x9, x10, x11⟩ := sblk12 hk1
  have hob := C.lt_of_block hk1
  have HW1 := hide hw1
  have HD := hide hd
  have hBX := hide hbx
  obtain ⟨O, I, hwb, hkwb⟩ := HP1.out.blk
  obtain ⟨-, -, -, -, -, -, p6, p7, p8, p9, p10, -, -, -, -⟩ := cellW hwb
  have hpb := C.lt_of_block hwb
  clear hk1 hw1 hb1 mb1 hBx hK1 h hd hwb hbx
  have hS1 := hx.kp HM1.out (fun e => e) (fun e => e)
  have HS1 := hide hS1
  have HX1 : Hid (∀ q, bp = some q → bo ≠ [] → q.block < w1.heap.size ∧ K1 q.block = (0, 0)) := fun q e hn => ⟨Nat.lt_of_lt_of_le (hx0 q e hn).1 HM1.out.size, (HM1.out.same _ (hx0 q e hn).1).trans (hx0 q e hn).2⟩
  have HG := hide (given_any w0 w1 K1 wb Y A A B B es xn bn st HP1.out (by have := HD.out.tn; omega) bp nb bc bo hS1.by_ hnb hlen (fun q e hn => ⟨(hS1.kind q e hn).1, by rcases (hS1.kind q e hn).2 with r | r <;> rw [r] <;> simp⟩))
  have HNb := hide hnb
  clear hx hx0 hS1 hnb
  go_enter Tryz.func6, Tryz.ntmps6
  go_upto_region 1 with (fail)
  rw [HW1.out]
  rw [hBX.out]
  go_wp2_with fail
  refine HG.out.mono ?_
  rintro e w2 ⟨K2, a5, c5, rfl, hW2, hG2, hkp2⟩
  obtain ⟨Y1, hY1⟩ : ∃ Y1 : Pw.Wc, { Y with turn := Y.turn + 1 } = Y1 := ⟨_, rfl⟩
  have ht1 : Y1.turn ≤ 200000 := by rw [← hY1]; show Y.turn + 1 ≤ 200000; have := HD.out.tn; omega
  rw [hY1] at hW2 hG2
  have HYe := hide hY1
  have HBx2 := hide (HBx.out.kp hkp2 (by simp [U.P8]))
  have HS2 := hide (HS1.out.kp hkp2 (by simp [U.P8]) (by simp [U.P8]))
  have HX2 : Hid (∀ q, bp = some q → bo ≠ [] → q.block < w2.heap.size ∧ K2 q.block = (0, 0)) := fun q e hn => ⟨Nat.lt_of_lt_of_le (HX1.out q e hn).1 hkp2.size, (hkp2.same _ (HX1.out q e hn).1).trans (HX1.out q e hn).2⟩
  have HW2 := hide hW2
  have HG2 := hide hG2
  obtain ⟨O2, I2, hwb2, -⟩ := hW2.blk
  clear p6 p7 p8 p9 p10 x0 x1 x2 x3 x4 x5 x6 x7 x8 x9 x10 x11
  obtain ⟨-, -, -, -, -, -, p6, p7, p8, p9, p10, -, -, -, -⟩ := cellW hwb2
  obtain ⟨ll, hll⟩ : ∃ ll, Y1.l1 = ll := ⟨_, rfl⟩
  obtain ⟨kk, hkk⟩ : ∃ kk, Y1.k1 = kk := ⟨_, rfl⟩
  obtain ⟨rv, hlx⟩ := hW2.lb
  rw [hll] at p7 hlx
  have hby := hG2.by
  have HSn := hide (psend_x hlx HD.out.rb (by omega) a5 nb c5 bo HNb.out hby.1 (fun q e => by rcases hby.2 q e with r | r <;> rw [r] <;> simp))
  have HLl := hide hll
  have HKk := hide hkk
  clear hkp2 hW2 hG2 hwb2 hlx hby hll hkk HG HP1 HS1 HX1 HBx hY1
  go_wp2_with fail
  refine HSn.out.mono ?_
  rintro e w3 ⟨rfl, hla, hkp3⟩
  obtain ⟨K3, hK3⟩ : ∃ K3, ext K2 w2.heap.size (1, 1) = K3 := ⟨_, rfl⟩
  rw [hK3] at hla hkp3
  have HW3 := hide (HW2.out.tlb hkp3 (by simp) (fun j => by simp) (by simp) (by simp) (by simp) (by simp) (by simp) (by simp) (by simp) (by simp) (fun j => by simp) (fun j => by simp) (by rw [HLl.out]; exact hla))
  have HG3 := hide (HG2.out.kp hkp3 (by simp) (by simp))
  have HS3 := hide (HS2.out.kp hkp3 (by simp) (by simp))
  have HX3 : Hid (∀ q, bp = some q → bo ≠ [] → q.block < w3.heap.size ∧ K3 q.block = (0, 0)) := fun q e hn => ⟨Nat.lt_of_lt_of_le (HX2.out q e hn).1 hkp3.size, (hkp3.same _ (HX2.out q e hn).1).trans (HX2.out q e hn).2⟩
  have HBx3 := hide (HBx2.out.kp hkp3 (by simp))
  obtain ⟨ze, hze⟩ : ∃ ze, sdE bo = ze := ⟨_, rfl⟩
  rw [hze]
  have HZe := hide hze
  clear hla hkp3 hK3 HW2 HG2 HS2 HX2 HBx2 HSn hze p6 p7 p8 p9 p10
  obtain ⟨O3, I3, hwb3, -⟩ := HW3.out.blk
  obtain ⟨-, -, -, -, -, -, p6, p7, p8, p9, p10, -, -, -, -⟩ := cellW hwb3
  rw [HKk.out] at p9
  obtain ⟨-, -, x2, -⟩ := sblk12 HBx3.out.blk
  have hob3 := HBx3.out.lt
  have hwl3 := C.lt_of_block hwb3
  clear hwb3
  have HMa : Hid (Kp (fun _ => False) K3 K3 w3 w3.drew) := (Kp.refl _ _ _).drew
  have HKe : Hid (∀ w', Kp (fun _ => False) K3 K3 w3 w' → Calls Tryz.prog 21 #[.pointer (some ⟨wb, 0, none⟩), .slice a5 nb c5, .slice bp nb bc] w' fun e w'' => e = .returned (.bool true) ∧ Hid (Wm w0 w'' K3 wb Y1 A A (sdL B bo) B es xn bn st) ∧ Hid (Bq w'' K3 bx #[.int .i64 1, .int .i64 on, .slice bp nb bc, .int .i64 f0, .int .i64 f1, .int .u64 (mine : Int), .int .u64 (yours : Int), .int .u64 (seq : Int), .int .u64 (ack : Int), .slice fp nf fc, .int .i64 pick, .int .u64 (olife : Int)] 35) ∧ Hid (Sx w'' K3 bp bo) ∧ Hid (∀ q, bp = some q → bo ≠ [] → q.block < w''.heap.size ∧ K3 q.block = (0, 0))) := fun w' mw => by
    refine (kept_any w0 w' K3 wb Y1 _ _ _ _ es xn bn st (HW3.out.k9 mw (fun _ e => e.elim)) ht1 a5 bp nb c5 bc bo (HG3.out.kp mw (fun e => e) (fun _ e => e)) (HS3.out.kp mw (fun e => e) (fun e => e)).by_ HNb.out hlen).mono ?_
    rintro e w'' ⟨he, hw, hkp⟩
    exact ⟨he, hw, (HBx3.out.kp mw (fun e => e)).kp hkp (by simp [P89]), (HS3.out.kp mw (fun e => e) (fun e => e)).kp hkp (by simp [P89]) (by simp [P89]), fun q e hn => ⟨Nat.lt_of_lt_of_le (HX3.out q e hn).1 (Nat.le_trans mw.size hkp.size), (HX3.out q e hn).2⟩⟩
  have HNu := hide (fun w => num_any w ze)
  have HDs : Hid (∀ w', Wm w0 w' K3 wb Y1 A A (sdL B bo) B es xn bn st → Sx w' K3 bp bo → (∀ q, bp = some q → bo ≠ [] → q.block < w'.heap.size ∧ K3 q.block = (0, 0)) → Bq w' K3 bx #[.int .i64 1, .int .i64 on, .slice bp nb bc, .int .i64 f0, .int .i64 f1, .int .u64 (mine : Int), .int .u64 (yours : Int), .int .u64 (seq : Int), .int .u64 (ack : Int), .slice fp nf fc, .int .i64 pick, .int .u64 (olife : Int)] 35 → Calls Tryz.prog 23 #[.pointer (some ⟨kk, 0, none⟩), .slice bp nb bc] w' fun e w'' => e = .returned (.int .i64 ze) ∧ Hid (Ws w0 w'' wb (st + 1)) ∧ Hid (w''.cell? ⟨bx, 2, none⟩ = some (.slice bp nb bc) ∧ w''.cell? ⟨wb, 9, none⟩ = some (.pointer (some ⟨kk, 0, none⟩)))) := fun w' hw hs hx hb => by
    obtain ⟨rv2, t2, hdk, htl⟩ := hw.kb
    rw [HKk.out] at hdk
    refine (dsend_x (by simp) hdk HD.out.rb (by omega) bp nb bc bo HNb.out hs.by_ (fun q e hn => by rw [(hx q e hn).2]; simp) htl).mono ?_
    rintro e w'' ⟨he, K5, hda, hkp⟩
    have hwm := hw.tkb hkp (by simp) (fun j => by simp) (by simp) (by simp) (by simp) (by simp) (by simp) (by simp) (by simp) (fun j => by simp) (fun j => by simp) (by rw [HKk.out]; exact hda)
    have hb5 := hb.kp hkp (by simp)
    obtain ⟨-, -, b2, -⟩ := sblk12 hb5.blk
    obtain ⟨O5, I5, hwb5, -⟩ := hwm.blk
    obtain ⟨-, -, -, -, -, -, -, -, q8, q9, -⟩ := cellW hwb5
    have hd := HD.out
    rw [HKk.out] at q9
    refine ⟨by rw [he, HZe.out], ⟨K5, Y1, _, _, es, xn, bn, hwm.up, ?_⟩, ⟨b2, q9⟩⟩
    rw [← HYe.out]
    exact ⟨hd.ra.up, (sdL_rn hd.rb bo).1, hd.wa, by rw [(sdL_rn hd.rb bo).2]; exact hd.wb, by show Y.turn + 1 ≤ st + 1; have := hd.tn; omega, Nat.le_succ_of_le hd.xl, by have := hd.bl; omega, by have := hd.el; omega, hd.y0, hd.y1, hd.c0, hd.c1⟩
  have q1 : (ze == ze) = true := by simp
  go_upto_region 6 with (fail)
  go_region_held3 (fun w' => w'.cell? ⟨bx, 2, none⟩ = some (.slice bp nb bc) ∧ w'.cell? ⟨wb, 9, none⟩ = some (.pointer (some ⟨kk, 0, none⟩))) (go_keep) (first | (go_at_call 21; refine (HKe.out _ HMa.out).mono ?_; rintro e w4 ⟨rfl, HW4, HB4, HS4, HX4⟩; obtain ⟨-, -, x2n, -⟩ := sblk12 HB4.out.blk; obtain ⟨O4, I4, hwb4, -⟩ := HW4.out.blk; obtain ⟨-, -, -, -, -, -, -, -, p8n, p9n, -⟩ := cellW hwb4; rw [HKk.out] at p9n; clear hwb4) | (go_at_call 22; refine (HNu.out _).mono ?_; rintro e wx ⟨rfl, rfl⟩) | (go_at_call 23; refine (HDs.out _ HW4.out HS4.out HX4.out HB4.out).mono ?_; rintro e w5 ⟨rfl, HR5, HC5⟩; have v2 := HC5.out.1; have v8 := HC5.out.2))
  go_wp2
  go_ret
  exact ⟨rfl, HR5.out⟩
end Go.Proofs.YtjcdnclfakmbpaaGreatDoor
namespace Go.Proofs.YtjcdnclfakmbpaaGreatDoor
open Go.RowKit
theorem Ws.below {w0 w w2 : World} {wb st : Nat} (h : Ws w0 w wb st) (hb : Below w.heap.size w w2) : Ws w0 w2 wb st := by
  obtain ⟨K, Y, A, B, es, xn, bn, h1, h2⟩ := h
  exact ⟨_, Y, A, B, es, xn, bn, h1.below hb (9, 9), h2⟩
theorem Ws.drewN {w0 w : World} {wb st : Nat} (h : Ws w0 w wb st) (q : Nat) : Ws w0 (w.drewN q) wb st := by
  obtain ⟨K, Y, A, B, es, xn, bn, h1, h2⟩ := h
  exact ⟨K, Y, A, B, es, xn, bn, h1.drewN q, h2⟩
theorem Ws.bel {w0 w : World} {wb st : Nat} (h : Ws w0 w wb st) : Below w0.heap.size w0 w := by
  obtain ⟨K, Y, A, B, es, xn, bn, h1, h2⟩ := h
  exact h1.bel
theorem bytes_lt {w : World} {sp : Option Addr} {xs : List Nat} (h : Bytes w sp xs) : ∀ q, sp = some q → xs ≠ [] → q.block < w.heap.size := fun q e hn => by
  rcases h.lie with r | ⟨g, o, e2, hg, -⟩
  · exact absurd r hn
  · rw [e] at e2; cases e2; exact hg
theorem sx_in {w0 w : World} {K : Knd} {sp : Option Addr} {xs : List Nat} (hb : Below w0.heap.size w0 w) (kz : ∀ x, x < w0.heap.size → K x = (0, 0)) (h : Bytes w0 sp xs) : Sx w K sp xs ∧ ∀ q, sp = some q → xs ≠ [] → q.block < w.heap.size ∧ K q.block = (0, 0) :=
  ⟨⟨h.below hb, fun q e hn => ⟨Nat.lt_of_lt_of_le (bytes_lt h q e hn) hb.size, Or.inl (kz _ (bytes_lt h q e hn))⟩⟩, fun q e hn => ⟨Nat.lt_of_lt_of_le (bytes_lt h q e hn) hb.size, kz _ (bytes_lt h q e hn)⟩⟩
theorem step_any (w0 w : World) (wb st : Nat) (h : Ws w0 w wb st) (hst : st ≤ 700) (kind on pick : Int) (bp fp : Option Addr) (nb bc nf fc mine yours seq ack olife : Nat) (f0 f1 : Int) (bo fo : List Nat) (hnb : bo.length = nb) (hlb : nb ≤ 140737488351232) (hx : Bytes w0 bp bo) (hnf : fo.length = nf) (hlf : nf ≤ 140737488351232) (hf : Bytes w0 fp fo) :
    Calls Tryz.prog 6 #[.pointer (some ⟨wb, 0, none⟩), .agg #[.int .i64 kind, .int .i64 on, .slice bp nb bc, .int .i64 f0, .int .i64 f1, .int .u64 (mine : Int), .int .u64 (yours : Int), .int .u64 (seq : Int), .int .u64 (ack : Int), .slice fp nf fc, .int .i64 pick, .int .u64 (olife : Int)]] w fun e w' => e = .returned (.bool true) ∧ Ws w0 w' wb (st + 1) := by
  obtain ⟨K, Y, A, B, es, xn, bn, hw, hd⟩ := h
  obtain ⟨hx1, hx2⟩ := sx_in hw.bel hw.kz hx
  obtain ⟨hf1, -⟩ := sx_in hw.bel hw.kz hf
  by_cases k1 : kind = 1
  · subst k1
    rcases and1 on with ho | ho
    · exact step_send0 w0 w K wb Y A B es xn bn st hw hd hst on pick bp fp nb bc nf fc mine yours seq ack olife f0 f1 ho bo hnb hlb hx1 hx2
    · exact step_send1 w0 w K wb Y A B es xn bn st hw hd hst on pick bp fp nb bc nf fc mine yours seq ack olife f0 f1 ho bo hnb hlb hx1 hx2
  by_cases k2 : kind = 2
  · subst k2
    rcases and1 on with ho | ho
    · exact step_owe0 w0 w K wb Y A B es xn bn st hw hd hst on pick bp fp nb bc nf fc mine yours seq ack olife f0 f1 ho
    · exact step_owe1 w0 w K wb Y A B es xn bn st hw hd hst on pick bp fp nb bc nf fc mine yours seq ack olife f0 f1 ho
  by_cases k3 : kind = 3
  · subst k3
    rcases and1 on with ho | ho
    · exact step_hear0 w0 w K wb Y A B es xn bn st hw hd hst on pick bp fp nb bc nf fc mine yours seq ack olife f0 f1 ho fo hnf hlf hf1
    · exact step_hear1 w0 w K wb Y A B es xn bn st hw hd hst on pick bp fp nb bc nf fc mine yours seq ack olife f0 f1 ho fo hnf hlf hf1
  by_cases k4 : kind = 4
  · subst k4
    rcases and1 on with ho | ho
    · exact step_taken0 w0 w K wb Y A B es xn bn st hw hd hst on pick bp fp nb bc nf fc mine yours seq ack olife f0 f1 ho
    · exact step_taken1 w0 w K wb Y A B es xn bn st hw hd hst on pick bp fp nb bc nf fc mine yours seq ack olife f0 f1 ho
  by_cases k5 : kind = 5
  · subst k5
    rcases and1 on with ho | ho
    · exact step_tick0 w0 w K wb Y A B es xn bn st hw hd hst on pick bp fp nb bc nf fc mine yours seq ack olife f0 f1 ho
    · exact step_tick1 w0 w K wb Y A B es xn bn st hw hd hst on pick bp fp nb bc nf fc mine yours seq ack olife f0 f1 ho
  by_cases k6 : kind = 6
  · subst k6
    rcases and1 on with ho | ho
    · exact step_new0 w0 w K wb Y A B es xn bn st hw hd hst on pick bp fp nb bc nf fc mine yours seq ack olife f0 f1 ho
    · exact step_new1 w0 w K wb Y A B es xn bn st hw hd hst on pick bp fp nb bc nf fc mine yours seq ack olife f0 f1 ho
  exact step_other w0 w K wb Y A B es xn bn st hw hd hst kind on pick bp fp nb bc nf fc mine yours seq ack olife f0 f1 k1 k2 k3 k4 k5 k6
theorem same_any (w0 w : World) (wb st : Nat) (h : Ws w0 w wb st) : Calls Tryz.prog 7 #[.pointer (some ⟨wb, 0, none⟩)] w fun e w' => e = .returned (.bool true) ∧ ∃ q, w' = w.drewN q := by
  obtain ⟨K, Y, A, B, es, xn, bn, h1, -⟩ := h
  exact sameW w0 w K wb Y A B es xn bn st h1
end Go.Proofs.YtjcdnclfakmbpaaGreatDoor
