import Derived.Test.YtbcpoejpbhpcbaaDoorEnG
import Derived.Test.YtbcpoejpbhpcbaaDoorSeN
namespace Go.Proofs.YtbcpoejpbhpcbaaDoor
open Go.RowKit

set_option maxRecDepth 100000 in
set_option maxHeartbeats 4000000 in
set_option linter.unusedVariables false in
theorem step_send1 (w wr : World) (K : Knd) (pb W M l0 l1 b0 b1 : Nat) (sv s0 s1 : Value) (A B : Lk) (ra rb : Value) (S T : List Sm) (es : List Fe) (k : Nat) (h : Pm w wr K pb W M l0 l1 b0 b1 sv s0 s1 A B ra rb S T es) (hd : Pd W M l0 l1 A B S T es k) (hpe : Pe W M l0 l1 A B S T es) (hk : k ≤ 19999) (on pick more : Int) (bp : Option Addr) (nb bc : Nat) (hon : bits .and .i64 on 1 = 1) (body : List Nat) (hnb : body.length = nb) (hby : Bytes w bp body) (hnl : nb ≤ 140737488351232) :
    Calls Tryd.prog 7 #[.pointer (some ⟨pb, 0, none⟩), .agg #[.int .i64 1, .int .i64 on, .slice bp nb bc, .int .i64 pick, .int .i64 more]] wr fun e w' => e = .returned (.bool true) ∧ Ps w w' pb W M (k + 1) := by
  obtain ⟨w1, hw1⟩ : ∃ w1, wr.alloc (.cells #[.int .i64 1, .int .i64 on, .slice bp nb bc, .int .i64 pick, .int .i64 more] 31) = w1 := ⟨_, rfl⟩
  have hb1 : Below wr.heap.size wr w1 := by rw [← hw1]; exact (Below.refl _ _).alloc (Nat.le_refl _) _
  have hk1 : w1.heap[wr.heap.size]? = some (.cells #[.int .i64 1, .int .i64 on, .slice bp nb bc, .int .i64 pick, .int .i64 more] 31 (0, 0)) := by rw [← hw1]; exact heap_alloc_new _ _
  have HP1 := hide (h.below hb1 (9, 9))
  have HKx : Hid (ext K wr.heap.size (9, 9) wr.heap.size = (9, 9)) := ext_new _ _ (Nat.le_refl _)
  generalize ext K wr.heap.size (9, 9) = K1 at *
  obtain ⟨x0, x1, x2, x3, x4, xf⟩ := sblk5 hk1
  have hob := C.lt_of_block hk1
  have HX1 := hide hk1
  have HW1 := hide hw1
  have HB1 := hide hb1
  have HD := hide hd
  have HE := hide hpe
  obtain ⟨p0, p1, p2, p3, p4, p5, p6, p7, p8, pf, hpb⟩ := HP1.out.pk.cells
  clear hk1 hw1 hb1 h hd hpe
  have HBy : Hid (∀ w', Below w.heap.size w w' → Bytes w' bp body) := fun w' hb => hby.below hb
  have HNb := hide hnb
  have HSm := hide hby.small
  have HSz : Hid ((str body).size = nb) := (str_size hby.small).trans hnb
  have HSt := hide (nums_str hby.small)
  have HNw := hide (nowP1 HP1.out (by have := HD.out.tl; omega))
  clear hnb hby
  go_enter Tryd.func7, Tryd.ntmps7
  go_upto_region 1 with (fail)
  rw [HW1.out]
  go_wp2_with fail
  refine HNw.out.mono ?_
  rintro e w2 (⟨hk0, rfl, hw2⟩ | ⟨hk0, n, x, s', K2, S', rfl, hx, q1, q2, hns, hpm, hkp⟩)
  · rw [hw2]
    clear hw2
    have HC := hide (copy_any w1 bp nb bc body HNb.out (HBy.out w1 HP1.out.bel) (by omega))
    go_wp2_with fail
    refine HC.out.mono ?_
    rintro e w3 ⟨a7, c7, rfl, ho7, hb7⟩
    have HP3 := hide (HP1.out.below hb7 (4, 0))
    have HY7 : Hid (By4 w3 (ext K1 w1.heap.size (4, 0)) a7 body) := By4.new (owns_bytes ho7 HSm.out) (fun p hp => by
      rcases ho7.2 with ⟨q, _⟩ | ⟨g, cap, cur, q, q2, _⟩
      · cases q; cases hp
      · cases q; cases hp; exact q2)
    have HS7 : Hid (∀ a, a7 = some a → ext K1 w1.heap.size (4, 0) a.block = (4, 0)) := fun p hp => by
      rcases ho7.2 with ⟨q, _⟩ | ⟨g, cap, cur, q, q2, _⟩
      · cases q; cases hp
      · cases q; cases hp; exact ext_new _ _ q2
    generalize ext K1 w1.heap.size (4, 0) = K3 at *
    have hX3 := (hb7.block _ (C.lt_of_block HX1.out)).trans HX1.out
    clear ho7 hb7 HC x0 x1 x2 x3 x4 xf p0 p1 p2 p3 p4 p5 p6 p7 p8 pf hpb hob
    obtain ⟨p0, p1, p2, p3, p4, p5, p6, p7, p8, pf, hpb⟩ := HP3.out.pk.cells
    obtain ⟨x0, x1, x2, x3, x4, xf⟩ := sblk5 hX3
    by_cases hlong : 2048 < nb
    · have HL := hide (send_long w3 b1 B rb HP3.out.lq1.lw a7 nb c7 (Or.inl hlong))
      have HNu := hide (num_any w3 140)
      have t1 : (2048 : Int) < (nb : Int) := by omega
      go_wp2_with fail
      refine HL.out.mono ?_
      rintro e w4 ⟨rfl, hw4⟩
      rw [hw4]
      clear hw4
      go_wp2_with fail
      refine HNu.out.mono ?_
      rintro e w4 ⟨rfl, hw4⟩
      rw [hw4]
      clear hw4
      go_wp2
      go_ret
      exact ⟨rfl, _, _, _, _, _, _, _, _, _, _, _, _, _, _, _, HP3.out, HD.out.up, HE.out⟩
    · have t1 : ¬ (2048 : Int) < (nb : Int) := by omega
      have HPd := hide (HD.out.sentz1 hk0 (str body) (by rw [HSz.out]; omega))
      have HPe := hide (HE.out.sentz1 HD.out.m1.1 (str body))
      have hspb : ∀ a, a7 = some a → a.block ≠ b1 := fun a ha e => by have := HS7.out a ha; rw [e, HP3.out.lq1.kb] at this; cases this
      have HSe := hide (send_any w3 b1 B rb HP3.out.lq1.lw (by have := HD.out.b.rn.row; omega) a7 nb c7 body HY7.out.by_ HNb.out (by omega) (by have := HD.out.b.rn.num; omega) hspb)
      clear hspb
      go_wp2_with fail
      refine HSe.out.mono ?_
      rintro e w4 ⟨rfl, rv', hlw, htw, hrb⟩
      have HPm := hide (HP3.out.turn1 (K' := ext K3 w3.heap.size (1, 1)) hlw htw (fun x hx => ext_old _ _ hx) (fun g hg => by
        rcases hrb with q | ⟨g3, q, q2⟩
        · exact Or.inl (by rw [← q]; exact hg)
        · rw [q] at hg; cases hg; exact Or.inr (ext_new _ _ q2)))
      have HNu := hide (num_any w4 0)
      clear hlw htw hrb
      go_wp2_with fail
      refine HNu.out.mono ?_
      rintro e w5 ⟨rfl, hw5⟩
      rw [hw5]
      clear hw5
      go_wp2
      go_ret
      exact ⟨rfl, _, _, _, _, _, _, _, _, _, _, _, _, _, _, _, HPm.out, HPd.out, HPe.out⟩
  · have HPd := hide (HD.out.nowed1 hk0 hns)
    have HPe := hide (HE.out.nowed1 hns)
    have hX2 := (hkp.block _ (C.lt_of_block HX1.out) (by rw [HKx.out]; simp)).trans HX1.out
    have HP2 := hide hpm
    clear hpm hkp x0 x1 x2 x3 x4 xf p0 p1 p2 p3 p4 p5 p6 p7 p8 pf hpb
    obtain ⟨x0, x1, x2, x3, x4, xf⟩ := sblk5 hX2
    have HC := hide (copy_any w2 bp nb bc body HNb.out (HBy.out w2 HP2.out.bel) (by omega))
    go_wp2_with fail
    refine HC.out.mono ?_
    rintro e w3 ⟨a7, c7, rfl, ho7, hb7⟩
    have HP3 := hide (HP2.out.below hb7 (4, 0))
    have HY7 : Hid (By4 w3 (ext K2 w2.heap.size (4, 0)) a7 body) := By4.new (owns_bytes ho7 HSm.out) (fun p hp => by
      rcases ho7.2 with ⟨q, _⟩ | ⟨g, cap, cur, q, q2, _⟩
      · cases q; cases hp
      · cases q; cases hp; exact q2)
    have HS7 : Hid (∀ a, a7 = some a → ext K2 w2.heap.size (4, 0) a.block = (4, 0)) := fun p hp => by
      rcases ho7.2 with ⟨q, _⟩ | ⟨g, cap, cur, q, q2, _⟩
      · cases q; cases hp
      · cases q; cases hp; exact ext_new _ _ q2
    have HA7 : Hid (∀ a, a7 = some a → a.block < w3.heap.size) := fun p hp => by
      rcases ho7.2 with ⟨q, _⟩ | ⟨g, cap, cur, q, q2, q3, _⟩
      · cases q; cases hp
      · cases q; cases hp; exact C.lt_of_block q3
    generalize ext K2 w2.heap.size (4, 0) = K3 at *
    have hX3 := (hb7.block _ (C.lt_of_block hX2)).trans hX2
    clear ho7 hb7 HC HP2 x0 x1 x2 x3 x4 xf hob hX2
    obtain ⟨p0, p1, p2, p3, p4, p5, p6, p7, p8, pf, hpb⟩ := HP3.out.pk.cells
    obtain ⟨x0, x1, x2, x3, x4, xf⟩ := sblk5 hX3
    by_cases hlong : 2048 < nb
    · have HL := hide (send_long w3 b1 B rb HP3.out.lq1.lw a7 nb c7 (Or.inl hlong))
      have HNu := hide (num_any w3 140)
      have t1 : (2048 : Int) < (nb : Int) := by omega
      go_wp2_with fail
      refine HL.out.mono ?_
      rintro e w4 ⟨rfl, hw4⟩
      rw [hw4]
      clear hw4
      go_wp2_with fail
      refine HNu.out.mono ?_
      rintro e w4 ⟨rfl, hw4⟩
      rw [hw4]
      clear hw4
      go_wp2
      go_ret
      exact ⟨rfl, _, _, _, _, _, _, _, _, _, _, _, _, _, _, _, HP3.out, HPd.out, HPe.out⟩
    · have t1 : ¬ (2048 : Int) < (nb : Int) := by omega
      clear HPd HPe
      have HPe := hide (fun iv => HE.out.sent1 HD.out.m1.1 hns hx (str body) iv body)
      have HPd := hide (fun iv => HD.out.sent1 hk0 hns hx q1 q2 (str body) (by rw [HSz.out]; omega) iv)
      rw [HSt.out] at HPd
      obtain ⟨gs, cg, hv, hgs, y0, y1, y2, y3, yf⟩ := HP3.out.ss1.cells hx
      obtain ⟨vs, hrk, hel⟩ := (HP3.out.ss1.rows n x hx).1.ex
      obtain ⟨ua, uc, huv, huc, hum⟩ := hrk.form
      have hSl : S'.length ≤ 20001 := by have := hns.grow.2; have := HD.out.tl; omega
      have hnS := (List.getElem?_eq_some_iff.1 hx).1
      have hul : x.inn.length ≤ 1099511627776 := by
        have h1 := ((HD.out.b.nowS hk0 hns).cur hk0 x (List.mem_of_getElem? hx) q1 q2).1
        have := HD.out.b.rn.num
        omega
      subst hv
      have HSo := hide HP3.out.ss1.own.own
      have HKs := hide HP3.out.ss1.own.kind
      rw [huv] at y2
      have HOw := hide hrk.own
      rw [huv] at HOw
      have HKu := hide hrk.kind
      rw [huv] at HKu
      obtain ⟨u, hu⟩ : ∃ u, x.inn.length = u := ⟨_, rfl⟩
      rw [hu] at y2 HOw HKu huc hul
      have HU := hide hu
      have HUv := hide huv
      have HSv : Hid ((smV S')[n * 4 + 2]? = some (.slice ua u uc)) := by show _ = _; rw [(smV_at S' n x hx).2.2.1, huv, hu]
      have HX' := hide hx
      have HRk9 := hide hrk
      have HEl := hide hel
      have HX3 := hide hX3
      clear hrk hel hu huv hx hns q1 q2 y0 y1 y3 HNw
      obtain ⟨i0, hi, hz0, hz1, hz2⟩ := info_parts Tryd.infoSl
      have n1 : (0 : Int) ≤ (n : Int) := by omega
      have n3 : (n : Int) < (S'.length : Int) := by omega
      have HC2 := hide (copy_any w3.drew bp nb bc body HNb.out (HBy.out w3.drew (HP3.out.bel.trans (((Below.refl w3.heap.size w3).drew).mono HP3.out.bel.size))) (by omega))
      go_upto_region 9 with (fail)
      go_cut [] from 37 to 60 (fun wb => ∃ (iv' : Value) (K5 : Knd), Hid (Pm w wb K5 pb W M l0 l1 b0 b1 sv s0 (.slice (some ⟨gs, 0, none⟩) S'.length cg) A B ra rb S (S'.set n { x with iv := iv', inn := x.inn ++ [body] }) es ∧ By4 wb K5 a7 body ∧ ∀ a, a7 = some a → K5 a.block = (4, 0)))
      case first =>
        go_region_law (first | (refine step_append_lies _ (by rfl) (.tmp 53) (.tmp 57) 45 (by rfl) 0 29 i0 (.slice none 0 0) 1 24 Tryd.underlying45 hi hz0 hz1 hz2 rfl (by omega) (.slice ua u uc) u vs (by rfl) (HOw8.out.alloc _) ⟨w5.heap.size, 0, none⟩ 1 1 [.slice a8 nb c8] (by rfl) rfl (World.news_of_block (heap_alloc_new w5 (.cells #[.slice a8 nb c8] 29))) (by simp [Value.oneCell']) (by omega) (by unfold maxLen; omega) (by omega) (Nat.zero_le _) _ rfl ?_; intro g' cap' wa hown hgrow hat hltg; have hS : wa.ownsRow 0 47 4 (.slice (some ⟨gs, 0, none⟩) S'.length cg) S'.length (smV S') := (owns_same HSo8.out (fun g hg => (hgrow.block g (by have := rk_lt HSo8.out hg; simp; omega) (fun e => by have h1 := HKu.out g e.symm; rw [HKs.out g hg] at h1; cases h1)).trans (Below.heap_alloc _ _ _ (rk_lt HSo8.out hg)))); have ya := (hS.cellAt (n * 4 + 2) (by omega)).trans HSv.out; have yfa := hS.frozenAt (n * 4 + 2); have hpa : wa.heap[pb]? = some (.cells (pkC W M l0 l1 b0 b1 sv s0 (.slice (some ⟨gs, 0, none⟩) S'.length cg)) 41 (0, 0)) := ((hgrow.block pb (by simp; omega) (fun e => by have h1 := HKu.out pb e.symm; rw [HP3.out.pk.kind] at h1; cases h1)).trans ((Below.heap_alloc _ _ _ hpb5).trans HPk8.out)); have hpk : Pk wa K3 pb W M l0 l1 b0 b1 sv s0 (.slice (some ⟨gs, 0, none⟩) S'.length cg) := ⟨hpa, HP3.out.pk.kind⟩; obtain ⟨-, -, -, -, -, -, -, pa7, pa8, -, -⟩ := hpk.cells; have HO4 := hide hown; have HG4 := hide hgrow; have HA4 := hide hat; clear hown hgrow hat hltg hS hpa hpk) | (go_simp; go_at_call 21; refine HC2.out.mono ?_; rintro e w5 ⟨a8, c8, rfl, ho8, hb8⟩; have hb5 : Below w3.heap.size w3 w5 := ((((Below.refl w3.heap.size w3).drew).trans hb8)); have hpk5 : w5.heap[pb]? = some (.cells (pkC W M l0 l1 b0 b1 sv s0 (.slice (some ⟨gs, 0, none⟩) S'.length cg)) 41 (0, 0)) := ((hb5.block pb hpb).trans HP3.out.pk.blk); have HPk8 := hide hpk5; have hpkk : Pk w5 K3 pb W M l0 l1 b0 b1 sv s0 (.slice (some ⟨gs, 0, none⟩) S'.length cg) := ⟨hpk5, HP3.out.pk.kind⟩; obtain ⟨-, -, -, -, -, -, -, pb7, pb8, -, hpb5⟩ := hpkk.cells; have hS5 : w5.ownsRow 0 47 4 (.slice (some ⟨gs, 0, none⟩) S'.length cg) S'.length (smV S') := (owns_same HSo.out (fun g hg => hb5.block g (rk_lt HSo.out hg))); have yb := (hS5.cellAt (n * 4 + 2) (by omega)).trans HSv.out; have hgs5 : gs < w5.heap.size := (rk_lt hS5 rfl); have HSo8 := hide hS5; have HOw8 := hide (owns_same HOw.out (fun g hg => hb5.block g (rk_lt HOw.out hg))); have HB5 := hide hb5; have HO8 := hide ho8; clear ho8 hb8 hb5 hpk5 hpkk hS5))
        all_goals go_wp2_with fail
        all_goals go_meet
        all_goals
          have hb6 : Below w3.heap.size w3 (w5.alloc (.cells #[.slice a8 nb c8] 29)) := HB5.out.trans (((Below.refl _ _).alloc (Nat.le_refl _) _).mono HB5.out.size)
          have hpm6 := HP3.out.below hb6 (4, 0)
          have mk6 := kp_below hb6 (fun _ => False) K3 (4, 0)
          have hby8 : By4 (w5.alloc (.cells #[.slice a8 nb c8] 29)) (ext K3 w3.heap.size (4, 0)) a8 body := by
            refine By4.new ((owns_bytes HO8.out HSm.out).below ((Below.refl _ _).alloc (Nat.le_refl _) _)) (fun p hp => ?_)
            rcases HO8.out.2 with ⟨q, _⟩ | ⟨g, cap, cur, q, q2, _⟩
            · cases q; cases hp
            · cases q; cases hp; exact q2
          obtain ⟨hpm7, hkp7⟩ := hpm6.inn1 (p := body) (a := a8) (c := c8) HX'.out (HRk9.out.kept mk6 (fun e => e)) (fun i p hp => by
            obtain ⟨sp2, c2, e1, e2⟩ := HEl.out i p hp
            exact ⟨sp2, c2, e1, e2.kp mk6 (fun e => e)⟩) (by rw [HUv.out, HU.out]; exact HG4.out) (by rw [HU.out, HNb.out]; exact HO4.out) (by
            rw [HUv.out, HU.out]
            rcases HA4.out with e | e
            · exact Or.inl e.symm
            · exact Or.inr ⟨g', rfl, by rw [e]; exact Nat.le_refl _⟩) hby8 (by rw [HNb.out]; omega) rfl
          exact ⟨_, _, hide ⟨hpm7, (HY7.out.kp mk6 (fun e => e)).kp hkp7 (by simp), fun a ha => by
            have hlt : a.block < w3.heap.size := HA7.out a ha
            rw [hkp7.same _ (Nat.lt_of_lt_of_le hlt hb6.size), mk6.same _ hlt]
            exact HS7.out a ha⟩⟩
      case rest =>
        obtain ⟨iv', K5, HR⟩ := hcut
        rename World => wb
        have HP5 := hide HR.out.1
        clear HY7 HS7
        have HY7 := hide HR.out.2.1
        have HS7 := hide HR.out.2.2
        have HPd5 := hide (HPd.out iv')
        have HPe5 := hide (HPe.out iv')
        clear HPd HPe
        have HPd := HPd5
        have HPe := HPe5
        clear HR HC2 HSo HKs y2 HOw HKu yf hgs HSv HRk9 HEl HX3 HP3 hi hz0 hz1 hz2 p0 p1 p2 p3 p4 p5 p6 p7 p8 pf hpb x0 x1 x2 x3 x4 xf HPd5 HPe5
        obtain ⟨p0, p1, p2, p3, p4, p5, p6, p7, p8, pf, hpb⟩ := HP5.out.pk.cells
        have hspb : ∀ a, a7 = some a → a.block ≠ b1 := fun a ha e => by have := HS7.out a ha; rw [e, HP5.out.lq1.kb] at this; cases this
        have HSe := hide (send_any wb b1 B rb HP5.out.lq1.lw (by have := HD.out.b.rn.row; omega) a7 nb c7 body HY7.out.by_ HNb.out (by omega) (by have := HD.out.b.rn.num; omega) hspb)
        clear hspb
        go_wp2_with fail
        refine HSe.out.mono ?_
        rintro e w4 ⟨rfl, rv', hlw, htw, hrb⟩
        have HPm := hide (HP5.out.turn1 (K' := ext K5 wb.heap.size (1, 1)) hlw htw (fun x hx => ext_old _ _ hx) (fun g hg => by
          rcases hrb with q | ⟨g3, q, q2⟩
          · exact Or.inl (by rw [← q]; exact hg)
          · rw [q] at hg; cases hg; exact Or.inr (ext_new _ _ q2)))
        have HNu := hide (num_any w4 0)
        clear hlw htw hrb
        go_wp2_with fail
        refine HNu.out.mono ?_
        rintro e w5 ⟨rfl, hw5⟩
        rw [hw5]
        clear hw5
        go_wp2
        go_ret
        exact ⟨rfl, _, _, _, _, _, _, _, _, _, _, _, _, _, _, _, HPm.out, HPd.out, HPe.out⟩
end Go.Proofs.YtbcpoejpbhpcbaaDoor
