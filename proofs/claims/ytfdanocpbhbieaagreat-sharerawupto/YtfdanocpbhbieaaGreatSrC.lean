import Derived.Test.YtfdanocpbhbieaaGreatSrB
import Derived.Test.YtfdanocpbhbieaaGreatLsA
import Derived.Lib.QuietBelow
import Derived.Lib.SmallJoins
namespace Go.Proofs.YtfdanocpbhbieaaGreat
open Go.RowKit Go.Sort
open Z (Sli SlOk Acd AcdOk AcLent Acts AcsLent Rka RkIn)

theorem Tryz.builtBook : Tryz.prog.built 44 [] = some (RB.bkCells (.slice none 0 0) (.slice none 0 0) 0 0 0 0) := by kernel_rfl
theorem book_build {o : Oper} {a : Act} {w : World} {K : Act → World → Prop} {Q : Exit → Act → World → Prop} (ho : o.op = .build 44 #[]) (h : K (a.put o.dst (.agg (RB.bkCells (.slice none 0 0) (.slice none 0 0) 0 0 0 0))) w) : o.wp Tryz.prog a w K Q := by
  have e0 : (#[].map fun (i, x) => (i, a.eval x)).toList = ([] : List (Nat × Value)) := by simp
  refine wp_build 44 #[] ho ?_ ?_
  · rw [e0, Tryz.builtBook]; rfl
  · rw [e0, Tryz.builtBook]; exact h

set_option maxRecDepth 100000 in
set_option maxHeartbeats 8000000 in
theorem share_all (HWk : Hid (∀ W, Calls Tryz.prog 19 #[] W fun e w' => e = .returned (.bool true) ∧ Below W.heap.size W w')) (w : World) (S : Sli Rka) (hS : SlOk w 9 Rka.list S) (hSv : ∀ x ∈ S.xs, RkIn w x) :
    Calls Tryz.prog 3 #[.slice S.p S.n S.c] w fun e w' => e = .returned (.bool true) ∧ Below w.heap.size w w' := by
  obtain ⟨sp, n, c, xs⟩ := S
  have hn : n ≤ 4194304 := hS.most
  have HSo := hide hS
  have HSv := hide hSv
  obtain ⟨w1, hw1, hb1, hx1⟩ := box_one w (RB.bkCells (.slice none 0 0) (.slice none 0 0) 0 0 0 0) 44
  have HW1 := hide hw1
  have HO1 : Hid (Sr0 w w1 0) := ⟨_, _, 0, 0, 0, 0, [], ⟨hx1, World.ownsRow_nil _ _ _ _, World.ownsRow_nil _ _ _ _, by simp, by simp, by simp, by simp⟩, hb1, by simp, by simp, by omega, by omega, by simp⟩
  clear hS hSv hw1 hb1 hx1
  show Calls Tryz.prog 3 #[.slice sp n c] w _
  go_enter Tryz.func3, Tryz.ntmps3
  go_wp2_with fail
  refine book_build rfl ?_
  go_wp2_with fail
  rw [HW1.out]
  clear HW1
  go_loopw [4] (fun i wr => ∃ j : Nat, j ≤ n ∧ j ≤ 60 ∧ i = .int .i64 j ∧ Hid (Sr0 w wr (2 * j))) (fun i _ => n - (intOf i).toNat)
  case atStart => exact ⟨0, by omega, by omega, rfl, HO1⟩
  case round =>
    clear HO1
    obtain ⟨j, hj, hj6, rfl, HO⟩ := hrel
    by_cases hjn : j < n
    · have e0 : (j : Int) < (n : Int) := by omega
      by_cases hj60 : j < 60
      · have e1 : (j : Int) < 60 := by omega
        have j0 : (0 : Int) ≤ (j : Int) := by omega
        obtain ⟨x, hx⟩ : ∃ x, xs[j]? = some x := ⟨_, List.getElem?_eq_getElem (by have := HSo.out.len; simp only at this; rw [this]; exact hjn)⟩
        obtain ⟨bS, oS, eS, hbS, hcS⟩ := HSo.out.cel.get (i := j) (r := x.list) (by simp [hx])
        simp only at eS
        subst eS
        have HxI := hide (HSv.out x (List.mem_of_getElem? hx))
        have HBr := hide HO.out.bel
        have HLd : Hid ((Instr.loadAt 55 (.pointer (some ⟨bS, oS + j * 9, none⟩))).run Tryz.prog wr = .ok (.agg x.arr) wr) := run_loadAt_mid (P := Tryz.prog) wr bS (oS + j * 9) 55 x.list _ (fun i v hv => (HBr.out.cell (p := ⟨bS, oS + j * 9 + i, none⟩) hbS).trans (hcS i v hv)) Tryz.underlying55 rfl (by kernel_rfl)
        clear hcS hx
        go_upto_region 6 with (first | ((with_reducible show wpList _ _ _ (⟨_, .load 55 (.tmp 24), _, _, _, _⟩ :: _) _ _); refine Z.lp_load bS (oS + j * 9) x.arr rfl HLd.out ?_) | ((with_reducible show wpList _ _ _ (⟨_, .store 55 (.tmp 5) _, _, _, _, _⟩ :: _) _ _); refine Z.lp_store (t := 55) (x := .tmp 5) (some ⟨wr.heap.size, 0, none⟩) (.agg x.arr) rfl rfl (run_storeAt_new (P := Tryz.prog) wr 55 #[.int .u64 0, .slice none 0 0, .slice none 0 0, .slice none 0 0, .slice none 0 0, .slice none 0 0, .slice none 0 0, .int .i64 0, .slice none 0 0] x.arr (by kernel_rfl) rfl (by simp [Rka.arr, Value.oneCell'])) ?_))
        dsimp only [Act.put]
        obtain ⟨w3, hw3, hb3, hx3⟩ := box_one wr x.arr 55
        rw [hw3]
        have hs3 : w3.heap.size = wr.heap.size + 1 := by rw [← hw3]; simp
        obtain ⟨lo, hlo⟩ : ∃ lo, wr.heap.size = lo := ⟨_, rfl⟩
        have HLo := hide hlo
        have HS3 := hide hs3
        have HB3 := hide hb3
        rw [hlo] at hx3 ⊢
        have HG3 := hide hx3
        have HO3 : Hid (Sr0 w w3 (2 * j)) := HO.out.below HB3.out
        obtain ⟨p0, p1, p2, p3, p4, p5, p6, p7, p8⟩ := ac9 HG3.out
        clear hw3 hb3 hx3 hs3 hlo HLd
        by_cases ha : x.a.n ≤ 256
        · have ha' : ¬ (256 : Int) < (x.a.n : Int) := by omega
          by_cases hm : x.m.n ≤ 8192
          · have hm' : ¬ (8192 : Int) < (x.m.n : Int) := by omega
            have HLs := hide (lendState_any w3 x.s (HxI.out.st.ok.below HO3.out.bel) HxI.out.st.small)
            go_upto_region 8 with (first | (go_at_call 4; refine HLs.out.mono ?_; rintro e v1 ⟨r, rfl, hl, hb⟩; have HSl := hide hl; have HBv1 := hide hb; clear hl hb) | ((with_reducible show wpList _ _ _ (⟨_, .store 51 (.tmp 6) _, _, _, _, _⟩ :: _) _ _); refine Z.lp_store (t := 51) (x := .tmp 6) (some ⟨v1.heap.size, 0, none⟩) (.agg r.arr) rfl rfl (run_storeAt_new (P := Tryz.prog) v1 51 #[.int .u64 0, .slice none 0 0, .slice none 0 0, .slice none 0 0, .slice none 0 0, .slice none 0 0] r.arr (by kernel_rfl) rfl (by simp [Sta.arr, Value.oneCell'])) ?_))
            dsimp only [Act.put]
            obtain ⟨w5, hw5, hb5, hx5⟩ := box_one v1 r.arr 51
            rw [hw5]
            obtain ⟨gs, hgs⟩ : ∃ gs, v1.heap.size = gs := ⟨_, rfl⟩
            have HGs := hide hgs
            have HS5 : Hid (w5.heap.size = v1.heap.size + 1) := by show _ = _; rw [← hw5]; simp
            have HB5 := hide hb5
            rw [hgs] at hx5 ⊢
            have HG5 := hide hx5
            have HB35 : Hid (Below w3.heap.size w3 w5) := HBv1.out.trans (HB5.out.mono HBv1.out.size)
            clear hw5 hb5 hx5 hgs HLs
            clear p0 p1 p2 p3 p4 p5 p6 p7 p8
            obtain ⟨p0, p1, p2, p3, p4, p5, p6, p7, p8⟩ := ac9 ((HB35.out.block _ (ac_lt HG3.out)).trans HG3.out)
            have HLa := hide (Z.lendActs_any w5 x.a ⟨HxI.out.acts.below (HO3.out.below HB35.out).bel, fun y hy => (HxI.out.each y hy).ok.below (HO3.out.below HB35.out).bel⟩)
            go_upto_region 9 with (first | (go_at_call 5; refine HLa.out.mono ?_; rintro e v2 ⟨aa, ac, ys, rfl, hl, hb⟩; have HAl := hide hl; have HBv2 := hide hb; clear hl hb) | fail)
            have HB32 : Hid (Below w3.heap.size w3 v2) := HB35.out.trans (HBv2.out.mono HB35.out.size)
            clear HLa
            clear p0 p1 p2 p3 p4 p5 p6 p7 p8
            obtain ⟨p0, p1, p2, p3, p4, p5, p6, p7, p8⟩ := ac9 ((HB32.out.block _ (ac_lt HG3.out)).trans HG3.out)
            have HLl := hide (Z.lendLines_v v2 x.m (HxI.out.lines.below (HO3.out.below HB32.out).bel))
            go_upto_region 10 with (first | (go_at_call 6; refine HLl.out.mono ?_; rintro e v3 ⟨ma, mc, rfl, hl, hb⟩; have HMl := hide hl; have HBv3 := hide hb; clear hl hb) | fail)
            have HB33 : Hid (Below w3.heap.size w3 v3) := HB32.out.trans (HBv3.out.mono HB32.out.size)
            clear HLl
            clear p0 p1 p2 p3 p4 p5 p6 p7 p8
            obtain ⟨hi, hhi⟩ : ∃ hi, v3.heap.size = hi := ⟨_, rfl⟩
            have HHi := hide hhi
            have hlo3 : lo < w3.heap.size := by rw [HS3.out, HLo.out]; omega
            have hz1 := HBv1.out.size
            have hz2 := HB35.out.size
            have hz3 := HBv2.out.size
            have hz4 := HBv3.out.size
            have hz5 := HS5.out
            have hgsv := HGs.out
            have HRd : Hid (Rd w lo gs x r aa ac ys ma mc v3) := ⟨(HSl.out).by (fun _ _ _ _ _ ho => RB.owns_kept' (Z.owns_le ho (by omega)) (fun g e => ((HB5.out.trans ((HBv2.out.trans (HBv3.out.mono hz3)).mono (by omega))).block g (RB.owns_lt ho g e)))), AcsLent.by HAl.out (fun _ _ _ _ _ ho => RB.owns_kept' (Z.owns_le ho (by omega)) (fun g e => HBv3.out.block g (RB.owns_lt ho g e))), Z.owns_le HMl.out (by omega), (HB33.out.block _ (ac_lt HG3.out)).trans HG3.out, ((HBv2.out.trans (HBv3.out.mono hz3)).block _ (ac_lt HG5.out)).trans HG5.out, (HO3.out.below HB33.out).bel⟩
            have HIv : Hid (∀ W, Iv lo hi v3 W → Below w.heap.size w W → Rd w lo gs x r aa ac ys ma mc W) := fun W i hb => HRd.out.iv (by omega) (by omega) (by omega) (by omega) i hb
            have HSr : Hid (Srs w v3 lo hi (2 * j)) := by
              have h := HO.out.start hi
              rw [HLo.out] at h
              exact h.below (HB3.out.trans (HB33.out.mono (by rw [HS3.out]; omega)))
            have hh3 : hi ≤ v3.heap.size := by omega
            have HH3 := hide hh3
            clear HO3 HB35 HB32 HB33 HBv1 HBv2 HBv3 HG3 HG5 HSl HAl HMl HB5 HS5 HGs HB3 HS3 hz1 hz2 hz3 hz4 hz5 hgsv hlo3 hhi hh3 HO
            have HI3 : Hid (Iv lo hi v3 v3) := Iv.refl _ _ _
            obtain ⟨p0, p1, p2, p3, p4, p5, p6, p7, p8⟩ := ac9 HRd.out.box
            obtain ⟨q0, q1, q2, q3, q4, q5⟩ := ac6 HRd.out.bst
            have HAv := hide (HRd.out.avail HxI.out ha)
            go_upto_region 11 with (first | (go_at_call 7; refine (srs_rights HSr.out (by omega) HH3.out HBa.out lp ln lc zs HRo.out hln).mono ?_; rintro e v5 ⟨rfl, hs, hiv, hsz⟩; have HSr5 := hide hs; have HI5 : Hid (Iv lo hi v3 v5) := (HI3.out.trans (iv_below HBa.out HH3.out)).trans hiv; have HH5 : Hid (hi ≤ v5.heap.size) := Nat.le_trans HH3.out (Nat.le_trans HBa.out.size hsz); clear hs hiv hsz) | (go_at_call 8; refine HAv.out.mono ?_; rintro e v4 ⟨lp, ln, lc, zs, rfl, hro, hln, hb⟩; have HRo := hide hro; have HBa := hide hb; clear hro hb) | fail)
            have HR5 := hide (HIv.out v5 HI5.out HSr5.out.bel)
            clear HAv HRo HBa hln
            clear p0 p1 p2 p3 p4 p5 p6 p7 p8
            clear q0 q1 q2 q3 q4 q5
            obtain ⟨p0, p1, p2, p3, p4, p5, p6, p7, p8⟩ := ac9 HR5.out.box
            obtain ⟨q0, q1, q2, q3, q4, q5⟩ := ac6 HR5.out.bst
            have HAv := hide (HR5.out.avail HxI.out ha)
            go_upto_region 12 with (first | (go_at_call 7; refine (srs_rights HSr5.out (by omega) HH5.out HBa.out lp ln lc zs HRo.out hln).mono ?_; rintro e v7 ⟨rfl, hs, hiv, hsz⟩; have HSr7 := hide hs; have HI7 : Hid (Iv lo hi v3 v7) := (HI5.out.trans (iv_below HBa.out HH5.out)).trans hiv; have HH7 : Hid (hi ≤ v7.heap.size) := Nat.le_trans HH5.out (Nat.le_trans HBa.out.size hsz); clear hs hiv hsz) | (go_at_call 8; refine HAv.out.mono ?_; rintro e v6 ⟨lp, ln, lc, zs, rfl, hro, hln, hb⟩; have HRo := hide hro; have HBa := hide hb; clear hro hb) | fail)
            have HR7 := hide (HIv.out v7 HI7.out HSr7.out.bel)
            clear HAv HRo HBa hln
            clear p0 p1 p2 p3 p4 p5 p6 p7 p8
            clear q0 q1 q2 q3 q4 q5
            obtain ⟨p0, p1, p2, p3, p4, p5, p6, p7, p8⟩ := ac9 HR7.out.box
            obtain ⟨q0, q1, q2, q3, q4, q5⟩ := ac6 HR7.out.bst
            have HMa := hide (HR7.out.may HxI.out ha)
            go_upto_region 13 with (first | (go_at_call 9; refine HMa.out.mono ?_; rintro e v8 ⟨bb, rfl, hb⟩; have HB8 := hide hb; clear hb) | fail)
            have HI8 : Hid (Iv lo hi v3 v8) := HI7.out.trans (iv_below HB8.out HH7.out)
            have HSr8 : Hid (Srs w v8 lo hi (2 * j + 1 + 1)) := HSr7.out.below HB8.out
            have HH8 : Hid (hi ≤ v8.heap.size) := Nat.le_trans HH7.out HB8.out.size
            have HR8 := hide (HIv.out v8 HI8.out HSr8.out.bel)
            clear HMa
            clear p0 p1 p2 p3 p4 p5 p6 p7 p8
            clear q0 q1 q2 q3 q4 q5
            obtain ⟨p0, p1, p2, p3, p4, p5, p6, p7, p8⟩ := ac9 HR8.out.box
            obtain ⟨q0, q1, q2, q3, q4, q5⟩ := ac6 HR8.out.bst
            have HBs := hide (HR8.out.backS HxI.out)
            have hj2 : 2 * j + 1 + 1 ≤ 1000 := by omega
            have HBel : Hid (∀ {W W' : World} {m : Nat}, Srs w W lo hi m → Below W.heap.size W W' → Srs w W' lo hi m) := fun h hb => h.below hb
            go_upto_region 15 with (first
              | (go_at_call 13; refine (srs_look HSrc.out hj2 HHc.out).mono ?_; rintro e vd ⟨rfl, hs, hiv, hsz⟩; have HOd := hide hs; have HId : Hid (Iv lo hi v3 vd) := HIc.out.trans hiv; clear hs hiv hsz)
              | (go_at_call 12; refine ((HIv.out vb HIb.out HSrb.out.bel).backL HxI.out).mono ?_; rintro e vc ⟨rfl, hb⟩; have HIc : Hid (Iv lo hi v3 vc) := HIb.out.trans (iv_below hb HHb.out); have HSrc := hide (HSrb.out.below hb); have HHc : Hid (hi ≤ vc.heap.size) := Nat.le_trans HHb.out hb.size; clear hb)
              | (go_at_call 11; refine ((HIv.out va HIa.out HSra.out.bel).backA HxI.out).mono ?_; rintro e vb ⟨rfl, hb⟩; have HIb : Hid (Iv lo hi v3 vb) := HIa.out.trans (iv_below hb HHa.out); have HSrb := hide (HSra.out.below hb); have HHb : Hid (hi ≤ vb.heap.size) := Nat.le_trans HHa.out hb.size; clear hb; obtain ⟨-, -, -, -, -, -, -, -, r8⟩ := ac9 (HIv.out vb HIb.out HSrb.out.bel).box)
              | (go_at_call 10; refine HBs.out.mono ?_; rintro e va ⟨rfl, hb⟩; have HIa : Hid (Iv lo hi v3 va) := HI8.out.trans (iv_below hb HH8.out); have HSra := hide (HSr8.out.below hb); have HHa : Hid (hi ≤ va.heap.size) := Nat.le_trans HH8.out hb.size; clear hb; obtain ⟨-, -, -, -, -, -, s6, -, -⟩ := ac9 (HIv.out va HIa.out HSra.out.bel).box)
              | fail)
            clear p0 p1 p2 p3 p4 p5 p6 p7 p8
            clear q0 q1 q2 q3 q4 q5
            have HRd2 := hide (HIv.out vd HId.out HOd.out.bel)
            obtain ⟨-, -, -, -, -, -, -, t7, -⟩ := ac9 HRd2.out.box
            have htl : -9223372036854775808 ≤ x.t ∧ x.t ≤ 9223372036854775807 := by
              have := HxI.out.till
              simp [Lit.wf, IntKind.min, IntKind.max, IntKind.signed, IntKind.bits] at this
              omega
            obtain ⟨tt, htt⟩ : ∃ tt, max x.t 0 = tt := ⟨_, rfl⟩
            have ht0 : 0 ≤ tt ∧ tt ≤ 9223372036854775807 := by omega
            have HNl := hide (New_any vd x.t)
            rw [htt] at HNl
            clear htt htl
            go_upto_region 16 with (first | (go_at_call 14; refine HNl.out.mono ?_; rintro e y0 ⟨rfl, hy⟩; have HY0 := hide hy; clear hy) | fail)
            have HL0 : Hid (Lp y0 vd.heap.size tt 0) := by show _ = _; rw [HY0.out]; exact heap_alloc_new _ _
            have HYb : Hid (Below vd.heap.size vd y0) := by show Below _ _ _; rw [HY0.out]; exact (Below.refl _ _).alloc (Nat.le_refl _) _
            clear HY0 HNl
            obtain ⟨lb, hlb⟩ : ∃ lb, vd.heap.size = lb := ⟨_, rfl⟩
            have HLb := hide hlb
            rw [hlb] at HL0 ⊢
            clear hlb
            go_upto_region 18 with (first | (go_at_call 15; refine (Tick_any y0 lb tt 0 HL0.out (by omega) (by omega)).mono ?_; rintro e y1 ⟨rfl, hl, ho⟩; have HL1 := hide hl; have HO1 := hide ho; clear hl ho) | fail)
            go_upto_region 19 with (first | (go_at_call 16; refine (Hear_any y1 lb tt _ HL1.out).mono ?_; rintro e y2 ⟨rfl, hl, ho⟩; have HL2 := hide hl; have HO2 := hide ho; clear hl ho) | fail)
            go_upto_region 20 with (first | (go_at_call 15; refine (Tick_any y2 lb tt tt HL2.out ht0.1 ht0.2).mono ?_; rintro e y3 ⟨rfl, hl, ho⟩; have HL3 := hide hl; have HO3 := hide ho; clear hl ho) | fail)
            go_upto_region 21 with (first | (go_at_call 17; refine (Left_any y3 lb tt _ HL3.out).mono ?_; rintro e y4 ⟨rfl, hl⟩; rw [hl]; clear hl y4) | fail)
            go_wp2_with (first | (go_at_call 18; refine (Runs_any y3 lb tt _ HL3.out).mono ?_; rintro e y5 ⟨rfl, hl⟩; rw [hl]; clear hl y5) | fail)
            go_roundw
            case rel => exact ⟨j + 1, by omega, by omega, by go_num, HOd.out.below (HO3.out.below (HO2.out.below (HO1.out.below HYb.out (by rw [HLb.out]; omega)) (by rw [HLb.out]; omega)) (by rw [HLb.out]; omega))⟩
            case measure => simp [intOf]; omega
          · have hm' : (8192 : Int) < (x.m.n : Int) := by omega
            go_wp2
            go_roundw
            case rel => exact ⟨j + 1, by omega, by omega, by go_num, HO3.out.more (by omega)⟩
            case measure => simp [intOf]; omega
        · have ha' : (256 : Int) < (x.a.n : Int) := by omega
          go_wp2
          go_roundw
          case rel => exact ⟨j + 1, by omega, by omega, by go_num, HO3.out.more (by omega)⟩
          case measure => simp [intOf]; omega
      · have e1 : ¬ (j : Int) < 60 := by omega
        go_wp2_with (first | (go_at_call 19; refine (HWk.out wr).mono ?_; rintro e v1 ⟨rfl, hb⟩; have HBw := hide hb; clear hb) | fail)
        go_ret
        exact ⟨rfl, HO.out.bel.trans (HBw.out.mono HO.out.bel.size)⟩
    · have e0 : ¬ (j : Int) < (n : Int) := by omega
      go_wp2_with (first | (go_at_call 19; refine (HWk.out wr).mono ?_; rintro e v1 ⟨rfl, hb⟩; have HBw := hide hb; clear hb) | fail)
      go_ret
      exact ⟨rfl, HO.out.bel.trans (HBw.out.mono HO.out.bel.size)⟩
end Go.Proofs.YtfdanocpbhbieaaGreat
