import Derived.Test.YtlpafgjgoheomaaAgainL
namespace Go.Proofs.Ytlpafgjgoheomaa
open Go.RowKit Go.Maps

set_option maxRecDepth 100000 in
set_option maxHeartbeats 4000000 in
theorem again_all (W : World) (sp : Option Addr) (m cap : Nat) (ops : List Opm) (hm : ops.length = m) (hml : m ≤ 140737488355328) (hI : Opi W sp ops) (hok : ∀ q ∈ ops, OpOk W K0 q ∧ q.bc ≤ 9223372036854775807) (r : Int)
    (pp : Option Addr) (pm pc : Nat) (ps : List Int) (hpm : ps.length = pm) (hpl : pm ≤ 140737488355328) (hP : Ins W pp ps) (mp : Option Addr) (ml mc : Nat) (more : List Opm) (hmm : more.length = ml) (hmml : ml ≤ 140737488355328) (hMI : Opi W mp more) (hMok : ∀ q ∈ more, OpOk W K0 q ∧ q.bc ≤ 9223372036854775807) (np : Option Addr) (nl nc : Nat) (next : List Int) (hnn : next.length = nl) (hnl : nl ≤ 140737488355328) (hNx : Ins W np next) :
    Calls Try.prog 7 #[.agg #[.slice sp m cap, .int .i64 r, .slice pp pm pc, .slice mp ml mc, .slice np nl nc]] W fun e w' => e = .returned (.bool true) ∧ Below W.heap.size W w' := by
  have HI := hide hI
  have HM := hide hm
  have HOk := hide hok
  have HPm := hide hpm
  have HP := hide hP
  have HMm := hide hmm
  have HMI := hide hMI
  have HMok := hide hMok
  have HNn := hide hnn
  have HNx := hide hNx
  clear hI hm hok hpm hP hmm hMI hMok hnn hNx
  have hcb := fun (w : World) (C : Array Value) (n c : Nat) => Lib.run_convert_bytes_const (P := Try.prog) w 26 5 C n c Try.underlying26 Try.underlying5
  go_enter Try.func7, Try.ntmps7
  have HB0 : Hid (Below W.heap.size W (W.alloc (.cells #[.slice sp m cap, .int .i64 r, .slice pp pm pc, .slice mp ml mc, .slice np nl nc] 50))) := (Below.refl _ _).alloc (Nat.le_refl _) _
  have HX0 : Hid ((W.alloc (.cells #[.slice sp m cap, .int .i64 r, .slice pp pm pc, .slice mp ml mc, .slice np nl nc] 50)).heap[W.heap.size]? = some (.cells #[.slice sp m cap, .int .i64 r, .slice pp pm pc, .slice mp ml mc, .slice np nl nc] 50 (0, 0))) := heap_alloc_new _ _
  go_wp2_with fail
  refine (open_any _ K0 1).mono ?_
  rintro e w1 ⟨d, rfl, hd, hd1, hb1⟩
  have HB1 := hide (HB0.out.trans (hb1.mono (by simp)))
  have HX1 : Hid (w1.heap[W.heap.size]? = _) := (hb1.block W.heap.size (by simp)).trans HX0.out
  have HK1 := hide (kp_new (K := K0) (1, 1) hb1 hd)
  have HD1 := hide hd1
  clear hb1 hd1 HX0 HB0
  obtain ⟨K1, hK1⟩ : ∃ K1, newK (ext K0 (W.alloc (.cells #[.slice sp m cap, .int .i64 r, .slice pp pm pc, .slice mp ml mc, .slice np nl nc] 50)).heap.size (0, 0)) d (1, 1) = K1 := ⟨_, rfl⟩
  rw [hK1] at HK1 HD1
  have HKo : Hid (∀ b, b < W.heap.size + 1 → K1 b = (0, 0)) := fun b hb => (HK1.out.same b (by simpa using hb)).trans rfl
  have HL1 : Hid (L1 W w1 K1 d (St.new 16777216) 0 (.cells #[.slice sp m cap, .int .i64 r, .slice pp pm pc, .slice mp ml mc, .slice np nl nc] 50 (0, 0))) :=
    ⟨HD1.out, new_inv (by omega), new_sz _, fun b hb => HKo.out b (by omega), HB1.out, HX1.out, HKo.out _ (by omega)⟩
  clear HK1 hK1 hd HX1 HB1 HD1 HKo
  have HL4 := hide (HL1.out.below ((Below.refl _ w1).alloc (Nat.le_refl _) (.cells #[.int .u8 49] 5 (1, 2))))
  have HBy := hide (lit1 w1 49 (by decide) (1, 2))
  have HOs : Hid (OpOk (w1.alloc (.cells #[.int .u8 49] 5 (1, 2))) (ext K1 w1.heap.size (0, 0)) (fOp w1.heap.size)) :=
    ⟨by simp [fOp], by simp [fOp], by simp [fOp], HBy.out, Or.inr (fun g o e => by cases e; exact ⟨ext_new _ _ (Nat.le_refl _), by simp⟩), by simp [fOp]⟩
  have HPl := hide (play_any _ _ 1 d (by omega) (St.new 16777216) HL4.out.dk HL4.out.inv 0 HL4.out.sz (fOp w1.heap.size) HOs.out (by show 0 + 1 ≤ _; omega))
  have HGd := hide (good_play HL4.out.inv HL4.out.sz (fOp w1.heap.size).x HOs.out.by_.small)
  have HPa := hide ((past_new 16777216).next HGd.out.inv (nexts_play _ _))
  have HTt : Hid (((St.new 16777216).play (fOp w1.heap.size).x).2.tot ≤ 2) := tot_play (new_inv (by omega)) _
  have HLn := hide (first_len w1.heap.size)
  generalize ((St.new 16777216).play (fOp w1.heap.size).x) = R at *
  unfold opc fOp at HPl
  simp only at HPl
  clear HL1
  go_wp2_with fail
  refine HPl.out.mono ?_
  rintro e w5 ⟨K5, rfl, hd5, hk5⟩
  have HL5 := hide (HL4.out.played hd5 HGd.out.inv HGd.out.sz hk5)
  obtain ⟨x0, x1, x2, x3, x4⟩ := blk5 HL5.out.box
  have HFw := hide (few_any w5 sp m cap ops HM.out hml (HI.out.below HL5.out.bel) (fun q hq => ⟨(HOk.out q hq).1.cap, (HOk.out q hq).2⟩))
  clear hd5 hk5 HL4 HBy HOs HPl HGd x1 x2 x3 x4 hcb
  go_wp2_with fail
  refine HFw.out.mono ?_
  rintro e w2 ⟨oa, oc, rfl, hr2, hb2⟩
  have HL2 := hide (HL5.out.below hb2)
  have HO2 := hide (few_opk1 HL5.out.bel HL5.out.old hb2 hr2 rfl (few_ok (fun q hq => (HOk.out q hq).1)))
  have HFk : Hid (∀ q ∈ fewO ops, 1 ≤ q.x.kind ∧ q.x.kind ≤ 6 ∧ q.x.b.length ≤ 4096) := few_kind ops
  have HFm : Hid ((fewO ops).length ≤ 200) := few_most ops
  clear hr2 hb2 HFw HL5 x0
  generalize ext K5 w5.heap.size (0, 0) = K2 at *
  generalize fewO ops = fo at *
  obtain ⟨N, hN⟩ : ∃ N, fo.length = N := ⟨_, rfl⟩
  rw [hN] at HO2 HFm ⊢
  have hN2 : N ≤ 200 := HFm.out
  clear hN
  go_wp2
  go_loopw [5] (fun i wr => ∃ (k kk : Nat) (K : Knd) (S : St), k ≤ N ∧ i = .int .i64 (k : Int) ∧ Hid (L1 W wr K d S kk (.cells #[.slice sp m cap, .int .i64 r, .slice pp pm pc, .slice mp ml mc, .slice np nl nc] 50 (0, 0))) ∧ Hid (Opk wr K oa N oc fo) ∧ Hid (kk ≤ 2 + k * 4097) ∧ Hid (Past S) ∧ Hid (S.tot ≤ 2 + k * 4097) ∧ Hid (k = 0 → S.image.length = 1)) (fun i _ => N - (intOf i).toNat)
  case atStart => exact ⟨0, _, K2, R.2, Nat.zero_le _, rfl, HL2, HO2, hide (by show 0 + 1 + 1 ≤ _; omega), HPa, hide (by have := HTt.out; omega), hide (fun _ => HLn.out)⟩
  case round =>
    obtain ⟨k, kk, K, S, hk, rfl, HL, HO, HKk, HPs, HTo, HZ⟩ := hrel
    clear HL2 HO2 HPa HTt HLn
    by_cases hlt : k < N
    · have hlt' : (k : Int) < (N : Int) := by omega
      have hk0 : (0 : Int) ≤ (k : Int) := by omega
      obtain ⟨q, hq⟩ : ∃ q, fo[k]? = some q := ⟨_, List.getElem?_eq_getElem (by rw [HO.out.len]; exact hlt)⟩
      have hqm := List.mem_of_getElem? hq
      have HQ := hide (HFk.out q hqm)
      obtain ⟨g, o, hoa, hg, c0, c1, c2, c3, c4, c5, c6, c7, c8, c9⟩ := (owns_ops HO.out.row.own).at hq
      subst hoa
      have HPl := hide (play_any wr K 1 d (by omega) S HL.out.dk HL.out.inv kk HL.out.sz q (HO.out.ok q hqm) (by have := HKk.out; have := HQ.out.2.2; omega))
      have HGd := hide (good_play HL.out.inv HL.out.sz q.x (HO.out.ok q hqm).by_.small)
      have HPn := hide (HPs.out.next HGd.out.inv (nexts_play S q.x))
      have HTn : Hid ((S.play q.x).2.tot ≤ 2 + (k + 1) * 4097) := by
        have h0 := HTo.out
        have h1 := tot_play HL.out.inv q.x
        have h2 := HQ.out.2.2
        show _ ≤ _
        omega
      have HK2 : Hid (kk + q.x.b.length + 1 ≤ 2 + (k + 1) * 4097) := by
        show _ ≤ _
        have := HKk.out
        have := HQ.out.2.2
        omega
      unfold opc at HPl
      clear hq
      go_wp2_with fail
      refine HPl.out.mono ?_
      rintro e w3 ⟨K3, rfl, hd3, hk3⟩
      have HL3 := hide (HL.out.played hd3 HGd.out.inv HGd.out.sz hk3)
      have HO3 := hide (HO.out.kept hk3 (by simp))
      clear hd3 hk3
      go_wp2
      go_roundw
      case rel => exact ⟨k + 1, _, K3, _, by omega, by go_num, HL3, HO3, HK2, HPn, HTn, hide (fun e => by omega)⟩
      case measure => simp [intOf]; omega
    · obtain rfl : k = N := by omega
      clear HO HFk HFm
      replace HL := hide (HL.out.mono (k' := 900000) (by have := HKk.out; omega))
      have HTm : Hid (S.tot ≤ 16777216) := by have := HTo.out; show _ ≤ _; omega
      have HSn := hide (seen_any wr K 1 d S HL.out.dk HL.out.inv _ HL.out.sz (by omega))
      have HOkC := hide (crash_ok HL.out.inv HPs.out ps HTm.out)
      have HNmC := hide (crash_nm HL.out.inv ps)
      have HCm : Hid ((S.crash ps).length ≤ 64) := by show _ ≤ _; rw [crash_len]; exact HPs.out.most _
      clear HKk HTo
      go_wp2_with fail
      refine HSn.out.mono ?_
      rintro e w6 ⟨v6, rfl, hi6, hb6⟩
      have HL6 := hide (HL.out.below hb6)
      have HW6 := hide hi6
      generalize ext K wr.heap.size (0, 0) = K6 at *
      obtain ⟨wa, wc, rfl, _, _⟩ := HW6.out.form
      obtain ⟨n0, hn0⟩ : ∃ n0, S.image.length = n0 := ⟨_, rfl⟩
      have HN0 := hide hn0
      have hn64 : n0 ≤ 64 := by rw [← hn0]; exact image_len HL6.out.inv
      rw [hn0] at HW6 HZ ⊢
      obtain ⟨x0, x1, x2, x3, x4⟩ := blk5 HL6.out.box
      have HCr := hide (Crash_any w6 K6 1 d S HL6.out.dk HL6.out.inv _ HL6.out.sz (by omega) pp pm pc ps HPm.out (HP.out.below HL6.out.bel) hpl)
      clear hi6 hb6 hn0 HSn HL x0 x1 x3 x4
      go_wp2_with fail
      refine HCr.out.mono ?_
      rintro e w7 ⟨v7, rfl, hi7, hb7⟩
      have HL7 := hide (HL6.out.below hb7)
      have HW7 := hide (HW6.out.kept (kp_below hb7 (fun _ => False) K6 (0, 0)) (fun h => h))
      have HC7 := hide hi7
      generalize ext K6 w6.heap.size (0, 0) = K7 at *
      obtain ⟨la, lc, rfl, _, _⟩ := HC7.out.form
      obtain ⟨n2, hn2⟩ : ∃ n2, (S.crash ps).length = n2 := ⟨_, rfl⟩
      have HN2 := hide hn2
      have hn2l : n2 ≤ 64 := by rw [← hn2]; exact HCm.out
      rw [hn2] at HC7 ⊢
      have HCp := hide (lcopied_any w7 K7 _ (S.crash ps) HC7.out (by rw [hn2]; omega))
      clear hi7 hb7 hn2 HCr x2 HL6 HW6
      go_wp2_with fail
      refine HCp.out.mono ?_
      rintro e w8 ⟨v8, rfl, hi8, hb8⟩
      have HL8 := hide (HL7.out.below hb8)
      have HW8 := hide (HW7.out.kept (kp_below hb8 (fun _ => False) K7 (0, 0)) (fun h => h))
      have HC8 := hide (HC7.out.kept (kp_below hb8 (fun _ => False) K7 (0, 0)) (fun h => h))
      generalize ext K7 w7.heap.size (0, 0) = K8 at *
      have HLd := hide (Load_any w8 K8 2 (by omega) v8 (S.crash ps) 16777216 hi8 HNmC.out (by omega) HOkC.out)
      rw [show ((16777216 : Nat) : Int) = 16777216 from rfl] at HLd
      have HSmC : Hid (∀ p ∈ S.crash ps, ∀ x ∈ p.2, x < 256) := fun p hp => (hi8.small p hp).1
      clear hi8 hb8 HCp HL7 HW7 HC7
      go_wp2_with fail
      refine HLd.out.mono ?_
      rintro e w9 ⟨rr, K9, rfl, hd9, hk9⟩
      have HL9 : Hid (L2 W w9 K9 d S 900000 rr (St.laid 16777216 (S.crash ps)) 0 (.cells #[.slice sp m cap, .int .i64 r, .slice pp pm pc, .slice mp ml mc, .slice np nl nc] 50 (0, 0))) := ⟨HL8.out.other hk9, hd9, laid_inv (by omega) HOkC.out, laid_sz (by omega) HOkC.out HSmC.out⟩
      have HW9 := hide (HW8.out.kept hk9 (by simp))
      have HC9 := hide (HC8.out.kept hk9 (by simp))
      clear hd9 hk9 HLd HL8 HW8 HC8
      go_wp2_with fail
      refine (num_any _ 0).mono ?_
      rintro e w10 ⟨rfl, rfl⟩
      have HSn := hide (seen_any w10 K9 2 rr _ HL9.out.dk HL9.out.inv _ HL9.out.sz (by omega))
      rw [laid_image] at HSn
      go_wp2_with fail
      refine HSn.out.mono ?_
      rintro e w11 ⟨v11, rfl, hi11, hb11⟩
      have HLa := hide (HL9.out.below hb11)
      have HWa := hide (HW9.out.kept (kp_below hb11 (fun _ => False) K9 (0, 0)) (fun h => h))
      have HCa := hide (HC9.out.kept (kp_below hb11 (fun _ => False) K9 (0, 0)) (fun h => h))
      generalize ext K9 w10.heap.size (0, 0) = Ka at *
      have HIm := hide (image_same w11 Ka _ _ (S.crash ps) hi11 HCa.out (by rw [HN2.out]; omega))
      clear hi11 hb11 HSn HL9 HW9 HC9
      go_wp2_with fail
      refine HIm.out.mono ?_
      rintro e w12 ⟨rfl, q1, rfl⟩
      have HLb := hide (HLa.out.drewN q1)
      have HWb := hide (im_drewN HWa.out q1)
      have HCb := hide (im_drewN HCa.out q1)
      clear HIm HLa HWa HCa
      generalize w11.drewN q1 = w12 at *
      obtain ⟨x0, x1, x2, x3, x4⟩ := blk5 HLb.out.one.box
      have HCr := hide (Crash_any w12 Ka 2 rr _ HLb.out.dk HLb.out.inv _ HLb.out.sz (by omega) np nl nc next HNn.out (HNx.out.below HLb.out.one.bel) hnl)
      rw [laid_crash] at HCr
      clear x0 x1 x2 x3
      go_wp2_with fail
      refine HCr.out.mono ?_
      rintro e w13 ⟨v13, rfl, hi13, hb13⟩
      have HLc := hide (HLb.out.below hb13)
      have HWc := hide (HWb.out.kept (kp_below hb13 (fun _ => False) Ka (0, 0)) (fun h => h))
      have HCc := hide (HCb.out.kept (kp_below hb13 (fun _ => False) Ka (0, 0)) (fun h => h))
      generalize ext Ka w12.heap.size (0, 0) = Kb at *
      have HIm := hide (image_same w13 Kb _ _ (S.crash ps) hi13 HCc.out (by rw [HN2.out]; omega))
      clear hi13 hb13 HCr HLb HWb HCb x4
      go_wp2_with fail
      refine HIm.out.mono ?_
      rintro e w14 ⟨rfl, q2, rfl⟩
      have HLd := hide (HLc.out.drewN q2)
      have HWd := hide (im_drewN HWc.out q2)
      have HCd := hide (im_drewN HCc.out q2)
      clear HIm HLc HWc HCc
      generalize w13.drewN q2 = w14 at *
      obtain ⟨x0, x1, x2, x3, x4⟩ := blk5 HLd.out.one.box
      have HFw := hide (few_any w14 mp ml mc more HMm.out hmml (HMI.out.below HLd.out.one.bel) (fun q hq => ⟨(HMok.out q hq).1.cap, (HMok.out q hq).2⟩))
      clear x0 x1 x2 x4
      go_wp2_with fail
      refine HFw.out.mono ?_
      rintro e w15 ⟨na, nc8, rfl, hr8, hb8⟩
      have HLe := hide (HLd.out.below hb8)
      have HWe := hide (HWd.out.kept (kp_below hb8 (fun _ => False) Kb (0, 0)) (fun h => h))
      have HCe := hide (HCd.out.kept (kp_below hb8 (fun _ => False) Kb (0, 0)) (fun h => h))
      have HO8 := hide (few_opk1 HLd.out.one.bel HLd.out.one.old hb8 hr8 rfl (few_ok (fun q hq => (HMok.out q hq).1)))
      have HFk : Hid (∀ q ∈ fewO more, 1 ≤ q.x.kind ∧ q.x.kind ≤ 6 ∧ q.x.b.length ≤ 4096) := few_kind more
      have HFm : Hid ((fewO more).length ≤ 200) := few_most more
      clear hr8 hb8 HFw HLd HWd HCd x3
      generalize ext Kb w14.heap.size (0, 0) = K8 at *
      generalize fewO more = fm at *
      obtain ⟨N8, hN8⟩ : ∃ N8, fm.length = N8 := ⟨_, rfl⟩
      rw [hN8] at HO8 HFm ⊢
      have hN82 : N8 ≤ 200 := HFm.out
      clear hN8
      generalize St.laid 16777216 (S.crash ps) = R0 at *
      go_wp2
      go_loopw [11] (fun i wr => ∃ (j : Nat) (K : Knd) (T : St), j ≤ N8 ∧ i = .int .i64 (j : Int) ∧ Hid (L2 W wr K d S 900000 rr T (j * 4097) (.cells #[.slice sp m cap, .int .i64 r, .slice pp pm pc, .slice mp ml mc, .slice np nl nc] 50 (0, 0))) ∧ Hid (Opk wr K na N8 nc8 fm) ∧ Hid (Im wr K (.slice wa n0 wc) S.image) ∧ Hid (Im wr K (.slice la n2 lc) (S.crash ps))) (fun i _ => N8 - (intOf i).toNat)
      case atStart => exact ⟨0, K8, R0, Nat.zero_le _, rfl, hide (by simpa using HLe.out), HO8, HWe, HCe⟩
      case round =>
        obtain ⟨j, K, T, hj, rfl, HL, HO, HW, HC⟩ := hrel
        clear HLe HWe HCe HO8
        by_cases hlt : j < N8
        · have hlt' : (j : Int) < (N8 : Int) := by omega
          have hj0 : (0 : Int) ≤ (j : Int) := by omega
          obtain ⟨q, hq⟩ : ∃ q, fm[j]? = some q := ⟨_, List.getElem?_eq_getElem (by rw [HO.out.len]; exact hlt)⟩
          have hqm := List.mem_of_getElem? hq
          have HQ := hide (HFk.out q hqm).2.2
          obtain ⟨g, o, hoa, hg, c0, c1, c2, c3, c4, c5, c6, c7, c8, c9⟩ := (owns_ops HO.out.row.own).at hq
          subst hoa
          clear hq
          have HPl := hide (play_any _ K 2 rr (by omega) T HL.out.dk HL.out.inv _ HL.out.sz q (HO.out.ok q hqm) (by have := HQ.out; omega))
          have HGd := hide (good_play HL.out.inv HL.out.sz q.x (HO.out.ok q hqm).by_.small)
          unfold opc at HPl
          go_wp2_with fail
          refine HPl.out.mono ?_
          rintro e w16 ⟨K16, rfl, hd16, hk16⟩
          have HL16 := hide (HL.out.played (m' := (j + 1) * 4097) hd16 HGd.out.inv (HGd.out.sz.mono (by have := HQ.out; omega)) hk16)
          have HO16 := hide (HO.out.kept hk16 (by simp))
          have HW16 := hide (HW.out.kept hk16 (by simp))
          have HC16 := hide (HC.out.kept hk16 (by simp))
          clear hd16 hk16
          go_wp2
          go_roundw
          case rel => exact ⟨j + 1, K16, _, by omega, by go_num, HL16, HO16, HW16, HC16⟩
          case measure => simp [intOf]; omega
        · obtain rfl : j = N8 := by omega
          clear HO HFk HFm
          have HSn := hide (seen_any wr K 1 d S HL.out.one.dk HL.out.one.inv _ HL.out.one.sz (by omega))
          go_wp2_with fail
          refine HSn.out.mono ?_
          rintro e w17 ⟨v17, rfl, hi17, hb17⟩
          have HLa := hide (HL.out.one.below hb17)
          have HWa := hide (HW.out.kept (kp_below hb17 (fun _ => False) K (0, 0)) (fun h => h))
          have HCa := hide (HC.out.kept (kp_below hb17 (fun _ => False) K (0, 0)) (fun h => h))
          generalize ext K wr.heap.size (0, 0) = Kc at *
          have HIm := hide (image_same w17 Kc _ _ S.image hi17 HWa.out (by rw [HN0.out]; omega))
          clear hi17 hb17 HSn HL HW HC
          go_wp2_with fail
          refine HIm.out.mono ?_
          rintro e w18 ⟨rfl, q3, rfl⟩
          have HLb := hide (HLa.out.drewN q3)
          have HCb := hide (im_drewN HCa.out q3)
          clear HIm HLa HWa HCa
          generalize w17.drewN q3 = w18 at *
          obtain ⟨x0, x1, x2, x3, x4⟩ := blk5 HLb.out.box
          have HCr := hide (Crash_any w18 Kc 1 d S HLb.out.dk HLb.out.inv _ HLb.out.sz (by omega) pp pm pc ps HPm.out (HP.out.below HLb.out.bel) hpl)
          clear x0 x1 x3 x4
          go_wp2_with fail
          refine HCr.out.mono ?_
          rintro e w19 ⟨v19, rfl, hi19, hb19⟩
          have HLc := hide (HLb.out.below hb19)
          have HCc := hide (HCb.out.kept (kp_below hb19 (fun _ => False) Kc (0, 0)) (fun h => h))
          have HIm := hide (image_same w19 _ _ _ (S.crash ps) hi19 HCc.out (by rw [HN2.out]; omega))
          clear hi19 hb19 HCr HLb HCb x2
          by_cases hk0 : k = 0
          · have hk00 : ¬ (0 : Int) < (k : Int) := by omega
            obtain rfl : n0 = 1 := HZ.out hk0
            go_wp2_with fail
            refine HIm.out.mono ?_
            rintro e w20 ⟨rfl, q4, rfl⟩
            go_wp2
            go_ret
            exact ⟨rfl, below_drewN HLc.out.bel q4⟩
          · have hk00 : (0 : Int) < (k : Int) := by omega
            go_wp2_with fail
            refine HIm.out.mono ?_
            rintro e w20 ⟨rfl, q4, rfl⟩
            go_wp2
            go_ret
            exact ⟨rfl, below_drewN HLc.out.bel q4⟩

end Go.Proofs.Ytlpafgjgoheomaa
