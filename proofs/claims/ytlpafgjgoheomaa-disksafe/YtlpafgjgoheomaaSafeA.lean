import Derived.Test.YtlpafgjgoheomaaSafeM
namespace Go.Proofs.Ytlpafgjgoheomaa
open Go.RowKit Go.Maps

set_option maxRecDepth 100000 in
set_option maxHeartbeats 4000000 in
theorem safe_all (W : World) (sp : Option Addr) (m cap : Nat) (ops : List Opm) (hm : ops.length = m) (hml : m ≤ 140737488355328) (hI : Opi W sp ops) (hok : ∀ q ∈ ops, OpOk W K0 q ∧ q.bc ≤ 9223372036854775807) (r : Int)
    (pp : Option Addr) (pm pc : Nat) (ps : List Int) (hpm : ps.length = pm) (hpl : pm ≤ 140737488355328) (hP : Ins W pp ps) (mp : Option Addr) (ml mc : Nat) (more : List Opm) (hmm : more.length = ml) (hmml : ml ≤ 140737488355328) (hMI : Opi W mp more) (hMok : ∀ q ∈ more, OpOk W K0 q ∧ q.bc ≤ 9223372036854775807) (np : Option Addr) (nl nc : Nat) :
    Calls Try.prog 4 #[.agg #[.slice sp m cap, .int .i64 r, .slice pp pm pc, .slice mp ml mc, .slice np nl nc]] W fun e w' => e = .returned (.bool true) ∧ Below W.heap.size W w' := by
  have HI := hide hI
  have HM := hide hm
  have HOk := hide hok
  have HPm := hide hpm
  have HP := hide hP
  have HMm := hide hmm
  have HMI := hide hMI
  have HMok := hide hMok
  clear hI hm hok hpm hP hmm hMI hMok
  have hcb := fun (w : World) (C : Array Value) (n c : Nat) => Lib.run_convert_bytes_const (P := Try.prog) w 26 5 C n c Try.underlying26 Try.underlying5
  go_enter Try.func4, Try.ntmps4
  have HB0 : Hid (Below W.heap.size W (W.alloc (.cells #[.slice sp m cap, .int .i64 r, .slice pp pm pc, .slice mp ml mc, .slice np nl nc] 50))) := (Below.refl _ _).alloc (Nat.le_refl _) _
  have HX0 : Hid ((W.alloc (.cells #[.slice sp m cap, .int .i64 r, .slice pp pm pc, .slice mp ml mc, .slice np nl nc] 50)).heap[W.heap.size]? = some (.cells #[.slice sp m cap, .int .i64 r, .slice pp pm pc, .slice mp ml mc, .slice np nl nc] 50 (0, 0))) := heap_alloc_new _ _
  go_wp2_with fail
  refine (open_any _ K0 1).mono ?_
  rintro e w1 ⟨d, rfl, hd, hd1, hb1⟩
  have HB1 := hide (HB0.out.trans (hb1.mono (by simp)))
  have HX1 : Hid (w1.heap[W.heap.size]? = _) := (hb1.block W.heap.size (by simp)).trans HX0.out
  have HK1 := hide (kp_new (K := K0) (1, 1) hb1 hd)
  have HD1 := hide hd1
  clear hb1 hd1 HX0 HB0
  obtain ⟨K1, hK1⟩ : ∃ K1, newK (ext K0 (W.alloc (.cells #[.slice sp m cap, .int .i64 r, .slice pp pm pc, .slice mp ml mc, .slice np nl nc] 50)).heap.size (0, 0)) d (1, 1) = K1 := ⟨_, rfl⟩
  rw [hK1] at HK1 HD1
  have HKo : Hid (∀ b, b < W.heap.size + 1 → K1 b = (0, 0)) := fun b hb => (HK1.out.same b (by simpa using hb)).trans rfl
  have HL1 : Hid (L1 W w1 K1 d (St.new 16777216) 0 (.cells #[.slice sp m cap, .int .i64 r, .slice pp pm pc, .slice mp ml mc, .slice np nl nc] 50 (0, 0))) :=
    ⟨HD1.out, new_inv (by omega), new_sz _, fun b hb => HKo.out b (by omega), HB1.out, HX1.out, HKo.out _ (by omega)⟩
  obtain ⟨x0, x1, x2, x3, x4⟩ := blk5 HX1.out
  have HFw := hide (few_any w1 sp m cap ops HM.out hml (HI.out.below HB1.out) (fun q hq => ⟨(HOk.out q hq).1.cap, (HOk.out q hq).2⟩))
  clear HK1 hK1 hd HX1 HB1 HD1 HKo x1 x2 x3 x4
  go_wp2_with fail
  refine HFw.out.mono ?_
  rintro e w2 ⟨oa, oc, rfl, hr2, hb2⟩
  have HL2 := hide (HL1.out.below hb2)
  have HO2 := hide (few_opk1 HL1.out.bel HL1.out.old hb2 hr2 rfl (few_ok (fun q hq => (HOk.out q hq).1)))
  have HFk : Hid (∀ q ∈ fewO ops, 1 ≤ q.x.kind ∧ q.x.kind ≤ 6 ∧ q.x.b.length ≤ 4096) := few_kind ops
  have HFm : Hid ((fewO ops).length ≤ 200) := few_most ops
  clear hr2 hb2 HFw HL1 x0
  generalize ext K1 w1.heap.size (0, 0) = K2 at *
  generalize fewO ops = fo at *
  obtain ⟨N, hN⟩ : ∃ N, fo.length = N := ⟨_, rfl⟩
  rw [hN] at HO2 HFm ⊢
  have hN2 : N ≤ 200 := HFm.out
  clear hN
  go_wp2
  go_loopw [5] (fun i wr => ∃ (k kk : Nat) (K : Knd) (S : St), k ≤ N ∧ i = .int .i64 (k : Int) ∧ Hid (L1 W wr K d S kk (.cells #[.slice sp m cap, .int .i64 r, .slice pp pm pc, .slice mp ml mc, .slice np nl nc] 50 (0, 0))) ∧ Hid (Opk wr K oa N oc fo) ∧ Hid (kk ≤ k * 4097) ∧ Hid (Free S) ∧ Hid (S.room = 16777216 ∧ S.used ≤ k * 4096)) (fun i _ => N - (intOf i).toNat)
  case atStart => exact ⟨0, 0, K2, _, Nat.zero_le _, rfl, HL2, HO2, Nat.zero_le _, free_new _, hide ⟨rfl, Nat.zero_le _⟩⟩
  case round =>
    obtain ⟨k, kk, K, S, hk, rfl, HL, HO, HKk, HFr, HU⟩ := hrel
    clear HL2 HO2
    by_cases hlt : k < N
    · have hlt' : (k : Int) < (N : Int) := by omega
      have hk0 : (0 : Int) ≤ (k : Int) := by omega
      obtain ⟨q, hq⟩ : ∃ q, fo[k]? = some q := ⟨_, List.getElem?_eq_getElem (by rw [HO.out.len]; exact hlt)⟩
      have hqm := List.mem_of_getElem? hq
      have HQ := hide (HFk.out q hqm)
      obtain ⟨g, o, hoa, hg, c0, c1, c2, c3, c4, c5, c6, c7, c8, c9⟩ := (owns_ops HO.out.row.own).at hq
      subst hoa
      have HPl := hide (play_any wr K 1 d (by omega) S HL.out.dk HL.out.inv kk HL.out.sz q (HO.out.ok q hqm) (by have := HKk.out; have := HQ.out.2.2; omega))
      have HGd := hide (good_play HL.out.inv HL.out.sz q.x (HO.out.ok q hqm).by_.small)
      have HFp := hide (HFr.out.play q.x)
      have HU2 : Hid ((S.play q.x).2.room = 16777216 ∧ (S.play q.x).2.used ≤ (k + 1) * 4096) := by
        have h0 := HU.out
        have h2 := HQ.out.2.2
        have h1 := play_used HL.out.inv HL.out.sz q.x (HO.out.ok q hqm).by_.small HFr.out.off HFr.out.power ⟨HQ.out.1, HQ.out.2.1⟩ (by omega)
        exact ⟨HGd.out.room.trans h0.1, by omega⟩
      have HK2 : Hid (kk + q.x.b.length + 1 ≤ (k + 1) * 4097) := by
        show _ ≤ _
        have := HKk.out
        have := HQ.out.2.2
        omega
      unfold opc at HPl
      clear hq
      go_wp2_with fail
      refine HPl.out.mono ?_
      rintro e w3 ⟨K3, rfl, hd3, hk3⟩
      have HL3 := hide (HL.out.played hd3 HGd.out.inv HGd.out.sz hk3)
      have HO3 := hide (HO.out.kept hk3 (by simp))
      clear hd3 hk3
      go_wp2
      go_roundw
      case rel => exact ⟨k + 1, _, K3, _, by omega, by go_num, HL3, HO3, HK2, HFp, HU2⟩
      case measure => simp [intOf]; omega
    · obtain rfl : k = N := by omega
      clear HO
      have HL4 := hide (HL.out.below ((Below.refl _ wr).alloc (Nat.le_refl _) (.cells #[.int .u8 98, .int .u8 121, .int .u8 116, .int .u8 101, .int .u8 115] 5 (5, 6))))
      have HBy := hide (lit5 wr 98 121 116 101 115 (by decide) (5, 6))
      have HOs : Hid (OpOk (wr.alloc (.cells #[.int .u8 98, .int .u8 121, .int .u8 116, .int .u8 101, .int .u8 115] 5 (5, 6))) (ext K wr.heap.size (0, 0)) (sOp wr.heap.size)) :=
        ⟨by simp [sOp], by simp [sOp], by simp [sOp], HBy.out, Or.inr (fun g o e => by cases e; exact ⟨ext_new _ _ (Nat.le_refl _), by simp⟩), by simp [sOp]⟩
      have HPl := hide (play_any _ _ 1 d (by omega) S HL4.out.dk HL4.out.inv kk HL4.out.sz (sOp wr.heap.size) HOs.out (by have := HKk.out; show _ + 5 ≤ _; omega))
      have HGd := hide (good_play HL4.out.inv HL4.out.sz (sOp wr.heap.size).x HOs.out.by_.small)
      have HFp := hide (HFr.out.play (sOp wr.heap.size).x)
      have HNe : Hid ((S.play (sOp wr.heap.size).x).2.seen ≠ []) := app_some HFr.out [115, 97, 102, 101] [98, 121, 116, 101, 115] (by decide +kernel) (by have := HU.out; show _ + 5 ≤ _; omega)
      generalize (S.play (sOp wr.heap.size).x) = R at *
      unfold opc sOp at HPl
      simp only at HPl
      go_wp2_with fail
      refine HPl.out.mono ?_
      rintro e w5 ⟨K5, rfl, hd5, hk5⟩
      have HL5 := hide (HL4.out.played hd5 HGd.out.inv HGd.out.sz hk5)
      clear hd5 hk5
      have HAs := hide (allSafe_any w5 K5 1 d (by omega) R.2 HL5.out.dk HL5.out.inv _ HL5.out.sz (by have := HKk.out; show kk + 5 + 1 ≤ _; omega) HFp.out)
      go_wp2_with fail
      refine HAs.out.mono ?_
      rintro e w6 ⟨K6, S6, rfl, hd6, hsf, hv6, hz6, hs6, hk6⟩
      have HL6 := hide (HL5.out.played (k' := 900000) hd6 hv6 (hz6.mono (by have := HKk.out; show kk + 5 + 1 + 65 ≤ 900000; omega)) hk6)
      have HSf := hide hsf
      have HNe6 : Hid (S6.seen ≠ []) := by rw [hs6]; exact HNe.out
      have HSn := hide (seen_any w6 K6 1 d S6 HL6.out.dk HL6.out.inv _ HL6.out.sz (by omega))
      clear hd6 hsf hv6 hz6 hs6 hk6 HL HL4 HL5 HPl HGd HFp HNe HOs HBy HAs HKk HU HFr hcb HFk HFm hN2
      go_wp2_with fail
      refine HSn.out.mono ?_
      rintro e w7 ⟨v7, rfl, hi7, hb7⟩
      have HL7 := hide (HL6.out.below hb7)
      have HI7 := hide hi7
      generalize ext K6 w6.heap.size (0, 0) = K7 at *
      obtain ⟨wa, wc, rfl, _, _⟩ := HI7.out.form
      obtain ⟨n0, hn0⟩ : ∃ n0, S6.image.length = n0 := ⟨_, rfl⟩
      have HN0 := hide hn0
      have hn64 : n0 ≤ 64 := by rw [← hn0]; exact image_len HL7.out.inv
      have hnp : 0 < n0 := by
        rw [← hn0]
        unfold St.image
        rw [HSf.out.free.off]
        simp only [Bool.false_eq_true, if_false, List.length_map]
        exact List.length_pos_iff.2 HNe6.out
      rw [hn0] at HI7 ⊢
      obtain ⟨x0, x1, x2, x3, x4⟩ := blk5 HL7.out.box
      have HFw := hide (few_any w7 mp ml mc more HMm.out hmml (HMI.out.below HL7.out.bel) (fun q hq => ⟨(HMok.out q hq).1.cap, (HMok.out q hq).2⟩))
      clear hi7 hb7 hn0 HSn HL6 x0 x1 x2 x4
      go_wp2_with fail
      refine HFw.out.mono ?_
      rintro e w8 ⟨na, nc8, rfl, hr8, hb8⟩
      have HL8 := hide (HL7.out.below hb8)
      have HI8 := hide (HI7.out.kept (kp_below hb8 (fun _ => False) K7 (0, 0)) (fun h => h))
      have HO8 := hide (few_opk1 HL7.out.bel HL7.out.old hb8 hr8 rfl (few_ok (fun q hq => (HMok.out q hq).1)))
      have HFk : Hid (∀ q ∈ fewO more, 1 ≤ q.x.kind ∧ q.x.kind ≤ 6 ∧ q.x.b.length ≤ 4096) := few_kind more
      have HFm : Hid ((fewO more).length ≤ 200) := few_most more
      clear hr8 hb8 HFw HL7 HI7 x3
      generalize ext K7 w7.heap.size (0, 0) = K8 at *
      generalize fewO more = fm at *
      obtain ⟨N8, hN8⟩ : ∃ N8, fm.length = N8 := ⟨_, rfl⟩
      rw [hN8] at HO8 HFm ⊢
      have hN82 : N8 ≤ 200 := HFm.out
      have HAd0 := hide HSf.out.ad
      clear hN8
      go_wp2
      go_loopw [8] (fun i wr => ∃ (j : Nat) (K : Knd) (S : St), j ≤ N8 ∧ i = .int .i64 (j : Int) ∧ Hid (L1 W wr K d S (900000 + j * 4097) (.cells #[.slice sp m cap, .int .i64 r, .slice pp pm pc, .slice mp ml mc, .slice np nl nc] 50 (0, 0))) ∧ Hid (Opk wr K na N8 nc8 fm) ∧ Hid (Im wr K (.slice wa n0 wc) S6.image) ∧ Hid (Ad S6 S)) (fun i _ => N8 - (intOf i).toNat)
      case atStart => exact ⟨0, K8, S6, Nat.zero_le _, rfl, HL8, HO8, HI8, HAd0⟩
      case round =>
        obtain ⟨j, K, S, hj, rfl, HL, HO, HI, HAd⟩ := hrel
        clear HL8 HO8 HI8 HAd0
        by_cases hlt : j < N8
        · have hlt' : (j : Int) < (N8 : Int) := by omega
          have hj0 : (0 : Int) ≤ (j : Int) := by omega
          obtain ⟨q, hq⟩ : ∃ q, fm[j]? = some q := ⟨_, List.getElem?_eq_getElem (by rw [HO.out.len]; exact hlt)⟩
          have hqm := List.mem_of_getElem? hq
          have HQ := hide (HFk.out q hqm)
          obtain ⟨g, o, hoa, hg, c0, c1, c2, c3, c4, c5, c6, c7, c8, c9⟩ := (owns_ops HO.out.row.own).at hq
          subst hoa
          clear hq
          by_cases hk1 : q.x.kind = 1
          · have HPl := hide (play_any _ K 1 d (by omega) S HL.out.dk HL.out.inv _ HL.out.sz q (HO.out.ok q hqm) (by have := HQ.out.2.2; omega))
            have HGd := hide (good_play HL.out.inv HL.out.sz q.x (HO.out.ok q hqm).by_.small)
            have eP : S.play q.x = S.appendR q.x.name q.x.b := by unfold St.play; rw [if_pos hk1]
            have HAn : Hid (Ad S6 (S.play q.x).2) := by rw [eP]; exact HAd.out.append HL.out.inv _ _
            have HQb := hide HQ.out.2.2
            unfold opc at HPl
            rw [hk1] at c0 HPl
            clear eP
            go_wp2_with fail
            refine HPl.out.mono ?_
            rintro e w9 ⟨K9, rfl, hd9, hk9⟩
            have HL9 := hide (HL.out.played (k' := 900000 + (j + 1) * 4097) hd9 HGd.out.inv (HGd.out.sz.mono (by have := HQb.out; omega)) hk9)
            have HO9 := hide (HO.out.kept hk9 (by simp))
            have HI9 := hide (HI.out.kept hk9 (by simp))
            clear hd9 hk9
            go_wp2
            go_roundw
            case rel => exact ⟨j + 1, K9, _, by omega, by go_num, HL9, HO9, HI9, HAn⟩
            case measure => simp [intOf]; omega
          · have HL9 : Hid (L1 W _ K d S (900000 + (j + 1) * 4097) _) := ⟨HL.out.dk, HL.out.inv, HL.out.sz.mono (by omega), HL.out.old, HL.out.bel, HL.out.box, HL.out.kbx⟩
            go_wp2
            go_roundw
            case rel => exact ⟨j + 1, K, S, by omega, by go_num, HL9, HO, HI, HAd⟩
            case measure => simp [intOf]; omega
        · obtain rfl : j = N8 := by omega
          clear HO
          replace HL := hide (HL.out.mono (k' := 1800000) (by omega))
          have HSn := hide (seen_any wr K 1 d S HL.out.dk HL.out.inv _ HL.out.sz (by omega))
          go_wp2_with fail
          refine HSn.out.mono ?_
          rintro e w10 ⟨v10, rfl, hi10, hb10⟩
          have HL10 := hide (HL.out.below hb10)
          have HW10 := hide (HI.out.kept (kp_below hb10 (fun _ => False) K (0, 0)) (fun h => h))
          have HN10 := hide hi10
          generalize ext K wr.heap.size (0, 0) = K10 at *
          obtain ⟨ma, mcc, rfl, _, _⟩ := HN10.out.form
          obtain ⟨n1, hn1⟩ : ∃ n1, S.image.length = n1 := ⟨_, rfl⟩
          have HN1 := hide hn1
          have hn1l : n1 ≤ 64 := by rw [← hn1]; exact image_len HL.out.inv
          rw [hn1] at HN10 ⊢
          obtain ⟨x0, x1, x2, x3, x4⟩ := blk5 HL10.out.box
          have HCr := hide (Crash_any w10 K10 1 d S HL10.out.dk HL10.out.inv _ HL10.out.sz (by omega) pp pm pc ps HPm.out (HP.out.below HL10.out.bel) hpl)
          clear hi10 hb10 hn1 HSn x0 x1 x3 x4 HL HI
          go_wp2_with fail
          refine HCr.out.mono ?_
          rintro e w11 ⟨v11, rfl, hi11, hb11⟩
          have HL11 := hide (HL10.out.below hb11)
          have HW11 := hide (HW10.out.kept (kp_below hb11 (fun _ => False) K10 (0, 0)) (fun h => h))
          have HN11 := hide (HN10.out.kept (kp_below hb11 (fun _ => False) K10 (0, 0)) (fun h => h))
          have HC11 := hide hi11
          generalize ext K10 w10.heap.size (0, 0) = K11 at *
          obtain ⟨la, lc, rfl, _, _⟩ := HC11.out.form
          obtain ⟨n2, hn2⟩ : ∃ n2, (S.crash ps).length = n2 := ⟨_, rfl⟩
          have HN2 := hide hn2
          have hn2l : n2 ≤ 2000000 := by
            have h1 := left_len HL11.out.inv HL11.out.sz ps
            rw [← hn2, crash_len]
            omega
          rw [hn2] at HC11 ⊢
          clear hi11 hb11 hn2 HCr x2 HL10 HW10 HN10
          go_wp2
          go_loopw [11] (fun i wr => ∃ (j : Nat), j ≤ n0 ∧ i = .int .i64 (j : Int) ∧ Hid (L1 W wr K11 d S 1800000 (.cells #[.slice sp m cap, .int .i64 r, .slice pp pm pc, .slice mp ml mc, .slice np nl nc] 50 (0, 0))) ∧ Hid (Im wr K11 (.slice wa n0 wc) S6.image) ∧ Hid (Im wr K11 (.slice ma n1 mcc) S.image) ∧ Hid (Im wr K11 (.slice la n2 lc) (S.crash ps))) (fun i _ => n0 - (intOf i).toNat)
          case atStart => exact ⟨0, Nat.zero_le _, rfl, HL11, HW11, HN11, HC11⟩
          case round =>
            obtain ⟨j, hj, rfl, HL, HW, HN, HC⟩ := hrel
            clear HL11 HW11 HN11 HC11
            by_cases hlt : j < n0
            · have hlt' : (j : Int) < (n0 : Int) := by omega
              have hj0 : (0 : Int) ≤ (j : Int) := by omega
              obtain ⟨p, hp⟩ : ∃ p, S6.image[j]? = some p := ⟨_, List.getElem?_eq_getElem (by rw [HN0.out]; exact hlt)⟩
              obtain ⟨t, ht⟩ := HAd.out.was2 HL.out.inv HSf.out.free.off ps (List.mem_of_getElem? hp)
              obtain ⟨g, ap, cp, hwa, hg, c0, c1, hby, hrp⟩ := HW.out.at hp
              have HBy := hide hby
              have HSm : Hid (∀ x ∈ p.2 ++ t, x < 256) := by
                obtain ⟨e, he, h2⟩ := find_mem ht
                rw [← h2]; exact (HC.out.small e he).1
              have HSl : Hid ((p.2 ++ t).length ≤ 1099511627776) := by
                obtain ⟨e, he, h2⟩ := find_mem ht
                rw [← h2]; exact (HC.out.small e he).2
              obtain ⟨nb, hnb⟩ : ∃ nb, (p.2 ++ t).length = nb := ⟨_, rfl⟩
              have HNb := hide hnb
              have HFn := hide (lfind_len wr K11 _ (S.crash ps) HC.out (by rw [HN2.out]; omega) p.1 (B := p.2 ++ t) (n := nb) (t := true) (by rw [ht]; rfl) hnb)
              obtain ⟨lp, hlp⟩ : ∃ lp, p.2.length = lp := ⟨_, rfl⟩
              have HLp := hide hlp
              rw [hlp] at c1
              subst hwa
              clear hp ht hby hrp hnb hlp
              go_wp2_with fail
              refine HFn.out.mono ?_
              rintro e w12 ⟨ba, bc, rfl, hrk, rfl⟩
              obtain ⟨a2, c2, hv2, hle2, hmx2⟩ := hrk.form
              have hbc : nb ≤ bc ∧ bc ≤ maxLen := by cases hv2; exact ⟨hle2, hmx2⟩
              have HBg := hide (begins_any w12 ba ap nb lp bc cp p.2 t HNb.out HLp.out hbc.1 (by have := hbc.2; unfold maxLen at this; omega) (by have h1 := HSl.out; rw [HNb.out] at h1; omega) (owns_bytes hrk.own HSm.out) HBy.out)
              clear hrk hv2 hle2 hmx2 hbc
              go_wp2_with fail
              refine HBg.out.mono ?_
              rintro e w13 ⟨rfl, nq, rfl⟩
              have HLe := hide (HL.out.drewN nq)
              have HWe := hide (im_drewN HW.out nq)
              have HNe2 := hide (im_drewN HN.out nq)
              have HCe := hide (im_drewN HC.out nq)
              go_wp2
              go_roundw
              case rel => exact ⟨j + 1, by omega, by go_num, HLe, HWe, HNe2, HCe⟩
              case measure => simp [intOf]; omega
            · obtain rfl : n0 = j := by omega
              go_wp2
              go_loopw [14] (fun i wr => ∃ (j : Nat), j ≤ n2 ∧ i = .int .i64 (j : Int) ∧ Hid (L1 W wr K11 d S 1800000 (.cells #[.slice sp m cap, .int .i64 r, .slice pp pm pc, .slice mp ml mc, .slice np nl nc] 50 (0, 0))) ∧ Hid (Im wr K11 (.slice wa n0 wc) S6.image) ∧ Hid (Im wr K11 (.slice ma n1 mcc) S.image) ∧ Hid (Im wr K11 (.slice la n2 lc) (S.crash ps))) (fun i _ => n2 - (intOf i).toNat)
              case atStart => exact ⟨0, Nat.zero_le _, rfl, HL, HW, HN, HC⟩
              case round =>
                obtain ⟨j, hj, rfl, HL, HW, HN, HC⟩ := hrel
                by_cases hlt : j < n2
                · have hlt' : (j : Int) < (n2 : Int) := by omega
                  have hj0 : (0 : Int) ≤ (j : Int) := by omega
                  obtain ⟨p, hp⟩ : ∃ p, (S.crash ps)[j]? = some p := ⟨_, List.getElem?_eq_getElem (by rw [HN2.out]; exact hlt)⟩
                  obtain ⟨t, ht⟩ := HAd.out.now HL.out.inv ps hp
                  obtain ⟨g, ap, cp, hwa, hg, c0, c1, hby, hrp⟩ := HC.out.at hp
                  have HBy := hide hby
                  have HSm : Hid (∀ x ∈ p.2 ++ t, x < 256) := by
                    obtain ⟨e, he, h2⟩ := find_mem ht
                    rw [← h2]; exact (HN.out.small e he).1
                  have HSl : Hid ((p.2 ++ t).length ≤ 1099511627776) := by
                    obtain ⟨e, he, h2⟩ := find_mem ht
                    rw [← h2]; exact (HN.out.small e he).2
                  obtain ⟨nb, hnb⟩ : ∃ nb, (p.2 ++ t).length = nb := ⟨_, rfl⟩
                  have HNb := hide hnb
                  have HFn := hide (lfind_len wr K11 _ S.image HN.out (by rw [HN1.out]; omega) p.1 (B := p.2 ++ t) (n := nb) (t := true) (by rw [ht]; rfl) hnb)
                  obtain ⟨lp, hlp⟩ : ∃ lp, p.2.length = lp := ⟨_, rfl⟩
                  have HLp := hide hlp
                  rw [hlp] at c1
                  subst hwa
                  clear hp ht hby hrp hnb hlp
                  go_wp2_with fail
                  refine HFn.out.mono ?_
                  rintro e w12 ⟨ba, bc, rfl, hrk, rfl⟩
                  obtain ⟨a2, c2, hv2, hle2, hmx2⟩ := hrk.form
                  have hbc : nb ≤ bc ∧ bc ≤ maxLen := by cases hv2; exact ⟨hle2, hmx2⟩
                  have HBg := hide (begins_any w12 ba ap nb lp bc cp p.2 t HNb.out HLp.out hbc.1 (by have := hbc.2; unfold maxLen at this; omega) (by have h1 := HSl.out; rw [HNb.out] at h1; omega) (owns_bytes hrk.own HSm.out) HBy.out)
                  clear hrk hv2 hle2 hmx2 hbc
                  go_wp2_with fail
                  refine HBg.out.mono ?_
                  rintro e w13 ⟨rfl, nq, rfl⟩
                  have HLe := hide (HL.out.drewN nq)
                  have HWe := hide (im_drewN HW.out nq)
                  have HNe2 := hide (im_drewN HN.out nq)
                  have HCe := hide (im_drewN HC.out nq)
                  go_wp2
                  go_roundw
                  case rel => exact ⟨j + 1, by omega, by go_num, HLe, HWe, HNe2, HCe⟩
                  case measure => simp [intOf]; omega
                · obtain rfl : n2 = j := by omega
                  obtain ⟨n3, hn3⟩ : ∃ n3, n1 + 1 = n3 := ⟨_, rfl⟩
                  have HN3 := hide hn3
                  have hn3i : (n1 : Int) + 1 = (n3 : Int) := by omega
                  have hn3l : n3 ≤ 65 := by omega
                  have hmk : ∀ w, Sem.run Try.prog (Instr.makeSlice 23 (.int .i64 (n3 : Int)) (.int .i64 (n3 : Int))) w = .ok (.slice (some ⟨w.heap.size, 0, none⟩) n3 n3) (w.alloc (.cells (madeCells #[.int .i64 0] n3) 3)) := fun w => by
                    exact run_make_row' (P := Try.prog) 23 3 (.int .i64 0) 8 Try.underlying23 Try.infoIn rfl .i64 .i64 n3 (by omega) (by omega) w
                  obtain ⟨w14, rfl⟩ : ∃ w14, w14 = wr := ⟨_, rfl⟩
                  clear hn3
                  go_wp2
                  go_loopw [18] (fun i wq => ∃ (j : Nat), j ≤ n3 ∧ i = .int .i64 (j : Int) ∧ Hid (wq.heap[w14.heap.size]? = some (.cells (minus n3 j).toArray 3 (0, 0))) ∧ Hid (Below w14.heap.size w14 wq)) (fun i _ => n3 - (intOf i).toNat)
                  case atStart => exact ⟨0, Nat.zero_le _, rfl, by rw [made_minus]; exact heap_alloc_new _ _, (Below.refl _ _).alloc (Nat.le_refl _) _⟩
                  case round =>
                    obtain ⟨j, hj, rfl, HZ, HBl⟩ := hrel
                    by_cases hlt : j < n3
                    · have hlt' : (j : Int) < (n3 : Int) := by omega
                      have hj0 : (0 : Int) ≤ (j : Int) := by omega
                      have z0 := minus_cell HZ.out hlt
                      have zf := minus_thaw HZ.out j
                      have HZ2 := hide (minus_next HZ.out hlt)
                      have HB2 := hide (HBl.out.setCell (p := ⟨w14.heap.size, j, none⟩) (Nat.le_refl _) (.int .i64 (-1)))
                      go_wp2
                      go_roundw
                      case rel => exact ⟨j + 1, by omega, by go_num, HZ2, HB2⟩
                      case measure => simp [intOf]; omega
                    · obtain rfl : n3 = j := by omega
                      have HLx := hide (HL.out.below HBl.out)
                      have HWx := hide (HW.out.kept (kp_below HBl.out (fun _ => False) K11 (0, 0)) (fun h => h))
                      have HNx := hide (HN.out.kept (kp_below HBl.out (fun _ => False) K11 (0, 0)) (fun h => h))
                      have HIn := hide (minus_ins HZ.out)
                      have HOf := hide HAd.out.free.off
                      have HSl : Hid (n1 = S.seen.length) := by
                        show _ = _
                        rw [← HN1.out]
                        unfold St.image
                        rw [HOf.out]
                        simp
                      generalize ext K11 w14.heap.size (0, 0) = K12 at *
                      clear HL HW HN HC HZ hmk
                      have HC1 := hide (Crash_any wr K12 1 d S HLx.out.dk HLx.out.inv _ HLx.out.sz (by omega) none 0 0 [] rfl ⟨Or.inl rfl⟩ (by omega))
                      have HCn := hide (HAd.out.none HSf.out.free.off)
                      have HCa : Hid (S.crash (List.replicate n3 (-1)) = S.image) := by
                        show _ = _
                        rw [← HN3.out]
                        exact crash_all HLx.out.inv HOf.out HSl.out
                      go_wp2_with fail
                      refine HC1.out.mono ?_
                      rintro e w15 ⟨v15, rfl, hi15, hb15⟩
                      rw [HCn.out] at hi15
                      have HLy := hide (HLx.out.below hb15)
                      have HWy := hide (HWx.out.kept (kp_below hb15 (fun _ => False) K12 (0, 0)) (fun h => h))
                      have HNy := hide (HNx.out.kept (kp_below hb15 (fun _ => False) K12 (0, 0)) (fun h => h))
                      have HIy := hide (HIn.out.below hb15)
                      have HIm := hide (image_same w15 _ _ _ S6.image hi15 HWy.out (by rw [HN0.out]; omega))
                      generalize ext K12 wr.heap.size (0, 0) = K13 at *
                      clear hi15 hb15 HC1 HLx HWx HNx HIn
                      go_wp2_with fail
                      refine HIm.out.mono ?_
                      rintro e w16 ⟨rfl, q1, rfl⟩
                      have HLz := hide (HLy.out.drewN q1)
                      have HNz := hide (im_drewN HNy.out q1)
                      have HIz := hide (HIy.out.below (below_drewN (Below.refl _ w15) q1))
                      have HC2 := hide (Crash_any (w15.drewN q1) K13 1 d S HLz.out.dk HLz.out.inv _ HLz.out.sz (by omega) (some ⟨w14.heap.size, 0, none⟩) n3 n3 (List.replicate n3 (-1)) (by simp) HIz.out (by omega))
                      clear HIm HLy HNy HIy HWy
                      generalize w15.drewN q1 = w16 at *
                      go_wp2_with fail
                      refine HC2.out.mono ?_
                      rintro e w17 ⟨v17, rfl, hi17, hb17⟩
                      rw [HCa.out] at hi17
                      have HLy := hide (HLz.out.below hb17)
                      have HNy := hide (HNz.out.kept (kp_below hb17 (fun _ => False) K13 (0, 0)) (fun h => h))
                      have HIm := hide (image_same w17 _ _ _ S.image hi17 HNy.out (by rw [HN1.out]; omega))
                      generalize ext K13 w16.heap.size (0, 0) = K14 at *
                      clear hi17 hb17 HC2 HLz HNz HIz
                      go_wp2_with fail
                      refine HIm.out.mono ?_
                      rintro e w18 ⟨rfl, q2, rfl⟩
                      have HLz := hide (HLy.out.drewN q2)
                      have HNz := hide (im_drewN HNy.out q2)
                      clear HIm HLy HNy
                      generalize w17.drewN q2 = w18 at *
                      have HSn := hide (seen_any w18 K14 1 d S HLz.out.dk HLz.out.inv _ HLz.out.sz (by omega))
                      go_wp2_with fail
                      refine HSn.out.mono ?_
                      rintro e w19 ⟨v19, rfl, hi19, hb19⟩
                      have HLy := hide (HLz.out.below hb19)
                      have HNy := hide (HNz.out.kept (kp_below hb19 (fun _ => False) K14 (0, 0)) (fun h => h))
                      have HIm := hide (image_same w19 _ _ _ S.image hi19 HNy.out (by rw [HN1.out]; omega))
                      clear hi19 hb19 HSn HLz HNz
                      go_wp2_with fail
                      refine HIm.out.mono ?_
                      rintro e w20 ⟨rfl, q3, rfl⟩
                      go_wp2
                      go_ret
                      exact ⟨rfl, below_drewN HLy.out.bel q3⟩

end Go.Proofs.Ytlpafgjgoheomaa
