import Derived.Test.YtlpafgjgoheomaaOff
namespace Go.Proofs.Ytlpafgjgoheomaa
open Go.RowKit Go.Maps

theorem err_gone {S : St} (h : S.off = true) (x : Nm) : S.err x = 45 := by unfold St.err; rw [if_pos h]
theorem bytes_gone {S : St} (h : S.off = true) (x : Nm) : S.bytes x = [] := by unfold St.bytes; rw [err_gone h, if_neg (by omega)]
theorem names_gone {S : St} (h : S.off = true) : S.names = [] := by unfold St.names; rw [if_pos h]
theorem offE_gone {S : St} (h : S.off = true) : S.offE = 45 := by unfold St.offE; rw [if_pos h]
theorem few_opk {W w w' : World} {K : Knd} {a : Option Addr} {n c : Nat} {fo : List Opm} (hB : Below W.heap.size W w) (hK : ∀ x, x < W.heap.size → K x = (0, 0)) (hb : Below w.heap.size w w') (hr : w'.ownsRow w.heap.size 57 10 (.slice a n c) n (opvs fo)) (hn : fo.length = n) (hok : ∀ q ∈ fo, OpOk W K0 q) : Opk w' (ext K w.heap.size (0, 0)) a n c fo := by
  have hs := hB.size
  have hB2 := hB.trans (hb.mono hs)
  have hkp : Kp (fun _ => False) K0 (ext K w.heap.size (0, 0)) W w' := ⟨hB2.os, hB2.tape, hB2.output, hB2.size, fun b hb => by rw [ext_old _ _ (by omega), hK b hb], fun b hb _ => hB2.block b hb⟩
  refine ⟨⟨⟨hr.1, hr.2.imp id ?_⟩, fun g e => ?_⟩, hn, fun q hq => (hok q hq).kept (p := fun _ => False) hkp (fun h => h)⟩
  · rintro ⟨g, cap, cur, h1, _, r⟩
    exact ⟨g, cap, cur, h1, Nat.zero_le _, r⟩
  · refine ext_new _ _ ?_
    rcases hr.2 with ⟨e1, _⟩ | ⟨g2, _, _, e1, e2, _⟩
    · rw [e1] at e; simp [Value.ownBlock] at e
    · rw [e1] at e; simp [Value.ownBlock] at e; omega

set_option maxRecDepth 100000 in
set_option maxHeartbeats 4000000 in
theorem off_all (W : World) (sp : Option Addr) (m cap : Nat) (ops : List Opm) (hm : ops.length = m) (hml : m ≤ 140737488355328) (hI : Opi W sp ops) (hok : ∀ q ∈ ops, OpOk W K0 q ∧ q.bc ≤ 9223372036854775807) (r : Int)
    (pp : Option Addr) (pm pc : Nat) (ps : List Int) (hpm : ps.length = pm) (hpl : pm ≤ 140737488355328) (hP : Ins W pp ps) (mp : Option Addr) (ml mc : Nat) (more : List Opm) (hmm : more.length = ml) (hmml : ml ≤ 140737488355328) (hMI : Opi W mp more) (hMok : ∀ q ∈ more, OpOk W K0 q ∧ q.bc ≤ 9223372036854775807) (np : Option Addr) (nl nc : Nat) :
    Calls Try.prog 5 #[.agg #[.slice sp m cap, .int .i64 r, .slice pp pm pc, .slice mp ml mc, .slice np nl nc]] W fun e w' => e = .returned (.bool true) ∧ Below W.heap.size W w' := by
  obtain ⟨i0, hi, hz0, hz1, hz2⟩ := info_parts Try.infoOp
  have HI := hide hI
  have HM := hide hm
  have HOk := hide hok
  have HPm := hide hpm
  have HP := hide hP
  have HMm := hide hmm
  have HMI := hide hMI
  have HMok := hide hMok
  have HW1 : Hid (∀ w, Calls Try.prog 29 #[.int .i64 r, .int .i64 40] w fun e w' => e = .returned (.int .i64 ((r % 40).toNat : Int)) ∧ w' = w) := hide (fun w => within_any w r 40 (by omega) (by omega))
  obtain ⟨ρ, hρ⟩ : ∃ ρ : Nat, (r % 40).toNat = ρ := ⟨_, rfl⟩
  have hρ4 : ρ < 40 := by have := Int.emod_lt_of_pos r (show (0 : Int) < 40 by omega); omega
  rw [hρ] at HW1
  clear hI hm hok hρ hpm hP hmm hMI hMok
  have hcb := fun (w : World) (C : Array Value) (n c : Nat) => Lib.run_convert_bytes_const (P := Try.prog) w 26 5 C n c Try.underlying26 Try.underlying5
  go_enter Try.func5, Try.ntmps5
  have HB0 : Hid (Below W.heap.size W (W.alloc (.cells #[.slice sp m cap, .int .i64 r, .slice pp pm pc, .slice mp ml mc, .slice np nl nc] 50))) := (Below.refl _ _).alloc (Nat.le_refl _) _
  have HX0 : Hid ((W.alloc (.cells #[.slice sp m cap, .int .i64 r, .slice pp pm pc, .slice mp ml mc, .slice np nl nc] 50)).heap[W.heap.size]? = some (.cells #[.slice sp m cap, .int .i64 r, .slice pp pm pc, .slice mp ml mc, .slice np nl nc] 50 (0, 0))) := heap_alloc_new _ _
  go_wp2_with fail
  refine (open_any _ K0 1).mono ?_
  rintro e w1 ⟨a, rfl, ha, hd1, hb1⟩
  have HB1 := hide (HB0.out.trans (hb1.mono (by simp)))
  have HX1 : Hid (w1.heap[W.heap.size]? = _) := (hb1.block W.heap.size (by simp)).trans HX0.out
  have HK1 := hide (kp_new (K := K0) (1, 1) hb1 ha)
  have HD1 := hide hd1
  clear hb1 hd1 HX0 HB0
  obtain ⟨K1, hK1⟩ : ∃ K1, newK (ext K0 (W.alloc (.cells #[.slice sp m cap, .int .i64 r, .slice pp pm pc, .slice mp ml mc, .slice np nl nc] 50)).heap.size (0, 0)) a (1, 1) = K1 := ⟨_, rfl⟩
  rw [hK1] at HK1 HD1
  have HKo : Hid (∀ b, b < W.heap.size + 1 → K1 b = (0, 0)) := fun b hb => (HK1.out.same b (by simpa using hb)).trans rfl
  clear HK1 hK1 ha
  go_wp2_with fail
  refine (open_any _ K1 2).mono ?_
  rintro e w2 ⟨b, rfl, hb, hd2, hb2⟩
  have HX2 : Hid (w2.heap[W.heap.size]? = _) := (hb2.block W.heap.size (lt_of_block HX1.out)).trans HX1.out
  have HB2 := hide (HB1.out.trans (hb2.mono HB1.out.size))
  have HK2 := hide (kp_new (K := K1) (2, 1) hb2 hb)
  have HA2 := hide (HD1.out.kept HK2.out (fun _ h => h))
  have HD2 := hide hd2
  obtain ⟨K2, hK2⟩ : ∃ K2, newK (ext K1 w1.heap.size (0, 0)) b (2, 1) = K2 := ⟨_, rfl⟩
  rw [hK2] at HK2 HA2 HD2
  have HKp : Hid (∀ x, x < W.heap.size + 1 → K2 x = (0, 0)) := fun x hx => (HK2.out.same x (Nat.lt_of_lt_of_le hx (lt_of_block HX1.out))).trans (HKo.out x hx)
  have HPl := hide (fun x y z => Plan_any w2 K2 2 b _ HD2.out x y z)
  obtain ⟨x0, x1, x2, x3, x4⟩ := blk5 HX2.out
  have hxl := lt_of_block HX2.out
  clear hb hb2 hd2 hK2 HD1 HX1 HB1 HKo HK2 x3
  go_wp2_with fail
  refine (HW1.out _).mono ?_
  rintro e w3 ⟨rfl, rfl⟩
  go_wp2_with fail
  refine (HPl.out _ _ _).mono ?_
  rintro e w5 ⟨K5, rfl, hd5, hk5⟩
  have HTo : Hid (To (St.new 16777216) ((St.new 16777216).planR ((1 + ρ : Nat) : Int) 0 0) (1 + ρ) 0) := to_new 16777216 (1 + ρ) (by omega)
  have HI5 := hide ((new_inv (r := 16777216) (by omega)).plan ((1 + ρ : Nat) : Int) 0 0)
  have HZ5 := hide ((new_sz 16777216).plan ((1 + ρ : Nat) : Int) 0 0)
  have HD5 := hide hd5
  rw [show (1 : Int) + (ρ : Int) = ((1 + ρ : Nat) : Int) by omega] at HD5
  generalize (St.new 16777216).planR ((1 + ρ : Nat) : Int) 0 0 = B0 at *
  have HE5 := hide (HA2.out.kept hk5 (by simp))
  have HB5 := hide (hk5.below HB2.out (fun b hb => by rw [HKp.out b (by omega)]; simp))
  have HX5 : Hid (w5.heap[W.heap.size]? = _) := (hk5.block W.heap.size hxl (by rw [HKp.out _ (by omega)]; simp)).trans HX2.out
  have HKq : Hid (∀ x, x < W.heap.size + 1 → K5 x = (0, 0)) := fun x hx => (hk5.same x (Nat.lt_of_lt_of_le hx hxl)).trans (HKp.out x hx)
  obtain ⟨y0, y1, y2, y3, y4⟩ := blk5 HX5.out
  have HFw := hide (few_any w5 sp m cap ops HM.out hml (HI.out.below HB5.out) (fun q hq => ⟨(HOk.out q hq).1.cap, (HOk.out q hq).2⟩))
  clear hd5 hk5 HKp HX2 HB2 HD2 HA2 HPl HW1 hxl x0 x1 x2 x4 y3
  go_wp2_with fail
  refine HFw.out.mono ?_
  rintro e w6 ⟨oa, oc, rfl, hr6, hb6⟩
  have HR6 := hide hr6
  have HB6 := hide hb6
  have HFk : Hid (∀ q ∈ fewO ops, 1 ≤ q.x.kind ∧ q.x.kind ≤ 6 ∧ q.x.b.length ≤ 4096) := few_kind ops
  have HFm : Hid ((fewO ops).length ≤ 200) := few_most ops
  have HFo : Hid (∀ q ∈ fewO ops, OpOk W K0 q) := few_ok (fun q hq => (HOk.out q hq).1)
  clear hr6 hb6 HFw
  generalize fewO ops = fo at *
  obtain ⟨N, hN⟩ : ∃ N, fo.length = N := ⟨_, rfl⟩
  have HN := hide hN
  have hN2 : N ≤ 200 := by rw [← hN]; exact HFm.out
  rw [hN] at HR6
  rw [hN]
  clear hN
  have HOw := hide ((HR6.out.alloc (.cells #[.int .u8 101, .int .u8 110, .int .u8 100] 5 (3, 4))).alloc (.cells (opc nOp ++ opc (zOp w6.heap.size)).toArray 57))
  have HNew : Hid (∀ j u, (opc nOp ++ opc (zOp w6.heap.size))[j]? = some u → ((w6.alloc (.cells #[.int .u8 101, .int .u8 110, .int .u8 100] 5 (3, 4))).alloc (.cells (opc nOp ++ opc (zOp w6.heap.size)).toArray 57)).cell? ((⟨w6.heap.size + 1, 0, none⟩ : Addr).add j) = some u) := by
    have h := World.news_of_block (heap_alloc_new (w6.alloc (.cells #[.int .u8 101, .int .u8 110, .int .u8 100] 5 (3, 4))) (.cells (opc nOp ++ opc (zOp w6.heap.size)).toArray 57))
    rw [show (w6.alloc (.cells #[.int .u8 101, .int .u8 110, .int .u8 100] 5 (3, 4))).heap.size = w6.heap.size + 1 by simp] at h
    exact h
  have HOne : Hid (∀ u ∈ opc nOp ++ opc (zOp w6.heap.size), u.oneCell' = true) := fun u hu => by
    simp only [opc, List.mem_append, List.mem_cons, List.not_mem_nil, or_false] at hu
    rcases hu with (e | e | e | e | e | e | e | e | e | e) | (e | e | e | e | e | e | e | e | e | e) <;> (subst e; rfl)
  have HSz : Hid (w5.heap.size ≤ ((w6.alloc (.cells #[.int .u8 101, .int .u8 110, .int .u8 100] 5 (3, 4))).alloc (.cells (opc nOp ++ opc (zOp w6.heap.size)).toArray 57)).heap.size) := by
    show _ ≤ _
    have := HB6.out.size
    simp; omega
  unfold opc zOp nOp at HNew HOne HSz HOw
  simp only [List.cons_append, List.nil_append] at HNew HOne HSz HOw
  go_wp2_with (at_builtin; refine wpList_append_lies _ rfl (.tmp 39) (.tmp 44) 48 rfl w5.heap.size 57 i0 (.agg #[.int .i64 0, .int .i64 0, .int .i64 0, .string ⟨#[]⟩, .string ⟨#[]⟩, .slice none 0 0, .int .i64 0, .int .i64 0, .int .i64 0, .slice none 0 0]) 10 128 Try.underlying48 hi hz0 hz1 hz2 rfl (by omega) (.slice oa N oc) N (opvs fo) rfl HOw.out ⟨w6.heap.size + 1, 0, none⟩ 2 2 _ rfl rfl HNew.out HOne.out (by omega) (by unfold maxLen; omega) (by omega) HSz.out _ rfl ?_; intro g' cap' w7 hown7 hgrow7 hat7 hltg)
  have HOe := hide (ops_end2 HB5.out HKq.out HB6.out HR6.out HN.out HFo.out hown7 hgrow7)
  have HB7 := hide HOe.out.1
  have kb7 := kp_below HB7.out (fun _ => False) K5 (0, 0)
  have HLq : Hid (Lq W w7 (ext K5 w5.heap.size (0, 0)) a b (St.new 16777216) B0 0 (some ⟨g', 0, none⟩) (N + 2) cap' (fo ++ [nOp, zOp w6.heap.size]) (.cells #[.slice sp m cap, .int .i64 r, .slice pp pm pc, .slice mp ml mc, .slice np nl nc] 50 (0, 0))) :=
    have hl := lt_of_block HX5.out
    ⟨HE5.out.kept kb7 (fun _ h => h), HD5.out.kept kb7 (fun _ h => h), new_inv (by omega), HI5.out, new_sz _, HZ5.out, HOe.out.2, fun x hx => (ext_old _ _ (by omega)).trans (HKq.out x (by omega)), HB5.out.trans (HB7.out.mono HB5.out.size), (HB7.out.block _ hl).trans HX5.out, (ext_old _ _ hl).trans (HKq.out _ (by omega))⟩
  have HQk : Hid (∀ q ∈ fo ++ [nOp, zOp w6.heap.size], (1 ≤ q.x.kind ∧ q.x.kind ≤ 6) ∧ q.x.b.length ≤ 4096) := fun q hq => by
    rcases List.mem_append.1 hq with e | e
    · exact ⟨⟨(HFk.out q e).1, (HFk.out q e).2.1⟩, (HFk.out q e).2.2⟩
    · simp only [List.mem_cons, List.not_mem_nil, or_false] at e
      rcases e with e | e <;> (subst e; simp [zOp, nOp])
  clear hown7 hgrow7 hat7 hltg kb7 HOe HB7 HKq HX5 HB5 HD5 HE5 HI5 HZ5 HR6 HB6 HFk HFm HFo HN HNew HOne HSz HOw HI HOk HM y0 y1 y2 y4 hcb hi hz0 hz1 hz2
  generalize ext K5 w5.heap.size (0, 0) = K7 at *
  generalize fo ++ [nOp, zOp w6.heap.size] = fp at *
  obtain ⟨M, hM⟩ : ∃ M, N + 2 = M := ⟨_, rfl⟩
  rw [hM] at HLq ⊢
  have hM2 : M ≤ 202 := by omega
  clear hM hN2
  generalize hg8 : (some ⟨g', 0, none⟩ : Option Addr) = oq at *
  clear hg8
  obtain ⟨T, hT⟩ : ∃ T, 1 + ρ = T := ⟨_, rfl⟩
  have hT1 : 1 ≤ T := by omega
  have hT2 : T ≤ 40 := by omega
  rw [hT] at HTo
  rw [show (1 : Int) + (ρ : Int) = (T : Int) by omega]
  clear hT hρ4
  go_loopw [7, 8] (fun n i wr => ∃ (k nn kk : Nat) (K : Knd) (A B : St), k ≤ M ∧ n = .int .i64 (nn : Int) ∧ i = .int .i64 (k : Int) ∧ nn ≤ k ∧ nn < T ∧ Hid (Lq W wr K a b A B kk oq M cap' fp (.cells #[.slice sp m cap, .int .i64 r, .slice pp pm pc, .slice mp ml mc, .slice np nl nc] 50 (0, 0))) ∧ Hid (kk ≤ k * 8194) ∧ Hid (To A B T nn)) (fun _ i _ => M - (intOf i).toNat)
  case atStart => exact ⟨0, 0, 0, K7, _, B0, Nat.zero_le _, rfl, rfl, Nat.le_refl _, by omega, HLq, Nat.zero_le _, HTo⟩
  case round =>
    obtain ⟨k, nn, kk, K, A, B, hk, rfl, rfl, hnk, hnT0, HL, HKk, HT⟩ := hrel
    clear HLq HTo
    by_cases hlt : k < M
    · have hlt' : (k : Int) < (M : Int) := by omega
      have hk0 : (0 : Int) ≤ (k : Int) := by omega
      obtain ⟨q, hq⟩ : ∃ q, fp[k]? = some q := ⟨_, List.getElem?_eq_getElem (by rw [HL.out.lc.ops.len]; exact hlt)⟩
      have hqm := List.mem_of_getElem? hq
      have HQ := hide (HQk.out q hqm)
      have HCr := hide (Crash_any _ _ 1 a A HL.out.da HL.out.ia kk HL.out.za (by have := HKk.out; omega) pp pm pc ps HPm.out (HP.out.below HL.out.lc.bel) hpl)
      obtain ⟨x0, x1, x2, x3, x4⟩ := blk5 HL.out.lc.box
      have Hq := hide hq
      clear x0 x1 x3 x4 hq
      go_wp2_with fail
      refine HCr.out.mono ?_
      rintro e w8 ⟨v8, rfl, hi8, hb8⟩
      have HL8 := hide (HL.out.below hb8)
      have HI8 := hide hi8
      generalize ext K wr.heap.size (0, 0) = K8 at *
      obtain ⟨va, vc, rfl, _, _⟩ := HI8.out.form
      have HCl : Hid ((A.crash ps).length ≤ 1099511627776) := by
        show _ ≤ _
        have h1 := left_len HL8.out.ia HL8.out.za ps
        have h2 := HKk.out
        rw [crash_len]
        omega
      obtain ⟨g, o, hoa, hg, c0, c1, c2, c3, c4, c5, c6, c7, c8, c9⟩ := (owns_ops HL8.out.lc.ops.row.own).at Hq.out
      subst hoa
      have HPl := hide (play_any w8 K8 1 a (by omega) A HL8.out.da HL8.out.ia kk HL8.out.za q (HL8.out.lc.ops.ok q hqm) (by have := HKk.out; have := HQ.out.2; omega))
      have HGd := hide (good_play HL8.out.ia HL8.out.za q.x (HL8.out.lc.ops.ok q hqm).by_.small)
      obtain ⟨ev, hev⟩ : ∃ ev, (A.play q.x).1 = ev := ⟨_, rfl⟩
      rw [hev] at HPl
      have HEv := hide hev
      unfold opc at HPl
      clear hev hi8 hb8 HCr x2 HL
      go_wp2_with fail
      refine HPl.out.mono ?_
      rintro e w9 ⟨K9, rfl, hd9, hk9⟩
      have HL9 := hide (HL8.out.playedA hd9 HGd.out.inv HGd.out.sz (by omega) hk9)
      have HI9 := hide (HI8.out.kept hk9 (by simp))
      obtain ⟨g2, o2, hoa2, hg2, d0, d1, d2, d3, d4, d5, d6, d7, d8, d9⟩ := (owns_ops HL9.out.lc.ops.row.own).at Hq.out
      obtain ⟨rfl, rfl⟩ : g = g2 ∧ o = o2 := by simpa using hoa2
      have HKk11 : Hid (kk + q.x.b.length + 1 + q.x.b.length + 1 ≤ (k + 1) * 8194) := by
        show _ ≤ _
        have := HKk.out
        have := HQ.out.2
        omega
      have HPb := hide (play_any w9 K9 2 b (by omega) B HL9.out.db HL9.out.ib _ HL9.out.zb q (HL9.out.lc.ops.ok q hqm) (by have := HKk11.out; omega))
      have HGb := hide (good_play HL9.out.ib HL9.out.zb q.x (HL9.out.lc.ops.ok q hqm).by_.small)
      obtain ⟨fv, hfv⟩ : ∃ fv, (B.play q.x).1 = fv := ⟨_, rfl⟩
      rw [hfv] at HPb
      have HFv := hide hfv
      unfold opc at HPb
      clear hfv hoa2 hd9 hk9 HL8 HI8 HPl HGd c0 c1 c2 c3 c4 c5 c6 c7 c8 c9 hg
      go_wp2_with fail
      refine HPb.out.mono ?_
      rintro e w10 ⟨K10, rfl, hd10, hk10⟩
      have HLx := hide (HL9.out.playedB hd10 HGb.out.inv HGb.out.sz (by omega) hk10)
      have HIx := hide (HI9.out.kept hk10 (by simp))
      obtain ⟨g3, o3, hoa3, hg3, f0, f1, f2, f3, f4, f5, f6, f7, f8, f9⟩ := (owns_ops HLx.out.lc.ops.row.own).at Hq.out
      obtain ⟨rfl, rfl⟩ : g = g3 ∧ o = o3 := by simpa using hoa3
      obtain ⟨x0, x1, x2, x3, x4⟩ := blk5 HLx.out.lc.box
      have HCt := hide (counted_any w10 ev)
      clear hoa3 hd10 hk10 HL9 HI9 HPb HGb d0 d1 d2 d3 d4 d5 d6 d7 d8 d9 hg2 f1 f2 f3 f4 f5 f6 f7 f8 f9 x0 x1 x4
      by_cases hlt2 : nn + cnt (A.play q.x).1 < T
      · have HS := hide (HT.out.step q.x HQ.out.1 hlt2)
        have HTn := hide HS.out.2
        have hfe : fv = ev := by rw [← HFv.out, ← HEv.out]; exact HS.out.1
        subst hfe
        rw [HEv.out] at HTn hlt2
        clear HS x2 x3
        rcases cnt_or fv with hc | hc
        · rw [hc] at HCt HTn hlt2
          rw [show decide ((0 : Nat) = 1) = false from rfl] at HCt
          have hnT : (nn : Int) < (T : Int) := by omega
          clear hc
          by_cases h3 : q.x.kind = 3
          · rw [h3] at f0
            go_wp2_with fail
            refine HCt.out.mono ?_
            rintro e w11 ⟨rfl, rfl⟩
            go_wp2
            go_roundw
            case rel => exact ⟨k + 1, nn, _, _, _, _, by omega, by go_num, by go_num, by omega, by omega, HLx, HKk11, HTn⟩
            case measure => simp [intOf]; omega
          by_cases h4 : q.x.kind = 4
          · rw [h4] at f0
            go_wp2_with fail
            refine HCt.out.mono ?_
            rintro e w11 ⟨rfl, rfl⟩
            go_wp2
            go_roundw
            case rel => exact ⟨k + 1, nn, _, _, _, _, by omega, by go_num, by go_num, by omega, by omega, HLx, HKk11, HTn⟩
            case measure => simp [intOf]; omega
          have h3m := h3
          go_wp2_with fail
          refine HCt.out.mono ?_
          rintro e w11 ⟨rfl, rfl⟩
          go_wp2
          go_roundw
          case rel => exact ⟨k + 1, nn, _, _, _, _, by omega, by go_num, by go_num, by omega, by omega, HLx, HKk11, HTn⟩
          case measure => simp [intOf]; omega
        · rw [hc] at HCt HTn hlt2
          rw [show decide ((1 : Nat) = 1) = true from rfl] at HCt
          have hnT : (nn : Int) + 1 < (T : Int) := by omega
          clear hc
          by_cases h3 : q.x.kind = 3
          · rw [h3] at f0
            go_wp2_with fail
            refine HCt.out.mono ?_
            rintro e w11 ⟨rfl, rfl⟩
            go_wp2
            go_roundw
            case rel => exact ⟨k + 1, nn + 1, _, _, _, _, by omega, by go_num, by go_num, by omega, by omega, HLx, HKk11, HTn⟩
            case measure => simp [intOf]; omega
          by_cases h4 : q.x.kind = 4
          · rw [h4] at f0
            go_wp2_with fail
            refine HCt.out.mono ?_
            rintro e w11 ⟨rfl, rfl⟩
            go_wp2
            go_roundw
            case rel => exact ⟨k + 1, nn + 1, _, _, _, _, by omega, by go_num, by go_num, by omega, by omega, HLx, HKk11, HTn⟩
            case measure => simp [intOf]; omega
          have h3m := h3
          go_wp2_with fail
          refine HCt.out.mono ?_
          rintro e w11 ⟨rfl, rfl⟩
          go_wp2
          go_roundw
          case rel => exact ⟨k + 1, nn + 1, _, _, _, _, by omega, by go_num, by go_num, by omega, by omega, HLx, HKk11, HTn⟩
          case measure => simp [intOf]; omega
      · have HG := hide (HT.out.gone q.x HQ.out.1 hlt2)
        have hf45 : fv = 45 := by rw [← HFv.out]; exact HG.out.2.2.1
        subst hf45
        have hc := HG.out.2.1
        have hnT : (nn : Int) + 1 = (T : Int) := by have h1 := HG.out.1; rw [hc] at h1; omega
        have hnl : ¬ (nn : Int) + 1 < (T : Int) := by omega
        rw [HEv.out] at hc
        rw [hc, show decide ((1 : Nat) = 1) = true from rfl] at HCt
        have HCa := hide (Crash_any w10 K10 1 a (A.play q.x).2 HLx.out.da HLx.out.ia _ HLx.out.za (by have := HKk11.out; omega) pp pm pc ps HPm.out (HP.out.below HLx.out.lc.bel) hpl)
        have HCk : Hid (((A.play q.x).2.crash ps).length ≤ 1099511627776) := by
          show _ ≤ _
          have h1 := left_len HLx.out.ia HLx.out.za ps
          have h2 := HKk11.out
          rw [crash_len]
          omega
        have HOf : Hid ((B.play q.x).2.off = true) := HG.out.2.2.2.1
        have HSt : Hid ((B.play q.x).2.strokes = T) := HG.out.2.2.2.2.1
        have HCx := hide (HG.out.2.2.2.2.2 ps)
        have HKl : Hid (kk + q.x.b.length + 1 + q.x.b.length + 1 ≤ 274877906944) := by have := HKk11.out; show _ ≤ _; omega
        generalize kk + q.x.b.length + 1 + q.x.b.length + 1 = kz at *
        generalize (A.play q.x).2 = A2 at *
        generalize (B.play q.x).2 = B2 at *
        clear hc hlt2 HG HFv HEv HT
        by_cases h3 : q.x.kind = 3
        · rw [h3] at f0
          have HCy : Hid (B2.crash ps = A.crash ps) := by
            have h := HCx.out
            rw [if_pos (Or.inl h3)] at h
            exact h
          go_wp2_with fail
          refine HCt.out.mono ?_
          rintro e w11 ⟨rfl, rfl⟩
          go_wp2_with fail
          refine HCt.out.mono ?_
          rintro e w12 ⟨rfl, rfl⟩
          go_wp2_with fail
          refine HCa.out.mono ?_
          rintro e w13 ⟨v13, rfl, hi13, hb13⟩
          have HLy := hide (HLx.out.below hb13)
          have HIw := hide (HIx.out.kept (kp_below hb13 (fun _ => False) K10 (0, 0)) (fun h => h))
          obtain ⟨wa, wc, rfl, _, _⟩ := hi13.form
          clear hi13 hb13
          generalize ext K10 w12.heap.size (0, 0) = K13 at *
          have HRd := hide (Read_any w13 K13 2 b B2 HLy.out.db HLy.out.ib _ HLy.out.zb (by have := HKl.out; omega) [97] (by simp))
          rw [err_gone HOf.out, bytes_gone HOf.out] at HRd
          go_wp2_with fail
          refine HRd.out.mono ?_
          rintro e w14 ⟨ra, rc, rfl, hr14, hb14⟩
          have HLz := hide (HLy.out.below hb14)
          have HIz := hide (HIw.out.kept (kp_below hb14 (fun _ => False) K13 (0, 0)) (fun h => h))
          clear hr14 hb14
          generalize ext K13 w13.heap.size (0, 0) = K14 at *
          have HLi := hide (List_any w14 K14 2 b B2 HLz.out.db HLz.out.ib)
          rw [names_gone HOf.out, offE_gone HOf.out] at HLi
          go_wp2_with fail
          refine HLi.out.mono ?_
          rintro e w15 ⟨la, lc, rfl, hr15, hb15⟩
          have HLu := hide (HLz.out.below hb15)
          have HIu := hide (HIz.out.kept (kp_below hb15 (fun _ => False) K14 (0, 0)) (fun h => h))
          clear hr15 hb15
          generalize ext K14 w14.heap.size (0, 0) = K15 at *
          have HSi := hide (Size_any w15 K15 2 b B2 HLu.out.db HLu.out.ib [110, 111, 116, 104, 105, 110, 103, 32, 104, 101, 114, 101] (by simp))
          rw [err_gone HOf.out, bytes_gone HOf.out] at HSi
          go_wp2_with fail
          refine HSi.out.mono ?_
          rintro e w16 ⟨rfl, rfl⟩
          go_wp2_with fail
          refine (num_any _ 45).mono ?_
          rintro e w17 ⟨rfl, rfl⟩
          go_wp2_with fail
          refine (num_any _ 45).mono ?_
          rintro e w18 ⟨rfl, rfl⟩
          go_wp2_with fail
          refine (num_any _ 45).mono ?_
          rintro e w19 ⟨rfl, rfl⟩
          obtain ⟨y0, y1, y2, y3, y4⟩ := blk5 HLu.out.lc.box
          have HCb := hide (Crash_any _ K15 2 b B2 HLu.out.db HLu.out.ib _ HLu.out.zb HKl.out pp pm pc ps HPm.out (HP.out.below HLu.out.lc.bel) hpl)
          rw [HCy.out] at HCb
          go_wp2_with fail
          refine HCb.out.mono ?_
          rintro e w20 ⟨v20, rfl, hi20, hb20⟩
          have HLv := hide (HLu.out.below hb20)
          have HIv := hide (HIu.out.kept (kp_below hb20 (fun _ => False) K15 (0, 0)) (fun h => h))
          have HIm := hide (image_same w20 _ _ _ _ hi20 HIv.out HCl.out)
          obtain ⟨va20, vc20, rfl, _, _⟩ := hi20.form
          clear hi20 hb20 y0 y1 y2 y3 y4
          generalize ext K15 w19.heap.size (0, 0) = K20 at *
          go_wp2_with fail
          refine HIm.out.mono ?_
          rintro e w21 ⟨rfl, nq, rfl⟩
          have HLs := hide (HLv.out.drewN nq)
          have HIs := hide (im_drewN HIv.out nq)
          obtain ⟨z0, z1, z2, z3, z4⟩ := blk5 HLs.out.lc.box
          have HFw := hide (few_any (w20.drewN nq) mp ml mc more HMm.out hmml (HMI.out.below HLs.out.lc.bel) (fun q hq => ⟨(HMok.out q hq).1.cap, (HMok.out q hq).2⟩))
          go_wp2_with fail
          refine HFw.out.mono ?_
          rintro e w22 ⟨na, ncc, rfl, hr22, hb22⟩
          have HLt := hide (HLs.out.below hb22)
          have HIt := hide (HIs.out.kept (kp_below hb22 (fun _ => False) K20 (0, 0)) (fun h => h))
          have HOp := hide (few_opk HLs.out.lc.bel HLs.out.lc.old hb22 hr22 rfl (few_ok (fun q hq => (HMok.out q hq).1)))
          have HFk := hide (few_kind more)
          have HFm := hide (few_most more)
          clear hr22 hb22 z0 z1 z2 z3 z4 HFw
          generalize ext K20 (w20.drewN nq).heap.size (0, 0) = K22 at *
          generalize fewO more = fm at *
          obtain ⟨N2, hN2⟩ : ∃ N2, fm.length = N2 := ⟨_, rfl⟩
          rw [hN2] at HOp HFm ⊢
          clear hN2
          have HGo := hide (gone_any w22 K22 b B2 HLt.out.db HLt.out.ib _ HLt.out.zb HKl.out HOf.out na N2 ncc fm HOp.out HFm.out HFk.out)
          go_wp2_with fail
          refine HGo.out.mono ?_
          rintro e w23 ⟨K23, rfl, hd23, hk23⟩
          have HLw := hide (HLt.out.playedB hd23 HLt.out.ib HLt.out.zb (Nat.le_refl _) hk23)
          have HI23 := hide (HIt.out.kept hk23 (by simp))
          obtain ⟨z0, z1, z2, z3, z4⟩ := blk5 HLw.out.lc.box
          have HCc := hide (Crash_any _ K23 2 b B2 HLw.out.db HLw.out.ib _ HLw.out.zb HKl.out pp pm pc ps HPm.out (HP.out.below HLw.out.lc.bel) hpl)
          rw [HCy.out] at HCc
          clear hd23 hk23
          go_wp2_with fail
          refine HCc.out.mono ?_
          rintro e w24 ⟨v24, rfl, hi24, hb24⟩
          have HL24 := hide (HLw.out.below hb24)
          have HIn := hide (image_same w24 _ _ _ _ hi24 (HI23.out.kept (kp_below hb24 (fun _ => False) K23 (0, 0)) (fun h => h)) HCl.out)
          obtain ⟨va24, vc24, rfl, _, _⟩ := hi24.form
          clear hi24 hb24 z0 z1 z2 z3 z4
          go_wp2_with fail
          refine HIn.out.mono ?_
          rintro e w25 ⟨rfl, nr, rfl⟩
          have HL25 := hide (HL24.out.drewN nr)
          have HSr := hide (Strokes_any _ _ 2 b B2 HL25.out.db)
          rw [HSt.out] at HSr
          go_wp2_with fail
          refine HSr.out.mono ?_
          rintro e w26 ⟨rfl, rfl⟩
          go_wp2
          go_ret
          exact ⟨rfl, HL25.out.lc.bel⟩
        by_cases h4 : q.x.kind = 4
        · rw [h4] at f0
          have HCy : Hid (B2.crash ps = A.crash ps) := by
            have h := HCx.out
            rw [if_pos (Or.inr h4)] at h
            exact h
          go_wp2_with fail
          refine HCt.out.mono ?_
          rintro e w11 ⟨rfl, rfl⟩
          go_wp2_with fail
          refine HCt.out.mono ?_
          rintro e w12 ⟨rfl, rfl⟩
          go_wp2_with fail
          refine HCa.out.mono ?_
          rintro e w13 ⟨v13, rfl, hi13, hb13⟩
          have HLy := hide (HLx.out.below hb13)
          have HIw := hide (HIx.out.kept (kp_below hb13 (fun _ => False) K10 (0, 0)) (fun h => h))
          obtain ⟨wa, wc, rfl, _, _⟩ := hi13.form
          clear hi13 hb13
          generalize ext K10 w12.heap.size (0, 0) = K13 at *
          have HRd := hide (Read_any w13 K13 2 b B2 HLy.out.db HLy.out.ib _ HLy.out.zb (by have := HKl.out; omega) [97] (by simp))
          rw [err_gone HOf.out, bytes_gone HOf.out] at HRd
          go_wp2_with fail
          refine HRd.out.mono ?_
          rintro e w14 ⟨ra, rc, rfl, hr14, hb14⟩
          have HLz := hide (HLy.out.below hb14)
          have HIz := hide (HIw.out.kept (kp_below hb14 (fun _ => False) K13 (0, 0)) (fun h => h))
          clear hr14 hb14
          generalize ext K13 w13.heap.size (0, 0) = K14 at *
          have HLi := hide (List_any w14 K14 2 b B2 HLz.out.db HLz.out.ib)
          rw [names_gone HOf.out, offE_gone HOf.out] at HLi
          go_wp2_with fail
          refine HLi.out.mono ?_
          rintro e w15 ⟨la, lc, rfl, hr15, hb15⟩
          have HLu := hide (HLz.out.below hb15)
          have HIu := hide (HIz.out.kept (kp_below hb15 (fun _ => False) K14 (0, 0)) (fun h => h))
          clear hr15 hb15
          generalize ext K14 w14.heap.size (0, 0) = K15 at *
          have HSi := hide (Size_any w15 K15 2 b B2 HLu.out.db HLu.out.ib [110, 111, 116, 104, 105, 110, 103, 32, 104, 101, 114, 101] (by simp))
          rw [err_gone HOf.out, bytes_gone HOf.out] at HSi
          go_wp2_with fail
          refine HSi.out.mono ?_
          rintro e w16 ⟨rfl, rfl⟩
          go_wp2_with fail
          refine (num_any _ 45).mono ?_
          rintro e w17 ⟨rfl, rfl⟩
          go_wp2_with fail
          refine (num_any _ 45).mono ?_
          rintro e w18 ⟨rfl, rfl⟩
          go_wp2_with fail
          refine (num_any _ 45).mono ?_
          rintro e w19 ⟨rfl, rfl⟩
          obtain ⟨y0, y1, y2, y3, y4⟩ := blk5 HLu.out.lc.box
          have HCb := hide (Crash_any _ K15 2 b B2 HLu.out.db HLu.out.ib _ HLu.out.zb HKl.out pp pm pc ps HPm.out (HP.out.below HLu.out.lc.bel) hpl)
          rw [HCy.out] at HCb
          go_wp2_with fail
          refine HCb.out.mono ?_
          rintro e w20 ⟨v20, rfl, hi20, hb20⟩
          have HLv := hide (HLu.out.below hb20)
          have HIv := hide (HIu.out.kept (kp_below hb20 (fun _ => False) K15 (0, 0)) (fun h => h))
          have HIm := hide (image_same w20 _ _ _ _ hi20 HIv.out HCl.out)
          obtain ⟨va20, vc20, rfl, _, _⟩ := hi20.form
          clear hi20 hb20 y0 y1 y2 y3 y4
          generalize ext K15 w19.heap.size (0, 0) = K20 at *
          go_wp2_with fail
          refine HIm.out.mono ?_
          rintro e w21 ⟨rfl, nq, rfl⟩
          have HLs := hide (HLv.out.drewN nq)
          have HIs := hide (im_drewN HIv.out nq)
          obtain ⟨z0, z1, z2, z3, z4⟩ := blk5 HLs.out.lc.box
          have HFw := hide (few_any (w20.drewN nq) mp ml mc more HMm.out hmml (HMI.out.below HLs.out.lc.bel) (fun q hq => ⟨(HMok.out q hq).1.cap, (HMok.out q hq).2⟩))
          go_wp2_with fail
          refine HFw.out.mono ?_
          rintro e w22 ⟨na, ncc, rfl, hr22, hb22⟩
          have HLt := hide (HLs.out.below hb22)
          have HIt := hide (HIs.out.kept (kp_below hb22 (fun _ => False) K20 (0, 0)) (fun h => h))
          have HOp := hide (few_opk HLs.out.lc.bel HLs.out.lc.old hb22 hr22 rfl (few_ok (fun q hq => (HMok.out q hq).1)))
          have HFk := hide (few_kind more)
          have HFm := hide (few_most more)
          clear hr22 hb22 z0 z1 z2 z3 z4 HFw
          generalize ext K20 (w20.drewN nq).heap.size (0, 0) = K22 at *
          generalize fewO more = fm at *
          obtain ⟨N2, hN2⟩ : ∃ N2, fm.length = N2 := ⟨_, rfl⟩
          rw [hN2] at HOp HFm ⊢
          clear hN2
          have HGo := hide (gone_any w22 K22 b B2 HLt.out.db HLt.out.ib _ HLt.out.zb HKl.out HOf.out na N2 ncc fm HOp.out HFm.out HFk.out)
          go_wp2_with fail
          refine HGo.out.mono ?_
          rintro e w23 ⟨K23, rfl, hd23, hk23⟩
          have HLw := hide (HLt.out.playedB hd23 HLt.out.ib HLt.out.zb (Nat.le_refl _) hk23)
          have HI23 := hide (HIt.out.kept hk23 (by simp))
          obtain ⟨z0, z1, z2, z3, z4⟩ := blk5 HLw.out.lc.box
          have HCc := hide (Crash_any _ K23 2 b B2 HLw.out.db HLw.out.ib _ HLw.out.zb HKl.out pp pm pc ps HPm.out (HP.out.below HLw.out.lc.bel) hpl)
          rw [HCy.out] at HCc
          clear hd23 hk23
          go_wp2_with fail
          refine HCc.out.mono ?_
          rintro e w24 ⟨v24, rfl, hi24, hb24⟩
          have HL24 := hide (HLw.out.below hb24)
          have HIn := hide (image_same w24 _ _ _ _ hi24 (HI23.out.kept (kp_below hb24 (fun _ => False) K23 (0, 0)) (fun h => h)) HCl.out)
          obtain ⟨va24, vc24, rfl, _, _⟩ := hi24.form
          clear hi24 hb24 z0 z1 z2 z3 z4
          go_wp2_with fail
          refine HIn.out.mono ?_
          rintro e w25 ⟨rfl, nr, rfl⟩
          have HL25 := hide (HL24.out.drewN nr)
          have HSr := hide (Strokes_any _ _ 2 b B2 HL25.out.db)
          rw [HSt.out] at HSr
          go_wp2_with fail
          refine HSr.out.mono ?_
          rintro e w26 ⟨rfl, rfl⟩
          go_wp2
          go_ret
          exact ⟨rfl, HL25.out.lc.bel⟩
        have hsf : (q.x.kind == 3 || q.x.kind == 4) = false := by simp [h3, h4]
        have HCy : Hid (B2.crash ps = A2.crash ps) := by
          have h := HCx.out
          rw [if_neg (show ¬ (q.x.kind = 3 ∨ q.x.kind = 4) from fun e => e.elim h3 h4)] at h
          exact h
        go_wp2_with fail
        refine HCt.out.mono ?_
        rintro e w11 ⟨rfl, rfl⟩
        go_wp2_with fail
        refine HCt.out.mono ?_
        rintro e w12 ⟨rfl, rfl⟩
        go_wp2_with fail
        refine HCa.out.mono ?_
        rintro e w13 ⟨v13, rfl, hi13, hb13⟩
        have HLy := hide (HLx.out.below hb13)
        have HIw := hide hi13
        obtain ⟨wa, wc, rfl, _, _⟩ := hi13.form
        clear hi13 hb13
        generalize ext K10 w12.heap.size (0, 0) = K13 at *
        have HRd := hide (Read_any w13 K13 2 b B2 HLy.out.db HLy.out.ib _ HLy.out.zb (by have := HKl.out; omega) [97] (by simp))
        rw [err_gone HOf.out, bytes_gone HOf.out] at HRd
        go_wp2_with fail
        refine HRd.out.mono ?_
        rintro e w14 ⟨ra, rc, rfl, hr14, hb14⟩
        have HLz := hide (HLy.out.below hb14)
        have HIz := hide (HIw.out.kept (kp_below hb14 (fun _ => False) K13 (0, 0)) (fun h => h))
        clear hr14 hb14
        generalize ext K13 w13.heap.size (0, 0) = K14 at *
        have HLi := hide (List_any w14 K14 2 b B2 HLz.out.db HLz.out.ib)
        rw [names_gone HOf.out, offE_gone HOf.out] at HLi
        go_wp2_with fail
        refine HLi.out.mono ?_
        rintro e w15 ⟨la, lc, rfl, hr15, hb15⟩
        have HLu := hide (HLz.out.below hb15)
        have HIu := hide (HIz.out.kept (kp_below hb15 (fun _ => False) K14 (0, 0)) (fun h => h))
        clear hr15 hb15
        generalize ext K14 w14.heap.size (0, 0) = K15 at *
        have HSi := hide (Size_any w15 K15 2 b B2 HLu.out.db HLu.out.ib [110, 111, 116, 104, 105, 110, 103, 32, 104, 101, 114, 101] (by simp))
        rw [err_gone HOf.out, bytes_gone HOf.out] at HSi
        go_wp2_with fail
        refine HSi.out.mono ?_
        rintro e w16 ⟨rfl, rfl⟩
        go_wp2_with fail
        refine (num_any _ 45).mono ?_
        rintro e w17 ⟨rfl, rfl⟩
        go_wp2_with fail
        refine (num_any _ 45).mono ?_
        rintro e w18 ⟨rfl, rfl⟩
        go_wp2_with fail
        refine (num_any _ 45).mono ?_
        rintro e w19 ⟨rfl, rfl⟩
        obtain ⟨y0, y1, y2, y3, y4⟩ := blk5 HLu.out.lc.box
        have HCb := hide (Crash_any _ K15 2 b B2 HLu.out.db HLu.out.ib _ HLu.out.zb HKl.out pp pm pc ps HPm.out (HP.out.below HLu.out.lc.bel) hpl)
        rw [HCy.out] at HCb
        go_wp2_with fail
        refine HCb.out.mono ?_
        rintro e w20 ⟨v20, rfl, hi20, hb20⟩
        have HLv := hide (HLu.out.below hb20)
        have HIv := hide (HIu.out.kept (kp_below hb20 (fun _ => False) K15 (0, 0)) (fun h => h))
        have HIm := hide (image_same w20 _ _ _ _ hi20 HIv.out HCk.out)
        obtain ⟨va20, vc20, rfl, _, _⟩ := hi20.form
        clear hi20 hb20 y0 y1 y2 y3 y4
        generalize ext K15 w19.heap.size (0, 0) = K20 at *
        go_wp2_with fail
        refine HIm.out.mono ?_
        rintro e w21 ⟨rfl, nq, rfl⟩
        have HLs := hide (HLv.out.drewN nq)
        have HIs := hide (im_drewN HIv.out nq)
        obtain ⟨z0, z1, z2, z3, z4⟩ := blk5 HLs.out.lc.box
        have HFw := hide (few_any (w20.drewN nq) mp ml mc more HMm.out hmml (HMI.out.below HLs.out.lc.bel) (fun q hq => ⟨(HMok.out q hq).1.cap, (HMok.out q hq).2⟩))
        go_wp2_with fail
        refine HFw.out.mono ?_
        rintro e w22 ⟨na, ncc, rfl, hr22, hb22⟩
        have HLt := hide (HLs.out.below hb22)
        have HIt := hide (HIs.out.kept (kp_below hb22 (fun _ => False) K20 (0, 0)) (fun h => h))
        have HOp := hide (few_opk HLs.out.lc.bel HLs.out.lc.old hb22 hr22 rfl (few_ok (fun q hq => (HMok.out q hq).1)))
        have HFk := hide (few_kind more)
        have HFm := hide (few_most more)
        clear hr22 hb22 z0 z1 z2 z3 z4 HFw
        generalize ext K20 (w20.drewN nq).heap.size (0, 0) = K22 at *
        generalize fewO more = fm at *
        obtain ⟨N2, hN2⟩ : ∃ N2, fm.length = N2 := ⟨_, rfl⟩
        rw [hN2] at HOp HFm ⊢
        clear hN2
        have HGo := hide (gone_any w22 K22 b B2 HLt.out.db HLt.out.ib _ HLt.out.zb HKl.out HOf.out na N2 ncc fm HOp.out HFm.out HFk.out)
        go_wp2_with fail
        refine HGo.out.mono ?_
        rintro e w23 ⟨K23, rfl, hd23, hk23⟩
        have HLw := hide (HLt.out.playedB hd23 HLt.out.ib HLt.out.zb (Nat.le_refl _) hk23)
        have HI23 := hide (HIt.out.kept hk23 (by simp))
        obtain ⟨z0, z1, z2, z3, z4⟩ := blk5 HLw.out.lc.box
        have HCc := hide (Crash_any _ K23 2 b B2 HLw.out.db HLw.out.ib _ HLw.out.zb HKl.out pp pm pc ps HPm.out (HP.out.below HLw.out.lc.bel) hpl)
        rw [HCy.out] at HCc
        clear hd23 hk23
        go_wp2_with fail
        refine HCc.out.mono ?_
        rintro e w24 ⟨v24, rfl, hi24, hb24⟩
        have HL24 := hide (HLw.out.below hb24)
        have HIn := hide (image_same w24 _ _ _ _ hi24 (HI23.out.kept (kp_below hb24 (fun _ => False) K23 (0, 0)) (fun h => h)) HCk.out)
        obtain ⟨va24, vc24, rfl, _, _⟩ := hi24.form
        clear hi24 hb24 z0 z1 z2 z3 z4
        go_wp2_with fail
        refine HIn.out.mono ?_
        rintro e w25 ⟨rfl, nr, rfl⟩
        have HL25 := hide (HL24.out.drewN nr)
        have HSr := hide (Strokes_any _ _ 2 b B2 HL25.out.db)
        rw [HSt.out] at HSr
        go_wp2_with fail
        refine HSr.out.mono ?_
        rintro e w26 ⟨rfl, rfl⟩
        go_wp2
        go_ret
        exact ⟨rfl, HL25.out.lc.bel⟩
    · obtain rfl : k = M := by omega
      have hnT : (nn : Int) < (T : Int) := by omega
      have HLd := hide (HL.out.drew)
      have HKl : Hid (kk ≤ 274877906944) := by have := HKk.out; show _ ≤ _; omega
      have HCa := hide (Crash_any wr.drew K 1 a A HLd.out.da HLd.out.ia kk HLd.out.za HKl.out pp pm pc ps HPm.out (HP.out.below HLd.out.lc.bel) hpl)
      have HIg : Hid (B.image = A.image) := HT.out.image
      have HCe : Hid (B.crash ps = A.crash ps) := HT.out.crash ps
      have HIl : Hid (A.image.length ≤ 1099511627776) := hide (Nat.le_trans (image_len HL.out.ia) (by omega))
      have HCl : Hid ((A.crash ps).length ≤ 1099511627776) := by
        show _ ≤ _
        have h1 := left_len HL.out.ia HL.out.za ps
        have h2 := HKk.out
        rw [crash_len]
        omega
      obtain ⟨x0, x1, x2, x3, x4⟩ := blk5 HL.out.lc.box
      clear x0 x1 x3 x4
      go_wp2
      go_region_held3 (fun w' => w'.cell? ⟨W.heap.size, 2, none⟩ = some (.slice pp pm pc)) (go_keep) (first | (go_at_call 20; refine HIm.out.mono ?_; rintro e w13 ⟨rfl, nr, rfl⟩; have HL13 := hide (HL12.out.drewN nr); have hc13 : (w12.drewN nr).cell? ⟨W.heap.size, 2, none⟩ = some (.slice pp pm pc) := (blk5 HL13.out.lc.box).2.2.1) | (go_at_call 26; refine HSb.out.mono ?_; rintro e w12 ⟨v12, rfl, hi12, hb12⟩; have HL12 := hide (HL11.out.below hb12); have HIm := hide (image_same w12 _ _ _ A.image (HI11.out.kept (kp_below hb12 (fun _ => False) _ (0, 0)) (fun h => h)) hi12 HIl.out); obtain ⟨a12, c12, hv12, _, _⟩ := hi12.form; subst hv12; have hc12 : w12.cell? ⟨W.heap.size, 2, none⟩ = some (.slice pp pm pc) := (blk5 HL12.out.lc.box).2.2.1; clear hi12 hb12) | (go_at_call 26; refine HSa.out.mono ?_; rintro e w11 ⟨v11, rfl, hi11, hb11⟩; have HL11 := hide (HL10.out.below hb11); have HI11 := hide hi11; obtain ⟨a11, c11, hv11, _, _⟩ := hi11.form; subst hv11; have hc11 : w11.cell? ⟨W.heap.size, 2, none⟩ = some (.slice pp pm pc) := (blk5 HL11.out.lc.box).2.2.1; have HSb := hide (seen_any w11 _ 2 b B HL11.out.db HL11.out.ib kk HL11.out.zb (by have := HKl.out; omega)); rw [HIg.out] at HSb; clear hi11 hb11) | (go_at_call 20; refine HIn.out.mono ?_; rintro e w10 ⟨rfl, nq, rfl⟩; have HL10 := hide (HL9.out.drewN nq); have hc10 : (w9.drewN nq).cell? ⟨W.heap.size, 2, none⟩ = some (.slice pp pm pc) := (blk5 HL10.out.lc.box).2.2.1; have HSa := hide (seen_any (w9.drewN nq) _ 1 a A HL10.out.da HL10.out.ia kk HL10.out.za (by have := HKl.out; omega))) | (go_at_call 21; refine HCb.out.mono ?_; rintro e w9 ⟨v9, rfl, hi9, hb9⟩; have HL9 := hide (HL8.out.below hb9); have HIn := hide (image_same w9 _ _ _ (A.crash ps) (HI8.out.kept (kp_below hb9 (fun _ => False) _ (0, 0)) (fun h => h)) hi9 HCl.out); obtain ⟨a9, c9, hv9, _, _⟩ := hi9.form; subst hv9; have hc9 : w9.cell? ⟨W.heap.size, 2, none⟩ = some (.slice pp pm pc) := (blk5 HL9.out.lc.box).2.2.1; clear hi9 hb9) | (go_at_call 21; refine HCa.out.mono ?_; rintro e w8 ⟨v8, rfl, hi8, hb8⟩; have HL8 := hide (HLd.out.below hb8); have HI8 := hide hi8; obtain ⟨a8, c8, hv8, _, _⟩ := hi8.form; subst hv8; have hc8 : w8.cell? ⟨W.heap.size, 2, none⟩ = some (.slice pp pm pc) := (blk5 HL8.out.lc.box).2.2.1; have HCb := hide (Crash_any w8 _ 2 b B HL8.out.db HL8.out.ib kk HL8.out.zb HKl.out pp pm pc ps HPm.out (HP.out.below HL8.out.lc.bel) hpl); rw [HCe.out] at HCb; clear hi8 hb8))
      all_goals go_wp2
      all_goals go_ret
      all_goals exact ⟨rfl, HL13.out.lc.bel⟩

end Go.Proofs.Ytlpafgjgoheomaa
