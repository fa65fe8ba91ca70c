import Derived.Test.YtlpafgjgoheomaaFull
namespace Go.Proofs.Ytlpafgjgoheomaa
open Go.RowKit Go.Maps

abbrev powB (sp : Option Addr) (m cap : Nat) (r : Int) (pp : Option Addr) (pm pc : Nat) (mp : Option Addr) (ml mc : Nat) (np : Option Addr) (nl nc : Nat) : Array Value := #[.slice sp m cap, .int .i64 r, .slice pp pm pc, .slice mp ml mc, .slice np nl nc]

set_option maxRecDepth 100000 in
set_option maxHeartbeats 4000000 in
theorem full_all (W : World) (sp : Option Addr) (m cap : Nat) (ops : List Opm) (hm : ops.length = m) (hml : m ≤ 140737488355328) (hI : Opi W sp ops) (hok : ∀ q ∈ ops, OpOk W K0 q ∧ q.bc ≤ 9223372036854775807) (r : Int)
    (pp : Option Addr) (pm pc : Nat) (ps : List Int) (hpm : ps.length = pm) (hpl : pm ≤ 140737488355328) (hP : Ins W pp ps) (mp : Option Addr) (ml mc : Nat) (np : Option Addr) (nl nc : Nat) (_hnl : nl ≤ 140737488355328) :
    Calls Try.prog 6 #[.agg #[.slice sp m cap, .int .i64 r, .slice pp pm pc, .slice mp ml mc, .slice np nl nc]] W fun e w' => e = .returned (.bool true) ∧ Below W.heap.size W w' := by
  obtain ⟨i0, hi, hz0, hz1, hz2⟩ := info_parts Try.infoOp
  have HI := hide hI
  have HM := hide hm
  have HOk := hide hok
  have HPm := hide hpm
  have HP := hide hP
  have HW1 : Hid (∀ w, Calls Try.prog 29 #[.int .i64 r, .int .i64 20] w fun e w' => e = .returned (.int .i64 ((r % 20).toNat : Int)) ∧ w' = w) := hide (fun w => within_any w r 20 (by omega) (by omega))
  have HW2 : Hid (∀ w, Calls Try.prog 29 #[.int .i64 (nl : Int), .int .i64 5] w fun e w' => e = .returned (.int .i64 (((nl : Int) % 5).toNat : Int)) ∧ w' = w) := hide (fun w => within_any w nl 5 (by omega) (by omega))
  obtain ⟨ρ, hρ⟩ : ∃ ρ : Nat, (r % 20).toNat = ρ := ⟨_, rfl⟩
  obtain ⟨σ, hσ⟩ : ∃ σ : Nat, ((nl : Int) % 5).toNat = σ := ⟨_, rfl⟩
  have hρ4 : ρ < 20 := by have := Int.emod_lt_of_pos r (show (0 : Int) < 20 by omega); omega
  have hσ4 : σ < 5 := by have := Int.emod_lt_of_pos (nl : Int) (show (0 : Int) < 5 by omega); omega
  rw [hρ] at HW1
  rw [hσ] at HW2
  clear hI hm hok hρ hσ hpm hP
  have hcb := fun (w : World) (C : Array Value) (n c : Nat) => Lib.run_convert_bytes_const (P := Try.prog) w 26 5 C n c Try.underlying26 Try.underlying5
  go_enter Try.func6, Try.ntmps6
  have HB0 : Hid (Below W.heap.size W (W.alloc (.cells #[.slice sp m cap, .int .i64 r, .slice pp pm pc, .slice mp ml mc, .slice np nl nc] 50))) := (Below.refl _ _).alloc (Nat.le_refl _) _
  have HX0 : Hid ((W.alloc (.cells #[.slice sp m cap, .int .i64 r, .slice pp pm pc, .slice mp ml mc, .slice np nl nc] 50)).heap[W.heap.size]? = some (.cells #[.slice sp m cap, .int .i64 r, .slice pp pm pc, .slice mp ml mc, .slice np nl nc] 50 (0, 0))) := heap_alloc_new _ _
  go_wp2_with fail
  refine (open_any _ K0 1).mono ?_
  rintro e w1 ⟨a, rfl, ha, hd1, hb1⟩
  have HB1 := hide (HB0.out.trans (hb1.mono (by simp)))
  have HX1 : Hid (w1.heap[W.heap.size]? = _) := (hb1.block W.heap.size (by simp)).trans HX0.out
  have HK1 := hide (kp_new (K := K0) (1, 1) hb1 ha)
  have HD1 := hide hd1
  clear hb1 hd1 HX0 HB0
  obtain ⟨K1, hK1⟩ : ∃ K1, newK (ext K0 (W.alloc (.cells #[.slice sp m cap, .int .i64 r, .slice pp pm pc, .slice mp ml mc, .slice np nl nc] 50)).heap.size (0, 0)) a (1, 1) = K1 := ⟨_, rfl⟩
  rw [hK1] at HK1 HD1
  have HKo : Hid (∀ b, b < W.heap.size + 1 → K1 b = (0, 0)) := fun b hb => (HK1.out.same b (by simpa using hb)).trans rfl
  clear HK1 hK1 ha
  go_wp2_with fail
  refine (open_any _ K1 2).mono ?_
  rintro e w2 ⟨b, rfl, hb, hd2, hb2⟩
  have HX2 : Hid (w2.heap[W.heap.size]? = _) := (hb2.block W.heap.size (lt_of_block HX1.out)).trans HX1.out
  have HB2 := hide (HB1.out.trans (hb2.mono HB1.out.size))
  have HK2 := hide (kp_new (K := K1) (2, 1) hb2 hb)
  have HA2 := hide (HD1.out.kept HK2.out (fun _ h => h))
  have HD2 := hide hd2
  obtain ⟨K2, hK2⟩ : ∃ K2, newK (ext K1 w1.heap.size (0, 0)) b (2, 1) = K2 := ⟨_, rfl⟩
  rw [hK2] at HK2 HA2 HD2
  have HKp : Hid (∀ x, x < W.heap.size + 1 → K2 x = (0, 0)) := fun x hx => (HK2.out.same x (Nat.lt_of_lt_of_le hx (lt_of_block HX1.out))).trans (HKo.out x hx)
  have HPl := hide (fun x y z => Plan_any w2 K2 1 a _ HA2.out x y z)
  obtain ⟨x0, x1, x2, x3, x4⟩ := blk5 HX2.out
  have hxl := lt_of_block HX2.out
  clear hb hb2 hd2 hK2 HD1 HX1 HB1 HKo HK2 x3
  go_wp2_with fail
  refine (HW1.out _).mono ?_
  rintro e w3 ⟨rfl, rfl⟩
  go_wp2_with fail
  refine (HW2.out _).mono ?_
  rintro e w4 ⟨rfl, rfl⟩
  go_wp2_with fail
  refine (HPl.out _ _ _).mono ?_
  rintro e w5 ⟨K5, rfl, hd5, hk5⟩
  have HTw := hide (tw_new 16777216 (1 + (ρ : Int)) (1 + (ρ : Int) + (σ : Int)))
  have HI5 := hide ((new_inv (r := 16777216) (by omega)).plan 0 (1 + (ρ : Int)) (1 + (ρ : Int) + (σ : Int)))
  have HZ5 := hide ((new_sz 16777216).plan 0 (1 + (ρ : Int)) (1 + (ρ : Int) + (σ : Int)))
  have HU5 : Hid (((St.new 16777216).planR 0 (1 + (ρ : Int)) (1 + (ρ : Int) + (σ : Int))).used = 0 ∧ ((St.new 16777216).planR 0 (1 + (ρ : Int)) (1 + (ρ : Int) + (σ : Int))).room = 16777216) := ⟨rfl, rfl⟩
  have HD5 := hide hd5
  generalize (St.new 16777216).planR 0 (1 + (ρ : Int)) (1 + (ρ : Int) + (σ : Int)) = A0 at *
  have HE5 := hide (HD2.out.kept hk5 (by simp))
  have HB5 := hide (hk5.below HB2.out (fun b hb => by rw [HKp.out b (by omega)]; simp))
  have HX5 : Hid (w5.heap[W.heap.size]? = _) := (hk5.block W.heap.size hxl (by rw [HKp.out _ (by omega)]; simp)).trans HX2.out
  have HKq : Hid (∀ x, x < W.heap.size + 1 → K5 x = (0, 0)) := fun x hx => (hk5.same x (Nat.lt_of_lt_of_le hx hxl)).trans (HKp.out x hx)
  obtain ⟨y0, y1, y2, y3, y4⟩ := blk5 HX5.out
  have HFw := hide (few_any w5 sp m cap ops HM.out hml (HI.out.below HB5.out) (fun q hq => ⟨(HOk.out q hq).1.cap, (HOk.out q hq).2⟩))
  clear hd5 hk5 HKp HX2 HB2 HD2 HA2 HPl HW1 HW2 hxl x0 x1 x2 x4 y3
  go_wp2_with fail
  refine HFw.out.mono ?_
  rintro e w6 ⟨oa, oc, rfl, hr6, hb6⟩
  have HR6 := hide hr6
  have HB6 := hide hb6
  have HFk : Hid (∀ q ∈ fewO ops, 1 ≤ q.x.kind ∧ q.x.kind ≤ 6 ∧ q.x.b.length ≤ 4096) := few_kind ops
  have HFm : Hid ((fewO ops).length ≤ 200) := few_most ops
  have HFo : Hid (∀ q ∈ fewO ops, OpOk W K0 q) := few_ok (fun q hq => (HOk.out q hq).1)
  clear hr6 hb6 HFw
  generalize fewO ops = fo at *
  obtain ⟨N, hN⟩ : ∃ N, fo.length = N := ⟨_, rfl⟩
  have HN := hide hN
  have hN2 : N ≤ 200 := by rw [← hN]; exact HFm.out
  rw [hN] at HR6
  rw [hN]
  clear hN
  have HOw := hide ((HR6.out.alloc (.cells #[.int .u8 101, .int .u8 110, .int .u8 100] 5 (3, 4))).alloc (.cells (opc (zOp w6.heap.size)).toArray 57))
  have HNew : Hid (∀ j u, (opc (zOp w6.heap.size))[j]? = some u → ((w6.alloc (.cells #[.int .u8 101, .int .u8 110, .int .u8 100] 5 (3, 4))).alloc (.cells (opc (zOp w6.heap.size)).toArray 57)).cell? ((⟨w6.heap.size + 1, 0, none⟩ : Addr).add j) = some u) := by
    have h := World.news_of_block (heap_alloc_new (w6.alloc (.cells #[.int .u8 101, .int .u8 110, .int .u8 100] 5 (3, 4))) (.cells (opc (zOp w6.heap.size)).toArray 57))
    rw [show (w6.alloc (.cells #[.int .u8 101, .int .u8 110, .int .u8 100] 5 (3, 4))).heap.size = w6.heap.size + 1 by simp] at h
    exact h
  have HOne : Hid (∀ u ∈ opc (zOp w6.heap.size), u.oneCell' = true) := fun u hu => by
    simp only [opc, List.mem_cons, List.not_mem_nil, or_false] at hu
    rcases hu with e | e | e | e | e | e | e | e | e | e <;> (subst e; rfl)
  have HSz : Hid (w5.heap.size ≤ ((w6.alloc (.cells #[.int .u8 101, .int .u8 110, .int .u8 100] 5 (3, 4))).alloc (.cells (opc (zOp w6.heap.size)).toArray 57)).heap.size) := by
    show _ ≤ _
    have := HB6.out.size
    simp; omega
  unfold opc zOp at HNew HOne HSz HOw
  simp only at HNew HOne HSz HOw
  go_wp2_with (at_builtin; refine wpList_append_lies _ rfl (.tmp 38) (.tmp 42) 48 rfl w5.heap.size 57 i0 (.agg #[.int .i64 0, .int .i64 0, .int .i64 0, .string ⟨#[]⟩, .string ⟨#[]⟩, .slice none 0 0, .int .i64 0, .int .i64 0, .int .i64 0, .slice none 0 0]) 10 128 Try.underlying48 hi hz0 hz1 hz2 rfl (by omega) (.slice oa N oc) N (opvs fo) rfl HOw.out ⟨w6.heap.size + 1, 0, none⟩ 1 1 _ rfl rfl HNew.out HOne.out (by omega) (by unfold maxLen; omega) (by omega) HSz.out _ rfl ?_; intro g' cap' w7 hown7 hgrow7 hat7 hltg)
  have HOe := hide (ops_end HB5.out HKq.out HB6.out HR6.out HN.out HFo.out hown7 hgrow7)
  have HB7 := hide HOe.out.1
  have kb7 := kp_below HB7.out (fun _ => False) K5 (0, 0)
  have HLq : Hid (Lq W w7 (ext K5 w5.heap.size (0, 0)) a b A0 (St.new 16777216) 0 (some ⟨g', 0, none⟩) (N + 1) cap' (fo ++ [zOp w6.heap.size]) (.cells #[.slice sp m cap, .int .i64 r, .slice pp pm pc, .slice mp ml mc, .slice np nl nc] 50 (0, 0))) :=
    have hl := lt_of_block HX5.out
    ⟨HD5.out.kept kb7 (fun _ h => h), HE5.out.kept kb7 (fun _ h => h), HI5.out, new_inv (by omega), HZ5.out, new_sz _, HOe.out.2, fun x hx => (ext_old _ _ (by omega)).trans (HKq.out x (by omega)), HB5.out.trans (HB7.out.mono HB5.out.size), (HB7.out.block _ hl).trans HX5.out, (ext_old _ _ hl).trans (HKq.out _ (by omega))⟩
  have HQk : Hid (∀ q ∈ fo ++ [zOp w6.heap.size], (1 ≤ q.x.kind ∧ q.x.kind ≤ 6) ∧ q.x.b.length ≤ 4096) := fun q hq => by
    rcases List.mem_append.1 hq with e | e
    · exact ⟨⟨(HFk.out q e).1, (HFk.out q e).2.1⟩, (HFk.out q e).2.2⟩
    · simp only [List.mem_cons, List.not_mem_nil, or_false] at e
      subst e; simp [zOp]
  clear hown7 hgrow7 hat7 hltg kb7 HOe HB7 HKq HX5 HB5 HD5 HE5 HI5 HZ5 HR6 HB6 HFk HFm HFo HN HNew HOne HSz HOw HI HOk HM y0 y1 y2 y4 hcb hi hz0 hz1 hz2
  generalize ext K5 w5.heap.size (0, 0) = K7 at *
  generalize fo ++ [zOp w6.heap.size] = fp at *
  obtain ⟨M, hM⟩ : ∃ M, N + 1 = M := ⟨_, rfl⟩
  rw [hM] at HLq ⊢
  have hM2 : M ≤ 201 := by omega
  clear hM hN2
  generalize hg8 : (some ⟨g', 0, none⟩ : Option Addr) = oq at *
  clear hg8
  have hf1 : 1 ≤ 1 + (ρ : Int) := by omega
  have hf2 : 1 + (ρ : Int) ≤ 20 := by omega
  have ht1 : 1 + (ρ : Int) + (σ : Int) ≤ 25 := by omega
  have ht2 : 0 ≤ 1 + (ρ : Int) + (σ : Int) := by omega
  generalize 1 + (ρ : Int) + (σ : Int) = t at *
  generalize 1 + (ρ : Int) = f at *
  clear hρ4 hσ4
  go_loopw [7, 9] (fun n i wr => ∃ (k nn kk : Nat) (K : Knd) (A B : St), k ≤ M ∧ n = .int .i64 (nn : Int) ∧ i = .int .i64 (k : Int) ∧ nn ≤ k ∧ Hid (Lq W wr K a b A B kk oq M cap' fp (.cells #[.slice sp m cap, .int .i64 r, .slice pp pm pc, .slice mp ml mc, .slice np nl nc] 50 (0, 0))) ∧ Hid (kk ≤ k * 8194) ∧ Hid (Tw A B f t nn) ∧ Hid (A.used ≤ k * 4096 ∧ A.room = 16777216)) (fun _ i _ => M - (intOf i).toNat)
  case atStart => exact ⟨0, 0, 0, K7, A0, _, Nat.zero_le _, rfl, rfl, Nat.le_refl _, HLq, Nat.zero_le _, HTw, hide ⟨by rw [HU5.out.1]; exact Nat.zero_le _, HU5.out.2⟩⟩
  case round =>
    obtain ⟨k, nn, kk, K, A, B, hk, rfl, rfl, hnk, HL, HKk, HT, HU⟩ := hrel
    clear HLq HTw HU5
    by_cases hlt : k < M
    · have hlt' : (k : Int) < (M : Int) := by omega
      have hk0 : (0 : Int) ≤ (k : Int) := by omega
      obtain ⟨q, hq⟩ : ∃ q, fp[k]? = some q := ⟨_, List.getElem?_eq_getElem (by rw [HL.out.lc.ops.len]; exact hlt)⟩
      have hqm := List.mem_of_getElem? hq
      obtain ⟨g, o, hoa, hg, c0, c1, c2, c3, c4, c5, c6, c7, c8, c9⟩ := (owns_ops HL.out.lc.ops.row.own).at hq
      have HQ := hide (HQk.out q hqm)
      subst hoa
      have HBx := hide (HL.out.below ((Below.refl _ wr).alloc (Nat.le_refl _) (.cells (opc q).toArray 57)))
      have HOb : Hid ((wr.alloc (.cells (opc q).toArray 57)).heap[wr.heap.size]? = some (.cells (opc q).toArray 57 (0, 0))) := heap_alloc_new _ _
      have HKb : Hid (ext K wr.heap.size (0, 0) wr.heap.size = (0, 0)) := ext_new _ _ (Nat.le_refl _)
      have HCr := hide (Crash_any _ _ 1 a A HBx.out.da HBx.out.ia kk HBx.out.za (by have := HKk.out; omega) pp pm pc ps HPm.out (HP.out.below HBx.out.lc.bel) hpl)
      have hne : ¬ W.heap.size = wr.heap.size := by have := lt_of_block HL.out.lc.box; omega
      obtain ⟨x0, x1, x2, x3, x4⟩ := blk5 HL.out.lc.box
      have hxl := lt_of_block HL.out.lc.box
      clear hq x0 x1 x3 x4
      unfold opc at HBx HOb HCr
      go_wp2_with fail
      refine HCr.out.mono ?_
      rintro e w8 ⟨v8, rfl, hi8, hb8⟩
      have HL8 := hide (HBx.out.below hb8)
      have HI8 := hide hi8
      have HO8 : Hid (w8.heap[wr.heap.size]? = some (.cells (opc q).toArray 57 (0, 0))) := (hb8.block wr.heap.size (by simp)).trans HOb.out
      have HKb8 : Hid (ext (ext K wr.heap.size (0, 0)) (wr.alloc (.cells (opc q).toArray 57)).heap.size (0, 0) wr.heap.size = (0, 0)) := (ext_old _ _ (by simp)).trans HKb.out
      change Hid (Lq W w8 (ext (ext K wr.heap.size (0, 0)) (wr.alloc (.cells (opc q).toArray 57)).heap.size (0, 0)) a b A B kk _ M cap' fp _) at HL8
      change Hid (Im w8 (ext (ext K wr.heap.size (0, 0)) (wr.alloc (.cells (opc q).toArray 57)).heap.size (0, 0)) v8 _) at HI8
      generalize ext (ext K wr.heap.size (0, 0)) (wr.alloc (.cells (opc q).toArray 57)).heap.size (0, 0) = K8 at *
      have hbx8 := lt_of_block HO8.out
      obtain ⟨o0, o1, o2, o3, o4, o5, o6, o7, o8, o9⟩ := opall HO8.out
      obtain ⟨va, vc, rfl, _, _⟩ := HI8.out.form
      have HCl : Hid ((A.crash ps).length ≤ 1099511627776) := by
        show _ ≤ _
        have h1 := left_len HL8.out.ia HL8.out.za ps
        have h2 := HKk.out
        rw [crash_len]
        omega
      clear hi8 hb8 HBx HOb HKb HCr c0 c1 c2 c3 c4 c5 c6 c7 c8 c9 x2 hne hxl
      have HPl := hide (play_any w8 K8 1 a (by omega) A HL8.out.da HL8.out.ia kk HL8.out.za q (HL8.out.lc.ops.ok q hqm) (by have := HKk.out; have := HQ.out.2; omega))
      have HGd := hide (good_play HL8.out.ia HL8.out.za q.x (HL8.out.lc.ops.ok q hqm).by_.small)
      obtain ⟨ev, hev⟩ : ∃ ev, (A.play q.x).1 = ev := ⟨_, rfl⟩
      rw [hev] at HPl
      have HEv := hide hev
      unfold opc at HPl
      clear hev
      go_wp2_with fail
      refine HPl.out.mono ?_
      rintro e w9 ⟨K9, rfl, hd9, hk9⟩
      have HL9 := hide (HL8.out.playedA hd9 HGd.out.inv HGd.out.sz (by omega) hk9)
      have HI9 := hide (HI8.out.kept hk9 (by simp))
      have HO9 : Hid (w9.heap[wr.heap.size]? = some (.cells (opc q).toArray 57 (0, 0))) := (hk9.block wr.heap.size hbx8 (by rw [HKb8.out]; simp)).trans HO8.out
      obtain ⟨p0, p1, p2, p3, p4, p5, p6, p7, p8, p9⟩ := opall HO9.out
      obtain ⟨x0, x1, x2, x3, x4⟩ := blk5 HL9.out.lc.box
      have HKk9 : Hid (kk + q.x.b.length + 1 ≤ (k + 1) * 8194) := by
        show _ ≤ _
        have := HKk.out
        have := HQ.out.2
        omega
      have HKk11 : Hid (kk + q.x.b.length + 1 + q.x.b.length + 1 ≤ (k + 1) * 8194) := by
        show _ ≤ _
        have := HKk.out
        have := HQ.out.2
        omega
      have HUr : Hid (A.used + q.x.b.length ≤ A.room) := by
        show _ ≤ _
        have h1 := HU.out.1
        have h2 := HU.out.2
        have := HQ.out.2
        omega
      have HU9 : Hid ((A.play q.x).2.used ≤ (k + 1) * 4096 ∧ (A.play q.x).2.room = 16777216) := by
        have h1 := play_used HL8.out.ia HL8.out.za q.x (HL8.out.lc.ops.ok q hqm).by_.small HT.out.off HT.out.powA HQ.out.1 HUr.out
        have h2 := HU.out.1
        have h3 := HQ.out.2
        exact ⟨by omega, HGd.out.room.trans HU.out.2⟩
      have HCt := hide (counted_any w9 ev)
      clear hd9 hk9 HL8 HI8 HO8 HKb8 hbx8 o0 o1 o2 o3 o4 o5 o6 o7 o8 o9 HPl HGd HL x0 x1 x3 x4 hg
      by_cases hfull : q.x.kind = 1 ∧ ev = 44
      · obtain ⟨hk1, rfl⟩ := hfull
        have HTf := hide (HT.out.full q.x hk1 HUr.out HEv.out)
        have n1 : ¬ (nn : Int) + 1 < f := by have := HTf.out.1; omega
        have n2 : ¬ t < (nn : Int) + 1 := by have := HTf.out.2.1; omega
        have HTn := hide HTf.out.2.2.1
        have HC9 := hide (Crash_any w9 K9 1 a (A.play q.x).2 HL9.out.da HL9.out.ia _ HL9.out.za (by have := HKk9.out; omega) pp pm pc ps HPm.out (HP.out.below HL9.out.lc.bel) hpl)
        rw [HTf.out.2.2.2.1 ps] at HC9
        rw [hk1] at p0
        rw [show decide (cnt 44 = 1) = true from rfl] at HCt
        go_wp2_with fail
        refine HCt.out.mono ?_
        rintro e w10 ⟨rfl, rfl⟩
        go_wp2_with fail
        refine HC9.out.mono ?_
        rintro e w11 ⟨v11, rfl, hi11, hb11⟩
        have HL11 := hide (HL9.out.below hb11)
        have HIm := hide (image_same w11 _ _ _ (A.crash ps) hi11 (HI9.out.kept (kp_below hb11 (fun _ => False) K9 (0, 0)) (fun h => h)) HCl.out)
        obtain ⟨va11, vc11, rfl, _, _⟩ := hi11.form
        clear hi11 hb11
        go_wp2_with fail
        refine HIm.out.mono ?_
        rintro e w12 ⟨rfl, nq, rfl⟩
        have HLe := hide (HL11.out.drewN nq)
        go_wp2
        go_roundw
        case rel => exact ⟨k + 1, nn + 1, _, _, _, B, by omega, by go_num, by go_num, by omega, HLe, HKk9, HTn, HU9⟩
        case measure => simp [intOf]; omega
      · have HS := hide (HT.out.step hf1 q.x HQ.out.1 (by rw [HEv.out]; exact hfull))
        have HPb := hide (play_any w9 K9 2 b (by omega) B HL9.out.db HL9.out.ib _ HL9.out.zb q (HL9.out.lc.ops.ok q hqm) (by have := HKk11.out; omega))
        have HGb := hide (good_play HL9.out.ib HL9.out.zb q.x (HL9.out.lc.ops.ok q hqm).by_.small)
        rw [HS.out.2.1, HEv.out] at HPb
        have HTn := hide HS.out.2.2
        rw [HEv.out] at HTn
        have hcond := HS.out.1
        rw [HEv.out] at hcond
        have HCd := hide hcond
        unfold opc at HPb
        clear hcond HS
        rcases cnt_or ev with hc | hc
        · have hv0 : ¬ ev = 0 := by rintro rfl; cases hc
          have hv4 : ¬ ev = 44 := by rintro rfl; cases hc
          have hv0' : ¬ (ev : Int) = 0 := by omega
          have hv4' : ¬ (ev : Int) = 44 := by omega
          rw [hc] at HCt HTn
          rw [show decide ((0 : Nat) = 1) = false from rfl] at HCt
          clear hc hfull
          by_cases hk1 : q.x.kind = 1
          · rw [hk1] at p0 HPb
            go_wp2_with fail
            refine HCt.out.mono ?_
            rintro e w10 ⟨rfl, rfl⟩
            go_wp2_with fail
            refine HPb.out.mono ?_
            rintro e w11 ⟨K11, rfl, hd11, hk11⟩
            have HLe := hide (HL9.out.playedB hd11 HGb.out.inv HGb.out.sz (by omega) hk11)
            go_wp2
            go_roundw
            case rel => exact ⟨k + 1, nn, _, _, _, _, by omega, by go_num, by go_num, by omega, HLe, HKk11, HTn, HU9⟩
            case measure => simp [intOf]; omega
          · have hk1m := hk1
            go_wp2_with fail
            refine HCt.out.mono ?_
            rintro e w10 ⟨rfl, rfl⟩
            go_wp2_with fail
            refine HPb.out.mono ?_
            rintro e w11 ⟨K11, rfl, hd11, hk11⟩
            have HLe := hide (HL9.out.playedB hd11 HGb.out.inv HGb.out.sz (by omega) hk11)
            go_wp2
            go_roundw
            case rel => exact ⟨k + 1, nn, _, _, _, _, by omega, by go_num, by go_num, by omega, HLe, HKk11, HTn, HU9⟩
            case measure => simp [intOf]; omega
        · rw [hc] at HCt HTn
          rw [show decide ((1 : Nat) = 1) = true from rfl] at HCt
          clear hc
          by_cases hk1 : q.x.kind = 1
          · have hv4 : ¬ ev = 44 := fun e => hfull ⟨hk1, e⟩
            have hv4' : ¬ (ev : Int) = 44 := by omega
            clear hfull
            by_cases hv0 : ev = 0
            · subst hv0
              have hcd := HCd.out hk1 rfl
              by_cases hge : f ≤ (nn : Int) + 1
              · have hle : ¬ (nn : Int) + 1 ≤ t := by intro e; apply hcd; constructor <;> omega
                clear hcd
                rw [hk1] at p0 HPb
                go_wp2_with fail
                refine HCt.out.mono ?_
                rintro e w10 ⟨rfl, rfl⟩
                go_wp2_with fail
                refine HPb.out.mono ?_
                rintro e w11 ⟨K11, rfl, hd11, hk11⟩
                have HLe := hide (HL9.out.playedB hd11 HGb.out.inv HGb.out.sz (by omega) hk11)
                go_wp2
                go_roundw
                case rel => exact ⟨k + 1, nn + 1, _, _, _, _, by omega, by go_num, by go_num, by omega, HLe, HKk11, HTn, HU9⟩
                case measure => simp [intOf]; omega
              · clear hcd
                rw [hk1] at p0 HPb
                go_wp2_with fail
                refine HCt.out.mono ?_
                rintro e w10 ⟨rfl, rfl⟩
                go_wp2_with fail
                refine HPb.out.mono ?_
                rintro e w11 ⟨K11, rfl, hd11, hk11⟩
                have HLe := hide (HL9.out.playedB hd11 HGb.out.inv HGb.out.sz (by omega) hk11)
                go_wp2
                go_roundw
                case rel => exact ⟨k + 1, nn + 1, _, _, _, _, by omega, by go_num, by go_num, by omega, HLe, HKk11, HTn, HU9⟩
                case measure => simp [intOf]; omega
            · have hv0' : ¬ (ev : Int) = 0 := by omega
              rw [hk1] at p0 HPb
              go_wp2_with fail
              refine HCt.out.mono ?_
              rintro e w10 ⟨rfl, rfl⟩
              go_wp2_with fail
              refine HPb.out.mono ?_
              rintro e w11 ⟨K11, rfl, hd11, hk11⟩
              have HLe := hide (HL9.out.playedB hd11 HGb.out.inv HGb.out.sz (by omega) hk11)
              go_wp2
              go_roundw
              case rel => exact ⟨k + 1, nn + 1, _, _, _, _, by omega, by go_num, by go_num, by omega, HLe, HKk11, HTn, HU9⟩
              case measure => simp [intOf]; omega
          · clear hfull
            have hk1m := hk1
            go_wp2_with fail
            refine HCt.out.mono ?_
            rintro e w10 ⟨rfl, rfl⟩
            go_wp2_with fail
            refine HPb.out.mono ?_
            rintro e w11 ⟨K11, rfl, hd11, hk11⟩
            have HLe := hide (HL9.out.playedB hd11 HGb.out.inv HGb.out.sz (by omega) hk11)
            go_wp2
            go_roundw
            case rel => exact ⟨k + 1, nn + 1, _, _, _, _, by omega, by go_num, by go_num, by omega, HLe, HKk11, HTn, HU9⟩
            case measure => simp [intOf]; omega
    · obtain rfl : k = M := by omega
      have HLd := hide (HL.out.drew)
      have HSa := hide (seen_any wr.drew K 1 a A HLd.out.da HLd.out.ia kk HLd.out.za (by have := HKk.out; omega))
      have HIg : Hid (B.image = A.image) := HT.out.image
      have HCe : Hid (B.crash ps = A.crash ps) := HT.out.crash ps
      have HSt : Hid (A.strokes = nn) := HT.out.st
      have HIl : Hid (A.image.length ≤ 1099511627776) := hide (Nat.le_trans (image_len HL.out.ia) (by omega))
      have HCl : Hid ((A.crash ps).length ≤ 1099511627776) := by
        show _ ≤ _
        have h1 := left_len HL.out.ia HL.out.za ps
        have h2 := HKk.out
        rw [crash_len]
        omega
      have HKl : Hid (kk ≤ 274877906944) := by have := HKk.out; show _ ≤ _; omega
      obtain ⟨x0, x1, x2, x3, x4⟩ := blk5 HL.out.lc.box
      clear x0 x1 x3 x4
      go_wp2
      go_region_held3 (fun w' => w'.cell? ⟨W.heap.size, 2, none⟩ = some (.slice pp pm pc)) (go_keep) (first | (go_at_call 14; refine HSr.out.mono ?_; rintro e w14 ⟨rfl, rfl⟩) | (go_at_call 20; refine HIn.out.mono ?_; rintro e w13 ⟨rfl, nr, rfl⟩; have HL13 := hide (HL12.out.drewN nr); have hc13 : (w12.drewN nr).cell? ⟨W.heap.size, 2, none⟩ = some (.slice pp pm pc) := (blk5 HL13.out.lc.box).2.2.1; have HSr := hide (Strokes_any _ _ 1 a A HL13.out.da); rw [HSt.out] at HSr) | (go_at_call 21; refine HCb.out.mono ?_; rintro e w12 ⟨v12, rfl, hi12, hb12⟩; have HL12 := hide (HL11.out.below hb12); have HIn := hide (image_same w12 _ _ _ (A.crash ps) (HI11.out.kept (kp_below hb12 (fun _ => False) _ (0, 0)) (fun h => h)) hi12 HCl.out); obtain ⟨a12, c12, hv12, _, _⟩ := hi12.form; subst hv12; have hc12 : w12.cell? ⟨W.heap.size, 2, none⟩ = some (.slice pp pm pc) := (blk5 HL12.out.lc.box).2.2.1; clear hi12 hb12) | (go_at_call 21; refine HCa.out.mono ?_; rintro e w11 ⟨v11, rfl, hi11, hb11⟩; have HL11 := hide (HL10.out.below hb11); have HI11 := hide hi11; obtain ⟨a11, c11, hv11, _, _⟩ := hi11.form; subst hv11; have hc11 : w11.cell? ⟨W.heap.size, 2, none⟩ = some (.slice pp pm pc) := (blk5 HL11.out.lc.box).2.2.1; have HCb := hide (Crash_any w11 _ 2 b B HL11.out.db HL11.out.ib kk HL11.out.zb HKl.out pp pm pc ps HPm.out (HP.out.below HL11.out.lc.bel) hpl); rw [HCe.out] at HCb; clear hi11 hb11) | (go_at_call 20; refine HIm.out.mono ?_; rintro e w10 ⟨rfl, nq, rfl⟩; have HL10 := hide (HL9.out.drewN nq); have hc10 : (w9.drewN nq).cell? ⟨W.heap.size, 2, none⟩ = some (.slice pp pm pc) := (blk5 HL10.out.lc.box).2.2.1; have HCa := hide (Crash_any _ _ 1 a A HL10.out.da HL10.out.ia kk HL10.out.za HKl.out pp pm pc ps HPm.out (HP.out.below HL10.out.lc.bel) hpl)) | (go_at_call 26; refine HSb.out.mono ?_; rintro e w9 ⟨v9, rfl, hi9, hb9⟩; have HL9 := hide (HL8.out.below hb9); have HIm := hide (image_same w9 _ _ _ A.image (HI8.out.kept (kp_below hb9 (fun _ => False) _ (0, 0)) (fun h => h)) hi9 HIl.out); obtain ⟨a9, c9, hv9, _, _⟩ := hi9.form; subst hv9; have hc9 : w9.cell? ⟨W.heap.size, 2, none⟩ = some (.slice pp pm pc) := (blk5 HL9.out.lc.box).2.2.1; clear hi9 hb9) | (go_at_call 26; refine HSa.out.mono ?_; rintro e w8 ⟨v8, rfl, hi8, hb8⟩; have HL8 := hide (HLd.out.below hb8); have HI8 := hide hi8; obtain ⟨a8, c8, hv8, _, _⟩ := hi8.form; subst hv8; have hc8 : w8.cell? ⟨W.heap.size, 2, none⟩ = some (.slice pp pm pc) := (blk5 HL8.out.lc.box).2.2.1; have HSb := hide (seen_any w8 _ 2 b B HL8.out.db HL8.out.ib kk HL8.out.zb (by have := HKl.out; omega)); rw [HIg.out] at HSb; clear hi8 hb8))
      all_goals go_wp2
      all_goals go_ret
      all_goals exact ⟨rfl, HL13.out.lc.bel⟩

end Go.Proofs.Ytlpafgjgoheomaa
