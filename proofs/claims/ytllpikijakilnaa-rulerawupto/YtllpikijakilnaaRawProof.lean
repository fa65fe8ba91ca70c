import Derived.Test.YtllpikijakilnaaLzA
import Derived.Test.YtllpikijakilnaaWkF
import Derived.Lib.QuietBelow
import Derived.Lib.SmallJoins
import Derived.Test.YtllpikijakilnaaRows
import Derived.ProofKit
import Derived.SizedLaws
namespace Go.Proofs.Ytllpikijakilnaa
open Go.RowKit Go.Sort
open Z (Sli SlOk Acd AcdOk AcLent)

set_option maxRecDepth 100000 in
set_option maxHeartbeats 8000000 in
theorem raw_all (w : World) (S : Sli Sta) (A : Sli Acd) (t : Int) (hS : SlOk w 6 (fun s : Sta => s.arr.toList) S) (hSv : ∀ x ∈ S.xs, Z.StIn w x) (hA : SlOk w 15 Acd.list A) (hAv : ∀ x ∈ A.xs, Z.AcdIn w x) :
    Calls Try.prog 3 #[.agg (Z.rawA S A t)] w fun e w' => e = .returned (.bool true) ∧ Below w.heap.size w w' := by
  obtain ⟨w1, hw1, hb1, hx1⟩ := box_one w (Z.rawA S A t) 25
  have HSo := hide hS
  have HAo := hide hA
  have HSv := hide hSv
  have HAv := hide hAv
  have HP0 : Hid (∀ W, Below w1.heap.size w1 W → W.cell? ⟨w.heap.size, 0, none⟩ = some (.slice S.p S.n S.c) ∧ W.cell? ⟨w.heap.size, 1, none⟩ = some (.slice A.p A.n A.c) ∧ W.cell? ⟨w.heap.size, 2, none⟩ = some (.int .i64 t)) := fun W hb => by
    have h := (hb.block _ (ac_lt hx1)).trans hx1
    exact ⟨cell_of_row _ _ 0 _ _ _ h, cell_of_row _ _ 1 _ _ _ h, cell_of_row _ _ 2 _ _ _ h⟩
  have HW1 := hide hw1
  have HB1 := hide hb1
  have hmS := hS.most
  have hmA := hA.most
  obtain ⟨p0, p1, p2⟩ := HP0.out w1 (Below.refl _ _)
  clear hS hA hSv hAv hw1 hb1 hx1
  go_enter Try.func3, Try.ntmps3
  go_upto_region 1 with (fail)
  rw [HW1.out]
  go_wp2
  go_loopw [3] (fun i wr => ∃ j : Nat, j ≤ S.n ∧ i = .int .i64 j ∧ Hid (Below w1.heap.size w1 wr)) (fun i _ => S.n - (intOf i).toNat)
  case atStart => exact ⟨0, Nat.zero_le _, rfl, Below.refl _ _⟩
  case round =>
    obtain ⟨j, hj, rfl, HB⟩ := hrel
    clear p0 p1 p2
    obtain ⟨p0, p1, p2⟩ := HP0.out wr HB.out
    by_cases hjn : j < S.n
    · have e0 : (j : Int) < (S.n : Int) := by omega
      by_cases hj20 : j < 20
      · have e1 : (j : Int) < 20 := by omega
        go_wp2
        go_loopw [4] (fun i wr => ∃ q : Nat, q ≤ A.n ∧ i = .int .i64 q ∧ Hid (Below w1.heap.size w1 wr)) (fun i _ => A.n - (intOf i).toNat)
        case atStart => exact ⟨0, Nat.zero_le _, rfl, HB⟩
        case round =>
          clear HB p0 p1 p2
          obtain ⟨q, hq, rfl, HB⟩ := hrel
          obtain ⟨p0, p1, p2⟩ := HP0.out wr HB.out
          by_cases hqm : q < A.n
          · have e2 : (q : Int) < (A.n : Int) := by omega
            by_cases hq20 : q < 20
            · have e3 : (q : Int) < 20 := by omega
              obtain ⟨x, hx⟩ : ∃ x, S.xs[j]? = some x := ⟨_, List.getElem?_eq_getElem (by rw [HSo.out.len]; exact hjn)⟩
              obtain ⟨y, hy⟩ : ∃ y, A.xs[q]? = some y := ⟨_, List.getElem?_eq_getElem (by rw [HAo.out.len]; exact hqm)⟩
              obtain ⟨bS, oS, eS, hbS, hcS⟩ := HSo.out.cel.get (i := j) (r := x.arr.toList) (by simp [hx])
              obtain ⟨bA, oA, eA, hbA, hcA⟩ := HAo.out.cel.get (i := q) (r := y.list) (by simp [hy])
              have HxI := hide (HSv.out x (List.mem_of_getElem? hx))
              have HyI := hide (HAv.out y (List.mem_of_getElem? hy))
              have HB0 : Hid (Below w.heap.size w wr) := HB1.out.trans (HB.out.mono HB1.out.size)
              have HcS : Hid (∀ W, Below w.heap.size w W → W.cell? ⟨bS, oS + j * 6, none⟩ = some (.int .u64 x.pos) ∧ W.cell? ⟨bS, oS + j * 6 + 1, none⟩ = some (.slice x.pp x.pn x.pc) ∧ W.cell? ⟨bS, oS + j * 6 + 2, none⟩ = some (.slice x.rp x.rn x.rc) ∧ W.cell? ⟨bS, oS + j * 6 + 3, none⟩ = some (.slice x.lp x.ln x.lc) ∧ W.cell? ⟨bS, oS + j * 6 + 4, none⟩ = some (.slice x.gp x.gn x.gc) ∧ W.cell? ⟨bS, oS + j * 6 + 5, none⟩ = some (.slice x.op x.on x.oc)) := fun W hb => by
                have f : ∀ i v, x.arr.toList[i]? = some v → W.cell? ⟨bS, oS + j * 6 + i, none⟩ = some v := fun i v hv => (hb.cell (p := ⟨bS, oS + j * 6 + i, none⟩) hbS).trans (hcS i v hv)
                exact ⟨f 0 _ rfl, f 1 _ rfl, f 2 _ rfl, f 3 _ rfl, f 4 _ rfl, f 5 _ rfl⟩
              have HcA : Hid (∀ W, Below w.heap.size w W → (∀ (i : Nat) (v : Value), y.list[i]? = some v → W.cell? ⟨bA, oA + q * 15 + i, none⟩ = some v) ∧ W.cell? ⟨bA, oA + q * 15, none⟩ = some (.int .i64 y.till) ∧ W.cell? ⟨bA, oA + q * 15 + 1, none⟩ = some (.int .u64 y.num) ∧ W.cell? ⟨bA, oA + q * 15 + 2, none⟩ = some (.int .i64 y.kind) ∧ W.cell? ⟨bA, oA + q * 15 + 3, none⟩ = some (.bool y.sure) ∧ W.cell? ⟨bA, oA + q * 15 + 4, none⟩ = some (.slice y.lines.p y.lines.n y.lines.c) ∧ W.cell? ⟨bA, oA + q * 15 + 5, none⟩ = some (.slice y.guards.p y.guards.n y.guards.c) ∧ W.cell? ⟨bA, oA + q * 15 + 6, none⟩ = some (.slice y.sets.p y.sets.n y.sets.c) ∧ W.cell? ⟨bA, oA + q * 15 + 7, none⟩ = some (.int .i64 y.mg) ∧ W.cell? ⟨bA, oA + q * 15 + 8, none⟩ = some (.slice y.other.p y.other.n y.other.c) ∧ W.cell? ⟨bA, oA + q * 15 + 9, none⟩ = some (.int .i64 y.ra) ∧ W.cell? ⟨bA, oA + q * 15 + 10, none⟩ = some (.int .i64 y.rb) ∧ W.cell? ⟨bA, oA + q * 15 + 11, none⟩ = some (.int .i64 y.rd) ∧ W.cell? ⟨bA, oA + q * 15 + 12, none⟩ = some (.int .i64 y.to) ∧ W.cell? ⟨bA, oA + q * 15 + 13, none⟩ = some (.int .u64 y.gen) ∧ W.cell? ⟨bA, oA + q * 15 + 14, none⟩ = some (.slice y.rights.p y.rights.n y.rights.c)) := fun W hb => by
                have f : ∀ (i : Nat) (v : Value), y.list[i]? = some v → W.cell? ⟨bA, oA + q * 15 + i, none⟩ = some v := fun i v hv => (hb.cell (p := ⟨bA, oA + q * 15 + i, none⟩) hbA).trans (hcA i v hv)
                exact ⟨f, f 0 _ rfl, f 1 _ rfl, f 2 _ rfl, f 3 _ rfl, f 4 _ rfl, f 5 _ rfl, f 6 _ rfl, f 7 _ rfl, f 8 _ rfl, f 9 _ rfl, f 10 _ rfl, f 11 _ rfl, f 12 _ rfl, f 13 _ rfl, f 14 _ rfl⟩
              obtain ⟨n, hn⟩ : ∃ n, S.n = n := ⟨_, rfl⟩
              obtain ⟨m, hm⟩ : ∃ m, A.n = m := ⟨_, rfl⟩
              have HP : Hid (∀ W, Below w1.heap.size w1 W → W.cell? ⟨w.heap.size, 0, none⟩ = some (.slice (some ⟨bS, oS, none⟩) n S.c) ∧ W.cell? ⟨w.heap.size, 1, none⟩ = some (.slice (some ⟨bA, oA, none⟩) m A.c) ∧ W.cell? ⟨w.heap.size, 2, none⟩ = some (.int .i64 t)) := fun W hb => by have h := HP0.out W hb; rw [eS, eA, hn, hm] at h; exact h
              have jn : (j : Int) < (n : Int) := by omega
              have qm : (q : Int) < (m : Int) := by omega
              have j0 : (0 : Int) ≤ (j : Int) := by omega
              have q0 : (0 : Int) ≤ (q : Int) := by omega
              clear hcS hcA eS eA hx hy hn hm p0 p1 p2
              obtain ⟨p0, p1, p2⟩ := HP.out wr HB.out
              obtain ⟨s0, s1, s2, s3, s4, s5⟩ := HcS.out wr HB0.out
              have HLs := hide (lendState_any wr x (HxI.out.ok.below HB0.out) HxI.out.small)
              go_upto_region 8 with (first | (go_at_call 4; refine HLs.out.mono ?_; rintro e v1 ⟨r, rfl, hl, hb⟩; have HSl := hide hl; have HBv1 := hide hb; clear hl hb) | ((with_reducible show wpList _ _ _ (⟨_, .store 32 (.tmp 5) _, _, _, _, _⟩ :: _) _ _); refine Z.lp_store (t := 32) (x := .tmp 5) (some ⟨v1.heap.size, 0, none⟩) (.agg r.arr) rfl rfl (run_storeAt_new (P := Try.prog) v1 32 #[.int .u64 0, .slice none 0 0, .slice none 0 0, .slice none 0 0, .slice none 0 0, .slice none 0 0] r.arr (by kernel_rfl) rfl (by simp [Sta.arr, Value.oneCell'])) ?_))
              dsimp only [Act.put]
              obtain ⟨w3, hw3⟩ : ∃ w3, v1.alloc (.cells r.arr 32) = w3 := ⟨_, rfl⟩
              rw [hw3]
              have HB3 : Hid (Below v1.heap.size v1 w3) := by show Below _ _ _; rw [← hw3]; exact (Below.refl _ _).alloc (Nat.le_refl _) _
              have HG3 : Hid (w3.heap[v1.heap.size]? = some (.cells r.arr 32 (0, 0))) := by show _ = _; rw [← hw3]; exact heap_alloc_new _ _
              have HBw3 : Hid (Below wr.heap.size wr w3) := HBv1.out.trans (HB3.out.mono HBv1.out.size)
              have HC3 : Hid (Below w.heap.size w w3) := HB0.out.trans (HBw3.out.mono HB0.out.size)
              have HD3 : Hid (Below w1.heap.size w1 w3) := HB.out.trans (HBw3.out.mono HB.out.size)
              clear hw3 p0 p1 p2 s0 s1 s2 s3 s4 s5
              obtain ⟨p0, p1, p2⟩ := HP.out w3 HD3.out
              have HLd : Hid ((Instr.loadAt 45 (.pointer (some ⟨bA, oA + q * 15, none⟩))).run Try.prog w3 = .ok (.agg y.arr) w3) := run_loadAt_mid (P := Try.prog) w3 bA (oA + q * 15) 45 y.list _ (fun i v hv => (HcA.out w3 HC3.out).1 i v hv) Try.underlying45 rfl (by kernel_rfl)
              have HLa := hide (Z.lendAct_any w3 y (HyI.out.ok.below HC3.out) y.arr rfl)
              go_upto_region 9 with (first | (go_at_call 5; refine HLa.out.mono ?_; rintro e v2 ⟨y2, rfl, hd, hl, hb⟩; have HAl := hide hl; have HAd := hide hd; have HBv2 := hide hb; clear hl hb hd) | ((with_reducible show wpList _ _ _ (⟨_, .load 45 (.tmp 38), _, _, _, _⟩ :: _) _ _); refine Z.lp_load bA (oA + q * 15) y.arr rfl HLd.out ?_) | ((with_reducible show wpList _ _ _ (⟨_, .store 45 (.tmp 6) _, _, _, _, _⟩ :: _) _ _); refine Z.lp_store (t := 45) (x := .tmp 6) (some ⟨v2.heap.size, 0, none⟩) (.agg y2.arr) rfl rfl (run_storeAt_new (P := Try.prog) v2 45 #[.int .i64 0, .int .u64 0, .int .i64 0, .bool false, .slice none 0 0, .slice none 0 0, .slice none 0 0, .int .i64 0, .slice none 0 0, .int .i64 0, .int .i64 0, .int .i64 0, .int .i64 0, .int .u64 0, .slice none 0 0] y2.arr (by kernel_rfl) rfl y2.ones) ?_))
              dsimp only [Act.put]
              obtain ⟨w5, hw5⟩ : ∃ w5, v2.alloc (.cells y2.arr 45) = w5 := ⟨_, rfl⟩
              rw [hw5]
              have HB5 : Hid (Below v2.heap.size v2 w5) := by show Below _ _ _; rw [← hw5]; exact (Below.refl _ _).alloc (Nat.le_refl _) _
              have HG5 : Hid (w5.heap[v2.heap.size]? = some (.cells y2.arr 45 (0, 0))) := by show _ = _; rw [← hw5]; exact heap_alloc_new _ _
              have HBv3 : Hid (Below w3.heap.size w3 w5) := HBv2.out.trans (HB5.out.mono HBv2.out.size)
              have HC5 : Hid (Below w.heap.size w w5) := HC3.out.trans (HBv3.out.mono HC3.out.size)
              have HD5 : Hid (Below w1.heap.size w1 w5) := HD3.out.trans (HBv3.out.mono HD3.out.size)
              have HSs : Hid (w5.heap[v1.heap.size]? = some (.cells r.arr 32 (0, 0))) := (HBv3.out.block _ (ac_lt HG3.out)).trans HG3.out
              have HVs : Hid (Below v1.heap.size v1 w5) := HB3.out.trans (HBv3.out.mono HB3.out.size)
              have HR5 : Hid (Below w5.heap.size w5 w5) := Below.refl _ _
              have hbk := HSl.out.bk (HxI.out.ok)
              have HK5 : Hid (∀ W, Below w5.heap.size w5 W → StaBk W x r) := fun W hb => (hbk.1.below HVs.out).below hb
              have HS5 : Hid (∀ W, Below w5.heap.size w5 W → StaOk W r) := fun W hb => (hbk.2.below HVs.out).below hb
              have HA5 : Hid (∀ W, Below w5.heap.size w5 W → AcdOk W y2) := fun W hb => ((lent_acd HAl.out HyI.out.ok HAd.out).below HB5.out).below hb
              have HWf := hide (lent_wf HyI.out HAd.out)
              obtain ⟨gs, hgs⟩ : ∃ g, v1.heap.size = g := ⟨_, rfl⟩
              obtain ⟨ga, hga⟩ : ∃ g, v2.heap.size = g := ⟨_, rfl⟩
              rw [hgs] at HSs
              rw [hga] at HG5
              have HX5 : Hid (∀ W, Below w5.heap.size w5 W → (W.cell? ⟨w.heap.size, 0, none⟩ = some (.slice (some ⟨bS, oS, none⟩) n S.c) ∧ W.cell? ⟨w.heap.size, 1, none⟩ = some (.slice (some ⟨bA, oA, none⟩) m A.c) ∧ W.cell? ⟨w.heap.size, 2, none⟩ = some (.int .i64 t)) ∧ (W.cell? ⟨gs, 0, none⟩ = some (.int .u64 r.pos) ∧ W.cell? ⟨gs, 1, none⟩ = some (.slice r.pp r.pn r.pc) ∧ W.cell? ⟨gs, 2, none⟩ = some (.slice r.rp r.rn r.rc) ∧ W.cell? ⟨gs, 3, none⟩ = some (.slice r.lp r.ln r.lc) ∧ W.cell? ⟨gs, 4, none⟩ = some (.slice r.gp r.gn r.gc) ∧ W.cell? ⟨gs, 5, none⟩ = some (.slice r.op r.on r.oc)) ∧ W.cell? ⟨ga, 0, none⟩ = some (.int .i64 y2.till) ∧ W.cell? ⟨ga, 1, none⟩ = some (.int .u64 y2.num) ∧ W.cell? ⟨ga, 2, none⟩ = some (.int .i64 y2.kind) ∧ W.cell? ⟨ga, 3, none⟩ = some (.bool y2.sure) ∧ W.cell? ⟨ga, 4, none⟩ = some (.slice y2.lines.p y2.lines.n y2.lines.c) ∧ W.cell? ⟨ga, 5, none⟩ = some (.slice y2.guards.p y2.guards.n y2.guards.c) ∧ W.cell? ⟨ga, 6, none⟩ = some (.slice y2.sets.p y2.sets.n y2.sets.c) ∧ W.cell? ⟨ga, 7, none⟩ = some (.int .i64 y2.mg) ∧ W.cell? ⟨ga, 8, none⟩ = some (.slice y2.other.p y2.other.n y2.other.c) ∧ W.cell? ⟨ga, 9, none⟩ = some (.int .i64 y2.ra) ∧ W.cell? ⟨ga, 10, none⟩ = some (.int .i64 y2.rb) ∧ W.cell? ⟨ga, 11, none⟩ = some (.int .i64 y2.rd) ∧ W.cell? ⟨ga, 12, none⟩ = some (.int .i64 y2.to) ∧ W.cell? ⟨ga, 13, none⟩ = some (.int .u64 y2.gen) ∧ W.cell? ⟨ga, 14, none⟩ = some (.slice y2.rights.p y2.rights.n y2.rights.c)) := fun W hb => ⟨HP.out W (HD5.out.trans (hb.mono HD5.out.size)), ac6 ((hb.block _ (ac_lt HSs.out)).trans HSs.out), ac15 ((hb.block _ (ac_lt HG5.out)).trans HG5.out)⟩
              have HcN : Hid (∀ W, Below w5.heap.size w5 W → Calls Try.prog 6 #[.slice y2.lines.p y2.lines.n y2.lines.c] W fun e w' => ∃ v, e = .returned v ∧ Below w5.heap.size w5 w') := fun W hb => (needs_any W y2.lines.p y2.lines.n y2.lines.c y2.lines.xs (HA5.out W hb).lines.len (by have := (HA5.out W hb).lines.most; omega) HWf.out.lines (cel_lins (HA5.out W hb).lines.cel)).mono fun _ _ ⟨v, he, _, h⟩ => ⟨v, he, hb.trans (h.mono hb.size)⟩
              have HcF : Hid (∀ W, Below w5.heap.size w5 W → Calls Try.prog 7 #[.agg r.arr, .slice y2.lines.p y2.lines.n y2.lines.c] W fun e w' => ∃ v, e = .returned v ∧ Below w5.heap.size w5 w') := fun W hb => (free_all W r (HS5.out W hb) y2.lines.p y2.lines.n y2.lines.c y2.lines.xs (HA5.out W hb).lines.len (by have := (HA5.out W hb).lines.most; omega) HWf.out.lines (HA5.out W hb).lines.cel).mono fun _ _ ⟨he, h⟩ => ⟨_, he, hb.trans (h.mono hb.size)⟩
              have HcH : Hid (∀ W, Below w5.heap.size w5 W → Calls Try.prog 8 #[.agg r.arr, .int .i64 t, .slice y2.lines.p y2.lines.n y2.lines.c] W fun e w' => ∃ v, e = .returned v ∧ Below w5.heap.size w5 w') := fun W hb => (holds_all W r (HS5.out W hb) t y2.lines.p y2.lines.n y2.lines.c y2.lines.xs (HA5.out W hb).lines.len (by have := (HA5.out W hb).lines.most; omega) HWf.out.lines (HA5.out W hb).lines.cel).mono fun _ _ ⟨he, h⟩ => ⟨_, he, hb.trans (h.mono hb.size)⟩
              have HcI : Hid (∀ W, Below w5.heap.size w5 W → Calls Try.prog 8 #[.agg r.arr, .int .i64 y2.till, .slice y2.other.p y2.other.n y2.other.c] W fun e w' => ∃ v, e = .returned v ∧ Below w5.heap.size w5 w') := fun W hb => (holds_all W r (HS5.out W hb) y2.till y2.other.p y2.other.n y2.other.c y2.other.xs (HA5.out W hb).other.len (by have := (HA5.out W hb).other.most; omega) HWf.out.other (HA5.out W hb).other.cel).mono fun _ _ ⟨he, h⟩ => ⟨_, he, hb.trans (h.mono hb.size)⟩
              have HcG : Hid (∀ W, Below w5.heap.size w5 W → Calls Try.prog 9 #[.agg r.arr, .slice y2.guards.p y2.guards.n y2.guards.c] W fun e w' => ∃ v, e = .returned v ∧ Below w5.heap.size w5 w') := fun W hb => (guarded_gen W r (HS5.out W hb) y2.guards.p y2.guards.n y2.guards.c y2.guards.xs (HA5.out W hb).guards.len (by have := (HA5.out W hb).guards.most; omega) (HA5.out W hb).guards.cel).mono fun _ _ ⟨he, h⟩ => ⟨_, he, hb.trans (h.mono hb.size)⟩
              have HcO : Hid (∀ W, Below w5.heap.size w5 W → Calls Try.prog 10 #[.agg r.arr, .slice y2.sets.p y2.sets.n y2.sets.c] W fun e w' => ∃ v, e = .returned v ∧ Below w5.heap.size w5 w') := fun W hb => (open_gen W r (HS5.out W hb) y2.sets.p y2.sets.n y2.sets.c y2.sets.xs (HA5.out W hb).sets.len (by have := (HA5.out W hb).sets.most; omega) (HA5.out W hb).sets.cel).mono fun _ _ ⟨he, h⟩ => ⟨_, he, hb.trans (h.mono hb.size)⟩
              have HcJ : Hid (∀ W, Below w5.heap.size w5 W → Calls Try.prog 11 #[.agg r.arr, .agg y2.arr] W fun e w' => ∃ v, e = .returned v ∧ Below w5.heap.size w5 w') := fun W hb => (judge_any W r (HS5.out W hb) y2 (HA5.out W hb) HWf.out).mono fun _ _ ⟨v, u, he, _, h⟩ => ⟨_, he, hb.trans (h.mono hb.size)⟩
              have HBs : Hid (∀ W, Below w5.heap.size w5 W → Calls Try.prog 12 #[.agg r.arr, .agg x.arr] W fun e w' => e = .returned (.bool true) ∧ Below W.heap.size W w') := fun W hb => backState_v W x r (HxI.out.ok.below (HC5.out.trans (hb.mono HC5.out.size))) HxI.out.small (HK5.out W hb)
              have HBa : Hid (∀ W, Below w5.heap.size w5 W → Calls Try.prog 13 #[.agg y2.arr, .agg y.arr] W fun e w' => e = .returned (.bool true) ∧ Below W.heap.size W w') := fun W hb => Z.backAct_any W w3.heap.size y2 y ((HAl.out.below HB5.out).below hb) (HyI.out.ok.below (HC5.out.trans (hb.mono HC5.out.size))) HAd.out y2.arr y.arr rfl rfl
              clear hw5 hbk p0 p1 p2
              obtain ⟨⟨p0, p1, p2⟩, ⟨s0, s1, s2, s3, s4, s5⟩, a0, a1, a2, a3, a4, a5, a6, a7, a8, a9, a10, a11, a12, a13, a14⟩ := HX5.out w5 HR5.out
              rw [hgs, hga]
              clear hgs hga
              go_upto_region 16 with (first | (go_at_call 11; refine (HcJ.out _ Hu6.out).mono ?_; rintro e u7 ⟨vu7, rfl, hbu7⟩; have Hu7 := hide hbu7; clear hbu7; clear p0 p1 p2 s0 s1 s2 s3 s4 s5 a0 a1 a2 a3 a4 a5 a6 a7 a8 a9 a10 a11 a12 a13 a14; obtain ⟨⟨p0, p1, p2⟩, ⟨s0, s1, s2, s3, s4, s5⟩, a0, a1, a2, a3, a4, a5, a6, a7, a8, a9, a10, a11, a12, a13, a14⟩ := HX5.out u7 Hu7.out) | (go_at_call 10; refine (HcO.out _ Hu5.out).mono ?_; rintro e u6 ⟨vu6, rfl, hbu6⟩; have Hu6 := hide hbu6; clear hbu6; clear p0 p1 p2 s0 s1 s2 s3 s4 s5 a0 a1 a2 a3 a4 a5 a6 a7 a8 a9 a10 a11 a12 a13 a14; obtain ⟨⟨p0, p1, p2⟩, ⟨s0, s1, s2, s3, s4, s5⟩, a0, a1, a2, a3, a4, a5, a6, a7, a8, a9, a10, a11, a12, a13, a14⟩ := HX5.out u6 Hu6.out) | (go_at_call 9; refine (HcG.out _ Hu4.out).mono ?_; rintro e u5 ⟨vu5, rfl, hbu5⟩; have Hu5 := hide hbu5; clear hbu5; clear p0 p1 p2 s0 s1 s2 s3 s4 s5 a0 a1 a2 a3 a4 a5 a6 a7 a8 a9 a10 a11 a12 a13 a14; obtain ⟨⟨p0, p1, p2⟩, ⟨s0, s1, s2, s3, s4, s5⟩, a0, a1, a2, a3, a4, a5, a6, a7, a8, a9, a10, a11, a12, a13, a14⟩ := HX5.out u5 Hu5.out) | (go_at_call 8; refine (HcI.out _ Hu3.out).mono ?_; rintro e u4 ⟨vu4, rfl, hbu4⟩; have Hu4 := hide hbu4; clear hbu4; clear p0 p1 p2 s0 s1 s2 s3 s4 s5 a0 a1 a2 a3 a4 a5 a6 a7 a8 a9 a10 a11 a12 a13 a14; obtain ⟨⟨p0, p1, p2⟩, ⟨s0, s1, s2, s3, s4, s5⟩, a0, a1, a2, a3, a4, a5, a6, a7, a8, a9, a10, a11, a12, a13, a14⟩ := HX5.out u4 Hu4.out) | (go_at_call 8; refine (HcH.out _ Hu2.out).mono ?_; rintro e u3 ⟨vu3, rfl, hbu3⟩; have Hu3 := hide hbu3; clear hbu3; clear p0 p1 p2 s0 s1 s2 s3 s4 s5 a0 a1 a2 a3 a4 a5 a6 a7 a8 a9 a10 a11 a12 a13 a14; obtain ⟨⟨p0, p1, p2⟩, ⟨s0, s1, s2, s3, s4, s5⟩, a0, a1, a2, a3, a4, a5, a6, a7, a8, a9, a10, a11, a12, a13, a14⟩ := HX5.out u3 Hu3.out) | (go_at_call 7; refine (HcF.out _ Hu1.out).mono ?_; rintro e u2 ⟨vu2, rfl, hbu2⟩; have Hu2 := hide hbu2; clear hbu2; clear p0 p1 p2 s0 s1 s2 s3 s4 s5 a0 a1 a2 a3 a4 a5 a6 a7 a8 a9 a10 a11 a12 a13 a14; obtain ⟨⟨p0, p1, p2⟩, ⟨s0, s1, s2, s3, s4, s5⟩, a0, a1, a2, a3, a4, a5, a6, a7, a8, a9, a10, a11, a12, a13, a14⟩ := HX5.out u2 Hu2.out) | (go_at_call 6; refine (HcN.out _ HR5.out).mono ?_; rintro e u1 ⟨vu1, rfl, hbu1⟩; have Hu1 := hide hbu1; clear hbu1; clear p0 p1 p2 s0 s1 s2 s3 s4 s5 a0 a1 a2 a3 a4 a5 a6 a7 a8 a9 a10 a11 a12 a13 a14; obtain ⟨⟨p0, p1, p2⟩, ⟨s0, s1, s2, s3, s4, s5⟩, a0, a1, a2, a3, a4, a5, a6, a7, a8, a9, a10, a11, a12, a13, a14⟩ := HX5.out u1 Hu1.out))
              have HC9 : Hid (Below w.heap.size w u7) := HC5.out.trans (Hu7.out.mono HC5.out.size)
              obtain ⟨t0, t1, t2, t3, t4, t5⟩ := HcS.out u7 HC9.out
              obtain ⟨_, b0, b1, b2, b3, b4, b5, b6, b7, b8, b9, b10, b11, b12, b13, b14⟩ := HcA.out u7 HC9.out
              have rp0 := cell_regrown p0
              have rp1 := cell_regrown p1
              have rs0 := cell_regrown s0
              have rs1 := cell_regrown s1
              have rs2 := cell_regrown s2
              have rs3 := cell_regrown s3
              have rs4 := cell_regrown s4
              have rs5 := cell_regrown s5
              have ra0 := cell_regrown a0
              have ra1 := cell_regrown a1
              have ra2 := cell_regrown a2
              have ra3 := cell_regrown a3
              have ra4 := cell_regrown a4
              have ra5 := cell_regrown a5
              have ra6 := cell_regrown a6
              have ra7 := cell_regrown a7
              have ra8 := cell_regrown a8
              have ra9 := cell_regrown a9
              have ra10 := cell_regrown a10
              have ra11 := cell_regrown a11
              have ra12 := cell_regrown a12
              have ra13 := cell_regrown a13
              have ra14 := cell_regrown a14
              have rt0 := cell_regrown t0
              have rt1 := cell_regrown t1
              have rt2 := cell_regrown t2
              have rt3 := cell_regrown t3
              have rt4 := cell_regrown t4
              have rt5 := cell_regrown t5
              have rb0 := cell_regrown b0
              have rb1 := cell_regrown b1
              have rb2 := cell_regrown b2
              have rb3 := cell_regrown b3
              have rb4 := cell_regrown b4
              have rb5 := cell_regrown b5
              have rb6 := cell_regrown b6
              have rb7 := cell_regrown b7
              have rb8 := cell_regrown b8
              have rb9 := cell_regrown b9
              have rb10 := cell_regrown b10
              have rb11 := cell_regrown b11
              have rb12 := cell_regrown b12
              have rb13 := cell_regrown b13
              have rb14 := cell_regrown b14
              have HQs := hide (fun d os => Calls.regrown_of (HBs.out (grow (redrawn u7 d) os) (Hu7.out.trans ((below_regrown u7 d os).mono Hu7.out.size))))
              have HQa := hide (fun d os => Calls.regrown_of (HBa.out (grow (redrawn u7 d) os) (Hu7.out.trans ((below_regrown u7 d os).mono Hu7.out.size))))
              have HBq : Hid (∀ d os, Below w1.heap.size w1 (grow (redrawn u7 d) os)) := fun d os => HD5.out.trans ((Hu7.out.trans ((below_regrown u7 d os).mono Hu7.out.size)).mono HD5.out.size)
              clear p0 p1 p2 s0 s1 s2 s3 s4 s5 a0 a1 a2 a3 a4 a5 a6 a7 a8 a9 a10 a11 a12 a13 a14 t0 t1 t2 t3 t4 t5 b0 b1 b2 b3 b4 b5 b6 b7 b8 b9 b10 b11 b12 b13 b14
              refine wp_region_quiet_below (by kernel_rfl) (by kernel_rfl) ?_
              repeat (go_big_quiet_step (first | (go_at_call 12; exact HQs.out _ _) | (go_at_call 13; exact HQa.out _ _)))
              refine wpQuiet_nil ?_
              intro _ hw'
              obtain ⟨⟨dq, osq⟩, hw''⟩ := hw'
              have HBz := hide (HBq.out dq osq)
              obtain ⟨z3, hz3⟩ : ∃ w3, grow (redrawn u7 dq) osq = w3 := ⟨_, rfl⟩
              rw [hz3] at HBz
              have hz4 := (hw''.trans hz3).symm
              subst hz4
              clear hz3 hw''
              go_wp2
              go_roundw
              case rel => exact ⟨q + 1, by omega, by go_num, HBz⟩
              case measure => simp [intOf]; omega
            · have e3 : ¬ (q : Int) < 20 := by omega
              go_wp2
              go_roundw
              case rel => exact ⟨j + 1, by omega, by go_num, HB⟩
              case measure => simp [intOf]; omega
          · have e2 : ¬ (q : Int) < (A.n : Int) := by omega
            go_wp2
            go_roundw
            case rel => exact ⟨j + 1, by omega, by go_num, HB⟩
            case measure => simp [intOf]; omega
      · have e1 : ¬ (j : Int) < 20 := by omega
        have HWk : Hid (Calls Try.prog 14 #[] wr fun e w' => e = .returned (.bool true) ∧ Below wr.heap.size wr w') := wakes_any wr
        go_wp2_with (go_at_call 14; refine HWk.out.mono ?_; rintro e w9 ⟨rfl, hb⟩; have HB9 := hide hb; clear hb)
        go_ret
        exact ⟨rfl, HB1.out.trans ((HB.out.trans (HB9.out.mono HB.out.size)).mono HB1.out.size)⟩
    · have e0 : ¬ (j : Int) < (S.n : Int) := by omega
      have HWk : Hid (Calls Try.prog 14 #[] wr fun e w' => e = .returned (.bool true) ∧ Below wr.heap.size wr w') := wakes_any wr
      go_wp2_with (go_at_call 14; refine HWk.out.mono ?_; rintro e w9 ⟨rfl, hb⟩; have HB9 := hide hb; clear hb)
      go_ret
      exact ⟨rfl, HB1.out.trans ((HB.out.trans (HB9.out.mono HB.out.size)).mono HB1.out.size)⟩
end Go.Proofs.Ytllpikijakilnaa
namespace Go.Proofs.Ytllpikijakilnaa
open Go.RowKit Go.ChangeShapes Go.WideShapes Go.ChangeAt

theorem Try.own : ownKnob Try.prog.godebug = none := by kernel_rfl
theorem Try.laidOut : laidOutB Try.prog = true := by kernel_rfl

set_option maxRecDepth 100000 in
theorem raw_contract (H : Type) (enc : TypeId × Value → H) (W : World) (base : Nat) (args : Array Value) (ds gs : List (DataW H)) (before : List MemPlace)
    (hval0 : ∀ (j : Nat) t v, Try.f3.params[j]? = some t → args[j]? = some v → Value.okWide Try.prog W .any base t v)
    (hW : DataW.Whole enc Try.prog Try.f3.params.toList Rows.ruleRawSpec.vars false W args.toList ds gs before) (hk : Rows.uptoSmall H (ds ++ gs) = true) :
    Calls Try.prog 3 args W fun e W' => ∃ v, e = .returned v ∧ Rows.ruleRawSpec.post enc Try.prog Try.f3 false true false false W args v W' := by
  have hval : ∀ (j : Nat) t v, Try.f3.params[j]? = some t → args[j]? = some v → Value.okWide Try.prog W .any base t v := hval0
  have hW' := hW
  obtain ⟨p, q, hA0, hV, rfl, hfz, hnd⟩ := hW
  have hA : DataW.TrodAll enc Try.prog W 0 (fun _ => true) true Try.f3.params.toList args.toList ds p := hA0
  rw [Try.params3] at hA hval
  obtain ⟨v0, d0, rfl, rfl, h0⟩ := trodAll_one hA
  obtain ⟨rfl, rfl⟩ := trodVars_none hV
  have hbk : Rows.uptoBulk d0 ≤ 1048576 := by
    have h : Rows.uptoBulkAll ([d0] ++ []) ≤ 1048576 := of_decide_eq_true hk
    simp only [List.append_nil, Rows.uptoBulkAll] at h
    omega
  obtain ⟨cs, rfl, hsz⟩ := okWide_struct Try.underlying25 (hval 0 25 v0 rfl rfl)
  obtain ⟨fuel, hf0⟩ := h0
  obtain ⟨s, a, t, hcs, k1, k2, k3, k4⟩ := Z.raw_open hf0 hbk
  have hcs' : cs = Z.rawA s a t := Array.toList_inj.1 hcs
  subst hcs'
  have h0 : DataW.Trod enc Try.prog W 0 (fun _ => true) true 25 (.agg (Z.rawA s a t)) d0 p := ⟨fuel, hf0⟩
  clear hA0 hval0
  simp only [List.append_nil] at hW'
  refine (raw_all W s a t k1 k2 k3 k4).mono fun e W' ⟨he, hb⟩ => ?_
  subst he
  have hlt : ∀ x ∈ p, x.block < W.heap.size := fun x hx => by simpa using hW'.lt x hx
  exact ⟨_, rfl, _, _, _, [], p, [], hW', trodAll_mk1 (shut_bool Try.underlying4 true), trodAll_mk1 (Below.trod Try.laidOut (by kernel_rfl) (of_decide_eq_true (by kernel_rfl)) h0 hb hlt), rfl, hb.frame _, fun h => by cases h⟩

set_option maxRecDepth 100000 in
theorem raw_lifted (os : Go.Os) (started : os.Started) (H : Type) (enc : TypeId × Value → H) (F : Stop.Interp) :
    ReturnsInHanded {} Try.checked os 3 .any ((Rows.OpenSpec.upto Rows.ruleRawSpec).pre6 enc Try.prog Try.f3 Rows.ruleRawUptoRow.domain false) (((Rows.OpenSpec.upto Rows.ruleRawSpec).at F).post enc Try.prog Try.f3 false true false false) := by
  refine returnsInHanded_of_cond (C := Try.checked) (s := Rows.OpenSpec.upto Rows.ruleRawSpec) (k := Rows.uptoSmall) rfl Try.own started (by kernel_rfl) Try.func3
    (OpenSpec.witness (enc := enc) (C := Try.checked) (s := Rows.OpenSpec.upto Rows.ruleRawSpec) (k := Rows.uptoSmall) rfl false ⟨#[], #[.agg #[.slice none 0 0, .slice none 0 0, .int .i64 0]], []⟩ 8 (by kernel_rfl) (by kernel_rfl) (by kernel_rfl)
      (x := ([.agg [.nil, .nil, .lit (.int .i64 0)]], [], [])) (by kernel_rfl) rfl (by kernel_rfl)) ?_
  intro W base args ds gs before hval hW _ hk _
  exact raw_contract H enc W base args ds gs before hval hW hk

theorem raw_holds : Rows.RuleRawUptoSaid :=
  OpenClaim.holds_of_cond 3 Try.f3 rfl rfl rfl rfl rfl rfl rfl ⟨rfl, rfl, rfl, rfl, rfl⟩ rfl rfl rfl rfl rfl (by kernel_rfl) Try.func3 (by kernel_rfl)
    (of_decide_eq_true (by kernel_rfl)) (by unfold Func.isWrapper; first | (rw [if_pos (by decide +kernel)]; kernel_rfl) | (rw [if_neg (by decide +kernel)]; exact ⟨rfl, rfl⟩))
    (fun os started H enc _ F => raw_lifted os started H enc F)
end Go.Proofs.Ytllpikijakilnaa
