import Derived.Test.YtjcdnclfakmbpaaGreatDoorExS
import Derived.Test.YtjcdnclfakmbpaaGreatDoorExR
import Derived.Test.YtjcdnclfakmbpaaGreatDoorVZs
namespace Go.Proofs.YtjcdnclfakmbpaaGreatDoor
open Go.RowKit
set_option maxRecDepth 100000 in
set_option maxHeartbeats 8000000 in
set_option linter.unusedSimpArgs false in
theorem exact_all (w : World) (hT : C.Tab w) (sA sB sW sC : Int) (L0 L1 : Nat) (op : Option Addr) (ol oc : Nat) (rs : List Rop) (hrs : rs.length = ol) (hR : Rops w op rs) (hlf : ∀ r ∈ rs, 0 ≤ r.life) :
    Calls Tryz.prog 3 #[.agg #[.int .i64 sA, .int .i64 sB, .int .u64 (L0 : Int), .int .u64 (L1 : Int), .int .i64 sW, .int .i64 sC, .slice op ol oc]] w fun e w' => e = .returned (.bool true) ∧ Below w.heap.size w w' := by
  obtain ⟨w1, hw1⟩ : ∃ w1, w.alloc (.cells #[.int .i64 sA, .int .i64 sB, .int .u64 (L0 : Int), .int .u64 (L1 : Int), .int .i64 sW, .int .i64 sC, .slice op ol oc] 26) = w1 := ⟨_, rfl⟩
  have hb1 : Below w.heap.size w w1 := by rw [← hw1]; exact (Below.refl _ _).alloc (Nat.le_refl _) _
  have hk1 : w1.heap[w.heap.size]? = some (.cells #[.int .i64 sA, .int .i64 sB, .int .u64 (L0 : Int), .int .u64 (L1 : Int), .int .i64 sW, .int .i64 sC, .slice op ol oc] 26 (0, 0)) := by rw [← hw1]; exact heap_alloc_new _ _
  have hT1 : C.Tab w1 := hT.below hb1 hT.pos
  have HBg : Hid (∀ w', Below w1.heap.size w1 w' → Calls Tryz.prog 5 #[] w' fun e w'' => e = .returned (.bool true) ∧ Below w'.heap.size w' w'') := fun w' hb => begun_any w' (hT1.below hb hT1.pos)
  have HR := hide (hR.below hb1)
  have HLf := hide hlf
  have HBx : Hid (∀ w', Below w1.heap.size w1 w' → w'.cell? ⟨w.heap.size, 6, none⟩ = some (.slice op ol oc)) := fun w' hb => by
    have h := (hb.block _ (C.lt_of_block hk1)).trans hk1
    simp [World.cell?, h]
  have HMd := hide (made_any w1 hT1 sA sB sW sC L0 L1 op ol oc)
  have HB1 := hide hb1
  have HRs := hide hrs
  have HW1 := hide hw1
  obtain ⟨s0, s1, s2, s3, s4, s5, s6, -⟩ := blk7 hk1
  clear hw1 hb1 hk1 hT hT1 hR hrs hlf
  go_enter Tryz.func3, Tryz.ntmps3
  go_upto_region 1 with (fail)
  rw [HW1.out]
  go_wp2_with fail
  refine HMd.out.mono ?_
  rintro e w2 ⟨wb, rfl, hws2⟩
  have HS2 := hide hws2
  clear hws2 HMd HW1 s0 s1 s2 s3 s4 s5 s6
  have HBz : Hid (w.heap.size ≤ w1.heap.size) := HB1.out.size
  obtain ⟨bs, HBe⟩ : ∃ bs, Hid (w.heap.size = bs) := ⟨_, rfl⟩
  rw [HBe.out] at HB1 HBx HBz ⊢
  go_wp2_with fail
  refine (HBg.out w2 HS2.out.bel).mono ?_
  rintro e w3 ⟨rfl, hb3⟩
  have HS3 := hide (HS2.out.below hb3)
  clear hb3 HS2
  go_wp2
  go_loopw [4] (fun iv w' => ∃ (i : Nat), i ≤ ol ∧ i ≤ 600 ∧ iv = .int .i64 (i : Int) ∧ Hid (Ws w1 w' wb i)) (fun iv _ => 600 - (intOf iv).toNat)
  case atStart => exact ⟨0, Nat.zero_le _, by omega, rfl, HS3⟩
  case round =>
  clear HS3
  obtain ⟨i, hi, hi2, rfl, HQ⟩ := hrel
  rename World => wr
  have x6 := HBx.out wr HQ.out.bel
  by_cases hlt : i < ol
  · have i1 : (i : Int) < (ol : Int) := by omega
    have i2 : (0 : Int) ≤ (i : Int) := by omega
    by_cases h600 : i < 600
    · have i3 : (i : Int) < 600 := by omega
      obtain ⟨r, hr⟩ : ∃ r, rs[i]? = some r := ⟨_, List.getElem?_eq_getElem (by rw [HRs.out]; exact hlt)⟩
      have hlr := HLf.out r (List.mem_of_getElem? hr)
      obtain ⟨kind, on, bp, bc, body, ⟨⟨f0, f1, mine, yours, seq, ack, fbd⟩, fp, fc⟩, pick, olz⟩ := r
      obtain ⟨olife, rfl⟩ : ∃ n : Nat, olz = (n : Int) := ⟨olz.toNat, by simp only at hlr; omega⟩
      obtain ⟨g, o, hop, hg, hcl, hok⟩ := HR.out i _ hr
      subst hop
      obtain ⟨nb, hnb⟩ : ∃ nb, body.length = nb := ⟨_, rfl⟩
      obtain ⟨nf, hnf⟩ : ∃ nf, fbd.length = nf := ⟨_, rfl⟩
      have hnbl : nb ≤ 140737488351232 := by have := hok.len; simp only at this; omega
      have hnfl : nf ≤ 140737488351232 := by have := hok.fe.len; simp only at this; omega
      have HSt := hide (step_any w1 wr wb i HQ.out (by omega) kind on pick bp fp nb bc nf fc mine yours seq ack olife f0 f1 body fbd hnb hnbl hok.by_ hnf hnfl hok.fe.by_)
      have hce : ∀ (j : Nat) (v : Value), ([.int .i64 kind, .int .i64 on, .slice bp nb bc, .int .i64 f0, .int .i64 f1, .int .u64 (mine : Int), .int .u64 (yours : Int), .int .u64 (seq : Int), .int .u64 (ack : Int), .slice fp nf fc, .int .i64 pick, .int .u64 (olife : Int)] : List Value)[j]? = some v → wr.cell? ⟨g, o + i * 12 + j, none⟩ = some v := fun j v hv => (HQ.out.bel.cell (p := ⟨g, o + i * 12 + j, none⟩) hg).trans (hcl j v (by rw [← hnb, ← hnf] at hv; exact hv))
      have y0 : wr.cell? ⟨g, o + i * 12, none⟩ = some (.int .i64 kind) := hce 0 _ rfl
      have y1 : wr.cell? ⟨g, o + i * 12 + 1, none⟩ = some (.int .i64 on) := hce 1 _ rfl
      have y2 : wr.cell? ⟨g, o + i * 12 + 2, none⟩ = some (.slice bp nb bc) := hce 2 _ rfl
      have y3 : wr.cell? ⟨g, o + i * 12 + 3, none⟩ = some (.int .i64 f0) := hce 3 _ rfl
      have y4 : wr.cell? ⟨g, o + i * 12 + 4, none⟩ = some (.int .i64 f1) := hce 4 _ rfl
      have y5 : wr.cell? ⟨g, o + i * 12 + 5, none⟩ = some (.int .u64 (mine : Int)) := hce 5 _ rfl
      have y6 : wr.cell? ⟨g, o + i * 12 + 6, none⟩ = some (.int .u64 (yours : Int)) := hce 6 _ rfl
      have y7 : wr.cell? ⟨g, o + i * 12 + 7, none⟩ = some (.int .u64 (seq : Int)) := hce 7 _ rfl
      have y8 : wr.cell? ⟨g, o + i * 12 + 8, none⟩ = some (.int .u64 (ack : Int)) := hce 8 _ rfl
      have y9 : wr.cell? ⟨g, o + i * 12 + 9, none⟩ = some (.slice fp nf fc) := hce 9 _ rfl
      have y10 : wr.cell? ⟨g, o + i * 12 + 10, none⟩ = some (.int .i64 pick) := hce 10 _ rfl
      have y11 : wr.cell? ⟨g, o + i * 12 + 11, none⟩ = some (.int .u64 (olife : Int)) := hce 11 _ rfl
      clear hr hg hcl hok hce hnb hnf hlr
      go_wp2_with fail
      refine HSt.out.mono ?_
      rintro e wc ⟨rfl, hwc⟩
      have HSm := hide (same_any w1 wc wb (i + 1) hwc)
      have HC := hide hwc
      clear hwc HSt HQ y0 y1 y2 y3 y4 y5 y6 y7 y8 y9 y10 y11 x6
      go_wp2_with fail
      refine HSm.out.mono ?_
      rintro e wd ⟨rfl, q, rfl⟩
      have HD := hide (HC.out.drewN q)
      clear HC HSm
      go_wp2
      first
        | exact ⟨⟨i + 1, by omega, by omega, by go_num, HD⟩, by simp [intOf]; omega⟩
        | (go_roundw
           case rel => exact ⟨i + 1, by omega, by omega, by go_num, HD⟩
           case measure => simp [intOf]; omega)
    · have i3 : ¬ (i : Int) < 600 := by omega
      have HQ2 := hide HQ.out
      obtain ⟨K, Y, A, B, es, xn, bn, hwm, hwd⟩ := HQ.out
      obtain ⟨O, I, hwb, hkb⟩ := hwm.blk
      obtain ⟨G, Vv, xs, hlt, hxs⟩ := hwm.late
      obtain ⟨X, L, M, tn, us, ks, zs, hbk, htn⟩ := hwm.book
      obtain ⟨-, -, -, -, -, -, -, -, -, -, -, p11, p12, -, -⟩ := cellW hwb
      have hwl := C.lt_of_block hwb
      obtain ⟨bb, hbb⟩ : ∃ bb, Y.bb = bb := ⟨_, rfl⟩
      obtain ⟨lb, hlb⟩ : ∃ lb, Y.lb = lb := ⟨_, rfl⟩
      rw [hbb] at p11 hbk
      rw [hlb] at p12 hlt
      have HSe : Hid (∀ w', Kp (fun _ => False) K K wr w' → Calls Tryz.prog 8 #[.pointer (some ⟨lb, 0, none⟩), .pointer (some ⟨bb, 0, none⟩), .int .i64 0] w' fun e w'' => e = .returned (.bool true) ∧ Hid (Below w1.heap.size w1 w'') ∧ Hid (w''.cell? ⟨wb, 11, none⟩ = some (.pointer (some ⟨bb, 0, none⟩)) ∧ w''.cell? ⟨wb, 12, none⟩ = some (.pointer (some ⟨lb, 0, none⟩)) ∧ wb < w''.heap.size) ∧ Hid (Calls Tryz.prog 9 #[.pointer (some ⟨bb, 0, none⟩)] w'' fun e w3 => e = .returned (.bool true) ∧ ∃ q, w3 = w''.drewN q)) := fun w' mw => by
        have hl' := hlt.keep mw (fun e => e) (fun _ _ e => e)
        have hb' := hbk.keep mw (fun e => e) (fun e => e) (fun e => e) (fun e => e) (fun _ _ e => e) (by simp)
        refine (V.settle_z K w' lb G Vv xs bb X L M tn us ks zs hl' hb' (by have := hwd.bl; have := hwd.xl; omega) (by have := hwd.xl; omega)).mono ?_
        rintro e w'' ⟨he, K', X', L', M', A', t', u', k', r', F', hz, hkp⟩
        have hblk := (hkp.block wb (C.lt_of_block ((mw.block wb hwl (fun e => e)).trans hwb)) (by rw [hkb]; simp [V.PSz])).trans ((mw.block wb hwl (fun e => e)).trans hwb)
        obtain ⟨-, -, -, -, -, -, -, -, -, -, -, q11, q12, -, -⟩ := cellW hblk
        rw [hbb] at q11
        rw [hlb] at q12
        have g1 : Below w1.heap.size w1 w'' := hkp.below (mw.below hwm.bel (fun x hx => (fun e => e))) (fun x hx => by rw [hwm.kz x hx]; simp [V.PSz])
        have g2 := C.lt_of_block hblk
        have g3 := hide (V.look_done w'' 0 bb F' X' L' M' A' t' u' k' r' hz)
        refine ⟨he, hide g1, hide ⟨q11, q12, g2⟩, ?_⟩
        with_reducible exact g3
      have HMa : Hid (Kp (fun _ => False) K K wr wr) := Kp.refl _ _ _
      have HMb : Hid (Kp (fun _ => False) K K wr wr.drew) := (Kp.refl _ _ _).drew
      clear HQ HQ2 hwm hwd hwb hkb hlt hbk hxs htn
      go_upto_region 9 with (fail)
      go_region_held3 (fun w' => w'.cell? ⟨wb, 11, none⟩ = some (.pointer (some ⟨bb, 0, none⟩)) ∧ w'.cell? ⟨wb, 12, none⟩ = some (.pointer (some ⟨lb, 0, none⟩))) (go_keep) (first | (go_at_call 8; refine (HSe.out _ (by first | with_reducible exact HMa.out | with_reducible exact HMb.out)).mono ?_; rintro e w5 ⟨rfl, HB5, HC5, HLk⟩; have v11 := HC5.out.1; have v12 := HC5.out.2.1) | (go_at_call 9; refine HLk.out.mono ?_; rintro e w6 ⟨rfl, q6, rfl⟩; have HB6 : Hid (Below w1.heap.size w1 (w5.drewN q6)) := ⟨HB5.out.os, HB5.out.tape, HB5.out.output, HB5.out.size, HB5.out.block⟩; have u11 : (w5.drewN q6).cell? ⟨wb, 11, none⟩ = some (.pointer (some ⟨bb, 0, none⟩)) := v11; have u12 : (w5.drewN q6).cell? ⟨wb, 12, none⟩ = some (.pointer (some ⟨lb, 0, none⟩)) := v12) | (go_at_call 5; refine (HBg.out _ HB6.out).mono ?_; rintro e w7 ⟨rfl, hb7⟩; have HB7 := hide hb7; have t11 : w7.cell? ⟨wb, 11, none⟩ = some (.pointer (some ⟨bb, 0, none⟩)) := (hb7.cell (p := ⟨wb, 11, none⟩) HC5.out.2.2).trans u11; have t12 : w7.cell? ⟨wb, 12, none⟩ = some (.pointer (some ⟨lb, 0, none⟩)) := (hb7.cell (p := ⟨wb, 12, none⟩) HC5.out.2.2).trans u12; clear hb7))
      go_wp2
      go_ret
      exact ⟨rfl, by rw [HBe.out]; exact HB1.out.trans ((HB6.out.trans (HB7.out.mono HB6.out.size)).mono HBz.out)⟩
  · have i1 : ¬ (i : Int) < (ol : Int) := by omega
    have HQ2 := hide HQ.out
    obtain ⟨K, Y, A, B, es, xn, bn, hwm, hwd⟩ := HQ.out
    obtain ⟨O, I, hwb, hkb⟩ := hwm.blk
    obtain ⟨G, Vv, xs, hlt, hxs⟩ := hwm.late
    obtain ⟨X, L, M, tn, us, ks, zs, hbk, htn⟩ := hwm.book
    obtain ⟨-, -, -, -, -, -, -, -, -, -, -, p11, p12, -, -⟩ := cellW hwb
    have hwl := C.lt_of_block hwb
    obtain ⟨bb, hbb⟩ : ∃ bb, Y.bb = bb := ⟨_, rfl⟩
    obtain ⟨lb, hlb⟩ : ∃ lb, Y.lb = lb := ⟨_, rfl⟩
    rw [hbb] at p11 hbk
    rw [hlb] at p12 hlt
    have HSe : Hid (∀ w', Kp (fun _ => False) K K wr w' → Calls Tryz.prog 8 #[.pointer (some ⟨lb, 0, none⟩), .pointer (some ⟨bb, 0, none⟩), .int .i64 0] w' fun e w'' => e = .returned (.bool true) ∧ Hid (Below w1.heap.size w1 w'') ∧ Hid (w''.cell? ⟨wb, 11, none⟩ = some (.pointer (some ⟨bb, 0, none⟩)) ∧ w''.cell? ⟨wb, 12, none⟩ = some (.pointer (some ⟨lb, 0, none⟩)) ∧ wb < w''.heap.size) ∧ Hid (Calls Tryz.prog 9 #[.pointer (some ⟨bb, 0, none⟩)] w'' fun e w3 => e = .returned (.bool true) ∧ ∃ q, w3 = w''.drewN q)) := fun w' mw => by
      have hl' := hlt.keep mw (fun e => e) (fun _ _ e => e)
      have hb' := hbk.keep mw (fun e => e) (fun e => e) (fun e => e) (fun e => e) (fun _ _ e => e) (by simp)
      refine (V.settle_z K w' lb G Vv xs bb X L M tn us ks zs hl' hb' (by have := hwd.bl; have := hwd.xl; omega) (by have := hwd.xl; omega)).mono ?_
      rintro e w'' ⟨he, K', X', L', M', A', t', u', k', r', F', hz, hkp⟩
      have hblk := (hkp.block wb (C.lt_of_block ((mw.block wb hwl (fun e => e)).trans hwb)) (by rw [hkb]; simp [V.PSz])).trans ((mw.block wb hwl (fun e => e)).trans hwb)
      obtain ⟨-, -, -, -, -, -, -, -, -, -, -, q11, q12, -, -⟩ := cellW hblk
      rw [hbb] at q11
      rw [hlb] at q12
      have g1 : Below w1.heap.size w1 w'' := hkp.below (mw.below hwm.bel (fun x hx => (fun e => e))) (fun x hx => by rw [hwm.kz x hx]; simp [V.PSz])
      have g2 := C.lt_of_block hblk
      have g3 := hide (V.look_done w'' 0 bb F' X' L' M' A' t' u' k' r' hz)
      refine ⟨he, hide g1, hide ⟨q11, q12, g2⟩, ?_⟩
      with_reducible exact g3
    have HMa : Hid (Kp (fun _ => False) K K wr wr) := Kp.refl _ _ _
    have HMb : Hid (Kp (fun _ => False) K K wr wr.drew) := (Kp.refl _ _ _).drew
    clear HQ HQ2 hwm hwd hwb hkb hlt hbk hxs htn
    go_upto_region 9 with (fail)
    go_region_held3 (fun w' => w'.cell? ⟨wb, 11, none⟩ = some (.pointer (some ⟨bb, 0, none⟩)) ∧ w'.cell? ⟨wb, 12, none⟩ = some (.pointer (some ⟨lb, 0, none⟩))) (go_keep) (first | (go_at_call 8; refine (HSe.out _ (by first | with_reducible exact HMa.out | with_reducible exact HMb.out)).mono ?_; rintro e w5 ⟨rfl, HB5, HC5, HLk⟩; have v11 := HC5.out.1; have v12 := HC5.out.2.1) | (go_at_call 9; refine HLk.out.mono ?_; rintro e w6 ⟨rfl, q6, rfl⟩; have HB6 : Hid (Below w1.heap.size w1 (w5.drewN q6)) := ⟨HB5.out.os, HB5.out.tape, HB5.out.output, HB5.out.size, HB5.out.block⟩; have u11 : (w5.drewN q6).cell? ⟨wb, 11, none⟩ = some (.pointer (some ⟨bb, 0, none⟩)) := v11; have u12 : (w5.drewN q6).cell? ⟨wb, 12, none⟩ = some (.pointer (some ⟨lb, 0, none⟩)) := v12) | (go_at_call 5; refine (HBg.out _ HB6.out).mono ?_; rintro e w7 ⟨rfl, hb7⟩; have HB7 := hide hb7; have t11 : w7.cell? ⟨wb, 11, none⟩ = some (.pointer (some ⟨bb, 0, none⟩)) := (hb7.cell (p := ⟨wb, 11, none⟩) HC5.out.2.2).trans u11; have t12 : w7.cell? ⟨wb, 12, none⟩ = some (.pointer (some ⟨lb, 0, none⟩)) := (hb7.cell (p := ⟨wb, 12, none⟩) HC5.out.2.2).trans u12; clear hb7))
    go_wp2
    go_ret
    exact ⟨rfl, by rw [HBe.out]; exact HB1.out.trans ((HB6.out.trans (HB7.out.mono HB6.out.size)).mono HBz.out)⟩
end Go.Proofs.YtjcdnclfakmbpaaGreatDoor
