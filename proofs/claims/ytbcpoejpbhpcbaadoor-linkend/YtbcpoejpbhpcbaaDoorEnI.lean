import Derived.Test.YtbcpoejpbhpcbaaDoorEnH
import Derived.Test.YtbcpoejpbhpcbaaDoorSeS
namespace Go.Proofs.YtbcpoejpbhpcbaaDoor
open Go.RowKit

set_option maxRecDepth 100000 in
set_option maxHeartbeats 16000000 in
theorem end_all (w : World) (hT : C.Tab w) (win cap : Int) (sp : Option Addr) (l c : Nat) (rs : List Stp) (hrs : rs.length = l) (hR : Stps w sp rs) :
    Calls Tryd.prog 4 #[.agg #[.int .i64 win, .int .i64 cap, .slice sp l c]] w fun e w' => e = .returned (.bool true) ∧ Below w.heap.size w w' := by
  obtain ⟨w1, hw1⟩ : ∃ w1, w.alloc (.cells #[.int .i64 win, .int .i64 cap, .slice sp l c] 24) = w1 := ⟨_, rfl⟩
  have hb1 : Below w.heap.size w w1 := by rw [← hw1]; exact (Below.refl _ _).alloc (Nat.le_refl _) _
  have hk1 : w1.heap[w.heap.size]? = some (.cells #[.int .i64 win, .int .i64 cap, .slice sp l c] 24 (0, 0)) := by rw [← hw1]; exact heap_alloc_new _ _
  have HT1 := hide (hT.below hb1 hT.pos)
  have HBx : Hid (∀ w', Below w1.heap.size w1 w' → w'.cell? ⟨w.heap.size, 0, none⟩ = some (.int .i64 win) ∧ w'.cell? ⟨w.heap.size, 1, none⟩ = some (.int .i64 cap) ∧ w'.cell? ⟨w.heap.size, 2, none⟩ = some (.slice sp l c)) := fun w' hb => by
    have h := (hb.block _ (C.lt_of_block hk1)).trans hk1
    simp [World.cell?, h]
  have HBg : Hid (∀ w', Below w1.heap.size w1 w' → Calls Tryd.prog 6 #[] w' fun e w'' => e = .returned (.bool true) ∧ Below w'.heap.size w' w'') := fun w' hb => begun_any w' (HT1.out.below hb HT1.out.pos)
  have HP := hide (paired_pm w1 win cap HT1.out)
  have HR := hide (hR.below hb1)
  have HRs := hide hrs
  have HB1 := hide hb1
  have HW := hide hw1
  obtain ⟨x0, x1, x2⟩ := HBx.out w1 (Below.refl _ _)
  clear hw1 hb1 hk1 hT hR hrs
  go_enter Tryd.func4, Tryd.ntmps4
  go_upto_region 1 with (fail)
  rw [HW.out]
  go_wp2_with fail
  refine HP.out.mono ?_
  rintro e w2 ⟨pb, b0, b1, W, M, K, rfl, hpm, hpd⟩
  have hW5 : 1 ≤ W ∧ W ≤ 5 := hpd.w1
  have hM6 : 1 ≤ M ∧ M ≤ 64 := hpd.m1
  have HPs : Hid (Ps w1 w2 pb W M 0) := ⟨_, _, _, _, _, _, _, _, _, _, _, _, _, _, _, hpm, hpd, pe_new hpd.m1⟩
  clear hpm hpd HP x0 x1 x2
  go_wp2_with fail
  refine (HBg.out w2 HPs.out.bel).mono ?_
  rintro e w3 ⟨rfl, hb3⟩
  have HP3 := hide (HPs.out.below hb3)
  clear hb3 HPs
  go_wp2
  go_loopw [4] (fun iv w' => ∃ (i : Nat), i ≤ l ∧ i ≤ 800 ∧ iv = .int .i64 (i : Int) ∧ Hid (Ps w1 w' pb W M i)) (fun iv _ => 800 - (intOf iv).toNat)
  case atStart => exact ⟨0, Nat.zero_le _, by omega, rfl, HP3⟩
  case round =>
  clear HP3
  obtain ⟨i, hi, hi8, rfl, HQ⟩ := hrel
  rename World => wr
  obtain ⟨-, -, x2⟩ := HBx.out wr HQ.out.bel
  by_cases hx : i < l ∧ i < 800
  · obtain ⟨hlt, h8⟩ := hx
    have i1 : (i : Int) < (l : Int) := by omega
    have i2 : (0 : Int) ≤ (i : Int) := by omega
    have i3 : (i : Int) < 800 := by omega
    obtain ⟨r, hr⟩ : ∃ r, rs[i]? = some r := ⟨_, List.getElem?_eq_getElem (by rw [HRs.out]; exact hlt)⟩
    obtain ⟨kind, on, bp, bc, body, pick, more⟩ := r
    obtain ⟨g, o, hop, hg, hcl, hok⟩ := HR.out i _ hr
    subst hop
    obtain ⟨nb, hnb⟩ : ∃ nb, body.length = nb := ⟨_, rfl⟩
    have hce : ∀ (j : Nat) (v : Value), ([.int .i64 kind, .int .i64 on, .slice bp nb bc, .int .i64 pick, .int .i64 more] : List Value)[j]? = some v → wr.cell? ⟨g, o + i * 5 + j, none⟩ = some v := fun j v hv => (HQ.out.bel.cell (p := ⟨g, o + i * 5 + j, none⟩) hg).trans (hcl j v (by rw [← hnb] at hv; exact hv))
    have y0 : wr.cell? ⟨g, o + i * 5, none⟩ = some (.int .i64 kind) := hce 0 _ rfl
    have y1 : wr.cell? ⟨g, o + i * 5 + 1, none⟩ = some (.int .i64 on) := hce 1 _ rfl
    have y2 : wr.cell? ⟨g, o + i * 5 + 2, none⟩ = some (.slice bp nb bc) := hce 2 _ rfl
    have y3 : wr.cell? ⟨g, o + i * 5 + 3, none⟩ = some (.int .i64 pick) := hce 3 _ rfl
    have y4 : wr.cell? ⟨g, o + i * 5 + 4, none⟩ = some (.int .i64 more) := hce 4 _ rfl
    have HSt := hide (step_any w1 wr pb W M i HQ.out (by omega) kind on pick more bp nb bc body hnb hok.by_ (by have := hok.len; simp only at this; omega))
    clear hce hr hg hcl hok hnb
    go_wp2_with fail
    refine HSt.out.mono ?_
    rintro e w4 ⟨rfl, hps⟩
    have HE := hide hps
    clear hps HSt HQ x2 y0 y1 y2 y3 y4
    go_wp2
    first
      | exact ⟨⟨i + 1, by omega, by omega, by go_num, HE⟩, by simp [intOf]; omega⟩
      | (go_roundw
         case rel => exact ⟨i + 1, by omega, by omega, by go_num, HE⟩
         case measure => simp [intOf]; omega)
  · obtain ⟨l0, l1, b0, b1, A, B, hst⟩ : ∃ l0 l1 b0 b1 A B, Pst w1 wr pb W M l0 l1 b0 b1 A B i := by
      obtain ⟨K, l0, l1, b0, b1, sv, s0, s1, A, B, ra, rb, S, T, es, hp, hd, hpe⟩ := HQ.out
      exact ⟨l0, l1, b0, b1, A, B, K, sv, s0, s1, ra, rb, S, T, es, hp, hd, hpe⟩
    have HS0 := hide hst
    clear hst HQ
    go_upto_region 5 with (fail)
    go_cut [29] from 21 to 28 (fun s29 wc => s29 = .bool false ∧ Hid (wc = wr))
    case first =>
      by_cases hlt : i < l
      · have i1 : (i : Int) < (l : Int) := by omega
        have i3 : ¬ (i : Int) < 800 := by omega
        go_wp2_with fail
        go_meet
        exact ⟨rfl, hide rfl⟩
      · have i1 : ¬ (i : Int) < (l : Int) := by omega
        go_wp2_with fail
        go_meet
        exact ⟨rfl, hide rfl⟩
    case rest =>
    obtain ⟨rfl, HWr⟩ := hcut
    rename World => wr2
    obtain rfl : wr2 = wr := HWr.out
    clear x2 HR HRs hi HWr
    go_wp2
    go_loopw [5] (fun iv w' => ∃ (j : Nat) (A' B' : Lk), j ≤ 1 ∧ iv = .int .i64 (j : Int) ∧ Hid (Pst w1 w' pb W M l0 l1 b0 b1 A' B' (i + 14 * j) ∧ (j = 1 → A'.known = l1 ∧ B'.known = l0))) (fun iv _ => 2 - (intOf iv).toNat)
    case atStart => exact ⟨0, A, B, by omega, rfl, hide ⟨HS0.out, fun e => by omega⟩⟩
    case round =>
    clear HS0 A B
    obtain ⟨j, A, B, hj, rfl, HS⟩ := hrel
    rename World => wj
    obtain ⟨K, sv, s0, s1, ra, rb, S, T, es, hp, hd, hpe⟩ := HS.out.1
    obtain ⟨p0, p1, p2, p3, p4, p5, p6, p7, p8, pf, hpb⟩ := hp.pk.cells
    have HLa := hide (fun w' (h : Lb w' b0 A ra) => life_any w' b0 A ra h)
    have HLA : Hid (∀ q, Calls Tryd.prog 8 #[.pointer (some ⟨b0, 0, none⟩)] (wj.drewN q) fun e w' => e = .returned (.int .u64 (A.known : Int)) ∧ w' = wj.drewN q) := fun q => life_any (wj.drewN q) b0 A ra (hp.drewN q).lq0.lw.lb
    have HLB : Hid (∀ q, Calls Tryd.prog 8 #[.pointer (some ⟨b1, 0, none⟩)] (wj.drewN q) fun e w' => e = .returned (.int .u64 (B.known : Int)) ∧ w' = wj.drewN q) := fun q => life_any (wj.drewN q) b1 B rb (hp.drewN q).lq1.lw.lb
    have HPm := hide hp
    have HPd := hide hd
    have HPe := hide hpe
    obtain ⟨ka, hka⟩ : ∃ ka, A.known = ka := ⟨_, rfl⟩
    obtain ⟨kb, hkb⟩ : ∃ kb, B.known = kb := ⟨_, rfl⟩
    rw [hka] at HLA
    rw [hkb] at HLB
    have HKa := hide hka
    have HKb := hide hkb
    have m1 : (j : Int) < 2 * (M : Int) + 4 := by omega
    clear hp hd hpe hka hkb HLa
    by_cases hkn : ka = l1 ∧ kb = l0
    rotate_left
    · obtain rfl : j = 0 := by
        by_cases e : j = 0
        · exact e
        · exfalso
          have := HS.out.2 (by omega)
          rw [HKa.out, HKb.out] at this
          exact hkn this
      have m0 : (0 : Int) < 2 * (M : Int) + 4 := by omega
      go_upto_region 10 with (fail)
      go_cut [75] from 40 to 74 (fun s75 wc => s75 = .bool true ∧ ∃ nq, Hid (wc = wj.drewN nq))
      case first =>
        by_cases e1 : ka = l1
        · have e2 : ¬ kb = l0 := fun e => hkn ⟨e1, e⟩
          have f1 : ((ka : Int) == (l1 : Int)) = true := by simp [e1]
          have f2 : ((kb : Int) == (l0 : Int)) = false := by simp; omega
          have g1 : ((ka : Int) != (l1 : Int)) = false := by simp [e1]
          have g2 : ((kb : Int) != (l0 : Int)) = true := by simp; omega
          go_quiet (first | (go_at_call_of 8 b0; exact Calls.quiet_of_same (HLA.out _)) | (go_at_call 8; first | exact Calls.quiet_of_same (HLA.out _) | exact Calls.quiet_of_same (HLB.out _)))
          go_wp2_with fail
          go_meet
          exact ⟨rfl, nq, hide rfl⟩
        · have f1 : ((ka : Int) == (l1 : Int)) = false := by simp; omega
          have g1 : ((ka : Int) != (l1 : Int)) = true := by simp; omega
          go_quiet (first | (go_at_call 8; first | exact Calls.quiet_of_same (HLA.out _) | exact Calls.quiet_of_same (HLB.out _)))
          go_wp2_with fail
          go_meet
          exact ⟨rfl, nq, hide rfl⟩
      case rest =>
        obtain ⟨rfl, nq, HW⟩ := hcut
        rename World => wk
        have HP1 : Hid (Pm w1 wk K pb W M l0 l1 b0 b1 sv s0 s1 A B ra rb S T es) := by show Pm _ _ _ _ _ _ _ _ _ _ _ _ _ _ _ _ _ _ _ _; rw [HW.out]; exact HPm.out.drewN nq
        clear p0 p1 p2 p3 p4 p5 p6 p7 p8 pf hpb HW HPm HLA HLB m1 m0 hkn
        obtain ⟨p0, p1, p2, p3, p4, p5, p6, p7, p8, pf, hpb⟩ := HP1.out.pk.cells
        have HO := hide (owe_any wk b0 A ra HP1.out.lq0.lw.lb)
        go_wp2_with fail
        refine HO.out.mono ?_
        rintro e w5 ⟨rfl, hl, honl⟩
        have HP2 := hide (HP1.out.turn0 (K' := K) (HP1.out.lq0.lw.but honl.but hl rfl) (Tw.of honl.but) (fun _ _ => rfl) (fun g hg => Or.inl hg))
        have HD2 := hide HPd.out.owe0
        have HE2 := hide HPe.out.owe0
        clear p0 p1 p2 p3 p4 p5 p6 p7 p8 pf hpb hl honl HO HP1
        obtain ⟨p0, p1, p2, p3, p4, p5, p6, p7, p8, pf, hpb⟩ := HP2.out.pk.cells
        have HO := hide (owe_any w5 b1 B rb HP2.out.lq1.lw.lb)
        go_wp2_with fail
        refine HO.out.mono ?_
        rintro e w6 ⟨rfl, hl, honl⟩
        have HP3 := hide (HP2.out.turn1 (K' := K) (HP2.out.lq1.lw.but honl.but hl rfl) (Tw.of honl.but) (fun _ _ => rfl) (fun g hg => Or.inl hg))
        have HD3 := hide HD2.out.owe1
        have HE3 := hide HE2.out.owe1
        have HT := hide (turnP w1 w6 pb W M l0 l1 b0 b1 { A with asked := true } { B with asked := true } (i + 14 * 0 + 1 + 1) ⟨_, _, _, _, _, _, _, _, _, HP3.out, HD3.out, HE3.out⟩ (by omega))
        have HK : Hid ((turnA { A with asked := true } { B with asked := true }).known = l1 ∧ (turnB { A with asked := true } { B with asked := true }).known = l0) := by
          have h1 := asked_turn (A := { A with asked := true }) (B := { B with asked := true }) (by show A.known ≤ B.life; rw [HPd.out.b.lf]; exact HPe.out.f0.kn) (by show B.known ≤ A.life; rw [HPd.out.a.lf]; exact HPe.out.f1.kn) rfl rfl
          have e1 : ({ B with asked := true } : Lk).life = l1 := HPd.out.b.lf
          have e2 : ({ A with asked := true } : Lk).life = l0 := HPd.out.a.lf
          exact ⟨h1.1.trans e1, h1.2.trans e2⟩
        clear p0 p1 p2 p3 p4 p5 p6 p7 p8 pf hpb hl honl HO HP2 HD2 HE2
        go_wp2_with fail
        refine HT.out.mono ?_
        rintro e w7 ⟨rfl, hst⟩
        have HE : Hid (Pst w1 w7 pb W M l0 l1 b0 b1 (turnA { A with asked := true } { B with asked := true }) (turnB { A with asked := true } { B with asked := true }) (i + 14 * (0 + 1))) := hst
        generalize turnA { A with asked := true } { B with asked := true } = A' at *
        generalize turnB { A with asked := true } { B with asked := true } = B' at *
        clear hst HT
        go_wp2
        first
          | exact ⟨⟨0 + 1, A', B', by omega, by go_num, hide ⟨HE.out, fun _ => HK.out⟩⟩, by simp [intOf]⟩
          | (go_roundw
             case rel => exact ⟨0 + 1, A', B', by omega, by go_num, hide ⟨HE.out, fun _ => HK.out⟩⟩
             case measure => simp [intOf])
    obtain ⟨ek1, ek2⟩ := hkn
    have f1 : ((ka : Int) == (l1 : Int)) = true := by simp [ek1]
    have f2 : ((kb : Int) == (l0 : Int)) = true := by simp [ek2]
    have g1 : ((ka : Int) != (l1 : Int)) = false := by simp [ek1]
    have g2 : ((kb : Int) != (l0 : Int)) = false := by simp [ek2]
    have HEa := hide (HKa.out.trans ek1)
    have HEb := hide (HKb.out.trans ek2)
    clear ek1 ek2
    go_upto_region 10 with (fail)
    go_quiet (first | (go_at_call 8; first | exact Calls.quiet_of_same (HLA.out _) | exact Calls.quiet_of_same (HLB.out _)))
    obtain ⟨wk, hwk⟩ : ∃ wk, wj.drewN nq = wk := ⟨_, rfl⟩
    have HP1 : Hid (Pm w1 wk K pb W M l0 l1 b0 b1 sv s0 s1 A B ra rb S T es) := by show Pm _ _ _ _ _ _ _ _ _ _ _ _ _ _ _ _ _ _ _ _; rw [← hwk]; exact HPm.out.drewN nq
    rw [hwk]
    clear p0 p1 p2 p3 p4 p5 p6 p7 p8 pf hpb HPm HLA HLB m1 hwk
    obtain ⟨p0, p1, p2, p3, p4, p5, p6, p7, p8, pf, hpb⟩ := HP1.out.pk.cells
    have HLA : Hid (∀ q, Calls Tryd.prog 8 #[.pointer (some ⟨b0, 0, none⟩)] (wk.drewN q) fun e w' => e = .returned (.int .u64 (ka : Int)) ∧ w' = wk.drewN q) := fun q => by have := life_any (wk.drewN q) b0 A ra (HP1.out.drewN q).lq0.lw.lb; rw [HKa.out] at this; exact this
    have HLB : Hid (∀ q, Calls Tryd.prog 8 #[.pointer (some ⟨b1, 0, none⟩)] (wk.drewN q) fun e w' => e = .returned (.int .u64 (kb : Int)) ∧ w' = wk.drewN q) := fun q => by have := life_any (wk.drewN q) b1 B rb (HP1.out.drewN q).lq1.lw.lb; rw [HKb.out] at this; exact this
    go_upto_region 16 with (fail)
    go_quiet (first | (go_at_call 8; first | exact Calls.quiet_of_same (HLA.out _) | exact Calls.quiet_of_same (HLB.out _)))
    obtain ⟨wl, hwl⟩ : ∃ wl, wk.drewN nq = wl := ⟨_, rfl⟩
    have HP2 : Hid (Pm w1 wl K pb W M l0 l1 b0 b1 sv s0 s1 A B ra rb S T es) := by show Pm _ _ _ _ _ _ _ _ _ _ _ _ _ _ _ _ _ _ _ _; rw [← hwl]; exact HP1.out.drewN nq
    rw [hwl]
    clear p0 p1 p2 p3 p4 p5 p6 p7 p8 pf hpb HP1 HLA HLB hwl f1 f2 g1 g2
    obtain ⟨p0, p1, p2, p3, p4, p5, p6, p7, p8, pf, hpb⟩ := HP2.out.pk.cells
    obtain ⟨la, hla⟩ : ∃ la, A.row.length = la := ⟨_, rfl⟩
    obtain ⟨lb, hlb⟩ : ∃ lb, B.row.length = lb := ⟨_, rfl⟩
    have HNA : Hid (Calls Tryd.prog 11 #[.pointer (some ⟨b0, 0, none⟩)] wl fun e w' => e = .returned (.int .i64 (la : Int)) ∧ w' = wl) := by
      obtain ⟨xa, xc, hx⟩ := HP2.out.lq0.lw.form
      have h1 := HP2.out.lq0.lw.lb
      rw [hx, hla] at h1
      exact len_any wl b0 A xa la xc h1
    have HNB : Hid (Calls Tryd.prog 11 #[.pointer (some ⟨b1, 0, none⟩)] wl fun e w' => e = .returned (.int .i64 (lb : Int)) ∧ w' = wl) := by
      obtain ⟨xa, xc, hx⟩ := HP2.out.lq1.lw.form
      have h1 := HP2.out.lq1.lw.lb
      rw [hx, hlb] at h1
      exact len_any wl b1 B xa lb xc h1
    have hla9 : la ≤ 814 := by have := HPd.out.a.rn.row; omega
    have hlb9 : lb ≤ 814 := by have := HPd.out.b.rn.row; omega
    have HLa := hide hla
    have HLb := hide hlb
    clear hla hlb
    go_wp2_with fail
    refine HNA.out.mono ?_
    rintro e z1 ⟨rfl, hz1⟩
    rw [hz1]
    clear hz1
    go_wp2_with fail
    refine HNB.out.mono ?_
    rintro e z1 ⟨rfl, hz1⟩
    rw [hz1]
    clear hz1
    go_upto_if 132 with (fail)
    go_cut [6] from 125 to 138 (fun s6 wc => ∃ n : Nat, s6 = .int .i64 (n : Int) ∧ la ≤ n ∧ lb ≤ n ∧ n ≤ 814 ∧ Hid (wc = wl))
    case first =>
      by_cases hab : la < lb
      · have n1 : (la : Int) < (lb : Int) := by omega
        go_wp2_with fail
        refine HNB.out.mono ?_
        rintro e z1 ⟨rfl, hz1⟩
        rw [hz1]
        clear hz1
        go_wp2_with fail
        go_meet
        exact ⟨lb, rfl, by omega, Nat.le_refl _, hlb9, hide rfl⟩
      · have n1 : ¬ (la : Int) < (lb : Int) := by omega
        go_wp2_with fail
        go_meet
        exact ⟨la, rfl, Nat.le_refl _, by omega, hla9, hide rfl⟩
    case rest =>
    obtain ⟨n, rfl, hna, hnb, hn8, HWl⟩ := hcut
    rename World => wm
    have HP3 : Hid (Pm w1 wm K pb W M l0 l1 b0 b1 sv s0 s1 A B ra rb S T es) := by show Pm _ _ _ _ _ _ _ _ _ _ _ _ _ _ _ _ _ _ _ _; rw [HWl.out]; exact HP2.out
    obtain ⟨c, hc⟩ : ∃ c, (n + W - 1) / W = c := ⟨_, rfl⟩
    have HC : Hid (n ≤ W * c) := by show _ ≤ _; rw [← hc]; exact ceil_le n W hW5.1
    have hcl : c ≤ 820 := by rw [← hc]; exact Nat.le_trans (Nat.div_le_self _ _) (by omega)
    have HTn := hide (tn_start HPd.out HPe.out HEa.out HEb.out n (by rw [HLa.out]; exact hna) (by rw [HLb.out]; exact hnb))
    have HSt : Hid (Pst w1 wm pb W M l0 l1 b0 b1 A B (i + 14 * j)) := ⟨_, _, _, _, _, _, _, _, _, HP3.out, HPd.out, HPe.out⟩
    have q1 : (n : Int) + (W : Int) - 1 = ((n + W - 1 : Nat) : Int) := by omega
    have q2 : ((n + W - 1 : Nat) : Int).tdiv (W : Int) = (c : Int) := by rw [← hc]; exact (Int.ofNat_tdiv _ _).symm
    have hq : ((n : Int) + (W : Int) - 1).tdiv (W : Int) = (c : Int) := by rw [q1]; exact q2
    obtain ⟨z, hz⟩ : ∃ z, (n : Int) + (W : Int) - 1 = z := ⟨_, rfl⟩
    rw [hz] at hq
    have hzb : 0 ≤ z ∧ z ≤ 1000 := by omega
    have hW0 : ((W : Int) == 0) = false := by simp; omega
    have hW1 : (W : Int) ≠ 0 := by omega
    have HKk : Hid (A.known = l1 ∧ B.known = l0) := ⟨HEa.out, HEb.out⟩
    clear p0 p1 p2 p3 p4 p5 p6 p7 p8 pf hpb HP2 HWl HP3 HNA HNB hc q1 q2 HPd HPe HKa HKb HEa HEb HLa HLb HS K sv s0 s1 ra rb S T es
    go_wp2
    go_loopw [7] (fun iv w' => ∃ (t : Nat) (A' B' : Lk), t ≤ M + 2 + c ∧ iv = .int .i64 (t : Int) ∧ Hid (Pst w1 w' pb W M l0 l1 b0 b1 A' B' (i + 14 * j + 12 * t) ∧ Tn W M n t A' B')) (fun iv _ => M + 2 + c - (intOf iv).toNat)
    case atStart => exact ⟨0, A, B, Nat.zero_le _, rfl, hide ⟨HSt.out, HTn.out⟩⟩
    case round =>
    clear HSt HTn HKk A B
    obtain ⟨t, A, B, ht, rfl, HR⟩ := hrel
    rename World => wt
    obtain ⟨K, sv, s0, s1, ra, rb, S, T, es, hp, hd, hpe⟩ := HR.out.1
    obtain ⟨p0, p1, p2, p3, p4, p5, p6, p7, p8, pf, hpb⟩ := hp.pk.cells
    have HPm := hide hp
    have HPd := hide hd
    have HPe := hide hpe
    clear hp hd hpe
    by_cases hlt : t < M + 2 + c
    · have t1 : (t : Int) < (M : Int) + 2 + (c : Int) := by omega
      go_upto_region 22 with (fail)
      go_quiet (fail)
      have HT := hide (turnP w1 (wt.drewN nq) pb W M l0 l1 b0 b1 A B (i + 14 * j + 12 * t) ⟨_, _, _, _, _, _, _, _, _, HPm.out.drewN nq, HPd.out, HPe.out⟩ (by omega))
      have HTn := hide (HR.out.2.turn hW5.1)
      clear p0 p1 p2 p3 p4 p5 p6 p7 p8 pf hpb HPm HPd HPe HR
      go_wp2_with fail
      refine HT.out.mono ?_
      rintro e w7 ⟨rfl, hst⟩
      have hkk : i + 14 * j + 12 * t + 12 = i + 14 * j + 12 * (t + 1) := by omega
      rw [hkk] at hst
      have HE := hide (And.intro hst HTn.out)
      clear hst HT HTn hkk
      go_wp2
      first
        | exact ⟨⟨t + 1, _, _, by omega, by go_num, HE⟩, by simp [intOf]; omega⟩
        | (go_roundw
           case rel => exact ⟨t + 1, _, _, by omega, by go_num, HE⟩
           case measure => simp [intOf]; omega)
    obtain rfl : t = M + 2 + c := by omega
    have t1 : ¬ ((M + 2 + c : Nat) : Int) < (M : Int) + 2 + (c : Int) := by omega
    have HOv := hide (HR.out.2.over hW5.1 HC.out)
    have HKk : Hid (A.known = l1 ∧ B.known = l0) := by
      have d := HR.out.2.d0
      exact ⟨d.kx.trans HPd.out.b.lf, d.ky.trans HPd.out.a.lf⟩
    have hkt : i + 14 * j + 12 * (M + 2 + c) ≤ 12000 := by omega
    obtain ⟨kt, hkt2⟩ : ∃ kt, i + 14 * j + 12 * (M + 2 + c) = kt := ⟨_, rfl⟩
    rw [hkt2] at HPd hkt
    obtain ⟨tt, htt⟩ : ∃ tt : Int, ((M + 2 + c : Nat) : Int) = tt := ⟨_, rfl⟩
    rw [htt] at t1 ⊢
    clear htt hkt2 HR
    go_upto_region 22 with (fail)
    go_quiet (fail)
    obtain ⟨wu, hwu⟩ : ∃ wu, wt.drewN nq = wu := ⟨_, rfl⟩
    have HP4 : Hid (Pm w1 wu K pb W M l0 l1 b0 b1 sv s0 s1 A B ra rb S T es) := by show Pm _ _ _ _ _ _ _ _ _ _ _ _ _ _ _ _ _ _ _ _; rw [← hwu]; exact HPm.out.drewN nq
    rw [hwu]
    clear p0 p1 p2 p3 p4 p5 p6 p7 p8 pf hpb HPm hwu t1 hq hz hzb
    obtain ⟨p0, p1, p2, p3, p4, p5, p6, p7, p8, pf, hpb⟩ := HP4.out.pk.cells
    have HNA : Hid (Calls Tryd.prog 11 #[.pointer (some ⟨b0, 0, none⟩)] wu fun e w' => e = .returned (.int .i64 0) ∧ w' = wu) := by
      obtain ⟨xa, xc, hx⟩ := HP4.out.lq0.lw.form
      have h1 := HP4.out.lq0.lw.lb
      rw [hx, HOv.out.1] at h1
      exact len_any wu b0 A xa 0 xc h1
    have HNB : Hid (Calls Tryd.prog 11 #[.pointer (some ⟨b1, 0, none⟩)] wu fun e w' => e = .returned (.int .i64 0) ∧ w' = wu) := by
      obtain ⟨xa, xc, hx⟩ := HP4.out.lq1.lw.form
      have h1 := HP4.out.lq1.lw.lb
      rw [hx, HOv.out.2.1] at h1
      exact len_any wu b1 B xa 0 xc h1
    go_wp2_with fail
    refine HNA.out.mono ?_
    rintro e z1 ⟨rfl, hz1⟩
    rw [hz1]
    clear hz1
    go_wp2_with fail
    refine HNB.out.mono ?_
    rintro e z1 ⟨rfl, hz1⟩
    rw [hz1]
    clear hz1
    have HSt : Hid (Pst w1 wu pb W M l0 l1 b0 b1 A B kt) := ⟨_, _, _, _, _, _, _, _, _, HP4.out, HPd.out, HPe.out⟩
    clear p0 p1 p2 p3 p4 p5 p6 p7 p8 pf hpb HP4 HNA HNB HPd HPe K sv s0 s1 ra rb S T es
    go_wp2
    go_loopw [8] (fun iv w' => ∃ (j : Nat), j ≤ 2 ∧ iv = .int .i64 (j : Int) ∧ Hid (Pst w1 w' pb W M l0 l1 b0 b1 A B (kt + j))) (fun iv _ => 2 - (intOf iv).toNat)
    case atStart => exact ⟨0, by omega, rfl, HSt⟩
    case round =>
    clear HSt
    obtain ⟨j, hj, rfl, HR⟩ := hrel
    rename World => wx
    obtain ⟨K, sv, s0, s1, ra, rb, S, T, es, hp, hd, hpe⟩ := HR.out
    have HPm := hide hp
    have HPd := hide hd
    have HPe := hide hpe
    clear hp hd hpe HR
    by_cases hj0 : j = 0
    · subst hj0
      have HN := hide (nowP0 HPm.out (by have := HPd.out.sl; omega))
      have hkx : A.known ≠ 0 := by rw [HKk.out.1]; have := HPd.out.b.l1; omega
      have hky : B.known ≠ 0 := by rw [HKk.out.2]; have := HPd.out.a.l1; omega
      go_wp2_with fail
      refine HN.out.mono ?_
      rintro e w8 (⟨hk0, _, _⟩ | ⟨_, m, x, s', K', S', rfl, hx, q1, q2, hns, hpm, -⟩)
      · exact absurd hk0 hkx
      have hup := ((HPd.out.a.nowS hkx hns).cur hkx x (List.mem_of_getElem? hx) q1 q2).2.1
      have HPd2 := hide (HPd.out.nowed0 hkx hns)
      have HPe2 := hide (HPe.out.nowed0 hns)
      have HPm2 := hide hpm
      obtain ⟨gs, cg, hv, hgs, y0, y1, y2, y3, yf⟩ := hpm.ss0.cells hx
      obtain ⟨ua, uc, huv⟩ := (hpm.ss0.rows m x hx).2.form
      rw [huv, hup] at y3
      have hmS := (List.getElem?_eq_some_iff.1 hx).1
      have HHa : Hid (∀ w', Below w8.heap.size w8 w' → _) := fun w' hb => handed0 w' (ext K' w8.heap.size (9, 9)) pb W M l0 l1 b0 b1 sv _ _ _ _ m x (hpm.below hb (9, 9)).pk (hpm.below hb (9, 9)).ss0 (hpm.below hb (9, 9)).ss1 hx (by have := HPd.out.tl; omega)
      have hTl : ∀ y ∈ T, y.mine = x.yours → y.yours = x.mine → y.inn.length = A.handed := fun y hy e1 e2 => by
        have := (HPd.out.b.cur hky y hy (e1.trans (q2.trans HKk.out.1)) (e2.trans (q1.trans HKk.out.2.symm))).1
        rw [this]; exact HOv.out.2.2.2
      have hNo : (∀ y ∈ T, ¬ (y.mine = x.yours ∧ y.yours = x.mine)) → A.handed = 0 := fun hno => by
        have := (HPd.out.b.non hky (fun y hy q => hno y hy ⟨q.1.trans (HKk.out.1.symm.trans q2.symm), q.2.trans (HKk.out.2.trans q1.symm)⟩)).1
        rw [← HOv.out.2.2.2]; exact this
      have HIv : Hid (∀ (n : Nat) (y : Sm), T[n]? = some y → ∃ a c, y.iv = .slice a y.inn.length c) := fun n y hy => (hpm.ss1.rows n y hy).1.form
      have HTl := hide hTl
      have HNo := hide hNo
      obtain ⟨p0, p1, p2, p3, p4, p5, p6, p7, p8, pf, hpb⟩ := hpm.pk.cells
      rw [hv] at p7
      obtain ⟨hh, hhh⟩ : ∃ hh, A.handed = hh := ⟨_, rfl⟩
      rw [hhh] at y3 HTl HNo
      have n1 : ¬ (m : Int) < 0 := by omega
      have n2 : (0 : Int) ≤ (m : Int) := by omega
      have n3 : (m : Int) < (S'.length : Int) := by omega
      have HHq : Hid (∀ w', Below w8.heap.size w8 w' → Calls Tryd.prog 13 #[.pointer (some ⟨pb, 0, none⟩), .int .i64 0, .int .i64 (m : Int)] w' fun e w'' => ∃ aq cq, e = .returned (.slice aq hh cq) ∧ Below w8.heap.size w8 w'') := fun w' hb => by
        refine (HHa.out w' hb).mono ?_
        rintro e w'' ⟨hb2, (⟨n2, y, hy, e1, e2, -, rfl⟩ | ⟨hno, rfl⟩)⟩
        · obtain ⟨aq, cq, hq⟩ := HIv.out n2 y hy
          rw [HTl.out y (List.mem_of_getElem? hy) e1 e2] at hq
          exact ⟨aq, cq, by rw [hq], hb.trans (hb2.mono hb.size)⟩
        · have h0 := HNo.out (fun y hy q => by
            obtain ⟨n2, hn2⟩ := List.mem_iff_getElem?.1 hy
            exact hno n2 y (List.getElem?_eq_some_iff.1 hn2).1 hn2 q)
          rw [h0]
          exact ⟨none, 0, rfl, hb.trans (hb2.mono hb.size)⟩
      clear hx q1 q2 hns hpm hv huv HHa y0 y1 y2 yf hup hTl hNo HN HPm hhh
      go_upto_region 32 with (fail)
      go_region_held3 (fun w' => w'.cell? ⟨pb, 7, none⟩ = some (.slice (some ⟨gs, 0, none⟩) S'.length cg) ∧ w'.cell? ⟨gs, m * 4 + 3, none⟩ = some (.slice ua hh uc)) (go_keep) (first | (go_at_call 13; refine (HHq.out _ (by first | exact Below.refl _ _ | exact (Below.refl _ _).drew)).mono ?_; rintro e w9 ⟨aq, cq, rfl, hb9⟩; have p7n := (hb9.cell (p := ⟨pb, 7, none⟩) hpb).trans p7; have y3n := (hb9.cell (p := ⟨gs, m * 4 + 3, none⟩) hgs).trans y3; have HB9 := hide hb9; clear hb9) | fail)
      have HE : Hid (Pst w1 w9 pb W M l0 l1 b0 b1 A B (kt + 0 + 1)) := ⟨_, _, _, _, _, _, _, _, _, HPm2.out.below HB9.out (9, 9), HPd2.out, HPe2.out⟩
      go_wp2
      first
        | exact ⟨⟨0 + 1, by omega, by go_num, HE⟩, by simp [intOf]⟩
        | (go_roundw
           case rel => exact ⟨0 + 1, by omega, by go_num, HE⟩
           case measure => simp [intOf])
    by_cases hj1 : j = 1
    · subst hj1
      have HN := hide (nowP1 HPm.out (by have := HPd.out.tl; omega))
      have hkx : B.known ≠ 0 := by rw [HKk.out.2]; have := HPd.out.a.l1; omega
      have hky : A.known ≠ 0 := by rw [HKk.out.1]; have := HPd.out.b.l1; omega
      go_wp2_with fail
      refine HN.out.mono ?_
      rintro e w8 (⟨hk0, _, _⟩ | ⟨_, m, x, s', K', S', rfl, hx, q1, q2, hns, hpm, -⟩)
      · exact absurd hk0 hkx
      have hup := ((HPd.out.b.nowS hkx hns).cur hkx x (List.mem_of_getElem? hx) q1 q2).2.1
      have HPd2 := hide (HPd.out.nowed1 hkx hns)
      have HPe2 := hide (HPe.out.nowed1 hns)
      have HPm2 := hide hpm
      obtain ⟨gs, cg, hv, hgs, y0, y1, y2, y3, yf⟩ := hpm.ss1.cells hx
      obtain ⟨ua, uc, huv⟩ := (hpm.ss1.rows m x hx).2.form
      rw [huv, hup] at y3
      have hmS := (List.getElem?_eq_some_iff.1 hx).1
      have HHa : Hid (∀ w', Below w8.heap.size w8 w' → _) := fun w' hb => handed1 w' (ext K' w8.heap.size (9, 9)) pb W M l0 l1 b0 b1 sv _ _ _ _ m x (hpm.below hb (9, 9)).pk (hpm.below hb (9, 9)).ss1 (hpm.below hb (9, 9)).ss0 hx (by have := HPd.out.sl; omega)
      have hTl : ∀ y ∈ S, y.mine = x.yours → y.yours = x.mine → y.inn.length = B.handed := fun y hy e1 e2 => by
        have := (HPd.out.a.cur hky y hy (e1.trans (q2.trans HKk.out.2)) (e2.trans (q1.trans HKk.out.1.symm))).1
        rw [this]; exact HOv.out.2.2.1
      have hNo : (∀ y ∈ S, ¬ (y.mine = x.yours ∧ y.yours = x.mine)) → B.handed = 0 := fun hno => by
        have := (HPd.out.a.non hky (fun y hy q => hno y hy ⟨q.1.trans (HKk.out.2.symm.trans q2.symm), q.2.trans (HKk.out.1.trans q1.symm)⟩)).1
        rw [← HOv.out.2.2.1]; exact this
      have HIv : Hid (∀ (n : Nat) (y : Sm), S[n]? = some y → ∃ a c, y.iv = .slice a y.inn.length c) := fun n y hy => (hpm.ss0.rows n y hy).1.form
      have HTl := hide hTl
      have HNo := hide hNo
      obtain ⟨p0, p1, p2, p3, p4, p5, p6, p7, p8, pf, hpb⟩ := hpm.pk.cells
      rw [hv] at p8
      obtain ⟨hh, hhh⟩ : ∃ hh, B.handed = hh := ⟨_, rfl⟩
      rw [hhh] at y3 HTl HNo
      have n1 : ¬ (m : Int) < 0 := by omega
      have n2 : (0 : Int) ≤ (m : Int) := by omega
      have n3 : (m : Int) < (S'.length : Int) := by omega
      have HHq : Hid (∀ w', Below w8.heap.size w8 w' → Calls Tryd.prog 13 #[.pointer (some ⟨pb, 0, none⟩), .int .i64 1, .int .i64 (m : Int)] w' fun e w'' => ∃ aq cq, e = .returned (.slice aq hh cq) ∧ Below w8.heap.size w8 w'') := fun w' hb => by
        refine (HHa.out w' hb).mono ?_
        rintro e w'' ⟨hb2, (⟨n2, y, hy, e1, e2, -, rfl⟩ | ⟨hno, rfl⟩)⟩
        · obtain ⟨aq, cq, hq⟩ := HIv.out n2 y hy
          rw [HTl.out y (List.mem_of_getElem? hy) e1 e2] at hq
          exact ⟨aq, cq, by rw [hq], hb.trans (hb2.mono hb.size)⟩
        · have h0 := HNo.out (fun y hy q => by
            obtain ⟨n2, hn2⟩ := List.mem_iff_getElem?.1 hy
            exact hno n2 y (List.getElem?_eq_some_iff.1 hn2).1 hn2 q)
          rw [h0]
          exact ⟨none, 0, rfl, hb.trans (hb2.mono hb.size)⟩
      clear hx q1 q2 hns hpm hv huv HHa y0 y1 y2 yf hup hTl hNo HN HPm hhh
      go_upto_region 32 with (fail)
      go_region_held3 (fun w' => w'.cell? ⟨pb, 8, none⟩ = some (.slice (some ⟨gs, 0, none⟩) S'.length cg) ∧ w'.cell? ⟨gs, m * 4 + 3, none⟩ = some (.slice ua hh uc)) (go_keep) (first | (go_at_call 13; refine (HHq.out _ (by first | exact Below.refl _ _ | exact (Below.refl _ _).drew)).mono ?_; rintro e w9 ⟨aq, cq, rfl, hb9⟩; have p7n := (hb9.cell (p := ⟨pb, 8, none⟩) hpb).trans p8; have y3n := (hb9.cell (p := ⟨gs, m * 4 + 3, none⟩) hgs).trans y3; have HB9 := hide hb9; clear hb9) | fail)
      have HE : Hid (Pst w1 w9 pb W M l0 l1 b0 b1 A B (kt + 1 + 1)) := ⟨_, _, _, _, _, _, _, _, _, HPm2.out.below HB9.out (9, 9), HPd2.out, HPe2.out⟩
      go_wp2
      first
        | exact ⟨⟨1 + 1, by omega, by go_num, HE⟩, by simp [intOf]⟩
        | (go_roundw
           case rel => exact ⟨1 + 1, by omega, by go_num, HE⟩
           case measure => simp [intOf])
    obtain rfl : j = 2 := by omega
    have hbel : Below w1.heap.size w1 wx := HPm.out.bel
    have HBe := hide hbel
    clear hbel HPm HPd HPe
    go_wp2_with fail
    refine (HBg.out wx HBe.out).mono ?_
    rintro e w9 ⟨rfl, hb9⟩
    have HE := hide (HB1.out.trans ((HBe.out.trans (hb9.mono HBe.out.size)).mono HB1.out.size))
    clear hb9
    go_wp2
    go_ret
    exact ⟨rfl, HE.out⟩
end Go.Proofs.YtbcpoejpbhpcbaaDoor
