import Derived.Test.YtlmfohcdaahojabGreatDoorJFullR
import Derived.Deep.CutRange
import Derived.Lib.SlBytesConst
namespace Go.Proofs.YtlmfohcdaahojabGreatDoor
open Go.RowKit Go.Maps

set_option maxRecDepth 100000 in
set_option maxHeartbeats 8000000 in
theorem jfull_all (W : World) (hT : C.Tab W) (rm : Int) (sp : Option Addr) (m cap : Nat) (l : List Cl) (hm : l.length = m) (hml : m ≤ 140737488355328) (hC : Cls W sp l) (hO : ∀ c ∈ l, ClOk W c) (az sz : Int) (p1 : Option Addr) (n1 c1 : Nat) (p2 : Option Addr) (n2 c2 : Nat) (p3 : Option Addr) (n3 c3 : Nat) :
    Calls Tryz.prog 3 #[.agg #[.int .i64 rm, .slice sp m cap, .int .i64 az, .int .i64 sz, .slice p1 n1 c1, .slice p2 n2 c2, .slice p3 n3 c3]] W fun e w' => e = .returned (.bool true) ∧ Below W.heap.size W w' := by
  have HT := hide hT
  have HM := hide hm
  have HC := hide hC
  have HO := hide hO
  obtain ⟨bx, hbx⟩ : ∃ bx : Obj, bx = .cells #[.int .i64 rm, .slice sp m cap, .int .i64 az, .int .i64 sz, .slice p1 n1 c1, .slice p2 n2 c2, .slice p3 n3 c3] 25 := ⟨_, rfl⟩
  have HBx := hide hbx
  have hb1 : Below W.heap.size W (W.alloc (.cells #[.int .i64 rm, .slice sp m cap, .int .i64 az, .int .i64 sz, .slice p1 n1 c1, .slice p2 n2 c2, .slice p3 n3 c3] 25)) := (Below.refl _ _).alloc (Nat.le_refl _) _
  have hx1 : (W.alloc (.cells #[.int .i64 rm, .slice sp m cap, .int .i64 az, .int .i64 sz, .slice p1 n1 c1, .slice p2 n2 c2, .slice p3 n3 c3] 25)).heap[W.heap.size]? = some bx := by rw [hbx]; exact heap_alloc_new _ _
  have HWk := hide (wakes_any _ (hT.below hb1 hT.pos))
  have HB1 := hide hb1
  have HX1 := hide hx1
  obtain ⟨ra, hra, era⟩ := and16 rm
  obtain ⟨aa, haa, eaa⟩ := and16 az
  obtain ⟨sa, hsa, esa⟩ := and16 sz
  obtain ⟨rb, hrb⟩ : ∃ rb, ra % 3000 = rb := ⟨_, rfl⟩
  have hrb1 : (ra : Int).tmod 3000 = (rb : Int) := by rw [Int.tmod_eq_emod_of_nonneg (by omega)]; omega
  have hrb2 : rb < 3000 := by omega
  obtain ⟨sb, hsb⟩ : ∃ sb, sa % 4 = sb := ⟨_, rfl⟩
  have hsb1 : (sa : Int).tmod 4 = (sb : Int) := by rw [Int.tmod_eq_emod_of_nonneg (by omega)]; omega
  have hsb2 : sb < 4 := by omega
  have HSb1 := hide hsb1
  have HEs := hide esa
  have HEa := hide eaa
  clear hb1 hx1 hT hm hC hO hbx hrb hsb hsb1 esa eaa
  go_enter Tryz.func3, Tryz.ntmps3
  go_wp2_with fail
  refine HWk.out.mono ?_
  rintro e w2 ⟨rfl, hb2⟩
  have hb2' : Below W.heap.size W w2 := HB1.out.trans (hb2.mono (by simp))
  have hx2 : w2.heap[W.heap.size]? = some bx := (hb2.block _ (by simp)).trans HX1.out
  have HB2 := hide hb2'
  have HX2 := hide hx2
  have hs2 := lt_of_block hx2
  have hbw : w2.heap[W.heap.size]? = some (.cells #[.int .i64 rm, .slice sp m cap, .int .i64 az, .int .i64 sz, .slice p1 n1 c1, .slice p2 n2 c2, .slice p3 n3 c3] 25 (0, 0)) := hx2.trans (congrArg some HBx.out)
  have y0 : w2.cell? ⟨W.heap.size, 0, none⟩ = some (.int .i64 rm) := by simp [World.cell?, hbw]
  obtain ⟨ρ, hρ⟩ : ∃ ρ, 200 + rb = ρ := ⟨_, rfl⟩
  have hρi : (200 : Int) + (rb : Int) = (ρ : Int) := by omega
  have hρ2 : ρ ≤ 16777216 := by omega
  have HOp := hide (opened_any w2 (fun _ => (0, 0)) 1 2 (by decide) (by decide) (by decide) (.slice none 0 0) [] ρ ρ (by simp [sumI]) (im_nil _ _) (fun _ h => by cases h) hρ2 (by simp [okB, chn, sumI]) (new_stl hρ2).inv 0 (new_stl hρ2).sz (by omega) rfl (HT.out.below HB2.out HT.out.pos) rfl)
  clear hb2 hb2' hx2 hbw
  go_wp2_with fail
  refine HOp.out.mono ?_
  rintro e w3 ⟨d, jb, K3, rfl, hd3, hj3, hk3⟩
  have nq0 : ¬ Gq 1 2 (0, 0) := fun h => h.elim (fun h => by cases h) (fun h => by cases h)
  have hk3' : Kp (Gq 1 2) (fun _ => (0, 0)) K3 w2 w3 := hk3
  have hM3 : Gm (Gq 1 2) K3 w3 K3 w3 1 2 d jb (St.laid ρ []) (jnew jx ([], 0, false, 0)) (.slice none 0 0) [] := ⟨hd3, hj3, ⟨[], bop_nil _ _ _⟩, Kp.refl _ _ _⟩
  have hb3 : Below W.heap.size W w3 := HB2.out.trans ⟨hk3'.os, hk3'.tape, hk3'.output, Nat.le_trans (Nat.le_of_lt hs2) hk3'.size |> fun h => hk3'.size, fun b hlt => hk3'.block b (by omega) nq0⟩
  have hx3 : w3.heap[W.heap.size]? = some bx := (hk3'.block _ hs2 nq0).trans HX2.out
  have ho3 : ∀ b, b < w2.heap.size → K3 b = (0, 0) := fun b hb => hk3'.same b hb
  have HM3 := hide hM3
  have HB3 := hide hb3
  have HX3 := hide hx3
  have HO3 := hide ho3
  have hs3 := lt_of_block hx3
  have hs23 := hk3'.size
  have hbw : w3.heap[W.heap.size]? = some (.cells #[.int .i64 rm, .slice sp m cap, .int .i64 az, .int .i64 sz, .slice p1 n1 c1, .slice p2 n2 c2, .slice p3 n3 c3] 25 (0, 0)) := hx3.trans (congrArg some HBx.out)
  have y1 : w3.cell? ⟨W.heap.size, 1, none⟩ = some (.slice sp m cap) := by simp [World.cell?, hbw]
  have HPl := hide (places_any w3 sp m cap l 12 HM.out hml (by omega) (HC.out.below HB3.out) (fun c hc => (HO.out c hc).below HB3.out))
  rw [show ((12 : Nat) : Int) = 12 from rfl] at HPl
  clear hd3 hj3 hk3 hk3' hM3 hb3 hx3 ho3 hbw y0 HB2 HX2 HB1 HX1 HWk HOp
  go_wp2_with fail
  refine HPl.out.mono ?_
  rintro e w4 ⟨la, lc, rfl, hr4, hb4⟩
  obtain ⟨L, hLq⟩ : ∃ L, plc l 12 = L := ⟨_, rfl⟩
  rw [hLq] at hr4 ⊢
  obtain ⟨q, hq⟩ : ∃ q, L.length = q := ⟨_, rfl⟩
  rw [hq] at hr4 ⊢
  have hq12 : q ≤ 12 := by rw [← hq, ← hLq]; unfold plc; rw [List.length_take]; omega
  have hLm : ∀ x ∈ L, fitsB x.ps = true ∧ ClOk W x := fun x hx => by
    rw [← hLq] at hx
    have h1 := List.mem_of_mem_take hx
    have h2 := List.mem_filter.1 h1
    exact ⟨h2.2, HO.out x h2.1⟩
  have HM4 := hide ((HM3.out.below hb4).self)
  have HB4 := hide (HB3.out.trans (hb4.mono (Nat.le_of_lt hs3)))
  have hx4 : w4.heap[W.heap.size]? = some bx := (hb4.block _ hs3).trans HX3.out
  have HX4 := hide hx4
  have HCl : Hid (Clr w4 (ext K3 w3.heap.size (0, 0)) la L) := by
    have hl := cls_own hr4
    refine ⟨hl.lie.imp id ?_⟩
    rintro ⟨g, o, e, hg, hc⟩
    refine ⟨g, o, e, hg, ?_, hc⟩
    rcases hr4.2 with ⟨e1, _⟩ | ⟨g3, _, _, e1, e2, _⟩
    · rw [e] at e1; cases e1
    · rw [e] at e1; cases e1; exact ext_new _ _ e2
  have HO4 : Hid (∀ b, b < w2.heap.size → (ext K3 w3.heap.size (0, 0)) b = (0, 0)) := fun b hb => (ext_old K3 _ (by omega)).trans (HO3.out b hb)
  have HLm := hide hLm
  have HLq := hide hq
  obtain ⟨_, _, hlf, hlc, hlc2⟩ := owns_form hr4
  cases hlf
  unfold maxLen at hlc2
  have hs4 := Nat.lt_of_lt_of_le hs3 hb4.size
  have hsz4 : w2.heap.size ≤ w4.heap.size := Nat.le_trans hs23 hb4.size
  clear hr4 hb4 hLq hq hLm hx4 y1 HM3 HB3 HX3 HO3 HPl HC HO HM
  generalize ext K3 w3.heap.size (0, 0) = K4 at *
  go_wp2
  go_loopw [6, 8] (fun bv i wr => ∃ (c : Nat) (K : Knd) (S : St) (J : Jr) (lb : List (List (List Nat))) (n : Nat), c ≤ q ∧ i = .int .i64 c ∧ Hid (Gm (Gq 1 2) K wr K wr 1 2 d jb S J bv lb) ∧ Hid (Fd ρ S J lb n c) ∧ Hid (Kp (Gq 1 2) K4 K w4 wr)) (fun _ i _ => q - (intOf i).toNat)
  case atStart => exact ⟨0, K4, _, _, _, 1, Nat.zero_le _, rfl, HM4, hide (fd_new hρ2), hide (Kp.refl _ _ _)⟩
  case round =>
    obtain ⟨c, K, S, J, lb, n, hc, rfl, HM, HD, HK⟩ := hrel
    by_cases hlt : c < q
    · have hlt' : (c : Int) < (q : Int) := by omega
      have c0 : (0 : Int) ≤ (c : Int) := by omega
      have hxr : wr.heap[W.heap.size]? = some bx := (HK.out.block _ hs4 (by rw [HO4.out _ hs2]; exact nq0)).trans HX4.out
      have hbw : wr.heap[W.heap.size]? = some (.cells #[.int .i64 rm, .slice sp m cap, .int .i64 az, .int .i64 sz, .slice p1 n1 c1, .slice p2 n2 c2, .slice p3 n3 c3] 25 (0, 0)) := hxr.trans (congrArg some HBx.out)
      have y2 : wr.cell? ⟨W.heap.size, 2, none⟩ = some (.int .i64 az) := by simp [World.cell?, hbw]
      have y3 : wr.cell? ⟨W.heap.size, 3, none⟩ = some (.int .i64 sz) := by simp [World.cell?, hbw]
      have eaa := HEa.out
      obtain ⟨ab, hab⟩ : ∃ ab, aa % (q + 1) = ab := ⟨_, rfl⟩
      have hab1 : (aa : Int).tmod ((q : Int) + 1) = (ab : Int) := by rw [Int.tmod_eq_emod_of_nonneg (by omega)]; rw [← hab]; push_cast; rfl
      have hq1 : ¬ (q : Int) + 1 = 0 := by omega
      have hab2 : ab ≤ q := by have := Nat.mod_lt aa (show q + 1 > 0 by omega); omega
      clear hxr hbw hab
      obtain ⟨x, hx⟩ : ∃ x, L[c]? = some x := ⟨_, List.getElem?_eq_getElem (by have := HLq.out; omega)⟩
      have hCw := HCl.out.kept HK.out nq0
      obtain ⟨g, og, rfl, hgl, hgk, hcs⟩ : ∃ g o, la = some ⟨g, o, none⟩ ∧ g < wr.heap.size ∧ K g = (0, 0) ∧ ∀ (j : Nat) (c : Cl), L[j]? = some c → wr.cell? ⟨g, o + j * 2, none⟩ = some (.bool c.b) ∧ wr.cell? ⟨g, o + j * 2 + 1, none⟩ = some (.slice c.pp c.k c.cap) := by
        rcases hCw.lie with e | e
        · rw [e] at hx; simp at hx
        · exact e
      have HC1 : Hid (Clr wr K (some ⟨g, og + c * 2, none⟩) [x]) := ⟨Or.inr ⟨g, og + c * 2, rfl, hgl, hgk, fun j y hy => by
        have hj : j = 0 := by have := (List.getElem?_eq_some_iff.1 hy).1; simpa using this
        subst hj
        simp at hy
        subst hy
        simpa using hcs c x hx⟩⟩
      have HX : Hid (∀ y ∈ [x], Stay (Gq 1 2) K wr y.pp y.ps ∧ y.ps.length = y.k ∧ fitsB y.ps = true ∧ ∀ p ∈ y.ps, ∀ z ∈ p, z < 256) := fun y hy => by
        simp at hy
        subst hy
        obtain ⟨h1, h2⟩ := HLm.out y (List.mem_of_getElem? hx)
        exact ⟨Stay.later (stay_of nq0 HB4.out (fun b hb => HO4.out b (by omega)) h2.pts) HK.out, h2.len, h1, h2.small⟩
      have HGd : Hid (∀ c' S J l, (c' ≤ 100 ∧ ∃ n, Fd ρ S J l n c') → Gd S J l) := fun c' S J l ⟨h1, n, h2⟩ => h2.gd (by omega)
      have HSt : Hid (∀ c' S J l, (c' ≤ 100 ∧ ∃ n, Fd ρ S J l n c') → c' < c + 1 → ∀ x' ∈ [x], (∃ S' J', callR x'.b S J x'.ps = (44, S', J') ∧ (c' + 1 ≤ 100 ∧ ∃ n, Fd ρ S' J' l n (c' + 1))) ∨ (∃ S' J', callR x'.b S J x'.ps = (0, S', J') ∧ (c' + 1 ≤ 100 ∧ ∃ n, Fd ρ S' J' (lAf x'.b l x'.ps) n (c' + 1)))) := fun c' S J l ⟨h1, n, h2⟩ h3 y hy => by
        obtain ⟨_, _, y3, y4⟩ := HX.out y hy
        rcases h2.step (by omega) y.b y.ps y3 y4 with ⟨e1, _, e2⟩ | ⟨S', J', e1, e2⟩
        · exact Or.inl ⟨_, _, e1, by omega, n, e2⟩
        · exact Or.inr ⟨S', J', e1, by omega, _, e2⟩
      have hcc : c ≤ lc := by omega
      clear hcs hCw hx hgl hgk
      by_cases hca : c = ab
      · have hca' : ((c : Int) == (ab : Int)) = true := by simp; omega
        clear hca
        have esa := HEs.out
        have hsb1 := HSb1.out
        have HPn := hide (Plan_any wr K 1 d S HM.out.dk 0 (1 + (sb : Int)) (1 + (sb : Int) + 3))
        go_wp2_with fail
        refine HPn.out.mono ?_
        rintro e w7 ⟨K7, rfl, hd7, hk7⟩
        have HM7 := hide (HM.out.planned (by decide) (by decide) hk7 hd7)
        have HD7 := hide (HD.out.plan (1 + (sb : Int)) (1 + (sb : Int) + 3))
        have hk7' : Kp (Gq 1 2) K K7 wr w7 := hk7.mono fun _ e => Or.inl e
        have HK7 := hide (HK.out.trans hk7')
        have HC7 := hide (HC1.out.kept hk7' nq0)
        have HX7 : Hid (∀ y ∈ [x], Stay (Gq 1 2) K7 w7 y.pp y.ps ∧ y.ps.length = y.k ∧ fitsB y.ps = true ∧ ∀ p ∈ y.ps, ∀ z ∈ p, z < 256) := fun y hy => ⟨Stay.later (HX.out y hy).1 hk7', (HX.out y hy).2⟩
        clear hk7 hk7' hd7 y2 y3
        have HGo := hide (goes_any w7 K7 1 2 d jb (by decide) (by decide) (by decide) (S.planR 0 (1 + (sb : Int)) (1 + (sb : Int) + 3)) J u6 lb HM7.out (tab_kp (HT.out.below HB4.out HT.out.pos) HK7.out (HO4.out 0 (by have := HT.out.pos; omega)) nq0) ((HK7.out.same 0 (by have := HT.out.pos; omega)).trans (HO4.out 0 (by have := HT.out.pos; omega))) (some ⟨g, og + c * 2, none⟩) 1 (lc - c) [x] rfl (by omega) HC7.out HX7.out (fun c' S J l => c' ≤ 100 ∧ ∃ n, Fd ρ S J l n c') HGd.out c HSt.out ⟨by omega, n, HD7.out⟩)
        go_wp2_with fail
        refine HGo.out.mono ?_
        rintro e w8 ⟨v8, S8, J8, l8, K8, rfl, hm8, _, n8, hd8⟩
        have HM8 := hide hm8.self
        have HD8 := hide hd8
        have HK8 := hide (HK7.out.trans hm8.kp)
        clear hm8 hd8
        clear HGo HGd HSt HX HC1 hab1 hq1 eaa
        go_wp2_with fail
        exact ⟨⟨c + 1, K8, S8, J8, l8, n8, by omega, by go_num, HM8, HD8, HK8⟩, by simp [intOf]; omega⟩
      · have hca' : ¬ (c : Int) = (ab : Int) := by omega
        have HGo := hide (goes_any wr K 1 2 d jb (by decide) (by decide) (by decide) S J u6 lb HM.out (tab_kp (HT.out.below HB4.out HT.out.pos) HK.out (HO4.out 0 (by have := HT.out.pos; omega)) nq0) ((HK.out.same 0 (by have := HT.out.pos; omega)).trans (HO4.out 0 (by have := HT.out.pos; omega))) (some ⟨g, og + c * 2, none⟩) 1 (lc - c) [x] rfl (by omega) HC1.out HX.out (fun c' S J l => c' ≤ 100 ∧ ∃ n, Fd ρ S J l n c') HGd.out c HSt.out ⟨by omega, n, HD.out⟩)
        go_wp2_with fail
        refine HGo.out.mono ?_
        rintro e w8 ⟨v8, S8, J8, l8, K8, rfl, hm8, _, n8, hd8⟩
        have HM8 := hide hm8.self
        have HD8 := hide hd8
        have HK8 := hide (HK.out.trans hm8.kp)
        clear hm8 hd8
        clear HGo HGd HSt HX HC1 hab1 hq1 eaa
        go_wp2_with fail
        exact ⟨⟨c + 1, K8, S8, J8, l8, n8, by omega, by go_num, HM8, HD8, HK8⟩, by simp [intOf]; omega⟩
    · obtain rfl : c = q := by omega
      have hlt' : ¬ (c : Int) < (c : Int) := by omega
      obtain ⟨vs0, hbk0⟩ := HM.out.bk
      obtain ⟨av, cv, rfl, hcv, hcv2⟩ := hbk0.row.form
      unfold maxLen at hcv2
      clear hbk0 vs0
      have hCr := Crash_any wr K 1 d S HM.out.dk HD.out.stl.inv (20971525 * c) HD.out.stl.sz (by omega) none 0 0 [] rfl ⟨Or.inl rfl⟩ (by omega)
      rw [stl_crash HD.out.stl []] at hCr
      have HCr := hide hCr
      have hus := HD.out.used
      have HF2 := hide (HD.out.again hρ2)
      have HLok : Hid (okB S.image ρ = true) := image_ok HD.out.stl.inv HD.out.stl.on.off hus
      have HNm : Hid (∀ p ∈ S.image, p.1.length ≤ 140737488355328) := fun p hp => by have := (nm_len (image_read HD.out.stl.inv hp).2.2).2; omega
      have HSum : Hid (max (sumI S.image) ρ = ρ) := by
        have h : sumI S.image ≤ ρ := by
          have h := HLok.out
          simp only [okB, Bool.and_eq_true, decide_eq_true_eq] at h
          exact h.2
        show max _ _ = _
        omega
      clear hCr hus hlt
      go_wp2_with fail
      refine HCr.out.mono ?_
      rintro e w5 ⟨v5, rfl, hi5, hb5⟩
      have hfo := HD.out.found ρ
      have hOp := opened_any w5 (ext K wr.heap.size (0, 0)) 1 2 (by decide) (by decide) (by decide) v5 S.image ρ ρ HSum.out hi5 HNm.out hρ2 HLok.out HF2.out.stl.inv (20971525 * c) HF2.out.stl.sz (by omega) (by rw [hfo]) (tab_kp (HT.out.below HB4.out HT.out.pos) (HK.out.trans (kp_below hb5 (Gq 1 2) K (0, 0))) (HO4.out 0 (by have := HT.out.pos; omega)) nq0) ((ext_old _ _ (by have := HK.out.size; have := HT.out.pos; omega)).trans ((HK.out.same 0 (by have := HT.out.pos; omega)).trans (HO4.out 0 (by have := HT.out.pos; omega))))
      rw [hfo] at hOp
      have HOp := hide hOp
      have HK5 := hide (HK.out.trans (kp_below hb5 (Gq 1 2) K (0, 0)))
      have HM5 := hide ((HM.out.below hb5).self)
      obtain ⟨a5, c5, hv5, _, _⟩ := hi5.form
      subst hv5
      clear hi5 hb5 hfo hOp HCr
      go_wp2_with fail
      refine HOp.out.mono ?_
      rintro e w6 ⟨d2, jb2, K6, rfl, hd6, hj6, hk6⟩
      have HM6 := hide (HM5.out.anew nq0 hk6 hd6 hj6)
      have HK6 := hide (HK5.out.trans hk6)
      clear hd6 hj6 hk6 HOp
      have HT6 : Hid (C.Tab w6) := tab_kp (HT.out.below HB4.out HT.out.pos) HK6.out (HO4.out 0 (by have := HT.out.pos; omega)) nq0
      have HZ6 : Hid (K6 0 = (0, 0)) := (HK6.out.same 0 (by have := HT.out.pos; omega)).trans (HO4.out 0 (by have := HT.out.pos; omega))
      have gd := HF2.out.gd (by omega)
      have hAll := All_any w6 K6 2 d2 jb2 (jagain n lb) HM6.out.jk gd.lens (by rw [gd.ln]; have := gd.bk; omega) HT6.out
      rw [gd.all, gd.ln] at hAll
      have HAll := hide hAll
      have HFw := hide gd.few
      have hl9 : lb.length ≤ 900 := gd.bk
      clear hAll gd
      go_wp2_with fail
      refine HAll.out.mono ?_
      rintro e wA ⟨aA, cA, rfl, htr, hbw⟩
      have HMA := hide ((HM6.out.below hbw).self)
      have HKA := hide (HK6.out.trans (kp_below hbw (Gq 1 2) K6 (0, 0)))
      obtain ⟨vsA, hbA⟩ := HMA.out.bk
      have HTr := hide (trans_same wA aA av lb.length cA cv lb rfl (by omega) (htr.trs HFw.out) (hbA.trs fun _ _ h => h _ _ (Kp.refl _ _ _)))
      clear htr hbw hbA vsA HAll
      go_wp2_with fail
      refine HTr.out.mono ?_
      rintro e wB ⟨rfl, qq, hwB⟩
      have hstill : Kp (fun _ => False) (ext K6 w6.heap.size (0, 0)) (ext K6 w6.heap.size (0, 0)) wA wB := by rw [hwB]; exact (Kp.refl _ _ _).drewN qq
      have HMB := hide ((HMA.out.still hstill).self)
      have HKB := hide (HKA.out.trans (hstill.mono (q := Gq 1 2) fun _ h => h.elim))
      clear hwB hstill HTr
      generalize ext K6 w6.heap.size (0, 0) = KB at *
      have hRd := Read_any wB KB 1 d2 (St.laid ρ S.image) HMB.out.dk HF2.out.stl.inv (20971525 * c) HF2.out.stl.sz (by omega) jx (by decide)
      obtain ⟨L2, hL2⟩ : ∃ L2, ((St.laid ρ S.image).bytes jx).length = L2 := ⟨_, rfl⟩
      have hL3 : L2 ≤ 16777216 := by rw [← hL2]; exact bytes_le HF2.out.stl.inv jx
      rw [hL2] at hRd
      have HRd : Hid (Calls Tryz.prog 15 #[.pointer (some ⟨d2, 0, none⟩), .string ⟨#[106]⟩] wB fun e w' => ∃ a c, e = .returned (.tuple #[.slice a L2 c, .int .i64 ((St.laid ρ S.image).err jx : Int)]) ∧ w'.ownsRow wB.heap.size 5 1 (.slice a L2 c) L2 (vals ((St.laid ρ S.image).bytes jx)) ∧ Below wB.heap.size wB w') := hRd
      have HL2 := hide hL2
      clear hRd hL2
      go_wp2_with fail
      refine HRd.out.mono ?_
      rintro e w7 ⟨a7, c7, rfl, _, hb7⟩
      have HM7 := hide ((HMB.out.below hb7).self)
      have HK7 := hide (HKB.out.trans (kp_below hb7 (Gq 1 2) KB (0, 0)))
      clear hb7 HRd
      generalize ext KB wB.heap.size (0, 0) = K7 at *
      have HBW : Hid (∀ K' w', Kp (Gq 1 2) K4 K' w4 w' → Below W.heap.size W w') := fun K' w' hk => hk.below HB4.out (fun b hb => by rw [HO4.out b (by omega)]; exact nq0)
      by_cases hroom : (ρ : Int) - 32 < (L2 : Int)
      · go_wp2
        go_ret
        exact ⟨rfl, HBW.out _ _ HK7.out⟩
      · have hRd := Read_any w7 K7 1 d2 (St.laid ρ S.image) HM7.out.dk HF2.out.stl.inv (20971525 * c) HF2.out.stl.sz (by omega) (jx ++ newE) (by decide)
        obtain ⟨L4, hL4⟩ : ∃ L4, ((St.laid ρ S.image).bytes (jx ++ newE)).length = L4 := ⟨_, rfl⟩
        obtain ⟨E4, hE4⟩ : ∃ E4, (St.laid ρ S.image).err (jx ++ newE) = E4 := ⟨_, rfl⟩
        rw [hL4, hE4] at hRd
        have HRd : Hid (Calls Tryz.prog 15 #[.pointer (some ⟨d2, 0, none⟩), .string ⟨#[106, 46, 110, 101, 119]⟩] w7 fun e w' => ∃ a c, e = .returned (.tuple #[.slice a L4 c, .int .i64 (E4 : Int)]) ∧ w'.ownsRow w7.heap.size 5 1 (.slice a L4 c) L4 (vals ((St.laid ρ S.image).bytes (jx ++ newE))) ∧ Below w7.heap.size w7 w') := hRd
        clear hRd hL4 hE4
        go_wp2_with fail
        refine HRd.out.mono ?_
        rintro e w8 ⟨a8, c8, rfl, _, hb8⟩
        have HM8 := hide ((HM7.out.below hb8).self)
        have HK8 := hide (HK7.out.trans (kp_below hb8 (Gq 1 2) K7 (0, 0)))
        clear hb8 HRd
        generalize ext K7 w7.heap.size (0, 0) = K8 at *
        by_cases he : ((E4 : Int) == 0) = true
        · go_wp2
          go_ret
          exact ⟨rfl, HBW.out _ _ HK8.out⟩
        · have he' : ((E4 : Int) == 0) = false := by simpa using he
          clear he
          have hcb := fun (w : World) (C : Array Value) (n c : Nat) => Lib.run_convert_bytes_const (P := Tryz.prog) w 42 5 C n c Tryz.underlying42 Tryz.underlying5
          go_wp2_with fail
          obtain ⟨b9, hC9, hX9⟩ := z_list w8 K8 nq0 _ rfl
          have HM9 := hide ((HM8.out.below b9).self)
          have HK9 := hide (HK8.out.trans (kp_below b9 (Gq 1 2) K8 (0, 0)))
          have hus2 : (St.laid ρ S.image).used + 32 ≤ ρ := by
            rw [used_one HF2.out.stl.inv HF2.out.vis, ← bytes_view rfl jx_ok.1, HL2.out]
            omega
          have HGo := hide (goes_any _ _ 1 2 d2 jb2 (by decide) (by decide) (by decide) (St.laid ρ S.image) (jagain n lb) (.slice av lb.length cv) lb HM9.out (tab_kp (HT.out.below HB4.out HT.out.pos) HK9.out (HO4.out 0 (by have := HT.out.pos; omega)) nq0) ((HK9.out.same 0 (by have := HT.out.pos; omega)).trans (HO4.out 0 (by have := HT.out.pos; omega))) _ 1 1 _ rfl (by omega) hC9 hX9 (Gz ρ n c (St.laid ρ S.image) (jagain n lb) lb) (gz_gd HF2.out (by omega)) 0 (gz_step HF2.out (by omega) rfl hus2 ⟨rfl, rfl⟩) (Or.inl ⟨rfl, rfl, rfl, rfl⟩))
          clear b9 hC9 hX9
          refine HGo.out.mono ?_
          rintro e wD ⟨v9, S9, J9, l9, K9, rfl, hm9, hz9⟩
          have hl9' : l9 = lb ++ [[[122]]] := by
            rcases hz9 with ⟨h, _⟩ | ⟨_, h, _⟩
            · omega
            · exact h
          subst hl9'
          have HMD := hide hm9.self
          have HKD := hide (HK9.out.trans hm9.kp)
          obtain ⟨vsD, hbD⟩ := HMD.out.bk
          obtain ⟨aD, cD, rfl, hcD, hcD2⟩ := hbD.row.form
          have htrD := hbD.trs fun _ _ h => h _ _ (Kp.refl _ _ _)
          obtain ⟨gD, rfl⟩ : ∃ gD, aD = some ⟨gD, 0, none⟩ := by
            rcases hbD.row.own.2 with ⟨_, h2⟩ | ⟨g, cap, cur, h1, _⟩
            · simp at h2
            · cases h1; exact ⟨g, rfl⟩
          have HTrD := hide htrD
          obtain ⟨N, hN⟩ : ∃ N, lb.length = N := ⟨_, rfl⟩
          have HN := hide hN
          have hlen : (lb ++ [([[122]] : List (List Nat))]).length = N + 1 := by rw [List.length_append, hN]; rfl
          rw [hlen] at hcD ⊢
          clear hlen
          unfold maxLen at hcD2
          clear hm9 hz9 hbD htrD HGo
          have n1 : ((N + 1 : Nat) : Int) - 1 = (N : Int) := by omega
          have n2 : (0 : Int) < ((N + 1 : Nat) : Int) := by omega
          go_wp2_with fail
          obtain ⟨bE, hE⟩ := z_book wD _ rfl
          have hlast := (HTrD.out.below bE).last
          rw [HN.out] at hlast
          have HTr2 := hide (trans_same _ (some ⟨gD, N, none⟩) _ 1 (cD - N) 1 [[[122]]] rfl (by omega) hlast hE)
          have HBE := hide (HBW.out _ _ (HKD.out.trans (kp_below bE (Gq 1 2) _ (0, 0))))
          clear bE hE hlast
          refine HTr2.out.mono ?_
          rintro e wF ⟨rfl, qf, hwF⟩
          have HBF : Hid (Below W.heap.size W wF) := by rw [hwF]; exact ⟨HBE.out.os, HBE.out.tape, HBE.out.output, HBE.out.size, HBE.out.block⟩
          clear hwF HBE HTr2
          go_wp2
          go_ret
          exact ⟨rfl, HBF.out⟩
end Go.Proofs.YtlmfohcdaahojabGreatDoor
