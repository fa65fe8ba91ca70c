import Derived.Test.YtlmfohcdaahojaaGreatDoorJCrR
namespace Go.Proofs.YtlmfohcdaahojaaGreatDoor
open Go.RowKit Go.Maps

set_option maxRecDepth 100000 in
set_option maxHeartbeats 4000000 in
theorem goes_at (w : World) (K : Knd) (od o d jb : Nat) (hod : od ≠ 0) (ho : o ≠ 0) (hne : o ≠ od) (S : St) (J : Jr) (v : Value) (l : List (List (List Nat))) (hM : Gm (Gq od o) K w K w od o d jb S J v l) (hT : C.Tab w) (hK0 : K 0 = (0, 0))
    (sp : Option Addr) (m cap : Nat) (L : List Cl) (hm : L.length = m) (hml : m ≤ 100) (hC : Clr w K sp L) (hL : ∀ x ∈ L, Stay (Gq od o) K w x.pp x.ps ∧ x.ps.length = x.k ∧ fitsB x.ps = true ∧ ∀ p ∈ x.ps, ∀ y ∈ p, y < 256)
    (G : Nat → St → Jr → List (List (List Nat)) → Prop) (hG : ∀ c S J l, G c S J l → Gd S J l) (n0 : Nat)
    (hS : ∀ c S J l x, G (n0 + c) S J l → L[c]? = some x → (∃ S' J', callR x.b S J x.ps = (44, S', J') ∧ G (n0 + (c + 1)) S' J' l) ∨ (∃ S' J', callR x.b S J x.ps = (0, S', J') ∧ G (n0 + (c + 1)) S' J' (lAf x.b l x.ps))) (h0 : G n0 S J l) :
    Calls Tryz.prog 27 #[.pointer (some ⟨jb, 0, none⟩), .slice sp m cap, v] w fun e w' => ∃ v' S' J' l' K', e = .returned (.tuple #[v', .bool true]) ∧ Gm (Gq od o) K w K' w' od o d jb S' J' v' l' ∧ G (n0 + m) S' J' l' := by
  have nq0 : ¬ Gq od o (0, 0) := fun h => h.elim (fun h => hod h.symm) (fun h => ho h.symm)
  have HM := hide hM
  have HT := hide hT
  have HK0 := hide hK0
  have Hm := hide hm
  have HC := hide hC
  have HL := hide hL
  have HG := hide hG
  have HS := hide hS
  have H0 := hide h0
  clear hM hT hK0 hm hC hL hG hS h0
  go_enter Tryz.func27, Tryz.ntmps27
  go_wp2
  go_loopw [2, 8] (fun bv i wr => ∃ (c : Nat) (Kc : Knd) (S : St) (J : Jr) (l : List (List (List Nat))), c ≤ m ∧ i = .int .i64 c ∧ Hid (Gm (Gq od o) K w Kc wr od o d jb S J bv l) ∧ Hid (G (n0 + c) S J l)) (fun _ i _ => m - (intOf i).toNat)
  case atStart => exact ⟨0, K, S, J, l, Nat.zero_le _, rfl, HM, H0⟩
  case round =>
    clear HM H0
    obtain ⟨c, Kc, S, J, l, hc, rfl, HM, HD⟩ := hrel
    by_cases hlt : c < m
    · have hlt' : (c : Int) < (m : Int) := by omega
      have c0 : (0 : Int) ≤ (c : Int) := by omega
      obtain ⟨x, hx⟩ : ∃ x, L[c]? = some x := ⟨_, List.getElem?_eq_getElem (by have := Hm.out; omega)⟩
      obtain ⟨hst, hxl, hfx, hsm⟩ := HL.out x (List.mem_of_getElem? hx)
      have hcr := HS.out c S J l x HD.out hx
      have hCw := HC.out.kept HM.out.kp nq0
      obtain ⟨g, og, rfl, hgl, hgk, hcs⟩ : ∃ g o, sp = some ⟨g, o, none⟩ ∧ g < wr.heap.size ∧ Kc g = (0, 0) ∧ ∀ (j : Nat) (c : Cl), L[j]? = some c → wr.cell? ⟨g, o + j * 2, none⟩ = some (.bool c.b) ∧ wr.cell? ⟨g, o + j * 2 + 1, none⟩ = some (.slice c.pp c.k c.cap) := by
        rcases hCw.lie with e | e
        · rw [e] at hx; simp at hx
        · exact e
      obtain ⟨t0, t1⟩ := hcs c x hx
      obtain ⟨xb, xp, xk, xc, xs⟩ := x
      simp only at t0 t1 hfx hst hxl hsm hcr
      have hx4 : xk ≤ 4096 := by have := (fits_small hfx).1; omega
      obtain ⟨vs, hb⟩ := HM.out.bk
      obtain ⟨av, cv, rfl, _, _⟩ := hb.row.form
      have gd := HG.out _ _ _ _ HD.out
      obtain ⟨k, hk, hz⟩ := gd.sz
      have hRun := run_any xb wr Kc od o d jb hne S J HM.out.dk gd.inv k hz hk HM.out.jk gd.nm gd.gd (by rw [gd.ln]; have := gd.bk; omega) gd.last xp xk xc xs hxl hx4 (hst _ _ HM.out.kp) hsm (tab_kp HT.out HM.out.kp HK0.out nq0)
      have HSt := hide hst
      have HXl := hide hxl
      have HB := hide hb
      have hlb : l.length ≤ 900 := gd.bk
      clear hst hxl hfx hsm hb gd hk hz k hcs hCw hx
      rcases hcr with ⟨S', J', hcr, hd'⟩ | ⟨S', J', hcr, hd'⟩
      · rw [hcr] at hRun
        have HRun := hide hRun
        have HD5 : Hid (G (n0 + (c + 1)) S' J' l) := hd'
        clear hRun hcr hd'
        go_wp2_with fail
        refine HRun.out.mono ?_
        rintro e w5 ⟨K5, rfl, hd5, hj5, hk5⟩
        have hk5' := hk5.mono gq_pk
        have HB5 := hide (HB.out.kept hk5' nq0)
        have HM5 : Hid (Gm (Gq od o) K w K5 w5 od o d jb S' J' (.slice av l.length cv) l) := ⟨hd5, hj5, ⟨_, HB5.out⟩, HM.out.kp.trans hk5'⟩
        clear hd5 hj5 hk5 hk5'
        have gd5 := HG.out _ _ _ _ HD5.out
        have hAll := All_any w5 K5 o d jb J' HM5.out.jk gd5.lens (by rw [gd5.ln]; have := gd5.bk; omega) (tab_kp HT.out HM5.out.kp HK0.out nq0)
        rw [gd5.all, gd5.ln] at hAll
        have HAll := hide hAll
        have HFw := hide gd5.few
        have hl9 : (l).length ≤ 900 := gd5.bk
        clear hAll gd5
        go_wp2_with fail
        refine HAll.out.mono ?_
        rintro e wA ⟨aA, cA, rfl, htr, hbw⟩
        have HMA := hide (HM5.out.below hbw)
        have HTr := hide (trans_same wA aA av (l).length cA cv (l) rfl (by omega) (htr.trs HFw.out) ((HB5.out.kept (kp_below hbw (fun _ => False) K5 (0, 0)) (fun h => h)).trs fun _ _ h => h _ _ HMA.out.kp))
        clear htr hbw
        go_wp2_with fail
        refine HTr.out.mono ?_
        rintro e wB ⟨rfl, qq, hwB⟩
        have HMB := hide (HMA.out.still (w' := wB) (by rw [hwB]; exact (Kp.refl _ _ _).drewN qq))
        clear hwB
        go_wp2
        go_roundw
        case rel => exact ⟨c + 1, _, S', J', l, by omega, by go_num, HMB, HD5⟩
        case measure => simp [intOf]; omega
      · rw [hcr] at hRun
        have HRun := hide hRun
        have HD5 : Hid (G (n0 + (c + 1)) S' J' (lAf xb l xs)) := hd'
        clear hRun hcr hd'
        go_wp2_with fail
        refine HRun.out.mono ?_
        rintro e w5 ⟨K5, rfl, hd5, hj5, hk5⟩
        have hk5' := hk5.mono gq_pk
        have hgb : w5.heap[g]? = wr.heap[g]? := hk5'.block g hgl (by rw [hgk]; exact nq0)
        have s0 : w5.cell? ⟨g, og + c * 2, none⟩ = _ := (World.cell?_of_block hgb).trans t0
        have s1 : w5.cell? ⟨g, og + c * 2 + 1, none⟩ = _ := (World.cell?_of_block hgb).trans t1
        have hgl5 := Nat.lt_of_lt_of_le hgl hk5'.size
        have HB5 := hide (HB.out.kept hk5' nq0)
        have HM5 : Hid (Gm (Gq od o) K w K5 w5 od o d jb S' J' (.slice av l.length cv) l) := ⟨hd5, hj5, ⟨_, HB5.out⟩, HM.out.kp.trans hk5'⟩
        have HAf := hide (afterP_any (Stay (Gq od o) K w) w5 K5 xb xp xk xc xs HXl.out hx4 HSt.out _ l vs HB5.out (by omega))
        clear hd5 hj5 hk5 hk5' hgb t0 t1
        go_wp2_with fail
        refine HAf.out.mono ?_
        rintro e w6 ⟨v6, vs6, rfl, hb6, hbw6⟩
        obtain ⟨a6, c6, rfl, _, _⟩ := hb6.row.form
        have HB6 := hide hb6
        have HM6 : Hid (Gm (Gq od o) K w (ext K5 w5.heap.size (0, 0)) w6 od o d jb S' J' (.slice a6 (lAf xb l xs).length c6) (lAf xb l xs)) := ⟨(HM5.out.below hbw6).dk, (HM5.out.below hbw6).jk, ⟨_, hb6⟩, (HM5.out.below hbw6).kp⟩
        clear hb6 hbw6 s0 s1
        have gd5 := HG.out _ _ _ _ HD5.out
        have hAll := All_any w6 (ext K5 w5.heap.size (0, 0)) o d jb J' HM6.out.jk gd5.lens (by rw [gd5.ln]; have := gd5.bk; omega) (tab_kp HT.out HM6.out.kp HK0.out nq0)
        rw [gd5.all, gd5.ln] at hAll
        have HAll := hide hAll
        have HFw := hide gd5.few
        have hl9 : (lAf xb l xs).length ≤ 900 := gd5.bk
        clear hAll gd5
        go_wp2_with fail
        refine HAll.out.mono ?_
        rintro e wA ⟨aA, cA, rfl, htr, hbw⟩
        have HMA := hide (HM6.out.below hbw)
        have HTr := hide (trans_same wA aA a6 (lAf xb l xs).length cA c6 (lAf xb l xs) rfl (by omega) (htr.trs HFw.out) ((HB6.out.kept (kp_below hbw (fun _ => False) (ext K5 w5.heap.size (0, 0)) (0, 0)) (fun h => h)).trs fun _ _ h => h _ _ HMA.out.kp))
        clear htr hbw
        go_wp2_with fail
        refine HTr.out.mono ?_
        rintro e wB ⟨rfl, qq, hwB⟩
        have HMB := hide (HMA.out.still (w' := wB) (by rw [hwB]; exact (Kp.refl _ _ _).drewN qq))
        clear hwB
        go_wp2
        go_roundw
        case rel => exact ⟨c + 1, _, S', J', lAf xb l xs, by omega, by go_num, HMB, HD5⟩
        case measure => simp [intOf]; omega
    · obtain rfl : c = m := by omega
      go_wp2
      go_ret2
      exact ⟨_, S, J, l, Kc, rfl, HM.out, HD.out⟩
end Go.Proofs.YtlmfohcdaahojaaGreatDoor
