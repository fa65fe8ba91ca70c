import Derived.Test.YtlmfohcdaahojabGreatDoorJTornM
import Derived.Lib.SlBytesConst
import Derived.Deep.RegionHeld3
namespace Go.Proofs.YtlmfohcdaahojabGreatDoor
open Go.RowKit Go.Maps

set_option maxRecDepth 100000 in
set_option maxHeartbeats 8000000 in
theorem jtorn_all (W : World) (hT : C.Tab W) (sp : Option Addr) (m cap : Nat) (l : List Cl) (hm : l.length = m) (hml : m ≤ 140737488355328) (hC : Cls W sp l) (hO : ∀ c ∈ l, ClOk W c) (cz bz : Int) :
    Calls Tryz.prog 4 #[.agg #[.slice sp m cap, .int .i64 cz, .int .i64 bz]] W fun e w' => e = .returned (.bool true) ∧ Below W.heap.size W w' := by
  have HT := hide hT
  have HM := hide hm
  have HC := hide hC
  have HO := hide hO
  obtain ⟨bx, hbx⟩ : ∃ bx : Obj, bx = .cells #[.slice sp m cap, .int .i64 cz, .int .i64 bz] 51 := ⟨_, rfl⟩
  have HBx := hide hbx
  have hb1 : Below W.heap.size W (W.alloc (.cells #[.slice sp m cap, .int .i64 cz, .int .i64 bz] 51)) := (Below.refl _ _).alloc (Nat.le_refl _) _
  have hx1 : (W.alloc (.cells #[.slice sp m cap, .int .i64 cz, .int .i64 bz] 51)).heap[W.heap.size]? = some bx := by rw [hbx]; exact heap_alloc_new _ _
  have HWk := hide (wakes_any _ (hT.below hb1 hT.pos))
  have HB1 := hide hb1
  have HX1 := hide hx1
  clear hb1 hx1 hT hm hC hO hbx
  go_enter Tryz.func4, Tryz.ntmps4
  go_wp2_with fail
  refine HWk.out.mono ?_
  rintro e w2 ⟨rfl, hb2⟩
  have hb2' : Below W.heap.size W w2 := HB1.out.trans (hb2.mono (by simp))
  have hx2 : w2.heap[W.heap.size]? = some bx := (hb2.block _ (by simp)).trans HX1.out
  have HB2 := hide hb2'
  have HX2 := hide hx2
  have hs2 := lt_of_block hx2
  have HOp := hide (opened_any w2 (fun _ => (0, 0)) 1 2 (by decide) (by decide) (by decide) (.slice none 0 0) [] 131072 131072 (by simp [sumI]) (im_nil _ _) (fun _ h => by cases h) (by omega) (by simp [okB, chn, sumI]) (new_stl (by omega)).inv 0 (new_stl (by omega)).sz (by omega) rfl (HT.out.below HB2.out HT.out.pos) rfl)
  rw [show ((131072 : Nat) : Int) = 131072 from rfl] at HOp
  clear hb2 hb2' hx2
  go_wp2_with fail
  refine HOp.out.mono ?_
  rintro e w3 ⟨d, jb, K3, rfl, hd3, hj3, hk3⟩
  have nq0 : ¬ Gq 1 2 (0, 0) := fun h => h.elim (fun h => by cases h) (fun h => by cases h)
  have hk3' : Kp (Gq 1 2) (fun _ => (0, 0)) K3 w2 w3 := hk3
  have hb3 : Below W.heap.size W w3 := HB2.out.trans ⟨hk3'.os, hk3'.tape, hk3'.output, hk3'.size, fun b hlt => hk3'.block b (by omega) nq0⟩
  have hx3 : w3.heap[W.heap.size]? = some bx := (hk3'.block _ hs2 nq0).trans HX2.out
  have ho3 : ∀ b, b < w2.heap.size → K3 b = (0, 0) := fun b hb => hk3'.same b hb
  have HD3 := hide hd3
  have HJ3 := hide hj3
  have HB3 := hide hb3
  have HX3 := hide hx3
  have HO3 := hide ho3
  have hs3 := lt_of_block hx3
  have hs23 := hk3'.size
  have hbw : w3.heap[W.heap.size]? = some (.cells #[.slice sp m cap, .int .i64 cz, .int .i64 bz] 51 (0, 0)) := hx3.trans (congrArg some HBx.out)
  have y0 : w3.cell? ⟨W.heap.size, 0, none⟩ = some (.slice sp m cap) := by simp [World.cell?, hbw]
  have HPl := hide (places_any w3 sp m cap l 10 HM.out hml (by omega) (HC.out.below HB3.out) (fun c hc => (HO.out c hc).below HB3.out))
  rw [show ((10 : Nat) : Int) = 10 from rfl] at HPl
  clear hd3 hj3 hk3 hk3' hb3 hx3 ho3 hbw HB2 HX2 HB1 HX1 HWk HOp
  go_wp2_with fail
  refine HPl.out.mono ?_
  rintro e w5 ⟨la, lc, rfl, hr5, hb5⟩
  clear y0
  obtain ⟨L, hLq⟩ : ∃ L, plc l 10 = L := ⟨_, rfl⟩
  rw [hLq] at hr5 ⊢
  obtain ⟨q, hq⟩ : ∃ q, L.length = q := ⟨_, rfl⟩
  rw [hq] at hr5 ⊢
  have hq10 : q ≤ 10 := by rw [← hq, ← hLq]; unfold plc; rw [List.length_take]; omega
  have hs35 := hb5.size
  have kp5 : Kp (fun _ => False) K3 (ext K3 w3.heap.size (0, 0)) w3 w5 := kp_below hb5 (fun _ => False) K3 (0, 0)
  obtain ⟨K5, hK5⟩ : ∃ K5, ext K3 w3.heap.size (0, 0) = K5 := ⟨_, rfl⟩
  rw [hK5] at kp5
  have HB5 : Hid (Below W.heap.size W w5) := HB3.out.trans (hb5.mono (Nat.le_of_lt hs3))
  have hx5 : w5.heap[W.heap.size]? = some bx := (kp5.block _ hs3 (fun h => h)).trans HX3.out
  have HX5 := hide hx5
  have HO5 : Hid (∀ b, b < w2.heap.size → K5 b = (0, 0)) := fun b hb => (kp5.same b (by omega)).trans (HO3.out b hb)
  have HCl : Hid (Clr w5 K5 la L) := by
    have hl := cls_own hr5
    refine ⟨hl.lie.imp id ?_⟩
    rintro ⟨g, o, e, hg, hc⟩
    refine ⟨g, o, e, hg, ?_, hc⟩
    rcases hr5.2 with ⟨e1, _⟩ | ⟨g3, _, _, e1, e2, _⟩
    · rw [e] at e1; cases e1
    · rw [e] at e1; cases e1; rw [← hK5]; exact ext_new _ _ e2
  have HLm : Hid (∀ x ∈ L, fitsB x.ps = true ∧ x.ps.length = x.k ∧ (∀ p ∈ x.ps, ∀ z ∈ p, z < 256) ∧ Stay (Gq 1 2) K5 w5 x.pp x.ps) := fun x hx => by
    rw [← hLq] at hx
    have h1 := List.mem_of_mem_take hx
    have h2 := List.mem_filter.1 h1
    have h3 := HO.out x h2.1
    exact ⟨h2.2, h3.len, h3.small, stay_of nq0 HB5.out (fun b hb => HO5.out b (by omega)) h3.pts⟩
  have HLq := hide hq
  obtain ⟨Lp, hLp⟩ : ∃ Lp, L.map (·.ps) = Lp := ⟨_, rfl⟩
  have HLp := hide hLp
  obtain ⟨_, _, hlf, hlc, hlc2⟩ := owns_form hr5
  cases hlf
  unfold maxLen at hlc2
  have hs5 := lt_of_block hx5
  have HT0 : Hid (Tl K5 w5 K5 w5 d jb (St.laid 131072 []) (jnew jx ([], 0, false, 0)) (.slice none 0 0) (.slice none 0 0) 0 0 Lp) := ⟨HD3.out.kept kp5 (fun _ h => h), HJ3.out.kept kp5 (fun _ h => h), Kp.refl _ _ _, ⟨rfl, Or.inl ⟨rfl, rfl⟩⟩, fun g e => by simp [Value.ownBlock] at e, [], bop_nil _ _ _, ⟨rfl, Or.inl ⟨rfl, rfl⟩⟩⟩
  obtain ⟨iI, hiI, zI0, zI1, zI2⟩ := info_parts Tryz.infoI
  obtain ⟨iR, hiR, zR0, zR1, zR2⟩ := info_parts Tryz.infoRr
  clear hr5 hb5 hLq hq hLp hx5 HD3 HJ3 HB3 HX3 HO3 HPl HC HO HM kp5 hK5
  go_wp2
  go_loopw [5, 7, 8] (fun ev bv i wr => ∃ (c : Nat) (K : Knd) (S : St) (J : Jr), c ≤ q ∧ i = .int .i64 c ∧ Hid (Tl K5 w5 K wr d jb S J ev bv c c Lp) ∧ Hid (Fh S J (Lp.take c) c)) (fun _ _ i _ => q - (intOf i).toNat)
  case atStart => exact ⟨0, K5, _, _, Nat.zero_le _, rfl, HT0, hide fh_new⟩
  case round =>
    obtain ⟨c, K, S, J, hc, rfl, HTl, HF⟩ := hrel
    obtain ⟨aE, cE, hEv, hcE, hcE2⟩ := owns_form HTl.out.ends
    subst hEv
    obtain ⟨vs0, hb10, hb20⟩ := HTl.out.bk
    obtain ⟨aB, cB, hBv, hcB, hcB2⟩ := owns_form hb20
    subst hBv
    clear hb20 hb10 vs0
    unfold maxLen at hcE2 hcB2
    by_cases hlt : c < q
    · have hlt' : (c : Int) < (q : Int) := by omega
      have c0 : (0 : Int) ≤ (c : Int) := by omega
      obtain ⟨x, hx⟩ : ∃ x, L[c]? = some x := ⟨_, List.getElem?_eq_getElem (by have := HLq.out; omega)⟩
      have hLpx : Lp[c]? = some x.ps := by rw [← HLp.out, List.getElem?_map, hx]; rfl
      have hCw := HCl.out.kept HTl.out.kp nq0
      obtain ⟨g, og, rfl, hgl, hgk, hcs⟩ : ∃ g o, la = some ⟨g, o, none⟩ ∧ g < w5.heap.size ∧ K5 g = (0, 0) ∧ ∀ (j : Nat) (c : Cl), L[j]? = some c → w5.cell? ⟨g, o + j * 2, none⟩ = some (.bool c.b) ∧ w5.cell? ⟨g, o + j * 2 + 1, none⟩ = some (.slice c.pp c.k c.cap) := by
        rcases HCl.out.lie with e | e
        · rw [e] at hx; simp at hx
        · exact e
      have HCc : Hid (∀ K' w', Kp (Gq 1 2) K5 K' w5 w' → w'.cell? ⟨g, og + c * 2 + 1, none⟩ = some (.slice x.pp x.k x.cap)) := fun K' w' hk => by
        rw [World.cell?_of_block (w := w5) (hk.block g hgl (by rw [hgk]; exact nq0))]
        exact (hcs c x hx).2
      obtain ⟨hfx, hxl, hsm, hst⟩ := HLm.out x (List.mem_of_getElem? hx)
      obtain ⟨S', J', hadd, hF'⟩ := HF.out.add (by omega) x.ps hfx hsm
      have hTk : Lp.take (c + 1) = Lp.take c ++ [x.ps] := by rw [List.take_add_one, hLpx]; rfl
      rw [← hTk] at hF'
      have gd := HF.out.fd.gd (by omega)
      have hx4 : x.k ≤ 4096 := by have := (fits_small hfx).1; omega
      have HTw := hide (twins_any wr x.pp x.k x.cap x.ps hxl hx4 (hst _ _ HTl.out.kp) hsm)
      have HAd : Hid (∀ (w6 : World) (a : Option Addr) (c' : Nat), Pts w6 a x.ps → Below wr.heap.size wr w6 → Calls Tryz.prog 16 #[.pointer (some ⟨jb, 0, none⟩), .slice a x.k c'] w6 (Kept5 w6 (ext K wr.heap.size (0, 0)) 1 2 d jb (0, S', J'))) := fun w6 a c' hp hb6 => by
        have kp2 := kp_below hb6 (fun _ => False) K (0, 0)
        obtain ⟨k, hk, hz⟩ := gd.sz
        have h := Add_any w6 (ext K wr.heap.size (0, 0)) 1 2 d jb (by decide) S J (HTl.out.dk.kept kp2 (fun _ h => h)) gd.inv k hz hk (HTl.out.jk.kept kp2 (fun _ h => h)) (by rw [HF.out.fd.nm]; decide) gd.gd (by rw [gd.ln]; have := gd.bk; omega) gd.last a x.k c' x.ps hxl (by omega) hp (tab_kp (HT.out.below HB5.out HT.out.pos) (HTl.out.kp.trans (kp_below hb6 (Gq 1 2) K (0, 0))) (HO5.out 0 (by have := HT.out.pos; omega)) nq0)
        rw [hadd] at h
        exact h
      have HF1 := hide hF'
      have hsz := hF'.sized
      have HSt := hide hst
      have HXl := hide hxl
      have HLx := hide hLpx
      obtain ⟨E, hE⟩ : ∃ E, endOf Lp (c + 1) = E := ⟨_, rfl⟩
      rw [hE] at hsz
      have HE := hide hE
      have t1 := HCc.out _ _ HTl.out.kp
      obtain ⟨xb, xp, xk, xc, xs⟩ := x
      simp only at t1 HTw HAd HCc HSt HXl HLx
      have HInv := hide hF'.fd.stl.inv
      have HSz0 := hide hsz
      clear hcs hCw hx hst hfx hxl hsm hadd hF' hTk gd hgl hgk hLpx hsz hE
      go_wp2_with fail
      refine HTw.out.mono ?_
      rintro e w6 ⟨a6, c6, rfl, hp6, hb6⟩
      have HA6 := hide (HAd.out w6 a6 c6 hp6 hb6)
      have HT6 := hide (HTl.out.below hb6)
      clear hp6 hb6 HAd HTw t1
      go_wp2_with fail
      refine HA6.out.mono ?_
      rintro e w7 ⟨K7, rfl, hd7, hj7, hk7⟩
      have HT7 := hide (HT6.out.ran (hk7.mono gq_pk) hd7 hj7)
      have hSi := Size_any w7 K7 1 d S' hd7 HInv.out jx (by decide)
      rw [HSz0.out.1, HSz0.out.2] at hSi
      have HSi : Hid (Calls Tryz.prog 18 #[.pointer (some ⟨d, 0, none⟩), .string ⟨#[106]⟩] w7 fun e w' => e = .returned (.tuple #[.int .i64 (E : Int), .int .i64 0]) ∧ w' = w7) := hSi
      clear hd7 hj7 hk7 HA6 hSi HT6
      go_wp2_with fail
      refine HSi.out.mono ?_
      rintro e w8 ⟨rfl, h8⟩
      obtain rfl := h8.symm
      clear h8 HSi
      have hb8 : Below w7.heap.size w7 (w7.alloc (.cells #[.int .i64 (E : Int)] 3)) := (Below.refl _ _).alloc (Nat.le_refl _) _
      have HT8 := hide (HT7.out.below hb8)
      have hs57 := HT7.out.kp.size
      clear hb8
      go_wp2_with (first
        | (at_builtin; refine wpList_append_lies _ rfl (.tmp 55) (.tmp 61) 31 rfl w5.heap.size 46 iR (.slice none 0 0) 1 24 Tryz.underlying31 hiR zR0 zR1 zR2 rfl (by omega) (.slice aB c cB) c vs9 rfl HO9.out ⟨w9.heap.size, 0, none⟩ 1 1 [.slice xp xk xc] rfl rfl (World.news_of_block (heap_alloc_new w9 (.cells #[.slice xp xk xc] 46))) (by simp [Value.oneCell']) (by omega) (by unfold maxLen; omega) (by omega) (by simp; omega) _ rfl ?_; intro g2 cap2 wA hown2 hgrow2 hat2 hltg2; have HTA := hide (HTa.out.booked HLx.out HXl.out hx4 HSt.out HBo.out HO9.out hown2 hgrow2 hat2); clear hown2 hgrow2 hat2)
        | (at_builtin; refine wpList_append_lies _ rfl (.tmp 51) (.tmp 53) 23 rfl w5.heap.size 3 iI (.int .i64 0) 1 8 Tryz.underlying23 hiI zI0 zI1 zI2 rfl (by omega) (.slice aE c cE) c (es Lp c) rfl HT8.out.ends ⟨w7.heap.size, 0, none⟩ 1 1 [.int .i64 (E : Int)] rfl rfl (World.news_of_block (heap_alloc_new w7 (.cells #[.int .i64 (E : Int)] 3))) (by simp [Value.oneCell']) (by omega) (by unfold maxLen; omega) (by omega) (by simp; omega) _ rfl ?_; intro g1 cap1 w9 hown1 hgrow1 hat1 hltg1; rw [← HE.out, ← es_succ] at hown1; have HT9 := hide (HT8.out.ended hown1 hgrow1 hat1); have t1 := HCc.out _ _ HT9.out.kp; have HTa := hide (HT9.out.below ((Below.refl w9.heap.size w9).alloc (Nat.le_refl _) (.cells #[.slice xp xk xc] 46))); obtain ⟨vs9, hbo9, ho9⟩ := HTa.out.bk; have HBo := hide hbo9; have HO9 := hide ho9; have hs59 := HT9.out.kp.size; clear hown1 hgrow1 hat1 hbo9 ho9))
      exact ⟨⟨c + 1, _, S', J', by omega, by go_num, HTA, HF1⟩, by simp [intOf]; omega⟩
    · obtain rfl : c = q := by omega
      have hlt' : ¬ (c : Int) < (c : Int) := by omega
      have hLl : Lp.length = c := by rw [← HLp.out, List.length_map]; exact HLq.out
      have hF2 := HF.out
      rw [List.take_of_length_le (by omega)] at hF2
      have HF2 := hide hF2
      obtain ⟨X, hX⟩ : ∃ X, (recsOf 1 Lp).flatten = X := ⟨_, rfl⟩
      have hXb : S.bytes jx = X := by rw [bytes_view hF2.fd.stl.on.off jx_ok.1, hF2.bytes, hX]
      have hXs : ∀ x ∈ X, x < 256 := by rw [← hX]; exact trns_small hF2.fd.jd.trns
      have hXl : X.length ≤ 40250 := by
        have := recs_fit_len Lp 1 hF2.fit (by omega)
        rw [hX] at this
        omega
      have hRd := Read_any wr K 1 d S HTl.out.dk hF2.fd.stl.inv (20971525 * c) hF2.fd.stl.sz (by omega) jx (by decide)
      rw [hXb] at hRd
      obtain ⟨xl, hxl⟩ : ∃ xl, X.length = xl := ⟨_, rfl⟩
      rw [hxl] at hRd hXl
      obtain ⟨er, her⟩ : ∃ er, S.err jx = er := ⟨_, rfl⟩
      rw [her] at hRd
      have HRd : Hid (Calls Tryz.prog 15 #[.pointer (some ⟨d, 0, none⟩), .string ⟨#[106]⟩] wr fun e w' => ∃ a c, e = .returned (.tuple #[.slice a xl c, .int .i64 (er : Int)]) ∧ w'.ownsRow wr.heap.size 5 1 (.slice a xl c) xl (vals X) ∧ Below wr.heap.size wr w') := hRd
      have HXl := hide hxl
      have HXs := hide hXs
      have HX := hide hX
      have HLl := hide hLl
      clear hRd hX hxl hXs her hXb hF2 hLl HF hlt
      go_wp2_with fail
      refine HRd.out.mono ?_
      rintro e w7 ⟨a7, c7, rfl, hr7, hb7⟩
      have HT7 := hide (HTl.out.below hb7)
      obtain ⟨_, _, hf7, hc7, hc72⟩ := owns_form hr7
      cases hf7
      unfold maxLen at hc72
      have HR7 := hide hr7
      have hx7 : w7.heap[W.heap.size]? = some bx := (HT7.out.kp.block _ hs5 (by rw [HO5.out _ hs2]; exact nq0)).trans HX5.out
      have hbw : w7.heap[W.heap.size]? = some (.cells #[.slice sp m cap, .int .i64 cz, .int .i64 bz] 51 (0, 0)) := hx7.trans (congrArg some HBx.out)
      have y1 : w7.cell? ⟨W.heap.size, 1, none⟩ = some (.int .i64 cz) := by simp [World.cell?, hbw]
      obtain ⟨ib, hib, eib⟩ := and20 cz
      obtain ⟨ct, hct⟩ : ∃ ct, ib % (xl + 1) = ct := ⟨_, rfl⟩
      have hct1 : (ib : Int).tmod ((xl : Int) + 1) = (ct : Int) := by rw [Int.tmod_eq_emod_of_nonneg (by omega), ← hct]; push_cast; rfl
      have hct2 : ct ≤ xl := by have := Nat.mod_lt ib (show xl + 1 > 0 by omega); omega
      have hz0 : ¬ (xl : Int) + 1 = 0 := by omega
      clear hr7 hb7 hx7 hbw hct HRd HTl
      generalize ext K wr.heap.size (0, 0) = K7 at *
      go_wp2_with fail
      go_loopw [14] (fun kv wx => ∃ (k : Nat), k ≤ c ∧ kv = .int .i64 (k : Int) ∧ Hid (endOf Lp k ≤ ct) ∧ wx = w7) (fun k _ => c - (intOf k).toNat)
      case atStart => exact ⟨0, Nat.zero_le _, rfl, hide (by rw [endOf_zero]; omega), rfl⟩
      case round =>
        obtain ⟨k, hk, rfl, HEk, hwx⟩ := hrel
        obtain rfl := hwx.symm
        clear hwx
        by_cases hgo : k < c ∧ endOf Lp (k + 1) ≤ ct
        · obtain ⟨hk1, hk2⟩ := hgo
          obtain ⟨gE, rfl, yk⟩ := ends_cell HT7.out.ends hk1
          have HE1 := hide hk2
          obtain ⟨E, hE⟩ : ∃ E, endOf Lp (k + 1) = E := ⟨_, rfl⟩
          rw [hE] at yk hk2
          have k1 : (k : Int) < (c : Int) := by omega
          have k2 : (E : Int) ≤ (ct : Int) := by omega
          have k0 : (0 : Int) ≤ (k : Int) := by omega
          clear hE
          go_wp2
          go_roundw
          case rel => exact ⟨k + 1, by omega, by go_num, HE1, trivial⟩
          case measure => simp [intOf]; omega
        · have HH2 : Hid (k = Lp.length ∨ ct < endOf Lp (k + 1)) := by
            rw [HLl.out]
            by_cases h : k < c
            · right; show ct < _; omega
            · left; omega
          have hcase : (k = c ∧ ct = 0) ∨ (k = c ∧ 0 < ct ∧ 0 < k ∧ endOf Lp k = ct) ∨ (k < c ∧ ct < endOf Lp (k + 1) ∧ ct = 0) ∨ (k < c ∧ ct < endOf Lp (k + 1) ∧ 0 < ct ∧ k = 0) ∨ (k < c ∧ ct < endOf Lp (k + 1) ∧ 0 < ct ∧ 0 < k ∧ endOf Lp k = ct) ∨ (k < c ∧ ct < endOf Lp (k + 1) ∧ 0 < ct ∧ 0 < k ∧ endOf Lp k < ct) := by
            have hle := HEk.out
            have hz := endOf_zero Lp
            by_cases h : k < c
            · have h3 : ct < endOf Lp (k + 1) := by omega
              by_cases h4 : ct = 0
              · exact Or.inr (Or.inr (Or.inl ⟨h, h3, h4⟩))
              · by_cases h5 : k = 0
                · exact Or.inr (Or.inr (Or.inr (Or.inl ⟨h, h3, by omega, h5⟩)))
                · by_cases h6 : endOf Lp k = ct
                  · exact Or.inr (Or.inr (Or.inr (Or.inr (Or.inl ⟨h, h3, by omega, by omega, h6⟩))))
                  · exact Or.inr (Or.inr (Or.inr (Or.inr (Or.inr ⟨h, h3, by omega, by omega, by omega⟩))))
            · have h3 : k = c := by omega
              have h4 := endOf_all Lp (j := k) (by rw [HLl.out]; omega)
              rw [HX.out, HXl.out] at h4
              by_cases h5 : ct = 0
              · exact Or.inl ⟨h3, h5⟩
              · refine Or.inr (Or.inl ⟨h3, by omega, ?_, by omega⟩)
                rcases Nat.eq_zero_or_pos k with e | e
                · rw [e] at h4; omega
                · exact e
          clear hgo
          have k0 : (0 : Int) ≤ (k : Int) := by omega
          have HCE : Hid (∀ j, j < c → ∃ g, aE = some ⟨g, 0, none⟩ ∧ w7.cell? ⟨g, j, none⟩ = some (.int .i64 (endOf Lp (j + 1) : Int))) := fun j hj => ends_cell HT7.out.ends hj
          have hcb := fun (w : World) (C : Array Value) (n c : Nat) => Lib.run_convert_bytes_const (P := Tryz.prog) w 42 5 C n c Tryz.underlying42 Tryz.underlying5
          rcases hcase with ⟨e1, e2⟩ | ⟨e1, e2, e3, e4⟩ | ⟨e1, e2, e3⟩ | ⟨e1, e2, e3, e4⟩ | ⟨e1, e2, e3, e4, e5⟩ | ⟨e1, e2, e3, e4, e5⟩
          · have HTau : Hid (decide (endOf Lp k < ct) = false) := hide (by have := HEk.out; have := endOf_zero Lp; simp; omega)
            have q1 : ¬ (k : Int) < (c : Int) := by omega
            have q2 : ((ct : Int) == 0) = true := by simp; omega
            clear e1 e2
            go_wp2_with fail
            have hYs : ∀ x ∈ X.take ct, x < 256 := fun x hx => HXs.out x (List.mem_of_mem_take hx)
            have hYl : (X.take ct).length = ct := by rw [List.length_take, HXl.out]; omega
            have HCp := hide (copy_any w7 a7 ct c7 (X.take ct) hYl (bytes_take (owns_bytes HR7.out HXs.out) ct) (by omega))
            have hkl : (Lp.take k).length = k := by rw [List.length_take, HLl.out]; omega
            obtain ⟨hfo, rest, hrest⟩ := cut_found HF2.out.fd.jd.trns (by rw [HLl.out]; exact hk) HEk.out HH2.out (by rw [HX.out, HXl.out]; exact hct2)
            rw [HX.out] at hfo hrest
            rw [HTau.out] at hfo
            have HTk : Hid (Trns 1 (Lp.take k)) := hide ((trns_app (a := Lp.take k) (b := Lp.drop k) (by rw [List.take_append_drop]; exact HF2.out.fd.jd.trns)).1)
            have HR0 : Hid (∀ τ, decide (endOf Lp k < ct) = τ → τ = false → rest = []) := hide (fun τ h1 h2 => by
              rw [h2] at h1
              have h3 : ct ≤ endOf Lp k := by simpa using h1
              have h4 := congrArg List.length hrest
              rw [hYl, List.length_append] at h4
              have h5 : (recsOf 1 (Lp.take k)).flatten.length = endOf Lp k := rfl
              exact List.eq_nil_of_length_eq_zero (by omega))
            obtain ⟨Y, hY⟩ : ∃ Y, X.take ct = Y := ⟨_, rfl⟩
            rw [hY] at HCp hYs hYl hfo hrest
            have HYs := hide hYs
            have HYl := hide hYl
            have HFo := hide hfo
            have HRs := hide hrest
            have Hkl := hide hkl
            clear hYs hYl hfo hrest hY hkl
            refine HCp.out.mono ?_
            rintro e w9 ⟨a9, c9, rfl, hr9, hb9⟩
            have HT9 := hide (HT7.out.below hb9)
            have HC9 : Hid (Rk w9 (ext K7 w7.heap.size (0, 0)) (0, 0) 5 1 (.slice a9 ct c9) ct (vals Y)) := ⟨by
              obtain ⟨h1, h2⟩ := hr9
              exact ⟨h1, h2.imp id (fun ⟨g', cap', cur, e1, _, r⟩ => ⟨g', cap', cur, e1, Nat.zero_le _, r⟩)⟩, fun g' e => by
              rcases hr9.2 with ⟨e1, _⟩ | ⟨g3, _, _, e1, e2, _⟩
              · rw [e1] at e; simp [Value.ownBlock] at e
              · rw [e1] at e; simp [Value.ownBlock] at e; subst e; exact ext_new _ _ e2⟩
            clear hr9 hb9 HCp
            generalize ext K7 w7.heap.size (0, 0) = K9 at *
            go_wp2_with fail
            have hbA : Below w9.heap.size w9 (w9.alloc (.cells #[.string ⟨#[106]⟩, .slice a9 ct c9] 58)) := (Below.refl _ _).alloc (Nat.le_refl _) _
            have hIm : Im (w9.alloc (.cells #[.string ⟨#[106]⟩, .slice a9 ct c9] 58)) (ext K9 w9.heap.size (0, 0)) (.slice (some ⟨w9.heap.size, 0, none⟩) 1 1) [(jx, Y)] := one_im HYs.out HYl.out (by omega) (heap_alloc_new _ _) (ext_new _ _ (Nat.le_refl _)) (HC9.out.kept (kp_below hbA (fun _ => False) K9 (0, 0)) (fun h => h))
            have hok1 : okB [(jx, Y)] 131072 = true := one_ok (by rw [HYl.out]; omega)
            have HTA := hide (HT9.out.below hbA)
            have hOp := opened_any _ (ext K9 w9.heap.size (0, 0)) 1 2 (by decide) (by decide) (by decide) (.slice (some ⟨w9.heap.size, 0, none⟩) 1 1) [(jx, Y)] 131072 131072 (by show max (Y.length + 0) 131072 = 131072; rw [HYl.out]; omega) hIm (fun p hp => by simp at hp; subst hp; show jx.length ≤ 140737488355328; decide) (by omega) hok1 (laid_inv (by omega) hok1) 0 (laid_sz (by omega) hok1 (fun p hp => by simp at hp; subst hp; exact HYs.out)) (by omega) (by rw [HFo.out]) (tab_kp (HT.out.below HB5.out HT.out.pos) HTA.out.kp (HO5.out 0 (by have := HT.out.pos; omega)) nq0) ((HTA.out.kp.same 0 (by have := HT.out.pos; omega)).trans (HO5.out 0 (by have := HT.out.pos; omega)))
            rw [HFo.out, show ((131072 : Nat) : Int) = 131072 from rfl] at hOp
            have HOp := hide hOp
            obtain ⟨vsA, hbkA, _⟩ := HTA.out.bk
            rw [List.take_of_length_le (by rw [HLl.out]; exact Nat.le_refl _)] at hbkA
            have HGA : Hid (Gm (Gq 1 2) _ _ _ _ 1 2 d jb S J (.slice aB c cB) Lp) := hide (Gm.self ⟨HTA.out.dk, HTA.out.jk, ⟨vsA, hbkA⟩, HTA.out.kp⟩)
            have HKA := hide HTA.out.kp
            clear hbA hIm hok1 hOp hbkA HC9 HT9 HTA
            refine HOp.out.mono ?_
            rintro e wO ⟨d2, jb2, KO, rfl, hdO, hjO, hkO⟩
            have HGO := hide (HGA.out.anew nq0 hkO hdO hjO)
            have HKO := hide (HKA.out.trans hkO)
            clear hdO hjO hkO HOp HGA HKA
            generalize hJ2 : jnew jx (recsOf 1 (Lp.take k), (if Lp.take k = [] then 0 else 1 + (Lp.take k).length - 1), false, 0) = J2 at HGO
            have jr : J2.recs = recsOf 1 (Lp.take k) := by rw [← hJ2]; rfl
            have jt : J2.torn = false := by rw [← hJ2]; rfl
            have HJ2 : Hid (jtornJ (Lp.take k) false = J2) := hide hJ2
            have kd : Kp (fun _ => False) KO KO wO wO.drew := (Kp.refl _ _ _).drew
            have hTO : C.Tab wO := tab_kp (HT.out.below HB5.out HT.out.pos) HKO.out (HO5.out 0 (by have := HT.out.pos; omega)) nq0
            have hAll := All_any wO.drew KO 2 d2 jb2 J2 (HGO.out.jk.kept kd (fun _ h => h)) (by rw [jr]; exact trns_lens HTk.out) (by rw [jr, recs_length, Hkl.out]; omega) (tab_kp hTO kd ((HKO.out.same 0 (by have := HT.out.pos; omega)).trans (HO5.out 0 (by have := HT.out.pos; omega))) (fun h => h))
            rw [jr, recs_length, Hkl.out, allOf_recs _ _ HTk.out] at hAll
            have HAll := hide hAll
            have HFw := hide (trns_few HTk.out)
            have HJr := hide jr
            have HJt := hide jt
            have kb1 : (k : Int) ≤ (cB : Int) := by omega
            have kb2 : (k : Int) ≤ (c : Int) := by omega
            clear hJ2 jr jt kd hTO hAll
            go_wp2_with fail
            go_region_held3 (fun _ => True) (exact trivial) (first
              | (go_at_call 21; refine HTo.out.mono ?_; rintro e wC ⟨rfl, h9⟩; have h9 := h9.symm; subst h9)
              | (go_at_call 20; refine HLn.out.mono ?_; rintro e wC ⟨rfl, h9⟩; have h9 := h9.symm; subst h9)
              | (go_at_call 13; refine HTr.out.mono ?_; rintro e wB ⟨rfl, qq, hwB⟩; have hGB : Gm (Gq 1 2) (ext KO wO.heap.size (0, 0)) wB (ext KO wO.heap.size (0, 0)) wB 1 2 d2 jb2 (St.laid 131072 [(jx, Y)]) J2 (.slice aB c cB) Lp := (by rw [hwB]; exact (HGa.out.still ((Kp.refl _ _ _).drewN qq)).self); have HGB := hide hGB; have HKB : Hid (Kp (Gq 1 2) K5 (ext KO wO.heap.size (0, 0)) w5 wB) := (by rw [hwB]; exact HKa.out.trans ((Kp.refl _ _ _).drewN qq)); have HLn := hide (jlen_any wB _ _ _ _ _ hGB.jk); have HTo := hide (jtorn_any wB _ _ _ _ _ hGB.jk); rw [HJr.out, recs_length, Hkl.out] at HLn; rw [HJt.out] at HTo; clear hwB hGB)
              | (go_at_call 14; refine HAll.out.mono ?_; rintro e wA ⟨aA, cA, rfl, htr, hbw⟩; have HBa : Hid (Below wO.heap.size wO wA) := ⟨hbw.os, hbw.tape, hbw.output, hbw.size, hbw.block⟩; have HGa := hide ((HGO.out.below HBa.out).self); have HKa := hide (HKO.out.trans (kp_below HBa.out (Gq 1 2) KO (0, 0))); obtain ⟨vsa, hba⟩ := HGa.out.bk; have HTr := hide (trans_same wA aA aB k cA cB (Lp.take k) Hkl.out (by omega) (htr.trs HFw.out) ((hba.trs fun _ _ h => h _ _ (Kp.refl _ _ _)).take k)); clear htr hbw hba)
              | fail)
            all_goals go_wp2_with fail
            obtain ⟨bN, hCN, hXN⟩ := n_list wB (ext KO wO.heap.size (0, 0)) nq0 _ rfl
            have hGN := (HGB.out.below bN).self
            obtain ⟨vsN, hbN⟩ := hGN.bk
            have HGN := hide (Gm.mk hGN.dk hGN.jk ⟨_, hbN.take HLl.out hk⟩ (Kp.refl _ _ _))
            rw [← HJ2.out] at HGN
            have HKN := hide (HKB.out.trans (kp_below bN (Gq 1 2) _ (0, 0)))
            have HGo := hide (goes_at _ _ 1 2 d2 jb2 (by decide) (by decide) (by decide) (St.laid 131072 [(jx, Y)]) (jtornJ (Lp.take k) false) (.slice aB k cB) (Lp.take k) HGN.out (tab_kp (HT.out.below HB5.out HT.out.pos) HKN.out (HO5.out 0 (by have := HT.out.pos; omega)) nq0) ((HKN.out.same 0 (by have := HT.out.pos; omega)).trans (HO5.out 0 (by have := HT.out.pos; omega))) _ 2 2 _ rfl (by omega) hCN hXN (Gt Y (Lp.take k) false) (gt_gd HTk.out (by rw [Hkl.out]; omega) HYs.out (by rw [HYl.out]; omega)) 0 (gt_step HTk.out (by rw [Hkl.out]; omega) HYs.out (by rw [HYl.out]; omega) HRs.out (HR0.out _ HTau.out) ⟨rfl, rfl⟩ ⟨rfl, rfl⟩) (Or.inl ⟨rfl, rfl, rfl, rfl⟩))
            clear bN hCN hXN hGN hbN
            refine HGo.out.mono ?_
            rintro e wE ⟨vE, SE, JE, lE, KE, rfl, hmE, _⟩
            have HKE := hide (HKN.out.trans hmE.kp)
            obtain ⟨vsE, hbE⟩ := hmE.bk
            obtain ⟨aE2, cE2, hvE, _, _⟩ := hbE.row.form
            subst hvE
            clear hmE hbE HGo
            go_wp2
            go_ret
            exact ⟨rfl, HKE.out.below HB5.out (fun b hb => by rw [HO5.out b (by omega)]; exact nq0)⟩
          · have HTau : Hid (decide (endOf Lp k < ct) = false) := hide (by have := HEk.out; have := endOf_zero Lp; simp; omega)
            have q1 : ¬ (k : Int) < (c : Int) := by omega
            have q2 : ((ct : Int) == 0) = false := by simp; omega
            have q3 : (0 : Int) < (k : Int) := by omega
            obtain ⟨k1, hk1⟩ : ∃ k1, k1 + 1 = k := ⟨k - 1, by omega⟩
            obtain ⟨gE, hgE2, yk1⟩ := HCE.out k1 (by omega)
            subst hgE2
            have hkm : (k : Int) - 1 = (k1 : Int) := by omega
            have u1 : (0 : Int) ≤ (k1 : Int) := by omega
            have u2 : (k1 : Int) < (c : Int) := by omega
            rw [hk1, e4] at yk1
            clear e1 e2 e3 e4 hk1
            go_wp2_with fail
            have hYs : ∀ x ∈ X.take ct, x < 256 := fun x hx => HXs.out x (List.mem_of_mem_take hx)
            have hYl : (X.take ct).length = ct := by rw [List.length_take, HXl.out]; omega
            have HCp := hide (copy_any w7 a7 ct c7 (X.take ct) hYl (bytes_take (owns_bytes HR7.out HXs.out) ct) (by omega))
            have hkl : (Lp.take k).length = k := by rw [List.length_take, HLl.out]; omega
            obtain ⟨hfo, rest, hrest⟩ := cut_found HF2.out.fd.jd.trns (by rw [HLl.out]; exact hk) HEk.out HH2.out (by rw [HX.out, HXl.out]; exact hct2)
            rw [HX.out] at hfo hrest
            rw [HTau.out] at hfo
            have HTk : Hid (Trns 1 (Lp.take k)) := hide ((trns_app (a := Lp.take k) (b := Lp.drop k) (by rw [List.take_append_drop]; exact HF2.out.fd.jd.trns)).1)
            have HR0 : Hid (∀ τ, decide (endOf Lp k < ct) = τ → τ = false → rest = []) := hide (fun τ h1 h2 => by
              rw [h2] at h1
              have h3 : ct ≤ endOf Lp k := by simpa using h1
              have h4 := congrArg List.length hrest
              rw [hYl, List.length_append] at h4
              have h5 : (recsOf 1 (Lp.take k)).flatten.length = endOf Lp k := rfl
              exact List.eq_nil_of_length_eq_zero (by omega))
            obtain ⟨Y, hY⟩ : ∃ Y, X.take ct = Y := ⟨_, rfl⟩
            rw [hY] at HCp hYs hYl hfo hrest
            have HYs := hide hYs
            have HYl := hide hYl
            have HFo := hide hfo
            have HRs := hide hrest
            have Hkl := hide hkl
            clear hYs hYl hfo hrest hY hkl
            refine HCp.out.mono ?_
            rintro e w9 ⟨a9, c9, rfl, hr9, hb9⟩
            have HT9 := hide (HT7.out.below hb9)
            have HC9 : Hid (Rk w9 (ext K7 w7.heap.size (0, 0)) (0, 0) 5 1 (.slice a9 ct c9) ct (vals Y)) := ⟨by
              obtain ⟨h1, h2⟩ := hr9
              exact ⟨h1, h2.imp id (fun ⟨g', cap', cur, e1, _, r⟩ => ⟨g', cap', cur, e1, Nat.zero_le _, r⟩)⟩, fun g' e => by
              rcases hr9.2 with ⟨e1, _⟩ | ⟨g3, _, _, e1, e2, _⟩
              · rw [e1] at e; simp [Value.ownBlock] at e
              · rw [e1] at e; simp [Value.ownBlock] at e; subst e; exact ext_new _ _ e2⟩
            clear hr9 hb9 HCp
            generalize ext K7 w7.heap.size (0, 0) = K9 at *
            go_wp2_with fail
            have hbA : Below w9.heap.size w9 (w9.alloc (.cells #[.string ⟨#[106]⟩, .slice a9 ct c9] 58)) := (Below.refl _ _).alloc (Nat.le_refl _) _
            have hIm : Im (w9.alloc (.cells #[.string ⟨#[106]⟩, .slice a9 ct c9] 58)) (ext K9 w9.heap.size (0, 0)) (.slice (some ⟨w9.heap.size, 0, none⟩) 1 1) [(jx, Y)] := one_im HYs.out HYl.out (by omega) (heap_alloc_new _ _) (ext_new _ _ (Nat.le_refl _)) (HC9.out.kept (kp_below hbA (fun _ => False) K9 (0, 0)) (fun h => h))
            have hok1 : okB [(jx, Y)] 131072 = true := one_ok (by rw [HYl.out]; omega)
            have HTA := hide (HT9.out.below hbA)
            have hOp := opened_any _ (ext K9 w9.heap.size (0, 0)) 1 2 (by decide) (by decide) (by decide) (.slice (some ⟨w9.heap.size, 0, none⟩) 1 1) [(jx, Y)] 131072 131072 (by show max (Y.length + 0) 131072 = 131072; rw [HYl.out]; omega) hIm (fun p hp => by simp at hp; subst hp; show jx.length ≤ 140737488355328; decide) (by omega) hok1 (laid_inv (by omega) hok1) 0 (laid_sz (by omega) hok1 (fun p hp => by simp at hp; subst hp; exact HYs.out)) (by omega) (by rw [HFo.out]) (tab_kp (HT.out.below HB5.out HT.out.pos) HTA.out.kp (HO5.out 0 (by have := HT.out.pos; omega)) nq0) ((HTA.out.kp.same 0 (by have := HT.out.pos; omega)).trans (HO5.out 0 (by have := HT.out.pos; omega)))
            rw [HFo.out, show ((131072 : Nat) : Int) = 131072 from rfl] at hOp
            have HOp := hide hOp
            obtain ⟨vsA, hbkA, _⟩ := HTA.out.bk
            rw [List.take_of_length_le (by rw [HLl.out]; exact Nat.le_refl _)] at hbkA
            have HGA : Hid (Gm (Gq 1 2) _ _ _ _ 1 2 d jb S J (.slice aB c cB) Lp) := hide (Gm.self ⟨HTA.out.dk, HTA.out.jk, ⟨vsA, hbkA⟩, HTA.out.kp⟩)
            have HKA := hide HTA.out.kp
            clear hbA hIm hok1 hOp hbkA HC9 HT9 HTA
            refine HOp.out.mono ?_
            rintro e wO ⟨d2, jb2, KO, rfl, hdO, hjO, hkO⟩
            have HGO := hide (HGA.out.anew nq0 hkO hdO hjO)
            have HKO := hide (HKA.out.trans hkO)
            clear hdO hjO hkO HOp HGA HKA
            generalize hJ2 : jnew jx (recsOf 1 (Lp.take k), (if Lp.take k = [] then 0 else 1 + (Lp.take k).length - 1), false, 0) = J2 at HGO
            have jr : J2.recs = recsOf 1 (Lp.take k) := by rw [← hJ2]; rfl
            have jt : J2.torn = false := by rw [← hJ2]; rfl
            have HJ2 : Hid (jtornJ (Lp.take k) false = J2) := hide hJ2
            have kd : Kp (fun _ => False) KO KO wO wO.drew := (Kp.refl _ _ _).drew
            have hTO : C.Tab wO := tab_kp (HT.out.below HB5.out HT.out.pos) HKO.out (HO5.out 0 (by have := HT.out.pos; omega)) nq0
            have hAll := All_any wO.drew KO 2 d2 jb2 J2 (HGO.out.jk.kept kd (fun _ h => h)) (by rw [jr]; exact trns_lens HTk.out) (by rw [jr, recs_length, Hkl.out]; omega) (tab_kp hTO kd ((HKO.out.same 0 (by have := HT.out.pos; omega)).trans (HO5.out 0 (by have := HT.out.pos; omega))) (fun h => h))
            rw [jr, recs_length, Hkl.out, allOf_recs _ _ HTk.out] at hAll
            have HAll := hide hAll
            have HFw := hide (trns_few HTk.out)
            have HJr := hide jr
            have HJt := hide jt
            have kb1 : (k : Int) ≤ (cB : Int) := by omega
            have kb2 : (k : Int) ≤ (c : Int) := by omega
            clear hJ2 jr jt kd hTO hAll
            go_wp2_with fail
            go_region_held3 (fun _ => True) (exact trivial) (first
              | (go_at_call 21; refine HTo.out.mono ?_; rintro e wC ⟨rfl, h9⟩; have h9 := h9.symm; subst h9)
              | (go_at_call 20; refine HLn.out.mono ?_; rintro e wC ⟨rfl, h9⟩; have h9 := h9.symm; subst h9)
              | (go_at_call 13; refine HTr.out.mono ?_; rintro e wB ⟨rfl, qq, hwB⟩; have hGB : Gm (Gq 1 2) (ext KO wO.heap.size (0, 0)) wB (ext KO wO.heap.size (0, 0)) wB 1 2 d2 jb2 (St.laid 131072 [(jx, Y)]) J2 (.slice aB c cB) Lp := (by rw [hwB]; exact (HGa.out.still ((Kp.refl _ _ _).drewN qq)).self); have HGB := hide hGB; have HKB : Hid (Kp (Gq 1 2) K5 (ext KO wO.heap.size (0, 0)) w5 wB) := (by rw [hwB]; exact HKa.out.trans ((Kp.refl _ _ _).drewN qq)); have HLn := hide (jlen_any wB _ _ _ _ _ hGB.jk); have HTo := hide (jtorn_any wB _ _ _ _ _ hGB.jk); rw [HJr.out, recs_length, Hkl.out] at HLn; rw [HJt.out] at HTo; clear hwB hGB)
              | (go_at_call 14; refine HAll.out.mono ?_; rintro e wA ⟨aA, cA, rfl, htr, hbw⟩; have HBa : Hid (Below wO.heap.size wO wA) := ⟨hbw.os, hbw.tape, hbw.output, hbw.size, hbw.block⟩; have HGa := hide ((HGO.out.below HBa.out).self); have HKa := hide (HKO.out.trans (kp_below HBa.out (Gq 1 2) KO (0, 0))); obtain ⟨vsa, hba⟩ := HGa.out.bk; have HTr := hide (trans_same wA aA aB k cA cB (Lp.take k) Hkl.out (by omega) (htr.trs HFw.out) ((hba.trs fun _ _ h => h _ _ (Kp.refl _ _ _)).take k)); clear htr hbw hba)
              | fail)
            all_goals go_wp2_with fail
            obtain ⟨bN, hCN, hXN⟩ := n_list wB (ext KO wO.heap.size (0, 0)) nq0 _ rfl
            have hGN := (HGB.out.below bN).self
            obtain ⟨vsN, hbN⟩ := hGN.bk
            have HGN := hide (Gm.mk hGN.dk hGN.jk ⟨_, hbN.take HLl.out hk⟩ (Kp.refl _ _ _))
            rw [← HJ2.out] at HGN
            have HKN := hide (HKB.out.trans (kp_below bN (Gq 1 2) _ (0, 0)))
            have HGo := hide (goes_at _ _ 1 2 d2 jb2 (by decide) (by decide) (by decide) (St.laid 131072 [(jx, Y)]) (jtornJ (Lp.take k) false) (.slice aB k cB) (Lp.take k) HGN.out (tab_kp (HT.out.below HB5.out HT.out.pos) HKN.out (HO5.out 0 (by have := HT.out.pos; omega)) nq0) ((HKN.out.same 0 (by have := HT.out.pos; omega)).trans (HO5.out 0 (by have := HT.out.pos; omega))) _ 2 2 _ rfl (by omega) hCN hXN (Gt Y (Lp.take k) false) (gt_gd HTk.out (by rw [Hkl.out]; omega) HYs.out (by rw [HYl.out]; omega)) 0 (gt_step HTk.out (by rw [Hkl.out]; omega) HYs.out (by rw [HYl.out]; omega) HRs.out (HR0.out _ HTau.out) ⟨rfl, rfl⟩ ⟨rfl, rfl⟩) (Or.inl ⟨rfl, rfl, rfl, rfl⟩))
            clear bN hCN hXN hGN hbN
            refine HGo.out.mono ?_
            rintro e wE ⟨vE, SE, JE, lE, KE, rfl, hmE, _⟩
            have HKE := hide (HKN.out.trans hmE.kp)
            obtain ⟨vsE, hbE⟩ := hmE.bk
            obtain ⟨aE2, cE2, hvE, _, _⟩ := hbE.row.form
            subst hvE
            clear hmE hbE HGo
            go_wp2
            go_ret
            exact ⟨rfl, HKE.out.below HB5.out (fun b hb => by rw [HO5.out b (by omega)]; exact nq0)⟩
          · have HTau : Hid (decide (endOf Lp k < ct) = false) := hide (by have := HEk.out; have := endOf_zero Lp; simp; omega)
            obtain ⟨gE, hgE, yk⟩ := HCE.out k e1
            subst hgE
            obtain ⟨E, hE⟩ : ∃ E, endOf Lp (k + 1) = E := ⟨_, rfl⟩
            rw [hE] at yk e2
            have q1 : (k : Int) < (c : Int) := by omega
            have q1b : ¬ (E : Int) ≤ (ct : Int) := by omega
            have q2 : ((ct : Int) == 0) = true := by simp; omega
            clear e1 e2 e3 hE
            go_wp2_with fail
            have hYs : ∀ x ∈ X.take ct, x < 256 := fun x hx => HXs.out x (List.mem_of_mem_take hx)
            have hYl : (X.take ct).length = ct := by rw [List.length_take, HXl.out]; omega
            have HCp := hide (copy_any w7 a7 ct c7 (X.take ct) hYl (bytes_take (owns_bytes HR7.out HXs.out) ct) (by omega))
            have hkl : (Lp.take k).length = k := by rw [List.length_take, HLl.out]; omega
            obtain ⟨hfo, rest, hrest⟩ := cut_found HF2.out.fd.jd.trns (by rw [HLl.out]; exact hk) HEk.out HH2.out (by rw [HX.out, HXl.out]; exact hct2)
            rw [HX.out] at hfo hrest
            rw [HTau.out] at hfo
            have HTk : Hid (Trns 1 (Lp.take k)) := hide ((trns_app (a := Lp.take k) (b := Lp.drop k) (by rw [List.take_append_drop]; exact HF2.out.fd.jd.trns)).1)
            have HR0 : Hid (∀ τ, decide (endOf Lp k < ct) = τ → τ = false → rest = []) := hide (fun τ h1 h2 => by
              rw [h2] at h1
              have h3 : ct ≤ endOf Lp k := by simpa using h1
              have h4 := congrArg List.length hrest
              rw [hYl, List.length_append] at h4
              have h5 : (recsOf 1 (Lp.take k)).flatten.length = endOf Lp k := rfl
              exact List.eq_nil_of_length_eq_zero (by omega))
            obtain ⟨Y, hY⟩ : ∃ Y, X.take ct = Y := ⟨_, rfl⟩
            rw [hY] at HCp hYs hYl hfo hrest
            have HYs := hide hYs
            have HYl := hide hYl
            have HFo := hide hfo
            have HRs := hide hrest
            have Hkl := hide hkl
            clear hYs hYl hfo hrest hY hkl
            refine HCp.out.mono ?_
            rintro e w9 ⟨a9, c9, rfl, hr9, hb9⟩
            have HT9 := hide (HT7.out.below hb9)
            have HC9 : Hid (Rk w9 (ext K7 w7.heap.size (0, 0)) (0, 0) 5 1 (.slice a9 ct c9) ct (vals Y)) := ⟨by
              obtain ⟨h1, h2⟩ := hr9
              exact ⟨h1, h2.imp id (fun ⟨g', cap', cur, e1, _, r⟩ => ⟨g', cap', cur, e1, Nat.zero_le _, r⟩)⟩, fun g' e => by
              rcases hr9.2 with ⟨e1, _⟩ | ⟨g3, _, _, e1, e2, _⟩
              · rw [e1] at e; simp [Value.ownBlock] at e
              · rw [e1] at e; simp [Value.ownBlock] at e; subst e; exact ext_new _ _ e2⟩
            clear hr9 hb9 HCp
            generalize ext K7 w7.heap.size (0, 0) = K9 at *
            go_wp2_with fail
            have hbA : Below w9.heap.size w9 (w9.alloc (.cells #[.string ⟨#[106]⟩, .slice a9 ct c9] 58)) := (Below.refl _ _).alloc (Nat.le_refl _) _
            have hIm : Im (w9.alloc (.cells #[.string ⟨#[106]⟩, .slice a9 ct c9] 58)) (ext K9 w9.heap.size (0, 0)) (.slice (some ⟨w9.heap.size, 0, none⟩) 1 1) [(jx, Y)] := one_im HYs.out HYl.out (by omega) (heap_alloc_new _ _) (ext_new _ _ (Nat.le_refl _)) (HC9.out.kept (kp_below hbA (fun _ => False) K9 (0, 0)) (fun h => h))
            have hok1 : okB [(jx, Y)] 131072 = true := one_ok (by rw [HYl.out]; omega)
            have HTA := hide (HT9.out.below hbA)
            have hOp := opened_any _ (ext K9 w9.heap.size (0, 0)) 1 2 (by decide) (by decide) (by decide) (.slice (some ⟨w9.heap.size, 0, none⟩) 1 1) [(jx, Y)] 131072 131072 (by show max (Y.length + 0) 131072 = 131072; rw [HYl.out]; omega) hIm (fun p hp => by simp at hp; subst hp; show jx.length ≤ 140737488355328; decide) (by omega) hok1 (laid_inv (by omega) hok1) 0 (laid_sz (by omega) hok1 (fun p hp => by simp at hp; subst hp; exact HYs.out)) (by omega) (by rw [HFo.out]) (tab_kp (HT.out.below HB5.out HT.out.pos) HTA.out.kp (HO5.out 0 (by have := HT.out.pos; omega)) nq0) ((HTA.out.kp.same 0 (by have := HT.out.pos; omega)).trans (HO5.out 0 (by have := HT.out.pos; omega)))
            rw [HFo.out, show ((131072 : Nat) : Int) = 131072 from rfl] at hOp
            have HOp := hide hOp
            obtain ⟨vsA, hbkA, _⟩ := HTA.out.bk
            rw [List.take_of_length_le (by rw [HLl.out]; exact Nat.le_refl _)] at hbkA
            have HGA : Hid (Gm (Gq 1 2) _ _ _ _ 1 2 d jb S J (.slice aB c cB) Lp) := hide (Gm.self ⟨HTA.out.dk, HTA.out.jk, ⟨vsA, hbkA⟩, HTA.out.kp⟩)
            have HKA := hide HTA.out.kp
            clear hbA hIm hok1 hOp hbkA HC9 HT9 HTA
            refine HOp.out.mono ?_
            rintro e wO ⟨d2, jb2, KO, rfl, hdO, hjO, hkO⟩
            have HGO := hide (HGA.out.anew nq0 hkO hdO hjO)
            have HKO := hide (HKA.out.trans hkO)
            clear hdO hjO hkO HOp HGA HKA
            generalize hJ2 : jnew jx (recsOf 1 (Lp.take k), (if Lp.take k = [] then 0 else 1 + (Lp.take k).length - 1), false, 0) = J2 at HGO
            have jr : J2.recs = recsOf 1 (Lp.take k) := by rw [← hJ2]; rfl
            have jt : J2.torn = false := by rw [← hJ2]; rfl
            have HJ2 : Hid (jtornJ (Lp.take k) false = J2) := hide hJ2
            have kd : Kp (fun _ => False) KO KO wO wO.drew := (Kp.refl _ _ _).drew
            have hTO : C.Tab wO := tab_kp (HT.out.below HB5.out HT.out.pos) HKO.out (HO5.out 0 (by have := HT.out.pos; omega)) nq0
            have hAll := All_any wO.drew KO 2 d2 jb2 J2 (HGO.out.jk.kept kd (fun _ h => h)) (by rw [jr]; exact trns_lens HTk.out) (by rw [jr, recs_length, Hkl.out]; omega) (tab_kp hTO kd ((HKO.out.same 0 (by have := HT.out.pos; omega)).trans (HO5.out 0 (by have := HT.out.pos; omega))) (fun h => h))
            rw [jr, recs_length, Hkl.out, allOf_recs _ _ HTk.out] at hAll
            have HAll := hide hAll
            have HFw := hide (trns_few HTk.out)
            have HJr := hide jr
            have HJt := hide jt
            have kb1 : (k : Int) ≤ (cB : Int) := by omega
            have kb2 : (k : Int) ≤ (c : Int) := by omega
            clear hJ2 jr jt kd hTO hAll
            go_wp2_with fail
            go_region_held3 (fun _ => True) (exact trivial) (first
              | (go_at_call 21; refine HTo.out.mono ?_; rintro e wC ⟨rfl, h9⟩; have h9 := h9.symm; subst h9)
              | (go_at_call 20; refine HLn.out.mono ?_; rintro e wC ⟨rfl, h9⟩; have h9 := h9.symm; subst h9)
              | (go_at_call 13; refine HTr.out.mono ?_; rintro e wB ⟨rfl, qq, hwB⟩; have hGB : Gm (Gq 1 2) (ext KO wO.heap.size (0, 0)) wB (ext KO wO.heap.size (0, 0)) wB 1 2 d2 jb2 (St.laid 131072 [(jx, Y)]) J2 (.slice aB c cB) Lp := (by rw [hwB]; exact (HGa.out.still ((Kp.refl _ _ _).drewN qq)).self); have HGB := hide hGB; have HKB : Hid (Kp (Gq 1 2) K5 (ext KO wO.heap.size (0, 0)) w5 wB) := (by rw [hwB]; exact HKa.out.trans ((Kp.refl _ _ _).drewN qq)); have HLn := hide (jlen_any wB _ _ _ _ _ hGB.jk); have HTo := hide (jtorn_any wB _ _ _ _ _ hGB.jk); rw [HJr.out, recs_length, Hkl.out] at HLn; rw [HJt.out] at HTo; clear hwB hGB)
              | (go_at_call 14; refine HAll.out.mono ?_; rintro e wA ⟨aA, cA, rfl, htr, hbw⟩; have HBa : Hid (Below wO.heap.size wO wA) := ⟨hbw.os, hbw.tape, hbw.output, hbw.size, hbw.block⟩; have HGa := hide ((HGO.out.below HBa.out).self); have HKa := hide (HKO.out.trans (kp_below HBa.out (Gq 1 2) KO (0, 0))); obtain ⟨vsa, hba⟩ := HGa.out.bk; have HTr := hide (trans_same wA aA aB k cA cB (Lp.take k) Hkl.out (by omega) (htr.trs HFw.out) ((hba.trs fun _ _ h => h _ _ (Kp.refl _ _ _)).take k)); clear htr hbw hba)
              | fail)
            all_goals go_wp2_with fail
            obtain ⟨bN, hCN, hXN⟩ := n_list wB (ext KO wO.heap.size (0, 0)) nq0 _ rfl
            have hGN := (HGB.out.below bN).self
            obtain ⟨vsN, hbN⟩ := hGN.bk
            have HGN := hide (Gm.mk hGN.dk hGN.jk ⟨_, hbN.take HLl.out hk⟩ (Kp.refl _ _ _))
            rw [← HJ2.out] at HGN
            have HKN := hide (HKB.out.trans (kp_below bN (Gq 1 2) _ (0, 0)))
            have HGo := hide (goes_at _ _ 1 2 d2 jb2 (by decide) (by decide) (by decide) (St.laid 131072 [(jx, Y)]) (jtornJ (Lp.take k) false) (.slice aB k cB) (Lp.take k) HGN.out (tab_kp (HT.out.below HB5.out HT.out.pos) HKN.out (HO5.out 0 (by have := HT.out.pos; omega)) nq0) ((HKN.out.same 0 (by have := HT.out.pos; omega)).trans (HO5.out 0 (by have := HT.out.pos; omega))) _ 2 2 _ rfl (by omega) hCN hXN (Gt Y (Lp.take k) false) (gt_gd HTk.out (by rw [Hkl.out]; omega) HYs.out (by rw [HYl.out]; omega)) 0 (gt_step HTk.out (by rw [Hkl.out]; omega) HYs.out (by rw [HYl.out]; omega) HRs.out (HR0.out _ HTau.out) ⟨rfl, rfl⟩ ⟨rfl, rfl⟩) (Or.inl ⟨rfl, rfl, rfl, rfl⟩))
            clear bN hCN hXN hGN hbN
            refine HGo.out.mono ?_
            rintro e wE ⟨vE, SE, JE, lE, KE, rfl, hmE, _⟩
            have HKE := hide (HKN.out.trans hmE.kp)
            obtain ⟨vsE, hbE⟩ := hmE.bk
            obtain ⟨aE2, cE2, hvE, _, _⟩ := hbE.row.form
            subst hvE
            clear hmE hbE HGo
            go_wp2
            go_ret
            exact ⟨rfl, HKE.out.below HB5.out (fun b hb => by rw [HO5.out b (by omega)]; exact nq0)⟩
          · have HTau : Hid (decide (endOf Lp k < ct) = true) := hide (by rw [e4, endOf_zero]; simp; omega)
            obtain ⟨gE, hgE, yk⟩ := HCE.out k e1
            subst hgE
            obtain ⟨E, hE⟩ : ∃ E, endOf Lp (k + 1) = E := ⟨_, rfl⟩
            rw [hE] at yk e2
            have q1 : (k : Int) < (c : Int) := by omega
            have q1b : ¬ (E : Int) ≤ (ct : Int) := by omega
            have q2 : ((ct : Int) == 0) = false := by simp; omega
            have q3 : ¬ (0 : Int) < (k : Int) := by omega
            clear e1 e2 e3 e4 hE
            go_wp2_with fail
            have hYs : ∀ x ∈ X.take ct, x < 256 := fun x hx => HXs.out x (List.mem_of_mem_take hx)
            have hYl : (X.take ct).length = ct := by rw [List.length_take, HXl.out]; omega
            have HCp := hide (copy_any w7 a7 ct c7 (X.take ct) hYl (bytes_take (owns_bytes HR7.out HXs.out) ct) (by omega))
            have hkl : (Lp.take k).length = k := by rw [List.length_take, HLl.out]; omega
            obtain ⟨hfo, rest, hrest⟩ := cut_found HF2.out.fd.jd.trns (by rw [HLl.out]; exact hk) HEk.out HH2.out (by rw [HX.out, HXl.out]; exact hct2)
            rw [HX.out] at hfo hrest
            rw [HTau.out] at hfo
            have HTk : Hid (Trns 1 (Lp.take k)) := hide ((trns_app (a := Lp.take k) (b := Lp.drop k) (by rw [List.take_append_drop]; exact HF2.out.fd.jd.trns)).1)
            have HR0 : Hid (∀ τ, decide (endOf Lp k < ct) = τ → τ = false → rest = []) := hide (fun τ h1 h2 => by
              rw [h2] at h1
              have h3 : ct ≤ endOf Lp k := by simpa using h1
              have h4 := congrArg List.length hrest
              rw [hYl, List.length_append] at h4
              have h5 : (recsOf 1 (Lp.take k)).flatten.length = endOf Lp k := rfl
              exact List.eq_nil_of_length_eq_zero (by omega))
            obtain ⟨Y, hY⟩ : ∃ Y, X.take ct = Y := ⟨_, rfl⟩
            rw [hY] at HCp hYs hYl hfo hrest
            have HYs := hide hYs
            have HYl := hide hYl
            have HFo := hide hfo
            have HRs := hide hrest
            have Hkl := hide hkl
            clear hYs hYl hfo hrest hY hkl
            refine HCp.out.mono ?_
            rintro e w9 ⟨a9, c9, rfl, hr9, hb9⟩
            have HT9 := hide (HT7.out.below hb9)
            have HC9 : Hid (Rk w9 (ext K7 w7.heap.size (0, 0)) (0, 0) 5 1 (.slice a9 ct c9) ct (vals Y)) := ⟨by
              obtain ⟨h1, h2⟩ := hr9
              exact ⟨h1, h2.imp id (fun ⟨g', cap', cur, e1, _, r⟩ => ⟨g', cap', cur, e1, Nat.zero_le _, r⟩)⟩, fun g' e => by
              rcases hr9.2 with ⟨e1, _⟩ | ⟨g3, _, _, e1, e2, _⟩
              · rw [e1] at e; simp [Value.ownBlock] at e
              · rw [e1] at e; simp [Value.ownBlock] at e; subst e; exact ext_new _ _ e2⟩
            clear hr9 hb9 HCp
            generalize ext K7 w7.heap.size (0, 0) = K9 at *
            go_wp2_with fail
            have hbA : Below w9.heap.size w9 (w9.alloc (.cells #[.string ⟨#[106]⟩, .slice a9 ct c9] 58)) := (Below.refl _ _).alloc (Nat.le_refl _) _
            have hIm : Im (w9.alloc (.cells #[.string ⟨#[106]⟩, .slice a9 ct c9] 58)) (ext K9 w9.heap.size (0, 0)) (.slice (some ⟨w9.heap.size, 0, none⟩) 1 1) [(jx, Y)] := one_im HYs.out HYl.out (by omega) (heap_alloc_new _ _) (ext_new _ _ (Nat.le_refl _)) (HC9.out.kept (kp_below hbA (fun _ => False) K9 (0, 0)) (fun h => h))
            have hok1 : okB [(jx, Y)] 131072 = true := one_ok (by rw [HYl.out]; omega)
            have HTA := hide (HT9.out.below hbA)
            have hOp := opened_any _ (ext K9 w9.heap.size (0, 0)) 1 2 (by decide) (by decide) (by decide) (.slice (some ⟨w9.heap.size, 0, none⟩) 1 1) [(jx, Y)] 131072 131072 (by show max (Y.length + 0) 131072 = 131072; rw [HYl.out]; omega) hIm (fun p hp => by simp at hp; subst hp; show jx.length ≤ 140737488355328; decide) (by omega) hok1 (laid_inv (by omega) hok1) 0 (laid_sz (by omega) hok1 (fun p hp => by simp at hp; subst hp; exact HYs.out)) (by omega) (by rw [HFo.out]) (tab_kp (HT.out.below HB5.out HT.out.pos) HTA.out.kp (HO5.out 0 (by have := HT.out.pos; omega)) nq0) ((HTA.out.kp.same 0 (by have := HT.out.pos; omega)).trans (HO5.out 0 (by have := HT.out.pos; omega)))
            rw [HFo.out, show ((131072 : Nat) : Int) = 131072 from rfl] at hOp
            have HOp := hide hOp
            obtain ⟨vsA, hbkA, _⟩ := HTA.out.bk
            rw [List.take_of_length_le (by rw [HLl.out]; exact Nat.le_refl _)] at hbkA
            have HGA : Hid (Gm (Gq 1 2) _ _ _ _ 1 2 d jb S J (.slice aB c cB) Lp) := hide (Gm.self ⟨HTA.out.dk, HTA.out.jk, ⟨vsA, hbkA⟩, HTA.out.kp⟩)
            have HKA := hide HTA.out.kp
            clear hbA hIm hok1 hOp hbkA HC9 HT9 HTA
            refine HOp.out.mono ?_
            rintro e wO ⟨d2, jb2, KO, rfl, hdO, hjO, hkO⟩
            have HGO := hide (HGA.out.anew nq0 hkO hdO hjO)
            have HKO := hide (HKA.out.trans hkO)
            clear hdO hjO hkO HOp HGA HKA
            generalize hJ2 : jnew jx (recsOf 1 (Lp.take k), (if Lp.take k = [] then 0 else 1 + (Lp.take k).length - 1), true, 0) = J2 at HGO
            have jr : J2.recs = recsOf 1 (Lp.take k) := by rw [← hJ2]; rfl
            have jt : J2.torn = true := by rw [← hJ2]; rfl
            have HJ2 : Hid (jtornJ (Lp.take k) true = J2) := hide hJ2
            have kd : Kp (fun _ => False) KO KO wO wO.drew := (Kp.refl _ _ _).drew
            have hTO : C.Tab wO := tab_kp (HT.out.below HB5.out HT.out.pos) HKO.out (HO5.out 0 (by have := HT.out.pos; omega)) nq0
            have hAll := All_any wO.drew KO 2 d2 jb2 J2 (HGO.out.jk.kept kd (fun _ h => h)) (by rw [jr]; exact trns_lens HTk.out) (by rw [jr, recs_length, Hkl.out]; omega) (tab_kp hTO kd ((HKO.out.same 0 (by have := HT.out.pos; omega)).trans (HO5.out 0 (by have := HT.out.pos; omega))) (fun h => h))
            rw [jr, recs_length, Hkl.out, allOf_recs _ _ HTk.out] at hAll
            have HAll := hide hAll
            have HFw := hide (trns_few HTk.out)
            have HJr := hide jr
            have HJt := hide jt
            have kb1 : (k : Int) ≤ (cB : Int) := by omega
            have kb2 : (k : Int) ≤ (c : Int) := by omega
            clear hJ2 jr jt kd hTO hAll
            go_wp2_with fail
            go_region_held3 (fun _ => True) (exact trivial) (first
              | (go_at_call 21; refine HTo.out.mono ?_; rintro e wC ⟨rfl, h9⟩; have h9 := h9.symm; subst h9)
              | (go_at_call 20; refine HLn.out.mono ?_; rintro e wC ⟨rfl, h9⟩; have h9 := h9.symm; subst h9)
              | (go_at_call 13; refine HTr.out.mono ?_; rintro e wB ⟨rfl, qq, hwB⟩; have hGB : Gm (Gq 1 2) (ext KO wO.heap.size (0, 0)) wB (ext KO wO.heap.size (0, 0)) wB 1 2 d2 jb2 (St.laid 131072 [(jx, Y)]) J2 (.slice aB c cB) Lp := (by rw [hwB]; exact (HGa.out.still ((Kp.refl _ _ _).drewN qq)).self); have HGB := hide hGB; have HKB : Hid (Kp (Gq 1 2) K5 (ext KO wO.heap.size (0, 0)) w5 wB) := (by rw [hwB]; exact HKa.out.trans ((Kp.refl _ _ _).drewN qq)); have HLn := hide (jlen_any wB _ _ _ _ _ hGB.jk); have HTo := hide (jtorn_any wB _ _ _ _ _ hGB.jk); rw [HJr.out, recs_length, Hkl.out] at HLn; rw [HJt.out] at HTo; clear hwB hGB)
              | (go_at_call 14; refine HAll.out.mono ?_; rintro e wA ⟨aA, cA, rfl, htr, hbw⟩; have HBa : Hid (Below wO.heap.size wO wA) := ⟨hbw.os, hbw.tape, hbw.output, hbw.size, hbw.block⟩; have HGa := hide ((HGO.out.below HBa.out).self); have HKa := hide (HKO.out.trans (kp_below HBa.out (Gq 1 2) KO (0, 0))); obtain ⟨vsa, hba⟩ := HGa.out.bk; have HTr := hide (trans_same wA aA aB k cA cB (Lp.take k) Hkl.out (by omega) (htr.trs HFw.out) ((hba.trs fun _ _ h => h _ _ (Kp.refl _ _ _)).take k)); clear htr hbw hba)
              | fail)
            all_goals go_wp2_with fail
            obtain ⟨bN, hCN, hXN⟩ := n_list wB (ext KO wO.heap.size (0, 0)) nq0 _ rfl
            have hGN := (HGB.out.below bN).self
            obtain ⟨vsN, hbN⟩ := hGN.bk
            have HGN := hide (Gm.mk hGN.dk hGN.jk ⟨_, hbN.take HLl.out hk⟩ (Kp.refl _ _ _))
            rw [← HJ2.out] at HGN
            have HKN := hide (HKB.out.trans (kp_below bN (Gq 1 2) _ (0, 0)))
            have HGo := hide (goes_at _ _ 1 2 d2 jb2 (by decide) (by decide) (by decide) (St.laid 131072 [(jx, Y)]) (jtornJ (Lp.take k) true) (.slice aB k cB) (Lp.take k) HGN.out (tab_kp (HT.out.below HB5.out HT.out.pos) HKN.out (HO5.out 0 (by have := HT.out.pos; omega)) nq0) ((HKN.out.same 0 (by have := HT.out.pos; omega)).trans (HO5.out 0 (by have := HT.out.pos; omega))) _ 2 2 _ rfl (by omega) hCN hXN (Gt Y (Lp.take k) true) (gt_gd HTk.out (by rw [Hkl.out]; omega) HYs.out (by rw [HYl.out]; omega)) 0 (gt_step HTk.out (by rw [Hkl.out]; omega) HYs.out (by rw [HYl.out]; omega) HRs.out (HR0.out _ HTau.out) ⟨rfl, rfl⟩ ⟨rfl, rfl⟩) (Or.inl ⟨rfl, rfl, rfl, rfl⟩))
            clear bN hCN hXN hGN hbN
            refine HGo.out.mono ?_
            rintro e wE ⟨vE, SE, JE, lE, KE, rfl, hmE, _⟩
            have HKE := hide (HKN.out.trans hmE.kp)
            obtain ⟨vsE, hbE⟩ := hmE.bk
            obtain ⟨aE2, cE2, hvE, _, _⟩ := hbE.row.form
            subst hvE
            clear hmE hbE HGo
            go_wp2
            go_ret
            exact ⟨rfl, HKE.out.below HB5.out (fun b hb => by rw [HO5.out b (by omega)]; exact nq0)⟩
          · have HTau : Hid (decide (endOf Lp k < ct) = false) := hide (by have := HEk.out; have := endOf_zero Lp; simp; omega)
            obtain ⟨gE, hgE, yk⟩ := HCE.out k e1
            subst hgE
            obtain ⟨E, hE⟩ : ∃ E, endOf Lp (k + 1) = E := ⟨_, rfl⟩
            rw [hE] at yk e2
            have q1 : (k : Int) < (c : Int) := by omega
            have q1b : ¬ (E : Int) ≤ (ct : Int) := by omega
            have q2 : ((ct : Int) == 0) = false := by simp; omega
            have q3 : (0 : Int) < (k : Int) := by omega
            obtain ⟨k1, hk1⟩ : ∃ k1, k1 + 1 = k := ⟨k - 1, by omega⟩
            obtain ⟨gE2, hgE2, yk1⟩ := HCE.out k1 (by omega)
            cases hgE2
            have hkm : (k : Int) - 1 = (k1 : Int) := by omega
            have u1 : (0 : Int) ≤ (k1 : Int) := by omega
            have u2 : (k1 : Int) < (c : Int) := by omega
            rw [hk1, e5] at yk1
            clear e1 e2 e3 e4 e5 hE hk1
            go_wp2_with fail
            have hYs : ∀ x ∈ X.take ct, x < 256 := fun x hx => HXs.out x (List.mem_of_mem_take hx)
            have hYl : (X.take ct).length = ct := by rw [List.length_take, HXl.out]; omega
            have HCp := hide (copy_any w7 a7 ct c7 (X.take ct) hYl (bytes_take (owns_bytes HR7.out HXs.out) ct) (by omega))
            have hkl : (Lp.take k).length = k := by rw [List.length_take, HLl.out]; omega
            obtain ⟨hfo, rest, hrest⟩ := cut_found HF2.out.fd.jd.trns (by rw [HLl.out]; exact hk) HEk.out HH2.out (by rw [HX.out, HXl.out]; exact hct2)
            rw [HX.out] at hfo hrest
            rw [HTau.out] at hfo
            have HTk : Hid (Trns 1 (Lp.take k)) := hide ((trns_app (a := Lp.take k) (b := Lp.drop k) (by rw [List.take_append_drop]; exact HF2.out.fd.jd.trns)).1)
            have HR0 : Hid (∀ τ, decide (endOf Lp k < ct) = τ → τ = false → rest = []) := hide (fun τ h1 h2 => by
              rw [h2] at h1
              have h3 : ct ≤ endOf Lp k := by simpa using h1
              have h4 := congrArg List.length hrest
              rw [hYl, List.length_append] at h4
              have h5 : (recsOf 1 (Lp.take k)).flatten.length = endOf Lp k := rfl
              exact List.eq_nil_of_length_eq_zero (by omega))
            obtain ⟨Y, hY⟩ : ∃ Y, X.take ct = Y := ⟨_, rfl⟩
            rw [hY] at HCp hYs hYl hfo hrest
            have HYs := hide hYs
            have HYl := hide hYl
            have HFo := hide hfo
            have HRs := hide hrest
            have Hkl := hide hkl
            clear hYs hYl hfo hrest hY hkl
            refine HCp.out.mono ?_
            rintro e w9 ⟨a9, c9, rfl, hr9, hb9⟩
            have HT9 := hide (HT7.out.below hb9)
            have HC9 : Hid (Rk w9 (ext K7 w7.heap.size (0, 0)) (0, 0) 5 1 (.slice a9 ct c9) ct (vals Y)) := ⟨by
              obtain ⟨h1, h2⟩ := hr9
              exact ⟨h1, h2.imp id (fun ⟨g', cap', cur, e1, _, r⟩ => ⟨g', cap', cur, e1, Nat.zero_le _, r⟩)⟩, fun g' e => by
              rcases hr9.2 with ⟨e1, _⟩ | ⟨g3, _, _, e1, e2, _⟩
              · rw [e1] at e; simp [Value.ownBlock] at e
              · rw [e1] at e; simp [Value.ownBlock] at e; subst e; exact ext_new _ _ e2⟩
            clear hr9 hb9 HCp
            generalize ext K7 w7.heap.size (0, 0) = K9 at *
            go_wp2_with fail
            have hbA : Below w9.heap.size w9 (w9.alloc (.cells #[.string ⟨#[106]⟩, .slice a9 ct c9] 58)) := (Below.refl _ _).alloc (Nat.le_refl _) _
            have hIm : Im (w9.alloc (.cells #[.string ⟨#[106]⟩, .slice a9 ct c9] 58)) (ext K9 w9.heap.size (0, 0)) (.slice (some ⟨w9.heap.size, 0, none⟩) 1 1) [(jx, Y)] := one_im HYs.out HYl.out (by omega) (heap_alloc_new _ _) (ext_new _ _ (Nat.le_refl _)) (HC9.out.kept (kp_below hbA (fun _ => False) K9 (0, 0)) (fun h => h))
            have hok1 : okB [(jx, Y)] 131072 = true := one_ok (by rw [HYl.out]; omega)
            have HTA := hide (HT9.out.below hbA)
            have hOp := opened_any _ (ext K9 w9.heap.size (0, 0)) 1 2 (by decide) (by decide) (by decide) (.slice (some ⟨w9.heap.size, 0, none⟩) 1 1) [(jx, Y)] 131072 131072 (by show max (Y.length + 0) 131072 = 131072; rw [HYl.out]; omega) hIm (fun p hp => by simp at hp; subst hp; show jx.length ≤ 140737488355328; decide) (by omega) hok1 (laid_inv (by omega) hok1) 0 (laid_sz (by omega) hok1 (fun p hp => by simp at hp; subst hp; exact HYs.out)) (by omega) (by rw [HFo.out]) (tab_kp (HT.out.below HB5.out HT.out.pos) HTA.out.kp (HO5.out 0 (by have := HT.out.pos; omega)) nq0) ((HTA.out.kp.same 0 (by have := HT.out.pos; omega)).trans (HO5.out 0 (by have := HT.out.pos; omega)))
            rw [HFo.out, show ((131072 : Nat) : Int) = 131072 from rfl] at hOp
            have HOp := hide hOp
            obtain ⟨vsA, hbkA, _⟩ := HTA.out.bk
            rw [List.take_of_length_le (by rw [HLl.out]; exact Nat.le_refl _)] at hbkA
            have HGA : Hid (Gm (Gq 1 2) _ _ _ _ 1 2 d jb S J (.slice aB c cB) Lp) := hide (Gm.self ⟨HTA.out.dk, HTA.out.jk, ⟨vsA, hbkA⟩, HTA.out.kp⟩)
            have HKA := hide HTA.out.kp
            clear hbA hIm hok1 hOp hbkA HC9 HT9 HTA
            refine HOp.out.mono ?_
            rintro e wO ⟨d2, jb2, KO, rfl, hdO, hjO, hkO⟩
            have HGO := hide (HGA.out.anew nq0 hkO hdO hjO)
            have HKO := hide (HKA.out.trans hkO)
            clear hdO hjO hkO HOp HGA HKA
            generalize hJ2 : jnew jx (recsOf 1 (Lp.take k), (if Lp.take k = [] then 0 else 1 + (Lp.take k).length - 1), false, 0) = J2 at HGO
            have jr : J2.recs = recsOf 1 (Lp.take k) := by rw [← hJ2]; rfl
            have jt : J2.torn = false := by rw [← hJ2]; rfl
            have HJ2 : Hid (jtornJ (Lp.take k) false = J2) := hide hJ2
            have kd : Kp (fun _ => False) KO KO wO wO.drew := (Kp.refl _ _ _).drew
            have hTO : C.Tab wO := tab_kp (HT.out.below HB5.out HT.out.pos) HKO.out (HO5.out 0 (by have := HT.out.pos; omega)) nq0
            have hAll := All_any wO.drew KO 2 d2 jb2 J2 (HGO.out.jk.kept kd (fun _ h => h)) (by rw [jr]; exact trns_lens HTk.out) (by rw [jr, recs_length, Hkl.out]; omega) (tab_kp hTO kd ((HKO.out.same 0 (by have := HT.out.pos; omega)).trans (HO5.out 0 (by have := HT.out.pos; omega))) (fun h => h))
            rw [jr, recs_length, Hkl.out, allOf_recs _ _ HTk.out] at hAll
            have HAll := hide hAll
            have HFw := hide (trns_few HTk.out)
            have HJr := hide jr
            have HJt := hide jt
            have kb1 : (k : Int) ≤ (cB : Int) := by omega
            have kb2 : (k : Int) ≤ (c : Int) := by omega
            clear hJ2 jr jt kd hTO hAll
            go_wp2_with fail
            go_region_held3 (fun _ => True) (exact trivial) (first
              | (go_at_call 21; refine HTo.out.mono ?_; rintro e wC ⟨rfl, h9⟩; have h9 := h9.symm; subst h9)
              | (go_at_call 20; refine HLn.out.mono ?_; rintro e wC ⟨rfl, h9⟩; have h9 := h9.symm; subst h9)
              | (go_at_call 13; refine HTr.out.mono ?_; rintro e wB ⟨rfl, qq, hwB⟩; have hGB : Gm (Gq 1 2) (ext KO wO.heap.size (0, 0)) wB (ext KO wO.heap.size (0, 0)) wB 1 2 d2 jb2 (St.laid 131072 [(jx, Y)]) J2 (.slice aB c cB) Lp := (by rw [hwB]; exact (HGa.out.still ((Kp.refl _ _ _).drewN qq)).self); have HGB := hide hGB; have HKB : Hid (Kp (Gq 1 2) K5 (ext KO wO.heap.size (0, 0)) w5 wB) := (by rw [hwB]; exact HKa.out.trans ((Kp.refl _ _ _).drewN qq)); have HLn := hide (jlen_any wB _ _ _ _ _ hGB.jk); have HTo := hide (jtorn_any wB _ _ _ _ _ hGB.jk); rw [HJr.out, recs_length, Hkl.out] at HLn; rw [HJt.out] at HTo; clear hwB hGB)
              | (go_at_call 14; refine HAll.out.mono ?_; rintro e wA ⟨aA, cA, rfl, htr, hbw⟩; have HBa : Hid (Below wO.heap.size wO wA) := ⟨hbw.os, hbw.tape, hbw.output, hbw.size, hbw.block⟩; have HGa := hide ((HGO.out.below HBa.out).self); have HKa := hide (HKO.out.trans (kp_below HBa.out (Gq 1 2) KO (0, 0))); obtain ⟨vsa, hba⟩ := HGa.out.bk; have HTr := hide (trans_same wA aA aB k cA cB (Lp.take k) Hkl.out (by omega) (htr.trs HFw.out) ((hba.trs fun _ _ h => h _ _ (Kp.refl _ _ _)).take k)); clear htr hbw hba)
              | fail)
            all_goals go_wp2_with fail
            obtain ⟨bN, hCN, hXN⟩ := n_list wB (ext KO wO.heap.size (0, 0)) nq0 _ rfl
            have hGN := (HGB.out.below bN).self
            obtain ⟨vsN, hbN⟩ := hGN.bk
            have HGN := hide (Gm.mk hGN.dk hGN.jk ⟨_, hbN.take HLl.out hk⟩ (Kp.refl _ _ _))
            rw [← HJ2.out] at HGN
            have HKN := hide (HKB.out.trans (kp_below bN (Gq 1 2) _ (0, 0)))
            have HGo := hide (goes_at _ _ 1 2 d2 jb2 (by decide) (by decide) (by decide) (St.laid 131072 [(jx, Y)]) (jtornJ (Lp.take k) false) (.slice aB k cB) (Lp.take k) HGN.out (tab_kp (HT.out.below HB5.out HT.out.pos) HKN.out (HO5.out 0 (by have := HT.out.pos; omega)) nq0) ((HKN.out.same 0 (by have := HT.out.pos; omega)).trans (HO5.out 0 (by have := HT.out.pos; omega))) _ 2 2 _ rfl (by omega) hCN hXN (Gt Y (Lp.take k) false) (gt_gd HTk.out (by rw [Hkl.out]; omega) HYs.out (by rw [HYl.out]; omega)) 0 (gt_step HTk.out (by rw [Hkl.out]; omega) HYs.out (by rw [HYl.out]; omega) HRs.out (HR0.out _ HTau.out) ⟨rfl, rfl⟩ ⟨rfl, rfl⟩) (Or.inl ⟨rfl, rfl, rfl, rfl⟩))
            clear bN hCN hXN hGN hbN
            refine HGo.out.mono ?_
            rintro e wE ⟨vE, SE, JE, lE, KE, rfl, hmE, _⟩
            have HKE := hide (HKN.out.trans hmE.kp)
            obtain ⟨vsE, hbE⟩ := hmE.bk
            obtain ⟨aE2, cE2, hvE, _, _⟩ := hbE.row.form
            subst hvE
            clear hmE hbE HGo
            go_wp2
            go_ret
            exact ⟨rfl, HKE.out.below HB5.out (fun b hb => by rw [HO5.out b (by omega)]; exact nq0)⟩
          · have HTau : Hid (decide (endOf Lp k < ct) = true) := hide (by have := HEk.out; have := endOf_zero Lp; simp; omega)
            obtain ⟨gE, hgE, yk⟩ := HCE.out k e1
            subst hgE
            obtain ⟨E, hE⟩ : ∃ E, endOf Lp (k + 1) = E := ⟨_, rfl⟩
            rw [hE] at yk e2
            have q1 : (k : Int) < (c : Int) := by omega
            have q1b : ¬ (E : Int) ≤ (ct : Int) := by omega
            have q2 : ((ct : Int) == 0) = false := by simp; omega
            have q3 : (0 : Int) < (k : Int) := by omega
            obtain ⟨k1, hk1⟩ : ∃ k1, k1 + 1 = k := ⟨k - 1, by omega⟩
            obtain ⟨gE2, hgE2, yk1⟩ := HCE.out k1 (by omega)
            cases hgE2
            have hkm : (k : Int) - 1 = (k1 : Int) := by omega
            have u1 : (0 : Int) ≤ (k1 : Int) := by omega
            have u2 : (k1 : Int) < (c : Int) := by omega
            rw [hk1] at yk1
            obtain ⟨E1, hE1⟩ : ∃ E1, endOf Lp k = E1 := ⟨_, rfl⟩
            rw [hE1] at yk1 e5
            have q4 : ((E1 : Int) == (ct : Int)) = false := by simp; omega
            clear e1 e2 e3 e4 e5 hE hk1 hE1
            go_wp2_with fail
            have hYs : ∀ x ∈ X.take ct, x < 256 := fun x hx => HXs.out x (List.mem_of_mem_take hx)
            have hYl : (X.take ct).length = ct := by rw [List.length_take, HXl.out]; omega
            have HCp := hide (copy_any w7 a7 ct c7 (X.take ct) hYl (bytes_take (owns_bytes HR7.out HXs.out) ct) (by omega))
            have hkl : (Lp.take k).length = k := by rw [List.length_take, HLl.out]; omega
            obtain ⟨hfo, rest, hrest⟩ := cut_found HF2.out.fd.jd.trns (by rw [HLl.out]; exact hk) HEk.out HH2.out (by rw [HX.out, HXl.out]; exact hct2)
            rw [HX.out] at hfo hrest
            rw [HTau.out] at hfo
            have HTk : Hid (Trns 1 (Lp.take k)) := hide ((trns_app (a := Lp.take k) (b := Lp.drop k) (by rw [List.take_append_drop]; exact HF2.out.fd.jd.trns)).1)
            have HR0 : Hid (∀ τ, decide (endOf Lp k < ct) = τ → τ = false → rest = []) := hide (fun τ h1 h2 => by
              rw [h2] at h1
              have h3 : ct ≤ endOf Lp k := by simpa using h1
              have h4 := congrArg List.length hrest
              rw [hYl, List.length_append] at h4
              have h5 : (recsOf 1 (Lp.take k)).flatten.length = endOf Lp k := rfl
              exact List.eq_nil_of_length_eq_zero (by omega))
            obtain ⟨Y, hY⟩ : ∃ Y, X.take ct = Y := ⟨_, rfl⟩
            rw [hY] at HCp hYs hYl hfo hrest
            have HYs := hide hYs
            have HYl := hide hYl
            have HFo := hide hfo
            have HRs := hide hrest
            have Hkl := hide hkl
            clear hYs hYl hfo hrest hY hkl
            refine HCp.out.mono ?_
            rintro e w9 ⟨a9, c9, rfl, hr9, hb9⟩
            have HT9 := hide (HT7.out.below hb9)
            have HC9 : Hid (Rk w9 (ext K7 w7.heap.size (0, 0)) (0, 0) 5 1 (.slice a9 ct c9) ct (vals Y)) := ⟨by
              obtain ⟨h1, h2⟩ := hr9
              exact ⟨h1, h2.imp id (fun ⟨g', cap', cur, e1, _, r⟩ => ⟨g', cap', cur, e1, Nat.zero_le _, r⟩)⟩, fun g' e => by
              rcases hr9.2 with ⟨e1, _⟩ | ⟨g3, _, _, e1, e2, _⟩
              · rw [e1] at e; simp [Value.ownBlock] at e
              · rw [e1] at e; simp [Value.ownBlock] at e; subst e; exact ext_new _ _ e2⟩
            clear hr9 hb9 HCp
            generalize ext K7 w7.heap.size (0, 0) = K9 at *
            go_wp2_with fail
            have hbA : Below w9.heap.size w9 (w9.alloc (.cells #[.string ⟨#[106]⟩, .slice a9 ct c9] 58)) := (Below.refl _ _).alloc (Nat.le_refl _) _
            have hIm : Im (w9.alloc (.cells #[.string ⟨#[106]⟩, .slice a9 ct c9] 58)) (ext K9 w9.heap.size (0, 0)) (.slice (some ⟨w9.heap.size, 0, none⟩) 1 1) [(jx, Y)] := one_im HYs.out HYl.out (by omega) (heap_alloc_new _ _) (ext_new _ _ (Nat.le_refl _)) (HC9.out.kept (kp_below hbA (fun _ => False) K9 (0, 0)) (fun h => h))
            have hok1 : okB [(jx, Y)] 131072 = true := one_ok (by rw [HYl.out]; omega)
            have HTA := hide (HT9.out.below hbA)
            have hOp := opened_any _ (ext K9 w9.heap.size (0, 0)) 1 2 (by decide) (by decide) (by decide) (.slice (some ⟨w9.heap.size, 0, none⟩) 1 1) [(jx, Y)] 131072 131072 (by show max (Y.length + 0) 131072 = 131072; rw [HYl.out]; omega) hIm (fun p hp => by simp at hp; subst hp; show jx.length ≤ 140737488355328; decide) (by omega) hok1 (laid_inv (by omega) hok1) 0 (laid_sz (by omega) hok1 (fun p hp => by simp at hp; subst hp; exact HYs.out)) (by omega) (by rw [HFo.out]) (tab_kp (HT.out.below HB5.out HT.out.pos) HTA.out.kp (HO5.out 0 (by have := HT.out.pos; omega)) nq0) ((HTA.out.kp.same 0 (by have := HT.out.pos; omega)).trans (HO5.out 0 (by have := HT.out.pos; omega)))
            rw [HFo.out, show ((131072 : Nat) : Int) = 131072 from rfl] at hOp
            have HOp := hide hOp
            obtain ⟨vsA, hbkA, _⟩ := HTA.out.bk
            rw [List.take_of_length_le (by rw [HLl.out]; exact Nat.le_refl _)] at hbkA
            have HGA : Hid (Gm (Gq 1 2) _ _ _ _ 1 2 d jb S J (.slice aB c cB) Lp) := hide (Gm.self ⟨HTA.out.dk, HTA.out.jk, ⟨vsA, hbkA⟩, HTA.out.kp⟩)
            have HKA := hide HTA.out.kp
            clear hbA hIm hok1 hOp hbkA HC9 HT9 HTA
            refine HOp.out.mono ?_
            rintro e wO ⟨d2, jb2, KO, rfl, hdO, hjO, hkO⟩
            have HGO := hide (HGA.out.anew nq0 hkO hdO hjO)
            have HKO := hide (HKA.out.trans hkO)
            clear hdO hjO hkO HOp HGA HKA
            generalize hJ2 : jnew jx (recsOf 1 (Lp.take k), (if Lp.take k = [] then 0 else 1 + (Lp.take k).length - 1), true, 0) = J2 at HGO
            have jr : J2.recs = recsOf 1 (Lp.take k) := by rw [← hJ2]; rfl
            have jt : J2.torn = true := by rw [← hJ2]; rfl
            have HJ2 : Hid (jtornJ (Lp.take k) true = J2) := hide hJ2
            have kd : Kp (fun _ => False) KO KO wO wO.drew := (Kp.refl _ _ _).drew
            have hTO : C.Tab wO := tab_kp (HT.out.below HB5.out HT.out.pos) HKO.out (HO5.out 0 (by have := HT.out.pos; omega)) nq0
            have hAll := All_any wO.drew KO 2 d2 jb2 J2 (HGO.out.jk.kept kd (fun _ h => h)) (by rw [jr]; exact trns_lens HTk.out) (by rw [jr, recs_length, Hkl.out]; omega) (tab_kp hTO kd ((HKO.out.same 0 (by have := HT.out.pos; omega)).trans (HO5.out 0 (by have := HT.out.pos; omega))) (fun h => h))
            rw [jr, recs_length, Hkl.out, allOf_recs _ _ HTk.out] at hAll
            have HAll := hide hAll
            have HFw := hide (trns_few HTk.out)
            have HJr := hide jr
            have HJt := hide jt
            have kb1 : (k : Int) ≤ (cB : Int) := by omega
            have kb2 : (k : Int) ≤ (c : Int) := by omega
            clear hJ2 jr jt kd hTO hAll
            go_wp2_with fail
            go_region_held3 (fun _ => True) (exact trivial) (first
              | (go_at_call 21; refine HTo.out.mono ?_; rintro e wC ⟨rfl, h9⟩; have h9 := h9.symm; subst h9)
              | (go_at_call 20; refine HLn.out.mono ?_; rintro e wC ⟨rfl, h9⟩; have h9 := h9.symm; subst h9)
              | (go_at_call 13; refine HTr.out.mono ?_; rintro e wB ⟨rfl, qq, hwB⟩; have hGB : Gm (Gq 1 2) (ext KO wO.heap.size (0, 0)) wB (ext KO wO.heap.size (0, 0)) wB 1 2 d2 jb2 (St.laid 131072 [(jx, Y)]) J2 (.slice aB c cB) Lp := (by rw [hwB]; exact (HGa.out.still ((Kp.refl _ _ _).drewN qq)).self); have HGB := hide hGB; have HKB : Hid (Kp (Gq 1 2) K5 (ext KO wO.heap.size (0, 0)) w5 wB) := (by rw [hwB]; exact HKa.out.trans ((Kp.refl _ _ _).drewN qq)); have HLn := hide (jlen_any wB _ _ _ _ _ hGB.jk); have HTo := hide (jtorn_any wB _ _ _ _ _ hGB.jk); rw [HJr.out, recs_length, Hkl.out] at HLn; rw [HJt.out] at HTo; clear hwB hGB)
              | (go_at_call 14; refine HAll.out.mono ?_; rintro e wA ⟨aA, cA, rfl, htr, hbw⟩; have HBa : Hid (Below wO.heap.size wO wA) := ⟨hbw.os, hbw.tape, hbw.output, hbw.size, hbw.block⟩; have HGa := hide ((HGO.out.below HBa.out).self); have HKa := hide (HKO.out.trans (kp_below HBa.out (Gq 1 2) KO (0, 0))); obtain ⟨vsa, hba⟩ := HGa.out.bk; have HTr := hide (trans_same wA aA aB k cA cB (Lp.take k) Hkl.out (by omega) (htr.trs HFw.out) ((hba.trs fun _ _ h => h _ _ (Kp.refl _ _ _)).take k)); clear htr hbw hba)
              | fail)
            all_goals go_wp2_with fail
            obtain ⟨bN, hCN, hXN⟩ := n_list wB (ext KO wO.heap.size (0, 0)) nq0 _ rfl
            have hGN := (HGB.out.below bN).self
            obtain ⟨vsN, hbN⟩ := hGN.bk
            have HGN := hide (Gm.mk hGN.dk hGN.jk ⟨_, hbN.take HLl.out hk⟩ (Kp.refl _ _ _))
            rw [← HJ2.out] at HGN
            have HKN := hide (HKB.out.trans (kp_below bN (Gq 1 2) _ (0, 0)))
            have HGo := hide (goes_at _ _ 1 2 d2 jb2 (by decide) (by decide) (by decide) (St.laid 131072 [(jx, Y)]) (jtornJ (Lp.take k) true) (.slice aB k cB) (Lp.take k) HGN.out (tab_kp (HT.out.below HB5.out HT.out.pos) HKN.out (HO5.out 0 (by have := HT.out.pos; omega)) nq0) ((HKN.out.same 0 (by have := HT.out.pos; omega)).trans (HO5.out 0 (by have := HT.out.pos; omega))) _ 2 2 _ rfl (by omega) hCN hXN (Gt Y (Lp.take k) true) (gt_gd HTk.out (by rw [Hkl.out]; omega) HYs.out (by rw [HYl.out]; omega)) 0 (gt_step HTk.out (by rw [Hkl.out]; omega) HYs.out (by rw [HYl.out]; omega) HRs.out (HR0.out _ HTau.out) ⟨rfl, rfl⟩ ⟨rfl, rfl⟩) (Or.inl ⟨rfl, rfl, rfl, rfl⟩))
            clear bN hCN hXN hGN hbN
            refine HGo.out.mono ?_
            rintro e wE ⟨vE, SE, JE, lE, KE, rfl, hmE, _⟩
            have HKE := hide (HKN.out.trans hmE.kp)
            obtain ⟨vsE, hbE⟩ := hmE.bk
            obtain ⟨aE2, cE2, hvE, _, _⟩ := hbE.row.form
            subst hvE
            clear hmE hbE HGo
            go_wp2
            go_ret
            exact ⟨rfl, HKE.out.below HB5.out (fun b hb => by rw [HO5.out b (by omega)]; exact nq0)⟩
end Go.Proofs.YtlmfohcdaahojabGreatDoor
