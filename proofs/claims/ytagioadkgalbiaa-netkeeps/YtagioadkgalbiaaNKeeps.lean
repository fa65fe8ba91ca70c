import Derived.Test.YtagioadkgalbiaaNKs
import Derived.Deep.CutRange
namespace Go.Proofs.Ytagioadkgalbiaa
open Go.RowKit Go.Maps

set_option maxRecDepth 100000 in
set_option maxHeartbeats 40000000 in
theorem keeps_all (w : World) (rm : Int) (sp : Option Addr) (m c0 : Nat) (mv : List (Int × Int)) (hm : mv.length = m) (hml : m ≤ 140737488355328) (h : Mvs w sp mv) :
    Calls Try.prog 3 #[.agg #[.int .i64 rm, .slice sp m c0]] w fun e w' => e = .returned (.bool true) ∧ Below w.heap.size w w' := by
  obtain ⟨iI, hiI, hzI0, hzI1, hzI2⟩ := info_parts Try.infoInt
  have HM := hide hm
  have HV := hide h
  clear hm h
  obtain ⟨bx, hbx⟩ : ∃ bx, (.cells #[.int .i64 rm, .slice sp m c0] 24 : Obj) = bx := ⟨_, rfl⟩
  have HBx := hide hbx
  have hb1 : Below w.heap.size w (w.alloc (.cells #[.int .i64 rm, .slice sp m c0] 24)) := (Below.refl _ _).alloc (Nat.le_refl _) _
  have hx1 : (w.alloc (.cells #[.int .i64 rm, .slice sp m c0] 24)).heap[w.heap.size]? = some (.cells #[.int .i64 rm, .slice sp m c0] 24) := heap_alloc_new _ _
  have HIn := hide (into_any (w.alloc (.cells #[.int .i64 rm, .slice sp m c0] 24)) rm 40 (by omega) (by omega))
  rw [show ((40 : Nat) : Int) = 40 from rfl] at HIn
  obtain ⟨r, hr⟩ : ∃ r, (rm % 40).toNat = r := ⟨_, rfl⟩
  have hr40 : r < 40 := by omega
  rw [hr] at HIn
  obtain ⟨R, hR⟩ : ∃ R, 1 + r = R := ⟨_, rfl⟩
  have hR1 : (1 : Int) + (r : Int) = (R : Int) := by omega
  have hR40 : R ≤ 40 := by omega
  have HNr : Hid (newR (R : Int) = true) := by show _ = _; unfold newR; simp; omega
  have HNw := hide (New_any (w.alloc (.cells #[.int .i64 rm, .slice sp m c0] 24)) (ext K00 w.heap.size (3, 0)) 1 (R : Int))
  have HB1 := hide hb1
  have HX1 := hide hx1
  clear hb1 hx1 hr hR hbx
  go_enter Try.func3, Try.ntmps3
  go_wp2_with fail
  refine HIn.out.mono ?_
  rintro e w1 ⟨rfl, h9⟩
  subst h9
  go_wp2_with fail
  refine HNw.out.mono ?_
  rintro e w2 ⟨hb2, ⟨_, rfl, hn2⟩ | ⟨hf, _⟩⟩
  rotate_left
  · rw [HNr.out] at hf; cases hf
  rw [Int.toNat_natCast] at hn2
  obtain ⟨nb, hnb⟩ : ∃ nb, (w.alloc (.cells #[.int .i64 rm, .slice sp m c0] 24)).heap.size = nb := ⟨_, rfl⟩
  have hnb1 : nb = w.heap.size + 1 := by rw [← hnb]; simp
  rw [hnb] at hn2 hb2 ⊢
  have hks : Ks w w2 (ext (ext K00 w.heap.size (3, 0)) nb (1, 1)) nb R 0 ⟨R, [], 0⟩ (.slice none 0 0) [] bx := by
    refine ⟨hn2, rfl, rfl, rfl, Nat.zero_le _, fun _ h => (by cases h), rk_nil _ _ _ _ _, ?_, ?_, HB1.out.trans (hb2.mono (by omega)), fun b hb => ?_⟩
    · rw [← HBx.out]; exact (hb2.block _ (by omega)).trans HX1.out
    · rw [ext_old _ _ (by omega), ext_new _ _ (Nat.le_refl _)]
    · rw [ext_old _ _ (by omega), ext_old _ _ hb]; rfl
  have HK2 := hide hks
  clear hn2 hb2 hks hnb hnb1
  go_wp2_with fail
  refine (num_any _ 0).mono ?_
  rintro e w3 ⟨rfl, h9⟩
  have h9 := h9.symm
  subst h9
  have HLv := hide (lives_any w2)
  go_wp2_with fail
  refine HLv.out.mono ?_
  rintro e w3 ⟨rfl, hb3⟩
  have HK3 := hide (HK2.out.below hb3)
  clear hb3
  go_wp2
  go_loopw [6, 7, 8] (fun rv lo i wr => ∃ (k : Nat) (K : Knd) (N : Nt) (a : Option Addr) (n c L : Nat) (row : List Nat), k ≤ m ∧ k ≤ 300 ∧ i = .int .i64 k ∧ lo = .int .u64 (L : Int) ∧ rv = .slice a n c ∧ n ≤ R ∧ L ≤ k ∧ Hid (row.length = n) ∧ Hid (Ks w wr K nb R L N (.slice a n c) row bx)) (fun _ _ i _ => 300 - (intOf i).toNat)
  case atStart => exact ⟨0, _, _, none, 0, 0, 0, [], Nat.zero_le _, by omega, rfl, rfl, rfl, Nat.zero_le _, Nat.le_refl _, hide rfl, HK3⟩
  case round =>
    obtain ⟨k, K, N, a, n, c, L, row, hk, hk2, rfl, rfl, rfl, hnR, hLk, HL, HK⟩ := hrel
    have q : wr.heap[w.heap.size]? = _ := HK.out.box.trans (congrArg some HBx.out.symm)
    obtain ⟨b0, b1⟩ := blk2 q
    have hwl := lt_of_block q
    clear q
    by_cases hlt : k < m
    · have hlt' : (k : Int) < (m : Int) := by omega
      by_cases hlt2 : k < 300
      · have hlt2' : (k : Int) < 300 := by omega
        obtain ⟨⟨d, z⟩, hq⟩ : ∃ q, mv[k]? = some q := ⟨_, List.getElem?_eq_getElem (by have := HM.out; omega)⟩
        obtain ⟨g, o, rfl, hg, hcs⟩ : ∃ g o, sp = some ⟨g, o, none⟩ ∧ g < w.heap.size ∧ ∀ j d a, mv[j]? = some (d, a) → w.cell? ⟨g, o + j * 2, none⟩ = some (.int .i64 d) ∧ w.cell? ⟨g, o + j * 2 + 1, none⟩ = some (.int .i64 a) := by
          rcases HV.out.lie with e | e
          · rw [e] at hq; simp at hq
          · exact e
        have s0 : wr.cell? ⟨g, o + k * 2, none⟩ = some (.int .i64 d) := (HK.out.bel.cell (p := ⟨g, o + k * 2, none⟩) hg).trans (hcs k d z hq).1
        have s1 : wr.cell? ⟨g, o + k * 2 + 1, none⟩ = some (.int .i64 z) := (HK.out.bel.cell (p := ⟨g, o + k * 2 + 1, none⟩) hg).trans (hcs k d z hq).2
        have HCg : Hid (∀ w' : World, Below w.heap.size w w' → w'.cell? ⟨g, o + k * 2, none⟩ = some (.int .i64 d) ∧ w'.cell? ⟨g, o + k * 2 + 1, none⟩ = some (.int .i64 z)) := fun w' hb => ⟨(hb.cell (p := ⟨g, o + k * 2, none⟩) hg).trans (hcs k d z hq).1, (hb.cell (p := ⟨g, o + k * 2 + 1, none⟩) hg).trans (hcs k d z hq).2⟩
        have i0 : (0 : Int) ≤ (k : Int) := by omega
        clear hq hcs
        go_upto_region 11 with (fail)
        go_cut [10] from 36 to 185 (fun s wc => s = .bool (decide (0 ≤ z) && decide (z < (n : Int))) ∧ wc = wr)
        case first =>
          by_cases hz0 : 0 ≤ z
          · by_cases hz1 : z < (n : Int)
            · go_wp2
              go_meet
              case rel => exact ⟨by simp [hz0, hz1], rfl⟩
            · go_wp2
              go_meet
              case rel => exact ⟨by simp [hz1], rfl⟩
          · go_wp2
            go_meet
            case rel => exact ⟨by simp; omega, rfl⟩
        case rest =>
          obtain ⟨hs, hw⟩ := hcut
          have hw := hw.symm
          subst hs hw
          by_cases hd1 : d = 1
          · subst hd1
            as_aux_lemma =>
              generalize (decide (0 ≤ z) && decide (z < (n : Int))) = bz
              have HAd := hide (HK.out.adds)
              obtain ⟨r7, hr7⟩ : ∃ r7, k % 7 = r7 := ⟨_, rfl⟩
              have hm1 : (k : Int).tmod 7 = (r7 : Int) := by rw [Int.tmod_eq_emod_of_nonneg (by omega)]; omega
              have hm2 : (k : Int) % 7 = (r7 : Int) := by omega
              have HMs : Hid (msOf k = ⟨(r7 : Int), str (tagB k)⟩) := by show _ = _; unfold msOf; rw [hr7]
              clear hr7
              have HTg := hide (tag_any wr k (by omega))
              go_wp2_with fail
              refine HTg.out.mono ?_
              rintro e w4 ⟨rfl, hy4, hb4⟩
              have HK4 := hide (HK.out.below hb4)
              have HSd := hide (Send_any w4 _ 1 nb N HK4.out.net (by rw [HK4.out.room]; omega) (by rw [HK4.out.lost]; omega) (r7 : Int) (some ⟨wr.heap.size, 0, none⟩) 2 2 (tagB k) hy4 rfl)
              rw [HAd.out, HL.out] at HSd
              clear hb4 hy4
              by_cases hroom : n < R
              · have hroom' : (n : Int) < (R : Int) := by omega
                rw [show decide (n < R) = true by simp [hroom]] at HSd
                go_wp2_with fail
                refine HSd.out.mono ?_
                rintro e w5 ⟨K5, rfl, hn5, hk5⟩
                have HT5 : Hid (Kt w w5 K5 nb R L (N.send ⟨(r7 : Int), str (tagB k)⟩) (.slice a n c) row (row ++ [k]) bx) := by
                  have e : N.send ⟨(r7 : Int), str (tagB k)⟩ = { N with row := N.row ++ [⟨(r7 : Int), str (tagB k)⟩] } := by unfold Nt.send; rw [if_pos (by rw [HK4.out.eq, List.length_map, HL.out, HK4.out.room]; exact hroom)]
                  refine HK4.out.tn hk5 hn5 (row ++ [k]) (by rw [e, List.map_append, ← HK4.out.eq]; simp [HMs.out]) (by rw [e]) (by rw [e]) (by simp [HL.out]; omega) (fun x hx => ?_)
                  rcases List.mem_append.1 hx with h | h
                  · exact HK.out.small x h
                  · simp at h; omega
                clear hn5 hk5
                have hbb : Below w5.heap.size w5 (w5.alloc (.cells #[.int .i64 (k : Int)] 3)) := (Below.refl _ _).alloc (Nat.le_refl _) _
                have HT6 := hide (HT5.out.below hbb)
                have hrow6 := HT6.out.row.own
                rw [HL.out] at hrow6
                have HRw := hide hrow6
                clear hbb hrow6
                go_wp2_with (at_builtin; refine wpList_append_lies _ rfl (.tmp 82) (.tmp 84) 32 rfl 0 3 iI (.int .i64 0) 1 8 Try.underlying32 hiI hzI0 hzI1 hzI2 rfl (by omega) (.slice a n c) n (ints row) rfl HRw.out ⟨w5.heap.size, 0, none⟩ 1 1 [.int .i64 (k : Int)] rfl rfl (World.news_of_block (heap_alloc_new w5 (.cells #[.int .i64 (k : Int)] 3))) (by simp [Value.oneCell']) (by omega) (by unfold maxLen; omega) (by omega) (by omega) _ rfl ?_; intro g' cap' w7 hown7 hgrow7 hat7 hltg; have HKS := hide (HT6.out.up (rv' := .slice (some ⟨g', 0, none⟩) (n + 1) cap') (by rw [List.length_append, HL.out, ints_app]; exact hown7) hgrow7 (fun g2 e => by simp [Value.ownBlock] at e; subst e; rcases hat7 with h | h; exact Or.inl h; right; omega)); have HLX : Hid ((row ++ [k]).length = n + 1) := (by show _ = _; rw [List.length_append, HL.out]; rfl); clear hown7 hgrow7 hat7)
                have HLe := hide (nlen_any _ _ _ _ _ HKS.out.net)
                have HLo := hide (lost_any _ _ _ _ _ HKS.out.net)
                rw [HKS.out.eq, List.length_map, HLX.out] at HLe
                rw [HKS.out.lost] at HLo
                go_wp2_with fail
                refine HLe.out.mono ?_
                rintro e w9 ⟨rfl, h9⟩
                have h9 := h9.symm
                subst h9
                go_wp2_with fail
                refine HLo.out.mono ?_
                rintro e w9 ⟨rfl, h9⟩
                have h9 := h9.symm
                subst h9
                go_wp2
                go_roundw
                case rel => exact ⟨k + 1, _, _, (some ⟨g', 0, none⟩), (n + 1), cap', L, (row ++ [k]), by omega, by omega, by go_num, rfl, rfl, by omega, by omega, HLX, HKS⟩
                case measure => simp [intOf]; omega
              · have hroom' : ¬ (n : Int) < (R : Int) := by omega
                rw [show decide (n < R) = false by simp [hroom]] at HSd
                obtain ⟨L1, hL1⟩ : ∃ L1, L + 1 = L1 := ⟨_, rfl⟩
                have hL2 : (L : Int) + 1 = (L1 : Int) := by omega
                have hL3 : L1 ≤ 301 := by omega
                have HL1 := hide hL1
                have hLk1 : L1 ≤ k + 1 := by omega
                clear hL1
                go_wp2_with fail
                refine HSd.out.mono ?_
                rintro e w5 ⟨K5, rfl, hn5, hk5⟩
                have HKS : Hid (Ks w w5 K5 nb R L1 (N.send ⟨(r7 : Int), str (tagB k)⟩) (.slice a n c) row bx) := by
                  have e : N.send ⟨(r7 : Int), str (tagB k)⟩ = { N with lost := N.lost + 1 } := by unfold Nt.send; rw [if_neg (by rw [HK4.out.eq, List.length_map, HL.out, HK4.out.room]; exact hroom)]
                  exact HK4.out.turned hk5 hn5 (by rw [e]) (by rw [e]) (by rw [e]; show N.lost + 1 = _; rw [HK4.out.lost, HL1.out])
                have HLX := HL
                clear hn5 hk5
                have HLe := hide (nlen_any _ _ _ _ _ HKS.out.net)
                have HLo := hide (lost_any _ _ _ _ _ HKS.out.net)
                rw [HKS.out.eq, List.length_map, HLX.out] at HLe
                rw [HKS.out.lost] at HLo
                go_wp2_with fail
                refine HLe.out.mono ?_
                rintro e w9 ⟨rfl, h9⟩
                have h9 := h9.symm
                subst h9
                go_wp2_with fail
                refine HLo.out.mono ?_
                rintro e w9 ⟨rfl, h9⟩
                have h9 := h9.symm
                subst h9
                go_wp2
                go_roundw
                case rel => exact ⟨k + 1, _, _, a, n, c, L1, row, by omega, by omega, by go_num, rfl, rfl, hnR, hLk1, HLX, HKS⟩
                case measure => simp [intOf]; omega
          · by_cases hd2 : d = 2
            · subst hd2
              by_cases hin : 0 ≤ z ∧ z < (n : Int)
              · rw [show (decide (0 ≤ z) && decide (z < (n : Int))) = true by simp [hin.1, hin.2]]
                obtain ⟨j, rfl⟩ : ∃ j : Nat, z = (j : Int) := ⟨z.toNat, by omega⟩
                have hjn : j < n := by omega
                have hj00 : (0 : Int) ≤ (j : Int) := by omega
                have hj01 : (j : Int) < (n : Int) := by omega
                clear hin
                obtain ⟨x, hx⟩ : ∃ x, row[j]? = some x := ⟨_, List.getElem?_eq_getElem (by have := HL.out; omega)⟩
                have hx65 : x < 65536 := Nat.lt_trans (HK.out.small x (List.mem_of_getElem? hx)) (by omega)
                have HHs : Hid (N.has (j : Int) = true) := by show _ = _; rw [HK.out.has, HL.out]; simp; omega
                have HXx : Hid (row[j]? = some x) := hide hx
                obtain ⟨gr, ha, c1, c2, c3, c4, c5, _⟩ := irow_cells (by have := HK.out.row.own; rw [HL.out] at this; exact this) hx
                subst ha
                have HKg : Hid (K gr = (2, 0)) := HK.out.row.kind gr rfl
                have HCut := hide (HK.out.cut j (by have := HL.out; omega))
                clear hx
                have HTk := hide (Take_any wr K (0, 0) 1 nb (by decide) N HK.out.net (by rw [HK.out.eq, List.length_map, HL.out]; omega) (j : Int))
                have HMx := hide (HK.out.at HXx.out)
                obtain ⟨r7, hr7⟩ : ∃ r7, x % 7 = r7 := ⟨_, rfl⟩
                have hm1 : (x : Int).tmod 7 = (r7 : Int) := by rw [Int.tmod_eq_emod_of_nonneg (by omega)]; omega
                have hm2 : (x : Int) % 7 = (r7 : Int) := by omega
                have HMs : Hid (msOf x = ⟨(r7 : Int), str (tagB x)⟩) := by show _ = _; unfold msOf; rw [hr7]
                clear hr7
                go_wp2_with fail
                refine HTk.out.mono ?_
                rintro e w2 ⟨hn2, hk2, ⟨_, mm, gb, cb, hmm, rfl, hgb, ht⟩ | ⟨hf, _⟩⟩
                rotate_left
                · rw [HHs.out] at hf; cases hf
                obtain rfl : mm = msOf x := by rw [Int.toNat_natCast, HMx.out] at hmm; exact (Option.some.inj hmm).symm
                rw [HMs.out] at ht ⊢
                simp only at ht ⊢
                rw [tag_size] at ⊢
                have hby := ht.bytes
                rw [tag_nums] at hby
                have hgc : w2.cell? ⟨gr, j, none⟩ = some (.int .i64 (x : Int)) := by
                  have hbk := hk2.block gr c5 (by rw [HKg.out]; exact pnet_no (by decide))
                  have : w2.cell? ⟨gr, j, none⟩ = wr.cell? ⟨gr, j, none⟩ := by simp only [World.cell?, hbk]
                  rw [this]; exact c4
                have hg2 : gr < w2.heap.size := Nat.lt_of_lt_of_le c5 hk2.size
                have HT2 := hide (HK.out.tn hk2 hn2 (row.take j ++ row.drop (j + 1)) HCut.out.1 HCut.out.2.1 HCut.out.2.2 (by rw [cut_len (by have := HL.out; omega), HL.out]; omega) (cut_mem HK.out.small))
                have hb3 : Below w2.heap.size w2 (w2.alloc (.cells #[.int .i64 (r7 : Int), .slice (some ⟨gb, 0, none⟩) 2 cb] 46)) := (Below.refl _ _).alloc (Nat.le_refl _) _
                have HT3 := hide (HT2.out.below hb3)
                have HY3 := hide (hby.below hb3)
                have hgc3 := (hb3.cell (p := ⟨gr, j, none⟩) hg2).trans hgc
                have hx3 : (w2.alloc (.cells #[.int .i64 (r7 : Int), .slice (some ⟨gb, 0, none⟩) 2 cb] 46)).heap[w2.heap.size]? = _ := heap_alloc_new _ _
                clear hn2 hk2 hmm ht hby c4 hgc hb3 HTk
                go_wp2_with fail
                obtain ⟨x0, x1⟩ := blk2 hx3
                have l3 := lt_of_block hx3
                generalize w2.alloc (.cells #[.int .i64 (r7 : Int), .slice (some ⟨gb, 0, none⟩) 2 cb] 46) = w3 at *
                have hg3 : gr < w3.heap.size := by omega
                have HW3 := hide (which_any w3.drew (r7 : Int) gb cb x hx65 ⟨HY3.out.small, HY3.out.lie⟩)
                obtain ⟨tb, htb⟩ : ∃ tb, w2.heap.size = tb := ⟨_, rfl⟩
                rw [htb] at x0 x1 l3 ⊢
                clear htb hx3
                go_region_held3 (fun w' => w'.cell? ⟨tb, 0, none⟩ = some (.int .i64 (r7 : Int)) ∧ w'.cell? ⟨tb, 1, none⟩ = some (.slice (some ⟨gb, 0, none⟩) 2 cb) ∧ w'.cell? ⟨gr, j, none⟩ = some (.int .i64 (x : Int))) (go_keep) (first | (go_at_call 12; refine HW3.out.mono ?_; rintro e w4 ⟨rfl, hb4⟩; have z0 : w4.cell? ⟨tb, 0, none⟩ = _ := (hb4.cell (p := ⟨tb, 0, none⟩) l3).trans x0; have z1 : w4.cell? ⟨tb, 1, none⟩ = _ := (hb4.cell (p := ⟨tb, 1, none⟩) l3).trans x1; have z2 : w4.cell? ⟨gr, j, none⟩ = _ := (hb4.cell (p := ⟨gr, j, none⟩) hg3).trans hgc3; have HT5 := hide (HT3.out.below (show Below w3.heap.size w3 w4 from ⟨hb4.os, hb4.tape, hb4.output, hb4.size, hb4.block⟩)); clear hb4) | fail)
                go_wp2_with fail
                clear x0 x1 z0 z1 z2 hgc3
                obtain ⟨A, hA⟩ : ∃ A : Option Addr, (if c = j + 1 then some (⟨gr, 0, none⟩ : Addr) else some ⟨gr, j + 1, none⟩) = A := ⟨_, rfl⟩
                obtain ⟨a1, k1, w6, a2, k2, w7, hr1, hr2, ho7, hb7⟩ := cut_row (w := w4.drew) (k := j) (by have := (HT5.out.row.own).drew; rw [HL.out] at this; exact this) (by omega) hjn A hA.symm 32
                have HKS : Hid (Ks w w7 (ext _ w4.heap.size (2, 0)) nb R L (N.dropped (j : Int)) (.slice a2 (n - 1) k2) (row.take j ++ row.drop (j + 1)) bx) :=
                  HT5.out.up (by rw [cut_len (by have := HL.out; omega), HL.out]; exact ⟨ho7.1, ho7.2.imp id (fun ⟨g, cap, cur, h1, _, r⟩ => ⟨g, cap, cur, h1, Nat.zero_le _, r⟩)⟩) ⟨hb7.os, hb7.tape, hb7.output, hb7.size, fun b hb _ => hb7.block b hb⟩ (fun g2 e => Or.inr (by
                    rcases ho7.2 with ⟨e1, _⟩ | ⟨g3, _, _, e1, e2, _⟩
                    · rw [e1] at e; simp [Value.ownBlock] at e
                    · rw [e1] at e; simp [Value.ownBlock] at e; subst e; exact e2))
                have HLX : Hid ((row.take j ++ row.drop (j + 1)).length = n - 1) := by show _ = _; rw [cut_len (by have := HL.out; omega), HL.out]
                have hj1 : (0 : Int) ≤ (j : Int) + 1 := by omega
                have hj2 : (j : Int) + 1 ≤ (n : Int) := by omega
                have hj3 : (j : Int) ≤ (c : Int) := by omega
                have hj4 : IntKind.i64.wrap ((j : Int) + 1) = (j : Int) + 1 := IntWalk.i64_in _ (by omega)
                have hj5 : ((j : Int) + 1).toNat = j + 1 := by omega
                have HR1 := hide hr1
                have HR2 := hide hr2
                clear ho7 hb7 hr1 hr2
                go_region_law (first | (refine step_app_run (by kernel_rfl) (.tmp 143) (.tmp 147) 32 32 (by rfl) _ _ _ _ (by rfl) (by rfl) HR2.out ?_) | (refine step_app_run (by kernel_rfl) (.tmp 139) (.tmp 142) 32 32 (by rfl) _ _ _ _ (by rfl) (by rfl) HR1.out ?_))

                have HLe := hide (nlen_any _ _ _ _ _ HKS.out.net)
                have HLo := hide (lost_any _ _ _ _ _ HKS.out.net)
                rw [HKS.out.eq, List.length_map, HLX.out] at HLe
                rw [HKS.out.lost] at HLo
                go_wp2_with fail
                refine HLe.out.mono ?_
                rintro e w9 ⟨rfl, h9⟩
                have h9 := h9.symm
                subst h9
                go_wp2_with fail
                refine HLo.out.mono ?_
                rintro e w9 ⟨rfl, h9⟩
                have h9 := h9.symm
                subst h9
                go_wp2
                go_roundw
                case rel => exact ⟨k + 1, _, _, a2, (n - 1), k2, L, (row.take j ++ row.drop (j + 1)), by omega, by omega, by go_num, rfl, rfl, by omega, by omega, HLX, HKS⟩
                case measure => simp [intOf]; omega
              · rw [show (decide (0 ≤ z) && decide (z < (n : Int))) = false by simp; omega]
                have HHs : Hid (N.has z = false ∧ N.dropped z = N) := by
                  have e : N.has z = false := by rw [HK.out.has, HL.out]; simp; omega
                  exact ⟨e, by unfold Nt.dropped; rw [if_neg (by rw [e]; simp)]⟩
                clear hin
                have HTk := hide (Take_any wr K (0, 0) 1 nb (by decide) N HK.out.net (by rw [HK.out.eq, List.length_map, HL.out]; omega) z)
                go_wp2_with fail
                refine HTk.out.mono ?_
                rintro e w2 ⟨hn2, hk2, ⟨hf, _⟩ | ⟨hf, rfl⟩⟩
                · rw [HHs.out.1] at hf; cases hf
                rw [HHs.out.2] at hn2
                have HK2' := hide (HK.out.turned hk2 hn2 rfl rfl HK.out.lost)
                have hb3 : Below w2.heap.size w2 (w2.alloc (.cells #[.int .i64 0, .slice none 0 0] 46)) := (Below.refl _ _).alloc (Nat.le_refl _) _
                have HK3' := hide (HK2'.out.below hb3)
                have hx3 : (w2.alloc (.cells #[.int .i64 0, .slice none 0 0] 46)).heap[w2.heap.size]? = _ := heap_alloc_new _ _
                clear hn2 hk2 hf hb3 HTk
                go_wp2_with fail
                obtain ⟨x0, x1⟩ := blk2 hx3
                have l3 := lt_of_block hx3
                generalize w2.alloc (.cells #[.int .i64 0, .slice none 0 0] 46) = w3 at *
                clear hx3
                have HKS := hide (HK3'.out.below (show Below w3.heap.size w3 w3.drew from (Below.refl _ _).drew))
                have HLX := HL
                go_region

                have HLe := hide (nlen_any _ _ _ _ _ HKS.out.net)
                have HLo := hide (lost_any _ _ _ _ _ HKS.out.net)
                rw [HKS.out.eq, List.length_map, HLX.out] at HLe
                rw [HKS.out.lost] at HLo
                go_wp2_with fail
                refine HLe.out.mono ?_
                rintro e w9 ⟨rfl, h9⟩
                have h9 := h9.symm
                subst h9
                go_wp2_with fail
                refine HLo.out.mono ?_
                rintro e w9 ⟨rfl, h9⟩
                have h9 := h9.symm
                subst h9
                go_wp2
                go_roundw
                case rel => exact ⟨k + 1, _, _, a, n, c, L, row, by omega, by omega, by go_num, rfl, rfl, hnR, by omega, HLX, HKS⟩
                case measure => simp [intOf]; omega
            · by_cases hd3 : d = 3
              · subst hd3
                by_cases hin : 0 ≤ z ∧ z < (n : Int)
                · rw [show (decide (0 ≤ z) && decide (z < (n : Int))) = true by simp [hin.1, hin.2]]
                  obtain ⟨j, rfl⟩ : ∃ j : Nat, z = (j : Int) := ⟨z.toNat, by omega⟩
                  have hjn : j < n := by omega
                  have hj00 : (0 : Int) ≤ (j : Int) := by omega
                  have hj01 : (j : Int) < (n : Int) := by omega
                  clear hin
                  obtain ⟨x, hx⟩ : ∃ x, row[j]? = some x := ⟨_, List.getElem?_eq_getElem (by have := HL.out; omega)⟩
                  have hx65 : x < 65536 := Nat.lt_trans (HK.out.small x (List.mem_of_getElem? hx)) (by omega)
                  have HHs : Hid (N.has (j : Int) = true) := by show _ = _; rw [HK.out.has, HL.out]; simp; omega
                  have HXx : Hid (row[j]? = some x) := hide hx
                  obtain ⟨gr, ha, c1, c2, c3, c4, c5, _⟩ := irow_cells (by have := HK.out.row.own; rw [HL.out] at this; exact this) hx
                  subst ha
                  have HKg : Hid (K gr = (2, 0)) := HK.out.row.kind gr rfl
                  have HCut := hide (HK.out.cut j (by have := HL.out; omega))
                  clear hx
                  have HDr := hide (Drop_any wr K 1 nb N HK.out.net (by rw [HK.out.eq, List.length_map, HL.out]; omega) (j : Int))
                  rw [HHs.out] at HDr
                  go_wp2_with fail
                  refine HDr.out.mono ?_
                  rintro e w4 ⟨rfl, hn4, hk4⟩
                  have HT5 := hide (HK.out.tn hk4 hn4 (row.take j ++ row.drop (j + 1)) HCut.out.1 HCut.out.2.1 HCut.out.2.2 (by rw [cut_len (by have := HL.out; omega), HL.out]; omega) (cut_mem HK.out.small))
                  clear hn4 hk4
                  go_wp2_with fail
                  obtain ⟨A, hA⟩ : ∃ A : Option Addr, (if c = j + 1 then some (⟨gr, 0, none⟩ : Addr) else some ⟨gr, j + 1, none⟩) = A := ⟨_, rfl⟩
                  obtain ⟨a1, k1, w6, a2, k2, w7, hr1, hr2, ho7, hb7⟩ := cut_row (w := w4.drew) (k := j) (by have := (HT5.out.row.own).drew; rw [HL.out] at this; exact this) (by omega) hjn A hA.symm 32
                  have HKS : Hid (Ks w w7 (ext K w4.heap.size (2, 0)) nb R L (N.dropped (j : Int)) (.slice a2 (n - 1) k2) (row.take j ++ row.drop (j + 1)) bx) :=
                    HT5.out.up (by rw [cut_len (by have := HL.out; omega), HL.out]; exact ⟨ho7.1, ho7.2.imp id (fun ⟨g, cap, cur, h1, _, r⟩ => ⟨g, cap, cur, h1, Nat.zero_le _, r⟩)⟩) ⟨hb7.os, hb7.tape, hb7.output, hb7.size, fun b hb _ => hb7.block b hb⟩ (fun g2 e => Or.inr (by
                      rcases ho7.2 with ⟨e1, _⟩ | ⟨g3, _, _, e1, e2, _⟩
                      · rw [e1] at e; simp [Value.ownBlock] at e
                      · rw [e1] at e; simp [Value.ownBlock] at e; subst e; exact e2))
                  have HLX : Hid ((row.take j ++ row.drop (j + 1)).length = n - 1) := by show _ = _; rw [cut_len (by have := HL.out; omega), HL.out]
                  have hj1 : (0 : Int) ≤ (j : Int) + 1 := by omega
                  have hj2 : (j : Int) + 1 ≤ (n : Int) := by omega
                  have hj3 : (j : Int) ≤ (c : Int) := by omega
                  have hj4 : IntKind.i64.wrap ((j : Int) + 1) = (j : Int) + 1 := IntWalk.i64_in _ (by omega)
                  have hj5 : ((j : Int) + 1).toNat = j + 1 := by omega
                  have HR1 := hide hr1
                  have HR2 := hide hr2
                  clear ho7 hb7 hr1 hr2
                  go_region_law (first | (refine step_app_run (by kernel_rfl) (.tmp 143) (.tmp 147) 32 32 (by rfl) _ _ _ _ (by rfl) (by rfl) HR2.out ?_) | (refine step_app_run (by kernel_rfl) (.tmp 139) (.tmp 142) 32 32 (by rfl) _ _ _ _ (by rfl) (by rfl) HR1.out ?_))

                  have HLe := hide (nlen_any _ _ _ _ _ HKS.out.net)
                  have HLo := hide (lost_any _ _ _ _ _ HKS.out.net)
                  rw [HKS.out.eq, List.length_map, HLX.out] at HLe
                  rw [HKS.out.lost] at HLo
                  go_wp2_with fail
                  refine HLe.out.mono ?_
                  rintro e w9 ⟨rfl, h9⟩
                  have h9 := h9.symm
                  subst h9
                  go_wp2_with fail
                  refine HLo.out.mono ?_
                  rintro e w9 ⟨rfl, h9⟩
                  have h9 := h9.symm
                  subst h9
                  go_wp2
                  go_roundw
                  case rel => exact ⟨k + 1, _, _, a2, (n - 1), k2, L, (row.take j ++ row.drop (j + 1)), by omega, by omega, by go_num, rfl, rfl, by omega, by omega, HLX, HKS⟩
                  case measure => simp [intOf]; omega
                · rw [show (decide (0 ≤ z) && decide (z < (n : Int))) = false by simp; omega]
                  have HHs : Hid (N.has z = false ∧ N.dropped z = N) := by
                    have e : N.has z = false := by rw [HK.out.has, HL.out]; simp; omega
                    exact ⟨e, by unfold Nt.dropped; rw [if_neg (by rw [e]; simp)]⟩
                  clear hin
                  have HDr := hide (Drop_any wr K 1 nb N HK.out.net (by rw [HK.out.eq, List.length_map, HL.out]; omega) z)
                  rw [HHs.out.1, HHs.out.2] at HDr
                  go_wp2_with fail
                  refine HDr.out.mono ?_
                  rintro e w4 ⟨rfl, hn4, hk4⟩
                  have HKS := hide (HK.out.turned hk4 hn4 rfl rfl HK.out.lost)
                  have HLX := HL
                  clear hn4 hk4
                  have HLe := hide (nlen_any _ _ _ _ _ HKS.out.net)
                  have HLo := hide (lost_any _ _ _ _ _ HKS.out.net)
                  rw [HKS.out.eq, List.length_map, HLX.out] at HLe
                  rw [HKS.out.lost] at HLo
                  go_wp2_with fail
                  refine HLe.out.mono ?_
                  rintro e w9 ⟨rfl, h9⟩
                  have h9 := h9.symm
                  subst h9
                  go_wp2_with fail
                  refine HLo.out.mono ?_
                  rintro e w9 ⟨rfl, h9⟩
                  have h9 := h9.symm
                  subst h9
                  go_wp2
                  go_roundw
                  case rel => exact ⟨k + 1, _, _, a, n, c, L, row, by omega, by omega, by go_num, rfl, rfl, hnR, by omega, HLX, HKS⟩
                  case measure => simp [intOf]; omega
              · by_cases hd4 : d = 4
                · subst hd4
                  as_aux_lemma =>
                    by_cases hin : 0 ≤ z ∧ z < (n : Int)
                    · rw [show (decide (0 ≤ z) && decide (z < (n : Int))) = true by simp [hin.1, hin.2]]
                      obtain ⟨j, rfl⟩ : ∃ j : Nat, z = (j : Int) := ⟨z.toNat, by omega⟩
                      have hjn : j < n := by omega
                      have hj00 : (0 : Int) ≤ (j : Int) := by omega
                      have hj01 : (j : Int) < (n : Int) := by omega
                      clear hin
                      obtain ⟨x, hx⟩ : ∃ x, row[j]? = some x := ⟨_, List.getElem?_eq_getElem (by have := HL.out; omega)⟩
                      have hx65 : x < 65536 := Nat.lt_trans (HK.out.small x (List.mem_of_getElem? hx)) (by omega)
                      have HHs : Hid (N.has (j : Int) = true) := by show _ = _; rw [HK.out.has, HL.out]; simp; omega
                      have HXx : Hid (row[j]? = some x) := hide hx
                      obtain ⟨gr, ha, c1, c2, c3, c4, c5, _⟩ := irow_cells (by have := HK.out.row.own; rw [HL.out] at this; exact this) hx
                      subst ha
                      have HKg : Hid (K gr = (2, 0)) := HK.out.row.kind gr rfl
                      have HCut := hide (HK.out.cut j (by have := HL.out; omega))
                      clear hx
                      have HDb := hide (Double_any wr K 1 nb N HK.out.net (by rw [HK.out.room]; omega) (j : Int))
                      have HMx := hide (HK.out.at HXx.out)
                      have HAd := hide (HK.out.adds)
                      have hj0 : (0 : Int) ≤ (j : Int) := by omega
                      go_wp2_with fail
                      refine HDb.out.mono ?_
                      rintro e w4 ⟨K4, hk4, ⟨_, mm, hmm, rfl, hn4⟩ | ⟨hf, _⟩⟩
                      rotate_left
                      · rw [HHs.out] at hf; cases hf
                      obtain rfl : mm = msOf x := by rw [Int.toNat_natCast, HMx.out] at hmm; exact (Option.some.inj hmm).symm
                      rw [HAd.out, HL.out]
                      by_cases hroom : n < R
                      · have hroom' : (n : Int) < (R : Int) := by omega
                        rw [show decide (n < R) = true by simp [hroom]]
                        have HT5 : Hid (Kt w w4 K4 nb R L (N.add (msOf x)) (.slice (some ⟨gr, 0, none⟩) n c) row (row ++ [x]) bx) := by
                          have e : N.add (msOf x) = { N with row := N.row ++ [msOf x] } := by unfold Nt.add; rw [if_pos (by rw [HK.out.eq, List.length_map, HL.out, HK.out.room]; exact hroom)]
                          refine HK.out.tn hk4 hn4 (row ++ [x]) (by rw [e, List.map_append, ← HK.out.eq]; rfl) (by rw [e]) (by rw [e]) (by simp [HL.out]; omega) (fun y hy => ?_)
                          rcases List.mem_append.1 hy with h | h
                          · exact HK.out.small y h
                          · simp at h; rw [h]; exact HK.out.small x (List.mem_of_getElem? HXx.out)
                        have hgc : w4.cell? ⟨gr, j, none⟩ = some (.int .i64 (x : Int)) := by
                          have hbk := hk4.block gr c5 (by rw [HKg.out]; exact pnet_no (by decide))
                          have : w4.cell? ⟨gr, j, none⟩ = wr.cell? ⟨gr, j, none⟩ := by simp only [World.cell?, hbk]
                          rw [this]; exact c4
                        clear hn4 hk4 hmm c4
                        have hbb : Below w4.heap.size w4 (w4.alloc (.cells #[.int .i64 (x : Int)] 3)) := (Below.refl _ _).alloc (Nat.le_refl _) _
                        have HT6 := hide (HT5.out.below hbb)
                        have hrow6 := HT6.out.row.own
                        rw [HL.out] at hrow6
                        have HRw := hide hrow6
                        clear hbb hrow6
                        go_wp2_with (at_builtin; refine wpList_append_lies _ rfl (.tmp 166) (.tmp 171) 32 rfl 0 3 iI (.int .i64 0) 1 8 Try.underlying32 hiI hzI0 hzI1 hzI2 rfl (by omega) (.slice (some ⟨gr, 0, none⟩) n c) n (ints row) rfl HRw.out ⟨w4.heap.size, 0, none⟩ 1 1 [.int .i64 (x : Int)] rfl rfl (World.news_of_block (heap_alloc_new w4 (.cells #[.int .i64 (x : Int)] 3))) (by simp [Value.oneCell']) (by omega) (by unfold maxLen; omega) (by omega) (by omega) _ rfl ?_; intro g' cap' w7 hown7 hgrow7 hat7 hltg; have HKS := hide (HT6.out.up (rv' := .slice (some ⟨g', 0, none⟩) (n + 1) cap') (by rw [List.length_append, HL.out, ints_app]; exact hown7) hgrow7 (fun g2 e => by simp [Value.ownBlock] at e; subst e; rcases hat7 with h | h; exact Or.inl h; right; omega)); have HLX : Hid ((row ++ [x]).length = n + 1) := (by show _ = _; rw [List.length_append, HL.out]; rfl); clear hown7 hgrow7 hat7)
                        have HLe := hide (nlen_any _ _ _ _ _ HKS.out.net)
                        have HLo := hide (lost_any _ _ _ _ _ HKS.out.net)
                        rw [HKS.out.eq, List.length_map, HLX.out] at HLe
                        rw [HKS.out.lost] at HLo
                        go_wp2_with fail
                        refine HLe.out.mono ?_
                        rintro e w9 ⟨rfl, h9⟩
                        have h9 := h9.symm
                        subst h9
                        go_wp2_with fail
                        refine HLo.out.mono ?_
                        rintro e w9 ⟨rfl, h9⟩
                        have h9 := h9.symm
                        subst h9
                        go_wp2
                        go_roundw
                        case rel => exact ⟨k + 1, _, _, (some ⟨g', 0, none⟩), (n + 1), cap', L, (row ++ [x]), by omega, by omega, by go_num, rfl, rfl, by omega, by omega, HLX, HKS⟩
                        case measure => simp [intOf]; omega
                      · have hroom' : ¬ (n : Int) < (R : Int) := by omega
                        rw [show decide (n < R) = false by simp [hroom]]
                        have HKS : Hid (Ks w w4 K4 nb R L (N.add (msOf x)) (.slice (some ⟨gr, 0, none⟩) n c) row bx) := by
                          have e : N.add (msOf x) = N := by unfold Nt.add; rw [if_neg (by rw [HK.out.eq, List.length_map, HL.out, HK.out.room]; exact hroom)]
                          exact HK.out.turned hk4 hn4 (by rw [e]) (by rw [e]) (by rw [e]; exact HK.out.lost)
                        have HLX := HL
                        clear hn4 hk4 hmm c4
                        have HLe := hide (nlen_any _ _ _ _ _ HKS.out.net)
                        have HLo := hide (lost_any _ _ _ _ _ HKS.out.net)
                        rw [HKS.out.eq, List.length_map, HLX.out] at HLe
                        rw [HKS.out.lost] at HLo
                        go_wp2_with fail
                        refine HLe.out.mono ?_
                        rintro e w9 ⟨rfl, h9⟩
                        have h9 := h9.symm
                        subst h9
                        go_wp2_with fail
                        refine HLo.out.mono ?_
                        rintro e w9 ⟨rfl, h9⟩
                        have h9 := h9.symm
                        subst h9
                        go_wp2
                        go_roundw
                        case rel => exact ⟨k + 1, _, _, (some ⟨gr, 0, none⟩), n, c, L, row, by omega, by omega, by go_num, rfl, rfl, hnR, by omega, HLX, HKS⟩
                        case measure => simp [intOf]; omega
                    · rw [show (decide (0 ≤ z) && decide (z < (n : Int))) = false by simp; omega]
                      have HHs : Hid (N.has z = false ∧ N.dropped z = N) := by
                        have e : N.has z = false := by rw [HK.out.has, HL.out]; simp; omega
                        exact ⟨e, by unfold Nt.dropped; rw [if_neg (by rw [e]; simp)]⟩
                      clear hin
                      have HDb := hide (Double_any wr K 1 nb N HK.out.net (by rw [HK.out.room]; omega) z)
                      go_wp2_with fail
                      refine HDb.out.mono ?_
                      rintro e w4 ⟨K4, hk4, ⟨hf, _⟩ | ⟨_, rfl, h9, h8⟩⟩
                      · rw [HHs.out.1] at hf; cases hf
                      have h9 := h9.symm
                      subst h9
                      have HKS := HK
                      have HLX := HL
                      clear hk4 h8
                      have HLe := hide (nlen_any _ _ _ _ _ HKS.out.net)
                      have HLo := hide (lost_any _ _ _ _ _ HKS.out.net)
                      rw [HKS.out.eq, List.length_map, HLX.out] at HLe
                      rw [HKS.out.lost] at HLo
                      go_wp2_with fail
                      refine HLe.out.mono ?_
                      rintro e w9 ⟨rfl, h9⟩
                      have h9 := h9.symm
                      subst h9
                      go_wp2_with fail
                      refine HLo.out.mono ?_
                      rintro e w9 ⟨rfl, h9⟩
                      have h9 := h9.symm
                      subst h9
                      go_wp2
                      go_roundw
                      case rel => exact ⟨k + 1, _, _, a, n, c, L, row, by omega, by omega, by go_num, rfl, rfl, hnR, by omega, HLX, HKS⟩
                      case measure => simp [intOf]; omega
                · as_aux_lemma =>
                    generalize (decide (0 ≤ z) && decide (z < (n : Int))) = bz
                    have HKS := HK
                    have HLX := HL
                    have HLe := hide (nlen_any _ _ _ _ _ HKS.out.net)
                    have HLo := hide (lost_any _ _ _ _ _ HKS.out.net)
                    rw [HKS.out.eq, List.length_map, HLX.out] at HLe
                    rw [HKS.out.lost] at HLo
                    go_wp2_with fail
                    refine HLe.out.mono ?_
                    rintro e w9 ⟨rfl, h9⟩
                    have h9 := h9.symm
                    subst h9
                    go_wp2_with fail
                    refine HLo.out.mono ?_
                    rintro e w9 ⟨rfl, h9⟩
                    have h9 := h9.symm
                    subst h9
                    go_wp2
                    go_roundw
                    case rel => exact ⟨k + 1, _, _, a, n, c, L, row, by omega, by omega, by go_num, rfl, rfl, hnR, by omega, HLX, HKS⟩
                    case measure => simp [intOf]; omega
      · obtain rfl : k = 300 := by omega
        have HD := hide (drains_any wr K nb N HK.out.net a n c row (by rw [← HL.out]; exact (by have := HK.out.row; rw [← HL.out] at this; exact this)) HK.out.eq (by have := HL.out; omega) (fun x hx => Nat.lt_trans (HK.out.small x hx) (by omega)))
        go_wp2_with (go_at_call 16; refine HD.out.mono ?_; rintro e w9 ⟨rfl, K9, hk9⟩; have HB9 := hide (hk9.below HK.out.bel (fun b hb => by rw [HK.out.old b hb]; exact pnet_no (by decide))); clear hk9)
        go_ret
        exact ⟨rfl, HB9.out⟩
    · obtain rfl : k = m := by omega
      have HD := hide (drains_any wr K nb N HK.out.net a n c row (by rw [← HL.out]; exact (by have := HK.out.row; rw [← HL.out] at this; exact this)) HK.out.eq (by have := HL.out; omega) (fun x hx => Nat.lt_trans (HK.out.small x hx) (by omega)))
      go_wp2_with (go_at_call 16; refine HD.out.mono ?_; rintro e w9 ⟨rfl, K9, hk9⟩; have HB9 := hide (hk9.below HK.out.bel (fun b hb => by rw [HK.out.old b hb]; exact pnet_no (by decide))); clear hk9)
      go_ret
      exact ⟨rfl, HB9.out⟩

end Go.Proofs.Ytagioadkgalbiaa
