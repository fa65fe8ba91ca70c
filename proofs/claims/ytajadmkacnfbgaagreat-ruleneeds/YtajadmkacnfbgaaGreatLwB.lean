import Derived.Test.YtajadmkacnfbgaaGreatLwA
import Derived.Deep.CutBlock
namespace Go.Proofs.YtajadmkacnfbgaaGreat
open Go.RowKit

set_option maxRecDepth 100000 in
set_option maxHeartbeats 4000000 in
theorem law_all (w : World) (sp : Option Addr) (l c : Nat) (es : List Ent) (hl : es.length = l) (hb : l ≤ 140737488355328) (hx : Ins w sp es) :
    Calls Tryz.prog 3 #[.agg #[.slice sp l c]] w fun e w' => e = .returned (.bool true) ∧ Below w.heap.size w w' := by
  obtain ⟨i0', hi', hz0, hz1, hz2⟩ := info_parts line_info
  have HL := hide hl
  have HX := hide hx
  obtain ⟨w2, hw2⟩ : ∃ w2, (w.alloc (.cells #[.slice sp l c] 24)).alloc (.cells (RB.bkCells (.slice none 0 0) (.slice none 0 0) 0 0 0 0) 45) = w2 := ⟨_, rfl⟩
  have hb2 : Below w.heap.size w w2 := by rw [← hw2]; exact ((Below.refl _ _).alloc (Nat.le_refl _) _).alloc (by simp) _
  have hx2 : w2.heap[w.heap.size]? = some (.cells #[.slice sp l c] 24 (0, 0)) := by rw [← hw2]; exact (Below.heap_alloc _ _ _ (by simp)).trans (heap_alloc_new _ _)
  have hk2 : w2.heap[w.heap.size + 1]? = some (.cells (RB.bkCells (.slice none 0 0) (.slice none 0 0) 0 0 0 0) 45 (0, 0)) := by rw [← hw2]; have h := heap_alloc_new (w.alloc (.cells #[.slice sp l c] 24)) (.cells (RB.bkCells (.slice none 0 0) (.slice none 0 0) 0 0 0 0) 45); rw [World.size_alloc] at h; exact h
  have HO2 : Hid (OL w w2 sp l c (.slice none 0 0) (.slice none 0 0) 0 0 []) := ⟨⟨hk2, World.ownsRow_nil _ _ _ _, World.ownsRow_nil _ _ _ _, by simp, by simp, by simp, by simp⟩, by omega, by simp, by simp, hx2, hb2⟩
  have HW2 : Hid ((w.alloc (.cells #[.slice sp l c] 24)).alloc (.cells (RB.bkCells (.slice none 0 0) (.slice none 0 0) 0 0 0 0) 45) = w2) := hw2
  clear hl hx hw2 hb2 hx2 hk2
  go_enter Tryz.func3, Tryz.ntmps3
  go_wp2_with fail
  refine book_build rfl ?_
  go_wp2_with fail
  rw [HW2.out]
  clear HW2
  go_loopw [4, 5] (fun av iv wr => ∃ (a i : Nat) (L M : Value) (used : Nat) (ks : List RB.Kl), av = .int .i64 a ∧ a ≤ 20000 ∧ iv = .int .i64 i ∧ i ≤ l ∧ Hid (OL w wr sp l c L M (2 * i) used ks)) (fun _ i _ => l - (intOf i).toNat)
  case atStart => exact ⟨0, 0, _, _, 0, [], rfl, by omega, rfl, by omega, HO2⟩
  case round =>
    clear HO2
    obtain ⟨a, i, L, M, used, ks, rfl, ha, rfl, hi, HO⟩ := hrel
    have q0 := bx1 HO.out.box
    by_cases hlt : i < l
    · have hlt' : (i : Int) < (l : Int) := by omega
      have i0 : (0 : Int) ≤ (i : Int) := by omega
      obtain ⟨e, he⟩ : ∃ e, es[i]? = some e := ⟨_, List.getElem?_eq_getElem (by rw [HL.out]; exact hlt)⟩
      obtain ⟨g, o, rfl, hg, hcl, hent⟩ := HX.out i e he
      obtain ⟨ep, el, ec, xs⟩ := e
      have HE := hide hent
      have HC := hide hcl
      have hel : el ≤ 140737488355328 := hent.most
      clear he hent hcl
      obtain ⟨wo, hwo⟩ : ∃ wo, wo = wr := ⟨_, rfl⟩
      have HWO := hide hwo
      have hgo : w.heap.size < wo.heap.size := by rw [hwo]; exact ac_lt HO.out.box
      clear hwo
      go_upto_block 2 with (fail)
      go_cut [4, 6] from 15 to 128 (fun av lv wc => ∃ (a : Nat) (ls : List Lin) (lp : Option Addr) (lc : Nat), av = .int .i64 a ∧ a ≤ 20000 ∧ lv = .slice lp ls.length lc ∧ ls.length ≤ 8192 ∧ Hid (∀ x ∈ ls, LOk x) ∧ Hid (wc.ownsRow wo.heap.size 48 2 (.slice lp ls.length lc) ls.length (lcells ls)) ∧ Hid (Below wo.heap.size wo wc))
      case first =>
        go_wp2_with fail
        go_loopw [4, 6, 7] (fun av lv kv wi => ∃ (a k : Nat) (ls : List Lin), av = .int .i64 a ∧ a ≤ 20000 ∧ kv = .int .i64 k ∧ k ≤ el ∧ ls.length ≤ 8192 ∧ Hid (∀ x ∈ ls, LOk x) ∧ Hid (wi.ownsRow wo.heap.size 48 2 lv ls.length (lcells ls)) ∧ Hid (Below wo.heap.size wo wi)) (fun _ _ k _ => el - (intOf k).toNat)
        case atStart => exact ⟨a, 0, [], rfl, ha, rfl, Nat.zero_le _, by simp, by intro x hx; simp at hx, World.ownsRow_nil _ _ _ _, by rw [HWO.out]; exact Below.refl _ _⟩
        case round =>
          have HQ := hide q0
          have HOo := HO
          rw [← HWO.out] at HQ HOo
          clear HO q0 HWO
          obtain ⟨a1, k, ls, rfl, ha1, rfl, hk, hls, HLs, HR, HB⟩ := hrel
          obtain ⟨lp, lc, rfl⟩ := slice_form HR.out
          have HBw := hide (HOo.out.bel.trans (HB.out.mono (Nat.le_of_lt hgo)))
          have q1 : wr.cell? ⟨w.heap.size, 0, none⟩ = some (.slice (some ⟨g, o, none⟩) l c) := (HB.out.cell (p := ⟨w.heap.size, 0, none⟩) hgo).trans HQ.out
          have cl : wr.cell? ⟨g, o + i, none⟩ = some (.slice ep el ec) := (HBw.out.cell (p := ⟨g, o + i, none⟩) hg).trans HC.out
          have hlc := owns_cap HR.out
          by_cases k1 : k < el
          · have k1' : (k : Int) < (el : Int) := by omega
            have k0' : (0 : Int) ≤ (k : Int) := by omega
            by_cases k2 : a1 < 20000
            · have k2' : (a1 : Int) < 20000 := by omega
              by_cases k3 : ls.length < 8192
              · have k3' : (ls.length : Int) < 8192 := by omega
                obtain ⟨x, hx⟩ : ∃ x, xs[k]? = some x := ⟨_, List.getElem?_eq_getElem (by have := HE.out.len; simp only at this; omega)⟩
                obtain ⟨b, o', e1, hb', hc⟩ := (HE.out.cel.below HBw.out).get (i := k) (r := linc x) (by rw [List.getElem?_map, hx]; rfl)
                simp only at e1
                subst e1
                obtain ⟨xc, xn⟩ := x
                have a0 : wr.cell? ⟨b, o' + k * 2, none⟩ = some (.int .i64 xc) := hc 0 _ rfl
                have a2 : wr.cell? ⟨b, o' + k * 2 + 1, none⟩ = some (.int .i64 xn) := hc 1 _ rfl
                clear hc hx
                obtain ⟨w6, hw6⟩ : ∃ w6, wr.alloc (.cells #[.int .i64 xc, .int .i64 xn] 48) = w6 := ⟨_, rfl⟩
                obtain ⟨d0, d1⟩ := ac2 (show w6.heap[wr.heap.size]? = _ by rw [← hw6]; exact heap_alloc_new wr _)
                have HB6 : Hid (Below wo.heap.size wo w6) := by show Below _ _ _; rw [← hw6]; exact HB.out.alloc HB.out.size _
                have HR6 : Hid (w6.ownsRow wo.heap.size 48 2 (.slice lp ls.length lc) ls.length (lcells ls)) := by show World.ownsRow _ _ _ _ _ _ _; rw [← hw6]; exact HR.out.alloc _
                have HW6 := hide hw6
                clear hw6
                go_upto_region 11 with (fail)
                rw [HW6.out]
                clear HW6 a0 a2 HB HR q1 cl
                by_cases f0 : 0 ≤ xc
                · by_cases f1 : xc < 64
                  · by_cases f2 : xn = 0
                    · subst f2
                      go_wp2_with fail
                      go_roundw
                      case rel => exact ⟨a1, k + 1, ls, rfl, ha1, by go_num, by omega, hls, HLs, HR6, HB6⟩
                      case measure => simp [intOf]; omega
                    · by_cases f3 : -1099511627776 ≤ xn
                      · by_cases f4 : xn ≤ 1099511627776
                        · have HOk := hide (show LOk ⟨xc, xn⟩ from ⟨f0, f1, f2, f3, f4⟩)
                          go_wp2_with (at_builtin; refine wpList_append_lies _ rfl (.tmp 72) (.tmp 74) 46 rfl wo.heap.size 48 i0' (.agg #[.int .i64 0, .int .i64 0]) 2 16 Tryz.underlying46 hi' hz0 hz1 hz2 rfl (by omega) _ _ _ rfl (HR6.out.alloc _) ⟨w6.heap.size, 0, none⟩ 1 1 [.int .i64 xc, .int .i64 xn] rfl rfl (two_new _ _ _ _) (by simp [Value.oneCell']) (by omega) (by unfold maxLen; omega) (by omega) (by have := HB6.out.size; simp; omega) _ rfl ?_; intro g1 c1 w3 hown3 hgrow3 hat3 hlt3; have HO3 := hide hown3; have HB3 : Hid (Below wo.heap.size wo w3) := (HB6.out.alloc HB6.out.size _).grown hgrow3 (by have := HB6.out.size; simp; omega) (fun k e => RB.owns_low HR6.out k e); clear hown3 hgrow3 hat3 hlt3)
                          go_roundw
                          case rel => exact ⟨a1 + 1, k + 1, ls ++ [⟨xc, xn⟩], by go_num, by omega, by go_num, by omega, by simp; omega, lok_snoc HLs.out HOk.out, by rw [lcells_snoc, List.length_append]; exact HO3, HB3⟩
                          case measure => simp [intOf]; omega
                        · go_wp2_with fail
                          go_roundw
                          case rel => exact ⟨a1, k + 1, ls, rfl, ha1, by go_num, by omega, hls, HLs, HR6, HB6⟩
                          case measure => simp [intOf]; omega
                      · go_wp2_with fail
                        go_roundw
                        case rel => exact ⟨a1, k + 1, ls, rfl, ha1, by go_num, by omega, hls, HLs, HR6, HB6⟩
                        case measure => simp [intOf]; omega
                  · go_wp2_with fail
                    go_roundw
                    case rel => exact ⟨a1, k + 1, ls, rfl, ha1, by go_num, by omega, hls, HLs, HR6, HB6⟩
                    case measure => simp [intOf]; omega
                · go_wp2_with fail
                  go_roundw
                  case rel => exact ⟨a1, k + 1, ls, rfl, ha1, by go_num, by omega, hls, HLs, HR6, HB6⟩
                  case measure => simp [intOf]; omega
              · have k3' : ¬ (ls.length : Int) < 8192 := by omega
                go_wp2_with fail
                go_meet
                case rel => exact ⟨a1, ls, lp, lc, rfl, ha1, rfl, hls, HLs, HR, HB⟩
            · have k2' : ¬ (a1 : Int) < 20000 := by omega
              go_wp2_with fail
              go_meet
              case rel => exact ⟨a1, ls, lp, lc, rfl, ha1, rfl, hls, HLs, HR, HB⟩
          · have k1' : ¬ (k : Int) < (el : Int) := by omega
            go_wp2_with fail
            go_meet
            case rel => exact ⟨a1, ls, lp, lc, rfl, ha1, rfl, hls, HLs, HR, HB⟩
      case rest =>
        obtain ⟨a1, ls, lp, lc, rfl, ha1, rfl, hls, HLs, HR, HB⟩ := hcut
        rw [← HWO.out] at HO
        clear HWO q0 HC HE i0 HX HL
        obtain ⟨m, hm⟩ : ∃ m, ls.length = m := ⟨_, rfl⟩
        rw [hm] at hls HR ⊢
        have HM := hide hm
        have hnl : (needT ls).length ≤ 8192 := Nat.le_trans (needT_len ls) (by omega)
        obtain ⟨nl, hnn⟩ : ∃ nl, (needT ls).length = nl := ⟨_, rfl⟩
        have HNn := hide hnn
        rw [hnn] at hnl
        have HWf := hide (lok_wf HLs.out)
        have HOc := hide (HO.out.below HB.out)
        clear hm hnn
        go_upto_region 18 with (first
          | (go_at_call 8; refine (backLines_any v4 lp m lc g1 c1 ls HM.out ((lcel_row HR.out).below HBc4.out) (by omega) wc.heap.size (RB.owns_kept' HY1.out (fun g e => (HB2.out.trans ((HB3.out.mono HB2.out.size).trans (HB4.out.mono (Nat.le_trans HB2.out.size HB3.out.size)))).block g (RB.owns_lt HY1.out g e)))).mono ?_; rintro e v5 ⟨rfl, hb5⟩; have HB5 := hide hb5; clear hb5)
          | (go_at_call 6; refine (eqRights_any v3 np rp nl nl nc rc (needT ls) (needT ls) HNn.out HNn.out (by omega) (cel_row (RB.owns_kept' HN2.out (fun g e => HB3.out.block g (RB.owns_lt HN2.out g e)))) (cel_row HN3.out) true (by simp)).mono ?_; rintro e v4 ⟨rfl, hb4⟩; have HB4 := hide hb4; have HBc4 := hide (HBc3.out.trans (hb4.mono HBc3.out.size)); clear hb4)
          | (go_at_call 7; refine (rneeds_any v2 lp m lc ls HM.out (by omega) HWf.out (cel_lins ((lcel_row HR.out).below HBc2.out))).mono ?_; rintro e v3 ⟨rv, rfl, hn3, hb3⟩; rw [HNn.out] at hn3; obtain ⟨rp, rc, rfl⟩ := slice_form hn3; have HN3 := hide hn3; have HB3 := hide hb3; have HBc3 := hide (HBc2.out.trans (hb3.mono HBc2.out.size)); clear hn3 hb3)
          | (go_at_call 5; refine (needs_any v1 (some ⟨g1, 0, none⟩) m c1 ls HM.out (by omega) HWf.out (cel_lins (cel_prefix (lcel_row HY1.out)))).mono ?_; rintro e v2 ⟨nv, rfl, hn2, hb2⟩; rw [HNn.out] at hn2; obtain ⟨np, nc, rfl⟩ := slice_form hn2; have HN2 := hide hn2; have HB2 := hide hb2; have HBc2 := hide (HB1.out.trans (hb2.mono HB1.out.size)); clear hn2 hb2)
          | (go_at_call 4; refine (lendLines_any wc lp m lc ls HM.out (lcel_row HR.out) (by omega)).mono ?_; rintro e v1 ⟨g1, c1, rfl, hy1, hb1⟩; have HY1 := hide hy1; have HB1 := hide hb1; clear hy1 hb1)
          | fail)
        have HBc5 := hide (HBc4.out.trans (HB5.out.mono HBc4.out.size))
        have HB25 := hide (HB3.out.trans ((HB4.out.mono HB3.out.size).trans (HB5.out.mono (Nat.le_trans HB3.out.size HB4.out.size))))
        have HB15 := hide (HB2.out.trans (HB25.out.mono HB2.out.size))
        have HO5 := hide (HOc.out.below HBc5.out)
        have hwc : w.heap.size ≤ wc.heap.size := HOc.out.bel.size
        have HY5 : Hid (v5.ownsRow w.heap.size 48 2 (.slice (some ⟨g1, 0, none⟩) (m + 9) c1) (m + 9) (lcells (ls ++ lmarks))) := owns_mono (RB.owns_kept' HY1.out (fun g e => HB15.out.block g (RB.owns_lt HY1.out g e))) hwc
        have hg1 : wc.heap.size ≤ g1 := RB.owns_low HY1.out g1 rfl
        have hc1 : m + 9 ≤ c1 := owns_cap HY1.out
        have HN5 := hide (RB.owns_kept' HN2.out (fun g e => HB25.out.block g (RB.owns_lt HN2.out g e)))
        have HR5 := hide (RB.owns_kept' HR.out (fun g e => HBc5.out.block g (RB.owns_lt HR.out g e)))
        have HFn : Hid (∀ k ∈ ks, RB.Far (.slice np nl nc) k.val) := fun k hk g e e' => by
          have h1 := RB.owns_low HN2.out g e
          have h2 := RB.owns_lt (HOc.out.bk.rows k hk) g e'
          have h3 := HB1.out.size
          omega
        have HnG : Hid (∀ g, (Value.slice np nl nc).ownBlock = some g → ¬ g = g1) := fun g e e' => RB.rows_far HN5.out HY5.out (by decide) g e (by rw [e']; rfl)
        have HlG : Hid (∀ g, (Value.slice lp m lc).ownBlock = some g → ¬ g = g1) := fun g e e' => by have := RB.owns_lt HR.out g e; omega
        have hw1 : w.heap.size ≤ v1.heap.size := Nat.le_trans hwc HB1.out.size
        have hw5 : wc.heap.size ≤ v5.heap.size := HBc5.out.size
        clear HB HR HO HOc HY1 HB1 HN2 HB2 HBc2 HN3 HB3 HBc3 HB4 HBc4 HB5 HBc5 HB25 HB15
        go_wp2_with fail
        go_loopw [11] (fun kv wn => ∃ k : Nat, k ≤ m ∧ kv = .int .i64 k ∧ Hid (wn.ownsRow w.heap.size 48 2 (.slice (some ⟨g1, 0, none⟩) (m + 9) c1) (m + 9) (lcells (turned ls k ++ lmarks))) ∧ Hid (RB.Kept (fun q => q = g1) v5 wn)) (fun i _ => m - (intOf i).toNat)
        case atStart => exact ⟨0, Nat.zero_le _, rfl, by rw [turned_zero]; exact HY5, RB.Kept.refl _ _⟩
        case round =>
          obtain ⟨k, hk, rfl, HY, HK⟩ := hrel
          by_cases hkm : k < m
          · have hk' : (k : Int) < (m : Int) := by omega
            have k0' : (0 : Int) ≤ (k : Int) := by omega
            obtain ⟨x, hx⟩ : ∃ x, ls[k]? = some x := ⟨_, List.getElem?_eq_getElem (by rw [HM.out]; exact hkm)⟩
            have hget : (turned ls k ++ lmarks)[k]? = some x := by rw [List.getElem?_append_left (by rw [turned_len, HM.out]; exact hkm)]; exact turned_get hx
            have hok := HLs.out x (List.mem_of_getElem? hx)
            obtain ⟨_, eg, hgl, cx⟩ := row_cell HY.out (lcells_get _ k x hget 1 _ rfl)
            cases eg
            have hthaw : ∀ k, wr.frozen? ⟨g1, k, none⟩ = false := fun k => by
              rcases HY.out.2 with ⟨h1, _⟩ | ⟨g', cap, cur, h1, _, hg', _⟩
              · cases h1
              · cases h1; simp [World.frozen?, hg']
            have HYn : Hid ((wr.setCell ⟨g1, k * 2 + 1, none⟩ (.int .i64 (-x.n))).ownsRow w.heap.size 48 2 (.slice (some ⟨g1, 0, none⟩) (m + 9) c1) (m + 9) (lcells (turned ls (k + 1) ++ lmarks))) := by
              have h := RB.owns_setg (k := k * 2 + 1) HY.out (.int .i64 (-x.n))
              rw [lcells_set _ k x (-x.n) hget, show (⟨x.c, -x.n⟩ : Lin) = negL x from rfl, turned_set hx] at h
              exact h
            have HKn : Hid (RB.Kept (fun q => q = g1) v5 (wr.setCell ⟨g1, k * 2 + 1, none⟩ (.int .i64 (-x.n)))) := HK.out.trans (RB.kept_but ((RB.But.refl g1 wr).setCell (p := ⟨g1, k * 2 + 1, none⟩) (Or.inl rfl) _)) (fun _ e => Or.inl e)
            obtain ⟨xc, xn⟩ := x
            have ok3 : -1099511627776 ≤ xn := hok.2.2.2.1
            have ok4 : xn ≤ 1099511627776 := hok.2.2.2.2
            have HWr : Hid (IntKind.i64.wrap (-xn) = -xn) := by show _ = _; simp [IntKind.wrap, IntKind.bits, IntKind.signed]; omega
            simp only at cx
            clear hx hget hok HY HK
            go_wp2_with fail
            go_roundw
            case rel => exact ⟨k + 1, by omega, by go_num, by first | exact HYn | (rw [HWr.out]; exact HYn), by first | exact HKn | (rw [HWr.out]; exact HKn)⟩
            case measure => simp [intOf]; omega
          · have hkm' : k = m := by omega
            have hk' : ¬ (k : Int) < (m : Int) := by omega
            have HY6 : Hid (wr.ownsRow w.heap.size 48 2 (.slice (some ⟨g1, 0, none⟩) (m + 9) c1) (m + 9) (lcells (ls.map negL ++ lmarks))) := by
              have h := HY.out
              rw [hkm', ← HM.out, turned_all, HM.out] at h
              exact h
            have HO6 := hide (HO5.out.kept HY5.out HK.out)
            have HN6 := hide (RB.owns_kept' HN5.out (fun g e => HK.out.block g (RB.owns_lt HN5.out g e) (HnG.out g e)))
            have HR6 := hide (RB.owns_kept' HR5.out (fun g e => HK.out.block g (RB.owns_lt HR5.out g e) (HlG.out g e)))
            have hw6 : w.heap.size ≤ wr.heap.size := HO6.out.bel.size
            have HLn := hide (show (ls.map negL).length = m by rw [List.length_map, HM.out])
            have HWn := hide (lok_wf (lok_neg HLs.out))
            obtain ⟨ml, hmm⟩ : ∃ ml, (needT (ls.map negL)).length = ml := ⟨_, rfl⟩
            have hml : ml ≤ 8192 := by rw [← hmm]; exact Nat.le_trans (needT_len _) (by rw [HLn.out]; omega)
            have HMl := hide hmm
            clear hmm HY HK HY5 HO5 HN5 HR5 HnG HlG hkm'
            go_upto_region 25 with (first
              | (go_at_call 6; refine (eqRights_any x9 np rl nl nl nc rlc (needT ls) (needT ls) HNn.out HNn.out (by omega) (cel_row (RB.owns_kept' HN6.out (fun g e => HB69.out.block g (RB.owns_lt HN6.out g e)))) (cel_row HN9.out) true (by simp)).mono ?_; rintro e x10 ⟨rfl, hb10⟩; have HB610 := hide (HB69.out.trans (hb10.mono HB69.out.size)); have HB710 := hide (HB79.out.trans (hb10.mono HB79.out.size)); clear hb10)
              | (go_at_call 7; refine (rneeds_any x8 lp m lc ls HM.out (by omega) HWf.out (cel_lins ((lcel_row HR6.out).below HB68.out))).mono ?_; rintro e x9 ⟨rv, rfl, hn9, hb9⟩; rw [HNn.out] at hn9; obtain ⟨rl, rlc, rfl⟩ := slice_form hn9; have HN9 := hide hn9; have HB69 := hide (HB68.out.trans (hb9.mono HB68.out.size)); have HB79 := hide (HB78.out.trans (hb9.mono HB78.out.size)); clear hn9 hb9)
              | (go_at_call 6; refine (eqRights_any x8a mp ry ml ml mc ryc (needT (ls.map negL)) (needT (ls.map negL)) HMl.out HMl.out (by omega) (cel_row (RB.owns_kept' HM7.out (fun g e => HB78a.out.block g (RB.owns_lt HM7.out g e)))) (cel_row HN8.out) true (by simp)).mono ?_; rintro e x8 ⟨rfl, hb8⟩; have HB68 := hide (HB68a.out.trans (hb8.mono HB68a.out.size)); have HB78 := hide (HB78a.out.trans (hb8.mono HB78a.out.size)); clear hb8)
              | (go_at_call 7; refine (rneeds_any x7 (some ⟨g1, 0, none⟩) m c1 (ls.map negL) HLn.out (by omega) HWn.out (cel_lins ((cel_prefix (lcel_row HY6.out)).below HB67.out))).mono ?_; rintro e x8a ⟨rv, rfl, hn8, hb8⟩; rw [HMl.out] at hn8; obtain ⟨ry, ryc, rfl⟩ := slice_form hn8; have HN8 := hide hn8; have HB78a := hide hb8; have HB68a := hide (HB67.out.trans (hb8.mono HB67.out.size)); clear hn8 hb8)
              | (go_at_call 5; refine (needs_any wr (some ⟨g1, 0, none⟩) m c1 (ls.map negL) HLn.out (by omega) HWn.out (cel_lins (cel_prefix (lcel_row HY6.out)))).mono ?_; rintro e x7 ⟨mv, rfl, hm7, hb7⟩; rw [HMl.out] at hm7; obtain ⟨mp, mc, rfl⟩ := slice_form hm7; have HM7 := hide hm7; have HB67 := hide hb7; clear hm7 hb7)
              | fail)
            have HO10 := hide (HO6.out.below HB610.out)
            have HN10 := hide (owns_mono (RB.owns_kept' HN6.out (fun g e => HB610.out.block g (RB.owns_lt HN6.out g e))) hw1)
            have HM10 := hide (owns_mono (RB.owns_kept' HM7.out (fun g e => HB710.out.block g (RB.owns_lt HM7.out g e))) hw6)
            have HFm : Hid (∀ g, (Value.slice mp ml mc).ownBlock = some g → (∀ k ∈ ks, k.val.ownBlock ≠ some g) ∧ (Value.slice np nl nc).ownBlock ≠ some g) := fun g e => by
              have h1 := RB.owns_low HM7.out g e
              refine ⟨fun k hk e' => ?_, fun e' => ?_⟩
              · have h2 := RB.owns_lt (HO6.out.bk.rows k hk) g e'; omega
              · have h2 := RB.owns_lt HN6.out g e'; omega
            clear HO6 HN6 HR6 HY6 HM7 HB67 HN8 HB78a HB68a HB68 HB78 HN9 HB69 HB79 HB610 HB710
            go_wp2_with (first
              | (go_at_call 9; refine (ol_rights w y1 (some ⟨g, o, none⟩) l c L1 M1 (2 * i + 1) u1 ks1 HOz.out mp ml mc (needT (ls.map negL)) HMz.out HFz.out (by omega) (by omega)).mono ?_; rintro e y2 ⟨rfl, L2, M2, u2', ks2, ho2, -, -⟩; have HOe := hide ho2; clear ho2)
              | (go_at_call 9; refine (ol_rights w x10 (some ⟨g, o, none⟩) l c L M (2 * i) used ks HO10.out np nl nc (needT ls) HN10.out HFn.out (by omega) (by omega)).mono ?_; rintro e y1 ⟨rfl, L1, M1, u1, ks1, ho1, hk1, hkp1⟩; have HOz := hide ho1; have HFz : Hid (∀ k ∈ ks1, RB.Far (.slice mp ml mc) k.val) := (fun k hk g e => (hk1 k hk).elim (fun h => (HFm.out g e).1 k h) (fun h => (by rw [h]; exact (HFm.out g e).2))); have HMz : Hid (y1.ownsRow w.heap.size 70 3 (.slice mp ml mc) ml (rcells (needT (ls.map negL)))) := (RB.owns_kept' HM10.out (fun g e => hkp1.block g (RB.owns_lt HM10.out g e) (fun hS => (hS.elim (fun h => RB.owns_ne HM10.out HO10.out.bk.blk (by decide) (by rw [e, h])) (fun h => h.elim (fun h => RB.rows_far HM10.out HO10.out.bk.ls (by decide) g e h.symm) (fun h => h.elim (fun h => RB.rows_far HM10.out HO10.out.bk.ms (by decide) g e h.symm) (fun h => (HFm.out g e).2 h.symm))))))); clear ho1 hk1 hkp1)
              | fail)
            go_roundw
            case rel => exact ⟨a1, i + 1, L2, M2, u2', ks2, rfl, ha1, by go_num, by omega, HOe⟩
            case measure => simp [intOf]; omega
    · have hlt' : ¬ (i : Int) < (l : Int) := by omega
      have HLk := hide (ol_look w wr sp l c L M (2 * i) used ks HO.out)
      go_wp2_with (first | (go_at_call 10; refine HLk.out.mono ?_; rintro e w3 ⟨rfl, hb3⟩; have HB3 := hide hb3; clear hb3) | (go_at_call 11; refine (wakes_any _).mono ?_; rintro e w4 ⟨rfl, hb4⟩; have HB4 := hide (HB3.out.trans (hb4.mono HB3.out.size)); clear hb4))
      go_ret
      exact ⟨rfl, HB4.out⟩
end Go.Proofs.YtajadmkacnfbgaaGreat
