import Derived.Test.YtlpafgjgoheomaaImgIn
import Derived.Laws.MakeOwn
namespace Go.Proofs.Ytlpafgjgoheomaa
open Go.RowKit Go.Maps

/-- An image with marks behind each file's bytes. -/
structure Gp (w : World) (K : Knd) (v : Value) (img : Image) : Prop where
  row : ∃ ds : List (Option Addr × Nat), ds.length = img.length ∧ Rk w K (0, 0) 28 2 v img.length (imv img ds) ∧ ∀ (j : Nat) (p : Nm × List Nat) (d : Option Addr × Nat), img[j]? = some p → ds[j]? = some d → Rk w K (0, 0) 5 1 (.slice d.1 (p.2.length + 70) d.2) (p.2.length + 70) (vals (p.2 ++ marks))
theorem Gp.kept {p : Nat × Nat → Prop} {K K' : Knd} {w w' : World} {v : Value} {img : Image} (h : Gp w K v img) (hk : Kp p K K' w w') (hp : ¬ p (0, 0)) : Gp w' K' v img := by
  obtain ⟨ds, h1, h2, h3⟩ := h.row
  exact ⟨ds, h1, h2.kept hk hp, fun j q d hq hd => (h3 j q d hq hd).kept hk hp⟩
theorem Gp.push {w w' : World} {K : Knd} {v v' : Value} {img : Image} {ds : List (Option Addr × Nat)} {p : Nm × List Nat} {ap : Option Addr} {cp : Nat} (h1 : ds.length = img.length) (h2 : Rk w K (0, 0) 28 2 v img.length (imv img ds))
    (h3 : ∀ (j : Nat) (p : Nm × List Nat) (d : Option Addr × Nat), img[j]? = some p → ds[j]? = some d → Rk w K (0, 0) 5 1 (.slice d.1 (p.2.length + 70) d.2) (p.2.length + 70) (vals (p.2 ++ marks)))
    (hr : Rk w K (0, 0) 5 1 (.slice ap (p.2.length + 70) cp) (p.2.length + 70) (vals (p.2 ++ marks)))
    (ho : w'.ownsRow 0 28 2 v' (img.length + 1) (imv img ds ++ [.string ⟨p.1.toArray⟩, .slice ap p.2.length cp])) (hg : ∀ g, g < w.heap.size → some g ≠ v.ownBlock → w'.heap[g]? = w.heap[g]?) (hk : ∀ g, v'.ownBlock = some g → K g = (0, 0)) : Gp w' K v' (img ++ [p]) := by
  have hkeep : ∀ {u : Value} {n : Nat} {xs : List Value}, Rk w K (0, 0) 5 1 u n xs → Rk w' K (0, 0) 5 1 u n xs := fun hu =>
    ⟨owns_same hu.own (fun g e => hg g (rk_lt hu.own e) (owns_apart hu.own h2.own (by decide) g e)), hu.kind⟩
  refine ⟨ds ++ [(ap, cp)], by simp [h1], ⟨?_, hk⟩, fun j q d hq hd => ?_⟩
  · rw [imv_snoc h1, List.length_append]; exact ho
  · by_cases e : j < img.length
    · rw [List.getElem?_append_left e] at hq
      rw [List.getElem?_append_left (by omega)] at hd
      exact hkeep (h3 j q d hq hd)
    · have hj : j = img.length := by
        have := (List.getElem?_eq_some_iff.1 hq).1
        simp at this; omega
      subst hj
      rw [← h1] at hd
      simp at hq hd
      subst hq; subst hd
      exact hkeep hr
/-- .. and a file behind the list. -/
def mkN : Nm := [35, 109, 97, 114, 107]
structure Gv (w : World) (K : Knd) (g n c : Nat) (img : Image) : Prop where
  len : img.length = n
  row : ∃ ds : List (Option Addr × Nat), ds.length = img.length ∧ Rk w K (0, 0) 28 2 (.slice (some ⟨g, 0, none⟩) (n + 1) c) (n + 1) (imv img ds ++ [.string ⟨mkN.toArray⟩, .slice none 0 0]) ∧ ∀ (j : Nat) (p : Nm × List Nat) (d : Option Addr × Nat), img[j]? = some p → ds[j]? = some d → Rk w K (0, 0) 5 1 (.slice d.1 (p.2.length + 70) d.2) (p.2.length + 70) (vals (p.2 ++ marks))
theorem Gv.kept {p : Nat × Nat → Prop} {K K' : Knd} {w w' : World} {g n c : Nat} {img : Image} (h : Gv w K g n c img) (hk : Kp p K K' w w') (hp : ¬ p (0, 0)) : Gv w' K' g n c img := by
  obtain ⟨ds, h1, h2, h3⟩ := h.row
  exact ⟨h.len, ds, h1, h2.kept hk hp, fun j q d hq hd => (h3 j q d hq hd).kept hk hp⟩
theorem Gp.mark {w w' : World} {K : Knd} {a : Option Addr} {n c g' c' : Nat} {img : Image} {ds : List (Option Addr × Nat)} (hn : img.length = n) (h1 : ds.length = img.length) (h2 : Rk w K (0, 0) 28 2 (.slice a n c) n (imv img ds))
    (h3 : ∀ (j : Nat) (p : Nm × List Nat) (d : Option Addr × Nat), img[j]? = some p → ds[j]? = some d → Rk w K (0, 0) 5 1 (.slice d.1 (p.2.length + 70) d.2) (p.2.length + 70) (vals (p.2 ++ marks)))
    (ho : w'.ownsRow 0 28 2 (.slice (some ⟨g', 0, none⟩) (n + 1) c') (n + 1) (imv img ds ++ [.string ⟨mkN.toArray⟩, .slice none 0 0])) (hg : ∀ g, g < w.heap.size → some g ≠ (Value.slice a n c).ownBlock → w'.heap[g]? = w.heap[g]?) (hk : K g' = (0, 0)) : Gv w' K g' n c' img := by
  refine ⟨hn, ds, h1, ⟨ho, fun g e => ?_⟩, fun j q d hq hd => ?_⟩
  · simp [Value.ownBlock] at e; subst e; exact hk
  · have hu := h3 j q d hq hd
    exact ⟨owns_same hu.own (fun g e => hg g (rk_lt hu.own e) (owns_apart hu.own h2.own (by decide) g e)), hu.kind⟩

set_option maxRecDepth 100000 in
set_option maxHeartbeats 2000000 in
theorem given_any (w : World) (K : Knd) (sp : Option Addr) (n cap : Nat) (img : Image) (hnl : img.length = n) (h : Imi w sp img) (hn : n ≤ 3518437208784) :
    Calls Try.prog 10 #[.slice sp n cap] w fun e w' => ∃ g c, e = .returned (.slice (some ⟨g, 0, none⟩) n c) ∧ Gv w' (ext K w.heap.size (0, 0)) g n c img ∧ Below w.heap.size w w' := by
  obtain ⟨i0, hi, hz0, hz1, hz2⟩ := info_parts Try.infoFb
  have HV := hide h
  have HN := hide hnl
  obtain ⟨M, hMi, hMn⟩ : ∃ M : Nat, (n : Int) + 1 = (M : Int) ∧ M = n + 1 := ⟨n + 1, by omega, rfl⟩
  have HMn := hide hMn
  have hM1 : M ≤ 3518437208785 := by omega
  obtain ⟨w1, hmk, hown1, hgr1⟩ := run_make_own (P := Try.prog) w 0 22 28 i0 (.agg #[.string ⟨#[]⟩, .slice none 0 0]) 2 Try.underlying22 hi hz0 hz1 .i64 .i64 M (by rw [hz2]; omega) (by unfold maxLen; omega) (Nat.zero_le _)
  have HB1 : Hid (Below w.heap.size w w1) := (Below.refl _ _).grown hgr1 (Nat.le_refl _) (fun k e => by cases e)
  have HO1 := hide hown1
  clear h hnl hMn hown1 hgr1
  go_enter Try.func10, Try.ntmps10
  go_wp2
  clear hmk
  go_loopw [3, 4] (fun l i wr => ∃ (j : Nat) (a : Option Addr) (c : Nat), j ≤ n ∧ i = .int .i64 j ∧ l = .slice a j c ∧ Hid (Gp wr (ext K w.heap.size (0, 0)) (.slice a j c) (img.take j)) ∧ Hid (Below w.heap.size w wr) ∧ Hid (∀ g, (Value.slice a j c).ownBlock = some g → w.heap.size ≤ g)) (fun _ i _ => n - (intOf i).toNat)
  case atStart =>
    refine ⟨0, _, M, Nat.zero_le _, rfl, rfl, hide ⟨⟨[], rfl, ⟨by simpa [imv] using HO1.out, fun g e => ?_⟩, fun j p d hp => by simp at hp⟩⟩, HB1, hide fun g e => ?_⟩
    · simp [Value.ownBlock] at e; subst e; exact ext_new _ _ (Nat.le_refl _)
    · simp [Value.ownBlock] at e; subst e; exact Nat.le_refl _
  case round =>
    obtain ⟨j, a, c, hj, rfl, rfl, HI, HB, HOb⟩ := hrel
    clear HO1 HB1
    have hlen : (img.take j).length = j := by rw [List.length_take, HN.out]; omega
    obtain ⟨ds, hd1, hd2, hd3⟩ := HI.out.row
    rw [hlen] at hd1 hd2
    have HD1 := hide hd1
    have HD3 := hide hd3
    have HD0 := hide hd2
    clear hd1 hd2 hd3
    by_cases hlt : j < n
    · have hlt' : (j : Int) < (n : Int) := by omega
      have hj0 : (0 : Int) ≤ (j : Int) := by omega
      obtain ⟨p, hp⟩ : ∃ p, img[j]? = some p := ⟨_, List.getElem?_eq_getElem (by rw [HN.out]; exact hlt)⟩
      have HT := hide (take_snoc' img j p hp)
      have HSm := hide (HV.out.small p (List.mem_of_getElem? hp))
      obtain ⟨g, o, ap, cp, ha, hg, c00, c01, hby⟩ := HV.out.at hp
      subst ha
      have HG := hide hg
      have hgr : g < wr.heap.size := Nat.lt_of_lt_of_le hg HB.out.size
      have c0 : wr.cell? ⟨g, o + j * 2, none⟩ = some (.string ⟨p.1.toArray⟩) := (HB.out.cell (p := ⟨g, o + j * 2, none⟩) hg).trans c00
      have c1 : wr.cell? ⟨g, o + j * 2 + 1, none⟩ = some (.slice ap p.2.length cp) := (HB.out.cell (p := ⟨g, o + j * 2 + 1, none⟩) hg).trans c01
      have HBy := hide (hby.below HB.out)
      clear hp hby c00 c01 hg
      generalize hsp : (⟨p.1.toArray⟩ : ByteArray) = sp at *
      have HSp := hide hsp
      clear hsp
      generalize hpl : p.2.length = pl at *
      have HPl := hide hpl
      clear hpl
      have HKb : Hid (∀ w2, Below wr.heap.size wr w2 → Kp (fun _ => False) (ext K w.heap.size (0, 0)) (ext K w.heap.size (0, 0)) wr w2) := fun w2 hb => ⟨hb.os, hb.tape, hb.output, hb.size, fun _ _ => rfl, fun b hlt _ => hb.block b hlt⟩
      have hplb : pl ≤ 140737488351232 := by have := HSm.out.1; have := HPl.out; omega
      have HC := hide (lend_any wr.drew ap pl cp p.2 HPl.out (bytes_kept (w' := wr.drew) HBy.out (Nat.le_refl _) (fun _ _ _ _ => rfl)) hplb)
      have HZ : Hid (∀ (w2 w4 : World) (X : Obj), Below wr.heap.size wr w2 → (w2.alloc X).grownBy w4 (Value.slice a j c).ownBlock → w4.heap[g]? = wr.heap[g]?) := fun w2 w4 X h1 h2 => (h2.block g (by simp; have := h1.size; omega) (fun e => by have := HOb.out g e.symm; have := HG.out; omega)).trans ((Below.heap_alloc _ _ _ (Nat.lt_of_lt_of_le hgr h1.size)).trans (h1.block g hgr))
      go_wp2
      go_region_held3 (fun w' => w'.cell? ⟨g, o + j * 2, none⟩ = some (.string sp) ∧ w'.cell? ⟨g, o + j * 2 + 1, none⟩ = some (.slice ap pl cp)) (go_keep) (first | (go_at_call 36; refine HC.out.mono ?_; rintro e w2 ⟨ra, rc, rfl, hr2, hb2⟩; have z0 : w2.cell? ⟨g, o + j * 2, none⟩ = some (.string sp) := (hb2.cell (p := ⟨g, o + j * 2, none⟩) hgr).trans c0; have z1 : w2.cell? ⟨g, o + j * 2 + 1, none⟩ = some (.slice ap pl cp) := (hb2.cell (p := ⟨g, o + j * 2 + 1, none⟩) hgr).trans c1; have HR2 := hide hr2; have HB2 : Hid (Below wr.heap.size wr w2) := ⟨hb2.os, hb2.tape, hb2.output, hb2.size, hb2.block⟩; have HD2 := hide (HD0.out.kept (HKb.out w2 HB2.out) (fun h => h)); clear hr2 hb2) | (refine step_append_lies _ (by rfl) (.tmp 15) (.tmp 28) 22 (by rfl) 0 28 i0 (.agg #[.string ⟨#[]⟩, .slice none 0 0]) 2 40 Try.underlying22 hi hz0 hz1 hz2 rfl (by omega) (.slice a j c) j (imv (img.take j) ds) (by rfl) (HD2.out.own.alloc _) ⟨w2.heap.size, 0, none⟩ 1 1 [.string sp, .slice (some ⟨ra, 0, none⟩) pl rc] (by rfl) rfl (World.news_of_block (heap_alloc_new w2 (.cells #[.string sp, .slice (some ⟨ra, 0, none⟩) pl rc] 28))) (by simp [Value.oneCell']) (by omega) (by unfold maxLen; omega) (by omega) (by omega) _ rfl ?_; intro g' cap' w4 hown4 hgrow4 hat4 hltg; have HO4 := hide hown4; have HG4 := hide hgrow4; have HA4 := hide hat4; have hb4 : w4.heap[g]? = wr.heap[g]? := HZ.out w2 w4 _ HB2.out hgrow4; have z4 : w4.cell? ⟨g, o + j * 2, none⟩ = some (.string sp) := (World.cell?_of_block hb4).trans c0; have z5 : w4.cell? ⟨g, o + j * 2 + 1, none⟩ = some (.slice ap pl cp) := (World.cell?_of_block hb4).trans c1; clear hown4 hgrow4 hat4 hb4) | fail)
      all_goals
        have HB4 : Hid (Below w.heap.size w w4) := by
          have s1 := HB.out.size
          have s3 := HB2.out.size
          have h1 : Below w.heap.size w w2 := HB.out.trans (HB2.out.mono s1)
          exact (h1.alloc (by omega) (.cells #[.string sp, .slice (some ⟨ra, 0, none⟩) pl rc] 28)).grown HG4.out (by simp; omega) (fun g e => HOb.out g e)
        have HOb4 : Hid (∀ g2, (Value.slice (some ⟨g', 0, none⟩) (j + 1) cap').ownBlock = some g2 → w.heap.size ≤ g2) := fun g2 e => by
          simp [Value.ownBlock] at e
          subst e
          rcases HA4.out with h | h
          · exact HOb.out g' h
          · have s2 := HB.out.size
            have s3 := HB2.out.size
            simp at h; omega
        have HRr : Hid (Rk w2 (ext K w.heap.size (0, 0)) (0, 0) 5 1 (.slice (some ⟨ra, 0, none⟩) (pl + 70) rc) (pl + 70) (vals (p.2 ++ marks))) := by
          refine ⟨⟨HR2.out.1, HR2.out.2.imp id ?_⟩, fun g' e => ?_⟩
          · rintro ⟨g', cap, cur, e1, _, r⟩
            exact ⟨g', cap, cur, e1, Nat.zero_le _, r⟩
          · refine ext_new K _ ?_
            have h1 : wr.heap.size ≤ ra := (owns_le HR2.out).2.1
            simp [Value.ownBlock] at e
            have := HB.out.size
            omega
        have HI4 : Hid (Gp w4 (ext K w.heap.size (0, 0)) (.slice (some ⟨g', 0, none⟩) (j + 1) cap') (img.take (j + 1))) := by
          show Gp _ _ _ _
          rw [HT.out]
          have e1 := HPl.out
          subst e1
          have e2 := HSp.out
          subst e2
          refine Gp.push (w := w2) (v := .slice a j c) (by rw [hlen]; exact HD1.out) (by rw [hlen]; exact HD2.out) (fun k q dd h1 h2 => (HD3.out k q dd h1 h2).kept (HKb.out w2 HB2.out) (fun h => h)) HRr.out (by rw [hlen]; exact HO4.out) (fun g2 hg2 hne => (HG4.out.block g2 (by simp; omega) hne).trans (Below.heap_alloc _ _ _ hg2)) (fun g2 e => ?_)
          simp [Value.ownBlock] at e
          subst e
          rcases HA4.out with h | h
          · exact HD2.out.kind g' h
          · refine ext_new K _ ?_
            have := HB.out.size
            have := HB2.out.size
            simp at h; omega
        clear HO4 HG4 HA4
        go_wp2
        go_roundw
        case rel => exact ⟨j + 1, _, cap', by omega, by go_num, rfl, HI4, HB4, HOb4⟩
        case measure => simp [intOf]; omega
    · obtain rfl : j = n := by omega
      have e1 : img.take j = img := List.take_of_length_le (by rw [HN.out]; exact Nat.le_refl _)
      rw [e1] at HD0 HD3
      rw [e1] at hlen
      clear e1
      go_wp2_with (at_builtin; refine wpList_append_lies _ rfl (.tmp 30) (.tmp 32) 22 rfl 0 28 i0 (.agg #[.string ⟨#[]⟩, .slice none 0 0]) 2 40 Try.underlying22 hi hz0 hz1 hz2 rfl (by omega) (.slice a j c) j (imv img ds) rfl (HD0.out.own.alloc _) ⟨wr.heap.size, 0, none⟩ 1 1 [.string ⟨mkN.toArray⟩, .slice none 0 0] rfl rfl (World.news_of_block (heap_alloc_new wr (.cells #[.string ⟨mkN.toArray⟩, .slice none 0 0] 28))) (by simp [Value.oneCell']) (by omega) (by unfold maxLen; omega) (by omega) (by omega) _ rfl ?_; intro g' cap' w4 hown4 hgrow4 hat4 hltg; obtain ⟨_, _, hqe, hqc, _⟩ := owns_form hown4; cases hqe; have hcap : j ≤ cap' := by omega)
      have HB4 : Hid (Below w.heap.size w w4) := by
        have s1 := HB.out.size
        exact (HB.out.alloc (by omega) _).grown hgrow4 (by simp; omega) (fun g e => HOb.out g e)
      have HG4 : Hid (Gv w4 (ext K w.heap.size (0, 0)) g' j cap' img) := by
        refine Gp.mark (w := wr) (a := a) (c := c) HN.out (by rw [hlen]; exact HD1.out) HD0.out HD3.out hown4 (fun g2 hg2 hne => (hgrow4.block g2 (by simp; omega) hne).trans (Below.heap_alloc _ _ _ hg2)) ?_
        rcases hat4 with h | h
        · exact HD0.out.kind g' h
        · refine ext_new K _ ?_
          have := HB.out.size
          simp at h; omega
      clear hown4 hgrow4 hat4
      go_wp2
      go_ret
      exact ⟨g', cap', rfl, HG4.out, HB4.out⟩

end Go.Proofs.Ytlpafgjgoheomaa
