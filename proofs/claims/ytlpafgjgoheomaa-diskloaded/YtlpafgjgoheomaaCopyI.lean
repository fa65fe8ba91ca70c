import Derived.Test.YtlpafgjgoheomaaLoadB
namespace Go.Proofs.Ytlpafgjgoheomaa
open Go.RowKit Go.Maps

set_option maxRecDepth 100000 in
set_option maxHeartbeats 2000000 in
theorem lcopied_any (w : World) (K : Knd) (v : Value) (img : Image) (h : Im w K v img) (hn : img.length ≤ 1099511627776) :
    Calls Try.prog 33 #[v] w fun e w' => ∃ v', e = .returned v' ∧ Im w' (ext K w.heap.size (0, 0)) v' img ∧ Below w.heap.size w w' := by
  obtain ⟨i0, hi, hz0, hz1, hz2⟩ := info_parts Try.infoFb
  obtain ⟨va, vc, rfl, hle, hmx⟩ := h.form
  unfold maxLen at hmx
  have HV := hide h
  obtain ⟨n, hnl⟩ : ∃ n, img.length = n := ⟨_, rfl⟩
  have HN := hide hnl
  have hn2 : n ≤ 1099511627776 := by omega
  rw [hnl] at hle HV ⊢
  clear h hnl hn
  go_enter Try.func33, Try.ntmps33
  go_wp2
  go_loopw [3, 4] (fun l i wr => ∃ (j : Nat) (a : Option Addr) (c : Nat), j ≤ n ∧ i = .int .i64 j ∧ l = .slice a j c ∧ Hid (Im wr (ext K w.heap.size (0, 0)) (.slice a j c) (img.take j)) ∧ Hid (Below w.heap.size w wr) ∧ Hid (∀ g, (Value.slice a j c).ownBlock = some g → w.heap.size ≤ g)) (fun _ i _ => n - (intOf i).toNat)
  case atStart => exact ⟨0, none, 0, Nat.zero_le _, rfl, rfl, im_nil _ _, Below.refl _ _, fun g e => by simp [Value.ownBlock] at e⟩
  case round =>
    obtain ⟨j, a, c, hj, rfl, rfl, HI, HB, HOb⟩ := hrel
    by_cases hlt : j < n
    · have hlt' : (j : Int) < (n : Int) := by omega
      have hj0 : (0 : Int) ≤ (j : Int) := by omega
      obtain ⟨p, hp⟩ : ∃ p, img[j]? = some p := ⟨_, List.getElem?_eq_getElem (by rw [HN.out]; exact hlt)⟩
      have HT := hide (take_snoc' img j p hp)
      have HSm := hide (HV.out.small p (List.mem_of_getElem? hp))
      obtain ⟨g, ap, cp, ha, hg, c00, c01, hby, hrp⟩ := HV.out.at hp
      subst ha
      have HG := hide hg
      have hgr : g < wr.heap.size := Nat.lt_of_lt_of_le hg HB.out.size
      have c0 : wr.cell? ⟨g, j * 2, none⟩ = some (.string ⟨p.1.toArray⟩) := (HB.out.cell (p := ⟨g, j * 2, none⟩) hg).trans c00
      have c1 : wr.cell? ⟨g, j * 2 + 1, none⟩ = some (.slice ap p.2.length cp) := (HB.out.cell (p := ⟨g, j * 2 + 1, none⟩) hg).trans c01
      have HBy := hide (hby.below HB.out)
      have hlen : (img.take j).length = j := by rw [List.length_take, HN.out]; omega
      clear hp hby hrp c00 c01 hg
      generalize hsp : (⟨p.1.toArray⟩ : ByteArray) = sp at *
      have HSp := hide hsp
      clear hsp
      generalize hpl : p.2.length = pl at *
      have HPl := hide hpl
      clear hpl
      obtain ⟨ds, hd1, hd2, hd3⟩ := HI.out.row
      rw [hlen] at hd1 hd2
      have HD1 := hide hd1
      have HD3 := hide hd3
      have HD0 := hide hd2
      have HKb : Hid (∀ w2, Below wr.heap.size wr w2 → Kp (fun _ => False) (ext K w.heap.size (0, 0)) (ext K w.heap.size (0, 0)) wr w2) := fun w2 hb => ⟨hb.os, hb.tape, hb.output, hb.size, fun _ _ => rfl, fun b hlt _ => hb.block b hlt⟩
      clear hd1 hd2 hd3
      have hplb : pl ≤ 140737488355328 := by have := HSm.out.2; have := HPl.out; omega
      have HC := hide (copy_any wr.drew ap pl cp p.2 HPl.out (bytes_kept (w' := wr.drew) HBy.out (Nat.le_refl _) (fun _ _ _ _ => rfl)) hplb)
      have HZ : Hid (∀ (w2 w4 : World) (X : Obj), Below wr.heap.size wr w2 → (w2.alloc X).grownBy w4 (Value.slice a j c).ownBlock → w4.heap[g]? = wr.heap[g]?) := fun w2 w4 X h1 h2 => (h2.block g (by simp; have := h1.size; omega) (fun e => by have := HOb.out g e.symm; have := HG.out; omega)).trans ((Below.heap_alloc _ _ _ (Nat.lt_of_lt_of_le hgr h1.size)).trans (h1.block g hgr))
      go_wp2
      go_region_held3 (fun w' => w'.cell? ⟨g, j * 2, none⟩ = some (.string sp) ∧ w'.cell? ⟨g, j * 2 + 1, none⟩ = some (.slice ap pl cp)) (go_keep) (first | (go_at_call 35; refine HC.out.mono ?_; rintro e w2 ⟨ra, rc, rfl, hr2, hb2⟩; have z0 : w2.cell? ⟨g, j * 2, none⟩ = some (.string sp) := (hb2.cell (p := ⟨g, j * 2, none⟩) hgr).trans c0; have z1 : w2.cell? ⟨g, j * 2 + 1, none⟩ = some (.slice ap pl cp) := (hb2.cell (p := ⟨g, j * 2 + 1, none⟩) hgr).trans c1; have HR2 := hide hr2; have HB2 : Hid (Below wr.heap.size wr w2) := ⟨hb2.os, hb2.tape, hb2.output, hb2.size, hb2.block⟩; have HD2 := hide (HD0.out.kept (HKb.out w2 HB2.out) (fun h => h)); clear hr2 hb2) | (refine step_append_lies _ (by rfl) (.tmp 11) (.tmp 24) 22 (by rfl) 0 28 i0 (.agg #[.string ⟨#[]⟩, .slice none 0 0]) 2 40 Try.underlying22 hi hz0 hz1 hz2 rfl (by omega) (.slice a j c) j (imv (img.take j) ds) (by rfl) (HD2.out.own.alloc _) ⟨w2.heap.size, 0, none⟩ 1 1 [.string sp, .slice ra pl rc] (by rfl) rfl (World.news_of_block (heap_alloc_new w2 (.cells #[.string sp, .slice ra pl rc] 28))) (by simp [Value.oneCell']) (by omega) (by unfold maxLen; omega) (by omega) (by omega) _ rfl ?_; intro g' cap' w4 hown4 hgrow4 hat4 hltg; have HO4 := hide hown4; have HG4 := hide hgrow4; have HA4 := hide hat4; have hb4 : w4.heap[g]? = wr.heap[g]? := HZ.out w2 w4 _ HB2.out hgrow4; have z4 : w4.cell? ⟨g, j * 2, none⟩ = some (.string sp) := (World.cell?_of_block hb4).trans c0; have z5 : w4.cell? ⟨g, j * 2 + 1, none⟩ = some (.slice ap pl cp) := (World.cell?_of_block hb4).trans c1; clear hown4 hgrow4 hat4 hb4) | fail)
      all_goals
        have HB4 : Hid (Below w.heap.size w w4) := by
          have s1 := HB.out.size
          have s3 := HB2.out.size
          have h1 : Below w.heap.size w w2 := HB.out.trans (HB2.out.mono s1)
          exact (h1.alloc (by omega) (.cells #[.string sp, .slice ra pl rc] 28)).grown HG4.out (by simp; omega) (fun g e => HOb.out g e)
        have HOb4 : Hid (∀ g2, (Value.slice (some ⟨g', 0, none⟩) (j + 1) cap').ownBlock = some g2 → w.heap.size ≤ g2) := fun g2 e => by
          simp [Value.ownBlock] at e
          subst e
          rcases HA4.out with h | h
          · exact HOb.out g' h
          · have s2 := HB.out.size
            have s3 := HB2.out.size
            simp at h; omega
        have HRr : Hid (Rk w2 (ext K w.heap.size (0, 0)) (0, 0) 5 1 (.slice ra pl rc) pl (vals p.2)) := by
          refine ⟨⟨HR2.out.1, HR2.out.2.imp id ?_⟩, fun g' e => ?_⟩
          · rintro ⟨g', cap, cur, e1, _, r⟩
            exact ⟨g', cap, cur, e1, Nat.zero_le _, r⟩
          · refine ext_new K _ ?_
            rcases HR2.out.2 with ⟨e1, _⟩ | ⟨g2, cap, cur, e1, e2, _⟩
            · rw [e1] at e; simp [Value.ownBlock] at e
            · rw [e1] at e; simp [Value.ownBlock] at e
              have := HB.out.size
              have e3 : wr.heap.size ≤ g2 := e2
              omega
        have HI4 : Hid (Im w4 (ext K w.heap.size (0, 0)) (.slice (some ⟨g', 0, none⟩) (j + 1) cap') (img.take (j + 1))) := by
          show Im _ _ _ _
          rw [HT.out]
          have e1 := HPl.out
          subst e1
          have e2 := HSp.out
          subst e2
          have HI2 := HI.out.kept (HKb.out w2 HB2.out) (fun h => h)
          refine Im.push (w := w2) (v := .slice a j c) HI.out.small (by rw [hlen]; exact HD1.out) (by rw [hlen]; exact HD2.out) (fun k q dd h1 h2 => (HD3.out k q dd h1 h2).kept (HKb.out w2 HB2.out) (fun h => h)) HSm.out HRr.out (by rw [hlen]; exact HO4.out) (fun g2 hg2 hne => (HG4.out.block g2 (by simp; omega) hne).trans (Below.heap_alloc _ _ _ hg2)) (fun g2 e => ?_)
          simp [Value.ownBlock] at e
          subst e
          rcases HA4.out with h | h
          · exact HD2.out.kind g' h
          · refine ext_new K _ ?_
            have := HB.out.size
            have := HB2.out.size
            simp at h; omega
        clear HO4 HG4 HA4
        go_wp2
        go_roundw
        case rel => exact ⟨j + 1, _, cap', by omega, by go_num, rfl, HI4, HB4, HOb4⟩
        case measure => simp [intOf]; omega
    · obtain rfl : j = n := by omega
      have HIe : Hid (Im wr (ext K w.heap.size (0, 0)) (.slice a j c) img) := by
        have := HI.out
        rwa [List.take_of_length_le (by rw [HN.out]; exact Nat.le_refl _)] at this
      go_wp2
      go_ret
      exact ⟨_, rfl, HIe.out, HB.out⟩

end Go.Proofs.Ytlpafgjgoheomaa
