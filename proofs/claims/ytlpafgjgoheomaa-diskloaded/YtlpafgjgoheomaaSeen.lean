import Derived.Test.YtlpafgjgoheomaaImg
namespace Go.Proofs.Ytlpafgjgoheomaa
open Go.RowKit Go.Maps

def St.image (S : St) : Image := if S.off then [] else S.seen.map fun p => (p.1, (S.file p.2).all)
theorem image_names (S : St) : S.image.map (·.1) = S.names := by
  unfold St.image St.names
  split
  · rfl
  · simp
theorem look_of_mem {l : List (Nm × Nat)} (h : Srt l) {p : Nm × Nat} (hp : p ∈ l) : lookN l p.1 = some p.2 := (look_mem h).2 hp
/-- What is read under a name that is seen. -/
theorem image_read {S : St} (hv : Inv S) {p : Nm × List Nat} (hp : p ∈ S.image) : S.err p.1 = 0 ∧ S.bytes p.1 = p.2 ∧ isNm p.1 = true := by
  unfold St.image at hp
  split at hp
  · cases hp
  · rename_i ho
    obtain ⟨q, hq, rfl⟩ := List.mem_map.1 hp
    have hl := look_of_mem hv.srt hq
    have hn := (hv.ins q hq).2
    have he : S.err q.1 = 0 := by unfold St.err; rw [if_neg ho, if_pos hn, if_neg (by rw [hl]; simp)]
    exact ⟨he, by unfold St.bytes; rw [if_pos he, hl]; rfl, hn⟩
theorem image_small {S : St} (hv : Inv S) {k : Nat} (hz : Sz S k) : ∀ p ∈ S.image, (∀ x ∈ p.2, x < 256) ∧ p.2.length ≤ 16777216 := by
  intro p hp
  unfold St.image at hp
  split at hp
  · cases hp
  · obtain ⟨q, hq, rfl⟩ := List.mem_map.1 hp
    exact ⟨(hz.file (hv.ins q hq).1).1.allSmall, S.file_le hv (look_of_mem hv.srt hq)⟩
theorem image_len {S : St} (hv : Inv S) : S.image.length ≤ 64 := by
  unfold St.image
  split
  · simp
  · simpa using hv.most

theorem Im.push {w w' : World} {K : Knd} {v v' : Value} {img : Image} {ds : List (Option Addr × Nat)} {p : Nm × List Nat} {ap : Option Addr} {cp : Nat} (hs : ∀ q ∈ img, (∀ x ∈ q.2, x < 256) ∧ q.2.length ≤ 1099511627776) (h1 : ds.length = img.length) (h2 : Rk w K (0, 0) 28 2 v img.length (imv img ds))
    (h3 : ∀ (j : Nat) (p : Nm × List Nat) (d : Option Addr × Nat), img[j]? = some p → ds[j]? = some d → Rk w K (0, 0) 5 1 (.slice d.1 p.2.length d.2) p.2.length (vals p.2))
    (hp : (∀ x ∈ p.2, x < 256) ∧ p.2.length ≤ 1099511627776) (hr : Rk w K (0, 0) 5 1 (.slice ap p.2.length cp) p.2.length (vals p.2))
    (ho : w'.ownsRow 0 28 2 v' (img.length + 1) (imv img ds ++ [.string ⟨p.1.toArray⟩, .slice ap p.2.length cp])) (hg : ∀ g, g < w.heap.size → some g ≠ v.ownBlock → w'.heap[g]? = w.heap[g]?) (hk : ∀ g, v'.ownBlock = some g → K g = (0, 0)) : Im w' K v' (img ++ [p]) := by
  have hkeep : ∀ {u : Value} {n : Nat} {xs : List Value}, Rk w K (0, 0) 5 1 u n xs → Rk w' K (0, 0) 5 1 u n xs := fun hu =>
    ⟨owns_same hu.own (fun g e => hg g (rk_lt hu.own e) (owns_apart hu.own h2.own (by decide) g e)), hu.kind⟩
  refine ⟨fun q hq => ?_, ds ++ [(ap, cp)], by simp [h1], ⟨?_, hk⟩, fun j q d hq hd => ?_⟩
  · rcases List.mem_append.1 hq with e | e
    · exact hs q e
    · simp at e; subst e; exact hp
  · rw [imv_snoc h1, List.length_append]; exact ho
  · by_cases e : j < img.length
    · rw [List.getElem?_append_left e] at hq
      rw [List.getElem?_append_left (by omega)] at hd
      exact hkeep (h3 j q d hq hd)
    · have hj : j = img.length := by
        have := (List.getElem?_eq_some_iff.1 hq).1
        simp at this; omega
      subst hj
      rw [← h1] at hd
      simp at hq hd
      subst hq; subst hd
      exact hkeep hr

set_option maxRecDepth 100000 in
set_option maxHeartbeats 2000000 in
theorem seen_any (w : World) (K : Knd) (o d : Nat) (S : St) (h : Dk w K o d S) (hv : Inv S) (k : Nat) (hz : Sz S k) (hk : k ≤ 549755813888) :
    Calls Try.prog 26 #[.pointer (some ⟨d, 0, none⟩)] w fun e w' => ∃ v, e = .returned v ∧ Im w' (ext K w.heap.size (0, 0)) v S.image ∧ Below w.heap.size w w' := by
  obtain ⟨i0, hi, hz0, hz1, hz2⟩ := info_parts Try.infoFb
  have HL := hide (List_any w K o d S h hv)
  obtain ⟨loc, sv, nv, cv, hm⟩ := h
  have HD := hide hm
  have HV := hide hv
  have HZ := hide hz
  obtain ⟨n, hn⟩ : ∃ n, S.image.length = n := ⟨_, rfl⟩
  have hn2 : S.names.length = n := by rw [← image_names, List.length_map, hn]
  have HN := hide hn
  have hn64 : n ≤ 64 := by rw [← hn]; exact image_len hv
  rw [hn2] at HL
  clear hm hv hz hn hn2
  have HKk : ∀ {w' : World}, Below w.heap.size w w' → Kp (fun _ => False) K (ext K w.heap.size (0, 0)) w w' := fun hb => kp_below hb _ K _
  go_enter Try.func26, Try.ntmps26
  go_wp2_with fail
  refine HL.out.mono ?_
  rintro e w1 ⟨na, nc, rfl, hr1, hb1⟩
  have HR1 := hide hr1
  have HB1 := hide hb1
  clear hr1 hb1
  have heo : S.offE ≤ 45 := by unfold St.offE; split <;> omega
  generalize S.offE = eo at *
  go_wp2
  go_loopw [3, 6] (fun l i wr => ∃ (j : Nat) (a : Option Addr) (c : Nat), j ≤ n ∧ i = .int .i64 j ∧ l = .slice a j c ∧ Hid (Im wr (ext K w.heap.size (0, 0)) (.slice a j c) (S.image.take j)) ∧ Hid (Below w.heap.size w wr) ∧ Hid (Below w1.heap.size w1 wr) ∧ Hid (∀ g, (Value.slice a j c).ownBlock = some g → w1.heap.size ≤ g)) (fun _ i _ => n - (intOf i).toNat)
  case atStart => exact ⟨0, none, 0, Nat.zero_le _, rfl, rfl, im_nil _ _, HB1, Below.refl _ _, fun g e => by simp [Value.ownBlock] at e⟩
  case round =>
    obtain ⟨j, a, c, hj, rfl, rfl, HI, HB, HBw, HOb⟩ := hrel
    by_cases hlt : j < n
    · have hlt' : (j : Int) < (n : Int) := by omega
      obtain ⟨p, hp⟩ : ∃ p, S.image[j]? = some p := ⟨_, List.getElem?_eq_getElem (by rw [HN.out]; exact hlt)⟩
      have HP := hide hp
      have HT := hide (take_snoc' S.image j p hp)
      obtain ⟨herr, hby, hnm⟩ := image_read HV.out (List.mem_of_getElem? hp)
      have HNm := hide (nm_len hnm)
      have HSm := hide (image_small HV.out HZ.out p (List.mem_of_getElem? hp))
      have hDr := HD.out.kept (HKk HB.out) (fun _ h => h)
      have HRd := hide (Read_any wr _ o d S ⟨loc, sv, nv, cv, hDr⟩ HV.out k HZ.out hk p.1 (by have := HNm.out; omega))
      rw [herr, hby] at HRd
      -- the name
      obtain ⟨g, rfl, hg, hc⟩ : ∃ g, na = some ⟨g, 0, none⟩ ∧ g < w1.heap.size ∧ w1.cell? ⟨g, j, none⟩ = some (.string ⟨p.1.toArray⟩) := by
        have hnm2 : S.names[j]? = some p.1 := by rw [← image_names, List.getElem?_map, hp]; rfl
        have hst : (strs S.names)[j]? = some (.string ⟨p.1.toArray⟩) := by unfold strs; rw [List.getElem?_map, hnm2]; rfl
        rcases HR1.out.2 with ⟨_, e2⟩ | ⟨g, cap, cur, e1, _, hg, e3, e4, e5, e6⟩
        · omega
        · cases e1
          refine ⟨g, rfl, lt_of_block hg, ?_⟩
          rw [← e6, List.getElem?_take, if_pos (by omega)] at hst
          simp only [World.cell?, hg]
          simpa using hst
      have hcr : wr.cell? ⟨g, j, none⟩ = some (.string ⟨p.1.toArray⟩) := (HBw.out.cell (p := ⟨g, j, none⟩) hg).trans hc
      have HHg := hide hg
      clear hc hp herr hby hnm hDr hg
      have HSt : Hid (∀ w2, Below wr.heap.size wr w2 → w2.cell? ⟨g, j, none⟩ = some (.string ⟨p.1.toArray⟩)) := fun w2 h2 => by
        rw [h2.cell (p := ⟨g, j, none⟩) (Nat.lt_of_lt_of_le HHg.out HBw.out.size)]; exact hcr
      generalize hsp : (⟨p.1.toArray⟩ : ByteArray) = sp at *
      have HSp := hide hsp
      clear hsp
      go_wp2_with fail
      refine HRd.out.mono ?_
      rintro e w2 ⟨ra, rc, rfl, hr2, hb2⟩
      have hc2 := HSt.out w2 hb2
      have HR2 := hide hr2
      have HB2 := hide hb2
      clear hr2 hb2 hcr
      have HI2 := hide (HI.out.kept (p := fun _ => False) (K' := ext K w.heap.size (0, 0)) ⟨HB2.out.os, HB2.out.tape, HB2.out.output, HB2.out.size, fun _ _ => rfl, fun b hb _ => HB2.out.block b hb⟩ (fun h => h))
      have hlen : (S.image.take j).length = j := by rw [List.length_take, HN.out]; omega
      obtain ⟨ds, hd1, hd2, hd3⟩ := HI2.out.row
      rw [hlen] at hd1 hd2
      have HD1 := hide hd1
      have HD2 := hide hd2
      have HD3 := hide hd3
      clear hd1 hd2 hd3
      have HRr : Hid (Rk w2 (ext K w.heap.size (0, 0)) (0, 0) 5 1 (.slice ra p.2.length rc) p.2.length (vals p.2)) := by
        refine ⟨⟨HR2.out.1, HR2.out.2.imp id ?_⟩, fun g' e => ?_⟩
        · rintro ⟨g', cap, cur, e1, _, r⟩
          exact ⟨g', cap, cur, e1, Nat.zero_le _, r⟩
        · refine ext_new K _ ?_
          rcases HR2.out.2 with ⟨e1, _⟩ | ⟨g2, cap, cur, e1, e2, _⟩
          · rw [e1] at e; simp [Value.ownBlock] at e
          · rw [e1] at e; simp [Value.ownBlock] at e
            have := HB.out.size
            omega
      generalize hpl : p.2.length = pl at *
      have HPl := hide hpl
      clear hpl
      go_wp2_with (at_builtin; refine wpList_append_lies _ rfl (.tmp 29) (.tmp 36) 22 rfl 0 28 i0 (.agg #[.string ⟨#[]⟩, .slice none 0 0]) 2 40 Try.underlying22 hi hz0 hz1 hz2 rfl (by omega) (.slice a j c) j (imv (S.image.take j) ds) rfl (HD2.out.own.alloc _) ⟨w2.heap.size, 0, none⟩ 1 1 [.string sp, .slice ra pl rc] rfl rfl (World.news_of_block (heap_alloc_new w2 (.cells #[.string sp, .slice ra pl rc] 28))) (by simp [Value.oneCell']) (by omega) (by unfold maxLen; omega) (by omega) (by omega) _ rfl ?_; intro g' cap' w4 hown4 hgrow4 hat4 hltg)
      have HB4 : Hid (Below w.heap.size w w4 ∧ Below w1.heap.size w1 w4) := by
        have s1 := HB1.out.size
        have s2 := HBw.out.size
        have s3 := HB2.out.size
        have h1 : Below w1.heap.size w1 w2 := HBw.out.trans (HB2.out.mono s2)
        have h2 := (h1.alloc (by omega) (.cells #[.string sp, .slice ra pl rc] 28)).grown hgrow4 (by simp; omega) (fun g e => HOb.out g e)
        exact ⟨HB1.out.trans (h2.mono s1), h2⟩
      have HOb4 : Hid (∀ g2, (Value.slice (some ⟨g', 0, none⟩) (j + 1) cap').ownBlock = some g2 → w1.heap.size ≤ g2) := fun g2 e => by
        simp [Value.ownBlock] at e
        subst e
        rcases hat4 with h | h
        · exact HOb.out g' h
        · have s2 := HBw.out.size
          have s3 := HB2.out.size
          simp at h; omega
      have HI4 : Hid (Im w4 (ext K w.heap.size (0, 0)) (.slice (some ⟨g', 0, none⟩) (j + 1) cap') (S.image.take (j + 1))) := by
        show Im _ _ _ _
        rw [HT.out]
        have e1 := HPl.out
        subst e1
        have e2 := HSp.out
        subst e2
        refine Im.push (w := w2) (v := .slice a j c) HI2.out.small (by rw [hlen]; exact HD1.out) (by rw [hlen]; exact HD2.out) HD3.out ⟨HSm.out.1, by have := HSm.out.2; omega⟩ HRr.out (by rw [hlen]; exact hown4) (fun g2 hg2 hne => (hgrow4.block g2 (by simp; omega) hne).trans (Below.heap_alloc _ _ _ hg2)) (fun g2 e => ?_)
        simp [Value.ownBlock] at e
        subst e
        rcases hat4 with h | h
        · exact HD2.out.kind g' h
        · refine ext_new K _ ?_
          have := HB.out.size
          have := HB2.out.size
          simp at h; omega
      clear hown4 hgrow4 hat4
      go_wp2
      go_roundw
      case rel => exact ⟨j + 1, _, cap', by omega, by go_num, rfl, HI4, hide HB4.out.1, hide HB4.out.2, HOb4⟩
      case measure => simp [intOf]; omega
    · obtain rfl : j = n := by omega
      have HIe : Hid (Im wr (ext K w.heap.size (0, 0)) (.slice a j c) S.image) := by
        have := HI.out
        rwa [List.take_of_length_le (by rw [HN.out]; exact Nat.le_refl _)] at this
      go_wp2
      go_ret
      exact ⟨_, rfl, HIe.out, HB.out⟩

end Go.Proofs.Ytlpafgjgoheomaa
