import Derived.Test.YtlpafgjgoheomaaFullP
namespace Go.Proofs.Ytlpafgjgoheomaa
open Go.RowKit Go.Maps

/-- Behind S0, where all was made safe, there were appends alone. -/
structure Ad (S0 S : St) : Prop where
  free : Free S
  safe : S.safe = S0.seen
  byt : ∀ p ∈ S.seen, ∃ xs, (S.file p.2).units = bus xs
  old : ∀ p ∈ S0.seen, p ∈ S.seen ∧ (S.file p.2).safe = (S0.file p.2).all
  mono : ∀ j, j ≤ S.chg.length → (∀ p ∈ (S.chg.take j).foldl withN S.safe, p ∈ S.seen) ∧ (∀ p ∈ S.safe, p ∈ (S.chg.take j).foldl withN S.safe)
theorem Ad.stroked {S0 S : St} (h : Ad S0 S) : Ad S0 S.stroked := ⟨h.free.stroked, h.safe, h.byt, h.old, h.mono⟩
theorem Ad.append {S0 S : St} (h : Ad S0 S) (hv : Inv S) (x : Nm) (b : List Nat) : Ad S0 (S.appendR x b).2 := by
  unfold St.appendR
  split
  · exact h
  split
  · exact h
  rename_i hn
  split
  · exact h.stroked
  have hnm : isNm x = true := by
    cases h : isNm x
    · exact absurd (Or.inl h) hn
    · rfl
  have hs := h.stroked
  have hvs := hv.stroked
  cases hl : lookN S.seen x with
  | some i =>
    have hi := S.seen_file hv hl
    refine ⟨⟨hs.free.off, hs.free.pOff, hs.free.pFrom⟩, hs.safe, fun p hp => ?_, fun p hp => ⟨(hs.old p hp).1, ?_⟩, hs.mono⟩
    · show ∃ xs, ((S.stroked.turn i ((S.file i).add b)).file p.2).units = bus xs
      rw [St.turn_file (S := S.stroked) hi]
      split
      · obtain ⟨xs, e⟩ := h.byt (x, i) ((look_mem hv.srt).1 hl)
        exact ⟨xs ++ b, by show (S.file i).units ++ bus b = _; rw [show (S.file i).units = bus xs from e]; simp [bus]⟩
      · exact h.byt p hp
    · show ((S.stroked.turn i ((S.file i).add b)).file p.2).safe = _
      rw [St.turn_file (S := S.stroked) hi]
      split
      · rename_i e
        rw [← e]; exact (h.old p hp).2
      · exact (h.old p hp).2
  | none =>
    have hx0 : x ≠ [] := by rintro rfl; have := (nm_len hnm).1; simp at this
    have hne : ∀ p ∈ S.seen, p.1 ≠ [] := fun p hp e => by have := (nm_len (hv.ins p hp).2).1; rw [e] at this; simp at this
    have e : withN S.seen ⟨[], x, S.files.length⟩ = insN (x, S.files.length) S.seen := by
      unfold withN putN
      rw [if_neg hx0, del_none hne, del_none (look_none.1 hl)]
    have hin : ∀ p ∈ S.seen, p ∈ withN S.seen ⟨[], x, S.files.length⟩ := fun p hp => by rw [e]; exact mem_ins.2 (Or.inr hp)
    have hfl : ∀ p : Nm × Nat, (((S.stroked.made ⟨[], []⟩).ren ⟨[], x, S.files.length⟩).turn S.files.length ((⟨[], []⟩ : Fil).add b)).file p.2 = if p.2 = S.files.length then (⟨[], []⟩ : Fil).add b else (S.stroked.made ⟨[], []⟩).file p.2 := fun p =>
      St.turn_file (S := (S.stroked.made ⟨[], []⟩).ren ⟨[], x, S.files.length⟩) (by show S.files.length < (S.files ++ [_]).length; simp) p.2
    refine ⟨⟨hs.free.off, hs.free.pOff, hs.free.pFrom⟩, hs.safe, fun p hp => ?_, fun p hp => ⟨hin p (h.old p hp).1, ?_⟩, fun j hj => ?_⟩
    · rw [hfl]
      split
      · exact ⟨b, by show [] ++ bus b = _; simp⟩
      · rename_i hne2
        have hp2 : p ∈ insN (x, S.files.length) S.seen := by rw [← e]; exact hp
        rcases mem_ins.1 hp2 with e2 | hp3
        · exact absurd (by rw [e2]) hne2
        · rw [made_file (S := S.stroked) (hv.ins p hp3).1]; exact h.byt p hp3
    · rw [hfl]
      have hlt := (hv.ins p (h.old p hp).1).1
      rw [if_neg (by omega), made_file (S := S.stroked) hlt]
      exact (h.old p hp).2
    · have hj2 : j ≤ S.chg.length + 1 := by
        have : (S.chg ++ [(⟨[], x, S.files.length⟩ : Chg)]).length = S.chg.length + 1 := by simp
        exact this ▸ hj
      show (∀ p ∈ ((S.chg ++ [(⟨[], x, S.files.length⟩ : Chg)]).take j).foldl withN S.safe, p ∈ withN S.seen ⟨[], x, S.files.length⟩) ∧ (∀ p ∈ S.safe, p ∈ ((S.chg ++ [(⟨[], x, S.files.length⟩ : Chg)]).take j).foldl withN S.safe)
      by_cases hjl : j ≤ S.chg.length
      · rw [List.take_append_of_le_length hjl]
        exact ⟨fun p hp => hin p ((h.mono j hjl).1 p hp), (h.mono j hjl).2⟩
      · have hj3 : j = S.chg.length + 1 := by omega
        subst hj3
        rw [List.take_of_length_le (by simp), List.foldl_append]
        have hf : S.chg.foldl withN S.safe = S.seen := hv.fold.symm
        rw [hf]
        refine ⟨fun p hp => hp, fun p hp => hin p ?_⟩
        have := (h.mono S.chg.length (Nat.le_refl _)).2 p hp
        rw [List.take_of_length_le (Nat.le_refl _), hf] at this
        exact this

/-- Bytes alone: what is left is a beginning. -/
theorem left_bus {f : Fil} {xs : List Nat} (h : f.units = bus xs) (n : Nat) : f.left n = f.safe ++ xs.take n ∧ f.all = f.safe ++ xs := by
  unfold Fil.left Fil.all
  rw [h]
  refine ⟨?_, carry_bus _ _⟩
  rw [show (bus xs).take n = bus (xs.take n) by simp [bus, List.map_take], carry_bus]
theorem pick_nil (i n : Nat) : pickP [] i n = 0 := rfl
/-- With no picks just what was safe. -/
theorem Ad.none {S0 S : St} (h : Ad S0 S) (h0 : S0.off = false) : S.crash [] = S0.image := by
  unfold St.crash St.leftN St.image
  simp only [pick_nil, List.take_zero, List.foldl_nil]
  rw [h.safe, h0]
  simp only [Bool.false_eq_true, if_false]
  rw [List.mapIdx_eq_zipIdx_map]
  refine List.ext_getElem? fun i => ?_
  simp only [List.getElem?_map, List.getElem?_zipIdx]
  cases hp : S0.seen[i]? with
  | none => rfl
  | some p =>
    simp only [Option.map_some]
    have := (h.old p (List.mem_of_getElem? hp)).2
    unfold Fil.left
    simp only [List.take_zero]
    show some (p.1, carryL (S.file p.2).safe []) = _
    rw [show carryL (S.file p.2).safe [] = (S.file p.2).safe from rfl, this]

theorem srt_before {l : List (Nm × Nat)} (h : Srt l) {i k : Nat} {p q : Nm × Nat} (hi : l[i]? = some p) (hk : l[k]? = some q) (hlt : i < k) : p.1 ≠ q.1 := by
  obtain ⟨h1, e1⟩ := List.getElem?_eq_some_iff.1 hi
  obtain ⟨h2, e2⟩ := List.getElem?_eq_some_iff.1 hk
  have := List.pairwise_iff_getElem.1 h.nodup i k h1 h2 hlt
  rw [e1, e2] at this
  exact this
theorem crash_find {S : St} (hv : Inv S) (ps : List Int) {k : Nat} {p : Nm × Nat} (hp : (S.leftN ps)[k]? = some p) : imgFind (S.crash ps) p.1 = some ((S.file p.2).left (pickP ps (k + 1) (S.file p.2).units.length)) := by
  refine imgFind_some (k := k) (crash_at hp) rfl (fun q hq => ?_)
  obtain ⟨i, hi⟩ := List.getElem?_of_mem hq
  have hik : i < k := by
    have h1 := (List.getElem?_eq_some_iff.1 hi).1
    rw [List.length_take] at h1
    omega
  rw [List.getElem?_take_of_lt hik] at hi
  cases hl : (S.leftN ps)[i]? with
  | none =>
    have h2 := List.getElem?_eq_none_iff.1 hl
    have h3 := (List.getElem?_eq_some_iff.1 hi).1
    rw [crash_len] at h3
    omega
  | some r =>
    rw [crash_at hl] at hi
    have e : q.1 = r.1 := by rw [← Option.some.inj hi]
    rw [e]
    exact srt_before (left_srt hv ps) hl hp hik
/-- What was safe is there, and what is there begins with it. -/
theorem Ad.was {S0 S : St} (h : Ad S0 S) (hv : Inv S) (ps : List Int) {p : Nm × Nat} (hp : p ∈ S0.seen) : ∃ t, imgFind (S.crash ps) p.1 = some ((S0.file p.2).all ++ t) := by
  have hm := (h.mono _ (pick_le ps 0 S.chg.length)).2 p (by rw [h.safe]; exact hp)
  obtain ⟨k, hk⟩ := List.getElem?_of_mem hm
  have hf := crash_find hv ps hk
  obtain ⟨hs, ho⟩ := h.old p hp
  obtain ⟨xs, hx⟩ := h.byt p hs
  rw [(left_bus hx _).1, ho] at hf
  exact ⟨_, hf⟩
/-- What is there is seen, and begins what is seen. -/
theorem Ad.now {S0 S : St} (h : Ad S0 S) (hv : Inv S) (ps : List Int) {k : Nat} {e : Nm × List Nat} (he : (S.crash ps)[k]? = some e) : ∃ t, imgFind S.image e.1 = some (e.2 ++ t) := by
  cases hl : (S.leftN ps)[k]? with
  | none =>
    have h2 := List.getElem?_eq_none_iff.1 hl
    have h3 := (List.getElem?_eq_some_iff.1 he).1
    rw [crash_len] at h3
    omega
  | some p =>
    rw [crash_at hl] at he
    have hs := (h.mono _ (pick_le ps 0 S.chg.length)).1 p (List.mem_of_getElem? hl)
    obtain ⟨xs, hx⟩ := h.byt p hs
    have e1 := Option.some.inj he
    subst e1
    refine ⟨xs.drop (pickP ps (k + 1) (S.file p.2).units.length), ?_⟩
    rw [image_find h.free.off, (look_mem hv.srt).2 hs]
    show some (S.file p.2).all = _
    rw [(left_bus hx 0).2, (left_bus hx _).1, List.append_assoc, List.take_append_drop]
theorem pick_all {n i m : Nat} (h : i < n) : pickP (List.replicate n (-1)) i m = m := by
  unfold pickP
  rw [List.getElem?_replicate, if_pos h]
  simp only
  have : (-1 : Int) % ((m + 1 : Nat) : Int) = (m : Int) := by
    rw [← Int.add_emod_right, Int.emod_eq_of_lt (by omega) (by omega)]; omega
  rw [this]; omega
/-- With all picks as great as can be all that is seen. -/
theorem crash_all {S : St} (hv : Inv S) (ho : S.off = false) {n : Nat} (hn : n = S.seen.length) : S.crash (List.replicate (n + 1) (-1)) = S.image := by
  have hl : S.leftN (List.replicate (n + 1) (-1)) = S.seen := by
    unfold St.leftN
    rw [pick_all (by omega), List.take_of_length_le (Nat.le_refl _)]
    exact hv.fold.symm
  unfold St.crash St.image
  rw [hl, ho]
  simp only [Bool.false_eq_true, if_false]
  refine List.ext_getElem? fun i => ?_
  rw [List.getElem?_mapIdx, List.getElem?_map]
  cases hp : S.seen[i]? with
  | none => rfl
  | some p =>
    have hi := (List.getElem?_eq_some_iff.1 hp).1
    simp only [Option.map_some]
    rw [pick_all (by omega)]
    unfold Fil.left Fil.all
    rw [List.take_of_length_le (Nat.le_refl _)]
/-- All is safe. -/
structure Sf (S : St) : Prop where
  free : Free S
  chg : S.chg = []
  safe : S.safe = S.seen
  units : ∀ p ∈ S.seen, (S.file p.2).units = []
theorem Sf.ad {S : St} (h : Sf S) : Ad S S :=
  ⟨h.free, h.safe, fun p hp => ⟨[], h.units p hp⟩, fun p hp => ⟨hp, by unfold Fil.all; rw [h.units p hp]; rfl⟩, fun j _ => by
    rw [h.chg, h.safe]; simp⟩

end Go.Proofs.Ytlpafgjgoheomaa
