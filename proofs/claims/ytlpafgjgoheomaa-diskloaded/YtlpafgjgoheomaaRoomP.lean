import Derived.Test.YtlpafgjgoheomaaFew
namespace Go.Proofs.Ytlpafgjgoheomaa
open Go.RowKit Go.Maps

theorem image_find {S : St} (ho : S.off = false) (x : Nm) : imgFind S.image x = (lookN S.seen x).map fun i => (S.file i).all := by
  unfold imgFind St.image lookN
  rw [if_neg (by simp [ho]), List.find?_map]
  simp [Function.comp_def, Option.map_map]
/-- No plan. -/
structure Free (S : St) : Prop where
  off : S.off = false
  pOff : S.pOff = 0
  pFrom : S.pFrom = 0
theorem Free.power {S : St} (h : Free S) : S.power = 0 := by unfold St.power; rw [h.pOff, if_neg (by omega)]
theorem Free.stroked {S : St} (h : Free S) : Free S.stroked := ⟨by show (S.off || decide (((S.planned + 1 : Nat) : Int) = S.pOff)) = false; rw [h.off, h.pOff]; simp; omega, h.pOff, h.pFrom⟩
theorem Free.full {S : St} (h : Free S) (m : Nat) : S.full m = decide (S.room < m + S.used) := by
  unfold St.full St.fullP; rw [h.pFrom]; simp
theorem free_new (r : Nat) : Free (St.new r) := ⟨rfl, rfl, rfl⟩
theorem Free.play {S : St} (h : Free S) (p : Opx) : Free (S.play p).2 := by
  have hs := h.stroked
  unfold St.play
  split
  · unfold St.appendR
    split
    · exact h
    split
    · exact h
    split
    · exact hs
    split
    · exact ⟨hs.off, hs.pOff, hs.pFrom⟩
    · exact ⟨hs.off, hs.pOff, hs.pFrom⟩
  split
  · unfold St.cutR
    split
    · exact h
    simp only
    split
    · exact h
    · exact ⟨hs.off, hs.pOff, hs.pFrom⟩
  split
  · unfold St.syncR
    split
    · exact h
    simp only
    split
    · exact ⟨hs.off, hs.pOff, hs.pFrom⟩
    · exact hs
  split
  · unfold St.namesR
    split
    · exact h
    simp only
    split
    · exact ⟨hs.off, hs.pOff, hs.pFrom⟩
    · exact hs
  split
  · unfold St.renameR
    split
    · exact h
    split
    · exact h
    simp only
    split
    · exact hs
    · exact ⟨hs.off, hs.pOff, hs.pFrom⟩
  split
  · unfold St.removeR
    split
    · exact h
    · exact ⟨hs.off, hs.pOff, hs.pFrom⟩
  · exact h

theorem put_look {l : List (Nm × Nat)} (h : Srt l) {x : Nm} {n : Nat} (hx : x ≠ []) : lookN (withN l ⟨[], x, n⟩) x = some n := by
  refine (look_mem (h.withN _)).2 ?_
  unfold withN
  rw [if_neg hx]
  exact mem_put.2 (Or.inl rfl)
/-- What an append with no plan tells and leaves. -/
theorem app_tells {S : St} (hv : Inv S) (hf : Free S) (x : Nm) (b : List Nat) :
    ((S.appendR x b).1 = 0 → b.length + S.used ≤ S.room ∧ imgFind (S.appendR x b).2.image x = some ((tells (imgFind S.image x)).1 ++ b)) ∧
    ((S.appendR x b).1 = 44 → ¬ b.length + S.used ≤ S.room ∧ (S.appendR x b).2.image = S.image) ∧ ((S.appendR x b).1 = 0 ∨ (S.appendR x b).1 = 44 ∨ (S.appendR x b).1 = 41) := by
  have ho := hf.off
  have hs := hf.stroked
  have hp := hf.power
  unfold St.appendR
  rw [if_neg (by simp [ho])]
  split
  · exact ⟨fun h => (by simp at h), fun h => (by simp at h), Or.inr (Or.inr rfl)⟩
  rename_i hn
  rw [hs.full, hp]
  have e1 : S.stroked.room = S.room := rfl
  rw [e1, used_stroked]
  split
  · rename_i hr
    simp only [decide_eq_true_eq] at hr
    refine ⟨fun h => (by simp at h), fun _ => ⟨by omega, ?_⟩, Or.inr (Or.inl rfl)⟩
    show S.stroked.image = S.image
    unfold St.image
    rw [hs.off, ho]; rfl
  · rename_i hr
    simp only [decide_eq_true_eq] at hr
    have hnm : isNm x = true := by
      cases h : isNm x
      · exact absurd (Or.inl h) hn
      · rfl
    have hx0 : x ≠ [] := by rintro rfl; have := (nm_len hnm).1; simp at this
    rw [image_find ho]
    cases hl : lookN S.seen x with
    | some i =>
      have hi := S.seen_file hv hl
      refine ⟨fun _ => ⟨by omega, ?_⟩, fun h => (by simp at h), Or.inl rfl⟩
      have ho2 : (S.stroked.turn i ((S.file i).add b)).off = false := hs.off
      rw [image_find ho2]
      show Option.map _ (lookN S.seen x) = _
      rw [hl]
      simp only [Option.map_some]
      rw [St.turn_file (S := S.stroked) hi, if_pos rfl, Fil.all_add]
      rfl
    | none =>
      refine ⟨fun _ => ⟨by omega, ?_⟩, fun h => (by simp at h), Or.inl rfl⟩
      have ho2 : (((S.stroked.made ⟨[], []⟩).ren ⟨[], x, S.files.length⟩).turn S.files.length ((⟨[], []⟩ : Fil).add b)).off = false := hs.off
      rw [image_find ho2]
      show Option.map _ (lookN (withN S.seen ⟨[], x, S.files.length⟩) x) = _
      rw [put_look hv.srt hx0]
      simp only [Option.map_some]
      rw [St.turn_file (by show S.files.length < (S.files ++ [_]).length; simp), if_pos rfl, Fil.all_add]
      rfl
theorem image_used {S : St} (ho : S.off = false) : (S.image.map fun p => p.2.length).sum = S.used := by
  unfold St.image St.used
  rw [if_neg (by simp [ho]), List.map_map]
  rfl

end Go.Proofs.Ytlpafgjgoheomaa
