import Derived.Test.YtlpafgjgoheomaaSafeP
namespace Go.Proofs.Ytlpafgjgoheomaa
open Go.RowKit Go.Maps

/-! How many bytes lie in all files together, the units too -/
def Fil.siz (f : Fil) : Nat := f.safe.length + f.units.length
def St.tot (S : St) : Nat := (S.files.map Fil.siz).sum
theorem sum_set : ∀ (l : List Nat) (i x : Nat), i < l.length → (l.set i x).sum + l.getD i 0 = l.sum + x
  | [], i, x, h => by simp at h
  | a :: l, 0, x, _ => by simp; omega
  | a :: l, i + 1, x, h => by
    have ih := sum_set l i x (by simpa using h)
    simp only [List.set_cons_succ, List.sum_cons, List.getD_cons_succ]
    omega
theorem sum_some : ∀ (is : List Nat) (l : List Nat), is.Nodup → (∀ i ∈ is, i < l.length) → (is.map fun i => l.getD i 0).sum ≤ l.sum
  | [], l, _, _ => by simp
  | i :: is, l, hn, hi => by
    obtain ⟨n1, n2⟩ := List.nodup_cons.1 hn
    have ih := sum_some is (l.set i 0) n2 (fun j hj => by simpa using hi j (List.mem_cons_of_mem _ hj))
    have e : (is.map fun j => (l.set i 0).getD j 0) = is.map fun j => l.getD j 0 := List.map_congr_left fun j hj => by
      have hne : i ≠ j := fun e => n1 (by rw [e]; exact hj)
      simp [List.getD, List.getElem?_set_ne hne]
    rw [e] at ih
    have h := sum_set l i 0 (hi i (List.mem_cons_self ..))
    rw [List.map_cons, List.sum_cons]
    omega
theorem tot_turn {S : St} {i : Nat} (hi : i < S.files.length) (f : Fil) : (S.turn i f).tot + (S.file i).siz = S.tot + f.siz := by
  have h := sum_set (S.files.map Fil.siz) i f.siz (by simpa using hi)
  have e : (S.files.map Fil.siz).getD i 0 = (S.file i).siz := by simp [List.getD, St.file_some hi]
  rw [e] at h
  unfold St.tot St.turn
  rw [List.map_set]
  exact h
theorem tot_made (S : St) (f : Fil) : (S.made f).tot = S.tot + f.siz := by simp [St.tot, St.made]
theorem siz_add (f : Fil) (b : List Nat) : (f.add b).siz = f.siz + b.length := by unfold Fil.siz Fil.add bus; simp; omega
theorem siz_cut (f : Fil) (n : Nat) : (f.cut n).siz ≤ f.siz + 1 := by unfold Fil.siz Fil.cut; split <;> simp <;> omega
theorem siz_settled (f : Fil) : f.settled.siz ≤ f.siz := by
  have := carry_len f.safe f.units
  unfold Fil.siz Fil.settled Fil.all
  simpa using this

theorem tot_append {S : St} (hv : Inv S) (x : Nm) (b : List Nat) : (S.appendR x b).2.tot ≤ S.tot + b.length + 1 := by
  unfold St.appendR
  split
  · show S.tot ≤ _; omega
  split
  · show S.tot ≤ _; omega
  split
  · show S.tot ≤ _; omega
  split
  · rename_i i hl
    have h := tot_turn (S := S.stroked) (St.seen_file hv hl) ((S.file i).add b)
    rw [siz_add, file_stroked] at h
    have e : S.stroked.tot = S.tot := rfl
    show (S.stroked.turn i ((S.file i).add b)).tot ≤ _
    omega
  · have h := tot_turn (S := (S.stroked.made ⟨[], []⟩).ren ⟨[], x, S.files.length⟩) (i := S.files.length) (by show S.files.length < (S.files ++ [_]).length; simp) ((⟨[], []⟩ : Fil).add b)
    have e2 : ((S.stroked.made ⟨[], []⟩).ren ⟨[], x, S.files.length⟩).tot = S.tot + 0 := tot_made S.stroked ⟨[], []⟩
    have e3 : (⟨[], []⟩ : Fil).siz = 0 := rfl
    rw [siz_add] at h
    show (((S.stroked.made ⟨[], []⟩).ren ⟨[], x, S.files.length⟩).turn S.files.length ((⟨[], []⟩ : Fil).add b)).tot ≤ _
    omega
theorem tot_play {S : St} (hv : Inv S) (p : Opx) : (S.play p).2.tot ≤ S.tot + p.b.length + 1 := by
  unfold St.play
  split
  · exact tot_append hv _ _
  split
  · unfold St.cutR
    split
    · show S.tot ≤ _; omega
    rename_i he
    simp only
    split
    · show S.tot ≤ _; omega
    · have hi := St.seen_file hv (look_get (by simpa using he))
      have h := tot_turn (S := S.stroked) hi ((S.file ((lookN S.seen p.name).getD 0)).cut p.n.toNat)
      have h2 := siz_cut (S.file ((lookN S.seen p.name).getD 0)) p.n.toNat
      rw [file_stroked] at h
      have e : S.stroked.tot = S.tot := rfl
      show (S.stroked.turn _ _).tot ≤ _
      omega
  split
  · unfold St.syncR
    split
    · show S.tot ≤ _; omega
    rename_i he
    simp only
    split
    · have hi := St.seen_file hv (look_get (by simpa using he))
      have h := tot_turn (S := S.stroked) hi (S.file ((lookN S.seen p.name).getD 0)).settled
      have h2 := siz_settled (S.file ((lookN S.seen p.name).getD 0))
      rw [file_stroked] at h
      have e : S.stroked.tot = S.tot := rfl
      show (S.stroked.turn _ _).tot ≤ _
      omega
    · show S.tot ≤ _; omega
  split
  · unfold St.namesR
    split
    · show S.tot ≤ _; omega
    simp only
    split
    · show S.tot ≤ _; omega
    · show S.tot ≤ _; omega
  split
  · unfold St.renameR
    split
    · show S.tot ≤ _; omega
    split
    · show S.tot ≤ _; omega
    simp only
    split
    · show S.tot ≤ _; omega
    · show S.tot ≤ _; omega
  split
  · unfold St.removeR
    split
    · show S.tot ≤ _; omega
    · show S.tot ≤ _; omega
  · show S.tot ≤ _; omega

/-! What names there have been since they were safe -/
structure Past (S : St) : Prop where
  nod : ∀ k, (((S.chg.take k).foldl withN S.safe).map (·.2)).Nodup
  most : ∀ k, ((S.chg.take k).foldl withN S.safe).length ≤ 64
def Nexts (S S' : St) : Prop := (S'.safe = S.safe ∧ (S'.chg = S.chg ∨ ∃ c, S'.chg = S.chg ++ [c])) ∨ S'.chg = []
theorem past_new (r : Nat) : Past (St.new r) := ⟨fun k => by simp [St.new], fun k => by simp [St.new]⟩
theorem Past.next {S S' : St} (h : Past S) (hv : Inv S') (hn : Nexts S S') : Past S' := by
  have key : ∀ k, (S'.chg.take k).foldl withN S'.safe = S'.seen ∨ ∃ k', (S'.chg.take k).foldl withN S'.safe = (S.chg.take k').foldl withN S.safe := by
    intro k
    rcases hn with ⟨e1, e2 | ⟨c, e2⟩⟩ | e
    · exact Or.inr ⟨k, by rw [e1, e2]⟩
    · by_cases hk : k ≤ S.chg.length
      · refine Or.inr ⟨k, ?_⟩
        rw [e1, e2, List.take_append_of_le_length hk]
      · refine Or.inl ?_
        rw [List.take_of_length_le (by rw [e2]; simp; omega)]
        exact hv.fold.symm
    · refine Or.inl ?_
      have := hv.fold
      rw [e] at this ⊢
      simpa using this.symm
  refine ⟨fun k => ?_, fun k => ?_⟩
  · rcases key k with e | ⟨k', e⟩
    · rw [e]; exact hv.nod
    · rw [e]; exact h.nod k'
  · rcases key k with e | ⟨k', e⟩
    · rw [e]; exact hv.most
    · rw [e]; exact h.most k'
theorem nexts_self (S : St) : Nexts S S := Or.inl ⟨rfl, Or.inl rfl⟩
theorem nexts_play (S : St) (p : Opx) : Nexts S (S.play p).2 := by
  unfold St.play
  split
  · unfold St.appendR
    split
    · exact nexts_self S
    split
    · exact nexts_self S
    split
    · exact Or.inl ⟨rfl, Or.inl rfl⟩
    split
    · exact Or.inl ⟨rfl, Or.inl rfl⟩
    · exact Or.inl ⟨rfl, Or.inr ⟨_, rfl⟩⟩
  split
  · unfold St.cutR
    split
    · exact nexts_self S
    simp only
    split
    · exact nexts_self S
    · exact Or.inl ⟨rfl, Or.inl rfl⟩
  split
  · unfold St.syncR
    split
    · exact nexts_self S
    simp only
    split
    · exact Or.inl ⟨rfl, Or.inl rfl⟩
    · exact Or.inl ⟨rfl, Or.inl rfl⟩
  split
  · unfold St.namesR
    split
    · exact nexts_self S
    simp only
    split
    · exact Or.inr rfl
    · exact Or.inl ⟨rfl, Or.inl rfl⟩
  split
  · unfold St.renameR
    split
    · exact nexts_self S
    split
    · exact nexts_self S
    simp only
    split
    · exact Or.inl ⟨rfl, Or.inl rfl⟩
    · exact Or.inl ⟨rfl, Or.inr ⟨_, rfl⟩⟩
  split
  · unfold St.removeR
    split
    · exact nexts_self S
    · exact Or.inl ⟨rfl, Or.inr ⟨_, rfl⟩⟩
  · exact nexts_self S

theorem crash_tot {S : St} (hv : Inv S) (hp : Past S) (ps : List Int) : ((S.crash ps).map fun p => p.2.length).sum ≤ S.tot := by
  have h1 := sum_some ((S.leftN ps).map (·.2)) (S.files.map Fil.siz) (hp.nod _) (fun i hi => by
    obtain ⟨p, hp, rfl⟩ := List.mem_map.1 hi
    simpa using (left_in hv ps p hp).1)
  have h2 : ∀ (l : List (Nm × Nat)) (g : Nat → Nm × Nat → Nm × List Nat) (s : Nm × Nat → Nat), (∀ i p, (g i p).2.length ≤ s p) → ((l.mapIdx g).map fun p => p.2.length).sum ≤ (l.map s).sum := by
    intro l
    induction l with
    | nil => intros; simp
    | cons a l ih =>
      intro g s hg
      have := ih (fun i => g (i + 1)) s (fun i p => hg (i + 1) p)
      have h0 := hg 0 a
      simp only [List.mapIdx_cons, List.map_cons, List.sum_cons]
      omega
  have h3 := h2 (S.leftN ps) (fun i p => (p.1, (S.file p.2).left (pickP ps (i + 1) (S.file p.2).units.length))) (fun p => (S.file p.2).siz) (fun i p => left_length _ _)
  refine Nat.le_trans h3 (Nat.le_trans (Nat.le_of_eq ?_) h1)
  rw [List.map_map]
  refine congrArg List.sum (List.map_congr_left fun p hp => ?_)
  have hl := (left_in hv ps p hp).1
  simp [List.getD, St.file_some hl]

/-! A disk that was loaded -/
def imgN (img : List (Nm × List Nat)) : List (Nm × Nat) := img.mapIdx fun i p => (p.1, i)
def St.laid (r : Nat) (img : List (Nm × List Nat)) : St := ⟨r, 0, 0, 0, 0, 0, false, imgN img, imgN img, [], img.map fun p => ⟨p.2, []⟩⟩
theorem laid_file (r : Nat) (img : List (Nm × List Nat)) {i : Nat} {p : Nm × List Nat} (h : img[i]? = some p) : (St.laid r img).file i = ⟨p.2, []⟩ := by
  unfold St.file St.laid
  simp [h]
theorem laid_image (r : Nat) (img : List (Nm × List Nat)) : (St.laid r img).image = img := by
  unfold St.image
  show (imgN img).map _ = _
  refine List.ext_getElem? fun i => ?_
  simp only [imgN, List.getElem?_map, List.getElem?_mapIdx]
  cases h : img[i]? with
  | none => rfl
  | some p =>
    simp only [Option.map_some]
    rw [laid_file r img h]
    rfl
theorem laid_crash (r : Nat) (img : List (Nm × List Nat)) (ps : List Int) : (St.laid r img).crash ps = img := by
  unfold St.crash St.leftN
  show List.mapIdx _ ((([] : List Chg).take _).foldl withN (imgN img)) = _
  refine List.ext_getElem? fun i => ?_
  simp only [List.take_nil, List.foldl_nil, imgN, List.getElem?_mapIdx]
  cases h : img[i]? with
  | none => rfl
  | some p =>
    simp only [Option.map_some]
    rw [laid_file r img h]
    simp [Fil.left, carryL]

end Go.Proofs.Ytlpafgjgoheomaa
