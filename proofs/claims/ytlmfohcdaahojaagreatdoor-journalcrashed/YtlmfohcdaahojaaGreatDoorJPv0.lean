import Derived.Test.YtlmfohcdaahojaaGreatDoorJAftP
import Derived.Test.YtlmfohcdaahojaaGreatDoorJWake
namespace Go.Proofs.YtlmfohcdaahojaaGreatDoor
open Go.RowKit Go.Maps

def nmo (i : Nat) : Nm := if i = 0 then [111, 110, 101] else [111, 116, 104, 101, 114]
theorem nmo_ok (i : Nat) : isNm (nmo i) = true ∧ isNm (nmo i ++ newE) = true := by unfold nmo; split <;> exact ⟨by kernel_rfl, by kernel_rfl⟩
theorem nmo_ne : nmo 0 ≠ nmo 1 := by decide
theorem nmo_new (i j : Nat) : nmo i ++ newE ≠ nmo j := by
  intro e
  have := congrArg List.length e
  rw [List.length_append] at this
  unfold nmo newE at this
  split at this <;> split at this <;> simp at this
def up {α : Type} (f : Nat → α) (i : Nat) (x : α) : Nat → α := fun j => if j = i then x else f j
theorem up_at {α : Type} (f : Nat → α) (i : Nat) (x : α) : up f i x i = x := by unfold up; rw [if_pos rfl]
theorem up_ne {α : Type} (f : Nat → α) {i j : Nat} (x : α) (h : j ≠ i) : up f i x j = f j := by unfold up; rw [if_neg h]
/-- THE DISK AND ITS TWO JOURNALS, as data. -/
structure Pd (S : St) (J : Nat → Jr) (l : Nat → List (List (List Nat))) (n : Nat → Nat) (c : Nat) : Prop where
  stl : Stl S (20971525 * c)
  jd : ∀ i, i < 2 → Jb S (J i) (n i) (l i)
  nm : ∀ i, i < 2 → (J i).name = nmo i
  used : S.used ≤ 4025 * c
  room : S.room = 262144
  pf : S.pFrom = 0
  vis : ∀ y, S.v y ≠ none → y = nmo 0 ∨ y = nmo 1
  cnt : ∀ i, i < 2 → n i + (l i).length ≤ c + 1
  emp : ∀ i, i < 2 → l i = [] → n i = 1
theorem Pd.step {S : St} {J : Nat → Jr} {l : Nat → List (List (List Nat))} {n : Nat → Nat} {c : Nat} (h : Pd S J l n c) (hc : c < 20) {i : Nat} (hi : i < 2) (b : Bool) (ps : List (List Nat)) (hf : fitsB ps = true) (hsm : ∀ p ∈ ps, ∀ x ∈ p, x < 256) :
    ∃ S' J', callR b S (J i) ps = (0, S', J') ∧ Pd S' (up J i J') (up l i (lAf b (l i) ps)) (up n i (nAf b (n i) (l i))) (c + 1) := by
  have hb := h.jd i hi
  have hcn := h.cnt i hi
  have hseen : S.seen.length < 64 := Nat.lt_of_le_of_lt (seen_le h.stl.inv [nmo 0, nmo 1] (fun y hy => by rcases h.vis y hy with e | e <;> simp [e])) (by simp)
  have hus := h.used
  have hro := h.room
  obtain ⟨S', J', h1, h2, h3, h4, h5, h6, h7, h8⟩ := call_heal b h.stl hb ps hf hsm hseen (by omega) (by omega) h.pf
  refine ⟨S', J', h1, ⟨by rw [show 20971525 * (c + 1) = 20971525 * c + 20971525 by omega]; exact h2, fun j hj => ?_, fun j hj => ?_, by omega, h6.trans hro, h7.trans h.pf, fun y hy => ?_, fun j hj => ?_, fun j hj he => ?_⟩⟩
  · by_cases e : j = i
    · subst e; rw [up_at, up_at, up_at]; exact h3
    · rw [up_ne _ _ e, up_ne _ _ e, up_ne _ _ e]
      have hj' := h.jd j hj
      have hne : (J j).name ≠ (J i).name := by
        rw [h.nm j hj, h.nm i hi]
        have : (j = 0 ∧ i = 1) ∨ (j = 1 ∧ i = 0) := by omega
        rcases this with ⟨e1, e2⟩ | ⟨e1, e2⟩ <;> subst e1 e2
        · exact nmo_ne
        · exact nmo_ne.symm
      have hne2 : (J j).second ≠ (J i).name := by
        unfold Jr.second
        rw [h.nm j hj, h.nm i hi]
        exact nmo_new j i
      exact ⟨hj'.d.other (h4 _ hne) (h4 _ hne2), hj'.recs, hj'.trns, hj'.last, hj'.torn, hj'.pos⟩
  · by_cases e : j = i
    · subst e; rw [up_at, h8]; exact h.nm j hj
    · rw [up_ne _ _ e]; exact h.nm j hj
  · by_cases e : y = (J i).name
    · have hi2 : i = 0 ∨ i = 1 := by omega
      rw [e, h.nm i hi]
      rcases hi2 with e' | e' <;> subst e'
      · exact Or.inl rfl
      · exact Or.inr rfl
    · exact h.vis y (by rw [← h4 y e]; exact hy)
  · by_cases e : j = i
    · subst e
      rw [up_at, up_at]
      unfold lAf nAf
      cases b
      · simp; omega
      · simp; omega
    · rw [up_ne _ _ e, up_ne _ _ e]
      have := h.cnt j hj
      omega
  · by_cases e : j = i
    · subst e
      rw [up_at] at he
      unfold lAf at he
      cases b <;> simp at he
    · rw [up_ne _ _ e] at he ⊢
      exact h.emp j hj he
theorem new_pd : Pd (St.new 262144) (fun i => jnew (nmo i) ([], 0, false, 0)) (fun _ => []) (fun _ => 1) 0 := by
  refine ⟨new_stl (by omega), fun i _ => ⟨⟨(nmo_ok i).1, (nmo_ok i).2, rfl, rfl, rfl, fun h => by cases h⟩, rfl, True.intro, rfl, rfl, Nat.le_refl _⟩, fun i _ => rfl, Nat.le_refl _, rfl, rfl, fun y hy => absurd rfl hy, fun i _ => by simp, fun i _ _ => rfl⟩
/-- Behind a crash. -/
theorem Pd.found {S : St} {J : Nat → Jr} {l : Nat → List (List (List Nat))} {n : Nat → Nat} {c : Nat} (h : Pd S J l n c) {i : Nat} (hi : i < 2) : (St.laid 262144 S.image).found (nmo i) = (recsOf (n i) (l i), if l i = [] then 0 else n i + (l i).length - 1, false, 0) := by
  have hb := h.jd i hi
  refine found_recsN rfl (nmo_ok i).1 hb.trns ?_
  rw [laid_v h.stl.on.off, ← h.nm i hi, hb.d.byt, hb.recs]

end Go.Proofs.YtlmfohcdaahojaaGreatDoor
namespace Go.Proofs.YtlmfohcdaahojaaGreatDoor
open Go.RowKit Go.Maps

/-- The records of a journal. -/
theorem trns_lens : ∀ {l : List (List (List Nat))} {n : Nat}, Trns n l → ∀ r ∈ recsOf n l, 25 ≤ r.length ∧ r.length ≤ 4194304
  | [], _, _, r, hr => by cases hr
  | t :: l, n, h, r, hr => by
    simp only [recsOf, List.mem_cons] at hr
    rcases hr with e | e
    · subst e
      have h1 := recOk_len h.1.ok
      have h2 := recB_len n t
      have h3 := bodyB_len n t
      exact ⟨by omega, h1⟩
    · exact trns_lens h.2 r e
theorem recs_length : ∀ (l : List (List (List Nat))) (n : Nat), (recsOf n l).length = l.length
  | [], _ => rfl
  | t :: l, n => by simp [recsOf, recs_length l (n + 1)]
theorem trns_few : ∀ {l : List (List (List Nat))} {n : Nat}, Trns n l → ∀ ps ∈ l, ps.length ≤ 4096 ∧ ∀ p ∈ ps, p.length ≤ 140737488351232
  | [], _, _, ps, hp => by cases hp
  | t :: l, n, h, ps, hp => by
    rcases List.mem_cons.1 hp with e | e
    · subst e
      have ho := h.1.ok
      unfold recOk at ho
      simp only [Bool.and_eq_true, decide_eq_true_eq] at ho
      exact ⟨ho.1.1, fun p hq => Nat.le_trans (part_fits n ps ho.2 p hq) (by omega)⟩
    · exact trns_few h.2 ps e

end Go.Proofs.YtlmfohcdaahojaaGreatDoor
