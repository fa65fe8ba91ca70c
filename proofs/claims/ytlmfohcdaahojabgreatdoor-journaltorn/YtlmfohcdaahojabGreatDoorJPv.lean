import Derived.Test.YtlmfohcdaahojabGreatDoorJPq
namespace Go.Proofs.YtlmfohcdaahojabGreatDoor
open Go.RowKit Go.Maps

structure Pv (W wr : World) (K : Knd) (d ja ba na xa : Nat) (S : St) (jb : Nat → Nat) (J : Nat → Jr) (v : Nat → Value) (lb : Nat → List (List (List Nat))) (nx : Nat → Nat) (bx : Obj) : Prop where
  bel : Below W.heap.size W wr
  old : ∀ b, b < W.heap.size + 1 → K b = (0, 0)
  box : wr.heap[W.heap.size]? = some bx
  disk : Dk wr K 1 d S
  js : ∀ i, i < 2 → Jk wr K (2 + i) d (jb i) (J i)
  hja : wr.heap[ja]? = some (.cells #[.pointer (some ⟨jb 0, 0, none⟩), .pointer (some ⟨jb 1, 0, none⟩)] 70 (0, 0))
  kja : K ja = (4, 0)
  hba : wr.heap[ba]? = some (.cells #[v 0, v 1] 71 (0, 0))
  kba : K ba = (4, 1)
  hna : wr.heap[na]? = some (.cells #[.int .u64 (nx 0 : Int), .int .u64 (nx 1 : Int)] 73 (0, 0))
  kna : K na = (4, 2)
  hxa : wr.heap[xa]? = some (.cells #[.string ⟨(nmo 0).toArray⟩, .string ⟨(nmo 1).toArray⟩] 74 (0, 0))
  kxa : K xa = (4, 3)
  bk : ∀ i, i < 2 → ∃ vs, Bok W wr K (v i) (lb i) vs
section
variable {W wr w' : World} {K K' : Knd} {d ja ba na xa : Nat} {S S' : St} {jb : Nat → Nat} {J : Nat → Jr} {v : Nat → Value} {lb : Nat → List (List (List Nat))} {nx : Nat → Nat} {bx : Obj}
theorem Pv.turned (h : Pv W wr K d ja ba na xa S jb J v lb nx bx) {p : Nat × Nat → Prop} (hk : Kp p K K' wr w') (h0 : ¬ p (0, 0)) (h4 : ∀ q, ¬ p (4, q)) {J' : Nat → Jr} (hd : Dk w' K' 1 d S') (hj : ∀ i, i < 2 → Jk w' K' (2 + i) d (jb i) (J' i)) : Pv W w' K' d ja ba na xa S' jb J' v lb nx bx := by
  have lb' := lt_of_block h.box
  have f : ∀ {b : Nat} {c : Array Value} {t : TypeId} {q : Nat}, wr.heap[b]? = some (.cells c t (0, 0)) → K b = (4, q) → w'.heap[b]? = some (.cells c t (0, 0)) ∧ K' b = (4, q) := fun {b c t q} e hb => ⟨(hk.block b (lt_of_block e) (by rw [hb]; exact h4 q)).trans e, (hk.same b (lt_of_block e)).trans hb⟩
  refine ⟨hk.below h.bel (fun b hb => by rw [h.old b (by omega)]; exact h0), fun b hb => (hk.same b (by omega)).trans (h.old b hb), (hk.block _ lb' (by rw [h.old _ (by omega)]; exact h0)).trans h.box, hd, hj, (f h.hja h.kja).1, (f h.hja h.kja).2, (f h.hba h.kba).1, (f h.hba h.kba).2, (f h.hna h.kna).1, (f h.hna h.kna).2, (f h.hxa h.kxa).1, (f h.hxa h.kxa).2, fun i hi => ?_⟩
  obtain ⟨vs, hv⟩ := h.bk i hi
  exact ⟨vs, hv.kept hk h0⟩
theorem Pv.below (h : Pv W wr K d ja ba na xa S jb J v lb nx bx) (hb : Below wr.heap.size wr w') : Pv W w' (ext K wr.heap.size (0, 0)) d ja ba na xa S jb J v lb nx bx :=
  have hk := kp_below hb (fun _ => False) K (0, 0)
  h.turned hk (fun h => h) (fun _ h => h) (h.disk.kept hk (fun _ h => h)) (fun i hi => (h.js i hi).kept hk (fun _ h => h))
theorem Pv.ran (h : Pv W wr K d ja ba na xa S jb J v lb nx bx) {i : Nat} (hi : i < 2) (hk : Kp (Pk 1 (2 + i)) K K' wr w') (hd : Dk w' K' 1 d S') {Ji : Jr} (hj : Jk w' K' (2 + i) d (jb i) Ji) : Pv W w' K' d ja ba na xa S' jb (up J i Ji) v lb nx bx := by
  have no : ∀ a q, a ≠ 1 → a ≠ 2 + i → ¬ Pk 1 (2 + i) (a, q) := fun a q h1 h2 => by
    rintro (e | e | e)
    · exact h1 e
    · exact h2 (congrArg Prod.fst e)
    · exact h2 (congrArg Prod.fst e)
  refine h.turned hk (no 0 0 (by omega) (by omega)) (fun q => no 4 q (by omega) (by omega)) hd (fun j hj2 => ?_)
  by_cases e : j = i
  · subst e; rw [up_at]; exact hj
  · rw [up_ne _ _ e]
    exact (h.js j hj2).kept hk (fun q => no _ q (by omega) (by omega))
theorem up_two {α : Type} (f : Nat → α) {i : Nat} (hi : i < 2) (x : α) (g : α → Value) : (#[g (f 0), g (f 1)] : Array Value).setIfInBounds i (g x) = #[g (up f i x 0), g (up f i x 1)] := by
  have : i = 0 ∨ i = 1 := by omega
  rcases this with e | e <;> subst e <;> rfl
theorem Pv.booked (h : Pv W wr K d ja ba na xa S jb J v lb nx bx) {i : Nat} (hi : i < 2) {v' : Value} {l' : List (List (List Nat))} {vs' : List Value} (hb : Bok W wr K v' l' vs') : Pv W (wr.setCell ⟨ba, i, none⟩ v') K d ja ba na xa S jb J (up v i v') (up lb i l') nx bx := by
  have hk : Kp (fun q => q = (4, 1)) K K wr (wr.setCell ⟨ba, i, none⟩ v') := (Kp.refl (fun q => q = (4, 1)) K wr).setCell (Or.inr h.kba) _ _
  have no : ∀ a q, a ≠ 4 → ¬ ((a, q) : Nat × Nat) = (4, 1) := fun a q h1 e => h1 (congrArg Prod.fst e)
  have n4 : ∀ {b : Nat} {q : Nat}, K b = (4, q) → q ≠ 1 → b ≠ ba := fun {b q} e hq e2 => by rw [e2, h.kba] at e; exact hq (congrArg Prod.snd e).symm
  have f : ∀ {b : Nat} {c : Array Value} {t : TypeId} {q : Nat}, wr.heap[b]? = some (.cells c t (0, 0)) → K b = (4, q) → q ≠ 1 → (wr.setCell ⟨ba, i, none⟩ v').heap[b]? = some (.cells c t (0, 0)) := fun {b c t q} e hb hq => (Below.heap_setCell _ _ _ _ (n4 hb hq)).trans e
  have lb' := lt_of_block h.box
  refine ⟨hk.below h.bel (fun b hb => by rw [h.old b (by omega)]; exact no _ _ (by omega)), h.old, (hk.block _ lb' (by rw [h.old _ (by omega)]; exact no _ _ (by omega))).trans h.box, h.disk.kept hk (fun q => no _ q (by omega)), fun j hj => (h.js j hj).kept hk (fun q => no _ q (by omega)), f h.hja h.kja (by omega), h.kja, ?_, h.kba, f h.hna h.kna (by omega), h.kna, f h.hxa h.kxa (by omega), h.kxa, fun j hj => ?_⟩
  · rw [block_set h.hba, up_two v hi v' (fun x => x)]
  · by_cases e : j = i
    · subst e; rw [up_at, up_at]; exact ⟨vs', hb.kept hk (no _ _ (by omega))⟩
    · rw [up_ne _ _ e, up_ne _ _ e]
      obtain ⟨vs, hv⟩ := h.bk j hj
      exact ⟨vs, hv.kept hk (no _ _ (by omega))⟩
theorem Pv.nexted (h : Pv W wr K d ja ba na xa S jb J v lb nx bx) {i : Nat} (hi : i < 2) (m : Nat) : Pv W (wr.setCell ⟨na, i, none⟩ (.int .u64 (m : Int))) K d ja ba na xa S jb J v lb (up nx i m) bx := by
  have hk : Kp (fun q => q = (4, 2)) K K wr (wr.setCell ⟨na, i, none⟩ (.int .u64 (m : Int))) := (Kp.refl (fun q => q = (4, 2)) K wr).setCell (Or.inr h.kna) _ _
  have no : ∀ a q, a ≠ 4 → ¬ ((a, q) : Nat × Nat) = (4, 2) := fun a q h1 e => h1 (congrArg Prod.fst e)
  have n4 : ∀ {b : Nat} {q : Nat}, K b = (4, q) → q ≠ 2 → b ≠ na := fun {b q} e hq e2 => by rw [e2, h.kna] at e; exact hq (congrArg Prod.snd e).symm
  have f : ∀ {b : Nat} {c : Array Value} {t : TypeId} {q : Nat}, wr.heap[b]? = some (.cells c t (0, 0)) → K b = (4, q) → q ≠ 2 → (wr.setCell ⟨na, i, none⟩ (.int .u64 (m : Int))).heap[b]? = some (.cells c t (0, 0)) := fun {b c t q} e hb hq => (Below.heap_setCell _ _ _ _ (n4 hb hq)).trans e
  have lb' := lt_of_block h.box
  refine ⟨hk.below h.bel (fun b hb => by rw [h.old b (by omega)]; exact no _ _ (by omega)), h.old, (hk.block _ lb' (by rw [h.old _ (by omega)]; exact no _ _ (by omega))).trans h.box, h.disk.kept hk (fun q => no _ q (by omega)), fun j hj => (h.js j hj).kept hk (fun q => no _ q (by omega)), f h.hja h.kja (by omega), h.kja, f h.hba h.kba (by omega), h.kba, ?_, h.kna, f h.hxa h.kxa (by omega), h.kxa, fun j hj => ?_⟩
  · rw [block_set h.hna, up_two nx hi m (fun x => .int .u64 (x : Int))]
  · obtain ⟨vs, hv⟩ := h.bk j hj
    exact ⟨vs, hv.kept hk (no _ _ (by omega))⟩
theorem two_at {c0 c1 : Value} {b : Nat} {t : TypeId} (h : wr.heap[b]? = some (.cells #[c0, c1] t (0, 0))) {α : Type} (f : Nat → α) (g : α → Value) (e0 : c0 = g (f 0)) (e1 : c1 = g (f 1)) {i : Nat} (hi : i < 2) : wr.cell? ⟨b, i, none⟩ = some (g (f i)) ∧ (∀ o, wr.frozen? ⟨b, o, none⟩ = false) := by
  have : i = 0 ∨ i = 1 := by omega
  rcases this with e | e <;> subst e <;> exact ⟨by simp [World.cell?, h, e0, e1], fun o => by simp [World.frozen?, h]⟩
theorem Pv.cells (h : Pv W wr K d ja ba na xa S jb J v lb nx bx) {i : Nat} (hi : i < 2) : wr.cell? ⟨ja, i, none⟩ = some (.pointer (some ⟨jb i, 0, none⟩)) ∧ wr.cell? ⟨ba, i, none⟩ = some (v i) ∧ wr.cell? ⟨na, i, none⟩ = some (.int .u64 (nx i : Int)) ∧ wr.cell? ⟨xa, i, none⟩ = some (.string ⟨(nmo i).toArray⟩) ∧ (∀ o, wr.frozen? ⟨ja, o, none⟩ = false) ∧ (∀ o, wr.frozen? ⟨ba, o, none⟩ = false) ∧ (∀ o, wr.frozen? ⟨na, o, none⟩ = false) ∧ ja < wr.heap.size ∧ ba < wr.heap.size ∧ na < wr.heap.size ∧ xa < wr.heap.size :=
  ⟨(two_at h.hja jb (fun x => .pointer (some ⟨x, 0, none⟩)) rfl rfl hi).1, (two_at h.hba v (fun x => x) rfl rfl hi).1, (two_at h.hna nx (fun x => .int .u64 (x : Int)) rfl rfl hi).1, (two_at h.hxa nmo (fun x => .string ⟨x.toArray⟩) rfl rfl hi).1, (two_at h.hja jb (fun x => .pointer (some ⟨x, 0, none⟩)) rfl rfl hi).2, (two_at h.hba v (fun x => x) rfl rfl hi).2, (two_at h.hna nx (fun x => .int .u64 (x : Int)) rfl rfl hi).2, lt_of_block h.hja, lt_of_block h.hba, lt_of_block h.hna, lt_of_block h.hxa⟩
end
/-- The records of a journal. -/
theorem trns_lens : ∀ {l : List (List (List Nat))} {n : Nat}, Trns n l → ∀ r ∈ recsOf n l, 25 ≤ r.length ∧ r.length ≤ 4194304
  | [], _, _, r, hr => by cases hr
  | t :: l, n, h, r, hr => by
    simp only [recsOf, List.mem_cons] at hr
    rcases hr with e | e
    · subst e
      have h1 := recOk_len h.1.ok
      have h2 := recB_len n t
      have h3 := bodyB_len n t
      exact ⟨by omega, h1⟩
    · exact trns_lens h.2 r e
theorem recs_length : ∀ (l : List (List (List Nat))) (n : Nat), (recsOf n l).length = l.length
  | [], _ => rfl
  | t :: l, n => by simp [recsOf, recs_length l (n + 1)]
theorem trns_few : ∀ {l : List (List (List Nat))} {n : Nat}, Trns n l → ∀ ps ∈ l, ps.length ≤ 4096 ∧ ∀ p ∈ ps, p.length ≤ 140737488351232
  | [], _, _, ps, hp => by cases hp
  | t :: l, n, h, ps, hp => by
    rcases List.mem_cons.1 hp with e | e
    · subst e
      have ho := h.1.ok
      unfold recOk at ho
      simp only [Bool.and_eq_true, decide_eq_true_eq] at ho
      exact ⟨ho.1.1, fun p hq => Nat.le_trans (part_fits n ps ho.2 p hq) (by omega)⟩
    · exact trns_few h.2 ps e

end Go.Proofs.YtlmfohcdaahojabGreatDoor
