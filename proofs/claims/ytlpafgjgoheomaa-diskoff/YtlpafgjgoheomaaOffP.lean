import Derived.Test.YtlpafgjgoheomaaFullP
namespace Go.Proofs.Ytlpafgjgoheomaa
open Go.RowKit Go.Maps

/-- The same files, and the power is off. -/
def St.dead (S : St) (r s n : Nat) (a b c : Int) : St := { S.set r s n a b c with off := true }
theorem stroked_dead {S : St} (hp : S.power = 45) : S.stroked = S.dead S.room (S.strokes + 1) (S.planned + 1) S.pOff S.pFrom S.pTo := by
  have hd : decide (((S.planned + 1 : Nat) : Int) = S.pOff) = true := by
    unfold St.power at hp
    split at hp
    · rename_i hn; simpa using hn
    · cases hp
  unfold St.stroked St.dead St.set
  rw [hd, Bool.or_true]
theorem play_dead (S : St) (r s n : Nat) (a b c : Int) (p : Opx) (h1 : S.off = false) (hp : S.power = 0) (hq : (S.set r s n a b c).power = 45) (hk : 1 ≤ p.kind ∧ p.kind ≤ 6)
    (hf : p.kind = 1 → ¬ (isNm p.name = false ∨ (lookN S.seen p.name = none ∧ 64 ≤ S.seen.length)) → (S.set r s n a b c).stroked.full p.b.length = S.stroked.full p.b.length) :
    (cnt (S.play p).1 = 0 → (S.set r s n a b c).play p = ((S.play p).1, S.set r s n a b c) ∧ (S.play p).2 = S) ∧
    (cnt (S.play p).1 = 1 → (S.set r s n a b c).play p = (45, (if p.kind = 3 ∨ p.kind = 4 then S else (S.play p).2).dead r (s + 1) (n + 1) a b c)) := by
  have e1 := stroked_set h1 hp
  have e2 : (S.set r s n a b c).stroked = S.dead r (s + 1) (n + 1) a b c := (stroked_dead hq).trans rfl
  have ho : (S.set r s n a b c).off = false := rfl
  have he : ∀ x, (S.set r s n a b c).err x = S.err x := fun x => by unfold St.err; rw [ho, h1]; rfl
  have hself : ∀ (e : Nat) (X : Nat × St), cnt e = 0 → (cnt (e, S).1 = 0 → (e, S.set r s n a b c) = ((e, S).1, S.set r s n a b c) ∧ (e, S).2 = S) ∧ (cnt (e, S).1 = 1 → (e, S.set r s n a b c) = X) := fun e X h =>
    ⟨fun _ => ⟨rfl, rfl⟩, fun h2 => by simp only [h] at h2; cases h2⟩
  have hec : ∀ x, S.err x ≠ 0 → cnt (S.err x) = 0 := fun x h => by
    unfold St.err at h ⊢
    rw [h1] at h ⊢
    simp only [Bool.false_eq_true, if_false] at h ⊢
    split
    · rename_i h2
      rw [if_pos h2] at h
      split
      · rfl
      · rename_i h3; rw [if_neg h3] at h; exact absurd rfl h
    · rfl
  unfold St.play
  by_cases k1 : p.kind = 1
  · rw [if_pos k1, if_pos k1, if_neg (show ¬ (p.kind = 3 ∨ p.kind = 4) by omega)]
    have hf1 := hf k1
    unfold St.appendR
    rw [hp, hq, ho, h1]
    simp only [Bool.false_eq_true, if_false]
    by_cases c1 : isNm p.name = false ∨ (lookN S.seen p.name = none ∧ 64 ≤ S.seen.length)
    · rw [if_pos c1, if_pos (show isNm p.name = false ∨ (lookN (S.set r s n a b c).seen p.name = none ∧ 64 ≤ (S.set r s n a b c).seen.length) from c1)]
      exact hself 41 _ rfl
    · rw [if_neg c1, if_neg (show ¬ (isNm p.name = false ∨ (lookN (S.set r s n a b c).seen p.name = none ∧ 64 ≤ (S.set r s n a b c).seen.length)) from c1), hf1 c1]
      by_cases c2 : S.stroked.full p.b.length = true
      · rw [if_pos c2, if_pos c2, e1, e2]; exact ⟨fun h => (by cases h), fun _ => rfl⟩
      · rw [if_neg c2, if_neg c2, e1, e2]
        show (_ → (match lookN S.seen p.name with | some i => _ | none => _) = _ ∧ _) ∧ (_ → (match lookN S.seen p.name with | some i => _ | none => _) = _)
        cases lookN S.seen p.name <;> exact ⟨fun h => (by cases h), fun _ => rfl⟩
  rw [if_neg k1, if_neg k1]
  by_cases k2 : p.kind = 2
  · rw [if_pos k2, if_pos k2, if_neg (show ¬ (p.kind = 3 ∨ p.kind = 4) by omega)]
    unfold St.cutR
    rw [hp, hq, he, e1, e2]
    by_cases c1 : S.err p.name ≠ 0
    · rw [if_pos c1, if_pos c1]; exact hself _ _ (hec _ c1)
    · rw [if_neg c1, if_neg c1]
      simp only
      by_cases c2 : p.n < 0 ∨ ((S.file ((lookN S.seen p.name).getD 0)).all.length : Int) < p.n
      · rw [if_pos c2, if_pos (show p.n < 0 ∨ (((S.set r s n a b c).file ((lookN (S.set r s n a b c).seen p.name).getD 0)).all.length : Int) < p.n from c2)]
        exact hself 43 _ rfl
      · rw [if_neg c2, if_neg (show ¬ (p.n < 0 ∨ (((S.set r s n a b c).file ((lookN (S.set r s n a b c).seen p.name).getD 0)).all.length : Int) < p.n) from c2)]
        exact ⟨fun h => (by cases h), fun _ => rfl⟩
  rw [if_neg k2, if_neg k2]
  by_cases k3 : p.kind = 3
  · rw [if_pos k3, if_pos k3, if_pos (show p.kind = 3 ∨ p.kind = 4 from Or.inl k3)]
    unfold St.syncR
    rw [hp, hq, he, e1, e2]
    by_cases c1 : S.err p.name ≠ 0
    · rw [if_pos c1, if_pos c1]; exact hself _ _ (hec _ c1)
    · rw [if_neg c1, if_neg c1]; exact ⟨fun h => (by cases h), fun _ => rfl⟩
  rw [if_neg k3, if_neg k3]
  by_cases k4 : p.kind = 4
  · rw [if_pos k4, if_pos k4, if_pos (show p.kind = 3 ∨ p.kind = 4 from Or.inr k4)]
    unfold St.namesR
    rw [hp, hq, ho, h1, e1, e2]
    simp only [Bool.false_eq_true, if_false]
    exact ⟨fun h => (by cases h), fun _ => rfl⟩
  rw [if_neg k4, if_neg k4, if_neg (show ¬ (p.kind = 3 ∨ p.kind = 4) by omega)]
  by_cases k5 : p.kind = 5
  · rw [if_pos k5, if_pos k5]
    unfold St.renameR
    rw [hp, hq, he, e1, e2]
    by_cases c0 : S.err p.name ≠ 45 ∧ isNm p.to = false
    · rw [if_pos c0, if_pos c0]; exact hself 41 _ rfl
    rw [if_neg c0, if_neg c0]
    by_cases c1 : S.err p.name ≠ 0
    · rw [if_pos c1, if_pos c1]; exact hself _ _ (hec _ c1)
    · rw [if_neg c1, if_neg c1]
      simp only
      by_cases c2 : p.name = p.to
      · rw [if_pos c2, if_pos c2]; exact ⟨fun h => (by cases h), fun _ => rfl⟩
      · rw [if_neg c2, if_neg c2]; exact ⟨fun h => (by cases h), fun _ => rfl⟩
  rw [if_neg k5, if_neg k5]
  have k6 : p.kind = 6 := by omega
  rw [if_pos k6, if_pos k6]
  unfold St.removeR
  rw [hp, hq, he, e1, e2]
  by_cases c1 : S.err p.name ≠ 0
  · rw [if_pos c1, if_pos c1]; exact hself _ _ (hec _ c1)
  · rw [if_neg c1, if_neg c1]; exact ⟨fun h => (by cases h), fun _ => rfl⟩

/-- A disk with no plan, and one of the same files whose power goes off at stroke m. -/
structure To (A B : St) (m n : Nat) : Prop where
  off : A.off = false
  pOff : A.pOff = 0
  pFrom : A.pFrom = 0
  lt : n < m
  eq : B = A.set A.room n n (m : Int) 0 0
theorem To.powA {A B : St} {m n : Nat} (h : To A B m n) : A.power = 0 := by unfold St.power; rw [h.pOff, if_neg (by omega)]
theorem To.crash {A B : St} {m n : Nat} (h : To A B m n) (ps : List Int) : B.crash ps = A.crash ps := by rw [h.eq]; rfl
theorem To.image {A B : St} {m n : Nat} (h : To A B m n) : B.image = A.image := by rw [h.eq]; unfold St.image; rw [h.off]; rfl
theorem full_free {A : St} {r s n : Nat} {a : Int} (h0 : A.pFrom = 0) (_h1 : (A.set r s n a 0 0).room = A.room) (m : Nat) (hs : (A.set r s n a 0 0).stroked.room = A.room ∧ (A.set r s n a 0 0).stroked.used = A.used ∧ (A.set r s n a 0 0).stroked.pFrom = 0) : (A.set r s n a 0 0).stroked.full m = A.stroked.full m := by
  unfold St.full
  have e1 : (A.set r s n a 0 0).stroked.fullP = false := by unfold St.fullP; rw [hs.2.2]; rfl
  have e2 : A.stroked.fullP = false := by unfold St.fullP; rw [show A.stroked.pFrom = 0 from h0]; rfl
  rw [e1, e2, hs.1, hs.2.1]; rfl
theorem To.step {A B : St} {m n : Nat} (h : To A B m n) (p : Opx) (hk : 1 ≤ p.kind ∧ p.kind ≤ 6) (hlt : n + cnt (A.play p).1 < m) : (B.play p).1 = (A.play p).1 ∧ To (A.play p).2 (B.play p).2 m (n + cnt (A.play p).1) := by
  have hff := full_free (A := A) (r := A.room) (s := n) (n := n) (a := (m : Int)) h.pFrom rfl p.b.length ⟨rfl, rfl, rfl⟩
  have e := play_set A p h.off h.powA hk
  have hl := h.lt
  by_cases hm : n + 1 = m
  · have h0 : cnt (A.play p).1 = 0 := by omega
    have hq : (A.set A.room n n (m : Int) 0 0).power = 45 := by
      unfold St.power; exact if_pos (by show ((n + 1 : Nat) : Int) = (m : Int); omega)
    have hd := (play_dead A A.room n n (m : Int) 0 0 p h.off h.powA hq hk (fun _ _ => hff)).1 h0
    rw [← h.eq] at hd
    rw [hd.1, hd.2, h0]
    exact ⟨rfl, h⟩
  · have hq : (A.set A.room n n (m : Int) 0 0).power = 0 := by
      unfold St.power; exact if_neg (by show ¬ ((n + 1 : Nat) : Int) = (m : Int); omega)
    have ha := play_alike A A.room n n (m : Int) 0 0 p h.off h.powA hq hk (fun _ _ => hff)
    rw [← h.eq] at ha
    rw [ha]
    refine ⟨rfl, by rw [e]; rfl, by rw [e]; exact h.pOff, by rw [e]; exact h.pFrom, hlt, ?_⟩
    rw [show (A.play p).2.room = A.room by rw [e]; rfl]
/-- The stroke at which it goes off. -/
theorem To.gone {A B : St} {m n : Nat} (h : To A B m n) (p : Opx) (hk : 1 ≤ p.kind ∧ p.kind ≤ 6) (hlt : ¬ n + cnt (A.play p).1 < m) :
    n + cnt (A.play p).1 = m ∧ cnt (A.play p).1 = 1 ∧ (B.play p).1 = 45 ∧ (B.play p).2.off = true ∧ (B.play p).2.strokes = m ∧ ∀ ps, (B.play p).2.crash ps = (if p.kind = 3 ∨ p.kind = 4 then A else (A.play p).2).crash ps := by
  have hff := full_free (A := A) (r := A.room) (s := n) (n := n) (a := (m : Int)) h.pFrom rfl p.b.length ⟨rfl, rfl, rfl⟩
  have hl := h.lt
  have hc : cnt (A.play p).1 = 1 := by
    have : cnt (A.play p).1 = 0 ∨ cnt (A.play p).1 = 1 := by unfold cnt; split <;> simp
    omega
  have hq : (A.set A.room n n (m : Int) 0 0).power = 45 := by
    unfold St.power; exact if_pos (by show ((n + 1 : Nat) : Int) = (m : Int); omega)
  have hd := (play_dead A A.room n n (m : Int) 0 0 p h.off h.powA hq hk (fun _ _ => hff)).2 hc
  rw [← h.eq] at hd
  rw [hd]
  refine ⟨by omega, hc, rfl, rfl, ?_, fun ps => ?_⟩
  · show n + 1 = m; omega
  · split <;> rfl
theorem to_new (r m : Nat) (hm : 0 < m) : To (St.new r) ((St.new r).planR (m : Int) 0 0) m 0 := ⟨rfl, rfl, rfl, hm, rfl⟩
/-- With the power off every change is answered so. -/
theorem play_gone {S : St} (h : S.off = true) (p : Opx) (hk : 1 ≤ p.kind ∧ p.kind ≤ 6) : S.play p = (45, S) := by
  have he : ∀ x, S.err x = 45 := fun x => by unfold St.err; rw [if_pos h]
  unfold St.play
  by_cases k1 : p.kind = 1
  · rw [if_pos k1]; unfold St.appendR; rw [if_pos h]
  rw [if_neg k1]
  by_cases k2 : p.kind = 2
  · rw [if_pos k2]; unfold St.cutR; rw [he, if_pos (by omega)]
  rw [if_neg k2]
  by_cases k3 : p.kind = 3
  · rw [if_pos k3]; unfold St.syncR; rw [he, if_pos (by omega)]
  rw [if_neg k3]
  by_cases k4 : p.kind = 4
  · rw [if_pos k4]; unfold St.namesR; rw [if_pos h]
  rw [if_neg k4]
  by_cases k5 : p.kind = 5
  · rw [if_pos k5]; unfold St.renameR; rw [he, if_neg (by omega), if_pos (by omega)]
  rw [if_neg k5, if_pos (by omega)]
  unfold St.removeR; rw [he, if_pos (by omega)]
theorem plan_gone {S : St} (h : S.off = true) (a b c : Int) : S.planR a b c = S := by unfold St.planR; rw [if_pos h]

end Go.Proofs.Ytlpafgjgoheomaa
