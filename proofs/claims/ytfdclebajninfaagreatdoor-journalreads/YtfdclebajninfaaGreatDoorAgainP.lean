import Derived.Test.YtfdclebajninfaaGreatDoorRoomP
import Derived.Test.YtfdclebajninfaaGreatDoorCrash
namespace Go.Proofs.YtfdclebajninfaaGreatDoor
open Go.RowKit Go.Maps

/-- Is it counted? -/
def cnt (e : Nat) : Nat := if e = 0 ∨ e = 44 ∨ e = 45 then 1 else 0
/-- The same files, with another plan and other numbers. -/
def St.set (S : St) (r s n : Nat) (a b c : Int) : St := { S with room := r, strokes := s, planned := n, pOff := a, pFrom := b, pTo := c, off := false }
theorem set_self {S : St} (h : S.off = false) : S = S.set S.room S.strokes S.planned S.pOff S.pFrom S.pTo := by
  cases S; simp only at h; subst h; rfl
theorem stroked_set {S : St} (h : S.off = false) (hp : S.power = 0) : S.stroked = S.set S.room (S.strokes + 1) (S.planned + 1) S.pOff S.pFrom S.pTo := by
  have hd : decide (((S.planned + 1 : Nat) : Int) = S.pOff) = false := by
    unfold St.power at hp
    split at hp
    · cases hp
    · rename_i hn; simpa using hn
  unfold St.stroked St.set
  rw [hd, h]; rfl
/-- Two disks of the same files answer a step alike. -/
theorem play_alike (S : St) (r s n : Nat) (a b c : Int) (p : Opx) (h1 : S.off = false) (hp : S.power = 0) (hq : (S.set r s n a b c).power = 0) (hk : 1 ≤ p.kind ∧ p.kind ≤ 6)
    (hf : p.kind = 1 → ¬ (isNm p.name = false ∨ (lookN S.seen p.name = none ∧ 64 ≤ S.seen.length)) → (S.set r s n a b c).stroked.full p.b.length = S.stroked.full p.b.length) :
    (S.set r s n a b c).play p = ((S.play p).1, (S.play p).2.set r (s + cnt (S.play p).1) (n + cnt (S.play p).1) a b c) := by
  have e1 := stroked_set h1 hp
  have e2 : (S.set r s n a b c).stroked = S.set r (s + 1) (n + 1) a b c := (stroked_set rfl hq).trans rfl
  have ho : (S.set r s n a b c).off = false := rfl
  have he : ∀ x, (S.set r s n a b c).err x = S.err x := fun x => by unfold St.err; rw [ho, h1]; rfl
  have hself : ∀ e, cnt e = 0 → (e, S.set r s n a b c) = ((e, S).1, (e, S).2.set r (s + cnt (e, S).1) (n + cnt (e, S).1) a b c) := fun e h => by
    simp only [h]; rfl
  have hec : ∀ x, S.err x ≠ 0 → cnt (S.err x) = 0 := fun x h => by
    unfold St.err at h ⊢
    rw [h1] at h ⊢
    simp only [Bool.false_eq_true, if_false] at h ⊢
    split
    · rename_i h2
      rw [if_pos h2] at h
      split
      · rfl
      · rename_i h3; rw [if_neg h3] at h; exact absurd rfl h
    · rfl
  unfold St.play
  by_cases k1 : p.kind = 1
  · rw [if_pos k1, if_pos k1]
    have hf1 := hf k1
    unfold St.appendR
    rw [hp, hq, ho, h1]
    simp only [Bool.false_eq_true, if_false]
    by_cases c1 : isNm p.name = false ∨ (lookN S.seen p.name = none ∧ 64 ≤ S.seen.length)
    · rw [if_pos c1, if_pos (show isNm p.name = false ∨ (lookN (S.set r s n a b c).seen p.name = none ∧ 64 ≤ (S.set r s n a b c).seen.length) from c1)]
      exact hself 41 rfl
    · rw [if_neg c1, if_neg (show ¬ (isNm p.name = false ∨ (lookN (S.set r s n a b c).seen p.name = none ∧ 64 ≤ (S.set r s n a b c).seen.length)) from c1), hf1 c1]
      by_cases c2 : S.stroked.full p.b.length = true
      · rw [if_pos c2, if_pos c2, e1, e2]; rfl
      · rw [if_neg c2, if_neg c2, e1, e2]
        show (match lookN S.seen p.name with | some i => _ | none => _) = _
        cases lookN S.seen p.name <;> rfl
  rw [if_neg k1, if_neg k1]
  by_cases k2 : p.kind = 2
  · rw [if_pos k2, if_pos k2]
    unfold St.cutR
    rw [hp, hq, he, e1, e2]
    by_cases c1 : S.err p.name ≠ 0
    · rw [if_pos c1, if_pos c1]; exact hself _ (hec _ c1)
    · rw [if_neg c1, if_neg c1]
      simp only
      by_cases c2 : p.n < 0 ∨ ((S.file ((lookN S.seen p.name).getD 0)).all.length : Int) < p.n
      · rw [if_pos c2, if_pos (show p.n < 0 ∨ (((S.set r s n a b c).file ((lookN (S.set r s n a b c).seen p.name).getD 0)).all.length : Int) < p.n from c2)]
        exact hself 43 rfl
      · rw [if_neg c2, if_neg (show ¬ (p.n < 0 ∨ (((S.set r s n a b c).file ((lookN (S.set r s n a b c).seen p.name).getD 0)).all.length : Int) < p.n) from c2)]
        rfl
  rw [if_neg k2, if_neg k2]
  by_cases k3 : p.kind = 3
  · rw [if_pos k3, if_pos k3]
    unfold St.syncR
    rw [hp, hq, he, e1, e2]
    by_cases c1 : S.err p.name ≠ 0
    · rw [if_pos c1, if_pos c1]; exact hself _ (hec _ c1)
    · rw [if_neg c1, if_neg c1]; rfl
  rw [if_neg k3, if_neg k3]
  by_cases k4 : p.kind = 4
  · rw [if_pos k4, if_pos k4]
    unfold St.namesR
    rw [hp, hq, ho, h1, e1, e2]
    simp only [Bool.false_eq_true, if_false]
    rfl
  rw [if_neg k4, if_neg k4]
  by_cases k5 : p.kind = 5
  · rw [if_pos k5, if_pos k5]
    unfold St.renameR
    rw [hp, hq, he, e1, e2]
    by_cases c0 : S.err p.name ≠ 45 ∧ isNm p.to = false
    · rw [if_pos c0, if_pos c0]; exact hself 41 rfl
    rw [if_neg c0, if_neg c0]
    by_cases c1 : S.err p.name ≠ 0
    · rw [if_pos c1, if_pos c1]; exact hself _ (hec _ c1)
    · rw [if_neg c1, if_neg c1]
      simp only
      by_cases c2 : p.name = p.to
      · rw [if_pos c2, if_pos c2]; rfl
      · rw [if_neg c2, if_neg c2]; rfl
  rw [if_neg k5, if_neg k5]
  have k6 : p.kind = 6 := by omega
  rw [if_pos k6, if_pos k6]
  unfold St.removeR
  rw [hp, hq, he, e1, e2]
  by_cases c1 : S.err p.name ≠ 0
  · rw [if_pos c1, if_pos c1]; exact hself _ (hec _ c1)
  · rw [if_neg c1, if_neg c1]; rfl
theorem play_set (S : St) (p : Opx) (h1 : S.off = false) (hp : S.power = 0) (hk : 1 ≤ p.kind ∧ p.kind ≤ 6) :
    (S.play p).2 = (S.play p).2.set S.room (S.strokes + cnt (S.play p).1) (S.planned + cnt (S.play p).1) S.pOff S.pFrom S.pTo := by
  have h := play_alike S S.room S.strokes S.planned S.pOff S.pFrom S.pTo p h1 hp (by rw [← set_self h1]; exact hp) hk (fun _ _ => by rw [← set_self h1])
  rw [← set_self h1] at h
  exact congrArg Prod.snd h
/-- The bytes are never more than were given. -/
theorem play_used {S : St} {k : Nat} (hv : Inv S) (hz : Sz S k) (p : Opx) (hb : ∀ y ∈ p.b, y < 256) (h1 : S.off = false) (hp : S.power = 0) (hk : 1 ≤ p.kind ∧ p.kind ≤ 6) (hu : S.used + p.b.length ≤ S.room) : (S.play p).2.used ≤ S.used + p.b.length := by
  have hq : (S.set (S.used + p.b.length) S.strokes S.planned S.pOff S.pFrom S.pTo).power = 0 := hp
  have h := play_alike S (S.used + p.b.length) S.strokes S.planned S.pOff S.pFrom S.pTo p h1 hp hq hk (fun _ _ => by
    rw [stroked_set h1 hp, stroked_set rfl hq]
    unfold St.full
    congr 1
    show decide (S.used + p.b.length < p.b.length + S.used) = decide (S.room < p.b.length + S.used)
    rw [decide_eq_decide]; omega)
  have hT : Inv (S.set (S.used + p.b.length) S.strokes S.planned S.pOff S.pFrom S.pTo) :=
    ⟨Nat.le_trans hu hv.room, hv.srt, hv.srts, hv.ins, hv.inf, hv.chg, hv.nod, hv.most, hv.mosts, Nat.le_add_right _ _, hv.fold⟩
  have hZ : Sz (S.set (S.used + p.b.length) S.strokes S.planned S.pOff S.pFrom S.pTo) k := ⟨hz.st, hz.pl, hz.ch, hz.fl⟩
  have hg := (good_play hT hZ p hb).inv.used
  rw [h] at hg
  exact hg

/-- A disk with a plan to be full from f to t, and one of the same files with none. -/
structure Tw (A B : St) (f t : Int) (n : Nat) : Prop where
  off : A.off = false
  pOff : A.pOff = 0
  pFrom : A.pFrom = f
  pTo : A.pTo = t
  st : A.strokes = n
  pl : A.planned = n
  eq : ∃ s m, B = A.set A.room s m 0 0 0
theorem Tw.powA {A B : St} {f t : Int} {n : Nat} (h : Tw A B f t n) : A.power = 0 := by unfold St.power; rw [h.pOff, if_neg (by omega)]
theorem set_pow (A : St) (r s m : Nat) (b c : Int) : (A.set r s m 0 b c).power = 0 := by
  unfold St.power; exact if_neg (by show ¬ ((m + 1 : Nat) : Int) = 0; omega)
theorem Tw.crash {A B : St} {f t : Int} {n : Nat} (h : Tw A B f t n) (ps : List Int) : B.crash ps = A.crash ps := by
  obtain ⟨s, m, e⟩ := h.eq; rw [e]; rfl
theorem Tw.image {A B : St} {f t : Int} {n : Nat} (h : Tw A B f t n) : B.image = A.image := by
  obtain ⟨s, m, e⟩ := h.eq; rw [e]; unfold St.image; rw [h.off]; rfl
theorem Tw.used {A B : St} {f t : Int} {n : Nat} (h : Tw A B f t n) : B.used = A.used := by
  obtain ⟨s, m, e⟩ := h.eq; rw [e]; rfl
theorem Tw.turned {A B : St} {f t : Int} {n : Nat} (h : Tw A B f t n) (p : Opx) (hk : 1 ≤ p.kind ∧ p.kind ≤ 6) {B' : St} (he : ∃ s m, B' = (A.play p).2.set (A.play p).2.room s m 0 0 0) : Tw (A.play p).2 B' f t (n + cnt (A.play p).1) := by
  have e := play_set A p h.off h.powA hk
  exact ⟨by rw [e]; rfl, by rw [e]; exact h.pOff, by rw [e]; exact h.pFrom, by rw [e]; exact h.pTo, by rw [e, ← h.st]; rfl, by rw [e, ← h.pl]; rfl, he⟩
/-- Refused: at a stroke of the plan, and nothing has changed. -/
theorem Tw.full {A B : St} {f t : Int} {n : Nat} (h : Tw A B f t n) (p : Opx) (k1 : p.kind = 1) (hu : A.used + p.b.length ≤ A.room) (e44 : (A.play p).1 = 44) :
    f ≤ (n + 1 : Nat) ∧ ((n + 1 : Nat) : Int) ≤ t ∧ Tw (A.play p).2 B f t (n + 1) ∧ (∀ ps, (A.play p).2.crash ps = A.crash ps) ∧ (A.play p).2.used = A.used := by
  have e := stroked_set h.off h.powA
  have hA : A.play p = A.appendR p.name p.b := by unfold St.play; rw [if_pos k1]
  have hk : 1 ≤ p.kind ∧ p.kind ≤ 6 := by omega
  have key : A.stroked.full p.b.length = true ∧ (A.play p).2 = A.stroked := by
    rw [hA] at e44 ⊢
    unfold St.appendR at e44 ⊢
    rw [h.powA, h.off] at *
    simp only [Bool.false_eq_true, if_false] at e44 ⊢
    split at e44
    · cases e44
    · rename_i c1
      rw [if_neg c1]
      split at e44
      · rename_i c2
        rw [if_pos c2]; exact ⟨c2, rfl⟩
      · split at e44 <;> cases e44
  have hfull := key.1
  rw [e] at hfull
  unfold St.full St.fullP at hfull
  have hr : ¬ A.room < p.b.length + A.used := by omega
  have hd : decide ((A.set A.room (A.strokes + 1) (A.planned + 1) A.pOff A.pFrom A.pTo).room < p.b.length + (A.set A.room (A.strokes + 1) (A.planned + 1) A.pOff A.pFrom A.pTo).used) = false := decide_eq_false hr
  rw [hd, Bool.or_false] at hfull
  have hfull2 : (decide (1 ≤ A.pFrom) && decide (A.pFrom ≤ ((A.planned + 1 : Nat) : Int)) && decide (((A.planned + 1 : Nat) : Int) ≤ A.pTo)) = true := hfull
  simp only [Bool.and_eq_true, decide_eq_true_eq] at hfull2
  rw [h.pFrom, h.pTo, h.pl] at hfull2
  have ht := h.turned p hk (B' := B) (by
    rw [key.2, e]
    obtain ⟨s, m, eb⟩ := h.eq
    exact ⟨s, m, eb⟩)
  rw [e44] at ht
  refine ⟨hfull2.1.2, hfull2.2, ht, fun ps => ?_, ?_⟩
  · rw [key.2, e]; rfl
  · rw [key.2, e]; rfl
/-- Else: both answer alike. -/
theorem Tw.step {A B : St} {f t : Int} {n : Nat} (h : Tw A B f t n) (hf1 : 1 ≤ f) (p : Opx) (hk : 1 ≤ p.kind ∧ p.kind ≤ 6) (hn : ¬ (p.kind = 1 ∧ (A.play p).1 = 44)) :
    (p.kind = 1 → (A.play p).1 = 0 → ¬ (f ≤ ((n + 1 : Nat) : Int) ∧ ((n + 1 : Nat) : Int) ≤ t)) ∧ (B.play p).1 = (A.play p).1 ∧ Tw (A.play p).2 (B.play p).2 f t (n + cnt (A.play p).1) := by
  have e := stroked_set h.off h.powA
  obtain ⟨s, m, eb⟩ := h.eq
  have hfl : p.kind = 1 → ¬ (isNm p.name = false ∨ (lookN A.seen p.name = none ∧ 64 ≤ A.seen.length)) → A.stroked.full p.b.length = false := fun k1 c1 => by
    cases c2 : A.stroked.full p.b.length with
    | false => rfl
    | true =>
      refine absurd ⟨k1, ?_⟩ hn
      unfold St.play
      rw [if_pos k1]
      unfold St.appendR
      rw [h.off]
      simp only [Bool.false_eq_true, if_false]
      rw [if_neg c1, if_pos c2, h.powA, if_pos rfl]
  have hal := play_alike A A.room s m 0 0 0 p h.off h.powA (set_pow _ _ _ _ _ _) hk (fun k1 c1 => by
    have h2 := hfl k1 c1
    rw [h2]
    rw [e] at h2
    rw [stroked_set rfl (set_pow _ _ _ _ _ _)]
    unfold St.full at h2 ⊢
    simp only [Bool.or_eq_false_iff, decide_eq_false_iff_not] at h2 ⊢
    refine ⟨?_, h2.2⟩
    unfold St.fullP
    rfl)
  rw [← eb] at hal
  refine ⟨fun k1 e0 hc => ?_, by rw [hal], h.turned p hk ⟨_, _, by rw [hal]; rw [show (A.play p).2.room = A.room by rw [play_set A p h.off h.powA hk]; rfl]⟩⟩
  have c1 : ¬ (isNm p.name = false ∨ (lookN A.seen p.name = none ∧ 64 ≤ A.seen.length)) := fun c1 => by
    unfold St.play at e0
    rw [if_pos k1] at e0
    unfold St.appendR at e0
    rw [h.off] at e0
    simp only [Bool.false_eq_true, if_false] at e0
    rw [if_pos c1] at e0
    cases e0
  have h2 := hfl k1 c1
  rw [e] at h2
  unfold St.full St.fullP at h2
  simp only [Bool.or_eq_false_iff, Bool.and_eq_false_iff, decide_eq_false_iff_not] at h2
  have h3 : (¬ 1 ≤ A.pFrom ∨ ¬ A.pFrom ≤ ((A.planned + 1 : Nat) : Int)) ∨ ¬ ((A.planned + 1 : Nat) : Int) ≤ A.pTo := h2.1
  rw [h.pFrom, h.pTo, h.pl] at h3
  omega
theorem tw_new (r : Nat) (f t : Int) : Tw ((St.new r).planR 0 f t) (St.new r) f t 0 := ⟨rfl, rfl, rfl, rfl, rfl, rfl, 0, 0, rfl⟩

end Go.Proofs.YtfdclebajninfaaGreatDoor
namespace Go.Proofs.YtfdclebajninfaaGreatDoor
open Go.RowKit Go.Maps

/-- Behind S0, where all was made safe, there were appends alone. -/
structure Ad (S0 S : St) : Prop where
  free : Free S
  safe : S.safe = S0.seen
  byt : ∀ p ∈ S.seen, ∃ xs, (S.file p.2).units = bus xs
  old : ∀ p ∈ S0.seen, p ∈ S.seen ∧ (S.file p.2).safe = (S0.file p.2).all
  mono : ∀ j, j ≤ S.chg.length → (∀ p ∈ (S.chg.take j).foldl withN S.safe, p ∈ S.seen) ∧ (∀ p ∈ S.safe, p ∈ (S.chg.take j).foldl withN S.safe)
theorem Ad.stroked {S0 S : St} (h : Ad S0 S) : Ad S0 S.stroked := ⟨h.free.stroked, h.safe, h.byt, h.old, h.mono⟩
theorem Ad.append {S0 S : St} (h : Ad S0 S) (hv : Inv S) (x : Nm) (b : List Nat) : Ad S0 (S.appendR x b).2 := by
  unfold St.appendR
  split
  · exact h
  split
  · exact h
  rename_i hn
  split
  · exact h.stroked
  have hnm : isNm x = true := by
    cases h : isNm x
    · exact absurd (Or.inl h) hn
    · rfl
  have hs := h.stroked
  have hvs := hv.stroked
  cases hl : lookN S.seen x with
  | some i =>
    have hi := S.seen_file hv hl
    refine ⟨⟨hs.free.off, hs.free.pOff, hs.free.pFrom⟩, hs.safe, fun p hp => ?_, fun p hp => ⟨(hs.old p hp).1, ?_⟩, hs.mono⟩
    · show ∃ xs, ((S.stroked.turn i ((S.file i).add b)).file p.2).units = bus xs
      rw [St.turn_file (S := S.stroked) hi]
      split
      · obtain ⟨xs, e⟩ := h.byt (x, i) ((look_mem hv.srt).1 hl)
        exact ⟨xs ++ b, by show (S.file i).units ++ bus b = _; rw [show (S.file i).units = bus xs from e]; simp [bus]⟩
      · exact h.byt p hp
    · show ((S.stroked.turn i ((S.file i).add b)).file p.2).safe = _
      rw [St.turn_file (S := S.stroked) hi]
      split
      · rename_i e
        rw [← e]; exact (h.old p hp).2
      · exact (h.old p hp).2
  | none =>
    have hx0 : x ≠ [] := by rintro rfl; have := (nm_len hnm).1; simp at this
    have hne : ∀ p ∈ S.seen, p.1 ≠ [] := fun p hp e => by have := (nm_len (hv.ins p hp).2).1; rw [e] at this; simp at this
    have e : withN S.seen ⟨[], x, S.files.length⟩ = insN (x, S.files.length) S.seen := by
      unfold withN putN
      rw [if_neg hx0, del_none hne, del_none (look_none.1 hl)]
    have hin : ∀ p ∈ S.seen, p ∈ withN S.seen ⟨[], x, S.files.length⟩ := fun p hp => by rw [e]; exact mem_ins.2 (Or.inr hp)
    have hfl : ∀ p : Nm × Nat, (((S.stroked.made ⟨[], []⟩).ren ⟨[], x, S.files.length⟩).turn S.files.length ((⟨[], []⟩ : Fil).add b)).file p.2 = if p.2 = S.files.length then (⟨[], []⟩ : Fil).add b else (S.stroked.made ⟨[], []⟩).file p.2 := fun p =>
      St.turn_file (S := (S.stroked.made ⟨[], []⟩).ren ⟨[], x, S.files.length⟩) (by show S.files.length < (S.files ++ [_]).length; simp) p.2
    refine ⟨⟨hs.free.off, hs.free.pOff, hs.free.pFrom⟩, hs.safe, fun p hp => ?_, fun p hp => ⟨hin p (h.old p hp).1, ?_⟩, fun j hj => ?_⟩
    · rw [hfl]
      split
      · exact ⟨b, by show [] ++ bus b = _; simp⟩
      · rename_i hne2
        have hp2 : p ∈ insN (x, S.files.length) S.seen := by rw [← e]; exact hp
        rcases mem_ins.1 hp2 with e2 | hp3
        · exact absurd (by rw [e2]) hne2
        · rw [made_file (S := S.stroked) (hv.ins p hp3).1]; exact h.byt p hp3
    · rw [hfl]
      have hlt := (hv.ins p (h.old p hp).1).1
      rw [if_neg (by omega), made_file (S := S.stroked) hlt]
      exact (h.old p hp).2
    · have hj2 : j ≤ S.chg.length + 1 := by
        have : (S.chg ++ [(⟨[], x, S.files.length⟩ : Chg)]).length = S.chg.length + 1 := by simp
        exact this ▸ hj
      show (∀ p ∈ ((S.chg ++ [(⟨[], x, S.files.length⟩ : Chg)]).take j).foldl withN S.safe, p ∈ withN S.seen ⟨[], x, S.files.length⟩) ∧ (∀ p ∈ S.safe, p ∈ ((S.chg ++ [(⟨[], x, S.files.length⟩ : Chg)]).take j).foldl withN S.safe)
      by_cases hjl : j ≤ S.chg.length
      · rw [List.take_append_of_le_length hjl]
        exact ⟨fun p hp => hin p ((h.mono j hjl).1 p hp), (h.mono j hjl).2⟩
      · have hj3 : j = S.chg.length + 1 := by omega
        subst hj3
        rw [List.take_of_length_le (by simp), List.foldl_append]
        have hf : S.chg.foldl withN S.safe = S.seen := hv.fold.symm
        rw [hf]
        refine ⟨fun p hp => hp, fun p hp => hin p ?_⟩
        have := (h.mono S.chg.length (Nat.le_refl _)).2 p hp
        rw [List.take_of_length_le (Nat.le_refl _), hf] at this
        exact this

/-- Bytes alone: what is left is a beginning. -/
theorem left_bus {f : Fil} {xs : List Nat} (h : f.units = bus xs) (n : Nat) : f.left n = f.safe ++ xs.take n ∧ f.all = f.safe ++ xs := by
  unfold Fil.left Fil.all
  rw [h]
  refine ⟨?_, carry_bus _ _⟩
  rw [show (bus xs).take n = bus (xs.take n) by simp [bus, List.map_take], carry_bus]
theorem pick_nil (i n : Nat) : pickP [] i n = 0 := rfl
/-- With no picks just what was safe. -/
theorem Ad.none {S0 S : St} (h : Ad S0 S) (h0 : S0.off = false) : S.crash [] = S0.image := by
  unfold St.crash St.leftN St.image
  simp only [pick_nil, List.take_zero, List.foldl_nil]
  rw [h.safe, h0]
  simp only [Bool.false_eq_true, if_false]
  rw [List.mapIdx_eq_zipIdx_map]
  refine List.ext_getElem? fun i => ?_
  simp only [List.getElem?_map, List.getElem?_zipIdx]
  cases hp : S0.seen[i]? with
  | none => rfl
  | some p =>
    simp only [Option.map_some]
    have := (h.old p (List.mem_of_getElem? hp)).2
    unfold Fil.left
    simp only [List.take_zero]
    show some (p.1, carryL (S.file p.2).safe []) = _
    rw [show carryL (S.file p.2).safe [] = (S.file p.2).safe from rfl, this]

theorem srt_before {l : List (Nm × Nat)} (h : Srt l) {i k : Nat} {p q : Nm × Nat} (hi : l[i]? = some p) (hk : l[k]? = some q) (hlt : i < k) : p.1 ≠ q.1 := by
  obtain ⟨h1, e1⟩ := List.getElem?_eq_some_iff.1 hi
  obtain ⟨h2, e2⟩ := List.getElem?_eq_some_iff.1 hk
  have := List.pairwise_iff_getElem.1 h.nodup i k h1 h2 hlt
  rw [e1, e2] at this
  exact this
theorem crash_find {S : St} (hv : Inv S) (ps : List Int) {k : Nat} {p : Nm × Nat} (hp : (S.leftN ps)[k]? = some p) : imgFind (S.crash ps) p.1 = some ((S.file p.2).left (pickP ps (k + 1) (S.file p.2).units.length)) := by
  refine imgFind_some (k := k) (crash_at hp) rfl (fun q hq => ?_)
  obtain ⟨i, hi⟩ := List.getElem?_of_mem hq
  have hik : i < k := by
    have h1 := (List.getElem?_eq_some_iff.1 hi).1
    rw [List.length_take] at h1
    omega
  rw [List.getElem?_take_of_lt hik] at hi
  cases hl : (S.leftN ps)[i]? with
  | none =>
    have h2 := List.getElem?_eq_none_iff.1 hl
    have h3 := (List.getElem?_eq_some_iff.1 hi).1
    rw [crash_len] at h3
    omega
  | some r =>
    rw [crash_at hl] at hi
    have e : q.1 = r.1 := by rw [← Option.some.inj hi]
    rw [e]
    exact srt_before (left_srt hv ps) hl hp hik
/-- What was safe is there, and what is there begins with it. -/
theorem Ad.was {S0 S : St} (h : Ad S0 S) (hv : Inv S) (ps : List Int) {p : Nm × Nat} (hp : p ∈ S0.seen) : ∃ t, imgFind (S.crash ps) p.1 = some ((S0.file p.2).all ++ t) := by
  have hm := (h.mono _ (pick_le ps 0 S.chg.length)).2 p (by rw [h.safe]; exact hp)
  obtain ⟨k, hk⟩ := List.getElem?_of_mem hm
  have hf := crash_find hv ps hk
  obtain ⟨hs, ho⟩ := h.old p hp
  obtain ⟨xs, hx⟩ := h.byt p hs
  rw [(left_bus hx _).1, ho] at hf
  exact ⟨_, hf⟩
/-- What is there is seen, and begins what is seen. -/
theorem Ad.now {S0 S : St} (h : Ad S0 S) (hv : Inv S) (ps : List Int) {k : Nat} {e : Nm × List Nat} (he : (S.crash ps)[k]? = some e) : ∃ t, imgFind S.image e.1 = some (e.2 ++ t) := by
  cases hl : (S.leftN ps)[k]? with
  | none =>
    have h2 := List.getElem?_eq_none_iff.1 hl
    have h3 := (List.getElem?_eq_some_iff.1 he).1
    rw [crash_len] at h3
    omega
  | some p =>
    rw [crash_at hl] at he
    have hs := (h.mono _ (pick_le ps 0 S.chg.length)).1 p (List.mem_of_getElem? hl)
    obtain ⟨xs, hx⟩ := h.byt p hs
    have e1 := Option.some.inj he
    subst e1
    refine ⟨xs.drop (pickP ps (k + 1) (S.file p.2).units.length), ?_⟩
    rw [image_find h.free.off, (look_mem hv.srt).2 hs]
    show some (S.file p.2).all = _
    rw [(left_bus hx 0).2, (left_bus hx _).1, List.append_assoc, List.take_append_drop]
theorem pick_all {n i m : Nat} (h : i < n) : pickP (List.replicate n (-1)) i m = m := by
  unfold pickP
  rw [List.getElem?_replicate, if_pos h]
  simp only
  have : (-1 : Int) % ((m + 1 : Nat) : Int) = (m : Int) := by
    rw [← Int.add_emod_right, Int.emod_eq_of_lt (by omega) (by omega)]; omega
  rw [this]; omega
/-- With all picks as great as can be all that is seen. -/
theorem crash_all {S : St} (hv : Inv S) (ho : S.off = false) {n : Nat} (hn : n = S.seen.length) : S.crash (List.replicate (n + 1) (-1)) = S.image := by
  have hl : S.leftN (List.replicate (n + 1) (-1)) = S.seen := by
    unfold St.leftN
    rw [pick_all (by omega), List.take_of_length_le (Nat.le_refl _)]
    exact hv.fold.symm
  unfold St.crash St.image
  rw [hl, ho]
  simp only [Bool.false_eq_true, if_false]
  refine List.ext_getElem? fun i => ?_
  rw [List.getElem?_mapIdx, List.getElem?_map]
  cases hp : S.seen[i]? with
  | none => rfl
  | some p =>
    have hi := (List.getElem?_eq_some_iff.1 hp).1
    simp only [Option.map_some]
    rw [pick_all (by omega)]
    unfold Fil.left Fil.all
    rw [List.take_of_length_le (Nat.le_refl _)]
/-- All is safe. -/
structure Sf (S : St) : Prop where
  free : Free S
  chg : S.chg = []
  safe : S.safe = S.seen
  units : ∀ p ∈ S.seen, (S.file p.2).units = []
theorem Sf.ad {S : St} (h : Sf S) : Ad S S :=
  ⟨h.free, h.safe, fun p hp => ⟨[], h.units p hp⟩, fun p hp => ⟨hp, by unfold Fil.all; rw [h.units p hp]; rfl⟩, fun j _ => by
    rw [h.chg, h.safe]; simp⟩

end Go.Proofs.YtfdclebajninfaaGreatDoor
namespace Go.Proofs.YtfdclebajninfaaGreatDoor
open Go.RowKit Go.Maps

/-! How many bytes lie in all files together, the units too -/
def Fil.siz (f : Fil) : Nat := f.safe.length + f.units.length
def St.tot (S : St) : Nat := (S.files.map Fil.siz).sum
theorem sum_set : ∀ (l : List Nat) (i x : Nat), i < l.length → (l.set i x).sum + l.getD i 0 = l.sum + x
  | [], i, x, h => by simp at h
  | a :: l, 0, x, _ => by simp; omega
  | a :: l, i + 1, x, h => by
    have ih := sum_set l i x (by simpa using h)
    simp only [List.set_cons_succ, List.sum_cons, List.getD_cons_succ]
    omega
theorem sum_some : ∀ (is : List Nat) (l : List Nat), is.Nodup → (∀ i ∈ is, i < l.length) → (is.map fun i => l.getD i 0).sum ≤ l.sum
  | [], l, _, _ => by simp
  | i :: is, l, hn, hi => by
    obtain ⟨n1, n2⟩ := List.nodup_cons.1 hn
    have ih := sum_some is (l.set i 0) n2 (fun j hj => by simpa using hi j (List.mem_cons_of_mem _ hj))
    have e : (is.map fun j => (l.set i 0).getD j 0) = is.map fun j => l.getD j 0 := List.map_congr_left fun j hj => by
      have hne : i ≠ j := fun e => n1 (by rw [e]; exact hj)
      simp [List.getD, List.getElem?_set_ne hne]
    rw [e] at ih
    have h := sum_set l i 0 (hi i (List.mem_cons_self ..))
    rw [List.map_cons, List.sum_cons]
    omega
theorem tot_turn {S : St} {i : Nat} (hi : i < S.files.length) (f : Fil) : (S.turn i f).tot + (S.file i).siz = S.tot + f.siz := by
  have h := sum_set (S.files.map Fil.siz) i f.siz (by simpa using hi)
  have e : (S.files.map Fil.siz).getD i 0 = (S.file i).siz := by simp [List.getD, St.file_some hi]
  rw [e] at h
  unfold St.tot St.turn
  rw [List.map_set]
  exact h
theorem tot_made (S : St) (f : Fil) : (S.made f).tot = S.tot + f.siz := by simp [St.tot, St.made]
theorem siz_add (f : Fil) (b : List Nat) : (f.add b).siz = f.siz + b.length := by unfold Fil.siz Fil.add bus; simp; omega
theorem siz_cut (f : Fil) (n : Nat) : (f.cut n).siz ≤ f.siz + 1 := by unfold Fil.siz Fil.cut; split <;> simp <;> omega
theorem siz_settled (f : Fil) : f.settled.siz ≤ f.siz := by
  have := carry_len f.safe f.units
  unfold Fil.siz Fil.settled Fil.all
  simpa using this

theorem tot_append {S : St} (hv : Inv S) (x : Nm) (b : List Nat) : (S.appendR x b).2.tot ≤ S.tot + b.length + 1 := by
  unfold St.appendR
  split
  · show S.tot ≤ _; omega
  split
  · show S.tot ≤ _; omega
  split
  · show S.tot ≤ _; omega
  split
  · rename_i i hl
    have h := tot_turn (S := S.stroked) (St.seen_file hv hl) ((S.file i).add b)
    rw [siz_add, file_stroked] at h
    have e : S.stroked.tot = S.tot := rfl
    show (S.stroked.turn i ((S.file i).add b)).tot ≤ _
    omega
  · have h := tot_turn (S := (S.stroked.made ⟨[], []⟩).ren ⟨[], x, S.files.length⟩) (i := S.files.length) (by show S.files.length < (S.files ++ [_]).length; simp) ((⟨[], []⟩ : Fil).add b)
    have e2 : ((S.stroked.made ⟨[], []⟩).ren ⟨[], x, S.files.length⟩).tot = S.tot + 0 := tot_made S.stroked ⟨[], []⟩
    have e3 : (⟨[], []⟩ : Fil).siz = 0 := rfl
    rw [siz_add] at h
    show (((S.stroked.made ⟨[], []⟩).ren ⟨[], x, S.files.length⟩).turn S.files.length ((⟨[], []⟩ : Fil).add b)).tot ≤ _
    omega
theorem tot_play {S : St} (hv : Inv S) (p : Opx) : (S.play p).2.tot ≤ S.tot + p.b.length + 1 := by
  unfold St.play
  split
  · exact tot_append hv _ _
  split
  · unfold St.cutR
    split
    · show S.tot ≤ _; omega
    rename_i he
    simp only
    split
    · show S.tot ≤ _; omega
    · have hi := St.seen_file hv (look_get (by simpa using he))
      have h := tot_turn (S := S.stroked) hi ((S.file ((lookN S.seen p.name).getD 0)).cut p.n.toNat)
      have h2 := siz_cut (S.file ((lookN S.seen p.name).getD 0)) p.n.toNat
      rw [file_stroked] at h
      have e : S.stroked.tot = S.tot := rfl
      show (S.stroked.turn _ _).tot ≤ _
      omega
  split
  · unfold St.syncR
    split
    · show S.tot ≤ _; omega
    rename_i he
    simp only
    split
    · have hi := St.seen_file hv (look_get (by simpa using he))
      have h := tot_turn (S := S.stroked) hi (S.file ((lookN S.seen p.name).getD 0)).settled
      have h2 := siz_settled (S.file ((lookN S.seen p.name).getD 0))
      rw [file_stroked] at h
      have e : S.stroked.tot = S.tot := rfl
      show (S.stroked.turn _ _).tot ≤ _
      omega
    · show S.tot ≤ _; omega
  split
  · unfold St.namesR
    split
    · show S.tot ≤ _; omega
    simp only
    split
    · show S.tot ≤ _; omega
    · show S.tot ≤ _; omega
  split
  · unfold St.renameR
    split
    · show S.tot ≤ _; omega
    split
    · show S.tot ≤ _; omega
    simp only
    split
    · show S.tot ≤ _; omega
    · show S.tot ≤ _; omega
  split
  · unfold St.removeR
    split
    · show S.tot ≤ _; omega
    · show S.tot ≤ _; omega
  · show S.tot ≤ _; omega

/-! What names there have been since they were safe -/
structure Past (S : St) : Prop where
  nod : ∀ k, (((S.chg.take k).foldl withN S.safe).map (·.2)).Nodup
  most : ∀ k, ((S.chg.take k).foldl withN S.safe).length ≤ 64
def Nexts (S S' : St) : Prop := (S'.safe = S.safe ∧ (S'.chg = S.chg ∨ ∃ c, S'.chg = S.chg ++ [c])) ∨ S'.chg = []
theorem past_new (r : Nat) : Past (St.new r) := ⟨fun k => by simp [St.new], fun k => by simp [St.new]⟩
theorem Past.next {S S' : St} (h : Past S) (hv : Inv S') (hn : Nexts S S') : Past S' := by
  have key : ∀ k, (S'.chg.take k).foldl withN S'.safe = S'.seen ∨ ∃ k', (S'.chg.take k).foldl withN S'.safe = (S.chg.take k').foldl withN S.safe := by
    intro k
    rcases hn with ⟨e1, e2 | ⟨c, e2⟩⟩ | e
    · exact Or.inr ⟨k, by rw [e1, e2]⟩
    · by_cases hk : k ≤ S.chg.length
      · refine Or.inr ⟨k, ?_⟩
        rw [e1, e2, List.take_append_of_le_length hk]
      · refine Or.inl ?_
        rw [List.take_of_length_le (by rw [e2]; simp; omega)]
        exact hv.fold.symm
    · refine Or.inl ?_
      have := hv.fold
      rw [e] at this ⊢
      simpa using this.symm
  refine ⟨fun k => ?_, fun k => ?_⟩
  · rcases key k with e | ⟨k', e⟩
    · rw [e]; exact hv.nod
    · rw [e]; exact h.nod k'
  · rcases key k with e | ⟨k', e⟩
    · rw [e]; exact hv.most
    · rw [e]; exact h.most k'
theorem nexts_self (S : St) : Nexts S S := Or.inl ⟨rfl, Or.inl rfl⟩
theorem nexts_play (S : St) (p : Opx) : Nexts S (S.play p).2 := by
  unfold St.play
  split
  · unfold St.appendR
    split
    · exact nexts_self S
    split
    · exact nexts_self S
    split
    · exact Or.inl ⟨rfl, Or.inl rfl⟩
    split
    · exact Or.inl ⟨rfl, Or.inl rfl⟩
    · exact Or.inl ⟨rfl, Or.inr ⟨_, rfl⟩⟩
  split
  · unfold St.cutR
    split
    · exact nexts_self S
    simp only
    split
    · exact nexts_self S
    · exact Or.inl ⟨rfl, Or.inl rfl⟩
  split
  · unfold St.syncR
    split
    · exact nexts_self S
    simp only
    split
    · exact Or.inl ⟨rfl, Or.inl rfl⟩
    · exact Or.inl ⟨rfl, Or.inl rfl⟩
  split
  · unfold St.namesR
    split
    · exact nexts_self S
    simp only
    split
    · exact Or.inr rfl
    · exact Or.inl ⟨rfl, Or.inl rfl⟩
  split
  · unfold St.renameR
    split
    · exact nexts_self S
    split
    · exact nexts_self S
    simp only
    split
    · exact Or.inl ⟨rfl, Or.inl rfl⟩
    · exact Or.inl ⟨rfl, Or.inr ⟨_, rfl⟩⟩
  split
  · unfold St.removeR
    split
    · exact nexts_self S
    · exact Or.inl ⟨rfl, Or.inr ⟨_, rfl⟩⟩
  · exact nexts_self S

theorem crash_tot {S : St} (hv : Inv S) (hp : Past S) (ps : List Int) : ((S.crash ps).map fun p => p.2.length).sum ≤ S.tot := by
  have h1 := sum_some ((S.leftN ps).map (·.2)) (S.files.map Fil.siz) (hp.nod _) (fun i hi => by
    obtain ⟨p, hp, rfl⟩ := List.mem_map.1 hi
    simpa using (left_in hv ps p hp).1)
  have h2 : ∀ (l : List (Nm × Nat)) (g : Nat → Nm × Nat → Nm × List Nat) (s : Nm × Nat → Nat), (∀ i p, (g i p).2.length ≤ s p) → ((l.mapIdx g).map fun p => p.2.length).sum ≤ (l.map s).sum := by
    intro l
    induction l with
    | nil => intros; simp
    | cons a l ih =>
      intro g s hg
      have := ih (fun i => g (i + 1)) s (fun i p => hg (i + 1) p)
      have h0 := hg 0 a
      simp only [List.mapIdx_cons, List.map_cons, List.sum_cons]
      omega
  have h3 := h2 (S.leftN ps) (fun i p => (p.1, (S.file p.2).left (pickP ps (i + 1) (S.file p.2).units.length))) (fun p => (S.file p.2).siz) (fun i p => left_length _ _)
  refine Nat.le_trans h3 (Nat.le_trans (Nat.le_of_eq ?_) h1)
  rw [List.map_map]
  refine congrArg List.sum (List.map_congr_left fun p hp => ?_)
  have hl := (left_in hv ps p hp).1
  simp [List.getD, St.file_some hl]

/-! A disk that was loaded -/
def imgN (img : List (Nm × List Nat)) : List (Nm × Nat) := img.mapIdx fun i p => (p.1, i)
def St.laid (r : Nat) (img : List (Nm × List Nat)) : St := ⟨r, 0, 0, 0, 0, 0, false, imgN img, imgN img, [], img.map fun p => ⟨p.2, []⟩⟩
theorem laid_file (r : Nat) (img : List (Nm × List Nat)) {i : Nat} {p : Nm × List Nat} (h : img[i]? = some p) : (St.laid r img).file i = ⟨p.2, []⟩ := by
  unfold St.file St.laid
  simp [h]
theorem laid_image (r : Nat) (img : List (Nm × List Nat)) : (St.laid r img).image = img := by
  unfold St.image
  show (imgN img).map _ = _
  refine List.ext_getElem? fun i => ?_
  simp only [imgN, List.getElem?_map, List.getElem?_mapIdx]
  cases h : img[i]? with
  | none => rfl
  | some p =>
    simp only [Option.map_some]
    rw [laid_file r img h]
    rfl
theorem laid_crash (r : Nat) (img : List (Nm × List Nat)) (ps : List Int) : (St.laid r img).crash ps = img := by
  unfold St.crash St.leftN
  show List.mapIdx _ ((([] : List Chg).take _).foldl withN (imgN img)) = _
  refine List.ext_getElem? fun i => ?_
  simp only [List.take_nil, List.foldl_nil, imgN, List.getElem?_mapIdx]
  cases h : img[i]? with
  | none => rfl
  | some p =>
    simp only [Option.map_some]
    rw [laid_file r img h]
    simp [Fil.left, carryL]

end Go.Proofs.YtfdclebajninfaaGreatDoor
