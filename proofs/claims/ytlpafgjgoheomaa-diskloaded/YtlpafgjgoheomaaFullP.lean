import Derived.Test.YtlpafgjgoheomaaRoomP
import Derived.Test.YtlpafgjgoheomaaCrash
namespace Go.Proofs.Ytlpafgjgoheomaa
open Go.RowKit Go.Maps

/-- Is it counted? -/
def cnt (e : Nat) : Nat := if e = 0 ∨ e = 44 ∨ e = 45 then 1 else 0
/-- The same files, with another plan and other numbers. -/
def St.set (S : St) (r s n : Nat) (a b c : Int) : St := { S with room := r, strokes := s, planned := n, pOff := a, pFrom := b, pTo := c, off := false }
theorem set_self {S : St} (h : S.off = false) : S = S.set S.room S.strokes S.planned S.pOff S.pFrom S.pTo := by
  cases S; simp only at h; subst h; rfl
theorem stroked_set {S : St} (h : S.off = false) (hp : S.power = 0) : S.stroked = S.set S.room (S.strokes + 1) (S.planned + 1) S.pOff S.pFrom S.pTo := by
  have hd : decide (((S.planned + 1 : Nat) : Int) = S.pOff) = false := by
    unfold St.power at hp
    split at hp
    · cases hp
    · rename_i hn; simpa using hn
  unfold St.stroked St.set
  rw [hd, h]; rfl
/-- Two disks of the same files answer a step alike. -/
theorem play_alike (S : St) (r s n : Nat) (a b c : Int) (p : Opx) (h1 : S.off = false) (hp : S.power = 0) (hq : (S.set r s n a b c).power = 0) (hk : 1 ≤ p.kind ∧ p.kind ≤ 6)
    (hf : p.kind = 1 → ¬ (isNm p.name = false ∨ (lookN S.seen p.name = none ∧ 64 ≤ S.seen.length)) → (S.set r s n a b c).stroked.full p.b.length = S.stroked.full p.b.length) :
    (S.set r s n a b c).play p = ((S.play p).1, (S.play p).2.set r (s + cnt (S.play p).1) (n + cnt (S.play p).1) a b c) := by
  have e1 := stroked_set h1 hp
  have e2 : (S.set r s n a b c).stroked = S.set r (s + 1) (n + 1) a b c := (stroked_set rfl hq).trans rfl
  have ho : (S.set r s n a b c).off = false := rfl
  have he : ∀ x, (S.set r s n a b c).err x = S.err x := fun x => by unfold St.err; rw [ho, h1]; rfl
  have hself : ∀ e, cnt e = 0 → (e, S.set r s n a b c) = ((e, S).1, (e, S).2.set r (s + cnt (e, S).1) (n + cnt (e, S).1) a b c) := fun e h => by
    simp only [h]; rfl
  have hec : ∀ x, S.err x ≠ 0 → cnt (S.err x) = 0 := fun x h => by
    unfold St.err at h ⊢
    rw [h1] at h ⊢
    simp only [Bool.false_eq_true, if_false] at h ⊢
    split
    · rename_i h2
      rw [if_pos h2] at h
      split
      · rfl
      · rename_i h3; rw [if_neg h3] at h; exact absurd rfl h
    · rfl
  unfold St.play
  by_cases k1 : p.kind = 1
  · rw [if_pos k1, if_pos k1]
    have hf1 := hf k1
    unfold St.appendR
    rw [hp, hq, ho, h1]
    simp only [Bool.false_eq_true, if_false]
    by_cases c1 : isNm p.name = false ∨ (lookN S.seen p.name = none ∧ 64 ≤ S.seen.length)
    · rw [if_pos c1, if_pos (show isNm p.name = false ∨ (lookN (S.set r s n a b c).seen p.name = none ∧ 64 ≤ (S.set r s n a b c).seen.length) from c1)]
      exact hself 41 rfl
    · rw [if_neg c1, if_neg (show ¬ (isNm p.name = false ∨ (lookN (S.set r s n a b c).seen p.name = none ∧ 64 ≤ (S.set r s n a b c).seen.length)) from c1), hf1 c1]
      by_cases c2 : S.stroked.full p.b.length = true
      · rw [if_pos c2, if_pos c2, e1, e2]; rfl
      · rw [if_neg c2, if_neg c2, e1, e2]
        show (match lookN S.seen p.name with | some i => _ | none => _) = _
        cases lookN S.seen p.name <;> rfl
  rw [if_neg k1, if_neg k1]
  by_cases k2 : p.kind = 2
  · rw [if_pos k2, if_pos k2]
    unfold St.cutR
    rw [hp, hq, he, e1, e2]
    by_cases c1 : S.err p.name ≠ 0
    · rw [if_pos c1, if_pos c1]; exact hself _ (hec _ c1)
    · rw [if_neg c1, if_neg c1]
      simp only
      by_cases c2 : p.n < 0 ∨ ((S.file ((lookN S.seen p.name).getD 0)).all.length : Int) < p.n
      · rw [if_pos c2, if_pos (show p.n < 0 ∨ (((S.set r s n a b c).file ((lookN (S.set r s n a b c).seen p.name).getD 0)).all.length : Int) < p.n from c2)]
        exact hself 43 rfl
      · rw [if_neg c2, if_neg (show ¬ (p.n < 0 ∨ (((S.set r s n a b c).file ((lookN (S.set r s n a b c).seen p.name).getD 0)).all.length : Int) < p.n) from c2)]
        rfl
  rw [if_neg k2, if_neg k2]
  by_cases k3 : p.kind = 3
  · rw [if_pos k3, if_pos k3]
    unfold St.syncR
    rw [hp, hq, he, e1, e2]
    by_cases c1 : S.err p.name ≠ 0
    · rw [if_pos c1, if_pos c1]; exact hself _ (hec _ c1)
    · rw [if_neg c1, if_neg c1]; rfl
  rw [if_neg k3, if_neg k3]
  by_cases k4 : p.kind = 4
  · rw [if_pos k4, if_pos k4]
    unfold St.namesR
    rw [hp, hq, ho, h1, e1, e2]
    simp only [Bool.false_eq_true, if_false]
    rfl
  rw [if_neg k4, if_neg k4]
  by_cases k5 : p.kind = 5
  · rw [if_pos k5, if_pos k5]
    unfold St.renameR
    rw [hp, hq, he, e1, e2]
    by_cases c0 : S.err p.name ≠ 45 ∧ isNm p.to = false
    · rw [if_pos c0, if_pos c0]; exact hself 41 rfl
    rw [if_neg c0, if_neg c0]
    by_cases c1 : S.err p.name ≠ 0
    · rw [if_pos c1, if_pos c1]; exact hself _ (hec _ c1)
    · rw [if_neg c1, if_neg c1]
      simp only
      by_cases c2 : p.name = p.to
      · rw [if_pos c2, if_pos c2]; rfl
      · rw [if_neg c2, if_neg c2]; rfl
  rw [if_neg k5, if_neg k5]
  have k6 : p.kind = 6 := by omega
  rw [if_pos k6, if_pos k6]
  unfold St.removeR
  rw [hp, hq, he, e1, e2]
  by_cases c1 : S.err p.name ≠ 0
  · rw [if_pos c1, if_pos c1]; exact hself _ (hec _ c1)
  · rw [if_neg c1, if_neg c1]; rfl
theorem play_set (S : St) (p : Opx) (h1 : S.off = false) (hp : S.power = 0) (hk : 1 ≤ p.kind ∧ p.kind ≤ 6) :
    (S.play p).2 = (S.play p).2.set S.room (S.strokes + cnt (S.play p).1) (S.planned + cnt (S.play p).1) S.pOff S.pFrom S.pTo := by
  have h := play_alike S S.room S.strokes S.planned S.pOff S.pFrom S.pTo p h1 hp (by rw [← set_self h1]; exact hp) hk (fun _ _ => by rw [← set_self h1])
  rw [← set_self h1] at h
  exact congrArg Prod.snd h
/-- The bytes are never more than were given. -/
theorem play_used {S : St} {k : Nat} (hv : Inv S) (hz : Sz S k) (p : Opx) (hb : ∀ y ∈ p.b, y < 256) (h1 : S.off = false) (hp : S.power = 0) (hk : 1 ≤ p.kind ∧ p.kind ≤ 6) (hu : S.used + p.b.length ≤ S.room) : (S.play p).2.used ≤ S.used + p.b.length := by
  have hq : (S.set (S.used + p.b.length) S.strokes S.planned S.pOff S.pFrom S.pTo).power = 0 := hp
  have h := play_alike S (S.used + p.b.length) S.strokes S.planned S.pOff S.pFrom S.pTo p h1 hp hq hk (fun _ _ => by
    rw [stroked_set h1 hp, stroked_set rfl hq]
    unfold St.full
    congr 1
    show decide (S.used + p.b.length < p.b.length + S.used) = decide (S.room < p.b.length + S.used)
    rw [decide_eq_decide]; omega)
  have hT : Inv (S.set (S.used + p.b.length) S.strokes S.planned S.pOff S.pFrom S.pTo) :=
    ⟨Nat.le_trans hu hv.room, hv.srt, hv.srts, hv.ins, hv.inf, hv.chg, hv.nod, hv.most, hv.mosts, Nat.le_add_right _ _, hv.fold⟩
  have hZ : Sz (S.set (S.used + p.b.length) S.strokes S.planned S.pOff S.pFrom S.pTo) k := ⟨hz.st, hz.pl, hz.ch, hz.fl⟩
  have hg := (good_play hT hZ p hb).inv.used
  rw [h] at hg
  exact hg

/-- A disk with a plan to be full from f to t, and one of the same files with none. -/
structure Tw (A B : St) (f t : Int) (n : Nat) : Prop where
  off : A.off = false
  pOff : A.pOff = 0
  pFrom : A.pFrom = f
  pTo : A.pTo = t
  st : A.strokes = n
  pl : A.planned = n
  eq : ∃ s m, B = A.set A.room s m 0 0 0
theorem Tw.powA {A B : St} {f t : Int} {n : Nat} (h : Tw A B f t n) : A.power = 0 := by unfold St.power; rw [h.pOff, if_neg (by omega)]
theorem set_pow (A : St) (r s m : Nat) (b c : Int) : (A.set r s m 0 b c).power = 0 := by
  unfold St.power; exact if_neg (by show ¬ ((m + 1 : Nat) : Int) = 0; omega)
theorem Tw.crash {A B : St} {f t : Int} {n : Nat} (h : Tw A B f t n) (ps : List Int) : B.crash ps = A.crash ps := by
  obtain ⟨s, m, e⟩ := h.eq; rw [e]; rfl
theorem Tw.image {A B : St} {f t : Int} {n : Nat} (h : Tw A B f t n) : B.image = A.image := by
  obtain ⟨s, m, e⟩ := h.eq; rw [e]; unfold St.image; rw [h.off]; rfl
theorem Tw.used {A B : St} {f t : Int} {n : Nat} (h : Tw A B f t n) : B.used = A.used := by
  obtain ⟨s, m, e⟩ := h.eq; rw [e]; rfl
theorem Tw.turned {A B : St} {f t : Int} {n : Nat} (h : Tw A B f t n) (p : Opx) (hk : 1 ≤ p.kind ∧ p.kind ≤ 6) {B' : St} (he : ∃ s m, B' = (A.play p).2.set (A.play p).2.room s m 0 0 0) : Tw (A.play p).2 B' f t (n + cnt (A.play p).1) := by
  have e := play_set A p h.off h.powA hk
  exact ⟨by rw [e]; rfl, by rw [e]; exact h.pOff, by rw [e]; exact h.pFrom, by rw [e]; exact h.pTo, by rw [e, ← h.st]; rfl, by rw [e, ← h.pl]; rfl, he⟩
/-- Refused: at a stroke of the plan, and nothing has changed. -/
theorem Tw.full {A B : St} {f t : Int} {n : Nat} (h : Tw A B f t n) (p : Opx) (k1 : p.kind = 1) (hu : A.used + p.b.length ≤ A.room) (e44 : (A.play p).1 = 44) :
    f ≤ (n + 1 : Nat) ∧ ((n + 1 : Nat) : Int) ≤ t ∧ Tw (A.play p).2 B f t (n + 1) ∧ (∀ ps, (A.play p).2.crash ps = A.crash ps) ∧ (A.play p).2.used = A.used := by
  have e := stroked_set h.off h.powA
  have hA : A.play p = A.appendR p.name p.b := by unfold St.play; rw [if_pos k1]
  have hk : 1 ≤ p.kind ∧ p.kind ≤ 6 := by omega
  have key : A.stroked.full p.b.length = true ∧ (A.play p).2 = A.stroked := by
    rw [hA] at e44 ⊢
    unfold St.appendR at e44 ⊢
    rw [h.powA, h.off] at *
    simp only [Bool.false_eq_true, if_false] at e44 ⊢
    split at e44
    · cases e44
    · rename_i c1
      rw [if_neg c1]
      split at e44
      · rename_i c2
        rw [if_pos c2]; exact ⟨c2, rfl⟩
      · split at e44 <;> cases e44
  have hfull := key.1
  rw [e] at hfull
  unfold St.full St.fullP at hfull
  have hr : ¬ A.room < p.b.length + A.used := by omega
  have hd : decide ((A.set A.room (A.strokes + 1) (A.planned + 1) A.pOff A.pFrom A.pTo).room < p.b.length + (A.set A.room (A.strokes + 1) (A.planned + 1) A.pOff A.pFrom A.pTo).used) = false := decide_eq_false hr
  rw [hd, Bool.or_false] at hfull
  have hfull2 : (decide (1 ≤ A.pFrom) && decide (A.pFrom ≤ ((A.planned + 1 : Nat) : Int)) && decide (((A.planned + 1 : Nat) : Int) ≤ A.pTo)) = true := hfull
  simp only [Bool.and_eq_true, decide_eq_true_eq] at hfull2
  rw [h.pFrom, h.pTo, h.pl] at hfull2
  have ht := h.turned p hk (B' := B) (by
    rw [key.2, e]
    obtain ⟨s, m, eb⟩ := h.eq
    exact ⟨s, m, eb⟩)
  rw [e44] at ht
  refine ⟨hfull2.1.2, hfull2.2, ht, fun ps => ?_, ?_⟩
  · rw [key.2, e]; rfl
  · rw [key.2, e]; rfl
/-- Else: both answer alike. -/
theorem Tw.step {A B : St} {f t : Int} {n : Nat} (h : Tw A B f t n) (hf1 : 1 ≤ f) (p : Opx) (hk : 1 ≤ p.kind ∧ p.kind ≤ 6) (hn : ¬ (p.kind = 1 ∧ (A.play p).1 = 44)) :
    (p.kind = 1 → (A.play p).1 = 0 → ¬ (f ≤ ((n + 1 : Nat) : Int) ∧ ((n + 1 : Nat) : Int) ≤ t)) ∧ (B.play p).1 = (A.play p).1 ∧ Tw (A.play p).2 (B.play p).2 f t (n + cnt (A.play p).1) := by
  have e := stroked_set h.off h.powA
  obtain ⟨s, m, eb⟩ := h.eq
  have hfl : p.kind = 1 → ¬ (isNm p.name = false ∨ (lookN A.seen p.name = none ∧ 64 ≤ A.seen.length)) → A.stroked.full p.b.length = false := fun k1 c1 => by
    cases c2 : A.stroked.full p.b.length with
    | false => rfl
    | true =>
      refine absurd ⟨k1, ?_⟩ hn
      unfold St.play
      rw [if_pos k1]
      unfold St.appendR
      rw [h.off]
      simp only [Bool.false_eq_true, if_false]
      rw [if_neg c1, if_pos c2, h.powA, if_pos rfl]
  have hal := play_alike A A.room s m 0 0 0 p h.off h.powA (set_pow _ _ _ _ _ _) hk (fun k1 c1 => by
    have h2 := hfl k1 c1
    rw [h2]
    rw [e] at h2
    rw [stroked_set rfl (set_pow _ _ _ _ _ _)]
    unfold St.full at h2 ⊢
    simp only [Bool.or_eq_false_iff, decide_eq_false_iff_not] at h2 ⊢
    refine ⟨?_, h2.2⟩
    unfold St.fullP
    rfl)
  rw [← eb] at hal
  refine ⟨fun k1 e0 hc => ?_, by rw [hal], h.turned p hk ⟨_, _, by rw [hal]; rw [show (A.play p).2.room = A.room by rw [play_set A p h.off h.powA hk]; rfl]⟩⟩
  have c1 : ¬ (isNm p.name = false ∨ (lookN A.seen p.name = none ∧ 64 ≤ A.seen.length)) := fun c1 => by
    unfold St.play at e0
    rw [if_pos k1] at e0
    unfold St.appendR at e0
    rw [h.off] at e0
    simp only [Bool.false_eq_true, if_false] at e0
    rw [if_pos c1] at e0
    cases e0
  have h2 := hfl k1 c1
  rw [e] at h2
  unfold St.full St.fullP at h2
  simp only [Bool.or_eq_false_iff, Bool.and_eq_false_iff, decide_eq_false_iff_not] at h2
  have h3 : (¬ 1 ≤ A.pFrom ∨ ¬ A.pFrom ≤ ((A.planned + 1 : Nat) : Int)) ∨ ¬ ((A.planned + 1 : Nat) : Int) ≤ A.pTo := h2.1
  rw [h.pFrom, h.pTo, h.pl] at h3
  omega
theorem tw_new (r : Nat) (f t : Int) : Tw ((St.new r).planR 0 f t) (St.new r) f t 0 := ⟨rfl, rfl, rfl, rfl, rfl, rfl, 0, 0, rfl⟩

end Go.Proofs.Ytlpafgjgoheomaa
