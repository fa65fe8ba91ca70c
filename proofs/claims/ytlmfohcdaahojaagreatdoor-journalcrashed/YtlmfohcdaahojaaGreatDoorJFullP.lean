import Derived.Test.YtlmfohcdaahojaaGreatDoorJPlc
import Derived.Test.YtlmfohcdaahojaaGreatDoorJOpd
namespace Go.Proofs.YtlmfohcdaahojaaGreatDoor
open Go.RowKit Go.Maps

theorem full_room {S : St} {m : Nat} (h : S.stroked.full m = false) : S.used + m ≤ S.room := by
  unfold St.full at h
  have e2 : S.stroked.room = S.room := rfl
  have e3 : S.stroked.used = S.used := rfl
  rw [e2, e3] at h
  simp only [Bool.or_eq_false_iff, decide_eq_false_iff_not] at h
  omega
theorem stroked_jb {S : St} {J : Jr} {n : Nat} {l : List (List (List Nat))} (h : Jb S J n l) : Jb S.stroked J n l := ⟨⟨h.d.nm1, h.d.nm2, h.d.off, h.d.byt, h.d.sec, h.d.nmd⟩, h.recs, h.trns, h.last, h.torn, h.pos⟩
/-- A call on a disk whose power is on, with room or without: carried out, or nothing but a stroke. -/
theorem call_full (b : Bool) {S : St} {k : Nat} {J : Jr} {n : Nat} {l : List (List (List Nat))} (hS : Stl S k) (hJ : Jb S J n l) (ps : List (List Nat)) (hf : fitsB ps = true) (hsm : ∀ p ∈ ps, ∀ x ∈ p, x < 256) (hseen : S.seen.length < 64) (hnum : n + l.length ≤ 1099511627776) :
    (S.stroked.full (recB (J.last + 1) ps).length = true ∧ callR b S J ps = (44, S.stroked, J) ∧ Stl S.stroked (k + 20971525) ∧ Jb S.stroked J n l) ∨
    (S.stroked.full (recB (J.last + 1) ps).length = false ∧ ∃ S' J', callR b S J ps = (0, S', J') ∧ Stl S' (k + 20971525) ∧ Jb S' J' (nAf b n l) (lAf b l ps) ∧ (∀ y, y ≠ J.name → S'.v y = S.v y) ∧ S'.used ≤ S.room ∧ S'.room = S.room ∧ J'.name = J.name) := by
  obtain ⟨hl, hok⟩ := rec_fit hf (num := J.last + 1) (by rw [hJ.last]; exact hnum)
  have htr : Trn (J.last + 1) ps := ⟨by omega, hok, hsm⟩
  have hrs := htr.rec_small
  cases b with
  | true =>
    rcases chk_heal hS hJ.d ps hok hrs hseen with ⟨h, h1, h2⟩ | ⟨h, S', h1, h2, h3, h4, h5⟩
    · exact Or.inl ⟨h, h1, h2.more (by omega), stroked_jb hJ⟩
    · have hfr := full_room h
      refine Or.inr ⟨h, S', _, h1, h2, ⟨hJ.d.checked _ h3, ?_, ?_, ?_, rfl, ?_⟩, fun y hy => by rw [h3, if_neg hy], by omega, h4.room, rfl⟩
      · show [] ++ [recB (J.last + 1) ps] = recsOf (n + l.length) [ps]
        rw [hJ.last]; rfl
      · show Trns (n + l.length) [ps]
        rw [← hJ.last]; exact ⟨htr, True.intro⟩
      · show J.last + 1 + 1 = n + l.length + 1
        rw [hJ.last]
      · show 1 ≤ n + l.length
        have := hJ.pos; omega
  | false =>
    rcases add_heal hS hJ.d hJ.torn ps hok hrs (Or.inr hseen) with ⟨h, h1, h2⟩ | ⟨h, S', h1, h2, h3, h4, h5⟩
    · exact Or.inl ⟨h, h1, h2.more (by omega), stroked_jb hJ⟩
    · have hfr := full_room h
      refine Or.inr ⟨h, S', _, h1, h2.more (by omega), ⟨hJ.d.added _ h3, ?_, ?_, ?_, hJ.torn, hJ.pos⟩, fun y hy => by rw [h3, if_neg hy], by omega, h4.room, rfl⟩
      · show J.recs ++ [recB (J.last + 1) ps] = recsOf n (l ++ [ps])
        rw [recs_snoc, hJ.recs, hJ.last]
      · exact trns_snoc l n ps hJ.trns (by rw [← hJ.last]; exact htr)
      · show J.last + 1 + 1 = n + (l ++ [ps]).length
        rw [hJ.last, List.length_append]; rfl

/-- A DISK AND ITS ONE JOURNAL, as data: r the room, c the calls so far. -/
structure Fd (r : Nat) (S : St) (J : Jr) (l : List (List (List Nat))) (n c : Nat) : Prop where
  stl : Stl S (20971525 * c)
  jd : Jb S J n l
  nm : J.name = jx
  used : S.used ≤ r
  room : S.room = r
  vis : ∀ y, S.v y ≠ none → y = jx
  cnt : n + l.length ≤ c + 1
  emp : l = [] → n = 1
theorem Fd.seen {r : Nat} {S : St} {J : Jr} {l : List (List (List Nat))} {n c : Nat} (h : Fd r S J l n c) : S.seen.length < 64 :=
  Nat.lt_of_le_of_lt (seen_le h.stl.inv [jx] (fun y hy => by simp [h.vis y hy])) (by simp)
theorem Fd.step {r : Nat} {S : St} {J : Jr} {l : List (List (List Nat))} {n c : Nat} (h : Fd r S J l n c) (hc : c < 10000) (b : Bool) (ps : List (List Nat)) (hf : fitsB ps = true) (hsm : ∀ p ∈ ps, ∀ x ∈ p, x < 256) :
    (callR b S J ps = (44, S.stroked, J) ∧ S.stroked.full (recB (J.last + 1) ps).length = true ∧ Fd r S.stroked J l n (c + 1)) ∨
    (∃ S' J', callR b S J ps = (0, S', J') ∧ Fd r S' J' (lAf b l ps) (nAf b n l) (c + 1)) := by
  have hcn := h.cnt
  have hro := h.room
  rcases call_full b h.stl h.jd ps hf hsm h.seen (by omega) with ⟨h0, h1, h2, h3⟩ | ⟨_, S', J', h1, h2, h3, h4, h5, h6, h7⟩
  · exact Or.inl ⟨h1, h0, ⟨by rw [show 20971525 * (c + 1) = 20971525 * c + 20971525 by omega]; exact h2, h3, h.nm, h.used, h.room, h.vis, by omega, h.emp⟩⟩
  · refine Or.inr ⟨S', J', h1, ⟨by rw [show 20971525 * (c + 1) = 20971525 * c + 20971525 by omega]; exact h2, h3, h7.trans h.nm, by omega, h6.trans hro, fun y hy => ?_, ?_, fun he => ?_⟩⟩
    · by_cases e : y = J.name
      · rw [e, h.nm]
      · exact h.vis y (by rw [← h4 y e]; exact hy)
    · unfold lAf nAf
      cases b
      · simp; omega
      · simp; omega
    · unfold lAf at he
      cases b <;> simp at he
theorem Fd.plan {r : Nat} {S : St} {J : Jr} {l : List (List (List Nat))} {n c : Nat} (h : Fd r S J l n c) (x y : Int) : Fd r (S.planR 0 x y) J l n c := by
  have e : S.planR 0 x y = { S with pOff := 0, pFrom := x, pTo := y, planned := 0 } := by unfold St.planR; rw [h.stl.on.off]; rfl
  have i1 := h.stl.inv.plan 0 x y
  have i2 := h.stl.sz.plan 0 x y
  rw [e] at i1 i2 ⊢
  exact ⟨⟨i1, i2, ⟨h.stl.on.off, rfl⟩, h.stl.chg, h.stl.un⟩, ⟨⟨h.jd.d.nm1, h.jd.d.nm2, h.jd.d.off, h.jd.d.byt, h.jd.d.sec, h.jd.d.nmd⟩, h.jd.recs, h.jd.trns, h.jd.last, h.jd.torn, h.jd.pos⟩, h.nm, h.used, h.room, h.vis, h.cnt, h.emp⟩
theorem Fd.found {r : Nat} {S : St} {J : Jr} {l : List (List (List Nat))} {n c : Nat} (h : Fd r S J l n c) (r' : Nat) : (St.laid r' S.image).found jx = (recsOf n l, if l = [] then 0 else n + l.length - 1, false, 0) := by
  refine found_recsN rfl jx_ok.1 h.jd.trns ?_
  rw [laid_v h.stl.on.off, ← h.nm, h.jd.d.byt, h.jd.recs]

end Go.Proofs.YtlmfohcdaahojaaGreatDoor
