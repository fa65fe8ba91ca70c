import Derived.Test.YtlmfohcdaahojaaGreatDoorJCrS
import Derived.Test.YtlmfohcdaahojaaGreatDoorJTornP
import Derived.Test.YtlmfohcdaahojaaGreatDoorJGoesAt
namespace Go.Proofs.YtlmfohcdaahojaaGreatDoor
open Go.RowKit Go.Maps

/-! A journal that goes on, whatever lies on its disk beside it -/
def jz : Nm := jx ++ newE
theorem jz_ok : isNm jz = true := jx_ok.2
theorem jz_ne : jz ≠ jx := jx_new
theorem runs_inv : ∀ (l : List Stk) (S : St) (J : Jr) (k : Nat), Inv S → Sz S k → (∀ s ∈ l, s.fits) → Inv (runs S J l).2.1 ∧ Sz (runs S J l).2.1 (k + 4194305 * l.length)
  | [], S, J, k, hv, hz, _ => ⟨hv, hz⟩
  | s :: l, S, J, k, hv, hz, hf => by
    have g := step_good hv hz J s (hf s (by simp))
    unfold runs
    split
    · obtain ⟨h1, h2⟩ := runs_inv l _ (s.run S J).2.2 (k + 4194305) g.inv g.sz (fun s hs => hf s (List.mem_cons_of_mem _ hs))
      refine ⟨h1, ?_⟩
      rw [List.length_cons, show k + 4194305 * (l.length + 1) = k + 4194305 + 4194305 * l.length by omega]
      exact h2
    · refine ⟨g.inv, g.sz.mono ?_⟩
      rw [List.length_cons]; omega
theorem rem_view {S : St} (ho : On S) {x : Nm} (hx : isNm x = true) {b : List Nat} (hb : S.v x = some b) : ∃ S', S.removeR x = (0, S') ∧ One S S' ∧ (∀ y, S'.v y = if y = x then none else S.v y) := by
  have he : S.err x = 0 := by rw [err_view ho.off hx, if_neg (by rw [hb]; simp)]
  have hs := ho.stroked
  refine ⟨S.stroked.ren ⟨x, [], 0⟩, ?_, ⟨⟨hs.off, hs.pw⟩, rfl, rfl, rfl, rfl, rfl⟩, fun y => ?_⟩
  · unfold St.removeR
    rw [if_neg (by omega), ho.power]
  · unfold St.v
    show (lookN (withN S.seen ⟨x, [], 0⟩) y).map _ = _
    have e : withN S.seen ⟨x, [], 0⟩ = delN x S.seen := by unfold withN; rw [if_pos rfl]
    rw [e, look_del]
    by_cases hy : y = x
    · rw [if_pos hy, if_pos hy]; rfl
    · rw [if_neg hy, if_neg hy]; rfl
/-- Only the journal's two names are to be seen. -/
def Vis (S : St) : Prop := ∀ y, S.v y ≠ none → y = jx ∨ y = jz
theorem Vis.few {S : St} (h : Vis S) (hv : Inv S) : S.seen.length < 64 :=
  Nat.lt_of_le_of_lt (seen_le hv [jx, jz] (fun y hy => by simp; exact h y hy)) (by simp)
theorem Vis.of {S S' : St} (h : Vis S) (hx : ∀ y, S'.v y ≠ none → y = jx ∨ y = jz ∨ S.v y ≠ none) : Vis S' := fun y hy => by
  rcases hx y hy with e | e | e
  · exact Or.inl e
  · exact Or.inr e
  · exact h y e
theorem tail_add {S : St} {k : Nat} (J : Jr) (hv : Inv S) (hz : Sz S k) (on : On S) (hvis : Vis S) (r : List Nat) (hsm : ∀ y ∈ r, y < 256) (hrl : r.length ≤ 4194304) (nmd : Bool) :
    ∃ e S', runs S J ([.app jx r, .sync jx] ++ (if nmd then [] else [.names])) = (e, S', J) ∧ (e = 0 ∨ e = 44) ∧ On S' ∧ Vis S' := by
  rcases app_view hv on jx_ok.1 r (Or.inr (hvis.few hv)) with ⟨hf, ha⟩ | ⟨hf, S1, ha, one1, hv1, hu1, hc1⟩
  · exact ⟨44, S.stroked, runs_app _ ha, Or.inr rfl, on.stroked, hvis⟩
  · have g1 := step_good hv hz J (.app jx r) ⟨hsm, hrl⟩
    have e1 : ((Stk.app jx r).run S J).2.1 = S1 := by simp [Stk.run, ha]
    rw [e1] at g1
    have hb1 : S1.v jx = some ((S.v jx).getD [] ++ r) := by rw [hv1, if_pos rfl]
    have vis1 : Vis S1 := hvis.of fun y hy => by
      by_cases e : y = jx
      · exact Or.inl e
      · rw [hv1, if_neg e] at hy; exact Or.inr (Or.inr hy)
    obtain ⟨S2, hs2, one2, hv2, _⟩ := sync_view g1.inv one1.on jx_ok.1 hb1
    have vis2 : Vis S2 := fun y hy => vis1 y (by rw [← hv2]; exact hy)
    cases nmd with
    | true =>
      refine ⟨0, S2, ?_, Or.inl rfl, one2.on, vis2⟩
      show runs S J [.app jx r, .sync jx] = _
      rw [runs_app _ ha, if_pos rfl, runs_sync _ hs2, if_pos rfl]
      rfl
    | false =>
      obtain ⟨S3, hs3, one3, hv3, _⟩ := names_view one2.on
      refine ⟨0, S3, ?_, Or.inl rfl, one3.on, fun y hy => vis2 y (by rw [← hv3]; exact hy)⟩
      show runs S J [.app jx r, .sync jx, .names] = _
      rw [runs_app _ ha, if_pos rfl, runs_sync _ hs2, if_pos rfl, runs_names _ hs3, if_pos rfl]
      rfl
theorem tail_chk {S : St} {k : Nat} (J : Jr) (hv : Inv S) (hz : Sz S k) (on : On S) (hvis : Vis S) (r : List Nat) (hsm : ∀ y ∈ r, y < 256) (hrl : r.length ≤ 4194304) :
    ∃ e S' J', runs S J [.app jz r, .sync jz, .ren jz jx, .names, .drop] = (e, S', J') ∧ ((e = 0 ∧ J' = J.bare) ∨ (e = 44 ∧ J' = J)) ∧ On S' ∧ Vis S' ∧ (e = 44 → S'.v jx = S.v jx) := by
  rcases app_view hv on jz_ok r (Or.inr (hvis.few hv)) with ⟨hf, ha⟩ | ⟨hf, S1, ha, one1, hv1, hu1, hc1⟩
  · exact ⟨44, S.stroked, J, runs_app _ ha, Or.inr ⟨rfl, rfl⟩, on.stroked, hvis, fun _ => rfl⟩
  · have g1 := step_good hv hz J (.app jz r) ⟨hsm, hrl⟩
    have e1 : ((Stk.app jz r).run S J).2.1 = S1 := by simp [Stk.run, ha]
    rw [e1] at g1
    have hb1 : S1.v jz = some ((S.v jz).getD [] ++ r) := by rw [hv1, if_pos rfl]
    have vis1 : Vis S1 := hvis.of fun y hy => by
      by_cases e : y = jz
      · exact Or.inr (Or.inl e)
      · rw [hv1, if_neg e] at hy; exact Or.inr (Or.inr hy)
    obtain ⟨S2, hs2, one2, hv2, _⟩ := sync_view g1.inv one1.on jz_ok hb1
    have g2 := step_good g1.inv g1.sz J (.sync jz) True.intro
    have e2 : ((Stk.sync jz).run S1 J).2.1 = S2 := by simp [Stk.run, hs2]
    rw [e2] at g2
    have vis2 : Vis S2 := fun y hy => vis1 y (by rw [← hv2]; exact hy)
    obtain ⟨S3, hs3, one3, hv3, _⟩ := ren_view g2.inv one2.on jz_ok jx_ok.1 jz_ne (by rw [hv2]; exact hb1)
    have vis3 : Vis S3 := vis2.of fun y hy => by
      by_cases e : y = jx
      · exact Or.inl e
      · by_cases e2 : y = jz
        · exact Or.inr (Or.inl e2)
        · rw [hv3, if_neg e, if_neg e2] at hy; exact Or.inr (Or.inr hy)
    obtain ⟨S4, hs4, one4, hv4, _⟩ := names_view one3.on
    refine ⟨0, S4, J.bare, ?_, Or.inl ⟨rfl, rfl⟩, one4.on, fun y hy => vis3 y (by rw [← hv4]; exact hy), fun h => by cases h⟩
    rw [runs_app _ ha, if_pos rfl, runs_sync _ hs2, if_pos rfl, runs_ren _ hs3, if_pos rfl, runs_names _ hs4, if_pos rfl, runs_drop]
    rfl
/-- A JOURNAL THAT GOES ON. -/
structure Gs (S : St) (J : Jr) (l : List (List (List Nat))) (n k : Nat) : Prop where
  on : On S
  inv : Inv S
  sz : Sz S k
  vis : Vis S
  nm : J.name = jx
  off : J.off = false
  recs : J.recs = recsOf n l
  trns : Trns n l
  last : J.last + 1 = n + l.length
  pos : 1 ≤ n
  torn : J.torn = true → ∃ b, S.v jx = some b ∧ goodN J ≤ b.length
theorem Gs.gd {S : St} {J : Jr} {l : List (List (List Nat))} {n k : Nat} (h : Gs S J l n k) (hk : k ≤ 500000000000) (hl : l.length ≤ 900) (hn : n ≤ 1000000) : Gd S J l := by
  have hlens := trns_lens h.trns
  have hsm := sum_lens _ hlens
  rw [recs_length] at hsm
  have hla := h.last
  refine ⟨h.inv, ⟨k, by omega, h.sz⟩, ?_, ?_, by omega, by rw [h.recs]; exact hlens, by rw [h.recs]; exact allOf_recs l n h.trns, by rw [h.recs]; exact recs_length l n, trns_few h.trns, hl⟩
  · show (J.name ++ newE).length ≤ 64
    rw [h.nm]; decide
  · show (J.recs.map List.length).sum ≤ _
    rw [h.recs]; omega
theorem Gs.step {S : St} {J : Jr} {l : List (List (List Nat))} {n k : Nat} (h : Gs S J l n k) (b : Bool) (ps : List (List Nat)) (hf : fitsB ps = true) (hsm : ∀ q ∈ ps, ∀ x ∈ q, x < 256) (hnum : n + l.length ≤ 1099511627776) :
    (∃ S' J', callR b S J ps = (44, S', J') ∧ Gs S' J' l n (k + 25165830)) ∨ (∃ S' J', callR b S J ps = (0, S', J') ∧ Gs S' J' (lAf b l ps) (nAf b n l) (k + 25165830)) := by
  obtain ⟨hrl, hok⟩ := rec_fit hf (num := J.last + 1) (by rw [h.last]; exact hnum)
  have htr : Trn (J.last + 1) ps := ⟨by omega, hok, hsm⟩
  have hrs := htr.rec_small
  obtain ⟨r, hr⟩ : ∃ r, recB (J.last + 1) ps = r := ⟨_, rfl⟩
  rw [hr] at hrl hrs
  have hr2 : recB (n + l.length) ps = r := by rw [← h.last]; exact hr
  have hoff := h.off
  have hpos := h.pos
  cases b with
  | false =>
    have hfit := adds_fit J r hrs (by omega)
    obtain ⟨i1, i2⟩ := runs_inv (J.adds r) S J k h.inv h.sz hfit.2
    have hlen := hfit.1
    have hpre : ∃ S1 J1, runs S J (J.adds r) = runs S1 J1 ([.app jx r, .sync jx] ++ (if J.named then [] else [.names])) ∧ J1 = { J with torn := false } ∧ On S1 ∧ Inv S1 ∧ Vis S1 ∧ ∃ k1, Sz S1 k1 := by
      have ha : J.adds r = (if J.torn then [.cut jx (goodN J), .mend] else []) ++ [.app jx r, .sync jx] ++ (if J.named then [] else [.names]) := by unfold Jr.adds; rw [h.nm]
      rw [ha]
      cases ht : J.torn with
      | false =>
        refine ⟨S, J, rfl, ?_, h.on, h.inv, h.vis, k, h.sz⟩
        cases J
        simp only at ht
        subst ht
        rfl
      | true =>
        obtain ⟨bb, hb, hle⟩ := h.torn ht
        obtain ⟨S1, hc, one1, hv1, _⟩ := cut_view h.inv h.on jx_ok.1 hb hle
        have g1 := step_good h.inv h.sz J (.cut jx (goodN J)) True.intro
        have e1 : ((Stk.cut jx (goodN J)).run S J).2.1 = S1 := by
          show (S.cutR jx (goodN J : Nat)).2 = S1
          rw [hc]
        rw [e1] at g1
        refine ⟨S1, { J with torn := false }, ?_, rfl, one1.on, g1.inv, h.vis.of fun y hy => ?_, _, g1.sz⟩
        · show runs S J (.cut jx (goodN J) :: .mend :: _) = _
          rw [runs_cut _ hc, if_pos rfl, runs_mend]
          rfl
        · by_cases e : y = jx
          · exact Or.inl e
          · rw [hv1, if_neg e] at hy; exact Or.inr (Or.inr hy)
    obtain ⟨S1, J1, hrun, hJ1, on1, inv1, vis1, k1, sz1⟩ := hpre
    obtain ⟨e, S', hru, hee, on', vis'⟩ := tail_add J1 inv1 sz1 on1 vis1 r hrs (by omega) J.named
    rw [hru] at hrun
    rw [hrun] at i1 i2
    have hcall : callR false S J ps = if e = 0 then (0, S', J1.took r) else (e, S', { J1 with off := decide (e = 45) }) := by
      show addR S J ps = _
      unfold addR keepR
      rw [hoff, hok, hr, hrun]
      simp
    subst hJ1
    rcases hee with rfl | rfl
    · refine Or.inr ⟨S', _, hcall, ⟨on', i1, i2.mono (by omega), vis', h.nm, rfl, ?_, ?_, ?_, hpos, fun ht => by cases ht⟩⟩
      · show J.recs ++ [r] = recsOf n (l ++ [ps])
        rw [recs_snoc, h.recs, hr2]
      · exact trns_snoc l n ps h.trns (by rw [← h.last]; exact htr)
      · show J.last + 1 + 1 = n + (l ++ [ps]).length
        rw [h.last, List.length_append]; rfl
    · exact Or.inl ⟨S', _, hcall, ⟨on', i1, i2.mono (by omega), vis', h.nm, by show decide ((44 : Nat) = 45) = false; decide, h.recs, h.trns, h.last, hpos, fun ht => by cases ht⟩⟩
  | true =>
    have hfit := reps_fit J S r hrs (by omega)
    obtain ⟨i1, i2⟩ := runs_inv (J.reps S r) S J k h.inv h.sz hfit.2
    have hlen := hfit.1
    have hpre : ∃ S1, runs S J (J.reps S r) = runs S1 J [.app jz r, .sync jz, .ren jz jx, .names, .drop] ∧ On S1 ∧ Inv S1 ∧ Vis S1 ∧ S1.v jx = S.v jx ∧ ∃ k1, Sz S1 k1 := by
      have hse : J.second = jz := by show J.name ++ newE = _; rw [h.nm]; rfl
      unfold Jr.reps
      rw [hse, h.nm]
      by_cases he : S.err jz = 0
      · rw [if_pos he]
        obtain ⟨bb, hb⟩ : ∃ bb, S.v jz = some bb := by
          rw [err_view h.on.off jz_ok] at he
          cases hv : S.v jz with
          | none => rw [hv, if_pos rfl] at he; cases he
          | some bb => exact ⟨bb, rfl⟩
        obtain ⟨S1, hre, one1, hv1⟩ := rem_view h.on jz_ok hb
        have g1 := step_good h.inv h.sz J (.rem jz) True.intro
        have e1 : ((Stk.rem jz).run S J).2.1 = S1 := by
          show (S.removeR jz).2 = S1
          rw [hre]
        rw [e1] at g1
        refine ⟨S1, ?_, one1.on, g1.inv, h.vis.of fun y hy => ?_, by rw [hv1, if_neg (Ne.symm jz_ne)], _, g1.sz⟩
        · show runs S J (.rem jz :: _) = _
          rw [runs_one]
          have e0 : ((Stk.rem jz).run S J) = (0, S1, J) := by
            show ((S.removeR jz).1, (S.removeR jz).2, J) = _
            rw [hre]
          rw [e0, if_pos rfl]
          rfl
        · by_cases e : y = jz
          · exact Or.inr (Or.inl e)
          · rw [hv1, if_neg e] at hy; exact Or.inr (Or.inr hy)
      · rw [if_neg he]
        exact ⟨S, rfl, h.on, h.inv, h.vis, rfl, k, h.sz⟩
    obtain ⟨S1, hrun, on1, inv1, vis1, hvx, k1, sz1⟩ := hpre
    obtain ⟨e, S', J1, hru, hee, on', vis', hkeep⟩ := tail_chk J inv1 sz1 on1 vis1 r hrs (by omega)
    rw [hru] at hrun
    rw [hrun] at i1 i2
    have hcall : callR true S J ps = if e = 0 then (0, S', J1.took r) else (e, S', { J1 with off := decide (e = 45) }) := by
      show chkR S J ps = _
      unfold chkR keepR
      rw [hoff, hok, hr, hrun]
      simp
    rcases hee with ⟨rfl, rfl⟩ | ⟨rfl, rfl⟩
    · refine Or.inr ⟨S', _, hcall, ⟨on', i1, i2.mono (by omega), vis', h.nm, rfl, ?_, ?_, ?_, ?_, fun ht => by cases ht⟩⟩
      · show [] ++ [r] = recsOf (n + l.length) [ps]
        rw [← hr2]; rfl
      · show Trns (n + l.length) [ps]
        rw [← h.last]; exact ⟨htr, True.intro⟩
      · show J.last + 1 + 1 = n + l.length + 1
        rw [h.last]
      · show 1 ≤ n + l.length
        omega
    · refine Or.inl ⟨S', _, hcall, ⟨on', i1, i2.mono (by omega), vis', h.nm, by show decide ((44 : Nat) = 45) = false; decide, h.recs, h.trns, h.last, hpos, fun ht => ?_⟩⟩
      obtain ⟨bb, hb, hle⟩ := h.torn ht
      exact ⟨bb, by rw [hkeep rfl, hvx]; exact hb, hle⟩
end Go.Proofs.YtlmfohcdaahojaaGreatDoor
namespace Go.Proofs.YtlmfohcdaahojaaGreatDoor
open Go.RowKit Go.Maps

/-! What is opened behind a crash -/
theorem found_rest {S : St} (ho : S.off = false) {n : Nat} {l : List (List (List Nat))} (hl : Trns n l) {rest : List Nat} (hb : (S.v jx).getD [] = (recsOf n l).flatten ++ rest) (hrest : rest = [] ∨ ∃ q ps t, Trn q ps ∧ 0 < t ∧ t < (recB q ps).length ∧ rest = (recB q ps).take t) :
    S.found jx = (recsOf n l, if l = [] then 0 else n + l.length - 1, decide (rest ≠ []), 0) := by
  unfold St.found
  rw [bytes_view ho jx_ok.1, hb]
  have hkp := recs_pos hl
  have hf : ((recsOf n l).flatten ++ rest).length + 1 = ((recsOf n l).flatten.length - l.length + rest.length) + 1 + l.length := by
    rw [List.length_append]; omega
  rw [hf, goB_recs l n _ _ [] 0 hl (Or.inl rfl), List.nil_append]
  rcases hrest with e | ⟨q, ps, t, h1, h2, h3, e⟩
  · subst e
    rw [goB, if_pos List.length_nil]
    simp
  · have hne : rest ≠ [] := fun h => by
      have := congrArg List.length e
      rw [h, List.length_take] at this
      simp at this
      omega
    rw [e, torn_rec h1 h2 h3, ← e, show decide (rest ≠ []) = true by simpa using hne]
theorem lookI_cons (p : Nm × List Nat) (l : Image) (x : Nm) : lookI (p :: l) x = if p.1 = x then some p.2 else lookI l x := by
  by_cases h : p.1 = x
  · simp [lookI, h]
  · simp [lookI, h]
theorem lookI_none {l : Image} {x : Nm} (h : ∀ p ∈ l, p.1 ≠ x) : lookI l x = none := by
  induction l with
  | nil => rfl
  | cons p l ih => rw [lookI_cons, if_neg (h p (by simp)), ih (fun q hq => h q (List.mem_cons_of_mem _ hq))]
theorem sum_two {x z : Nm} (hne : z ≠ x) : ∀ (l : Image), (l.Pairwise fun p q => p.1 ≠ q.1) → (∀ p ∈ l, p.1 = x ∨ p.1 = z) → sumI l ≤ ((lookI l x).getD []).length + ((lookI l z).getD []).length
  | [], _, _ => by simp [sumI]
  | p :: l, hp, hn => by
    have ih := sum_two hne l (List.pairwise_cons.1 hp).2 (fun q hq => hn q (List.mem_cons_of_mem _ hq))
    have hs : sumI (p :: l) = p.2.length + sumI l := by simp [sumI]
    rw [hs, lookI_cons, lookI_cons]
    rcases hn p (by simp) with e | e
    · have h0 : lookI l x = none := lookI_none (fun q hq => fun h => (List.pairwise_cons.1 hp).1 q hq (e.trans h.symm))
      rw [h0] at ih
      rw [if_pos e, if_neg (by rw [e]; exact Ne.symm hne)]
      simp at ih ⊢
      omega
    · have h0 : lookI l z = none := lookI_none (fun q hq => fun h => (List.pairwise_cons.1 hp).1 q hq (e.trans h.symm))
      rw [h0] at ih
      rw [if_neg (by rw [e]; exact hne), if_pos e]
      simp at ih ⊢
      omega
theorem lookI_mem {l : Image} {p : Nm × List Nat} (h : p ∈ l) : lookI l p.1 ≠ none := by
  induction l with
  | nil => cases h
  | cons q l ih =>
    rw [lookI_cons]
    by_cases e : q.1 = p.1
    · rw [if_pos e]; simp
    · rw [if_neg e]
      rcases List.mem_cons.1 h with rfl | h
      · exact absurd rfl e
      · exact ih h
/-- An image that a crash leaves can be loaded, where there is room. -/
theorem crash_room {T : St} (hv : Inv T) (hp : Past T) (ps : List Int) {m : Nat} (hm : sumI (T.crash ps) ≤ m) : okB (T.crash ps) m = true := by
  have hnm : ∀ p ∈ T.crash ps, isNm p.1 = true := fun p hp => by
    unfold St.crash at hp
    obtain ⟨i, hi, rfl⟩ := List.mem_mapIdx.1 hp
    exact (left_in hv ps _ (List.getElem_mem hi)).2
  have hs : (T.crash ps).Pairwise fun p q => bytesBefore p.1 q.1 = true := by
    have h := left_srt hv ps
    unfold Srt at h
    rw [List.pairwise_iff_getElem] at h ⊢
    intro i j hi hj hij
    have := h i j (by rw [crash_len] at hi; exact hi) (by rw [crash_len] at hj; exact hj) hij
    simpa [St.crash] using this
  have hb : ∀ x : Nm, isNm x = true → bytesBefore [] x = true := fun x h => by
    cases x with
    | nil => have := (nm_len h).1; simp at this
    | cons a l => rfl
  unfold okB
  rw [chn_of hnm hs [] (fun p hp => hb _ (hnm p hp)), decide_eq_true (by rw [crash_len]; exact hp.most _), decide_eq_true hm]
  rfl
theorem crash_apart {T : St} (hv : Inv T) (ps : List Int) : (T.crash ps).Pairwise fun p q => p.1 ≠ q.1 := by
  have h := (left_srt hv ps).nodup
  rw [List.pairwise_iff_getElem] at h ⊢
  intro i j hi hj hij
  have := h i j (by rw [crash_len] at hi; exact hi) (by rw [crash_len] at hj; exact hj) hij
  simpa [St.crash] using this
/-- The journal that is opened over a disk with an image. -/
structure Op (img : Image) (m : Nat) (l : List (List (List Nat))) (n : Nat) (τ : Bool) : Prop where
  ok : okB img m = true
  small : ∀ p ∈ img, ∀ x ∈ p.2, x < 256
  found : (St.laid m img).found jx = (recsOf n l, if l = [] then 0 else n + l.length - 1, τ, 0)
  vis : Vis (St.laid m img)
  trns : Trns n l
  emp : l = [] → n = 1
  pos : 1 ≤ n
  torn : τ = true → ∃ b, (St.laid m img).v jx = some b ∧ ((recsOf n l).map List.length).sum ≤ b.length
theorem Op.gs {img : Image} {m : Nat} {l : List (List (List Nat))} {n : Nat} {τ : Bool} (h : Op img m l n τ) (hm : m ≤ 16777216) : Gs (St.laid m img) (jnew jx ((St.laid m img).found jx)) l n 0 := by
  rw [h.found]
  refine ⟨⟨rfl, rfl⟩, laid_inv hm h.ok, laid_sz hm h.ok h.small, h.vis, rfl, rfl, rfl, h.trns, ?_, h.pos, fun ht => h.torn ht⟩
  show (if l = [] then 0 else n + l.length - 1) + 1 = n + l.length
  by_cases he : l = []
  · rw [if_pos he, he, h.emp he]; rfl
  · have := h.pos
    rw [if_neg he]; omega
theorem op_of {T : St} (hv : Inv T) {k : Nat} (hz : Sz T k) (hp : Past T) (ps : List Int) {m : Nat} {l : List (List (List Nat))} {n : Nat} (hl : Trns n l) (hemp : l = [] → n = 1) (hpos : 1 ≤ n) {rest : List Nat} (hb : (lookI (T.crash ps) jx).getD [] = (recsOf n l).flatten ++ rest) (hrest : rest = [] ∨ ∃ q qs t, Trn q qs ∧ 0 < t ∧ t < (recB q qs).length ∧ rest = (recB q qs).take t) (hvis : ∀ y, lookI (T.crash ps) y ≠ none → y = jx ∨ y = jz) (hm : sumI (T.crash ps) ≤ m) : Op (T.crash ps) m l n (decide (rest ≠ [])) := by
  have hbv : ((St.laid m (T.crash ps)).v jx).getD [] = (recsOf n l).flatten ++ rest := by rw [laid_look]; exact hb
  refine ⟨crash_room hv hp ps hm, fun p hp x hx => ?_, found_rest rfl hl hbv hrest, fun y hy => hvis y (by rw [← laid_look m]; exact hy), hl, hemp, hpos, fun ht => ?_⟩
  · unfold St.crash at hp
    obtain ⟨i, hi, rfl⟩ := List.mem_mapIdx.1 hp
    have hf := left_in hv ps _ (List.getElem_mem hi)
    have hin : T.file (T.leftN ps)[i].2 ∈ T.files := by
      unfold St.file
      rw [List.getElem?_eq_getElem hf.1]
      exact List.getElem_mem hf.1
    exact left_small (hz.fl _ hin).1 _ x hx
  · have hne : rest ≠ [] := by simpa using ht
    cases hv : (St.laid m (T.crash ps)).v jx with
    | none =>
      rw [hv] at hbv
      have := congrArg List.length hbv
      rw [List.length_append] at this
      have h0 : rest.length = 0 := by simp at this; omega
      exact absurd (List.eq_nil_of_length_eq_zero h0) hne
    | some b =>
      rw [hv] at hbv
      have hbv' : b = (recsOf n l).flatten ++ rest := hbv
      have e : ((recsOf n l).map List.length).sum = (recsOf n l).flatten.length := by rw [List.length_flatten]
      exact ⟨b, rfl, by rw [hbv', e, List.length_append]; omega⟩
/-- BEHIND ANY CRASH: what was there ahead of the call, or what the call would have left. -/
theorem crash_open (b : Bool) {S T : St} {kT : Nat} {J : Jr} {n : Nat} {l : List (List (List Nat))} (hJ : Jb S J n l) (hnm : J.name = jx) (hvis : ∀ y, S.v y ≠ none → y = jx) (hemp : l = [] → n = 1) (pt : List (List Nat)) (htr : Trn (n + l.length) pt) (hlen : (recB (n + l.length) pt).length ≤ 4025) (hused : ((S.v jx).getD []).length ≤ 100000) (hv : Inv T) (hz : Sz T kT) (hp : Past T) (e : Nat)
    (h : (e = 45 ∧ Lv T (if b then PC S J.name J.second (recB (n + l.length) pt) else PA S J.name (recB (n + l.length) pt))) ∨ (e = 0 ∧ Lv T (PN S J.name (if b then recB (n + l.length) pt else (S.v J.name).getD [] ++ recB (n + l.length) pt)))) (ps : List Int) :
    sumI (T.crash ps) ≤ 120000 ∧ ∃ l' n' τ, ((e = 45 ∧ l' = l ∧ n' = n) ∨ (l' = lAf b l pt ∧ n' = nAf b n l)) ∧ ∀ m, sumI (T.crash ps) ≤ m → Op (T.crash ps) m l' n' τ := by
  obtain ⟨r, hr⟩ : ∃ r, recB (n + l.length) pt = r := ⟨_, rfl⟩
  have hse : J.second = jz := by show J.name ++ newE = _; rw [hnm]; rfl
  have hold : (S.v jx).getD [] = (recsOf n l).flatten := by rw [← hnm, hJ.d.byt, hJ.recs]
  have hz0 : S.v jz = none := by
    cases e : S.v jz with
    | none => rfl
    | some b => exact absurd (hvis jz (by rw [e]; simp)) jz_ne
  rw [hr] at hlen h
  rw [hse, hnm] at h
  have hpos := hJ.pos
  have hsnoc : (recsOf n (l ++ [pt])).flatten = (recsOf n l).flatten ++ r := by rw [recs_snoc, hr]; simp
  have htrs : Trns n (l ++ [pt]) := trns_snoc l n pt hJ.trns htr
  -- what lies under the two names
  have hfx : ∀ y, y ≠ jx → y ≠ jz → lookI (T.crash ps) y = none := fun y h1 h2 => by
    have hn : S.v y = none := by
      cases e : S.v y with
      | none => rfl
      | some b => exact absurd (hvis y (by rw [e]; simp)) h1
    rcases h with ⟨_, h⟩ | ⟨_, h⟩
    · have := h ps y
      cases b with
      | true =>
        have h' : PC S jx jz r y (lookI (T.crash ps) y) := this
        unfold PC at h'
        rw [if_neg h1, if_neg h2] at h'
        rw [h', hn]
      | false =>
        have h' : PA S jx r y (lookI (T.crash ps) y) := this
        unfold PA at h'
        rw [if_neg h1] at h'
        rw [h', hn]
    · have h' := h ps y
      unfold PN at h'
      rw [if_neg h1] at h'
      rw [h', hn]
  have hvs : ∀ y, lookI (T.crash ps) y ≠ none → y = jx ∨ y = jz := fun y hy => by
    by_cases h1 : y = jx
    · exact Or.inl h1
    · by_cases h2 : y = jz
      · exact Or.inr h2
      · exact absurd (hfx y h1 h2) hy
  have hjz : ((lookI (T.crash ps) jz).getD []).length ≤ 4025 := by
    rcases h with ⟨_, h⟩ | ⟨_, h⟩
    · have := h ps jz
      cases b with
      | true =>
        have h' : PC S jx jz r jz (lookI (T.crash ps) jz) := this
        unfold PC at h'
        rw [if_neg jz_ne, if_pos rfl] at h'
        rcases h' with e | ⟨t, e⟩
        · rw [e]; simp
        · rw [e]
          show (r.take t).length ≤ 4025
          rw [List.length_take]; omega
      | false =>
        have h' : PA S jx r jz (lookI (T.crash ps) jz) := this
        unfold PA at h'
        rw [if_neg jz_ne] at h'
        rw [h', hz0]; simp
    · have h' := h ps jz
      unfold PN at h'
      rw [if_neg jz_ne] at h'
      rw [h', hz0]; simp
  have hap := crash_apart hv ps
  have hsum : ((lookI (T.crash ps) jx).getD []).length ≤ 104025 → sumI (T.crash ps) ≤ 120000 := fun hx => by
    have := sum_two jz_ne (T.crash ps) hap (fun p hp => hvs p.1 (lookI_mem hp))
    omega
  have hgl : ((S.v jx).getD []).length ≤ 100000 := hused
  -- the ways
  have hA : lookI (T.crash ps) jx = S.v jx → e = 45 → sumI (T.crash ps) ≤ 120000 ∧ ∃ l' n' τ, ((e = 45 ∧ l' = l ∧ n' = n) ∨ (l' = lAf b l pt ∧ n' = nAf b n l)) ∧ ∀ m, sumI (T.crash ps) ≤ m → Op (T.crash ps) m l' n' τ := fun hx he =>
    ⟨hsum (by rw [hx]; omega), l, n, _, Or.inl ⟨he, rfl, rfl⟩, fun m hm => op_of hv hz hp ps hJ.trns hemp hpos (rest := []) (by rw [hx, hold, List.append_nil]) (Or.inl rfl) hvs hm⟩
  have hB : b = false → lookI (T.crash ps) jx = some ((S.v jx).getD [] ++ r) → sumI (T.crash ps) ≤ 120000 ∧ ∃ l' n' τ, ((e = 45 ∧ l' = l ∧ n' = n) ∨ (l' = lAf b l pt ∧ n' = nAf b n l)) ∧ ∀ m, sumI (T.crash ps) ≤ m → Op (T.crash ps) m l' n' τ := fun hb hx => by
    subst hb
    exact ⟨hsum (by rw [hx]; show ((S.v jx).getD [] ++ r).length ≤ _; rw [List.length_append]; omega), l ++ [pt], n, _, Or.inr ⟨rfl, rfl⟩, fun m hm => op_of hv hz hp ps htrs (fun h => by simp at h) hpos (rest := []) (by rw [hx, hsnoc, List.append_nil, ← hold]; rfl) (Or.inl rfl) hvs hm⟩
  have hC : b = true → lookI (T.crash ps) jx = some r → sumI (T.crash ps) ≤ 120000 ∧ ∃ l' n' τ, ((e = 45 ∧ l' = l ∧ n' = n) ∨ (l' = lAf b l pt ∧ n' = nAf b n l)) ∧ ∀ m, sumI (T.crash ps) ≤ m → Op (T.crash ps) m l' n' τ := fun hb hx => by
    subst hb
    exact ⟨hsum (by rw [hx]; show r.length ≤ _; omega), [pt], n + l.length, _, Or.inr ⟨rfl, rfl⟩, fun m hm => op_of hv hz hp ps (l := [pt]) (n := n + l.length) ⟨htr, True.intro⟩ (fun h => by cases h) (by omega) (rest := []) (by rw [hx]; show r = _; rw [← hr]; simp [recsOf]) (Or.inl rfl) hvs hm⟩
  rcases h with ⟨he, h⟩ | ⟨he, h⟩
  · have := h ps jx
    cases b with
    | true =>
      have h' : PC S jx jz r jx (lookI (T.crash ps) jx) := this
      unfold PC at h'
      rw [if_pos rfl] at h'
      rcases h' with hx | hx
      · exact hA hx he
      · exact hC rfl hx
    | false =>
      have h' : PA S jx r jx (lookI (T.crash ps) jx) := this
      unfold PA at h'
      rw [if_pos rfl] at h'
      rcases h' with hx | ⟨t, hx⟩
      · exact hA hx he
      · by_cases ht : r.length ≤ t
        · rw [List.take_of_length_le ht] at hx
          exact hB rfl hx
        · refine ⟨hsum (by rw [hx]; show ((S.v jx).getD [] ++ r.take t).length ≤ _; rw [List.length_append, List.length_take]; omega), l, n, _, Or.inl ⟨he, rfl, rfl⟩, fun m hm => op_of hv hz hp ps hJ.trns hemp hpos (rest := r.take t) (by rw [hx, ← hold]; rfl) ?_ hvs hm⟩
          by_cases h0 : t = 0
          · left; rw [h0]; rfl
          · right; exact ⟨_, _, t, htr, by omega, by rw [hr]; omega, by rw [hr]⟩
  · have h' := h ps jx
    unfold PN at h'
    rw [if_pos rfl] at h'
    cases b with
    | true => exact hC rfl h'
    | false => exact hB rfl h'
end Go.Proofs.YtlmfohcdaahojaaGreatDoor
