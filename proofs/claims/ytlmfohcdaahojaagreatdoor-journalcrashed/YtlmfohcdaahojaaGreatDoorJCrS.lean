import Derived.Test.YtlmfohcdaahojaaGreatDoorJCrR
namespace Go.Proofs.YtlmfohcdaahojaaGreatDoor
open Go.RowKit Go.Maps

theorem chk_runs {S : St} {k : Nat} {J : Jr} (hS : Stl S k) (nm1 : isNm J.name = true) (nm2 : isNm J.second = true) (hsec : S.v J.second = none) (h64 : S.seen.length < 64) (r : List Nat) (p : Nat) (hf : (S.offAt p).stroked.full r.length = false) :
    ∃ e T J', runs (S.offAt p) J (J.reps (S.offAt p) r) = (e, T, J') ∧ ((e = 45 ∧ J' = J ∧ Lv T (PC S J.name J.second r)) ∨ (e = 0 ∧ J' = J.bare ∧ Lv T (PN S J.name r))) := by
  have h0 : (S.offAt p).off = false := hS.on.off
  have hne : J.second ≠ J.name := fun e => second_ne e.symm
  have hl : lookN S.seen J.second = none := by
    unfold St.v at hsec
    cases h : lookN S.seen J.second with
    | none => rfl
    | some i => rw [h] at hsec; cases hsec
  have herr : (S.offAt p).err J.second ≠ 0 := by
    rw [err_view h0 nm2, if_pos (show (S.offAt p).v J.second = none from hsec)]; omega
  have hreps : J.reps (S.offAt p) r = [.app J.second r, .sync J.second, .ren J.second J.name, .names, .drop] := by unfold Jr.reps; rw [if_neg herr]; rfl
  rw [hreps]
  have hap := app_new (T := S.offAt p) h0 nm2 hl h64 r hf
  have hpw := power_at (T := S.offAt p) (c := 0) (p := p) rfl rfl
  obtain ⟨T1, hT1⟩ : ∃ T1, (((S.offAt p).stroked.made ⟨[], []⟩).ren ⟨[], J.second, (S.offAt p).files.length⟩).turn (S.offAt p).files.length ((⟨[], []⟩ : Fil).add r) = T1 := ⟨_, rfl⟩
  rw [hT1] at hap
  have t1s : T1.safe = S.safe := by rw [← hT1]; rfl
  have t1c : T1.chg = [⟨[], J.second, S.files.length⟩] := by rw [← hT1]; show S.chg ++ _ = _; rw [hS.chg]; rfl
  have t1f : T1.files = S.files ++ [⟨[], bus r⟩] := by
    rw [← hT1]
    show (S.files ++ [(⟨[], []⟩ : Fil)]).set S.files.length _ = _
    rw [List.set_append_right _ _ (Nat.le_refl _)]
    simp [Fil.add]
  have t1e : lookN T1.seen J.second = some S.files.length := by
    rw [← hT1]
    show lookN (withN S.seen ⟨[], J.second, S.files.length⟩) J.second = _
    rw [look_with S.seen _ (nm_ne5 nm2), if_pos rfl]
  have lvT1 : ∀ T, T.safe = S.safe → T.chg = [⟨[], J.second, S.files.length⟩] → T.files = S.files ++ [⟨[], bus r⟩] → Lv T (PC S J.name J.second r) := fun T a1 a2 a3 => (lv_made hS nm2 hl _ a1 a2 a3).mono fun y b hb => by
    unfold PC
    by_cases hy : y = J.second
    · rw [if_pos hy] at hb
      rw [if_neg (by rw [hy]; exact hne), if_pos hy]
      rcases hb with e | ⟨t, e⟩
      · exact Or.inl e
      · exact Or.inr ⟨t, by rw [e, left_busr]; rfl⟩
    · rw [if_neg hy] at hb
      by_cases hx : y = J.name
      · rw [if_pos hx]; exact Or.inl (by rw [hb, hx])
      · rw [if_neg hx, if_neg hy]; exact hb
  by_cases hp1 : 0 + 1 = p
  · rw [if_pos hp1] at hpw
    rw [hpw] at hap
    exact ⟨45, T1, J, by rw [runs_app _ hap]; rfl, Or.inl ⟨rfl, rfl, lvT1 T1 t1s t1c t1f⟩⟩
  rw [if_neg hp1] at hpw
  rw [hpw] at hap
  rw [runs_app _ hap, if_pos rfl]
  obtain ⟨o1, o2, o3⟩ := stroked_at (T := S.offAt p) (c := 0) (p := p) h0 rfl rfl hp1
  have t1o : T1.off = false := by rw [← hT1]; exact o1
  have t1p : T1.planned = 1 := by rw [← hT1]; exact o2
  have t1q : T1.pOff = (p : Int) := by rw [← hT1]; exact o3
  have hf1 : T1.file S.files.length = ⟨[], bus r⟩ := by rw [app_file t1f, if_pos rfl]
  have hsy := sync_at t1o nm2 t1e
  have hpw2 := power_at (T := T1) (c := 1) (p := p) t1p t1q
  by_cases hp2 : 1 + 1 = p
  · rw [if_pos hp2] at hpw2
    rw [hpw2] at hsy
    exact ⟨45, T1.stroked, J, by rw [runs_sync _ hsy]; rfl, Or.inl ⟨rfl, rfl, lvT1 _ t1s t1c t1f⟩⟩
  rw [if_neg hp2] at hpw2
  rw [hpw2, if_pos rfl] at hsy
  rw [runs_sync _ hsy, if_pos rfl]
  have hall : (T1.file S.files.length).settled = ⟨r, []⟩ := by
    rw [hf1]
    unfold Fil.settled Fil.all
    rw [carry_bus]; rfl
  obtain ⟨T2, hT2⟩ : ∃ T2, T1.stroked.turn S.files.length (T1.file S.files.length).settled = T2 := ⟨_, rfl⟩
  rw [hT2]
  have t2s : T2.safe = S.safe := by rw [← hT2]; exact t1s
  have t2c : T2.chg = [⟨[], J.second, S.files.length⟩] := by rw [← hT2]; exact t1c
  have t2e : lookN T2.seen J.second = some S.files.length := by rw [← hT2]; exact t1e
  have t2f : T2.files = S.files ++ [⟨r, []⟩] := by
    rw [← hT2, hall]
    show T1.files.set _ _ = _
    rw [t1f, List.set_append_right _ _ (Nat.le_refl _)]
    simp
  obtain ⟨q1, q2, q3⟩ := stroked_at t1o t1p t1q hp2
  have t2o : T2.off = false := by rw [← hT2]; exact q1
  have t2p : T2.planned = 2 := by rw [← hT2]; exact q2
  have t2q : T2.pOff = (p : Int) := by rw [← hT2]; exact q3
  have hre := ren_at t2o nm2 nm1 hne t2e
  have hpw3 := power_at (T := T2) (c := 2) (p := p) t2p t2q
  obtain ⟨T3, hT3⟩ : ∃ T3, T2.stroked.ren ⟨J.second, J.name, S.files.length⟩ = T3 := ⟨_, rfl⟩
  rw [hT3] at hre
  have t3s : T3.safe = S.safe := by rw [← hT3]; exact t2s
  have t3c : T3.chg = [⟨[], J.second, S.files.length⟩, ⟨J.second, J.name, S.files.length⟩] := by rw [← hT3]; show T2.chg ++ _ = _; rw [t2c]; rfl
  have t3f : T3.files = S.files ++ [⟨r, []⟩] := by rw [← hT3]; exact t2f
  have lvT3 : ∀ T, T.safe = S.safe → T.chg = [⟨[], J.second, S.files.length⟩, ⟨J.second, J.name, S.files.length⟩] → T.files = S.files ++ [⟨r, []⟩] → Lv T (PC S J.name J.second r) := fun T a1 a2 a3 => (lv_ren hS nm1 nm2 hne hl r a1 a2 a3).mono fun y b hb => by
    unfold PC
    by_cases hx : y = J.name
    · rw [if_pos hx] at hb ⊢; exact hb
    · rw [if_neg hx] at hb ⊢
      by_cases hy : y = J.second
      · rw [if_pos hy] at hb ⊢
        exact hb.imp id fun e => ⟨r.length, by rw [e, List.take_length]⟩
      · rw [if_neg hy] at hb ⊢; exact hb
  by_cases hp3 : 2 + 1 = p
  · rw [if_pos hp3] at hpw3
    rw [hpw3] at hre
    exact ⟨45, T3, J, by rw [runs_ren _ hre]; rfl, Or.inl ⟨rfl, rfl, lvT3 T3 t3s t3c t3f⟩⟩
  rw [if_neg hp3] at hpw3
  rw [hpw3] at hre
  rw [runs_ren _ hre, if_pos rfl]
  obtain ⟨u1, u2, u3⟩ := stroked_at t2o t2p t2q hp3
  have hna := names_at (T := T3) (by rw [← hT3]; exact u1)
  have hpw4 := power_at (T := T3) (c := 3) (p := p) (by rw [← hT3]; exact u2) (by rw [← hT3]; exact u3)
  by_cases hp4 : 3 + 1 = p
  · rw [if_pos hp4] at hpw4
    rw [hpw4] at hna
    exact ⟨45, T3.stroked, J, by rw [runs_names _ hna]; rfl, Or.inl ⟨rfl, rfl, lvT3 _ t3s t3c t3f⟩⟩
  rw [if_neg hp4] at hpw4
  rw [hpw4, if_pos rfl] at hna
  refine ⟨0, T3.stroked.settledN, J.bare, by rw [runs_names _ hna, if_pos rfl, runs_drop]; rfl, Or.inr ⟨rfl, rfl, lv_rens hS nm1 nm2 hne hl r (T := T3.stroked.settledN) ?_ rfl t3f⟩⟩
  show T3.stroked.chg.foldl withN T3.stroked.safe = _
  rw [show T3.stroked.chg = _ from t3c, show T3.stroked.safe = _ from t3s]
  rfl
/-- A CALL WHILE THE POWER MAY GO OFF at a stroke: it is carried out, or the power is off; what any crash leaves then. -/
theorem call_crash (b : Bool) {S : St} {k : Nat} {J : Jr} {n : Nat} {l : List (List (List Nat))} (hS : Stl S k) (hJ : Jb S J n l) (ps : List (List Nat)) (hf : fitsB ps = true) (hsm : ∀ q ∈ ps, ∀ x ∈ q, x < 256) (h64 : S.seen.length < 64) (hnum : n + l.length ≤ 1099511627776) (hroom : S.used + 4025 ≤ S.room) (p : Nat) :
    ∃ e T J', callR b (S.offAt p) J ps = (e, T, J') ∧ Inv T ∧ Sz T (k + 25165830) ∧ Past T ∧ T.room = S.room ∧
      ((e = 45 ∧ Lv T (if b then PC S J.name J.second (recB (n + l.length) ps) else PA S J.name (recB (n + l.length) ps))) ∨
       (e = 0 ∧ Lv T (PN S J.name (if b then recB (n + l.length) ps else (S.v J.name).getD [] ++ recB (n + l.length) ps)))) := by
  obtain ⟨hl, hok⟩ := rec_fit hf (num := J.last + 1) (by rw [hJ.last]; exact hnum)
  have htr : Trn (J.last + 1) ps := ⟨by omega, hok, hsm⟩
  have hrs := htr.rec_small
  rw [← hJ.last]
  obtain ⟨r, hr⟩ : ∃ r, recB (J.last + 1) ps = r := ⟨_, rfl⟩
  rw [hr] at hl hrs ⊢
  have hful : (S.offAt p).stroked.full r.length = false := by
    have a2 : (S.offAt p).stroked.room = S.room := rfl
    have a3 : (S.offAt p).stroked.used = S.used := rfl
    have a4 : (S.offAt p).stroked.pFrom = 0 := rfl
    unfold St.full St.fullP
    rw [a2, a3, a4]
    simp
    omega
  have hv1 : Inv (S.offAt p) := ⟨hS.inv.room, hS.inv.srt, hS.inv.srts, hS.inv.ins, hS.inv.inf, hS.inv.chg, hS.inv.nod, hS.inv.most, hS.inv.mosts, hS.inv.used, hS.inv.fold⟩
  have hz1 : Sz (S.offAt p) k := ⟨hS.sz.st, Nat.zero_le _, hS.sz.ch, hS.sz.fl⟩
  have hp1 : Past (S.offAt p) := ⟨(stl_past hS).nod, (stl_past hS).most⟩
  have hoff : J.off = false := hJ.d.off
  cases b with
  | false =>
    obtain ⟨e, T, hrun, hcase⟩ := add_runs hS hJ.d.nm1 hJ.torn hJ.d.nmd h64 r p hful
    obtain ⟨g1, g2, g3, g4⟩ := runs_good (J.adds r) (S.offAt p) J k hv1 hz1 hp1 (adds_fit J r hrs (by omega)).2
    have hlen := (adds_fit J r hrs (by omega)).1
    rw [hrun] at g1 g2 g3 g4
    have hcall : callR false (S.offAt p) J ps = if e = 0 then (0, T, J.took r) else (e, T, { J with off := decide (e = 45) }) := by
      show addR (S.offAt p) J ps = _
      unfold addR keepR
      rw [hoff, hok, hr, hrun]
      simp
    rcases hcase with ⟨rfl, hlv⟩ | ⟨rfl, hlv⟩
    · exact ⟨45, T, _, hcall, g1, g2.mono (by omega), g3, g4, Or.inl ⟨rfl, hlv⟩⟩
    · exact ⟨0, T, _, hcall, g1, g2.mono (by omega), g3, g4, Or.inr ⟨rfl, hlv⟩⟩
  | true =>
    obtain ⟨e, T, J1, hrun, hcase⟩ := chk_runs hS hJ.d.nm1 hJ.d.nm2 hJ.d.sec h64 r p hful
    obtain ⟨g1, g2, g3, g4⟩ := runs_good (J.reps (S.offAt p) r) (S.offAt p) J k hv1 hz1 hp1 (reps_fit J _ r hrs (by omega)).2
    have hlen := (reps_fit J (S.offAt p) r hrs (by omega)).1
    rw [hrun] at g1 g2 g3 g4
    have hcall : callR true (S.offAt p) J ps = if e = 0 then (0, T, J1.took r) else (e, T, { J1 with off := decide (e = 45) }) := by
      show chkR (S.offAt p) J ps = _
      unfold chkR keepR
      rw [hoff, hok, hr, hrun]
      simp
    rcases hcase with ⟨rfl, _, hlv⟩ | ⟨rfl, _, hlv⟩
    · exact ⟨45, T, _, hcall, g1, g2.mono (by omega), g3, g4, Or.inl ⟨rfl, hlv⟩⟩
    · exact ⟨0, T, _, hcall, g1, g2.mono (by omega), g3, g4, Or.inr ⟨rfl, hlv⟩⟩
end Go.Proofs.YtlmfohcdaahojaaGreatDoor
