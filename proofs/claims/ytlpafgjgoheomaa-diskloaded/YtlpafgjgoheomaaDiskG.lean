import Derived.Test.YtlpafgjgoheomaaDiskF
namespace Go.Proofs.Ytlpafgjgoheomaa
open Go.RowKit Go.Maps

set_option maxRecDepth 100000 in
set_option maxHeartbeats 1000000 in
theorem Sync_any (w : World) (K : Knd) (o d : Nat) (S : St) (h : Dk w K o d S) (hv : Inv S) (k : Nat) (hz : Sz S k) (hk : k ≤ 549755813888) (x : Nm) (hx : x.length ≤ 140737488355328) :
    Calls Try.prog 51 #[.pointer (some ⟨d, 0, none⟩), .string ⟨x.toArray⟩] w fun e w' => ∃ K', e = .returned (.int .i64 ((S.syncR x).1 : Int)) ∧ Dk w' K' o d (S.syncR x).2 ∧ Kp (Ow o) K K' w w' := by
  obtain ⟨loc, sv, nv, cv, hm⟩ := h
  have HF := hide (find_any w K o d loc sv nv cv S hm x hx)
  have HD := hide hm
  by_cases he : S.err x = 0
  · obtain ⟨_, _, i, hl⟩ := err_zero he
    have hfi := S.seen_file hv hl
    have hfs := St.file_some hfi
    rw [he, ptr_some he hl] at HF
    have e0 : S.syncR x = (S.power, if S.power = 0 then S.stroked.turn i (S.file i).settled else S.stroked) := by
      unfold St.syncR; rw [if_neg (by simp [he]), hl]; rfl
    rw [e0]
    have HSk := hide (stroke_any w K o d loc sv nv cv S hm (by have := hz.st; omega) (by have := hz.pl; omega))
    have HU := hide (hz.fl _ (List.mem_of_getElem? hfs)).2
    have HFs := hide hfs
    have HPw := hide (power_or S)
    clear hm e0 hfs hl he
    rcases HPw.out with hp | hp
    · rw [hp] at HSk ⊢
      rw [if_pos rfl]
      go_enter Try.func51, Try.ntmps51
      go_wp2_with fail
      refine HF.out.mono ?_
      rintro e w2 ⟨rfl, rfl⟩
      go_wp2_with fail
      refine HSk.out.mono ?_
      rintro e w3 ⟨rfl, hd3, hk3⟩
      have HD3 := hide hd3
      have HK3 := hide hk3
      clear hd3 hk3
      go_wp2_with fail
      refine (HD3.out.settleF (f := S.file i) HFs.out (by have := HU.out; omega)).mono ?_
      rintro e w4 ⟨K4, rfl, hd4, hk4⟩
      have HD4 := hide hd4
      have HK4 := hide hk4
      clear hd4 hk4
      go_wp2
      go_ret
      exact ⟨K4, rfl, ⟨loc, sv, nv, cv, HD4.out⟩, (HK3.out.mono (fun k hk => by rw [hk])).trans HK4.out⟩
    · rw [hp] at HSk ⊢
      rw [if_neg (by omega)]
      go_enter Try.func51, Try.ntmps51
      go_wp2_with fail
      refine HF.out.mono ?_
      rintro e w2 ⟨rfl, rfl⟩
      go_wp2_with fail
      refine HSk.out.mono ?_
      rintro e w3 ⟨rfl, hd3, hk3⟩
      have HD3 := hide hd3
      have HK3 := hide hk3
      clear hd3 hk3
      go_wp2
      go_ret
      exact ⟨K, rfl, ⟨loc, sv, nv, cv, HD3.out⟩, HK3.out.mono (fun k hk => by rw [hk])⟩
  · have e0 : S.syncR x = (S.err x, S) := by unfold St.syncR; rw [if_pos he]
    rw [e0]
    have he' : ¬ (S.err x : Int) = 0 := by omega
    have hle := err_le S x
    generalize S.err x = er at *
    clear e0 he hm
    go_enter Try.func51, Try.ntmps51
    go_wp2_with fail
    refine HF.out.mono ?_
    rintro e w2 ⟨rfl, rfl⟩
    go_wp2
    go_ret
    exact ⟨K, rfl, ⟨loc, sv, nv, cv, HD.out⟩, Kp.refl _ _ _⟩

set_option maxRecDepth 100000 in
set_option maxHeartbeats 1000000 in
theorem SyncNames_any (w : World) (K : Knd) (o d : Nat) (S : St) (h : Dk w K o d S) (hv : Inv S) (k : Nat) (hz : Sz S k) (hk : k ≤ 549755813888) :
    Calls Try.prog 52 #[.pointer (some ⟨d, 0, none⟩)] w fun e w' => ∃ K', e = .returned (.int .i64 (S.namesR.1 : Int)) ∧ Dk w' K' o d S.namesR.2 ∧ Kp (Ow o) K K' w w' := by
  obtain ⟨loc, sv, nv, cv, hm⟩ := h
  have HD := hide hm
  have hb := hm.blk
  unfold dcells at hb
  obtain ⟨q0, q1, q2, q3, q4, q5, q6, q7, q8, q9, qf⟩ := blk10 hb
  have HSk := hide (stroke_any w K o d loc sv nv cv S hm (by have := hz.st; omega) (by have := hz.pl; omega))
  have HL := hide hv.lens
  have HB : Hid (S.safe.length + S.chg.length < 1099511627776) := hide (by have := hv.mosts; have := hz.ch; omega)
  have HPw := hide (power_or S)
  clear hb hm
  by_cases ho : S.off = true
  · have e0 : S.namesR = (45, S) := by unfold St.namesR; rw [if_pos ho]
    rw [e0]
    rw [ho] at q9
    clear e0
    go_enter Try.func52, Try.ntmps52
    go_wp2
    go_ret
    exact ⟨K, rfl, ⟨loc, sv, nv, cv, HD.out⟩, Kp.refl _ _ _⟩
  · have e0 : S.namesR = (S.power, if S.power = 0 then S.stroked.settledN else S.stroked) := by unfold St.namesR; rw [if_neg ho]
    rw [e0]
    have ho' : S.off = false := by simpa using ho
    rw [ho'] at q9
    clear e0 ho ho'
    rcases HPw.out with hp | hp
    · rw [hp] at HSk ⊢
      rw [if_pos rfl]
      go_enter Try.func52, Try.ntmps52
      go_wp2_with fail
      refine HSk.out.mono ?_
      rintro e w3 ⟨rfl, hd3, hk3⟩
      have HD3 := hide hd3
      have HK3 := hide hk3
      clear hd3 hk3
      go_wp2_with fail
      refine (settleNames_any _ _ _ _ _ _ _ _ _ HD3.out HL.out HB.out).mono ?_
      rintro e w4 ⟨sv4, cv4, K4, rfl, hd4, hk4⟩
      have HD4 := hide hd4
      have HK4 := hide hk4
      clear hd4 hk4
      go_wp2
      go_ret
      exact ⟨K4, rfl, ⟨loc, sv4, nv, cv4, HD4.out⟩, (HK3.out.mono (fun k hk => by rw [hk])).trans HK4.out⟩
    · rw [hp] at HSk ⊢
      rw [if_neg (by omega)]
      go_enter Try.func52, Try.ntmps52
      go_wp2_with fail
      refine HSk.out.mono ?_
      rintro e w3 ⟨rfl, hd3, hk3⟩
      have HD3 := hide hd3
      have HK3 := hide hk3
      clear hd3 hk3
      go_wp2
      go_ret
      exact ⟨K, rfl, ⟨loc, sv, nv, cv, HD3.out⟩, HK3.out.mono (fun k hk => by rw [hk])⟩

set_option maxRecDepth 100000 in
set_option maxHeartbeats 1000000 in
theorem Remove_any (w : World) (K : Knd) (o d : Nat) (S : St) (h : Dk w K o d S) (hv : Inv S) (k : Nat) (hz : Sz S k) (hk : k ≤ 549755813888) (x : Nm) (hx : x.length ≤ 140737488355328) :
    Calls Try.prog 54 #[.pointer (some ⟨d, 0, none⟩), .string ⟨x.toArray⟩] w fun e w' => ∃ K', e = .returned (.int .i64 ((S.removeR x).1 : Int)) ∧ Dk w' K' o d (S.removeR x).2 ∧ Kp (Ow o) K K' w w' := by
  obtain ⟨loc, sv, nv, cv, hm⟩ := h
  have HF := hide (find_any w K o d loc sv nv cv S hm x hx)
  have HD := hide hm
  by_cases he : S.err x = 0
  · obtain ⟨_, hnm, i, hl⟩ := err_zero he
    rw [he, ptr_some he hl] at HF
    have e0 : S.removeR x = (S.power, S.stroked.ren ⟨x, [], 0⟩) := by
      unfold St.removeR; rw [if_neg (by simp [he])]
    rw [e0]
    have HSk := hide (stroke_any w K o d loc sv nv cv S hm (by have := hz.st; omega) (by have := hz.pl; omega))
    have HPw := hide (power_or S)
    have HNm := hide (nm_len hnm)
    have HMo := hide hv.most
    have HCh := hide hz.ch
    clear hm e0 hl he
    generalize S.power = pw at *
    go_enter Try.func54, Try.ntmps54
    go_wp2_with fail
    refine HF.out.mono ?_
    rintro e w2 ⟨rfl, rfl⟩
    go_wp2_with fail
    refine HSk.out.mono ?_
    rintro e w3 ⟨rfl, hd3, hk3⟩
    have HD3 := hide hd3
    have HK3 := hide hk3
    clear hd3 hk3
    go_wp2_with fail
    refine (rename_any _ _ _ _ _ _ _ _ _ HD3.out ⟨x, [], 0⟩ none rfl HNm.out.2 (by simp) (by have := HMo.out; show S.seen.length < _; omega) (by have := HCh.out; show S.chg.length < _; omega)).mono ?_
    rintro e w4 ⟨nv4, cv4, K4, rfl, hd4, hk4⟩
    have HD4 := hide hd4
    have HK4 := hide hk4
    clear hd4 hk4
    go_wp2
    go_ret
    exact ⟨K4, rfl, ⟨loc, sv, nv4, cv4, HD4.out⟩, (HK3.out.mono (fun k hk => by rw [hk])).trans HK4.out⟩
  · have e0 : S.removeR x = (S.err x, S) := by unfold St.removeR; rw [if_pos he]
    rw [e0]
    have he' : ¬ (S.err x : Int) = 0 := by omega
    have hle := err_le S x
    generalize S.err x = er at *
    clear e0 he hm
    go_enter Try.func54, Try.ntmps54
    go_wp2_with fail
    refine HF.out.mono ?_
    rintro e w2 ⟨rfl, rfl⟩
    go_wp2
    go_ret
    exact ⟨K, rfl, ⟨loc, sv, nv, cv, HD.out⟩, Kp.refl _ _ _⟩

set_option maxRecDepth 100000 in
set_option maxHeartbeats 1000000 in
theorem Rename_any (w : World) (K : Knd) (o d : Nat) (S : St) (h : Dk w K o d S) (hv : Inv S) (k : Nat) (hz : Sz S k) (hk : k ≤ 549755813888) (x y : Nm) (hx : x.length ≤ 140737488355328) (hy : y.length ≤ 140737488355328) :
    Calls Try.prog 53 #[.pointer (some ⟨d, 0, none⟩), .string ⟨x.toArray⟩, .string ⟨y.toArray⟩] w fun e w' => ∃ K', e = .returned (.int .i64 ((S.renameR x y).1 : Int)) ∧ Dk w' K' o d (S.renameR x y).2 ∧ Kp (Ow o) K K' w w' := by
  obtain ⟨loc, sv, nv, cv, hm⟩ := h
  have HF := hide (find_any w K o d loc sv nv cv S hm x hx)
  have HN := hide (fun w => fileName_any w y hy)
  have HD := hide hm
  by_cases h45 : S.err x = 45
  · have e0 : S.renameR x y = (45, S) := by unfold St.renameR; rw [if_neg (by simp [h45]), if_pos (by omega), h45]
    rw [e0]
    rw [h45] at HF
    clear e0 h45 hm
    go_enter Try.func53, Try.ntmps53
    go_wp2_with fail
    refine HF.out.mono ?_
    rintro e w2 ⟨rfl, rfl⟩
    go_wp2
    go_ret
    exact ⟨K, rfl, ⟨loc, sv, nv, cv, HD.out⟩, Kp.refl _ _ _⟩
  have h45' : ¬ (S.err x : Int) = 45 := by omega
  by_cases hny : isNm y = true
  · rw [hny] at HN
    by_cases he : S.err x = 0
    · obtain ⟨_, hnm, i, hl⟩ := err_zero he
      rw [he, ptr_some he hl] at HF
      have e0 : S.renameR x y = (S.power, if x = y then S.stroked else S.stroked.ren ⟨x, y, i⟩) := by
        unfold St.renameR; rw [if_neg (by simp [hny]), if_neg (by simp [he]), hl]; rfl
      rw [e0]
      have HSk := hide (stroke_any w K o d loc sv nv cv S hm (by have := hz.st; omega) (by have := hz.pl; omega))
      have HPw := hide (power_or S)
      have HNm := hide (nm_len hnm)
      have HNy := hide (nm_len hny)
      have HMo := hide hv.most
      have HCh := hide hz.ch
      clear hm e0 hl he h45 h45'
      generalize S.power = pw at *
      by_cases hxy : x = y
      · rw [if_pos hxy]
        have hse : (x == y) = true := by simpa using hxy
        clear hxy
        go_enter Try.func53, Try.ntmps53
        go_wp2_with fail
        refine HF.out.mono ?_
        rintro e w2 ⟨rfl, rfl⟩
        go_wp2_with fail
        refine (HN.out _).mono ?_
        rintro e w2 ⟨rfl, rfl⟩
        go_wp2_with fail
        refine HSk.out.mono ?_
        rintro e w3 ⟨rfl, hd3, hk3⟩
        have HD3 := hide hd3
        have HK3 := hide hk3
        clear hd3 hk3
        go_wp2
        go_ret
        exact ⟨K, rfl, ⟨loc, sv, nv, cv, HD3.out⟩, HK3.out.mono (fun k hk => by rw [hk])⟩
      · rw [if_neg hxy]
        have hse : (x == y) = false := by simpa using hxy
        clear hxy
        have HY : Hid (y ≠ []) := hide (by rintro rfl; have := HNy.out.1; simp at this)
        go_enter Try.func53, Try.ntmps53
        go_wp2_with fail
        refine HF.out.mono ?_
        rintro e w2 ⟨rfl, rfl⟩
        go_wp2_with fail
        refine (HN.out _).mono ?_
        rintro e w2 ⟨rfl, rfl⟩
        go_wp2_with fail
        refine HSk.out.mono ?_
        rintro e w3 ⟨rfl, hd3, hk3⟩
        have HD3 := hide hd3
        have HK3 := hide hk3
        clear hd3 hk3
        go_wp2_with fail
        refine (rename_any _ _ _ _ _ _ _ _ _ HD3.out ⟨x, y, i⟩ (some ⟨loc i, 0, none⟩) (by rw [if_neg HY.out]) HNm.out.2 HNy.out.2 (by have := HMo.out; show S.seen.length < _; omega) (by have := HCh.out; show S.chg.length < _; omega)).mono ?_
        rintro e w4 ⟨nv4, cv4, K4, rfl, hd4, hk4⟩
        have HD4 := hide hd4
        have HK4 := hide hk4
        clear hd4 hk4
        go_wp2
        go_ret
        exact ⟨K4, rfl, ⟨loc, sv, nv4, cv4, HD4.out⟩, (HK3.out.mono (fun k hk => by rw [hk])).trans HK4.out⟩
    · have e0 : S.renameR x y = (S.err x, S) := by unfold St.renameR; rw [if_neg (by simp [hny]), if_pos he]
      rw [e0]
      have he' : ¬ (S.err x : Int) = 0 := by omega
      have hle := err_le S x
      generalize S.err x = er at *
      clear e0 he hm h45
      go_enter Try.func53, Try.ntmps53
      go_wp2_with fail
      refine HF.out.mono ?_
      rintro e w2 ⟨rfl, rfl⟩
      go_wp2_with fail
      refine (HN.out _).mono ?_
      rintro e w2 ⟨rfl, rfl⟩
      go_wp2
      go_ret
      exact ⟨K, rfl, ⟨loc, sv, nv, cv, HD.out⟩, Kp.refl _ _ _⟩
  · have hny' : isNm y = false := by simpa using hny
    rw [hny'] at HN
    have e0 : S.renameR x y = (41, S) := by unfold St.renameR; rw [if_pos ⟨h45, hny'⟩]
    rw [e0]
    generalize S.err x = er at *
    clear e0 hm h45
    go_enter Try.func53, Try.ntmps53
    go_wp2_with fail
    refine HF.out.mono ?_
    rintro e w2 ⟨rfl, rfl⟩
    go_wp2_with fail
    refine (HN.out _).mono ?_
    rintro e w2 ⟨rfl, rfl⟩
    go_wp2
    go_ret
    exact ⟨K, rfl, ⟨loc, sv, nv, cv, HD.out⟩, Kp.refl _ _ _⟩

end Go.Proofs.Ytlpafgjgoheomaa
