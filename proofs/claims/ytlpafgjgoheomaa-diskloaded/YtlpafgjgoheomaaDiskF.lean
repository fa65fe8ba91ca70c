import Derived.Test.YtlpafgjgoheomaaDiskE
namespace Go.Proofs.Ytlpafgjgoheomaa
open Go.RowKit Go.Maps

def Dk (w : World) (K : Knd) (o d : Nat) (S : St) : Prop := ∃ loc sv nv cv, Dm w K o d loc sv nv cv S
/-- Of the old blocks those of this owner alone may turn. -/
abbrev Ow (o : Nat) : Nat × Nat → Prop := fun k => k.1 = o

def St.cutR (S : St) (x : Nm) (n : Int) : Nat × St := if S.err x ≠ 0 then (S.err x, S) else
  let i := (lookN S.seen x).getD 0
  if n < 0 ∨ ((S.file i).all.length : Int) < n then (43, S) else (S.power, S.stroked.turn i ((S.file i).cut n.toNat))
def St.syncR (S : St) (x : Nm) : Nat × St := if S.err x ≠ 0 then (S.err x, S) else
  let i := (lookN S.seen x).getD 0
  (S.power, if S.power = 0 then S.stroked.turn i (S.file i).settled else S.stroked)
def St.namesR (S : St) : Nat × St := if S.off then (45, S) else (S.power, if S.power = 0 then S.stroked.settledN else S.stroked)
def St.renameR (S : St) (x y : Nm) : Nat × St := if S.err x ≠ 45 ∧ isNm y = false then (41, S) else if S.err x ≠ 0 then (S.err x, S) else
  let i := (lookN S.seen x).getD 0
  (S.power, if x = y then S.stroked else S.stroked.ren ⟨x, y, i⟩)
def St.removeR (S : St) (x : Nm) : Nat × St := if S.err x ≠ 0 then (S.err x, S) else (S.power, S.stroked.ren ⟨x, [], 0⟩)

theorem err_zero {S : St} {x : Nm} (h : S.err x = 0) : S.off = false ∧ isNm x = true ∧ ∃ i, lookN S.seen x = some i := by
  unfold St.err at h
  by_cases h1 : S.off = true
  · rw [if_pos h1] at h; cases h
  · rw [if_neg h1] at h
    by_cases h2 : isNm x = true
    · rw [if_pos h2] at h
      cases hl : lookN S.seen x with
      | none => rw [hl] at h; simp at h
      | some i => exact ⟨by simpa using h1, h2, i, rfl⟩
    · rw [if_neg h2] at h; cases h
theorem err_le (S : St) (x : Nm) : S.err x ≤ 45 := by
  unfold St.err
  split
  · omega
  · split
    · split <;> omega
    · omega
theorem power_or (S : St) : S.power = 0 ∨ S.power = 45 := by unfold St.power; split <;> simp
theorem ptr_some {S : St} {loc : Nat → Nat} {x : Nm} {i : Nat} (h : S.err x = 0) (hl : lookN S.seen x = some i) : S.ptr loc x = .pointer (some ⟨loc i, 0, none⟩) := by
  unfold St.ptr; rw [if_pos h, hl]; rfl
theorem file_stroked (S : St) (i : Nat) : S.stroked.file i = S.file i := rfl

set_option maxRecDepth 100000 in
set_option maxHeartbeats 1000000 in
theorem Cut_any (w : World) (K : Knd) (o d : Nat) (S : St) (h : Dk w K o d S) (hv : Inv S) (k : Nat) (hz : Sz S k) (hk : k ≤ 549755813888) (x : Nm) (hx : x.length ≤ 140737488355328) (n : Int) (_hn : -9223372036854775808 ≤ n ∧ n ≤ 9223372036854775807) :
    Calls Try.prog 50 #[.pointer (some ⟨d, 0, none⟩), .string ⟨x.toArray⟩, .int .i64 n] w fun e w' => ∃ K', e = .returned (.int .i64 ((S.cutR x n).1 : Int)) ∧ Dk w' K' o d (S.cutR x n).2 ∧ Kp (Ow o) K K' w w' := by
  obtain ⟨loc, sv, nv, cv, hm⟩ := h
  have HF := hide (find_any w K o d loc sv nv cv S hm x hx)
  have HD := hide hm
  by_cases he : S.err x = 0
  · obtain ⟨_, _, i, hl⟩ := err_zero he
    have hfi := S.seen_file hv hl
    have hfs := St.file_some hfi
    rw [he, ptr_some he hl] at HF
    have e0 : S.cutR x n = if n < 0 ∨ ((S.file i).all.length : Int) < n then (43, S) else (S.power, S.stroked.turn i ((S.file i).cut n.toNat)) := by
      unfold St.cutR; rw [if_neg (by simp [he]), hl]; rfl
    rw [e0]
    have hle := S.file_le hv hl
    have hq := hm.fl i _ hfs
    obtain ⟨fs, fu, hfl, _, _⟩ := hq.fl
    obtain ⟨q0, q1, q2, qf⟩ := blk3 hfl.blk
    have HSk := hide (stroke_any w K o d loc sv nv cv S hm (by have := hz.st; omega) (by have := hz.pl; omega))
    have HU := hide (hz.fl _ (List.mem_of_getElem? hfs)).2.2
    have HFs := hide hfs
    obtain ⟨N, hN⟩ : ∃ N, (S.file i).all.length = N := ⟨_, rfl⟩
    have HN := hide hN
    rw [hN] at q2 hle
    rw [hN]
    clear hm e0 hfs hN hq hfl hl he q0 q1
    by_cases h1 : n < 0
    · rw [if_pos (Or.inl h1)]
      go_enter Try.func50, Try.ntmps50
      go_wp2_with fail
      refine HF.out.mono ?_
      rintro e w2 ⟨rfl, rfl⟩
      go_wp2
      go_ret
      exact ⟨K, rfl, ⟨loc, sv, nv, cv, HD.out⟩, Kp.refl _ _ _⟩
    by_cases h2 : (N : Int) < n
    · rw [if_pos (Or.inr h2)]
      go_enter Try.func50, Try.ntmps50
      go_wp2_with fail
      refine HF.out.mono ?_
      rintro e w2 ⟨rfl, rfl⟩
      go_wp2
      go_ret
      exact ⟨K, rfl, ⟨loc, sv, nv, cv, HD.out⟩, Kp.refl _ _ _⟩
    · rw [if_neg (by rintro (h | h); exact h1 h; exact h2 h)]
      obtain ⟨m, rfl⟩ : ∃ m : Nat, n = (m : Int) := ⟨n.toNat, by omega⟩
      have HPw := hide (power_or S)
      simp only [Int.toNat_natCast]
      generalize S.power = pw at *
      go_enter Try.func50, Try.ntmps50
      go_wp2_with fail
      refine HF.out.mono ?_
      rintro e w2 ⟨rfl, rfl⟩
      go_wp2_with fail
      refine HSk.out.mono ?_
      rintro e w3 ⟨rfl, hd3, hk3⟩
      have HD3 := hide hd3
      have HK3 := hide hk3
      clear hd3 hk3
      go_wp2_with fail
      refine (HD3.out.cutF (f := S.file i) HFs.out m (by rw [HN.out]; omega) (by rw [HN.out]; omega) (by have := HU.out; omega)).mono ?_
      rintro e w4 ⟨K4, rfl, hd4, hk4⟩
      have HD4 := hide hd4
      have HK4 := hide hk4
      clear hd4 hk4
      go_wp2
      go_ret
      exact ⟨K4, rfl, ⟨loc, sv, nv, cv, HD4.out⟩, (HK3.out.mono (fun k hk => by rw [hk])).trans HK4.out⟩
  · have e0 : S.cutR x n = (S.err x, S) := by unfold St.cutR; rw [if_pos he]
    rw [e0]
    have he' : ¬ (S.err x : Int) = 0 := by omega
    have hle := err_le S x
    generalize S.err x = er at *
    clear e0 he hm
    go_enter Try.func50, Try.ntmps50
    go_wp2_with fail
    refine HF.out.mono ?_
    rintro e w2 ⟨rfl, rfl⟩
    go_wp2
    go_ret
    exact ⟨K, rfl, ⟨loc, sv, nv, cv, HD.out⟩, Kp.refl _ _ _⟩

end Go.Proofs.Ytlpafgjgoheomaa
