import Derived.Test.YtbacgkfmnccheaaDoorNums
namespace Go.Proofs.YtbacgkfmnccheaaDoor
open Go.RowKit

theorem nums_mk (l : List UInt8) : nums ⟨l.toArray⟩ = l.map fun b => b.toNat := by simp [nums]

/-- Whole numbers: the number and the error. -/
def wholeR (l : List Nat) : Int × Nat :=
  if l.head? = some 45 then
    (if (grpR l.tail).2.2 = true ∧ (grpR l.tail).2.1 = 0 ∧ (grpR l.tail).1 ≠ 0 then
      (if 9007199254740992 < (grpR l.tail).1 then (0, 22) else (-((grpR l.tail).1 : Int), 0)) else (0, 21))
  else
    (if (grpR l).2.2 = true ∧ (grpR l).2.1 = 0 then
      (if 9007199254740992 < (grpR l).1 then (0, 22) else ((grpR l).1, 0)) else (0, 21))

theorem cutp (s : ByteArray) : ∃ t B, (⟨(Lib.trimPrefix s.data.toList [45]).toArray⟩ : ByteArray) = t ∧ Lib.hasPrefix s.data.toList [45] = B ∧ t.size ≤ s.size ∧ ((nums s).head? = some 45 ∧ B = true ∧ nums t = (nums s).tail ∨ (nums s).head? ≠ some 45 ∧ B = false ∧ nums t = nums s) := by
  refine ⟨_, _, rfl, rfl, ?_⟩
  have hp : Lib.hasPrefix s.data.toList [45] = decide ((nums s).head? = some 45) := by
    unfold Lib.hasPrefix nums
    cases h : s.data.toList with
    | nil => simp
    | cons a l =>
      simp only [List.isPrefixOf, List.map_cons, List.head?_cons, Bool.and_true, Option.some.injEq]
      by_cases e : a = 45
      · subst e; simp
      · have : ¬ a.toNat = 45 := fun h => e (UInt8.toNat_inj.1 h)
        simp [this]
        exact fun h => e h.symm
  have hsz : (⟨(Lib.trimPrefix s.data.toList [45]).toArray⟩ : ByteArray).size = (Lib.trimPrefix s.data.toList [45]).length := by
    show (Lib.trimPrefix s.data.toList [45]).toArray.size = _
    simp
  have hs2 : s.data.toList.length = s.size := rfl
  by_cases h : (nums s).head? = some 45
  · have hb : Lib.hasPrefix s.data.toList [45] = true := by rw [hp]; simp [h]
    refine ⟨?_, Or.inl ⟨h, hb, ?_⟩⟩
    · rw [hsz, Lib.trimPrefix, if_pos hb, List.length_drop]; omega
    · rw [nums_mk, Lib.trimPrefix, if_pos hb]
      simp [nums, List.drop_one]
  · have hb : Lib.hasPrefix s.data.toList [45] = false := by rw [hp]; simp [h]
    refine ⟨?_, Or.inr ⟨h, hb, ?_⟩⟩
    · rw [hsz, Lib.trimPrefix, if_neg (by simp [hb])]; omega
    · rw [nums_mk, Lib.trimPrefix, if_neg (by simp [hb])]; rfl

theorem grp_le (l : List Nat) : (grpR l).1 ≤ 92233720368547758 := by
  have hG : ∀ (l : List Nat) (n d m : Nat), n ≤ 92233720368547758 → ∀ r, G l n d m = some r → r.1 ≤ 92233720368547758 := by
    intro l
    induction l with
    | nil => intro n d m hn r h; simp only [G, Option.some.injEq] at h; subst h; exact hn
    | cons c l ih =>
      intro n d m hn r h
      simp only [G] at h
      split at h
      · rename_i hc
        exact ih _ _ _ (beh_le n c hn (by simp [isDig] at hc; omega)) r h
      · split at h
        · exact ih _ _ _ hn r h
        · cases h
  unfold grpR
  split
  · simp
  · split
    · simp
    · rename_i h; exact hG _ _ _ _ (by omega) _ h

set_option maxRecDepth 100000 in
set_option maxHeartbeats 1000000 in
theorem whole_any (w : World) (s : ByteArray) (hs : s.size ≤ 140737488355328) :
    Calls Tryd.prog 11 #[.string s] w fun e w' => e = .returned (.tuple #[.int .i64 (wholeR (nums s)).1, .int .i64 ((wholeR (nums s)).2 : Nat)]) ∧ Below w.heap.size w w' := by
  have HP := hide (fun w => Tryd.strings_CutPrefix s ⟨#[45]⟩ w)
  rw [show (⟨#[45]⟩ : ByteArray).data.toList = [45] from rfl] at HP
  obtain ⟨t, B, h1, h2, h3, h4⟩ := cutp s
  rw [h1, h2] at HP
  clear h1 h2
  have HG := hide (fun w => grouped_any w t (Nat.le_trans h3 hs))
  have hle := grp_le (nums t)
  obtain ⟨V, E, hVE⟩ : ∃ V E, wholeR (nums s) = (V, E) := ⟨_, _, rfl⟩
  rw [hVE]
  simp only
  have hR : wholeR (nums s) = if (grpR (nums t)).2.2 = true ∧ (grpR (nums t)).2.1 = 0 ∧ (B = true → (grpR (nums t)).1 ≠ 0) then (if 9007199254740992 < (grpR (nums t)).1 then (0, 22) else (if B then -((grpR (nums t)).1 : Int) else ((grpR (nums t)).1 : Int), 0)) else (0, 21) := by
    unfold wholeR
    rcases h4 with ⟨q1, rfl, q3⟩ | ⟨q1, rfl, q3⟩
    · rw [if_pos q1, q3]; simp
    · rw [if_neg q1, q3]; simp
  rw [hVE] at hR
  clear hVE h4 h3 hs
  obtain ⟨n, m, ok, hg⟩ : ∃ n m ok, grpR (nums t) = (n, m, ok) := ⟨_, _, _, rfl⟩
  rw [hg] at HG hR hle
  simp only at HG hR hle
  clear hg
  cases ok with
  | false =>
    simp at hR
    obtain ⟨rfl, rfl⟩ := hR
    go_enter Tryd.func11, Tryd.ntmps11
    go_wp2_with (first | (go_at_call 23; refine (HP.out _).mono ?_; rintro e w1 ⟨rfl, h⟩; obtain rfl := h.symm; clear h))
    refine (HG.out _).mono ?_
    rintro e w1 ⟨rfl, hb⟩
    have HB := hide hb
    clear hb
    go_wp2
    go_ret2
    exact ⟨rfl, HB.out⟩
  | true =>
    by_cases hm : m = 0
    · have zm : ¬ (0 : Int) < (m : Int) := by omega
      have zm2 : decide ((0 : Int) < (m : Int)) = false := decide_eq_false (by omega)
      rw [hm] at hR
      simp only [true_and] at hR
      by_cases hn : n = 0
      · have zn : ((n : Int) == 0) = true := by simp; omega
        cases B with
        | true =>
          rw [hn] at hR
          simp at hR
          obtain ⟨rfl, rfl⟩ := hR
          clear hm hn
          go_enter Tryd.func11, Tryd.ntmps11
          go_wp2_with (first | (go_at_call 23; refine (HP.out _).mono ?_; rintro e w1 ⟨rfl, h⟩; obtain rfl := h.symm; clear h))
          refine (HG.out _).mono ?_
          rintro e w1 ⟨rfl, hb⟩
          have HB := hide hb
          clear hb
          go_wp2
          go_ret2
          exact ⟨rfl, HB.out⟩
        | false =>
          rw [hn] at hR
          simp at hR
          obtain ⟨rfl, rfl⟩ := hR
          have zb : decide ((9007199254740992 : Int) < (n : Int)) = false := decide_eq_false (by omega)
          have HN := hide hn
          clear hm hn
          go_enter Tryd.func11, Tryd.ntmps11
          go_wp2_with (first | (go_at_call 23; refine (HP.out _).mono ?_; rintro e w1 ⟨rfl, h⟩; obtain rfl := h.symm; clear h))
          refine (HG.out _).mono ?_
          rintro e w1 ⟨rfl, hb⟩
          have HB := hide hb
          clear hb
          go_wp2
          go_ret2
          exact ⟨by rw [HN.out]; rfl, HB.out⟩
      · have zn : ((n : Int) == 0) = false := by simp; omega
        rw [if_pos (fun _ => hn)] at hR
        by_cases hb : 9007199254740992 < n
        · have zb : (9007199254740992 : Int) < (n : Int) := by omega
          rw [if_pos hb] at hR
          simp at hR
          obtain ⟨rfl, rfl⟩ := hR
          clear hm hn hb
          cases B with
          | true =>
            go_enter Tryd.func11, Tryd.ntmps11
            go_wp2_with (first | (go_at_call 23; refine (HP.out _).mono ?_; rintro e w1 ⟨rfl, h⟩; obtain rfl := h.symm; clear h))
            refine (HG.out _).mono ?_
            rintro e w1 ⟨rfl, hb⟩
            have HB := hide hb
            clear hb
            go_wp2
            go_ret2
            exact ⟨rfl, HB.out⟩
          | false =>
            go_enter Tryd.func11, Tryd.ntmps11
            go_wp2_with (first | (go_at_call 23; refine (HP.out _).mono ?_; rintro e w1 ⟨rfl, h⟩; obtain rfl := h.symm; clear h))
            refine (HG.out _).mono ?_
            rintro e w1 ⟨rfl, hb⟩
            have HB := hide hb
            clear hb
            go_wp2
            go_ret2
            exact ⟨rfl, HB.out⟩
        · have zb : decide ((9007199254740992 : Int) < (n : Int)) = false := decide_eq_false (by omega)
          have zl : (n : Int) ≤ 9007199254740992 := by omega
          rw [if_neg hb] at hR
          cases B with
          | true =>
            simp at hR
            obtain ⟨rfl, rfl⟩ := hR
            clear hm hn hb
            go_enter Tryd.func11, Tryd.ntmps11
            go_wp2_with (first | (go_at_call 23; refine (HP.out _).mono ?_; rintro e w1 ⟨rfl, h⟩; obtain rfl := h.symm; clear h))
            refine (HG.out _).mono ?_
            rintro e w1 ⟨rfl, hb⟩
            have HB := hide hb
            clear hb
            go_wp2
            go_ret2
            exact ⟨rfl, HB.out⟩
          | false =>
            simp at hR
            obtain ⟨rfl, rfl⟩ := hR
            clear hm hn hb
            go_enter Tryd.func11, Tryd.ntmps11
            go_wp2_with (first | (go_at_call 23; refine (HP.out _).mono ?_; rintro e w1 ⟨rfl, h⟩; obtain rfl := h.symm; clear h))
            refine (HG.out _).mono ?_
            rintro e w1 ⟨rfl, hb⟩
            have HB := hide hb
            clear hb
            go_wp2
            go_ret2
            exact ⟨rfl, HB.out⟩
    · have zm : (0 : Int) < (m : Int) := by omega
      simp [hm] at hR
      obtain ⟨rfl, rfl⟩ := hR
      clear hm
      go_enter Tryd.func11, Tryd.ntmps11
      go_wp2_with (first | (go_at_call 23; refine (HP.out _).mono ?_; rintro e w1 ⟨rfl, h⟩; obtain rfl := h.symm; clear h))
      refine (HG.out _).mono ?_
      rintro e w1 ⟨rfl, hb⟩
      have HB := hide hb
      clear hb
      go_wp2
      go_ret2
      exact ⟨rfl, HB.out⟩

end Go.Proofs.YtbacgkfmnccheaaDoor
