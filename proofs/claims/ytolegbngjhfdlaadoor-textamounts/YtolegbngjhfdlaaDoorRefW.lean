import Derived.Test.YtolegbngjhfdlaaDoorRefA
import Derived.Test.YtolegbngjhfdlaaDoorAmtP
namespace Go.Proofs.YtolegbngjhfdlaaDoor
open Go.RowKit

theorem grp_digits (t : List Nat) (h1 : (grpR t).2.2 = true) (h2 : (grpR t).2.1 = 0) : ∀ x ∈ t, isDig x = true := by
  unfold grpR at h1 h2
  split at h1
  · simp only [decide_eq_true_eq] at h1
    subst h1
    simp [isDig]
  · rename_i hh
    rw [if_neg hh] at h2
    split at h1
    · simp at h1
    · rename_i n d m hG
      rw [hG] at h2
      simp only at h2
      exact ((G_back _ _ _ _ _ _ _ hG).2 h2).1

theorem grp_good (t : List Nat) (hne : t ≠ []) (h48 : t.head? = some 48 → t.length ≤ 1) (hd : ∀ x ∈ t, isDig x = true) : grpR t = (val t, 0, true) := by
  unfold grpR
  by_cases h : t.head? = some 48
  · have := h48 h
    obtain ⟨a, rfl⟩ : ∃ a, t = [a] := by
      match t, hne, this with
      | [a], _, _ => exact ⟨a, rfl⟩
      | a :: b :: r, _, h => simp at h
    simp only [List.head?_cons, Option.some.injEq] at h
    subst h
    rfl
  · rw [if_neg h, G_dig _ _ _ _ hd]
    have : 0 < t.length := List.length_pos_iff.2 hne
    simp [val, this]

theorem whole_of (l t : List Nat) (B : Bool) (hB : (l.head? = some 45 ∧ B = true ∧ t = l.tail) ∨ (l.head? ≠ some 45 ∧ B = false ∧ t = l)) :
    wholeR l = if (grpR t).2.2 = true ∧ (grpR t).2.1 = 0 ∧ (B = true → (grpR t).1 ≠ 0) then (if 9007199254740992 < (grpR t).1 then (0, 22) else (if B then -((grpR t).1 : Int) else ((grpR t).1 : Int), 0)) else (0, 21) := by
  unfold wholeR
  rcases hB with ⟨h, rfl, rfl⟩ | ⟨h, rfl, rfl⟩
  · rw [if_pos h]; simp
  · rw [if_neg h]; simp

theorem w_bad (l t : List Nat) (B : Bool) (hB : (l.head? = some 45 ∧ B = true ∧ t = l.tail) ∨ (l.head? ≠ some 45 ∧ B = false ∧ t = l)) (x : Nat) (hx : x ∈ t) (hd : isDig x = false) : wholeR l = (0, 21) := by
  rw [whole_of l t B hB, if_neg]
  rintro ⟨h1, h2, _⟩
  rw [grp_digits t h1 h2 x hx] at hd
  cases hd
theorem w_empty (l t : List Nat) (B : Bool) (hB : (l.head? = some 45 ∧ B = true ∧ t = l.tail) ∨ (l.head? ≠ some 45 ∧ B = false ∧ t = l)) (ht : t = []) : wholeR l = (0, 21) := by
  rw [whole_of l t B hB, if_neg]
  rintro ⟨h1, _⟩
  subst ht
  simp [grpR, G] at h1
theorem w_zero (l t : List Nat) (B : Bool) (hB : (l.head? = some 45 ∧ B = true ∧ t = l.tail) ∨ (l.head? ≠ some 45 ∧ B = false ∧ t = l)) (h48 : t.head? = some 48) (hl : 1 < l.length) : wholeR l = (0, 21) := by
  rw [whole_of l t B hB, if_neg]
  rintro ⟨h1, h2, h3⟩
  unfold grpR at h1 h3
  rw [if_pos h48] at h1 h3
  rcases hB with ⟨_, rfl, _⟩ | ⟨_, rfl, rfl⟩
  · exact h3 rfl rfl
  · simp only [decide_eq_true_eq] at h1
    rw [h1] at hl
    simp at hl
theorem w_good (l t : List Nat) (B : Bool) (hB : (l.head? = some 45 ∧ B = true ∧ t = l.tail) ∨ (l.head? ≠ some 45 ∧ B = false ∧ t = l)) (hne : t ≠ []) (h48 : t.head? = some 48 → ¬ 1 < l.length) (hd : ∀ x ∈ t, isDig x = true) :
    wholeR l = if 9007199254740992 < val t then (0, 22) else (if B then -(val t : Int) else (val t : Int), 0) := by
  have hlen : t.length ≤ l.length := by
    rcases hB with ⟨_, _, rfl⟩ | ⟨_, _, rfl⟩
    · rw [List.length_tail]; omega
    · omega
  rw [whole_of l t B hB, grp_good t hne (fun h => by have := h48 h; omega) hd, if_pos]
  refine ⟨rfl, rfl, fun hb => ?_⟩
  rcases hB with ⟨h45, _, rfl⟩ | ⟨_, hf, _⟩
  · have h2 : 1 < l.length := by
      have : 0 < l.tail.length := List.length_pos_iff.2 hne
      rw [List.length_tail] at this
      omega
    have := val_lead _ hd hne (fun h => h48 h h2)
    simp only
    omega
  · rw [hf] at hb; cases hb

/-- A number that is cut where it is too great anyway. -/
def capW (v : Nat) : Nat := if v ≤ 9007199254740992 then v else 9007199254740993
theorem capW_le (v : Nat) : capW v ≤ 9007199254740993 := by unfold capW; split <;> omega
theorem capW_gt (v : Nat) : 9007199254740992 < capW v ↔ 9007199254740992 < v := by unfold capW; split <;> omega
theorem capW_eq (v : Nat) (h : ¬ 9007199254740992 < v) : capW v = v := by unfold capW; rw [if_pos (by omega)]
theorem capW_step (v c : Nat) (_h1 : 48 ≤ c) (_h2 : c ≤ 57) : capW (beh v c) = if 9007199254740992 < 10 * capW v + (c - 48) then 9007199254740993 else 10 * capW v + (c - 48) := by
  unfold capW beh
  by_cases h : v ≤ 9007199254740992
  · rw [if_pos h, if_neg (show ¬ 9223372036854774 < v by omega)]
    by_cases h3 : v * 10 + (c - 48) ≤ 9007199254740992
    · rw [if_pos h3, if_neg (by omega)]; omega
    · rw [if_neg h3, if_pos (by omega)]
  · rw [if_neg h, if_neg (by split <;> omega), if_pos (by omega)]

theorem take_val (s : ByteArray) (a k : Nat) (ha : a ≤ k) (hk : k < s.size) : ((nums s).drop a).take (k + 1 - a) = ((nums s).drop a).take (k - a) ++ [(s[k]'hk).toNat] := by
  rw [show k + 1 - a = (k - a) + 1 by omega, List.take_add_one]
  congr 1
  rw [List.getElem?_drop, show a + (k - a) = k by omega, nums_at s k hk]
  rfl

/-- What the loop keeps. -/
structure WInv (s : ByteArray) (a k n : Nat) : Prop where
  n : n = capW (val (((nums s).drop a).take (k - a)))
  d : ∀ x ∈ ((nums s).drop a).take (k - a), isDig x = true

theorem WInv.start (s : ByteArray) (a : Nat) : WInv s a a 0 := ⟨by simp [val, capW], by simp⟩
theorem WInv.step {s : ByteArray} {a k n : Nat} (h : WInv s a k n) (ha : a ≤ k) (hk : k < s.size) (c : Nat) (hc : (s[k]'hk).toNat = c) (h1 : 48 ≤ c) (h2 : c ≤ 57) :
    (9007199254740992 < 10 * n + (c - 48) → WInv s a (k + 1) 9007199254740993) ∧ (¬ 9007199254740992 < 10 * n + (c - 48) → WInv s a (k + 1) (10 * n + (c - 48))) := by
  have hst := capW_step (val (((nums s).drop a).take (k - a))) c h1 h2
  rw [← h.n] at hst
  have hd : ∀ x ∈ ((nums s).drop a).take (k + 1 - a), isDig x = true := by
    rw [take_val s a k ha hk]
    intro x hx
    rcases List.mem_append.1 hx with hx | hx
    · exact h.d x hx
    · rw [List.mem_singleton] at hx
      rw [hx, hc]; simp [isDig]; omega
  have hv : val (((nums s).drop a).take (k + 1 - a)) = beh (val (((nums s).drop a).take (k - a))) c := by
    rw [take_val s a k ha hk, val_snoc, hc]
  constructor
  · intro hg; exact ⟨by rw [hv, hst, if_pos hg], hd⟩
  · intro hg; exact ⟨by rw [hv, hst, if_neg hg], hd⟩
theorem WInv.le {s : ByteArray} {a k n : Nat} (h : WInv s a k n) : n ≤ 9007199254740993 := by rw [h.n]; exact capW_le _
theorem WInv.all {s : ByteArray} {a k n : Nat} (h : WInv s a k n) (hk : s.size ≤ k) : n = capW (val ((nums s).drop a)) ∧ ∀ x ∈ (nums s).drop a, isDig x = true := by
  have e : ((nums s).drop a).take (k - a) = (nums s).drop a := List.take_of_length_le (by rw [List.length_drop, nums_len]; omega)
  have h1 := h.n
  have h2 := h.d
  rw [e] at h1 h2
  exact ⟨h1, h2⟩

theorem ret_wh {a a' : Int} {b b' : Nat} (h : (a, b) = (a', b')) : Ending.returned (.tuple #[.int .i64 a, .int .i64 (b : Int)]) = .returned (.tuple #[.int .i64 a', .int .i64 (b' : Int)]) := by
  cases h; rfl

theorem head_at (s : ByteArray) (a : Nat) (h : a < s.size) : ((nums s).drop a).head? = some (s[a]'h).toNat := by rw [nums_drop s a h]; rfl

set_option maxRecDepth 100000 in
set_option maxHeartbeats 1000000 in
theorem rwhole_1 (w : World) (s : ByteArray) (hs : s.size ≤ 140737488355328) (h0 : 0 < s.size) (h45 : (s[0]'h0).toNat = 45) :
    Calls Tryd.prog 18 #[.string s] w fun e w' => e = .returned (.tuple #[.int .i64 (wholeR (nums s)).1, .int .i64 ((wholeR (nums s)).2 : Nat)]) ∧ w' = w := by
  obtain ⟨V, E, hVE⟩ : ∃ V E, wholeR (nums s) = (V, E) := ⟨_, _, rfl⟩
  rw [hVE]
  simp only
  have hB : ((nums s).head? = some 45 ∧ true = true ∧ (nums s).drop 1 = (nums s).tail) ∨ ((nums s).head? ≠ some 45 ∧ true = false ∧ (nums s).drop 1 = nums s) := by
    have := head_at s 0 h0
    rw [List.drop_zero] at this
    exact .inl ⟨by rw [this, h45], rfl, by rw [List.drop_one]⟩
  have HE := hide (w_empty _ _ _ hB)
  have HZ := hide (w_zero _ _ _ hB)
  have HD := hide (w_bad _ _ _ hB)
  have HG := hide (w_good _ _ _ hB)
  rw [hVE] at HE HZ HD HG
  rw [nums_len] at HZ HG
  clear hVE hB
  obtain ⟨c0, hc0⟩ : ∃ c0, (s[0]'h0).toNat = c0 := ⟨_, rfl⟩
  rw [hc0] at h45
  have p0 : (0 : Int) < (s.size : Int) := by omega
  have q0 : ((c0 : Int) == 45) = true := by simp; omega
  by_cases h1 : 1 < s.size
  · obtain ⟨c, hc⟩ : ∃ c, (s[1]'h1).toNat = c := ⟨_, rfl⟩
    have HH := hide (head_at s 1 h1)
    rw [hc] at HH
    have p1 : ((1 : Int) == (s.size : Int)) = false := by simp; omega
    have p1b : (1 == s.size) = false := by simp; omega
    have p2 : (1 : Int) < (s.size : Int) := by omega
    by_cases hz : c = 48 ∧ 1 < s.size
    · have q1 : ((c : Int) == 48) = true := by simp; omega
      have q2 : (1 : Int) < (s.size : Int) := by omega
      have HR := hide (HZ.out (by rw [HH.out, hz.1]) hz.2)
      clear hz
      go_enter Tryd.func18, Tryd.ntmps18
      go_wp2
      go_ret2
      exact ⟨ret_wh HR.out.symm, rfl⟩
    · have HNZ : Hid (((nums s).drop 1).head? = some 48 → ¬ 1 < s.size) := fun h => by
        rw [HH.out] at h
        intro hl
        exact hz ⟨Option.some.inj h, hl⟩
      have HNE : Hid ((nums s).drop 1 ≠ []) := fun h => by
        have := HH.out
        rw [h] at this
        cases this
      go_enter Tryd.func18, Tryd.ntmps18
      by_cases q1 : c = 48
      · exact absurd ⟨q1, h1⟩ hz
      · have q1a : ((c : Int) == 48) = false := by simp; omega
        clear q1 hz
        go_wp2
        go_loopw [5, 6] (fun a b wr => ∃ (n k : Nat), 1 ≤ k ∧ k ≤ s.size ∧ a = .int .i64 (n : Int) ∧ b = .int .i64 (k : Int) ∧ wr = w ∧ n ≤ 9007199254740993 ∧ Hid (WInv s 1 k n)) (fun _ b _ => s.size - (intOf b).toNat)
        case atStart => exact ⟨0, 1, by omega, by omega, rfl, rfl, rfl, by omega, WInv.start s 1⟩
        case round =>
          clear q1a q0 p0 p1 p1b p2
          obtain ⟨n, k, hk1, hk, rfl, rfl, rfl, hn, HW⟩ := hrel
          by_cases hlt : k < s.size
          · have u1 : (k : Int) < (s.size : Int) := by omega
            have u2 : (0 : Int) ≤ (k : Int) := by omega
            obtain ⟨x, hx⟩ : ∃ x, (s[k]'hlt).toNat = x := ⟨_, rfl⟩
            have hxb : x < 256 := by rw [← hx]; exact (s[k]'hlt).toNat_lt
            have HDg := hide (rdigit_any wr x)
            by_cases hd : isDig x = true
            · rw [hd] at HDg
              have hd1 : 48 ≤ x ∧ x ≤ 57 := by simpa [isDig] using hd
              obtain ⟨d1, d2⟩ := hd1
              obtain ⟨s1, s2⟩ := HW.out.step hk1 hlt x hx d1 d2
              have HS1 := hide s1
              have HS2 := hide s2
              clear s1 s2 hd
              obtain ⟨m, hm⟩ : ∃ m, 10 * n + (x - 48) = m := ⟨_, rfl⟩
              rw [hm] at HS1 HS2
              have m1 : 10 * (n : Int) + ((x : Int) - 48) = (m : Int) := by omega
              have m2 : m ≤ 90071992547409939 := by omega
              clear hm
              by_cases hg : 9007199254740992 < m
              · have g1 : (9007199254740992 : Int) < (m : Int) := by omega
                have HW2 := hide (HS1.out hg)
                clear hg
                go_wp2_with fail
                refine HDg.out.mono ?_
                rintro e w2 ⟨rfl, h2⟩
                obtain rfl := h2.symm
                clear h2
                go_wp2
                go_roundw
                case rel => exact ⟨9007199254740993, k + 1, by omega, by omega, rfl, by go_num, (by first | trivial | rfl), by omega, HW2⟩
                case measure => simp [intOf]; omega
              · have g1 : decide ((9007199254740992 : Int) < (m : Int)) = false := decide_eq_false (by omega)
                have HW2 := hide (HS2.out hg)
                have hg2 : m ≤ 9007199254740993 := by omega
                clear hg
                go_wp2_with fail
                refine HDg.out.mono ?_
                rintro e w2 ⟨rfl, h2⟩
                obtain rfl := h2.symm
                clear h2
                go_wp2
                go_roundw
                case rel => exact ⟨m, k + 1, by omega, by omega, by go_num, by go_num, (by first | trivial | rfl), hg2, HW2⟩
                case measure => simp [intOf]; omega
            · have hd' : isDig x = false := by simpa using hd
              rw [hd'] at HDg
              have HR := hide (HD.out x (List.mem_of_getElem? (i := k - 1) (by rw [List.getElem?_drop, show 1 + (k - 1) = k by omega, nums_at s k hlt, hx])) hd')
              clear hd hd'
              go_wp2_with fail
              refine HDg.out.mono ?_
              rintro e w2 ⟨rfl, h2⟩
              obtain rfl := h2.symm
              clear h2
              go_wp2
              go_ret2
              exact ⟨ret_wh HR.out.symm, rfl⟩
          · have u1 : decide ((k : Int) < (s.size : Int)) = false := decide_eq_false (by omega)
            have u1b : decide (k < s.size) = false := decide_eq_false (by omega)
            obtain ⟨a1, a2⟩ := HW.out.all (by omega)
            have hgood := HG.out HNE.out HNZ.out a2
            by_cases hg : 9007199254740992 < n
            · have g1 : (9007199254740992 : Int) < (n : Int) := by omega
              have HR : Hid ((V, E) = (0, 22)) := by show _ = _; rw [hgood, if_pos]; rw [a1, capW_gt] at hg; exact hg
              clear a1 a2 hgood hg
              go_wp2
              go_ret2
              exact ⟨ret_wh HR.out.symm, rfl⟩
            · have g1 : decide ((9007199254740992 : Int) < (n : Int)) = false := decide_eq_false (by omega)
              have HR : Hid ((V, E) = (-(n : Int), 0)) := by
                show _ = _
                have hv : ¬ 9007199254740992 < val ((nums s).drop 1) := by rw [a1, capW_gt] at hg; exact hg
                rw [hgood, if_neg hv, a1, capW_eq _ hv]
                rfl
              have g2 : n ≤ 9007199254740992 := by omega
              clear a1 a2 hgood hg
              go_wp2
              go_ret2
              exact ⟨ret_wh HR.out.symm, rfl⟩
  · have p1 : ((1 : Int) == (s.size : Int)) = true := by simp; omega
    have p1b : (1 == s.size) = true := by simp; omega
    have HR := hide (HE.out (List.drop_eq_nil_of_le (by rw [nums_len]; omega)))
    go_enter Tryd.func18, Tryd.ntmps18
    go_wp2
    go_ret2
    exact ⟨ret_wh HR.out.symm, rfl⟩

set_option maxRecDepth 100000 in
set_option maxHeartbeats 1000000 in
theorem rwhole_0 (w : World) (s : ByteArray) (hs : s.size ≤ 140737488355328) (h0 : 0 < s.size) (h45 : ¬ (s[0]'h0).toNat = 45) :
    Calls Tryd.prog 18 #[.string s] w fun e w' => e = .returned (.tuple #[.int .i64 (wholeR (nums s)).1, .int .i64 ((wholeR (nums s)).2 : Nat)]) ∧ w' = w := by
  obtain ⟨V, E, hVE⟩ : ∃ V E, wholeR (nums s) = (V, E) := ⟨_, _, rfl⟩
  rw [hVE]
  simp only
  have hB : ((nums s).head? = some 45 ∧ false = true ∧ (nums s).drop 0 = (nums s).tail) ∨ ((nums s).head? ≠ some 45 ∧ false = false ∧ (nums s).drop 0 = nums s) := by
    have := head_at s 0 h0
    rw [List.drop_zero] at this
    exact .inr ⟨by rw [this]; intro h; exact h45 (Option.some.inj h), rfl, List.drop_zero⟩
  have HE := hide (w_empty _ _ _ hB)
  have HZ := hide (w_zero _ _ _ hB)
  have HD := hide (w_bad _ _ _ hB)
  have HG := hide (w_good _ _ _ hB)
  rw [hVE] at HE HZ HD HG
  rw [nums_len] at HZ HG
  clear hVE hB
  obtain ⟨c0, hc0⟩ : ∃ c0, (s[0]'h0).toNat = c0 := ⟨_, rfl⟩
  rw [hc0] at h45
  have p0 : (0 : Int) < (s.size : Int) := by omega
  have q0 : ((c0 : Int) == 45) = false := by simp; omega
  by_cases h1 : 0 < s.size
  · obtain ⟨c, hc⟩ : ∃ c, (s[0]'h1).toNat = c := ⟨_, rfl⟩
    obtain rfl : c = c0 := hc.symm.trans hc0
    have HH := hide (head_at s 0 h1)
    rw [hc] at HH
    have p1 : ((0 : Int) == (s.size : Int)) = false := by simp; omega
    have p1b : (0 == s.size) = false := by simp; omega
    have p2 : (0 : Int) < (s.size : Int) := by omega
    by_cases hz : c = 48 ∧ 1 < s.size
    · have q1 : ((c : Int) == 48) = true := by simp; omega
      have q2 : (1 : Int) < (s.size : Int) := by omega
      have HR := hide (HZ.out (by rw [HH.out, hz.1]) hz.2)
      clear hz
      go_enter Tryd.func18, Tryd.ntmps18
      go_wp2
      go_ret2
      exact ⟨ret_wh HR.out.symm, rfl⟩
    · have HNZ : Hid (((nums s).drop 0).head? = some 48 → ¬ 1 < s.size) := fun h => by
        rw [HH.out] at h
        intro hl
        exact hz ⟨Option.some.inj h, hl⟩
      have HNE : Hid ((nums s).drop 0 ≠ []) := fun h => by
        have := HH.out
        rw [h] at this
        cases this
      go_enter Tryd.func18, Tryd.ntmps18
      by_cases q1 : c = 48
      · have q1a : ((c : Int) == 48) = true := by simp; omega
        have q2 : decide ((1 : Int) < (s.size : Int)) = false := decide_eq_false (by omega)
        have q2b : decide (1 < s.size) = false := decide_eq_false (by omega)
        clear q1 hz
        go_wp2
        go_loopw [5, 6] (fun a b wr => ∃ (n k : Nat), 0 ≤ k ∧ k ≤ s.size ∧ a = .int .i64 (n : Int) ∧ b = .int .i64 (k : Int) ∧ wr = w ∧ n ≤ 9007199254740993 ∧ Hid (WInv s 0 k n)) (fun _ b _ => s.size - (intOf b).toNat)
        case atStart => exact ⟨0, 0, by omega, by omega, rfl, rfl, rfl, by omega, WInv.start s 0⟩
        case round =>
          clear q1a q2 q2b q0 p0 p1 p1b p2
          obtain ⟨n, k, hk1, hk, rfl, rfl, rfl, hn, HW⟩ := hrel
          by_cases hlt : k < s.size
          · have u1 : (k : Int) < (s.size : Int) := by omega
            have u2 : (0 : Int) ≤ (k : Int) := by omega
            obtain ⟨x, hx⟩ : ∃ x, (s[k]'hlt).toNat = x := ⟨_, rfl⟩
            have hxb : x < 256 := by rw [← hx]; exact (s[k]'hlt).toNat_lt
            have HDg := hide (rdigit_any wr x)
            by_cases hd : isDig x = true
            · rw [hd] at HDg
              have hd1 : 48 ≤ x ∧ x ≤ 57 := by simpa [isDig] using hd
              obtain ⟨d1, d2⟩ := hd1
              obtain ⟨s1, s2⟩ := HW.out.step hk1 hlt x hx d1 d2
              have HS1 := hide s1
              have HS2 := hide s2
              clear s1 s2 hd
              obtain ⟨m, hm⟩ : ∃ m, 10 * n + (x - 48) = m := ⟨_, rfl⟩
              rw [hm] at HS1 HS2
              have m1 : 10 * (n : Int) + ((x : Int) - 48) = (m : Int) := by omega
              have m2 : m ≤ 90071992547409939 := by omega
              clear hm
              by_cases hg : 9007199254740992 < m
              · have g1 : (9007199254740992 : Int) < (m : Int) := by omega
                have HW2 := hide (HS1.out hg)
                clear hg
                go_wp2_with fail
                refine HDg.out.mono ?_
                rintro e w2 ⟨rfl, h2⟩
                obtain rfl := h2.symm
                clear h2
                go_wp2
                go_roundw
                case rel => exact ⟨9007199254740993, k + 1, by omega, by omega, rfl, by go_num, (by first | trivial | rfl), by omega, HW2⟩
                case measure => simp [intOf]; omega
              · have g1 : decide ((9007199254740992 : Int) < (m : Int)) = false := decide_eq_false (by omega)
                have HW2 := hide (HS2.out hg)
                have hg2 : m ≤ 9007199254740993 := by omega
                clear hg
                go_wp2_with fail
                refine HDg.out.mono ?_
                rintro e w2 ⟨rfl, h2⟩
                obtain rfl := h2.symm
                clear h2
                go_wp2
                go_roundw
                case rel => exact ⟨m, k + 1, by omega, by omega, by go_num, by go_num, (by first | trivial | rfl), hg2, HW2⟩
                case measure => simp [intOf]; omega
            · have hd' : isDig x = false := by simpa using hd
              rw [hd'] at HDg
              have HR := hide (HD.out x (List.mem_of_getElem? (i := k - 0) (by rw [List.getElem?_drop, show 0 + (k - 0) = k by omega, nums_at s k hlt, hx])) hd')
              clear hd hd'
              go_wp2_with fail
              refine HDg.out.mono ?_
              rintro e w2 ⟨rfl, h2⟩
              obtain rfl := h2.symm
              clear h2
              go_wp2
              go_ret2
              exact ⟨ret_wh HR.out.symm, rfl⟩
          · have u1 : decide ((k : Int) < (s.size : Int)) = false := decide_eq_false (by omega)
            have u1b : decide (k < s.size) = false := decide_eq_false (by omega)
            obtain ⟨a1, a2⟩ := HW.out.all (by omega)
            have hgood := HG.out HNE.out HNZ.out a2
            by_cases hg : 9007199254740992 < n
            · have g1 : (9007199254740992 : Int) < (n : Int) := by omega
              have HR : Hid ((V, E) = (0, 22)) := by show _ = _; rw [hgood, if_pos]; rw [a1, capW_gt] at hg; exact hg
              clear a1 a2 hgood hg
              go_wp2
              go_ret2
              exact ⟨ret_wh HR.out.symm, rfl⟩
            · have g1 : decide ((9007199254740992 : Int) < (n : Int)) = false := decide_eq_false (by omega)
              have HR : Hid ((V, E) = ((n : Int), 0)) := by
                show _ = _
                have hv : ¬ 9007199254740992 < val ((nums s).drop 0) := by rw [a1, capW_gt] at hg; exact hg
                rw [hgood, if_neg hv, a1, capW_eq _ hv]
                rfl
              have g2 : n ≤ 9007199254740992 := by omega
              clear a1 a2 hgood hg
              go_wp2
              go_ret2
              exact ⟨ret_wh HR.out.symm, rfl⟩
      · have q1a : ((c : Int) == 48) = false := by simp; omega
        clear q1 hz
        go_wp2
        go_loopw [5, 6] (fun a b wr => ∃ (n k : Nat), 0 ≤ k ∧ k ≤ s.size ∧ a = .int .i64 (n : Int) ∧ b = .int .i64 (k : Int) ∧ wr = w ∧ n ≤ 9007199254740993 ∧ Hid (WInv s 0 k n)) (fun _ b _ => s.size - (intOf b).toNat)
        case atStart => exact ⟨0, 0, by omega, by omega, rfl, rfl, rfl, by omega, WInv.start s 0⟩
        case round =>
          clear q1a q0 p0 p1 p1b p2
          obtain ⟨n, k, hk1, hk, rfl, rfl, rfl, hn, HW⟩ := hrel
          by_cases hlt : k < s.size
          · have u1 : (k : Int) < (s.size : Int) := by omega
            have u2 : (0 : Int) ≤ (k : Int) := by omega
            obtain ⟨x, hx⟩ : ∃ x, (s[k]'hlt).toNat = x := ⟨_, rfl⟩
            have hxb : x < 256 := by rw [← hx]; exact (s[k]'hlt).toNat_lt
            have HDg := hide (rdigit_any wr x)
            by_cases hd : isDig x = true
            · rw [hd] at HDg
              have hd1 : 48 ≤ x ∧ x ≤ 57 := by simpa [isDig] using hd
              obtain ⟨d1, d2⟩ := hd1
              obtain ⟨s1, s2⟩ := HW.out.step hk1 hlt x hx d1 d2
              have HS1 := hide s1
              have HS2 := hide s2
              clear s1 s2 hd
              obtain ⟨m, hm⟩ : ∃ m, 10 * n + (x - 48) = m := ⟨_, rfl⟩
              rw [hm] at HS1 HS2
              have m1 : 10 * (n : Int) + ((x : Int) - 48) = (m : Int) := by omega
              have m2 : m ≤ 90071992547409939 := by omega
              clear hm
              by_cases hg : 9007199254740992 < m
              · have g1 : (9007199254740992 : Int) < (m : Int) := by omega
                have HW2 := hide (HS1.out hg)
                clear hg
                go_wp2_with fail
                refine HDg.out.mono ?_
                rintro e w2 ⟨rfl, h2⟩
                obtain rfl := h2.symm
                clear h2
                go_wp2
                go_roundw
                case rel => exact ⟨9007199254740993, k + 1, by omega, by omega, rfl, by go_num, (by first | trivial | rfl), by omega, HW2⟩
                case measure => simp [intOf]; omega
              · have g1 : decide ((9007199254740992 : Int) < (m : Int)) = false := decide_eq_false (by omega)
                have HW2 := hide (HS2.out hg)
                have hg2 : m ≤ 9007199254740993 := by omega
                clear hg
                go_wp2_with fail
                refine HDg.out.mono ?_
                rintro e w2 ⟨rfl, h2⟩
                obtain rfl := h2.symm
                clear h2
                go_wp2
                go_roundw
                case rel => exact ⟨m, k + 1, by omega, by omega, by go_num, by go_num, (by first | trivial | rfl), hg2, HW2⟩
                case measure => simp [intOf]; omega
            · have hd' : isDig x = false := by simpa using hd
              rw [hd'] at HDg
              have HR := hide (HD.out x (List.mem_of_getElem? (i := k - 0) (by rw [List.getElem?_drop, show 0 + (k - 0) = k by omega, nums_at s k hlt, hx])) hd')
              clear hd hd'
              go_wp2_with fail
              refine HDg.out.mono ?_
              rintro e w2 ⟨rfl, h2⟩
              obtain rfl := h2.symm
              clear h2
              go_wp2
              go_ret2
              exact ⟨ret_wh HR.out.symm, rfl⟩
          · have u1 : decide ((k : Int) < (s.size : Int)) = false := decide_eq_false (by omega)
            have u1b : decide (k < s.size) = false := decide_eq_false (by omega)
            obtain ⟨a1, a2⟩ := HW.out.all (by omega)
            have hgood := HG.out HNE.out HNZ.out a2
            by_cases hg : 9007199254740992 < n
            · have g1 : (9007199254740992 : Int) < (n : Int) := by omega
              have HR : Hid ((V, E) = (0, 22)) := by show _ = _; rw [hgood, if_pos]; rw [a1, capW_gt] at hg; exact hg
              clear a1 a2 hgood hg
              go_wp2
              go_ret2
              exact ⟨ret_wh HR.out.symm, rfl⟩
            · have g1 : decide ((9007199254740992 : Int) < (n : Int)) = false := decide_eq_false (by omega)
              have HR : Hid ((V, E) = ((n : Int), 0)) := by
                show _ = _
                have hv : ¬ 9007199254740992 < val ((nums s).drop 0) := by rw [a1, capW_gt] at hg; exact hg
                rw [hgood, if_neg hv, a1, capW_eq _ hv]
                rfl
              have g2 : n ≤ 9007199254740992 := by omega
              clear a1 a2 hgood hg
              go_wp2
              go_ret2
              exact ⟨ret_wh HR.out.symm, rfl⟩
  · have p1 : ((0 : Int) == (s.size : Int)) = true := by simp; omega
    have p1b : (0 == s.size) = true := by simp; omega
    have HR := hide (HE.out (List.drop_eq_nil_of_le (by rw [nums_len]; omega)))
    go_enter Tryd.func18, Tryd.ntmps18
    go_wp2
    go_ret2
    exact ⟨ret_wh HR.out.symm, rfl⟩


set_option maxRecDepth 100000 in
theorem rwhole_any (w : World) (s : ByteArray) (hs : s.size ≤ 140737488355328) :
    Calls Tryd.prog 18 #[.string s] w fun e w' => e = .returned (.tuple #[.int .i64 (wholeR (nums s)).1, .int .i64 ((wholeR (nums s)).2 : Nat)]) ∧ w' = w := by
  by_cases h0 : 0 < s.size
  · by_cases h45 : (s[0]'h0).toNat = 45
    · exact rwhole_1 w s hs h0 h45
    · exact rwhole_0 w s hs h0 h45
  · have hsz : s.size = 0 := by omega
    have hl : nums s = [] := List.eq_nil_of_length_eq_zero (by rw [nums_len]; exact hsz)
    have e : wholeR (nums s) = (0, 21) := by rw [hl]; decide
    rw [e]
    clear e hl h0
    go_enter Tryd.func18, Tryd.ntmps18
    go_wp2
    go_ret2
    exact ⟨rfl, rfl⟩

end Go.Proofs.YtolegbngjhfdlaaDoor
