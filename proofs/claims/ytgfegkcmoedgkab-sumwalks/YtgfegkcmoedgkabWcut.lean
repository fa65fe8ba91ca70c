import Derived.Test.YtgfegkcmoedgkabRng
namespace Go.Proofs.Ytgfegkcmoedgkab
open Go.RowKit
theorem hasR_in {lo hi a : Int} (h : lo ≤ a ∧ a ≤ hi) : hasR lo hi a = true := by simp [hasR, h.1, h.2]
theorem mov_in {lo hi a c : Int} (hlo : I64 lo) (hhi : I64 hi) (h : lo ≤ a ∧ a ≤ hi) (h2 : lo ≤ a + c ∧ a + c ≤ hi) : movB lo hi a c = true ∧ movV lo hi a c = a + c := by
  have h3 : fits (a + c) = true := (fits_iff _).2 ⟨by have := hlo.1; omega, by have := hhi.2; omega⟩
  unfold movB movV
  rw [h3, hasR_in h, hasR_in h2]
  simp
theorem mov_true {lo hi a c : Int} (h : movB lo hi a c = true) : movV lo hi a c = a + c ∧ lo ≤ a + c ∧ a + c ≤ hi := by
  unfold movV
  unfold movB at h
  rw [if_pos h]
  simp only [Bool.and_eq_true, hasR, decide_eq_true_eq] at h
  exact ⟨rfl, h.2.1, h.2.2⟩
/-- What is cut to a room. -/
theorem cut_room {ch r : Int} (_hch : I64 ch) (h0 : 0 ≤ r) (h1 : r ≤ 4611686018427387904) : I64 (cutR ch r) ∧ amt (cutR ch r) ≤ r ∧ amt (cutR ch r) ≤ amt ch ∧ (ch < 0 → -r ≤ cutR ch r ∧ cutR ch r ≤ 0) ∧ (¬ ch < 0 → 0 ≤ cutR ch r ∧ cutR ch r ≤ r) := by
  obtain ⟨c1, c2⟩ := _hch
  unfold cutR amt I64
  grind
theorem wcut_any (lo hi a ch : Int) (hlo : I64 lo) (hhi : I64 hi) (ha : I64 a) (hch : I64 ch) (hin : lo ≤ a ∧ a ≤ hi) (g : Nat) (w : World) (hg : Rg w g lo hi) :
    Calls Try.prog 11 #[.pointer (some ⟨g, 0, none⟩), .int .i64 a, .int .i64 ch] w fun e w' => (∃ v, e = .returned (.tuple #[.int .i64 v, .bool true]) ∧ lo ≤ v ∧ v ≤ hi) ∧ Below w.heap.size w w' := by
  have HA := hide amount_any
  have hB := hid_0 w
  by_cases hn : ch < 0
  · have p1 : decide (ch < 0) = true := by simpa using hn
    obtain ⟨s, hs⟩ : ∃ s, s = a - lo := ⟨_, rfl⟩
    have HSl : Hid (∀ w1, Rg w1 g lo hi → Calls Try.prog 8 #[.pointer (some ⟨g, 0, none⟩), .int .i64 a, .int .i64 0] w1 fun e w' => e = .returned (.int .u64 s) ∧ w' = w1) := fun w1 h1 => by
      have := slack_any lo hi a 0 ha hlo hhi g w1 h1
      rw [show slackR lo hi a 0 = s by simp [slackR, hasR_in hin, hs]] at this
      exact this
    obtain ⟨r, hr, h0, h1, hrs⟩ : ∃ r, r = (if 4611686018427387904 < s then 4611686018427387904 else s) ∧ 0 ≤ r ∧ r ≤ 4611686018427387904 ∧ r ≤ s := ⟨_, rfl, by grind, by grind, by grind⟩
    obtain ⟨k1, k2, k3, k4, _⟩ := cut_room hch h0 h1
    have HCt : Hid (∀ w1, Calls Try.prog 14 #[.int .i64 ch, .int .i64 r] w1 fun e w' => e = .returned (.int .i64 (cutR ch r)) ∧ w' = w1) := fun w1 => cut_any ch r hch ⟨by omega, by omega⟩ w1
    obtain ⟨k5, k6⟩ := k4 hn
    generalize cutR ch r = c at *
    have HM : Hid (∀ w1, Rg w1 g lo hi → Calls Try.prog 9 #[.pointer (some ⟨g, 0, none⟩), .int .i64 a, .int .i64 c] w1 fun e w' => e = .returned (.tuple #[.int .i64 (a + c), .bool true]) ∧ Below w1.heap.size w1 w') := fun w1 h1 => by
      have := move_any lo hi a c ha k1 g w1 h1
      rw [(mov_in hlo hhi hin (by omega)).1, (mov_in hlo hhi hin (by omega)).2] at this
      exact this
    have HV : Hid (lo ≤ a + c ∧ a + c ≤ hi) := ⟨by omega, by omega⟩
    have q1 : decide (r < amt c) = false := by simp; omega
    have q2 : decide (amt ch < amt c) = false := by simp; omega
    have e1 : IntKind.i64.wrap r = r := wrap_in ⟨by omega, by omega⟩
    have HG := hide hg
    by_cases hbig : 4611686018427387904 < s
    · rw [if_pos hbig] at hr
      subst hr
      have b1 : decide (4611686018427387904 < s) = true := by simpa using hbig
      by_cases hc0 : c = 0
      · subst hc0
        clear hg hs k2 k3 k5 k6 hbig hn h0 h1 hrs hin
        go_enter Try.func11, Try.ntmps11
        go_wp2_with (first
          | (go_at_call 8; refine (HSl.out _ HG.out).mono ?_; rintro e w1 ⟨rfl, h⟩; obtain rfl := h.symm; clear h)
          | (go_at_call 14; refine (HCt.out _).mono ?_; rintro e w1 ⟨rfl, h⟩; obtain rfl := h.symm; clear h)
          | (go_at_call 15; refine (HA.out _ ?_ _).mono ?_; assumption; rintro e w1 ⟨rfl, h⟩; obtain rfl := h.symm; clear h)
          | (go_at_call 9; refine (HM.out _ HG.out).mono ?_; rintro e w1 ⟨rfl, g1⟩; replace hB := hid_up hB g1; clear g1))
        go_ret2
        exact ⟨⟨_, rfl, by have := HV.out; first | exact this | simpa using this⟩, hB.out.2⟩
      · have z1 : decide (c < 0) = true := by simp; omega
        have z2 : (c == 0) = false := by simpa using hc0
        have z3 : (c != 0) = true := by simpa using hc0
        clear hg hs k2 k3 k5 k6 hbig hn h0 h1 hrs hc0 hin
        go_enter Try.func11, Try.ntmps11
        go_wp2_with (first
          | (go_at_call 8; refine (HSl.out _ HG.out).mono ?_; rintro e w1 ⟨rfl, h⟩; obtain rfl := h.symm; clear h)
          | (go_at_call 14; refine (HCt.out _).mono ?_; rintro e w1 ⟨rfl, h⟩; obtain rfl := h.symm; clear h)
          | (go_at_call 15; refine (HA.out _ ?_ _).mono ?_; assumption; rintro e w1 ⟨rfl, h⟩; obtain rfl := h.symm; clear h)
          | (go_at_call 9; refine (HM.out _ HG.out).mono ?_; rintro e w1 ⟨rfl, g1⟩; replace hB := hid_up hB g1; clear g1))
        go_ret2
        exact ⟨⟨_, rfl, by have := HV.out; first | exact this | simpa using this⟩, hB.out.2⟩
    · rw [if_neg hbig] at hr
      subst hr
      have b1 : decide (4611686018427387904 < r) = false := by simpa using hbig
      by_cases hc0 : c = 0
      · subst hc0
        clear hg hs k2 k3 k5 k6 hbig hn h0 h1 hrs hin
        go_enter Try.func11, Try.ntmps11
        go_wp2_with (first
          | (go_at_call 8; refine (HSl.out _ HG.out).mono ?_; rintro e w1 ⟨rfl, h⟩; obtain rfl := h.symm; clear h)
          | (go_at_call 14; refine (HCt.out _).mono ?_; rintro e w1 ⟨rfl, h⟩; obtain rfl := h.symm; clear h)
          | (go_at_call 15; refine (HA.out _ ?_ _).mono ?_; assumption; rintro e w1 ⟨rfl, h⟩; obtain rfl := h.symm; clear h)
          | (go_at_call 9; refine (HM.out _ HG.out).mono ?_; rintro e w1 ⟨rfl, g1⟩; replace hB := hid_up hB g1; clear g1))
        go_ret2
        exact ⟨⟨_, rfl, by have := HV.out; first | exact this | simpa using this⟩, hB.out.2⟩
      · have z1 : decide (c < 0) = true := by simp; omega
        have z2 : (c == 0) = false := by simpa using hc0
        have z3 : (c != 0) = true := by simpa using hc0
        clear hg hs k2 k3 k5 k6 hbig hn h0 h1 hrs hc0 hin
        go_enter Try.func11, Try.ntmps11
        go_wp2_with (first
          | (go_at_call 8; refine (HSl.out _ HG.out).mono ?_; rintro e w1 ⟨rfl, h⟩; obtain rfl := h.symm; clear h)
          | (go_at_call 14; refine (HCt.out _).mono ?_; rintro e w1 ⟨rfl, h⟩; obtain rfl := h.symm; clear h)
          | (go_at_call 15; refine (HA.out _ ?_ _).mono ?_; assumption; rintro e w1 ⟨rfl, h⟩; obtain rfl := h.symm; clear h)
          | (go_at_call 9; refine (HM.out _ HG.out).mono ?_; rintro e w1 ⟨rfl, g1⟩; replace hB := hid_up hB g1; clear g1))
        go_ret2
        exact ⟨⟨_, rfl, by have := HV.out; first | exact this | simpa using this⟩, hB.out.2⟩
  · have p1 : decide (ch < 0) = false := by simpa using hn
    obtain ⟨s, hs⟩ : ∃ s, s = hi - a := ⟨_, rfl⟩
    have HSl : Hid (∀ w1, Rg w1 g lo hi → Calls Try.prog 8 #[.pointer (some ⟨g, 0, none⟩), .int .i64 a, .int .i64 1] w1 fun e w' => e = .returned (.int .u64 s) ∧ w' = w1) := fun w1 h1 => by
      have := slack_any lo hi a 1 ha hlo hhi g w1 h1
      rw [show slackR lo hi a 1 = s by simp [slackR, hasR_in hin, hs]] at this
      exact this
    obtain ⟨r, hr, h0, h1, hrs⟩ : ∃ r, r = (if 4611686018427387904 < s then 4611686018427387904 else s) ∧ 0 ≤ r ∧ r ≤ 4611686018427387904 ∧ r ≤ s := ⟨_, rfl, by grind, by grind, by grind⟩
    obtain ⟨k1, k2, k3, _, k4⟩ := cut_room hch h0 h1
    have HCt : Hid (∀ w1, Calls Try.prog 14 #[.int .i64 ch, .int .i64 r] w1 fun e w' => e = .returned (.int .i64 (cutR ch r)) ∧ w' = w1) := fun w1 => cut_any ch r hch ⟨by omega, by omega⟩ w1
    obtain ⟨k5, k6⟩ := k4 hn
    generalize cutR ch r = c at *
    have HM : Hid (∀ w1, Rg w1 g lo hi → Calls Try.prog 9 #[.pointer (some ⟨g, 0, none⟩), .int .i64 a, .int .i64 c] w1 fun e w' => e = .returned (.tuple #[.int .i64 (a + c), .bool true]) ∧ Below w1.heap.size w1 w') := fun w1 h1 => by
      have := move_any lo hi a c ha k1 g w1 h1
      rw [(mov_in hlo hhi hin (by omega)).1, (mov_in hlo hhi hin (by omega)).2] at this
      exact this
    have HV : Hid (lo ≤ a + c ∧ a + c ≤ hi) := ⟨by omega, by omega⟩
    have q1 : decide (r < amt c) = false := by simp; omega
    have q2 : decide (amt ch < amt c) = false := by simp; omega
    have e1 : IntKind.i64.wrap r = r := wrap_in ⟨by omega, by omega⟩
    have HG := hide hg
    have z1 : decide (c < 0) = false := by simp; omega
    by_cases hbig : 4611686018427387904 < s
    · rw [if_pos hbig] at hr
      subst hr
      have b1 : decide (4611686018427387904 < s) = true := by simpa using hbig
      clear hg hs k2 k3 k5 k6 hbig hn h0 h1 hrs hin
      go_enter Try.func11, Try.ntmps11
      go_wp2_with (first
          | (go_at_call 8; refine (HSl.out _ HG.out).mono ?_; rintro e w1 ⟨rfl, h⟩; obtain rfl := h.symm; clear h)
          | (go_at_call 14; refine (HCt.out _).mono ?_; rintro e w1 ⟨rfl, h⟩; obtain rfl := h.symm; clear h)
          | (go_at_call 15; refine (HA.out _ ?_ _).mono ?_; assumption; rintro e w1 ⟨rfl, h⟩; obtain rfl := h.symm; clear h)
          | (go_at_call 9; refine (HM.out _ HG.out).mono ?_; rintro e w1 ⟨rfl, g1⟩; replace hB := hid_up hB g1; clear g1))
      go_ret2
      exact ⟨⟨_, rfl, by have := HV.out; first | exact this | simpa using this⟩, hB.out.2⟩
    · rw [if_neg hbig] at hr
      subst hr
      have b1 : decide (4611686018427387904 < r) = false := by simpa using hbig
      clear hg hs k2 k3 k5 k6 hbig hn h0 h1 hrs hin
      go_enter Try.func11, Try.ntmps11
      go_wp2_with (first
          | (go_at_call 8; refine (HSl.out _ HG.out).mono ?_; rintro e w1 ⟨rfl, h⟩; obtain rfl := h.symm; clear h)
          | (go_at_call 14; refine (HCt.out _).mono ?_; rintro e w1 ⟨rfl, h⟩; obtain rfl := h.symm; clear h)
          | (go_at_call 15; refine (HA.out _ ?_ _).mono ?_; assumption; rintro e w1 ⟨rfl, h⟩; obtain rfl := h.symm; clear h)
          | (go_at_call 9; refine (HM.out _ HG.out).mono ?_; rintro e w1 ⟨rfl, g1⟩; replace hB := hid_up hB g1; clear g1))
      go_ret2
      exact ⟨⟨_, rfl, by have := HV.out; first | exact this | simpa using this⟩, hB.out.2⟩
end Go.Proofs.Ytgfegkcmoedgkab
