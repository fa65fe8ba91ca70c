import Derived.Test.YtfjhbbekeibpkaaDoorCEye4
namespace Go.Proofs.YtfjhbbekeibpkaaDoor.C
open Go.RowKit

/-- A text is a number and so many bytes. -/
theorem text_parts (M : Nat) (xs : List Nat) (a f : Nat) :
    ((rNext 5 (rNext 3 M xs a f).1.num xs (rNext 3 M xs a f).2.1 (rNext 3 M xs a f).2.2).2.2 ≠ 0 → rNext 4 M xs a f = (no 0, a, (rNext 5 (rNext 3 M xs a f).1.num xs (rNext 3 M xs a f).2.1 (rNext 3 M xs a f).2.2).2.2)) ∧
    ((rNext 5 (rNext 3 M xs a f).1.num xs (rNext 3 M xs a f).2.1 (rNext 3 M xs a f).2.2).2.2 = 0 → (rNext 4 M xs a f).2 = (rNext 5 (rNext 3 M xs a f).1.num xs (rNext 3 M xs a f).2.1 (rNext 3 M xs a f).2.2).2 ∧ got xs a (rNext 4 M xs a f) = got xs (rNext 3 M xs a f).2.1 (rNext 5 (rNext 3 M xs a f).1.num xs (rNext 3 M xs a f).2.1 (rNext 3 M xs a f).2.2)) ∧
    (rNext 3 M xs a f).1.num ≤ M := by
  by_cases hf : f ≠ 0
  · simp only [rn_done _ _ _ _ _ hf]
    exact ⟨fun _ => trivial, fun h => absurd h hf, Nat.zero_le _⟩
  · obtain rfl : f = 0 := by omega
    have hl : (xs.drop a).length = xs.length - a := List.length_drop
    by_cases hv : (pVar M (xs.drop a) 0 0).fault ≠ 0
    · have e3 : rNext 3 M xs a 0 = (no 0, a, (pVar M (xs.drop a) 0 0).fault) := by rw [rn_var, if_pos hv]
      have e4 : rNext 4 M xs a 0 = (no 0, a, (pVar M (xs.drop a) 0 0).fault) := by
        simp only [rNext, pFind, pBytes, if_pos hv, no, ne_eq, not_true_eq_false, if_false, show (4 : Int) = 3 ↔ False by decide, if_true]
      rw [e3, e4]
      simp only [rn_done _ _ _ _ _ hv]
      exact ⟨fun _ => trivial, fun h => absurd h hv, Nat.zero_le _⟩
    · have hv0 : (pVar M (xs.drop a) 0 0).fault = 0 := by omega
      have hz := pv_size M (xs.drop a) 0 0 hv0
      have e3 : rNext 3 M xs a 0 = (pVar M (xs.drop a) 0 0, a + (pVar M (xs.drop a) 0 0).size, 0) := by rw [rn_var, if_neg hv]
      rw [e3]
      generalize hV : pVar M (xs.drop a) 0 0 = V at *
      rw [hl] at hz
      have hl2 : (xs.drop (a + V.size)).length = xs.length - (a + V.size) := List.length_drop
      by_cases hs : xs.length - a - V.size < V.num
      · have hs2 : xs.length - (a + V.size) < V.num := by omega
        have e5 : rNext 5 V.num xs (a + V.size) 0 = (no 0, a + V.size, 10) := by
          simp only [rNext, pFind, pRaw, hl2, hs2, no, ne_eq, not_true_eq_false, if_false, if_true, show (5 : Int) = 3 ↔ False by decide, show (5 : Int) = 4 ↔ False by decide]
          simp
        have e4 : rNext 4 M xs a 0 = (no 0, a, 10) := by
          simp only [rNext, pFind, pBytes, hV, hv0, hl, hs, no, ne_eq, not_true_eq_false, if_false, if_true, show (4 : Int) = 3 ↔ False by decide]
          simp
        simp only [e5, e4]
        exact ⟨fun _ => trivial, fun h => absurd h (by decide), hz.2.2.1⟩
      · have hs2 : ¬ xs.length - (a + V.size) < V.num := by omega
        have e5 : rNext 5 V.num xs (a + V.size) 0 = (⟨0, 0, V.num, V.num, 0⟩, a + V.size + V.num, 0) := by
          simp only [rNext, pFind, pRaw, hl2, hs2, ne_eq, not_true_eq_false, if_false, if_true, show (5 : Int) = 3 ↔ False by decide, show (5 : Int) = 4 ↔ False by decide]
        have e4 : rNext 4 M xs a 0 = (⟨0, V.size, V.num, V.size + V.num, 0⟩, a + (V.size + V.num), 0) := by
          simp only [rNext, pFind, pBytes, hV, hv0, hl, hs, ne_eq, not_true_eq_false, if_false, if_true, show (4 : Int) = 3 ↔ False by decide]
        simp only [e5, e4]
        refine ⟨fun h => absurd rfl h, fun _ => ⟨by rw [Nat.add_assoc], ?_⟩, hz.2.2.1⟩
        simp [got, List.drop_drop]

theorem ret_sl {s : Option Addr} {n m k : Nat} (h : n = m) : Ending.returned (.slice s n k) = .returned (.slice s m k) := by rw [h]

set_option maxRecDepth 100000 in
set_option maxHeartbeats 1000000 in
theorem etext_at (w : World) (b : Nat) (sp : Option Addr) (c : Nat) (xs : List Nat) (a f : Nat) (m : Int) (M : Nat) (hM : M ≤ 9223372036854775807) (hmM : (m < 0 ∧ M = 0) ∨ (¬ m < 0 ∧ m = (M : Int))) (hr : Ey w b sp c xs a f) :
    Calls Tryd.prog 25 #[.pointer (some ⟨b, 0, none⟩), .int .i64 m] w fun e w' => EyeBytes w w' b sp c xs (got xs a (rNext 4 M xs a f)) (rNext 4 M xs a f).2.1 (rNext 4 M xs a f).2.2 e := by
  obtain ⟨q0, q1, q2, qf⟩ := blk3 hr.blk
  obtain ⟨p1, p2, p3⟩ := text_parts M xs a f
  have HP1 := hide p1
  have HP2 := hide p2
  have HC := hide (evar_any w b sp c xs a f M (by omega) hr)
  have h4 := hr.le
  clear hr p1 p2
  generalize rNext 4 M xs a f = x4 at *
  generalize rNext 3 M xs a f = x3 at *
  have HC5 := hide (fun w (h : Ey w b sp c xs x3.2.1 x3.2.2) => eraw_nat w b sp c xs x3.2.1 x3.2.2 x3.1.num (by omega) h)
  generalize rNext 5 x3.1.num xs x3.2.1 x3.2.2 = x5 at *
  have hN : x3.1.num ≤ 9223372036854775807 := by omega
  obtain ⟨N, hNe⟩ : ∃ N, N = x3.1.num := ⟨_, rfl⟩
  rw [← hNe] at HC5 hN
  unfold EyeNum at HC
  rw [← hNe] at HC
  clear hNe p3
  generalize got xs x3.2.1 x5 = ys at *
  rcases hmM with ⟨hm0, rfl⟩ | ⟨hm0, rfl⟩
  all_goals
    go_enter Tryd.func25, Tryd.ntmps25
    go_wp2_with fail
    refine HC.out.mono ?_
    rintro e w1 ⟨rfl, hey1, hbut1⟩
    have HE1 := hide hey1
    have HB1 := hide hbut1
    clear hey1 hbut1 HC
    go_wp2_with fail
    refine (HC5.out _ HE1.out).mono ?_
    rintro e w2 ⟨s2, k2, rfl, hby2, hfar2, hey2, hbut2⟩
    have HE2 := hide hey2
    have HB2 : Hid (But b w w2) := HB1.out.trans hbut2
    have HY2 := hide hby2
    have HF2 : Hid (∀ p, s2 = some p → w.heap.size ≤ p.block) := fun p e => Nat.le_trans HB1.out.size (hfar2 p e)
    clear hey2 hbut2 hby2 hfar2 HC5 HE1 HB1 q0 q1 q2 qf
    obtain ⟨q0, q1, q2, qf⟩ := blk3 HE2.out.blk
    by_cases h5 : x5.2.2 ≠ 0
    · have HX := hide (HP1.out h5)
      have hb : ((x5.2.2 : Int) != 0) = true := by simp; omega
      have HE3 := hide (HE2.out.place a h4)
      go_wp2
      go_ret
      rw [HX.out]
      refine ⟨none, 0, by simp [got, no], by simpa [got, no] using nil_bytes _, fun p e => (by cases e), HE3.out, HB2.out.setCell (p := ⟨b, 1, none⟩) (Or.inl rfl) _⟩
    · have h50 : x5.2.2 = 0 := by omega
      have HX := hide (HP2.out h50)
      have hb : ((x5.2.2 : Int) != 0) = false := by simp; omega
      go_wp2
      go_ret
      rw [HX.out.1, HX.out.2]
      exact ⟨s2, k2, rfl, HY2.out, HF2.out, HE2.out, HB2.out⟩

theorem etext_any (w : World) (b : Nat) (sp : Option Addr) (c : Nat) (xs : List Nat) (a f : Nat) (m : Int) (hm : m ≤ 9223372036854775807) (hr : Ey w b sp c xs a f) :
    Calls Tryd.prog 25 #[.pointer (some ⟨b, 0, none⟩), .int .i64 m] w fun e w' => EyeBytes w w' b sp c xs (got xs a (rText m xs a f)) (rText m xs a f).2.1 (rText m xs a f).2.2 e := by
  unfold rText
  exact etext_at w b sp c xs a f m (max 0 m).toNat (by omega) (by omega) hr

end Go.Proofs.YtfjhbbekeibpkaaDoor.C
