import Derived.Test.YtplbnnfncngchaaPcC
namespace Go.Proofs.Ytplbnnfncngchaa
open Go.RowKit

theorem Onl.kp {b : Nat} {w w' : World} (h : Onl b w w') {P : Pc} {c : Nat} (hc : c ≠ b) (hp : Pk w c P) : Pk w' c P := hp.kept (h.block c hc)
set_option maxRecDepth 100000 in
set_option maxHeartbeats 1000000 in
theorem bounded_any (w : World) (b m n : Nat) (h : Pk w b (.new m)) (h1 : 1 ≤ m) (h2 : m ≤ 64) (hn : n ≤ 100000) :
    Calls Try.prog 15 #[.pointer (some ⟨b, 0, none⟩), .int .i64 (m : Int), .int .i64 (n : Int)] w fun e w' => e = .returned (.bool true) ∧ ∃ P, Pk w' b P ∧ P.Ok ∧ P.most = m ∧ Onl b w w' := by
  have HW0 : Hid (Calls Try.prog 12 #[.pointer (some ⟨b, 0, none⟩)] w fun e w' => e = .returned (.int .i64 0) ∧ w' = w) := Wait_any w b _ h
  have HP := hide h
  have HO := hide (Pc.new_ok h1 h2)
  have HB := hide (Bd.start m)
  clear h
  go_enter Try.func15, Try.ntmps15
  go_wp2_with (first | (go_at_call 12; refine HW0.out.mono ?_; rintro e w2 ⟨rfl, h⟩; obtain rfl := h.symm; clear h))
  go_loopw [7, 8, 9, 10] (fun tv gv sv iv wr => ∃ (i t gp s : Nat) (P : Pc), i ≤ n ∧ tv = .int .i64 (t : Int) ∧ gv = .int .i64 (gp : Int) ∧ sv = .int .i64 (s : Int) ∧ iv = .int .i64 (i : Int) ∧ Hid (Pk wr b P) ∧ Hid P.Ok ∧ Hid (P.most = m) ∧ Hid (Onl b w wr) ∧ Hid (Bd m i t gp s P)) (fun _ _ _ i _ => n - (intOf i).toNat)
  case atStart => exact ⟨0, 0, 0, 0, .new m, Nat.zero_le _, rfl, rfl, rfl, rfl, HP, HO, hide rfl, hide (Onl.refl _ _), HB⟩
  case round =>
    obtain ⟨i, t, gp, s, P, hi, rfl, rfl, rfl, rfl, HP1, HO1, HM1, HL1, HB1⟩ := hrel
    have hti := HB1.out.ti
    obtain ⟨hs, hgp, hdiv⟩ := HB1.out.small h1
    have HD := hide hdiv
    clear hdiv
    by_cases hlt : i < n
    · have HW := hide (Wait_any wr b P HP1.out)
      have HT := hide (Tick_any wr b P HP1.out HO1.out)
      have hl2 := HO1.out.l
      rw [HM1.out] at hl2
      have HO2 := hide HO1.out.tick
      have HM2 := hide ((Pc.tick_most P).trans HM1.out)
      by_cases hl : 1 < P.left
      · obtain ⟨q1, q2, q3⟩ := HB1.out.wait hl
        have HQ1 := hide q1
        have hnow : P.now = false := by unfold Pc.now; simp; omega
        have htl : Hid (P.tick.left = P.left - 1) := hide (by unfold Pc.tick; rw [if_pos hl])
        rw [hnow] at HT
        clear hnow q1
        generalize hL : P.left = L at *
        clear hL
        have g1 : (1 : Int) < (L : Int) := by omega
        have g2 : ¬ (L : Int) ≤ 1 := by omega
        have g3 : decide ((L : Int) ≤ 1) = false := by simp; omega
        have g4 : ((i : Int) == 0) = false := by simp; omega
        have g5 : ((i : Int) == 0) = false ∧ ¬ (i : Int) = 0 := ⟨g4, by omega⟩
        have g6 : ¬ (m : Int) ≤ (s : Int) + 1 := by omega
        go_wp2_with (first
          | (go_at_call 12; refine HW.out.mono ?_; rintro e w2 ⟨rfl, h⟩; obtain rfl := h.symm; clear h)
          | (go_at_call 8; refine HT.out.mono ?_; rintro e w3 ⟨rfl, hp3, ho3⟩; have HP3 := hide hp3; have HO3 := hide ho3; have HW3 := hide (Wait_any w3 b _ hp3); rw [htl.out, show ((L - 1 : Nat) : Int) = (L : Int) - 1 by omega] at HW3; clear hp3 ho3 HW HT)
          | (go_at_call 12; refine HW3.out.mono ?_; rintro e w4 ⟨rfl, h⟩; obtain rfl := h.symm; clear h))
        go_roundw
        case rel => exact ⟨i + 1, t, gp, s + 1, P.tick, by omega, rfl, rfl, by go_num, by go_num, HP3, HO2, HM2, hide (HL1.out.trans HO3.out), HQ1⟩
        case measure => simp [intOf]; omega
      · have hnow : P.now = true := by unfold Pc.now; simp; omega
        rw [hnow] at HT
        clear hnow
        by_cases ht : t = 0
        · subst ht
          have HQ1 := hide (HB1.out.first h1)
          generalize hL : P.left = L at *
          clear hL
          have g1 : (L : Int) ≤ 1 := by omega
          have g3 : decide ((L : Int) ≤ 1) = true := by simp; omega
          go_wp2_with (first
            | (go_at_call 12; refine HW.out.mono ?_; rintro e w2 ⟨rfl, h⟩; obtain rfl := h.symm; clear h)
            | (go_at_call 8; refine HT.out.mono ?_; rintro e w3 ⟨rfl, hp3, ho3⟩; have HP3 := hide hp3; have HO3 := hide ho3; clear hp3 ho3 HW HT))
          go_roundw
          case rel => exact ⟨i + 1, 1, gp, 0, P.tick, by omega, rfl, rfl, rfl, by go_num, HP3, HO2, HM2, hide (HL1.out.trans HO3.out), HQ1⟩
          case measure => simp [intOf]; omega
        · obtain ⟨q1, q2, q3, q4, q5, q6⟩ := HB1.out.time (by omega) (by omega)
          have HQ1 := hide q1
          clear q1
          generalize hL : P.left = L at *
          clear hL
          have g1 : (L : Int) ≤ 1 := by omega
          have g3 : decide ((L : Int) ≤ 1) = true := by simp; omega
          have t1 : (0 : Int) < (t : Int) := by omega
          have t2 : ¬ ((s : Int) + 1 < (gp : Int)) := by omega
          have t3 : ¬ ((m : Int) < (s : Int) + 1) := by omega
          by_cases hg0 : 0 < gp
          · have q5' := q5 hg0
            have t4 : (0 : Int) < (gp : Int) := by omega
            have t5 : ¬ (2 * (gp : Int) < (s : Int) + 1) := by omega
            by_cases hg1 : s + 1 < m
            · have q6' := q6 hg0 hg1
              have t6 : (s : Int) + 1 < (m : Int) := by omega
              have t7 : ((s : Int) + 1 != 2 * (gp : Int)) = false := by simp; omega
              clear q5 q6 q6'
              go_wp2_with (first
                | (go_at_call 12; refine HW.out.mono ?_; rintro e w2 ⟨rfl, h⟩; obtain rfl := h.symm; clear h)
                | (go_at_call 8; refine HT.out.mono ?_; rintro e w3 ⟨rfl, hp3, ho3⟩; have HP3 := hide hp3; have HO3 := hide ho3; clear hp3 ho3 HW HT))
              go_roundw
              case rel => exact ⟨i + 1, t + 1, s + 1, 0, P.tick, by omega, by go_num, by go_num, rfl, by go_num, HP3, HO2, HM2, hide (HL1.out.trans HO3.out), HQ1⟩
              case measure => simp [intOf]; omega
            · have t6 : ¬ (s : Int) + 1 < (m : Int) := by omega
              clear q5 q6
              go_wp2_with (first
                | (go_at_call 12; refine HW.out.mono ?_; rintro e w2 ⟨rfl, h⟩; obtain rfl := h.symm; clear h)
                | (go_at_call 8; refine HT.out.mono ?_; rintro e w3 ⟨rfl, hp3, ho3⟩; have HP3 := hide hp3; have HO3 := hide ho3; clear hp3 ho3 HW HT))
              go_roundw
              case rel => exact ⟨i + 1, t + 1, s + 1, 0, P.tick, by omega, by go_num, by go_num, rfl, by go_num, HP3, HO2, HM2, hide (HL1.out.trans HO3.out), HQ1⟩
              case measure => simp [intOf]; omega
          · have t4 : ¬ (0 : Int) < (gp : Int) := by omega
            clear q5 q6
            go_wp2_with (first
              | (go_at_call 12; refine HW.out.mono ?_; rintro e w2 ⟨rfl, h⟩; obtain rfl := h.symm; clear h)
              | (go_at_call 8; refine HT.out.mono ?_; rintro e w3 ⟨rfl, hp3, ho3⟩; have HP3 := hide hp3; have HO3 := hide ho3; clear hp3 ho3 HW HT))
            go_roundw
            case rel => exact ⟨i + 1, t + 1, s + 1, 0, P.tick, by omega, by go_num, by go_num, rfl, by go_num, HP3, HO2, HM2, hide (HL1.out.trans HO3.out), HQ1⟩
            case measure => simp [intOf]; omega
    · obtain rfl : i = n := by omega
      obtain ⟨Q, hQ⟩ : ∃ Q, i / m = Q := ⟨_, rfl⟩
      have hq : (i : Int).tdiv (m : Int) = (Q : Int) := by rw [Int.tdiv_eq_ediv_of_nonneg (by omega), ← hQ]; rfl
      have hq2 : (i : Int) / (m : Int) = (Q : Int) := by rw [← hQ]; rfl
      have hqt : Q ≤ t := by rw [← hQ]; exact HD.out
      have hm0 : ¬ (m : Int) = 0 := by omega
      have hQi : Q ≤ i := by omega
      clear hQ
      go_wp2
      go_ret
      exact ⟨by simp, P, HP1.out, HO1.out, HM1.out, HL1.out⟩
end Go.Proofs.Ytplbnnfncngchaa
