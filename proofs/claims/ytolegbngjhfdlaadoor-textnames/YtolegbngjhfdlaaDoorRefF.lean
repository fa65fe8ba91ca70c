import Derived.Test.YtolegbngjhfdlaaDoorRefD
namespace Go.Proofs.YtolegbngjhfdlaaDoor
open Go.RowKit

theorem RowB.put {W : World} {B : Nat} {f : List Nat} (h : RowB W B f) (p x : Nat) (hp : p < f.length) : RowB (W.setCell ⟨B, p, none⟩ (.int .u8 (x : Int))) B (f.set p x) := h.one p x hp

set_option maxRecDepth 100000 in
set_option maxHeartbeats 1000000 in
theorem rfold_any (w : World) (s : ByteArray) (hs : s.size ≤ 140737488355328) :
    Calls Tryd.prog 14 #[.string s] w fun e w' => (∃ t, e = .returned (.string t) ∧ nums t = foldR (nums s)) ∧ Below w.heap.size w w' := by
  obtain ⟨W0, cp, hcv, hrow, hb0, hsz0, hcp⟩ := bytes_of w s
  have HR0 := hide hrow
  have HB0 := hide hb0
  have HSZ := hide hsz0
  clear hrow hb0 hsz0
  go_enter Tryd.func14, Tryd.ntmps14
  go_wp2
  clear hcv
  go_loopw [4] (fun i wr => ∃ (pos : Nat) (f : List Nat), i = .int .i64 (pos : Int) ∧ Hid (RowB wr w.heap.size f) ∧ Hid (Below w.heap.size w wr) ∧ Hid (FoInv (nums s) pos f)) (fun i _ => s.size - (intOf i).toNat)
  case atStart => exact ⟨0, nums s, rfl, HR0, HB0, FoInv.start _⟩
  case round =>
    obtain ⟨pos, f, rfl, HR, HB, HF⟩ := hrel
    clear HR0 HB0
    by_cases hp : pos < s.size
    · have u1 : (pos : Int) < (s.size : Int) := by omega
      have u2 : (0 : Int) ≤ (pos : Int) := by omega
      have HP := hide (point_any wr s pos hp hs)
      have hpl : pos < (nums s).length := by rw [nums_len]; exact hp
      have hfl : f.length = s.size := by rw [HF.out.len, nums_len]
      rcases pt_step s pos hp with ⟨e1, e2, _⟩ | ⟨c, wd, e1, e2, e3, e4, _, e5⟩
      · rw [e1] at HP
        have HF2 := hide (HF.out.step_no hpl e2 (by decide))
        clear e1 e2 hfl hpl
        go_wp2_with fail
        refine HP.out.mono ?_
        rintro e w2 ⟨rfl, h2⟩
        obtain rfl := h2.symm
        clear h2
        go_wp2
        go_roundw
        case rel => exact ⟨pos + 1, f, by go_num, HR, HB, HF2⟩
        case measure => simp [intOf]; omega
      · rw [e1] at HP
        clear e1
        have z1 : ((wd : Int) == 0) = false := by simp; omega
        by_cases hcap : isCap c = true
        · have hci := (cap_iff c).1 hcap
          by_cases h128 : c < 128
          · obtain ⟨rfl, hx, hf⟩ := HF.out.step_one hpl e2 hcap h128
            have HF2 := hide hf
            have hfc : f.getD pos 0 = c := by rw [HF.out.at_ pos hpl, if_neg (by omega), hx]
            obtain ⟨k1, k2⟩ := HR.out pos (by omega)
            rw [hfc] at k1
            have HR2 := hide (HR.out.put pos (c + 32) (by omega))
            have HB2 : Hid (Below w.heap.size w (wr.setCell ⟨w.heap.size, pos, none⟩ (.int .u8 ((c + 32 : Nat) : Int)))) := HB.out.setCell (Nat.le_refl _) _
            have y1 : (65 : Int) ≤ (c : Int) := by omega
            have y2 : (c : Int) ≤ 90 := by omega
            have y3 : decide ((192 : Int) ≤ (c : Int)) = false := decide_eq_false (by omega)
            clear hf hx hfc hcap e2 hfl hpl hci
            go_wp2_with fail
            refine HP.out.mono ?_
            rintro e w2 ⟨rfl, h2⟩
            obtain rfl := h2.symm
            clear h2
            go_wp2
            go_roundw
            case rel => exact ⟨pos + 1, f.set pos (c + 32), by go_num, HR2, HB2, HF2⟩
            case measure => simp [intOf]; omega
          · obtain ⟨rfl, q1, q2, q3, q4, q5, hf⟩ := HF.out.step_two hpl e2 hcap h128
            rw [nums_len] at q1
            have HF2 := hide hf
            obtain ⟨k1, k2⟩ := HR.out (pos + 1) (by omega)
            rw [q4] at k1
            obtain ⟨y, hy⟩ : ∃ y, (nums s).getD (pos + 1) 0 = y := ⟨_, rfl⟩
            rw [hy] at k1 q5 HF2
            have HR2 := hide (HR.out.put (pos + 1) (y + 32) (by omega))
            have HB2 : Hid (Below w.heap.size w (wr.setCell ⟨w.heap.size, pos + 1, none⟩ (.int .u8 ((y + 32 : Nat) : Int)))) := HB.out.setCell (Nat.le_refl _) _
            have y1 : (65 : Int) ≤ (c : Int) := by omega
            have y2 : decide ((c : Int) ≤ 90) = false := decide_eq_false (by omega)
            have y3 : (192 : Int) ≤ (c : Int) := by omega
            have y4 : (c : Int) ≤ 222 := by omega
            have y5 : ((c : Int) == 215) = false := by simp; omega
            have y6 : ((c : Int) != 215) = true := by simp; omega
            have y7 : y ≤ 158 := by omega
            have y8 : (pos : Int) + 1 < (s.size : Int) := by omega
            clear hf q2 q3 q4 q5 hy hcap e2 hfl hpl hci
            go_wp2_with fail
            refine HP.out.mono ?_
            rintro e w2 ⟨rfl, h2⟩
            obtain rfl := h2.symm
            clear h2
            go_wp2
            go_roundw
            case rel => exact ⟨pos + 2, f.set (pos + 1) (y + 32), by go_num, HR2, HB2, HF2⟩
            case measure => simp [intOf]; omega
        · have hcap' : isCap c = false := by simpa using hcap
          have HF2 := hide (HF.out.step_no hpl e2 hcap')
          have hci := (cap_not c).1 hcap'
          obtain ⟨q, hq⟩ : ∃ q, q = pos + wd := ⟨_, rfl⟩
          rw [← hq] at HF2
          have r1 : (pos : Int) + (wd : Int) = (q : Int) := by omega
          have hq1 : pos < q := by omega
          have hq2 : q ≤ s.size := by omega
          have HCI := hide hci
          clear hcap hcap' e2 hfl hpl hci hq e4
          by_cases c1 : c < 65
          · have y1 : decide ((65 : Int) ≤ (c : Int)) = false := decide_eq_false (by omega)
            have y3 : decide ((192 : Int) ≤ (c : Int)) = false := decide_eq_false (by omega)
            go_wp2_with fail
            refine HP.out.mono ?_
            rintro e w2 ⟨rfl, h2⟩
            obtain rfl := h2.symm
            clear h2
            go_wp2
            go_roundw
            case rel => exact ⟨q, f, by go_num, HR, HB, HF2⟩
            case measure => simp [intOf]; omega
          · have y1 : (65 : Int) ≤ (c : Int) := by omega
            have y2 : decide ((c : Int) ≤ 90) = false := decide_eq_false (by have := HCI.out; omega)
            by_cases c2 : c < 192
            · have y3 : decide ((192 : Int) ≤ (c : Int)) = false := decide_eq_false (by omega)
              go_wp2_with fail
              refine HP.out.mono ?_
              rintro e w2 ⟨rfl, h2⟩
              obtain rfl := h2.symm
              clear h2
              go_wp2
              go_roundw
              case rel => exact ⟨q, f, by go_num, HR, HB, HF2⟩
              case measure => simp [intOf]; omega
            · have y3 : (192 : Int) ≤ (c : Int) := by omega
              by_cases c3 : c ≤ 222
              · have y4 : (c : Int) ≤ 222 := by omega
                have y5 : ((c : Int) == 215) = true := by have := HCI.out; simp; omega
                have y6 : ((c : Int) != 215) = false := by have := HCI.out; simp; omega
                go_wp2_with fail
                refine HP.out.mono ?_
                rintro e w2 ⟨rfl, h2⟩
                obtain rfl := h2.symm
                clear h2
                go_wp2
                go_roundw
                case rel => exact ⟨q, f, by go_num, HR, HB, HF2⟩
                case measure => simp [intOf]; omega
              · have y4 : decide ((c : Int) ≤ 222) = false := decide_eq_false (by omega)
                go_wp2_with fail
                refine HP.out.mono ?_
                rintro e w2 ⟨rfl, h2⟩
                obtain rfl := h2.symm
                clear h2
                go_wp2
                go_roundw
                case rel => exact ⟨q, f, by go_num, HR, HB, HF2⟩
                case measure => simp [intOf]; omega
    · have u1 : decide ((pos : Int) < (s.size : Int)) = false := decide_eq_false (by omega)
      have u1b : decide (pos < s.size) = false := decide_eq_false (by omega)
      have hfe := HF.out.done (by rw [nums_len]; exact hp)
      subst hfe
      obtain ⟨t, hcv, htn⟩ := bytes_back wr w.heap.size cp (foldR (nums s)) HR.out (fold_small _ (nums_lt s)) s.size (by rw [foldR_len, nums_len])
      have HTN := hide htn
      clear htn HR
      go_wp2
      go_ret
      exact ⟨⟨t, rfl, HTN.out⟩, HB.out⟩

theorem rfold_str (w : World) (s : ByteArray) (hs : s.size ≤ 140737488355328) :
    Calls Tryd.prog 14 #[.string s] w fun e w' => e = .returned (.string (str (foldR (nums s)))) ∧ Below w.heap.size w w' :=
  (rfold_any w s hs).mono fun e w' ⟨⟨t, he, ht⟩, hb⟩ => ⟨by rw [he, str_of ht], hb⟩

end Go.Proofs.YtolegbngjhfdlaaDoor
