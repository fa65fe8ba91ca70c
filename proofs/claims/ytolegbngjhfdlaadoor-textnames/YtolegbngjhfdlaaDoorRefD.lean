import Derived.Test.YtolegbngjhfdlaaDoorRefC
namespace Go.Proofs.YtolegbngjhfdlaaDoor
open Go.RowKit

theorem pt_step (s : ByteArray) (pos : Nat) (h : pos < s.size) :
    (pt s pos = (0, 0) ∧ Dec (nums s) pos 65533 1 ∧ Lib.validD (s.data.toList.drop pos) = false) ∨
    (∃ c wd, pt s pos = (c, wd) ∧ Dec (nums s) pos c wd ∧ 1 ≤ wd ∧ pos + wd ≤ s.size ∧ Lib.validD (s.data.toList.drop pos) = Lib.validD (s.data.toList.drop (pos + wd)) ∧ c ≤ 2147483647) := by
  have hd := dec_text s pos h
  have hl : s.data.toList.length = s.size := rfl
  have hne : s.data.toList.drop pos ≠ [] := by intro h; have := congrArg List.length h; rw [List.length_drop, List.length_nil] at this; omega
  have hv := Lib.validD_step _ hne
  rw [Lib.decodeL_drop, List.drop_drop] at hv
  have hw := Lib.width_pos s pos
  have hct := decode_cont s pos h
  have hle := decode_le s pos
  unfold pt
  obtain ⟨c, wd, e⟩ : ∃ c wd, Utf8.decode s pos = (c, wd) := ⟨_, _, rfl⟩
  rw [e] at hd hv hw hct hle ⊢
  simp only at hd hv hw hct hle ⊢
  by_cases hb : c = 65533 ∧ wd = 1
  · rw [if_pos hb]
    rw [if_pos hb] at hv
    obtain ⟨rfl, rfl⟩ := hb
    exact .inl ⟨rfl, hd, hv⟩
  · rw [if_neg hb]
    rw [if_neg hb] at hv
    refine .inr ⟨c, wd, rfl, hd, hw, ?_, hv, hle⟩
    by_cases h1 : wd = 1
    · omega
    · obtain ⟨hk, _⟩ := hct (pos + wd - 1) (by omega) (by omega)
      omega

set_option maxRecDepth 100000 in
set_option maxHeartbeats 400000 in
theorem good_any (w : World) (s : ByteArray) (hs : s.size ≤ 140737488355328) :
    Calls Tryd.prog 30 #[.string s] w fun e w' => e = .returned (.bool (good s)) ∧ w' = w := by
  obtain ⟨G, hG⟩ : ∃ G, good s = G := ⟨_, rfl⟩
  rw [hG]
  have HG := hide hG
  clear hG
  go_enter Tryd.func30, Tryd.ntmps30
  go_wp2
  go_loopw [3] (fun i wr => ∃ (k : Nat), k ≤ s.size ∧ i = .int .i64 (k : Int) ∧ wr = w ∧ Hid (Lib.validD (s.data.toList.drop k) = G)) (fun i _ => s.size - (intOf i).toNat)
  case atStart => exact ⟨0, Nat.zero_le _, rfl, rfl, hide (by rw [← HG.out]; rfl)⟩
  case round =>
    obtain ⟨k, hk, rfl, rfl, HV⟩ := hrel
    by_cases hlt : k < s.size
    · have u1 : (k : Int) < (s.size : Int) := by omega
      have HP := hide (point_any wr s k hlt hs)
      rcases pt_step s k hlt with ⟨e1, _, e2⟩ | ⟨c, wd, e1, _, e2, e3, e4, e5⟩
      · rw [e1] at HP
        have HZ : Hid (G = false) := by show _ = _; rw [← HV.out, e2]
        clear e1 e2
        go_wp2_with fail
        refine HP.out.mono ?_
        rintro e w2 ⟨rfl, h2⟩
        obtain rfl := h2.symm
        clear h2
        go_wp2
        go_ret
        exact ⟨ret_bool HZ.out.symm, rfl⟩
      · rw [e1] at HP
        have HV2 : Hid (Lib.validD (s.data.toList.drop (k + wd)) = G) := by show _ = _; rw [← HV.out, e4]
        have z1 : ((wd : Int) == 0) = false := by simp; omega
        obtain ⟨q, hq⟩ : ∃ q, q = k + wd := ⟨_, rfl⟩
        have r1 : (k : Int) + (wd : Int) = (q : Int) := by omega
        rw [← hq] at HV2
        have hq1 : k < q := by omega
        have hq2 : q ≤ s.size := by omega
        clear e1 e4 hq e3
        go_wp2_with fail
        refine HP.out.mono ?_
        rintro e w2 ⟨rfl, h2⟩
        obtain rfl := h2.symm
        clear h2
        go_wp2
        go_roundw
        case rel => exact ⟨q, by omega, by go_num, (by first | trivial | rfl), HV2⟩
        case measure => simp [intOf]; omega
    · have u1 : decide ((k : Int) < (s.size : Int)) = false := decide_eq_false (by omega)
      have u1b : decide (k < s.size) = false := decide_eq_false (by omega)
      have HZ : Hid (G = true) := by
        show _ = _
        rw [← HV.out, List.drop_eq_nil_of_le (by show s.size ≤ k; omega)]
        rfl
      go_wp2
      go_ret
      exact ⟨ret_bool HZ.out.symm, rfl⟩

theorem take_nam (s : ByteArray) (k : Nat) (hk : k < s.size) (h : ((nums s).take k).all isNam = true) (c : Nat) (hc : (s[k]'hk).toNat = c) (hn : isNam c = true) : ((nums s).take (k + 1)).all isNam = true :=
  all_upto s k 1 h hk (by rw [hc]; exact hn) (fun j h1 h2 => by omega)

theorem not_nam (s : ByteArray) (k : Nat) (hk : k < s.size) (c : Nat) (hc : (s[k]'hk).toNat = c) (hn : isNam c = false) : ¬ (nums s).all isNam = true := by
  intro ha
  rw [← hc, List.all_eq_true.1 ha _ (List.mem_of_getElem? (nums_at s k hk))] at hn
  cases hn

set_option maxRecDepth 100000 in
set_option maxHeartbeats 1000000 in
theorem rcheck_any (w : World) (s : ByteArray) (hs : s.size ≤ 140737488355328) :
    Calls Tryd.prog 12 #[.string s] w fun e w' => e = .returned (.int .i64 (chkR s : Nat)) ∧ w' = w := by
  have HV := hide (good_any w s hs)
  by_cases h1 : 1 ≤ s.size
  · have z1 : decide ((s.size : Int) < 1) = false := decide_eq_false (by omega)
    by_cases h2 : s.size ≤ 64
    · have z2 : decide ((64 : Int) < (s.size : Int)) = false := decide_eq_false (by omega)
      by_cases h3 : good s = true
      · rw [h3] at HV
        obtain ⟨R, hR⟩ : ∃ R, chkR s = R := ⟨_, rfl⟩
        rw [hR]
        have HR : Hid (R = if (nums s).all isNam = true then 0 else 20) := by
          show _ = _
          rw [← hR, chkR]
          simp [h1, h2, h3]
        clear h3 hR
        go_enter Tryd.func12, Tryd.ntmps12
        go_wp2_with fail
        refine HV.out.mono ?_
        rintro e w1 ⟨rfl, hb⟩
        obtain rfl := hb.symm
        clear hb HV
        go_wp2
        go_loopw [3] (fun i wr => ∃ (k : Nat), k ≤ s.size ∧ i = .int .i64 (k : Int) ∧ wr = w ∧ Hid (((nums s).take k).all isNam = true)) (fun i _ => s.size - (intOf i).toNat)
        case atStart => exact ⟨0, Nat.zero_le _, rfl, rfl, hide (by simp)⟩
        case round =>
          obtain ⟨k, hk, rfl, rfl, HA⟩ := hrel
          by_cases hlt : k < s.size
          · have u1 : (k : Int) < (s.size : Int) := by omega
            have u2 : (0 : Int) ≤ (k : Int) := by omega
            obtain ⟨c, hc⟩ : ∃ c, (s[k]'hlt).toNat = c := ⟨_, rfl⟩
            have HT := hide (take_nam s k hlt HA.out c hc)
            have HN := hide (not_nam s k hlt c hc)
            have hcb : c < 256 := by rw [← hc]; exact (s[k]'hlt).toNat_lt
            have hiv : (0 ≤ c ∧ c ≤ 44) ∨ (45 ≤ c ∧ c ≤ 45) ∨ (46 ≤ c ∧ c ≤ 46) ∨ (47 ≤ c ∧ c ≤ 47) ∨ (48 ≤ c ∧ c ≤ 57) ∨ (58 ≤ c ∧ c ≤ 64) ∨ (65 ≤ c ∧ c ≤ 90) ∨ (91 ≤ c ∧ c ≤ 94) ∨ (95 ≤ c ∧ c ≤ 95) ∨ (96 ≤ c ∧ c ≤ 96) ∨ (97 ≤ c ∧ c ≤ 122) ∨ (123 ≤ c ∧ c ≤ 127) ∨ (128 ≤ c ∧ c ≤ 255) := by omega
            rcases hiv with hv | hv | hv | hv | hv | hv | hv | hv | hv | hv | hv | hv | hv
            · have hn : isNam c = false := by simp [isNam, isDig]; omega
              have f1 : decide ((128 : Int) ≤ (c : Int)) = false := decide_eq_false (by omega)
              have f2 : decide ((97 : Int) ≤ (c : Int)) = false := decide_eq_false (by omega)
              have f3 : (c : Int) ≤ 122 := by omega
              have f4 : decide ((65 : Int) ≤ (c : Int)) = false := decide_eq_false (by omega)
              have f5 : (c : Int) ≤ 90 := by omega
              have f6 : decide ((48 : Int) ≤ (c : Int)) = false := decide_eq_false (by omega)
              have f7 : (c : Int) ≤ 57 := by omega
              have f8 : ((c : Int) == 45) = false := by simp; omega
              have f9 : ((c : Int) == 46) = false := by simp; omega
              have f10 : ((c : Int) == 95) = false := by simp; omega
              have HZ : Hid (R = 20) := by show _ = _; rw [HR.out, if_neg (HN.out hn)]
              clear hn HT HN hv HR
              go_wp2
              go_ret
              exact ⟨ret_int (by rw [HZ.out]; rfl), rfl⟩
            · have hn : isNam c = true := by simp [isNam, isDig]; omega
              have f1 : decide ((128 : Int) ≤ (c : Int)) = false := decide_eq_false (by omega)
              have f2 : decide ((97 : Int) ≤ (c : Int)) = false := decide_eq_false (by omega)
              have f3 : (c : Int) ≤ 122 := by omega
              have f4 : decide ((65 : Int) ≤ (c : Int)) = false := decide_eq_false (by omega)
              have f5 : (c : Int) ≤ 90 := by omega
              have f6 : decide ((48 : Int) ≤ (c : Int)) = false := decide_eq_false (by omega)
              have f7 : (c : Int) ≤ 57 := by omega
              have f8 : ((c : Int) == 45) = true := by simp; omega
              have f9 : ((c : Int) == 46) = false := by simp; omega
              have f10 : ((c : Int) == 95) = false := by simp; omega
              have HA2 := hide (HT.out hn)
              clear hn HT HN hv
              go_wp2
              go_roundw
              case rel => exact ⟨k + 1, by omega, by go_num, (by first | trivial | rfl), HA2⟩
              case measure => simp [intOf]; omega
            · have hn : isNam c = true := by simp [isNam, isDig]; omega
              have f1 : decide ((128 : Int) ≤ (c : Int)) = false := decide_eq_false (by omega)
              have f2 : decide ((97 : Int) ≤ (c : Int)) = false := decide_eq_false (by omega)
              have f3 : (c : Int) ≤ 122 := by omega
              have f4 : decide ((65 : Int) ≤ (c : Int)) = false := decide_eq_false (by omega)
              have f5 : (c : Int) ≤ 90 := by omega
              have f6 : decide ((48 : Int) ≤ (c : Int)) = false := decide_eq_false (by omega)
              have f7 : (c : Int) ≤ 57 := by omega
              have f8 : ((c : Int) == 45) = false := by simp; omega
              have f9 : ((c : Int) == 46) = true := by simp; omega
              have f10 : ((c : Int) == 95) = false := by simp; omega
              have HA2 := hide (HT.out hn)
              clear hn HT HN hv
              go_wp2
              go_roundw
              case rel => exact ⟨k + 1, by omega, by go_num, (by first | trivial | rfl), HA2⟩
              case measure => simp [intOf]; omega
            · have hn : isNam c = false := by simp [isNam, isDig]; omega
              have f1 : decide ((128 : Int) ≤ (c : Int)) = false := decide_eq_false (by omega)
              have f2 : decide ((97 : Int) ≤ (c : Int)) = false := decide_eq_false (by omega)
              have f3 : (c : Int) ≤ 122 := by omega
              have f4 : decide ((65 : Int) ≤ (c : Int)) = false := decide_eq_false (by omega)
              have f5 : (c : Int) ≤ 90 := by omega
              have f6 : decide ((48 : Int) ≤ (c : Int)) = false := decide_eq_false (by omega)
              have f7 : (c : Int) ≤ 57 := by omega
              have f8 : ((c : Int) == 45) = false := by simp; omega
              have f9 : ((c : Int) == 46) = false := by simp; omega
              have f10 : ((c : Int) == 95) = false := by simp; omega
              have HZ : Hid (R = 20) := by show _ = _; rw [HR.out, if_neg (HN.out hn)]
              clear hn HT HN hv HR
              go_wp2
              go_ret
              exact ⟨ret_int (by rw [HZ.out]; rfl), rfl⟩
            · have hn : isNam c = true := by simp [isNam, isDig]; omega
              have f1 : decide ((128 : Int) ≤ (c : Int)) = false := decide_eq_false (by omega)
              have f2 : decide ((97 : Int) ≤ (c : Int)) = false := decide_eq_false (by omega)
              have f3 : (c : Int) ≤ 122 := by omega
              have f4 : decide ((65 : Int) ≤ (c : Int)) = false := decide_eq_false (by omega)
              have f5 : (c : Int) ≤ 90 := by omega
              have f6 : (48 : Int) ≤ (c : Int) := by omega
              have f7 : (c : Int) ≤ 57 := by omega
              have f8 : ((c : Int) == 45) = false := by simp; omega
              have f9 : ((c : Int) == 46) = false := by simp; omega
              have f10 : ((c : Int) == 95) = false := by simp; omega
              have HA2 := hide (HT.out hn)
              clear hn HT HN hv
              go_wp2
              go_roundw
              case rel => exact ⟨k + 1, by omega, by go_num, (by first | trivial | rfl), HA2⟩
              case measure => simp [intOf]; omega
            · have hn : isNam c = false := by simp [isNam, isDig]; omega
              have f1 : decide ((128 : Int) ≤ (c : Int)) = false := decide_eq_false (by omega)
              have f2 : decide ((97 : Int) ≤ (c : Int)) = false := decide_eq_false (by omega)
              have f3 : (c : Int) ≤ 122 := by omega
              have f4 : decide ((65 : Int) ≤ (c : Int)) = false := decide_eq_false (by omega)
              have f5 : (c : Int) ≤ 90 := by omega
              have f6 : (48 : Int) ≤ (c : Int) := by omega
              have f7 : decide ((c : Int) ≤ 57) = false := decide_eq_false (by omega)
              have f8 : ((c : Int) == 45) = false := by simp; omega
              have f9 : ((c : Int) == 46) = false := by simp; omega
              have f10 : ((c : Int) == 95) = false := by simp; omega
              have HZ : Hid (R = 20) := by show _ = _; rw [HR.out, if_neg (HN.out hn)]
              clear hn HT HN hv HR
              go_wp2
              go_ret
              exact ⟨ret_int (by rw [HZ.out]; rfl), rfl⟩
            · have hn : isNam c = true := by simp [isNam, isDig]; omega
              have f1 : decide ((128 : Int) ≤ (c : Int)) = false := decide_eq_false (by omega)
              have f2 : decide ((97 : Int) ≤ (c : Int)) = false := decide_eq_false (by omega)
              have f3 : (c : Int) ≤ 122 := by omega
              have f4 : (65 : Int) ≤ (c : Int) := by omega
              have f5 : (c : Int) ≤ 90 := by omega
              have f6 : (48 : Int) ≤ (c : Int) := by omega
              have f7 : decide ((c : Int) ≤ 57) = false := decide_eq_false (by omega)
              have f8 : ((c : Int) == 45) = false := by simp; omega
              have f9 : ((c : Int) == 46) = false := by simp; omega
              have f10 : ((c : Int) == 95) = false := by simp; omega
              have HA2 := hide (HT.out hn)
              clear hn HT HN hv
              go_wp2
              go_roundw
              case rel => exact ⟨k + 1, by omega, by go_num, (by first | trivial | rfl), HA2⟩
              case measure => simp [intOf]; omega
            · have hn : isNam c = false := by simp [isNam, isDig]; omega
              have f1 : decide ((128 : Int) ≤ (c : Int)) = false := decide_eq_false (by omega)
              have f2 : decide ((97 : Int) ≤ (c : Int)) = false := decide_eq_false (by omega)
              have f3 : (c : Int) ≤ 122 := by omega
              have f4 : (65 : Int) ≤ (c : Int) := by omega
              have f5 : decide ((c : Int) ≤ 90) = false := decide_eq_false (by omega)
              have f6 : (48 : Int) ≤ (c : Int) := by omega
              have f7 : decide ((c : Int) ≤ 57) = false := decide_eq_false (by omega)
              have f8 : ((c : Int) == 45) = false := by simp; omega
              have f9 : ((c : Int) == 46) = false := by simp; omega
              have f10 : ((c : Int) == 95) = false := by simp; omega
              have HZ : Hid (R = 20) := by show _ = _; rw [HR.out, if_neg (HN.out hn)]
              clear hn HT HN hv HR
              go_wp2
              go_ret
              exact ⟨ret_int (by rw [HZ.out]; rfl), rfl⟩
            · have hn : isNam c = true := by simp [isNam, isDig]; omega
              have f1 : decide ((128 : Int) ≤ (c : Int)) = false := decide_eq_false (by omega)
              have f2 : decide ((97 : Int) ≤ (c : Int)) = false := decide_eq_false (by omega)
              have f3 : (c : Int) ≤ 122 := by omega
              have f4 : (65 : Int) ≤ (c : Int) := by omega
              have f5 : decide ((c : Int) ≤ 90) = false := decide_eq_false (by omega)
              have f6 : (48 : Int) ≤ (c : Int) := by omega
              have f7 : decide ((c : Int) ≤ 57) = false := decide_eq_false (by omega)
              have f8 : ((c : Int) == 45) = false := by simp; omega
              have f9 : ((c : Int) == 46) = false := by simp; omega
              have f10 : ((c : Int) == 95) = true := by simp; omega
              have HA2 := hide (HT.out hn)
              clear hn HT HN hv
              go_wp2
              go_roundw
              case rel => exact ⟨k + 1, by omega, by go_num, (by first | trivial | rfl), HA2⟩
              case measure => simp [intOf]; omega
            · have hn : isNam c = false := by simp [isNam, isDig]; omega
              have f1 : decide ((128 : Int) ≤ (c : Int)) = false := decide_eq_false (by omega)
              have f2 : decide ((97 : Int) ≤ (c : Int)) = false := decide_eq_false (by omega)
              have f3 : (c : Int) ≤ 122 := by omega
              have f4 : (65 : Int) ≤ (c : Int) := by omega
              have f5 : decide ((c : Int) ≤ 90) = false := decide_eq_false (by omega)
              have f6 : (48 : Int) ≤ (c : Int) := by omega
              have f7 : decide ((c : Int) ≤ 57) = false := decide_eq_false (by omega)
              have f8 : ((c : Int) == 45) = false := by simp; omega
              have f9 : ((c : Int) == 46) = false := by simp; omega
              have f10 : ((c : Int) == 95) = false := by simp; omega
              have HZ : Hid (R = 20) := by show _ = _; rw [HR.out, if_neg (HN.out hn)]
              clear hn HT HN hv HR
              go_wp2
              go_ret
              exact ⟨ret_int (by rw [HZ.out]; rfl), rfl⟩
            · have hn : isNam c = true := by simp [isNam, isDig]; omega
              have f1 : decide ((128 : Int) ≤ (c : Int)) = false := decide_eq_false (by omega)
              have f2 : (97 : Int) ≤ (c : Int) := by omega
              have f3 : (c : Int) ≤ 122 := by omega
              have f4 : (65 : Int) ≤ (c : Int) := by omega
              have f5 : decide ((c : Int) ≤ 90) = false := decide_eq_false (by omega)
              have f6 : (48 : Int) ≤ (c : Int) := by omega
              have f7 : decide ((c : Int) ≤ 57) = false := decide_eq_false (by omega)
              have f8 : ((c : Int) == 45) = false := by simp; omega
              have f9 : ((c : Int) == 46) = false := by simp; omega
              have f10 : ((c : Int) == 95) = false := by simp; omega
              have HA2 := hide (HT.out hn)
              clear hn HT HN hv
              go_wp2
              go_roundw
              case rel => exact ⟨k + 1, by omega, by go_num, (by first | trivial | rfl), HA2⟩
              case measure => simp [intOf]; omega
            · have hn : isNam c = false := by simp [isNam, isDig]; omega
              have f1 : decide ((128 : Int) ≤ (c : Int)) = false := decide_eq_false (by omega)
              have f2 : (97 : Int) ≤ (c : Int) := by omega
              have f3 : decide ((c : Int) ≤ 122) = false := decide_eq_false (by omega)
              have f4 : (65 : Int) ≤ (c : Int) := by omega
              have f5 : decide ((c : Int) ≤ 90) = false := decide_eq_false (by omega)
              have f6 : (48 : Int) ≤ (c : Int) := by omega
              have f7 : decide ((c : Int) ≤ 57) = false := decide_eq_false (by omega)
              have f8 : ((c : Int) == 45) = false := by simp; omega
              have f9 : ((c : Int) == 46) = false := by simp; omega
              have f10 : ((c : Int) == 95) = false := by simp; omega
              have HZ : Hid (R = 20) := by show _ = _; rw [HR.out, if_neg (HN.out hn)]
              clear hn HT HN hv HR
              go_wp2
              go_ret
              exact ⟨ret_int (by rw [HZ.out]; rfl), rfl⟩
            · have hn : isNam c = true := by simp [isNam, isDig]; omega
              have f1 : (128 : Int) ≤ (c : Int) := by omega
              have f2 : (97 : Int) ≤ (c : Int) := by omega
              have f3 : decide ((c : Int) ≤ 122) = false := decide_eq_false (by omega)
              have f4 : (65 : Int) ≤ (c : Int) := by omega
              have f5 : decide ((c : Int) ≤ 90) = false := decide_eq_false (by omega)
              have f6 : (48 : Int) ≤ (c : Int) := by omega
              have f7 : decide ((c : Int) ≤ 57) = false := decide_eq_false (by omega)
              have f8 : ((c : Int) == 45) = false := by simp; omega
              have f9 : ((c : Int) == 46) = false := by simp; omega
              have f10 : ((c : Int) == 95) = false := by simp; omega
              have HA2 := hide (HT.out hn)
              clear hn HT HN hv
              go_wp2
              go_roundw
              case rel => exact ⟨k + 1, by omega, by go_num, (by first | trivial | rfl), HA2⟩
              case measure => simp [intOf]; omega
          · have u1 : decide ((k : Int) < (s.size : Int)) = false := decide_eq_false (by omega)
            have u1b : decide (k < s.size) = false := decide_eq_false (by omega)
            have HZ : Hid (R = 0) := by
              show _ = _
              have h := HA.out
              rw [List.take_of_length_le (by rw [nums_len]; omega)] at h
              rw [HR.out, if_pos h]
            clear HR HA
            go_wp2
            go_ret
            exact ⟨ret_int (by rw [HZ.out]; rfl), rfl⟩
      · have h3' : good s = false := by simpa using h3
        have HZ : chkR s = 20 := by simp [chkR, h3']
        rw [h3'] at HV
        rw [HZ]
        clear h3 HZ
        go_enter Tryd.func12, Tryd.ntmps12
        go_wp2_with fail
        refine HV.out.mono ?_
        rintro e w1 ⟨rfl, hb⟩
        obtain rfl := hb.symm
        clear hb HV
        go_wp2
        go_ret
        exact ⟨rfl, rfl⟩
    · have z2 : (64 : Int) < (s.size : Int) := by omega
      have HZ : chkR s = 20 := by rw [chkR, if_neg]; omega
      rw [HZ]
      clear HZ HV
      go_enter Tryd.func12, Tryd.ntmps12
      go_wp2
      go_ret
      exact ⟨rfl, rfl⟩
  · have z1 : (s.size : Int) < 1 := by omega
    have HZ : chkR s = 20 := by rw [chkR, if_neg]; omega
    rw [HZ]
    clear HZ HV
    go_enter Tryd.func12, Tryd.ntmps12
    go_wp2
    go_ret
    exact ⟨rfl, rfl⟩

end Go.Proofs.YtolegbngjhfdlaaDoor
