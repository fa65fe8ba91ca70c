import Derived.Test.YtbacgkfmnccheaaDoorRefC
namespace Go.Proofs.YtbacgkfmnccheaaDoor
open Go.RowKit

theorem pt_step (s : ByteArray) (pos : Nat) (h : pos < s.size) :
    (pt s pos = (0, 0) ∧ Dec (nums s) pos 65533 1 ∧ Lib.validD (s.data.toList.drop pos) = false) ∨
    (∃ c wd, pt s pos = (c, wd) ∧ Dec (nums s) pos c wd ∧ 1 ≤ wd ∧ pos + wd ≤ s.size ∧ Lib.validD (s.data.toList.drop pos) = Lib.validD (s.data.toList.drop (pos + wd)) ∧ c ≤ 2147483647) := by
  have hd := dec_text s pos h
  have hl : s.data.toList.length = s.size := rfl
  have hne : s.data.toList.drop pos ≠ [] := by intro h; have := congrArg List.length h; rw [List.length_drop, List.length_nil] at this; omega
  have hv := Lib.validD_step _ hne
  rw [Lib.decodeL_drop, List.drop_drop] at hv
  have hw := Lib.width_pos s pos
  have hct := decode_cont s pos h
  have hle := decode_le s pos
  unfold pt
  obtain ⟨c, wd, e⟩ : ∃ c wd, Utf8.decode s pos = (c, wd) := ⟨_, _, rfl⟩
  rw [e] at hd hv hw hct hle ⊢
  simp only at hd hv hw hct hle ⊢
  by_cases hb : c = 65533 ∧ wd = 1
  · rw [if_pos hb]
    rw [if_pos hb] at hv
    obtain ⟨rfl, rfl⟩ := hb
    exact .inl ⟨rfl, hd, hv⟩
  · rw [if_neg hb]
    rw [if_neg hb] at hv
    refine .inr ⟨c, wd, rfl, hd, hw, ?_, hv, hle⟩
    by_cases h1 : wd = 1
    · omega
    · obtain ⟨hk, _⟩ := hct (pos + wd - 1) (by omega) (by omega)
      omega

set_option maxRecDepth 100000 in
set_option maxHeartbeats 400000 in
theorem good_any (w : World) (s : ByteArray) (hs : s.size ≤ 140737488355328) :
    Calls Tryd.prog 18 #[.string s] w fun e w' => e = .returned (.bool (good s)) ∧ w' = w := by
  obtain ⟨G, hG⟩ : ∃ G, good s = G := ⟨_, rfl⟩
  rw [hG]
  have HG := hide hG
  clear hG
  go_enter Tryd.func18, Tryd.ntmps18
  go_wp2
  go_loopw [3] (fun i wr => ∃ (k : Nat), k ≤ s.size ∧ i = .int .i64 (k : Int) ∧ wr = w ∧ Hid (Lib.validD (s.data.toList.drop k) = G)) (fun i _ => s.size - (intOf i).toNat)
  case atStart => exact ⟨0, Nat.zero_le _, rfl, rfl, hide (by rw [← HG.out]; rfl)⟩
  case round =>
    obtain ⟨k, hk, rfl, rfl, HV⟩ := hrel
    by_cases hlt : k < s.size
    · have u1 : (k : Int) < (s.size : Int) := by omega
      have HP := hide (point_any wr s k hlt hs)
      rcases pt_step s k hlt with ⟨e1, _, e2⟩ | ⟨c, wd, e1, _, e2, e3, e4, e5⟩
      · rw [e1] at HP
        have HZ : Hid (G = false) := by show _ = _; rw [← HV.out, e2]
        clear e1 e2
        go_wp2_with fail
        refine HP.out.mono ?_
        rintro e w2 ⟨rfl, h2⟩
        obtain rfl := h2.symm
        clear h2
        go_wp2
        go_ret
        exact ⟨ret_bool HZ.out.symm, rfl⟩
      · rw [e1] at HP
        have HV2 : Hid (Lib.validD (s.data.toList.drop (k + wd)) = G) := by show _ = _; rw [← HV.out, e4]
        have z1 : ((wd : Int) == 0) = false := by simp; omega
        obtain ⟨q, hq⟩ : ∃ q, q = k + wd := ⟨_, rfl⟩
        have r1 : (k : Int) + (wd : Int) = (q : Int) := by omega
        rw [← hq] at HV2
        have hq1 : k < q := by omega
        have hq2 : q ≤ s.size := by omega
        clear e1 e4 hq e3
        go_wp2_with fail
        refine HP.out.mono ?_
        rintro e w2 ⟨rfl, h2⟩
        obtain rfl := h2.symm
        clear h2
        go_wp2
        go_roundw
        case rel => exact ⟨q, by omega, by go_num, (by first | trivial | rfl), HV2⟩
        case measure => simp [intOf]; omega
    · have u1 : decide ((k : Int) < (s.size : Int)) = false := decide_eq_false (by omega)
      have u1b : decide (k < s.size) = false := decide_eq_false (by omega)
      have HZ : Hid (G = true) := by
        show _ = _
        rw [← HV.out, List.drop_eq_nil_of_le (by show s.size ≤ k; omega)]
        rfl
      go_wp2
      go_ret
      exact ⟨ret_bool HZ.out.symm, rfl⟩

theorem take_nam (s : ByteArray) (k : Nat) (hk : k < s.size) (h : ((nums s).take k).all isNam = true) (c : Nat) (hc : (s[k]'hk).toNat = c) (hn : isNam c = true) : ((nums s).take (k + 1)).all isNam = true :=
  all_upto s k 1 h hk (by rw [hc]; exact hn) (fun j h1 h2 => by omega)

theorem not_nam (s : ByteArray) (k : Nat) (hk : k < s.size) (c : Nat) (hc : (s[k]'hk).toNat = c) (hn : isNam c = false) : ¬ (nums s).all isNam = true := by
  intro ha
  rw [← hc, List.all_eq_true.1 ha _ (List.mem_of_getElem? (nums_at s k hk))] at hn
  cases hn

end Go.Proofs.YtbacgkfmnccheaaDoor
