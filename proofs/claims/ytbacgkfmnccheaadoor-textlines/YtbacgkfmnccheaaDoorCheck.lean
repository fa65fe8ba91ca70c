import Derived.Test.YtbacgkfmnccheaaDoorTabs
import Derived.Lib.DecodeN
namespace Go.Proofs.YtbacgkfmnccheaaDoor
open Go.RowKit

/-- Is each byte part of a code point? -/
def good (s : ByteArray) : Bool := Lib.validD s.data.toList

theorem byte_get (s : ByteArray) (k : Nat) (h : k < s.size) : s.get! k = s[k]'h := get_at s k h

/-- What lies between two code points is no ASCII. -/
theorem decode_cont (s : ByteArray) (pos : Nat) (h : pos < s.size) : ∀ k, pos < k → k < pos + (Utf8.decode s pos).2 → ∃ hk : k < s.size, 128 ≤ (s[k]'hk).toNat := by
  rw [Lib.decode_at]
  intro k h1 h2
  have hb := fun (j : Nat) (hj : j < s.size) => byte_get s j hj
  obtain ⟨n, hn⟩ : ∃ n, s.size - pos = n := ⟨_, rfl⟩
  rw [hn] at h2
  have key : ∃ d, k = pos + d ∧ 1 ≤ d ∧ d < n ∧ 128 ≤ (s.get! (pos + d)).toNat := by
    refine ⟨k - pos, by omega, by omega, ?_⟩
    generalize (s.get! pos).toNat = b0 at h2
    obtain ⟨b1, e1⟩ : ∃ b, (s.get! (pos + 1)).toNat = b := ⟨_, rfl⟩
    obtain ⟨b2, e2⟩ : ∃ b, (s.get! (pos + 2)).toNat = b := ⟨_, rfl⟩
    obtain ⟨b3, e3⟩ : ∃ b, (s.get! (pos + 3)).toNat = b := ⟨_, rfl⟩
    rw [e1, e2, e3] at h2
    unfold Lib.decodeN at h2
    have hd : k - pos = 1 ∨ k - pos = 2 ∨ k - pos = 3 ∨ 4 ≤ k - pos := by omega
    rcases hd with hd | hd | hd | hd
    · rw [hd, e1]
      repeat' split at h2
      all_goals simp only at h2
      all_goals omega
    · rw [hd, e2]
      repeat' split at h2
      all_goals simp only at h2
      all_goals omega
    · rw [hd, e3]
      repeat' split at h2
      all_goals simp only at h2
      all_goals omega
    · exfalso
      repeat' split at h2
      all_goals simp only at h2
      all_goals omega
  obtain ⟨d, rfl, _, hd, hx⟩ := key
  refine ⟨by omega, ?_⟩
  rw [hb _ (by omega)] at hx
  exact hx

/-- Names: what Check answers. -/
def chkR (s : ByteArray) : Nat := if (1 ≤ s.size ∧ s.size ≤ 64) ∧ good s = true ∧ (nums s).all isNam = true then 0 else 20

theorem nam_high (x : Nat) (h : 128 ≤ x) : isNam x = true := by simp [isNam]; omega

theorem all_upto (s : ByteArray) (pos wd : Nat) (h : ((nums s).take pos).all isNam = true) (hp : pos < s.size) (hx : isNam (s[pos]'hp).toNat = true) (hc : ∀ k, pos < k → k < pos + wd → ∃ hk : k < s.size, 128 ≤ (s[k]'hk).toNat) : ((nums s).take (pos + wd)).all isNam = true := by
  rw [List.all_eq_true] at h ⊢
  intro x hm
  obtain ⟨k, hk⟩ := List.getElem?_of_mem hm
  obtain ⟨hk1, _⟩ := List.getElem?_eq_some_iff.1 hk
  rw [List.length_take, nums_len] at hk1
  rw [List.getElem?_take_of_lt (by omega), nums_at s k (by omega)] at hk
  rcases Nat.lt_trichotomy k pos with h1 | h1 | h1
  · refine h x (List.mem_of_getElem? (i := k) ?_)
    rw [List.getElem?_take_of_lt h1, nums_at s k (by omega)]; exact hk
  · subst h1
    rw [← Option.some.inj hk]; exact hx
  · obtain ⟨hk2, h2⟩ := hc k h1 (by omega)
    rw [← Option.some.inj hk]
    exact nam_high _ h2

set_option maxRecDepth 100000 in
set_option maxHeartbeats 1000000 in
theorem check_any (w : World) (hT : Tabs w) (s : ByteArray) (hs : s.size ≤ 140737488355328) :
    Calls Tryd.prog 13 #[.string s] w fun e w' => e = .returned (.int .i64 (chkR s : Nat)) ∧ Below w.heap.size w w' := by
  have HV : Hid (Calls Tryd.prog 16 #[.string s] w fun e w' => e = .returned (.bool (good s)) ∧ Below w.heap.size w w') := Any.utf8_ValidString Tryd.lays196 s w (by omega) hT.utf
  clear hT
  by_cases h1 : 1 ≤ s.size
  · have z1 : decide ((s.size : Int) < 1) = false := decide_eq_false (by omega)
    by_cases h2 : s.size ≤ 64
    · have z2 : decide ((64 : Int) < (s.size : Int)) = false := decide_eq_false (by omega)
      by_cases h3 : good s = true
      · rw [h3] at HV
        obtain ⟨R, hR⟩ : ∃ R, chkR s = R := ⟨_, rfl⟩
        rw [hR]
        have HR : Hid (R = if (nums s).all isNam = true then 0 else 20) := by
          show _ = _
          rw [← hR, chkR]
          simp [h1, h2, h3]
        clear h3 hR
        go_enter Tryd.func13, Tryd.ntmps13
        go_wp2_with fail
        refine HV.out.mono ?_
        rintro e w1 ⟨rfl, hb⟩
        have HB1 := hide hb
        clear hb HV
        go_wp2
        go_loopw [] (fun wr => ∃ (pos : Nat), pos ≤ s.size ∧ wr = w1.iter s pos ∧ Hid (((nums s).take pos).all isNam = true)) (fun wr => s.size - wr.iterPos w1.heap.size)
        case atStart => exact ⟨0, Nat.zero_le _, rfl, by show _ = _; simp⟩
        case round =>
          obtain ⟨pos, hpos, rfl, HA⟩ := hrel
          by_cases hp : pos < s.size
          · obtain ⟨c, wd, hdec, hwd, hc, hcase⟩ := next_tells s pos hp
            have hct := decode_cont s pos hp
            have hnx := fun ty => run_next_any (P := Tryd.prog) w1 s pos ty hp
            rw [hdec] at hnx hct
            simp only at hnx hct
            have hlast : pos + wd ≤ s.size := by
              by_cases h : wd = 1
              · omega
              · obtain ⟨hk, _⟩ := hct (pos + wd - 1) (by omega) (by omega)
                omega
            by_cases hd : isNam c = true
            · have HA2 : Hid (((nums s).take (pos + wd)).all isNam = true) := all_upto s pos wd HA.out hp (by
                rcases hcase with h | h
                · rw [← h.2.1]; exact hd
                · exact nam_high _ h.1) hct
              clear hcase hct HA hdec
              go_wp2_with (first | (go_at_call 25; refine (nameable_any _ c).mono ?_; rw [hd]; rintro e w2 ⟨rfl, h⟩; obtain rfl := h.symm; clear h))
              go_roundw
              case rel => exact ⟨pos + wd, hlast, rfl, HA2⟩
              case measure => simp; omega
            · have hd' : isNam c = false := by simpa using hd
              have HZ : Hid (R = 20) := by
                show _ = _
                have hx : isNam (s[pos]'hp).toNat = false := by
                  rcases hcase with h | h
                  · rw [← h.2.1]; exact hd'
                  · rw [nam_high c h.2] at hd'; cases hd'
                rw [HR.out, if_neg]
                intro ha
                rw [List.all_eq_true.1 ha _ (List.mem_of_getElem? (nums_at s pos hp))] at hx
                cases hx
              have HBw : Hid (Below w.heap.size w (w1.iter s (pos + wd))) := HB1.out.alloc HB1.out.size _
              clear hcase hct HA hdec hd HR
              go_wp2_with (first | (go_at_call 25; refine (nameable_any _ c).mono ?_; rw [hd']; rintro e w2 ⟨rfl, h⟩; obtain rfl := h.symm; clear h))
              go_ret
              exact ⟨ret_int (by rw [HZ.out]; rfl), HBw.out⟩
          · have hnx := fun ty => run_next_end (P := Tryd.prog) w1 s pos ty hp
            have HBw : Hid (Below w.heap.size w (w1.iter s pos)) := HB1.out.alloc HB1.out.size _
            have HZ : Hid (R = 0) := by
              show _ = _
              have h := HA.out
              rw [List.take_of_length_le (by rw [nums_len]; omega)] at h
              rw [HR.out, if_pos h]
            clear HR HA
            go_wp2
            go_ret
            exact ⟨ret_int (by rw [HZ.out]; rfl), HBw.out⟩
      · have h3' : good s = false := by simpa using h3
        have HZ : chkR s = 20 := by simp [chkR, h3']
        rw [h3'] at HV
        rw [HZ]
        clear h3 HZ
        go_enter Tryd.func13, Tryd.ntmps13
        go_wp2_with fail
        refine HV.out.mono ?_
        rintro e w1 ⟨rfl, hb⟩
        have HB1 := hide hb
        clear hb HV
        go_wp2
        go_ret
        exact ⟨rfl, HB1.out⟩
    · have z2 : (64 : Int) < (s.size : Int) := by omega
      have HZ : chkR s = 20 := by rw [chkR, if_neg]; omega
      rw [HZ]
      clear HZ HV
      go_enter Tryd.func13, Tryd.ntmps13
      go_wp2
      go_ret
      exact ⟨rfl, Below.refl _ _⟩
  · have z1 : (s.size : Int) < 1 := by omega
    have HZ : chkR s = 20 := by rw [chkR, if_neg]; omega
    rw [HZ]
    clear HZ HV
    go_enter Tryd.func13, Tryd.ntmps13
    go_wp2
    go_ret
    exact ⟨rfl, Below.refl _ _⟩

end Go.Proofs.YtbacgkfmnccheaaDoor
