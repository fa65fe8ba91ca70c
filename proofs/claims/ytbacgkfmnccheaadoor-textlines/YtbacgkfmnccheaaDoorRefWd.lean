import Derived.Test.YtbacgkfmnccheaaDoorRowG
import Derived.Test.YtbacgkfmnccheaaDoorRefQP
import Derived.Test.YtbacgkfmnccheaaDoorRefD
namespace Go.Proofs.YtbacgkfmnccheaaDoor
open Go.RowKit

/-- What one round keeps. -/
def WInv (w0 : World) (l : List Nat) (k : Nat) (vo vw va vb vi : Value) (w : World) : Prop :=
  ∃ (p1 p2 : Option Addr) (c1 c2 : Nat) (s : RS) (out : List ByteArray), (l.take k).foldl rst ⟨0, [], false, []⟩ = s ∧ s.out = out.map nums ∧ s.a ≤ 4 ∧ s.word.length ≤ k ∧ out.length ≤ k ∧
    vo = .slice p2 out.length c2 ∧ vw = .slice p1 s.word.length c1 ∧ va = .int .i64 (s.a : Int) ∧ vb = .bool s.bad ∧ vi = .int .i64 (k : Int) ∧ WS w0 w p1 c1 p2 c2 s.word out
theorem take_fold {l : List Nat} {k : Nat} (hk : k < l.length) (s : RS) : (l.take (k + 1)).foldl rst s = rst ((l.take k).foldl rst s) (l[k]'hk) := by
  rw [List.take_succ_eq_append_getElem hk, List.foldl_append]; rfl
/-- Kinds of bytes. -/
theorem byte_kind (c : Nat) : c = 9 ∨ c = 32 ∨ c = 34 ∨ c = 92 ∨ c = 127 ∨ (c < 32 ∧ c ≠ 9) ∨ (32 < c ∧ c ≠ 34 ∧ c ≠ 92 ∧ c ≠ 127) := by omega
theorem rs_0_ctl (word : List Nat) (sout : List (List Nat)) (c : Nat) (bad : Bool) (_hk1 : decide (c < 32) = true) (_hk2 : (c == 127) = false) (_hk3 : (c != 9) = true) (_hk4 : ¬ c = 34 ∧ ¬ c = 92 ∧ ¬ c = 9 ∧ ¬ c = 32 ∧ ¬ c = 127) (_hk5 : c < 32) : rst ⟨0, word, bad, sout⟩ c = ⟨1, word ++ [c], true, sout⟩ := by
  unfold rst ctl isBlank
  first | (simp_all; done) | grind
theorem rs_0_ord (word : List Nat) (sout : List (List Nat)) (c : Nat) (bad : Bool) (_hk1 : decide (c < 32) = false) (_hk2 : (c == 127) = false) (_hk3 : (c != 9) = true) (_hk4 : ¬ c = 34 ∧ ¬ c = 92 ∧ ¬ c = 9 ∧ ¬ c = 32 ∧ ¬ c = 127) (_hk5 : ¬ c < 32) : rst ⟨0, word, bad, sout⟩ c = ⟨1, word ++ [c], bad, sout⟩ := by
  unfold rst ctl isBlank
  first | (simp_all; done) | grind
theorem rs_1_ctl (word : List Nat) (sout : List (List Nat)) (c : Nat) (bad : Bool) (_hk1 : decide (c < 32) = true) (_hk2 : (c == 127) = false) (_hk3 : (c != 9) = true) (_hk4 : ¬ c = 34 ∧ ¬ c = 92 ∧ ¬ c = 9 ∧ ¬ c = 32 ∧ ¬ c = 127) (_hk5 : c < 32) : rst ⟨1, word, bad, sout⟩ c = ⟨1, word ++ [c], true, sout⟩ := by
  unfold rst ctl isBlank
  first | (simp_all; done) | grind
theorem rs_1_ord (word : List Nat) (sout : List (List Nat)) (c : Nat) (bad : Bool) (_hk1 : decide (c < 32) = false) (_hk2 : (c == 127) = false) (_hk3 : (c != 9) = true) (_hk4 : ¬ c = 34 ∧ ¬ c = 92 ∧ ¬ c = 9 ∧ ¬ c = 32 ∧ ¬ c = 127) (_hk5 : ¬ c < 32) : rst ⟨1, word, bad, sout⟩ c = ⟨1, word ++ [c], bad, sout⟩ := by
  unfold rst ctl isBlank
  first | (simp_all; done) | grind
theorem rs_2_ctl (word : List Nat) (sout : List (List Nat)) (c : Nat) (bad : Bool) (_hk1 : decide (c < 32) = true) (_hk2 : (c == 127) = false) (_hk3 : (c != 9) = true) (_hk4 : ¬ c = 34 ∧ ¬ c = 92 ∧ ¬ c = 9 ∧ ¬ c = 32 ∧ ¬ c = 127) (_hk5 : c < 32) : rst ⟨2, word, bad, sout⟩ c = ⟨2, word ++ [c], true, sout⟩ := by
  unfold rst ctl isBlank
  first | (simp_all; done) | grind
theorem rs_2_ord (word : List Nat) (sout : List (List Nat)) (c : Nat) (bad : Bool) (_hk1 : decide (c < 32) = false) (_hk2 : (c == 127) = false) (_hk3 : (c != 9) = true) (_hk4 : ¬ c = 34 ∧ ¬ c = 92 ∧ ¬ c = 9 ∧ ¬ c = 32 ∧ ¬ c = 127) (_hk5 : ¬ c < 32) : rst ⟨2, word, bad, sout⟩ c = ⟨2, word ++ [c], bad, sout⟩ := by
  unfold rst ctl isBlank
  first | (simp_all; done) | grind
theorem rs_3_ctl (word : List Nat) (sout : List (List Nat)) (c : Nat) {bad : Bool} (_hk1 : decide (c < 32) = true) (_hk2 : (c == 127) = false) (_hk3 : (c != 9) = true) (_hk4 : ¬ c = 34 ∧ ¬ c = 92 ∧ ¬ c = 9 ∧ ¬ c = 32 ∧ ¬ c = 127) (_hk5 : c < 32) : rst ⟨3, word, bad, sout⟩ c = ⟨2, word ++ [c], true, sout⟩ := by
  unfold rst ctl isBlank
  first | (simp_all; done) | grind
theorem rs_3_ord (word : List Nat) (sout : List (List Nat)) (c : Nat) {bad : Bool} (_hk1 : decide (c < 32) = false) (_hk2 : (c == 127) = false) (_hk3 : (c != 9) = true) (_hk4 : ¬ c = 34 ∧ ¬ c = 92 ∧ ¬ c = 9 ∧ ¬ c = 32 ∧ ¬ c = 127) (_hk5 : ¬ c < 32) : rst ⟨3, word, bad, sout⟩ c = ⟨2, word ++ [c], true, sout⟩ := by
  unfold rst ctl isBlank
  first | (simp_all; done) | grind
theorem rs_4_ctl (word : List Nat) (sout : List (List Nat)) (c : Nat) (bad : Bool) (_hk1 : decide (c < 32) = true) (_hk2 : (c == 127) = false) (_hk3 : (c != 9) = true) (_hk4 : ¬ c = 34 ∧ ¬ c = 92 ∧ ¬ c = 9 ∧ ¬ c = 32 ∧ ¬ c = 127) (_hk5 : c < 32) : rst ⟨4, word, bad, sout⟩ c = ⟨4, word, true, sout⟩ := by
  unfold rst ctl isBlank
  first | (simp_all; done) | grind
theorem rs_4_ord (word : List Nat) (sout : List (List Nat)) (c : Nat) (bad : Bool) (_hk1 : decide (c < 32) = false) (_hk2 : (c == 127) = false) (_hk3 : (c != 9) = true) (_hk4 : ¬ c = 34 ∧ ¬ c = 92 ∧ ¬ c = 9 ∧ ¬ c = 32 ∧ ¬ c = 127) (_hk5 : ¬ c < 32) : rst ⟨4, word, bad, sout⟩ c = ⟨4, word, true, sout⟩ := by
  unfold rst ctl isBlank
  first | (simp_all; done) | grind

/-- What is told at the end. -/
theorem told_end (w : World) (line : ByteArray) (hsz : line.size ≤ 1024) (hg : good line = true) (s : RS) (out : List ByteArray) (hs : (nums line).foldl rst ⟨0, [], false, []⟩ = s) (ho : s.out = out.map nums) (e : Ending) (w' : World) :
    ((s.bad = true ∨ s.a = 2 ∨ s.a = 3 ∨ 32 < out.length + (if s.a = 1 then 1 else 0)) → e = .returned (.tuple #[.slice none 0 0, .int .i64 23]) → Told w line e w') ∧
    (s.bad = false → s.a ≠ 2 → s.a ≠ 3 → ∀ ls : List ByteArray, ls.map nums = s.out ++ (if s.a = 1 then [s.word] else []) → ls.length ≤ 32 → ∀ v, e = .returned (.tuple #[v, .int .i64 0]) → w'.ownsRow w.heap.size 9 1 v ls.length (ls.map Value.string) → Told w line e w') := by
  obtain ⟨h1, h2⟩ := same_all (nums line) 0 [] [] [] (by omega) (fun _ => rfl) (fun _ => rfl)
  rw [hs] at h1 h2
  have ht : tot line = wrd (nums line ++ [32]) 0 [] := rfl
  constructor
  · intro hb he
    left
    refine ⟨?_, he⟩
    unfold wordsR
    rw [if_neg]
    rintro ⟨_, _, q3, q4⟩
    by_cases hbb : s.bad = true ∨ s.a = 2 ∨ s.a = 3
    · exact h1 hbb (by rw [← ht]; exact q4)
    · have hb2 : s.bad = false := by
        cases hx : s.bad
        · rfl
        · exact absurd (Or.inl hx) hbb
      obtain ⟨rest, r1, r2⟩ := h2 ⟨hb2, fun h => hbb (Or.inr (Or.inl h)), fun h => hbb (Or.inr (Or.inr h))⟩
      rw [ht, r2] at q3
      simp only [List.nil_append] at r1
      have hl := congrArg List.length r1
      simp only [show (0 : Nat) ≠ 4 by omega, if_false] at q3
      rw [List.length_append, ho, List.length_map] at hl
      have h4 : 32 < out.length + (if s.a = 1 then 1 else 0) := by
        rcases hb with h | h | h | h
        · exact absurd (Or.inl h) hbb
        · exact absurd (Or.inr (Or.inl h)) hbb
        · exact absurd (Or.inr (Or.inr h)) hbb
        · exact h
      split at hl <;> split at h4 <;> simp at hl <;> omega
  · intro hb ha2 ha3 ls hls hlen v he hown
    right
    obtain ⟨rest, r1, r2⟩ := h2 ⟨hb, ha2, ha3⟩
    simp only [List.nil_append, show (0 : Nat) ≠ 4 by omega, if_false] at r1 r2
    refine ⟨v, ls, ?_, he, hown⟩
    unfold wordsR
    rw [ht, r2, if_pos]
    · rw [hls, r1]
    · refine ⟨hsz, hg, ?_, rfl⟩
      show rest.length ≤ 32
      rw [← r1, ← hls, List.length_map]; exact hlen

set_option maxRecDepth 100000 in
set_option maxHeartbeats 60000000 in
theorem rwords_loop (w : World) (line : ByteArray) (hsz : line.size ≤ 1024) (hg : good line = true) :
    Calls Tryd.prog 6 #[.string line] w fun e w' => Told w line e w' ∧ Below w.heap.size w w' := by
  have HGd := hide (fun w => good_any w line (by omega))
  rw [hg] at HGd
  have HLn := hide (nums_len line)
  have d1 : decide ((1024 : Int) < (line.size : Int)) = false := decide_eq_false (by omega)
  have d2 : decide (1024 < line.size) = false := decide_eq_false (by omega)
  have HTold := hide (told_end w line hsz hg)
  clear hg
  go_enter Tryd.func6, Tryd.ntmps6
  go_wp2_with (first | (go_at_call 18; refine (HGd.out _).mono ?_; rintro e w1 ⟨rfl, h⟩; obtain rfl := h.symm; clear h))
  go_loopw [4, 5, 6, 7, 8] (fun vo vw va vb vi wr => ∃ k : Nat, k ≤ line.size ∧ WInv w (nums line) k vo vw va vb vi wr) (fun _ _ _ _ vi _ => line.size - (intOf vi).toNat)
  case atStart => exact ⟨0, by omega, none, none, 0, 0, _, [], rfl, rfl, by simp, by simp, by simp, rfl, rfl, rfl, rfl, rfl, WS.start w⟩
  case round =>
    obtain ⟨k, hk, p1, p2, c1, c2, s, out, hf, ho, ha, hw, hol, rfl, rfl, rfl, rfl, rfl, hS⟩ := hrel
    have HS := hide hS
    clear hS
    obtain ⟨a, word, bad, sout⟩ := s
    simp only at HS ho ha hw ⊢
    have HO := hide ho
    clear ho
    by_cases hlt : k < line.size
    · obtain ⟨c, hc⟩ : ∃ c, (line[k]'hlt).toNat = c := ⟨_, rfl⟩
      have hc256 : c < 256 := by rw [← hc]; exact (line[k]'hlt).toNat_lt
      have HF : Hid (((nums line).take (k + 1)).foldl rst ⟨0, [], false, []⟩ = rst ⟨a, word, bad, sout⟩ c) := by
        have hl : k < (nums line).length := by rw [nums_len]; exact hlt
        have e2 : (nums line)[k]'hl = c := by
          have := nums_at line k hlt
          rw [List.getElem?_eq_getElem hl, hc] at this
          exact Option.some.inj this
        show _ = _
        rw [take_fold hl, hf, e2]
      clear hf
      have u1 : (k : Int) < (line.size : Int) := by omega
      have u2 : (0 : Int) ≤ (k : Int) := by omega
      have ha5 : a = 0 ∨ a = 1 ∨ a = 2 ∨ a = 3 ∨ a = 4 := by omega
      clear ha
      rcases ha5 with rfl | rfl | rfl | rfl | rfl
      · rcases byte_kind c with hkc | hkc | hkc | hkc | hkc | hkc | hkc
        · obtain rfl : c = 9 := hkc
          clear hc256
          have hr : rst ⟨0, word, bad, sout⟩ 9 = ⟨0, word, bad, sout⟩ := by unfold rst ctl isBlank; simp
          rw [hr] at HF
          clear hr
          go_wp2
          clear hc
          go_roundw
          case rel => exact ⟨k + 1, by omega, _, _, _, _, _, out, HF.out, HO.out, by simp, by simp; omega, by omega, rfl, rfl, rfl, rfl, by go_num, HS.out⟩
          case measure => simp [intOf]; omega
        · obtain rfl : c = 32 := hkc
          clear hc256
          have hr : rst ⟨0, word, bad, sout⟩ 32 = ⟨0, word, bad, sout⟩ := by unfold rst ctl isBlank; simp
          rw [hr] at HF
          clear hr
          go_wp2
          clear hc
          go_roundw
          case rel => exact ⟨k + 1, by omega, _, _, _, _, _, out, HF.out, HO.out, by simp, by simp; omega, by omega, rfl, rfl, rfl, rfl, by go_num, HS.out⟩
          case measure => simp [intOf]; omega
        · obtain rfl : c = 34 := hkc
          clear hc256
          have hr : rst ⟨0, word, bad, sout⟩ 34 = ⟨2, word, bad, sout⟩ := by unfold rst ctl isBlank; simp
          rw [hr] at HF
          clear hr
          go_wp2
          clear hc
          go_roundw
          case rel => exact ⟨k + 1, by omega, _, _, _, _, _, out, HF.out, HO.out, by simp, by simp; omega, by omega, rfl, rfl, rfl, rfl, by go_num, HS.out⟩
          case measure => simp [intOf]; omega
        · obtain rfl : c = 92 := hkc
          clear hc256
          have hr : rst ⟨0, word, bad, sout⟩ 92 = ⟨0, word, true, sout⟩ := by unfold rst ctl isBlank; simp
          rw [hr] at HF
          clear hr
          go_wp2
          clear hc
          go_roundw
          case rel => exact ⟨k + 1, by omega, _, _, _, _, _, out, HF.out, HO.out, by simp, by simp; omega, by omega, rfl, rfl, rfl, rfl, by go_num, HS.out⟩
          case measure => simp [intOf]; omega
        · obtain rfl : c = 127 := hkc
          clear hc256
          have hr : rst ⟨0, word, bad, sout⟩ 127 = ⟨1, word ++ [127], true, sout⟩ := by unfold rst ctl isBlank; simp
          rw [hr] at HF
          clear hr
          go_wp2_with (at_builtin; refine app_gen 43 5 (.int .u8 0) (.int .u8 ((127 : Nat) : Int)) 1 Tryd.underlying43 Tryd.infoB rfl rfl (by omega) rfl (.tmp 44) (.tmp 46) rfl w.heap.size word.length p1 c1 (bys word) rfl HS.out.rowW rfl (by omega) HS.out.below.size ?_; intro ga da wa oa grA)
          have HS2 := hide (HS.out.byte (c := 127) (by omega) oa grA)
          clear oa grA HS hc
          go_wp2
          go_roundw
          case rel => exact ⟨k + 1, by omega, _, _, _, _, _, out, HF.out, HO.out, by simp, by simp; omega, by omega, rfl, by simp, rfl, rfl, by go_num, HS2.out⟩
          case measure => simp [intOf]; omega
        · obtain ⟨k1, k2⟩ := hkc
          have hk1 : decide (c < 32) = true := decide_eq_true k1
          have hk2 : (c == 127) = false := by simp; omega
          have hk3 : (c != 9) = true := by simpa using k2
          have hk4 : ¬ c = 34 ∧ ¬ c = 92 ∧ ¬ c = 9 ∧ ¬ c = 32 ∧ ¬ c = 127 := by omega
          have hk5 : c < 32 := k1
          have z1 : ((c : Int) == 32) = false := by simp; omega
          have z2 : ((c : Int) == 9) = false := by simp; omega
          have z3 : decide ((c : Int) < 32) = true := decide_eq_true (by omega)
          have z4 : ((c : Int) == 127) = false := by simp; omega
          have z5 : ((c : Int) == 34) = false := by simp; omega
          have z6 : ((c : Int) == 92) = false := by simp; omega
          have z7 : ((c : Int) != 9) = true := by simp; omega
          have z8 : ((c : Int) != 34) = true := by simp; omega
          have z9 : ((c : Int) != 92) = true := by simp; omega
          have hr : rst ⟨0, word, bad, sout⟩ c = ⟨1, word ++ [c], true, sout⟩ := by exact rs_0_ctl word sout c bad hk1 hk2 hk3 hk4 hk5
          rw [hr] at HF
          clear hr
          go_wp2_with (at_builtin; refine app_gen 43 5 (.int .u8 0) (.int .u8 (c : Int)) 1 Tryd.underlying43 Tryd.infoB rfl rfl (by omega) rfl (.tmp 44) (.tmp 46) rfl w.heap.size word.length p1 c1 (bys word) rfl HS.out.rowW rfl (by omega) HS.out.below.size ?_; intro ga da wa oa grA)
          have HS2 := hide (HS.out.byte (c := c) (by omega) oa grA)
          clear oa grA HS hc
          go_wp2
          go_roundw
          case rel => exact ⟨k + 1, by omega, _, _, _, _, _, out, HF.out, HO.out, by simp, by simp; omega, by omega, rfl, by simp, rfl, rfl, by go_num, HS2.out⟩
          case measure => simp [intOf]; omega
        · obtain ⟨k1, k2, k3, k4⟩ := hkc
          have hk1 : decide (c < 32) = false := decide_eq_false (by omega)
          have hk2 : (c == 127) = false := by simpa using k4
          have hk3 : (c != 9) = true := by simp; omega
          have hk4 : ¬ c = 34 ∧ ¬ c = 92 ∧ ¬ c = 9 ∧ ¬ c = 32 ∧ ¬ c = 127 := by omega
          have hk5 : ¬ c < 32 := by omega
          have z1 : ((c : Int) == 32) = false := by simp; omega
          have z2 : ((c : Int) == 9) = false := by simp; omega
          have z3 : decide ((c : Int) < 32) = false := decide_eq_false (by omega)
          have z4 : ((c : Int) == 127) = false := by simp; omega
          have z5 : ((c : Int) == 34) = false := by simp; omega
          have z6 : ((c : Int) == 92) = false := by simp; omega
          have z7 : ((c : Int) != 9) = true := by simp; omega
          have z8 : ((c : Int) != 34) = true := by simp; omega
          have z9 : ((c : Int) != 92) = true := by simp; omega
          have hr : rst ⟨0, word, bad, sout⟩ c = ⟨1, word ++ [c], bad, sout⟩ := by exact rs_0_ord word sout c bad hk1 hk2 hk3 hk4 hk5
          rw [hr] at HF
          clear hr
          go_wp2_with (at_builtin; refine app_gen 43 5 (.int .u8 0) (.int .u8 (c : Int)) 1 Tryd.underlying43 Tryd.infoB rfl rfl (by omega) rfl (.tmp 44) (.tmp 46) rfl w.heap.size word.length p1 c1 (bys word) rfl HS.out.rowW rfl (by omega) HS.out.below.size ?_; intro ga da wa oa grA)
          have HS2 := hide (HS.out.byte (c := c) (by omega) oa grA)
          clear oa grA HS hc
          go_wp2
          go_roundw
          case rel => exact ⟨k + 1, by omega, _, _, _, _, _, out, HF.out, HO.out, by simp, by simp; omega, by omega, rfl, by simp, rfl, rfl, by go_num, HS2.out⟩
          case measure => simp [intOf]; omega
      · rcases byte_kind c with hkc | hkc | hkc | hkc | hkc | hkc | hkc
        · obtain rfl : c = 9 := hkc
          clear hc256
          have hr : rst ⟨1, word, bad, sout⟩ 9 = ⟨0, [], bad, sout ++ [word]⟩ := by unfold rst ctl isBlank; simp
          rw [hr] at HF
          clear hr
          obtain ⟨t, hcv, ht⟩ := HS.out.conv
          have HTn := hide ht
          clear ht
          go_wp2_with (at_builtin; refine app_gen 22 9 (.string ⟨#[]⟩) (.string t) 16 Tryd.underlying22 Tryd.infoT rfl rfl (by omega) rfl (.tmp 96) (.tmp 99) rfl w.heap.size out.length p2 c2 (out.map Value.string) rfl HS.out.rowO rfl (by omega) HS.out.below.size ?_; intro ga da wa oa grA)
          have HS2 := hide (HS.out.str oa grA)
          clear oa grA HS hc hcv
          go_wp2
          go_roundw
          case rel => exact ⟨k + 1, by omega, _, _, _, _, _, out ++ [t], HF.out, by rw [List.map_append, ← HO.out, List.map_cons, List.map_nil, HTn.out], by simp, by simp, by simp; omega, by simp, by simp, rfl, rfl, by go_num, HS2.out⟩
          case measure => simp [intOf]; omega
        · obtain rfl : c = 32 := hkc
          clear hc256
          have hr : rst ⟨1, word, bad, sout⟩ 32 = ⟨0, [], bad, sout ++ [word]⟩ := by unfold rst ctl isBlank; simp
          rw [hr] at HF
          clear hr
          obtain ⟨t, hcv, ht⟩ := HS.out.conv
          have HTn := hide ht
          clear ht
          go_wp2_with (at_builtin; refine app_gen 22 9 (.string ⟨#[]⟩) (.string t) 16 Tryd.underlying22 Tryd.infoT rfl rfl (by omega) rfl (.tmp 96) (.tmp 99) rfl w.heap.size out.length p2 c2 (out.map Value.string) rfl HS.out.rowO rfl (by omega) HS.out.below.size ?_; intro ga da wa oa grA)
          have HS2 := hide (HS.out.str oa grA)
          clear oa grA HS hc hcv
          go_wp2
          go_roundw
          case rel => exact ⟨k + 1, by omega, _, _, _, _, _, out ++ [t], HF.out, by rw [List.map_append, ← HO.out, List.map_cons, List.map_nil, HTn.out], by simp, by simp, by simp; omega, by simp, by simp, rfl, rfl, by go_num, HS2.out⟩
          case measure => simp [intOf]; omega
        · obtain rfl : c = 34 := hkc
          clear hc256
          have hr : rst ⟨1, word, bad, sout⟩ 34 = ⟨1, word, true, sout⟩ := by unfold rst ctl isBlank; simp
          rw [hr] at HF
          clear hr
          go_wp2
          clear hc
          go_roundw
          case rel => exact ⟨k + 1, by omega, _, _, _, _, _, out, HF.out, HO.out, by simp, by simp; omega, by omega, rfl, rfl, rfl, rfl, by go_num, HS.out⟩
          case measure => simp [intOf]; omega
        · obtain rfl : c = 92 := hkc
          clear hc256
          have hr : rst ⟨1, word, bad, sout⟩ 92 = ⟨1, word, true, sout⟩ := by unfold rst ctl isBlank; simp
          rw [hr] at HF
          clear hr
          go_wp2
          clear hc
          go_roundw
          case rel => exact ⟨k + 1, by omega, _, _, _, _, _, out, HF.out, HO.out, by simp, by simp; omega, by omega, rfl, rfl, rfl, rfl, by go_num, HS.out⟩
          case measure => simp [intOf]; omega
        · obtain rfl : c = 127 := hkc
          clear hc256
          have hr : rst ⟨1, word, bad, sout⟩ 127 = ⟨1, word ++ [127], true, sout⟩ := by unfold rst ctl isBlank; simp
          rw [hr] at HF
          clear hr
          go_wp2_with (at_builtin; refine app_gen 43 5 (.int .u8 0) (.int .u8 ((127 : Nat) : Int)) 1 Tryd.underlying43 Tryd.infoB rfl rfl (by omega) rfl (.tmp 44) (.tmp 46) rfl w.heap.size word.length p1 c1 (bys word) rfl HS.out.rowW rfl (by omega) HS.out.below.size ?_; intro ga da wa oa grA)
          have HS2 := hide (HS.out.byte (c := 127) (by omega) oa grA)
          clear oa grA HS hc
          go_wp2
          go_roundw
          case rel => exact ⟨k + 1, by omega, _, _, _, _, _, out, HF.out, HO.out, by simp, by simp; omega, by omega, rfl, by simp, rfl, rfl, by go_num, HS2.out⟩
          case measure => simp [intOf]; omega
        · obtain ⟨k1, k2⟩ := hkc
          have hk1 : decide (c < 32) = true := decide_eq_true k1
          have hk2 : (c == 127) = false := by simp; omega
          have hk3 : (c != 9) = true := by simpa using k2
          have hk4 : ¬ c = 34 ∧ ¬ c = 92 ∧ ¬ c = 9 ∧ ¬ c = 32 ∧ ¬ c = 127 := by omega
          have hk5 : c < 32 := k1
          have z1 : ((c : Int) == 32) = false := by simp; omega
          have z2 : ((c : Int) == 9) = false := by simp; omega
          have z3 : decide ((c : Int) < 32) = true := decide_eq_true (by omega)
          have z4 : ((c : Int) == 127) = false := by simp; omega
          have z5 : ((c : Int) == 34) = false := by simp; omega
          have z6 : ((c : Int) == 92) = false := by simp; omega
          have z7 : ((c : Int) != 9) = true := by simp; omega
          have z8 : ((c : Int) != 34) = true := by simp; omega
          have z9 : ((c : Int) != 92) = true := by simp; omega
          have hr : rst ⟨1, word, bad, sout⟩ c = ⟨1, word ++ [c], true, sout⟩ := by exact rs_1_ctl word sout c bad hk1 hk2 hk3 hk4 hk5
          rw [hr] at HF
          clear hr
          go_wp2_with (at_builtin; refine app_gen 43 5 (.int .u8 0) (.int .u8 (c : Int)) 1 Tryd.underlying43 Tryd.infoB rfl rfl (by omega) rfl (.tmp 44) (.tmp 46) rfl w.heap.size word.length p1 c1 (bys word) rfl HS.out.rowW rfl (by omega) HS.out.below.size ?_; intro ga da wa oa grA)
          have HS2 := hide (HS.out.byte (c := c) (by omega) oa grA)
          clear oa grA HS hc
          go_wp2
          go_roundw
          case rel => exact ⟨k + 1, by omega, _, _, _, _, _, out, HF.out, HO.out, by simp, by simp; omega, by omega, rfl, by simp, rfl, rfl, by go_num, HS2.out⟩
          case measure => simp [intOf]; omega
        · obtain ⟨k1, k2, k3, k4⟩ := hkc
          have hk1 : decide (c < 32) = false := decide_eq_false (by omega)
          have hk2 : (c == 127) = false := by simpa using k4
          have hk3 : (c != 9) = true := by simp; omega
          have hk4 : ¬ c = 34 ∧ ¬ c = 92 ∧ ¬ c = 9 ∧ ¬ c = 32 ∧ ¬ c = 127 := by omega
          have hk5 : ¬ c < 32 := by omega
          have z1 : ((c : Int) == 32) = false := by simp; omega
          have z2 : ((c : Int) == 9) = false := by simp; omega
          have z3 : decide ((c : Int) < 32) = false := decide_eq_false (by omega)
          have z4 : ((c : Int) == 127) = false := by simp; omega
          have z5 : ((c : Int) == 34) = false := by simp; omega
          have z6 : ((c : Int) == 92) = false := by simp; omega
          have z7 : ((c : Int) != 9) = true := by simp; omega
          have z8 : ((c : Int) != 34) = true := by simp; omega
          have z9 : ((c : Int) != 92) = true := by simp; omega
          have hr : rst ⟨1, word, bad, sout⟩ c = ⟨1, word ++ [c], bad, sout⟩ := by exact rs_1_ord word sout c bad hk1 hk2 hk3 hk4 hk5
          rw [hr] at HF
          clear hr
          go_wp2_with (at_builtin; refine app_gen 43 5 (.int .u8 0) (.int .u8 (c : Int)) 1 Tryd.underlying43 Tryd.infoB rfl rfl (by omega) rfl (.tmp 44) (.tmp 46) rfl w.heap.size word.length p1 c1 (bys word) rfl HS.out.rowW rfl (by omega) HS.out.below.size ?_; intro ga da wa oa grA)
          have HS2 := hide (HS.out.byte (c := c) (by omega) oa grA)
          clear oa grA HS hc
          go_wp2
          go_roundw
          case rel => exact ⟨k + 1, by omega, _, _, _, _, _, out, HF.out, HO.out, by simp, by simp; omega, by omega, rfl, by simp, rfl, rfl, by go_num, HS2.out⟩
          case measure => simp [intOf]; omega
      · rcases byte_kind c with hkc | hkc | hkc | hkc | hkc | hkc | hkc
        · obtain rfl : c = 9 := hkc
          clear hc256
          have hr : rst ⟨2, word, bad, sout⟩ 9 = ⟨2, word ++ [9], bad, sout⟩ := by unfold rst ctl isBlank; simp
          rw [hr] at HF
          clear hr
          go_wp2_with (at_builtin; refine app_gen 43 5 (.int .u8 0) (.int .u8 ((9 : Nat) : Int)) 1 Tryd.underlying43 Tryd.infoB rfl rfl (by omega) rfl (.tmp 86) (.tmp 88) rfl w.heap.size word.length p1 c1 (bys word) rfl HS.out.rowW rfl (by omega) HS.out.below.size ?_; intro ga da wa oa grA)
          have HS2 := hide (HS.out.byte (c := 9) (by omega) oa grA)
          clear oa grA HS hc
          go_wp2
          go_roundw
          case rel => exact ⟨k + 1, by omega, _, _, _, _, _, out, HF.out, HO.out, by simp, by simp; omega, by omega, rfl, by simp, rfl, rfl, by go_num, HS2.out⟩
          case measure => simp [intOf]; omega
        · obtain rfl : c = 32 := hkc
          clear hc256
          have hr : rst ⟨2, word, bad, sout⟩ 32 = ⟨2, word ++ [32], bad, sout⟩ := by unfold rst ctl isBlank; simp
          rw [hr] at HF
          clear hr
          go_wp2_with (at_builtin; refine app_gen 43 5 (.int .u8 0) (.int .u8 ((32 : Nat) : Int)) 1 Tryd.underlying43 Tryd.infoB rfl rfl (by omega) rfl (.tmp 86) (.tmp 88) rfl w.heap.size word.length p1 c1 (bys word) rfl HS.out.rowW rfl (by omega) HS.out.below.size ?_; intro ga da wa oa grA)
          have HS2 := hide (HS.out.byte (c := 32) (by omega) oa grA)
          clear oa grA HS hc
          go_wp2
          go_roundw
          case rel => exact ⟨k + 1, by omega, _, _, _, _, _, out, HF.out, HO.out, by simp, by simp; omega, by omega, rfl, by simp, rfl, rfl, by go_num, HS2.out⟩
          case measure => simp [intOf]; omega
        · obtain rfl : c = 34 := hkc
          clear hc256
          have hr : rst ⟨2, word, bad, sout⟩ 34 = ⟨4, [], bad, sout ++ [word]⟩ := by unfold rst ctl isBlank; simp
          rw [hr] at HF
          clear hr
          obtain ⟨t, hcv, ht⟩ := HS.out.conv
          have HTn := hide ht
          clear ht
          go_wp2_with (at_builtin; refine app_gen 22 9 (.string ⟨#[]⟩) (.string t) 16 Tryd.underlying22 Tryd.infoT rfl rfl (by omega) rfl (.tmp 78) (.tmp 81) rfl w.heap.size out.length p2 c2 (out.map Value.string) rfl HS.out.rowO rfl (by omega) HS.out.below.size ?_; intro ga da wa oa grA)
          have HS2 := hide (HS.out.str oa grA)
          clear oa grA HS hc hcv
          go_wp2
          go_roundw
          case rel => exact ⟨k + 1, by omega, _, _, _, _, _, out ++ [t], HF.out, by rw [List.map_append, ← HO.out, List.map_cons, List.map_nil, HTn.out], by simp, by simp, by simp; omega, by simp, by simp, rfl, rfl, by go_num, HS2.out⟩
          case measure => simp [intOf]; omega
        · obtain rfl : c = 92 := hkc
          clear hc256
          have hr : rst ⟨2, word, bad, sout⟩ 92 = ⟨3, word, bad, sout⟩ := by unfold rst ctl isBlank; simp
          rw [hr] at HF
          clear hr
          go_wp2
          clear hc
          go_roundw
          case rel => exact ⟨k + 1, by omega, _, _, _, _, _, out, HF.out, HO.out, by simp, by simp; omega, by omega, rfl, rfl, rfl, rfl, by go_num, HS.out⟩
          case measure => simp [intOf]; omega
        · obtain rfl : c = 127 := hkc
          clear hc256
          have hr : rst ⟨2, word, bad, sout⟩ 127 = ⟨2, word ++ [127], true, sout⟩ := by unfold rst ctl isBlank; simp
          rw [hr] at HF
          clear hr
          go_wp2_with (at_builtin; refine app_gen 43 5 (.int .u8 0) (.int .u8 ((127 : Nat) : Int)) 1 Tryd.underlying43 Tryd.infoB rfl rfl (by omega) rfl (.tmp 86) (.tmp 88) rfl w.heap.size word.length p1 c1 (bys word) rfl HS.out.rowW rfl (by omega) HS.out.below.size ?_; intro ga da wa oa grA)
          have HS2 := hide (HS.out.byte (c := 127) (by omega) oa grA)
          clear oa grA HS hc
          go_wp2
          go_roundw
          case rel => exact ⟨k + 1, by omega, _, _, _, _, _, out, HF.out, HO.out, by simp, by simp; omega, by omega, rfl, by simp, rfl, rfl, by go_num, HS2.out⟩
          case measure => simp [intOf]; omega
        · obtain ⟨k1, k2⟩ := hkc
          have hk1 : decide (c < 32) = true := decide_eq_true k1
          have hk2 : (c == 127) = false := by simp; omega
          have hk3 : (c != 9) = true := by simpa using k2
          have hk4 : ¬ c = 34 ∧ ¬ c = 92 ∧ ¬ c = 9 ∧ ¬ c = 32 ∧ ¬ c = 127 := by omega
          have hk5 : c < 32 := k1
          have z1 : ((c : Int) == 32) = false := by simp; omega
          have z2 : ((c : Int) == 9) = false := by simp; omega
          have z3 : decide ((c : Int) < 32) = true := decide_eq_true (by omega)
          have z4 : ((c : Int) == 127) = false := by simp; omega
          have z5 : ((c : Int) == 34) = false := by simp; omega
          have z6 : ((c : Int) == 92) = false := by simp; omega
          have z7 : ((c : Int) != 9) = true := by simp; omega
          have z8 : ((c : Int) != 34) = true := by simp; omega
          have z9 : ((c : Int) != 92) = true := by simp; omega
          have hr : rst ⟨2, word, bad, sout⟩ c = ⟨2, word ++ [c], true, sout⟩ := by exact rs_2_ctl word sout c bad hk1 hk2 hk3 hk4 hk5
          rw [hr] at HF
          clear hr
          go_wp2_with (at_builtin; refine app_gen 43 5 (.int .u8 0) (.int .u8 (c : Int)) 1 Tryd.underlying43 Tryd.infoB rfl rfl (by omega) rfl (.tmp 86) (.tmp 88) rfl w.heap.size word.length p1 c1 (bys word) rfl HS.out.rowW rfl (by omega) HS.out.below.size ?_; intro ga da wa oa grA)
          have HS2 := hide (HS.out.byte (c := c) (by omega) oa grA)
          clear oa grA HS hc
          go_wp2
          go_roundw
          case rel => exact ⟨k + 1, by omega, _, _, _, _, _, out, HF.out, HO.out, by simp, by simp; omega, by omega, rfl, by simp, rfl, rfl, by go_num, HS2.out⟩
          case measure => simp [intOf]; omega
        · obtain ⟨k1, k2, k3, k4⟩ := hkc
          have hk1 : decide (c < 32) = false := decide_eq_false (by omega)
          have hk2 : (c == 127) = false := by simpa using k4
          have hk3 : (c != 9) = true := by simp; omega
          have hk4 : ¬ c = 34 ∧ ¬ c = 92 ∧ ¬ c = 9 ∧ ¬ c = 32 ∧ ¬ c = 127 := by omega
          have hk5 : ¬ c < 32 := by omega
          have z1 : ((c : Int) == 32) = false := by simp; omega
          have z2 : ((c : Int) == 9) = false := by simp; omega
          have z3 : decide ((c : Int) < 32) = false := decide_eq_false (by omega)
          have z4 : ((c : Int) == 127) = false := by simp; omega
          have z5 : ((c : Int) == 34) = false := by simp; omega
          have z6 : ((c : Int) == 92) = false := by simp; omega
          have z7 : ((c : Int) != 9) = true := by simp; omega
          have z8 : ((c : Int) != 34) = true := by simp; omega
          have z9 : ((c : Int) != 92) = true := by simp; omega
          have hr : rst ⟨2, word, bad, sout⟩ c = ⟨2, word ++ [c], bad, sout⟩ := by exact rs_2_ord word sout c bad hk1 hk2 hk3 hk4 hk5
          rw [hr] at HF
          clear hr
          go_wp2_with (at_builtin; refine app_gen 43 5 (.int .u8 0) (.int .u8 (c : Int)) 1 Tryd.underlying43 Tryd.infoB rfl rfl (by omega) rfl (.tmp 86) (.tmp 88) rfl w.heap.size word.length p1 c1 (bys word) rfl HS.out.rowW rfl (by omega) HS.out.below.size ?_; intro ga da wa oa grA)
          have HS2 := hide (HS.out.byte (c := c) (by omega) oa grA)
          clear oa grA HS hc
          go_wp2
          go_roundw
          case rel => exact ⟨k + 1, by omega, _, _, _, _, _, out, HF.out, HO.out, by simp, by simp; omega, by omega, rfl, by simp, rfl, rfl, by go_num, HS2.out⟩
          case measure => simp [intOf]; omega
      · rcases byte_kind c with hkc | hkc | hkc | hkc | hkc | hkc | hkc
        · obtain rfl : c = 9 := hkc
          clear hc256
          cases bad
          · have hr : rst ⟨3, word, false, sout⟩ 9 = ⟨2, word ++ [9], true, sout⟩ := by unfold rst ctl isBlank; simp
            rw [hr] at HF
            clear hr
            go_wp2_with (at_builtin; refine app_gen 43 5 (.int .u8 0) (.int .u8 ((9 : Nat) : Int)) 1 Tryd.underlying43 Tryd.infoB rfl rfl (by omega) rfl (.tmp 60) (.tmp 62) rfl w.heap.size word.length p1 c1 (bys word) rfl HS.out.rowW rfl (by omega) HS.out.below.size ?_; intro ga da wa oa grA)
            have HS2 := hide (HS.out.byte (c := 9) (by omega) oa grA)
            clear oa grA HS hc
            go_wp2
            go_roundw
            case rel => exact ⟨k + 1, by omega, _, _, _, _, _, out, HF.out, HO.out, by simp, by simp; omega, by omega, rfl, by simp, rfl, rfl, by go_num, HS2.out⟩
            case measure => simp [intOf]; omega
          · have hr : rst ⟨3, word, true, sout⟩ 9 = ⟨2, word ++ [9], true, sout⟩ := by unfold rst ctl isBlank; simp
            rw [hr] at HF
            clear hr
            go_wp2_with (at_builtin; refine app_gen 43 5 (.int .u8 0) (.int .u8 ((9 : Nat) : Int)) 1 Tryd.underlying43 Tryd.infoB rfl rfl (by omega) rfl (.tmp 60) (.tmp 62) rfl w.heap.size word.length p1 c1 (bys word) rfl HS.out.rowW rfl (by omega) HS.out.below.size ?_; intro ga da wa oa grA)
            have HS2 := hide (HS.out.byte (c := 9) (by omega) oa grA)
            clear oa grA HS hc
            go_wp2
            go_roundw
            case rel => exact ⟨k + 1, by omega, _, _, _, _, _, out, HF.out, HO.out, by simp, by simp; omega, by omega, rfl, by simp, rfl, rfl, by go_num, HS2.out⟩
            case measure => simp [intOf]; omega
        · obtain rfl : c = 32 := hkc
          clear hc256
          cases bad
          · have hr : rst ⟨3, word, false, sout⟩ 32 = ⟨2, word ++ [32], true, sout⟩ := by unfold rst ctl isBlank; simp
            rw [hr] at HF
            clear hr
            go_wp2_with (at_builtin; refine app_gen 43 5 (.int .u8 0) (.int .u8 ((32 : Nat) : Int)) 1 Tryd.underlying43 Tryd.infoB rfl rfl (by omega) rfl (.tmp 60) (.tmp 62) rfl w.heap.size word.length p1 c1 (bys word) rfl HS.out.rowW rfl (by omega) HS.out.below.size ?_; intro ga da wa oa grA)
            have HS2 := hide (HS.out.byte (c := 32) (by omega) oa grA)
            clear oa grA HS hc
            go_wp2
            go_roundw
            case rel => exact ⟨k + 1, by omega, _, _, _, _, _, out, HF.out, HO.out, by simp, by simp; omega, by omega, rfl, by simp, rfl, rfl, by go_num, HS2.out⟩
            case measure => simp [intOf]; omega
          · have hr : rst ⟨3, word, true, sout⟩ 32 = ⟨2, word ++ [32], true, sout⟩ := by unfold rst ctl isBlank; simp
            rw [hr] at HF
            clear hr
            go_wp2_with (at_builtin; refine app_gen 43 5 (.int .u8 0) (.int .u8 ((32 : Nat) : Int)) 1 Tryd.underlying43 Tryd.infoB rfl rfl (by omega) rfl (.tmp 60) (.tmp 62) rfl w.heap.size word.length p1 c1 (bys word) rfl HS.out.rowW rfl (by omega) HS.out.below.size ?_; intro ga da wa oa grA)
            have HS2 := hide (HS.out.byte (c := 32) (by omega) oa grA)
            clear oa grA HS hc
            go_wp2
            go_roundw
            case rel => exact ⟨k + 1, by omega, _, _, _, _, _, out, HF.out, HO.out, by simp, by simp; omega, by omega, rfl, by simp, rfl, rfl, by go_num, HS2.out⟩
            case measure => simp [intOf]; omega
        · obtain rfl : c = 34 := hkc
          clear hc256
          cases bad
          · have hr : rst ⟨3, word, false, sout⟩ 34 = ⟨2, word ++ [34], false, sout⟩ := by unfold rst ctl isBlank; simp
            rw [hr] at HF
            clear hr
            go_wp2_with (at_builtin; refine app_gen 43 5 (.int .u8 0) (.int .u8 ((34 : Nat) : Int)) 1 Tryd.underlying43 Tryd.infoB rfl rfl (by omega) rfl (.tmp 60) (.tmp 62) rfl w.heap.size word.length p1 c1 (bys word) rfl HS.out.rowW rfl (by omega) HS.out.below.size ?_; intro ga da wa oa grA)
            have HS2 := hide (HS.out.byte (c := 34) (by omega) oa grA)
            clear oa grA HS hc
            go_wp2
            go_roundw
            case rel => exact ⟨k + 1, by omega, _, _, _, _, _, out, HF.out, HO.out, by simp, by simp; omega, by omega, rfl, by simp, rfl, rfl, by go_num, HS2.out⟩
            case measure => simp [intOf]; omega
          · have hr : rst ⟨3, word, true, sout⟩ 34 = ⟨2, word ++ [34], true, sout⟩ := by unfold rst ctl isBlank; simp
            rw [hr] at HF
            clear hr
            go_wp2_with (at_builtin; refine app_gen 43 5 (.int .u8 0) (.int .u8 ((34 : Nat) : Int)) 1 Tryd.underlying43 Tryd.infoB rfl rfl (by omega) rfl (.tmp 60) (.tmp 62) rfl w.heap.size word.length p1 c1 (bys word) rfl HS.out.rowW rfl (by omega) HS.out.below.size ?_; intro ga da wa oa grA)
            have HS2 := hide (HS.out.byte (c := 34) (by omega) oa grA)
            clear oa grA HS hc
            go_wp2
            go_roundw
            case rel => exact ⟨k + 1, by omega, _, _, _, _, _, out, HF.out, HO.out, by simp, by simp; omega, by omega, rfl, by simp, rfl, rfl, by go_num, HS2.out⟩
            case measure => simp [intOf]; omega
        · obtain rfl : c = 92 := hkc
          clear hc256
          cases bad
          · have hr : rst ⟨3, word, false, sout⟩ 92 = ⟨2, word ++ [92], false, sout⟩ := by unfold rst ctl isBlank; simp
            rw [hr] at HF
            clear hr
            go_wp2_with (at_builtin; refine app_gen 43 5 (.int .u8 0) (.int .u8 ((92 : Nat) : Int)) 1 Tryd.underlying43 Tryd.infoB rfl rfl (by omega) rfl (.tmp 60) (.tmp 62) rfl w.heap.size word.length p1 c1 (bys word) rfl HS.out.rowW rfl (by omega) HS.out.below.size ?_; intro ga da wa oa grA)
            have HS2 := hide (HS.out.byte (c := 92) (by omega) oa grA)
            clear oa grA HS hc
            go_wp2
            go_roundw
            case rel => exact ⟨k + 1, by omega, _, _, _, _, _, out, HF.out, HO.out, by simp, by simp; omega, by omega, rfl, by simp, rfl, rfl, by go_num, HS2.out⟩
            case measure => simp [intOf]; omega
          · have hr : rst ⟨3, word, true, sout⟩ 92 = ⟨2, word ++ [92], true, sout⟩ := by unfold rst ctl isBlank; simp
            rw [hr] at HF
            clear hr
            go_wp2_with (at_builtin; refine app_gen 43 5 (.int .u8 0) (.int .u8 ((92 : Nat) : Int)) 1 Tryd.underlying43 Tryd.infoB rfl rfl (by omega) rfl (.tmp 60) (.tmp 62) rfl w.heap.size word.length p1 c1 (bys word) rfl HS.out.rowW rfl (by omega) HS.out.below.size ?_; intro ga da wa oa grA)
            have HS2 := hide (HS.out.byte (c := 92) (by omega) oa grA)
            clear oa grA HS hc
            go_wp2
            go_roundw
            case rel => exact ⟨k + 1, by omega, _, _, _, _, _, out, HF.out, HO.out, by simp, by simp; omega, by omega, rfl, by simp, rfl, rfl, by go_num, HS2.out⟩
            case measure => simp [intOf]; omega
        · obtain rfl : c = 127 := hkc
          clear hc256
          cases bad
          · have hr : rst ⟨3, word, false, sout⟩ 127 = ⟨2, word ++ [127], true, sout⟩ := by unfold rst ctl isBlank; simp
            rw [hr] at HF
            clear hr
            go_wp2_with (at_builtin; refine app_gen 43 5 (.int .u8 0) (.int .u8 ((127 : Nat) : Int)) 1 Tryd.underlying43 Tryd.infoB rfl rfl (by omega) rfl (.tmp 60) (.tmp 62) rfl w.heap.size word.length p1 c1 (bys word) rfl HS.out.rowW rfl (by omega) HS.out.below.size ?_; intro ga da wa oa grA)
            have HS2 := hide (HS.out.byte (c := 127) (by omega) oa grA)
            clear oa grA HS hc
            go_wp2
            go_roundw
            case rel => exact ⟨k + 1, by omega, _, _, _, _, _, out, HF.out, HO.out, by simp, by simp; omega, by omega, rfl, by simp, rfl, rfl, by go_num, HS2.out⟩
            case measure => simp [intOf]; omega
          · have hr : rst ⟨3, word, true, sout⟩ 127 = ⟨2, word ++ [127], true, sout⟩ := by unfold rst ctl isBlank; simp
            rw [hr] at HF
            clear hr
            go_wp2_with (at_builtin; refine app_gen 43 5 (.int .u8 0) (.int .u8 ((127 : Nat) : Int)) 1 Tryd.underlying43 Tryd.infoB rfl rfl (by omega) rfl (.tmp 60) (.tmp 62) rfl w.heap.size word.length p1 c1 (bys word) rfl HS.out.rowW rfl (by omega) HS.out.below.size ?_; intro ga da wa oa grA)
            have HS2 := hide (HS.out.byte (c := 127) (by omega) oa grA)
            clear oa grA HS hc
            go_wp2
            go_roundw
            case rel => exact ⟨k + 1, by omega, _, _, _, _, _, out, HF.out, HO.out, by simp, by simp; omega, by omega, rfl, by simp, rfl, rfl, by go_num, HS2.out⟩
            case measure => simp [intOf]; omega
        · obtain ⟨k1, k2⟩ := hkc
          have hk1 : decide (c < 32) = true := decide_eq_true k1
          have hk2 : (c == 127) = false := by simp; omega
          have hk3 : (c != 9) = true := by simpa using k2
          have hk4 : ¬ c = 34 ∧ ¬ c = 92 ∧ ¬ c = 9 ∧ ¬ c = 32 ∧ ¬ c = 127 := by omega
          have hk5 : c < 32 := k1
          have z1 : ((c : Int) == 32) = false := by simp; omega
          have z2 : ((c : Int) == 9) = false := by simp; omega
          have z3 : decide ((c : Int) < 32) = true := decide_eq_true (by omega)
          have z4 : ((c : Int) == 127) = false := by simp; omega
          have z5 : ((c : Int) == 34) = false := by simp; omega
          have z6 : ((c : Int) == 92) = false := by simp; omega
          have z7 : ((c : Int) != 9) = true := by simp; omega
          have z8 : ((c : Int) != 34) = true := by simp; omega
          have z9 : ((c : Int) != 92) = true := by simp; omega
          cases bad
          · have hr : rst ⟨3, word, false, sout⟩ c = ⟨2, word ++ [c], true, sout⟩ := by exact rs_3_ctl word sout c hk1 hk2 hk3 hk4 hk5
            rw [hr] at HF
            clear hr
            go_wp2_with (at_builtin; refine app_gen 43 5 (.int .u8 0) (.int .u8 (c : Int)) 1 Tryd.underlying43 Tryd.infoB rfl rfl (by omega) rfl (.tmp 60) (.tmp 62) rfl w.heap.size word.length p1 c1 (bys word) rfl HS.out.rowW rfl (by omega) HS.out.below.size ?_; intro ga da wa oa grA)
            have HS2 := hide (HS.out.byte (c := c) (by omega) oa grA)
            clear oa grA HS hc
            go_wp2
            go_roundw
            case rel => exact ⟨k + 1, by omega, _, _, _, _, _, out, HF.out, HO.out, by simp, by simp; omega, by omega, rfl, by simp, rfl, rfl, by go_num, HS2.out⟩
            case measure => simp [intOf]; omega
          · have hr : rst ⟨3, word, true, sout⟩ c = ⟨2, word ++ [c], true, sout⟩ := by exact rs_3_ctl word sout c hk1 hk2 hk3 hk4 hk5
            rw [hr] at HF
            clear hr
            go_wp2_with (at_builtin; refine app_gen 43 5 (.int .u8 0) (.int .u8 (c : Int)) 1 Tryd.underlying43 Tryd.infoB rfl rfl (by omega) rfl (.tmp 60) (.tmp 62) rfl w.heap.size word.length p1 c1 (bys word) rfl HS.out.rowW rfl (by omega) HS.out.below.size ?_; intro ga da wa oa grA)
            have HS2 := hide (HS.out.byte (c := c) (by omega) oa grA)
            clear oa grA HS hc
            go_wp2
            go_roundw
            case rel => exact ⟨k + 1, by omega, _, _, _, _, _, out, HF.out, HO.out, by simp, by simp; omega, by omega, rfl, by simp, rfl, rfl, by go_num, HS2.out⟩
            case measure => simp [intOf]; omega
        · obtain ⟨k1, k2, k3, k4⟩ := hkc
          have hk1 : decide (c < 32) = false := decide_eq_false (by omega)
          have hk2 : (c == 127) = false := by simpa using k4
          have hk3 : (c != 9) = true := by simp; omega
          have hk4 : ¬ c = 34 ∧ ¬ c = 92 ∧ ¬ c = 9 ∧ ¬ c = 32 ∧ ¬ c = 127 := by omega
          have hk5 : ¬ c < 32 := by omega
          have z1 : ((c : Int) == 32) = false := by simp; omega
          have z2 : ((c : Int) == 9) = false := by simp; omega
          have z3 : decide ((c : Int) < 32) = false := decide_eq_false (by omega)
          have z4 : ((c : Int) == 127) = false := by simp; omega
          have z5 : ((c : Int) == 34) = false := by simp; omega
          have z6 : ((c : Int) == 92) = false := by simp; omega
          have z7 : ((c : Int) != 9) = true := by simp; omega
          have z8 : ((c : Int) != 34) = true := by simp; omega
          have z9 : ((c : Int) != 92) = true := by simp; omega
          cases bad
          · have hr : rst ⟨3, word, false, sout⟩ c = ⟨2, word ++ [c], true, sout⟩ := by exact rs_3_ord word sout c hk1 hk2 hk3 hk4 hk5
            rw [hr] at HF
            clear hr
            go_wp2_with (at_builtin; refine app_gen 43 5 (.int .u8 0) (.int .u8 (c : Int)) 1 Tryd.underlying43 Tryd.infoB rfl rfl (by omega) rfl (.tmp 60) (.tmp 62) rfl w.heap.size word.length p1 c1 (bys word) rfl HS.out.rowW rfl (by omega) HS.out.below.size ?_; intro ga da wa oa grA)
            have HS2 := hide (HS.out.byte (c := c) (by omega) oa grA)
            clear oa grA HS hc
            go_wp2
            go_roundw
            case rel => exact ⟨k + 1, by omega, _, _, _, _, _, out, HF.out, HO.out, by simp, by simp; omega, by omega, rfl, by simp, rfl, rfl, by go_num, HS2.out⟩
            case measure => simp [intOf]; omega
          · have hr : rst ⟨3, word, true, sout⟩ c = ⟨2, word ++ [c], true, sout⟩ := by exact rs_3_ord word sout c hk1 hk2 hk3 hk4 hk5
            rw [hr] at HF
            clear hr
            go_wp2_with (at_builtin; refine app_gen 43 5 (.int .u8 0) (.int .u8 (c : Int)) 1 Tryd.underlying43 Tryd.infoB rfl rfl (by omega) rfl (.tmp 60) (.tmp 62) rfl w.heap.size word.length p1 c1 (bys word) rfl HS.out.rowW rfl (by omega) HS.out.below.size ?_; intro ga da wa oa grA)
            have HS2 := hide (HS.out.byte (c := c) (by omega) oa grA)
            clear oa grA HS hc
            go_wp2
            go_roundw
            case rel => exact ⟨k + 1, by omega, _, _, _, _, _, out, HF.out, HO.out, by simp, by simp; omega, by omega, rfl, by simp, rfl, rfl, by go_num, HS2.out⟩
            case measure => simp [intOf]; omega
      · rcases byte_kind c with hkc | hkc | hkc | hkc | hkc | hkc | hkc
        · obtain rfl : c = 9 := hkc
          clear hc256
          have hr : rst ⟨4, word, bad, sout⟩ 9 = ⟨0, word, bad, sout⟩ := by unfold rst ctl isBlank; simp
          rw [hr] at HF
          clear hr
          go_wp2
          clear hc
          go_roundw
          case rel => exact ⟨k + 1, by omega, _, _, _, _, _, out, HF.out, HO.out, by simp, by simp; omega, by omega, rfl, rfl, rfl, rfl, by go_num, HS.out⟩
          case measure => simp [intOf]; omega
        · obtain rfl : c = 32 := hkc
          clear hc256
          have hr : rst ⟨4, word, bad, sout⟩ 32 = ⟨0, word, bad, sout⟩ := by unfold rst ctl isBlank; simp
          rw [hr] at HF
          clear hr
          go_wp2
          clear hc
          go_roundw
          case rel => exact ⟨k + 1, by omega, _, _, _, _, _, out, HF.out, HO.out, by simp, by simp; omega, by omega, rfl, rfl, rfl, rfl, by go_num, HS.out⟩
          case measure => simp [intOf]; omega
        · obtain rfl : c = 34 := hkc
          clear hc256
          have hr : rst ⟨4, word, bad, sout⟩ 34 = ⟨4, word, true, sout⟩ := by unfold rst ctl isBlank; simp
          rw [hr] at HF
          clear hr
          go_wp2
          clear hc
          go_roundw
          case rel => exact ⟨k + 1, by omega, _, _, _, _, _, out, HF.out, HO.out, by simp, by simp; omega, by omega, rfl, rfl, rfl, rfl, by go_num, HS.out⟩
          case measure => simp [intOf]; omega
        · obtain rfl : c = 92 := hkc
          clear hc256
          have hr : rst ⟨4, word, bad, sout⟩ 92 = ⟨4, word, true, sout⟩ := by unfold rst ctl isBlank; simp
          rw [hr] at HF
          clear hr
          go_wp2
          clear hc
          go_roundw
          case rel => exact ⟨k + 1, by omega, _, _, _, _, _, out, HF.out, HO.out, by simp, by simp; omega, by omega, rfl, rfl, rfl, rfl, by go_num, HS.out⟩
          case measure => simp [intOf]; omega
        · obtain rfl : c = 127 := hkc
          clear hc256
          have hr : rst ⟨4, word, bad, sout⟩ 127 = ⟨4, word, true, sout⟩ := by unfold rst ctl isBlank; simp
          rw [hr] at HF
          clear hr
          go_wp2
          clear hc
          go_roundw
          case rel => exact ⟨k + 1, by omega, _, _, _, _, _, out, HF.out, HO.out, by simp, by simp; omega, by omega, rfl, rfl, rfl, rfl, by go_num, HS.out⟩
          case measure => simp [intOf]; omega
        · obtain ⟨k1, k2⟩ := hkc
          have hk1 : decide (c < 32) = true := decide_eq_true k1
          have hk2 : (c == 127) = false := by simp; omega
          have hk3 : (c != 9) = true := by simpa using k2
          have hk4 : ¬ c = 34 ∧ ¬ c = 92 ∧ ¬ c = 9 ∧ ¬ c = 32 ∧ ¬ c = 127 := by omega
          have hk5 : c < 32 := k1
          have z1 : ((c : Int) == 32) = false := by simp; omega
          have z2 : ((c : Int) == 9) = false := by simp; omega
          have z3 : decide ((c : Int) < 32) = true := decide_eq_true (by omega)
          have z4 : ((c : Int) == 127) = false := by simp; omega
          have z5 : ((c : Int) == 34) = false := by simp; omega
          have z6 : ((c : Int) == 92) = false := by simp; omega
          have z7 : ((c : Int) != 9) = true := by simp; omega
          have z8 : ((c : Int) != 34) = true := by simp; omega
          have z9 : ((c : Int) != 92) = true := by simp; omega
          have hr : rst ⟨4, word, bad, sout⟩ c = ⟨4, word, true, sout⟩ := by exact rs_4_ctl word sout c bad hk1 hk2 hk3 hk4 hk5
          rw [hr] at HF
          clear hr
          go_wp2
          clear hc
          go_roundw
          case rel => exact ⟨k + 1, by omega, _, _, _, _, _, out, HF.out, HO.out, by simp, by simp; omega, by omega, rfl, rfl, rfl, rfl, by go_num, HS.out⟩
          case measure => simp [intOf]; omega
        · obtain ⟨k1, k2, k3, k4⟩ := hkc
          have hk1 : decide (c < 32) = false := decide_eq_false (by omega)
          have hk2 : (c == 127) = false := by simpa using k4
          have hk3 : (c != 9) = true := by simp; omega
          have hk4 : ¬ c = 34 ∧ ¬ c = 92 ∧ ¬ c = 9 ∧ ¬ c = 32 ∧ ¬ c = 127 := by omega
          have hk5 : ¬ c < 32 := by omega
          have z1 : ((c : Int) == 32) = false := by simp; omega
          have z2 : ((c : Int) == 9) = false := by simp; omega
          have z3 : decide ((c : Int) < 32) = false := decide_eq_false (by omega)
          have z4 : ((c : Int) == 127) = false := by simp; omega
          have z5 : ((c : Int) == 34) = false := by simp; omega
          have z6 : ((c : Int) == 92) = false := by simp; omega
          have z7 : ((c : Int) != 9) = true := by simp; omega
          have z8 : ((c : Int) != 34) = true := by simp; omega
          have z9 : ((c : Int) != 92) = true := by simp; omega
          have hr : rst ⟨4, word, bad, sout⟩ c = ⟨4, word, true, sout⟩ := by exact rs_4_ord word sout c bad hk1 hk2 hk3 hk4 hk5
          rw [hr] at HF
          clear hr
          go_wp2
          clear hc
          go_roundw
          case rel => exact ⟨k + 1, by omega, _, _, _, _, _, out, HF.out, HO.out, by simp, by simp; omega, by omega, rfl, rfl, rfl, rfl, by go_num, HS.out⟩
          case measure => simp [intOf]; omega
    · have hkl : (nums line).take k = nums line := by rw [List.take_of_length_le]; rw [nums_len]; omega
      rw [hkl] at hf
      have HF := hide hf
      clear hf hkl
      have u1 : decide ((k : Int) < (line.size : Int)) = false := decide_eq_false (by omega)
      have u2 : decide (k < line.size) = false := decide_eq_false (by omega)
      have hol2 : out.length ≤ 1024 := by omega
      have ha5 : a = 0 ∨ a = 1 ∨ a = 2 ∨ a = 3 ∨ a = 4 := by omega
      clear ha
      rcases ha5 with rfl | rfl | rfl | rfl | rfl
      · cases bad
        · by_cases h32 : 32 < out.length
          · have v1 : decide ((32 : Int) < (out.length : Int)) = true := decide_eq_true (by omega)
            have v2 : decide (32 < out.length) = true := decide_eq_true (by omega)
            go_wp2
            go_ret2
            exact ⟨(HTold.out _ out HF.out HO.out _ _).1 (Or.inr (Or.inr (Or.inr (by simpa using h32)))) rfl, HS.out.below⟩
          · have v1 : decide ((32 : Int) < (out.length : Int)) = false := decide_eq_false (by omega)
            have v2 : decide (32 < out.length) = false := decide_eq_false (by omega)
            go_wp2
            go_ret2
            exact ⟨(HTold.out _ out HF.out HO.out _ _).2 rfl (by simp) (by simp) out (by rw [← HO.out]; simp) (by omega) _ rfl HS.out.rowO, HS.out.below⟩
        · go_wp2
          go_ret2
          exact ⟨(HTold.out _ out HF.out HO.out _ _).1 (Or.inl rfl) rfl, HS.out.below⟩
      · obtain ⟨t, hcv, ht⟩ := HS.out.conv
        have HTn := hide ht
        clear ht
        cases bad
        · by_cases h32 : 32 < out.length + 1
          · have v1 : decide ((32 : Int) < (out.length : Int) + 1) = true := decide_eq_true (by omega)
            have v2 : decide (32 < out.length + 1) = true := decide_eq_true (by omega)
            go_wp2_with (at_builtin; refine app_gen 22 9 (.string ⟨#[]⟩) (.string t) 16 Tryd.underlying22 Tryd.infoT rfl rfl (by omega) rfl (.tmp 123) (.tmp 126) rfl w.heap.size out.length p2 c2 (out.map Value.string) rfl HS.out.rowO rfl (by omega) HS.out.below.size ?_; intro ga da wa oa grA; have HS2 := hide (HS.out.str oa grA); clear oa grA hcv)
            go_ret2
            exact ⟨(HTold.out _ out HF.out HO.out _ _).1 (Or.inr (Or.inr (Or.inr (by simpa using h32)))) rfl, HS2.out.below⟩
          · have v1 : decide ((32 : Int) < (out.length : Int) + 1) = false := decide_eq_false (by omega)
            have v2 : decide (32 < out.length + 1) = false := decide_eq_false (by omega)
            go_wp2_with (at_builtin; refine app_gen 22 9 (.string ⟨#[]⟩) (.string t) 16 Tryd.underlying22 Tryd.infoT rfl rfl (by omega) rfl (.tmp 123) (.tmp 126) rfl w.heap.size out.length p2 c2 (out.map Value.string) rfl HS.out.rowO rfl (by omega) HS.out.below.size ?_; intro ga da wa oa grA; have HS2 := hide (HS.out.str oa grA); clear oa grA hcv)
            go_ret2
            exact ⟨(HTold.out _ out HF.out HO.out _ _).2 rfl (by simp) (by simp) (out ++ [t]) (by rw [List.map_append, ← HO.out, List.map_cons, List.map_nil, HTn.out]; simp) (by simp; omega) _ (by simp) HS2.out.rowO, HS2.out.below⟩
        · go_wp2_with (at_builtin; refine app_gen 22 9 (.string ⟨#[]⟩) (.string t) 16 Tryd.underlying22 Tryd.infoT rfl rfl (by omega) rfl (.tmp 123) (.tmp 126) rfl w.heap.size out.length p2 c2 (out.map Value.string) rfl HS.out.rowO rfl (by omega) HS.out.below.size ?_; intro ga da wa oa grA; have HS2 := hide (HS.out.str oa grA); clear oa grA hcv)
          go_ret2
          exact ⟨(HTold.out _ out HF.out HO.out _ _).1 (Or.inl rfl) rfl, HS2.out.below⟩
      · cases bad
        · go_wp2
          go_ret2
          exact ⟨(HTold.out _ out HF.out HO.out _ _).1 (Or.inr (Or.inl rfl)) rfl, HS.out.below⟩
        · go_wp2
          go_ret2
          exact ⟨(HTold.out _ out HF.out HO.out _ _).1 (Or.inl rfl) rfl, HS.out.below⟩
      · cases bad
        · go_wp2
          go_ret2
          exact ⟨(HTold.out _ out HF.out HO.out _ _).1 (Or.inr (Or.inr (Or.inl rfl))) rfl, HS.out.below⟩
        · go_wp2
          go_ret2
          exact ⟨(HTold.out _ out HF.out HO.out _ _).1 (Or.inl rfl) rfl, HS.out.below⟩
      · cases bad
        · by_cases h32 : 32 < out.length
          · have v1 : decide ((32 : Int) < (out.length : Int)) = true := decide_eq_true (by omega)
            have v2 : decide (32 < out.length) = true := decide_eq_true (by omega)
            go_wp2
            go_ret2
            exact ⟨(HTold.out _ out HF.out HO.out _ _).1 (Or.inr (Or.inr (Or.inr (by simpa using h32)))) rfl, HS.out.below⟩
          · have v1 : decide ((32 : Int) < (out.length : Int)) = false := decide_eq_false (by omega)
            have v2 : decide (32 < out.length) = false := decide_eq_false (by omega)
            go_wp2
            go_ret2
            exact ⟨(HTold.out _ out HF.out HO.out _ _).2 rfl (by simp) (by simp) out (by rw [← HO.out]; simp) (by omega) _ rfl HS.out.rowO, HS.out.below⟩
        · go_wp2
          go_ret2
          exact ⟨(HTold.out _ out HF.out HO.out _ _).1 (Or.inl rfl) rfl, HS.out.below⟩

theorem rwords_any (w : World) (line : ByteArray) (hs : line.size ≤ 140737488355328) :
    Calls Tryd.prog 6 #[.string line] w fun e w' => Told w line e w' ∧ Below w.heap.size w w' := by
  by_cases hsz : line.size ≤ 1024
  · cases hg : good line
    · have HGd := hide (fun w => good_any w line hs)
      rw [hg] at HGd
      have HT : Hid (wordsR line = none) := by
        show _ = _
        unfold wordsR
        rw [if_neg]
        rintro ⟨_, h, _⟩
        rw [hg] at h; cases h
      have d1 : decide ((1024 : Int) < (line.size : Int)) = false := decide_eq_false (by omega)
      have d2 : decide (1024 < line.size) = false := decide_eq_false (by omega)
      go_enter Tryd.func6, Tryd.ntmps6
      go_wp2_with (first | (go_at_call 18; refine (HGd.out _).mono ?_; rintro e w1 ⟨rfl, h⟩; obtain rfl := h.symm; clear h))
      go_ret2
      exact ⟨Or.inl ⟨HT.out, rfl⟩, Below.refl _ _⟩
    · exact rwords_loop w line hsz hg
  · have HT : Hid (wordsR line = none) := by
      show _ = _
      unfold wordsR
      rw [if_neg]
      rintro ⟨h, _⟩
      exact hsz h
    have d1 : decide ((1024 : Int) < (line.size : Int)) = true := decide_eq_true (by omega)
    have d2 : decide (1024 < line.size) = true := decide_eq_true (by omega)
    go_enter Tryd.func6, Tryd.ntmps6
    go_wp2
    go_ret2
    exact ⟨Or.inl ⟨HT.out, rfl⟩, Below.refl _ _⟩
end Go.Proofs.YtbacgkfmnccheaaDoor
