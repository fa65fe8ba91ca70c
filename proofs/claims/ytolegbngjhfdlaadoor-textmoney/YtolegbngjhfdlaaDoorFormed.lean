import Derived.Test.YtolegbngjhfdlaaDoorMonP
import Derived.Test.YtolegbngjhfdlaaDoorRefC
namespace Go.Proofs.YtolegbngjhfdlaaDoor
open Go.RowKit

theorem posok_at : ∀ (l : List Nat) (i c : Nat), posok l = true → l[i]? = some c → (if (l.length - i) % 4 = 0 then c == 39 else isDig c) = true
  | [], i, c, _, h => by simp at h
  | a :: r, 0, c, hp, h => by
    simp only [List.getElem?_cons_zero, Option.some.injEq] at h
    subst h
    rw [posok] at hp
    simp only [Bool.and_eq_true] at hp
    rw [List.length_cons, Nat.sub_zero]
    exact hp.1
  | a :: r, i + 1, c, hp, h => by
    rw [posok] at hp
    simp only [Bool.and_eq_true] at hp
    have := posok_at r i c hp.2 (by simpa using h)
    rw [List.length_cons, show r.length + 1 - (i + 1) = r.length - i by omega]
    exact this

/-- How an amount looks. -/
structure Form (s : ByteArray) (D : Nat) : Prop where
  size : s.size = D + 3
  pos : 1 ≤ D
  head : ∀ i c, (nums s)[i]? = some c → i < D → (if (D - i) % 4 = 0 then c == 39 else isDig c) = true
  dot : (nums s)[D]? = some 46
  tail : ∀ i c, (nums s)[i]? = some c → D < i → isDig c = true
  first : ∀ c, (nums s)[0]? = some c → isDig c = true ∧ ¬ (c = 48 ∧ 1 < D)

theorem form_of (s : ByteArray) (u : Nat) (h : nums s = mnu u) : Form s (mrk true (dn (u / 100))).length := by
  have hh := headok_mrk (u / 100)
  have hp := mrk_pos (dn (u / 100)) true (dn_dig _)
  have hsz : s.size = (mrk true (dn (u / 100))).length + 3 := by rw [← nums_len, h, mnu, List.length_append]; rfl
  rw [mnu] at h
  have hne : mrk true (dn (u / 100)) ≠ [] := by intro e; rw [e] at hh; cases hh
  generalize mrk true (dn (u / 100)) = H at *
  refine ⟨hsz, List.length_pos_iff.2 hne, ?_, ?_, ?_, ?_⟩
  · intro i c hc hi
    rw [h, List.getElem?_append_left hi] at hc
    exact posok_at H i c hp hc
  · rw [h, List.getElem?_append_right (Nat.le_refl _), Nat.sub_self]; rfl
  · intro i c hc hi
    have hi2 : i < H.length + 3 := by
      obtain ⟨k, _⟩ := List.getElem?_eq_some_iff.1 hc
      rw [nums_len, hsz] at k; exact k
    rw [h, List.getElem?_append_right (by omega)] at hc
    have : i - H.length = 1 ∨ i - H.length = 2 := by omega
    rcases this with e | e
    · rw [e] at hc
      simp at hc
      subst hc
      simp [isDig]; omega
    · rw [e] at hc
      simp at hc
      subst hc
      simp [isDig]; omega
  · intro c hc
    cases H with
    | nil => exact absurd rfl hne
    | cons a r =>
      rw [h] at hc
      simp only [List.cons_append, List.getElem?_cons_zero, Option.some.injEq] at hc
      subst hc
      rw [headok_cons] at hh
      simp only [Bool.and_eq_true, Bool.not_eq_true', Bool.and_eq_false_iff, beq_eq_false_iff_ne, decide_eq_false_iff_not] at hh
      refine ⟨hh.1.1, ?_⟩
      rintro ⟨h1, h2⟩
      rw [List.length_cons] at h2
      rcases hh.1.2 with e | e
      · exact e h1
      · omega

set_option maxRecDepth 100000 in
set_option maxHeartbeats 1000000 in
theorem formed_any (w : World) (s : ByteArray) (D : Nat) (hF : Form s D) (hs : s.size ≤ 140737488355328) :
    Calls Tryd.prog 27 #[.string s] w fun e w' => e = .returned (.bool true) ∧ w' = w := by
  have HF := hide hF
  have hsz := hF.size
  have hD := hF.pos
  clear hF
  have f1 : (s.size : Int) - 3 = (D : Int) := by omega
  have f2 : decide ((D : Int) < 1) = false := decide_eq_false (by omega)
  have f2b : decide (D < 1) = false := decide_eq_false (by omega)
  have hDs : D < s.size := by omega
  have f3 : (D : Int) < (s.size : Int) := by omega
  have f4 : (0 : Int) ≤ (D : Int) := by omega
  have h0s : 0 < s.size := by omega
  have f5 : (0 : Int) < (s.size : Int) := by omega
  have hdot : (s[D]'hDs).toNat = 46 := by have := HF.out.dot; rw [nums_at s D hDs] at this; exact Option.some.inj this
  obtain ⟨c0, hc0⟩ : ∃ c0, (s[0]'h0s).toNat = c0 := ⟨_, rfl⟩
  have hfst := HF.out.first c0 (by rw [nums_at s 0 h0s, hc0])
  have hd0 : 48 ≤ c0 ∧ c0 ≤ 57 := by simpa [isDig] using hfst.1
  have g1 : ((c0 : Int) == 39) = false := by simp; omega
  have hg : (((c0 : Int) == 48) = true ∧ decide ((1 : Int) < (D : Int)) = false ∧ decide (1 < D) = false) ∨ ((c0 : Int) == 48) = false := by
    by_cases h48 : c0 = 48
    · have := hfst.2
      exact .inl ⟨by simp; omega, decide_eq_false (by omega), decide_eq_false (by omega)⟩
    · exact .inr (by simp; omega)
  clear hfst hd0 hsz
  go_enter Tryd.func27, Tryd.ntmps27
  rcases hg with ⟨x1, x2, x3⟩ | x1
  · go_wp2
    clear f1 f2 f2b hdot hc0 g1 x1 x2 x3
    go_loopw [4] (fun i wr => ∃ (k : Nat), k ≤ s.size ∧ i = .int .i64 (k : Int) ∧ wr = w) (fun i _ => s.size - (intOf i).toNat)
    case atStart => exact ⟨0, Nat.zero_le _, rfl, rfl⟩
    case round =>
      obtain ⟨k, hk, rfl, rfl⟩ := hrel
      by_cases hlt : k < s.size
      · have u1 : (k : Int) < (s.size : Int) := by omega
        have u2 : (0 : Int) ≤ (k : Int) := by omega
        obtain ⟨c, hc⟩ : ∃ c, (s[k]'hlt).toNat = c := ⟨_, rfl⟩
        have hat : (nums s)[k]? = some c := by rw [nums_at s k hlt, hc]
        by_cases hkD : k < D
        · have p1 : (k : Int) < (D : Int) := by omega
          have p2 : (0 : Int) ≤ (D : Int) - (k : Int) := by omega
          have p3 : ((k : Int) != (D : Int)) = true := by simp; omega
          have hh := HF.out.head k c hat hkD
          by_cases h4 : (D - k) % 4 = 0
          · rw [if_pos h4] at hh
            have hc39 : c = 39 := by simpa using hh
            have q1 : (((D : Int) - (k : Int)) % 4 == 0) = true := by simp; omega
            have q2 : ((c : Int) == 39) = true := by simp; omega
            have q3 : decide ((48 : Int) ≤ (c : Int)) = false := decide_eq_false (by omega)
            clear hh hat hc39 h4
            go_wp2
            go_roundw
            case rel => exact ⟨k + 1, by omega, by go_num, (by first | trivial | rfl)⟩
            case measure => simp [intOf]; omega
          · rw [if_neg h4] at hh
            have hcd : 48 ≤ c ∧ c ≤ 57 := by simpa [isDig] using hh
            have q1 : (((D : Int) - (k : Int)) % 4 == 0) = false := by simp; omega
            have q2 : ((c : Int) == 39) = false := by simp; omega
            have q3 : (48 : Int) ≤ (c : Int) := by omega
            have q4 : (c : Int) ≤ 57 := by omega
            clear hh hat hcd h4
            go_wp2
            go_roundw
            case rel => exact ⟨k + 1, by omega, by go_num, (by first | trivial | rfl)⟩
            case measure => simp [intOf]; omega
        · have p1 : decide ((k : Int) < (D : Int)) = false := decide_eq_false (by omega)
          have p1b : decide (k < D) = false := decide_eq_false (by omega)
          by_cases hkE : k = D
          · have hc46 : c = 46 := by
              have := HF.out.dot
              rw [← hkE, hat] at this
              exact Option.some.inj this
            have p3 : ((k : Int) != (D : Int)) = false := by simp; omega
            have p3b : (k != D) = false := by simp; omega
            have q2 : ((c : Int) == 39) = false := by simp; omega
            have q3 : decide ((48 : Int) ≤ (c : Int)) = false := decide_eq_false (by omega)
            clear hat hc46 hkE
            go_wp2
            go_roundw
            case rel => exact ⟨k + 1, by omega, by go_num, (by first | trivial | rfl)⟩
            case measure => simp [intOf]; omega
          · have hcd : 48 ≤ c ∧ c ≤ 57 := by have := HF.out.tail k c hat (by omega); simpa [isDig] using this
            have p3 : ((k : Int) != (D : Int)) = true := by simp; omega
            have q2 : ((c : Int) == 39) = false := by simp; omega
            have q3 : (48 : Int) ≤ (c : Int) := by omega
            have q4 : (c : Int) ≤ 57 := by omega
            clear hat hcd hkE
            go_wp2
            go_roundw
            case rel => exact ⟨k + 1, by omega, by go_num, (by first | trivial | rfl)⟩
            case measure => simp [intOf]; omega
      · have u1 : decide ((k : Int) < (s.size : Int)) = false := decide_eq_false (by omega)
        have u1b : decide (k < s.size) = false := decide_eq_false (by omega)
        go_wp2
        go_ret
        exact ⟨rfl, rfl⟩
  · go_wp2
    clear f1 f2 f2b hdot hc0 g1 x1
    go_loopw [4] (fun i wr => ∃ (k : Nat), k ≤ s.size ∧ i = .int .i64 (k : Int) ∧ wr = w) (fun i _ => s.size - (intOf i).toNat)
    case atStart => exact ⟨0, Nat.zero_le _, rfl, rfl⟩
    case round =>
      obtain ⟨k, hk, rfl, rfl⟩ := hrel
      by_cases hlt : k < s.size
      · have u1 : (k : Int) < (s.size : Int) := by omega
        have u2 : (0 : Int) ≤ (k : Int) := by omega
        obtain ⟨c, hc⟩ : ∃ c, (s[k]'hlt).toNat = c := ⟨_, rfl⟩
        have hat : (nums s)[k]? = some c := by rw [nums_at s k hlt, hc]
        by_cases hkD : k < D
        · have p1 : (k : Int) < (D : Int) := by omega
          have p2 : (0 : Int) ≤ (D : Int) - (k : Int) := by omega
          have p3 : ((k : Int) != (D : Int)) = true := by simp; omega
          have hh := HF.out.head k c hat hkD
          by_cases h4 : (D - k) % 4 = 0
          · rw [if_pos h4] at hh
            have hc39 : c = 39 := by simpa using hh
            have q1 : (((D : Int) - (k : Int)) % 4 == 0) = true := by simp; omega
            have q2 : ((c : Int) == 39) = true := by simp; omega
            have q3 : decide ((48 : Int) ≤ (c : Int)) = false := decide_eq_false (by omega)
            clear hh hat hc39 h4
            go_wp2
            go_roundw
            case rel => exact ⟨k + 1, by omega, by go_num, (by first | trivial | rfl)⟩
            case measure => simp [intOf]; omega
          · rw [if_neg h4] at hh
            have hcd : 48 ≤ c ∧ c ≤ 57 := by simpa [isDig] using hh
            have q1 : (((D : Int) - (k : Int)) % 4 == 0) = false := by simp; omega
            have q2 : ((c : Int) == 39) = false := by simp; omega
            have q3 : (48 : Int) ≤ (c : Int) := by omega
            have q4 : (c : Int) ≤ 57 := by omega
            clear hh hat hcd h4
            go_wp2
            go_roundw
            case rel => exact ⟨k + 1, by omega, by go_num, (by first | trivial | rfl)⟩
            case measure => simp [intOf]; omega
        · have p1 : decide ((k : Int) < (D : Int)) = false := decide_eq_false (by omega)
          have p1b : decide (k < D) = false := decide_eq_false (by omega)
          by_cases hkE : k = D
          · have hc46 : c = 46 := by
              have := HF.out.dot
              rw [← hkE, hat] at this
              exact Option.some.inj this
            have p3 : ((k : Int) != (D : Int)) = false := by simp; omega
            have p3b : (k != D) = false := by simp; omega
            have q2 : ((c : Int) == 39) = false := by simp; omega
            have q3 : decide ((48 : Int) ≤ (c : Int)) = false := decide_eq_false (by omega)
            clear hat hc46 hkE
            go_wp2
            go_roundw
            case rel => exact ⟨k + 1, by omega, by go_num, (by first | trivial | rfl)⟩
            case measure => simp [intOf]; omega
          · have hcd : 48 ≤ c ∧ c ≤ 57 := by have := HF.out.tail k c hat (by omega); simpa [isDig] using this
            have p3 : ((k : Int) != (D : Int)) = true := by simp; omega
            have q2 : ((c : Int) == 39) = false := by simp; omega
            have q3 : (48 : Int) ≤ (c : Int) := by omega
            have q4 : (c : Int) ≤ 57 := by omega
            clear hat hcd hkE
            go_wp2
            go_roundw
            case rel => exact ⟨k + 1, by omega, by go_num, (by first | trivial | rfl)⟩
            case measure => simp [intOf]; omega
      · have u1 : decide ((k : Int) < (s.size : Int)) = false := decide_eq_false (by omega)
        have u1b : decide (k < s.size) = false := decide_eq_false (by omega)
        go_wp2
        go_ret
        exact ⟨rfl, rfl⟩

end Go.Proofs.YtolegbngjhfdlaaDoor
