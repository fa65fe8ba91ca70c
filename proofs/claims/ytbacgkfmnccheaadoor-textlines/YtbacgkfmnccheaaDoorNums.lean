import Derived.Test.YtbacgkfmnccheaaDoorChars
import Derived.Test.YtbacgkfmnccheaaDoorShelf
import Derived.Lib.OthersKept
namespace Go.Proofs.YtbacgkfmnccheaaDoor
open Go.RowKit

theorem hide {p : Prop} (h : p) : Hid p := h

/-- The bytes of a text, as numbers. -/
def nums (s : ByteArray) : List Nat := s.data.toList.map fun b => b.toNat

theorem nums_len (s : ByteArray) : (nums s).length = s.size := by rw [nums, List.length_map]; rfl
theorem nums_lt (s : ByteArray) : ∀ x ∈ nums s, x < 256 := fun x hx => by
  simp only [nums, List.mem_map] at hx
  obtain ⟨b, _, rfl⟩ := hx
  exact b.toNat_lt
theorem nums_at (s : ByteArray) (pos : Nat) (h : pos < s.size) : (nums s)[pos]? = some (s[pos]'h).toNat := by
  have h' : pos < s.data.toList.length := h
  rw [nums, List.getElem?_map, List.getElem?_eq_getElem h']
  rfl
theorem nums_drop (s : ByteArray) (pos : Nat) (h : pos < s.size) : (nums s).drop pos = (s[pos]'h).toNat :: (nums s).drop (pos + 1) := by
  have h' : pos < (nums s).length := by rw [nums_len]; exact h
  rw [List.drop_eq_getElem_cons h']
  congr 1
  have := nums_at s pos h
  rw [List.getElem?_eq_getElem h'] at this
  exact Option.some.inj this
theorem nums_end (s : ByteArray) (pos : Nat) (h : ¬ pos < s.size) : (nums s).drop pos = [] := by
  apply List.drop_eq_nil_of_le; rw [nums_len]; omega
theorem nums_inj {a b : ByteArray} (h : nums a = nums b) : a = b := by
  have h1 : a.data.toList = b.data.toList := by
    have hi : Function.Injective (fun b : UInt8 => b.toNat) := fun x y h => UInt8.toNat_inj.1 h
    exact (List.map_inj_right (fun x y h => hi h)).1 h
  cases a; cases b
  simp only [ByteArray.mk.injEq]
  exact Array.toList_inj.1 h1

/-- What 'next' tells of a place in a text. -/
theorem next_tells (s : ByteArray) (pos : Nat) (h : pos < s.size) : ∃ c wd, Utf8.decode s pos = (c, wd) ∧ 1 ≤ wd ∧ c ≤ 2147483647 ∧ ((s[pos]'h).toNat < 128 ∧ c = (s[pos]'h).toNat ∧ wd = 1 ∨ 128 ≤ (s[pos]'h).toNat ∧ 128 ≤ c) := by
  refine ⟨(Utf8.decode s pos).1, (Utf8.decode s pos).2, rfl, ?_⟩
  have hle := decode_le s pos
  by_cases ha : (s[pos]'h).toNat < 128
  · rw [decode_ascii s pos h ha] at hle ⊢
    exact ⟨Nat.le_refl _, hle, Or.inl ⟨ha, rfl, rfl⟩⟩
  · obtain ⟨h1, h2⟩ := decode_high s pos h (by omega)
    exact ⟨h2, hle, Or.inr ⟨by omega, h1⟩⟩

/-- Digits and marks, gone through: the number, the digits of the last group, the marks. -/
def G : List Nat → Nat → Nat → Nat → Option (Nat × Nat × Nat)
  | [], n, d, m => some (n, d, m)
  | c :: l, n, d, m => if isDig c = true then G l (beh n c) (d + 1) m else if c = 39 ∧ ends d m = true then G l n 0 (m + 1) else none
def grpR (l : List Nat) : Nat × Nat × Bool :=
  if l.head? = some 48 then (0, 0, decide (l = [48])) else
  match G l 0 0 0 with
  | none => (0, 0, false)
  | some (n, d, m) => (n, m, if m = 0 then decide (0 < d) else d == 3)

theorem beh_le (n c : Nat) (hn : n ≤ 92233720368547758) (hc : c ≤ 57) : beh n c ≤ 92233720368547758 := by
  unfold beh; split <;> omega

theorem ret_grp {a b : Int} {c : Bool} {a' b' : Int} {c' : Bool} (h1 : a = a') (h2 : b = b') (h3 : c = c') : Ending.returned (.tuple #[.int .i64 a, .int .i64 b, .bool c]) = .returned (.tuple #[.int .i64 a', .int .i64 b', .bool c']) := by rw [h1, h2, h3]

theorem hp0 (s : ByteArray) : Lib.hasPrefix s.data.toList [48] = decide ((nums s).head? = some 48) := by
  unfold Lib.hasPrefix nums
  cases h : s.data.toList with
  | nil => simp
  | cons a l =>
    simp only [List.isPrefixOf, List.map_cons, List.head?_cons, Bool.and_true, Option.some.injEq]
    by_cases e : a = 48
    · subst e; simp
    · have : ¬ a.toNat = 48 := fun h => e (UInt8.toNat_inj.1 h)
      simp [this]
      exact fun h => e h.symm

theorem nums_eq (s : ByteArray) (l : List UInt8) : (s.toList == l) = decide (nums s = l.map fun b => b.toNat) := by
  rw [ByteArray.toList_eq]
  by_cases h : s.data.toList = l
  · simp [nums, h]
  · have : ¬ nums s = l.map fun b => b.toNat := fun e => h ((List.map_inj_right (fun x y h => UInt8.toNat_inj.1 h)).1 e)
    simp [this, h]

/-- What a loop over digits and marks keeps. -/
structure GInv (l : List Nat) (pos n d m : Nat) : Prop where
  eq : G (l.drop pos) n d m = G l 0 0 0
  n : n ≤ 92233720368547758
  d : d ≤ pos
  m : m ≤ pos

theorem GInv.start (l : List Nat) : GInv l 0 0 0 0 := ⟨by simp, by omega, by omega, by omega⟩

set_option maxRecDepth 100000 in
set_option maxHeartbeats 1000000 in
theorem grouped_any (w : World) (s : ByteArray) (hs : s.size ≤ 140737488355328) :
    Calls Tryd.prog 20 #[.string s] w fun e w' => e = .returned (.tuple #[.int .i64 ((grpR (nums s)).1 : Nat), .int .i64 ((grpR (nums s)).2.1 : Nat), .bool (grpR (nums s)).2.2]) ∧ Below w.heap.size w w' := by
  have HP := hide (fun w => Tryd.strings_HasPrefix s ⟨#[48]⟩ w)
  by_cases h0 : (nums s).head? = some 48
  · have e0 : grpR (nums s) = (0, 0, decide (nums s = [48])) := by simp [grpR, h0]
    have e1 : (s.toList == ([48] : List UInt8)) = decide (nums s = [48]) := nums_eq s [48]
    rw [e0]
    simp only
    have HB : Hid (Lib.hasPrefix s.data.toList [48] = true) := by show _ = _; rw [hp0]; simp [h0]
    clear e0 h0
    generalize decide (nums s = [48]) = Z at *
    go_enter Tryd.func20, Tryd.ntmps20
    go_wp2_with (first | (go_at_call 39; refine (HP.out _).mono ?_; rw [show (⟨#[48]⟩ : ByteArray).data.toList = [48] from rfl, HB.out]; rintro e w' ⟨rfl, rfl⟩))
    go_ret3
    exact ⟨by simp, Below.refl _ _⟩
  · have HB : Hid (Lib.hasPrefix s.data.toList [48] = false) := by show _ = _; rw [hp0]; simp [h0]
    have HR : Hid (grpR (nums s) = match G (nums s) 0 0 0 with
      | none => (0, 0, false)
      | some (n, d, m) => (n, m, if m = 0 then decide (0 < d) else d == 3)) := by show _ = _; unfold grpR; rw [if_neg h0]
    clear h0
    go_enter Tryd.func20, Tryd.ntmps20
    go_wp2_with (first | (go_at_call 39; refine (HP.out _).mono ?_; rw [show (⟨#[48]⟩ : ByteArray).data.toList = [48] from rfl, HB.out]; rintro e w1 ⟨rfl, h⟩; obtain rfl := h.symm; clear h))
    clear HP HB
    go_loopw [2, 3, 5] (fun tn tm td wr => ∃ (pos n d m : Nat), tn = .int .i64 (n : Int) ∧ tm = .int .i64 (m : Int) ∧ td = .int .i64 (d : Int) ∧ pos ≤ s.size ∧ wr = w.iter s pos ∧ Hid (GInv (nums s) pos n d m)) (fun _ _ _ wr => s.size - wr.iterPos w.heap.size)
    case atStart => exact ⟨0, 0, 0, 0, rfl, rfl, rfl, Nat.zero_le _, rfl, GInv.start _⟩
    case round =>
      obtain ⟨pos, n, d, m, rfl, rfl, rfl, hpos, rfl, HG⟩ := hrel
      by_cases hp : pos < s.size
      · obtain ⟨c, wd, hdec, hwd, hc, hcase⟩ := next_tells s pos hp
        have hnx := fun ty => run_next_any (P := Tryd.prog) w s pos ty hp
        rw [hdec] at hnx
        simp only at hnx
        have HD := hide (nums_drop s pos hp)
        generalize (s[pos]'hp).toNat = x at *
        have hdl := HG.out.d
        have hml := HG.out.m
        have hnl := HG.out.n
        clear hdec
        by_cases hd : isDig c = true
        · have hc2 : c = x ∧ wd = 1 := by
            rcases hcase with h | h
            · exact h.2
            · simp [isDig] at hd; omega
          obtain ⟨rfl, rfl⟩ := hc2
          have hd1 : 48 ≤ c := by simp [isDig] at hd; omega
          have hd2 : c ≤ 57 := by simp [isDig] at hd; omega
          have HG2 : Hid (GInv (nums s) (pos + 1) (beh n c) (d + 1) m) := ⟨by rw [← HG.out.eq, HD.out, G, if_pos hd], beh_le n c hnl hd2, by omega, by omega⟩
          clear hcase HD HG
          have HBE := hide (fun w => beh_any w n c hd1 hd2)
          generalize beh n c = N at *
          go_wp2_with (first | (go_at_call 40; refine (digit_any _ c).mono ?_; rw [hd]; rintro e w1 ⟨rfl, h⟩; obtain rfl := h.symm; clear h) | (go_at_call 22; refine (HBE.out _).mono ?_; rintro e w1 ⟨rfl, h⟩; obtain rfl := h.symm; clear h))
          go_roundw
          case rel => exact ⟨pos + 1, N, d + 1, m, rfl, rfl, by go_num, by omega, rfl, HG2⟩
          case measure => simp; omega
        · have hd' : isDig c = false := by simpa using hd
          by_cases hm : c = 39 ∧ ends d m = true
          · have hc2 : x = c ∧ wd = 1 := by
              rcases hcase with h | h
              · exact ⟨h.2.1.symm, h.2.2⟩
              · omega
            obtain ⟨rfl, rfl⟩ := hc2
            have HG2 : Hid (GInv (nums s) (pos + 1) n 0 (m + 1)) := ⟨by rw [← HG.out.eq, HD.out, G, if_neg hd, if_pos hm], hnl, by omega, by omega⟩
            have h39 : ((x : Int) == 39) = true := by simp; omega
            have hen := hm.2
            clear hm hcase HD HG hd
            go_wp2_with (first | (go_at_call 40; refine (digit_any _ x).mono ?_; rw [hd']; rintro e w1 ⟨rfl, h⟩; obtain rfl := h.symm; clear h) | (go_at_call 41; refine (ends_any _ d m).mono ?_; rw [hen]; rintro e w1 ⟨rfl, h⟩; obtain rfl := h.symm; clear h))
            go_roundw
            case rel => exact ⟨pos + 1, n, 0, m + 1, rfl, by go_num, rfl, by omega, rfl, HG2⟩
            case measure => simp; omega
          · have HZ : Hid (grpR (nums s) = (0, 0, false)) := by
              show _ = _
              rw [HR.out, ← HG.out.eq, HD.out, G]
              rcases hcase with ⟨h1, rfl, _⟩ | ⟨h1, h2⟩
              · rw [if_neg hd, if_neg hm]
              · rw [if_neg (by simp [isDig]; omega), if_neg (by omega)]
            clear HG HD hcase HR hd
            have HBw : Hid (Below w.heap.size w (w.iter s (pos + wd))) := (Below.refl _ w).alloc (Nat.le_refl _) _
            by_cases h39 : c = 39
            · have hen : ends d m = false := by simpa [h39] using hm
              have h39' : ((c : Int) == 39) = true := by simp; omega
              clear hm h39
              go_wp2_with (first | (go_at_call 40; refine (digit_any _ c).mono ?_; rw [hd']; rintro e w1 ⟨rfl, h⟩; obtain rfl := h.symm; clear h) | (go_at_call 41; refine (ends_any _ d m).mono ?_; rw [hen]; rintro e w1 ⟨rfl, h⟩; obtain rfl := h.symm; clear h))
              go_ret3
              exact ⟨by rw [HZ.out]; rfl, HBw.out⟩
            · have h39' : ((c : Int) == 39) = false := by simp; omega
              clear hm h39
              go_wp2_with (first | (go_at_call 40; refine (digit_any _ c).mono ?_; rw [hd']; rintro e w1 ⟨rfl, h⟩; obtain rfl := h.symm; clear h))
              go_ret3
              exact ⟨by rw [HZ.out]; rfl, HBw.out⟩
      · have hnx := fun ty => run_next_end (P := Tryd.prog) w s pos ty hp
        have HBw : Hid (Below w.heap.size w (w.iter s pos)) := (Below.refl _ w).alloc (Nat.le_refl _) _
        have HZ : Hid (grpR (nums s) = (n, m, if m = 0 then decide (0 < d) else d == 3)) := by
          show _ = _
          rw [HR.out, ← HG.out.eq, nums_end s pos hp, G]
        clear HG HR
        by_cases hm : m = 0
        · have hm' : ((m : Int) == 0) = true := by simp; omega
          rw [if_pos hm] at HZ
          clear hm
          go_wp2
          go_ret3
          exact ⟨by rw [HZ.out]; simp, HBw.out⟩
        · have hm' : ((m : Int) == 0) = false := by simp; omega
          rw [if_neg hm] at HZ
          clear hm
          by_cases h3 : d = 3
          · have h3' : ((d : Int) == 3) = true := by simp; omega
            have HZ2 : Hid (grpR (nums s) = (n, m, true)) := by show _ = _; rw [HZ.out]; simp [h3]
            clear h3 HZ
            go_wp2
            go_ret3
            exact ⟨by rw [HZ2.out]; rfl, HBw.out⟩
          · have h3' : ((d : Int) == 3) = false := by simp; omega
            have HZ2 : Hid (grpR (nums s) = (n, m, false)) := by show _ = _; rw [HZ.out]; simp [h3]
            clear h3 HZ
            go_wp2
            go_ret3
            exact ⟨by rw [HZ2.out]; rfl, HBw.out⟩

end Go.Proofs.YtbacgkfmnccheaaDoor
