import Derived.Test.YtbacgkfmnccheaaDoorWhole
import Derived.Lib.IndexLaws
namespace Go.Proofs.YtbacgkfmnccheaaDoor
open Go.RowKit

theorem Lib.idx_lt : ∀ (l : List UInt8) (c : UInt8) (o : Nat), Lib.indexByte l c = (o : Int) → o < l.length := fun l c o h => by
  have := (Lib.indexByte_some h).1
  exact (List.getElem?_eq_some_iff.1 this).1

/-- Where a text is cut: at its first dot. -/
structure Parted (l h t : List Nat) (B : Bool) : Prop where
  eq : l = if B then h ++ 46 :: t else h
  no : 46 ∉ h
  none : B = false → t = []

theorem extract_nums (s : ByteArray) (a b : Nat) : nums (s.extract a b) = ((nums s).drop a).take (b - a) := by
  cases s with | mk d => 
  have h := ByteArray.extract_mk d.toList a b
  rw [Array.toArray_toList] at h
  rw [h, nums_mk]
  simp [nums, List.map_take, List.map_drop]

theorem extract_size (s : ByteArray) (a b : Nat) : (s.extract a b).size ≤ s.size := by
  rw [← nums_len, extract_nums, List.length_take, List.length_drop, nums_len]; omega

set_option maxRecDepth 100000 in
set_option maxHeartbeats 1000000 in
theorem scut_any (w : World) (s : ByteArray) (hs : s.size ≤ 140737488355328) :
    Calls Tryd.prog 38 #[.string s, .string ⟨#[46]⟩] w fun e w' => (∃ h t B, e = .returned (.tuple #[.string h, .string t, .bool B]) ∧ Parted (nums s) (nums h) (nums t) B ∧ h.size ≤ s.size ∧ t.size ≤ s.size) ∧ Below w.heap.size w w' := by
  have HI := hide (fun w => Tryd.stringslite_Index_one s 46 w)
  have hge := Lib.indexByte_ge s.data.toList 46
  obtain ⟨I, hI⟩ : ∃ I, Lib.indexByte s.data.toList 46 = I := ⟨_, rfl⟩
  rw [hI] at HI hge
  by_cases h0 : 0 ≤ I
  · obtain ⟨o, rfl⟩ : ∃ o : Nat, I = o := ⟨I.toNat, by omega⟩
    have hlt : o < s.size := Lib.idx_lt _ _ _ hI
    have HPt : Hid (Parted (nums s) (nums (s.extract 0 o)) (nums (s.extract (o + 1) s.size)) true) := by
      obtain ⟨q1, q2⟩ := Lib.indexByte_some hI
      have hat : (nums s)[o]? = some 46 := by
        rw [nums, List.getElem?_map, q1]; rfl
      refine ⟨?_, ?_, fun h => by cases h⟩
      · rw [extract_nums, extract_nums, if_pos rfl, List.drop_zero, Nat.sub_zero]
        have e1 : ((nums s).drop (o + 1)).take (s.size - (o + 1)) = (nums s).drop (o + 1) := List.take_of_length_le (by rw [List.length_drop, nums_len]; omega)
        rw [e1]
        have h' : o < (nums s).length := by rw [nums_len]; exact hlt
        have e2 : (nums s).drop o = 46 :: (nums s).drop (o + 1) := by
          rw [List.drop_eq_getElem_cons h']
          congr 1
          rw [List.getElem?_eq_getElem h'] at hat
          exact Option.some.inj hat
        rw [← e2, List.take_append_drop]
      · rw [extract_nums, List.drop_zero, Nat.sub_zero]
        intro hmem
        obtain ⟨k, hk⟩ := List.getElem?_of_mem hmem
        obtain ⟨hk1, _⟩ := List.getElem?_eq_some_iff.1 hk
        rw [List.length_take] at hk1
        rw [List.getElem?_take_of_lt (by omega), nums, List.getElem?_map] at hk
        refine q2 k (by omega) ?_
        cases h : s.data.toList[k]? with
        | none => rw [h] at hk; cases hk
        | some b => rw [h] at hk; simp only [Option.map_some, Option.some.injEq] at hk; rw [show b = 46 from UInt8.toNat_inj.1 hk]
    have HS1 := hide (extract_size s 0 o)
    have HS2 := hide (extract_size s (o + 1) s.size)
    have l1 : (0 : Int) ≤ (o : Int) := by omega
    have l2 : (o : Int) ≤ (s.size : Int) := by omega
    have l3 : (o : Int) + 1 ≤ (s.size : Int) := by omega
    have l4 : (0 : Int) ≤ (o : Int) + 1 := by omega
    have l5 : ((o : Int) + 1).toNat = o + 1 := by omega
    clear hI h0
    go_enter Tryd.func38, Tryd.ntmps38
    go_wp2_with (first | (go_at_call 52; refine (HI.out _).mono ?_; rintro e w1 ⟨rfl, h⟩; obtain rfl := h.symm; clear h))
    go_quiet (fail)
    go_wp2
    go_ret3
    exact ⟨⟨_, _, _, rfl, HPt.out, HS1.out, HS2.out⟩, below_drewNv (Below.refl _ _) nq⟩
  · have HPt : Hid (Parted (nums s) (nums s) [] false) := by
      have hn : I = -1 := by omega
      refine ⟨by simp, ?_, fun _ => rfl⟩
      intro hmem
      obtain ⟨k, hk⟩ := List.getElem?_of_mem hmem
      rw [nums, List.getElem?_map] at hk
      refine Lib.indexByte_none (hI.trans hn) k ?_
      cases h : s.data.toList[k]? with
      | none => rw [h] at hk; cases hk
      | some b => rw [h] at hk; simp only [Option.map_some, Option.some.injEq] at hk; rw [show b = 46 from UInt8.toNat_inj.1 hk]
    have z0 : decide (0 ≤ I) = false := decide_eq_false h0
    clear hI h0
    go_enter Tryd.func38, Tryd.ntmps38
    go_wp2_with (first | (go_at_call 52; refine (HI.out _).mono ?_; rintro e w1 ⟨rfl, h⟩; obtain rfl := h.symm; clear h))
    go_ret3
    exact ⟨⟨s, ⟨#[]⟩, false, rfl, HPt.out, Nat.le_refl _, Nat.zero_le _⟩, Below.refl _ _⟩

set_option maxRecDepth 100000 in
theorem cut_any (w : World) (s : ByteArray) (hs : s.size ≤ 140737488355328) :
    Calls Tryd.prog 19 #[.string s, .string ⟨#[46]⟩] w fun e w' => (∃ h t B, e = .returned (.tuple #[.string h, .string t, .bool B]) ∧ Parted (nums s) (nums h) (nums t) B ∧ h.size ≤ s.size ∧ t.size ≤ s.size) ∧ Below w.heap.size w w' := by
  have HC := hide (scut_any w s hs)
  go_enter Tryd.func19, Tryd.ntmps19
  go_wp2_with fail
  refine HC.out.mono ?_
  rintro e w1 ⟨⟨h, t, B, rfl, h1⟩, hb⟩
  have H1 := hide h1
  have HB := hide hb
  clear h1 hb HC
  go_wp2
  go_ret3
  exact ⟨⟨h, t, B, rfl, H1.out⟩, HB.out⟩

/-- Two digits. -/
def twoD (l : List Nat) : Bool := l.all isDig && l.length == 2

theorem all_at (l : List Nat) (pos : Nat) (x : Nat) (r : List Nat) (h : l.drop pos = x :: r) (hx : isDig x = false) : l.all isDig = false := by
  have hm : x ∈ l := List.mem_of_mem_drop (i := pos) (by rw [h]; exact List.mem_cons_self ..)
  rw [Bool.eq_false_iff]
  intro ha
  rw [List.all_eq_true.1 ha x hm] at hx
  cases hx

set_option maxRecDepth 100000 in
set_option maxHeartbeats 1000000 in
theorem twoD_any (w : World) (s : ByteArray) :
    Calls Tryd.prog 21 #[.string s] w fun e w' => e = .returned (.bool (twoD (nums s))) ∧ Below w.heap.size w w' := by
  obtain ⟨R, hR⟩ : ∃ R, twoD (nums s) = R := ⟨_, rfl⟩
  rw [hR]
  have HR := hide hR
  clear hR
  go_enter Tryd.func21, Tryd.ntmps21
  go_wp2
  go_loopw [] (fun wr => ∃ (pos : Nat), pos ≤ s.size ∧ wr = w.iter s pos ∧ Hid (((nums s).take pos).all isDig = true)) (fun wr => s.size - wr.iterPos w.heap.size)
  case atStart => exact ⟨0, Nat.zero_le _, rfl, by show _ = _; simp⟩
  case round =>
    obtain ⟨pos, hpos, rfl, HA⟩ := hrel
    by_cases hp : pos < s.size
    · obtain ⟨c, wd, hdec, hwd, hc, hcase⟩ := next_tells s pos hp
      have hnx := fun ty => run_next_any (P := Tryd.prog) w s pos ty hp
      rw [hdec] at hnx
      simp only at hnx
      have HD := hide (nums_drop s pos hp)
      have HAt := hide (nums_at s pos hp)
      generalize (s[pos]'hp).toNat = x at *
      clear hdec
      by_cases hd : isDig c = true
      · have hc2 : x = c ∧ wd = 1 := by
          rcases hcase with h | h
          · exact ⟨h.2.1.symm, h.2.2⟩
          · simp [isDig] at hd; omega
        obtain ⟨rfl, rfl⟩ := hc2
        have HA2 : Hid (((nums s).take (pos + 1)).all isDig = true) := by
          show _ = _
          rw [List.take_add_one, List.all_append, HA.out, HAt.out]
          simp [hd]
        clear hcase HD HA HAt
        go_wp2_with (first | (go_at_call 40; refine (digit_any _ x).mono ?_; rw [hd]; rintro e w1 ⟨rfl, h⟩; obtain rfl := h.symm; clear h))
        go_roundw
        case rel => exact ⟨pos + 1, by omega, rfl, HA2⟩
        case measure => simp; omega
      · have hd' : isDig c = false := by simpa using hd
        have HZ : Hid (R = false) := by
          show _ = _
          have hx : isDig x = false := by
            rcases hcase with ⟨_, rfl, _⟩ | h
            · exact hd'
            · simp [isDig]; omega
          rw [← HR.out, twoD, all_at _ _ _ _ HD.out hx]
          rfl
        have HBw : Hid (Below w.heap.size w (w.iter s (pos + wd))) := (Below.refl _ w).alloc (Nat.le_refl _) _
        clear hcase HD HA HAt HR hd
        go_wp2_with (first | (go_at_call 40; refine (digit_any _ c).mono ?_; rw [hd']; rintro e w1 ⟨rfl, h⟩; obtain rfl := h.symm; clear h))
        go_ret
        exact ⟨ret_bool HZ.out.symm, HBw.out⟩
    · have hnx := fun ty => run_next_end (P := Tryd.prog) w s pos ty hp
      have HBw : Hid (Below w.heap.size w (w.iter s pos)) := (Below.refl _ w).alloc (Nat.le_refl _) _
      have HZ : Hid (R = (s.size == 2)) := by
        show _ = _
        have h1 := HA.out
        rw [List.take_of_length_le (by rw [nums_len]; omega)] at h1
        rw [← HR.out, twoD, h1, nums_len, Bool.true_and]
      clear HA HR
      by_cases h2 : s.size = 2
      · have z2 : ((s.size : Int) == 2) = true := by simp; omega
        have HZ2 : Hid (R = true) := by show _ = _; rw [HZ.out]; simp [h2]
        clear h2 HZ
        go_wp2
        go_ret
        exact ⟨ret_bool HZ2.out.symm, HBw.out⟩
      · have z2 : ((s.size : Int) == 2) = false := by simp; omega
        have HZ2 : Hid (R = false) := by show _ = _; rw [HZ.out]; simp [h2]
        clear h2 HZ
        go_wp2
        go_ret
        exact ⟨ret_bool HZ2.out.symm, HBw.out⟩

end Go.Proofs.YtbacgkfmnccheaaDoor
