import Derived.Test.YtbacgkfmnccheaaDoorCut
namespace Go.Proofs.YtbacgkfmnccheaaDoor
open Go.RowKit

/-- Two digits behind a dot, as a number. -/
def cents (t : List Nat) : Nat := t.foldl beh 0

/-- Amounts: the hundredths and the error. -/
def amtR (h t : List Nat) (B : Bool) : Nat × Nat :=
  if (grpR h).2.2 = true ∧ (B = true → twoD t = true) then
    (if 10995116277 < (grpR h).1 then (0, 22) else if 1099511627776 < cents t + (grpR h).1 * 100 then (0, 22) else (cents t + (grpR h).1 * 100, 0))
  else (0, 21)

theorem cents_le (t : List Nat) (h : ∀ x ∈ t, x ≤ 57) : cents t ≤ 92233720368547758 := by
  unfold cents
  have : ∀ (l : List Nat) (n : Nat), (∀ x ∈ l, x ≤ 57) → n ≤ 92233720368547758 → l.foldl beh n ≤ 92233720368547758 := by
    intro l
    induction l with
    | nil => intro n _ hn; exact hn
    | cons a l ih => intro n hl hn; exact ih _ (fun x hx => hl x (List.mem_cons_of_mem _ hx)) (beh_le n a hn (hl a (List.mem_cons_self ..)))
  exact this t 0 h (by omega)

theorem cents_two (t : List Nat) (h : twoD t = true) : cents t ≤ 99 := by
  simp only [twoD, Bool.and_eq_true, beq_iff_eq, List.all_eq_true] at h
  match t, h with
  | [a, b], ⟨h, _⟩ =>
    have ha := h a (by simp)
    have hb := h b (by simp)
    simp [isDig] at ha hb
    simp only [cents, List.foldl, beh]
    split <;> (try split) <;> omega

set_option maxRecDepth 100000 in
set_option maxHeartbeats 2000000 in
theorem amount_any (w : World) (s : ByteArray) (hs : s.size ≤ 140737488355328) :
    Calls Tryd.prog 10 #[.string s] w fun e w' => (∃ h t B, Parted (nums s) h t B ∧ e = .returned (.tuple #[.int .i64 ((amtR h t B).1 : Nat), .int .i64 ((amtR h t B).2 : Nat)])) ∧ Below w.heap.size w w' := by
  have HC := hide (cut_any w s hs)
  go_enter Tryd.func10, Tryd.ntmps10
  go_wp2_with fail
  refine HC.out.mono ?_
  rintro e w1 ⟨⟨hd, tl, B, rfl, hp, q1, q2⟩, hb⟩
  have HG := hide (grouped_any w1 hd (Nat.le_trans q1 hs))
  have HPt := hide hp
  have HB1 := hide hb
  have hle := grp_le (nums hd)
  obtain ⟨a, m, ok, hg⟩ : ∃ n m ok, grpR (nums hd) = (n, m, ok) := ⟨_, _, _, rfl⟩
  have HE := hide hg
  rw [hg] at HG hle
  simp only at HG hle
  clear hp hb HC hg q1 q2
  go_wp2_with fail
  refine HG.out.mono ?_
  rintro e w2 ⟨rfl, hb⟩
  have HB2 : Hid (Below w.heap.size w w2) := HB1.out.trans (hb.mono HB1.out.size)
  clear hb HG HB1
  cases ok with
  | false =>
    have HZ : Hid (amtR (nums hd) (nums tl) B = (0, 21)) := by show _ = _; rw [amtR, HE.out]; simp
    clear HE
    go_wp2
    go_ret2
    exact ⟨⟨_, _, _, HPt.out, by rw [HZ.out]; rfl⟩, HB2.out⟩
  | true =>
    by_cases hB : B = true ∧ twoD (nums tl) = false
    · obtain ⟨rfl, h2⟩ := hB
      have HZ : Hid (amtR (nums hd) (nums tl) true = (0, 21)) := by show _ = _; rw [amtR, HE.out]; simp [h2]
      have HT := hide (twoD_any w2 tl)
      rw [h2] at HT
      clear HE h2
      go_wp2_with fail
      refine HT.out.mono ?_
      rintro e w3 ⟨rfl, hb⟩
      have HB3 : Hid (Below w.heap.size w w3) := HB2.out.trans (hb.mono HB2.out.size)
      clear hb HT HB2
      go_wp2
      go_ret2
      exact ⟨⟨_, _, _, HPt.out, by rw [HZ.out]; rfl⟩, HB3.out⟩
    · cases B with
      | false =>
        obtain ⟨w3, e3⟩ : ∃ w3, w3 = w2 := ⟨_, rfl⟩
        subst e3
        have HB3 := HB2
        clear HB2 hB
        have HDg : Hid (∀ x ∈ nums tl, isDig x = true) := by rw [HPt.out.none rfl]; intro x hx; cases hx
        by_cases hbig : 10995116277 < a
        · have zb : (10995116277 : Int) < (a : Int) := by omega
          have HZ : Hid (amtR (nums hd) (nums tl) false = (0, 22)) := by show _ = _; rw [amtR, HE.out, if_pos ⟨rfl, fun h => by cases h⟩, if_pos hbig]
          clear HE hbig
          go_wp2
          go_ret2
          exact ⟨⟨_, _, _, HPt.out, by rw [HZ.out]; rfl⟩, HB3.out⟩
        · have zb : decide ((10995116277 : Int) < (a : Int)) = false := decide_eq_false (by omega)
          have za : (a : Int) ≤ 10995116277 := by omega
          have HZ : Hid (amtR (nums hd) (nums tl) false = if 1099511627776 < cents (nums tl) + a * 100 then (0, 22) else (cents (nums tl) + a * 100, 0)) := by show _ = _; rw [amtR, HE.out, if_pos ⟨rfl, fun h => by cases h⟩, if_neg hbig]
          have HL : Hid (cents (nums tl) ≤ 99) := by show _ ≤ _; rw [HPt.out.none rfl]; decide
          have ha : a ≤ 10995116277 := by omega
          clear HE hbig hle
          go_wp2
          go_loopw [10] (fun tn wr => ∃ (pos n : Nat), tn = .int .i64 (n : Int) ∧ pos ≤ tl.size ∧ wr = w3.iter tl pos ∧ Hid (n = ((nums tl).take pos).foldl beh 0)) (fun _ wr => tl.size - wr.iterPos w3.heap.size)
          case atStart => exact ⟨0, 0, rfl, Nat.zero_le _, rfl, by show _ = _; simp⟩
          case round =>
            obtain ⟨pos, n, rfl, hpos, rfl, HN⟩ := hrel
            by_cases hp : pos < tl.size
            · have HAt := hide (nums_at tl pos hp)
              have hx := HDg.out _ (List.mem_of_getElem? HAt.out)
              have hx1 : 48 ≤ (tl[pos]'hp).toNat := by simp [isDig] at hx; omega
              have hx2 : (tl[pos]'hp).toNat ≤ 57 := by simp [isDig] at hx; omega
              have hnx := fun ty => run_next_ascii (P := Tryd.prog) w3 tl pos ty hp (by omega)
              have HBE := hide (fun w => beh_any w n _ hx1 hx2)
              have HN2 : Hid (beh n (tl[pos]'hp).toNat = ((nums tl).take (pos + 1)).foldl beh 0) := by
                show _ = _
                rw [List.take_add_one, HAt.out, List.foldl_append, ← HN.out]
                rfl
              clear HAt hx HN
              generalize (tl[pos]'hp).toNat = x at *
              generalize beh n x = N at *
              go_wp2_with (first | (go_at_call 22; refine (HBE.out _).mono ?_; rintro e w1 ⟨rfl, h⟩; obtain rfl := h.symm; clear h))
              go_roundw
              case rel => exact ⟨pos + 1, N, rfl, by omega, rfl, HN2⟩
              case measure => simp; omega
            · have hnx := fun ty => run_next_end (P := Tryd.prog) w3 tl pos ty hp
              have HN2 : Hid (n = cents (nums tl)) := by
                show _ = _
                rw [HN.out, List.take_of_length_le (by rw [nums_len]; omega), cents]
              have HBw : Hid (Below w.heap.size w (w3.iter tl pos)) := HB3.out.alloc HB3.out.size _
              have hn : n ≤ 99 := by rw [HN2.out]; exact HL.out
              rw [← HN2.out] at HZ
              clear HN HN2 HL
              by_cases hov : 1099511627776 < n + a * 100
              · have zo : (1099511627776 : Int) < (n : Int) + (a : Int) * 100 := by omega
                rw [if_pos hov] at HZ
                clear hov
                go_wp2
                go_ret2
                exact ⟨⟨_, _, _, HPt.out, by rw [HZ.out]; rfl⟩, HBw.out⟩
              · have zo : decide ((1099511627776 : Int) < (n : Int) + (a : Int) * 100) = false := decide_eq_false (by omega)
                rw [if_neg hov] at HZ
                clear hov
                go_wp2
                go_ret2
                exact ⟨⟨_, _, _, HPt.out, by rw [HZ.out]; simp⟩, HBw.out⟩

      | true =>
        have h2 : twoD (nums tl) = true := by simpa using hB
        have HT := hide (twoD_any w2 tl)
        have HT2 := hide h2
        rw [h2] at HT
        clear h2 hB
        have HDg : Hid (∀ x ∈ nums tl, isDig x = true) := by have := HT2.out; simp only [twoD, Bool.and_eq_true, List.all_eq_true] at this; exact this.1
        by_cases hbig : 10995116277 < a
        · have zb : (10995116277 : Int) < (a : Int) := by omega
          have HZ : Hid (amtR (nums hd) (nums tl) true = (0, 22)) := by show _ = _; rw [amtR, HE.out, if_pos ⟨rfl, fun _ => HT2.out⟩, if_pos hbig]
          clear HE hbig
          go_wp2_with fail
          refine HT.out.mono ?_
          rintro e w3 ⟨rfl, hb⟩
          have HB3 : Hid (Below w.heap.size w w3) := HB2.out.trans (hb.mono HB2.out.size)
          clear hb HT HB2
          go_wp2
          go_ret2
          exact ⟨⟨_, _, _, HPt.out, by rw [HZ.out]; rfl⟩, HB3.out⟩
        · have zb : decide ((10995116277 : Int) < (a : Int)) = false := decide_eq_false (by omega)
          have za : (a : Int) ≤ 10995116277 := by omega
          have HZ : Hid (amtR (nums hd) (nums tl) true = if 1099511627776 < cents (nums tl) + a * 100 then (0, 22) else (cents (nums tl) + a * 100, 0)) := by show _ = _; rw [amtR, HE.out, if_pos ⟨rfl, fun _ => HT2.out⟩, if_neg hbig]
          have HL : Hid (cents (nums tl) ≤ 99) := cents_two _ HT2.out
          have ha : a ≤ 10995116277 := by omega
          clear HE hbig hle
          go_wp2_with fail
          refine HT.out.mono ?_
          rintro e w3 ⟨rfl, hb⟩
          have HB3 : Hid (Below w.heap.size w w3) := HB2.out.trans (hb.mono HB2.out.size)
          clear hb HT HB2
          go_wp2
          go_loopw [10] (fun tn wr => ∃ (pos n : Nat), tn = .int .i64 (n : Int) ∧ pos ≤ tl.size ∧ wr = w3.iter tl pos ∧ Hid (n = ((nums tl).take pos).foldl beh 0)) (fun _ wr => tl.size - wr.iterPos w3.heap.size)
          case atStart => exact ⟨0, 0, rfl, Nat.zero_le _, rfl, by show _ = _; simp⟩
          case round =>
            obtain ⟨pos, n, rfl, hpos, rfl, HN⟩ := hrel
            by_cases hp : pos < tl.size
            · have HAt := hide (nums_at tl pos hp)
              have hx := HDg.out _ (List.mem_of_getElem? HAt.out)
              have hx1 : 48 ≤ (tl[pos]'hp).toNat := by simp [isDig] at hx; omega
              have hx2 : (tl[pos]'hp).toNat ≤ 57 := by simp [isDig] at hx; omega
              have hnx := fun ty => run_next_ascii (P := Tryd.prog) w3 tl pos ty hp (by omega)
              have HBE := hide (fun w => beh_any w n _ hx1 hx2)
              have HN2 : Hid (beh n (tl[pos]'hp).toNat = ((nums tl).take (pos + 1)).foldl beh 0) := by
                show _ = _
                rw [List.take_add_one, HAt.out, List.foldl_append, ← HN.out]
                rfl
              clear HAt hx HN
              generalize (tl[pos]'hp).toNat = x at *
              generalize beh n x = N at *
              go_wp2_with (first | (go_at_call 22; refine (HBE.out _).mono ?_; rintro e w1 ⟨rfl, h⟩; obtain rfl := h.symm; clear h))
              go_roundw
              case rel => exact ⟨pos + 1, N, rfl, by omega, rfl, HN2⟩
              case measure => simp; omega
            · have hnx := fun ty => run_next_end (P := Tryd.prog) w3 tl pos ty hp
              have HN2 : Hid (n = cents (nums tl)) := by
                show _ = _
                rw [HN.out, List.take_of_length_le (by rw [nums_len]; omega), cents]
              have HBw : Hid (Below w.heap.size w (w3.iter tl pos)) := HB3.out.alloc HB3.out.size _
              have hn : n ≤ 99 := by rw [HN2.out]; exact HL.out
              rw [← HN2.out] at HZ
              clear HN HN2 HL
              by_cases hov : 1099511627776 < n + a * 100
              · have zo : (1099511627776 : Int) < (n : Int) + (a : Int) * 100 := by omega
                rw [if_pos hov] at HZ
                clear hov
                go_wp2
                go_ret2
                exact ⟨⟨_, _, _, HPt.out, by rw [HZ.out]; rfl⟩, HBw.out⟩
              · have zo : decide ((1099511627776 : Int) < (n : Int) + (a : Int) * 100) = false := decide_eq_false (by omega)
                rw [if_neg hov] at HZ
                clear hov
                go_wp2
                go_ret2
                exact ⟨⟨_, _, _, HPt.out, by rw [HZ.out]; simp⟩, HBw.out⟩

end Go.Proofs.YtbacgkfmnccheaaDoor
