import Derived.Test.YtbacgkfmnccheaaDoorBegun
namespace Go.Proofs.YtbacgkfmnccheaaDoor
open Go.RowKit

set_option maxRecDepth 100000 in
theorem num_any (w : World) (z : Int) : Calls Tryd.prog 7 #[.int .i64 z] w fun e w' => e = .returned (.int .i64 z) ∧ w' = w := by
  go_enter Tryd.func7, Tryd.ntmps7
  go_wp2
  go_ret
  exact ⟨rfl, rfl⟩

theorem nums_list {ls : List ByteArray} {a b : ByteArray} (h : ls.map nums = [nums a, nums b]) : ls = [a, b] := by
  have hl : ls.length = 2 := by have := congrArg List.length h; simpa using this
  match ls, hl with
  | [x, y], _ =>
    simp only [List.map_cons, List.map_nil, List.cons.injEq, and_true] at h
    rw [nums_inj h.1, nums_inj h.2]

set_option maxRecDepth 100000 in
set_option maxHeartbeats 4000000 in
theorem begun_any (w : World) (hT : Tabs w) : Calls Tryd.prog 4 #[] w fun e w' => e = .returned (.bool true) ∧ Below w.heap.size w w' := by
  have HT := hide hT
  have H1 := hide (amt_any w ⟨#[49, 39, 50, 51, 52, 46, 53, 48]⟩ (by decide))
  rw [k_amt] at H1
  clear hT
  go_enter Tryd.func4, Tryd.ntmps4
  go_wp2_with fail
  refine H1.out.mono ?_
  rintro e w1 ⟨rfl, b1⟩
  have HB1 := hide b1
  have H2 := hide (whole_any w1 ⟨#[45, 55, 48]⟩ (by decide))
  rw [k_whole] at H2
  clear b1 H1
  go_wp2_with fail
  refine H2.out.mono ?_
  rintro e w2 ⟨rfl, b2⟩
  have HB2 : Hid (Below w.heap.size w w2) := HB1.out.trans (b2.mono HB1.out.size)
  have H3 := hide (words_any w2 (HT.out.below HB2.out) ⟨#[97, 32, 34, 98, 32, 99, 34]⟩ (by decide))
  clear b2 H2 HB1
  go_wp2_with fail
  refine H3.out.mono ?_
  rintro e w3 ⟨htold, b3⟩
  have HB3 : Hid (Below w.heap.size w w3) := HB2.out.trans (b3.mono HB2.out.size)
  obtain ⟨v, ls, hws, rfl, hown⟩ : ∃ (v : Value) (ls : List ByteArray), ls = [⟨#[97]⟩, ⟨#[98, 32, 99]⟩] ∧ e = .returned (.tuple #[v, .int .i64 0]) ∧ w3.ownsRow w2.heap.size 9 1 v ls.length (ls.map Value.string) := by
    rcases htold with ⟨h, _⟩ | ⟨v, ls, h, he, ho⟩
    · rw [k_words] at h; cases h
    · rw [k_words] at h
      exact ⟨v, ls, nums_list (Option.some.inj h).symm, he, ho⟩
  subst hws
  obtain ⟨p, c, rfl, hst, hc2⟩ := Strs.of hown
  have HS3 := hide hst
  have H4 := hide (digits_any w3 (HT.out.below HB3.out) (-70) (by omega) (by omega))
  clear htold b3 H3 HB2 hown hst
  have z70 := k_itoa
  generalize (⟨(Lib.itoa (-70)).toArray⟩ : ByteArray) = S70 at *
  have z70' : (S70.toList == [45, 55, 48]) = true := by rw [z70]; decide
  go_wp2_with (first | (go_at_call 7; refine (num_any _ _).mono ?_; rintro e w9 ⟨rfl, h9⟩; obtain rfl := h9.symm; clear h9))
  refine H4.out.mono ?_
  rintro e w4 ⟨rfl, b4⟩
  have HB4 : Hid (Below w.heap.size w w4) := HB3.out.trans (b4.mono HB3.out.size)
  have HS4 := hide (HS3.out.below b4 (Nat.le_refl _))
  have H5 := hide (check_any w4 (HT.out.below HB4.out) ⟨#[97, 110, 110]⟩ (by decide))
  rw [k_ann] at H5
  clear b4 H4 HB3 HS3
  go_wp2_with fail
  refine H5.out.mono ?_
  rintro e w5 ⟨rfl, b5⟩
  have HB5 : Hid (Below w.heap.size w w5) := HB4.out.trans (b5.mono HB4.out.size)
  have HS5 := hide (HS4.out.below b5 (Nat.le_refl _))
  have H6 := hide (check_any w5 (HT.out.below HB5.out) ⟨#[97, 32, 98]⟩ (by decide))
  rw [k_ab] at H6
  clear b5 H5 HB4 HS4
  go_wp2_with (go_at_call 7; refine (num_any _ _).mono ?_; rintro e w9 ⟨rfl, h9⟩; obtain rfl := h9.symm; clear h9)
  refine H6.out.mono ?_
  rintro e w6 ⟨rfl, b6⟩
  have HB6 : Hid (Below w.heap.size w w6) := HB5.out.trans (b6.mono HB5.out.size)
  have HS6 := hide (HS5.out.below b6 (Nat.le_refl _))
  have H7 := hide (money_any w6 (HT.out.below HB6.out) 5 (by omega) (by omega))
  rw [k_mny] at H7
  clear b6 H6 HB5 HS5
  go_wp2_with (go_at_call 7; refine (num_any _ _).mono ?_; rintro e w9 ⟨rfl, h9⟩; obtain rfl := h9.symm; clear h9)
  refine H7.out.mono ?_
  rintro e w7 ⟨⟨t7, rfl, n7⟩, b7⟩
  have z7 : (t7.toList == [48, 46, 48, 53]) = true := by rw [nums_eq, n7]; decide
  have HB7 : Hid (Below w.heap.size w w7) := HB6.out.trans (b7.mono HB6.out.size)
  have HS7 := hide (HS6.out.below b7 (Nat.le_refl _))
  have HS7b : Hid (Strs (w7.alloc (.cells #[.string ⟨#[97]⟩, .string ⟨#[98, 32, 99]⟩] 9)) p [⟨#[97]⟩, ⟨#[98, 32, 99]⟩]) := HS7.out.below ((Below.refl _ w7).alloc (Nat.le_refl _) _) (Nat.le_refl _)
  have HS7c : Hid (Strs (w7.alloc (.cells #[.string ⟨#[97]⟩, .string ⟨#[98, 32, 99]⟩] 9)) (some ⟨w7.heap.size, 0, none⟩) [⟨#[97]⟩, ⟨#[98, 32, 99]⟩]) := by
    refine Or.inr ⟨w7.heap.size, 0, rfl, by simp, fun j s hs => ?_⟩
    have hnew := World.alloc_heap_new w7 (.cells #[.string ⟨#[97]⟩, .string ⟨#[98, 32, 99]⟩] 9)
    unfold World.cell?
    rw [hnew]
    match j, hs with
    | 0, hs => simp at hs; subst hs; rfl
    | 1, hs => simp at hs; subst hs; rfl
  have H8 := hide (eqs_any (w7.alloc (.cells #[.string ⟨#[97]⟩, .string ⟨#[98, 32, 99]⟩] 9)) p (some ⟨w7.heap.size, 0, none⟩) c 2 _ _ HS7b.out HS7c.out (by decide))
  have HB8 : Hid (Below w.heap.size w (w7.alloc (.cells #[.string ⟨#[97]⟩, .string ⟨#[98, 32, 99]⟩] 9))) := HB7.out.alloc HB7.out.size _
  clear b7 H7 HB6 HS6 HS7 HS7b HS7c n7
  go_wp2_with (go_at_call 7; refine (num_any _ _).mono ?_; rintro e w9 ⟨rfl, h9⟩; obtain rfl := h9.symm; clear h9)
  refine H8.out.mono ?_
  rintro e w8 ⟨⟨R, hR, rfl⟩, k8, h8⟩
  have hR1 : R = true := by simpa using hR
  subst hR1
  have HB9 : Hid (Below w.heap.size w w8) := by show Below _ _ _; rw [h8]; exact below_drewNv HB8.out k8
  have H10 := hide (fold_any w8 (HT.out.below HB9.out) ⟨#[65, 110, 110]⟩ (by decide))
  rw [k_fold] at H10
  clear hR h8 H8 HB8 HB7
  go_wp2_with fail
  refine H10.out.mono ?_
  rintro e w10 ⟨⟨t10, rfl, n10⟩, b10⟩
  have z10 : (t10.toList == [97, 110, 110]) = true := by rw [nums_eq, n10]; decide
  have HB10 : Hid (Below w.heap.size w w10) := HB9.out.trans (b10.mono HB9.out.size)
  clear b10 H10 HB9 n10
  go_wp2
  go_ret
  exact ⟨rfl, HB10.out⟩

end Go.Proofs.YtbacgkfmnccheaaDoor
