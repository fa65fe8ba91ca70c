import Derived.Test.YtfdclebajninfaaGreatDoorJRefS
namespace Go.Proofs.YtfdclebajninfaaGreatDoor
open Go.RowKit

set_option maxRecDepth 100000 in
set_option maxHeartbeats 1000000 in
/-- The document's head. -/
theorem rhead_any (w : World) (g o : Nat) (n cap : Nat) (xs : List Nat) (hn : xs.length = n) (h9 : 9 ≤ n) (hcap : n ≤ cap) (hc2 : cap ≤ 9223372036854775807) (hx : Bytes w (some ⟨g, o, none⟩) xs) :
    Calls Tryz.prog 36 #[.slice (some ⟨g, o, none⟩) n cap] w fun e w' => e = .returned (.tuple #[.int .i64 ((hdN xs : Int) + 13), .bool (hdOk xs)]) ∧ Below w.heap.size w w' := by
  have h9' : (9 : Int) ≤ (cap : Int) := by omega
  have hd1 : hdN xs < 4294967296 := by
    unfold hdN
    have := C.be_lt ((xs.drop 1).take 4) (fun x hx' => hx.small x (List.mem_of_mem_drop (List.mem_of_mem_take hx')))
    have h4 : ((xs.drop 1).take 4).length ≤ 4 := by rw [List.length_take]; omega
    have := Nat.pow_le_pow_right (n := 256) (by omega) h4
    omega
  have HXt : Hid (Bytes w (some ⟨g, o, none⟩) (xs.take 9)) := Bytes.of_c (C.Bytes.take hx.c 9)
  have HTl : Hid ((xs.take 9).length = 9) := by show _ = _; rw [List.length_take]; omega
  have HEy : Hid (C.Ey (w.alloc (.cells #[.slice (some ⟨g, o, none⟩) 9 cap, .int .i64 0, .int .i64 0] 118)) w.heap.size (some ⟨g, o, none⟩) cap (xs.take 9) 0 0) := by
    refine ⟨by rw [HTl.out]; exact heap_alloc_new _ _, (HXt.out.below ((Below.refl _ _).alloc (Nat.le_refl _) _)).c, Or.inr ⟨g, o, rfl⟩, by rw [HTl.out]; omega, by rw [HTl.out]; omega, hc2, Nat.zero_le _⟩
  have HB0 : Hid (Below w.heap.size w (w.alloc (.cells #[.slice (some ⟨g, o, none⟩) 9 cap, .int .i64 0, .int .i64 0] 118))) := (Below.refl _ _).alloc (Nat.le_refl _) _
  have e1 : C.rNext 0 0 (xs.take 9) 0 0 = (⟨C.be ((xs.take 9).take 1), 0, 0, 1, 0⟩, 1, 0) := rn_first HTl.out
  have e2 : C.rNext 1 0 (xs.take 9) 1 0 = (⟨hdN xs, 0, 0, 4, 0⟩, 5, 0) := by
    rw [rn_second HTl.out]
    have : ((xs.take 9).drop 1).take 4 = (xs.drop 1).take 4 := by
      rw [List.drop_take, List.take_take]
      rfl
    rw [this]
    rfl
  have HOk : Hid (hdOk xs = (decide (12 ≤ hdN xs) && decide (hdN xs ≤ 4194291) && decide (xs.take 9 = headB (hdN xs)))) := rfl
  have HHd : Hid (headB (hdN xs) = ([167] ++ C.beOf (hdN xs) 4) ++ C.beOf (C.sumOf ([167] ++ C.beOf (hdN xs) 4)) 4) := by
    show _ = _
    unfold headB hd5
    rw [pow_small]
  generalize hdN xs = N at *
  generalize hdOk xs = ok at *
  generalize headB N = hb at *
  have HX := hide hx
  have HE1 := hide e1
  have HE2 := hide e2
  clear hx e1 e2
  generalize xs.take 9 = ys at *
  have hs1 := sum_lt ([167] ++ C.beOf N 4) (fun x hx => by
    rcases List.mem_append.1 hx with h | h
    · simp at h; omega
    · exact be_small _ _ x h)
  go_enter Tryz.func36, Tryz.ntmps36
  go_wp2_with fail
  generalize w.alloc (.cells #[.slice (some ⟨g, o, none⟩) 9 cap, .int .i64 0, .int .i64 0] 118) = u0 at *
  have HU := hide (C.eu8_any u0 w.heap.size _ _ _ _ _ HEy.out)
  rw [HE1.out] at HU
  refine HU.out.mono ?_
  rintro e u1 ⟨rfl, hey1, hbt1⟩
  have HEy1 := hide hey1
  have HB1 := hide (but_below hbt1 HB0.out (Nat.le_refl _) HB0.out.size)
  clear hey1 hbt1 HU HEy HB0 HE1
  have HU := hide (C.eu32_any u1 w.heap.size _ _ _ _ _ HEy1.out)
  rw [HE2.out] at HU
  go_wp2_with fail
  refine HU.out.mono ?_
  rintro e u2 ⟨rfl, hey2, hbt2⟩
  have HB2 := hide (but_below hbt2 HB1.out (Nat.le_refl _) HB1.out.size)
  clear hey2 hbt2 HU HEy1 HB1 HE2
  have hN32 : (N : Int) % 4294967296 = (N : Int) := by omega
  have H1 := hide (C.one_lr u2 167 (by omega))
  go_wp2_with fail
  generalize u2.alloc (.cells #[.int .u8 167] 5) = v1 at *
  refine (C.ref_u32 v1 N hd1).mono ?_
  rintro e w3 ⟨rfl, rfl⟩
  obtain ⟨m1, m2⟩ := C.made_lr v1 (C.beOf N 4) (be_small _ _)
  have H2 := hide (H1.out.below m2)
  have HM2 := hide m1
  clear m1 m2 H1
  generalize v1.alloc (.cells (C.vals (C.beOf N 4)).toArray 5) = v2 at *
  go_wp2_with (at_builtin; refine C.wpList_append_row rfl (.tmp 17) (.tmp 20) rfl u2.heap.size _ _ _ _ rfl H2.out.own _ 4 4 (C.beOf N 4) rfl (be_len _ _) HM2.out (by omega) H2.out.bel.size ?_; intro s3 c3 v3 ho3 hg3)
  have H3 := hide (H2.out.app (be_len _ _) (be_small _ _) ho3 hg3)
  clear ho3 hg3 H2 HM2
  have HSm := hide (C.refsum_any v3 s3 5 c3 ([167] ++ C.beOf N 4) (H3.out.len) H3.out.bytes (by omega))
  generalize hR1 : C.sumOf ([167] ++ C.beOf N 4) = r1 at *
  generalize hX1 : [167] ++ C.beOf N 4 = x1 at *
  clear hR1 hX1
  go_wp2_with fail
  refine HSm.out.mono ?_
  rintro e w4 ⟨rfl, q4, rfl⟩
  have H4 := hide (H3.out.below (below_drewN (Below.refl _ v3) q4))
  clear H3 HSm
  generalize v3.drewN q4 = v4 at *
  go_wp2_with fail
  refine (C.ref_u32 v4 r1 hs1).mono ?_
  rintro e w5 ⟨rfl, rfl⟩
  obtain ⟨m1, m2⟩ := C.made_lr v4 (C.beOf r1 4) (be_small _ _)
  have H5 := hide (H4.out.below m2)
  have HM5 := hide m1
  clear m1 m2 H4
  generalize v4.alloc (.cells (C.vals (C.beOf r1 4)).toArray 5) = v5 at *
  go_wp2_with (at_builtin; refine C.wpList_append_row rfl (.tmp 22) (.tmp 25) rfl u2.heap.size _ _ _ _ rfl H5.out.own _ 4 4 (C.beOf r1 4) rfl (be_len _ _) HM5.out (by omega) H5.out.bel.size ?_; intro s6 c6 v6 ho6 hg6)
  have H6 := hide (H5.out.app (be_len _ _) (be_small _ _) ho6 hg6)
  rw [← HHd.out] at H6
  clear ho6 hg6 H5 HM5
  have HB6 := hide (HB2.out.trans (H6.out.bel.mono HB2.out.size))
  have HEq := hide (C.eq_dec v6 (some ⟨g, o, none⟩) s6 9 9 cap c6 ys hb HTl.out H6.out.len (by omega) (by omega) (HXt.out.below HB6.out).c H6.out.bytes)
  go_wp2_with fail
  refine HEq.out.mono ?_
  rintro e w7 ⟨rr, rfl, hrr, q7, rfl⟩
  have HB7 := hide (below_drewN HB6.out q7)
  have hrr2 : rr = decide (ys = hb) := by
    cases rr
    · symm; rw [decide_eq_false_iff_not]; intro h; have := hrr.2 h; cases this
    · symm; rw [decide_eq_true_iff]; exact hrr.1 rfl
  rw [← hrr2] at HOk
  have HOk2 := hide HOk.out
  clear hrr hrr2 HEq HB6 H6 HOk
  generalize v6.drewN q7 = v7 at *
  cases rr
  · obtain rfl : ok = false := by have := HOk2.out; rw [Bool.and_false] at this; exact this
    go_wp2
    go_ret2
    exact ⟨rfl, HB7.out⟩
  · have hok := HOk2.out
    rw [Bool.and_true] at hok
    by_cases h1 : 12 ≤ N
    · have h1' : (12 : Int) ≤ (N : Int) := by omega
      by_cases h2 : N ≤ 4194291
      · have h2' : (N : Int) ≤ 4194291 := by omega
        rw [decide_eq_true h1, decide_eq_true h2] at hok
        obtain rfl : ok = true := hok
        go_wp2
        go_ret2
        exact ⟨rfl, HB7.out⟩
      · have h2' : ¬ (N : Int) ≤ 4194291 := by omega
        rw [decide_eq_true h1, decide_eq_false h2] at hok
        obtain rfl : ok = false := hok
        go_wp2
        go_ret2
        exact ⟨by rw [decide_eq_false (show ¬ ((N : Int) ≤ 4194291) by omega)]; rfl, HB7.out⟩
    · have h1' : ¬ (12 : Int) ≤ (N : Int) := by omega
      rw [decide_eq_false h1] at hok
      obtain rfl : ok = false := hok
      go_wp2
      go_ret2
      exact ⟨rfl, HB7.out⟩

end Go.Proofs.YtfdclebajninfaaGreatDoor
