import Derived.Test.YtbcpoejpbhpcbaaDoorSeB
namespace Go.Proofs.YtbcpoejpbhpcbaaDoor
open Go.RowKit

theorem Rr.form {w : World} {K : Knd} {k : Nat × Nat} {v : Value} {ps : List (List Nat)} (h : Rr w K k v ps) : ∃ a c, v = .slice a ps.length c := by
  obtain ⟨vs, h1, _⟩ := h.ex
  obtain ⟨a, c, e, _⟩ := h1.form
  exact ⟨a, c, e⟩
set_option maxRecDepth 100000 in
set_option maxHeartbeats 4000000 in
theorem handed0 (w : World) (K : Knd) (pb W M l0 l1 b0 b1 : Nat) (sv s0 s1 : Value) (S T : List Sm) (n : Nat) (x : Sm) (hp : Pk w K pb W M l0 l1 b0 b1 sv s0 s1) (hs : Ss w K (5, 0) 6 s0 S) (ht : Ss w K (5, 1) 7 s1 T) (hx : S[n]? = some x) (htl : T.length ≤ 20000) :
    Calls Tryd.prog 13 #[.pointer (some ⟨pb, 0, none⟩), .int .i64 0, .int .i64 (n : Int)] w fun e w' => Below w.heap.size w w' ∧ ((∃ m y, T[m]? = some y ∧ y.mine = x.yours ∧ y.yours = x.mine ∧ NoSes T m x.yours x.mine ∧ e = .returned y.iv) ∨ (NoSes T T.length x.yours x.mine ∧ e = .returned (.slice none 0 0))) := by
  have hnl := (List.getElem?_eq_some_iff.1 hx).1
  obtain ⟨p0, p1, p2, p3, p4, p5, p6, p7, p8, pf, hpl⟩ := hp.cells
  obtain ⟨g, c, hv, hgl, c0, c1, c2, c3, -⟩ := hs.cells hx
  obtain ⟨a, ct, hvt⟩ : ∃ a ct, s1 = .slice a T.length ct := by
    obtain ⟨a, c, e, _⟩ := ht.own.form
    exact ⟨a, c, e⟩
  rw [hv] at p7
  rw [hvt] at p8
  have hr1 := (hs.rows n x hx).1.form
  have hr2 := (hs.rows n x hx).2.form
  obtain ⟨mine, yours, iv, uv, inn, up⟩ := x
  simp only at c0 c1 c2 c3 hr1 hr2
  obtain ⟨ai, ci, rfl⟩ := hr1
  obtain ⟨au, cu, rfl⟩ := hr2
  generalize inn.length = ni at *
  generalize up.length = nu at *
  obtain ⟨w1, hw1⟩ : ∃ w1, w.alloc (.cells #[.int .u64 (mine : Int), .int .u64 (yours : Int), .slice ai ni ci, .slice au nu cu] 47) = w1 := ⟨_, rfl⟩
  have hb1 : Below w.heap.size w w1 := by rw [← hw1]; exact (Below.refl _ _).alloc (Nat.le_refl _) _
  have hk1 : w1.heap[w.heap.size]? = some (.cells #[.int .u64 (mine : Int), .int .u64 (yours : Int), .slice ai ni ci, .slice au nu cu] 47 (0, 0)) := by rw [← hw1]; exact heap_alloc_new _ _
  have m1 := kp_below hb1 (fun _ => False) K (9, 9)
  have HP := hide (hp.kp m1 (fun e => e))
  have HT := hide (ht.kp m1 (fun e => e) (fun e => e) (fun _ e => e))
  have HK1 := hide hk1
  have HB1 := hide hb1
  have HW1 := hide hw1
  have HVT := hide hvt
  have n1 : (n : Int) < (S.length : Int) := by omega
  have n2 : (0 : Int) ≤ (n : Int) := by omega
  generalize ext K w.heap.size (9, 9) = K1 at *
  clear hp hs ht hx hw1 hb1 hk1 m1 hv hvt
  go_enter Tryd.func13, Tryd.ntmps13
  go_upto_region 2 with (fail)
  rw [HW1.out]
  clear p0 p1 p2 p3 p4 p5 p6 p7 p8 pf c0 c1 c2 c3
  go_wp2
  go_loopw [8] (fun mv w' => ∃ (m q : Nat), m ≤ T.length ∧ mv = .int .i64 (m : Int) ∧ Hid (w' = w1.drewN q) ∧ Hid (NoSes T m yours mine)) (fun mv _ => T.length - (intOf mv).toNat)
  case atStart => exact ⟨0, 0, Nat.zero_le _, rfl, hide rfl, fun k y hk => by omega⟩
  case round =>
  obtain ⟨m, q, hm, rfl, HW, HNo⟩ := hrel
  rename World => wr
  have HPr : Hid (Pk wr K1 pb W M l0 l1 b0 b1 sv s0 s1) := by show Pk _ _ _ _ _ _ _ _ _ _ _ _; rw [HW.out]; exact HP.out.kp (drewN_kq w1 K1 q) (fun e => e)
  have HTr : Hid (Ss wr K1 (5, 1) 7 s1 T) := by show Ss _ _ _ _ _ _; rw [HW.out]; exact HT.out.kp (drewN_kq w1 K1 q) (fun e => e) (fun e => e) (fun _ e => e)
  have hkr : wr.heap[w.heap.size]? = some (.cells #[.int .u64 (mine : Int), .int .u64 (yours : Int), .slice ai ni ci, .slice au nu cu] 47 (0, 0)) := by rw [HW.out]; exact HK1.out
  have d0 : wr.cell? ⟨w.heap.size, 0, none⟩ = some (.int .u64 (mine : Int)) := by simp [World.cell?, hkr]
  have d1 : wr.cell? ⟨w.heap.size, 1, none⟩ = some (.int .u64 (yours : Int)) := by simp [World.cell?, hkr]
  have HBr : Hid (Below w.heap.size w wr) := by show Below _ _ _; rw [HW.out]; exact ⟨HB1.out.os, HB1.out.tape, HB1.out.output, HB1.out.size, HB1.out.block⟩
  clear hkr
  obtain ⟨p0, p1, p2, p3, p4, p5, p6, p7, p8, pf, hpr⟩ := HPr.out.cells
  rw [HVT.out] at p8
  by_cases hlt : m < T.length
  · have j1 : (m : Int) < (T.length : Int) := by omega
    have j2 : (0 : Int) ≤ (m : Int) := by omega
    obtain ⟨y, hy⟩ : ∃ y, T[m]? = some y := ⟨_, List.getElem?_eq_getElem hlt⟩
    obtain ⟨g2, c', hg, hgl2, e0, e1, e2, -, -⟩ := HTr.out.cells hy
    rw [HVT.out] at hg
    injection hg with hg1 hg2 hg3
    subst hg1
    have HY := hide hy
    obtain ⟨ay, cy, hyf⟩ := (HTr.out.rows m y hy).1.form
    rw [hyf] at e2
    have HYf := hide hyf
    clear hy hg2 hg3 hyf
    by_cases q1 : y.mine = yours
    · have f1 : ((y.mine : Int) == (yours : Int)) = true := by simp [q1]
      by_cases q2 : y.yours = mine
      · have f2 : ((y.yours : Int) == (mine : Int)) = true := by simp [q2]
        go_upto_region 5 with (fail)
        go_quiet (fail)
        have HBq : Hid (Below w.heap.size w (wr.drewN nq)) := ⟨HBr.out.os, HBr.out.tape, HBr.out.output, HBr.out.size, HBr.out.block⟩
        go_wp2
        go_ret
        exact ⟨HBq.out, Or.inl ⟨m, y, HY.out, q1, q2, HNo.out, by rw [HYf.out]; rfl⟩⟩
      · have f2 : ((y.yours : Int) == (mine : Int)) = false := by simp; omega
        go_upto_region 5 with (fail)
        go_quiet (fail)
        have HW2 : Hid (wr.drewN nq = w1.drewN (q + nq)) := by show _ = _; rw [HW.out, World.drewN_drewN]
        have HN2 : Hid (NoSes T (m + 1) yours mine) := fun k z hk hz => by
          by_cases hkm : k = m
          · subst hkm; rw [HY.out] at hz; cases hz; exact fun q => q2 q.2
          · exact HNo.out k z (by omega) hz
        go_wp2
        first
          | exact ⟨⟨m + 1, q + nq, by omega, by go_num, HW2, HN2⟩, by simp [intOf]; omega⟩
          | (go_roundw
             case rel => exact ⟨m + 1, q + nq, by omega, by go_num, HW2, HN2⟩
             case measure => simp [intOf]; omega)
    · have f1 : ((y.mine : Int) == (yours : Int)) = false := by simp; omega
      go_upto_region 5 with (fail)
      go_quiet (fail)
      have HW2 : Hid (wr.drewN nq = w1.drewN (q + nq)) := by show _ = _; rw [HW.out, World.drewN_drewN]
      have HN2 : Hid (NoSes T (m + 1) yours mine) := fun k z hk hz => by
        by_cases hkm : k = m
        · subst hkm; rw [HY.out] at hz; cases hz; exact fun q => q1 q.1
        · exact HNo.out k z (by omega) hz
      go_wp2
      first
        | exact ⟨⟨m + 1, q + nq, by omega, by go_num, HW2, HN2⟩, by simp [intOf]; omega⟩
        | (go_roundw
           case rel => exact ⟨m + 1, q + nq, by omega, by go_num, HW2, HN2⟩
           case measure => simp [intOf]; omega)
  · obtain rfl : m = T.length := by omega
    have j1 : ¬ (T.length : Int) < (T.length : Int) := by omega
    go_wp2
    go_ret
    exact ⟨HBr.out, Or.inr ⟨HNo.out, rfl⟩⟩
set_option maxRecDepth 100000 in
set_option maxHeartbeats 4000000 in
theorem handed1 (w : World) (K : Knd) (pb W M l0 l1 b0 b1 : Nat) (sv s0 s1 : Value) (S T : List Sm) (n : Nat) (x : Sm) (hp : Pk w K pb W M l0 l1 b0 b1 sv s0 s1) (hs : Ss w K (5, 1) 7 s1 S) (ht : Ss w K (5, 0) 6 s0 T) (hx : S[n]? = some x) (htl : T.length ≤ 20000) :
    Calls Tryd.prog 13 #[.pointer (some ⟨pb, 0, none⟩), .int .i64 1, .int .i64 (n : Int)] w fun e w' => Below w.heap.size w w' ∧ ((∃ m y, T[m]? = some y ∧ y.mine = x.yours ∧ y.yours = x.mine ∧ NoSes T m x.yours x.mine ∧ e = .returned y.iv) ∨ (NoSes T T.length x.yours x.mine ∧ e = .returned (.slice none 0 0))) := by
  have hnl := (List.getElem?_eq_some_iff.1 hx).1
  obtain ⟨p0, p1, p2, p3, p4, p5, p6, p7, p8, pf, hpl⟩ := hp.cells
  obtain ⟨g, c, hv, hgl, c0, c1, c2, c3, -⟩ := hs.cells hx
  obtain ⟨a, ct, hvt⟩ : ∃ a ct, s0 = .slice a T.length ct := by
    obtain ⟨a, c, e, _⟩ := ht.own.form
    exact ⟨a, c, e⟩
  rw [hv] at p8
  rw [hvt] at p7
  have hr1 := (hs.rows n x hx).1.form
  have hr2 := (hs.rows n x hx).2.form
  obtain ⟨mine, yours, iv, uv, inn, up⟩ := x
  simp only at c0 c1 c2 c3 hr1 hr2
  obtain ⟨ai, ci, rfl⟩ := hr1
  obtain ⟨au, cu, rfl⟩ := hr2
  generalize inn.length = ni at *
  generalize up.length = nu at *
  obtain ⟨w1, hw1⟩ : ∃ w1, w.alloc (.cells #[.int .u64 (mine : Int), .int .u64 (yours : Int), .slice ai ni ci, .slice au nu cu] 47) = w1 := ⟨_, rfl⟩
  have hb1 : Below w.heap.size w w1 := by rw [← hw1]; exact (Below.refl _ _).alloc (Nat.le_refl _) _
  have hk1 : w1.heap[w.heap.size]? = some (.cells #[.int .u64 (mine : Int), .int .u64 (yours : Int), .slice ai ni ci, .slice au nu cu] 47 (0, 0)) := by rw [← hw1]; exact heap_alloc_new _ _
  have m1 := kp_below hb1 (fun _ => False) K (9, 9)
  have HP := hide (hp.kp m1 (fun e => e))
  have HT := hide (ht.kp m1 (fun e => e) (fun e => e) (fun _ e => e))
  have HK1 := hide hk1
  have HB1 := hide hb1
  have HW1 := hide hw1
  have HVT := hide hvt
  have n1 : (n : Int) < (S.length : Int) := by omega
  have n2 : (0 : Int) ≤ (n : Int) := by omega
  generalize ext K w.heap.size (9, 9) = K1 at *
  clear hp hs ht hx hw1 hb1 hk1 m1 hv hvt
  go_enter Tryd.func13, Tryd.ntmps13
  go_upto_region 2 with (fail)
  rw [HW1.out]
  clear p0 p1 p2 p3 p4 p5 p6 p7 p8 pf c0 c1 c2 c3
  go_wp2
  go_loopw [8] (fun mv w' => ∃ (m q : Nat), m ≤ T.length ∧ mv = .int .i64 (m : Int) ∧ Hid (w' = w1.drewN q) ∧ Hid (NoSes T m yours mine)) (fun mv _ => T.length - (intOf mv).toNat)
  case atStart => exact ⟨0, 0, Nat.zero_le _, rfl, hide rfl, fun k y hk => by omega⟩
  case round =>
  obtain ⟨m, q, hm, rfl, HW, HNo⟩ := hrel
  rename World => wr
  have HPr : Hid (Pk wr K1 pb W M l0 l1 b0 b1 sv s0 s1) := by show Pk _ _ _ _ _ _ _ _ _ _ _ _; rw [HW.out]; exact HP.out.kp (drewN_kq w1 K1 q) (fun e => e)
  have HTr : Hid (Ss wr K1 (5, 0) 6 s0 T) := by show Ss _ _ _ _ _ _; rw [HW.out]; exact HT.out.kp (drewN_kq w1 K1 q) (fun e => e) (fun e => e) (fun _ e => e)
  have hkr : wr.heap[w.heap.size]? = some (.cells #[.int .u64 (mine : Int), .int .u64 (yours : Int), .slice ai ni ci, .slice au nu cu] 47 (0, 0)) := by rw [HW.out]; exact HK1.out
  have d0 : wr.cell? ⟨w.heap.size, 0, none⟩ = some (.int .u64 (mine : Int)) := by simp [World.cell?, hkr]
  have d1 : wr.cell? ⟨w.heap.size, 1, none⟩ = some (.int .u64 (yours : Int)) := by simp [World.cell?, hkr]
  have HBr : Hid (Below w.heap.size w wr) := by show Below _ _ _; rw [HW.out]; exact ⟨HB1.out.os, HB1.out.tape, HB1.out.output, HB1.out.size, HB1.out.block⟩
  clear hkr
  obtain ⟨p0, p1, p2, p3, p4, p5, p6, p7, p8, pf, hpr⟩ := HPr.out.cells
  rw [HVT.out] at p7
  by_cases hlt : m < T.length
  · have j1 : (m : Int) < (T.length : Int) := by omega
    have j2 : (0 : Int) ≤ (m : Int) := by omega
    obtain ⟨y, hy⟩ : ∃ y, T[m]? = some y := ⟨_, List.getElem?_eq_getElem hlt⟩
    obtain ⟨g2, c', hg, hgl2, e0, e1, e2, -, -⟩ := HTr.out.cells hy
    rw [HVT.out] at hg
    injection hg with hg1 hg2 hg3
    subst hg1
    have HY := hide hy
    obtain ⟨ay, cy, hyf⟩ := (HTr.out.rows m y hy).1.form
    rw [hyf] at e2
    have HYf := hide hyf
    clear hy hg2 hg3 hyf
    by_cases q1 : y.mine = yours
    · have f1 : ((y.mine : Int) == (yours : Int)) = true := by simp [q1]
      by_cases q2 : y.yours = mine
      · have f2 : ((y.yours : Int) == (mine : Int)) = true := by simp [q2]
        go_upto_region 5 with (fail)
        go_quiet (fail)
        have HBq : Hid (Below w.heap.size w (wr.drewN nq)) := ⟨HBr.out.os, HBr.out.tape, HBr.out.output, HBr.out.size, HBr.out.block⟩
        go_wp2
        go_ret
        exact ⟨HBq.out, Or.inl ⟨m, y, HY.out, q1, q2, HNo.out, by rw [HYf.out]; rfl⟩⟩
      · have f2 : ((y.yours : Int) == (mine : Int)) = false := by simp; omega
        go_upto_region 5 with (fail)
        go_quiet (fail)
        have HW2 : Hid (wr.drewN nq = w1.drewN (q + nq)) := by show _ = _; rw [HW.out, World.drewN_drewN]
        have HN2 : Hid (NoSes T (m + 1) yours mine) := fun k z hk hz => by
          by_cases hkm : k = m
          · subst hkm; rw [HY.out] at hz; cases hz; exact fun q => q2 q.2
          · exact HNo.out k z (by omega) hz
        go_wp2
        first
          | exact ⟨⟨m + 1, q + nq, by omega, by go_num, HW2, HN2⟩, by simp [intOf]; omega⟩
          | (go_roundw
             case rel => exact ⟨m + 1, q + nq, by omega, by go_num, HW2, HN2⟩
             case measure => simp [intOf]; omega)
    · have f1 : ((y.mine : Int) == (yours : Int)) = false := by simp; omega
      go_upto_region 5 with (fail)
      go_quiet (fail)
      have HW2 : Hid (wr.drewN nq = w1.drewN (q + nq)) := by show _ = _; rw [HW.out, World.drewN_drewN]
      have HN2 : Hid (NoSes T (m + 1) yours mine) := fun k z hk hz => by
        by_cases hkm : k = m
        · subst hkm; rw [HY.out] at hz; cases hz; exact fun q => q1 q.1
        · exact HNo.out k z (by omega) hz
      go_wp2
      first
        | exact ⟨⟨m + 1, q + nq, by omega, by go_num, HW2, HN2⟩, by simp [intOf]; omega⟩
        | (go_roundw
           case rel => exact ⟨m + 1, q + nq, by omega, by go_num, HW2, HN2⟩
           case measure => simp [intOf]; omega)
  · obtain rfl : m = T.length := by omega
    have j1 : ¬ (T.length : Int) < (T.length : Int) := by omega
    go_wp2
    go_ret
    exact ⟨HBr.out, Or.inr ⟨HNo.out, rfl⟩⟩
end Go.Proofs.YtbcpoejpbhpcbaaDoor
