import Derived.Test.YtecbidaljchmoaaRpE
import Derived.Test.YtecbidaljchmoaaRpP
import Derived.Deep.Cut
namespace Go.Proofs.Ytecbidaljchmoaa
open Go.RowKit

/-- Where a line goes. -/
theorem layT_in (ls : List Lin) (x : Lin) : ∀ (i : Nat), (∀ j y, j < i → ls[j]? = some y → y.c < x.c) → ∀ y, ls[i]? = some y → y.c = x.c → layT ls x = ls.set i ⟨y.c, wrap64 (y.n + x.n)⟩ := by
  induction ls with
  | nil => intro i _ y hy; simp at hy
  | cons z ls ih =>
    intro i hlt y hy he
    cases i with
    | zero =>
      simp at hy
      subst hy
      simp [layT, he]
    | succ i =>
      have hz := hlt 0 z (by omega) rfl
      unfold layT
      rw [if_neg (by omega), if_neg (by omega), ih i (fun j y hj hy => hlt (j + 1) y (by omega) (by simpa using hy)) y (by simpa using hy) he]
      rfl
theorem layT_at (ls : List Lin) (x : Lin) : ∀ (i : Nat), (∀ j y, j < i → ls[j]? = some y → y.c < x.c) → i ≤ ls.length → (∀ y, ls[i]? = some y → x.c < y.c) → layT ls x = ls.take i ++ [x] ++ ls.drop i := by
  induction ls with
  | nil => intro i _ hi _; simp [layT]
  | cons z ls ih =>
    intro i hlt hi hgt
    cases i with
    | zero =>
      have hz := hgt z rfl
      simp [layT, show ¬ z.c = x.c by omega, hz]
    | succ i =>
      have hz := hlt 0 z (by omega) rfl
      unfold layT
      rw [if_neg (by omega), if_neg (by omega), ih i (fun j y hj hy => hlt (j + 1) y (by omega) (by simpa using hy)) (by simpa using hi) (fun y hy => hgt y (by simpa using hy))]
      rfl
theorem flat_set2 (ls : List Lin) : ∀ (k : Nat) (y : Lin) (z : Int), ls[k]? = some y → (flat linc ls).set (k * 2 + 1) (.int .i64 z) = flat linc (ls.set k ⟨y.c, z⟩) := by
  induction ls with
  | nil => intro k y z h; simp at h
  | cons x ls ih =>
    intro k y z h
    have e : ∀ (z : Lin) (l : List Lin), flat linc (z :: l) = .int .i64 z.c :: .int .i64 z.n :: flat linc l := fun _ _ => rfl
    cases k with
    | zero => simp at h; subst h; rw [e]; simp [e]
    | succ k =>
      rw [e, show (k + 1) * 2 + 1 = k * 2 + 1 + 1 + 1 by omega, List.set_cons_succ, List.set_cons_succ, ih k y z (by simpa using h), List.set_cons_succ, e]
/-- A cell of a row of one's own is written. -/
theorem owns_put {w : World} {B g n c i : Nat} {t : TypeId} {s : Nat} {xs : List Value} (h : w.ownsRow B t s (.slice (some ⟨g, 0, none⟩) n c) n xs) (u : Value) : (w.setCell ⟨g, i, none⟩ u).ownsRow B t s (.slice (some ⟨g, 0, none⟩) n c) n (xs.set i u) ∧ w.frozen? ⟨g, i, none⟩ = false := by
  rcases h.2 with ⟨h1, _⟩ | ⟨g', cap, cur, h1, hb, hg, hn, hc, hs, ht⟩
  · cases h1
  · cases h1
    refine ⟨⟨by rw [List.length_set]; exact h.1, .inr ⟨g, _, cur.setIfInBounds i u, rfl, hb, heap_setCell_same _ _ _ _ _ _ hg, hn, hc, by simpa using hs, ?_⟩⟩, frozen_of_row _ _ _ _ _ hg⟩
    rw [Array.toList_setIfInBounds, List.take_set, ht]
theorem row_cell {w : World} {B : Nat} {e : TypeId} {s n c : Nat} {a : Option Addr} {xs : List Value} (h : w.ownsRow B e s (.slice a n c) n xs) {i : Nat} {u : Value} (hi : xs[i]? = some u) : ∃ g, a = some ⟨g, 0, none⟩ ∧ g < w.heap.size ∧ w.cell? ⟨g, i, none⟩ = some u := by
  rcases h.2 with ⟨h1, h2⟩ | ⟨g, cap, cur, h1, _, hg, _, _, _, ht⟩
  · exfalso
    have := h.1
    rw [h2, Nat.zero_mul] at this
    have : xs = [] := List.eq_nil_of_length_eq_zero this
    rw [this] at hi
    simp at hi
  · simp only [Value.slice.injEq] at h1
    refine ⟨g, h1.1, ac_lt hg, ?_⟩
    have hil : i < n * s := by
      have := h.1
      have h' := (List.getElem?_eq_some_iff.1 hi).1
      omega
    rw [← ht, List.getElem?_take_of_lt hil] at hi
    simp only [World.cell?, hg]
    simp only [Option.isSome_none, Bool.false_eq_true, if_false]
    rw [← Array.getElem?_toList, hi]
theorem flat_at (ls : List Lin) {i : Nat} {y : Lin} (h : ls[i]? = some y) : (flat linc ls)[i * 2]? = some (.int .i64 y.c) ∧ (flat linc ls)[i * 2 + 1]? = some (.int .i64 y.n) :=
  ⟨by have := flat_get (f := linc) (sz := 2) (fun _ => rfl) ls i y h 0 _ rfl; simpa using this, flat_get (f := linc) (sz := 2) (fun _ => rfl) ls i y h 1 _ rfl⟩
theorem cel_drop {w : World} {g o : Nat} {ls : List Lin} (h : Cel w (some ⟨g, o, none⟩) 2 (ls.map linc)) (k : Nat) : Cel w (some ⟨g, o + k * 2, none⟩) 2 ((ls.drop k).map linc) := by
  rcases h with h | ⟨b, o', e, hb, hc⟩
  · left
    have : ls = [] := by simpa using h
    rw [this]; simp
  · cases e
    refine Or.inr ⟨g, _, rfl, hb, fun i r hr j v hv => ?_⟩
    have h2 := hc (k + i) r (by rw [List.getElem?_map] at hr ⊢; rw [List.getElem?_drop] at hr; exact hr) j v hv
    rw [show o + k * 2 + i * 2 + j = o + (k + i) * 2 + j by omega]
    exact h2
theorem cel_take {w : World} {p : Option Addr} {ls : List Lin} (h : Cel w p 2 (ls.map linc)) (k : Nat) : Cel w p 2 ((ls.take k).map linc) := by
  rcases h with h | ⟨b, o', e, hb, hc⟩
  · left
    have : ls = [] := by simpa using h
    rw [this]; simp
  · refine Or.inr ⟨b, o', e, hb, fun i r hr => hc i r ?_⟩
    rw [List.getElem?_map] at hr ⊢
    rcases Nat.lt_or_ge i k with hi | hi
    · rw [List.getElem?_take_of_lt hi] at hr; exact hr
    · rw [List.getElem?_eq_none (by rw [List.length_take]; omega)] at hr; simp at hr
theorem two_cel (w : World) (c0 c1 : Value) (t : TypeId) : Cel (w.alloc (.cells #[c0, c1] t)) (some ⟨w.heap.size, 0, none⟩) 2 [[c0, c1]] := by
  refine Or.inr ⟨_, 0, rfl, by simp, fun i r hr j v hv => ?_⟩
  match i, hr with
  | 0, hr =>
    simp at hr
    subst hr
    rw [cell_of_row _ _ _ _ _ _ (heap_alloc_new w (.cells #[c0, c1] t))]
    simpa using hv
  | i + 1, hr => simp at hr

/-- The three appends of an insertion. -/
theorem ins_all (W : World) (k n c cp : Nat) (a sp : Option Addr) (ls : List Lin) (x : Lin) (hl : ls.length = n) (hk : k ≤ n) (hn : n ≤ 549755813) (hc : Cel W a 2 (ls.map linc)) (hsp : Cel W sp 2 ((ls.drop k).map linc)) :
    ∃ p1 c1 W1 p2 c2 W2 v3 W3, (Builtin.append_ #[37, 37] 37 #[.slice none 0 0, .slice a k c]).run Try.prog W = .ok (.slice p1 k c1) W1 ∧
      (Builtin.append_ #[37, 37] 37 #[.slice p1 k c1, .slice (some ⟨W1.heap.size, 0, none⟩) 1 1]).run Try.prog (W1.alloc (.cells #[.int .i64 x.c, .int .i64 x.n] 84)) = .ok (.slice p2 (k + 1) c2) W2 ∧
      (Builtin.append_ #[37, 37] 37 #[.slice p2 (k + 1) c2, .slice sp (n - k) cp]).run Try.prog W2 = .ok v3 W3 ∧
      W3.ownsRow W.heap.size 84 2 v3 (ls.take k ++ [x] ++ ls.drop k).length (flat linc (ls.take k ++ [x] ++ ls.drop k)) ∧ Below W.heap.size W W1 ∧ Below W.heap.size W W3 := by
  obtain ⟨v1, W1, r1, o1, g1, _⟩ := elt_line.run_append W 37 W.heap.size 0 (.slice none 0 0) [] (World.ownsRow_nil _ _ _ _) a k c (ls.take k) (by rw [List.length_take]; omega) (cel_take hc k) (by omega) (Nat.le_refl _)
  rw [Nat.zero_add, List.nil_append] at o1
  obtain ⟨p1, c1, rfl, _⟩ := slice_form o1
  have b1 : Below W.heap.size W W1 := (Below.refl _ W).grown g1 (Nat.le_refl _) (fun k e => by cases e)
  have b1a : Below W.heap.size W (W1.alloc (.cells #[.int .i64 x.c, .int .i64 x.n] 84)) := b1.alloc b1.size _
  have o1a := owns_keep o1 ((Below.refl _ W1).alloc (Nat.le_refl _) (.cells #[.int .i64 x.c, .int .i64 x.n] 84))
  obtain ⟨v2, W2, r2, o2, g2, _⟩ := elt_line.run_append (W1.alloc (.cells #[.int .i64 x.c, .int .i64 x.n] 84)) 37 W.heap.size k (.slice p1 k c1) _ o1a (some ⟨W1.heap.size, 0, none⟩) 1 1 [x] rfl (two_cel W1 _ _ _) (by omega) b1a.size
  obtain ⟨p2, c2, rfl, _⟩ := slice_form o2
  have b2 : Below W.heap.size W W2 := b1a.grown g2 b1a.size (fun g e => owns_base o1a g e)
  obtain ⟨v3, W3, r3, o3, g3, _⟩ := elt_line.run_append W2 37 W.heap.size (k + 1) (.slice p2 (k + 1) c2) _ o2 sp (n - k) cp (ls.drop k) (by rw [List.length_drop]; omega) (hsp.below b2) (by omega) b2.size
  refine ⟨p1, c1, W1, p2, c2, W2, v3, W3, r1, r2, r3, ?_, b1, b2.grown g3 b2.size (fun g e => owns_base o2 g e)⟩
  have e1 : (ls.take k ++ [x] ++ ls.drop k).length = k + 1 + (n - k) := by simp; omega
  rw [e1, flat_app, flat_app]
  exact o3

theorem drewN_row {w : World} {D B n s : Nat} {t : TypeId} {v : Value} {xs : List Value} (h : w.ownsRow B t s v n xs) : (w.drewN D).ownsRow B t s v n xs := h
theorem drewN_below {b D : Nat} {w w' : World} (h : Below b w w') : Below b w (w'.drewN D) := ⟨h.os, h.tape, h.output, h.size, h.block⟩
theorem below_grownS {w w' : World} {r : Option Nat} (h : Below w.heap.size w w') : w.grownBy w' r := ⟨h.os, h.tape, h.output, h.size, fun k hk _ => h.block k hk⟩
set_option maxRecDepth 100000 in
set_option maxHeartbeats 8000000 in
theorem lay_any (w : World) (B : Nat) (a : Option Addr) (n c : Nat) (ls : List Lin) (x : Lin) (hrow : w.ownsRow B 84 2 (.slice a n c) n (flat linc ls)) (hl : ls.length = n) (hn : n ≤ 549755813) (hB : B ≤ w.heap.size) :
    Calls Try.prog 38 #[.slice a n c, .agg #[.int .i64 x.c, .int .i64 x.n]] w fun e w' => ∃ v, e = .returned v ∧ w'.ownsRow B 84 2 v (layT ls x).length (flat linc (layT ls x)) ∧ w.grownBy w' (Value.slice a n c).ownBlock := by
  obtain ⟨xc, xn⟩ := x
  have hr0 : (w.alloc (.cells #[.int .i64 xc, .int .i64 xn] 84)).ownsRow B 84 2 (.slice a n c) n (flat linc ls) := owns_keep hrow ((Below.refl _ w).alloc (Nat.le_refl _) _)
  obtain ⟨w1, hw1⟩ : ∃ w1, w.alloc (.cells #[.int .i64 xc, .int .i64 xn] 84) = w1 := ⟨_, rfl⟩
  have hbx : w1.heap[w.heap.size]? = some (.cells #[.int .i64 xc, .int .i64 xn] 84 (0, 0)) := by rw [← hw1]; exact heap_alloc_new _ _
  have hb1 : Below w.heap.size w w1 := by rw [← hw1]; exact (Below.refl _ w).alloc (Nat.le_refl _) _
  rw [hw1] at hr0
  have x0 : w1.cell? ⟨w.heap.size, 0, none⟩ = some (.int .i64 xc) := by simp [World.cell?, hbx]
  have x1 : w1.cell? ⟨w.heap.size, 1, none⟩ = some (.int .i64 xn) := by simp [World.cell?, hbx]
  have HR := hide hr0
  have HB1 := hide hb1
  have HW1 := hide hw1
  have hsz1 : w.heap.size < w1.heap.size := ac_lt hbx
  have hcap : n ≤ c := by obtain ⟨_, _, e, h⟩ := slice_form hrow; cases e; exact h
  have HOl : Hid (∀ g, (Value.slice a n c).ownBlock = some g → g < w.heap.size) := fun g e => rk_lt hrow e
  clear hr0 hb1 hw1 hbx hrow
  go_enter Try.func38, Try.ntmps38
  go_upto_region 1 with (fail)
  rw [HW1.out]
  go_wp2
  go_loopw [5] (fun i wr => ∃ (k d : Nat), k ≤ n ∧ i = .int .i64 k ∧ wr = w1.drewN d ∧ Hid (∀ j y, j < k → ls[j]? = some y → y.c < xc)) (fun i _ => n - (intOf i).toNat)
  case atStart => exact ⟨0, 0, Nat.zero_le _, rfl, rfl, fun j y hj _ => absurd hj (Nat.not_lt_zero _)⟩
  case round =>
    obtain ⟨k, d, hk, rfl, rfl, HL⟩ := hrel
    by_cases hlt : k < n
    · have hlt' : (k : Int) < (n : Int) := by omega
      obtain ⟨y, hy⟩ : ∃ y, ls[k]? = some y := ⟨_, List.getElem?_eq_getElem (by omega)⟩
      obtain ⟨f0, f1⟩ := flat_at ls hy
      obtain ⟨g, rfl, hgl, k0⟩ := row_cell HR.out f0
      obtain ⟨g', e, _, k1⟩ := row_cell HR.out f1
      simp only [Option.some.injEq, Addr.mk.injEq, and_true] at e
      subst e
      have HY := hide hy
      obtain ⟨yc, yn⟩ := y
      simp only at k0 k1
      clear f0 f1 hy
      by_cases h1 : yc < xc
      · go_upto_region 2 with (fail)
        go_region
        all_goals go_wp2
        all_goals go_roundw
        all_goals first | exact ⟨k + 1, d + 1, by omega, by go_num, rfl, fun j y hj hy => by
              rcases Nat.lt_or_ge j k with h | h
              · exact HL.out j y h hy
              · obtain rfl : j = k := by omega
                rw [HY.out] at hy; cases hy; exact h1⟩ | (simp [intOf]; omega)
      · by_cases h2 : yc = xc
        · subst h2
          have HT : Hid (layT ls ⟨yc, xn⟩ = ls.set k ⟨yc, wrap64 (yn + xn)⟩) := layT_in ls ⟨yc, xn⟩ k HL.out ⟨yc, yn⟩ HY.out rfl
          go_upto_region 2 with (fail)
          go_region
          go_upto_region 4 with (fail)
          go_region
          go_upto_region 5 with (fail)
          obtain ⟨hput, hfz⟩ := owns_put (w := w1) HR.out (i := k * 2 + 1) (.int .i64 (wrap64 (yn + xn)))
          have HP := hide hput
          clear hput
          go_region
          all_goals go_wp2
          all_goals go_ret
          all_goals (
            refine ⟨_, rfl, ?_, ?_⟩
            · rw [HT.out, List.length_set, hl, ← flat_set2 ls k ⟨yc, yn⟩ (wrap64 (yn + xn)) HY.out]
              exact HP.out
            · have hg := HOl.out g rfl
              refine ⟨HB1.out.os, HB1.out.tape, HB1.out.output, by simpa [World.setCell] using HB1.out.size, fun j hj hne => ?_⟩
              rw [heap_setCell_other _ _ _ _ (fun e => hne (by rw [e]; rfl))]
              exact HB1.out.block j hj)
        · have HT : Hid (layT ls ⟨xc, xn⟩ = ls.take k ++ [⟨xc, xn⟩] ++ ls.drop k) := layT_at ls ⟨xc, xn⟩ k HL.out (by omega) (fun y hy => by rw [HY.out] at hy; cases hy; show xc < yc; omega)
          have h2' : (yc == xc) = false := by simp [h2]
          go_upto_region 2 with (fail)
          go_region
          go_upto_region 4 with (fail)
          go_region
          go_upto_region 8 with (fail)
          have hkc : ¬ k = c := by omega
          obtain ⟨p1, c1, W1, p2, c2, W2, v3, W3, r1, r2, r3, ho, b1, b3⟩ := ins_all (w1.drewN (d + 1 + 1)) k n c (c - k) (some ⟨g, 0, none⟩) (some ⟨g, 0 + k * 2, none⟩) ls ⟨xc, xn⟩ hl hk hn (cel_row (f := linc) (fun _ => rfl) (drewN_row HR.out) hl) (cel_drop (cel_row (f := linc) (fun _ => rfl) (drewN_row HR.out) hl) k)
          rw [Nat.zero_add] at r3
          have R1 := hide r1
          have R2 := hide r2
          have R3 := hide r3
          have y0 : W1.cell? ⟨w.heap.size, 0, none⟩ = some (.int .i64 xc) := (b1.cell (p := ⟨w.heap.size, 0, none⟩) hsz1).trans x0
          have y1 : W1.cell? ⟨w.heap.size, 1, none⟩ = some (.int .i64 xn) := (b1.cell (p := ⟨w.heap.size, 1, none⟩) hsz1).trans x1
          have HE : Hid (W3.ownsRow B 84 2 v3 (layT ls ⟨xc, xn⟩).length (flat linc (layT ls ⟨xc, xn⟩)) ∧ Below w.heap.size w W3) := by
            have hbw : Below w.heap.size w (w1.drewN (d + 1 + 1)) := drewN_below HB1.out
            exact ⟨by rw [HT.out]; exact owns_le ho (Nat.le_trans hB hbw.size), hbw.trans (b3.mono hbw.size)⟩
          clear r1 r2 r3 ho b1 b3
          go_upto_region 9 with (at_builtin; refine lp_append (.slice none 0 0) (.slice (some ⟨g, 0, none⟩) k c) rfl rfl ⟨_, W1, R1.out, ?_⟩)
          go_upto_region 10 with (at_builtin; refine lp_append (.slice p1 k c1) (.slice (some ⟨W1.heap.size, 0, none⟩) 1 1) rfl rfl ⟨_, W2, R2.out, ?_⟩)
          go_wp2_with (at_builtin; refine lp_append (.slice p2 (k + 1) c2) (.slice (some ⟨g, k * 2, none⟩) (n - k) (c - k)) rfl rfl ⟨_, W3, R3.out, ?_⟩)
          go_ret
          exact ⟨_, rfl, HE.out.1, below_grownS HE.out.2⟩
    · obtain rfl : k = n := by omega
      have HT : Hid (layT ls ⟨xc, xn⟩ = ls.take k ++ [⟨xc, xn⟩] ++ ls.drop k) := layT_at ls ⟨xc, xn⟩ k HL.out (by omega) (fun y hy => by rw [List.getElem?_eq_none (by omega)] at hy; cases hy)
      go_upto_region 2 with (fail)
      go_region
      go_upto_region 4 with (fail)
      go_region
      go_upto_region 8 with (fail)
      by_cases hkc : k = c
      · subst hkc
        obtain ⟨p1, c1, W1, p2, c2, W2, v3, W3, r1, r2, r3, ho, b1, b3⟩ := ins_all (w1.drewN (d + 1 + 1)) k k k (k - k) a a ls ⟨xc, xn⟩ hl hk hn (cel_row (f := linc) (fun _ => rfl) (drewN_row HR.out) hl) (by left; rw [List.drop_of_length_le (by omega)]; rfl)
        rw [Nat.sub_self] at r3
        have R1 := hide r1
        have R2 := hide r2
        have R3 := hide r3
        have y0 : W1.cell? ⟨w.heap.size, 0, none⟩ = some (.int .i64 xc) := (b1.cell (p := ⟨w.heap.size, 0, none⟩) hsz1).trans x0
        have y1 : W1.cell? ⟨w.heap.size, 1, none⟩ = some (.int .i64 xn) := (b1.cell (p := ⟨w.heap.size, 1, none⟩) hsz1).trans x1
        have HE : Hid (W3.ownsRow B 84 2 v3 (layT ls ⟨xc, xn⟩).length (flat linc (layT ls ⟨xc, xn⟩)) ∧ Below w.heap.size w W3) := by
          have hbw : Below w.heap.size w (w1.drewN (d + 1 + 1)) := drewN_below HB1.out
          exact ⟨by rw [HT.out]; exact owns_le ho (Nat.le_trans hB hbw.size), hbw.trans (b3.mono hbw.size)⟩
        clear r1 r2 r3 ho b1 b3
        go_upto_region 9 with (at_builtin; refine lp_append (.slice none 0 0) (.slice a k k) rfl rfl ⟨_, W1, R1.out, ?_⟩)
        go_upto_region 10 with (at_builtin; refine lp_append (.slice p1 k c1) (.slice (some ⟨W1.heap.size, 0, none⟩) 1 1) rfl rfl ⟨_, W2, R2.out, ?_⟩)
        go_wp2_with (at_builtin; refine lp_append (.slice p2 (k + 1) c2) (.slice a 0 0) rfl rfl ⟨_, W3, by simpa using R3.out, ?_⟩)
        go_ret
        exact ⟨_, rfl, HE.out.1, below_grownS HE.out.2⟩
      · rcases HR.out.2 with ⟨e1, _⟩ | ⟨g, cap, cur, e1, _⟩
        · exfalso
          cases e1
          omega
        · cases e1
          obtain ⟨p1, c1, W1, p2, c2, W2, v3, W3, r1, r2, r3, ho, b1, b3⟩ := ins_all (w1.drewN (d + 1 + 1)) k k c (c - k) (some ⟨g, 0, none⟩) (some ⟨g, 0 + k * 2, none⟩) ls ⟨xc, xn⟩ hl hk hn (cel_row (f := linc) (fun _ => rfl) (drewN_row HR.out) hl) (by left; rw [List.drop_of_length_le (by omega)]; rfl)
          rw [Nat.sub_self, Nat.zero_add] at r3
          have R1 := hide r1
          have R2 := hide r2
          have R3 := hide r3
          have y0 : W1.cell? ⟨w.heap.size, 0, none⟩ = some (.int .i64 xc) := (b1.cell (p := ⟨w.heap.size, 0, none⟩) hsz1).trans x0
          have y1 : W1.cell? ⟨w.heap.size, 1, none⟩ = some (.int .i64 xn) := (b1.cell (p := ⟨w.heap.size, 1, none⟩) hsz1).trans x1
          have HE : Hid (W3.ownsRow B 84 2 v3 (layT ls ⟨xc, xn⟩).length (flat linc (layT ls ⟨xc, xn⟩)) ∧ Below w.heap.size w W3) := by
            have hbw : Below w.heap.size w (w1.drewN (d + 1 + 1)) := drewN_below HB1.out
            exact ⟨by rw [HT.out]; exact owns_le ho (Nat.le_trans hB hbw.size), hbw.trans (b3.mono hbw.size)⟩
          clear r1 r2 r3 ho b1 b3
          go_upto_region 9 with (at_builtin; refine lp_append (.slice none 0 0) (.slice (some ⟨g, 0, none⟩) k c) rfl rfl ⟨_, W1, R1.out, ?_⟩)
          go_upto_region 10 with (at_builtin; refine lp_append (.slice p1 k c1) (.slice (some ⟨W1.heap.size, 0, none⟩) 1 1) rfl rfl ⟨_, W2, R2.out, ?_⟩)
          go_wp2_with (at_builtin; refine lp_append (.slice p2 (k + 1) c2) (.slice (some ⟨g, k * 2, none⟩) 0 (c - k)) rfl rfl ⟨_, W3, R3.out, ?_⟩)
          go_ret
          exact ⟨_, rfl, HE.out.1, below_grownS HE.out.2⟩
end Go.Proofs.Ytecbidaljchmoaa
