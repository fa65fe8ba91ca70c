import Derived.Test.YtecbidaljchmoaaRpH
import Derived.Test.YtecbidaljchmoaaRpL
import Derived.Deep.Cut
import Derived.Lib.QuietBelow
import Derived.Lib.SmallJoins
namespace Go.Proofs.Ytecbidaljchmoaa
open Go.RowKit Go.Sort

theorem lin_eq {a b c d : Int} (h : ¬ ((⟨a, b⟩ : Lin) = ⟨c, d⟩)) : ¬ a = c ∨ (a = c ∧ ¬ b = d) := by
  by_cases h1 : a = c
  · refine Or.inr ⟨h1, fun h2 => h (by rw [h1, h2])⟩
  · exact Or.inl h1
theorem ne_at {α : Type} {xs ys : List α} {j : Nat} {x y : α} (hx : xs[j]? = some x) (hy : ys[j]? = some y) (h : ¬ x = y) : ¬ xs = ys := fun e => by
  rw [e, hy] at hx; cases hx; exact h rfl

set_option maxRecDepth 100000 in
set_option maxHeartbeats 4000000 in
theorem eqLines_any (w : World) (p q : Option Addr) (n m cap cap' : Nat) (xs ys : List Lin) (hn : xs.length = n) (hm : ys.length = m) (hnl : n ≤ 140737488355328) (hc : Cel w p 2 (xs.map linc)) (hd : Cel w q 2 (ys.map linc)) (A : Bool) (hA : A = true ↔ xs = ys) :
    Calls Try.prog 21 #[.slice p n cap, .slice q m cap'] w fun e w' => e = .returned (.bool A) ∧ Below w.heap.size w w' := by
  have HC := hide hc
  have HD := hide hd
  have HA := hide hA
  clear hc hd hA
  by_cases hl : n = m
  · subst hl
    go_enter Try.func21, Try.ntmps21
    go_wp2
    go_loopw [5] (fun i wr => ∃ j : Nat, j ≤ n ∧ i = .int .i64 j ∧ Hid (Below w.heap.size w wr) ∧ Hid (xs.take j = ys.take j)) (fun i _ => n - (intOf i).toNat)
    case atStart => exact ⟨0, Nat.zero_le _, rfl, Below.refl _ _, rfl⟩
    case round =>
      obtain ⟨j, hj, rfl, HBr, HT⟩ := hrel
      by_cases hlt : j < n
      · have hlt' : (j : Int) < (n : Int) := by omega
        have i0 : (0 : Int) ≤ (j : Int) := by omega
        obtain ⟨x, hx⟩ : ∃ x, xs[j]? = some x := ⟨_, List.getElem?_eq_getElem (by omega)⟩
        obtain ⟨y, hy⟩ : ∃ y, ys[j]? = some y := ⟨_, List.getElem?_eq_getElem (by omega)⟩
        obtain ⟨b, o, rfl, hbl, hcl⟩ := HC.out.get (i := j) (r := linc x) (by simp [hx])
        obtain ⟨b', o', rfl, hbl', hcl'⟩ := HD.out.get (i := j) (r := linc y) (by simp [hy])
        have f : ∀ i v, (linc x)[i]? = some v → wr.cell? ⟨b, o + j * 2 + i, none⟩ = some v := fun i v hv => (HBr.out.cell (p := ⟨b, o + j * 2 + i, none⟩) hbl).trans (hcl i v hv)
        have f' : ∀ i v, (linc y)[i]? = some v → wr.cell? ⟨b', o' + j * 2 + i, none⟩ = some v := fun i v hv => (HBr.out.cell (p := ⟨b', o' + j * 2 + i, none⟩) hbl').trans (hcl' i v hv)
        have a0 := f 0 _ rfl
        have a1 := f 1 _ rfl
        have b0 := f' 0 _ rfl
        have b1 := f' 1 _ rfl
        rw [Nat.add_zero] at a0 b0
        obtain ⟨xc, xn⟩ := x
        obtain ⟨yc, yn⟩ := y
        simp only at a0 a1 b0 b1
        clear f f' hcl hcl'
        have HBd : Hid (Below w.heap.size w wr.drew) := HBr.out.drew
        by_cases he : (⟨xc, xn⟩ : Lin) = ⟨yc, yn⟩
        · cases he
          have HT2 : Hid (xs.take (j + 1) = ys.take (j + 1)) := by show _ = _; rw [List.take_add_one, List.take_add_one, hx, hy, HT.out]
          go_upto_region 6 with (fail)
          go_region
          go_wp2
          go_roundw
          case rel => exact ⟨j + 1, by omega, by go_num, HBd, HT2⟩
          case measure => simp [intOf]; omega
        · have HF : Hid (A = false) := by
            show A = false
            cases hAA : A with
            | false => rfl
            | true => exact (ne_at hx hy he (HA.out.1 hAA)).elim
          rcases lin_eq he with h1 | ⟨h1, h2⟩
          · go_upto_region 6 with (fail)
            go_region
            all_goals go_wp2
            all_goals go_ret
            all_goals exact ⟨retB HF.out, HBd.out⟩
          · subst h1
            go_upto_region 6 with (fail)
            go_region
            all_goals go_wp2
            all_goals go_ret
            all_goals exact ⟨retB HF.out, HBd.out⟩
      · have e1 : ¬ (j : Int) < (n : Int) := by omega
        have HT' : Hid (A = true) := HA.out.2 (by have h := HT.out; rw [List.take_of_length_le (by omega), List.take_of_length_le (by omega)] at h; exact h)
        go_wp2
        go_ret
        exact ⟨retB HT'.out, HBr.out⟩
  · have hl' : ¬ (n : Int) = (m : Int) := by omega
    have HF : Hid (A = false) := by
      show A = false
      cases hAA : A with
      | false => rfl
      | true => exact (hl (by rw [← hn, ← hm, HA.out.1 hAA])).elim
    go_enter Try.func21, Try.ntmps21
    go_wp2
    go_ret
    exact ⟨retB HF.out, Below.refl _ _⟩
theorem tri_eq {a b c d e f : Int} (h : ¬ ((⟨a, b, c⟩ : Tri) = ⟨d, e, f⟩)) : ¬ a = d ∨ (a = d ∧ ¬ b = e) ∨ (a = d ∧ b = e ∧ ¬ c = f) := by
  by_cases h1 : a = d
  · by_cases h2 : b = e
    · exact Or.inr (Or.inr ⟨h1, h2, fun h3 => h (by rw [h1, h2, h3])⟩)
    · exact Or.inr (Or.inl ⟨h1, h2⟩)
  · exact Or.inl h1
set_option maxRecDepth 100000 in
set_option maxHeartbeats 4000000 in
theorem eqSets_any (w : World) (p q : Option Addr) (n m cap cap' : Nat) (xs ys : List Tri) (hn : xs.length = n) (hm : ys.length = m) (hnl : n ≤ 140737488355328) (hc : Cel w p 3 (xs.map tric)) (hd : Cel w q 3 (ys.map tric)) (A : Bool) (hA : A = true ↔ xs = ys) :
    Calls Try.prog 30 #[.slice p n cap, .slice q m cap'] w fun e w' => e = .returned (.bool A) ∧ Below w.heap.size w w' := by
  have HC := hide hc
  have HD := hide hd
  have HA := hide hA
  clear hc hd hA
  by_cases hl : n = m
  · subst hl
    go_enter Try.func30, Try.ntmps30
    go_wp2
    go_loopw [5] (fun i wr => ∃ j : Nat, j ≤ n ∧ i = .int .i64 j ∧ Hid (Below w.heap.size w wr) ∧ Hid (xs.take j = ys.take j)) (fun i _ => n - (intOf i).toNat)
    case atStart => exact ⟨0, Nat.zero_le _, rfl, Below.refl _ _, rfl⟩
    case round =>
      obtain ⟨j, hj, rfl, HBr, HT⟩ := hrel
      by_cases hlt : j < n
      · have hlt' : (j : Int) < (n : Int) := by omega
        have i0 : (0 : Int) ≤ (j : Int) := by omega
        obtain ⟨x, hx⟩ : ∃ x, xs[j]? = some x := ⟨_, List.getElem?_eq_getElem (by omega)⟩
        obtain ⟨y, hy⟩ : ∃ y, ys[j]? = some y := ⟨_, List.getElem?_eq_getElem (by omega)⟩
        obtain ⟨b, o, rfl, hbl, hcl⟩ := HC.out.get (i := j) (r := tric x) (by simp [hx])
        obtain ⟨b', o', rfl, hbl', hcl'⟩ := HD.out.get (i := j) (r := tric y) (by simp [hy])
        have f : ∀ i v, (tric x)[i]? = some v → wr.cell? ⟨b, o + j * 3 + i, none⟩ = some v := fun i v hv => (HBr.out.cell (p := ⟨b, o + j * 3 + i, none⟩) hbl).trans (hcl i v hv)
        have f' : ∀ i v, (tric y)[i]? = some v → wr.cell? ⟨b', o' + j * 3 + i, none⟩ = some v := fun i v hv => (HBr.out.cell (p := ⟨b', o' + j * 3 + i, none⟩) hbl').trans (hcl' i v hv)
        have a0 := f 0 _ rfl
        have a1 := f 1 _ rfl
        have a2 := f 2 _ rfl
        have b0 := f' 0 _ rfl
        have b1 := f' 1 _ rfl
        have b2 := f' 2 _ rfl
        rw [Nat.add_zero] at a0 b0
        obtain ⟨xa, xb, xn⟩ := x
        obtain ⟨ya, yb, yn⟩ := y
        simp only at a0 a1 a2 b0 b1 b2
        clear f f' hcl hcl'
        have HBd : Hid (Below w.heap.size w wr.drew) := HBr.out.drew
        by_cases he : (⟨xa, xb, xn⟩ : Tri) = ⟨ya, yb, yn⟩
        · cases he
          have HT2 : Hid (xs.take (j + 1) = ys.take (j + 1)) := by show _ = _; rw [List.take_add_one, List.take_add_one, hx, hy, HT.out]
          go_upto_region 6 with (fail)
          go_region
          go_wp2
          go_roundw
          case rel => exact ⟨j + 1, by omega, by go_num, HBd, HT2⟩
          case measure => simp [intOf]; omega
        · have HF : Hid (A = false) := by
            show A = false
            cases hAA : A with
            | false => rfl
            | true => exact (ne_at hx hy he (HA.out.1 hAA)).elim
          rcases tri_eq he with h1 | ⟨h1, h2⟩ | ⟨h1, h3, h2⟩
          · go_upto_region 6 with (fail)
            go_region
            all_goals go_wp2
            all_goals go_ret
            all_goals exact ⟨retB HF.out, HBd.out⟩
          · subst h1
            go_upto_region 6 with (fail)
            go_region
            all_goals go_wp2
            all_goals go_ret
            all_goals exact ⟨retB HF.out, HBd.out⟩
          · subst h1
            subst h3
            go_upto_region 6 with (fail)
            go_region
            all_goals go_wp2
            all_goals go_ret
            all_goals exact ⟨retB HF.out, HBd.out⟩
      · have e1 : ¬ (j : Int) < (n : Int) := by omega
        have HT' : Hid (A = true) := HA.out.2 (by have h := HT.out; rw [List.take_of_length_le (by omega), List.take_of_length_le (by omega)] at h; exact h)
        go_wp2
        go_ret
        exact ⟨retB HT'.out, HBr.out⟩
  · have hl' : ¬ (n : Int) = (m : Int) := by omega
    have HF : Hid (A = false) := by
      show A = false
      cases hAA : A with
      | false => rfl
      | true => exact (hl (by rw [← hn, ← hm, HA.out.1 hAA])).elim
    go_enter Try.func30, Try.ntmps30
    go_wp2
    go_ret
    exact ⟨retB HF.out, Below.refl _ _⟩

/-- Items to be read. -/
theorem Its.cel {B : Nat} {w : World} {p : Option Addr} {n c : Nat} {its : List Itm} (h : Its B w (.slice p n c) its) (hn : its.length = n) : Cel w p 5 (its.map itc) := by
  have h1 := h.row
  rw [hn] at h1
  exact cel_row (f := itc) (sz := 5) (fun _ => rfl) h1 hn
theorem ItsOk.madeCel {B : Nat} {w : World} {its : List Itm} (h : ItsOk B w its) {x : Itm} (hx : x ∈ its) : Cel w x.made.p 2 (x.made.xs.map linc) ∧ x.made.xs.length = x.made.n := by
  have h1 := h.made x hx
  have hl : x.made.xs.length = x.made.n := by
    have := h1.1
    rw [flat_len (f := linc) (sz := 2) (fun _ => rfl)] at this
    omega
  exact ⟨cel_row (f := linc) (sz := 2) (fun _ => rfl) h1 hl, hl⟩
theorem ItsOk.setsCel {B : Nat} {w : World} {its : List Itm} (h : ItsOk B w its) {x : Itm} (hx : x ∈ its) : Cel w x.sets.p 3 (x.sets.xs.map tric) ∧ x.sets.xs.length = x.sets.n := by
  have h1 := h.sets x hx
  have hl : x.sets.xs.length = x.sets.n := by
    have := h1.1
    rw [flat_len (f := tric) (sz := 3) (fun _ => rfl)] at this
    omega
  exact ⟨cel_row (f := tric) (sz := 3) (fun _ => rfl) h1 hl, hl⟩
set_option maxRecDepth 100000 in
set_option maxHeartbeats 8000000 in
theorem eqItems_same (w : World) (B B' : Nat) (p q : Option Addr) (n c c' : Nat) (is js : List Itm) (hi : Its B w (.slice p n c) is) (hj : Its B' w (.slice q n c') js) (hn : is.length = n) (hd : is.map Itm.d = js.map Itm.d) (hmost : n ≤ 1073741824) (hsm : ∀ x ∈ is, x.made.xs.length ≤ 4194304 ∧ x.sets.xs.length ≤ 4194304) :
    Calls Try.prog 14 #[.slice p n c, .slice q n c'] w fun e w' => e = .returned (.bool true) ∧ Below w.heap.size w w' := by
  have hm : js.length = n := by have := congrArg List.length hd; rw [List.length_map, List.length_map] at this; omega
  have HC := hide (hi.cel hn)
  have HD := hide (hj.cel hm)
  have HI := hide hi.each
  have HJ := hide hj.each
  have HE := hide hd
  have HSm := hide hsm
  clear hi hj hd hsm
  go_enter Try.func14, Try.ntmps14
  go_wp2
  go_loopw [5] (fun i wr => ∃ k : Nat, k ≤ n ∧ i = .int .i64 k ∧ Hid (Below w.heap.size w wr)) (fun i _ => n - (intOf i).toNat)
  case atStart => exact ⟨0, Nat.zero_le _, rfl, Below.refl _ _⟩
  case round =>
    obtain ⟨k, hk, rfl, HB⟩ := hrel
    by_cases hlt : k < n
    · have hlt' : (k : Int) < (n : Int) := by omega
      obtain ⟨x, hx⟩ : ∃ x, is[k]? = some x := ⟨_, List.getElem?_eq_getElem (by omega)⟩
      obtain ⟨y, hy⟩ : ∃ y, js[k]? = some y := ⟨_, List.getElem?_eq_getElem (by omega)⟩
      have hxy : x.d = y.d := by
        have h1 : (is.map Itm.d)[k]? = some x.d := by rw [List.getElem?_map, hx]; rfl
        have h2 : (js.map Itm.d)[k]? = some y.d := by rw [List.getElem?_map, hy]; rfl
        rw [HE.out, h2] at h1
        exact (Option.some.inj h1).symm
      obtain ⟨b, o, e, hb, hcl⟩ := HC.out.get (i := k) (r := itc x) (by simp [hx])
      obtain ⟨b', o', e', hb', hcl'⟩ := HD.out.get (i := k) (r := itc y) (by simp [hy])
      subst e e'
      have f : ∀ i v, (itc x)[i]? = some v → wr.cell? ⟨b, o + k * 5 + i, none⟩ = some v := fun i v hv => (HB.out.cell (p := ⟨b, o + k * 5 + i, none⟩) hb).trans (hcl i v hv)
      have f' : ∀ i v, (itc y)[i]? = some v → wr.cell? ⟨b', o' + k * 5 + i, none⟩ = some v := fun i v hv => (HB.out.cell (p := ⟨b', o' + k * 5 + i, none⟩) hb').trans (hcl' i v hv)
      have hn1 : x.num = y.num := congrArg Itd.num hxy
      have hn2 : x.sure = y.sure := congrArg Itd.sure hxy
      have hn3 : x.oc = y.oc := congrArg Itd.oc hxy
      have hn4 : x.made.xs = y.made.xs := congrArg Itd.made hxy
      have hn5 : x.sets.xs = y.sets.xs := congrArg Itd.sets hxy
      have a0 := f 0 _ rfl
      have a1 := f 1 _ rfl
      have a2 := f 2 _ rfl
      have b0 := f' 0 _ rfl
      have b1 := f' 1 _ rfl
      have b2 := f' 2 _ rfl
      rw [Nat.add_zero] at a0 b0
      rw [hn1] at a0
      rw [hn2] at a1
      rw [hn3] at a2
      have a3 := f 3 _ rfl
      have b3 := f' 3 _ rfl
      obtain ⟨xm1, xm2⟩ := HI.out.madeCel (List.mem_of_getElem? hx)
      obtain ⟨ym1, ym2⟩ := HJ.out.madeCel (List.mem_of_getElem? hy)
      obtain ⟨xs1, xs2⟩ := HI.out.setsCel (List.mem_of_getElem? hx)
      obtain ⟨ys1, ys2⟩ := HJ.out.setsCel (List.mem_of_getElem? hy)
      obtain ⟨hs1, hs2⟩ := HSm.out x (List.mem_of_getElem? hx)
      rw [xm2] at hs1
      rw [xs2] at hs2
      have HEl := hide (fun (w' : World) (h : Below w.heap.size w w') => eqLines_any w' x.made.p y.made.p x.made.n y.made.n x.made.c y.made.c x.made.xs y.made.xs xm2 ym2 (by omega) (xm1.below h) (ym1.below h) true (by simp [hn4]))
      have HEs := hide (fun (w' : World) (h : Below w.heap.size w w') => eqSets_any w' x.sets.p y.sets.p x.sets.n y.sets.n x.sets.c y.sets.c x.sets.xs y.sets.xs xs2 ys2 (by omega) (xs1.below h) (ys1.below h) true (by simp [hn5]))
      have a4 := f 4 _ rfl
      have b4 := f' 4 _ rfl
      have r0 := cell_regrown a0
      have r1 := cell_regrown a1
      have r2 := cell_regrown a2
      have r3 := cell_regrown a3
      have r4 := cell_regrown a4
      have q0 := cell_regrown b0
      have q1 := cell_regrown b1
      have q2 := cell_regrown b2
      have q3 := cell_regrown b3
      have q4 := cell_regrown b4
      have hbr : ∀ d os, Below w.heap.size w (grow (redrawn wr d) os) := fun d os => HB.out.trans ((below_regrown wr d os).mono HB.out.size)
      have HQl := hide (fun d os => Calls.regrown_of (HEl.out (grow (redrawn wr d) os) (hbr d os)))
      have HQs := hide (fun d os => Calls.regrown_of (HEs.out (grow (redrawn wr d) os) (hbr d os)))
      have HBr := hide hbr
      clear hcl hcl' f f' hx hy hxy hn1 hn2 hn3 hn4 hn5 xm1 xm2 ym1 ym2 xs1 xs2 ys1 ys2 hs1 hs2 hbr a0 a1 a2 a3 a4 b0 b1 b2 b3 b4 HEl HEs
      go_upto_region 6 with (fail)
      simp only [List.append_eq, List.cons_append, List.nil_append]
      refine wp_region_quiet_below (by kernel_rfl) (by kernel_rfl) ?_
      repeat (go_big_quiet_step (first | (go_at_call 21; exact HQl.out _ _) | (go_at_call 30; exact HQs.out _ _)))
      refine wpQuiet_nil ?_
      intro _ hw'
      obtain ⟨⟨dq, osq⟩, hw''⟩ := hw'
      have HB3 := hide (HBr.out dq osq)
      obtain ⟨w3, hw3⟩ : ∃ w3, grow (redrawn wr dq) osq = w3 := ⟨_, rfl⟩
      rw [hw3] at HB3
      have hw4 := (hw''.trans hw3).symm
      subst hw4
      clear hw3 hw'' r0 r1 r2 r3 r4 q0 q1 q2 q3 q4
      go_wp2
      go_roundw
      case rel => exact ⟨k + 1, by omega, by go_num, HB3⟩
      case measure => simp [intOf]; omega
    · have e1 : ¬ (k : Int) < (n : Int) := by omega
      go_wp2
      go_ret
      exact ⟨rfl, HB.out⟩

set_option maxRecDepth 100000 in
set_option maxHeartbeats 4000000 in
theorem sameSums (w : World) (p q : Option Addr) (n c c' : Nat) (xs : List Int) (hn : xs.length = n) (hmost : n ≤ 1073741824) (hc : Cel w p 1 (xs.map i64c)) (hd : Cel w q 1 (xs.map i64c)) :
    Calls Try.prog 18 #[.slice p n c, .slice q n c'] w fun e w' => e = .returned (.bool true) ∧ Below w.heap.size w w' := by
  have HC := hide hc
  have HD := hide hd
  clear hc hd
  go_enter Try.func18, Try.ntmps18
  go_wp2
  go_loopw [5] (fun i wr => ∃ k : Nat, k ≤ n ∧ i = .int .i64 k ∧ Hid (Below w.heap.size w wr)) (fun i _ => n - (intOf i).toNat)
  case atStart => exact ⟨0, Nat.zero_le _, rfl, Below.refl _ _⟩
  case round =>
    obtain ⟨k, hk, rfl, HB⟩ := hrel
    by_cases hlt : k < n
    · have hlt' : (k : Int) < (n : Int) := by omega
      have i0 : (0 : Int) ≤ (k : Int) := by omega
      obtain ⟨x, hx⟩ : ∃ x, xs[k]? = some x := ⟨_, List.getElem?_eq_getElem (by omega)⟩
      obtain ⟨b, o, e, hb, hcl⟩ := HC.out.get (i := k) (r := i64c x) (by simp [hx])
      obtain ⟨b', o', e', hb', hcl'⟩ := HD.out.get (i := k) (r := i64c x) (by simp [hx])
      subst e e'
      have a0 : wr.cell? ⟨b, o + k, none⟩ = some (.int .i64 x) := by have := (HB.out.cell (p := ⟨b, o + k * 1 + 0, none⟩) hb).trans (hcl 0 _ rfl); simpa using this
      have b0 : wr.cell? ⟨b', o' + k, none⟩ = some (.int .i64 x) := by have := (HB.out.cell (p := ⟨b', o' + k * 1 + 0, none⟩) hb').trans (hcl' 0 _ rfl); simpa using this
      have HBd : Hid (Below w.heap.size w wr.drew) := HB.out.drew
      clear hcl hcl' hx
      go_upto_region 6 with (fail)
      go_region
      all_goals go_wp2
      all_goals go_roundw
      all_goals first | exact ⟨k + 1, by omega, by go_num, HBd⟩ | (simp [intOf]; omega)
    · have e1 : ¬ (k : Int) < (n : Int) := by omega
      go_wp2
      go_ret
      exact ⟨rfl, HB.out⟩
end Go.Proofs.Ytecbidaljchmoaa
