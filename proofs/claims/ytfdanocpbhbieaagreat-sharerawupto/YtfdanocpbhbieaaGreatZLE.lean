import Derived.Test.YtfdanocpbhbieaaGreatZV
import Derived.Test.YtfdanocpbhbieaaGreatZLA
namespace Go.Proofs.YtfdanocpbhbieaaGreat.Z
open Go.RowKit

set_option maxRecDepth 100000 in
set_option maxHeartbeats 4000000 in
theorem eqGuards_any (w : World) (p q : Option Addr) (n m cap cap' : Nat) (xs ys : List Tri) (hn : xs.length = n) (hm : ys.length = m) (hnl : n ≤ 140737488355328) (hc : Cel w p 3 (xs.map tric)) (hd : Cel w q 3 (ys.map tric)) (A : Bool) (hA : A = true ↔ xs = ys) :
    Calls Tryz.prog 58 #[.slice p n cap, .slice q m cap'] w fun e w' => e = .returned (.bool A) ∧ Below w.heap.size w w' := by
  have HC := hide hc
  have HD := hide hd
  have HA := hide hA
  clear hc hd hA
  by_cases hl : n = m
  · subst hl
    go_enter Tryz.func58, Tryz.ntmps58
    go_wp2
    go_loopw [5] (fun i wr => ∃ j : Nat, j ≤ n ∧ i = .int .i64 j ∧ Hid (Below w.heap.size w wr) ∧ Hid (xs.take j = ys.take j)) (fun i _ => n - (intOf i).toNat)
    case atStart => exact ⟨0, Nat.zero_le _, rfl, Below.refl _ _, rfl⟩
    case round =>
      obtain ⟨j, hj, rfl, HBr, HT⟩ := hrel
      by_cases hlt : j < n
      · have hlt' : (j : Int) < (n : Int) := by omega
        have i0 : (0 : Int) ≤ (j : Int) := by omega
        obtain ⟨x, hx⟩ : ∃ x, xs[j]? = some x := ⟨_, List.getElem?_eq_getElem (by omega)⟩
        obtain ⟨y, hy⟩ : ∃ y, ys[j]? = some y := ⟨_, List.getElem?_eq_getElem (by omega)⟩
        obtain ⟨b, o, rfl, hbl, hcl⟩ := HC.out.get (i := j) (r := tric x) (by simp [hx])
        obtain ⟨b', o', rfl, hbl', hcl'⟩ := HD.out.get (i := j) (r := tric y) (by simp [hy])
        have f : ∀ i v, (tric x)[i]? = some v → wr.cell? ⟨b, o + j * 3 + i, none⟩ = some v := fun i v hv => (HBr.out.cell (p := ⟨b, o + j * 3 + i, none⟩) hbl).trans (hcl i v hv)
        have f' : ∀ i v, (tric y)[i]? = some v → wr.cell? ⟨b', o' + j * 3 + i, none⟩ = some v := fun i v hv => (HBr.out.cell (p := ⟨b', o' + j * 3 + i, none⟩) hbl').trans (hcl' i v hv)
        have a0 := f 0 _ rfl
        have a1 := f 1 _ rfl
        have a2 := f 2 _ rfl
        have b0 := f' 0 _ rfl
        have b1 := f' 1 _ rfl
        have b2 := f' 2 _ rfl
        rw [Nat.add_zero] at a0 b0
        obtain ⟨xa, xb, xn⟩ := x
        obtain ⟨ya, yb, yn⟩ := y
        simp only at a0 a1 a2 b0 b1 b2
        clear f f' hcl hcl'
        have HBd : Hid (Below w.heap.size w wr.drew) := HBr.out.drew
        by_cases he : (⟨xa, xb, xn⟩ : Tri) = ⟨ya, yb, yn⟩
        · cases he
          have HT2 : Hid (xs.take (j + 1) = ys.take (j + 1)) := by show _ = _; rw [List.take_add_one, List.take_add_one, hx, hy, HT.out]
          go_upto_region 6 with (fail)
          go_region
          go_wp2
          go_roundw
          case rel => exact ⟨j + 1, by omega, by go_num, HBd, HT2⟩
          case measure => simp [intOf]; omega
        · have HF : Hid (A = false) := by
            show A = false
            cases hAA : A with
            | false => rfl
            | true => exact (ne_at hx hy he (HA.out.1 hAA)).elim
          rcases tri_eq he with h1 | ⟨h1, h2⟩ | ⟨h1, h3, h2⟩
          · go_upto_region 6 with (fail)
            go_region
            all_goals go_wp2
            all_goals go_ret
            all_goals exact ⟨retB HF.out, HBd.out⟩
          · subst h1
            go_upto_region 6 with (fail)
            go_region
            all_goals go_wp2
            all_goals go_ret
            all_goals exact ⟨retB HF.out, HBd.out⟩
          · subst h1
            subst h3
            go_upto_region 6 with (fail)
            go_region
            all_goals go_wp2
            all_goals go_ret
            all_goals exact ⟨retB HF.out, HBd.out⟩
      · have e1 : ¬ (j : Int) < (n : Int) := by omega
        have HT' : Hid (A = true) := HA.out.2 (by have h := HT.out; rw [List.take_of_length_le (by omega), List.take_of_length_le (by omega)] at h; exact h)
        go_wp2
        go_ret
        exact ⟨retB HT'.out, HBr.out⟩
  · have hl' : ¬ (n : Int) = (m : Int) := by omega
    have HF : Hid (A = false) := by
      show A = false
      cases hAA : A with
      | false => rfl
      | true => exact (hl (by rw [← hn, ← hm, HA.out.1 hAA])).elim
    go_enter Tryz.func58, Tryz.ntmps58
    go_wp2
    go_ret
    exact ⟨retB HF.out, Below.refl _ _⟩

set_option maxRecDepth 100000 in
set_option maxHeartbeats 4000000 in
theorem eqRights_any (w : World) (p q : Option Addr) (n m cap cap' : Nat) (xs ys : List Tri) (hn : xs.length = n) (hm : ys.length = m) (hnl : n ≤ 140737488355328) (hc : Cel w p 3 (xs.map tric)) (hd : Cel w q 3 (ys.map tric)) (A : Bool) (hA : A = true ↔ xs = ys) :
    Calls Tryz.prog 40 #[.slice p n cap, .slice q m cap'] w fun e w' => e = .returned (.bool A) ∧ Below w.heap.size w w' := by
  have HC := hide hc
  have HD := hide hd
  have HA := hide hA
  clear hc hd hA
  by_cases hl : n = m
  · subst hl
    go_enter Tryz.func40, Tryz.ntmps40
    go_wp2
    go_loopw [5] (fun i wr => ∃ j : Nat, j ≤ n ∧ i = .int .i64 j ∧ Hid (Below w.heap.size w wr) ∧ Hid (xs.take j = ys.take j)) (fun i _ => n - (intOf i).toNat)
    case atStart => exact ⟨0, Nat.zero_le _, rfl, Below.refl _ _, rfl⟩
    case round =>
      obtain ⟨j, hj, rfl, HBr, HT⟩ := hrel
      by_cases hlt : j < n
      · have hlt' : (j : Int) < (n : Int) := by omega
        have i0 : (0 : Int) ≤ (j : Int) := by omega
        obtain ⟨x, hx⟩ : ∃ x, xs[j]? = some x := ⟨_, List.getElem?_eq_getElem (by omega)⟩
        obtain ⟨y, hy⟩ : ∃ y, ys[j]? = some y := ⟨_, List.getElem?_eq_getElem (by omega)⟩
        obtain ⟨b, o, rfl, hbl, hcl⟩ := HC.out.get (i := j) (r := tric x) (by simp [hx])
        obtain ⟨b', o', rfl, hbl', hcl'⟩ := HD.out.get (i := j) (r := tric y) (by simp [hy])
        have f : ∀ i v, (tric x)[i]? = some v → wr.cell? ⟨b, o + j * 3 + i, none⟩ = some v := fun i v hv => (HBr.out.cell (p := ⟨b, o + j * 3 + i, none⟩) hbl).trans (hcl i v hv)
        have f' : ∀ i v, (tric y)[i]? = some v → wr.cell? ⟨b', o' + j * 3 + i, none⟩ = some v := fun i v hv => (HBr.out.cell (p := ⟨b', o' + j * 3 + i, none⟩) hbl').trans (hcl' i v hv)
        have a0 := f 0 _ rfl
        have a1 := f 1 _ rfl
        have a2 := f 2 _ rfl
        have b0 := f' 0 _ rfl
        have b1 := f' 1 _ rfl
        have b2 := f' 2 _ rfl
        rw [Nat.add_zero] at a0 b0
        obtain ⟨xa, xb, xn⟩ := x
        obtain ⟨ya, yb, yn⟩ := y
        simp only at a0 a1 a2 b0 b1 b2
        clear f f' hcl hcl'
        have HBd : Hid (Below w.heap.size w wr.drew) := HBr.out.drew
        by_cases he : (⟨xa, xb, xn⟩ : Tri) = ⟨ya, yb, yn⟩
        · cases he
          have HT2 : Hid (xs.take (j + 1) = ys.take (j + 1)) := by show _ = _; rw [List.take_add_one, List.take_add_one, hx, hy, HT.out]
          go_upto_region 6 with (fail)
          go_region
          go_wp2
          go_roundw
          case rel => exact ⟨j + 1, by omega, by go_num, HBd, HT2⟩
          case measure => simp [intOf]; omega
        · have HF : Hid (A = false) := by
            show A = false
            cases hAA : A with
            | false => rfl
            | true => exact (ne_at hx hy he (HA.out.1 hAA)).elim
          rcases tri_eq he with h1 | ⟨h1, h2⟩ | ⟨h1, h3, h2⟩
          · go_upto_region 6 with (fail)
            go_region
            all_goals go_wp2
            all_goals go_ret
            all_goals exact ⟨retB HF.out, HBd.out⟩
          · subst h1
            go_upto_region 6 with (fail)
            go_region
            all_goals go_wp2
            all_goals go_ret
            all_goals exact ⟨retB HF.out, HBd.out⟩
          · subst h1
            subst h3
            go_upto_region 6 with (fail)
            go_region
            all_goals go_wp2
            all_goals go_ret
            all_goals exact ⟨retB HF.out, HBd.out⟩
      · have e1 : ¬ (j : Int) < (n : Int) := by omega
        have HT' : Hid (A = true) := HA.out.2 (by have h := HT.out; rw [List.take_of_length_le (by omega), List.take_of_length_le (by omega)] at h; exact h)
        go_wp2
        go_ret
        exact ⟨retB HT'.out, HBr.out⟩
  · have hl' : ¬ (n : Int) = (m : Int) := by omega
    have HF : Hid (A = false) := by
      show A = false
      cases hAA : A with
      | false => rfl
      | true => exact (hl (by rw [← hn, ← hm, HA.out.1 hAA])).elim
    go_enter Tryz.func40, Tryz.ntmps40
    go_wp2
    go_ret
    exact ⟨retB HF.out, Below.refl _ _⟩

theorem cel_front {α : Type} {w : World} {p : Option Addr} {sz : Nat} {f : α → List Value} {xs ys : List α} (h : Cel w p sz ((xs ++ ys).map f)) : Cel w p sz (xs.map f) := by
  rcases h with h | ⟨b, o, e, hb, hc⟩
  · left
    rw [List.map_append, List.append_eq_nil_iff] at h
    exact h.1
  · refine Or.inr ⟨b, o, e, hb, fun i r hr j v hv => hc i r ?_ j v hv⟩
    rw [List.map_append, List.getElem?_append_left (List.getElem?_eq_some_iff.1 hr).1]
    exact hr
theorem Lent.some {α : Type} {B : Nat} {w : World} {e : TypeId} {sz : Nat} {f : α → List Value} {mk : α} {a : Option Addr} {c : Nat} {xs : List α} (h : Lent B w e sz f mk a c xs) : (∃ g, a = some ⟨g, 0, none⟩) ∧ xs.length + 9 ≤ c := by
  unfold Lent at h
  rcases h.2 with ⟨h1, h2⟩ | ⟨g, cap, cur, h1, _, _, h3, _⟩
  · omega
  · simp only [Value.slice.injEq] at h1
    obtain ⟨rfl, _, rfl⟩ := h1
    exact ⟨⟨g, rfl⟩, h3⟩
theorem Lent.cel {α : Type} {B : Nat} {w : World} {e : TypeId} {sz : Nat} {f : α → List Value} {mk : α} {a : Option Addr} {c : Nat} {xs : List α} (h : Lent B w e sz f mk a c xs) (hf : ∀ x, (f x).length = sz) : Cel w a sz ((xs ++ List.replicate 9 mk).map f) := cel_row hf h (by simp)
set_option maxRecDepth 100000 in
set_option maxHeartbeats 2000000 in
theorem backLines_v (w : World) (s : Sli Lin) (hs : SlOk w 2 linc s) (B : Nat) (a : Option Addr) (c : Nat) (hl : Lent B w 87 2 linc (⟨777, 7⟩ : Lin) a c s.xs) :
    Calls Tryz.prog 12 #[.slice a s.n c, .slice s.p s.n s.c] w fun e w' => e = .returned (.bool true) ∧ Below w.heap.size w w' := by
  obtain ⟨sp, m, cap, xs⟩ := s
  have hm : xs.length = m := hs.len
  have hmost : m ≤ 4194304 := hs.most
  obtain ⟨⟨g, rfl⟩, hcap⟩ := hl.some
  have hcl := hl.cel (fun _ => rfl)
  simp only at hm hcl hcap ⊢
  have HEqq := hide (eqLines_any w (some ⟨g, 0, none⟩) sp m m c cap xs xs hm hm (by omega) (cel_front hcl) hs.cel true (by simp))
  have HCl := hide hcl
  have HM := hide hm
  rw [hm] at hcap
  obtain ⟨M, hMi, hMn⟩ : ∃ M : Nat, (m : Int) + 9 = (M : Int) ∧ M = m + 9 := ⟨m + 9, by omega, rfl⟩
  have hM1 : M ≤ c := by omega
  have hM2 : m ≤ M := by omega
  have HMn := hide hMn
  clear hs hl hcl hm hMn
  go_enter Tryz.func12, Tryz.ntmps12
  go_wp2_with (go_at_call 37; refine HEqq.out.mono ?_; rintro e w1 ⟨rfl, hb1⟩; have HB1 := hide hb1; clear hb1)
  go_loopw [6] (fun i wr => ∃ k : Nat, k ≤ 9 ∧ i = .int .i64 ((m + k : Nat) : Int) ∧ Hid (Below w.heap.size w wr)) (fun i _ => m + 9 - (intOf i).toNat)
  case atStart => exact ⟨0, by omega, by simp, HB1⟩
  case round =>
    obtain ⟨k, hk, rfl, HB⟩ := hrel
    by_cases hlt : k < 9
    · have hlt' : ((m + k : Nat) : Int) < (M : Int) := by have := HMn.out; omega
      have i0 : (0 : Int) ≤ ((m + k : Nat) : Int) := by omega
      obtain ⟨b, o, e, hbl, hc⟩ := HCl.out.get (i := m + k) (r := linc (⟨777, 7⟩ : Lin)) (by
        rw [List.getElem?_map, List.getElem?_append_right (by rw [HM.out]; omega), HM.out, Nat.add_sub_cancel_left, List.getElem?_replicate_of_lt hlt]
        rfl)
      cases e
      have a0 : wr.cell? ⟨g, (m + k) * 2, none⟩ = some (.int .i64 777) := by have h := (HB.out.cell (p := ⟨g, 0 + (m + k) * 2 + 0, none⟩) hbl).trans (hc 0 _ rfl); simpa using h
      have a1 : wr.cell? ⟨g, (m + k) * 2 + 1, none⟩ = some (.int .i64 7) := by have h := (HB.out.cell (p := ⟨g, 0 + (m + k) * 2 + 1, none⟩) hbl).trans (hc 1 _ rfl); simpa using h
      clear hc
      obtain ⟨q, hq⟩ : ∃ q, m + k = q := ⟨_, rfl⟩
      have HQ := hide hq
      have hq2 : q + 1 ≤ 1073741900 := by omega
      rw [hq] at hlt' i0 a0 a1 ⊢
      clear hq
      go_wp2
      go_roundw
      case rel => exact ⟨k + 1, by omega, by have := HQ.out; rw [← this]; go_num, HB⟩
      case measure => have := HQ.out; simp [intOf]; omega
    · have e1 : ¬ ((m + k : Nat) : Int) < (M : Int) := by have := HMn.out; omega
      obtain ⟨q, hq⟩ : ∃ q, m + k = q := ⟨_, rfl⟩
      rw [hq] at e1 ⊢
      clear hq
      go_wp2
      go_ret
      exact ⟨rfl, HB.out⟩
set_option maxRecDepth 100000 in
set_option maxHeartbeats 2000000 in
theorem backGuards_v (w : World) (s : Sli Tri) (hs : SlOk w 3 tric s) (B : Nat) (a : Option Addr) (c : Nat) (hl : Lent B w 139 3 tric (⟨777, 0, 0⟩ : Tri) a c s.xs) :
    Calls Tryz.prog 60 #[.slice a s.n c, .slice s.p s.n s.c] w fun e w' => e = .returned (.bool true) ∧ Below w.heap.size w w' := by
  obtain ⟨sp, m, cap, xs⟩ := s
  have hm : xs.length = m := hs.len
  have hmost : m ≤ 4194304 := hs.most
  obtain ⟨⟨g, rfl⟩, hcap⟩ := hl.some
  have hcl := hl.cel (fun _ => rfl)
  simp only at hm hcl hcap ⊢
  have HEqq := hide (eqGuards_any w (some ⟨g, 0, none⟩) sp m m c cap xs xs hm hm (by omega) (cel_front hcl) hs.cel true (by simp))
  have HCl := hide hcl
  have HM := hide hm
  rw [hm] at hcap
  obtain ⟨M, hMi, hMn⟩ : ∃ M : Nat, (m : Int) + 9 = (M : Int) ∧ M = m + 9 := ⟨m + 9, by omega, rfl⟩
  have hM1 : M ≤ c := by omega
  have hM2 : m ≤ M := by omega
  have HMn := hide hMn
  clear hs hl hcl hm hMn
  go_enter Tryz.func60, Tryz.ntmps60
  go_wp2_with (go_at_call 58; refine HEqq.out.mono ?_; rintro e w1 ⟨rfl, hb1⟩; have HB1 := hide hb1; clear hb1)
  go_loopw [6] (fun i wr => ∃ k : Nat, k ≤ 9 ∧ i = .int .i64 ((m + k : Nat) : Int) ∧ Hid (Below w.heap.size w wr)) (fun i _ => m + 9 - (intOf i).toNat)
  case atStart => exact ⟨0, by omega, by simp, HB1⟩
  case round =>
    obtain ⟨k, hk, rfl, HB⟩ := hrel
    by_cases hlt : k < 9
    · have hlt' : ((m + k : Nat) : Int) < (M : Int) := by have := HMn.out; omega
      have i0 : (0 : Int) ≤ ((m + k : Nat) : Int) := by omega
      obtain ⟨b, o, e, hbl, hc⟩ := HCl.out.get (i := m + k) (r := tric (⟨777, 0, 0⟩ : Tri)) (by
        rw [List.getElem?_map, List.getElem?_append_right (by rw [HM.out]; omega), HM.out, Nat.add_sub_cancel_left, List.getElem?_replicate_of_lt hlt]
        rfl)
      cases e
      have a0 : wr.cell? ⟨g, (m + k) * 3, none⟩ = some (.int .i64 777) := by have h := (HB.out.cell (p := ⟨g, 0 + (m + k) * 3 + 0, none⟩) hbl).trans (hc 0 _ rfl); simpa using h
      have a1 : wr.cell? ⟨g, (m + k) * 3 + 1, none⟩ = some (.int .i64 0) := by have h := (HB.out.cell (p := ⟨g, 0 + (m + k) * 3 + 1, none⟩) hbl).trans (hc 1 _ rfl); simpa using h
      have a2 : wr.cell? ⟨g, (m + k) * 3 + 2, none⟩ = some (.int .i64 0) := by have h := (HB.out.cell (p := ⟨g, 0 + (m + k) * 3 + 2, none⟩) hbl).trans (hc 2 _ rfl); simpa using h
      clear hc
      obtain ⟨q, hq⟩ : ∃ q, m + k = q := ⟨_, rfl⟩
      have HQ := hide hq
      have hq2 : q + 1 ≤ 1073741900 := by omega
      rw [hq] at hlt' i0 a0 a1 a2 ⊢
      clear hq
      go_wp2
      go_roundw
      case rel => exact ⟨k + 1, by omega, by have := HQ.out; rw [← this]; go_num, HB⟩
      case measure => have := HQ.out; simp [intOf]; omega
    · have e1 : ¬ ((m + k : Nat) : Int) < (M : Int) := by have := HMn.out; omega
      obtain ⟨q, hq⟩ : ∃ q, m + k = q := ⟨_, rfl⟩
      rw [hq] at e1 ⊢
      clear hq
      go_wp2
      go_ret
      exact ⟨rfl, HB.out⟩
set_option maxRecDepth 100000 in
set_option maxHeartbeats 2000000 in
theorem backSets_v (w : World) (s : Sli Tri) (hs : SlOk w 3 tric s) (B : Nat) (a : Option Addr) (c : Nat) (hl : Lent B w 141 3 tric (⟨777, 0, 0⟩ : Tri) a c s.xs) :
    Calls Tryz.prog 61 #[.slice a s.n c, .slice s.p s.n s.c] w fun e w' => e = .returned (.bool true) ∧ Below w.heap.size w w' := by
  obtain ⟨sp, m, cap, xs⟩ := s
  have hm : xs.length = m := hs.len
  have hmost : m ≤ 4194304 := hs.most
  obtain ⟨⟨g, rfl⟩, hcap⟩ := hl.some
  have hcl := hl.cel (fun _ => rfl)
  simp only at hm hcl hcap ⊢
  have HEqq := hide (eqSets_any w (some ⟨g, 0, none⟩) sp m m c cap xs xs hm hm (by omega) (cel_front hcl) hs.cel true (by simp))
  have HCl := hide hcl
  have HM := hide hm
  rw [hm] at hcap
  obtain ⟨M, hMi, hMn⟩ : ∃ M : Nat, (m : Int) + 9 = (M : Int) ∧ M = m + 9 := ⟨m + 9, by omega, rfl⟩
  have hM1 : M ≤ c := by omega
  have hM2 : m ≤ M := by omega
  have HMn := hide hMn
  clear hs hl hcl hm hMn
  go_enter Tryz.func61, Tryz.ntmps61
  go_wp2_with (go_at_call 59; refine HEqq.out.mono ?_; rintro e w1 ⟨rfl, hb1⟩; have HB1 := hide hb1; clear hb1)
  go_loopw [6] (fun i wr => ∃ k : Nat, k ≤ 9 ∧ i = .int .i64 ((m + k : Nat) : Int) ∧ Hid (Below w.heap.size w wr)) (fun i _ => m + 9 - (intOf i).toNat)
  case atStart => exact ⟨0, by omega, by simp, HB1⟩
  case round =>
    obtain ⟨k, hk, rfl, HB⟩ := hrel
    by_cases hlt : k < 9
    · have hlt' : ((m + k : Nat) : Int) < (M : Int) := by have := HMn.out; omega
      have i0 : (0 : Int) ≤ ((m + k : Nat) : Int) := by omega
      obtain ⟨b, o, e, hbl, hc⟩ := HCl.out.get (i := m + k) (r := tric (⟨777, 0, 0⟩ : Tri)) (by
        rw [List.getElem?_map, List.getElem?_append_right (by rw [HM.out]; omega), HM.out, Nat.add_sub_cancel_left, List.getElem?_replicate_of_lt hlt]
        rfl)
      cases e
      have a0 : wr.cell? ⟨g, (m + k) * 3, none⟩ = some (.int .i64 777) := by have h := (HB.out.cell (p := ⟨g, 0 + (m + k) * 3 + 0, none⟩) hbl).trans (hc 0 _ rfl); simpa using h
      have a1 : wr.cell? ⟨g, (m + k) * 3 + 1, none⟩ = some (.int .i64 0) := by have h := (HB.out.cell (p := ⟨g, 0 + (m + k) * 3 + 1, none⟩) hbl).trans (hc 1 _ rfl); simpa using h
      have a2 : wr.cell? ⟨g, (m + k) * 3 + 2, none⟩ = some (.int .i64 0) := by have h := (HB.out.cell (p := ⟨g, 0 + (m + k) * 3 + 2, none⟩) hbl).trans (hc 2 _ rfl); simpa using h
      clear hc
      obtain ⟨q, hq⟩ : ∃ q, m + k = q := ⟨_, rfl⟩
      have HQ := hide hq
      have hq2 : q + 1 ≤ 1073741900 := by omega
      rw [hq] at hlt' i0 a0 a1 a2 ⊢
      clear hq
      go_wp2
      go_roundw
      case rel => exact ⟨k + 1, by omega, by have := HQ.out; rw [← this]; go_num, HB⟩
      case measure => have := HQ.out; simp [intOf]; omega
    · have e1 : ¬ ((m + k : Nat) : Int) < (M : Int) := by have := HMn.out; omega
      obtain ⟨q, hq⟩ : ∃ q, m + k = q := ⟨_, rfl⟩
      rw [hq] at e1 ⊢
      clear hq
      go_wp2
      go_ret
      exact ⟨rfl, HB.out⟩
set_option maxRecDepth 100000 in
set_option maxHeartbeats 2000000 in
theorem backRights_v (w : World) (s : Sli Tri) (hs : SlOk w 3 tric s) (B : Nat) (a : Option Addr) (c : Nat) (hl : Lent B w 82 3 tric (⟨777, 0, 0⟩ : Tri) a c s.xs) :
    Calls Tryz.prog 62 #[.slice a s.n c, .slice s.p s.n s.c] w fun e w' => e = .returned (.bool true) ∧ Below w.heap.size w w' := by
  obtain ⟨sp, m, cap, xs⟩ := s
  have hm : xs.length = m := hs.len
  have hmost : m ≤ 4194304 := hs.most
  obtain ⟨⟨g, rfl⟩, hcap⟩ := hl.some
  have hcl := hl.cel (fun _ => rfl)
  simp only at hm hcl hcap ⊢
  have HEqq := hide (eqRights_any w (some ⟨g, 0, none⟩) sp m m c cap xs xs hm hm (by omega) (cel_front hcl) hs.cel true (by simp))
  have HCl := hide hcl
  have HM := hide hm
  rw [hm] at hcap
  obtain ⟨M, hMi, hMn⟩ : ∃ M : Nat, (m : Int) + 9 = (M : Int) ∧ M = m + 9 := ⟨m + 9, by omega, rfl⟩
  have hM1 : M ≤ c := by omega
  have hM2 : m ≤ M := by omega
  have HMn := hide hMn
  clear hs hl hcl hm hMn
  go_enter Tryz.func62, Tryz.ntmps62
  go_wp2_with (go_at_call 40; refine HEqq.out.mono ?_; rintro e w1 ⟨rfl, hb1⟩; have HB1 := hide hb1; clear hb1)
  go_loopw [6] (fun i wr => ∃ k : Nat, k ≤ 9 ∧ i = .int .i64 ((m + k : Nat) : Int) ∧ Hid (Below w.heap.size w wr)) (fun i _ => m + 9 - (intOf i).toNat)
  case atStart => exact ⟨0, by omega, by simp, HB1⟩
  case round =>
    obtain ⟨k, hk, rfl, HB⟩ := hrel
    by_cases hlt : k < 9
    · have hlt' : ((m + k : Nat) : Int) < (M : Int) := by have := HMn.out; omega
      have i0 : (0 : Int) ≤ ((m + k : Nat) : Int) := by omega
      obtain ⟨b, o, e, hbl, hc⟩ := HCl.out.get (i := m + k) (r := tric (⟨777, 0, 0⟩ : Tri)) (by
        rw [List.getElem?_map, List.getElem?_append_right (by rw [HM.out]; omega), HM.out, Nat.add_sub_cancel_left, List.getElem?_replicate_of_lt hlt]
        rfl)
      cases e
      have a0 : wr.cell? ⟨g, (m + k) * 3, none⟩ = some (.int .i64 777) := by have h := (HB.out.cell (p := ⟨g, 0 + (m + k) * 3 + 0, none⟩) hbl).trans (hc 0 _ rfl); simpa using h
      have a1 : wr.cell? ⟨g, (m + k) * 3 + 1, none⟩ = some (.int .i64 0) := by have h := (HB.out.cell (p := ⟨g, 0 + (m + k) * 3 + 1, none⟩) hbl).trans (hc 1 _ rfl); simpa using h
      have a2 : wr.cell? ⟨g, (m + k) * 3 + 2, none⟩ = some (.int .i64 0) := by have h := (HB.out.cell (p := ⟨g, 0 + (m + k) * 3 + 2, none⟩) hbl).trans (hc 2 _ rfl); simpa using h
      clear hc
      obtain ⟨q, hq⟩ : ∃ q, m + k = q := ⟨_, rfl⟩
      have HQ := hide hq
      have hq2 : q + 1 ≤ 1073741900 := by omega
      rw [hq] at hlt' i0 a0 a1 a2 ⊢
      clear hq
      go_wp2
      go_roundw
      case rel => exact ⟨k + 1, by omega, by have := HQ.out; rw [← this]; go_num, HB⟩
      case measure => have := HQ.out; simp [intOf]; omega
    · have e1 : ¬ ((m + k : Nat) : Int) < (M : Int) := by have := HMn.out; omega
      obtain ⟨q, hq⟩ : ∃ q, m + k = q := ⟨_, rfl⟩
      rw [hq] at e1 ⊢
      clear hq
      go_wp2
      go_ret
      exact ⟨rfl, HB.out⟩
end Go.Proofs.YtfdanocpbhbieaaGreat.Z
namespace Go.Proofs.YtfdanocpbhbieaaGreat.Z
open Go.RowKit

/-- An act that was lent. -/
structure AcLent (B : Nat) (w : World) (b : Acd) : Prop where
  nlines : b.lines.n = b.lines.xs.length
  nguards : b.guards.n = b.guards.xs.length
  nsets : b.sets.n = b.sets.xs.length
  nother : b.other.n = b.other.xs.length
  nrights : b.rights.n = b.rights.xs.length
  lines : Lent B w 87 2 linc (⟨777, 7⟩ : Lin) b.lines.p b.lines.c b.lines.xs
  guards : Lent B w 139 3 tric (⟨777, 0, 0⟩ : Tri) b.guards.p b.guards.c b.guards.xs
  sets : Lent B w 141 3 tric (⟨777, 0, 0⟩ : Tri) b.sets.p b.sets.c b.sets.xs
  other : Lent B w 87 2 linc (⟨777, 7⟩ : Lin) b.other.p b.other.c b.other.xs
  rights : Lent B w 82 3 tric (⟨777, 0, 0⟩ : Tri) b.rights.p b.rights.c b.rights.xs
/-- 'x.l = Lend(a.l)': behind the call. -/
theorem ln_seg {w wr w4 : World} {ty : TypeId} {A Z X : Array Value} (h : CpS w wr ty A Z X) (hb : Below wr.heap.size wr w4) (i : Nat) (hi : i < X.size) (v : Value) :
    (∃ u, w4.cell? ⟨w.heap.size + 1 + 1, i, none⟩ = some u) ∧ w4.frozen? ⟨w.heap.size + 1 + 1, i, none⟩ = false ∧ CpS w (w4.setCell ⟨w.heap.size + 1 + 1, i, none⟩ v) ty A Z (X.setIfInBounds i v) ∧
      (∀ B e' sz' v' n xs, w.heap.size + 1 + 1 + 1 ≤ B → w4.ownsRow B e' sz' v' n xs → (w4.setCell ⟨w.heap.size + 1 + 1, i, none⟩ v).ownsRow B e' sz' v' n xs) := by
  have hlt := cp_lt h
  have ha4 : w4.heap[w.heap.size]? = some (.cells A ty (0, 0)) := (hb.block _ (by omega)).trans h.a
  have hz4 : w4.heap[w.heap.size + 1]? = some (.cells Z ty (0, 0)) := (hb.block _ (by omega)).trans h.z
  have hx4 : w4.heap[w.heap.size + 1 + 1]? = some (.cells X ty (0, 0)) := (hb.block _ (by omega)).trans h.x
  refine ⟨⟨X[i], ?_⟩, frozen_of_row _ _ _ _ _ hx4, ⟨?_, ?_, heap_setCell_same _ _ _ _ _ _ hx4, ?_⟩, ?_⟩
  · rw [cell_of_row _ _ _ _ _ _ hx4]; exact Array.getElem?_eq_getElem hi
  · rw [heap_setCell_other _ _ _ _ (by show w.heap.size ≠ w.heap.size + 1 + 1; omega)]; exact ha4
  · rw [heap_setCell_other _ _ _ _ (by show w.heap.size + 1 ≠ w.heap.size + 1 + 1; omega)]; exact hz4
  · exact (h.bel.trans (hb.mono h.bel.size)).setCell (p := ⟨w.heap.size + 1 + 1, i, none⟩) (by show w.heap.size ≤ w.heap.size + 1 + 1; omega) _
  · intro B e' sz' v n xs hB hown
    exact owns_low_set hown (by omega)
set_option maxRecDepth 100000 in
set_option maxHeartbeats 4000000 in
theorem lendAct_any (w : World) (a : Acd) (hok : AcdOk w a) (A : Array Value) (hA : a.arr = A) :
    Calls Tryz.prog 24 #[.agg A] w fun r w' => ∃ b : Acd, r = .returned (.agg b.arr) ∧ b.d = a.d ∧ AcLent w.heap.size w' b ∧ Below w.heap.size w w' := by
  have HZ : Hid (A.size = 15) := by show _ = _; rw [← hA]; rfl
  have HO : Hid (A.all (·.oneCell') = true) := by show _ = _; rw [← hA]; exact a.ones
  obtain ⟨w3, hw3, hC0, hs3⟩ := three_boxes w 84 A #[.int .i64 0, .int .u64 0, .int .i64 0, .bool false, .slice none 0 0, .slice none 0 0, .slice none 0 0, .int .i64 0, .slice none 0 0, .int .i64 0, .int .i64 0, .int .i64 0, .int .i64 0, .int .u64 0, .slice none 0 0]
  obtain ⟨Z, hZ⟩ : ∃ Z : Array Value, #[.int .i64 0, .int .u64 0, .int .i64 0, .bool false, .slice none 0 0, .slice none 0 0, .slice none 0 0, .int .i64 0, .slice none 0 0, .int .i64 0, .int .i64 0, .int .i64 0, .int .i64 0, .int .u64 0, .slice none 0 0] = Z := ⟨_, rfl⟩
  have HZz : Hid (Z.size = 15) := by show _ = _; rw [← hZ]; rfl
  rw [hZ] at hC0
  have HL1 := hide (loadAt_row (P := Tryz.prog) (ty := 84) (show ((w.alloc (.cells A 84)).alloc (.cells Z 84)).heap[w.heap.size]? = some (.cells A 84 (0, 0)) from by rw [Below.heap_alloc _ _ _ (by simp)]; exact heap_alloc_new _ _) Tryz.underlying84 rfl (by rw [HZ.out]; exact Tryz.sizeA))
  have HOk := hide hok
  have HA := hide hA
  have HC3 := hide hC0
  have HW3 := hide hw3
  have HZe := hide hZ
  have hX3 : A.size = 15 := HZ.out
  have HXs3 := hide hX3
  have k3 : w3.cell? ⟨w.heap.size, 4, none⟩ = some (.slice a.lines.p a.lines.n a.lines.c) := by rw [cell_of_row _ _ _ _ _ _ hC0.a, ← hA]; rfl
  clear hok hA hC0 hw3 hZ hs3 hX3
  go_enter Tryz.func24, Tryz.ntmps24
  go_upto_region 2 with (
    first
    | ((with_reducible show wpList _ _ _ (⟨_, .load 84 (.tmp 1), _, _, _, _⟩ :: _) _ _); refine lp_load w.heap.size 0 A rfl (by rw [HZe.out]; exact HL1.out) ?_)
    | ((with_reducible show wpList _ _ _ (⟨_, .store 84 (.tmp 3) _, _, _, _, _⟩ :: _) _ _); refine lp_store (t := 84) (x := .tmp 3) (some ⟨w.heap.size + 1 + 1, 0, none⟩) (.agg A) rfl rfl (by have h := run_storeAt_new (P := Tryz.prog) ((w.alloc (.cells A 84)).alloc (.cells Z 84)) 84 Z A (by rw [HZ.out]; exact Tryz.sizeA) (by rw [HZ.out]; exact HZz.out) HO.out; simp only [World.size_alloc] at h; rw [HZe.out]; exact h) ?_))
  rw [HZe.out] at HW3
  rw [HW3.out]
  dsimp only [Act.put]
  go_upto_region 3 with (go_at_call 6; refine (lendLines_v w3 a.lines (HOk.out.lines.below HC3.out.bel)).mono ?_; rintro r v3 ⟨q3, r3, rfl, hl, hb4⟩; obtain ⟨⟨u3, hu3⟩, hf3, hC, hk⟩ := ln_seg HC3.out hb4 4 (by rw [HXs3.out]; omega) (.slice q3 a.lines.n r3); have HL34 := hide (hk _ _ _ _ _ _ (by have := cp_lt HC3.out; omega) hl); have HCn := hide hC; clear hC hk hl hb4)
  obtain ⟨w4, hw4⟩ : ∃ w', v3.setCell ⟨w.heap.size + 1 + 1, 4, none⟩ (.slice q3 a.lines.n r3) = w' := ⟨_, rfl⟩
  obtain ⟨X4, hX4⟩ : ∃ x, A.setIfInBounds 4 (.slice q3 a.lines.n r3) = x := ⟨_, rfl⟩
  rw [hw4] at HCn ⊢
  rw [hX4] at HCn
  rw [hw4] at HL34
  have HC4 := HCn
  have HXs4 : Hid (X4.size = 15) := by show _ = _; rw [← hX4, Array.size_setIfInBounds]; exact HXs3.out
  have HXe4 := hide hX4
  have HB3 : Hid (w.heap.size + 1 + 1 + 1 ≤ w3.heap.size) := by have := cp_lt HC3.out; show _ ≤ _; omega
  clear HCn hw4 hX4 hu3 hf3 k3
  have k4 : w4.cell? ⟨w.heap.size, 5, none⟩ = some (.slice a.guards.p a.guards.n a.guards.c) := by rw [cell_of_row _ _ _ _ _ _ HC4.out.a, ← HA.out]; rfl
  go_upto_region 4 with (go_at_call 42; refine (lendGuards_v w4 a.guards (HOk.out.guards.below HC4.out.bel)).mono ?_; rintro r v4 ⟨q4, r4, rfl, hl, hb4⟩; obtain ⟨⟨u4, hu4⟩, hf4, hC, hk⟩ := ln_seg HC4.out hb4 5 (by rw [HXs4.out]; omega) (.slice q4 a.guards.n r4); have HL35 := hide (hk _ _ _ _ _ _ HB3.out (owns_keep HL34.out hb4)); have HL45 := hide (hk _ _ _ _ _ _ (by have := cp_lt HC4.out; omega) hl); have HCn := hide hC; clear hC hk hl hb4)
  obtain ⟨w5, hw5⟩ : ∃ w', v4.setCell ⟨w.heap.size + 1 + 1, 5, none⟩ (.slice q4 a.guards.n r4) = w' := ⟨_, rfl⟩
  obtain ⟨X5, hX5⟩ : ∃ x, X4.setIfInBounds 5 (.slice q4 a.guards.n r4) = x := ⟨_, rfl⟩
  rw [hw5] at HCn ⊢
  rw [hX5] at HCn
  rw [hw5] at HL35
  rw [hw5] at HL45
  have HC5 := HCn
  have HXs5 : Hid (X5.size = 15) := by show _ = _; rw [← hX5, Array.size_setIfInBounds]; exact HXs4.out
  have HXe5 := hide hX5
  have HB4 : Hid (w.heap.size + 1 + 1 + 1 ≤ w4.heap.size) := by have := cp_lt HC4.out; show _ ≤ _; omega
  clear HCn hw5 hX5 hu4 hf4 k4
  have k5 : w5.cell? ⟨w.heap.size, 6, none⟩ = some (.slice a.sets.p a.sets.n a.sets.c) := by rw [cell_of_row _ _ _ _ _ _ HC5.out.a, ← HA.out]; rfl
  go_upto_region 5 with (go_at_call 43; refine (lendSets_v w5 a.sets (HOk.out.sets.below HC5.out.bel)).mono ?_; rintro r v5 ⟨q5, r5, rfl, hl, hb4⟩; obtain ⟨⟨u5, hu5⟩, hf5, hC, hk⟩ := ln_seg HC5.out hb4 6 (by rw [HXs5.out]; omega) (.slice q5 a.sets.n r5); have HL36 := hide (hk _ _ _ _ _ _ HB3.out (owns_keep HL35.out hb4)); have HL46 := hide (hk _ _ _ _ _ _ HB4.out (owns_keep HL45.out hb4)); have HL56 := hide (hk _ _ _ _ _ _ (by have := cp_lt HC5.out; omega) hl); have HCn := hide hC; clear hC hk hl hb4)
  obtain ⟨w6, hw6⟩ : ∃ w', v5.setCell ⟨w.heap.size + 1 + 1, 6, none⟩ (.slice q5 a.sets.n r5) = w' := ⟨_, rfl⟩
  obtain ⟨X6, hX6⟩ : ∃ x, X5.setIfInBounds 6 (.slice q5 a.sets.n r5) = x := ⟨_, rfl⟩
  rw [hw6] at HCn ⊢
  rw [hX6] at HCn
  rw [hw6] at HL36
  rw [hw6] at HL46
  rw [hw6] at HL56
  have HC6 := HCn
  have HXs6 : Hid (X6.size = 15) := by show _ = _; rw [← hX6, Array.size_setIfInBounds]; exact HXs5.out
  have HXe6 := hide hX6
  have HB5 : Hid (w.heap.size + 1 + 1 + 1 ≤ w5.heap.size) := by have := cp_lt HC5.out; show _ ≤ _; omega
  clear HCn hw6 hX6 hu5 hf5 k5
  have k6 : w6.cell? ⟨w.heap.size, 8, none⟩ = some (.slice a.other.p a.other.n a.other.c) := by rw [cell_of_row _ _ _ _ _ _ HC6.out.a, ← HA.out]; rfl
  go_upto_region 6 with (go_at_call 6; refine (lendLines_v w6 a.other (HOk.out.other.below HC6.out.bel)).mono ?_; rintro r v6 ⟨q6, r6, rfl, hl, hb4⟩; obtain ⟨⟨u6, hu6⟩, hf6, hC, hk⟩ := ln_seg HC6.out hb4 8 (by rw [HXs6.out]; omega) (.slice q6 a.other.n r6); have HL37 := hide (hk _ _ _ _ _ _ HB3.out (owns_keep HL36.out hb4)); have HL47 := hide (hk _ _ _ _ _ _ HB4.out (owns_keep HL46.out hb4)); have HL57 := hide (hk _ _ _ _ _ _ HB5.out (owns_keep HL56.out hb4)); have HL67 := hide (hk _ _ _ _ _ _ (by have := cp_lt HC6.out; omega) hl); have HCn := hide hC; clear hC hk hl hb4)
  obtain ⟨w7, hw7⟩ : ∃ w', v6.setCell ⟨w.heap.size + 1 + 1, 8, none⟩ (.slice q6 a.other.n r6) = w' := ⟨_, rfl⟩
  obtain ⟨X7, hX7⟩ : ∃ x, X6.setIfInBounds 8 (.slice q6 a.other.n r6) = x := ⟨_, rfl⟩
  rw [hw7] at HCn ⊢
  rw [hX7] at HCn
  rw [hw7] at HL37
  rw [hw7] at HL47
  rw [hw7] at HL57
  rw [hw7] at HL67
  have HC7 := HCn
  have HXs7 : Hid (X7.size = 15) := by show _ = _; rw [← hX7, Array.size_setIfInBounds]; exact HXs6.out
  have HXe7 := hide hX7
  have HB6 : Hid (w.heap.size + 1 + 1 + 1 ≤ w6.heap.size) := by have := cp_lt HC6.out; show _ ≤ _; omega
  clear HCn hw7 hX7 hu6 hf6 k6
  have k7 : w7.cell? ⟨w.heap.size, 14, none⟩ = some (.slice a.rights.p a.rights.n a.rights.c) := by rw [cell_of_row _ _ _ _ _ _ HC7.out.a, ← HA.out]; rfl
  go_upto_region 7 with (go_at_call 44; refine (lendRights_v w7 a.rights (HOk.out.rights.below HC7.out.bel)).mono ?_; rintro r v7 ⟨q7, r7, rfl, hl, hb4⟩; obtain ⟨⟨u7, hu7⟩, hf7, hC, hk⟩ := ln_seg HC7.out hb4 14 (by rw [HXs7.out]; omega) (.slice q7 a.rights.n r7); have HL38 := hide (hk _ _ _ _ _ _ HB3.out (owns_keep HL37.out hb4)); have HL48 := hide (hk _ _ _ _ _ _ HB4.out (owns_keep HL47.out hb4)); have HL58 := hide (hk _ _ _ _ _ _ HB5.out (owns_keep HL57.out hb4)); have HL68 := hide (hk _ _ _ _ _ _ HB6.out (owns_keep HL67.out hb4)); have HL78 := hide (hk _ _ _ _ _ _ (by have := cp_lt HC7.out; omega) hl); have HCn := hide hC; clear hC hk hl hb4)
  obtain ⟨w8, hw8⟩ : ∃ w', v7.setCell ⟨w.heap.size + 1 + 1, 14, none⟩ (.slice q7 a.rights.n r7) = w' := ⟨_, rfl⟩
  obtain ⟨X8, hX8⟩ : ∃ x, X7.setIfInBounds 14 (.slice q7 a.rights.n r7) = x := ⟨_, rfl⟩
  rw [hw8] at HCn ⊢
  rw [hX8] at HCn
  rw [hw8] at HL38
  rw [hw8] at HL48
  rw [hw8] at HL58
  rw [hw8] at HL68
  rw [hw8] at HL78
  have HC8 := HCn
  have HXs8 : Hid (X8.size = 15) := by show _ = _; rw [← hX8, Array.size_setIfInBounds]; exact HXs7.out
  have HXe8 := hide hX8
  have HB7 : Hid (w.heap.size + 1 + 1 + 1 ≤ w7.heap.size) := by have := cp_lt HC7.out; show _ ≤ _; omega
  clear HCn hw8 hX8 hu7 hf7 k7
  have HXb : Hid (X8 = (⟨a.till, a.num, a.kind, a.sure, ⟨q3, a.lines.n, r3, a.lines.xs⟩, ⟨q4, a.guards.n, r4, a.guards.xs⟩, ⟨q5, a.sets.n, r5, a.sets.xs⟩, a.mg, ⟨q6, a.other.n, r6, a.other.xs⟩, a.ra, a.rb, a.rd, a.to, a.gen, ⟨q7, a.rights.n, r7, a.rights.xs⟩⟩ : Acd).arr) := by show _ = _; rw [← HXe8.out, ← HXe7.out, ← HXe6.out, ← HXe5.out, ← HXe4.out, ← HA.out]; rfl
  have HXo : Hid (X8.all (·.oneCell') = true) := by show _ = _; rw [HXb.out]; exact Acd.ones _
  have HLX := hide (loadAt_row (P := Tryz.prog) (ty := 84) HC8.out.x Tryz.underlying84 rfl (by rw [HXs8.out]; exact Tryz.sizeA))
  have HSX := hide (storeAt_row (P := Tryz.prog) (c' := X8) HC8.out.z (by rw [HXs8.out]; exact Tryz.sizeA) (by rw [HXs8.out]; exact HZz.out) HXo.out)
  go_wp2_with (
    first
    | ((with_reducible show wpList _ _ _ (⟨_, .load 84 (.tmp 3), _, _, _, _⟩ :: _) _ _); refine lp_load (w.heap.size + 1 + 1) 0 X8 rfl HLX.out ?_)
    | ((with_reducible show wpList _ _ _ (⟨_, .store 84 (.tmp 2) _, _, _, _, _⟩ :: _) _ _); refine lp_store (t := 84) (x := .tmp 2) (some ⟨w.heap.size + 1, 0, none⟩) (.agg X8) rfl rfl HSX.out ?_))
  refine bodyPost_ret (results_cell_row rfl _ _ (w.heap.size + 1) 84 X8 (0, 0) _ rfl (setRow_heap _ _ _ _ _ _ HC8.out.z) Tryz.underlying84 rfl (by rw [HXs8.out]; exact Tryz.sizeA)) rfl ?_
  have hg : w8.grownBy (w8.setRow (w.heap.size + 1) X8) (some (w.heap.size + 1)) := ⟨rfl, rfl, rfl, by simp, fun k _ hne => setRow_other w8 _ _ X8 (fun e => hne (by rw [e]))⟩
  have hk : ∀ B e' sz' v n xs, w.heap.size + 1 + 1 ≤ B → w8.ownsRow B e' sz' v n xs → (w8.setRow (w.heap.size + 1) X8).ownsRow w.heap.size e' sz' v n xs := fun B e' sz' v n xs hB h => owns_le (owns_grown h hg (fun g e e' => by have := owns_base h g e; cases e'; omega)) (by omega)
  exact ⟨(⟨a.till, a.num, a.kind, a.sure, ⟨q3, a.lines.n, r3, a.lines.xs⟩, ⟨q4, a.guards.n, r4, a.guards.xs⟩, ⟨q5, a.sets.n, r5, a.sets.xs⟩, a.mg, ⟨q6, a.other.n, r6, a.other.xs⟩, a.ra, a.rb, a.rd, a.to, a.gen, ⟨q7, a.rights.n, r7, a.rights.xs⟩⟩ : Acd), by rw [HXb.out], rfl, ⟨HOk.out.lines.len.symm, HOk.out.guards.len.symm, HOk.out.sets.len.symm, HOk.out.other.len.symm, HOk.out.rights.len.symm, hk _ _ _ _ _ _ (by have := HB3.out; omega) HL38.out, hk _ _ _ _ _ _ (by have := HB4.out; omega) HL48.out, hk _ _ _ _ _ _ (by have := HB5.out; omega) HL58.out, hk _ _ _ _ _ _ (by have := HB6.out; omega) HL68.out, hk _ _ _ _ _ _ (by have := HB7.out; omega) HL78.out⟩, below_setRow HC8.out.bel (by omega) X8⟩
end Go.Proofs.YtfdanocpbhbieaaGreat.Z
namespace Go.Proofs.YtfdanocpbhbieaaGreat.Z
open Go.RowKit

theorem Lent.below {α : Type} {B : Nat} {w w' : World} {e : TypeId} {sz : Nat} {f : α → List Value} {mk : α} {a : Option Addr} {c : Nat} {xs : List α} (h : Lent B w e sz f mk a c xs) (hb : Below w.heap.size w w') : Lent B w' e sz f mk a c xs := owns_keep h hb
theorem AcLent.below {B : Nat} {w w' : World} {b : Acd} (h : AcLent B w b) (hb : Below w.heap.size w w') : AcLent B w' b :=
  ⟨h.nlines, h.nguards, h.nsets, h.nother, h.nrights, h.lines.below hb, h.guards.below hb, h.sets.below hb, h.other.below hb, h.rights.below hb⟩
set_option maxRecDepth 100000 in
set_option maxHeartbeats 4000000 in
theorem backAct_any (w : World) (B : Nat) (x a : Acd) (hx : AcLent B w x) (ha : AcdOk w a) (hd : x.d = a.d) (X A : Array Value) (hX : x.arr = X) (hA : a.arr = A) :
    Calls Tryz.prog 36 #[.agg X, .agg A] w fun e w' => e = .returned (.bool true) ∧ Below w.heap.size w w' := by
  obtain ⟨w2, hw2⟩ : ∃ w2, (w.alloc (.cells X 84)).alloc (.cells A 84) = w2 := ⟨_, rfl⟩
  have hb2 : Below w.heap.size w w2 := by rw [← hw2]; exact ((Below.refl _ w).alloc (Nat.le_refl _) _).alloc (by simp) _
  have hkx : w2.heap[w.heap.size]? = some (.cells X 84 (0, 0)) := by rw [← hw2]; exact heap_alloc2_old _ _ _
  have hka : w2.heap[w.heap.size + 1]? = some (.cells A 84 (0, 0)) := by rw [← hw2]; exact heap_alloc2_new _ _ _
  simp only [Acd.d, AcP.mk.injEq] at hd
  obtain ⟨_, _, _, _, e1, e2, e3, _, e4, _, _, _, _, _, e5⟩ := hd
  have n0 : x.lines.n = a.lines.n := by rw [hx.nlines, e1, ha.lines.len]
  have H0 : Hid (∀ W, Below w2.heap.size w2 W → Calls Tryz.prog 12 #[.slice x.lines.p a.lines.n x.lines.c, .slice a.lines.p a.lines.n a.lines.c] W fun e w' => e = .returned (.bool true) ∧ Below w2.heap.size w2 w') := fun W hb => (backLines_v W a.lines ((ha.lines.below hb2).below hb) B x.lines.p x.lines.c (by rw [← e1]; exact (hx.lines.below hb2).below hb)).mono fun _ _ ⟨he, h⟩ => ⟨he, hb.trans (h.mono hb.size)⟩
  have n1 : x.guards.n = a.guards.n := by rw [hx.nguards, e2, ha.guards.len]
  have H1 : Hid (∀ W, Below w2.heap.size w2 W → Calls Tryz.prog 60 #[.slice x.guards.p a.guards.n x.guards.c, .slice a.guards.p a.guards.n a.guards.c] W fun e w' => e = .returned (.bool true) ∧ Below w2.heap.size w2 w') := fun W hb => (backGuards_v W a.guards ((ha.guards.below hb2).below hb) B x.guards.p x.guards.c (by rw [← e2]; exact (hx.guards.below hb2).below hb)).mono fun _ _ ⟨he, h⟩ => ⟨he, hb.trans (h.mono hb.size)⟩
  have n2 : x.sets.n = a.sets.n := by rw [hx.nsets, e3, ha.sets.len]
  have H2 : Hid (∀ W, Below w2.heap.size w2 W → Calls Tryz.prog 61 #[.slice x.sets.p a.sets.n x.sets.c, .slice a.sets.p a.sets.n a.sets.c] W fun e w' => e = .returned (.bool true) ∧ Below w2.heap.size w2 w') := fun W hb => (backSets_v W a.sets ((ha.sets.below hb2).below hb) B x.sets.p x.sets.c (by rw [← e3]; exact (hx.sets.below hb2).below hb)).mono fun _ _ ⟨he, h⟩ => ⟨he, hb.trans (h.mono hb.size)⟩
  have n3 : x.other.n = a.other.n := by rw [hx.nother, e4, ha.other.len]
  have H3 : Hid (∀ W, Below w2.heap.size w2 W → Calls Tryz.prog 12 #[.slice x.other.p a.other.n x.other.c, .slice a.other.p a.other.n a.other.c] W fun e w' => e = .returned (.bool true) ∧ Below w2.heap.size w2 w') := fun W hb => (backLines_v W a.other ((ha.other.below hb2).below hb) B x.other.p x.other.c (by rw [← e4]; exact (hx.other.below hb2).below hb)).mono fun _ _ ⟨he, h⟩ => ⟨he, hb.trans (h.mono hb.size)⟩
  have n4 : x.rights.n = a.rights.n := by rw [hx.nrights, e5, ha.rights.len]
  have H4 : Hid (∀ W, Below w2.heap.size w2 W → Calls Tryz.prog 62 #[.slice x.rights.p a.rights.n x.rights.c, .slice a.rights.p a.rights.n a.rights.c] W fun e w' => e = .returned (.bool true) ∧ Below w2.heap.size w2 w') := fun W hb => (backRights_v W a.rights ((ha.rights.below hb2).below hb) B x.rights.p x.rights.c (by rw [← e5]; exact (hx.rights.below hb2).below hb)).mono fun _ _ ⟨he, h⟩ => ⟨he, hb.trans (h.mono hb.size)⟩
  have HBx : Hid (∀ W, Below w2.heap.size w2 W → W.heap[w.heap.size]? = some (.cells X 84 (0, 0)) ∧ W.heap[w.heap.size + 1]? = some (.cells A 84 (0, 0))) := fun W hb => ⟨(hb.block _ (lt_of_block hkx)).trans hkx, (hb.block _ (lt_of_block hka)).trans hka⟩
  have HX := hide hX
  have HA := hide hA
  have HW2 := hide hw2
  have HB2 := hide hb2
  have HN0 := hide n0
  have HF0 : Hid (∀ W, Below w2.heap.size w2 W → W.cell? ⟨w.heap.size, 4, none⟩ = some (.slice x.lines.p a.lines.n x.lines.c) ∧ W.cell? ⟨w.heap.size + 1, 4, none⟩ = some (.slice a.lines.p a.lines.n a.lines.c)) := fun W hb => ⟨by rw [cell_of_row _ _ _ _ _ _ (HBx.out W hb).1, ← hX]; show some (Value.slice x.lines.p x.lines.n x.lines.c) = _; rw [n0], by rw [cell_of_row _ _ _ _ _ _ (HBx.out W hb).2, ← hA]; rfl⟩
  have HN1 := hide n1
  have HF1 : Hid (∀ W, Below w2.heap.size w2 W → W.cell? ⟨w.heap.size, 5, none⟩ = some (.slice x.guards.p a.guards.n x.guards.c) ∧ W.cell? ⟨w.heap.size + 1, 5, none⟩ = some (.slice a.guards.p a.guards.n a.guards.c)) := fun W hb => ⟨by rw [cell_of_row _ _ _ _ _ _ (HBx.out W hb).1, ← hX]; show some (Value.slice x.guards.p x.guards.n x.guards.c) = _; rw [n1], by rw [cell_of_row _ _ _ _ _ _ (HBx.out W hb).2, ← hA]; rfl⟩
  have HN2 := hide n2
  have HF2 : Hid (∀ W, Below w2.heap.size w2 W → W.cell? ⟨w.heap.size, 6, none⟩ = some (.slice x.sets.p a.sets.n x.sets.c) ∧ W.cell? ⟨w.heap.size + 1, 6, none⟩ = some (.slice a.sets.p a.sets.n a.sets.c)) := fun W hb => ⟨by rw [cell_of_row _ _ _ _ _ _ (HBx.out W hb).1, ← hX]; show some (Value.slice x.sets.p x.sets.n x.sets.c) = _; rw [n2], by rw [cell_of_row _ _ _ _ _ _ (HBx.out W hb).2, ← hA]; rfl⟩
  have HN3 := hide n3
  have HF3 : Hid (∀ W, Below w2.heap.size w2 W → W.cell? ⟨w.heap.size, 8, none⟩ = some (.slice x.other.p a.other.n x.other.c) ∧ W.cell? ⟨w.heap.size + 1, 8, none⟩ = some (.slice a.other.p a.other.n a.other.c)) := fun W hb => ⟨by rw [cell_of_row _ _ _ _ _ _ (HBx.out W hb).1, ← hX]; show some (Value.slice x.other.p x.other.n x.other.c) = _; rw [n3], by rw [cell_of_row _ _ _ _ _ _ (HBx.out W hb).2, ← hA]; rfl⟩
  have HN4 := hide n4
  have HF4 : Hid (∀ W, Below w2.heap.size w2 W → W.cell? ⟨w.heap.size, 14, none⟩ = some (.slice x.rights.p a.rights.n x.rights.c) ∧ W.cell? ⟨w.heap.size + 1, 14, none⟩ = some (.slice a.rights.p a.rights.n a.rights.c)) := fun W hb => ⟨by rw [cell_of_row _ _ _ _ _ _ (HBx.out W hb).1, ← hX]; show some (Value.slice x.rights.p x.rights.n x.rights.c) = _; rw [n4], by rw [cell_of_row _ _ _ _ _ _ (HBx.out W hb).2, ← hA]; rfl⟩
  obtain ⟨p0, s0⟩ := HF0.out w2 (Below.refl _ _)
  clear hX hA hw2 hb2 hkx hka hx ha e1 e2 e3 e4 e5 n0 n1 n2 n3 n4
  go_enter Tryz.func36, Tryz.ntmps36
  go_upto_region 1 with (fail)
  rw [HW2.out]
  go_wp2_with (
    first
    | (go_at_call_of 12 (Value.slice a.lines.p a.lines.n a.lines.c); refine (H0.out _ (Below.refl _ _)).mono ?_; rintro e v0 ⟨rfl, hb⟩; have HB00 := hide hb; obtain ⟨p1, s1⟩ := HF1.out v0 hb; clear hb)
    | (go_at_call_of 60 (Value.slice a.guards.p a.guards.n a.guards.c); refine (H1.out _ HB00.out).mono ?_; rintro e v1 ⟨rfl, hb⟩; have HB11 := hide hb; obtain ⟨p2, s2⟩ := HF2.out v1 hb; clear hb)
    | (go_at_call_of 61 (Value.slice a.sets.p a.sets.n a.sets.c); refine (H2.out _ HB11.out).mono ?_; rintro e v2 ⟨rfl, hb⟩; have HB22 := hide hb; obtain ⟨p3, s3⟩ := HF3.out v2 hb; clear hb)
    | (go_at_call_of 12 (Value.slice a.other.p a.other.n a.other.c); refine (H3.out _ HB22.out).mono ?_; rintro e v3 ⟨rfl, hb⟩; have HB33 := hide hb; obtain ⟨p4, s4⟩ := HF4.out v3 hb; clear hb)
    | (go_at_call_of 62 (Value.slice a.rights.p a.rights.n a.rights.c); refine (H4.out _ HB33.out).mono ?_; rintro e v4 ⟨rfl, hb⟩; have HB44 := hide hb; clear hb))
  go_ret
  exact ⟨rfl, HB2.out.trans (HB44.out.mono HB2.out.size)⟩
end Go.Proofs.YtfdanocpbhbieaaGreat.Z
