import Derived.Test.YtlnldipiofddkabDoorRefSum
import Derived.Test.YtlnldipiofddkabDoorOther
namespace Go.Proofs.YtlnldipiofddkabDoor
open Go.RowKit

theorem sum_five : sumOf [1, 2, 3, 4, 5] = 1191942644 := by decide +kernel

theorem other_any (w : World) (sp : Option Addr) (m cap : Nat) (xs : List Nat) (hm : xs.length = m) (hx : Bytes w sp xs) (hlen : m ≤ 140737488351232) :
    Calls Tryd.prog 10 #[.slice sp m cap] w fun e w' => ∃ sp' c ys, e = .returned (.slice sp' m c) ∧ ys.length = m ∧ Bytes w' sp' ys ∧ (∀ a, sp' = some a → w.heap.size ≤ a.block) ∧ Below w.heap.size w w' := by
  by_cases h0 : m = 0
  · subst h0
    refine (other_none w sp cap).mono ?_
    rintro e w' ⟨rfl, rfl⟩
    exact ⟨none, 0, [], rfl, rfl, ⟨by simp, Or.inl rfl⟩, fun a e => (by cases e), Below.refl _ _⟩
  · rcases hx.lie with h | ⟨g, o, rfl, hg, hc⟩
    · subst h; simp at hm; omega
    · refine (other_some w g o m cap xs hm (by omega) hx hlen).mono ?_
      rintro e w' ⟨g', c, ys, rfl, hl, ho, hb⟩
      exact ⟨_, c, ys, rfl, hl, ho.bytes, fun a e => (by cases e; exact ho.base), hb⟩

theorem But.bytes' {g : Nat} {w w' : World} (h : But g w w') {sp : Option Addr} {xs : List Nat} (hx : Bytes w sp xs) (hf : ∀ a, sp = some a → a.block ≠ g) : Bytes w' sp xs := by
  rcases hx.lie with h0 | ⟨g', o', rfl, _, _⟩
  · exact ⟨hx.small, Or.inl h0⟩
  · exact h.bytes hx (hf _ rfl)

theorem into_any (w : World) (B g c m : Nat) (sp : Option Addr) (cb : Nat) (xs ys zs : List Nat) (hm : xs.length = m) (hy : ys.length = m) (ho : Own B w g c (xs ++ zs)) (ha : ∀ a, sp = some a → a.block ≠ g) (hx : Bytes w sp ys) (hlen : m ≤ 140737488351232) :
    Calls Tryd.prog 11 #[.slice (some ⟨g, 0, none⟩) m c, .slice sp m cb] w fun e w' => e = .returned (.tuple #[]) ∧ Own B w' g c (ys ++ zs) ∧ But g w w' := by
  rcases hx.lie with h | ⟨a, o, rfl, _, _⟩
  · subst h
    simp at hy
    subst hy
    have : xs = [] := List.eq_nil_of_length_eq_zero hm
    subst this
    refine (into_none w _ _ _).mono ?_
    rintro e w' ⟨rfl, rfl⟩
    exact ⟨rfl, ho, But.refl _ _⟩
  · exact into_some w B g c m a o cb xs ys zs hm hy ho (ha _ rfl) hx hlen

theorem five_lie (w : World) (x : Value) (t : TypeId) : Bytes ((w.alloc (.cells #[x] t)).alloc (.cells #[.int .u8 1, .int .u8 2, .int .u8 3, .int .u8 4, .int .u8 5] 5)) (some ⟨w.heap.size + 1, 0, none⟩) [1, 2, 3, 4, 5] := by
  have hb : ((w.alloc (.cells #[x] t)).alloc (.cells #[.int .u8 1, .int .u8 2, .int .u8 3, .int .u8 4, .int .u8 5] 5)).heap[w.heap.size + 1]? = some (.cells #[.int .u8 1, .int .u8 2, .int .u8 3, .int .u8 4, .int .u8 5] 5 (0, 0)) := by
    have := heap_alloc_new (w.alloc (.cells #[x] t)) (.cells #[.int .u8 1, .int .u8 2, .int .u8 3, .int .u8 4, .int .u8 5] 5)
    simpa using this
  refine lie_row hb (by decide) fun j hj => ?_
  match j, hj with
  | 0, _ => rfl
  | 1, _ => rfl
  | 2, _ => rfl
  | 3, _ => rfl
  | 4, _ => rfl

set_option maxRecDepth 100000 in
set_option maxHeartbeats 4000000 in
theorem sums_some (w : World) (g o l c : Nat) (ts : List Txt) (hT : Tab w) (hl : l ≤ 140737488351232) (hlen : ts.length = l) (hg : g < w.heap.size) (hgood : ∀ t ∈ ts, t.Good w) (hc : ∀ j t, ts[j]? = some t → w.cell? ⟨g, o + j, none⟩ = some (.slice t.p t.l t.c)) :
    Calls Tryd.prog 3 #[.agg #[.slice (some ⟨g, o, none⟩) l c]] w fun e w' => e = .returned (.bool true) ∧ Below w.heap.size w w' := by
  have HG := hide hgood
  have HC := hide hc
  have HN := hide hlen
  have HT := hide hT
  clear hgood hc hlen hT
  have HK5 := hide (five_lie w (.slice (some ⟨g, o, none⟩) l c) 24)
  have HB0 : Hid (Below w.heap.size w ((w.alloc (.cells #[.slice (some ⟨g, o, none⟩) l c] 24)).alloc (.cells #[.int .u8 1, .int .u8 2, .int .u8 3, .int .u8 4, .int .u8 5] 5))) := (((Below.refl _ _).alloc (Nat.le_refl _) _).alloc (by simp) _)
  have HX0 : Hid (((w.alloc (.cells #[.slice (some ⟨g, o, none⟩) l c] 24)).alloc (.cells #[.int .u8 1, .int .u8 2, .int .u8 3, .int .u8 4, .int .u8 5] 5)).heap[w.heap.size]? = some (.cells #[.slice (some ⟨g, o, none⟩) l c] 24 (0, 0))) := by
    show _ = _
    rw [Below.heap_alloc _ _ _ (by simp)]
    exact heap_alloc_new _ _
  go_enter Tryd.func3, Tryd.ntmps3
  go_wp2_with fail
  refine (sum_any _ _ 5 5 [1, 2, 3, 4, 5] rfl HK5.out (by omega) (HT.out.below HB0.out HT.out.pos)).mono ?_
  rintro e w1 ⟨rfl, rfl⟩
  rw [sum_five]
  clear HK5
  go_wp2_with fail
  refine (sum_none _ _ 0).mono ?_
  rintro e w1 ⟨rfl, rfl⟩
  generalize hw1 : ((w.alloc (.cells #[.slice (some ⟨g, o, none⟩) l c] 24)).alloc (.cells #[.int .u8 1, .int .u8 2, .int .u8 3, .int .u8 4, .int .u8 5] 5)) = w1 at *
  clear hw1
  go_wp2
  go_loopw [3] (fun i wr => ∃ k : Nat, k ≤ l ∧ i = .int .i64 k ∧ Hid (Below w.heap.size w wr) ∧ Hid (wr.heap[w.heap.size]? = some (.cells #[.slice (some ⟨g, o, none⟩) l c] 24 (0, 0)))) (fun i _ => l - (intOf i).toNat)
  case atStart => exact ⟨0, Nat.zero_le _, rfl, HB0, HX0⟩
  case round =>
    obtain ⟨k, hk, rfl, HB, HX⟩ := hrel
    clear HB0 HX0
    obtain ⟨wo, rfl⟩ : ∃ wo, wo = wr := ⟨_, rfl⟩
    obtain ⟨c0, cf⟩ := blk1 HX.out
    by_cases hlt : k < l
    · have hop : ∀ j, j < l → ts[j]? = some (ts.getD j ⟨none, 0, 0, []⟩) := fun j hj => by
        simp [List.getD, List.getElem?_eq_getElem (show j < ts.length by rw [HN.out]; exact hj)]
      have mk : ∀ j, j < l → w.cell? ⟨g, o + j, none⟩ = some (.slice (ts.getD j ⟨none, 0, 0, []⟩).p (ts.getD j ⟨none, 0, 0, []⟩).l (ts.getD j ⟨none, 0, 0, []⟩).c) ∧ (ts.getD j ⟨none, 0, 0, []⟩).Good w := fun j hj => by
        have h := HG.out _ (List.mem_of_getElem? (hop j hj))
        exact ⟨HC.out j _ (hop j hj), h⟩
      obtain ⟨ca0, ga⟩ := mk k (by omega)
      obtain ⟨cb0, gb⟩ := mk (k / 2) (by omega)
      clear hop mk
      have h5 : (k : Int) < (l : Int) := by omega
      have h6 : (0 : Int) ≤ (k : Int) := by omega
      generalize ts.getD k ⟨none, 0, 0, []⟩ = A at *
      generalize ts.getD (k / 2) ⟨none, 0, 0, []⟩ = B at *
      obtain ⟨pa, la, ka, xa⟩ := A
      obtain ⟨pb, lb, kb, xb⟩ := B
      obtain ⟨a1, a2, a3, a4⟩ := ga
      obtain ⟨b1, b2, b3, b4⟩ := gb
      simp only at a1 a2 a3 a4 b1 b2 b3 b4 ca0 cb0
      have HA1 := hide a1
      have HA4 := hide a4
      have HB1 := hide b1
      have HB4 := hide b4
      have HCA := hide ca0
      have HCB := hide cb0
      clear a1 a4 b1 b4 ca0 cb0
      have ca := (HB.out.cell (p := ⟨g, o + k, none⟩) hg).trans HCA.out
      go_wp2_with fail
      refine (lend_any _ pa la ka xa HA1.out (HA4.out.below HB.out) (by omega)).mono ?_
      rintro e w2 ⟨g2, c2, rfl, hown2, hb2⟩
      have HO2 := hide hown2
      have HX2 := hide ((hb2.block _ (lt_of_block HX.out)).trans HX.out)
      have HB2 : Hid (Below w.heap.size w w2) := HB.out.trans (hb2.mono HB.out.size)
      clear hown2 hb2 ca c0 cf
      obtain ⟨c0, cf⟩ := blk1 HX2.out
      have ca := (HB2.out.cell (p := ⟨g, o + k, none⟩) hg).trans HCA.out
      have cb := (HB2.out.cell (p := ⟨g, o + k / 2, none⟩) hg).trans HCB.out
      have HT2 := hide (HT.out.below HB2.out HT.out.pos)
      have HS1 := hide (fun m => sum_any (w2.drewN m) _ la c2 xa HA1.out (HO2.out.front.below (below_draws2 (Below.refl _ _) m)) (by omega) (HT2.out.below (below_draws2 (Below.refl _ _) m) HT2.out.pos))
      have HS2 := hide (fun m => refsum_any (w2.drewN m) pa la ka xa HA1.out (HA4.out.below (below_draws2 HB2.out m)) (by omega))
      have HS3 := hide (fun m => intact_any (w2.drewN m) _ g2 c2 la pa ka xa HA1.out (HO2.out.below (below_draws2 (Below.refl _ _) m) HO2.out.lt) (HA4.out.below (below_draws2 HB2.out m)) (by omega))
      have HS4 := hide (fun m => sum_any (w2.drewN m) pb lb kb xb HB1.out (HB4.out.below (below_draws2 HB2.out m)) (by omega) (HT2.out.below (below_draws2 (Below.refl _ _) m) HT2.out.pos))
      have HS5 := hide (fun m => refsum_any (w2.drewN m) pb lb kb xb HB1.out (HB4.out.below (below_draws2 HB2.out m)) (by omega))
      generalize sumOf xa = S1 at *
      generalize sumOf xb = S2 at *
      have d1 : (k : Int).tdiv 2 = ((k / 2 : Nat) : Int) := rfl
      have d2 : IntKind.i64.wrap ((k / 2 : Nat) : Int) = ((k / 2 : Nat) : Int) := by rw [IntKind.wrap_i64]; omega
      have d3 : ((k / 2 : Nat) : Int) < (l : Int) := by omega
      have d4 : (0 : Int) ≤ ((k / 2 : Nat) : Int) := by omega
      have d5 : (k : Int) / 2 = ((k / 2 : Nat) : Int) := by omega
      generalize k / 2 = kh at *
      go_wp2
      go_quiet (first
        | (go_at_call_of 6 (Value.slice (some ⟨g2, 0, none⟩) la c2); exact Calls.quiet_of_same (HS1.out _))
        | (go_at_call_of 8 (Value.slice pa la ka); exact Calls.quiet_of (HS2.out _))
        | (go_at_call_of 9 (Value.slice (some ⟨g2, 0, none⟩) la c2); exact Calls.quiet_of (HS3.out _))
        | (go_at_call_of 6 (Value.slice pb lb kb); exact Calls.quiet_of_same (HS4.out _))
        | (go_at_call_of 8 (Value.slice pb lb kb); exact Calls.quiet_of (HS5.out _)))
      have HQ2 := hide (below_draws2 (Below.refl w2.heap.size w2) nq)
      have HO3 := hide (HO2.out.below HQ2.out HO2.out.lt)
      have HX3 : Hid ((w2.drewN nq).heap[w.heap.size]? = some (.cells #[.slice (some ⟨g, o, none⟩) l c] 24 (0, 0))) := HX2.out
      have HB3 : Hid (Below w.heap.size w (w2.drewN nq)) := below_draws2 HB2.out nq
      have HL3 : Hid (g2 < (w2.drewN nq).heap.size ∧ w.heap.size < g2) := ⟨HO2.out.lt, Nat.lt_of_lt_of_le (lt_of_block HX.out) HO2.out.base⟩
      generalize w2.drewN nq = w3 at *
      clear HS1 HS2 HS3 HS4 HS5 HQ2 HO2 HX2 HB2 HT2 c0 cf ca cb d1 d2 d3 d4 d5
      obtain ⟨c0, cf⟩ := blk1 HX3.out
      have ca := (HB3.out.cell (p := ⟨g, o + k, none⟩) hg).trans HCA.out
      go_wp2_with fail
      refine (other_any _ pa la ka xa HA1.out (HA4.out.below HB3.out) (by omega)).mono ?_
      rintro e w4 ⟨p4, c4, ys, rfl, hyl, hby, hfar, hb4⟩
      have HO4 := hide (HO3.out.below hb4 HL3.out.1)
      have HX4 := hide ((hb4.block _ (lt_of_block HX3.out)).trans HX3.out)
      have HB4' : Hid (Below w.heap.size w w4) := HB3.out.trans (hb4.mono HB3.out.size)
      have HYl := hide hyl
      have HBy := hide hby
      have HF : Hid (∀ a, p4 = some a → a.block ≠ g2) := fun a e => by
        have h1 := hfar a e
        have h2 := HL3.out.1
        omega
      clear hyl hby hfar hb4 c0 cf ca HO3 HX3 HB3
      go_wp2_with fail
      refine (into_any w4 _ g2 c2 la p4 c4 xa ys marks HA1.out HYl.out HO4.out HF.out HBy.out (by omega)).mono ?_
      rintro e w5 ⟨rfl, hown5, hbut⟩
      have HO5 := hide hown5
      have HB5 : Hid (Below w.heap.size w w5) := HB4'.out.trans (hbut.below (Nat.le_of_lt HL3.out.2))
      have HX5 := hide ((hbut.block w.heap.size (by have := HL3.out.2; omega)).trans HX4.out)
      have HBy5 := hide (hbut.bytes' HBy.out HF.out)
      clear hown5 hbut HO4 HX4 HB4' HBy
      go_wp2_with fail
      refine (sum_any w5 _ la c2 ys HYl.out HO5.out.front (by omega) (HT.out.below HB5.out HT.out.pos)).mono ?_
      rintro e w6 ⟨rfl, rfl⟩
      go_wp2_with fail
      refine (refsum_any _ p4 la c4 ys HYl.out HBy5.out (by omega)).mono ?_
      rintro e w7 ⟨rfl, q, rfl⟩
      generalize sumOf ys = S3 at *
      go_wp2
      go_roundw
      case rel => exact ⟨k + 1, by omega, by go_num, below_draws2 HB5.out q, HX5.out⟩
      case measure => simp [intOf]; omega
    · have h4 : ¬ (k : Int) < (l : Int) := by omega
      go_wp2
      go_ret
      exact ⟨rfl, HB.out⟩

set_option maxRecDepth 100000 in
set_option maxHeartbeats 4000000 in
theorem sums_none (w : World) (sp : Option Addr) (c : Nat) (hT : Tab w) :
    Calls Tryd.prog 3 #[.agg #[.slice sp 0 c]] w fun e w' => e = .returned (.bool true) ∧ Below w.heap.size w w' := by
  have HT := hide hT
  clear hT
  have HK5 := hide (five_lie w (.slice sp 0 c) 24)
  have HB0 : Hid (Below w.heap.size w ((w.alloc (.cells #[.slice sp 0 c] 24)).alloc (.cells #[.int .u8 1, .int .u8 2, .int .u8 3, .int .u8 4, .int .u8 5] 5))) := (((Below.refl _ _).alloc (Nat.le_refl _) _).alloc (by simp) _)
  have HX0 : Hid (((w.alloc (.cells #[.slice sp 0 c] 24)).alloc (.cells #[.int .u8 1, .int .u8 2, .int .u8 3, .int .u8 4, .int .u8 5] 5)).heap[w.heap.size]? = some (.cells #[.slice sp 0 c] 24 (0, 0))) := by
    show _ = _
    rw [Below.heap_alloc _ _ _ (by simp)]
    exact heap_alloc_new _ _
  go_enter Tryd.func3, Tryd.ntmps3
  go_wp2_with fail
  refine (sum_any _ _ 5 5 [1, 2, 3, 4, 5] rfl HK5.out (by omega) (HT.out.below HB0.out HT.out.pos)).mono ?_
  rintro e w1 ⟨rfl, rfl⟩
  rw [sum_five]
  clear HK5
  go_wp2_with fail
  refine (sum_none _ _ 0).mono ?_
  rintro e w1 ⟨rfl, rfl⟩
  go_wp2
  obtain ⟨c0, cf⟩ := blk1 HX0.out
  refine wp_loop_rounds 1 ?_
  rw [rounds_succ]
  go_wp2
  go_ret
  exact ⟨rfl, HB0.out⟩

end Go.Proofs.YtlnldipiofddkabDoor
