import Derived.Test.YtlnldipiofddkabDoorLin
import Derived.Deep.RegionHeld3
import Derived.Deep.RegionLaw
import Derived.Deep.QuietTactic
import Derived.Deep.DrawnRows
import Derived.Deep.CutRange
import Derived.Deep.DeepCutAuto
import Derived.Lib.SlBytesConst
namespace Go.Proofs.YtlnldipiofddkabDoor
open Go.RowKit

theorem hide {p : Prop} (h : p) : Hid p := h
theorem blk1 {w : World} {b : Nat} {x : Value} {t : TypeId} (h : w.heap[b]? = some (.cells #[x] t (0, 0))) : w.cell? ⟨b, 0, none⟩ = some x ∧ (∀ o, w.frozen? ⟨b, o, none⟩ = false) :=
  ⟨by simp [World.cell?, h], fun o => by simp [World.frozen?, h]⟩

/-- A text that came in. -/
structure Txt where
  p : Option Addr
  l : Nat
  c : Nat
  xs : List Nat

structure Txt.Good (t : Txt) (w : World) : Prop where
  len : t.xs.length = t.l
  cap : t.l ≤ t.c
  most : t.c ≤ 140737488351232
  lie : Bytes w t.p t.xs

/-- The texts of a list lie one behind the other. -/
structure TxtsIn (w : World) (sp : Option Addr) (ts : List Txt) : Prop where
  good : ∀ t ∈ ts, t.Good w
  lie : ts = [] ∨ ∃ g o, sp = some ⟨g, o, none⟩ ∧ g < w.heap.size ∧ ∀ j t, ts[j]? = some t → w.cell? ⟨g, o + j, none⟩ = some (.slice t.p t.l t.c)

theorem Tryd.info5 : (Tryd.prog.info? 5).map (fun i => (i.zero, i.size, i.bytes)) = some (some (.int .u8 0), 1, 1) := by kernel_rfl
theorem made_rep (z : Value) (n : Nat) : madeCells #[z] n = (List.replicate n z).toArray := by
  apply Array.ext
  · simp [madeCells]
  · intro i h1 h2
    simp [madeCells, Nat.mod_one]

theorem lie_row {w : World} {b : Nat} {C : Array Value} {xs : List Nat} {t : TypeId} {fr : Nat × Nat} (h : w.heap[b]? = some (.cells C t fr)) (hs : ∀ x ∈ xs, x < 256) (hc : ∀ j, j < xs.length → C[j]? = some (.int .u8 (xs.getD j 0 : Nat))) : Bytes w (some ⟨b, 0, none⟩) xs :=
  ⟨hs, Or.inr ⟨b, 0, rfl, (Array.getElem?_eq_some_iff.1 h).1, fun j hj => by simp only [World.cell?, h, Nat.zero_add]; exact hc j hj⟩⟩

theorem conv_k7 (w : World) (x : Value) (t : TypeId) : Sem.run Tryd.prog (convert 27 27 (.slice (some ⟨w.heap.size + 1, 0, none⟩) 2 2)) ((w.alloc (.cells #[x] t)).alloc (.cells #[.int .u8 107, .int .u8 55] 5)) =
    .ok (.slice (some ⟨w.heap.size + 1, 0, none⟩) 2 2) ((w.alloc (.cells #[x] t)).alloc (.cells #[.int .u8 107, .int .u8 55] 5 (2, 3))) := by
  have := Lib.run_convert_bytes_const (P := Tryd.prog) (w.alloc (.cells #[x] t)) 27 5 #[.int .u8 107, .int .u8 55] 2 2 Tryd.underlying27 Tryd.underlying5
  simpa using this

theorem k7_lie (w : World) (x : Value) (t : TypeId) : Bytes ((w.alloc (.cells #[x] t)).alloc (.cells #[.int .u8 107, .int .u8 55] 5 (2, 3))) (some ⟨w.heap.size + 1, 0, none⟩) [107, 55] := by
  have hb : ((w.alloc (.cells #[x] t)).alloc (.cells #[.int .u8 107, .int .u8 55] 5 (2, 3))).heap[w.heap.size + 1]? = some (.cells #[.int .u8 107, .int .u8 55] 5 (2, 3)) := by
    have := heap_alloc_new (w.alloc (.cells #[x] t)) (.cells #[.int .u8 107, .int .u8 55] 5 (2, 3))
    simpa using this
  refine lie_row hb (by decide) fun j hj => ?_
  match j, hj with
  | 0, _ => rfl
  | 1, _ => rfl

theorem sum_k7 : sumOf [107, 55] = 2137851292 := by decide +kernel

theorem sum_lt (xs : List Nat) (h : ∀ x ∈ xs, x < 256) : sumOf xs < 4294967296 := xor_lt (by omega) (reg_lt xs h)
theorem lt_of_block {w : World} {b : Nat} {x : Obj} (h : w.heap[b]? = some x) : b < w.heap.size := (Array.getElem?_eq_some_iff.1 h).1
theorem below_draws2 {B : Nat} {a w : World} (h : Below B a w) (n : Nat) : Below B a (w.drewN n) := h.trans ⟨rfl, rfl, rfl, Nat.le_refl _, fun _ _ => rfl⟩

set_option maxRecDepth 100000 in
set_option maxHeartbeats 4000000 in
theorem mixed_some (w : World) (g o l c : Nat) (ts : List Txt) (hT : Tab w) (hl : l ≤ 140737488351232) (hlen : ts.length = l) (hg : g < w.heap.size) (hgood : ∀ t ∈ ts, t.Good w) (hc : ∀ j t, ts[j]? = some t → w.cell? ⟨g, o + j, none⟩ = some (.slice t.p t.l t.c)) :
    Calls Tryd.prog 5 #[.agg #[.slice (some ⟨g, o, none⟩) l c]] w fun e w' => e = .returned (.bool true) ∧ Below w.heap.size w w' := by
  have HG := hide hgood
  have HC := hide hc
  have HN := hide hlen
  have HT := hide hT
  clear hgood hc hlen hT
  have hcv := conv_k7 w (.slice (some ⟨g, o, none⟩) l c) 24
  have HK7 := hide (k7_lie w (.slice (some ⟨g, o, none⟩) l c) 24)
  have HB0 : Hid (Below w.heap.size w ((w.alloc (.cells #[.slice (some ⟨g, o, none⟩) l c] 24)).alloc (.cells #[.int .u8 107, .int .u8 55] 5 (2, 3)))) := (((Below.refl _ _).alloc (Nat.le_refl _) _).alloc (by simp) _)
  have HX0 : Hid (((w.alloc (.cells #[.slice (some ⟨g, o, none⟩) l c] 24)).alloc (.cells #[.int .u8 107, .int .u8 55] 5 (2, 3))).heap[w.heap.size]? = some (.cells #[.slice (some ⟨g, o, none⟩) l c] 24 (0, 0))) := by
    show _ = _
    rw [Below.heap_alloc _ _ _ (by simp)]
    exact heap_alloc_new _ _
  go_enter Tryd.func5, Tryd.ntmps5
  go_wp2_with fail
  refine (sum_any _ _ 2 2 [107, 55] rfl HK7.out (by omega) (HT.out.below HB0.out HT.out.pos)).mono ?_
  rintro e w1 ⟨rfl, rfl⟩
  rw [sum_k7]
  clear hcv HK7
  go_wp2
  go_loopw [3] (fun i wr => ∃ k : Nat, k ≤ l ∧ i = .int .i64 k ∧ Hid (Below w.heap.size w wr) ∧ Hid (wr.heap[w.heap.size]? = some (.cells #[.slice (some ⟨g, o, none⟩) l c] 24 (0, 0)))) (fun i _ => l - (intOf i).toNat)
  case atStart => exact ⟨0, Nat.zero_le _, rfl, HB0, HX0⟩
  case round =>
    obtain ⟨k, hk, rfl, HB, HX⟩ := hrel
    clear HB0 HX0
    obtain ⟨wo, rfl⟩ : ∃ wo, wo = wr := ⟨_, rfl⟩
    obtain ⟨c0, cf⟩ := blk1 HX.out
    have HTr := hide (HT.out.below HB.out HT.out.pos)
    by_cases hlt : k + 2 < l
    · have hop : ∀ j, j < l → ts[j]? = some (ts.getD j ⟨none, 0, 0, []⟩) := fun j hj => by
        simp [List.getD, List.getElem?_eq_getElem (show j < ts.length by rw [HN.out]; exact hj)]
      have mk : ∀ j, j < l → wo.cell? ⟨g, o + j, none⟩ = some (.slice (ts.getD j ⟨none, 0, 0, []⟩).p (ts.getD j ⟨none, 0, 0, []⟩).l (ts.getD j ⟨none, 0, 0, []⟩).c) ∧ (ts.getD j ⟨none, 0, 0, []⟩).Good wo := fun j hj => by
        have h := HG.out _ (List.mem_of_getElem? (hop j hj))
        exact ⟨(HB.out.cell (p := ⟨g, o + j, none⟩) hg).trans (HC.out j _ (hop j hj)), ⟨h.len, h.cap, h.most, h.lie.below HB.out⟩⟩
      obtain ⟨ca, ga⟩ := mk k (by omega)
      obtain ⟨cb, gb⟩ := mk (k + 1) (by omega)
      obtain ⟨cc, gc⟩ := mk (k + 2) (by omega)
      clear hop mk
      have h5 : (k : Int) + 2 < (l : Int) := by omega
      generalize ts.getD k ⟨none, 0, 0, []⟩ = A at *
      generalize ts.getD (k + 1) ⟨none, 0, 0, []⟩ = B at *
      generalize ts.getD (k + 2) ⟨none, 0, 0, []⟩ = C at *
      obtain ⟨pa, la, ka, xa⟩ := A
      obtain ⟨pb, lb, kb, xb⟩ := B
      obtain ⟨pc, lc, kc, xc⟩ := C
      obtain ⟨a1, a2, a3, a4⟩ := ga
      obtain ⟨b1, b2, b3, b4⟩ := gb
      obtain ⟨d1, d2, d3, d4⟩ := gc
      simp only at a1 a2 a3 a4 b1 b2 b3 b4 d1 d2 d3 d4 ca cb cc
      have HA1 := hide a1
      have HA4 := hide a4
      have HB1 := hide b1
      have HB4 := hide b4
      have HD1 := hide d1
      have HD4 := hide d4
      clear a1 a4 b1 b4 d1 d4
      have HLa : Hid (la ≤ xa.length) := Nat.le_of_eq HA1.out.symm
      have HLb : Hid (lb ≤ xb.length) := Nat.le_of_eq HB1.out.symm
      have HLc : Hid (lc ≤ xc.length) := Nat.le_of_eq HD1.out.symm
      obtain ⟨n, HNa, HNb, HNc, hna, hnb, hnc, hn⟩ : ∃ n, Hid (n ≤ xa.length) ∧ Hid (n ≤ xb.length) ∧ Hid (n ≤ xc.length) ∧ n ≤ la ∧ n ≤ lb ∧ n ≤ lc ∧ ((lb < la ∧ lc < lb ∧ n = lc) ∨ (lb < la ∧ ¬ lc < lb ∧ n = lb) ∨ (¬ lb < la ∧ lc < la ∧ n = lc) ∨ (¬ lb < la ∧ ¬ lc < la ∧ n = la)) := by
        refine ⟨min la (min lb lc), ?_, ?_, ?_, ?_, ?_, ?_, ?_⟩
        · show _ ≤ _; have := HLa.out; omega
        · show _ ≤ _; have := HLb.out; omega
        · show _ ≤ _; have := HLc.out; omega
        all_goals omega
      clear HLa HLb HLc
      have HI : Hid (∀ j : Nat, j < n → (j : Int) < (la : Int) ∧ (j : Int) < (lb : Int) ∧ (j : Int) < (lc : Int)) := fun j hj => by omega
      rcases hn with ⟨n1, n2, rfl⟩ | ⟨n1, n2, rfl⟩ | ⟨n1, n2, rfl⟩ | ⟨n1, n2, rfl⟩
      all_goals
        have hmk := run_make_row' (P := Tryd.prog) 27 5 (.int .u8 0) 1 Tryd.underlying27 Tryd.info5 rfl .i64 .i64 n (by omega) (by omega)
        have HZ : Hid (madeCells #[Value.int .u8 0] n = (List.replicate n (.int .u8 0)).toArray) := by show _ = _; rw [made_rep]
        generalize madeCells #[Value.int .u8 0] n = Z at *
        go_wp2
        clear hmk
        go_loopw [9] (fun i wr => ∃ (j : Nat) (D : Array Value), j ≤ n ∧ i = .int .i64 j ∧ Hid (Below wo.heap.size wo wr) ∧ Hid (wr.heap[wo.heap.size]? = some (.cells D 5 (0, 0))) ∧ Hid (D.size = n) ∧ Hid (∀ i, i < j → D[i]? = some (.int .u8 ((xa.getD i 0 ^^^ xb.getD i 0 ^^^ xc.getD i 0 : Nat) : Int)))) (fun i _ => n - (intOf i).toNat)
        case atStart =>
          refine ⟨0, Z, Nat.zero_le _, rfl, (Below.refl _ _).alloc (Nat.le_refl _) _, heap_alloc_new _ _, ?_, ?_⟩
          · show _ = _; rw [HZ.out]; simp
          · intro i hi; omega
        case round =>
          obtain ⟨j, D, hj, rfl, HBq, HD, HS, HE⟩ := hrel
          clear HZ
          by_cases hjn : j < n
          · obtain ⟨qa, oa, rfl, hqa, hca⟩ : ∃ g o, pa = some ⟨g, o, none⟩ ∧ g < wo.heap.size ∧ ∀ j, j < xa.length → wo.cell? ⟨g, o + j, none⟩ = some (.int .u8 (xa.getD j 0)) := by
              rcases HA4.out.lie with h | h
              · have := HNa.out; rw [h] at this; simp at this; omega
              · exact h
            obtain ⟨qb, ob, rfl, hqb, hcb⟩ : ∃ g o, pb = some ⟨g, o, none⟩ ∧ g < wo.heap.size ∧ ∀ j, j < xb.length → wo.cell? ⟨g, o + j, none⟩ = some (.int .u8 (xb.getD j 0)) := by
              rcases HB4.out.lie with h | h
              · have := HNb.out; rw [h] at this; simp at this; omega
              · exact h
            obtain ⟨qc, oc, rfl, hqc, hcc⟩ : ∃ g o, pc = some ⟨g, o, none⟩ ∧ g < wo.heap.size ∧ ∀ j, j < xc.length → wo.cell? ⟨g, o + j, none⟩ = some (.int .u8 (xc.getD j 0)) := by
              rcases HD4.out.lie with h | h
              · have := HNc.out; rw [h] at this; simp at this; omega
              · exact h
            have e1 := (HBq.out.cell (p := ⟨qa, oa + j, none⟩) hqa).trans (hca j (by have := HNa.out; omega))
            have e2 := (HBq.out.cell (p := ⟨qb, ob + j, none⟩) hqb).trans (hcb j (by have := HNb.out; omega))
            have e3 := (HBq.out.cell (p := ⟨qc, oc + j, none⟩) hqc).trans (hcc j (by have := HNc.out; omega))
            have y1 := getD_small HA4.out.small j
            have y2 := getD_small HB4.out.small j
            have y3 := getD_small HD4.out.small j
            have HEj : Hid (∀ i, i < j + 1 → (D.setIfInBounds j (.int .u8 ((xa.getD j 0 ^^^ xb.getD j 0 ^^^ xc.getD j 0 : Nat) : Int)))[i]? = some (.int .u8 ((xa.getD i 0 ^^^ xb.getD i 0 ^^^ xc.getD i 0 : Nat) : Int))) := by
              intro i hi
              by_cases hij : i = j
              · subst hij; simp [HS.out, hjn]
              · rw [Array.getElem?_setIfInBounds_ne (by omega)]; exact HE.out i (by omega)
            clear hca hcb hcc
            have x1 := u8_xor_nat (xa.getD j 0) (xb.getD j 0) y1 y2
            have x2 := u8_xor_nat (xa.getD j 0 ^^^ xb.getD j 0) (xc.getD j 0) (Nat.xor_lt_two_pow (n := 8) y1 y2) y3
            generalize xa.getD j 0 ^^^ xb.getD j 0 ^^^ xc.getD j 0 = M2 at *
            generalize xa.getD j 0 ^^^ xb.getD j 0 = M1 at *
            generalize xa.getD j 0 = m1 at *
            generalize xb.getD j 0 = m2 at *
            generalize xc.getD j 0 = m3 at *
            have i1 : (0 : Int) ≤ (j : Int) := by omega
            have i2 : (j : Int) < (n : Int) := by omega
            obtain ⟨i3, i4, i5⟩ := HI.out j hjn
            have hcell : ∃ u, wr.cell? ⟨wo.heap.size, j, none⟩ = some u := ⟨D[j]'(by rw [HS.out]; exact hjn), by simp only [World.cell?, HD.out]; simp [HS.out, hjn]⟩
            obtain ⟨u, hu⟩ := hcell
            have hfz : wr.frozen? ⟨wo.heap.size, j, none⟩ = false := by simp only [World.frozen?, HD.out]; simp
            have z1 : wo.heap.size ≠ qa := Nat.ne_of_gt hqa
            have z2 : wo.heap.size ≠ qb := Nat.ne_of_gt hqb
            have z3 : wo.heap.size ≠ qc := Nat.ne_of_gt hqc
            go_wp2
            go_region_held3 (fun w' => w'.cell? ⟨qa, oa + j, none⟩ = some (.int .u8 (m1 : Int)) ∧ w'.cell? ⟨qb, ob + j, none⟩ = some (.int .u8 (m2 : Int)) ∧ w'.cell? ⟨qc, oc + j, none⟩ = some (.int .u8 (m3 : Int))) (go_keep) (fail)
            go_wp2
            go_roundw
            case rel =>
              refine ⟨j + 1, _, by omega, by go_num, ?_, heap_setCell_same _ _ _ _ _ _ HD.out, ?_, HEj⟩
              · exact (HBq.out.setCell (Nat.le_refl _) _).drew
              · show _ = _; simp [HS.out]
            case measure => simp [intOf]; omega
          · obtain rfl : j = n := by omega
            have HM : Hid (Bytes wr (some ⟨wo.heap.size, 0, none⟩) ((List.range j).map fun k => xa.getD k 0 ^^^ xb.getD k 0 ^^^ xc.getD k 0)) := by
              refine lie_row HD.out ?_ ?_
              · intro x hx
                simp only [List.mem_map] at hx
                obtain ⟨i, _, rfl⟩ := hx
                exact Nat.xor_lt_two_pow (n := 8) (Nat.xor_lt_two_pow (n := 8) (getD_small HA4.out.small i) (getD_small HB4.out.small i)) (getD_small HD4.out.small i)
              · intro i hi
                simp at hi
                rw [HE.out i hi]
                simp [List.getD, hi]
            have HTq := hide (HTr.out.below HBq.out HTr.out.pos)
            have HS1 := hide (fun m => sum_any (wr.drewN m) _ j j _ (by simp) (HM.out.below (below_draws2 (Below.refl _ _) m)) (by omega) (HTq.out.below (below_draws2 (Below.refl _ _) m) HTq.out.pos))
            have HS2 := hide (fun m => sum_any (wr.drewN m) _ j ka _ (by rw [List.length_take]; exact Nat.min_eq_left HNa.out) ((HA4.out.take j).below (below_draws2 HBq.out m)) (by omega) (HTq.out.below (below_draws2 (Below.refl _ _) m) HTq.out.pos))
            have HS3 := hide (fun m => sum_any (wr.drewN m) _ j kb _ (by rw [List.length_take]; exact Nat.min_eq_left HNb.out) ((HB4.out.take j).below (below_draws2 HBq.out m)) (by omega) (HTq.out.below (below_draws2 (Below.refl _ _) m) HTq.out.pos))
            have HS4 := hide (fun m => sum_any (wr.drewN m) _ j kc _ (by rw [List.length_take]; exact Nat.min_eq_left HNc.out) ((HD4.out.take j).below (below_draws2 HBq.out m)) (by omega) (HTq.out.below (below_draws2 (Below.refl _ _) m) HTq.out.pos))
            have hQ := sum_mix xa xb xc j HNa.out HNb.out HNc.out
            have t1 : sumOf (xa.take j) < 4294967296 := sum_lt _ (HA4.out.take j).small
            have t2 : sumOf (xb.take j) < 4294967296 := sum_lt _ (HB4.out.take j).small
            have t3 : sumOf (xc.take j) < 4294967296 := sum_lt _ (HD4.out.take j).small
            have x1 := u32_xor_nat _ _ t1 t2
            have x2 := u32_xor_nat _ _ (xor_lt t1 t2) t3
            rw [← hQ] at x2
            generalize sumOf ((List.range j).map fun k => xa.getD k 0 ^^^ xb.getD k 0 ^^^ xc.getD k 0) = S1 at *
            generalize sumOf (xa.take j) ^^^ sumOf (xb.take j) = S5 at *
            generalize sumOf (xa.take j) = S2 at *
            generalize sumOf (xb.take j) = S3 at *
            generalize sumOf (xc.take j) = S4 at *
            have s1 : (j : Int) ≤ (ka : Int) := by omega
            have s2 : (j : Int) ≤ (kb : Int) := by omega
            have s3 : (j : Int) ≤ (kc : Int) := by omega
            clear hQ t1 t2 t3 HM
            go_wp2
            go_quiet (first
              | (go_at_call_of 6 (Value.slice (some ⟨wo.heap.size, 0, none⟩) j j); exact Calls.quiet_of_same (HS1.out _))
              | (go_at_call_of 6 (Value.slice pa j ka); exact Calls.quiet_of_same (HS2.out _))
              | (go_at_call_of 6 (Value.slice pb j kb); exact Calls.quiet_of_same (HS3.out _))
              | (go_at_call_of 6 (Value.slice pc j kc); exact Calls.quiet_of_same (HS4.out _)))
            go_wp2
            go_roundw
            case rel =>
              exact ⟨k + 1, by omega, by go_num, below_draws2 (HB.out.trans (HBq.out.mono HB.out.size)) _, (HBq.out.block _ (lt_of_block HX.out)).trans HX.out⟩
            case measure => simp [intOf]; omega
    · have h4 : ¬ (k : Int) + 2 < (l : Int) := by omega
      go_wp2
      go_ret
      exact ⟨rfl, HB.out⟩

set_option maxRecDepth 100000 in
set_option maxHeartbeats 4000000 in
theorem mixed_none (w : World) (sp : Option Addr) (c : Nat) (hT : Tab w) :
    Calls Tryd.prog 5 #[.agg #[.slice sp 0 c]] w fun e w' => e = .returned (.bool true) ∧ Below w.heap.size w w' := by
  have HT := hide hT
  clear hT
  have hcv := conv_k7 w (.slice sp 0 c) 24
  have HK7 := hide (k7_lie w (.slice sp 0 c) 24)
  have HB0 : Hid (Below w.heap.size w ((w.alloc (.cells #[.slice sp 0 c] 24)).alloc (.cells #[.int .u8 107, .int .u8 55] 5 (2, 3)))) := (((Below.refl _ _).alloc (Nat.le_refl _) _).alloc (by simp) _)
  have HX0 : Hid (((w.alloc (.cells #[.slice sp 0 c] 24)).alloc (.cells #[.int .u8 107, .int .u8 55] 5 (2, 3))).heap[w.heap.size]? = some (.cells #[.slice sp 0 c] 24 (0, 0))) := by
    show _ = _
    rw [Below.heap_alloc _ _ _ (by simp)]
    exact heap_alloc_new _ _
  go_enter Tryd.func5, Tryd.ntmps5
  go_wp2_with fail
  refine (sum_any _ _ 2 2 [107, 55] rfl HK7.out (by omega) (HT.out.below HB0.out HT.out.pos)).mono ?_
  rintro e w1 ⟨rfl, rfl⟩
  rw [sum_k7]
  clear hcv HK7
  go_wp2
  obtain ⟨c0, cf⟩ := blk1 HX0.out
  refine wp_loop_rounds 1 ?_
  rw [rounds_succ]
  go_wp2
  go_ret
  exact ⟨rfl, HB0.out⟩

end Go.Proofs.YtlnldipiofddkabDoor
