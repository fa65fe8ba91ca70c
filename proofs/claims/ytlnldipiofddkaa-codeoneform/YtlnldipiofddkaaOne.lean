import Derived.Test.YtlnldipiofddkaaForm
namespace Go.Proofs.Ytlnldipiofddkaa
open Go.RowKit

set_option maxRecDepth 100000 in
set_option maxHeartbeats 4000000 in
theorem one_some (w : World) (g o : Nat) (p0 p1 : Option Addr) (n c0 l1 c1 lo co : Nat) (xs : List Nat) (ops : List Op1) (_hlo : lo ≤ 140737488351232) (hlen : ops.length = lo) (hg : g < w.heap.size) (hgood : ∀ o ∈ ops, o.Good w)
    (hc : ∀ j p, ops[j]? = some p → w.cell? ⟨g, o + j * 5, none⟩ = some (.int .i64 p.kind) ∧ w.cell? ⟨g, o + j * 5 + 1, none⟩ = some (.int .i64 p.which) ∧ w.cell? ⟨g, o + j * 5 + 2, none⟩ = some (.int .i64 p.m) ∧ w.cell? ⟨g, o + j * 5 + 3, none⟩ = some (.int .u64 (p.n : Int)) ∧ w.cell? ⟨g, o + j * 5 + 4, none⟩ = some (.slice p.bp p.bl p.bc)) (hn : n ≤ 140737488351232) (hnc : n ≤ c0) (hl : xs.length = n) (hb : Bytes w p0 xs) :
    Calls Try.prog 7 #[.agg #[.slice p0 n c0, .slice p1 l1 c1, .slice (some ⟨g, o, none⟩) lo co]] w fun e w' => e = .returned (.bool true) ∧ Below w.heap.size w w' := by
  have HL := hide hl
  have HB := hide hb
  have HG := hide hgood
  have HC := hide hc
  have HN := hide hlen
  clear hgood hc hlen
  clear hl hb
  obtain ⟨w0, hw0⟩ : ∃ w0, w0 = w.alloc (.cells #[.slice p0 n c0, .slice p1 l1 c1, .slice (some ⟨g, o, none⟩) lo co] 26) := ⟨_, rfl⟩
  have H0 := hide hw0
  have HZ : Hid (w0.heap.size = w.heap.size + 1) := by rw [hw0]; show _ = _; simp
  have HK0 : Hid (w0.heap[w.heap.size]? = some (.cells #[.slice p0 n c0, .slice p1 l1 c1, .slice (some ⟨g, o, none⟩) lo co] 26 (0, 0))) := by rw [hw0]; exact heap_alloc_new _ _
  have HB0 : Hid (Below w.heap.size w w0) := by rw [hw0]; exact (Below.refl _ _).alloc (Nat.le_refl _) _
  clear hw0
  go_enter Try.func7, Try.ntmps7
  go_wp2_with fail
  refine (read_any _ p0 n c0 xs HL.out (by omega) (HB.out.below ((Below.refl _ _).alloc (Nat.le_refl _) _))).mono ?_
  rintro e w1 ⟨rfl, hr1, hb1⟩
  have HRW : Hid (RW w0 (w1.alloc (.cells #[.slice none 0 0] 89)) (w.heap.size + 1 + 1) (w.heap.size + 1) w1.heap.size (.slice none 0 0) xs [] 0 0) := by
    have hlt := hr1.lt
    have hsz := HZ.out
    rw [← H0.out] at hr1 hlt hb1
    rw [hsz] at hr1 hlt
    exact ⟨hr1.below ((Below.refl _ _).alloc (Nat.le_refl _) _), new_wr w1, by omega, by omega, by simp; omega, fun g e => by simp [Value.ownBlock] at e, by omega, by omega, by omega, hb1.alloc hb1.size _⟩
  clear hr1 hb1
  go_wp2_with fail
  refine (new_any _).mono ?_
  rintro e w2 ⟨rfl, rfl⟩
  generalize w1.alloc (.cells #[.slice none 0 0] 89) = w2 at *
  generalize w1.heap.size = C at *
  go_wp2_with fail
  refine (left_any _ _ _ xs _ _ HRW.out.rd).mono ?_
  rintro e w3 ⟨rfl, rfl⟩
  rw [HL.out]
  simp only [Nat.sub_zero]
  go_wp2
  go_loopw [6] (fun i wr => ∃ (k a : Nat) (v : Value) (ws : List Nat), k ≤ lo ∧ k ≤ 400 ∧ a ≤ n ∧ i = .int .i64 k ∧ Hid (RW w0 wr (w.heap.size + 1 + 1) (w.heap.size + 1) C v xs ws a 0) ∧ Hid (ws = xs.take a)) (fun i _ => 400 - (intOf i).toNat)
  case atStart => exact ⟨0, 0, _, [], Nat.zero_le _, Nat.zero_le _, Nat.zero_le _, rfl, HRW.out.on (Below.refl _ _).drew, by simp [Hid]⟩
  case round =>
    obtain ⟨k, a, v, ws, hk, hk4, ha, rfl, HR, HWs⟩ := hrel
    clear HRW
    have HK : Hid (wr.heap[w.heap.size]? = some (.cells #[.slice p0 n c0, .slice p1 l1 c1, .slice (some ⟨g, o, none⟩) lo co] 26 (0, 0))) := (HR.out.below.block _ (by rw [HZ.out]; omega)).trans HK0.out
    have hwl : ws.length = a := by rw [HWs.out, List.length_take, HL.out]; omega
    obtain ⟨c0', c1', c2', cf⟩ := blk3 HK.out
    by_cases hlt : k < lo ∧ k < 400
    · obtain ⟨hlt1, hlt2⟩ := hlt
      have hop : ops[k]? = some (ops[k]'(by rw [HN.out]; exact hlt1)) := List.getElem?_eq_getElem _
      obtain ⟨g0, g1, g2, g3, g4⟩ := HC.out k _ hop
      have hgood := hide (HG.out _ (List.mem_of_getElem? hop))
      generalize ops[k]'(by rw [HN.out]; exact hlt1) = p at *
      have HB5 := hide (bcell (HB0.out.trans (HR.out.below.mono HB0.out.size))).1
      have d0 := (HB5.out g (o + k * 5) hg).trans g0
      have d1 := (HB5.out g (o + k * 5 + 1) hg).trans g1
      have d2 := (HB5.out g (o + k * 5 + 2) hg).trans g2
      have d3 := (HB5.out g (o + k * 5 + 3) hg).trans g3
      have d4 := (HB5.out g (o + k * 5 + 4) hg).trans g4
      clear g0 g1 g2 g3 g4 hop
      have HA := hide (anew_step p xs a HB.out.small (by rw [HL.out]; exact ha) (by rw [HL.out]; omega) hgood.out.m2 hgood.out.n2)
      have HAG := hide (again_any w0 wr (w.heap.size + 1 + 1) (w.heap.size + 1) C v xs ws a 0 p HR.out hgood.out.m2 hgood.out.n2 (by rw [hwl, HL.out]; omega))
      generalize agStep p xs a 0 = x at *
      obtain ⟨⟨it, a', f'⟩, new⟩ := x
      go_wp2_with fail
      refine (at_any _ _ _ xs _ _ HR.out.rd).mono ?_
      rintro e w4 ⟨rfl, rfl⟩
      go_wp2_with fail
      refine (wlen_any _ _ _ _ HR.out.wr).mono ?_
      rintro e w5 ⟨rfl, rfl⟩
      rw [hwl]
      go_wp2_with fail
      refine HAG.out.mono ?_
      rintro e w6 ⟨rfl, v6, hr6⟩
      simp only at hr6
      have HR6 := hide hr6
      clear hr6 HR HK HB5 d0 d1 d2 d3 d4 HAG c0' c1' c2' cf
      go_wp2_with fail
      refine (fault_any _ _ _ xs _ _ HR6.out.rd).mono ?_
      rintro e w7 ⟨rfl, rfl⟩
      go_wp2_with fail
      refine (num_any _ _).mono ?_
      rintro e w8 ⟨rfl, rfl⟩
      by_cases hf : f' = 0
      · subst hf
        have HA' : Anew xs a (it, a', 0) new := HA.out
        obtain ⟨ha1, ha2, hnew⟩ := HA'.1 rfl
        simp only at ha1 ha2 hnew
        rw [HL.out] at ha2
        have HW6 : Hid (ws ++ new = xs.take a') := by
          show _ = _
          rw [HWs.out, hnew, ← List.take_add]
          congr 1
          omega
        have hw6 : (ws ++ new).length = a' := by rw [HW6.out, List.length_take, HL.out]; omega
        clear hnew HA HA' HWs hwl
        generalize ws ++ new = ws6 at *
        clear ws new
        simp only at *
        have hLft : (((xs.length - a' : Nat) : Int) != (n : Int) - (a' : Int)) = false := by rw [HL.out]; simp; omega
        go_wp2_with fail
        refine (at_any _ _ _ xs _ _ HR6.out.rd).mono ?_
        rintro e w9 ⟨rfl, rfl⟩
        go_wp2_with fail
        refine (at_any _ _ _ xs _ _ HR6.out.rd).mono ?_
        rintro e w10 ⟨rfl, rfl⟩
        go_wp2_with fail
        refine (left_any _ _ _ xs _ _ HR6.out.rd).mono ?_
        rintro e w11 ⟨rfl, rfl⟩
        have HR7 := hide (HR6.out.on (Below.refl _ _).drew)
        clear HR6
        go_wp2_with fail
        refine (at_any _ _ _ xs _ _ HR7.out.rd).mono ?_
        rintro e w12 ⟨rfl, rfl⟩
        go_wp2_with fail
        refine (wlen_any _ _ _ _ HR7.out.wr).mono ?_
        rintro e w13 ⟨rfl, rfl⟩
        rw [hw6]
        go_wp2_with fail
        refine (at_any _ _ _ xs _ _ HR7.out.rd).mono ?_
        rintro e w14 ⟨rfl, rfl⟩
        go_wp2_with fail
        refine (out_any _ _ _ _ HR7.out.wr (by rw [hw6]; omega)).mono ?_
        rintro e w15 ⟨rfl, rfl⟩
        rw [hw6]
        have HR8 := hide (HR7.out.on ((Below.refl _ _).alloc (Nat.le_refl _) (.cells (vals ws6).toArray 5)))
        go_wp2_with fail
        refine (at_any _ _ _ xs _ _ HR8.out.rd).mono ?_
        rintro e w16 ⟨rfl, rfl⟩
        have HX : Hid (Bytes (w10.drew.alloc (.cells (vals ws6).toArray 5)) (some ⟨w10.heap.size, 0, none⟩) ws6) := Mine.bytes (B := 0) (Or.inr ⟨w10.heap.size, rfl, Nat.zero_le _, heap_alloc_new w10.drew _⟩) HR8.out.wr.small
        have HY : Hid (Bytes (w10.drew.alloc (.cells (vals ws6).toArray 5)) p0 ws6) := by
          have t := ((HB.out.below HB0.out).below HR8.out.below).take a'
          rw [← HW6.out] at t; exact t
        go_wp2_with fail
        refine (eq_true _ _ p0 a' a' c0 ws6 hw6 (by omega) HX.out HY.out).mono ?_
        rintro e w17 ⟨rfl, hb17⟩
        have HR9 := hide (HR8.out.on hb17)
        clear hb17 HR8 HR7 HX HY
        go_wp2
        go_roundw
        case rel => exact ⟨k + 1, a', v6, ws6, by omega, by omega, by omega, by go_num, HR9, HW6⟩
        case measure => simp [intOf]; omega
      · have HA' : Anew xs a (it, a', f') new := HA.out
        have e := HA'.2.1 hf
        simp only at e
        subst e
        have hb0 : ((f' : Int) != 0) = true := by simp; omega
        clear HA HA' hf
        go_wp2_with fail
        refine (at_any _ _ _ xs _ _ HR6.out.rd).mono ?_
        rintro e w9 ⟨rfl, rfl⟩
        go_wp2
        go_ret
        exact ⟨rfl, HB0.out.trans (HR6.out.below.mono HB0.out.size)⟩
    · by_cases h4 : (k : Int) < (lo : Int)
      · have h5 : ¬ (k : Int) < 400 := by omega
        by_cases han : a < n
        · have hE : pEnd xs.length a 0 = 13 := by simp [pEnd, HL.out, han]
          have hL0 : (((xs.length - a : Nat) : Int) == 0) = false := by rw [HL.out]; simp; omega
          have HE := hide (end_any _ _ _ xs a 0 HR.out.rd)
          rw [hE] at HE
          go_wp2_with fail
          refine HE.out.mono ?_
          rintro e w20 ⟨rfl, hb20⟩
          have HR20 := hide (HR.out.on hb20); clear hb20
          go_wp2_with fail
          refine (num_any _ _).mono ?_
          rintro e w21 ⟨rfl, rfl⟩
          go_wp2_with fail
          refine (left_any _ _ _ xs _ _ HR20.out.rd).mono ?_
          rintro e w22 ⟨rfl, rfl⟩
          go_wp2
          go_ret
          exact ⟨rfl, (HB0.out.trans (HR20.out.below.mono HB0.out.size)).drew⟩
        · have hE : pEnd xs.length a 0 = 0 := by simp [pEnd, HL.out, han]
          have hL0 : (((xs.length - a : Nat) : Int) == 0) = true := by rw [HL.out]; simp; omega
          have HE := hide (end_any _ _ _ xs a 0 HR.out.rd)
          rw [hE] at HE
          go_wp2_with fail
          refine HE.out.mono ?_
          rintro e w20 ⟨rfl, hb20⟩
          have HR20 := hide (HR.out.on hb20); clear hb20
          go_wp2_with fail
          refine (num_any _ _).mono ?_
          rintro e w21 ⟨rfl, rfl⟩
          go_wp2_with fail
          refine (left_any _ _ _ xs _ _ HR20.out.rd).mono ?_
          rintro e w22 ⟨rfl, rfl⟩
          go_wp2
          go_ret
          exact ⟨rfl, (HB0.out.trans (HR20.out.below.mono HB0.out.size)).drew⟩
      · skip
        by_cases han : a < n
        · have hE : pEnd xs.length a 0 = 13 := by simp [pEnd, HL.out, han]
          have hL0 : (((xs.length - a : Nat) : Int) == 0) = false := by rw [HL.out]; simp; omega
          have HE := hide (end_any _ _ _ xs a 0 HR.out.rd)
          rw [hE] at HE
          go_wp2_with fail
          refine HE.out.mono ?_
          rintro e w20 ⟨rfl, hb20⟩
          have HR20 := hide (HR.out.on hb20); clear hb20
          go_wp2_with fail
          refine (num_any _ _).mono ?_
          rintro e w21 ⟨rfl, rfl⟩
          go_wp2_with fail
          refine (left_any _ _ _ xs _ _ HR20.out.rd).mono ?_
          rintro e w22 ⟨rfl, rfl⟩
          go_wp2
          go_ret
          exact ⟨rfl, (HB0.out.trans (HR20.out.below.mono HB0.out.size)).drew⟩
        · have hE : pEnd xs.length a 0 = 0 := by simp [pEnd, HL.out, han]
          have hL0 : (((xs.length - a : Nat) : Int) == 0) = true := by rw [HL.out]; simp; omega
          have HE := hide (end_any _ _ _ xs a 0 HR.out.rd)
          rw [hE] at HE
          go_wp2_with fail
          refine HE.out.mono ?_
          rintro e w20 ⟨rfl, hb20⟩
          have HR20 := hide (HR.out.on hb20); clear hb20
          go_wp2_with fail
          refine (num_any _ _).mono ?_
          rintro e w21 ⟨rfl, rfl⟩
          go_wp2_with fail
          refine (left_any _ _ _ xs _ _ HR20.out.rd).mono ?_
          rintro e w22 ⟨rfl, rfl⟩
          go_wp2
          go_ret
          exact ⟨rfl, (HB0.out.trans (HR20.out.below.mono HB0.out.size)).drew⟩

set_option maxRecDepth 100000 in
set_option maxHeartbeats 4000000 in
theorem one_none (w : World) (po p0 p1 : Option Addr) (n c0 l1 c1 co : Nat) (xs : List Nat) (hn : n ≤ 140737488351232) (_hnc : n ≤ c0) (hl : xs.length = n) (hb : Bytes w p0 xs) :
    Calls Try.prog 7 #[.agg #[.slice p0 n c0, .slice p1 l1 c1, .slice po 0 co]] w fun e w' => e = .returned (.bool true) ∧ Below w.heap.size w w' := by
  have HL := hide hl
  have HB := hide hb
  clear hl hb
  obtain ⟨w0, hw0⟩ : ∃ w0, w0 = w.alloc (.cells #[.slice p0 n c0, .slice p1 l1 c1, .slice po 0 co] 26) := ⟨_, rfl⟩
  have H0 := hide hw0
  have HZ : Hid (w0.heap.size = w.heap.size + 1) := by rw [hw0]; show _ = _; simp
  have HK0 : Hid (w0.heap[w.heap.size]? = some (.cells #[.slice p0 n c0, .slice p1 l1 c1, .slice po 0 co] 26 (0, 0))) := by rw [hw0]; exact heap_alloc_new _ _
  have HB0 : Hid (Below w.heap.size w w0) := by rw [hw0]; exact (Below.refl _ _).alloc (Nat.le_refl _) _
  clear hw0
  go_enter Try.func7, Try.ntmps7
  go_wp2_with fail
  refine (read_any _ p0 n c0 xs HL.out (by omega) (HB.out.below ((Below.refl _ _).alloc (Nat.le_refl _) _))).mono ?_
  rintro e w1 ⟨rfl, hr1, hb1⟩
  have HRW : Hid (RW w0 (w1.alloc (.cells #[.slice none 0 0] 89)) (w.heap.size + 1 + 1) (w.heap.size + 1) w1.heap.size (.slice none 0 0) xs [] 0 0) := by
    have hlt := hr1.lt
    have hsz := HZ.out
    rw [← H0.out] at hr1 hlt hb1
    rw [hsz] at hr1 hlt
    exact ⟨hr1.below ((Below.refl _ _).alloc (Nat.le_refl _) _), new_wr w1, by omega, by omega, by simp; omega, fun g e => by simp [Value.ownBlock] at e, by omega, by omega, by omega, hb1.alloc hb1.size _⟩
  clear hr1 hb1
  go_wp2_with fail
  refine (new_any _).mono ?_
  rintro e w2 ⟨rfl, rfl⟩
  generalize w1.alloc (.cells #[.slice none 0 0] 89) = w2 at *
  generalize w1.heap.size = C at *
  go_wp2_with fail
  refine (left_any _ _ _ xs _ _ HRW.out.rd).mono ?_
  rintro e w3 ⟨rfl, rfl⟩
  rw [HL.out]
  simp only [Nat.sub_zero]
  go_wp2
  go_loopw [6] (fun i wr => ∃ (k a : Nat) (v : Value) (ws : List Nat), k ≤ 0 ∧ k ≤ 400 ∧ a ≤ n ∧ i = .int .i64 k ∧ Hid (RW w0 wr (w.heap.size + 1 + 1) (w.heap.size + 1) C v xs ws a 0) ∧ Hid (ws = xs.take a)) (fun i _ => 400 - (intOf i).toNat)
  case atStart => exact ⟨0, 0, _, [], Nat.zero_le _, Nat.zero_le _, Nat.zero_le _, rfl, HRW.out.on (Below.refl _ _).drew, by simp [Hid]⟩
  case round =>
    obtain ⟨k, a, v, ws, hk, hk4, ha, rfl, HR, HWs⟩ := hrel
    clear HRW
    have HK : Hid (wr.heap[w.heap.size]? = some (.cells #[.slice p0 n c0, .slice p1 l1 c1, .slice po 0 co] 26 (0, 0))) := (HR.out.below.block _ (by rw [HZ.out]; omega)).trans HK0.out
    have hwl : ws.length = a := by rw [HWs.out, List.length_take, HL.out]; omega
    obtain ⟨c0', c1', c2', cf⟩ := blk3 HK.out
    by_cases hlt : k < 0 ∧ k < 400
    · omega
    · have h4 : ¬ (k : Int) < 0 := by omega
      by_cases han : a < n
      · have hE : pEnd xs.length a 0 = 13 := by simp [pEnd, HL.out, han]
        have hL0 : (((xs.length - a : Nat) : Int) == 0) = false := by rw [HL.out]; simp; omega
        have HE := hide (end_any _ _ _ xs a 0 HR.out.rd)
        rw [hE] at HE
        go_wp2_with fail
        refine HE.out.mono ?_
        rintro e w20 ⟨rfl, hb20⟩
        have HR20 := hide (HR.out.on hb20); clear hb20
        go_wp2_with fail
        refine (num_any _ _).mono ?_
        rintro e w21 ⟨rfl, rfl⟩
        go_wp2_with fail
        refine (left_any _ _ _ xs _ _ HR20.out.rd).mono ?_
        rintro e w22 ⟨rfl, rfl⟩
        go_wp2
        go_ret
        exact ⟨rfl, (HB0.out.trans (HR20.out.below.mono HB0.out.size)).drew⟩
      · have hE : pEnd xs.length a 0 = 0 := by simp [pEnd, HL.out, han]
        have hL0 : (((xs.length - a : Nat) : Int) == 0) = true := by rw [HL.out]; simp; omega
        have HE := hide (end_any _ _ _ xs a 0 HR.out.rd)
        rw [hE] at HE
        go_wp2_with fail
        refine HE.out.mono ?_
        rintro e w20 ⟨rfl, hb20⟩
        have HR20 := hide (HR.out.on hb20); clear hb20
        go_wp2_with fail
        refine (num_any _ _).mono ?_
        rintro e w21 ⟨rfl, rfl⟩
        go_wp2_with fail
        refine (left_any _ _ _ xs _ _ HR20.out.rd).mono ?_
        rintro e w22 ⟨rfl, rfl⟩
        go_wp2
        go_ret
        exact ⟨rfl, (HB0.out.trans (HR20.out.below.mono HB0.out.size)).drew⟩

end Go.Proofs.Ytlnldipiofddkaa
