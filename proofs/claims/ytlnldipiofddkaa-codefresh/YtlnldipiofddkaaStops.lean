import Derived.Test.YtlnldipiofddkaaReader4
namespace Go.Proofs.Ytlnldipiofddkaa
open Go.RowKit

theorem rn_done (k : Int) (bound : Nat) (xs : List Nat) (a f : Nat) (hf : f ≠ 0) : rNext k bound xs a f = (no 0, a, f) := by rw [rNext, if_pos hf]
theorem rt_done (m : Int) (xs : List Nat) (a f : Nat) (hf : f ≠ 0) : rText m xs a f = (no 0, a, f) := by rw [rText, rn_done _ _ _ _ _ hf]
theorem rr_done (m : Int) (xs : List Nat) (a f : Nat) (hf : f ≠ 0) : got xs a (rRaw m xs a f) = [] ∧ (rRaw m xs a f).2.1 = a ∧ (rRaw m xs a f).2.2 = f := by
  unfold rRaw
  split
  · simp [got, no]
  · rw [rn_done _ _ _ _ _ hf]; simp [got, no]

/-- One step of a script, as data. -/
structure Op1 where
  kind : Int
  which : Int
  m : Int
  n : Nat
  bp : Option Addr
  bl : Nat
  bc : Nat
  bs : List Nat
/-- Its numbers are in range; its bytes lie there. -/
structure Op1.Good (w : World) (o : Op1) : Prop where
  k1 : -9223372036854775808 ≤ o.kind
  k2 : o.kind ≤ 9223372036854775807
  w1 : -9223372036854775808 ≤ o.which
  w2 : o.which ≤ 9223372036854775807
  m1 : -9223372036854775808 ≤ o.m
  m2 : o.m ≤ 9223372036854775807
  n2 : o.n < 18446744073709551616
  len : o.bs.length = o.bl
  cap : o.bl ≤ o.bc
  most : o.bc ≤ 140737488351232
  bytes : Bytes w o.bp o.bs

def Op1.val (o : Op1) : Value := .agg #[.int .i64 o.kind, .int .i64 o.which, .int .i64 o.m, .int .u64 (o.n : Int), .slice o.bp o.bl o.bc]

/-- What stays true of a Reader that has met a fault. -/
def Still (w w' : World) (b h : Nat) (xs : List Nat) (a f : Nat) (e : Ending) : Prop := e = .returned (.bool true) ∧ Rd w' b h xs a f ∧ But b w w'

set_option maxRecDepth 100000 in
set_option maxHeartbeats 1000000 in
theorem silent_any (w : World) (b h : Nat) (xs : List Nat) (a f : Nat) (o : Op1) (hf : f ≠ 0) (hr : Rd w b h xs a f) (hm : o.m ≤ 9223372036854775807) (hn : o.n < 18446744073709551616) :
    Calls Try.prog 40 #[.pointer (some ⟨b, 0, none⟩), o.val] w fun e w' => Still w w' b h xs a f e := by
  obtain ⟨kind, which, m, n, bp, bl, bc, bs⟩ := o
  simp only at hm hn
  unfold Op1.val
  simp only
  have HR := hide (hr.below ((Below.refl _ _).alloc (Nat.le_refl _) (.cells #[.int .i64 kind, .int .i64 which, .int .i64 m, .int .u64 (n : Int), .slice bp bl bc] 33)))
  have hlt := hr.lt
  clear hr
  have HA : Hid (But b w (w.alloc (.cells #[.int .i64 kind, .int .i64 which, .int .i64 m, .int .u64 (n : Int), .slice bp bl bc] 33))) := (But.refl _ _).alloc _
  by_cases k1 : (kind == 1) = true
  · have e := beq_iff_eq.1 k1; subst e
    have C := u8_any _ b h xs a f HR.out
    rw [rn_done _ _ _ _ _ hf] at C
    have HC := hide C; clear C
    go_enter Try.func40, Try.ntmps40
    go_wp2_with fail
    refine HC.out.mono ?_
    rintro e w1 ⟨rfl, hr1, hb1⟩
    have HR1 := hide hr1; have HB1 := hide hb1; clear hr1 hb1
    simp only [no]
    go_wp2
    go_ret
    exact ⟨rfl, HR1.out, HA.out.trans HB1.out⟩
  simp only [Bool.not_eq_true] at k1
  by_cases k2 : (kind == 2) = true
  · have e := beq_iff_eq.1 k2; subst e
    have C := u32_any _ b h xs a f HR.out
    rw [rn_done _ _ _ _ _ hf] at C
    have HC := hide C; clear C
    go_enter Try.func40, Try.ntmps40
    go_wp2_with fail
    refine HC.out.mono ?_
    rintro e w1 ⟨rfl, hr1, hb1⟩
    have HR1 := hide hr1; have HB1 := hide hb1; clear hr1 hb1
    simp only [no]
    go_wp2
    go_ret
    exact ⟨rfl, HR1.out, HA.out.trans HB1.out⟩
  simp only [Bool.not_eq_true] at k2
  by_cases k3 : (kind == 3) = true
  · have e := beq_iff_eq.1 k3; subst e
    have C := u64_any _ b h xs a f HR.out
    rw [rn_done _ _ _ _ _ hf] at C
    have HC := hide C; clear C
    go_enter Try.func40, Try.ntmps40
    go_wp2_with fail
    refine HC.out.mono ?_
    rintro e w1 ⟨rfl, hr1, hb1⟩
    have HR1 := hide hr1; have HB1 := hide hb1; clear hr1 hb1
    simp only [no]
    go_wp2
    go_ret
    exact ⟨rfl, HR1.out, HA.out.trans HB1.out⟩
  simp only [Bool.not_eq_true] at k3
  by_cases k4 : (kind == 4) = true
  · have e := beq_iff_eq.1 k4; subst e
    have C := var_read _ b h xs a f n hn HR.out
    rw [rn_done _ _ _ _ _ hf] at C
    have HC := hide C; clear C
    go_enter Try.func40, Try.ntmps40
    go_wp2_with fail
    refine HC.out.mono ?_
    rintro e w1 ⟨rfl, hr1, hb1⟩
    have HR1 := hide hr1; have HB1 := hide hb1; clear hr1 hb1
    simp only [no]
    go_wp2
    go_ret
    exact ⟨rfl, HR1.out, HA.out.trans HB1.out⟩
  simp only [Bool.not_eq_true] at k4
  by_cases k5 : (kind == 5) = true
  · have e := beq_iff_eq.1 k5; subst e
    have C := text_any _ b h xs a f m hm HR.out
    rw [rt_done _ _ _ _ hf] at C; simp only [got, no, List.take_zero] at C
    have HC := hide C; clear C
    go_enter Try.func40, Try.ntmps40
    go_wp2_with fail
    refine HC.out.mono ?_
    rintro e w1 ⟨sp, rfl, -, -, hr1, hb1⟩
    have HR1 := hide hr1; have HB1 := hide hb1; clear hr1 hb1
    simp only [List.length_nil]
    go_wp2
    go_ret
    exact ⟨rfl, HR1.out, HA.out.trans HB1.out⟩
  simp only [Bool.not_eq_true] at k5
  have C := raw_read _ b h xs a f m hm HR.out
  obtain ⟨e1, e2, e3⟩ := rr_done m xs a f hf; rw [e1, e2, e3] at C; clear e1 e2 e3
  have HC := hide C; clear C
  go_enter Try.func40, Try.ntmps40
  go_wp2_with fail
  refine HC.out.mono ?_
  rintro e w1 ⟨sp, rfl, -, -, hr1, hb1⟩
  have HR1 := hide hr1; have HB1 := hide hb1; clear hr1 hb1
  simp only [List.length_nil]
  go_wp2
  go_ret
  exact ⟨rfl, HR1.out, HA.out.trans HB1.out⟩

theorem silent_at (w : World) (b h : Nat) (xs : List Nat) (a f : Nat) (o : Op1) (hf : f ≠ 0) (hr : Rd w b h xs a f) (hm : o.m ≤ 9223372036854775807) (hn : o.n < 18446744073709551616) :
    Calls Try.prog 40 #[.pointer (some ⟨b, 0, none⟩), .agg #[.int .i64 o.kind, .int .i64 o.which, .int .i64 o.m, .int .u64 (o.n : Int), .slice o.bp o.bl o.bc]] w fun e w' => Still w w' b h xs a f e := silent_any w b h xs a f o hf hr hm hn

/-- THE STEPS OF A SCRIPT IN MEMORY. -/
structure OpsIn (w : World) (sp : Option Addr) (ops : List Op1) : Prop where
  good : ∀ o ∈ ops, o.Good w
  lie : ops = [] ∨ ∃ g o, sp = some ⟨g, o, none⟩ ∧ g < w.heap.size ∧ ∀ j p, ops[j]? = some p →
    w.cell? ⟨g, o + j * 5, none⟩ = some (.int .i64 p.kind) ∧ w.cell? ⟨g, o + j * 5 + 1, none⟩ = some (.int .i64 p.which) ∧ w.cell? ⟨g, o + j * 5 + 2, none⟩ = some (.int .i64 p.m) ∧ w.cell? ⟨g, o + j * 5 + 3, none⟩ = some (.int .u64 (p.n : Int)) ∧ w.cell? ⟨g, o + j * 5 + 4, none⟩ = some (.slice p.bp p.bl p.bc)

/-- A SCRIPT IN MEMORY: two lists of bytes, the steps. -/
structure Scr where
  p0 : Option Addr
  l0 : Nat
  c0 : Nat
  x0 : List Nat
  p1 : Option Addr
  l1 : Nat
  c1 : Nat
  x1 : List Nat
  po : Option Addr
  lo : Nat
  co : Nat
  ops : List Op1
structure Scr.In (w : World) (s : Scr) : Prop where
  len0 : s.x0.length = s.l0
  cap0 : s.l0 ≤ s.c0
  most0 : s.c0 ≤ 140737488351232
  b0 : Bytes w s.p0 s.x0
  len1 : s.x1.length = s.l1
  cap1 : s.l1 ≤ s.c1
  most1 : s.c1 ≤ 140737488351232
  b1 : Bytes w s.p1 s.x1
  leno : s.ops.length = s.lo
  capo : s.lo ≤ s.co
  mosto : s.co ≤ 140737488351232
  bo : OpsIn w s.po s.ops
def Scr.cells (s : Scr) : Array Value := #[.slice s.p0 s.l0 s.c0, .slice s.p1 s.l1 s.c1, .slice s.po s.lo s.co]

/-- The Reader's place behind so many U64s. -/
theorem rn_u64 (xs : List Nat) (k : Nat) (h : k < xs.length / 8) : (rNext 2 0 xs (8 * k) 0).2 = (8 * (k + 1), 0) := by
  have e : pFind 2 0 (xs.drop (8 * k)) = ⟨be ((xs.drop (8 * k)).take 8), 0, 0, 8, 0⟩ := by
    simp only [pFind, show ¬ (2 : Int) = 3 by omega, show ¬ (2 : Int) = 4 by omega, show ¬ (2 : Int) = 5 by omega, if_false]
    rw [show width 2 = 8 by simp [width], pFixed, if_neg (by simp; omega)]
  rw [rNext, if_neg (by omega), e]
  simp only [ne_eq, not_true_eq_false, if_false]
  congr 1
theorem rn_u64_end (xs : List Nat) : (rNext 2 0 xs (8 * (xs.length / 8)) 0).2 = (8 * (xs.length / 8), 10) := by
  have e : pFind 2 0 (xs.drop (8 * (xs.length / 8))) = no 10 := by
    simp only [pFind, show ¬ (2 : Int) = 3 by omega, show ¬ (2 : Int) = 4 by omega, show ¬ (2 : Int) = 5 by omega, if_false]
    rw [show width 2 = 8 by simp [width], pFixed, if_pos (by simp; omega)]
  rw [rNext, if_neg (by omega), e]
  simp [no]

def stU (n k : Nat) : Nat × Nat := if k ≤ n / 8 then (8 * k, 0) else (8 * (n / 8), 10)
theorem stU_step (xs : List Nat) (k : Nat) (h : k ≤ xs.length / 8) : (rNext 2 0 xs (stU xs.length k).1 (stU xs.length k).2).2 = stU xs.length (k + 1) := by
  rw [stU, if_pos h]
  simp only
  by_cases h1 : k < xs.length / 8
  · rw [rn_u64 xs k h1, stU, if_pos (by omega)]
  · obtain rfl : k = xs.length / 8 := by omega
    rw [rn_u64_end, stU, if_neg (by omega)]
theorem stU_end (n : Nat) : stU n (n / 8 + 1) = (8 * (n / 8), 10) := by rw [stU, if_neg (by omega)]

set_option maxRecDepth 100000 in
set_option maxHeartbeats 2000000 in
theorem stops_some (w : World) (g o : Nat) (p0 p1 : Option Addr) (n c0 l1 c1 lo co : Nat) (xs : List Nat) (ops : List Op1) (_hlo : lo ≤ 140737488351232) (hlen : ops.length = lo) (hg : g < w.heap.size) (hgood : ∀ o ∈ ops, o.Good w)
    (hc : ∀ j p, ops[j]? = some p → w.cell? ⟨g, o + j * 5, none⟩ = some (.int .i64 p.kind) ∧ w.cell? ⟨g, o + j * 5 + 1, none⟩ = some (.int .i64 p.which) ∧ w.cell? ⟨g, o + j * 5 + 2, none⟩ = some (.int .i64 p.m) ∧ w.cell? ⟨g, o + j * 5 + 3, none⟩ = some (.int .u64 (p.n : Int)) ∧ w.cell? ⟨g, o + j * 5 + 4, none⟩ = some (.slice p.bp p.bl p.bc)) (hn : n ≤ 140737488351232) (hl : xs.length = n) (hb : Bytes w p0 xs) :
    Calls Try.prog 8 #[.agg #[.slice p0 n c0, .slice p1 l1 c1, .slice (some ⟨g, o, none⟩) lo co]] w fun e w' => e = .returned (.bool true) ∧ Below w.heap.size w w' := by
  have HL := hide hl
  have HB := hide hb
  have HG := hide hgood
  have HC := hide hc
  have HN := hide hlen
  clear hgood hc hlen
  clear hl hb
  go_enter Try.func8, Try.ntmps8
  go_wp2_with fail
  refine (read_any _ p0 n c0 xs HL.out (by omega) (HB.out.below ((Below.refl _ _).alloc (Nat.le_refl _) _))).mono ?_
  rintro e w1 ⟨rfl, hr1, hb1⟩
  have HR1 := hide hr1
  have HW1 : Hid (Below w.heap.size w w1) := ((Below.refl _ _).alloc (Nat.le_refl _) _).trans (hb1.mono (by simp))
  have HK1 : Hid (w1.heap[w.heap.size]? = some (.cells #[.slice p0 n c0, .slice p1 l1 c1, .slice (some ⟨g, o, none⟩) lo co] 26 (0, 0))) := (hb1.block w.heap.size (by simp)).trans (heap_alloc_new _ _)
  clear hr1 hb1
  go_wp2
  go_loopw [5] (fun i wr => ∃ k : Nat, k ≤ n / 8 + 1 ∧ i = .int .i64 k ∧ Hid (Rd wr (w.heap.size + 1 + 1) (w.heap.size + 1) xs (stU n k).1 (stU n k).2) ∧ Hid (Below w.heap.size w wr) ∧ Hid (wr.heap[w.heap.size]? = some (.cells #[.slice p0 n c0, .slice p1 l1 c1, .slice (some ⟨g, o, none⟩) lo co] 26 (0, 0)))) (fun i _ => n / 8 + 1 - (intOf i).toNat)
  case atStart => exact ⟨0, Nat.zero_le _, rfl, by simpa [stU, Hid] using HR1, HW1, HK1⟩
  case round =>
    obtain ⟨k, hk, rfl, HR, HW, HK⟩ := hrel
    clear HR1 HW1 HK1
    by_cases hlt : k < n / 8 + 1
    · go_wp2_with fail
      refine (u64_any _ _ _ xs _ _ HR.out).mono ?_
      rintro e w2 ⟨rfl, hr2, hb2⟩
      have HR2 : Hid (Rd w2 (w.heap.size + 1 + 1) (w.heap.size + 1) xs (stU n (k + 1)).1 (stU n (k + 1)).2) := by
        have e := stU_step xs k (by rw [HL.out]; omega)
        rw [HL.out] at e
        rw [e] at hr2; exact hr2
      have HW2 : Hid (Below w.heap.size w w2) := hb2.below HW.out (by omega) HW.out.size
      have HK2 := hide ((hb2.block _ (lt_of_block HK.out) (by omega)).trans HK.out)
      clear hr2 hb2 HR HW HK
      go_wp2
      go_roundw
      case rel => exact ⟨k + 1, by omega, by go_num, HR2, HW2, HK2⟩
      case measure => simp [intOf]; omega
    · obtain rfl : k = n / 8 + 1 := by omega
      have HR3 : Hid (Rd wr (w.heap.size + 1 + 1) (w.heap.size + 1) xs (8 * (n / 8)) 10) := by have := HR.out; rw [stU_end] at this; exact this
      have hA : (((8 * (n / 8) : Nat) : Int) != (n : Int) / 8 * 8) = false := by simp; omega
      have hL : (((xs.length - 8 * (n / 8) : Nat) : Int) != (n : Int) % 8) = false := by rw [HL.out]; simp; omega
      generalize 8 * (n / 8) = A at *
      clear HR
      go_wp2_with fail
      refine (fault_any _ _ _ xs _ _ HR3.out).mono ?_
      rintro e w2 ⟨rfl, rfl⟩
      go_wp2_with fail
      refine (num_any _ _).mono ?_
      rintro e w3 ⟨rfl, rfl⟩
      go_wp2_with fail
      refine (at_any _ _ _ xs _ _ HR3.out).mono ?_
      rintro e w4 ⟨rfl, rfl⟩
      go_wp2
      go_loopw [6] (fun i wr => ∃ k : Nat, k ≤ lo ∧ k ≤ 400 ∧ i = .int .i64 k ∧ Hid (Rd wr (w.heap.size + 1 + 1) (w.heap.size + 1) xs A 10) ∧ Hid (Below w.heap.size w wr) ∧ Hid (wr.heap[w.heap.size]? = some (.cells #[.slice p0 n c0, .slice p1 l1 c1, .slice (some ⟨g, o, none⟩) lo co] 26 (0, 0)))) (fun i _ => 400 - (intOf i).toNat)
      case atStart => exact ⟨0, Nat.zero_le _, Nat.zero_le _, rfl, HR3, HW, HK⟩
      case round =>
        obtain ⟨k, hk, hk4, rfl, HR, HW', HK'⟩ := hrel
        clear HR3 HW HK
        obtain ⟨c0', c1', c2', cf⟩ := blk3 HK'.out
        by_cases hlt : k < lo ∧ k < 400
        · obtain ⟨hlt1, hlt2⟩ := hlt
          have hop : ops[k]? = some (ops[k]'(by rw [HN.out]; exact hlt1)) := List.getElem?_eq_getElem _
          obtain ⟨g0, g1, g2, g3, g4⟩ := HC.out k _ hop
          have hgood := hide (HG.out _ (List.mem_of_getElem? hop))
          generalize ops[k]'(by rw [HN.out]; exact hlt1) = p at *
          have HB5 := hide (bcell HW'.out).1
          have d0 := (HB5.out g (o + k * 5) hg).trans g0
          have d1 := (HB5.out g (o + k * 5 + 1) hg).trans g1
          have d2 := (HB5.out g (o + k * 5 + 2) hg).trans g2
          have d3 := (HB5.out g (o + k * 5 + 3) hg).trans g3
          have d4 := (HB5.out g (o + k * 5 + 4) hg).trans g4
          clear g0 g1 g2 g3 g4 hop
          go_wp2_with fail
          refine (silent_at _ _ _ xs A 10 p (by omega) HR.out hgood.out.m2 hgood.out.n2).mono ?_
          rintro e w2 ⟨rfl, hr2, hb2⟩
          have HR2 := hide hr2
          have HW2 : Hid (Below w.heap.size w w2) := hb2.below HW'.out (by omega) HW'.out.size
          have HK2 := hide ((hb2.block _ (lt_of_block HK'.out) (by omega)).trans HK'.out)
          clear hr2 hb2 HR HW' HK' HB5 d0 d1 d2 d3 d4
          go_wp2_with fail
          refine (fault_any _ _ _ xs _ _ HR2.out).mono ?_
          rintro e w3 ⟨rfl, rfl⟩
          go_wp2_with fail
          refine (num_any _ _).mono ?_
          rintro e w3 ⟨rfl, rfl⟩
          go_wp2_with fail
          refine (end_bad _ _ _ xs _ 10 (by omega) HR2.out).mono ?_
          rintro e w3 ⟨rfl, hb3⟩
          have HR3 := hide (HR2.out.below hb3)
          have HW3 : Hid (Below w.heap.size w w3) := HW2.out.trans (hb3.mono HW2.out.size)
          have HK3 := hide ((hb3.block _ (lt_of_block HK2.out)).trans HK2.out)
          clear hb3 HR2 HW2 HK2
          go_wp2_with fail
          refine (num_any _ _).mono ?_
          rintro e w4 ⟨rfl, rfl⟩
          go_wp2_with fail
          refine (at_any _ _ _ xs _ _ HR3.out).mono ?_
          rintro e w4 ⟨rfl, rfl⟩
          go_wp2_with fail
          refine (left_any _ _ _ xs _ _ HR3.out).mono ?_
          rintro e w5 ⟨rfl, rfl⟩
          go_wp2
          go_roundw
          case rel => exact ⟨k + 1, by omega, by omega, by go_num, hide (HR3.out.below (Below.refl _ _).drew), hide (HW3.out.drew), HK3⟩
          case measure => simp [intOf]; omega
        · by_cases h4 : (k : Int) < (lo : Int)
          · have h5 : ¬ (k : Int) < 400 := by omega
            go_wp2
            go_ret
            exact ⟨rfl, HW'.out⟩
          · go_wp2
            go_ret
            exact ⟨rfl, HW'.out⟩

set_option maxRecDepth 100000 in
set_option maxHeartbeats 2000000 in
theorem stops_none (w : World) (po p0 p1 : Option Addr) (n c0 l1 c1 co : Nat) (xs : List Nat) (hn : n ≤ 140737488351232) (hl : xs.length = n) (hb : Bytes w p0 xs) :
    Calls Try.prog 8 #[.agg #[.slice p0 n c0, .slice p1 l1 c1, .slice po 0 co]] w fun e w' => e = .returned (.bool true) ∧ Below w.heap.size w w' := by
  have HL := hide hl
  have HB := hide hb
  clear hl hb
  go_enter Try.func8, Try.ntmps8
  go_wp2_with fail
  refine (read_any _ p0 n c0 xs HL.out (by omega) (HB.out.below ((Below.refl _ _).alloc (Nat.le_refl _) _))).mono ?_
  rintro e w1 ⟨rfl, hr1, hb1⟩
  have HR1 := hide hr1
  have HW1 : Hid (Below w.heap.size w w1) := ((Below.refl _ _).alloc (Nat.le_refl _) _).trans (hb1.mono (by simp))
  have HK1 : Hid (w1.heap[w.heap.size]? = some (.cells #[.slice p0 n c0, .slice p1 l1 c1, .slice po 0 co] 26 (0, 0))) := (hb1.block w.heap.size (by simp)).trans (heap_alloc_new _ _)
  clear hr1 hb1
  go_wp2
  go_loopw [5] (fun i wr => ∃ k : Nat, k ≤ n / 8 + 1 ∧ i = .int .i64 k ∧ Hid (Rd wr (w.heap.size + 1 + 1) (w.heap.size + 1) xs (stU n k).1 (stU n k).2) ∧ Hid (Below w.heap.size w wr) ∧ Hid (wr.heap[w.heap.size]? = some (.cells #[.slice p0 n c0, .slice p1 l1 c1, .slice po 0 co] 26 (0, 0)))) (fun i _ => n / 8 + 1 - (intOf i).toNat)
  case atStart => exact ⟨0, Nat.zero_le _, rfl, by simpa [stU, Hid] using HR1, HW1, HK1⟩
  case round =>
    obtain ⟨k, hk, rfl, HR, HW, HK⟩ := hrel
    clear HR1 HW1 HK1
    by_cases hlt : k < n / 8 + 1
    · go_wp2_with fail
      refine (u64_any _ _ _ xs _ _ HR.out).mono ?_
      rintro e w2 ⟨rfl, hr2, hb2⟩
      have HR2 : Hid (Rd w2 (w.heap.size + 1 + 1) (w.heap.size + 1) xs (stU n (k + 1)).1 (stU n (k + 1)).2) := by
        have e := stU_step xs k (by rw [HL.out]; omega)
        rw [HL.out] at e
        rw [e] at hr2; exact hr2
      have HW2 : Hid (Below w.heap.size w w2) := hb2.below HW.out (by omega) HW.out.size
      have HK2 := hide ((hb2.block _ (lt_of_block HK.out) (by omega)).trans HK.out)
      clear hr2 hb2 HR HW HK
      go_wp2
      go_roundw
      case rel => exact ⟨k + 1, by omega, by go_num, HR2, HW2, HK2⟩
      case measure => simp [intOf]; omega
    · obtain rfl : k = n / 8 + 1 := by omega
      have HR3 : Hid (Rd wr (w.heap.size + 1 + 1) (w.heap.size + 1) xs (8 * (n / 8)) 10) := by have := HR.out; rw [stU_end] at this; exact this
      have hA : (((8 * (n / 8) : Nat) : Int) != (n : Int) / 8 * 8) = false := by simp; omega
      have hL : (((xs.length - 8 * (n / 8) : Nat) : Int) != (n : Int) % 8) = false := by rw [HL.out]; simp; omega
      generalize 8 * (n / 8) = A at *
      clear HR
      go_wp2_with fail
      refine (fault_any _ _ _ xs _ _ HR3.out).mono ?_
      rintro e w2 ⟨rfl, rfl⟩
      go_wp2_with fail
      refine (num_any _ _).mono ?_
      rintro e w3 ⟨rfl, rfl⟩
      go_wp2_with fail
      refine (at_any _ _ _ xs _ _ HR3.out).mono ?_
      rintro e w4 ⟨rfl, rfl⟩
      go_wp2
      go_loopw [6] (fun i wr => ∃ k : Nat, k ≤ 0 ∧ k ≤ 400 ∧ i = .int .i64 k ∧ Hid (Rd wr (w.heap.size + 1 + 1) (w.heap.size + 1) xs A 10) ∧ Hid (Below w.heap.size w wr) ∧ Hid (wr.heap[w.heap.size]? = some (.cells #[.slice p0 n c0, .slice p1 l1 c1, .slice po 0 co] 26 (0, 0)))) (fun i _ => 400 - (intOf i).toNat)
      case atStart => exact ⟨0, Nat.zero_le _, Nat.zero_le _, rfl, HR3, HW, HK⟩
      case round =>
        obtain ⟨k, hk, hk4, rfl, HR, HW', HK'⟩ := hrel
        clear HR3 HW HK
        obtain ⟨c0', c1', c2', cf⟩ := blk3 HK'.out
        by_cases hlt : k < 0 ∧ k < 400
        · omega
        · have h4 : ¬ (k : Int) < 0 := by omega
          go_wp2
          go_ret
          exact ⟨rfl, HW'.out⟩

end Go.Proofs.Ytlnldipiofddkaa
