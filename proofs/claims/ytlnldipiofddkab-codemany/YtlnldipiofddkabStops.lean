import Derived.Test.YtlnldipiofddkabReader4
namespace Go.Proofs.Ytlnldipiofddkab
open Go.RowKit

theorem rn_done (k : Int) (bound : Nat) (xs : List Nat) (a f : Nat) (hf : f ≠ 0) : rNext k bound xs a f = (no 0, a, f) := by rw [rNext, if_pos hf]
theorem rt_done (m : Int) (xs : List Nat) (a f : Nat) (hf : f ≠ 0) : rText m xs a f = (no 0, a, f) := by rw [rText, rn_done _ _ _ _ _ hf]
theorem rr_done (m : Int) (xs : List Nat) (a f : Nat) (hf : f ≠ 0) : got xs a (rRaw m xs a f) = [] ∧ (rRaw m xs a f).2.1 = a ∧ (rRaw m xs a f).2.2 = f := by
  unfold rRaw
  split
  · simp [got, no]
  · rw [rn_done _ _ _ _ _ hf]; simp [got, no]

/-- One step of a script, as data. -/
structure Op1 where
  kind : Int
  which : Int
  m : Int
  n : Nat
  bp : Option Addr
  bl : Nat
  bc : Nat
  bs : List Nat
/-- Its numbers are in range; its bytes lie there. -/
structure Op1.Good (w : World) (o : Op1) : Prop where
  k1 : -9223372036854775808 ≤ o.kind
  k2 : o.kind ≤ 9223372036854775807
  w1 : -9223372036854775808 ≤ o.which
  w2 : o.which ≤ 9223372036854775807
  m1 : -9223372036854775808 ≤ o.m
  m2 : o.m ≤ 9223372036854775807
  n2 : o.n < 18446744073709551616
  len : o.bs.length = o.bl
  cap : o.bl ≤ o.bc
  most : o.bc ≤ 140737488351232
  bytes : Bytes w o.bp o.bs

def Op1.val (o : Op1) : Value := .agg #[.int .i64 o.kind, .int .i64 o.which, .int .i64 o.m, .int .u64 (o.n : Int), .slice o.bp o.bl o.bc]

/-- What stays true of a Reader that has met a fault. -/
def Still (w w' : World) (b h : Nat) (xs : List Nat) (a f : Nat) (e : Ending) : Prop := e = .returned (.bool true) ∧ Rd w' b h xs a f ∧ But b w w'

/-- THE STEPS OF A SCRIPT IN MEMORY. -/
structure OpsIn (w : World) (sp : Option Addr) (ops : List Op1) : Prop where
  good : ∀ o ∈ ops, o.Good w
  lie : ops = [] ∨ ∃ g o, sp = some ⟨g, o, none⟩ ∧ g < w.heap.size ∧ ∀ j p, ops[j]? = some p →
    w.cell? ⟨g, o + j * 5, none⟩ = some (.int .i64 p.kind) ∧ w.cell? ⟨g, o + j * 5 + 1, none⟩ = some (.int .i64 p.which) ∧ w.cell? ⟨g, o + j * 5 + 2, none⟩ = some (.int .i64 p.m) ∧ w.cell? ⟨g, o + j * 5 + 3, none⟩ = some (.int .u64 (p.n : Int)) ∧ w.cell? ⟨g, o + j * 5 + 4, none⟩ = some (.slice p.bp p.bl p.bc)

/-- A SCRIPT IN MEMORY: two lists of bytes, the steps. -/
structure Scr where
  p0 : Option Addr
  l0 : Nat
  c0 : Nat
  x0 : List Nat
  p1 : Option Addr
  l1 : Nat
  c1 : Nat
  x1 : List Nat
  po : Option Addr
  lo : Nat
  co : Nat
  ops : List Op1
structure Scr.In (w : World) (s : Scr) : Prop where
  len0 : s.x0.length = s.l0
  cap0 : s.l0 ≤ s.c0
  most0 : s.c0 ≤ 140737488351232
  b0 : Bytes w s.p0 s.x0
  len1 : s.x1.length = s.l1
  cap1 : s.l1 ≤ s.c1
  most1 : s.c1 ≤ 140737488351232
  b1 : Bytes w s.p1 s.x1
  leno : s.ops.length = s.lo
  capo : s.lo ≤ s.co
  mosto : s.co ≤ 140737488351232
  bo : OpsIn w s.po s.ops
def Scr.cells (s : Scr) : Array Value := #[.slice s.p0 s.l0 s.c0, .slice s.p1 s.l1 s.c1, .slice s.po s.lo s.co]

/-- The Reader's place behind so many U64s. -/
theorem rn_u64 (xs : List Nat) (k : Nat) (h : k < xs.length / 8) : (rNext 2 0 xs (8 * k) 0).2 = (8 * (k + 1), 0) := by
  have e : pFind 2 0 (xs.drop (8 * k)) = ⟨be ((xs.drop (8 * k)).take 8), 0, 0, 8, 0⟩ := by
    simp only [pFind, show ¬ (2 : Int) = 3 by omega, show ¬ (2 : Int) = 4 by omega, show ¬ (2 : Int) = 5 by omega, if_false]
    rw [show width 2 = 8 by simp [width], pFixed, if_neg (by simp; omega)]
  rw [rNext, if_neg (by omega), e]
  simp only [ne_eq, not_true_eq_false, if_false]
  congr 1
theorem rn_u64_end (xs : List Nat) : (rNext 2 0 xs (8 * (xs.length / 8)) 0).2 = (8 * (xs.length / 8), 10) := by
  have e : pFind 2 0 (xs.drop (8 * (xs.length / 8))) = no 10 := by
    simp only [pFind, show ¬ (2 : Int) = 3 by omega, show ¬ (2 : Int) = 4 by omega, show ¬ (2 : Int) = 5 by omega, if_false]
    rw [show width 2 = 8 by simp [width], pFixed, if_pos (by simp; omega)]
  rw [rNext, if_neg (by omega), e]
  simp [no]

def stU (n k : Nat) : Nat × Nat := if k ≤ n / 8 then (8 * k, 0) else (8 * (n / 8), 10)
theorem stU_step (xs : List Nat) (k : Nat) (h : k ≤ xs.length / 8) : (rNext 2 0 xs (stU xs.length k).1 (stU xs.length k).2).2 = stU xs.length (k + 1) := by
  rw [stU, if_pos h]
  simp only
  by_cases h1 : k < xs.length / 8
  · rw [rn_u64 xs k h1, stU, if_pos (by omega)]
  · obtain rfl : k = xs.length / 8 := by omega
    rw [rn_u64_end, stU, if_neg (by omega)]
theorem stU_end (n : Nat) : stU n (n / 8 + 1) = (8 * (n / 8), 10) := by rw [stU, if_neg (by omega)]

end Go.Proofs.Ytlnldipiofddkab
