import Derived.Test.YtajadmkacnfbgaaGreatKin
namespace Go.Proofs.YtajadmkacnfbgaaGreat
open Go.RowKit

/-- Rows of sz cells each, one behind the other, that are read alone. -/
def Cel (w : World) (p : Option Addr) (sz : Nat) (cs : List (List Value)) : Prop :=
  cs = [] ∨ ∃ b o, p = some ⟨b, o, none⟩ ∧ b < w.heap.size ∧ ∀ (i : Nat) (r : List Value), cs[i]? = some r → ∀ (j : Nat) (v : Value), r[j]? = some v → w.cell? ⟨b, o + i * sz + j, none⟩ = some v
theorem Cel.below {w w' : World} {p : Option Addr} {sz : Nat} {cs : List (List Value)} (h : Cel w p sz cs) (hb : Below w.heap.size w w') : Cel w' p sz cs :=
  h.imp id fun ⟨b, o, e, hl, hc⟩ => ⟨b, o, e, Nat.lt_of_lt_of_le hl hb.size, fun i r hr j v hv => (hb.cell (p := ⟨b, o + i * sz + j, none⟩) hl).trans (hc i r hr j v hv)⟩
/-- What lies at one of them. -/
theorem Cel.get {w : World} {p : Option Addr} {sz : Nat} {cs : List (List Value)} (h : Cel w p sz cs) {i : Nat} {r : List Value} (hr : cs[i]? = some r) : ∃ b o, p = some ⟨b, o, none⟩ ∧ b < w.heap.size ∧ ∀ (j : Nat) (v : Value), r[j]? = some v → w.cell? ⟨b, o + i * sz + j, none⟩ = some v := by
  rcases h with h | ⟨b, o, e, hl, hc⟩
  · rw [h] at hr; simp at hr
  · exact ⟨b, o, e, hl, hc i r hr⟩
theorem ac2 {w : World} {b : Nat} {x0 x1 : Value} {t : TypeId} (h : w.heap[b]? = some (.cells #[x0, x1] t (0, 0))) :
    w.cell? ⟨b, 0, none⟩ = some x0 ∧ w.cell? ⟨b, 1, none⟩ = some x1 :=
  ⟨by simp [World.cell?, h], by simp [World.cell?, h]⟩
theorem ac3 {w : World} {b : Nat} {x0 x1 x2 : Value} {t : TypeId} (h : w.heap[b]? = some (.cells #[x0, x1, x2] t (0, 0))) :
    w.cell? ⟨b, 0, none⟩ = some x0 ∧ w.cell? ⟨b, 1, none⟩ = some x1 ∧ w.cell? ⟨b, 2, none⟩ = some x2 :=
  ⟨by simp [World.cell?, h], by simp [World.cell?, h], by simp [World.cell?, h]⟩
theorem ac9 {w : World} {b : Nat} {x0 x1 x2 x3 x4 x5 x6 x7 x8 : Value} {t : TypeId} (h : w.heap[b]? = some (.cells #[x0, x1, x2, x3, x4, x5, x6, x7, x8] t (0, 0))) :
    w.cell? ⟨b, 0, none⟩ = some x0 ∧ w.cell? ⟨b, 1, none⟩ = some x1 ∧ w.cell? ⟨b, 2, none⟩ = some x2 ∧ w.cell? ⟨b, 3, none⟩ = some x3 ∧ w.cell? ⟨b, 4, none⟩ = some x4 ∧ w.cell? ⟨b, 5, none⟩ = some x5 ∧ w.cell? ⟨b, 6, none⟩ = some x6 ∧ w.cell? ⟨b, 7, none⟩ = some x7 ∧ w.cell? ⟨b, 8, none⟩ = some x8 :=
  ⟨by simp [World.cell?, h], by simp [World.cell?, h], by simp [World.cell?, h], by simp [World.cell?, h], by simp [World.cell?, h], by simp [World.cell?, h], by simp [World.cell?, h], by simp [World.cell?, h], by simp [World.cell?, h]⟩
theorem ac15 {w : World} {b : Nat} {x0 x1 x2 x3 x4 x5 x6 x7 x8 x9 x10 x11 x12 x13 x14 : Value} {t : TypeId} (h : w.heap[b]? = some (.cells #[x0, x1, x2, x3, x4, x5, x6, x7, x8, x9, x10, x11, x12, x13, x14] t (0, 0))) :
    w.cell? ⟨b, 0, none⟩ = some x0 ∧ w.cell? ⟨b, 1, none⟩ = some x1 ∧ w.cell? ⟨b, 2, none⟩ = some x2 ∧ w.cell? ⟨b, 3, none⟩ = some x3 ∧ w.cell? ⟨b, 4, none⟩ = some x4 ∧ w.cell? ⟨b, 5, none⟩ = some x5 ∧ w.cell? ⟨b, 6, none⟩ = some x6 ∧ w.cell? ⟨b, 7, none⟩ = some x7 ∧ w.cell? ⟨b, 8, none⟩ = some x8 ∧ w.cell? ⟨b, 9, none⟩ = some x9 ∧ w.cell? ⟨b, 10, none⟩ = some x10 ∧ w.cell? ⟨b, 11, none⟩ = some x11 ∧ w.cell? ⟨b, 12, none⟩ = some x12 ∧ w.cell? ⟨b, 13, none⟩ = some x13 ∧ w.cell? ⟨b, 14, none⟩ = some x14 :=
  ⟨by simp [World.cell?, h], by simp [World.cell?, h], by simp [World.cell?, h], by simp [World.cell?, h], by simp [World.cell?, h], by simp [World.cell?, h], by simp [World.cell?, h], by simp [World.cell?, h], by simp [World.cell?, h], by simp [World.cell?, h], by simp [World.cell?, h], by simp [World.cell?, h], by simp [World.cell?, h], by simp [World.cell?, h], by simp [World.cell?, h]⟩
theorem ac_lt {w : World} {b : Nat} {o : Obj} (h : w.heap[b]? = some o) : b < w.heap.size := by
  rcases Nat.lt_or_ge b w.heap.size with h1 | h1
  · exact h1
  · rw [Array.getElem?_eq_none h1] at h; cases h
/-- A line; a guard, a setting or a right: as data. -/
structure Lin where
  c : Int
  n : Int
structure Tri where
  a : Int
  b : Int
  n : Int
def linc (x : Lin) : List Value := [.int .i64 x.c, .int .i64 x.n]
def tric (x : Tri) : List Value := [.int .i64 x.a, .int .i64 x.b, .int .i64 x.n]
/-- A configuration as a value. -/
structure Cfg where
  tills : Int
  cp : Option Addr
  cl : Nat
  cc : Nat
  pp : Option Addr
  pl : Nat
  pc : Nat
  lease : Int
  watch : Int
  beat : Int
  window : Int
  cap : Int
  flight : Int
def Cfg.v (c : Cfg) : Value := .agg #[.int .i64 c.tills, .slice c.cp c.cl c.cc, .slice c.pp c.pl c.pc, .int .i64 c.lease, .int .i64 c.watch, .int .i64 c.beat, .int .i64 c.window, .int .i64 c.cap, .int .i64 c.flight]
def inB (n l m : Int) : Bool := decide (l ≤ n) && decide (n ≤ m)
def ofB (n : Int) (l : Nat) : Bool := decide (0 ≤ n) && decide (n < (l : Int))

end Go.Proofs.YtajadmkacnfbgaaGreat
