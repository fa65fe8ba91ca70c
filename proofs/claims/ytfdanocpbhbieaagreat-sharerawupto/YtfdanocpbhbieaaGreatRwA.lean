import Derived.Test.YtfdanocpbhbieaaGreatRbB
import Derived.Test.YtfdanocpbhbieaaGreatNdW
import Derived.Laws.ResultCell
namespace Go.Proofs.YtfdanocpbhbieaaGreat
open Go.RowKit

theorem res_ct {fn : Func} {p u : Tmp} {ty : TypeId} (h : fn.results = #[.cell p ty, .tmp u]) (tmps : Array Value) (w : World) (g : Nat) (cs : Array Value)
    (hp : tmps.getD p undef = .pointer (some ⟨g, 0, none⟩)) (hl : (loadVar ty ⟨g, 0, none⟩).run Tryz.prog w = .ok (.agg cs) w) :
    (results fn tmps).run Tryz.prog w = .ok (.tuple #[.agg cs, tmps.getD u undef]) w := by
  rw [results_cell_tmp h, hp]
  simp [asAddr, hl]
theorem ac4 {w : World} {b : Nat} {x0 x1 x2 x3 : Value} {t : TypeId} (h : w.heap[b]? = some (.cells #[x0, x1, x2, x3] t (0, 0))) :
    w.cell? ⟨b, 0, none⟩ = some x0 ∧ w.cell? ⟨b, 1, none⟩ = some x1 ∧ w.cell? ⟨b, 2, none⟩ = some x2 ∧ w.cell? ⟨b, 3, none⟩ = some x3 :=
  ⟨by simp [World.cell?, h], by simp [World.cell?, h], by simp [World.cell?, h], by simp [World.cell?, h]⟩

end Go.Proofs.YtfdanocpbhbieaaGreat
namespace Go.Proofs.YtfdanocpbhbieaaGreat
open Go.RowKit

/-- A pool as it lies in a state: value, free rights, the list of what tills hold. -/
structure Pl where
  v : Int
  f0 : Int
  f1 : Int
  hp : Option Addr
  hl : Nat
  hc : Nat
  hs : List Lin
def plc (x : Pl) : List Value := [.int .i64 x.v, .int .i64 x.f0, .int .i64 x.f1, .slice x.hp x.hl x.hc]
def pl0 : Pl := ⟨0, 0, 0, none, 0, 0, []⟩
/-- An item of a list, if there is one. -/
def hasAt {α : Type} (l : List α) (i : Int) : Bool := decide (0 ≤ i ∧ i < l.length)
def getAt {α : Type} (l : List α) (z : α) (i : Int) : α := if 0 ≤ i then l.getD i.toNat z else z
theorem at_in {α : Type} {l : List α} {z x : α} {k : Nat} (h : l[k]? = some x) : hasAt l (k : Int) = true ∧ getAt l z (k : Int) = x := by
  have hk := (List.getElem?_eq_some_iff.1 h).1
  constructor
  · simp [hasAt]; omega
  · simp [getAt, h]
theorem at_out {α : Type} {l : List α} {z : α} {i : Int} (h : i < 0 ∨ (l.length : Int) ≤ i) : hasAt l i = false ∧ getAt l z i = z := by
  constructor
  · simp [hasAt]; omega
  · unfold getAt
    split
    · rcases h with h | h
      · omega
      · simp [List.getElem?_eq_none (show l.length ≤ i.toNat by omega)]
    · rfl
theorem at_case {α : Type} (l : List α) (n : Nat) (hn : l.length = n) (i : Int) : (i < 0) ∨ (¬ i < 0 ∧ (n : Int) ≤ i) ∨ (∃ (k : Nat) (x : α), i = (k : Int) ∧ k < n ∧ l[k]? = some x) := by
  by_cases h : i < 0
  · exact Or.inl h
  · by_cases h2 : (n : Int) ≤ i
    · exact Or.inr (Or.inl ⟨h, h2⟩)
    · refine Or.inr (Or.inr ⟨i.toNat, l[i.toNat]'(by omega), by omega, by omega, List.getElem?_eq_getElem _⟩)

end Go.Proofs.YtfdanocpbhbieaaGreat
