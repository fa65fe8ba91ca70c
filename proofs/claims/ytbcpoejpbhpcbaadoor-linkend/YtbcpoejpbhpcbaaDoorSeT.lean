import Derived.Test.YtbcpoejpbhpcbaaDoorLkK
namespace Go.Proofs.YtbcpoejpbhpcbaaDoor
open Go.RowKit

/-! Steps that came in -/
structure Stp where
  kind : Int
  on : Int
  bp : Option Addr
  bc : Nat
  body : List Nat
  pick : Int
  more : Int
def stpC (r : Stp) : List Value := [.int .i64 r.kind, .int .i64 r.on, .slice r.bp r.body.length r.bc, .int .i64 r.pick, .int .i64 r.more]
structure StpOk (w : World) (r : Stp) : Prop where
  by_ : Bytes w r.bp r.body
  len : r.body.length ≤ 140737488351232
def Stps (w : World) (sp : Option Addr) (rs : List Stp) : Prop := ∀ i r, rs[i]? = some r → ∃ g o, sp = some ⟨g, o, none⟩ ∧ g < w.heap.size ∧ (∀ (j : Nat) (v : Value), (stpC r)[j]? = some v → w.cell? ⟨g, o + i * 5 + j, none⟩ = some v) ∧ StpOk w r
theorem Stps.below {w w' : World} {sp : Option Addr} {rs : List Stp} (h : Stps w sp rs) (hb : Below w.heap.size w w') : Stps w' sp rs := fun i e he => by
  obtain ⟨g, o, h1, h2, h3, h4⟩ := h i e he
  exact ⟨g, o, h1, Nat.lt_of_lt_of_le h2 hb.size, fun j v hv => (hb.cell (p := ⟨g, o + i * 5 + j, none⟩) h2).trans (h3 j v hv), ⟨h4.by_.below hb, h4.len⟩⟩
end Go.Proofs.YtbcpoejpbhpcbaaDoor
