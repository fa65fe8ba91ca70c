import Derived.Test.YtgfegkcmoedgkabSumP
import Derived.Below
import Derived.ProofKit
import Derived.Lib.SmallJoins
import Derived.OpenShut
import Derived.SizedLaws
namespace Go.Proofs.Ytgfegkcmoedgkab
open Go.RowKit Go.ChangeShapes Go.WideShapes Go.Deep

theorem Try.own : ownKnob Try.prog.godebug = none := by kernel_rfl
theorem Try.laidOut : laidOutB Try.prog = true := by kernel_rfl

section
variable {H : Type} {enc : TypeId × Value → H} {w : World} {base : Nat} {held : Bool}

theorem Try.cellsI64 : Try.prog.cellsOf 2 = 1 := by kernel_rfl
theorem i64_of {z : Int} (h : (Lit.int .i64 z).wf = true) : I64 z := by
  simp [Lit.wf, IntKind.min, IntKind.max, IntKind.signed, IntKind.bits] at h
  exact ⟨by omega, by omega⟩

theorem two {l : List Value} (h : l.length = 2) : ∃ a b, l = [a, b] := by
  match l, h with
  | [a, b], _ => exact ⟨a, b, rfl⟩

theorem int_open {fuel : Nat} {v : Value} {x : DataW H × List MemPlace} (h : DataW.trod enc Try.prog w base (fun _ => true) held fuel 2 [v] = some x) :
    ∃ z, v = .int .i64 z ∧ I64 z := by
  obtain ⟨z, g, _, wf⟩ := DataW.trod_int Try.underlying2 h
  simp at g
  exact ⟨z, g, i64_of wf⟩

end
end Go.Proofs.Ytgfegkcmoedgkab
