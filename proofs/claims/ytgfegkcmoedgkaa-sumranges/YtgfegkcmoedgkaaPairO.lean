import Derived.Test.YtgfegkcmoedgkaaSumP
import Derived.Below
import Derived.ProofKit
import Derived.Lib.SmallJoins
import Derived.OpenShut
import Derived.SizedLaws
namespace Go.Proofs.Ytgfegkcmoedgkaa
open Go.RowKit Go.ChangeShapes Go.WideShapes Go.Deep

theorem Try.own : ownKnob Try.prog.godebug = none := by kernel_rfl
theorem Try.laidOut : laidOutB Try.prog = true := by kernel_rfl

section
variable {H : Type} {enc : TypeId × Value → H} {w : World} {base : Nat} {held : Bool}

theorem Try.cellsI64 : Try.prog.cellsOf 2 = 1 := by kernel_rfl
theorem Try.cellsPair : Try.prog.cellsOf 23 = 2 := by kernel_rfl

theorem i64_of {z : Int} (h : (Lit.int .i64 z).wf = true) : I64 z := by
  simp [Lit.wf, IntKind.min, IntKind.max, IntKind.signed, IntKind.bits] at h
  exact ⟨by omega, by omega⟩

theorem two {l : List Value} (h : l.length = 2) : ∃ a b, l = [a, b] := by
  match l, h with
  | [a, b], _ => exact ⟨a, b, rfl⟩

theorem int_open {fuel : Nat} {v : Value} {x : DataW H × List MemPlace} (h : DataW.trod enc Try.prog w base (fun _ => true) held fuel 2 [v] = some x) :
    ∃ z, v = .int .i64 z ∧ I64 z := by
  obtain ⟨z, g, _, wf⟩ := DataW.trod_int Try.underlying2 h
  simp at g
  exact ⟨z, g, i64_of wf⟩

set_option maxRecDepth 100000 in
theorem pair_open {r : Reach} {b0 : Nat} {v : Value} {d : DataW H} {pl : List MemPlace} (hv : Value.okWide Try.prog w r b0 23 v) (h : DataW.Trod enc Try.prog w base (fun _ => true) held 23 v d pl) :
    ∃ a b, v = .agg #[.int .i64 a, .int .i64 b] ∧ I64 a ∧ I64 b := by
  obtain ⟨cs, rfl, hsz⟩ := okWide_struct Try.underlying23 hv
  obtain ⟨c0, c1, hcs⟩ := two (l := cs.toList) (by simpa using hsz.trans Try.cellsPair)
  obtain rfl : cs = #[c0, c1] := by rw [← Array.toList_inj]; exact hcs
  obtain ⟨fuel, hf⟩ := h
  obtain ⟨y0, y1, n, hx, _, h0, h1⟩ := trod_struct2 Try.underlying23 hf
  have h0' : DataW.trod enc Try.prog w base (fun _ => true) held n 2 [c0] = some y0 := by
    have : DataW.trod enc Try.prog w base (fun _ => true) held n 2 (([c0, c1].drop 0).take (Try.prog.cellsOf 2)) = some y0 := h0
    simpa [Try.cellsI64] using this
  have h1' : DataW.trod enc Try.prog w base (fun _ => true) held n 2 [c1] = some y1 := by
    have : DataW.trod enc Try.prog w base (fun _ => true) held n 2 (([c0, c1].drop 1).take (Try.prog.cellsOf 2)) = some y1 := h1
    simpa [Try.cellsI64] using this
  obtain ⟨a, rfl, ha⟩ := int_open h0'
  obtain ⟨b, rfl, hb⟩ := int_open h1'
  exact ⟨a, b, rfl, ha, hb⟩
end
end Go.Proofs.Ytgfegkcmoedgkaa
