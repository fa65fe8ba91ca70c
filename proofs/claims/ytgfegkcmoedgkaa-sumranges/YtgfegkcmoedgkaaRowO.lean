import Derived.Test.YtgfegkcmoedgkaaListO
namespace Go.Proofs.Ytgfegkcmoedgkaa
open Go.RowKit Go.ChangeShapes Go.WideShapes Go.Deep
section
variable {H : Type} {enc : TypeId × Value → H} {w : World} {base : Nat} {held : Bool}
theorem Try.cellsInt : Try.prog.cellsOf 3 = 1 := by kernel_rfl
theorem Try.cellsRow : Try.prog.cellsOf 57 = 2 := by kernel_rfl
set_option maxRecDepth 100000 in
theorem row_open {r : Reach} {b0 : Nat} {v : Value} {d : DataW H} {pl : List MemPlace} (hv : Value.okWide Try.prog w r b0 57 v) (h : DataW.Trod enc Try.prog w base (fun _ => true) held 57 v d pl)
    (hw : ∀ n ∈ d.weights Try.prog 57, n ≤ reachBytes) : ∃ np m dd zs y, v = .agg #[.slice np m dd, .int .i64 y] ∧ InN w np m dd zs ∧ I64 y := by
  obtain ⟨cs, rfl, hsz⟩ := okWide_struct Try.underlying57 hv
  obtain ⟨c0, c1, hcs⟩ := two (l := cs.toList) (by simpa using hsz.trans Try.cellsRow)
  obtain rfl : cs = #[c0, c1] := by rw [← Array.toList_inj]; exact hcs
  obtain ⟨fuel, hf⟩ := h
  obtain ⟨y0, y1, n, hx, _, h0, h1⟩ := trod_struct2 Try.underlying57 hf
  have h0' : DataW.trod enc Try.prog w base (fun _ => true) held n 32 [c0] = some y0 := by
    have : DataW.trod enc Try.prog w base (fun _ => true) held n 32 (([c0, c1].drop 0).take (Try.prog.cellsOf 32)) = some y0 := h0
    simpa [Try.cellsNs] using this
  have h1' : DataW.trod enc Try.prog w base (fun _ => true) held n 3 [c1] = some y1 := by
    have : DataW.trod enc Try.prog w base (fun _ => true) held n 3 (([c0, c1].drop 1).take (Try.prog.cellsOf 3)) = some y1 := h1
    simpa [Try.cellsInt] using this
  simp only [Prod.mk.injEq] at hx
  obtain ⟨rfl, _⟩ := hx
  have hw0 : ∀ n ∈ y0.1.weights Try.prog 32, n ≤ reachBytes := fun n hn => hw n (by
    simp only [DataW.weights, Try.underlying57]
    exact DataW.weights_mem_each (j := 0) (t := 32) rfl rfl n hn)
  obtain ⟨np, m, dd, zs, rfl, b1⟩ := ints_open h0' hw0
  obtain ⟨z, gz, _, wf⟩ := DataW.trod_int Try.underlying3 h1'
  simp at gz
  subst gz
  exact ⟨np, m, dd, zs, z, rfl, b1, i64_of wf⟩
end
end Go.Proofs.Ytgfegkcmoedgkaa
