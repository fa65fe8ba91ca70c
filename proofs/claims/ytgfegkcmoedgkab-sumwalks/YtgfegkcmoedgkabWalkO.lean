import Derived.Test.YtgfegkcmoedgkabListO
import Derived.Lib.SmallJoins
namespace Go.Proofs.Ytgfegkcmoedgkab
open Go.RowKit Go.ChangeShapes Go.WideShapes Go.Deep
section
variable {H : Type} {enc : TypeId × Value → H} {w : World} {base : Nat} {held : Bool}
theorem Try.cellsWalk : Try.prog.cellsOf 24 = 4 := by kernel_rfl
theorem four {l : List Value} (h : l.length = 4) : ∃ a b c d, l = [a, b, c, d] := by
  match l, h with
  | [a, b, c, d], _ => exact ⟨a, b, c, d, rfl⟩
set_option maxRecDepth 100000 in
theorem walk_open {r : Reach} {b0 : Nat} {v : Value} {d : DataW H} {pl : List MemPlace} (hv : Value.okWide Try.prog w r b0 24 v) (h : DataW.Trod enc Try.prog w base (fun _ => true) held 24 v d pl)
    (hw : ∀ n ∈ d.weights Try.prog 24, n ≤ reachBytes) : ∃ lo hi a np m dd zs, v = .agg #[.int .i64 lo, .int .i64 hi, .int .i64 a, .slice np m dd] ∧ I64 lo ∧ I64 hi ∧ I64 a ∧ InN w np m dd zs := by
  obtain ⟨cs, rfl, hsz⟩ := okWide_struct Try.underlying24 hv
  obtain ⟨c0, c1, c2, c3, hcs⟩ := four (l := cs.toList) (by simpa using hsz.trans Try.cellsWalk)
  obtain rfl : cs = #[c0, c1, c2, c3] := by rw [← Array.toList_inj]; exact hcs
  obtain ⟨fuel, hf⟩ := h
  obtain ⟨ys, n, hx0, hx, hl, hlen, hfa⟩ := DataW.trod_struct Try.underlying24 hf
  have f0 : DataW.trod enc Try.prog w base (fun _ => true) held n 2 (([c0, c1, c2, c3].drop 0).take (Try.prog.cellsOf 2)) = ys[0]? := hfa 0 _ rfl
  have f1 : DataW.trod enc Try.prog w base (fun _ => true) held n 2 (([c0, c1, c2, c3].drop 1).take (Try.prog.cellsOf 2)) = ys[1]? := hfa 1 _ rfl
  have f2 : DataW.trod enc Try.prog w base (fun _ => true) held n 2 (([c0, c1, c2, c3].drop 2).take (Try.prog.cellsOf 2)) = ys[2]? := hfa 2 _ rfl
  have f3 : DataW.trod enc Try.prog w base (fun _ => true) held n 22 (([c0, c1, c2, c3].drop 3).take (Try.prog.cellsOf 22)) = ys[3]? := hfa 3 _ rfl
  simp only [Try.cellsI64, Try.cellsNs, List.drop_zero, List.drop_succ_cons, List.take_succ_cons, List.take_zero] at f0 f1 f2 f3
  have hy : ∀ i, i < 4 → ∃ y, ys[i]? = some y := fun i hi => ⟨ys[i]'(by rw [hlen]; exact hi), List.getElem?_eq_getElem _⟩
  obtain ⟨y0, e0⟩ := hy 0 (by omega)
  obtain ⟨y1, e1⟩ := hy 1 (by omega)
  obtain ⟨y2, e2⟩ := hy 2 (by omega)
  obtain ⟨y3, e3⟩ := hy 3 (by omega)
  rw [e0] at f0; rw [e1] at f1; rw [e2] at f2; rw [e3] at f3
  obtain ⟨z0, rfl, i0⟩ := int_open f0
  obtain ⟨z1, rfl, i1⟩ := int_open f1
  obtain ⟨z2, rfl, i2⟩ := int_open f2
  simp only [Prod.mk.injEq] at hx
  obtain ⟨rfl, _⟩ := hx
  have hw3 : ∀ n ∈ y3.1.weights Try.prog 22, n ≤ reachBytes := fun n hn => hw n (by
    simp only [DataW.weights, Try.underlying24]
    exact DataW.weights_mem_each (j := 3) (t := 22) rfl (by simp [e3]) n hn)
  obtain ⟨np, m, dd, zs, rfl, b1⟩ := ints_open f3 hw3
  exact ⟨z0, z1, z2, np, m, dd, zs, rfl, i0, i1, i2, b1⟩
end
end Go.Proofs.Ytgfegkcmoedgkab
