import Derived.Test.YtlmfohcdaahojabGreatDoorJCallO
import Derived.Deep.Strs
namespace Go.Proofs.YtlmfohcdaahojabGreatDoor
open Go.RowKit Go.ChangeShapes Go.WideShapes Go.ChangeAt Go.Deep

section
variable {H : Type} {enc : TypeId × Value → H} {w : World} {base : Nat} {held : Bool}
theorem Tryz.cellsHurt : Tryz.prog.cellsOf 51 = 3 := by kernel_rfl
theorem calls_big {fuel : Nat} {sp : Option Addr} {l c : Nat} {x : DataW H × List MemPlace} (h : DataW.trod enc Tryz.prog w base (fun _ => true) held fuel 22 [.slice sp l c] = some x) (hw : ∀ n ∈ x.1.weights Tryz.prog 22, n ≤ reachBytes) : l * 32 ≤ 140737488351232 := by
  rcases open_slice Tryz.underlying22 h with ⟨hcs, hx⟩ | ⟨a, len, cap, m, n, D, Pl, hcs, _, hl, hm, hmm, hx, hel⟩
  · simp at hcs
    omega
  · simp at hcs hmm
    have hD : x.1 = .slice ((List.range len).map D) ((List.range (m - len)).map fun j => D (len + j)) := by rw [hx]
    have h1 := hw ((len + (m - len)) * 32) (by rw [hD]; simp [DataW.weights, Tryz.underlying22, Tryz.bytesCl])
    simp only [reachBytes] at h1
    omega
set_option maxRecDepth 100000 in
/-- A Hurt that came in. -/
theorem hurt_open {r : Reach} {b0 : Nat} {v : Value} {d : DataW H} {pl : List MemPlace} (hv : Value.okWide Tryz.prog w r b0 51 v) (h : DataW.Trod enc Tryz.prog w base (fun _ => true) held 51 v d pl)
    (hw : ∀ n ∈ d.weights Tryz.prog 51, n ≤ reachBytes) : ∃ sp l c cl cz bz, v = .agg #[.slice sp l c, .int .i64 cz, .int .i64 bz] ∧ (cl.length = l ∧ l * 32 ≤ 140737488351232 ∧ Cls w sp cl ∧ ∀ q ∈ cl, ClOk w q) := by
  obtain ⟨cs, rfl, hsz⟩ := okWide_struct Tryz.underlying51 hv
  obtain ⟨c0, c1, c2, rfl⟩ := Joins.array3 (hsz.trans Tryz.cellsHurt)
  obtain ⟨fuel, hf0⟩ := h
  obtain ⟨y0, y1, y2, n, hx, _, h0, h1, h2⟩ := trod_struct3 Tryz.underlying51 hf0
  have h0' : DataW.trod enc Tryz.prog w base (fun _ => true) held n 22 [c0] = some y0 := by
    have : DataW.trod enc Tryz.prog w base (fun _ => true) held n 22 (([c0, c1, c2].drop 0).take (Tryz.prog.cellsOf 22)) = some y0 := h0
    simpa [Tryz.cellsCls] using this
  have h1' : DataW.trod enc Tryz.prog w base (fun _ => true) held n 3 [c1] = some y1 := by
    have : DataW.trod enc Tryz.prog w base (fun _ => true) held n 3 (([c0, c1, c2].drop 1).take (Tryz.prog.cellsOf 3)) = some y1 := h1
    simpa [Tryz.cellsInt] using this
  have h2' : DataW.trod enc Tryz.prog w base (fun _ => true) held n 3 [c2] = some y2 := by
    have : DataW.trod enc Tryz.prog w base (fun _ => true) held n 3 (([c0, c1, c2].drop 2).take (Tryz.prog.cellsOf 3)) = some y2 := h2
    simpa [Tryz.cellsInt] using this
  simp only [Prod.mk.injEq] at hx
  obtain ⟨rfl, _⟩ := hx
  have hw0 : ∀ n ∈ y0.1.weights Tryz.prog 22, n ≤ reachBytes := fun n hn => hw n (by
    simp only [DataW.weights, Tryz.underlying51]
    exact DataW.weights_mem_each (j := 0) (t := 22) rfl rfl n hn)
  obtain ⟨sp, l, c, cl, rfl, a1, a2, a3, a4⟩ := calls_open h0' hw0
  obtain ⟨z1, g1, _, _⟩ := DataW.trod_int Tryz.underlying3 h1'
  obtain ⟨z2, g2, _, _⟩ := DataW.trod_int Tryz.underlying3 h2'
  simp at g1 g2
  subst g1 g2
  exact ⟨sp, l, c, cl, z1, z2, rfl, a1, calls_big h0' hw0, a3, a4⟩
end
end Go.Proofs.YtlmfohcdaahojabGreatDoor
