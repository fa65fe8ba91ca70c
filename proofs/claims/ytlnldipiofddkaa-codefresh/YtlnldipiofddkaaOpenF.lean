import Derived.Test.YtlnldipiofddkaaOpen
namespace Go.Proofs.Ytlnldipiofddkaa
open Go.RowKit Go.ChangeShapes Go.WideShapes Go.Deep

section
variable {H : Type} {enc : TypeId × Value → H} {w : World} {base : Nat} {held : Bool}

/-- A list that came in lies in a block outright, or has no room. -/
theorem bytes_form {fuel : Nat} {sp : Option Addr} {l c : Nat} {x : DataW H × List MemPlace} (h : DataW.trod enc Try.prog w base (fun _ => true) held fuel 22 [.slice sp l c] = some x) : c = 0 ∨ ∃ g o, sp = some ⟨g, o, none⟩ := by
  rcases open_ints Try.underlying22 Try.underlying5 Try.cells5 h with ⟨hcs, hx⟩ | ⟨a, len, cap, zs, hcs, _, hl, hm, hz, hx, hcell, hwz⟩
  · simp at hcs
    exact Or.inl hcs.2.2
  · simp at hcs hz
    obtain ⟨rfl, rfl, rfl⟩ := hcs
    by_cases h0 : c = 0
    · exact Or.inl h0
    · have := hcell 0 (by omega)
      obtain ⟨g, o, e⟩ := addr_plain this
      exact Or.inr ⟨g, o, by simpa [Addr.add] using e⟩

set_option maxRecDepth 100000 in
theorem scr_form {r : Reach} {b0 : Nat} {s : Scr} {d : DataW H} {pl : List MemPlace} (hv : Value.okWide Try.prog w r b0 26 (.agg s.cells)) (h : DataW.Trod enc Try.prog w base (fun _ => true) held 26 (.agg s.cells) d pl) : s.c0 = 0 ∨ ∃ g o, s.p0 = some ⟨g, o, none⟩ := by
  obtain ⟨p0, n0, c0, xs, p1, l1, c1, x1, po, lo, co, ops⟩ := s
  obtain ⟨fuel, hf⟩ := h
  obtain ⟨y0, y1, n, hx, _, h0, h1⟩ := trod_struct2 Try.underlying26 hf
  have h0' : DataW.trod enc Try.prog w base (fun _ => true) held n 23 [.slice p0 n0 c0, .slice p1 l1 c1] = some y0 := by
    have : DataW.trod enc Try.prog w base (fun _ => true) held n 23 (([.slice p0 n0 c0, .slice p1 l1 c1, .slice po lo co].drop 0).take (Try.prog.cellsOf 23)) = some y0 := h0
    simpa [Try.cellsIn] using this
  obtain ⟨ys, m, _, rfl, hl, hlen, hfa⟩ := DataW.trod_array Try.underlying23 h0'
  have hy : ∀ i, i < 2 → ∃ y, ys[i]? = some y := fun i hi => ⟨ys[i]'(by rw [hlen]; exact hi), List.getElem?_eq_getElem _⟩
  obtain ⟨z0, e0⟩ := hy 0 (by omega)
  have f0 := hfa 0 (by omega)
  rw [e0] at f0
  simp only [Try.cellsB, Nat.zero_mul, List.drop_zero, List.take_succ_cons, List.take_zero] at f0
  exact bytes_form f0

end
end Go.Proofs.Ytlnldipiofddkaa
