import Derived.Test.YtolegbngjhfdlabDoorOpen
namespace Go.Proofs.YtolegbngjhfdlabDoor
open Go.RowKit Go.ChangeShapes Go.WideShapes Go.Deep

/-- Numbers that lie one behind the other. -/
def Nums (w : World) (p : Option Addr) (zs : List Int) : Prop := zs = [] ∨ ∃ g o, p = some ⟨g, o, none⟩ ∧ g < w.heap.size ∧ ∀ j z, zs[j]? = some z → w.cell? ⟨g, o + j, none⟩ = some (.int .i64 z)
theorem Nums.below {w w' : World} {p : Option Addr} {zs : List Int} (h : Nums w p zs) {n : Nat} (hb : Below n w w') (hn : w.heap.size ≤ n) : Nums w' p zs := by
  rcases h with h | ⟨g, o, e, hg, hc⟩
  · exact Or.inl h
  · exact Or.inr ⟨g, o, e, Nat.lt_of_lt_of_le hg hb.size, fun j s hs => by rw [hb.cell (p := ⟨g, o + j, none⟩) (by simp only; omega)]; exact hc j s hs⟩

/-- Texts that came in. -/
structure InS (w : World) (sp : Option Addr) (l c : Nat) (ls : List ByteArray) : Prop where
  len : ls.length = l
  cap : l ≤ c
  most : c ≤ 140737488351232
  lie : Strs w sp ls
  each : ∀ s ∈ ls, s.size ≤ 140737488351232
/-- Numbers that came in. -/
structure InN (w : World) (np : Option Addr) (m d : Nat) (zs : List Int) : Prop where
  len : zs.length = m
  cap : m ≤ d
  most : d ≤ 140737488351232
  lie : Nums w np zs
  each : ∀ z ∈ zs, -9223372036854775808 ≤ z ∧ z ≤ 9223372036854775807

section
variable {H : Type} {enc : TypeId × Value → H} {w : World} {base : Nat} {held : Bool}

theorem Tryd.cellsI64 : Tryd.prog.cellsOf 3 = 1 := by kernel_rfl
theorem Tryd.bytesI64 : Tryd.prog.bytesOf 3 = 8 := by kernel_rfl
theorem Tryd.cellsLs : Tryd.prog.cellsOf 22 = 1 := by kernel_rfl
theorem Tryd.cellsNs : Tryd.prog.cellsOf 23 = 1 := by kernel_rfl
theorem Tryd.cellsLine : Tryd.prog.cellsOf 25 = 2 := by kernel_rfl

theorem ints_open {fuel : Nat} {v : Value} {x : DataW H × List MemPlace} (h : DataW.trod enc Tryd.prog w base (fun _ => true) held fuel 23 [v] = some x) (hw : ∀ n ∈ x.1.weights Tryd.prog 23, n ≤ reachBytes) :
    ∃ sp l c zs, v = .slice sp l c ∧ InN w sp l c zs := by
  rcases open_ints Tryd.underlying23 Tryd.underlying3 Tryd.cellsI64 h with ⟨hcs, hx⟩ | ⟨a, len, cap, zs, hcs, _, hl, hm, hz, hx, hcell, hwz⟩
  · simp at hcs
    exact ⟨none, 0, 0, [], hcs, rfl, by omega, by omega, Or.inl rfl, by simp⟩
  · simp at hcs hz
    have h1 := hw (cap * 8) (by rw [hx]; simp [DataW.weights, Tryd.underlying23, Tryd.bytesI64, lits, hz]; left; omega)
    have h2 : cap ≤ 140737488351232 := by simp only [reachBytes] at h1; omega
    refine ⟨some a, len, cap, zs.take len, hcs, by simp; omega, hl, h2, ?_, ?_⟩
    · by_cases h0 : len = 0
      · left; simp [h0]
      · right
        obtain ⟨g, o, rfl⟩ : ∃ g o, a = ⟨g, o, none⟩ := by
          have := hcell 0 (by omega)
          obtain ⟨g, o, e⟩ := addr_plain this
          refine ⟨g, o, ?_⟩
          simpa [Addr.add] using e
        refine ⟨g, o, rfl, ?_, fun j s hj => ?_⟩
        · have := cell_block (hcell 0 (by omega)); rw [add_plain] at this; exact this
        · have hlt : j < len := by have := (List.getElem?_eq_some_iff.1 hj).1; simp at this; omega
          rw [List.getElem?_take_of_lt hlt] at hj
          have hj2 : j < zs.length := by omega
          have := hcell j (by omega)
          rw [add_plain] at this
          rw [this]
          rw [List.getElem?_eq_getElem hj2] at hj
          have := Option.some.inj hj
          first | rw [this] | simp [List.getD, List.getElem?_eq_getElem hj2, this]
    · intro z hz'
      exact bounds_i64 (hwz z (List.mem_of_mem_take hz'))

theorem two {l : List Value} (h : l.length = 2) : ∃ a b, l = [a, b] := by
  match l, h with
  | [a, b], _ => exact ⟨a, b, rfl⟩

set_option maxRecDepth 100000 in
theorem line_open {r : Reach} {b0 : Nat} {v : Value} {d : DataW H} {pl : List MemPlace} (hv : Value.okWide Tryd.prog w r b0 25 v) (h : DataW.Trod enc Tryd.prog w base (fun _ => true) held 25 v d pl)
    (hw : ∀ n ∈ d.weights Tryd.prog 25, n ≤ reachBytes) : ∃ sp l c ls np m dd zs, v = .agg #[.slice sp l c, .slice np m dd] ∧ InS w sp l c ls ∧ InN w np m dd zs := by
  obtain ⟨cs, rfl, hsz⟩ := okWide_struct Tryd.underlying25 hv
  obtain ⟨c0, c1, hcs⟩ := two (l := cs.toList) (by simpa using hsz.trans Tryd.cellsLine)
  obtain rfl : cs = #[c0, c1] := by rw [← Array.toList_inj]; exact hcs
  obtain ⟨fuel, hf⟩ := h
  obtain ⟨y0, y1, n, hx, _, h0, h1⟩ := trod_struct2 Tryd.underlying25 hf
  have h0' : DataW.trod enc Tryd.prog w base (fun _ => true) held n 22 [c0] = some y0 := by
    have : DataW.trod enc Tryd.prog w base (fun _ => true) held n 22 (([c0, c1].drop 0).take (Tryd.prog.cellsOf 22)) = some y0 := h0
    simpa [Tryd.cellsLs] using this
  have h1' : DataW.trod enc Tryd.prog w base (fun _ => true) held n 23 [c1] = some y1 := by
    have : DataW.trod enc Tryd.prog w base (fun _ => true) held n 23 (([c0, c1].drop 1).take (Tryd.prog.cellsOf 23)) = some y1 := h1
    simpa [Tryd.cellsNs] using this
  simp only [Prod.mk.injEq] at hx
  obtain ⟨rfl, _⟩ := hx
  have hw0 : ∀ n ∈ y0.1.weights Tryd.prog 22, n ≤ reachBytes := fun n hn => hw n (by
    simp only [DataW.weights, Tryd.underlying25]
    exact DataW.weights_mem_each (j := 0) (t := 22) rfl rfl n hn)
  have hw1 : ∀ n ∈ y1.1.weights Tryd.prog 23, n ≤ reachBytes := fun n hn => hw n (by
    simp only [DataW.weights, Tryd.underlying25]
    exact DataW.weights_mem_each (j := 1) (t := 23) rfl rfl n hn)
  obtain ⟨sp, l, c, ls, rfl, a1, a2, a3, a4, a5⟩ := strs_open h0' hw0
  obtain ⟨np, m, dd, zs, rfl, b1⟩ := ints_open h1' hw1
  exact ⟨sp, l, c, ls, np, m, dd, zs, rfl, ⟨a1, a2, a3, a4, a5⟩, b1⟩

end
end Go.Proofs.YtolegbngjhfdlabDoor
