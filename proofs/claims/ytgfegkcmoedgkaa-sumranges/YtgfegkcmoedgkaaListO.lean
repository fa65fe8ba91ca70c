import Derived.Test.YtgfegkcmoedgkaaNums
import Derived.Test.YtgfegkcmoedgkaaPairO
namespace Go.Proofs.Ytgfegkcmoedgkaa
open Go.RowKit Go.ChangeShapes Go.WideShapes Go.Deep
section
variable {H : Type} {enc : TypeId × Value → H} {w : World} {base : Nat} {held : Bool}
theorem Try.bytesI64 : Try.prog.bytesOf 2 = 8 := by kernel_rfl
theorem Try.cellsNs : Try.prog.cellsOf 32 = 1 := by kernel_rfl
theorem addr_plain {a : Addr} {v : Value} (h : w.cell? a = some v) : ∃ g o, a = ⟨g, o, none⟩ := by
  obtain ⟨g, o, sp⟩ := a
  unfold World.cell? at h
  cases sp with
  | none => exact ⟨g, o, rfl⟩
  | some x => split at h <;> simp at h
theorem add_plain (g o j : Nat) : (⟨g, o, none⟩ : Addr).add j = ⟨g, o + j, none⟩ := by
  unfold Addr.add; split <;> simp_all
theorem ints_open {fuel : Nat} {v : Value} {x : DataW H × List MemPlace} (h : DataW.trod enc Try.prog w base (fun _ => true) held fuel 32 [v] = some x) (hw : ∀ n ∈ x.1.weights Try.prog 32, n ≤ reachBytes) :
    ∃ sp l c zs, v = .slice sp l c ∧ InN w sp l c zs := by
  rcases open_ints Try.underlying32 Try.underlying2 Try.cellsI64 h with ⟨hcs, hx⟩ | ⟨a, len, cap, zs, hcs, _, hl, hm, hz, hx, hcell, hwz⟩
  · simp at hcs
    exact ⟨none, 0, 0, [], hcs, rfl, by omega, by omega, Or.inl rfl, by simp⟩
  · simp at hcs hz
    have h1 := hw (cap * 8) (by rw [hx]; simp [DataW.weights, Try.underlying32, Try.bytesI64, lits, hz]; left; omega)
    have h2 : cap ≤ 17592186043904 := by simp only [reachBytes] at h1; omega
    refine ⟨some a, len, cap, zs.take len, hcs, by simp; omega, hl, h2, ?_, ?_⟩
    · by_cases h0 : len = 0
      · left; simp [h0]
      · right
        obtain ⟨g, o, rfl⟩ : ∃ g o, a = ⟨g, o, none⟩ := by
          have := hcell 0 (by omega)
          obtain ⟨g, o, e⟩ := addr_plain this
          refine ⟨g, o, ?_⟩
          simpa [Addr.add] using e
        refine ⟨g, o, rfl, ?_, fun j s hj => ?_⟩
        · have := block_lt_of_cell (hcell 0 (by omega)); rw [add_plain] at this; exact this
        · have hlt : j < len := by have := (List.getElem?_eq_some_iff.1 hj).1; simp at this; omega
          rw [List.getElem?_take_of_lt hlt] at hj
          have hj2 : j < zs.length := by omega
          have := hcell j (by omega)
          rw [add_plain] at this
          rw [this]
          rw [List.getElem?_eq_getElem hj2] at hj
          have := Option.some.inj hj
          first | rw [this] | simp [List.getD, List.getElem?_eq_getElem hj2, this]
    · intro z hz'
      exact i64_of (hwz z (List.mem_of_mem_take hz'))
end
end Go.Proofs.Ytgfegkcmoedgkaa
