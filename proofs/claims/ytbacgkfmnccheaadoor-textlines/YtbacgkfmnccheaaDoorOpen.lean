import Derived.Test.YtbacgkfmnccheaaDoorEqS
import Derived.ProofKit
import Derived.Lib.SmallJoins
import Derived.OpenShut
import Derived.SizedLaws
import Derived.SliceStrings
namespace Go.Proofs.YtbacgkfmnccheaaDoor
open Go.RowKit Go.ChangeShapes Go.WideShapes Go.Deep

section
variable {H : Type} {enc : TypeId × Value → H} {w : World} {base : Nat} {held : Bool}

theorem Tryd.cellsStr : Tryd.prog.cellsOf 9 = 1 := by kernel_rfl
theorem Tryd.bytesStr : Tryd.prog.bytesOf 9 = 16 := by kernel_rfl

theorem addr_plain {a : Addr} {v : Value} (h : w.cell? a = some v) : ∃ g o, a = ⟨g, o, none⟩ := by
  obtain ⟨g, o, sp⟩ := a
  unfold World.cell? at h
  cases sp with
  | none => exact ⟨g, o, rfl⟩
  | some x => split at h <;> simp at h
theorem add_plain (g o j : Nat) : (⟨g, o, none⟩ : Addr).add j = ⟨g, o + j, none⟩ := by
  unfold Addr.add; split <;> simp_all
theorem cell_block {w : World} {p : Addr} {v : Value} (h : w.cell? p = some v) : p.block < w.heap.size := by
  unfold World.cell? at h
  rcases Nat.lt_or_ge p.block w.heap.size with hl | hl
  · exact hl
  · rw [Array.getElem?_eq_none hl] at h; cases h
theorem weights_all {P : Program} {e : TypeId} : ∀ {l : List (DataW H)} {d : DataW H}, d ∈ l → ∀ n ∈ d.weights P e, n ∈ DataW.weightsAll P e l
  | d0 :: r, d, hd, n, hn => by
    simp only [DataW.weightsAll, List.mem_append]
    rcases List.mem_cons.1 hd with rfl | h
    · exact Or.inl hn
    · exact Or.inr (weights_all h n hn)
  | [], _, hd, _, _ => by cases hd

/-- Texts that came in. -/
theorem strs_open {fuel : Nat} {v : Value} {x : DataW H × List MemPlace} (h : DataW.trod enc Tryd.prog w base (fun _ => true) held fuel 22 [v] = some x) (hw : ∀ n ∈ x.1.weights Tryd.prog 22, n ≤ reachBytes) :
    ∃ sp l c ls, v = .slice sp l c ∧ ls.length = l ∧ l ≤ c ∧ c ≤ 140737488351232 ∧ Strs w sp ls ∧ ∀ s ∈ ls, s.size ≤ 140737488351232 := by
  rcases open_strings Tryd.underlying22 Tryd.underlying9 Tryd.cellsStr h with ⟨hcs, hx⟩ | ⟨a, len, cap, ss, hcs, _, hl, hm, hz, hx, hcell, hwz⟩
  · simp at hcs
    exact ⟨none, 0, 0, [], hcs, rfl, by omega, by omega, Or.inl rfl, by simp⟩
  · simp at hcs hz
    have h1 := hw ((len + (cap - len)) * 16) (by rw [hx]; simp [DataW.weights, Tryd.underlying22, Tryd.bytesStr, strs, hz]; left; omega)
    have h2 : cap ≤ 140737488351232 := by simp only [reachBytes] at h1; omega
    refine ⟨some a, len, cap, ss.take len, hcs, by simp; omega, hl, h2, ?_, ?_⟩
    · by_cases h0 : len = 0
      · left; simp [h0]
      · right
        obtain ⟨g, o, rfl⟩ : ∃ g o, a = ⟨g, o, none⟩ := by
          have := hcell 0 (by omega)
          obtain ⟨g, o, e⟩ := addr_plain this
          refine ⟨g, o, ?_⟩
          simpa [Addr.add] using e
        refine ⟨g, o, rfl, ?_, fun j s hj => ?_⟩
        · have := cell_block (hcell 0 (by omega)); rw [add_plain] at this; exact this
        · have hlt : j < len := by have := (List.getElem?_eq_some_iff.1 hj).1; simp at this; omega
          rw [List.getElem?_take_of_lt hlt] at hj
          have := hcell j (by omega)
          rw [add_plain] at this
          rw [this, List.getD, hj]
          rfl
    · intro s hs
      have := hw s.data.toList.length (by
        rw [hx]
        simp only [DataW.weights, Tryd.underlying22, List.mem_cons, List.mem_append]
        refine Or.inr (Or.inl (weights_all (d := .lit (.string s.data.toList)) (List.mem_map.2 ⟨s, hs, rfl⟩) _ ?_))
        simp [DataW.weights])
      simpa [reachBytes] using this

end
end Go.Proofs.YtbacgkfmnccheaaDoor
