import Derived.Test.YtjjhpffkeloadaaGreatDoorLkO
import Derived.Test.YtjjhpffkeloadaaGreatDoorFrA
namespace Go.Proofs.YtjjhpffkeloadaaGreatDoor
open Go.RowKit Go.ChangeShapes Go.WideShapes Go.ChangeAt Go.Deep

section
variable {H : Type} {enc : TypeId × Value → H} {w : World} {base : Nat} {held : Bool}
/-- A list that came in lies in a block outright, or has no room. -/
theorem bytes_form {fuel : Nat} {sp : Option Addr} {l c : Nat} {x : DataW H × List MemPlace} (h : DataW.trod enc Tryz.prog w base (fun _ => true) held fuel 55 [.slice sp l c] = some x) : c = 0 ∨ ∃ g o, sp = some ⟨g, o, none⟩ := by
  rcases open_ints Tryz.underlying55 Tryz.underlying5 Tryz.cells5 h with ⟨hcs, hx⟩ | ⟨a, len, cap, zs, hcs, _, hl, hm, hz, hx, hcell, hwz⟩
  · simp at hcs
    exact Or.inl hcs.2.2
  · simp at hcs hz
    obtain ⟨rfl, rfl, rfl⟩ := hcs
    by_cases h0 : c = 0
    · exact Or.inl h0
    · have := hcell 0 (by omega)
      obtain ⟨g, o, e⟩ := addr_plain this
      exact Or.inr ⟨g, o, by simpa [Addr.add] using e⟩

theorem partsf_open {fuel : Nat} {v : Value} {x : DataW H × List MemPlace} (h : DataW.trod enc Tryz.prog w base (fun _ => true) held fuel 23 [v] = some x) (hw : ∀ n ∈ x.1.weights Tryz.prog 23, n ≤ reachBytes) :
    ∃ pp k cap ps, v = .slice pp k cap ∧ ps.length = k ∧ k ≤ 140737488351232 ∧ PtF w pp ps := by
  rcases open_slice Tryz.underlying23 h with ⟨hcs, hx⟩ | ⟨a, len, cap, m, n, D, Pl, hcs, _, hl, hm, hmm, hx, hel⟩
  · simp at hcs
    exact ⟨none, 0, 0, [], hcs, rfl, by omega, ⟨fun _ h => (by cases h), fun j p h => (by simp at h)⟩⟩
  · simp at hcs hmm
    rw [Tryz.cellsB] at hel
    have hD : x.1 = .slice ((List.range len).map D) ((List.range (m - len)).map fun j => D (len + j)) := by rw [hx]
    have hcap : cap ≤ 140737488351232 := by
      have h1 := hw ((len + (m - len)) * 24) (by rw [hD]; simp [DataW.weights, Tryz.underlying23, Tryz.bytesB])
      simp only [reachBytes] at h1
      omega
    have hDw : ∀ i, i < len → ∀ n ∈ (D i).weights Tryz.prog 55, n ≤ reachBytes := fun i hi n hn => hw n (by
      rw [hD]
      simp only [DataW.weights, Tryz.underlying23, List.mem_cons, List.mem_append]
      exact Or.inr (Or.inl (weights_all (List.mem_map.2 ⟨i, List.mem_range.2 hi, rfl⟩) n hn)))
    obtain ⟨f, hf⟩ := @choose_lt (Option Addr × Nat × List Nat) ⟨(none, 0, [])⟩ len (fun i p => w.cells? base (a.add (i * 1)) 1 = some [.slice p.1 p.2.2.length p.2.1] ∧ p.2.2.length ≤ 140737488351232 ∧ Bytes w p.1 p.2.2 ∧ p.2.2.length ≤ p.2.1 ∧ p.2.1 ≤ 140737488351232 ∧ ((p.2.1 = 0 ∧ p.2.2 = []) ∨ ∃ g' o', p.1 = some ⟨g', o', none⟩)) (fun i hi => by
      obtain ⟨cs', h1, h2⟩ := hel i (by omega)
      obtain ⟨u, hu⟩ : ∃ u, cs' = [u] := List.length_eq_one_iff.1 (World.cells?_some h1).2.1
      subst hu
      obtain ⟨sp, l, c, xs, rfl, q1, q2, q3, q4, _⟩ := bytes_open h2 (hDw i hi)
      exact ⟨(sp, c, xs), by rw [h1, q1], by show xs.length ≤ _; omega, q4, by show xs.length ≤ c; omega, q3, by
        show (c = 0 ∧ xs = []) ∨ ∃ g' o', sp = some ⟨g', o', none⟩
        rcases bytes_form h2 with hc0 | hc0
        · exact Or.inl ⟨hc0, List.eq_nil_of_length_eq_zero (by omega)⟩
        · exact Or.inr hc0⟩)
    refine ⟨some a, len, cap, (List.range len).map fun i => (f i).2.2, hcs, by simp, by omega, ⟨fun p hp => ?_, fun j p hj => ?_⟩⟩
    · simp only [List.mem_map, List.mem_range] at hp
      obtain ⟨i, hi, rfl⟩ := hp
      exact (hf i hi).2.1
    · have hjl : j < len := by
        have := (List.getElem?_eq_some_iff.1 hj).1
        simpa using this
      rw [List.getElem?_map, List.getElem?_range hjl] at hj
      simp at hj
      subst hj
      have c0 := (World.cells?_some (hf 0 (by omega)).1).2.2 0 (by omega)
      obtain ⟨g, o, rfl⟩ : ∃ g o, a = ⟨g, o, none⟩ := by
        obtain ⟨g, o, e⟩ := addr_plain (v := .slice (f 0).1 (f 0).2.2.length (f 0).2.1) (by simpa using c0)
        exact ⟨g, o, by simpa [Addr.add] using e⟩
      have hg : g < w.heap.size := by
        have := cell_block (v := .slice (f 0).1 (f 0).2.2.length (f 0).2.1) (by simpa using c0)
        simpa [add_plain] using this
      have e0 := (World.cells?_some (hf j hjl).1).2.2 0 (by omega)
      simp only [add_plain] at e0
      exact ⟨g, o, (f j).1, (f j).2.1, rfl, hg, by simpa using e0, (hf j hjl).2.2⟩
/-- Frames and bytes that came in. -/
theorem twof_open {fuel : Nat} {v0 v1 : Value} {x : DataW H × List MemPlace} (h : DataW.trod enc Tryz.prog w base (fun _ => true) held fuel 25 [v0, v1] = some x) (hw : ∀ n ∈ x.1.weights Tryz.prog 25, n ≤ reachBytes) :
    ∃ sp l c es sq m d ps, v0 = .slice sp l c ∧ v1 = .slice sq m d ∧ es.length = l ∧ l ≤ 140737488351232 ∧ Frs w sp es ∧ ps.length = m ∧ m ≤ 140737488351232 ∧ PtF w sq ps := by
  obtain ⟨ys, n, _, rfl, hl, hlen, hf⟩ := DataW.trod_struct Tryz.underlying25 h
  have f0 : DataW.trod enc Tryz.prog w base (fun _ => true) held n 22 (([v0, v1].drop 0).take (Tryz.prog.cellsOf 22)) = ys[0]? := hf 0 _ rfl
  have f1 : DataW.trod enc Tryz.prog w base (fun _ => true) held n 23 (([v0, v1].drop 1).take (Tryz.prog.cellsOf 23)) = ys[1]? := hf 1 _ rfl
  simp only [Tryz.cellsFrs, Tryz.cellsBB, List.drop_zero, List.drop_succ_cons, List.take_succ_cons, List.take_zero] at f0 f1
  have hy : ∀ i, i < 2 → ∃ y, ys[i]? = some y := fun i hi => ⟨ys[i]'(by rw [hlen]; exact hi), List.getElem?_eq_getElem _⟩
  obtain ⟨y0, e0⟩ := hy 0 (by omega)
  obtain ⟨y1, e1⟩ := hy 1 (by omega)
  rw [e0] at f0
  rw [e1] at f1
  have hw0 : ∀ n ∈ y0.1.weights Tryz.prog 22, n ≤ reachBytes := fun n hn => hw n (by
    simp only [DataW.weights, Tryz.underlying25]
    exact DataW.weights_mem_each (j := 0) (t := 22) rfl (by simp [e0]) n hn)
  have hw1 : ∀ n ∈ y1.1.weights Tryz.prog 23, n ≤ reachBytes := fun n hn => hw n (by
    simp only [DataW.weights, Tryz.underlying25]
    exact DataW.weights_mem_each (j := 1) (t := 23) rfl (by simp [e1]) n hn)
  obtain ⟨sp, l, c, es, rfl, a1, a2, a3⟩ := frames_open f0 hw0
  obtain ⟨sq, m, d, ps, rfl, b1, b2, b3⟩ := partsf_open f1 hw1
  exact ⟨sp, l, c, es, sq, m, d, ps, rfl, rfl, a1, a2, a3, b1, b2, b3⟩
set_option maxRecDepth 100000 in
/-- What LinkFrames is handed. -/
theorem frarg_open {r : Reach} {b0 : Nat} {v : Value} {d : DataW H} {pl : List MemPlace} (hv : Value.okWide Tryz.prog w r b0 25 v) (h : DataW.Trod enc Tryz.prog w base (fun _ => true) held 25 v d pl)
    (hw : ∀ n ∈ d.weights Tryz.prog 25, n ≤ reachBytes) : ∃ sp l c es sq m d ps, v = .agg #[.slice sp l c, .slice sq m d] ∧ es.length = l ∧ l ≤ 140737488351232 ∧ Frs w sp es ∧ ps.length = m ∧ m ≤ 140737488351232 ∧ PtF w sq ps := by
  obtain ⟨cs, rfl, hsz⟩ := okWide_struct Tryz.underlying25 hv
  obtain ⟨c0, c1, rfl⟩ := array2 (hsz.trans Tryz.cellsFrames)
  obtain ⟨fuel, hf0⟩ := h
  obtain ⟨sp, l, c, es, sq, m, d', ps, rfl, rfl, a1, a2, a3, a4, a5, a6⟩ := twof_open hf0 hw
  exact ⟨sp, l, c, es, sq, m, d', ps, rfl, a1, a2, a3, a4, a5, a6⟩
end
end Go.Proofs.YtjjhpffkeloadaaGreatDoor
