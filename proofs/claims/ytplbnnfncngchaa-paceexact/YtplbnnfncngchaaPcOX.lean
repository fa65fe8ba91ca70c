import Derived.Test.YtplbnnfncngchaaPcX
import Derived.Test.YtplbnnfncngchaaPcO
namespace Go.Proofs.Ytplbnnfncngchaa
open Go.RowKit Go.ChangeShapes Go.WideShapes Go.Deep

section
variable {H : Type} {enc : TypeId × Value → H} {w : World} {base : Nat} {held : Bool}
theorem Try.cellsOp : Try.prog.cellsOf 34 = 3 := by kernel_rfl
theorem Try.bytesOp : Try.prog.bytesOf 34 = 24 := by kernel_rfl
theorem Try.cellsOps : Try.prog.cellsOf 23 = 1 := by kernel_rfl
theorem Try.cellsTwo : Try.prog.cellsOf 22 = 2 := by kernel_rfl
theorem Try.cellsScr : Try.prog.cellsOf 25 = 3 := by kernel_rfl
theorem op_open {fuel : Nat} {cs : List Value} {x : DataW H × List MemPlace} (h : DataW.trod enc Try.prog w base (fun _ => true) held fuel 34 cs = some x) : ∃ a b c, cs = [.int .i64 a, .int .i64 b, .int .i64 c] := by
  obtain ⟨y0, y1, y2, n, _, hl, h0, h1, h2⟩ := trod_struct3 Try.underlying34 h
  rw [Try.cellsOp] at hl
  obtain ⟨a, b, c, rfl⟩ := three hl
  have h0' : DataW.trod enc Try.prog w base (fun _ => true) held n 3 [a] = some y0 := by
    have : DataW.trod enc Try.prog w base (fun _ => true) held n 3 (([a, b, c].drop 0).take (Try.prog.cellsOf 3)) = some y0 := h0
    simpa [Try.cellsInt] using this
  have h1' : DataW.trod enc Try.prog w base (fun _ => true) held n 3 [b] = some y1 := by
    have : DataW.trod enc Try.prog w base (fun _ => true) held n 3 (([a, b, c].drop 1).take (Try.prog.cellsOf 3)) = some y1 := h1
    simpa [Try.cellsInt] using this
  have h2' : DataW.trod enc Try.prog w base (fun _ => true) held n 3 [c] = some y2 := by
    have : DataW.trod enc Try.prog w base (fun _ => true) held n 3 (([a, b, c].drop 2).take (Try.prog.cellsOf 3)) = some y2 := h2
    simpa [Try.cellsInt] using this
  obtain ⟨z0, g0, _, _⟩ := DataW.trod_int Try.underlying3 h0'
  obtain ⟨z1, g1, _, _⟩ := DataW.trod_int Try.underlying3 h1'
  obtain ⟨z2, g2, _, _⟩ := DataW.trod_int Try.underlying3 h2'
  simp at g0 g1 g2
  subst g0 g1 g2
  exact ⟨z0, z1, z2, rfl⟩
theorem ops_open {fuel : Nat} {v : Value} {x : DataW H × List MemPlace} (h : DataW.trod enc Try.prog w base (fun _ => true) held fuel 23 [v] = some x) (hw : ∀ n ∈ x.1.weights Try.prog 23, n ≤ reachBytes) :
    ∃ sp l c xs, v = .slice sp l c ∧ xs.length = l ∧ l ≤ 140737488355328 ∧ Stps w sp xs := by
  rcases open_slice Try.underlying23 h with ⟨hcs, hx⟩ | ⟨a, len, cap, m, n, D, Pl, hcs, _, hl, hm, hmm, hx, hel⟩
  · simp at hcs
    exact ⟨none, 0, 0, [], hcs, rfl, by omega, ⟨Or.inl rfl⟩⟩
  · simp at hcs hmm
    rw [Try.cellsOp] at hel
    have hD : x.1 = .slice ((List.range len).map D) ((List.range (m - len)).map fun j => D (len + j)) := by rw [hx]
    have hcap : cap ≤ 140737488355328 := by
      have h1 := hw ((len + (m - len)) * 24) (by rw [hD]; simp [DataW.weights, Try.underlying23, Try.bytesOp])
      simp only [reachBytes] at h1
      omega
    obtain ⟨f, hf⟩ := @choose_lt (Int × Int × Int) ⟨(0, 0, 0)⟩ len (fun i p => w.cells? base (a.add (i * 3)) 3 = some [.int .i64 p.1, .int .i64 p.2.1, .int .i64 p.2.2]) (fun i hi => by
      obtain ⟨cs', h1, h2⟩ := hel i (by omega)
      obtain ⟨d, z, y, rfl⟩ := op_open h2
      exact ⟨(d, z, y), h1⟩)
    refine ⟨some a, len, cap, (List.range len).map f, hcs, by simp, by omega, ⟨?_⟩⟩
    by_cases h0 : len = 0
    · left; simp [h0]
    · right
      have c0 := (World.cells?_some (hf 0 (by omega))).2.2 0 (by omega)
      obtain ⟨g, o, rfl⟩ : ∃ g o, a = ⟨g, o, none⟩ := by
        obtain ⟨g, o, e⟩ := addr_plain (v := .int .i64 (f 0).1) (by simpa using c0)
        exact ⟨g, o, by simpa [Addr.add] using e⟩
      refine ⟨g, o, rfl, ?_, fun j d z y hj => ?_⟩
      · have := cell_block (v := .int .i64 (f 0).1) (by simpa using c0)
        simpa [add_plain] using this
      · have hjl : j < len := by
          have := (List.getElem?_eq_some_iff.1 hj).1
          simpa using this
        rw [List.getElem?_map, List.getElem?_range hjl] at hj
        simp at hj
        have e0 := (World.cells?_some (hf j hjl)).2.2 0 (by omega)
        have e1 := (World.cells?_some (hf j hjl)).2.2 1 (by omega)
        have e2 := (World.cells?_some (hf j hjl)).2.2 2 (by omega)
        simp only [add_plain, hj] at e0 e1 e2
        exact ⟨by simpa using e0, by simpa using e1, by simpa using e2⟩
set_option maxRecDepth 100000 in
/-- A script that came in. -/
theorem scr_open {r : Reach} {b0 : Nat} {v : Value} {d : DataW H} {pl : List MemPlace} (hv : Value.okWide Try.prog w r b0 25 v) (h : DataW.Trod enc Try.prog w base (fun _ => true) held 25 v d pl)
    (hw : ∀ n ∈ d.weights Try.prog 25, n ≤ reachBytes) : ∃ z0 z1 sp l c xs, v = .agg #[.int .i64 z0, .int .i64 z1, .slice sp l c] ∧ xs.length = l ∧ l ≤ 140737488355328 ∧ Stps w sp xs := by
  obtain ⟨cs, rfl, hsz⟩ := okWide_struct Try.underlying25 hv
  obtain ⟨c0, c1, c2, rfl⟩ := Joins.array3 (hsz.trans Try.cellsScr)
  obtain ⟨fuel, hf0⟩ := h
  obtain ⟨y0, y1, n, hx, _, h0, h1⟩ := trod_struct2 Try.underlying25 hf0
  have h0' : DataW.trod enc Try.prog w base (fun _ => true) held n 22 [c0, c1] = some y0 := by
    have : DataW.trod enc Try.prog w base (fun _ => true) held n 22 (([c0, c1, c2].drop 0).take (Try.prog.cellsOf 22)) = some y0 := h0
    simpa [Try.cellsTwo] using this
  have h1' : DataW.trod enc Try.prog w base (fun _ => true) held n 23 [c2] = some y1 := by
    have : DataW.trod enc Try.prog w base (fun _ => true) held n 23 (([c0, c1, c2].drop 2).take (Try.prog.cellsOf 23)) = some y1 := h1
    simpa [Try.cellsOps] using this
  simp only [Prod.mk.injEq] at hx
  obtain ⟨rfl, _⟩ := hx
  have hw1 : ∀ n ∈ y1.1.weights Try.prog 23, n ≤ reachBytes := fun n hn => hw n (by
    simp only [DataW.weights, Try.underlying25]
    exact DataW.weights_mem_each (j := 1) (t := 23) rfl rfl n hn)
  obtain ⟨ys, m, _, _, _, hlen, hf⟩ := DataW.trod_array Try.underlying22 h0'
  have f0 := hf 0 (by omega)
  have f1 := hf 1 (by omega)
  simp only [Try.cellsInt, Nat.zero_mul, Nat.one_mul, List.drop_zero, List.drop_succ_cons, List.take_succ_cons, List.take_zero] at f0 f1
  have hy : ∀ i, i < 2 → ∃ y, ys[i]? = some y := fun i hi => ⟨ys[i]'(by rw [hlen]; exact hi), List.getElem?_eq_getElem _⟩
  obtain ⟨u0, e0⟩ := hy 0 (by omega)
  obtain ⟨u1, e1⟩ := hy 1 (by omega)
  rw [e0] at f0
  rw [e1] at f1
  obtain ⟨z0, g0, _, _⟩ := DataW.trod_int Try.underlying3 f0
  obtain ⟨z1, g1, _, _⟩ := DataW.trod_int Try.underlying3 f1
  obtain ⟨sp, l, c, xs, rfl, o1, o2, o3⟩ := ops_open h1' hw1
  simp at g0 g1
  subst g0 g1
  exact ⟨z0, z1, sp, l, c, xs, rfl, o1, o2, o3⟩
end
end Go.Proofs.Ytplbnnfncngchaa
