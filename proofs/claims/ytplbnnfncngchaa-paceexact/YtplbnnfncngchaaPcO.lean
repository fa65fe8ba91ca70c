import Derived.Test.YtplbnnfncngchaaPcE
import Derived.ProofKit
import Derived.Lib.SmallJoins
import Derived.OpenShut
import Derived.SizedLaws
import Derived.Deep.Strs
namespace Go.Proofs.Ytplbnnfncngchaa
open Go.RowKit Go.ChangeShapes Go.WideShapes Go.Deep

section
variable {H : Type} {enc : TypeId × Value → H} {w : World} {base : Nat} {held : Bool}
theorem Try.cellsInt : Try.prog.cellsOf 3 = 1 := by kernel_rfl
theorem Try.bytesInt : Try.prog.bytesOf 3 = 8 := by kernel_rfl
theorem Try.cellsInts : Try.prog.cellsOf 38 = 1 := by kernel_rfl
theorem Try.cellsRun : Try.prog.cellsOf 40 = 3 := by kernel_rfl
theorem addr_plain {a : Addr} {v : Value} (h : w.cell? a = some v) : ∃ g o, a = ⟨g, o, none⟩ := by
  obtain ⟨g, o, sp⟩ := a
  unfold World.cell? at h
  cases sp with
  | none => exact ⟨g, o, rfl⟩
  | some x => split at h <;> simp at h
theorem add_plain (g o j : Nat) : (⟨g, o, none⟩ : Addr).add j = ⟨g, o + j, none⟩ := by
  unfold Addr.add; split <;> simp_all
theorem three {l : List Value} (h : l.length = 3) : ∃ a b c, l = [a, b, c] := by
  match l, h with
  | [a, b, c], _ => exact ⟨a, b, c, rfl⟩
theorem one {l : List Value} (h : l.length = 1) : ∃ a, l = [a] := by
  match l, h with
  | [a], _ => exact ⟨a, rfl⟩
theorem ints_open {fuel : Nat} {v : Value} {x : DataW H × List MemPlace} (h : DataW.trod enc Try.prog w base (fun _ => true) held fuel 38 [v] = some x) (hw : ∀ n ∈ x.1.weights Try.prog 38, n ≤ reachBytes) :
    ∃ sp l c xs, v = .slice sp l c ∧ xs.length = l ∧ l ≤ 140737488355328 ∧ Nums w sp xs := by
  rcases open_slice Try.underlying38 h with ⟨hcs, hx⟩ | ⟨a, len, cap, m, n, D, Pl, hcs, _, hl, hm, hmm, hx, hel⟩
  · simp at hcs
    exact ⟨none, 0, 0, [], hcs, rfl, by omega, ⟨Or.inl rfl⟩⟩
  · simp at hcs hmm
    rw [Try.cellsInt] at hel
    have hD : x.1 = .slice ((List.range len).map D) ((List.range (m - len)).map fun j => D (len + j)) := by rw [hx]
    have hcap : cap ≤ 140737488355328 := by
      have h1 := hw ((len + (m - len)) * 8) (by rw [hD]; simp [DataW.weights, Try.underlying38, Try.bytesInt])
      simp only [reachBytes] at h1
      omega
    obtain ⟨f, hf⟩ := @choose_lt Int ⟨0⟩ len (fun i p => w.cells? base (a.add (i * 1)) 1 = some [.int .i64 p]) (fun i hi => by
      obtain ⟨cs', h1, h2⟩ := hel i (by omega)
      obtain ⟨e, rfl⟩ := one (World.cells?_some h1).2.1
      obtain ⟨z, g0, _, _⟩ := DataW.trod_int Try.underlying3 h2
      simp at g0
      subst g0
      exact ⟨z, h1⟩)
    refine ⟨some a, len, cap, (List.range len).map f, hcs, by simp, by omega, ⟨?_⟩⟩
    by_cases h0 : len = 0
    · left; simp [h0]
    · right
      have c0 := (World.cells?_some (hf 0 (by omega))).2.2 0 (by omega)
      obtain ⟨g, o, rfl⟩ : ∃ g o, a = ⟨g, o, none⟩ := by
        obtain ⟨g, o, e⟩ := addr_plain (v := .int .i64 (f 0)) (by simpa using c0)
        exact ⟨g, o, by simpa [Addr.add] using e⟩
      refine ⟨g, o, rfl, ?_, fun j z hj => ?_⟩
      · have := cell_block (v := .int .i64 (f 0)) (by simpa using c0)
        simpa [add_plain] using this
      · have hjl : j < len := by
          have := (List.getElem?_eq_some_iff.1 hj).1
          simpa using this
        rw [List.getElem?_map, List.getElem?_range hjl] at hj
        simp at hj
        have e0 := (World.cells?_some (hf j hjl)).2.2 0 (by omega)
        simp only [add_plain, hj] at e0
        simpa using e0
set_option maxRecDepth 100000 in
/-- A run that came in. -/
theorem run_open {r : Reach} {b0 : Nat} {v : Value} {d : DataW H} {pl : List MemPlace} (hv : Value.okWide Try.prog w r b0 40 v) (h : DataW.Trod enc Try.prog w base (fun _ => true) held 40 v d pl)
    (hw : ∀ n ∈ d.weights Try.prog 40, n ≤ reachBytes) : ∃ z sp l c tz xs, v = .agg #[.int .i64 z, .slice sp l c, .int .i64 tz] ∧ xs.length = l ∧ l ≤ 140737488355328 ∧ Nums w sp xs := by
  obtain ⟨cs, rfl, hsz⟩ := okWide_struct Try.underlying40 hv
  obtain ⟨c0, c1, c2, rfl⟩ := Joins.array3 (hsz.trans Try.cellsRun)
  obtain ⟨fuel, hf0⟩ := h
  obtain ⟨y0, y1, y2, n, hx, _, h0, h1, h2⟩ := trod_struct3 Try.underlying40 hf0
  have h0' : DataW.trod enc Try.prog w base (fun _ => true) held n 3 [c0] = some y0 := by
    have : DataW.trod enc Try.prog w base (fun _ => true) held n 3 (([c0, c1, c2].drop 0).take (Try.prog.cellsOf 3)) = some y0 := h0
    simpa [Try.cellsInt] using this
  have h1' : DataW.trod enc Try.prog w base (fun _ => true) held n 38 [c1] = some y1 := by
    have : DataW.trod enc Try.prog w base (fun _ => true) held n 38 (([c0, c1, c2].drop 1).take (Try.prog.cellsOf 38)) = some y1 := h1
    simpa [Try.cellsInts] using this
  have h2' : DataW.trod enc Try.prog w base (fun _ => true) held n 3 [c2] = some y2 := by
    have : DataW.trod enc Try.prog w base (fun _ => true) held n 3 (([c0, c1, c2].drop 2).take (Try.prog.cellsOf 3)) = some y2 := h2
    simpa [Try.cellsInt] using this
  simp only [Prod.mk.injEq] at hx
  obtain ⟨rfl, _⟩ := hx
  have hw1 : ∀ n ∈ y1.1.weights Try.prog 38, n ≤ reachBytes := fun n hn => hw n (by
    simp only [DataW.weights, Try.underlying40]
    exact DataW.weights_mem_each (j := 1) (t := 38) rfl rfl n hn)
  obtain ⟨z0, g0, _, _⟩ := DataW.trod_int Try.underlying3 h0'
  obtain ⟨z2, g2, _, _⟩ := DataW.trod_int Try.underlying3 h2'
  obtain ⟨sp, l, c, xs, rfl, o1, o2, o3⟩ := ints_open h1' hw1
  simp at g0 g2
  subst g0 g2
  exact ⟨z0, sp, l, c, z2, xs, rfl, o1, o2, o3⟩
end
end Go.Proofs.Ytplbnnfncngchaa
