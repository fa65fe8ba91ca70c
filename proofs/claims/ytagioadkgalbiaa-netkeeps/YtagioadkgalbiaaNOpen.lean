import Derived.Test.YtagioadkgalbiaaNKs
import Derived.ProofKit
import Derived.Lib.SmallJoins
import Derived.OpenShut
import Derived.SizedLaws
namespace Go.Proofs.Ytagioadkgalbiaa
open Go.RowKit Go.ChangeShapes Go.WideShapes Go.Deep

section
variable {H : Type} {enc : TypeId × Value → H} {w : World} {base : Nat} {held : Bool}
theorem Try.cellsMv : Try.prog.cellsOf 35 = 2 := by kernel_rfl
theorem Try.bytesMv : Try.prog.bytesOf 35 = 16 := by kernel_rfl
theorem Try.cellsInt : Try.prog.cellsOf 3 = 1 := by kernel_rfl
theorem Try.cellsMvs : Try.prog.cellsOf 22 = 1 := by kernel_rfl
theorem Try.cellsRun : Try.prog.cellsOf 24 = 2 := by kernel_rfl
theorem addr_plain {a : Addr} {v : Value} (h : w.cell? a = some v) : ∃ g o, a = ⟨g, o, none⟩ := by
  obtain ⟨g, o, sp⟩ := a
  unfold World.cell? at h
  cases sp with
  | none => exact ⟨g, o, rfl⟩
  | some x => split at h <;> simp at h
theorem add_plain (g o j : Nat) : (⟨g, o, none⟩ : Addr).add j = ⟨g, o + j, none⟩ := by
  unfold Addr.add; split <;> simp_all
theorem two {l : List Value} (h : l.length = 2) : ∃ a b, l = [a, b] := by
  match l, h with
  | [a, b], _ => exact ⟨a, b, rfl⟩
/-- A move that came in. -/
theorem mv_open {fuel : Nat} {cs : List Value} {x : DataW H × List MemPlace} (h : DataW.trod enc Try.prog w base (fun _ => true) held fuel 35 cs = some x) : ∃ d a, cs = [.int .i64 d, .int .i64 a] := by
  obtain ⟨ys, n, _, rfl, hl, hlen, hf⟩ := DataW.trod_struct Try.underlying35 h
  rw [Try.cellsMv] at hl
  obtain ⟨a, b, rfl⟩ := two hl
  have f0 : DataW.trod enc Try.prog w base (fun _ => true) held n 3 (([a, b].drop 0).take (Try.prog.cellsOf 3)) = ys[0]? := hf 0 _ rfl
  have f1 : DataW.trod enc Try.prog w base (fun _ => true) held n 3 (([a, b].drop 1).take (Try.prog.cellsOf 3)) = ys[1]? := hf 1 _ rfl
  simp only [Try.cellsInt, List.drop_zero, List.drop_succ_cons, List.take_succ_cons, List.take_zero] at f0 f1
  have hy : ∀ i, i < 2 → ∃ y, ys[i]? = some y := fun i hi => ⟨ys[i]'(by rw [hlen]; exact hi), List.getElem?_eq_getElem _⟩
  obtain ⟨y0, e0⟩ := hy 0 (by omega)
  obtain ⟨y1, e1⟩ := hy 1 (by omega)
  rw [e0] at f0
  rw [e1] at f1
  obtain ⟨z0, g0, _, _⟩ := DataW.trod_int Try.underlying3 f0
  obtain ⟨z1, g1, _, _⟩ := DataW.trod_int Try.underlying3 f1
  simp at g0 g1
  subst g0 g1
  exact ⟨z0, z1, rfl⟩
theorem mvs_open {fuel : Nat} {v : Value} {x : DataW H × List MemPlace} (h : DataW.trod enc Try.prog w base (fun _ => true) held fuel 22 [v] = some x) (hw : ∀ n ∈ x.1.weights Try.prog 22, n ≤ reachBytes) :
    ∃ sp l c mv, v = .slice sp l c ∧ mv.length = l ∧ l ≤ 140737488351232 ∧ Mvs w sp mv := by
  rcases open_slice Try.underlying22 h with ⟨hcs, hx⟩ | ⟨a, len, cap, m, n, D, Pl, hcs, _, hl, hm, hmm, hx, hel⟩
  · simp at hcs
    exact ⟨none, 0, 0, [], hcs, rfl, by omega, ⟨Or.inl rfl⟩⟩
  · simp at hcs hmm
    rw [Try.cellsMv] at hel
    have hD : x.1 = .slice ((List.range len).map D) ((List.range (m - len)).map fun j => D (len + j)) := by rw [hx]
    have hcap : cap ≤ 140737488351232 := by
      have h1 := hw ((len + (m - len)) * 16) (by rw [hD]; simp [DataW.weights, Try.underlying22, Try.bytesMv])
      simp only [reachBytes] at h1
      omega
    obtain ⟨f, hf⟩ := @choose_lt (Int × Int) ⟨(0, 0)⟩ len (fun i p => w.cells? base (a.add (i * 2)) 2 = some [.int .i64 p.1, .int .i64 p.2]) (fun i hi => by
      obtain ⟨cs', h1, h2⟩ := hel i (by omega)
      obtain ⟨d, z, rfl⟩ := mv_open h2
      exact ⟨(d, z), h1⟩)
    refine ⟨some a, len, cap, (List.range len).map f, hcs, by simp, by omega, ⟨?_⟩⟩
    by_cases h0 : len = 0
    · left; simp [h0]
    · right
      have c0 := (World.cells?_some (hf 0 (by omega))).2.2 0 (by omega)
      obtain ⟨g, o, rfl⟩ : ∃ g o, a = ⟨g, o, none⟩ := by
        obtain ⟨g, o, e⟩ := addr_plain (v := .int .i64 (f 0).1) (by simpa using c0)
        exact ⟨g, o, by simpa [Addr.add] using e⟩
      refine ⟨g, o, rfl, ?_, fun j d z hj => ?_⟩
      · have := cell_block (v := .int .i64 (f 0).1) (by simpa using c0)
        simpa [add_plain] using this
      · have hjl : j < len := by
          have := (List.getElem?_eq_some_iff.1 hj).1
          simpa using this
        rw [List.getElem?_map, List.getElem?_range hjl] at hj
        simp at hj
        have e0 := (World.cells?_some (hf j hjl)).2.2 0 (by omega)
        have e1 := (World.cells?_some (hf j hjl)).2.2 1 (by omega)
        simp only [add_plain, hj] at e0 e1
        exact ⟨by simpa using e0, by simpa using e1⟩
set_option maxRecDepth 100000 in
/-- A run that came in. -/
theorem run_open {r : Reach} {b0 : Nat} {v : Value} {d : DataW H} {pl : List MemPlace} (hv : Value.okWide Try.prog w r b0 24 v) (h : DataW.Trod enc Try.prog w base (fun _ => true) held 24 v d pl)
    (hw : ∀ n ∈ d.weights Try.prog 24, n ≤ reachBytes) : ∃ z sp l c mv, v = .agg #[.int .i64 z, .slice sp l c] ∧ mv.length = l ∧ l ≤ 140737488351232 ∧ Mvs w sp mv := by
  obtain ⟨cs, rfl, hsz⟩ := okWide_struct Try.underlying24 hv
  obtain ⟨c0, c1, rfl⟩ := Joins.array2 (hsz.trans Try.cellsRun)
  obtain ⟨fuel, hf⟩ := h
  obtain ⟨y0, y1, n, hx, _, h0, h1⟩ := trod_struct2 Try.underlying24 hf
  have h0' : DataW.trod enc Try.prog w base (fun _ => true) held n 3 [c0] = some y0 := by
    have : DataW.trod enc Try.prog w base (fun _ => true) held n 3 (([c0, c1].drop 0).take (Try.prog.cellsOf 3)) = some y0 := h0
    simpa [Try.cellsInt] using this
  have h1' : DataW.trod enc Try.prog w base (fun _ => true) held n 22 [c1] = some y1 := by
    have : DataW.trod enc Try.prog w base (fun _ => true) held n 22 (([c0, c1].drop 1).take (Try.prog.cellsOf 22)) = some y1 := h1
    simpa [Try.cellsMvs] using this
  simp only [Prod.mk.injEq] at hx
  obtain ⟨rfl, _⟩ := hx
  have hw1 : ∀ n ∈ y1.1.weights Try.prog 22, n ≤ reachBytes := fun n hn => hw n (by
    simp only [DataW.weights, Try.underlying24]
    exact DataW.weights_mem_each (j := 1) (t := 22) rfl rfl n hn)
  obtain ⟨z0, g0, _, _⟩ := DataW.trod_int Try.underlying3 h0'
  obtain ⟨sp, l, c, mv, rfl, o1, o2, o3⟩ := mvs_open h1' hw1
  simp at g0
  subst g0
  exact ⟨z0, sp, l, c, mv, rfl, o1, o2, o3⟩
end
end Go.Proofs.Ytagioadkgalbiaa
