import Derived.Test.YtfcakfedlcajaaaTxC
import Derived.Test.YtfcakfedlcajaaaTrO
namespace Go.Proofs.Ytfcakfedlcajaaa
open Go.RowKit Go.ChangeShapes Go.WideShapes Go.Deep
open Fl

section
variable {H : Type} {enc : TypeId × Value → H} {w : World} {base : Nat} {held : Bool}
theorem Try.cellsOp : Try.prog.cellsOf 35 = 3 := by kernel_rfl
theorem Try.bytesOp : Try.prog.bytesOf 35 = 24 := by kernel_rfl
theorem Try.cellsOps : Try.prog.cellsOf 23 = 1 := by kernel_rfl
theorem Try.cellsWts : Try.prog.cellsOf 22 = 1 := by kernel_rfl
theorem Try.cellsScript : Try.prog.cellsOf 25 = 2 := by kernel_rfl
theorem array2 {α : Type} {cs : Array α} (h : cs.size = 2) : ∃ c0 c1, cs = #[c0, c1] := by
  obtain ⟨l⟩ := cs
  match l, h with
  | [a, b], _ => exact ⟨a, b, rfl⟩
theorem three {l : List Value} (h : l.length = 3) : ∃ a b c, l = [a, b, c] := by
  match l, h with
  | [a, b, c], _ => exact ⟨a, b, c, rfl⟩
/-- A step that came in. -/
theorem op_open {fuel : Nat} {cs : List Value} {x : DataW H × List MemPlace} (h : DataW.trod enc Try.prog w base (fun _ => true) held fuel 35 cs = some x) : ∃ q : Oq, cs = oqC q ∧ -9223372036854775808 ≤ q.x ∧ q.x ≤ 9223372036854775807 := by
  obtain ⟨y0, y1, y2, n, _, hl, f0, f1, f2⟩ := trod_struct3 Try.underlying35 h
  rw [Try.cellsOp] at hl
  obtain ⟨v0, v1, v2, rfl⟩ := three hl
  have f0' : DataW.trod enc Try.prog w base (fun _ => true) held n 3 (([v0, v1, v2].drop 0).take (Try.prog.cellsOf 3)) = some y0 := f0
  have f1' : DataW.trod enc Try.prog w base (fun _ => true) held n 3 (([v0, v1, v2].drop 1).take (Try.prog.cellsOf 3)) = some y1 := f1
  have f2' : DataW.trod enc Try.prog w base (fun _ => true) held n 2 (([v0, v1, v2].drop 2).take (Try.prog.cellsOf 2)) = some y2 := f2
  simp only [Try.cellsInt, Try.cellsI64, List.drop_zero, List.drop_succ_cons, List.take_succ_cons, List.take_zero] at f0' f1' f2'
  obtain ⟨z0, g0, _, _⟩ := DataW.trod_int Try.underlying3 f0'
  obtain ⟨z1, g1, _, _⟩ := DataW.trod_int Try.underlying3 f1'
  obtain ⟨z2, g2, _, w2⟩ := DataW.trod_int Try.underlying2 f2'
  simp at g0 g1 g2
  subst g0 g1 g2
  exact ⟨⟨z0, z1, z2⟩, rfl, bounds_i64 w2⟩
theorem ops_open {fuel : Nat} {v : Value} {x : DataW H × List MemPlace} (h : DataW.trod enc Try.prog w base (fun _ => true) held fuel 23 [v] = some x) (hw : ∀ n ∈ x.1.weights Try.prog 23, n ≤ reachBytes) :
    ∃ sp l c cl, v = .slice sp l c ∧ cl.length = l ∧ l ≤ 140737488355328 ∧ Oqs w sp cl := by
  rcases open_slice Try.underlying23 h with ⟨hcs, hx⟩ | ⟨a, len, cap, m, n, D, Pl, hcs, _, hl, hm, hmm, hx, hel⟩
  · simp at hcs
    exact ⟨none, 0, 0, [], hcs, rfl, by omega, fun i e he => by simp at he⟩
  · simp at hcs hmm
    rw [Try.cellsOp] at hel
    have hD : x.1 = .slice ((List.range len).map D) ((List.range (m - len)).map fun j => D (len + j)) := by rw [hx]
    have hcap : cap ≤ 140737488355328 := by
      have h1 := hw ((len + (m - len)) * 24) (by rw [hD]; simp [DataW.weights, Try.underlying23, Try.bytesOp])
      simp only [reachBytes] at h1
      omega
    obtain ⟨f, hf⟩ := @choose_lt Oq ⟨⟨0, 0, 0⟩⟩ len (fun i p => w.cells? base (a.add (i * 3)) 3 = some (oqC p) ∧ -9223372036854775808 ≤ p.x ∧ p.x ≤ 9223372036854775807) (fun i hi => by
      obtain ⟨cs', h1, h2⟩ := hel i (by omega)
      obtain ⟨p, rfl, hp⟩ := op_open h2
      exact ⟨p, h1, hp⟩)
    refine ⟨some a, len, cap, (List.range len).map f, hcs, by simp, by omega, fun j q hj => ?_⟩
    have hjl : j < len := by
      have := (List.getElem?_eq_some_iff.1 hj).1
      simpa using this
    have c0 := (World.cells?_some (hf 0 (by omega)).1).2.2 0 (by omega)
    obtain ⟨g, o, rfl⟩ : ∃ g o, a = ⟨g, o, none⟩ := by
      obtain ⟨g, o, e⟩ := addr_plain (v := .int .i64 (f 0).which) (by simpa [oqC] using c0)
      exact ⟨g, o, by simpa [Addr.add] using e⟩
    rw [List.getElem?_map, List.getElem?_range hjl] at hj
    simp at hj
    subst hj
    refine ⟨g, o, rfl, ?_, fun k u hu => ?_, (hf j hjl).2⟩
    · have := cell_block (v := .int .i64 (f 0).which) (by simpa [oqC] using c0)
      simpa [add_plain] using this
    · have hk7 : k < 3 := by
        have := (List.getElem?_eq_some_iff.1 hu).1
        simpa [oqC] using this
      have e0 := (World.cells?_some (hf j hjl).1).2.2 k hk7
      simp only [add_plain] at e0
      rw [e0, hu]
theorem wts_open {fuel : Nat} {v : Value} {x : DataW H × List MemPlace} (h : DataW.trod enc Try.prog w base (fun _ => true) held fuel 22 [v] = some x) :
    ∃ sp l c cl, v = .slice sp l c ∧ cl.length = l ∧ Wts w sp cl := by
  rcases open_slice Try.underlying22 h with ⟨hcs, hx⟩ | ⟨a, len, cap, m, n, D, Pl, hcs, _, hl, hm, hmm, hx, hel⟩
  · simp at hcs
    exact ⟨none, 0, 0, [], hcs, rfl, fun i e he => by simp at he⟩
  · simp at hcs hmm
    rw [Try.cellsWeight] at hel
    obtain ⟨f, hf⟩ := @choose_lt Wq ⟨⟨0, 0, false, 0⟩⟩ len (fun i p => w.cells? base (a.add (i * 4)) 4 = some (wqC p) ∧ Wf p.z) (fun i hi => by
      obtain ⟨cs', h1, h2⟩ := hel i (by omega)
      obtain ⟨A, B, raw, z, rfl, hz⟩ := weight_open h2
      exact ⟨⟨A, B, raw, z⟩, h1, hz⟩)
    refine ⟨some a, len, cap, (List.range len).map f, hcs, by simp, fun j q hj => ?_⟩
    have hjl : j < len := by
      have := (List.getElem?_eq_some_iff.1 hj).1
      simpa using this
    have c0 := (World.cells?_some (hf 0 (by omega)).1).2.2 0 (by omega)
    obtain ⟨g, o, rfl⟩ : ∃ g o, a = ⟨g, o, none⟩ := by
      obtain ⟨g, o, e⟩ := addr_plain (v := .int .i64 (f 0).A) (by simpa [wqC] using c0)
      exact ⟨g, o, by simpa [Addr.add] using e⟩
    rw [List.getElem?_map, List.getElem?_range hjl] at hj
    simp at hj
    subst hj
    refine ⟨g, o, rfl, ?_, fun k u hu => ?_, (hf j hjl).2⟩
    · have := cell_block (v := .int .i64 (f 0).A) (by simpa [wqC] using c0)
      simpa [add_plain] using this
    · have hk7 : k < 4 := by
        have := (List.getElem?_eq_some_iff.1 hu).1
        simpa [wqC] using this
      have e0 := (World.cells?_some (hf j hjl).1).2.2 k hk7
      simp only [add_plain] at e0
      rw [e0, hu]
set_option maxRecDepth 100000 in
/-- A Script that came in. -/
theorem script_open {r : Reach} {b0 : Nat} {v : Value} {d : DataW H} {pl : List MemPlace} (hv : Value.okWide Try.prog w r b0 25 v) (h : DataW.Trod enc Try.prog w base (fun _ => true) held 25 v d pl)
    (hw : ∀ n ∈ d.weights Try.prog 25, n ≤ reachBytes) : ∃ sp1 l1 c1 sp2 l2 c2 ws os, v = .agg #[.slice sp1 l1 c1, .slice sp2 l2 c2] ∧ ws.length = l1 ∧ os.length = l2 ∧ Wts w sp1 ws ∧ Oqs w sp2 os ∧ l2 ≤ 140737488355328 := by
  obtain ⟨cs, rfl, hsz⟩ := okWide_struct Try.underlying25 hv
  obtain ⟨c0, c1, rfl⟩ := array2 (hsz.trans Try.cellsScript)
  obtain ⟨fuel, hf0⟩ := h
  obtain ⟨ys, n, _, hx, hl, hlen, hf⟩ := DataW.trod_struct Try.underlying25 hf0
  have f0 : DataW.trod enc Try.prog w base (fun _ => true) held n 22 (([c0, c1].drop 0).take (Try.prog.cellsOf 22)) = ys[0]? := hf 0 _ rfl
  have f1 : DataW.trod enc Try.prog w base (fun _ => true) held n 23 (([c0, c1].drop 1).take (Try.prog.cellsOf 23)) = ys[1]? := hf 1 _ rfl
  simp only [Try.cellsWts, Try.cellsOps, List.drop_zero, List.drop_succ_cons, List.take_succ_cons, List.take_zero] at f0 f1
  have hy : ∀ i, i < 2 → ∃ y, ys[i]? = some y := fun i hi => ⟨ys[i]'(by rw [hlen]; exact hi), List.getElem?_eq_getElem _⟩
  obtain ⟨y0, e0⟩ := hy 0 (by omega)
  rw [e0] at f0
  obtain ⟨y1, e1⟩ := hy 1 (by omega)
  rw [e1] at f1
  simp only [Prod.mk.injEq] at hx
  obtain ⟨rfl, _⟩ := hx
  have hw1 : ∀ n ∈ y1.1.weights Try.prog 23, n ≤ reachBytes := fun n hn => hw n (by
    simp only [DataW.weights, Try.underlying25]
    exact DataW.weights_mem_each (j := 1) (t := 23) rfl (by simp [e1]) n hn)
  obtain ⟨sp1, l1, k1, ws, rfl, a1, a2⟩ := wts_open f0
  obtain ⟨sp2, l2, k2, os, rfl, b1, b2, b3⟩ := ops_open f1 hw1
  exact ⟨sp1, l1, k1, sp2, l2, k2, ws, os, rfl, a1, b1, a2, b3, b2⟩
end
end Go.Proofs.Ytfcakfedlcajaaa
