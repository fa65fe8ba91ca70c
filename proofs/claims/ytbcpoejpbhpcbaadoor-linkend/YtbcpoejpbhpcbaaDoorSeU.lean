import Derived.Test.YtbcpoejpbhpcbaaDoorLkO
import Derived.Test.YtbcpoejpbhpcbaaDoorSeT
namespace Go.Proofs.YtbcpoejpbhpcbaaDoor
open Go.RowKit Go.ChangeShapes Go.WideShapes Go.ChangeAt Go.Deep

section
variable {H : Type} {enc : TypeId × Value → H} {w : World} {base : Nat} {held : Bool}
theorem Tryd.cellsStp : Tryd.prog.cellsOf 31 = 5 := by kernel_rfl
theorem Tryd.bytesStp : Tryd.prog.bytesOf 31 = 56 := by kernel_rfl
theorem Tryd.cellsSts : Tryd.prog.cellsOf 22 = 1 := by kernel_rfl
theorem Tryd.cellsPlay : Tryd.prog.cellsOf 24 = 3 := by kernel_rfl
theorem five {l : List Value} (h : l.length = 5) : ∃ a b c d e, l = [a, b, c, d, e] := by
  match l, h with
  | [a, b, c, d, e], _ => exact ⟨a, b, c, d, e, rfl⟩
theorem array3p {α : Type} {cs : Array α} (h : cs.size = 3) : ∃ c0 c1 c2, cs = #[c0, c1, c2] := by
  obtain ⟨l⟩ := cs
  match l, h with
  | [a, b, c], _ => exact ⟨a, b, c, rfl⟩
set_option maxRecDepth 100000 in
/-- A step that came in. -/
theorem step_open {fuel : Nat} {cs : List Value} {x : DataW H × List MemPlace} (h : DataW.trod enc Tryd.prog w base (fun _ => true) held fuel 31 cs = some x) (hw : ∀ n ∈ x.1.weights Tryd.prog 31, n ≤ reachBytes) : ∃ r : Stp, cs = stpC r ∧ StpOk w r := by
  obtain ⟨ys, n, _, rfl, hl, hlen, hf⟩ := DataW.trod_struct Tryd.underlying31 h
  rw [Tryd.cellsStp] at hl
  obtain ⟨v0, v1, v2, v3, v4, rfl⟩ := five hl
  have f0 : DataW.trod enc Tryd.prog w base (fun _ => true) held n 3 (([v0, v1, v2, v3, v4].drop 0).take (Tryd.prog.cellsOf 3)) = ys[0]? := hf 0 _ rfl
  have f1 : DataW.trod enc Tryd.prog w base (fun _ => true) held n 3 (([v0, v1, v2, v3, v4].drop 1).take (Tryd.prog.cellsOf 3)) = ys[1]? := hf 1 _ rfl
  have f2 : DataW.trod enc Tryd.prog w base (fun _ => true) held n 29 (([v0, v1, v2, v3, v4].drop 2).take (Tryd.prog.cellsOf 29)) = ys[2]? := hf 2 _ rfl
  have f3 : DataW.trod enc Tryd.prog w base (fun _ => true) held n 3 (([v0, v1, v2, v3, v4].drop 3).take (Tryd.prog.cellsOf 3)) = ys[3]? := hf 3 _ rfl
  have f4 : DataW.trod enc Tryd.prog w base (fun _ => true) held n 3 (([v0, v1, v2, v3, v4].drop 4).take (Tryd.prog.cellsOf 3)) = ys[4]? := hf 4 _ rfl
  simp only [Tryd.cellsInt, Tryd.cellsB, List.drop_zero, List.drop_succ_cons, List.take_succ_cons, List.take_zero] at f0 f1 f2 f3 f4
  have hy : ∀ i, i < 5 → ∃ y, ys[i]? = some y := fun i hi => ⟨ys[i]'(by rw [hlen]; exact hi), List.getElem?_eq_getElem _⟩
  obtain ⟨y0, e0⟩ := hy 0 (by omega)
  rw [e0] at f0
  obtain ⟨y1, e1⟩ := hy 1 (by omega)
  rw [e1] at f1
  obtain ⟨y2, e2⟩ := hy 2 (by omega)
  rw [e2] at f2
  obtain ⟨y3, e3⟩ := hy 3 (by omega)
  rw [e3] at f3
  obtain ⟨y4, e4⟩ := hy 4 (by omega)
  rw [e4] at f4
  obtain ⟨z0, g0, _, _⟩ := DataW.trod_int Tryd.underlying3 f0
  obtain ⟨z1, g1, _, _⟩ := DataW.trod_int Tryd.underlying3 f1
  obtain ⟨z3, g3, _, _⟩ := DataW.trod_int Tryd.underlying3 f3
  obtain ⟨z4, g4, _, _⟩ := DataW.trod_int Tryd.underlying3 f4
  have hw2 : ∀ n ∈ y2.1.weights Tryd.prog 29, n ≤ reachBytes := fun n hn => hw n (by
    simp only [DataW.weights, Tryd.underlying31]
    exact DataW.weights_mem_each (j := 2) (t := 29) rfl (by simp [e2]) n hn)
  obtain ⟨sp, l, c, xs, rfl, a1, a2, a3, a4, _⟩ := bytes_open f2 hw2
  simp at g0 g1 g3 g4
  subst g0 g1 g3 g4
  exact ⟨⟨z0, z1, sp, c, xs, z3, z4⟩, by simp [stpC, a1], ⟨a4, by show xs.length ≤ _; omega⟩⟩
theorem steps_open {fuel : Nat} {v : Value} {x : DataW H × List MemPlace} (h : DataW.trod enc Tryd.prog w base (fun _ => true) held fuel 22 [v] = some x) (hw : ∀ n ∈ x.1.weights Tryd.prog 22, n ≤ reachBytes) :
    ∃ sp l c cl, v = .slice sp l c ∧ cl.length = l ∧ l ≤ 140737488351232 ∧ Stps w sp cl := by
  rcases open_slice Tryd.underlying22 h with ⟨hcs, hx⟩ | ⟨a, len, cap, m, n, D, Pl, hcs, _, hl, hm, hmm, hx, hel⟩
  · simp at hcs
    exact ⟨none, 0, 0, [], hcs, rfl, by omega, fun i e he => by simp at he⟩
  · simp at hcs hmm
    rw [Tryd.cellsStp] at hel
    have hD : x.1 = .slice ((List.range len).map D) ((List.range (m - len)).map fun j => D (len + j)) := by rw [hx]
    have hcap : cap ≤ 140737488351232 := by
      have h1 := hw ((len + (m - len)) * 56) (by rw [hD]; simp [DataW.weights, Tryd.underlying22, Tryd.bytesStp])
      simp only [reachBytes] at h1
      omega
    have hDw : ∀ i, i < len → ∀ n ∈ (D i).weights Tryd.prog 31, n ≤ reachBytes := fun i hi n hn => hw n (by
      rw [hD]
      simp only [DataW.weights, Tryd.underlying22, List.mem_cons, List.mem_append]
      exact Or.inr (Or.inl (weights_all (List.mem_map.2 ⟨i, List.mem_range.2 hi, rfl⟩) n hn)))
    obtain ⟨f, hf⟩ := @choose_lt Stp ⟨⟨0, 0, none, 0, [], 0, 0⟩⟩ len (fun i p => w.cells? base (a.add (i * 5)) 5 = some (stpC p) ∧ StpOk w p) (fun i hi => by
      obtain ⟨cs', h1, h2⟩ := hel i (by omega)
      obtain ⟨p, rfl, hp⟩ := step_open h2 (hDw i hi)
      exact ⟨p, h1, hp⟩)
    refine ⟨some a, len, cap, (List.range len).map f, hcs, by simp, by omega, fun j q hj => ?_⟩
    have hjl : j < len := by
      have := (List.getElem?_eq_some_iff.1 hj).1
      simpa using this
    have c0 := (World.cells?_some (hf 0 (by omega)).1).2.2 0 (by omega)
    obtain ⟨g, o, rfl⟩ : ∃ g o, a = ⟨g, o, none⟩ := by
      obtain ⟨g, o, e⟩ := addr_plain (v := .int .i64 (f 0).kind) (by simpa [stpC] using c0)
      exact ⟨g, o, by simpa [Addr.add] using e⟩
    rw [List.getElem?_map, List.getElem?_range hjl] at hj
    simp at hj
    subst hj
    refine ⟨g, o, rfl, ?_, fun k u hu => ?_, (hf j hjl).2⟩
    · have := cell_block (v := .int .i64 (f 0).kind) (by simpa [stpC] using c0)
      simpa [add_plain] using this
    · have hk7 : k < 5 := by
        have := (List.getElem?_eq_some_iff.1 hu).1
        simpa [stpC] using this
      have e0 := (World.cells?_some (hf j hjl).1).2.2 k hk7
      simp only [add_plain] at e0
      rw [e0, hu]
set_option maxRecDepth 100000 in
/-- A Play that came in. -/
theorem play_open {r : Reach} {b0 : Nat} {v : Value} {d : DataW H} {pl : List MemPlace} (hv : Value.okWide Tryd.prog w r b0 24 v) (h : DataW.Trod enc Tryd.prog w base (fun _ => true) held 24 v d pl)
    (hw : ∀ n ∈ d.weights Tryd.prog 24, n ≤ reachBytes) : ∃ win cap sp l c rs, v = .agg #[.int .i64 win, .int .i64 cap, .slice sp l c] ∧ rs.length = l ∧ l ≤ 140737488351232 ∧ Stps w sp rs := by
  obtain ⟨cs, rfl, hsz⟩ := okWide_struct Tryd.underlying24 hv
  obtain ⟨c0, c1, c2, rfl⟩ := array3p (hsz.trans Tryd.cellsPlay)
  obtain ⟨fuel, hf0⟩ := h
  obtain ⟨ys, n, _, hx, hl, hlen, hf⟩ := DataW.trod_struct Tryd.underlying24 hf0
  have f0 : DataW.trod enc Tryd.prog w base (fun _ => true) held n 3 (([c0, c1, c2].drop 0).take (Tryd.prog.cellsOf 3)) = ys[0]? := hf 0 _ rfl
  have f1 : DataW.trod enc Tryd.prog w base (fun _ => true) held n 3 (([c0, c1, c2].drop 1).take (Tryd.prog.cellsOf 3)) = ys[1]? := hf 1 _ rfl
  have f2 : DataW.trod enc Tryd.prog w base (fun _ => true) held n 22 (([c0, c1, c2].drop 2).take (Tryd.prog.cellsOf 22)) = ys[2]? := hf 2 _ rfl
  simp only [Tryd.cellsInt, Tryd.cellsSts, List.drop_zero, List.drop_succ_cons, List.take_succ_cons, List.take_zero] at f0 f1 f2
  have hy : ∀ i, i < 3 → ∃ y, ys[i]? = some y := fun i hi => ⟨ys[i]'(by rw [hlen]; exact hi), List.getElem?_eq_getElem _⟩
  obtain ⟨y0, e0⟩ := hy 0 (by omega)
  rw [e0] at f0
  obtain ⟨y1, e1⟩ := hy 1 (by omega)
  rw [e1] at f1
  obtain ⟨y2, e2⟩ := hy 2 (by omega)
  rw [e2] at f2
  simp only [Prod.mk.injEq] at hx
  obtain ⟨rfl, _⟩ := hx
  have hw2 : ∀ n ∈ y2.1.weights Tryd.prog 22, n ≤ reachBytes := fun n hn => hw n (by
    simp only [DataW.weights, Tryd.underlying24]
    exact DataW.weights_mem_each (j := 2) (t := 22) rfl (by simp [e2]) n hn)
  obtain ⟨z0, g0, _, _⟩ := DataW.trod_int Tryd.underlying3 f0
  obtain ⟨z1, g1, _, _⟩ := DataW.trod_int Tryd.underlying3 f1
  obtain ⟨sp, l, c, rs, rfl, a1, a2, a3⟩ := steps_open f2 hw2
  simp at g0 g1
  subst g0 g1
  exact ⟨z0, z1, sp, l, c, rs, rfl, a1, a2, a3⟩
end
end Go.Proofs.YtbcpoejpbhpcbaaDoor
