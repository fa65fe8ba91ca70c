import Derived.Test.YtlmfohcdaahojaaGreatDoorJCallO
import Derived.Deep.Strs
namespace Go.Proofs.YtlmfohcdaahojaaGreatDoor
open Go.RowKit Go.ChangeShapes Go.WideShapes Go.ChangeAt Go.Deep

section
variable {H : Type} {enc : TypeId × Value → H} {w : World} {base : Nat} {held : Bool}
theorem calls_big {fuel : Nat} {sp : Option Addr} {l c : Nat} {x : DataW H × List MemPlace} (h : DataW.trod enc Tryz.prog w base (fun _ => true) held fuel 55 [.slice sp l c] = some x) (hw : ∀ n ∈ x.1.weights Tryz.prog 55, n ≤ reachBytes) : l * 32 ≤ 140737488351232 := by
  rcases open_slice Tryz.underlying55 h with ⟨hcs, hx⟩ | ⟨a, len, cap, m, n, D, Pl, hcs, _, hl, hm, hmm, hx, hel⟩
  · simp at hcs
    omega
  · simp at hcs hmm
    have hD : x.1 = .slice ((List.range len).map D) ((List.range (m - len)).map fun j => D (len + j)) := by rw [hx]
    have h1 := hw ((len + (m - len)) * 32) (by rw [hD]; simp [DataW.weights, Tryz.underlying55, Tryz.bytesCl])
    simp only [reachBytes] at h1
    omega
theorem Tryz.cellsLife : Tryz.prog.cellsOf 58 = 7 := by kernel_rfl
theorem array7 {α : Type} {cs : Array α} (h : cs.size = 7) : ∃ c0 c1 c2 c3 c4 c5 c6, cs = #[c0, c1, c2, c3, c4, c5, c6] := by
  obtain ⟨l⟩ := cs
  match l, h with
  | [a, b, c, d, e, f, g], _ => exact ⟨a, b, c, d, e, f, g, rfl⟩
set_option maxRecDepth 100000 in
/-- A Life that came in. -/
theorem life_open2 {r : Reach} {b0 : Nat} {v : Value} {d : DataW H} {pl : List MemPlace} (hv : Value.okWide Tryz.prog w r b0 58 v) (h : DataW.Trod enc Tryz.prog w base (fun _ => true) held 58 v d pl)
    (hw : ∀ n ∈ d.weights Tryz.prog 58, n ≤ reachBytes) : ∃ rm sp l c cl az sz p1 n1 c1 p2 n2 c2 p3 n3 c3, v = .agg #[.int .i64 rm, .slice sp l c, .int .i64 az, .int .i64 sz, .slice p1 n1 c1, .slice p2 n2 c2, .slice p3 n3 c3] ∧ (cl.length = l ∧ l * 32 ≤ 140737488351232 ∧ Cls w sp cl ∧ ∀ q ∈ cl, ClOk w q) ∧ (∃ k1, k1.length = n1 ∧ n1 ≤ 140737488351232 ∧ Ins w p1 k1) ∧ (∃ k2, k2.length = n2 ∧ n2 ≤ 140737488351232 ∧ Ins w p2 k2) ∧ ∃ cm, (cm.length = n3 ∧ n3 ≤ 140737488351232 ∧ Cls w p3 cm ∧ ∀ q ∈ cm, ClOk w q) := by
  obtain ⟨cs, rfl, hsz⟩ := okWide_struct Tryz.underlying58 hv
  obtain ⟨c0, c1, c2, c3, c4, c5, c6, rfl⟩ := array7 (hsz.trans Tryz.cellsLife)
  obtain ⟨fuel, hf0⟩ := h
  obtain ⟨ys, n, _, hx, hl, hlen, hf⟩ := DataW.trod_struct Tryz.underlying58 hf0
  have f0 : DataW.trod enc Tryz.prog w base (fun _ => true) held n 3 (([c0, c1, c2, c3, c4, c5, c6].drop 0).take (Tryz.prog.cellsOf 3)) = ys[0]? := hf 0 _ rfl
  have f1 : DataW.trod enc Tryz.prog w base (fun _ => true) held n 55 (([c0, c1, c2, c3, c4, c5, c6].drop 1).take (Tryz.prog.cellsOf 55)) = ys[1]? := hf 1 _ rfl
  have f2 : DataW.trod enc Tryz.prog w base (fun _ => true) held n 3 (([c0, c1, c2, c3, c4, c5, c6].drop 2).take (Tryz.prog.cellsOf 3)) = ys[2]? := hf 2 _ rfl
  have f3 : DataW.trod enc Tryz.prog w base (fun _ => true) held n 3 (([c0, c1, c2, c3, c4, c5, c6].drop 3).take (Tryz.prog.cellsOf 3)) = ys[3]? := hf 3 _ rfl
  have f4 : DataW.trod enc Tryz.prog w base (fun _ => true) held n 56 (([c0, c1, c2, c3, c4, c5, c6].drop 4).take (Tryz.prog.cellsOf 56)) = ys[4]? := hf 4 _ rfl
  have f5 : DataW.trod enc Tryz.prog w base (fun _ => true) held n 56 (([c0, c1, c2, c3, c4, c5, c6].drop 5).take (Tryz.prog.cellsOf 56)) = ys[5]? := hf 5 _ rfl
  have f6 : DataW.trod enc Tryz.prog w base (fun _ => true) held n 55 (([c0, c1, c2, c3, c4, c5, c6].drop 6).take (Tryz.prog.cellsOf 55)) = ys[6]? := hf 6 _ rfl
  simp only [Tryz.cellsInt, Tryz.cellsCls, Tryz.cellsIs, List.drop_zero, List.drop_succ_cons, List.take_succ_cons, List.take_zero] at f0 f1 f2 f3 f4 f5 f6
  have hy : ∀ i, i < 7 → ∃ y, ys[i]? = some y := fun i hi => ⟨ys[i]'(by rw [hlen]; exact hi), List.getElem?_eq_getElem _⟩
  obtain ⟨y0, e0⟩ := hy 0 (by omega)
  rw [e0] at f0
  obtain ⟨y1, e1⟩ := hy 1 (by omega)
  rw [e1] at f1
  obtain ⟨y2, e2⟩ := hy 2 (by omega)
  rw [e2] at f2
  obtain ⟨y3, e3⟩ := hy 3 (by omega)
  rw [e3] at f3
  obtain ⟨y4, e4⟩ := hy 4 (by omega)
  rw [e4] at f4
  obtain ⟨y5, e5⟩ := hy 5 (by omega)
  rw [e5] at f5
  obtain ⟨y6, e6⟩ := hy 6 (by omega)
  rw [e6] at f6
  simp only [Prod.mk.injEq] at hx
  obtain ⟨rfl, _⟩ := hx
  have hw1 : ∀ n ∈ y1.1.weights Tryz.prog 55, n ≤ reachBytes := fun n hn => hw n (by
    simp only [DataW.weights, Tryz.underlying58]
    exact DataW.weights_mem_each (j := 1) (t := 55) rfl (by simp [e1]) n hn)
  have hw4 : ∀ n ∈ y4.1.weights Tryz.prog 56, n ≤ reachBytes := fun n hn => hw n (by
    simp only [DataW.weights, Tryz.underlying58]
    exact DataW.weights_mem_each (j := 4) (t := 56) rfl (by simp [e4]) n hn)
  have hw5 : ∀ n ∈ y5.1.weights Tryz.prog 56, n ≤ reachBytes := fun n hn => hw n (by
    simp only [DataW.weights, Tryz.underlying58]
    exact DataW.weights_mem_each (j := 5) (t := 56) rfl (by simp [e5]) n hn)
  have hw6 : ∀ n ∈ y6.1.weights Tryz.prog 55, n ≤ reachBytes := fun n hn => hw n (by
    simp only [DataW.weights, Tryz.underlying58]
    exact DataW.weights_mem_each (j := 6) (t := 55) rfl (by simp [e6]) n hn)
  obtain ⟨z0, g0, _, _⟩ := DataW.trod_int Tryz.underlying3 f0
  obtain ⟨z2, g2, _, _⟩ := DataW.trod_int Tryz.underlying3 f2
  obtain ⟨z3, g3, _, _⟩ := DataW.trod_int Tryz.underlying3 f3
  obtain ⟨sp, l, c, cl, rfl, a1, a2, a3, a4⟩ := calls_open f1 hw1
  obtain ⟨p1, n1, cc1, k1, rfl, b1, b2, b3⟩ := ints_open f4 hw4
  obtain ⟨p2, n2, cc2, k2, rfl, d1, d2, d3⟩ := ints_open f5 hw5
  obtain ⟨p3, n3, cc3, cm, rfl, q1, q2, q3, q4⟩ := calls_open f6 hw6
  simp at g0 g2 g3
  subst g0 g2 g3
  exact ⟨z0, sp, l, c, cl, z2, z3, p1, n1, cc1, p2, n2, cc2, p3, n3, cc3, rfl, ⟨a1, calls_big f1 hw1, a3, a4⟩, ⟨k1, b1, b2, b3⟩, ⟨k2, d1, d2, d3⟩, cm, q1, q2, q3, q4⟩
end
end Go.Proofs.YtlmfohcdaahojaaGreatDoor
