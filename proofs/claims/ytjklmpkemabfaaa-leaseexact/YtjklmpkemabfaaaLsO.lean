import Derived.Test.YtjklmpkemabfaaaLsB
import Derived.ProofKit
import Derived.Lib.SmallJoins
import Derived.OpenShut
import Derived.SizedLaws
import Derived.Deep.Strs
namespace Go.Proofs.Ytjklmpkemabfaaa
open Go.RowKit Go.ChangeShapes Go.WideShapes Go.Deep

section
variable {H : Type} {enc : TypeId × Value → H} {w : World} {base : Nat} {held : Bool}
theorem Try.cellsInt : Try.prog.cellsOf 3 = 1 := by kernel_rfl
theorem Try.bytesInt : Try.prog.bytesOf 3 = 8 := by kernel_rfl
theorem Try.cellsInts : Try.prog.cellsOf 23 = 1 := by kernel_rfl
theorem Try.cellsTwo : Try.prog.cellsOf 22 = 2 := by kernel_rfl
theorem Try.cellsScr : Try.prog.cellsOf 25 = 4 := by kernel_rfl
theorem addr_plain {a : Addr} {v : Value} (h : w.cell? a = some v) : ∃ g o, a = ⟨g, o, none⟩ := by
  obtain ⟨g, o, sp⟩ := a
  unfold World.cell? at h
  cases sp with
  | none => exact ⟨g, o, rfl⟩
  | some x => split at h <;> simp at h
theorem add_plain (g o j : Nat) : (⟨g, o, none⟩ : Addr).add j = ⟨g, o + j, none⟩ := by
  unfold Addr.add; split <;> simp_all
theorem three {l : List Value} (h : l.length = 3) : ∃ a b c, l = [a, b, c] := by
  match l, h with
  | [a, b, c], _ => exact ⟨a, b, c, rfl⟩
theorem one {l : List Value} (h : l.length = 1) : ∃ a, l = [a] := by
  match l, h with
  | [a], _ => exact ⟨a, rfl⟩
theorem ints_open {fuel : Nat} {v : Value} {x : DataW H × List MemPlace} (h : DataW.trod enc Try.prog w base (fun _ => true) held fuel 23 [v] = some x) (hw : ∀ n ∈ x.1.weights Try.prog 23, n ≤ reachBytes) :
    ∃ sp l c xs, v = .slice sp l c ∧ xs.length = l ∧ l ≤ 140737488355328 ∧ Nums w sp xs := by
  rcases open_slice Try.underlying23 h with ⟨hcs, hx⟩ | ⟨a, len, cap, m, n, D, Pl, hcs, _, hl, hm, hmm, hx, hel⟩
  · simp at hcs
    exact ⟨none, 0, 0, [], hcs, rfl, by omega, ⟨Or.inl rfl⟩⟩
  · simp at hcs hmm
    rw [Try.cellsInt] at hel
    have hD : x.1 = .slice ((List.range len).map D) ((List.range (m - len)).map fun j => D (len + j)) := by rw [hx]
    have hcap : cap ≤ 140737488355328 := by
      have h1 := hw ((len + (m - len)) * 8) (by rw [hD]; simp [DataW.weights, Try.underlying23, Try.bytesInt])
      simp only [reachBytes] at h1
      omega
    obtain ⟨f, hf⟩ := @choose_lt Int ⟨0⟩ len (fun i p => w.cells? base (a.add (i * 1)) 1 = some [.int .i64 p]) (fun i hi => by
      obtain ⟨cs', h1, h2⟩ := hel i (by omega)
      obtain ⟨e, rfl⟩ := one (World.cells?_some h1).2.1
      obtain ⟨z, g0, _, _⟩ := DataW.trod_int Try.underlying3 h2
      simp at g0
      subst g0
      exact ⟨z, h1⟩)
    refine ⟨some a, len, cap, (List.range len).map f, hcs, by simp, by omega, ⟨?_⟩⟩
    by_cases h0 : len = 0
    · left; simp [h0]
    · right
      have c0 := (World.cells?_some (hf 0 (by omega))).2.2 0 (by omega)
      obtain ⟨g, o, rfl⟩ : ∃ g o, a = ⟨g, o, none⟩ := by
        obtain ⟨g, o, e⟩ := addr_plain (v := .int .i64 (f 0)) (by simpa using c0)
        exact ⟨g, o, by simpa [Addr.add] using e⟩
      refine ⟨g, o, rfl, ?_, fun j z hj => ?_⟩
      · have := cell_block (v := .int .i64 (f 0)) (by simpa using c0)
        simpa [add_plain] using this
      · have hjl : j < len := by
          have := (List.getElem?_eq_some_iff.1 hj).1
          simpa using this
        rw [List.getElem?_map, List.getElem?_range hjl] at hj
        simp at hj
        have e0 := (World.cells?_some (hf j hjl)).2.2 0 (by omega)
        simp only [add_plain, hj] at e0
        simpa using e0
theorem wf_le {z : Int} (h : (Lit.int IntKind.i64 z).wf = true) : z ≤ 9223372036854775807 := by
  simp [Lit.wf, IntKind.min, IntKind.max, IntKind.signed, IntKind.bits] at h
  omega
theorem four {cs : Array Value} (h : cs.size = 4) : ∃ a b c d, cs = #[a, b, c, d] := by
  obtain ⟨l⟩ := cs
  match l, h with
  | [a, b, c, d], _ => exact ⟨a, b, c, d, rfl⟩
set_option maxRecDepth 100000 in
/-- A script that came in. -/
theorem scr_open {r : Reach} {b0 : Nat} {v : Value} {d : DataW H} {pl : List MemPlace} (hv : Value.okWide Try.prog w r b0 25 v) (h : DataW.Trod enc Try.prog w base (fun _ => true) held 25 v d pl)
    (hw : ∀ n ∈ d.weights Try.prog 25, n ≤ reachBytes) : ∃ z0 z1 sp l c sq l' c' xs ys, v = .agg #[.int .i64 z0, .int .i64 z1, .slice sp l c, .slice sq l' c'] ∧ z0 ≤ 9223372036854775807 ∧ z1 ≤ 9223372036854775807 ∧ xs.length = l ∧ l ≤ 140737488355328 ∧ Nums w sp xs ∧ ys.length = l' ∧ l' ≤ 140737488355328 ∧ Nums w sq ys := by
  obtain ⟨cs, rfl, hsz⟩ := okWide_struct Try.underlying25 hv
  obtain ⟨c0, c1, c2, c3, rfl⟩ := four (hsz.trans Try.cellsScr)
  obtain ⟨fuel, hf0⟩ := h
  obtain ⟨y0, y1, y2, n, hx, _, h0, h1, h2⟩ := trod_struct3 Try.underlying25 hf0
  have h0' : DataW.trod enc Try.prog w base (fun _ => true) held n 22 [c0, c1] = some y0 := by
    have : DataW.trod enc Try.prog w base (fun _ => true) held n 22 (([c0, c1, c2, c3].drop 0).take (Try.prog.cellsOf 22)) = some y0 := h0
    simpa [Try.cellsTwo] using this
  have h1' : DataW.trod enc Try.prog w base (fun _ => true) held n 23 [c2] = some y1 := by
    have : DataW.trod enc Try.prog w base (fun _ => true) held n 23 (([c0, c1, c2, c3].drop 2).take (Try.prog.cellsOf 23)) = some y1 := h1
    simpa [Try.cellsInts] using this
  have h2' : DataW.trod enc Try.prog w base (fun _ => true) held n 23 [c3] = some y2 := by
    have : DataW.trod enc Try.prog w base (fun _ => true) held n 23 (([c0, c1, c2, c3].drop 3).take (Try.prog.cellsOf 23)) = some y2 := h2
    simpa [Try.cellsInts] using this
  simp only [Prod.mk.injEq] at hx
  obtain ⟨rfl, _⟩ := hx
  have hw1 : ∀ n ∈ y1.1.weights Try.prog 23, n ≤ reachBytes := fun n hn => hw n (by
    simp only [DataW.weights, Try.underlying25]
    exact DataW.weights_mem_each (j := 1) (t := 23) rfl rfl n hn)
  have hw2 : ∀ n ∈ y2.1.weights Try.prog 23, n ≤ reachBytes := fun n hn => hw n (by
    simp only [DataW.weights, Try.underlying25]
    exact DataW.weights_mem_each (j := 2) (t := 23) rfl rfl n hn)
  obtain ⟨ys0, m, _, _, _, hlen, hf⟩ := DataW.trod_array Try.underlying22 h0'
  have f0 := hf 0 (by omega)
  have f1 := hf 1 (by omega)
  simp only [Try.cellsInt, Nat.zero_mul, Nat.one_mul, List.drop_zero, List.drop_succ_cons, List.take_succ_cons, List.take_zero] at f0 f1
  have hy : ∀ i, i < 2 → ∃ y, ys0[i]? = some y := fun i hi => ⟨ys0[i]'(by rw [hlen]; exact hi), List.getElem?_eq_getElem _⟩
  obtain ⟨u0, e0⟩ := hy 0 (by omega)
  obtain ⟨u1, e1⟩ := hy 1 (by omega)
  rw [e0] at f0
  rw [e1] at f1
  obtain ⟨z0, g0, _, r0⟩ := DataW.trod_int Try.underlying3 f0
  obtain ⟨z1, g1, _, r1⟩ := DataW.trod_int Try.underlying3 f1
  obtain ⟨sp, l, c, xs, rfl, o1, o2, o3⟩ := ints_open h1' hw1
  obtain ⟨sq, l', c', ys, rfl, o4, o5, o6⟩ := ints_open h2' hw2
  simp at g0 g1
  subst g0 g1
  exact ⟨z0, z1, sp, l, c, sq, l', c', xs, ys, rfl, wf_le r0, wf_le r1, o1, o2, o3, o4, o5, o6⟩
end
end Go.Proofs.Ytjklmpkemabfaaa
