import Derived.Test.YtfcakfedlcajaaaTrC
import Derived.ProofKit
import Derived.Lib.SmallJoins
import Derived.OpenShut
import Derived.SizedLaws
import Derived.Deep.Strs
namespace Go.Proofs.Ytfcakfedlcajaaa
open Go.RowKit Go.ChangeShapes Go.WideShapes Go.Deep
open Fl

section
variable {H : Type} {enc : TypeId × Value → H} {w : World} {base : Nat} {held : Bool}
theorem Try.cellsI64 : Try.prog.cellsOf 2 = 1 := by kernel_rfl
theorem Try.bytesI64 : Try.prog.bytesOf 2 = 8 := by kernel_rfl
theorem Try.cellsInt : Try.prog.cellsOf 3 = 1 := by kernel_rfl
theorem Try.cellsBool : Try.prog.cellsOf 4 = 1 := by kernel_rfl
theorem Try.cellsU64 : Try.prog.cellsOf 39 = 1 := by kernel_rfl
theorem Try.cellsI64s : Try.prog.cellsOf 42 = 1 := by kernel_rfl
theorem Try.cellsWeight : Try.prog.cellsOf 41 = 4 := by kernel_rfl
theorem Try.cellsRow : Try.prog.cellsOf 44 = 5 := by kernel_rfl
theorem Try.cellsSame : Try.prog.cellsOf 55 = 7 := by kernel_rfl
theorem addr_plain {a : Addr} {v : Value} (h : w.cell? a = some v) : ∃ g o, a = ⟨g, o, none⟩ := by
  obtain ⟨g, o, sp⟩ := a
  unfold World.cell? at h
  cases sp with
  | none => exact ⟨g, o, rfl⟩
  | some x => split at h <;> simp at h
theorem add_plain (g o j : Nat) : (⟨g, o, none⟩ : Addr).add j = ⟨g, o + j, none⟩ := by
  unfold Addr.add; split <;> simp_all
theorem cell_block {w : World} {p : Addr} {v : Value} (h : w.cell? p = some v) : p.block < w.heap.size := by
  unfold World.cell? at h
  rcases Nat.lt_or_ge p.block w.heap.size with hl | hl
  · exact hl
  · rw [Array.getElem?_eq_none hl] at h; cases h
theorem one {l : List Value} (h : l.length = 1) : ∃ a, l = [a] := by
  match l, h with
  | [a], _ => exact ⟨a, rfl⟩
theorem four {l : List Value} (h : l.length = 4) : ∃ a b c d, l = [a, b, c, d] := by
  match l, h with
  | [a, b, c, d], _ => exact ⟨a, b, c, d, rfl⟩
theorem array5 {α : Type} {cs : Array α} (h : cs.size = 5) : ∃ c0 c1 c2 c3 c4, cs = #[c0, c1, c2, c3, c4] := by
  obtain ⟨l⟩ := cs
  match l, h with
  | [a, b, c, d, e], _ => exact ⟨a, b, c, d, e, rfl⟩
theorem array7 {α : Type} {cs : Array α} (h : cs.size = 7) : ∃ c0 c1 c2 c3 c4 c5 c6, cs = #[c0, c1, c2, c3, c4, c5, c6] := by
  obtain ⟨l⟩ := cs
  match l, h with
  | [a, b, c, d, e, f, g], _ => exact ⟨a, b, c, d, e, f, g, rfl⟩
theorem ints_open {fuel : Nat} {v : Value} {x : DataW H × List MemPlace} (h : DataW.trod enc Try.prog w base (fun _ => true) held fuel 42 [v] = some x) (hw : ∀ n ∈ x.1.weights Try.prog 42, n ≤ reachBytes) :
    ∃ sp l c xs, v = .slice sp l c ∧ xs.length = l ∧ l ≤ 140737488355328 ∧ l ≤ c ∧ Nums w sp xs := by
  rcases open_slice Try.underlying42 h with ⟨hcs, hx⟩ | ⟨a, len, cap, m, n, D, Pl, hcs, _, hl, hm, hmm, hx, hel⟩
  · simp at hcs
    exact ⟨none, 0, 0, [], hcs, rfl, by omega, by omega, ⟨by simp, Or.inl rfl⟩⟩
  · simp at hcs hmm
    rw [Try.cellsI64] at hel
    have hD : x.1 = .slice ((List.range len).map D) ((List.range (m - len)).map fun j => D (len + j)) := by rw [hx]
    have hcap : cap ≤ 140737488355328 := by
      have h1 := hw ((len + (m - len)) * 8) (by rw [hD]; simp [DataW.weights, Try.underlying42, Try.bytesI64])
      simp only [reachBytes] at h1
      omega
    obtain ⟨f, hf⟩ := @choose_lt Int ⟨0⟩ len (fun i p => w.cells? base (a.add (i * 1)) 1 = some [.int .i64 p] ∧ -9223372036854775808 ≤ p ∧ p ≤ 9223372036854775807) (fun i hi => by
      obtain ⟨cs', h1, h2⟩ := hel i (by omega)
      obtain ⟨e, rfl⟩ := one (World.cells?_some h1).2.1
      obtain ⟨z, g0, _, gw⟩ := DataW.trod_int Try.underlying2 h2
      simp at g0
      subst g0
      exact ⟨z, h1, bounds_i64 gw⟩)
    refine ⟨some a, len, cap, (List.range len).map f, hcs, by simp, by omega, by omega, ⟨?_, ?_⟩⟩
    · intro z hz
      obtain ⟨i, hi, rfl⟩ := List.mem_map.1 hz
      exact (hf i (List.mem_range.1 hi)).2
    by_cases h0 : len = 0
    · left; simp [h0]
    · right
      have c0 := (World.cells?_some (hf 0 (by omega)).1).2.2 0 (by omega)
      obtain ⟨g, o, rfl⟩ : ∃ g o, a = ⟨g, o, none⟩ := by
        obtain ⟨g, o, e⟩ := addr_plain (v := .int .i64 (f 0)) (by simpa using c0)
        exact ⟨g, o, by simpa [Addr.add] using e⟩
      refine ⟨g, o, rfl, ?_, fun j z hj => ?_⟩
      · have := cell_block (v := .int .i64 (f 0)) (by simpa using c0)
        simpa [add_plain] using this
      · have hjl : j < len := by
          have := (List.getElem?_eq_some_iff.1 hj).1
          simpa using this
        rw [List.getElem?_map, List.getElem?_range hjl] at hj
        simp at hj
        have e0 := (World.cells?_some (hf j hjl).1).2.2 0 (by omega)
        simp only [add_plain, hj] at e0
        simpa using e0
/-- A weight that came in. -/
theorem weight_open {fuel : Nat} {cs : List Value} {x : DataW H × List MemPlace} (h : DataW.trod enc Try.prog w base (fun _ => true) held fuel 41 cs = some x) :
    ∃ (A B : Int) (raw : Bool) (z : Nat), cs = [.int .i64 A, .int .i64 B, .bool raw, .int .u64 (z : Int)] ∧ Wf z := by
  obtain ⟨ys, n, _, rfl, hl, hlen, hf⟩ := DataW.trod_struct Try.underlying41 h
  rw [Try.cellsWeight] at hl
  obtain ⟨v0, v1, v2, v3, rfl⟩ := four hl
  have f0 : DataW.trod enc Try.prog w base (fun _ => true) held n 2 (([v0, v1, v2, v3].drop 0).take (Try.prog.cellsOf 2)) = ys[0]? := hf 0 _ rfl
  have f1 : DataW.trod enc Try.prog w base (fun _ => true) held n 2 (([v0, v1, v2, v3].drop 1).take (Try.prog.cellsOf 2)) = ys[1]? := hf 1 _ rfl
  have f2 : DataW.trod enc Try.prog w base (fun _ => true) held n 4 (([v0, v1, v2, v3].drop 2).take (Try.prog.cellsOf 4)) = ys[2]? := hf 2 _ rfl
  have f3 : DataW.trod enc Try.prog w base (fun _ => true) held n 39 (([v0, v1, v2, v3].drop 3).take (Try.prog.cellsOf 39)) = ys[3]? := hf 3 _ rfl
  simp only [Try.cellsI64, Try.cellsU64, Try.cellsBool, List.drop_zero, List.drop_succ_cons, List.take_succ_cons, List.take_zero] at f0 f1 f2 f3
  have hy : ∀ i, i < 4 → ∃ y, ys[i]? = some y := fun i hi => ⟨ys[i]'(by rw [hlen]; exact hi), List.getElem?_eq_getElem _⟩
  obtain ⟨y0, e0⟩ := hy 0 (by omega)
  rw [e0] at f0
  obtain ⟨y1, e1⟩ := hy 1 (by omega)
  rw [e1] at f1
  obtain ⟨y2, e2⟩ := hy 2 (by omega)
  rw [e2] at f2
  obtain ⟨y3, e3⟩ := hy 3 (by omega)
  rw [e3] at f3
  obtain ⟨z0, g0, _, _⟩ := DataW.trod_int Try.underlying2 f0
  obtain ⟨z1, g1, _, _⟩ := DataW.trod_int Try.underlying2 f1
  obtain ⟨z2, g2, _⟩ := DataW.trod_bool Try.underlying4 f2
  obtain ⟨z3, g3, _, w3⟩ := DataW.trod_int Try.underlying39 f3
  have r3 := bounds_u64 w3
  obtain ⟨m3, rfl⟩ := Int.eq_ofNat_of_zero_le r3.1
  simp at g0 g1 g2 g3
  subst g0 g1 g2 g3
  exact ⟨z0, z1, z2, m3, rfl, by unfold Wf; omega⟩
set_option maxRecDepth 100000 in
/-- A Row that came in. -/
theorem row_open {r : Reach} {b0 : Nat} {v : Value} {d : DataW H} {pl : List MemPlace} (hv : Value.okWide Try.prog w r b0 44 v) (h : DataW.Trod enc Try.prog w base (fun _ => true) held 44 v d pl)
    (hw : ∀ n ∈ d.weights Try.prog 44, n ≤ reachBytes) : ∃ (A B : Int) (raw : Bool) (z : Nat) (sp : Option Addr) (l c : Nat) (xs : List Int), v = .agg #[.int .i64 A, .int .i64 B, .bool raw, .int .u64 (z : Int), .slice sp l c] ∧ Wf z ∧ xs.length = l ∧ l ≤ 140737488355328 ∧ l ≤ c ∧ Nums w sp xs := by
  obtain ⟨cs, rfl, hsz⟩ := okWide_struct Try.underlying44 hv
  obtain ⟨c0, c1, c2, c3, c4, rfl⟩ := array5 (hsz.trans Try.cellsRow)
  obtain ⟨fuel, hf0⟩ := h
  obtain ⟨ys, n, _, hx, hl, hlen, hf⟩ := DataW.trod_struct Try.underlying44 hf0
  have f0 : DataW.trod enc Try.prog w base (fun _ => true) held n 41 (([c0, c1, c2, c3, c4].drop 0).take (Try.prog.cellsOf 41)) = ys[0]? := hf 0 _ rfl
  have f1 : DataW.trod enc Try.prog w base (fun _ => true) held n 42 (([c0, c1, c2, c3, c4].drop 4).take (Try.prog.cellsOf 42)) = ys[1]? := hf 1 _ rfl
  simp only [Try.cellsWeight, Try.cellsI64s, List.drop_zero, List.drop_succ_cons, List.take_succ_cons, List.take_zero] at f0 f1
  have hy : ∀ i, i < 2 → ∃ y, ys[i]? = some y := fun i hi => ⟨ys[i]'(by rw [hlen]; exact hi), List.getElem?_eq_getElem _⟩
  obtain ⟨y0, e0⟩ := hy 0 (by omega)
  rw [e0] at f0
  obtain ⟨y1, e1⟩ := hy 1 (by omega)
  rw [e1] at f1
  simp only [Prod.mk.injEq] at hx
  obtain ⟨rfl, _⟩ := hx
  have hw1 : ∀ n ∈ y1.1.weights Try.prog 42, n ≤ reachBytes := fun n hn => hw n (by
    simp only [DataW.weights, Try.underlying44]
    exact DataW.weights_mem_each (j := 1) (t := 42) rfl (by simp [e1]) n hn)
  obtain ⟨A, B, raw, z, he, hz⟩ := weight_open f0
  obtain ⟨sp, l, c, xs, rfl, o1, o2, o3, o4⟩ := ints_open f1 hw1
  simp only [List.cons.injEq, and_true] at he
  obtain ⟨rfl, rfl, rfl, rfl⟩ := he
  exact ⟨A, B, raw, z, sp, l, c, xs, rfl, hz, o1, o2, o3, o4⟩
set_option maxRecDepth 100000 in
/-- A Same that came in. -/
theorem same_open {r : Reach} {b0 : Nat} {v : Value} {d : DataW H} {pl : List MemPlace} (hv : Value.okWide Try.prog w r b0 55 v) (h : DataW.Trod enc Try.prog w base (fun _ => true) held 55 v d pl) :
    ∃ (A B : Int) (raw : Bool) (z : Nat) (x n have' : Int), v = .agg #[.int .i64 A, .int .i64 B, .bool raw, .int .u64 (z : Int), .int .i64 x, .int .i64 n, .int .i64 have'] ∧ Wf z ∧ (-9223372036854775808 ≤ x ∧ x ≤ 9223372036854775807) ∧ (-9223372036854775808 ≤ n ∧ n ≤ 9223372036854775807) ∧ (-9223372036854775808 ≤ have' ∧ have' ≤ 9223372036854775807) := by
  obtain ⟨cs, rfl, hsz⟩ := okWide_struct Try.underlying55 hv
  obtain ⟨c0, c1, c2, c3, c4, c5, c6, rfl⟩ := array7 (hsz.trans Try.cellsSame)
  obtain ⟨fuel, hf0⟩ := h
  obtain ⟨ys, n, _, hx, hl, hlen, hf⟩ := DataW.trod_struct Try.underlying55 hf0
  have f0 : DataW.trod enc Try.prog w base (fun _ => true) held n 41 (([c0, c1, c2, c3, c4, c5, c6].drop 0).take (Try.prog.cellsOf 41)) = ys[0]? := hf 0 _ rfl
  have f1 : DataW.trod enc Try.prog w base (fun _ => true) held n 2 (([c0, c1, c2, c3, c4, c5, c6].drop 4).take (Try.prog.cellsOf 2)) = ys[1]? := hf 1 _ rfl
  have f2 : DataW.trod enc Try.prog w base (fun _ => true) held n 3 (([c0, c1, c2, c3, c4, c5, c6].drop 5).take (Try.prog.cellsOf 3)) = ys[2]? := hf 2 _ rfl
  have f3 : DataW.trod enc Try.prog w base (fun _ => true) held n 2 (([c0, c1, c2, c3, c4, c5, c6].drop 6).take (Try.prog.cellsOf 2)) = ys[3]? := hf 3 _ rfl
  simp only [Try.cellsWeight, Try.cellsI64, Try.cellsInt, List.drop_zero, List.drop_succ_cons, List.take_succ_cons, List.take_zero] at f0 f1 f2 f3
  have hy : ∀ i, i < 4 → ∃ y, ys[i]? = some y := fun i hi => ⟨ys[i]'(by rw [hlen]; exact hi), List.getElem?_eq_getElem _⟩
  obtain ⟨y0, e0⟩ := hy 0 (by omega)
  rw [e0] at f0
  obtain ⟨y1, e1⟩ := hy 1 (by omega)
  rw [e1] at f1
  obtain ⟨y2, e2⟩ := hy 2 (by omega)
  rw [e2] at f2
  obtain ⟨y3, e3⟩ := hy 3 (by omega)
  rw [e3] at f3
  obtain ⟨A, B, raw, z, he, hz⟩ := weight_open f0
  obtain ⟨z1, g1, _, r1⟩ := DataW.trod_int Try.underlying2 f1
  obtain ⟨z2, g2, _, r2⟩ := DataW.trod_int Try.underlying3 f2
  obtain ⟨z3, g3, _, r3⟩ := DataW.trod_int Try.underlying2 f3
  simp only [List.cons.injEq, and_true] at he
  obtain ⟨rfl, rfl, rfl, rfl⟩ := he
  simp at g1 g2 g3
  subst g1 g2 g3
  exact ⟨A, B, raw, z, z1, z2, z3, rfl, hz, bounds_i64 r1, bounds_i64 r2, bounds_i64 r3⟩
end
end Go.Proofs.Ytfcakfedlcajaaa
