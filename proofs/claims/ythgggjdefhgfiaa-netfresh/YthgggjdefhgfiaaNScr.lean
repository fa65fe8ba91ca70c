import Derived.Test.YthgggjdefhgfiaaNGo
import Derived.ProofKit
import Derived.Lib.SmallJoins
import Derived.OpenShut
import Derived.SizedLaws
namespace Go.Proofs.Ythgggjdefhgfiaa
open Go.RowKit Go.ChangeShapes Go.WideShapes Go.Deep

section
variable {H : Type} {enc : TypeId × Value → H} {w : World} {base : Nat} {held : Bool}
theorem Try.cells5 : Try.prog.cellsOf 5 = 1 := by kernel_rfl
theorem Try.bytes5 : Try.prog.bytesOf 5 = 1 := by kernel_rfl
theorem Try.cellsOp : Try.prog.cellsOf 61 = 5 := by kernel_rfl
theorem Try.bytesOp : Try.prog.bytesOf 61 = 56 := by kernel_rfl
theorem Try.cellsInt : Try.prog.cellsOf 3 = 1 := by kernel_rfl
theorem Try.cellsB : Try.prog.cellsOf 59 = 1 := by kernel_rfl
theorem Try.cellsOps : Try.prog.cellsOf 23 = 1 := by kernel_rfl
theorem Try.cellsR : Try.prog.cellsOf 22 = 2 := by kernel_rfl
theorem Try.cellsScr : Try.prog.cellsOf 25 = 3 := by kernel_rfl
theorem addr_plain {a : Addr} {v : Value} (h : w.cell? a = some v) : ∃ g o, a = ⟨g, o, none⟩ := by
  obtain ⟨g, o, sp⟩ := a
  unfold World.cell? at h
  cases sp with
  | none => exact ⟨g, o, rfl⟩
  | some x => split at h <;> simp at h
theorem add_plain (g o j : Nat) : (⟨g, o, none⟩ : Addr).add j = ⟨g, o + j, none⟩ := by
  unfold Addr.add; split <;> simp_all
/-- Bytes that came in. -/
theorem bytes_open {fuel : Nat} {v : Value} {x : DataW H × List MemPlace} (h : DataW.trod enc Try.prog w base (fun _ => true) held fuel 59 [v] = some x) (hw : ∀ n ∈ x.1.weights Try.prog 59, n ≤ reachBytes) :
    ∃ sp l c xs, v = .slice sp l c ∧ xs.length = l ∧ l ≤ c ∧ c ≤ 140737488351232 ∧ Bytes w sp xs ∧ (xs = [] ∨ ∀ g o, sp = some ⟨g, o, none⟩ → g < w.heap.size) := by
  rcases open_ints Try.underlying59 Try.underlying5 Try.cells5 h with ⟨hcs, hx⟩ | ⟨a, len, cap, zs, hcs, _, hl, hm, hz, hx, hcell, hwz⟩
  · simp at hcs
    exact ⟨none, 0, 0, [], hcs, rfl, by omega, by omega, ⟨fun _ h => (by cases h), Or.inl rfl⟩, Or.inl rfl⟩
  · simp at hcs hz
    have h1 := hw (cap * 1) (by rw [hx]; simp [DataW.weights, Try.underlying59, Try.bytes5, lits, hz]; left; omega)
    have h2 : cap ≤ 140737488351232 := by simpa [reachBytes] using h1
    have hsm : ∀ y ∈ (zs.take len).map Int.toNat, y < 256 := by
      intro y hy
      simp only [List.mem_map] at hy
      obtain ⟨z, hz', rfl⟩ := hy
      have := bounds_u8 (hwz z (List.mem_of_mem_take hz'))
      omega
    by_cases h0 : len = 0
    · subst h0
      exact ⟨some a, 0, cap, [], hcs, rfl, hl, h2, ⟨fun _ h => (by cases h), Or.inl rfl⟩, Or.inl rfl⟩
    · obtain ⟨g, o, rfl⟩ : ∃ g o, a = ⟨g, o, none⟩ := by
        have := hcell 0 (by omega)
        obtain ⟨g, o, e⟩ := addr_plain this
        refine ⟨g, o, ?_⟩
        simpa [Addr.add] using e
      have hg : g < w.heap.size := by have := cell_block (hcell 0 (by omega)); rw [add_plain] at this; exact this
      refine ⟨some ⟨g, o, none⟩, len, cap, (zs.take len).map Int.toNat, hcs, by simp; omega, hl, h2, ⟨hsm, Or.inr ⟨g, o, rfl, hg, fun j hj => ?_⟩⟩, Or.inr (fun g' o' e => by cases e; exact hg)⟩
      simp at hj
      have := hcell j (by omega)
      rw [add_plain] at this
      rw [this]
      have hb := bounds_u8 (hwz _ (List.getElem_mem (show j < zs.length by omega)))
      simp [List.getD, show j < len by omega, List.getElem?_eq_getElem (show j < zs.length by omega)]
      omega
theorem weights_all {P : Program} {e : TypeId} : ∀ {l : List (DataW H)} {d : DataW H}, d ∈ l → ∀ n ∈ d.weights P e, n ∈ DataW.weightsAll P e l
  | d0 :: r, d, hd, n, hn => by
    simp only [DataW.weightsAll, List.mem_append]
    rcases List.mem_cons.1 hd with rfl | h
    · exact Or.inl hn
    · exact Or.inr (weights_all h n hn)
  | [], _, hd, _, _ => by cases hd
theorem five {l : List Value} (h : l.length = 5) : ∃ a b c d e, l = [a, b, c, d, e] := by
  match l, h with
  | [a, b, c, d, e], _ => exact ⟨a, b, c, d, e, rfl⟩
theorem two {l : List Value} (h : l.length = 2) : ∃ a b, l = [a, b] := by
  match l, h with
  | [a, b], _ => exact ⟨a, b, rfl⟩
/-- A call that came in. -/
theorem nop_open {fuel : Nat} {cs : List Value} {x : DataW H × List MemPlace} (h : DataW.trod enc Try.prog w base (fun _ => true) held fuel 61 cs = some x) (hw : ∀ n ∈ x.1.weights Try.prog 61, n ≤ reachBytes) : ∃ q : NOp, cs = nopc q ∧ NOk w q := by
  obtain ⟨ys, n, _, rfl, hl, hlen, hf⟩ := DataW.trod_struct Try.underlying61 h
  rw [Try.cellsOp] at hl
  obtain ⟨a, b, c, d, e, rfl⟩ := five hl
  have f0 : DataW.trod enc Try.prog w base (fun _ => true) held n 3 (([a, b, c, d, e].drop 0).take (Try.prog.cellsOf 3)) = ys[0]? := hf 0 _ rfl
  have f1 : DataW.trod enc Try.prog w base (fun _ => true) held n 3 (([a, b, c, d, e].drop 1).take (Try.prog.cellsOf 3)) = ys[1]? := hf 1 _ rfl
  have f2 : DataW.trod enc Try.prog w base (fun _ => true) held n 3 (([a, b, c, d, e].drop 2).take (Try.prog.cellsOf 3)) = ys[2]? := hf 2 _ rfl
  have f3 : DataW.trod enc Try.prog w base (fun _ => true) held n 3 (([a, b, c, d, e].drop 3).take (Try.prog.cellsOf 3)) = ys[3]? := hf 3 _ rfl
  have f4 : DataW.trod enc Try.prog w base (fun _ => true) held n 59 (([a, b, c, d, e].drop 4).take (Try.prog.cellsOf 59)) = ys[4]? := hf 4 _ rfl
  simp only [Try.cellsInt, Try.cellsB, List.drop_zero, List.drop_succ_cons, List.take_succ_cons, List.take_zero] at f0 f1 f2 f3 f4
  have hy : ∀ i, i < 5 → ∃ y, ys[i]? = some y := fun i hi => ⟨ys[i]'(by rw [hlen]; exact hi), List.getElem?_eq_getElem _⟩
  obtain ⟨y0, e0⟩ := hy 0 (by omega)
  obtain ⟨y1, e1⟩ := hy 1 (by omega)
  obtain ⟨y2, e2⟩ := hy 2 (by omega)
  obtain ⟨y3, e3⟩ := hy 3 (by omega)
  obtain ⟨y4, e4⟩ := hy 4 (by omega)
  rw [e0] at f0
  rw [e1] at f1
  rw [e2] at f2
  rw [e3] at f3
  rw [e4] at f4
  obtain ⟨z0, g0, _, _⟩ := DataW.trod_int Try.underlying3 f0
  obtain ⟨z1, g1, _, _⟩ := DataW.trod_int Try.underlying3 f1
  obtain ⟨z2, g2, _, _⟩ := DataW.trod_int Try.underlying3 f2
  obtain ⟨z3, g3, _, _⟩ := DataW.trod_int Try.underlying3 f3
  have hw4 : ∀ n ∈ y4.1.weights Try.prog 59, n ≤ reachBytes := fun n hn => hw n (by
    simp only [DataW.weights, Try.underlying61]
    exact DataW.weights_mem_each (j := 4) (t := 59) rfl (by simp [e4]) n hn)
  obtain ⟨bp, bl, bc, xs, q1, q2, q3, q4, q5, q6⟩ := bytes_open f4 hw4
  simp at g0 g1 g2 g3
  subst g0 g1 g2 g3 q1
  exact ⟨⟨z0, z1, z2, z3, bp, bl, bc, xs⟩, rfl, q5, q2, q3, by show bc ≤ _; omega, q6⟩
theorem nops_open {fuel : Nat} {v : Value} {x : DataW H × List MemPlace} (h : DataW.trod enc Try.prog w base (fun _ => true) held fuel 23 [v] = some x) (hw : ∀ n ∈ x.1.weights Try.prog 23, n ≤ reachBytes) :
    ∃ sp l c ops, v = .slice sp l c ∧ ops.length = l ∧ l ≤ 140737488351232 ∧ Nopi w sp ops := by
  rcases open_slice Try.underlying23 h with ⟨hcs, hx⟩ | ⟨a, len, cap, m, n, D, Pl, hcs, _, hl, hm, hmm, hx, hel⟩
  · simp at hcs
    exact ⟨none, 0, 0, [], hcs, rfl, by omega, ⟨Or.inl rfl, fun _ h => (by cases h)⟩⟩
  · simp at hcs hmm
    rw [Try.cellsOp] at hel
    have hD : x.1 = .slice ((List.range len).map D) ((List.range (m - len)).map fun j => D (len + j)) := by rw [hx]
    have hcap : cap ≤ 140737488351232 := by
      have h1 := hw ((len + (m - len)) * 56) (by rw [hD]; simp [DataW.weights, Try.underlying23, Try.bytesOp])
      simp only [reachBytes] at h1
      omega
    have hDw : ∀ i, i < len → ∀ n ∈ (D i).weights Try.prog 61, n ≤ reachBytes := fun i hi n hn => hw n (by
      rw [hD]
      simp only [DataW.weights, Try.underlying23, List.mem_cons, List.mem_append]
      exact Or.inr (Or.inl (weights_all (List.mem_map.2 ⟨i, List.mem_range.2 hi, rfl⟩) n hn)))
    obtain ⟨f, hf⟩ := @choose_lt NOp ⟨⟨0, 0, 0, 0, none, 0, 0, []⟩⟩ len (fun i p => w.cells? base (a.add (i * 5)) 5 = some (nopc p) ∧ NOk w p) (fun i hi => by
      obtain ⟨cs', h1, h2⟩ := hel i (by omega)
      obtain ⟨p, rfl, hp⟩ := nop_open h2 (hDw i hi)
      exact ⟨p, h1, hp⟩)
    refine ⟨some a, len, cap, (List.range len).map f, hcs, by simp, by omega, ⟨?_, ?_⟩⟩
    · by_cases h0 : len = 0
      · left; simp [h0]
      · right
        have c0 := (World.cells?_some (hf 0 (by omega)).1).2.2 0 (by omega)
        obtain ⟨g, o, rfl⟩ : ∃ g o, a = ⟨g, o, none⟩ := by
          obtain ⟨g, o, e⟩ := addr_plain (v := .int .i64 (f 0).d) (by simpa [nopc] using c0)
          exact ⟨g, o, by simpa [Addr.add] using e⟩
        refine ⟨g, o, rfl, ?_, fun j q hj i v hv => ?_⟩
        · have := cell_block (v := .int .i64 (f 0).d) (by simpa [nopc] using c0)
          simpa [add_plain] using this
        · have hjl : j < len := by
            have := (List.getElem?_eq_some_iff.1 hj).1
            simpa using this
          rw [List.getElem?_map, List.getElem?_range hjl] at hj
          simp at hj
          have hi5 : i < 5 := (List.getElem?_eq_some_iff.1 hv).1
          have e0 := (World.cells?_some (hf j hjl).1).2.2 i hi5
          simp only [add_plain, hj] at e0
          rw [hv] at e0
          exact e0
    · intro p hp
      simp only [List.mem_map, List.mem_range] at hp
      obtain ⟨i, hi, rfl⟩ := hp
      exact (hf i hi).2
set_option maxRecDepth 100000 in
/-- A script that came in. -/
theorem script_open {r : Reach} {b0 : Nat} {v : Value} {d : DataW H} {pl : List MemPlace} (hv : Value.okWide Try.prog w r b0 25 v) (h : DataW.Trod enc Try.prog w base (fun _ => true) held 25 v d pl)
    (hw : ∀ n ∈ d.weights Try.prog 25, n ≤ reachBytes) : ∃ r0 r1 sp l c ops, v = .agg #[.int .i64 r0, .int .i64 r1, .slice sp l c] ∧ ops.length = l ∧ l ≤ 140737488351232 ∧ Nopi w sp ops := by
  obtain ⟨cs, rfl, hsz⟩ := okWide_struct Try.underlying25 hv
  obtain ⟨c0, c1, c2, rfl⟩ := Joins.array3 (hsz.trans Try.cellsScr)
  obtain ⟨fuel, hf⟩ := h
  obtain ⟨y0, y1, n, hx, _, h0, h1⟩ := trod_struct2 Try.underlying25 hf
  have h0' : DataW.trod enc Try.prog w base (fun _ => true) held n 22 [c0, c1] = some y0 := by
    have : DataW.trod enc Try.prog w base (fun _ => true) held n 22 (([c0, c1, c2].drop 0).take (Try.prog.cellsOf 22)) = some y0 := h0
    simpa [Try.cellsR] using this
  have h1' : DataW.trod enc Try.prog w base (fun _ => true) held n 23 [c2] = some y1 := by
    have : DataW.trod enc Try.prog w base (fun _ => true) held n 23 (([c0, c1, c2].drop 2).take (Try.prog.cellsOf 23)) = some y1 := h1
    simpa [Try.cellsOps] using this
  simp only [Prod.mk.injEq] at hx
  obtain ⟨rfl, _⟩ := hx
  have hw1 : ∀ n ∈ y1.1.weights Try.prog 23, n ≤ reachBytes := fun n hn => hw n (by
    simp only [DataW.weights, Try.underlying25]
    exact DataW.weights_mem_each (j := 1) (t := 23) rfl rfl n hn)
  obtain ⟨ys, m, _, _, hl, hlen, hfa⟩ := DataW.trod_array Try.underlying22 h0'
  have a0 := hfa 0 (by omega)
  have a1 := hfa 1 (by omega)
  simp only [Try.cellsInt] at a0 a1
  have hy : ∀ i, i < 2 → ∃ y, ys[i]? = some y := fun i hi => ⟨ys[i]'(by rw [hlen]; exact hi), List.getElem?_eq_getElem _⟩
  obtain ⟨v0, e0⟩ := hy 0 (by omega)
  obtain ⟨v1, e1⟩ := hy 1 (by omega)
  rw [e0] at a0
  rw [e1] at a1
  obtain ⟨z0, g0, _, _⟩ := DataW.trod_int Try.underlying3 a0
  obtain ⟨z1, g1, _, _⟩ := DataW.trod_int Try.underlying3 a1
  obtain ⟨sp, l, c, ops, rfl, o1, o2, o3⟩ := nops_open h1' hw1
  simp at g0 g1
  subst g0 g1
  exact ⟨z0, z1, sp, l, c, ops, rfl, o1, o2, o3⟩
end
end Go.Proofs.Ythgggjdefhgfiaa
