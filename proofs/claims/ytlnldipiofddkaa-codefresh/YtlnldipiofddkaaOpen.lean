import Derived.Test.YtlnldipiofddkaaStops
import Derived.ProofKit
import Derived.Lib.SmallJoins
import Derived.OpenShut
import Derived.SizedLaws
namespace Go.Proofs.Ytlnldipiofddkaa
open Go.RowKit Go.ChangeShapes Go.WideShapes Go.Deep

section
variable {H : Type} {enc : TypeId × Value → H} {w : World} {base : Nat} {held : Bool}

theorem Try.cells5 : Try.prog.cellsOf 5 = 1 := by kernel_rfl
theorem Try.bytes5 : Try.prog.bytesOf 5 = 1 := by kernel_rfl
theorem Try.cellsOp : Try.prog.cellsOf 33 = 5 := by kernel_rfl
theorem Try.bytesOp : Try.prog.bytesOf 33 = 56 := by kernel_rfl
theorem Try.cellsInt : Try.prog.cellsOf 3 = 1 := by kernel_rfl
theorem Try.cellsU64 : Try.prog.cellsOf 31 = 1 := by kernel_rfl
theorem Try.cellsB : Try.prog.cellsOf 22 = 1 := by kernel_rfl
theorem Try.cellsOps : Try.prog.cellsOf 24 = 1 := by kernel_rfl
theorem Try.cellsIn : Try.prog.cellsOf 23 = 2 := by kernel_rfl
theorem Try.cellsScr : Try.prog.cellsOf 26 = 3 := by kernel_rfl

theorem addr_plain {a : Addr} {v : Value} (h : w.cell? a = some v) : ∃ g o, a = ⟨g, o, none⟩ := by
  obtain ⟨g, o, sp⟩ := a
  unfold World.cell? at h
  cases sp with
  | none => exact ⟨g, o, rfl⟩
  | some x => split at h <;> simp at h

theorem add_plain (g o j : Nat) : (⟨g, o, none⟩ : Addr).add j = ⟨g, o + j, none⟩ := by
  unfold Addr.add; split <;> simp_all

/-- Bytes that came in. -/
theorem bytes_open {fuel : Nat} {v : Value} {x : DataW H × List MemPlace} (h : DataW.trod enc Try.prog w base (fun _ => true) held fuel 22 [v] = some x) (hw : ∀ n ∈ x.1.weights Try.prog 22, n ≤ reachBytes) :
    ∃ sp l c xs, v = .slice sp l c ∧ xs.length = l ∧ l ≤ c ∧ c ≤ 140737488351232 ∧ Bytes w sp xs := by
  rcases open_ints Try.underlying22 Try.underlying5 Try.cells5 h with ⟨hcs, hx⟩ | ⟨a, len, cap, zs, hcs, _, hl, hm, hz, hx, hcell, hwz⟩
  · simp at hcs
    exact ⟨none, 0, 0, [], hcs, rfl, by omega, by omega, bytes_none _ _⟩
  · simp at hcs hz
    have h1 := hw (cap * 1) (by rw [hx]; simp [DataW.weights, Try.underlying22, Try.bytes5, lits, hz]; left; omega)
    have h2 : cap ≤ 140737488351232 := by simpa [reachBytes] using h1
    refine ⟨some a, len, cap, (zs.take len).map Int.toNat, hcs, by simp; omega, hl, h2, ⟨?_, ?_⟩⟩
    · intro y hy
      simp only [List.mem_map] at hy
      obtain ⟨z, hz', rfl⟩ := hy
      have := hwz z (List.mem_of_mem_take hz')
      have := bounds_u8 this
      omega
    · by_cases h0 : len = 0
      · left; simp [h0]
      · right
        obtain ⟨g, o, rfl⟩ : ∃ g o, a = ⟨g, o, none⟩ := by
          have := hcell 0 (by omega)
          obtain ⟨g, o, e⟩ := addr_plain this
          refine ⟨g, o, ?_⟩
          simpa [Addr.add] using e
        refine ⟨g, o, rfl, ?_, fun j hj => ?_⟩
        · have := cell_block (hcell 0 (by omega)); rw [add_plain] at this; exact this
        · simp at hj
          have := hcell j (by omega)
          rw [add_plain] at this
          rw [this]
          have hb := bounds_u8 (hwz _ (List.getElem_mem (show j < zs.length by omega)))
          simp [List.getD, show j < len by omega, List.getElem?_eq_getElem (show j < zs.length by omega)]
          omega

theorem weights_all {P : Program} {e : TypeId} : ∀ {l : List (DataW H)} {d : DataW H}, d ∈ l → ∀ n ∈ d.weights P e, n ∈ DataW.weightsAll P e l
  | d0 :: r, d, hd, n, hn => by
    simp only [DataW.weightsAll, List.mem_append]
    rcases List.mem_cons.1 hd with rfl | h
    · exact Or.inl hn
    · exact Or.inr (weights_all h n hn)
  | [], _, hd, _, _ => by cases hd

theorem five {l : List Value} (h : l.length = 5) : ∃ a b c d e, l = [a, b, c, d, e] := by
  match l, h with
  | [a, b, c, d, e], _ => exact ⟨a, b, c, d, e, rfl⟩

/-- One step that came in. -/
theorem op_open {fuel : Nat} {cs : List Value} {x : DataW H × List MemPlace} (h : DataW.trod enc Try.prog w base (fun _ => true) held fuel 33 cs = some x) (hw : ∀ n ∈ x.1.weights Try.prog 33, n ≤ reachBytes) :
    ∃ p : Op1, cs = [.int .i64 p.kind, .int .i64 p.which, .int .i64 p.m, .int .u64 (p.n : Int), .slice p.bp p.bl p.bc] ∧ p.Good w := by
  obtain ⟨ys, n, _, rfl, hl, hlen, hf⟩ := DataW.trod_struct Try.underlying33 h
  rw [Try.cellsOp] at hl
  obtain ⟨a, b, c, d, e, rfl⟩ := five hl
  have f0 : DataW.trod enc Try.prog w base (fun _ => true) held n 3 (([a, b, c, d, e].drop 0).take (Try.prog.cellsOf 3)) = ys[0]? := hf 0 _ rfl
  have f1 : DataW.trod enc Try.prog w base (fun _ => true) held n 3 (([a, b, c, d, e].drop 1).take (Try.prog.cellsOf 3)) = ys[1]? := hf 1 _ rfl
  have f2 : DataW.trod enc Try.prog w base (fun _ => true) held n 3 (([a, b, c, d, e].drop 2).take (Try.prog.cellsOf 3)) = ys[2]? := hf 2 _ rfl
  have f3 : DataW.trod enc Try.prog w base (fun _ => true) held n 31 (([a, b, c, d, e].drop 3).take (Try.prog.cellsOf 31)) = ys[3]? := hf 3 _ rfl
  have f4 : DataW.trod enc Try.prog w base (fun _ => true) held n 22 (([a, b, c, d, e].drop 4).take (Try.prog.cellsOf 22)) = ys[4]? := hf 4 _ rfl
  simp only [Try.cellsInt, Try.cellsU64, Try.cellsB, List.drop_zero, List.drop_succ_cons, List.take_succ_cons, List.take_zero] at f0 f1 f2 f3 f4
  have hy : ∀ i, i < 5 → ∃ y, ys[i]? = some y := fun i hi => ⟨ys[i]'(by rw [hlen]; exact hi), List.getElem?_eq_getElem _⟩
  obtain ⟨y0, e0⟩ := hy 0 (by omega)
  obtain ⟨y1, e1⟩ := hy 1 (by omega)
  obtain ⟨y2, e2⟩ := hy 2 (by omega)
  obtain ⟨y3, e3⟩ := hy 3 (by omega)
  obtain ⟨y4, e4⟩ := hy 4 (by omega)
  rw [e0] at f0; rw [e1] at f1; rw [e2] at f2; rw [e3] at f3; rw [e4] at f4
  obtain ⟨z0, g0, _, w0⟩ := DataW.trod_int Try.underlying3 f0
  obtain ⟨z1, g1, _, w1⟩ := DataW.trod_int Try.underlying3 f1
  obtain ⟨z2, g2, _, w2⟩ := DataW.trod_int Try.underlying3 f2
  obtain ⟨z3, g3, _, w3⟩ := DataW.trod_int Try.underlying31 f3
  have hw4 : ∀ n ∈ y4.1.weights Try.prog 22, n ≤ reachBytes := fun n hn => hw n (by
    simp only [DataW.weights, Try.underlying33]
    exact DataW.weights_mem_each (j := 4) (t := 22) rfl (by simp [e4]) n hn)
  obtain ⟨sp, l, cp, xs, g4, b1, b2, b3, b4⟩ := bytes_open f4 hw4
  simp at g0 g1 g2 g3
  subst g0 g1 g2 g3 g4
  have r0 := bounds_i64 w0
  have r1 := bounds_i64 w1
  have r2 := bounds_i64 w2
  have r3 := bounds_u64 w3
  refine ⟨⟨z0, z1, z2, z3.toNat, sp, l, cp, xs⟩, ?_, ⟨by simp only; omega, by simp only; omega, by simp only; omega, by simp only; omega, by simp only; omega, by simp only; omega, by simp only; omega, b1, b2, b3, b4⟩⟩
  simp only [List.cons.injEq, and_true, true_and, Value.int.injEq]
  omega

/-- The steps that came in. -/
theorem ops_open {fuel : Nat} {v : Value} {x : DataW H × List MemPlace} (h : DataW.trod enc Try.prog w base (fun _ => true) held fuel 24 [v] = some x) (hw : ∀ n ∈ x.1.weights Try.prog 24, n ≤ reachBytes) :
    ∃ sp l c ops, v = .slice sp l c ∧ ops.length = l ∧ l ≤ c ∧ c ≤ 140737488351232 ∧ OpsIn w sp ops := by
  rcases open_slice Try.underlying24 h with ⟨hcs, hx⟩ | ⟨a, len, cap, m, n, D, Pl, hcs, _, hl, hm, hmm, hx, hel⟩
  · simp at hcs
    exact ⟨none, 0, 0, [], hcs, rfl, by omega, by omega, ⟨by simp, Or.inl rfl⟩⟩
  · simp at hcs hmm
    rw [Try.cellsOp] at hel
    have hD : x.1 = .slice ((List.range len).map D) ((List.range (m - len)).map fun j => D (len + j)) := by rw [hx]
    have hcap : cap ≤ 140737488351232 := by
      have h1 := hw ((len + (m - len)) * 56) (by rw [hD]; simp [DataW.weights, Try.underlying24, Try.bytesOp])
      simp only [reachBytes] at h1
      omega
    have hDw : ∀ i, i < len → ∀ n ∈ (D i).weights Try.prog 33, n ≤ reachBytes := fun i hi n hn => hw n (by
      rw [hD]
      simp only [DataW.weights, Try.underlying24, List.mem_cons, List.mem_append]
      exact Or.inr (Or.inl (weights_all (List.mem_map.2 ⟨i, List.mem_range.2 hi, rfl⟩) n hn)))
    obtain ⟨f, hf⟩ := @choose_lt Op1 ⟨⟨0, 0, 0, 0, none, 0, 0, []⟩⟩ len (fun i p => w.cells? base (a.add (i * 5)) 5 = some [.int .i64 p.kind, .int .i64 p.which, .int .i64 p.m, .int .u64 (p.n : Int), .slice p.bp p.bl p.bc] ∧ p.Good w) (fun i hi => by
      obtain ⟨cs', h1, h2⟩ := hel i (by omega)
      obtain ⟨p, rfl, hp⟩ := op_open h2 (hDw i hi)
      exact ⟨p, h1, hp⟩)
    refine ⟨some a, len, cap, (List.range len).map f, hcs, by simp, hl, hcap, ⟨?_, ?_⟩⟩
    · intro p hp
      simp only [List.mem_map, List.mem_range] at hp
      obtain ⟨i, hi, rfl⟩ := hp
      exact (hf i hi).2
    · by_cases h0 : len = 0
      · left; simp [h0]
      · right
        have c0 := (World.cells?_some (hf 0 (by omega)).1).2.2 0 (by omega)
        obtain ⟨g, o, rfl⟩ : ∃ g o, a = ⟨g, o, none⟩ := by
          obtain ⟨g, o, e⟩ := addr_plain (v := .int .i64 (f 0).kind) (by simpa using c0)
          exact ⟨g, o, by simpa [Addr.add] using e⟩
        refine ⟨g, o, rfl, ?_, fun j p hj => ?_⟩
        · have := cell_block (v := .int .i64 (f 0).kind) (by simpa using c0)
          simpa [add_plain] using this
        · simp only [List.getElem?_map, Option.map_eq_some_iff] at hj
          obtain ⟨i, hi, rfl⟩ := hj
          obtain ⟨hlt, rfl⟩ := List.getElem?_eq_some_iff.1 hi
          simp at hlt
          simp only [List.getElem_range]
          have hc := (World.cells?_some (hf j hlt).1).2.2
          have k0 := hc 0 (by omega)
          have k1 := hc 1 (by omega)
          have k2 := hc 2 (by omega)
          have k3 := hc 3 (by omega)
          have k4 := hc 4 (by omega)
          simp only [add_plain] at k0 k1 k2 k3 k4
          exact ⟨by simpa using k0, by simpa using k1, by simpa using k2, by simpa using k3, by simpa using k4⟩

set_option maxRecDepth 100000 in
/-- A script that came in. -/
theorem scr_open {r : Reach} {b0 : Nat} {v : Value} {d : DataW H} {pl : List MemPlace} (hv : Value.okWide Try.prog w r b0 26 v) (h : DataW.Trod enc Try.prog w base (fun _ => true) held 26 v d pl)
    (hw : ∀ n ∈ d.weights Try.prog 26, n ≤ reachBytes) : ∃ s : Scr, v = .agg s.cells ∧ s.In w := by
  obtain ⟨cs, rfl, hsz⟩ := okWide_struct Try.underlying26 hv
  obtain ⟨c0, c1, c2, rfl⟩ := Joins.array3 (hsz.trans Try.cellsScr)
  obtain ⟨fuel, hf⟩ := h
  obtain ⟨y0, y1, n, hx, _, h0, h1⟩ := trod_struct2 Try.underlying26 hf
  have h0' : DataW.trod enc Try.prog w base (fun _ => true) held n 23 [c0, c1] = some y0 := by
    have : DataW.trod enc Try.prog w base (fun _ => true) held n 23 (([c0, c1, c2].drop 0).take (Try.prog.cellsOf 23)) = some y0 := h0
    simpa [Try.cellsIn] using this
  have h1' : DataW.trod enc Try.prog w base (fun _ => true) held n 24 [c2] = some y1 := by
    have : DataW.trod enc Try.prog w base (fun _ => true) held n 24 (([c0, c1, c2].drop 2).take (Try.prog.cellsOf 24)) = some y1 := h1
    simpa [Try.cellsOps] using this
  simp only [Prod.mk.injEq] at hx
  obtain ⟨rfl, _⟩ := hx
  have hw0 : ∀ n ∈ y0.1.weights Try.prog 23, n ≤ reachBytes := fun n hn => hw n (by
    simp only [DataW.weights, Try.underlying26]
    exact DataW.weights_mem_each (j := 0) (t := 23) rfl rfl n hn)
  have hw1 : ∀ n ∈ y1.1.weights Try.prog 24, n ≤ reachBytes := fun n hn => hw n (by
    simp only [DataW.weights, Try.underlying26]
    exact DataW.weights_mem_each (j := 1) (t := 24) rfl rfl n hn)
  obtain ⟨po, lo, co, ops, rfl, o1, o2, o3, o4⟩ := ops_open h1' hw1
  obtain ⟨ys, m, _, rfl, hl, hlen, hfa⟩ := DataW.trod_array Try.underlying23 h0'
  have hy : ∀ i, i < 2 → ∃ y, ys[i]? = some y := fun i hi => ⟨ys[i]'(by rw [hlen]; exact hi), List.getElem?_eq_getElem _⟩
  obtain ⟨z0, e0⟩ := hy 0 (by omega)
  obtain ⟨z1, e1⟩ := hy 1 (by omega)
  have f0 := hfa 0 (by omega)
  have f1 := hfa 1 (by omega)
  rw [e0] at f0; rw [e1] at f1
  simp only [Try.cellsB, Nat.zero_mul, Nat.one_mul, List.drop_zero, List.drop_succ_cons, List.take_succ_cons, List.take_zero] at f0 f1
  have hz : ∀ (z : DataW H × List MemPlace) (i : Nat), ys[i]? = some z → ∀ n ∈ z.1.weights Try.prog 22, n ≤ reachBytes := fun z i hi n hn => hw0 n (by
    simp only [DataW.weights, Try.underlying23]
    exact weights_all (List.mem_map.2 ⟨z, List.mem_of_getElem? hi, rfl⟩) n hn)
  obtain ⟨p0, l0, k0, x0, rfl, a1, a2, a3, a4⟩ := bytes_open f0 (hz z0 0 e0)
  obtain ⟨p1, l1, k1, x1, rfl, b1, b2, b3, b4⟩ := bytes_open f1 (hz z1 1 e1)
  exact ⟨⟨p0, l0, k0, x0, p1, l1, k1, x1, po, lo, co, ops⟩, rfl, ⟨a1, a2, a3, a4, b1, b2, b3, b4, o1, o2, o3, o4⟩⟩

end
end Go.Proofs.Ytlnldipiofddkaa
