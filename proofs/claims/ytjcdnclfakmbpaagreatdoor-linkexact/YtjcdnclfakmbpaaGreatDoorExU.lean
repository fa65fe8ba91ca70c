import Derived.Test.YtjcdnclfakmbpaaGreatDoorLkO
import Derived.Test.YtjcdnclfakmbpaaGreatDoorRaA
namespace Go.Proofs.YtjcdnclfakmbpaaGreatDoor
open Go.RowKit Go.ChangeShapes Go.WideShapes Go.ChangeAt Go.Deep
section
variable {H : Type} {enc : TypeId × Value → H} {w : World} {base : Nat} {held : Bool}
theorem Tryz.cellsOp : Tryz.prog.cellsOf 35 = 12 := by kernel_rfl
theorem Tryz.bytesOp : Tryz.prog.bytesOf 35 = 128 := by kernel_rfl
theorem Tryz.cellsOps : Tryz.prog.cellsOf 24 = 1 := by kernel_rfl
theorem Tryz.cellsScript : Tryz.prog.cellsOf 26 = 7 := by kernel_rfl
theorem Tryz.cellsLives : Tryz.prog.cellsOf 23 = 2 := by kernel_rfl
theorem twelve {l : List Value} (h : l.length = 12) : ∃ a b c d e f g i j k m n, l = [a, b, c, d, e, f, g, i, j, k, m, n] := by
  match l, h with
  | [a, b, c, d, e, f, g, i, j, k, m, n], _ => exact ⟨a, b, c, d, e, f, g, i, j, k, m, n, rfl⟩
theorem array7 {α : Type} {cs : Array α} (h : cs.size = 7) : ∃ c0 c1 c2 c3 c4 c5 c6, cs = #[c0, c1, c2, c3, c4, c5, c6] := by
  obtain ⟨l⟩ := cs
  match l, h with
  | [a, b, c, d, e, f, g], _ => exact ⟨a, b, c, d, e, f, g, rfl⟩
set_option maxRecDepth 100000 in
theorem op_open {fuel : Nat} {cs : List Value} {x : DataW H × List MemPlace} (h : DataW.trod enc Tryz.prog w base (fun _ => true) held fuel 35 cs = some x) (hw : ∀ n ∈ x.1.weights Tryz.prog 35, n ≤ reachBytes) : ∃ r : Rop, cs = opC r ∧ RopOk w r ∧ 0 ≤ r.life := by
  obtain ⟨ys, n, _, rfl, hl, hlen, hf⟩ := DataW.trod_struct Tryz.underlying35 h
  rw [Tryz.cellsOp] at hl
  obtain ⟨v0, v1, v2, v3, v4, v5, v6, v7, v8, v9, v10, v11, rfl⟩ := twelve hl
  have f0 : DataW.trod enc Tryz.prog w base (fun _ => true) held n 3 (([v0, v1, v2, v3, v4, v5, v6, v7, v8, v9, v10, v11].drop 0).take (Tryz.prog.cellsOf 3)) = ys[0]? := hf 0 _ rfl
  have f1 : DataW.trod enc Tryz.prog w base (fun _ => true) held n 3 (([v0, v1, v2, v3, v4, v5, v6, v7, v8, v9, v10, v11].drop 1).take (Tryz.prog.cellsOf 3)) = ys[1]? := hf 1 _ rfl
  have f2 : DataW.trod enc Tryz.prog w base (fun _ => true) held n 31 (([v0, v1, v2, v3, v4, v5, v6, v7, v8, v9, v10, v11].drop 2).take (Tryz.prog.cellsOf 31)) = ys[2]? := hf 2 _ rfl
  have f3 : DataW.trod enc Tryz.prog w base (fun _ => true) held n 33 (([v0, v1, v2, v3, v4, v5, v6, v7, v8, v9, v10, v11].drop 3).take (Tryz.prog.cellsOf 33)) = ys[3]? := hf 3 _ rfl
  have f4 : DataW.trod enc Tryz.prog w base (fun _ => true) held n 3 (([v0, v1, v2, v3, v4, v5, v6, v7, v8, v9, v10, v11].drop 10).take (Tryz.prog.cellsOf 3)) = ys[4]? := hf 4 _ rfl
  have f5 : DataW.trod enc Tryz.prog w base (fun _ => true) held n 22 (([v0, v1, v2, v3, v4, v5, v6, v7, v8, v9, v10, v11].drop 11).take (Tryz.prog.cellsOf 22)) = ys[5]? := hf 5 _ rfl
  simp only [Tryz.cellsInt, Tryz.cellsU64, Tryz.cellsB, Tryz.cellsFr, List.drop_zero, List.drop_succ_cons, List.take_succ_cons, List.take_zero] at f0 f1 f2 f3 f4 f5
  have hy : ∀ i, i < 6 → ∃ y, ys[i]? = some y := fun i hi => ⟨ys[i]'(by rw [hlen]; exact hi), List.getElem?_eq_getElem _⟩
  obtain ⟨y0, e0⟩ := hy 0 (by omega)
  rw [e0] at f0
  obtain ⟨y1, e1⟩ := hy 1 (by omega)
  rw [e1] at f1
  obtain ⟨y2, e2⟩ := hy 2 (by omega)
  rw [e2] at f2
  obtain ⟨y3, e3⟩ := hy 3 (by omega)
  rw [e3] at f3
  obtain ⟨y4, e4⟩ := hy 4 (by omega)
  rw [e4] at f4
  obtain ⟨y5, e5⟩ := hy 5 (by omega)
  rw [e5] at f5
  obtain ⟨z0, g0, _, _⟩ := DataW.trod_int Tryz.underlying3 f0
  obtain ⟨z1, g1, _, _⟩ := DataW.trod_int Tryz.underlying3 f1
  obtain ⟨z4, g4, _, _⟩ := DataW.trod_int Tryz.underlying3 f4
  obtain ⟨z5, g5, _, w5⟩ := DataW.trod_int Tryz.underlying22 f5
  have hz5 := (bounds_u64 w5).1
  have hw2 : ∀ n ∈ y2.1.weights Tryz.prog 31, n ≤ reachBytes := fun n hn => hw n (by
    simp only [DataW.weights, Tryz.underlying35]
    exact DataW.weights_mem_each (j := 2) (t := 31) rfl (by simp [e2]) n hn)
  have hw3 : ∀ n ∈ y3.1.weights Tryz.prog 33, n ≤ reachBytes := fun n hn => hw n (by
    simp only [DataW.weights, Tryz.underlying35]
    exact DataW.weights_mem_each (j := 3) (t := 33) rfl (by simp [e3]) n hn)
  obtain ⟨sp, l, c, xs, rfl, a1, a2, a3, a4, _⟩ := bytes_open f2 hw2
  obtain ⟨fe, hfe, hfo⟩ := frame_open f3 hw3
  simp at g0 g1 g4 g5
  subst g0 g1 g4 g5
  simp only [feC, List.cons.injEq, and_true] at hfe
  obtain ⟨rfl, rfl, rfl, rfl, rfl, rfl, rfl⟩ := hfe
  exact ⟨⟨z0, z1, sp, c, xs, fe, z4, z5⟩, by simp [opC, a1], ⟨a4, by show xs.length ≤ _; omega, hfo⟩, hz5⟩
theorem ops_open {fuel : Nat} {v : Value} {x : DataW H × List MemPlace} (h : DataW.trod enc Tryz.prog w base (fun _ => true) held fuel 24 [v] = some x) (hw : ∀ n ∈ x.1.weights Tryz.prog 24, n ≤ reachBytes) :
    ∃ sp l c cl, v = .slice sp l c ∧ cl.length = l ∧ l ≤ 140737488351232 ∧ Rops w sp cl ∧ ∀ r ∈ cl, 0 ≤ r.life := by
  rcases open_slice Tryz.underlying24 h with ⟨hcs, hx⟩ | ⟨a, len, cap, m, n, D, Pl, hcs, _, hl, hm, hmm, hx, hel⟩
  · simp at hcs
    exact ⟨none, 0, 0, [], hcs, rfl, by omega, fun i e he => by simp at he, fun r hr => by simp at hr⟩
  · simp at hcs hmm
    rw [Tryz.cellsOp] at hel
    have hD : x.1 = .slice ((List.range len).map D) ((List.range (m - len)).map fun j => D (len + j)) := by rw [hx]
    have hcap : cap ≤ 140737488351232 := by
      have h1 := hw ((len + (m - len)) * 128) (by rw [hD]; simp [DataW.weights, Tryz.underlying24, Tryz.bytesOp])
      simp only [reachBytes] at h1
      omega
    have hDw : ∀ i, i < len → ∀ n ∈ (D i).weights Tryz.prog 35, n ≤ reachBytes := fun i hi n hn => hw n (by
      rw [hD]
      simp only [DataW.weights, Tryz.underlying24, List.mem_cons, List.mem_append]
      exact Or.inr (Or.inl (weights_all (List.mem_map.2 ⟨i, List.mem_range.2 hi, rfl⟩) n hn)))
    obtain ⟨f, hf⟩ := @choose_lt Rop ⟨⟨0, 0, none, 0, [], ⟨⟨0, 0, 0, 0, 0, 0, []⟩, none, 0⟩, 0, 0⟩⟩ len (fun i p => w.cells? base (a.add (i * 12)) 12 = some (opC p) ∧ RopOk w p ∧ 0 ≤ p.life) (fun i hi => by
      obtain ⟨cs', h1, h2⟩ := hel i (by omega)
      obtain ⟨p, rfl, hp⟩ := op_open h2 (hDw i hi)
      exact ⟨p, h1, hp⟩)
    refine ⟨some a, len, cap, (List.range len).map f, hcs, by simp, by omega, fun j q hj => ?_, fun r hr => by
      obtain ⟨j, hj, rfl⟩ := List.mem_map.1 hr
      exact (hf j (List.mem_range.1 hj)).2.2⟩
    have hjl : j < len := by
      have := (List.getElem?_eq_some_iff.1 hj).1
      simpa using this
    have c0 := (World.cells?_some (hf 0 (by omega)).1).2.2 0 (by omega)
    obtain ⟨g, o, rfl⟩ : ∃ g o, a = ⟨g, o, none⟩ := by
      obtain ⟨g, o, e⟩ := addr_plain (v := .int .i64 (f 0).kind) (by simpa [opC] using c0)
      exact ⟨g, o, by simpa [Addr.add] using e⟩
    rw [List.getElem?_map, List.getElem?_range hjl] at hj
    simp at hj
    subst hj
    refine ⟨g, o, rfl, ?_, fun k u hu => ?_, (hf j hjl).2.1⟩
    · have := cell_block (v := .int .i64 (f 0).kind) (by simpa [opC] using c0)
      simpa [add_plain] using this
    · have hk7 : k < 12 := by
        have := (List.getElem?_eq_some_iff.1 hu).1
        simpa [opC] using this
      have e0 := (World.cells?_some (hf j hjl).1).2.2 k hk7
      simp only [add_plain] at e0
      rw [e0, hu]
set_option maxRecDepth 100000 in
theorem lives_open {fuel : Nat} {v0 v1 : Value} {x : DataW H × List MemPlace} (h : DataW.trod enc Tryz.prog w base (fun _ => true) held fuel 23 [v0, v1] = some x) : ∃ m2 m3 : Nat, v0 = .int .u64 (m2 : Int) ∧ v1 = .int .u64 (m3 : Int) := by
  obtain ⟨ys, m, _, rfl, hl, hlen, hfa⟩ := DataW.trod_array Tryz.underlying23 h
  have b0 := hfa 0 (by omega)
  have b1 := hfa 1 (by omega)
  simp only [Tryz.cellsU64, Nat.zero_mul, Nat.one_mul, List.drop_zero, List.drop_succ_cons, List.take_succ_cons, List.take_zero] at b0 b1
  obtain ⟨y0, e0⟩ : ∃ y, ys[0]? = some y := ⟨ys[0]'(by omega), List.getElem?_eq_getElem _⟩
  obtain ⟨y1, e1⟩ : ∃ y, ys[1]? = some y := ⟨ys[1]'(by omega), List.getElem?_eq_getElem _⟩
  rw [e0] at b0
  rw [e1] at b1
  obtain ⟨z0, g0, _, w0⟩ := DataW.trod_int Tryz.underlying22 b0
  obtain ⟨z1, g1, _, w1⟩ := DataW.trod_int Tryz.underlying22 b1
  obtain ⟨m2, rfl⟩ := Int.eq_ofNat_of_zero_le (bounds_u64 w0).1
  obtain ⟨m3, rfl⟩ := Int.eq_ofNat_of_zero_le (bounds_u64 w1).1
  simp at g0 g1
  exact ⟨m2, m3, g0, g1⟩
set_option maxRecDepth 100000 in
theorem script_open {r : Reach} {b0 : Nat} {v : Value} {d : DataW H} {pl : List MemPlace} (hv : Value.okWide Tryz.prog w r b0 26 v) (h : DataW.Trod enc Tryz.prog w base (fun _ => true) held 26 v d pl)
    (hw : ∀ n ∈ d.weights Tryz.prog 26, n ≤ reachBytes) : ∃ sA sB sW sC L0 L1 sp l c rs, v = .agg #[.int .i64 sA, .int .i64 sB, .int .u64 ((L0 : Nat) : Int), .int .u64 ((L1 : Nat) : Int), .int .i64 sW, .int .i64 sC, .slice sp l c] ∧ rs.length = l ∧ l ≤ 140737488351232 ∧ Rops w sp rs ∧ ∀ r ∈ rs, 0 ≤ r.life := by
  obtain ⟨cs, rfl, hsz⟩ := okWide_struct Tryz.underlying26 hv
  obtain ⟨c0, c1, c2, c3, c4, c5, c6, rfl⟩ := array7 (hsz.trans Tryz.cellsScript)
  obtain ⟨fuel, hf0⟩ := h
  obtain ⟨ys, n, _, hx, hl, hlen, hf⟩ := DataW.trod_struct Tryz.underlying26 hf0
  have f0 : DataW.trod enc Tryz.prog w base (fun _ => true) held n 3 (([c0, c1, c2, c3, c4, c5, c6].drop 0).take (Tryz.prog.cellsOf 3)) = ys[0]? := hf 0 _ rfl
  have f1 : DataW.trod enc Tryz.prog w base (fun _ => true) held n 3 (([c0, c1, c2, c3, c4, c5, c6].drop 1).take (Tryz.prog.cellsOf 3)) = ys[1]? := hf 1 _ rfl
  have f2 : DataW.trod enc Tryz.prog w base (fun _ => true) held n 23 (([c0, c1, c2, c3, c4, c5, c6].drop 2).take (Tryz.prog.cellsOf 23)) = ys[2]? := hf 2 _ rfl
  have f3 : DataW.trod enc Tryz.prog w base (fun _ => true) held n 3 (([c0, c1, c2, c3, c4, c5, c6].drop 4).take (Tryz.prog.cellsOf 3)) = ys[3]? := hf 3 _ rfl
  have f4 : DataW.trod enc Tryz.prog w base (fun _ => true) held n 3 (([c0, c1, c2, c3, c4, c5, c6].drop 5).take (Tryz.prog.cellsOf 3)) = ys[4]? := hf 4 _ rfl
  have f5 : DataW.trod enc Tryz.prog w base (fun _ => true) held n 24 (([c0, c1, c2, c3, c4, c5, c6].drop 6).take (Tryz.prog.cellsOf 24)) = ys[5]? := hf 5 _ rfl
  simp only [Tryz.cellsInt, Tryz.cellsLives, Tryz.cellsOps, List.drop_zero, List.drop_succ_cons, List.take_succ_cons, List.take_zero] at f0 f1 f2 f3 f4 f5
  have hy : ∀ i, i < 6 → ∃ y, ys[i]? = some y := fun i hi => ⟨ys[i]'(by rw [hlen]; exact hi), List.getElem?_eq_getElem _⟩
  obtain ⟨y0, e0⟩ := hy 0 (by omega)
  rw [e0] at f0
  obtain ⟨y1, e1⟩ := hy 1 (by omega)
  rw [e1] at f1
  obtain ⟨y2, e2⟩ := hy 2 (by omega)
  rw [e2] at f2
  obtain ⟨y3, e3⟩ := hy 3 (by omega)
  rw [e3] at f3
  obtain ⟨y4, e4⟩ := hy 4 (by omega)
  rw [e4] at f4
  obtain ⟨y5, e5⟩ := hy 5 (by omega)
  rw [e5] at f5
  simp only [Prod.mk.injEq] at hx
  obtain ⟨rfl, _⟩ := hx
  have hw5 : ∀ n ∈ y5.1.weights Tryz.prog 24, n ≤ reachBytes := fun n hn => hw n (by
    simp only [DataW.weights, Tryz.underlying26]
    exact DataW.weights_mem_each (j := 5) (t := 24) rfl (by simp [e5]) n hn)
  obtain ⟨z0, g0, _, _⟩ := DataW.trod_int Tryz.underlying3 f0
  obtain ⟨z1, g1, _, _⟩ := DataW.trod_int Tryz.underlying3 f1
  obtain ⟨z3, g3, _, _⟩ := DataW.trod_int Tryz.underlying3 f3
  obtain ⟨z4, g4, _, _⟩ := DataW.trod_int Tryz.underlying3 f4
  obtain ⟨m2, m3, g2⟩ := lives_open f2
  obtain ⟨sp, l, c, rs, rfl, a1, a2, a3, a4⟩ := ops_open f5 hw5
  simp at g0 g1 g2 g3 g4
  obtain ⟨ga, gb⟩ := g2
  subst g0 g1 ga gb g3 g4
  exact ⟨z0, z1, z3, z4, m2, m3, sp, l, c, rs, rfl, a1, a2, a3, a4⟩
end
end Go.Proofs.YtjcdnclfakmbpaaGreatDoor
