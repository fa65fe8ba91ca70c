import Derived.Test.YtlpafgjgoheomaaOpen
import Derived.Test.YtlpafgjgoheomaaCrash
namespace Go.Proofs.Ytlpafgjgoheomaa
open Go.RowKit Go.ChangeShapes Go.WideShapes Go.Deep

section
variable {H : Type} {enc : TypeId × Value → H} {w : World} {base : Nat} {held : Bool}

theorem Try.cellsPow : Try.prog.cellsOf 50 = 5 := by kernel_rfl
theorem five {l : List Value} (h : l.length = 5) : ∃ a b c d e, l = [a, b, c, d, e] := by
  match l, h with
  | [a, b, c, d, e], _ => exact ⟨a, b, c, d, e, rfl⟩
/-- Numbers that came in. -/
theorem ints_open {fuel : Nat} {v : Value} {x : DataW H × List MemPlace} (h : DataW.trod enc Try.prog w base (fun _ => true) held fuel 23 [v] = some x) (hw : ∀ n ∈ x.1.weights Try.prog 23, n ≤ reachBytes) :
    ∃ sp l c zs, v = .slice sp l c ∧ zs.length = l ∧ l ≤ 140737488351232 ∧ Ins w sp zs := by
  rcases open_ints Try.underlying23 Try.underlying3 Try.cellsInt h with ⟨hcs, hx⟩ | ⟨a, len, cap, zs, hcs, _, hl, hm, hz, hx, hcell, hwz⟩
  · simp at hcs
    exact ⟨none, 0, 0, [], hcs, rfl, by omega, ⟨Or.inl rfl⟩⟩
  · simp at hcs hz
    have h1 := hw (cap * 8) (by rw [hx]; simp [DataW.weights, Try.underlying23, Try.bytesInt, lits, hz]; left; omega)
    have h2 : cap ≤ 140737488351232 := by have h3 : cap * 8 ≤ 140737488351232 := by simpa [reachBytes] using h1
                                          omega
    by_cases h0 : len = 0
    · subst h0
      exact ⟨some a, 0, cap, [], hcs, rfl, by omega, ⟨Or.inl rfl⟩⟩
    · obtain ⟨g, o, rfl⟩ : ∃ g o, a = ⟨g, o, none⟩ := by
        have := hcell 0 (by omega)
        obtain ⟨g, o, e⟩ := addr_plain this
        refine ⟨g, o, ?_⟩
        simpa [Addr.add] using e
      have hg : g < w.heap.size := by have := cell_block (hcell 0 (by omega)); rw [add_plain] at this; exact this
      refine ⟨some ⟨g, o, none⟩, len, cap, zs.take len, hcs, by simp; omega, by omega, ⟨Or.inr ⟨g, o, rfl, hg, fun j hj => ?_⟩⟩⟩
      simp at hj
      have := hcell j (by omega)
      rw [add_plain] at this
      rw [this]
      simp [List.getD, show j < len by omega, List.getElem?_eq_getElem (show j < zs.length by omega)]

set_option maxRecDepth 100000 in
/-- What came in: steps, a number, picks, more steps, more picks. -/
theorem power_open {r : Reach} {b0 : Nat} {v : Value} {d : DataW H} {pl : List MemPlace} (hv : Value.okWide Try.prog w r b0 50 v) (h : DataW.Trod enc Try.prog w base (fun _ => true) held 50 v d pl)
    (hw : ∀ n ∈ d.weights Try.prog 50, n ≤ reachBytes) : ∃ sp l c ops z pp pm pc ps mp ml mc more np nl nc next, v = .agg #[.slice sp l c, .int .i64 z, .slice pp pm pc, .slice mp ml mc, .slice np nl nc] ∧
      (ops.length = l ∧ l ≤ 140737488351232 ∧ Opi w sp ops ∧ ∀ q ∈ ops, OpOk w (fun _ => (0, 0)) q ∧ q.bc ≤ 9223372036854775807) ∧ (ps.length = pm ∧ pm ≤ 140737488351232 ∧ Ins w pp ps) ∧
      (more.length = ml ∧ ml ≤ 140737488351232 ∧ Opi w mp more ∧ ∀ q ∈ more, OpOk w (fun _ => (0, 0)) q ∧ q.bc ≤ 9223372036854775807) ∧ (next.length = nl ∧ nl ≤ 140737488351232 ∧ Ins w np next) := by
  obtain ⟨cs, rfl, hsz⟩ := okWide_struct Try.underlying50 hv
  obtain ⟨fuel, hf0⟩ := h
  obtain ⟨ys, n, hx0, hxx, hl, hlen, hf⟩ := DataW.trod_struct Try.underlying50 hf0
  obtain ⟨c0, c1, c2, c3, c4, hcs⟩ := five (l := cs.toList) (by simpa using hsz.trans Try.cellsPow)
  have hcs2 : cs = #[c0, c1, c2, c3, c4] := by rw [← Array.toArray_toList (xs := cs), hcs]
  subst hcs2
  have f0 : DataW.trod enc Try.prog w base (fun _ => true) held n 48 (([c0, c1, c2, c3, c4].drop 0).take (Try.prog.cellsOf 48)) = ys[0]? := hf 0 _ rfl
  have f1 : DataW.trod enc Try.prog w base (fun _ => true) held n 3 (([c0, c1, c2, c3, c4].drop 1).take (Try.prog.cellsOf 3)) = ys[1]? := hf 1 _ rfl
  have f2 : DataW.trod enc Try.prog w base (fun _ => true) held n 23 (([c0, c1, c2, c3, c4].drop 2).take (Try.prog.cellsOf 23)) = ys[2]? := hf 2 _ rfl
  have f3 : DataW.trod enc Try.prog w base (fun _ => true) held n 48 (([c0, c1, c2, c3, c4].drop 3).take (Try.prog.cellsOf 48)) = ys[3]? := hf 3 _ rfl
  have f4 : DataW.trod enc Try.prog w base (fun _ => true) held n 23 (([c0, c1, c2, c3, c4].drop 4).take (Try.prog.cellsOf 23)) = ys[4]? := hf 4 _ rfl
  simp only [Try.cellsInt, Try.cellsOps, Try.cellsIs, List.drop_zero, List.drop_succ_cons, List.take_succ_cons, List.take_zero] at f0 f1 f2 f3 f4
  have hy : ∀ i, i < 5 → ∃ y, ys[i]? = some y := fun i hi => ⟨ys[i]'(by rw [hlen]; exact hi), List.getElem?_eq_getElem _⟩
  obtain ⟨y0, e0⟩ := hy 0 (by omega)
  obtain ⟨y1, e1⟩ := hy 1 (by omega)
  obtain ⟨y2, e2⟩ := hy 2 (by omega)
  obtain ⟨y3, e3⟩ := hy 3 (by omega)
  obtain ⟨y4, e4⟩ := hy 4 (by omega)
  rw [e0] at f0; rw [e1] at f1; rw [e2] at f2; rw [e3] at f3; rw [e4] at f4
  have hww : ∀ (j : Nat) (t : TypeId) (y : DataW H × List MemPlace), [48, 3, 23, 48, 23][j]? = some t → ys[j]? = some y → ∀ n ∈ y.1.weights Try.prog t, n ≤ reachBytes := fun j t y ht hy n hn => hw n (by
    simp only [Prod.mk.injEq] at hxx
    rw [hxx.1]
    simp only [DataW.weights, Try.underlying50]
    exact DataW.weights_mem_each (j := j) (t := t) ht (by simp [hy]) n hn)
  obtain ⟨z1, g1, _, _⟩ := DataW.trod_int Try.underlying3 f1
  obtain ⟨sp, l, c, ops, g0, o1, o2, o3, o4⟩ := ops_open f0 (hww 0 _ y0 rfl e0)
  obtain ⟨mp, ml, mc, more, g3, p1, p2, p3, p4⟩ := ops_open f3 (hww 3 _ y3 rfl e3)
  obtain ⟨pp, pm, pc, ps, g2, q1, q2, q3⟩ := ints_open f2 (hww 2 _ y2 rfl e2)
  obtain ⟨np, nl, nc, next, g4, r1, r2, r3⟩ := ints_open f4 (hww 4 _ y4 rfl e4)
  simp at g1
  subst g0 g1 g2 g3 g4
  exact ⟨sp, l, c, ops, z1, pp, pm, pc, ps, mp, ml, mc, more, np, nl, nc, next, rfl, ⟨o1, o2, o3, o4⟩, ⟨q1, q2, q3⟩, ⟨p1, p2, p3, p4⟩, r1, r2, r3⟩

end
end Go.Proofs.Ytlpafgjgoheomaa
