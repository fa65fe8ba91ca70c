import Derived.Test.YtlnldipiofddkabOpen
namespace Go.Proofs.Ytlnldipiofddkab
open Go.RowKit Go.ChangeShapes Go.WideShapes Go.Deep

/-- A text that came in. -/
structure Txt where
  p : Option Addr
  l : Nat
  c : Nat
  xs : List Nat

structure Txt.Good (t : Txt) (w : World) : Prop where
  len : t.xs.length = t.l
  cap : t.l ≤ t.c
  most : t.c ≤ 140737488351232
  lie : Bytes w t.p t.xs

/-- The texts of a list lie one behind the other. -/
structure TxtsIn (w : World) (sp : Option Addr) (ts : List Txt) : Prop where
  good : ∀ t ∈ ts, t.Good w
  lie : ts = [] ∨ ∃ g o, sp = some ⟨g, o, none⟩ ∧ g < w.heap.size ∧ ∀ j t, ts[j]? = some t → w.cell? ⟨g, o + j, none⟩ = some (.slice t.p t.l t.c)

section
variable {H : Type} {enc : TypeId × Value → H} {w : World} {base : Nat} {held : Bool}

theorem Try.bytesB : Try.prog.bytesOf 22 = 24 := by kernel_rfl
theorem Try.cellsBB : Try.prog.cellsOf 39 = 1 := by kernel_rfl
theorem Try.cellsCr : Try.prog.cellsOf 41 = 2 := by kernel_rfl

/-- The texts that came in. -/
theorem txts_open {fuel : Nat} {v : Value} {x : DataW H × List MemPlace} (h : DataW.trod enc Try.prog w base (fun _ => true) held fuel 39 [v] = some x) (hw : ∀ n ∈ x.1.weights Try.prog 39, n ≤ reachBytes) :
    ∃ sp l c ts, v = .slice sp l c ∧ ts.length = l ∧ l ≤ c ∧ c ≤ 140737488351232 ∧ TxtsIn w sp ts := by
  rcases open_slice Try.underlying39 h with ⟨hcs, hx⟩ | ⟨a, len, cap, m, n, D, Pl, hcs, _, hl, hm, hmm, hx, hel⟩
  · simp at hcs
    exact ⟨none, 0, 0, [], hcs, rfl, by omega, by omega, ⟨by simp, Or.inl rfl⟩⟩
  · simp at hcs hmm
    rw [Try.cellsB] at hel
    have hD : x.1 = .slice ((List.range len).map D) ((List.range (m - len)).map fun j => D (len + j)) := by rw [hx]
    have hcap : cap ≤ 140737488351232 := by
      have h1 := hw ((len + (m - len)) * 24) (by rw [hD]; simp [DataW.weights, Try.underlying39, Try.bytesB])
      simp only [reachBytes] at h1
      omega
    have hDw : ∀ i, i < len → ∀ n ∈ (D i).weights Try.prog 22, n ≤ reachBytes := fun i hi n hn => hw n (by
      rw [hD]
      simp only [DataW.weights, Try.underlying39, List.mem_cons, List.mem_append]
      exact Or.inr (Or.inl (weights_all (List.mem_map.2 ⟨i, List.mem_range.2 hi, rfl⟩) n hn)))
    obtain ⟨f, hf⟩ := @choose_lt Txt ⟨⟨none, 0, 0, []⟩⟩ len (fun i p => w.cells? base (a.add (i * 1)) 1 = some [.slice p.p p.l p.c] ∧ p.Good w) (fun i hi => by
      obtain ⟨cs', h1, h2⟩ := hel i (by omega)
      have hl1 : cs'.length = 1 := (World.cells?_some h1).2.1
      obtain ⟨u, rfl⟩ : ∃ u, cs' = [u] := by
        match cs', hl1 with
        | [u], _ => exact ⟨u, rfl⟩
      obtain ⟨sp, l, c, xs, rfl, b1, b2, b3, b4⟩ := bytes_open h2 (hDw i hi)
      exact ⟨⟨sp, l, c, xs⟩, h1, ⟨b1, b2, b3, b4⟩⟩)
    refine ⟨some a, len, cap, (List.range len).map f, hcs, by simp, hl, hcap, ⟨?_, ?_⟩⟩
    · intro p hp
      simp only [List.mem_map, List.mem_range] at hp
      obtain ⟨i, hi, rfl⟩ := hp
      exact (hf i hi).2
    · by_cases h0 : len = 0
      · left; simp [h0]
      · right
        have c0 := (World.cells?_some (hf 0 (by omega)).1).2.2 0 (by omega)
        obtain ⟨g, o, rfl⟩ : ∃ g o, a = ⟨g, o, none⟩ := by
          obtain ⟨g, o, e⟩ := addr_plain (v := .slice (f 0).p (f 0).l (f 0).c) (by simpa using c0)
          exact ⟨g, o, by simpa [Addr.add] using e⟩
        refine ⟨g, o, rfl, ?_, fun j p hj => ?_⟩
        · have := cell_block (v := .slice (f 0).p (f 0).l (f 0).c) (by simpa using c0)
          simpa [add_plain] using this
        · simp only [List.getElem?_map, Option.map_eq_some_iff] at hj
          obtain ⟨i, hi, rfl⟩ := hj
          obtain ⟨hlt, rfl⟩ := List.getElem?_eq_some_iff.1 hi
          simp at hlt
          simp only [List.getElem_range]
          have hc := (World.cells?_some (hf j hlt).1).2.2 0 (by omega)
          simp only [add_plain] at hc
          simpa using hc

/-- What came in, read as a number and a list of texts. -/
theorem crowd_open {r : Reach} {b0 : Nat} {v : Value} {d : DataW H} {pl : List MemPlace} (hv : Value.okWide Try.prog w r b0 41 v) (h : DataW.Trod enc Try.prog w base (fun _ => true) held 41 v d pl)
    (hw : ∀ n ∈ d.weights Try.prog 41, n ≤ reachBytes) : ∃ n0 sp l c ts, v = .agg #[.int .i64 n0, .slice sp l c] ∧ -9223372036854775808 ≤ n0 ∧ n0 ≤ 9223372036854775807 ∧ ts.length = l ∧ l ≤ c ∧ c ≤ 140737488351232 ∧ TxtsIn w sp ts := by
  obtain ⟨cs, rfl, hsz⟩ := okWide_struct Try.underlying41 hv
  obtain ⟨c0, c1, rfl⟩ : ∃ c0 c1, cs = #[c0, c1] := by
    obtain ⟨l⟩ := cs
    match l, hsz.trans Try.cellsCr with
    | [u, v], _ => exact ⟨u, v, rfl⟩
  obtain ⟨fuel, hf⟩ := h
  obtain ⟨ys, n, _, hx, hl, hlen, hfa⟩ := DataW.trod_struct Try.underlying41 hf
  have f0 : DataW.trod enc Try.prog w base (fun _ => true) held n 3 (([c0, c1].drop 0).take (Try.prog.cellsOf 3)) = ys[0]? := hfa 0 _ rfl
  have f1 : DataW.trod enc Try.prog w base (fun _ => true) held n 39 (([c0, c1].drop 1).take (Try.prog.cellsOf 39)) = ys[1]? := hfa 1 _ rfl
  obtain ⟨y0, e0⟩ : ∃ y, ys[0]? = some y := ⟨ys[0]'(by rw [hlen]; exact (by decide : 0 < 2)), List.getElem?_eq_getElem _⟩
  obtain ⟨y1, e1⟩ : ∃ y, ys[1]? = some y := ⟨ys[1]'(by rw [hlen]; exact (by decide : 1 < 2)), List.getElem?_eq_getElem _⟩
  rw [e0] at f0
  rw [e1] at f1
  simp only [Try.cellsBB, Try.cellsInt, List.drop_zero, List.drop_succ_cons, List.take_succ_cons, List.take_zero] at f0 f1
  have hw1 : ∀ n ∈ y1.1.weights Try.prog 39, n ≤ reachBytes := fun n hn => hw n (by
    simp only [Prod.mk.injEq] at hx
    rw [hx.1]
    simp only [DataW.weights, Try.underlying41]
    exact DataW.weights_mem_each (j := 1) (t := 39) rfl (by simp [e1]) n hn)
  obtain ⟨z0, g0, _, w0⟩ := DataW.trod_int Try.underlying3 f0
  obtain ⟨sp, l, c, ts, rfl, t1, t2, t3, t4⟩ := txts_open f1 hw1
  simp at g0
  subst g0
  have r0 := bounds_i64 w0
  exact ⟨z0, sp, l, c, ts, rfl, by omega, by omega, t1, t2, t3, t4⟩

end

end Go.Proofs.Ytlnldipiofddkab
