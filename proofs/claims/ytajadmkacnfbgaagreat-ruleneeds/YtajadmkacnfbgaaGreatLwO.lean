import Derived.Test.YtajadmkacnfbgaaGreatLwA
import Derived.ProofKit
import Derived.Lib.SmallJoins
import Derived.OpenShut
import Derived.SizedLaws
import Derived.Deep.Strs
import Derived.Deep.SlicePairs
namespace Go.Proofs.YtajadmkacnfbgaaGreat
open Go.RowKit Go.ChangeShapes Go.WideShapes Go.Deep

section
variable {H : Type} {enc : TypeId × Value → H} {w : World} {base : Nat} {held : Bool}
theorem Tryz.cellsInt : Tryz.prog.cellsOf 3 = 1 := by kernel_rfl
theorem Tryz.cellsI64 : Tryz.prog.cellsOf 2 = 1 := by kernel_rfl
theorem Tryz.cellsLine : Tryz.prog.cellsOf 48 = 2 := by kernel_rfl
theorem Tryz.bytesLine : Tryz.prog.bytesOf 48 = 16 := by kernel_rfl
theorem Tryz.cellsLines : Tryz.prog.cellsOf 46 = 1 := by kernel_rfl
theorem Tryz.bytesLines : Tryz.prog.bytesOf 46 = 24 := by kernel_rfl
theorem Tryz.cellsLiness : Tryz.prog.cellsOf 22 = 1 := by kernel_rfl
theorem Tryz.cellsRows : Tryz.prog.cellsOf 24 = 1 := by kernel_rfl
theorem weights_all {P : Program} {e : TypeId} : ∀ {l : List (DataW H)} {d : DataW H}, d ∈ l → ∀ n ∈ d.weights P e, n ∈ DataW.weightsAll P e l
  | d0 :: r, d, hd, n, hn => by
    simp only [DataW.weightsAll, List.mem_append]
    rcases List.mem_cons.1 hd with rfl | h
    · exact Or.inl hn
    · exact Or.inr (weights_all h n hn)
  | [], _, hd, _, _ => by cases hd
theorem addr_plain {a : Addr} {v : Value} (h : w.cell? a = some v) : ∃ g o, a = ⟨g, o, none⟩ := by
  obtain ⟨g, o, sp⟩ := a
  unfold World.cell? at h
  cases sp with
  | none => exact ⟨g, o, rfl⟩
  | some x => split at h <;> simp at h
theorem add_plain (g o j : Nat) : (⟨g, o, none⟩ : Addr).add j = ⟨g, o + j, none⟩ := by
  unfold Addr.add; split <;> simp_all
theorem cell_in {g o : Nat} {v : Value} (h : w.cell? ⟨g, o, none⟩ = some v) : g < w.heap.size := by
  unfold World.cell? at h
  cases hg : w.heap[g]? with
  | none => simp [hg] at h
  | some x => exact (Array.getElem?_eq_some_iff.1 hg).1
theorem lines_open {fuel : Nat} {v : Value} {x : DataW H × List MemPlace} (h : DataW.trod enc Tryz.prog w base (fun _ => true) held fuel 46 [v] = some x) (hw : ∀ n ∈ x.1.weights Tryz.prog 46, n ≤ reachBytes) :
    ∃ e : Ent, v = .slice e.p e.l e.c ∧ EntOk w e := by
  rcases open_slice_pairs Tryz.underlying46 Tryz.underlying48 Tryz.cellsLine rfl rfl Tryz.cellsInt Tryz.cellsI64 h with ⟨hcs, hx⟩ | ⟨a, len, cap, m, n, V0, V1, D0, D1, P0, P1, hcs, _, hl, hm, hmm, hx, hel⟩
  · simp at hcs
    exact ⟨⟨none, 0, 0, []⟩, hcs, rfl, by show 0 ≤ _; omega, Or.inl rfl⟩
  · simp at hcs hmm
    have hcap : cap ≤ 140737488355328 := by
      have h1 := hw ((len + (m - len)) * 16) (by rw [hx]; simp [DataW.weights, Tryz.underlying46, Tryz.bytesLine])
      simp only [reachBytes] at h1
      omega
    have hz : ∀ i, i < len → ∃ z : Lin, V0 i = .int .i64 z.c ∧ V1 i = .int .i64 z.n := fun i hi => by
      obtain ⟨_, _, h0, h1⟩ := hel i (by omega)
      obtain ⟨z0, g0, _, _⟩ := DataW.trod_int Tryz.underlying3 h0
      obtain ⟨z1, g1, _, _⟩ := DataW.trod_int Tryz.underlying2 h1
      simp at g0 g1
      exact ⟨⟨z0, z1⟩, g0, g1⟩
    obtain ⟨f, hf⟩ := @choose_lt Lin ⟨⟨0, 0⟩⟩ len (fun i z => V0 i = .int .i64 z.c ∧ V1 i = .int .i64 z.n) hz
    refine ⟨⟨some a, len, cap, (List.range len).map f⟩, hcs, by simp, by show len ≤ _; omega, ?_⟩
    by_cases h0 : len = 0
    · left; simp [h0]
    · right
      obtain ⟨c0, _, _, _⟩ := hel 0 (by omega)
      obtain ⟨g, o, e⟩ := addr_plain c0
      obtain ⟨g, o, rfl⟩ : ∃ g o, a = ⟨g, o, none⟩ := ⟨g, o, by simpa [Addr.add] using e⟩
      refine ⟨g, o, rfl, ?_, fun i r hr j u hu => ?_⟩
      · rw [Nat.zero_mul, add_plain] at c0
        exact cell_in c0
      · rw [List.map_map, List.getElem?_map] at hr
        cases hi : (List.range len)[i]? with
        | none => rw [hi] at hr; simp at hr
        | some i' =>
          rw [hi] at hr
          obtain ⟨hlt, e⟩ := List.getElem?_eq_some_iff.1 hi
          simp at hlt e
          subst e
          simp at hr
          subst hr
          obtain ⟨d0, d1, _, _⟩ := hel i (by omega)
          rw [(hf i hlt).1, add_plain] at d0
          rw [(hf i hlt).2, add_plain] at d1
          match j, hu with
          | 0, hu => cases hu; exact d0
          | 1, hu => cases hu; rw [Nat.add_assoc]; exact d1
          | j + 2, hu => simp [linc] at hu
theorem liness_open {fuel : Nat} {v : Value} {x : DataW H × List MemPlace} (h : DataW.trod enc Tryz.prog w base (fun _ => true) held fuel 22 [v] = some x) (hw : ∀ n ∈ x.1.weights Tryz.prog 22, n ≤ reachBytes) :
    ∃ sp l c es, v = .slice sp l c ∧ es.length = l ∧ l ≤ 140737488355328 ∧ Ins w sp es := by
  rcases open_slice Tryz.underlying22 h with ⟨hcs, hx⟩ | ⟨a, len, cap, m, n, D, Pl, hcs, _, hl, hm, hmm, hx, hel⟩
  · simp at hcs
    exact ⟨none, 0, 0, [], hcs, rfl, by omega, fun i e he => by simp at he⟩
  · simp at hcs hmm
    rw [Tryz.cellsLines] at hel
    have hD : x.1 = .slice ((List.range len).map D) ((List.range (m - len)).map fun j => D (len + j)) := by rw [hx]
    have hcap : cap ≤ 140737488355328 := by
      have h1 := hw ((len + (m - len)) * 24) (by rw [hD]; simp [DataW.weights, Tryz.underlying22, Tryz.bytesLines])
      simp only [reachBytes] at h1
      omega
    have hDw : ∀ i, i < len → ∀ n ∈ (D i).weights Tryz.prog 46, n ≤ reachBytes := fun i hi n hn => hw n (by
      rw [hD]
      simp only [DataW.weights, Tryz.underlying22, List.mem_cons, List.mem_append]
      exact Or.inr (Or.inl (weights_all (List.mem_map.2 ⟨i, List.mem_range.2 hi, rfl⟩) n hn)))
    obtain ⟨f, hf⟩ := @choose_lt Ent ⟨⟨none, 0, 0, []⟩⟩ len (fun i p => w.cells? base (a.add (i * 1)) 1 = some [.slice p.p p.l p.c] ∧ EntOk w p) (fun i hi => by
      obtain ⟨cs', h1, h2⟩ := hel i (by omega)
      have hl1 : cs'.length = 1 := (World.cells?_some h1).2.1
      obtain ⟨v1, rfl⟩ : ∃ v1, cs' = [v1] := by
        match cs', hl1 with
        | [v1], _ => exact ⟨v1, rfl⟩
      obtain ⟨e, rfl, hp⟩ := lines_open h2 (hDw i hi)
      exact ⟨e, h1, hp⟩)
    refine ⟨some a, len, cap, (List.range len).map f, hcs, by simp, by omega, fun j p hj => ?_⟩
    simp only [List.getElem?_map, Option.map_eq_some_iff] at hj
    obtain ⟨i, hi, rfl⟩ := hj
    obtain ⟨hlt, rfl⟩ := List.getElem?_eq_some_iff.1 hi
    simp at hlt
    simp only [List.getElem_range]
    have hc := (World.cells?_some (hf j hlt).1).2.2 0 (by omega)
    obtain ⟨g, o, e⟩ := addr_plain ((World.cells?_some (hf 0 (by omega)).1).2.2 0 (by omega))
    obtain ⟨g, o, rfl⟩ : ∃ g o, a = ⟨g, o, none⟩ := ⟨g, o, by simpa [Addr.add] using e⟩
    simp only [add_plain] at hc
    refine ⟨g, o, rfl, cell_in hc, by simpa using hc, (hf j hlt).2⟩
set_option maxRecDepth 100000 in
theorem rows_open {r : Reach} {b0 : Nat} {v : Value} {d : DataW H} {pl : List MemPlace} (hv : Value.okWide Tryz.prog w r b0 24 v) (h : DataW.Trod enc Tryz.prog w base (fun _ => true) held 24 v d pl)
    (hw : ∀ n ∈ d.weights Tryz.prog 24, n ≤ reachBytes) : ∃ sp l c es, v = .agg #[.slice sp l c] ∧ es.length = l ∧ l ≤ 140737488355328 ∧ Ins w sp es := by
  obtain ⟨cs, rfl, hsz⟩ := okWide_struct Tryz.underlying24 hv
  obtain ⟨c0, rfl⟩ : ∃ c0, cs = #[c0] := by
    have hz := hsz.trans Tryz.cellsRows
    obtain ⟨l⟩ := cs
    match l, hz with
    | [a], _ => exact ⟨a, rfl⟩
  obtain ⟨fuel, hf0⟩ := h
  obtain ⟨y0, n, hx, _, h0⟩ := trod_struct1 Tryz.underlying24 hf0
  have h0' : DataW.trod enc Tryz.prog w base (fun _ => true) held n 22 [c0] = some y0 := by
    have : DataW.trod enc Tryz.prog w base (fun _ => true) held n 22 (([c0].drop 0).take (Tryz.prog.cellsOf 22)) = some y0 := h0
    simpa [Tryz.cellsLiness] using this
  simp only [Prod.mk.injEq] at hx
  obtain ⟨rfl, _⟩ := hx
  have hw1 : ∀ n ∈ y0.1.weights Tryz.prog 22, n ≤ reachBytes := fun n hn => hw n (by
    simp only [DataW.weights, Tryz.underlying24]
    exact DataW.weights_mem_each (j := 0) (t := 22) rfl rfl n hn)
  obtain ⟨sp, l, c, es, rfl, o1, o2, o3⟩ := liness_open h0' hw1
  exact ⟨sp, l, c, es, rfl, o1, o2, o3⟩
end
end Go.Proofs.YtajadmkacnfbgaaGreat
