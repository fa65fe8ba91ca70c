import Derived.Test.YtgfegkcmoedgkaaListO
import Derived.Deep.Slices
namespace Go.Proofs.Ytgfegkcmoedgkaa
open Go.RowKit Go.ChangeShapes Go.WideShapes Go.Deep
section
variable {H : Type} {enc : TypeId × Value → H} {w : World} {base : Nat} {held : Bool}
theorem Try.bytesNs : Try.prog.bytesOf 32 = 24 := by kernel_rfl
theorem Try.cellsNss : Try.prog.cellsOf 29 = 1 := by kernel_rfl
theorem Try.cellsLists : Try.prog.cellsOf 31 = 1 := by kernel_rfl
theorem weights_all {P : Program} {e : TypeId} : ∀ {l : List (DataW H)} {d : DataW H}, d ∈ l → ∀ n ∈ d.weights P e, n ∈ DataW.weightsAll P e l
  | d0 :: r, d, hd, n, hn => by
    simp only [DataW.weightsAll, List.mem_append]
    rcases List.mem_cons.1 hd with rfl | h
    · exact Or.inl hn
    · exact Or.inr (weights_all h n hn)
  | [], _, hd, _, _ => by cases hd
/-- A list that came in. -/
structure NL where
  np : Option Addr
  m : Nat
  d : Nat
  zs : List Int
/-- Lists that came in. -/
structure InL (w : World) (sp : Option Addr) (l c : Nat) (ls : List NL) : Prop where
  len : ls.length = l
  cap : l ≤ c
  most : c ≤ 140737488351232
  each : ∀ x ∈ ls, InN w x.np x.m x.d x.zs
  lie : ls = [] ∨ ∃ g o, sp = some ⟨g, o, none⟩ ∧ g < w.heap.size ∧ ∀ j x, ls[j]? = some x → w.cell? ⟨g, o + j, none⟩ = some (.slice x.np x.m x.d)
theorem InL.up {w w' : World} {sp : Option Addr} {l c : Nat} {ls : List NL} (h : InL w sp l c ls) (hb : Below w.heap.size w w') : InL w' sp l c ls :=
  ⟨h.len, h.cap, h.most, fun x hx => (h.each x hx).up hb, by
    rcases h.lie with h | ⟨g, o, e, hg, hc⟩
    · exact Or.inl h
    · exact Or.inr ⟨g, o, e, Nat.lt_of_lt_of_le hg hb.size, fun j s hs => by rw [hb.cell (p := ⟨g, o + j, none⟩) hg]; exact hc j s hs⟩⟩
theorem InL.at {w : World} {sp : Option Addr} {l c : Nat} {ls : List NL} (h : InL w sp l c ls) {k : Nat} (hk : k < ls.length) : ∃ g o, sp = some ⟨g, o, none⟩ ∧ w.cell? ⟨g, o + k, none⟩ = some (.slice (ls[k]'hk).np (ls[k]'hk).m (ls[k]'hk).d) := by
  rcases h.lie with h | ⟨g, o, e, hg, hc⟩
  · subst h; simp at hk
  · exact ⟨g, o, e, hc k _ (List.getElem?_eq_getElem hk)⟩

theorem nss_open {fuel : Nat} {v : Value} {x : DataW H × List MemPlace} (h : DataW.trod enc Try.prog w base (fun _ => true) held fuel 29 [v] = some x) (hw : ∀ n ∈ x.1.weights Try.prog 29, n ≤ reachBytes) :
    ∃ sp l c ls, v = .slice sp l c ∧ InL w sp l c ls := by
  rcases open_slice Try.underlying29 h with ⟨hcs, hx⟩ | ⟨a, len, cap, m, n, D, Pl, hcs, _, hl, hm, hmm, hx, hel⟩
  · simp at hcs
    exact ⟨none, 0, 0, [], hcs, rfl, by omega, by omega, by simp, Or.inl rfl⟩
  · simp at hcs hmm
    rw [Try.cellsNs] at hel
    have hD : x.1 = .slice ((List.range len).map D) ((List.range (m - len)).map fun j => D (len + j)) := by rw [hx]
    have hcap : cap ≤ 140737488351232 := by
      have h1 := hw ((len + (m - len)) * 24) (by rw [hD]; simp [DataW.weights, Try.underlying29, Try.bytesNs])
      simp only [reachBytes] at h1
      omega
    have hDw : ∀ i, i < len → ∀ n ∈ (D i).weights Try.prog 32, n ≤ reachBytes := fun i hi n hn => hw n (by
      rw [hD]
      simp only [DataW.weights, Try.underlying29, List.mem_cons, List.mem_append]
      exact Or.inr (Or.inl (weights_all (List.mem_map.2 ⟨i, List.mem_range.2 hi, rfl⟩) n hn)))
    obtain ⟨f, hf⟩ := @choose_lt NL ⟨⟨none, 0, 0, []⟩⟩ len (fun i p => w.cells? base (a.add (i * 1)) 1 = some [.slice p.np p.m p.d] ∧ InN w p.np p.m p.d p.zs) (fun i hi => by
      obtain ⟨cs', h1, h2⟩ := hel i (by omega)
      have hl1 : cs'.length = 1 := (World.cells?_some h1).2.1
      obtain ⟨v1, rfl⟩ : ∃ v1, cs' = [v1] := by
        match cs', hl1 with
        | [v1], _ => exact ⟨v1, rfl⟩
      obtain ⟨sp', l', c', zs', rfl, hp⟩ := ints_open h2 (hDw i hi)
      exact ⟨⟨sp', l', c', zs'⟩, h1, hp⟩)
    refine ⟨some a, len, cap, (List.range len).map f, hcs, by simp, hl, hcap, ?_, ?_⟩
    · intro p hp
      simp only [List.mem_map, List.mem_range] at hp
      obtain ⟨i, hi, rfl⟩ := hp
      exact (hf i hi).2
    · by_cases h0 : len = 0
      · left; simp [h0]
      · right
        have c0 := (World.cells?_some (hf 0 (by omega)).1).2.2 0 (by omega)
        obtain ⟨g, o, rfl⟩ : ∃ g o, a = ⟨g, o, none⟩ := by
          obtain ⟨g, o, e⟩ := addr_plain (v := .slice (f 0).np (f 0).m (f 0).d) (by simpa using c0)
          exact ⟨g, o, by simpa [Addr.add] using e⟩
        refine ⟨g, o, rfl, ?_, fun j p hj => ?_⟩
        · have := block_lt_of_cell (v := .slice (f 0).np (f 0).m (f 0).d) (by simpa using c0)
          simpa [add_plain] using this
        · simp only [List.getElem?_map, Option.map_eq_some_iff] at hj
          obtain ⟨i, hi, rfl⟩ := hj
          obtain ⟨hlt, rfl⟩ := List.getElem?_eq_some_iff.1 hi
          simp at hlt
          simp only [List.getElem_range]
          have hc := (World.cells?_some (hf j hlt).1).2.2
          have k0 := hc 0 (by omega)
          simp only [add_plain] at k0
          simpa using k0
set_option maxRecDepth 100000 in
theorem lists_open {r : Reach} {b0 : Nat} {v : Value} {d : DataW H} {pl : List MemPlace} (hv : Value.okWide Try.prog w r b0 31 v) (h : DataW.Trod enc Try.prog w base (fun _ => true) held 31 v d pl)
    (hw : ∀ n ∈ d.weights Try.prog 31, n ≤ reachBytes) : ∃ sp l c ls, v = .agg #[.slice sp l c] ∧ InL w sp l c ls := by
  obtain ⟨cs, rfl, hsz⟩ := okWide_struct Try.underlying31 hv
  obtain ⟨c0, hcs⟩ : ∃ c0, cs.toList = [c0] := by
    have hl : cs.toList.length = 1 := by simpa using hsz.trans Try.cellsLists
    match cs.toList, hl with
    | [c0], _ => exact ⟨c0, rfl⟩
  obtain rfl : cs = #[c0] := by rw [← Array.toList_inj]; exact hcs
  obtain ⟨fuel, hf⟩ := h
  obtain ⟨y0, n, hx, _, h0⟩ := trod_struct1 Try.underlying31 hf
  have h0' : DataW.trod enc Try.prog w base (fun _ => true) held n 29 [c0] = some y0 := by
    have : DataW.trod enc Try.prog w base (fun _ => true) held n 29 (([c0].drop 0).take (Try.prog.cellsOf 29)) = some y0 := h0
    simpa [Try.cellsNss] using this
  simp only [Prod.mk.injEq] at hx
  obtain ⟨rfl, _⟩ := hx
  have hw0 : ∀ n ∈ y0.1.weights Try.prog 29, n ≤ reachBytes := fun n hn => hw n (by
    simp only [DataW.weights, Try.underlying31]
    exact DataW.weights_mem_each (j := 0) (t := 29) rfl rfl n hn)
  obtain ⟨sp, l, c, ls, rfl, a1⟩ := nss_open h0' hw0
  exact ⟨sp, l, c, ls, rfl, a1⟩
end
end Go.Proofs.Ytgfegkcmoedgkaa
