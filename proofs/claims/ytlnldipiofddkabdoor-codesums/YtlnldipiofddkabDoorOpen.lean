import Derived.Test.YtlnldipiofddkabDoorMixed
import Derived.ProofKit
import Derived.Lib.SmallJoins
import Derived.OpenShut
import Derived.SizedLaws
namespace Go.Proofs.YtlnldipiofddkabDoor
open Go.RowKit Go.ChangeShapes Go.WideShapes Go.Deep

theorem bytes_none (w : World) (sp : Option Addr) : Bytes w sp [] := ⟨by simp, Or.inl rfl⟩

section
variable {H : Type} {enc : TypeId × Value → H} {w : World} {base : Nat} {held : Bool}

theorem Tryd.cells5 : Tryd.prog.cellsOf 5 = 1 := by kernel_rfl
theorem Tryd.bytes5 : Tryd.prog.bytesOf 5 = 1 := by kernel_rfl
theorem Tryd.cellsB : Tryd.prog.cellsOf 27 = 1 := by kernel_rfl
theorem Tryd.bytesB : Tryd.prog.bytesOf 27 = 24 := by kernel_rfl
theorem Tryd.cellsBB : Tryd.prog.cellsOf 22 = 1 := by kernel_rfl
theorem Tryd.cellsTx : Tryd.prog.cellsOf 24 = 1 := by kernel_rfl
theorem Tryd.cellsT : Tryd.prog.cellsOf 38 = 16 := by kernel_rfl
theorem Tryd.cells32 : Tryd.prog.cellsOf 25 = 1 := by kernel_rfl

theorem addr_plain {a : Addr} {v : Value} (h : w.cell? a = some v) : ∃ g o, a = ⟨g, o, none⟩ := by
  obtain ⟨g, o, sp⟩ := a
  unfold World.cell? at h
  cases sp with
  | none => exact ⟨g, o, rfl⟩
  | some x => split at h <;> simp at h

theorem add_plain (g o j : Nat) : (⟨g, o, none⟩ : Addr).add j = ⟨g, o + j, none⟩ := by
  unfold Addr.add; split <;> simp_all

/-- Bytes that came in. -/
theorem bytes_open {fuel : Nat} {v : Value} {x : DataW H × List MemPlace} (h : DataW.trod enc Tryd.prog w base (fun _ => true) held fuel 27 [v] = some x) (hw : ∀ n ∈ x.1.weights Tryd.prog 27, n ≤ reachBytes) :
    ∃ sp l c xs, v = .slice sp l c ∧ xs.length = l ∧ l ≤ c ∧ c ≤ 140737488351232 ∧ Bytes w sp xs := by
  rcases open_ints Tryd.underlying27 Tryd.underlying5 Tryd.cells5 h with ⟨hcs, hx⟩ | ⟨a, len, cap, zs, hcs, _, hl, hm, hz, hx, hcell, hwz⟩
  · simp at hcs
    exact ⟨none, 0, 0, [], hcs, rfl, by omega, by omega, bytes_none _ _⟩
  · simp at hcs hz
    have h1 := hw (cap * 1) (by rw [hx]; simp [DataW.weights, Tryd.underlying27, Tryd.bytes5, lits, hz]; left; omega)
    have h2 : cap ≤ 140737488351232 := by simpa [reachBytes] using h1
    refine ⟨some a, len, cap, (zs.take len).map Int.toNat, hcs, by simp; omega, hl, h2, ⟨?_, ?_⟩⟩
    · intro y hy
      simp only [List.mem_map] at hy
      obtain ⟨z, hz', rfl⟩ := hy
      have := hwz z (List.mem_of_mem_take hz')
      have := bounds_u8 this
      omega
    · by_cases h0 : len = 0
      · left; simp [h0]
      · right
        obtain ⟨g, o, rfl⟩ : ∃ g o, a = ⟨g, o, none⟩ := by
          have := hcell 0 (by omega)
          obtain ⟨g, o, e⟩ := addr_plain this
          refine ⟨g, o, ?_⟩
          simpa [Addr.add] using e
        refine ⟨g, o, rfl, ?_, fun j hj => ?_⟩
        · have := cell_block (hcell 0 (by omega)); rw [add_plain] at this; exact this
        · simp at hj
          have := hcell j (by omega)
          rw [add_plain] at this
          rw [this]
          have hb := bounds_u8 (hwz _ (List.getElem_mem (show j < zs.length by omega)))
          simp [List.getD, show j < len by omega, List.getElem?_eq_getElem (show j < zs.length by omega)]
          omega

theorem weights_all {P : Program} {e : TypeId} : ∀ {l : List (DataW H)} {d : DataW H}, d ∈ l → ∀ n ∈ d.weights P e, n ∈ DataW.weightsAll P e l
  | d0 :: r, d, hd, n, hn => by
    simp only [DataW.weightsAll, List.mem_append]
    rcases List.mem_cons.1 hd with rfl | h
    · exact Or.inl hn
    · exact Or.inr (weights_all h n hn)
  | [], _, hd, _, _ => by cases hd

/-- The texts that came in. -/
theorem txts_open {fuel : Nat} {v : Value} {x : DataW H × List MemPlace} (h : DataW.trod enc Tryd.prog w base (fun _ => true) held fuel 22 [v] = some x) (hw : ∀ n ∈ x.1.weights Tryd.prog 22, n ≤ reachBytes) :
    ∃ sp l c ts, v = .slice sp l c ∧ ts.length = l ∧ l ≤ c ∧ c ≤ 140737488351232 ∧ TxtsIn w sp ts := by
  rcases open_slice Tryd.underlying22 h with ⟨hcs, hx⟩ | ⟨a, len, cap, m, n, D, Pl, hcs, _, hl, hm, hmm, hx, hel⟩
  · simp at hcs
    exact ⟨none, 0, 0, [], hcs, rfl, by omega, by omega, ⟨by simp, Or.inl rfl⟩⟩
  · simp at hcs hmm
    rw [Tryd.cellsB] at hel
    have hD : x.1 = .slice ((List.range len).map D) ((List.range (m - len)).map fun j => D (len + j)) := by rw [hx]
    have hcap : cap ≤ 140737488351232 := by
      have h1 := hw ((len + (m - len)) * 24) (by rw [hD]; simp [DataW.weights, Tryd.underlying22, Tryd.bytesB])
      simp only [reachBytes] at h1
      omega
    have hDw : ∀ i, i < len → ∀ n ∈ (D i).weights Tryd.prog 27, n ≤ reachBytes := fun i hi n hn => hw n (by
      rw [hD]
      simp only [DataW.weights, Tryd.underlying22, List.mem_cons, List.mem_append]
      exact Or.inr (Or.inl (weights_all (List.mem_map.2 ⟨i, List.mem_range.2 hi, rfl⟩) n hn)))
    obtain ⟨f, hf⟩ := @choose_lt Txt ⟨⟨none, 0, 0, []⟩⟩ len (fun i p => w.cells? base (a.add (i * 1)) 1 = some [.slice p.p p.l p.c] ∧ p.Good w) (fun i hi => by
      obtain ⟨cs', h1, h2⟩ := hel i (by omega)
      have hl1 : cs'.length = 1 := (World.cells?_some h1).2.1
      obtain ⟨u, rfl⟩ : ∃ u, cs' = [u] := by
        match cs', hl1 with
        | [u], _ => exact ⟨u, rfl⟩
      obtain ⟨sp, l, c, xs, rfl, b1, b2, b3, b4⟩ := bytes_open h2 (hDw i hi)
      exact ⟨⟨sp, l, c, xs⟩, h1, ⟨b1, b2, b3, b4⟩⟩)
    refine ⟨some a, len, cap, (List.range len).map f, hcs, by simp, hl, hcap, ⟨?_, ?_⟩⟩
    · intro p hp
      simp only [List.mem_map, List.mem_range] at hp
      obtain ⟨i, hi, rfl⟩ := hp
      exact (hf i hi).2
    · by_cases h0 : len = 0
      · left; simp [h0]
      · right
        have c0 := (World.cells?_some (hf 0 (by omega)).1).2.2 0 (by omega)
        obtain ⟨g, o, rfl⟩ : ∃ g o, a = ⟨g, o, none⟩ := by
          obtain ⟨g, o, e⟩ := addr_plain (v := .slice (f 0).p (f 0).l (f 0).c) (by simpa using c0)
          exact ⟨g, o, by simpa [Addr.add] using e⟩
        refine ⟨g, o, rfl, ?_, fun j p hj => ?_⟩
        · have := cell_block (v := .slice (f 0).p (f 0).l (f 0).c) (by simpa using c0)
          simpa [add_plain] using this
        · simp only [List.getElem?_map, Option.map_eq_some_iff] at hj
          obtain ⟨i, hi, rfl⟩ := hj
          obtain ⟨hlt, rfl⟩ := List.getElem?_eq_some_iff.1 hi
          simp at hlt
          simp only [List.getElem_range]
          have hc := (World.cells?_some (hf j hlt).1).2.2 0 (by omega)
          simp only [add_plain] at hc
          simpa using hc

/-- What came in, read as a struct of one list. -/
theorem texts_open {r : Reach} {b0 : Nat} {v : Value} {d : DataW H} {pl : List MemPlace} (hv : Value.okWide Tryd.prog w r b0 24 v) (h : DataW.Trod enc Tryd.prog w base (fun _ => true) held 24 v d pl)
    (hw : ∀ n ∈ d.weights Tryd.prog 24, n ≤ reachBytes) : ∃ sp l c ts, v = .agg #[.slice sp l c] ∧ ts.length = l ∧ l ≤ c ∧ c ≤ 140737488351232 ∧ TxtsIn w sp ts := by
  obtain ⟨cs, rfl, hsz⟩ := okWide_struct Tryd.underlying24 hv
  obtain ⟨c0, rfl⟩ : ∃ c0, cs = #[c0] := by
    obtain ⟨l⟩ := cs
    match l, hsz.trans Tryd.cellsTx with
    | [u], _ => exact ⟨u, rfl⟩
  obtain ⟨fuel, hf⟩ := h
  obtain ⟨ys, n, _, hx, hl, hlen, hfa⟩ := DataW.trod_struct Tryd.underlying24 hf
  have f0 : DataW.trod enc Tryd.prog w base (fun _ => true) held n 22 (([c0].drop 0).take (Tryd.prog.cellsOf 22)) = ys[0]? := hfa 0 _ rfl
  obtain ⟨y0, e0⟩ : ∃ y, ys[0]? = some y := ⟨ys[0]'(by rw [hlen]; exact (by decide : 0 < 1)), List.getElem?_eq_getElem _⟩
  rw [e0] at f0
  simp only [Tryd.cellsBB, List.drop_zero, List.take_succ_cons, List.take_zero] at f0
  have hw0 : ∀ n ∈ y0.1.weights Tryd.prog 22, n ≤ reachBytes := fun n hn => hw n (by
    simp only [Prod.mk.injEq] at hx
    rw [hx.1]
    simp only [DataW.weights, Tryd.underlying24]
    exact DataW.weights_mem_each (j := 0) (t := 22) rfl (by simp [e0]) n hn)
  obtain ⟨sp, l, c, ts, rfl, t1, t2, t3, t4⟩ := txts_open f0 hw0
  exact ⟨sp, l, c, ts, rfl, t1, t2, t3, t4⟩

end

end Go.Proofs.YtlnldipiofddkabDoor
