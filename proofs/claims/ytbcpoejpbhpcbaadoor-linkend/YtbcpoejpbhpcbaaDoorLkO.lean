import Derived.Test.YtbcpoejpbhpcbaaDoorLkK
import Derived.Test.YtbcpoejpbhpcbaaDoorRows
import Derived.Test.YtbcpoejpbhpcbaaDoorCards
import Derived.Test.YtbcpoejpbhpcbaaDoorTie
import Derived.ProofKit
import Derived.Lib.SmallJoins
import Derived.LaidMore
import Derived.OpenShut
import Derived.SizedLaws
import Derived.Stop.Joined
import Derived.SevenTiedAt
import Derived.Deep.Strs
namespace Go.Proofs.YtbcpoejpbhpcbaaDoor
open Go.RowKit Go.ChangeShapes Go.WideShapes Go.ChangeAt Go.Deep

theorem Tryd.cells32 : Tryd.prog.cellsOf 86 = 1 := by kernel_rfl
theorem Tryd.own : ownKnob Tryd.prog.godebug = none := by kernel_rfl
theorem Tryd.laidOut : laidOutB Tryd.prog = true := by kernel_rfl
theorem Tryd.gT : Tryd.prog.globalNamed "till/code.sumSteps" = some 0 := by kernel_rfl
theorem Tryd.tT : (Tryd.prog.globals[0]?).map (·.type) = some 106 := by kernel_rfl

/-- The door's own heap meets the condition. -/
theorem door_met (os : Os) (args : Array Value) : laidMetH Tryd.prog [("till/code.sumSteps", Rows.laid_till_code_sumSteps)] ((World.doorLaid Tryd.prog 400 os).forCall (fun _ _ => 0) ⟨#[], args, []⟩).memory :=
  laidMetH_of_parts3 (fuel := 8) (laidMet_of_run' 8 (by kernel_rfl) (by kernel_rfl)) (by kernel_rfl) (by kernel_rfl)

set_option maxRecDepth 100000 in
/-- What the condition gives: the table. -/
theorem tab_of_laid {W : World} (h : laidMetH Tryd.prog [("till/code.sumSteps", Rows.laid_till_code_sumSteps)] W) : C.Tab W := by
  rw [MakeChecks.laidMetH_plain _ _ _ (by kernel_rfl)] at h
  obtain ⟨ps, ⟨g0, t0, cs0, f0, p0, q0, hg0, ht0, hv0, hd0, _⟩, _⟩ := h
  obtain rfl := Option.some.inj (Tryd.gT.symm.trans hg0)
  obtain rfl := Option.some.inj (Tryd.tT.symm.trans ht0)
  obtain ⟨xs, m1, rfl, hx1, hlen, hn3, hel⟩ := DataW.trod_array Tryd.underlying106 hd0
  have hm : C.tab.map (fun n : Nat => (DataW.lit (.int .u32 (n : Int)) : DataW Unit)) = xs.map (fun x => x.fst) := by
    have h1 := (Prod.mk.inj hx1).1
    exact DataW.agg.inj h1
  intro j hj
  have h0 := hel j hj
  obtain ⟨x, hx⟩ : ∃ x, xs[j]? = some x := ⟨xs[j]'(by rw [hn3]; exact hj), List.getElem?_eq_getElem _⟩
  rw [hx, Tryd.cells32] at h0
  obtain ⟨k, e1, e2, _⟩ := DataW.trod_int Tryd.underlying86 h0
  have ht : C.tab[j]? = some (C.tab.getD j 0) := by
    rw [List.getD, List.getElem?_eq_getElem (show j < C.tab.length from hj)]; rfl
  have hk : (DataW.lit (.int .u32 ((C.tab.getD j 0 : Nat) : Int)) : DataW Unit) = x.fst := by
    have := congrArg (fun l => l[j]?) hm
    simp only [List.getElem?_map, hx, ht, Option.map_some, Option.some.injEq] at this
    exact this
  rw [e2] at hk
  have hk' : ((C.tab.getD j 0 : Nat) : Int) = k := by simpa using hk
  have hc := World.var?_cell hg0 hv0 j
  have hcs : cs0[j]? = some (.int .u32 k) := by
    have := congrArg (fun l => l[0]?) e1
    simp [List.getElem?_drop] at this
    simpa using this
  rw [hk', ← hcs]
  exact hc


section
variable {H : Type} {enc : TypeId × Value → H} {w : World} {base : Nat} {held : Bool}
theorem Tryd.cells5 : Tryd.prog.cellsOf 5 = 1 := by kernel_rfl
theorem Tryd.bytes5 : Tryd.prog.bytesOf 5 = 1 := by kernel_rfl
theorem Tryd.cellsInt : Tryd.prog.cellsOf 3 = 1 := by kernel_rfl
theorem Tryd.bytesInt : Tryd.prog.bytesOf 3 = 8 := by kernel_rfl
theorem Tryd.cellsB : Tryd.prog.cellsOf 29 = 1 := by kernel_rfl
theorem Tryd.bytesB : Tryd.prog.bytesOf 29 = 24 := by kernel_rfl
theorem Tryd.cellsBB : Tryd.prog.cellsOf 45 = 1 := by kernel_rfl
theorem addr_plain {a : Addr} {v : Value} (h : w.cell? a = some v) : ∃ g o, a = ⟨g, o, none⟩ := by
  obtain ⟨g, o, sp⟩ := a
  unfold World.cell? at h
  cases sp with
  | none => exact ⟨g, o, rfl⟩
  | some x => split at h <;> simp at h
theorem add_plain (g o j : Nat) : (⟨g, o, none⟩ : Addr).add j = ⟨g, o + j, none⟩ := by
  unfold Addr.add; split <;> simp_all
/-- Bytes that came in. -/
theorem bytes_open {fuel : Nat} {v : Value} {x : DataW H × List MemPlace} (h : DataW.trod enc Tryd.prog w base (fun _ => true) held fuel 29 [v] = some x) (hw : ∀ n ∈ x.1.weights Tryd.prog 29, n ≤ reachBytes) :
    ∃ sp l c xs, v = .slice sp l c ∧ xs.length = l ∧ l ≤ c ∧ c ≤ 140737488351232 ∧ Bytes w sp xs ∧ (xs = [] ∨ ∀ g o, sp = some ⟨g, o, none⟩ → g < w.heap.size) := by
  rcases open_ints Tryd.underlying29 Tryd.underlying5 Tryd.cells5 h with ⟨hcs, hx⟩ | ⟨a, len, cap, zs, hcs, _, hl, hm, hz, hx, hcell, hwz⟩
  · simp at hcs
    exact ⟨none, 0, 0, [], hcs, rfl, by omega, by omega, ⟨fun _ h => (by cases h), Or.inl rfl⟩, Or.inl rfl⟩
  · simp at hcs hz
    have h1 := hw (cap * 1) (by rw [hx]; simp [DataW.weights, Tryd.underlying29, Tryd.bytes5, lits, hz]; left; omega)
    have h2 : cap ≤ 140737488351232 := by simpa [reachBytes] using h1
    have hsm : ∀ y ∈ (zs.take len).map Int.toNat, y < 256 := by
      intro y hy
      simp only [List.mem_map] at hy
      obtain ⟨z, hz', rfl⟩ := hy
      have := bounds_u8 (hwz z (List.mem_of_mem_take hz'))
      omega
    by_cases h0 : len = 0
    · subst h0
      exact ⟨some a, 0, cap, [], hcs, rfl, hl, h2, ⟨fun _ h => (by cases h), Or.inl rfl⟩, Or.inl rfl⟩
    · obtain ⟨g, o, rfl⟩ : ∃ g o, a = ⟨g, o, none⟩ := by
        have := hcell 0 (by omega)
        obtain ⟨g, o, e⟩ := addr_plain this
        refine ⟨g, o, ?_⟩
        simpa [Addr.add] using e
      have hg : g < w.heap.size := by have := cell_block (hcell 0 (by omega)); rw [add_plain] at this; exact this
      refine ⟨some ⟨g, o, none⟩, len, cap, (zs.take len).map Int.toNat, hcs, by simp; omega, hl, h2, ⟨hsm, Or.inr ⟨g, o, rfl, hg, fun j hj => ?_⟩⟩, Or.inr (fun g' o' e => by cases e; exact hg)⟩
      simp at hj
      have := hcell j (by omega)
      rw [add_plain] at this
      rw [this]
      have hb := bounds_u8 (hwz _ (List.getElem_mem (show j < zs.length by omega)))
      simp [List.getD, show j < len by omega, List.getElem?_eq_getElem (show j < zs.length by omega)]
      omega
theorem weights_all {P : Program} {e : TypeId} : ∀ {l : List (DataW H)} {d : DataW H}, d ∈ l → ∀ n ∈ d.weights P e, n ∈ DataW.weightsAll P e l
  | d0 :: r, d, hd, n, hn => by
    simp only [DataW.weightsAll, List.mem_append]
    rcases List.mem_cons.1 hd with rfl | h
    · exact Or.inl hn
    · exact Or.inr (weights_all h n hn)
  | [], _, hd, _, _ => by cases hd
theorem parts_open {fuel : Nat} {v : Value} {x : DataW H × List MemPlace} (h : DataW.trod enc Tryd.prog w base (fun _ => true) held fuel 45 [v] = some x) (hw : ∀ n ∈ x.1.weights Tryd.prog 45, n ≤ reachBytes) :
    ∃ pp k cap ps, v = .slice pp k cap ∧ ps.length = k ∧ k ≤ 140737488351232 ∧ Pts w pp ps ∧ ∀ p ∈ ps, ∀ y ∈ p, y < 256 := by
  rcases open_slice Tryd.underlying45 h with ⟨hcs, hx⟩ | ⟨a, len, cap, m, n, D, Pl, hcs, _, hl, hm, hmm, hx, hel⟩
  · simp at hcs
    exact ⟨none, 0, 0, [], hcs, rfl, by omega, ⟨fun _ h => (by cases h), Or.inl rfl⟩, fun _ h => (by cases h)⟩
  · simp at hcs hmm
    rw [Tryd.cellsB] at hel
    have hD : x.1 = .slice ((List.range len).map D) ((List.range (m - len)).map fun j => D (len + j)) := by rw [hx]
    have hcap : cap ≤ 140737488351232 := by
      have h1 := hw ((len + (m - len)) * 24) (by rw [hD]; simp [DataW.weights, Tryd.underlying45, Tryd.bytesB])
      simp only [reachBytes] at h1
      omega
    have hDw : ∀ i, i < len → ∀ n ∈ (D i).weights Tryd.prog 29, n ≤ reachBytes := fun i hi n hn => hw n (by
      rw [hD]
      simp only [DataW.weights, Tryd.underlying45, List.mem_cons, List.mem_append]
      exact Or.inr (Or.inl (weights_all (List.mem_map.2 ⟨i, List.mem_range.2 hi, rfl⟩) n hn)))
    obtain ⟨f, hf⟩ := @choose_lt (Option Addr × Nat × List Nat) ⟨(none, 0, [])⟩ len (fun i p => w.cells? base (a.add (i * 1)) 1 = some [.slice p.1 p.2.2.length p.2.1] ∧ p.2.2.length ≤ 140737488351232 ∧ Bytes w p.1 p.2.2) (fun i hi => by
      obtain ⟨cs', h1, h2⟩ := hel i (by omega)
      obtain ⟨u, hu⟩ : ∃ u, cs' = [u] := List.length_eq_one_iff.1 (World.cells?_some h1).2.1
      subst hu
      obtain ⟨sp, l, c, xs, rfl, q1, q2, q3, q4, _⟩ := bytes_open h2 (hDw i hi)
      exact ⟨(sp, c, xs), by rw [h1, q1], by show xs.length ≤ _; omega, q4⟩)
    refine ⟨some a, len, cap, (List.range len).map fun i => (f i).2.2, hcs, by simp, by omega, ⟨fun p hp => ?_, ?_⟩, fun p hp y hy => ?_⟩
    · simp only [List.mem_map, List.mem_range] at hp
      obtain ⟨i, hi, rfl⟩ := hp
      exact (hf i hi).2.1
    · by_cases h0 : len = 0
      · left; simp [h0]
      · right
        have c0 := (World.cells?_some (hf 0 (by omega)).1).2.2 0 (by omega)
        obtain ⟨g, o, rfl⟩ : ∃ g o, a = ⟨g, o, none⟩ := by
          obtain ⟨g, o, e⟩ := addr_plain (v := .slice (f 0).1 (f 0).2.2.length (f 0).2.1) (by simpa using c0)
          exact ⟨g, o, by simpa [Addr.add] using e⟩
        refine ⟨g, o, rfl, ?_, fun j p hj => ?_⟩
        · have := cell_block (v := .slice (f 0).1 (f 0).2.2.length (f 0).2.1) (by simpa using c0)
          simpa [add_plain] using this
        · have hjl : j < len := by
            have := (List.getElem?_eq_some_iff.1 hj).1
            simpa using this
          rw [List.getElem?_map, List.getElem?_range hjl] at hj
          simp at hj
          subst hj
          have e0 := (World.cells?_some (hf j hjl).1).2.2 0 (by omega)
          simp only [add_plain] at e0
          exact ⟨(f j).1, (f j).2.1, by simpa using e0, (hf j hjl).2.2⟩
    · simp only [List.mem_map, List.mem_range] at hp
      obtain ⟨i, hi, rfl⟩ := hp
      exact (hf i hi).2.2.small y hy
theorem Tryd.cellsU64 : Tryd.prog.cellsOf 33 = 1 := by kernel_rfl
theorem Tryd.cellsFr : Tryd.prog.cellsOf 54 = 7 := by kernel_rfl
theorem Tryd.bytesFr : Tryd.prog.bytesOf 54 = 72 := by kernel_rfl
theorem Tryd.cellsFrs : Tryd.prog.cellsOf 37 = 1 := by kernel_rfl
theorem seven7 {l : List Value} (h : l.length = 7) : ∃ a b c d e f g, l = [a, b, c, d, e, f, g] := by
  match l, h with
  | [a, b, c, d, e, f, g], _ => exact ⟨a, b, c, d, e, f, g, rfl⟩
/-- A frame that came in. -/
theorem frame_open {fuel : Nat} {cs : List Value} {x : DataW H × List MemPlace} (h : DataW.trod enc Tryd.prog w base (fun _ => true) held fuel 54 cs = some x) (hw : ∀ n ∈ x.1.weights Tryd.prog 54, n ≤ reachBytes) : ∃ c : Fe, cs = feC c ∧ FeOk w c := by
  obtain ⟨ys, n, _, rfl, hl, hlen, hf⟩ := DataW.trod_struct Tryd.underlying54 h
  rw [Tryd.cellsFr] at hl
  obtain ⟨v0, v1, v2, v3, v4, v5, v6, rfl⟩ := seven7 hl
  have f0 : DataW.trod enc Tryd.prog w base (fun _ => true) held n 3 (([v0, v1, v2, v3, v4, v5, v6].drop 0).take (Tryd.prog.cellsOf 3)) = ys[0]? := hf 0 _ rfl
  have f1 : DataW.trod enc Tryd.prog w base (fun _ => true) held n 3 (([v0, v1, v2, v3, v4, v5, v6].drop 1).take (Tryd.prog.cellsOf 3)) = ys[1]? := hf 1 _ rfl
  have f2 : DataW.trod enc Tryd.prog w base (fun _ => true) held n 33 (([v0, v1, v2, v3, v4, v5, v6].drop 2).take (Tryd.prog.cellsOf 33)) = ys[2]? := hf 2 _ rfl
  have f3 : DataW.trod enc Tryd.prog w base (fun _ => true) held n 33 (([v0, v1, v2, v3, v4, v5, v6].drop 3).take (Tryd.prog.cellsOf 33)) = ys[3]? := hf 3 _ rfl
  have f4 : DataW.trod enc Tryd.prog w base (fun _ => true) held n 33 (([v0, v1, v2, v3, v4, v5, v6].drop 4).take (Tryd.prog.cellsOf 33)) = ys[4]? := hf 4 _ rfl
  have f5 : DataW.trod enc Tryd.prog w base (fun _ => true) held n 33 (([v0, v1, v2, v3, v4, v5, v6].drop 5).take (Tryd.prog.cellsOf 33)) = ys[5]? := hf 5 _ rfl
  have f6 : DataW.trod enc Tryd.prog w base (fun _ => true) held n 29 (([v0, v1, v2, v3, v4, v5, v6].drop 6).take (Tryd.prog.cellsOf 29)) = ys[6]? := hf 6 _ rfl
  simp only [Tryd.cellsInt, Tryd.cellsU64, Tryd.cellsB, List.drop_zero, List.drop_succ_cons, List.take_succ_cons, List.take_zero] at f0 f1 f2 f3 f4 f5 f6
  have hy : ∀ i, i < 7 → ∃ y, ys[i]? = some y := fun i hi => ⟨ys[i]'(by rw [hlen]; exact hi), List.getElem?_eq_getElem _⟩
  obtain ⟨y0, e0⟩ := hy 0 (by omega)
  rw [e0] at f0
  obtain ⟨y1, e1⟩ := hy 1 (by omega)
  rw [e1] at f1
  obtain ⟨y2, e2⟩ := hy 2 (by omega)
  rw [e2] at f2
  obtain ⟨y3, e3⟩ := hy 3 (by omega)
  rw [e3] at f3
  obtain ⟨y4, e4⟩ := hy 4 (by omega)
  rw [e4] at f4
  obtain ⟨y5, e5⟩ := hy 5 (by omega)
  rw [e5] at f5
  obtain ⟨y6, e6⟩ := hy 6 (by omega)
  rw [e6] at f6
  obtain ⟨z0, g0, _, w0⟩ := DataW.trod_int Tryd.underlying3 f0
  obtain ⟨z1, g1, _, w1⟩ := DataW.trod_int Tryd.underlying3 f1
  obtain ⟨z2, g2, _, w2⟩ := DataW.trod_int Tryd.underlying33 f2
  obtain ⟨z3, g3, _, w3⟩ := DataW.trod_int Tryd.underlying33 f3
  obtain ⟨z4, g4, _, w4⟩ := DataW.trod_int Tryd.underlying33 f4
  obtain ⟨z5, g5, _, w5⟩ := DataW.trod_int Tryd.underlying33 f5
  obtain ⟨m2, rfl⟩ := Int.eq_ofNat_of_zero_le (bounds_u64 w2).1
  obtain ⟨m3, rfl⟩ := Int.eq_ofNat_of_zero_le (bounds_u64 w3).1
  obtain ⟨m4, rfl⟩ := Int.eq_ofNat_of_zero_le (bounds_u64 w4).1
  obtain ⟨m5, rfl⟩ := Int.eq_ofNat_of_zero_le (bounds_u64 w5).1
  have hw6 : ∀ n ∈ y6.1.weights Tryd.prog 29, n ≤ reachBytes := fun n hn => hw n (by
    simp only [DataW.weights, Tryd.underlying54]
    exact DataW.weights_mem_each (j := 6) (t := 29) rfl (by simp [e6]) n hn)
  obtain ⟨sp, l, c, xs, rfl, a1, a2, a3, a4, _⟩ := bytes_open f6 hw6
  simp at g0 g1 g2 g3 g4 g5
  subst g0 g1 g2 g3 g4 g5
  exact ⟨⟨⟨z0, z1, m2, m3, m4, m5, xs⟩, sp, c⟩, by simp [feC, a1], ⟨a4, by show xs.length ≤ _; omega⟩⟩
theorem frames_open {fuel : Nat} {v : Value} {x : DataW H × List MemPlace} (h : DataW.trod enc Tryd.prog w base (fun _ => true) held fuel 37 [v] = some x) (hw : ∀ n ∈ x.1.weights Tryd.prog 37, n ≤ reachBytes) :
    ∃ sp l c cl, v = .slice sp l c ∧ cl.length = l ∧ l ≤ 140737488351232 ∧ Frs w sp cl := by
  rcases open_slice Tryd.underlying37 h with ⟨hcs, hx⟩ | ⟨a, len, cap, m, n, D, Pl, hcs, _, hl, hm, hmm, hx, hel⟩
  · simp at hcs
    exact ⟨none, 0, 0, [], hcs, rfl, by omega, fun i e he => by simp at he⟩
  · simp at hcs hmm
    rw [Tryd.cellsFr] at hel
    have hD : x.1 = .slice ((List.range len).map D) ((List.range (m - len)).map fun j => D (len + j)) := by rw [hx]
    have hcap : cap ≤ 140737488351232 := by
      have h1 := hw ((len + (m - len)) * 72) (by rw [hD]; simp [DataW.weights, Tryd.underlying37, Tryd.bytesFr])
      simp only [reachBytes] at h1
      omega
    have hDw : ∀ i, i < len → ∀ n ∈ (D i).weights Tryd.prog 54, n ≤ reachBytes := fun i hi n hn => hw n (by
      rw [hD]
      simp only [DataW.weights, Tryd.underlying37, List.mem_cons, List.mem_append]
      exact Or.inr (Or.inl (weights_all (List.mem_map.2 ⟨i, List.mem_range.2 hi, rfl⟩) n hn)))
    obtain ⟨f, hf⟩ := @choose_lt Fe ⟨⟨⟨0, 0, 0, 0, 0, 0, []⟩, none, 0⟩⟩ len (fun i p => w.cells? base (a.add (i * 7)) 7 = some (feC p) ∧ FeOk w p) (fun i hi => by
      obtain ⟨cs', h1, h2⟩ := hel i (by omega)
      obtain ⟨p, rfl, hp⟩ := frame_open h2 (hDw i hi)
      exact ⟨p, h1, hp⟩)
    refine ⟨some a, len, cap, (List.range len).map f, hcs, by simp, by omega, fun j q hj => ?_⟩
    have hjl : j < len := by
      have := (List.getElem?_eq_some_iff.1 hj).1
      simpa using this
    have c0 := (World.cells?_some (hf 0 (by omega)).1).2.2 0 (by omega)
    obtain ⟨g, o, rfl⟩ : ∃ g o, a = ⟨g, o, none⟩ := by
      obtain ⟨g, o, e⟩ := addr_plain (v := .int .i64 (f 0).f.fr) (by simpa [feC] using c0)
      exact ⟨g, o, by simpa [Addr.add] using e⟩
    rw [List.getElem?_map, List.getElem?_range hjl] at hj
    simp at hj
    subst hj
    refine ⟨g, o, rfl, ?_, fun k u hu => ?_, (hf j hjl).2⟩
    · have := cell_block (v := .int .i64 (f 0).f.fr) (by simpa [feC] using c0)
      simpa [add_plain] using this
    · have hk7 : k < 7 := by
        have := (List.getElem?_eq_some_iff.1 hu).1
        simpa [feC] using this
      have e0 := (World.cells?_some (hf j hjl).1).2.2 k hk7
      simp only [add_plain] at e0
      rw [e0, hu]
theorem array2 {α : Type} {cs : Array α} (h : cs.size = 2) : ∃ c0 c1, cs = #[c0, c1] := by
  obtain ⟨l⟩ := cs
  match l, h with
  | [a, b], _ => exact ⟨a, b, rfl⟩
theorem array3 {α : Type} {cs : Array α} (h : cs.size = 3) : ∃ c0 c1 c2, cs = #[c0, c1, c2] := by
  obtain ⟨l⟩ := cs
  match l, h with
  | [a, b, c], _ => exact ⟨a, b, c, rfl⟩
end
end Go.Proofs.YtbcpoejpbhpcbaaDoor
