import Derived.ProofKit
import Derived.Lib.SmallJoins
import Derived.LaidMore
import Derived.OpenShut
import Derived.SizedLaws
import Derived.Stop.Joined
import Derived.SevenTiedAt
import Derived.Deep.Strs
import Derived.Test.YtjcdnclfakmbpaaGreatDoorLkK
import Derived.Test.YtjcdnclfakmbpaaGreatDoorRows
import Derived.Test.YtjcdnclfakmbpaaGreatDoorCards
import Derived.Test.YtjcdnclfakmbpaaGreatDoorTie
namespace Go.Proofs.YtjcdnclfakmbpaaGreatDoor
open Go.RowKit Go.ChangeShapes Go.WideShapes Go.ChangeAt Go.Deep
theorem Tryz.cells32 : Tryz.prog.cellsOf 119 = 1 := by kernel_rfl
theorem Tryz.own : ownKnob Tryz.prog.godebug = none := by kernel_rfl
theorem Tryz.laidOut : laidOutB Tryz.prog = true := by kernel_rfl
theorem Tryz.gT : Tryz.prog.globalNamed "till/code.sumSteps" = some 0 := by kernel_rfl
theorem Tryz.tT : (Tryz.prog.globals[0]?).map (·.type) = some 145 := by kernel_rfl
theorem door_met (os : Os) (args : Array Value) : laidMetH Tryz.prog [("till/code.sumSteps", Rows.laid_till_code_sumSteps)] ((World.doorLaid Tryz.prog 400 os).forCall (fun _ _ => 0) ⟨#[], args, []⟩).memory :=
  laidMetH_of_parts3 (fuel := 8) (laidMet_of_run' 8 (by kernel_rfl) (by kernel_rfl)) (by kernel_rfl) (by kernel_rfl)
set_option maxRecDepth 100000 in
theorem tab_of_laid {W : World} (h : laidMetH Tryz.prog [("till/code.sumSteps", Rows.laid_till_code_sumSteps)] W) : C.Tab W := by
  rw [MakeChecks.laidMetH_plain _ _ _ (by kernel_rfl)] at h
  obtain ⟨ps, ⟨g0, t0, cs0, f0, p0, q0, hg0, ht0, hv0, hd0, _⟩, _⟩ := h
  obtain rfl := Option.some.inj (Tryz.gT.symm.trans hg0)
  obtain rfl := Option.some.inj (Tryz.tT.symm.trans ht0)
  obtain ⟨xs, m1, rfl, hx1, hlen, hn3, hel⟩ := DataW.trod_array Tryz.underlying145 hd0
  have hm : C.tab.map (fun n : Nat => (DataW.lit (.int .u32 (n : Int)) : DataW Unit)) = xs.map (fun x => x.fst) := by
    have h1 := (Prod.mk.inj hx1).1
    exact DataW.agg.inj h1
  intro j hj
  have h0 := hel j hj
  obtain ⟨x, hx⟩ : ∃ x, xs[j]? = some x := ⟨xs[j]'(by rw [hn3]; exact hj), List.getElem?_eq_getElem _⟩
  rw [hx, Tryz.cells32] at h0
  obtain ⟨k, e1, e2, _⟩ := DataW.trod_int Tryz.underlying119 h0
  have ht : C.tab[j]? = some (C.tab.getD j 0) := by
    rw [List.getD, List.getElem?_eq_getElem (show j < C.tab.length from hj)]; rfl
  have hk : (DataW.lit (.int .u32 ((C.tab.getD j 0 : Nat) : Int)) : DataW Unit) = x.fst := by
    have := congrArg (fun l => l[j]?) hm
    simp only [List.getElem?_map, hx, ht, Option.map_some, Option.some.injEq] at this
    exact this
  rw [e2] at hk
  have hk' : ((C.tab.getD j 0 : Nat) : Int) = k := by simpa using hk
  have hc := World.var?_cell hg0 hv0 j
  have hcs : cs0[j]? = some (.int .u32 k) := by
    have := congrArg (fun l => l[0]?) e1
    simp [List.getElem?_drop] at this
    simpa using this
  rw [hk', ← hcs]
  exact hc
section
variable {H : Type} {enc : TypeId × Value → H} {w : World} {base : Nat} {held : Bool}
theorem Tryz.cells5 : Tryz.prog.cellsOf 5 = 1 := by kernel_rfl
theorem Tryz.bytes5 : Tryz.prog.bytesOf 5 = 1 := by kernel_rfl
theorem Tryz.cellsInt : Tryz.prog.cellsOf 3 = 1 := by kernel_rfl
theorem Tryz.cellsB : Tryz.prog.cellsOf 31 = 1 := by kernel_rfl
theorem addr_plain {a : Addr} {v : Value} (h : w.cell? a = some v) : ∃ g o, a = ⟨g, o, none⟩ := by
  obtain ⟨g, o, sp⟩ := a
  unfold World.cell? at h
  cases sp with
  | none => exact ⟨g, o, rfl⟩
  | some x => split at h <;> simp at h
theorem add_plain (g o j : Nat) : (⟨g, o, none⟩ : Addr).add j = ⟨g, o + j, none⟩ := by
  unfold Addr.add; split <;> simp_all
theorem bytes_open {fuel : Nat} {v : Value} {x : DataW H × List MemPlace} (h : DataW.trod enc Tryz.prog w base (fun _ => true) held fuel 31 [v] = some x) (hw : ∀ n ∈ x.1.weights Tryz.prog 31, n ≤ reachBytes) :
    ∃ sp l c xs, v = .slice sp l c ∧ xs.length = l ∧ l ≤ c ∧ c ≤ 140737488351232 ∧ Bytes w sp xs ∧ (xs = [] ∨ ∀ g o, sp = some ⟨g, o, none⟩ → g < w.heap.size) := by
  rcases open_ints Tryz.underlying31 Tryz.underlying5 Tryz.cells5 h with ⟨hcs, hx⟩ | ⟨a, len, cap, zs, hcs, _, hl, hm, hz, hx, hcell, hwz⟩
  · simp at hcs
    exact ⟨none, 0, 0, [], hcs, rfl, by omega, by omega, ⟨fun _ h => (by cases h), Or.inl rfl⟩, Or.inl rfl⟩
  · simp at hcs hz
    have h1 := hw (cap * 1) (by rw [hx]; simp [DataW.weights, Tryz.underlying31, Tryz.bytes5, lits, hz]; left; omega)
    have h2 : cap ≤ 140737488351232 := by simpa [reachBytes] using h1
    have hsm : ∀ y ∈ (zs.take len).map Int.toNat, y < 256 := by
      intro y hy
      simp only [List.mem_map] at hy
      obtain ⟨z, hz', rfl⟩ := hy
      have := bounds_u8 (hwz z (List.mem_of_mem_take hz'))
      omega
    by_cases h0 : len = 0
    · subst h0
      exact ⟨some a, 0, cap, [], hcs, rfl, hl, h2, ⟨fun _ h => (by cases h), Or.inl rfl⟩, Or.inl rfl⟩
    · obtain ⟨g, o, rfl⟩ : ∃ g o, a = ⟨g, o, none⟩ := by
        have := hcell 0 (by omega)
        obtain ⟨g, o, e⟩ := addr_plain this
        refine ⟨g, o, ?_⟩
        simpa [Addr.add] using e
      have hg : g < w.heap.size := by have := cell_block (hcell 0 (by omega)); rw [add_plain] at this; exact this
      refine ⟨some ⟨g, o, none⟩, len, cap, (zs.take len).map Int.toNat, hcs, by simp; omega, hl, h2, ⟨hsm, Or.inr ⟨g, o, rfl, hg, fun j hj => ?_⟩⟩, Or.inr (fun g' o' e => by cases e; exact hg)⟩
      simp at hj
      have := hcell j (by omega)
      rw [add_plain] at this
      rw [this]
      have hb := bounds_u8 (hwz _ (List.getElem_mem (show j < zs.length by omega)))
      simp [List.getD, show j < len by omega, List.getElem?_eq_getElem (show j < zs.length by omega)]
      omega
theorem weights_all {P : Program} {e : TypeId} : ∀ {l : List (DataW H)} {d : DataW H}, d ∈ l → ∀ n ∈ d.weights P e, n ∈ DataW.weightsAll P e l
  | d0 :: r, d, hd, n, hn => by
    simp only [DataW.weightsAll, List.mem_append]
    rcases List.mem_cons.1 hd with rfl | h
    · exact Or.inl hn
    · exact Or.inr (weights_all h n hn)
  | [], _, hd, _, _ => by cases hd
theorem Tryz.cellsU64 : Tryz.prog.cellsOf 22 = 1 := by kernel_rfl
theorem Tryz.cellsFr : Tryz.prog.cellsOf 33 = 7 := by kernel_rfl
theorem seven7 {l : List Value} (h : l.length = 7) : ∃ a b c d e f g, l = [a, b, c, d, e, f, g] := by
  match l, h with
  | [a, b, c, d, e, f, g], _ => exact ⟨a, b, c, d, e, f, g, rfl⟩
theorem frame_open {fuel : Nat} {cs : List Value} {x : DataW H × List MemPlace} (h : DataW.trod enc Tryz.prog w base (fun _ => true) held fuel 33 cs = some x) (hw : ∀ n ∈ x.1.weights Tryz.prog 33, n ≤ reachBytes) : ∃ c : Fe, cs = feC c ∧ FeOk w c := by
  obtain ⟨ys, n, _, rfl, hl, hlen, hf⟩ := DataW.trod_struct Tryz.underlying33 h
  rw [Tryz.cellsFr] at hl
  obtain ⟨v0, v1, v2, v3, v4, v5, v6, rfl⟩ := seven7 hl
  have f0 : DataW.trod enc Tryz.prog w base (fun _ => true) held n 3 (([v0, v1, v2, v3, v4, v5, v6].drop 0).take (Tryz.prog.cellsOf 3)) = ys[0]? := hf 0 _ rfl
  have f1 : DataW.trod enc Tryz.prog w base (fun _ => true) held n 3 (([v0, v1, v2, v3, v4, v5, v6].drop 1).take (Tryz.prog.cellsOf 3)) = ys[1]? := hf 1 _ rfl
  have f2 : DataW.trod enc Tryz.prog w base (fun _ => true) held n 22 (([v0, v1, v2, v3, v4, v5, v6].drop 2).take (Tryz.prog.cellsOf 22)) = ys[2]? := hf 2 _ rfl
  have f3 : DataW.trod enc Tryz.prog w base (fun _ => true) held n 22 (([v0, v1, v2, v3, v4, v5, v6].drop 3).take (Tryz.prog.cellsOf 22)) = ys[3]? := hf 3 _ rfl
  have f4 : DataW.trod enc Tryz.prog w base (fun _ => true) held n 22 (([v0, v1, v2, v3, v4, v5, v6].drop 4).take (Tryz.prog.cellsOf 22)) = ys[4]? := hf 4 _ rfl
  have f5 : DataW.trod enc Tryz.prog w base (fun _ => true) held n 22 (([v0, v1, v2, v3, v4, v5, v6].drop 5).take (Tryz.prog.cellsOf 22)) = ys[5]? := hf 5 _ rfl
  have f6 : DataW.trod enc Tryz.prog w base (fun _ => true) held n 31 (([v0, v1, v2, v3, v4, v5, v6].drop 6).take (Tryz.prog.cellsOf 31)) = ys[6]? := hf 6 _ rfl
  simp only [Tryz.cellsInt, Tryz.cellsU64, Tryz.cellsB, List.drop_zero, List.drop_succ_cons, List.take_succ_cons, List.take_zero] at f0 f1 f2 f3 f4 f5 f6
  have hy : ∀ i, i < 7 → ∃ y, ys[i]? = some y := fun i hi => ⟨ys[i]'(by rw [hlen]; exact hi), List.getElem?_eq_getElem _⟩
  obtain ⟨y0, e0⟩ := hy 0 (by omega)
  rw [e0] at f0
  obtain ⟨y1, e1⟩ := hy 1 (by omega)
  rw [e1] at f1
  obtain ⟨y2, e2⟩ := hy 2 (by omega)
  rw [e2] at f2
  obtain ⟨y3, e3⟩ := hy 3 (by omega)
  rw [e3] at f3
  obtain ⟨y4, e4⟩ := hy 4 (by omega)
  rw [e4] at f4
  obtain ⟨y5, e5⟩ := hy 5 (by omega)
  rw [e5] at f5
  obtain ⟨y6, e6⟩ := hy 6 (by omega)
  rw [e6] at f6
  obtain ⟨z0, g0, _, w0⟩ := DataW.trod_int Tryz.underlying3 f0
  obtain ⟨z1, g1, _, w1⟩ := DataW.trod_int Tryz.underlying3 f1
  obtain ⟨z2, g2, _, w2⟩ := DataW.trod_int Tryz.underlying22 f2
  obtain ⟨z3, g3, _, w3⟩ := DataW.trod_int Tryz.underlying22 f3
  obtain ⟨z4, g4, _, w4⟩ := DataW.trod_int Tryz.underlying22 f4
  obtain ⟨z5, g5, _, w5⟩ := DataW.trod_int Tryz.underlying22 f5
  obtain ⟨m2, rfl⟩ := Int.eq_ofNat_of_zero_le (bounds_u64 w2).1
  obtain ⟨m3, rfl⟩ := Int.eq_ofNat_of_zero_le (bounds_u64 w3).1
  obtain ⟨m4, rfl⟩ := Int.eq_ofNat_of_zero_le (bounds_u64 w4).1
  obtain ⟨m5, rfl⟩ := Int.eq_ofNat_of_zero_le (bounds_u64 w5).1
  have hw6 : ∀ n ∈ y6.1.weights Tryz.prog 31, n ≤ reachBytes := fun n hn => hw n (by
    simp only [DataW.weights, Tryz.underlying33]
    exact DataW.weights_mem_each (j := 6) (t := 31) rfl (by simp [e6]) n hn)
  obtain ⟨sp, l, c, xs, rfl, a1, a2, a3, a4, _⟩ := bytes_open f6 hw6
  simp at g0 g1 g2 g3 g4 g5
  subst g0 g1 g2 g3 g4 g5
  exact ⟨⟨⟨z0, z1, m2, m3, m4, m5, xs⟩, sp, c⟩, by simp [feC, a1], ⟨a4, by show xs.length ≤ _; omega⟩⟩
end
end Go.Proofs.YtjcdnclfakmbpaaGreatDoor
