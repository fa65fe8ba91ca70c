import Derived.Test.YtephfdnneplcnaaDoorLqI
import Derived.Test.YtephfdnneplcnaaDoorRows
import Derived.Test.YtephfdnneplcnaaDoorCards
import Derived.Test.YtephfdnneplcnaaDoorTie
import Derived.ProofKit
import Derived.Lib.SmallJoins
import Derived.LaidMore
import Derived.OpenShut
import Derived.SizedLaws
import Derived.Stop.Joined
import Derived.SevenTiedAt
import Derived.Deep.Strs
namespace Go.Proofs.YtephfdnneplcnaaDoor
open Go.RowKit Go.ChangeShapes Go.WideShapes Go.ChangeAt Go.Deep

theorem Tryd.cells32 : Tryd.prog.cellsOf 96 = 1 := by kernel_rfl
theorem Tryd.own : ownKnob Tryd.prog.godebug = none := by kernel_rfl
theorem Tryd.laidOut : laidOutB Tryd.prog = true := by kernel_rfl
theorem Tryd.gT : Tryd.prog.globalNamed "till/code.sumSteps" = some 0 := by kernel_rfl
theorem Tryd.tT : (Tryd.prog.globals[0]?).map (·.type) = some 122 := by kernel_rfl

/-- The door's own heap meets the condition. -/
theorem door_met (os : Os) (args : Array Value) : laidMetH Tryd.prog [("till/code.sumSteps", Rows.laid_till_code_sumSteps)] ((World.doorLaid Tryd.prog 400 os).forCall (fun _ _ => 0) ⟨#[], args, []⟩).memory :=
  laidMetH_of_parts3 (fuel := 8) (laidMet_of_run' 8 (by kernel_rfl) (by kernel_rfl)) (by kernel_rfl) (by kernel_rfl)

set_option maxRecDepth 100000 in
/-- What the condition gives: the table. -/
theorem tab_of_laid {W : World} (h : laidMetH Tryd.prog [("till/code.sumSteps", Rows.laid_till_code_sumSteps)] W) : C.Tab W := by
  rw [MakeChecks.laidMetH_plain _ _ _ (by kernel_rfl)] at h
  obtain ⟨ps, ⟨g0, t0, cs0, f0, p0, q0, hg0, ht0, hv0, hd0, _⟩, _⟩ := h
  obtain rfl := Option.some.inj (Tryd.gT.symm.trans hg0)
  obtain rfl := Option.some.inj (Tryd.tT.symm.trans ht0)
  obtain ⟨xs, m1, rfl, hx1, hlen, hn3, hel⟩ := DataW.trod_array Tryd.underlying122 hd0
  have hm : C.tab.map (fun n : Nat => (DataW.lit (.int .u32 (n : Int)) : DataW Unit)) = xs.map (fun x => x.fst) := by
    have h1 := (Prod.mk.inj hx1).1
    exact DataW.agg.inj h1
  intro j hj
  have h0 := hel j hj
  obtain ⟨x, hx⟩ : ∃ x, xs[j]? = some x := ⟨xs[j]'(by rw [hn3]; exact hj), List.getElem?_eq_getElem _⟩
  rw [hx, Tryd.cells32] at h0
  obtain ⟨k, e1, e2, _⟩ := DataW.trod_int Tryd.underlying96 h0
  have ht : C.tab[j]? = some (C.tab.getD j 0) := by
    rw [List.getD, List.getElem?_eq_getElem (show j < C.tab.length from hj)]; rfl
  have hk : (DataW.lit (.int .u32 ((C.tab.getD j 0 : Nat) : Int)) : DataW Unit) = x.fst := by
    have := congrArg (fun l => l[j]?) hm
    simp only [List.getElem?_map, hx, ht, Option.map_some, Option.some.injEq] at this
    exact this
  rw [e2] at hk
  have hk' : ((C.tab.getD j 0 : Nat) : Int) = k := by simpa using hk
  have hc := World.var?_cell hg0 hv0 j
  have hcs : cs0[j]? = some (.int .u32 k) := by
    have := congrArg (fun l => l[0]?) e1
    simp [List.getElem?_drop] at this
    simpa using this
  rw [hk', ← hcs]
  exact hc


section
variable {H : Type} {enc : TypeId × Value → H} {w : World} {base : Nat} {held : Bool}
theorem Tryd.cellsInt : Tryd.prog.cellsOf 3 = 1 := by kernel_rfl
theorem Tryd.cellsSt : Tryd.prog.cellsOf 42 = 1 := by kernel_rfl
theorem Tryd.cellsPlay : Tryd.prog.cellsOf 44 = 3 := by kernel_rfl
theorem array3 {α : Type} {cs : Array α} (h : cs.size = 3) : ∃ c0 c1 c2, cs = #[c0, c1, c2] := by
  obtain ⟨l⟩ := cs
  match l, h with
  | [a, b, c], _ => exact ⟨a, b, c, rfl⟩
set_option maxRecDepth 100000 in
/-- A Play that came in. -/
theorem play_open {r : Reach} {b0 : Nat} {v : Value} {d : DataW H} {pl : List MemPlace} (hv : Value.okWide Tryd.prog w r b0 44 v) (h : DataW.Trod enc Tryd.prog w base (fun _ => true) held 44 v d pl) :
    ∃ win cap sp l c, v = .agg #[.int .i64 win, .int .i64 cap, .slice sp l c] := by
  obtain ⟨cs, rfl, hsz⟩ := okWide_struct Tryd.underlying44 hv
  obtain ⟨c0, c1, c2, rfl⟩ := array3 (hsz.trans Tryd.cellsPlay)
  obtain ⟨fuel, hf0⟩ := h
  obtain ⟨ys, n, _, hx, hl, hlen, hf⟩ := DataW.trod_struct Tryd.underlying44 hf0
  have f0 : DataW.trod enc Tryd.prog w base (fun _ => true) held n 3 (([c0, c1, c2].drop 0).take (Tryd.prog.cellsOf 3)) = ys[0]? := hf 0 _ rfl
  have f1 : DataW.trod enc Tryd.prog w base (fun _ => true) held n 3 (([c0, c1, c2].drop 1).take (Tryd.prog.cellsOf 3)) = ys[1]? := hf 1 _ rfl
  have f2 : DataW.trod enc Tryd.prog w base (fun _ => true) held n 42 (([c0, c1, c2].drop 2).take (Tryd.prog.cellsOf 42)) = ys[2]? := hf 2 _ rfl
  simp only [Tryd.cellsInt, Tryd.cellsSt, List.drop_zero, List.drop_succ_cons, List.take_succ_cons, List.take_zero] at f0 f1 f2
  have hy : ∀ i, i < 3 → ∃ y, ys[i]? = some y := fun i hi => ⟨ys[i]'(by rw [hlen]; exact hi), List.getElem?_eq_getElem _⟩
  obtain ⟨y0, e0⟩ := hy 0 (by omega)
  rw [e0] at f0
  obtain ⟨y1, e1⟩ := hy 1 (by omega)
  rw [e1] at f1
  obtain ⟨y2, e2⟩ := hy 2 (by omega)
  rw [e2] at f2
  obtain ⟨z0, g0, _, _⟩ := DataW.trod_int Tryd.underlying3 f0
  obtain ⟨z1, g1, _, _⟩ := DataW.trod_int Tryd.underlying3 f1
  simp at g0 g1
  subst g0 g1
  rcases open_slice Tryd.underlying42 f2 with ⟨hcs, _⟩ | ⟨a, len, cap, m, n, D, Pl, hcs, _⟩
  · simp at hcs
    subst hcs
    exact ⟨z0, z1, _, _, _, rfl⟩
  · simp at hcs
    subst hcs
    exact ⟨z0, z1, _, _, _, rfl⟩
end
end Go.Proofs.YtephfdnneplcnaaDoor
