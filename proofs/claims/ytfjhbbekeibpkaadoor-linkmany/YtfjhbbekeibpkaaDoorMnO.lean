import Derived.Test.YtfjhbbekeibpkaaDoorMnB
import Derived.Test.YtfjhbbekeibpkaaDoorRows
import Derived.Test.YtfjhbbekeibpkaaDoorCards
import Derived.Test.YtfjhbbekeibpkaaDoorTie
import Derived.ProofKit
import Derived.Lib.SmallJoins
import Derived.LaidMore
import Derived.OpenShut
import Derived.SizedLaws
import Derived.Stop.Joined
import Derived.SevenTiedAt
import Derived.Deep.Strs
namespace Go.Proofs.YtfjhbbekeibpkaaDoor
open Go.RowKit Go.ChangeShapes Go.WideShapes Go.ChangeAt Go.Deep

theorem Tryd.cells32 : Tryd.prog.cellsOf 82 = 1 := by kernel_rfl
theorem Tryd.own : ownKnob Tryd.prog.godebug = none := by kernel_rfl
theorem Tryd.laidOut : laidOutB Tryd.prog = true := by kernel_rfl
theorem Tryd.gT : Tryd.prog.globalNamed "till/code.sumSteps" = some 0 := by kernel_rfl
theorem Tryd.tT : (Tryd.prog.globals[0]?).map (·.type) = some 104 := by kernel_rfl

/-- The door's own heap meets the condition. -/
theorem door_met (os : Os) (args : Array Value) : laidMetH Tryd.prog [("till/code.sumSteps", Rows.laid_till_code_sumSteps)] ((World.doorLaid Tryd.prog 400 os).forCall (fun _ _ => 0) ⟨#[], args, []⟩).memory :=
  laidMetH_of_parts3 (fuel := 8) (laidMet_of_run' 8 (by kernel_rfl) (by kernel_rfl)) (by kernel_rfl) (by kernel_rfl)

set_option maxRecDepth 100000 in
/-- What the condition gives: the table. -/
theorem tab_of_laid {W : World} (h : laidMetH Tryd.prog [("till/code.sumSteps", Rows.laid_till_code_sumSteps)] W) : C.Tab W := by
  rw [MakeChecks.laidMetH_plain _ _ _ (by kernel_rfl)] at h
  obtain ⟨ps, ⟨g0, t0, cs0, f0, p0, q0, hg0, ht0, hv0, hd0, _⟩, _⟩ := h
  obtain rfl := Option.some.inj (Tryd.gT.symm.trans hg0)
  obtain rfl := Option.some.inj (Tryd.tT.symm.trans ht0)
  obtain ⟨xs, m1, rfl, hx1, hlen, hn3, hel⟩ := DataW.trod_array Tryd.underlying104 hd0
  have hm : C.tab.map (fun n : Nat => (DataW.lit (.int .u32 (n : Int)) : DataW Unit)) = xs.map (fun x => x.fst) := by
    have h1 := (Prod.mk.inj hx1).1
    exact DataW.agg.inj h1
  intro j hj
  have h0 := hel j hj
  obtain ⟨x, hx⟩ : ∃ x, xs[j]? = some x := ⟨xs[j]'(by rw [hn3]; exact hj), List.getElem?_eq_getElem _⟩
  rw [hx, Tryd.cells32] at h0
  obtain ⟨k, e1, e2, _⟩ := DataW.trod_int Tryd.underlying82 h0
  have ht : C.tab[j]? = some (C.tab.getD j 0) := by
    rw [List.getD, List.getElem?_eq_getElem (show j < C.tab.length from hj)]; rfl
  have hk : (DataW.lit (.int .u32 ((C.tab.getD j 0 : Nat) : Int)) : DataW Unit) = x.fst := by
    have := congrArg (fun l => l[j]?) hm
    simp only [List.getElem?_map, hx, ht, Option.map_some, Option.some.injEq] at this
    exact this
  rw [e2] at hk
  have hk' : ((C.tab.getD j 0 : Nat) : Int) = k := by simpa using hk
  have hc := World.var?_cell hg0 hv0 j
  have hcs : cs0[j]? = some (.int .u32 k) := by
    have := congrArg (fun l => l[0]?) e1
    simp [List.getElem?_drop] at this
    simpa using this
  rw [hk', ← hcs]
  exact hc

end Go.Proofs.YtfjhbbekeibpkaaDoor
