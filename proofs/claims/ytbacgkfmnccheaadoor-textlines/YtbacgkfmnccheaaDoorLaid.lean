import Derived.Test.YtbacgkfmnccheaaDoorRows
import Derived.Test.YtbacgkfmnccheaaDoorCards
import Derived.Test.YtbacgkfmnccheaaDoorTie
import Derived.Test.YtbacgkfmnccheaaDoorBegun2
import Derived.Test.YtbacgkfmnccheaaDoorOpen
import Derived.ProofKit
import Derived.LaidMore
import Derived.OpenShut
import Derived.SizedLaws
import Derived.Stop.Joined
import Derived.SevenTiedAt
import Derived.PinnedBridge
import Derived.Lib.LaidU8T
import Derived.Lib.LaidTab
namespace Go.Proofs.YtbacgkfmnccheaaDoor
open Go.RowKit Go.ChangeShapes Go.WideShapes Go.ChangeAt

theorem Tryd.own : ownKnob Tryd.prog.godebug = none := by kernel_rfl
theorem Tryd.laidOut : laidOutB Tryd.prog = true := by kernel_rfl

/-- What the rows list. -/
def laidL : List (String × DataW Unit) := [("math/bits.deBruijn32tab", Rows.laid_math_bits_deBruijn32tab), ("math/bits.deBruijn64tab", Rows.laid_math_bits_deBruijn64tab), ("internal/strconv.uint64pow10", Rows.laid_internal_strconv_uint64pow10), ("unicode/utf8.acceptRanges", Rows.laid_unicode_utf8_acceptRanges), ("till/text.capitals", Rows.laid_till_text_capitals), ("unicode/utf8.first", Rows.laid_unicode_utf8_first)]

theorem Tryd.extra : U8Extra Tryd.prog Tryd.lays196_ren := { n3 := by kernel_rfl, n4 := by kernel_rfl, y3 := by kernel_rfl, y4 := by kernel_rfl, c5 := by kernel_rfl, c119 := by kernel_rfl, c138 := by kernel_rfl }

theorem Tryd.gCap : Tryd.prog.globalNamed "till/text.capitals" = some 2 := by kernel_rfl
theorem Tryd.tCap : (Tryd.prog.globals[2]?).map (·.type) = some 81 := by kernel_rfl
theorem Tryd.tPow : (Tryd.prog.globals[4]?).map (·.type) = some 98 := by kernel_rfl
theorem Tryd.cells64 : Tryd.prog.cellsOf 54 = 1 := by kernel_rfl
theorem Tryd.cellsPow : Tryd.prog.cellsOf 98 = 20 := by kernel_rfl
theorem Tryd.cells32 : Tryd.prog.cellsOf 21 = 1 := by kernel_rfl
theorem Tryd.cellsSpan : Tryd.prog.cellsOf 80 = 2 := by kernel_rfl

set_option maxRecDepth 100000 in
theorem tabs_of_laid {W : World} (h : laidMetH Tryd.prog laidL W) : Tabs W := by
  rw [MakeChecks.laidMetH_plain _ _ _ (by kernel_rfl)] at h
  obtain ⟨ps, hLV, _⟩ := h
  have hr := Lib.LaidVars_reads hLV
  refine ⟨?_, ?_, ?_⟩
  · obtain ⟨g, t, cs, fuel, p, h1, h2, h3, h4⟩ := hr "internal/strconv.uint64pow10" Rows.laid_internal_strconv_uint64pow10 (by simp [laidL])
    obtain rfl := Option.some.inj (Tryd.gPow.symm.trans h1)
    obtain rfl := Option.some.inj (Tryd.tPow.symm.trans h2)
    have := Lib.cells_of_tab (zs := Lib.pow10Tab) Tryd.underlying98 Tryd.underlying54 Tryd.cells64 Tryd.cellsPow h4
    unfold Lib.TabIs
    rw [h3, ← this]
  · have := utf8Tabs_of_readsT (U8Types.of196 Tryd.lays196) Tryd.extra (w := W) ?_ ?_
    · exact this
    · have := hr "unicode/utf8.first" Rows.laid_unicode_utf8_first (by simp [laidL])
      rw [show Rows.laid_unicode_utf8_first = Lib.firstData from Pinned.utf8First_eq] at this
      exact this
    · have := hr "unicode/utf8.acceptRanges" Rows.laid_unicode_utf8_acceptRanges (by simp [laidL])
      exact this
  · obtain ⟨g, t, cs, fuel, p, h1, h2, h3, h4⟩ := hr "till/text.capitals" Rows.laid_till_text_capitals (by simp [laidL])
    obtain rfl := Option.some.inj (Tryd.gCap.symm.trans h1)
    obtain rfl := Option.some.inj (Tryd.tCap.symm.trans h2)
    obtain ⟨xs, m1, _, hx1, hlen, hn3, hel⟩ := DataW.trod_array Tryd.underlying81 h4
    have hm : ([(65, 90), (192, 214), (216, 222)] : List (Int × Int)).map (fun n => (DataW.agg [.lit (.int .i32 n.1), .lit (.int .i32 n.2)] : DataW Unit)) = xs.map (fun x => x.fst) := by
      have h1 := (Prod.mk.inj hx1).1
      exact DataW.agg.inj h1
    have hk : ∀ i a b, ([(65, 90), (192, 214), (216, 222)] : List (Int × Int))[i]? = some (a, b) → i < 3 → cs[2 * i]? = some (.int .i32 a) ∧ cs[2 * i + 1]? = some (.int .i32 b) := by
      intro i a b hi hi3
      have h0 := hel i hi3
      obtain ⟨x, hx⟩ : ∃ x, xs[i]? = some x := ⟨xs[i]'(by rw [hn3]; exact hi3), List.getElem?_eq_getElem _⟩
      rw [hx, Tryd.cellsSpan] at h0
      have hd := congrArg (fun l => l[i]?) hm
      simp only [List.getElem?_map, hx, hi, Option.map_some, Option.some.injEq] at hd
      obtain ⟨y0, y1, n, hx0, hl2, q0, q1⟩ := trod_struct2 Tryd.underlying80 h0
      have q0' : DataW.trod (fun _ => ()) Tryd.prog W 0 (fun _ => true) false n 21 ((((cs.toList.drop (i * 2)).take 2).drop 0).take 1) = some y0 := by
        have := q0
        rw [show Tryd.prog.cellsOf 21 = 1 from Tryd.cells32] at this
        exact this
      have q1' : DataW.trod (fun _ => ()) Tryd.prog W 0 (fun _ => true) false n 21 ((((cs.toList.drop (i * 2)).take 2).drop 1).take 1) = some y1 := by
        have := q1
        rw [show Tryd.prog.cellsOf 21 = 1 from Tryd.cells32] at this
        exact this
      obtain ⟨z0, e0, f0, _⟩ := DataW.trod_int Tryd.underlying21 q0'
      obtain ⟨z1, e1, f1, _⟩ := DataW.trod_int Tryd.underlying21 q1'
      rw [hx0, f0, f1] at hd
      simp only [DataW.agg.injEq, List.cons.injEq, DataW.lit.injEq, Lit.int.injEq, true_and, and_true] at hd
      obtain ⟨rfl, rfl⟩ := hd
      have g0 := congrArg (fun l => l[0]?) e0
      have g1 := congrArg (fun l => l[0]?) e1
      simp [List.getElem?_drop] at g0 g1
      exact ⟨by rw [Nat.mul_comm]; simpa using g0, by rw [Nat.mul_comm]; simpa using g1⟩
    intro j hj
    have hc := World.var?_cell h1 h3 j
    obtain ⟨r0, r1⟩ := hk 0 65 90 rfl (by omega)
    obtain ⟨r2, r3⟩ := hk 1 192 214 rfl (by omega)
    obtain ⟨r4, r5⟩ := hk 2 216 222 rfl (by omega)
    rcases (show j = 0 ∨ j = 1 ∨ j = 2 ∨ j = 3 ∨ j = 4 ∨ j = 5 by omega) with rfl | rfl | rfl | rfl | rfl | rfl
    · exact hc.trans r0
    · exact hc.trans r1
    · exact hc.trans r2
    · exact hc.trans r3
    · exact hc.trans r4
    · exact hc.trans r5

/-- The door's own heap with the pinned table laid in it meets the condition. -/
theorem door_met (os : Os) (args : Array Value) : laidMetH Tryd.prog laidL (((World.doorLaid Tryd.prog 400 os).putObj 0 (.cells (Lib.firstTab.map fun z => Value.int .u8 z).toArray 58 (0, 0))).forCall (fun _ _ => 0) ⟨#[], args, []⟩).memory :=
  laidMetH_of_parts3 (fuel := 8) (laidMet_of_run' 8 (by kernel_rfl) (by kernel_rfl)) (by kernel_rfl) (by kernel_rfl)

end Go.Proofs.YtbacgkfmnccheaaDoor
