import Derived.Test.YtlnldipiofddkabDoorLaid
import Derived.Test.YtlnldipiofddkabDoorTold
namespace Go.Proofs.YtlnldipiofddkabDoor
open Go.RowKit Go.ChangeShapes Go.WideShapes Go.ChangeAt

theorem Tryd.cellsInt : Tryd.prog.cellsOf 3 = 1 := by kernel_rfl
theorem Tryd.cellsHurt : Tryd.prog.cellsOf 33 = 5 := by kernel_rfl

theorem five {l : List Value} (h : l.length = 5) : ∃ a b c d e, l = [a, b, c, d, e] := by
  match l, h with
  | [a, b, c, d, e], _ => exact ⟨a, b, c, d, e, rfl⟩

/-- What came in, read. -/
theorem hurt_open {H : Type} {enc : TypeId × Value → H} {w : World} {base : Nat} {held : Bool} {r : Reach} {b0 : Nat} {v : Value} {d : DataW H} {pl : List MemPlace} (hv : Value.okWide Tryd.prog w r b0 33 v) (h : DataW.Trod enc Tryd.prog w base (fun _ => true) held 33 v d pl)
    (hw : ∀ n ∈ d.weights Tryd.prog 33, n ≤ reachBytes) : ∃ sp l c xs A B O Z, v = .agg #[.slice sp l c, .int .i64 A, .int .u32 ((B : Nat) : Int), .int .i64 O, .int .i64 Z] ∧ xs.length = l ∧ l ≤ c ∧ c ≤ 140737488351232 ∧ Bytes w sp xs ∧ B < 4294967296 := by
  obtain ⟨cs, rfl, hsz⟩ := okWide_struct Tryd.underlying33 hv
  obtain ⟨fuel, hf⟩ := h
  obtain ⟨ys, n, _, hx, hl, hlen, hf⟩ := DataW.trod_struct Tryd.underlying33 hf
  rw [Tryd.cellsHurt] at hl
  obtain ⟨a, b, c, e, f, hcs⟩ := five hl
  rw [hcs] at hf
  have f0 : DataW.trod enc Tryd.prog w base (fun _ => true) held n 27 (([a, b, c, e, f].drop 0).take (Tryd.prog.cellsOf 27)) = ys[0]? := hf 0 _ rfl
  have f1 : DataW.trod enc Tryd.prog w base (fun _ => true) held n 3 (([a, b, c, e, f].drop 1).take (Tryd.prog.cellsOf 3)) = ys[1]? := hf 1 _ rfl
  have f2 : DataW.trod enc Tryd.prog w base (fun _ => true) held n 25 (([a, b, c, e, f].drop 2).take (Tryd.prog.cellsOf 25)) = ys[2]? := hf 2 _ rfl
  have f3 : DataW.trod enc Tryd.prog w base (fun _ => true) held n 3 (([a, b, c, e, f].drop 3).take (Tryd.prog.cellsOf 3)) = ys[3]? := hf 3 _ rfl
  have f4 : DataW.trod enc Tryd.prog w base (fun _ => true) held n 3 (([a, b, c, e, f].drop 4).take (Tryd.prog.cellsOf 3)) = ys[4]? := hf 4 _ rfl
  simp only [Tryd.cellsInt, Tryd.cells32, Tryd.cellsB, List.drop_zero, List.drop_succ_cons, List.take_succ_cons, List.take_zero] at f0 f1 f2 f3 f4
  have hy : ∀ i, i < 5 → ∃ y, ys[i]? = some y := fun i hi => ⟨ys[i]'(by rw [hlen]; exact hi), List.getElem?_eq_getElem _⟩
  obtain ⟨y0, e0⟩ := hy 0 (by omega)
  obtain ⟨y1, e1⟩ := hy 1 (by omega)
  obtain ⟨y2, e2⟩ := hy 2 (by omega)
  obtain ⟨y3, e3⟩ := hy 3 (by omega)
  obtain ⟨y4, e4⟩ := hy 4 (by omega)
  rw [e0] at f0; rw [e1] at f1; rw [e2] at f2; rw [e3] at f3; rw [e4] at f4
  obtain ⟨z1, g1, _, w1⟩ := DataW.trod_int Tryd.underlying3 f1
  obtain ⟨z2, g2, _, w2⟩ := DataW.trod_int Tryd.underlying25 f2
  obtain ⟨z3, g3, _, w3⟩ := DataW.trod_int Tryd.underlying3 f3
  obtain ⟨z4, g4, _, w4⟩ := DataW.trod_int Tryd.underlying3 f4
  have hw0 : ∀ n ∈ y0.1.weights Tryd.prog 27, n ≤ reachBytes := fun n hn => hw n (by
    simp only [Prod.mk.injEq] at hx
    rw [hx.1]
    simp only [DataW.weights, Tryd.underlying33]
    exact DataW.weights_mem_each (j := 0) (t := 27) rfl (by simp [e0]) n hn)
  obtain ⟨sp, l, cp, xs, g0, b1, b2, b3, b4⟩ := bytes_open f0 hw0
  simp at g1 g2 g3 g4
  subst g0 g1 g2 g3 g4
  have r2 := bounds_u32 w2
  refine ⟨sp, l, cp, xs, z1, z2.toNat, z3, z4, ?_, b1, b2, b3, b4, by omega⟩
  have hz : ((z2.toNat : Nat) : Int) = z2 := by omega
  rw [hz]
  congr 1
  have hcs' : cs.toList = [.slice sp l cp, .int .i64 z1, .int .u32 z2, .int .i64 z3, .int .i64 z4] := hcs
  exact Array.toList_inj.1 hcs'

theorem told_all (w : World) (sp : Option Addr) (l c B : Nat) (A O Z : Int) (xs : List Nat) (hT : Tab w) (h1 : xs.length = l) (h2 : l ≤ c) (h3 : c ≤ 140737488351232) (h4 : Bytes w sp xs) (hB : B < 4294967296) :
    Calls Tryd.prog 4 #[.agg #[.slice sp l c, .int .i64 A, .int .u32 (B : Int), .int .i64 O, .int .i64 Z]] w fun e w' => e = .returned (.bool true) ∧ Below w.heap.size w w' := by
  by_cases hl : l = 0 ∨ 1048576 < l
  · exact told_early w sp l c B A O Z hT (Nat.le_trans h2 h3) hl
  · rcases h4.lie with h0 | ⟨g, o, rfl, _, _⟩
    · subst h0; simp at h1; omega
    · exact told_some w g o l c B A O Z xs hT h1 (by omega) (by omega) h4 hB

set_option maxRecDepth 100000 in
theorem told_lifted (os : Os) (started : os.Started) (H : Type) (enc : TypeId × Value → H) :
    ReturnsInHanded {} Tryd.checked os 4 .any (fun w args => (Rows.codeToldSpec.pre enc Tryd.prog Tryd.f4 [] false w args ∧ laidMetH Tryd.prog Rows.codeToldRow.laid w) ∧ sizedMet enc Tryd.prog Tryd.f4 (OpenSpec.ofChange Rows.codeToldSpec) false w args)
      (Rows.codeToldSpec.post enc Tryd.prog Tryd.f4 false true false false) := by
  refine returnsInHanded_of_change_and (C := Tryd.checked) (X := fun w _ => laidMetH Tryd.prog Rows.codeToldRow.laid w) (fun _ _ _ hh h => h.of_heap hh) Tryd.own started (by kernel_rfl) Tryd.func4
    (ChangeSpec.witness_shaped (enc := enc) (C := Tryd.checked) (os := os) (X := fun w _ => laidMetH Tryd.prog Rows.codeToldRow.laid w) false (World.doorLaid Tryd.prog 400 os) #[.agg #[.slice none 0 0, .int .i64 0, .int .u32 0, .int .i64 0, .int .i64 0]] 8 rfl (World.shaped_of_RefB (by kernel_rfl) (by kernel_rfl)) (by kernel_rfl) (by kernel_rfl) (by kernel_rfl) (door_met os _)) ?_
  intro W base args ds gs before hval0 hW _ hsz0 hL _
  have hval : ∀ (j : Nat) t v, Tryd.f4.params[j]? = some t → args[j]? = some v → Value.okWide Tryd.prog W .any base t v := hval0
  have hsz : (DataW.weightsEach Tryd.prog (Tryd.f4.params.toList ++ Rows.codeToldSpec.plain.varTypes Tryd.prog) (ds ++ gs)).all (· ≤ reachBytes) = true := hsz0
  have hW' := hW
  obtain ⟨p, q, hA0, hV, rfl, hfz, hnd⟩ := hW
  have hA : DataW.TrodAll enc Tryd.prog W 0 (fun _ => true) true Tryd.f4.params.toList args.toList ds p := hA0
  rw [Tryd.params4] at hA hval hsz
  obtain ⟨v0, d0, rfl, rfl, h0⟩ := trodAll_one hA
  obtain ⟨rfl, rfl⟩ := trodVars_none hV
  have hw : ∀ n ∈ d0.weights Tryd.prog 33, n ≤ reachBytes := fun n hn => by
    have := List.all_eq_true.1 hsz n (DataW.weights_mem_each (j := 0) (t := 33) rfl rfl n hn)
    simpa using this
  obtain ⟨sp, l, c, xs, A, B, O, Z, rfl, t1, t2, t3, t4, t5⟩ := hurt_open (hval 0 33 v0 rfl rfl) h0 hw
  clear hA0 hval0 hsz0 hsz
  simp only [List.append_nil] at hW'
  refine (told_all W sp l c B A O Z xs (tab_of_laid hL) t1 t2 t3 t4 t5).mono fun e W' ⟨he, hb⟩ => ?_
  subst he
  have hlt : ∀ x ∈ p, x.block < W.heap.size := fun x hx => by simpa using hW'.lt x hx
  exact ⟨_, rfl, _, _, _, [], p, [], hW', trodAll_mk1 (shut_bool Tryd.underlying4 true), trodAll_mk1 (Below.trod Tryd.laidOut (by kernel_rfl) (of_decide_eq_true (by kernel_rfl)) h0 hb hlt), rfl, hb.frame _, fun h => by cases h⟩

theorem told_row : Rows.CodeToldSaid :=
  OpenClaim.holds_of_wide 4 Tryd.f4 rfl rfl rfl rfl rfl rfl rfl ⟨rfl, rfl, rfl, rfl, rfl⟩ rfl rfl rfl rfl rfl (by kernel_rfl) Tryd.func4 (by kernel_rfl)
    (of_decide_eq_true (by kernel_rfl)) (by unfold Func.isWrapper; first | (rw [if_pos (by decide +kernel)]; kernel_rfl) | (rw [if_neg (by decide +kernel)]; exact ⟨rfl, rfl⟩))
    (fun os started H enc _ => told_lifted os started H enc)

theorem told_holds : Rows.CodeToldCardSaid :=
  Claim7.holds_tied_plain_at .later [] [.data] true (true, "eb9a370f6793770718dcc8f867324191ca67598da38cc102e7bf5aa34cf65142") false
    told_row (fun _ h => by cases h) (by kernel_rfl) (fun _ h => by cases h) codeTold_row_tie rfl ⟨rfl, rfl⟩ (by kernel_rfl) rfl
    (fun f fn hf hfn => by
      obtain rfl : f = 4 := Option.some.inj ((show Tryd.prog.funcNamed "till/tilllaw1.CodeTold" = some 4 by kernel_rfl).symm.trans hf) |>.symm
      obtain rfl : fn = Tryd.f4 := (Option.some.inj (Tryd.func4.symm.trans hfn)).symm
      exact ⟨by kernel_rfl, fun j t ht => by
        rw [Tryd.params4] at ht
        have h3 : t = 33 := by
          rcases j with _ | j
          · simpa using ht.symm
          · simp at ht
        subst h3
        exact (show Tryd.prog.wantsStandIn 33 = false by kernel_rfl)⟩)
    (by kernel_rfl)
#print axioms told_holds
end Go.Proofs.YtlnldipiofddkabDoor
