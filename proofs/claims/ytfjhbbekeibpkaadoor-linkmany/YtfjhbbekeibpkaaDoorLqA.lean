import Derived.Test.YtfjhbbekeibpkaaDoorLkJ
namespace Go.Proofs.YtfjhbbekeibpkaaDoor
open Go.RowKit

theorem blk4 {w : World} {b : Nat} {x0 x1 x2 x3 : Value} {t : TypeId} (h : w.heap[b]? = some (.cells #[x0, x1, x2, x3] t (0, 0))) :
    w.cell? ⟨b, 0, none⟩ = some x0 ∧ w.cell? ⟨b, 1, none⟩ = some x1 ∧ w.cell? ⟨b, 2, none⟩ = some x2 ∧ w.cell? ⟨b, 3, none⟩ = some x3 ∧ (∀ o, w.frozen? ⟨b, o, none⟩ = false) :=
  ⟨by simp [World.cell?, h], by simp [World.cell?, h], by simp [World.cell?, h], by simp [World.cell?, h], fun o => by simp [World.frozen?, h]⟩
theorem run_clear_nil (t : TypeId) (c : Nat) (w : World) : Sem.run Tryd.prog (Builtin.clear_ #[42] t #[.slice none 0 c]) w = .ok (.tuple #[]) w := by
  simp [Builtin.clear_, run_underlying Tryd.underlying42]
set_option maxRecDepth 100000 in
set_option maxHeartbeats 1000000 in
/-- Nothing leaves an empty row. -/
theorem letGo_nil (w : World) (b : Nat) (L : Lk) (h : Lb w b L (.slice none 0 0)) (fv : Value) :
    Calls Tryd.prog 34 #[.pointer (some ⟨b, 5, none⟩), fv] w fun e w' => e = .returned (.tuple #[]) ∧ Lb w' b L (.slice none 0 0) ∧ C.But b w w' := by
  obtain ⟨-, -, -, -, -, c5, -, -, -, -, -, -, -, -, -, cf⟩ := blk15 h
  have hcl := run_clear_nil
  have H := hide h
  clear h
  go_enter Tryd.func34, Tryd.ntmps34
  go_wp2
  refine wp_loop_rounds 1 ?_
  rw [rounds_succ]
  go_wp2
  go_end0
  exact ⟨rfl, H.out.set 5 _ L _ rfl, (C.But.refl b w).setCell (p := ⟨b, 5, none⟩) (Or.inl rfl) _⟩
set_option maxRecDepth 100000 in
set_option maxHeartbeats 1000000 in
theorem first_nil (w : World) (b : Nat) (L : Lk) (win : Int) (hw : 0 ≤ win) (h : Lb w b L (.slice none 0 0)) :
    Calls Tryd.prog 37 #[.pointer (some ⟨b, 5, none⟩), .int .i64 win] w fun e w' => e = .returned (.slice none 0 0) ∧ Below w.heap.size w w' := by
  obtain ⟨-, -, -, -, -, c5, -⟩ := blk15 h
  have hmin : min win 0 = 0 := by omega
  clear h
  go_enter Tryd.func37, Tryd.ntmps37
  go_wp2
  go_region_held3 (fun w' => w'.cell? ⟨b, 5, none⟩ = some (.slice none 0 0)) (go_keep) (fail)
  all_goals go_wp2
  all_goals go_ret
  all_goals exact ⟨rfl, (Below.refl _ _).drew⟩
set_option maxRecDepth 100000 in
set_option maxHeartbeats 1000000 in
theorem bodies_nil (w : World) (b : Nat) (L : Lk) (hw : 0 ≤ L.window) (h : Lb w b L (.slice none 0 0)) (hk : 0 < L.known) (fv : Value) :
    Calls Tryd.prog 20 #[.pointer (some ⟨b, 0, none⟩), fv] w fun e w' => e = .returned (.slice none 0 0) ∧ Below w.heap.size w w' := by
  have HK := hide (known_any w b L _ h)
  rw [decide_eq_true hk] at HK
  have HF := hide (first_nil w.drew b L L.window hw h)
  obtain ⟨-, -, -, c3, -⟩ := blk15 h
  have hlt := C.lt_of_block h
  clear h
  go_enter Tryd.func20, Tryd.ntmps20
  go_wp2_with fail
  refine HK.out.mono ?_
  rintro e w1 ⟨rfl, rfl⟩
  go_wp2
  go_region_held3 (fun w' => w'.cell? ⟨b, 3, none⟩ = some (.int .i64 L.window)) (go_keep) (first | (go_at_call 37; refine HF.out.mono ?_; rintro e w2 ⟨rfl, hb2⟩; have c3n := (hb2.cell (p := ⟨b, 3, none⟩) hlt).trans c3; have HB2 := hide hb2; clear hb2))
  go_wp2
  refine wp_loop_rounds 1 ?_
  rw [rounds_succ]
  go_wp2
  go_ret
  exact ⟨rfl, Below.trans ((Below.refl _ _).drew) HB2.out⟩
end Go.Proofs.YtfjhbbekeibpkaaDoor
