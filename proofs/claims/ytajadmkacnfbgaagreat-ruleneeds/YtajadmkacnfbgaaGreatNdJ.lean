import Derived.Test.YtajadmkacnfbgaaGreatNdI
namespace Go.Proofs.YtajadmkacnfbgaaGreat
open Go.RowKit Go.Shelf Go.Lib Go.Sort

def orI (a b : Int) : Int := if a = 0 then b else a
def cmI (a b : Int) : Int := Lib.compareInt a b

set_option maxRecDepth 100000 in
set_option maxHeartbeats 2000000 in
theorem byK (x0 x1 y0 y1 : Int) (W : World) :
    Calls Tryz.prog 15 #[.agg #[.int .i64 x0, .int .i64 x1], .agg #[.int .i64 y0, .int .i64 y1]] W fun e w' => e = .returned (.int .i64 (orI (cmI x0 y0) (cmI x1 y1))) ∧ ∃ q os', w' = grow (W.drewN q) os' := by
  have H1 : Hid (∀ (a b : Int) (W' : World), Calls Tryz.prog 31 #[.int .i64 a, .int .i64 b] W' fun e w' => e = .returned (.int .i64 (cmI a b)) ∧ w' = W') := fun a b W' => AnyG.cmp_Compare_int Tryz.cmpInt a b W'
  have H3 : Hid (∀ (a b : Int) (W' : World), Calls Tryz.prog 30 #[.slice (some ⟨W'.heap.size, 0, none⟩) 2 2] (W'.alloc (.cells #[.int .i64 a, .int .i64 b] 3)).drew fun e w' => e = .returned (.int .i64 (orI a b)) ∧ w' = (W'.alloc (.cells #[.int .i64 a, .int .i64 b] 3)).drew) := fun a b W' =>
    or_any _ _ a b (by show (W'.alloc _).cell? _ = _; simp) (by show (W'.alloc _).cell? _ = _; simp)
  obtain ⟨w2, hw2⟩ : ∃ w2, (W.alloc (.cells #[.int .i64 x0, .int .i64 x1] 62)).alloc (.cells #[.int .i64 y0, .int .i64 y1] 62) = w2 := ⟨_, rfl⟩
  have c0 : w2.cell? ⟨W.heap.size, 0, none⟩ = some (.int .i64 x0) := by rw [← hw2]; simp
  have c1 : w2.cell? ⟨W.heap.size, 1, none⟩ = some (.int .i64 x1) := by rw [← hw2]; simp
  have d0 : w2.cell? ⟨W.heap.size + 1, 0, none⟩ = some (.int .i64 y0) := by rw [← hw2]; simp
  have d1 : w2.cell? ⟨W.heap.size + 1, 1, none⟩ = some (.int .i64 y1) := by rw [← hw2]; simp
  have HW := hide hw2
  have HE : Hid (∀ o : Obj, ∃ q os', (w2.alloc o).drew = grow (W.drewN q) os') := fun o => by
    refine ⟨1, #[.cells #[.int .i64 x0, .int .i64 x1] 62] ++ #[.cells #[.int .i64 y0, .int .i64 y1] 62] ++ #[o], ?_⟩
    rw [← hw2, alloc_eq_grow, alloc_eq_grow, alloc_eq_grow, grow_grow, grow_grow]
    rfl
  clear hw2
  go_enter Tryz.func15, Tryz.ntmps15
  go_upto_region 1 with fail
  rw [HW.out]
  go_region_held3 (fun w' => w'.cell? ⟨W.heap.size, 0, none⟩ = some (.int .i64 x0) ∧ w'.cell? ⟨W.heap.size, 1, none⟩ = some (.int .i64 x1) ∧ w'.cell? ⟨W.heap.size + 1, 0, none⟩ = some (.int .i64 y0) ∧ w'.cell? ⟨W.heap.size + 1, 1, none⟩ = some (.int .i64 y1)) (go_keep) (first | (go_at_call 31; refine (H1.out _ _ _).mono ?_; rintro e w3 ⟨rfl, rfl⟩) | (go_at_call 30; refine (H3.out _ _ _).mono ?_; rintro e w3 ⟨rfl, rfl⟩) | fail)
  go_wp2
  go_ret
  exact ⟨rfl, HE.out _⟩
end Go.Proofs.YtajadmkacnfbgaaGreat
