import Derived.Test.YtlpafgjgoheomaaDSt
namespace Go.Proofs.Ytlpafgjgoheomaa
open Go.RowKit Go.Maps

abbrev Own1 (o : Nat) : Nat × Nat → Prop := fun k => k = (o, 1)

theorem Kp.drewN {p : Nat × Nat → Prop} {K K' : Knd} {w w' : World} (h : Kp p K K' w w') (n : Nat) : Kp p K K' w (w'.drewN n) := ⟨h.os, h.tape, h.output, h.size, h.same, h.block⟩
theorem drewN_block (w : World) (n b : Nat) : (w.drewN n).heap[b]? = w.heap[b]? := rfl

set_option maxRecDepth 100000 in
set_option maxHeartbeats 1000000 in
theorem stroke_any (w : World) (K : Knd) (o d : Nat) (loc : Nat → Nat) (sv nv cv : Value) (S : St) (h : Dm w K o d loc sv nv cv S) (hs : S.strokes < 1099511627776) (hp : S.planned < 1099511627776) :
    Calls Try.prog 62 #[.pointer (some ⟨d, 0, none⟩)] w fun e w' => e = .returned (.int .i64 (S.power : Int)) ∧ Dm w' K o d loc sv nv cv S.stroked ∧ Kp (Own1 o) K K w w' := by
  have HD := hide h
  have hb := h.blk
  have HK := hide h.kd
  unfold dcells at hb
  have HB := hide hb
  obtain ⟨q0, q1, q2, q3, q4, q5, q6, q7, q8, q9, qf⟩ := blk10 hb
  have hbl := lt_of_block hb
  clear hb h
  have hst : ((S.strokes + 1 : Nat) : Int) = (S.strokes : Int) + 1 := by omega
  have hpl : ((S.planned + 1 : Nat) : Int) = (S.planned : Int) + 1 := by omega
  have HKp : ∀ (w2 : World), Hid (Kp (Own1 o) K K w w2) → Hid (∀ i v, Kp (Own1 o) K K w (w2.setCell ⟨d, i, none⟩ v)) := fun w2 h i v => h.out.setCell (Or.inr (by rw [HK.out])) i v
  obtain ⟨st, hst0⟩ : ∃ st, S.strokes = st := ⟨_, rfl⟩
  obtain ⟨pl, hpl0⟩ : ∃ pl, S.planned = pl := ⟨_, rfl⟩
  obtain ⟨po, hpo0⟩ : ∃ po, S.pOff = po := ⟨_, rfl⟩
  have HE : Hid (S.strokes = st ∧ S.planned = pl ∧ S.pOff = po) := ⟨hst0, hpl0, hpo0⟩
  rw [hst0] at q4 hs
  rw [hpl0] at q8 hp
  rw [hpo0] at q5
  have HPw : Hid (S.power = if ((pl + 1 : Nat) : Int) = po then 45 else 0) := by show _ = _; unfold St.power; rw [hpl0, hpo0]
  rw [HPw.out]
  clear hst hpl hst0 hpl0 hpo0
  by_cases hoff : (pl : Int) + 1 = po
  · have hif : (if ((pl + 1 : Nat) : Int) = po then (45 : Nat) else 0) = 45 := if_pos (by omega)
    rw [hif]
    have HO := hide hoff
    subst hoff
    go_enter Try.func62, Try.ntmps62
    go_wp2
    go_quiet (fail)
    go_wp2
    go_ret
    refine ⟨rfl, ?_⟩
    have hp1 : w.heap.size ≤ d ∨ Own1 o (K d) := Or.inr HK.out
    have k3 := (((((Kp.refl (Own1 o) K w).setCell hp1 4 (.int .i64 ((st : Int) + 1))).setCell hp1 8 (.int .i64 ((pl : Int) + 1))).drewN nq).setCell hp1 9 (.bool true))
    refine ⟨HD.out.turnD k3 ?_ rfl rfl rfl rfl, k3⟩
    rw [block_set ((drewN_block _ _ _).trans (block_set (block_set HB.out _) _))]
    obtain ⟨e1, e2, e3⟩ := HE.out
    simp [dcells, St.stroked, e1, e2, e3]
  · have hif : (if ((pl + 1 : Nat) : Int) = po then (45 : Nat) else 0) = 0 := if_neg (by omega)
    rw [hif]
    have HO := hide hoff
    go_enter Try.func62, Try.ntmps62
    go_wp2
    go_quiet (fail)
    go_wp2
    go_ret
    refine ⟨rfl, ?_⟩
    have k1 := (HKp _ (Kp.refl _ K w)).out 4 (.int .i64 ((st : Int) + 1))
    have k2 := (HKp _ k1).out 8 (.int .i64 ((pl : Int) + 1))
    have k3 : Kp (Own1 o) K K w (((w.setCell ⟨d, 4, none⟩ (.int .i64 ((st : Int) + 1))).setCell ⟨d, 8, none⟩ (.int .i64 ((pl : Int) + 1))).drewN nq) := ⟨k2.os, k2.tape, k2.output, k2.size, k2.same, k2.block⟩
    refine ⟨HD.out.turnD k3 ?_ rfl rfl rfl rfl, k3⟩
    show (((w.setCell ⟨d, 4, none⟩ (.int .i64 ((st : Int) + 1))).setCell ⟨d, 8, none⟩ (.int .i64 ((pl : Int) + 1)))).heap[d]? = _
    rw [block_set (block_set HB.out _) _]
    obtain ⟨e1, e2, e3⟩ := HE.out
    simp [dcells, St.stroked, e1, e2, e3, HO.out]

end Go.Proofs.Ytlpafgjgoheomaa
