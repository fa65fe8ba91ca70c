import Derived.Test.YtlpafgjgoheomaaCarry
namespace Go.Proofs.Ytlpafgjgoheomaa
open Go.RowKit

theorem blk3 {w : World} {b : Nat} {x y z : Value} {t : TypeId} (h : w.heap[b]? = some (.cells #[x, y, z] t (0, 0))) : w.cell? ⟨b, 0, none⟩ = some x ∧ w.cell? ⟨b, 1, none⟩ = some y ∧ w.cell? ⟨b, 2, none⟩ = some z ∧ (∀ o, w.frozen? ⟨b, o, none⟩ = false) :=
  ⟨by simp [World.cell?, h], by simp [World.cell?, h], by simp [World.cell?, h], fun o => by simp [World.frozen?, h]⟩
theorem block_set {w : World} {g i : Nat} {cs : Array Value} {t : TypeId} {fr : Nat × Nat} (h : w.heap[g]? = some (.cells cs t fr)) (v : Value) : (w.setCell ⟨g, i, none⟩ v).heap[g]? = some (.cells (cs.setIfInBounds i v) t fr) := by
  rw [setCell_eq_setRow w g i cs t fr v h]
  exact setRow_heap w g _ _ t _ h
/-- A row lies in no block of another type. -/
theorem owns_ne {w : World} {B n k s : Nat} {t t' : TypeId} {v : Value} {xs : List Value} {C : Array Value} {fr : Nat × Nat} (h : w.ownsRow B t s v n xs) (hk : w.heap[k]? = some (.cells C t' fr)) (ht : t' ≠ t) : some k ≠ v.ownBlock := by
  intro e
  rcases h.2 with ⟨h1, h2⟩ | ⟨g', cap, cur, h1, _, hg, _⟩
  · rw [h1] at e; simp [Value.ownBlock] at e
  · rw [h1] at e; simp [Value.ownBlock] at e; subst e
    rw [hg] at hk; simp at hk; exact ht hk.2.1.symm
theorem owns_apart {w : World} {B B' n m s s' : Nat} {t t' : TypeId} {v v' : Value} {xs ys : List Value} (h : w.ownsRow B t s v n xs) (h' : w.ownsRow B' t' s' v' m ys) (ht : t ≠ t') : ∀ g, v.ownBlock = some g → some g ≠ v'.ownBlock := by
  intro g hg
  rcases h.2 with ⟨h1, _⟩ | ⟨g', cap, cur, h1, _, hb, _⟩
  · rw [h1] at hg; simp [Value.ownBlock] at hg
  · rw [h1] at hg; simp [Value.ownBlock] at hg; subst hg
    exact owns_ne h' hb ht
/-- THE OLD BLOCKS BUT b AND A ROW ARE AS THEY WERE. -/
structure Wr2 (b : Nat) (r : Option Nat) (w w' : World) : Prop where
  os : w'.os = w.os
  tape : w'.tape = w.tape
  output : w'.output = w.output
  size : w.heap.size ≤ w'.heap.size
  block : ∀ k, k < w.heap.size → k ≠ b → some k ≠ r → w'.heap[k]? = w.heap[k]?
theorem Wr2.refl (b : Nat) (r : Option Nat) (w : World) : Wr2 b r w w := ⟨rfl, rfl, rfl, Nat.le_refl _, fun _ _ _ _ => rfl⟩
theorem Wr2.grown {b : Nat} {r r' : Option Nat} {w w1 w2 : World} (h : Wr2 b r w w1) (k : w1.grownBy w2 r') (hr : ∀ j, r' = some j → w.heap.size ≤ j ∨ r = some j ∨ j = b) : Wr2 b r w w2 :=
  ⟨k.os.trans h.os, k.tape.trans h.tape, k.output.trans h.output, Nat.le_trans h.size k.size, fun i hi h1 h2 => (k.block i (Nat.lt_of_lt_of_le hi h.size) (fun e => by
    rcases hr i e.symm with h3 | h3 | h3
    · omega
    · exact h2 h3.symm
    · exact h1 h3)).trans (h.block i hi h1 h2)⟩
theorem Wr2.set {b : Nat} {r : Option Nat} {w w1 : World} (h : Wr2 b r w w1) (i : Nat) (v : Value) : Wr2 b r w (w1.setCell ⟨b, i, none⟩ v) :=
  ⟨h.os, h.tape, h.output, by simpa [World.setCell] using h.size, fun k hk h1 h2 => by rw [Below.heap_setCell _ _ _ _ h1]; exact h.block k hk h1 h2⟩
theorem Wr2.below {b : Nat} {r : Option Nat} {w w1 w2 : World} (h : Wr2 b r w w1) (k : Below w1.heap.size w1 w2) : Wr2 b r w w2 :=
  ⟨k.os.trans h.os, k.tape.trans h.tape, k.output.trans h.output, Nat.le_trans h.size k.size, fun i hi h1 h2 => (k.block i (Nat.lt_of_lt_of_le hi h.size)).trans (h.block i hi h1 h2)⟩
theorem Wr2.drew {b : Nat} {r : Option Nat} {w w1 : World} (h : Wr2 b r w w1) : Wr2 b r w w1.drew := ⟨h.os, h.tape, h.output, h.size, h.block⟩

/-- A FILE: its block, its rows. -/
structure Flw (w : World) (b : Nat) (sv uv : Value) (f : Fil) : Prop where
  blk : w.heap[b]? = some (.cells #[sv, uv, .int .i64 (f.all.length : Int)] 90 (0, 0))
  safe : w.ownsRow 0 5 1 sv f.safe.length (vals f.safe)
  unit : w.ownsRow 0 112 1 uv f.units.length (uvals f.units)
  ok : f.ok

theorem Lies.refl (w : World) (v : Value) : Lies w v v := Or.inl rfl
theorem Lies.trans {w w1 : World} {v v1 v2 : Value} (h : Lies w v v1) (k : Lies w1 v1 v2) (hs : w.heap.size ≤ w1.heap.size) : Lies w v v2 := by
  rcases k with k | ⟨g, k1, k2⟩
  · rcases h with h | ⟨g, h1, h2⟩
    · exact Or.inl (k.trans h)
    · exact Or.inr ⟨g, k.trans h1, h2⟩
  · exact Or.inr ⟨g, k1, Nat.le_trans hs k2⟩

theorem zero_cells (k : Nat) : (Builtin.zeroCells (Value.int .i32 0).cells k).size = k := by rw [size_zeroCells]; simp [Value.cells]

theorem wpList_app_run {w : World} {ops : Array Oper} {rest : List Oper} {o : Oper} {a : Act} {Q : Exit → Act → World → Prop} (hgd : o.guard = none) (s x : Operand) (t tn : TypeId)
    (ho : o.op = .call { callee := .builtin .append, args := #[s, x], argTypes := #[t, tn] }) (v1 v2 v' : Value) (w' : World) (hs : a.eval s = v1) (hx : a.eval x = v2)
    (hr : (Builtin.append_ #[t, tn] o.type #[v1, v2]).run Try.prog w = .ok v' w') (h : wpList Try.prog ops Q rest (a.put o.dst v') w') : wpList Try.prog ops Q (o :: rest) a w := by
  refine wpList_plain hgd fun K hK => ?_
  unfold Oper.wp execOp
  simp only [ho, resolve, invoke, builtin, Sem.run_bind, Sem.run_pure, Result.andThen_ok, List.map_toArray, List.map_cons, List.map_nil, hs, hx, hr]
  exact hK _ _ h

set_option maxRecDepth 100000 in
set_option maxHeartbeats 1000000 in
theorem grow_any (w : World) (v : Value) (n m : Nat) (us : List Int) (ho : w.ownsRow 0 112 1 v n (uvals us)) (hn : n + m ≤ 1099511627776) :
    Calls Try.prog 73 #[v, .int .i64 (m : Int)] w fun e w' => ∃ a c, e = .returned (.slice a n c) ∧ w'.ownsRow 0 112 1 (.slice a n c) n (uvals us) ∧ Below w.heap.size w w' ∧ Lies w v (.slice a n c) := by
  obtain ⟨i0, hi, hz0, hz1, hz2⟩ := info_parts Try.infoUn
  obtain ⟨a, c, rfl, hnc, hcm⟩ := owns_form ho
  have hnc' : (n : Int) ≤ (c : Int) := by omega
  have hcm' : c ≤ 9223372036854775807 := by unfold maxLen at hcm; omega
  by_cases hroom : m ≤ c - n
  · have HO := hide ho
    clear ho hz0 hz1 hz2 hi
    have hr : (m : Int) ≤ (c : Int) - (n : Int) := by omega
    clear hroom
    go_enter Try.func73, Try.ntmps73
    go_wp2
    go_ret
    exact ⟨a, c, rfl, HO.out, Below.refl _ _, Or.inl rfl⟩
  · obtain ⟨q, hq⟩ : ∃ q : Nat, q = m - (c - n) := ⟨_, rfl⟩
    have hq0 : 0 < q := by omega
    have hcq : c + q = n + m := by omega
    have hfull : ∃ olds : List Value, olds.length = c ∧ olds.take n = uvals us ∧ (∀ w', w'.heap = w.heap → (Builtin.firstCells i0.size c (.slice a c c)).run Try.prog w' = .ok olds.toArray w') := by
      rcases ho.2 with ⟨h1, h2⟩ | ⟨g, cap, cur, h1, _, h3, h4, h5, h6, h7⟩
      · cases h1
        have : us = [] := List.eq_nil_of_length_eq_zero (by have := ho.1; rw [uvals_len] at this; omega)
        subst this
        exact ⟨[], rfl, rfl, fun w' _ => run_firstCells_none (P := Try.prog) (w := w') _ _ _ _⟩
      · cases h1
        refine ⟨cur.toList, by simp; omega, by rw [← h7]; simp, fun w' e => ?_⟩
        refine run_firstCells_some (P := Try.prog) (w := w') _ _ _ _ _ cur.toList (by rw [hz1]; simp; omega) (fun j u hj => ?_)
        have hb : w'.heap[g]? = some (.cells cur 112 (0, 0)) := by rw [e]; exact h3
        unfold Addr.add
        simp at hj
        by_cases h0 : j = 0
        · subst h0; simp [World.cell?, hb]; simpa using hj
        · simp [h0, World.cell?, hb]; simpa using hj
    obtain ⟨olds, hol, hot, hof⟩ := hfull
    have hrun := Lib.run_append_grow_zeros (P := Try.prog) w 88 3 88 112 i0 (.int .i32 0) .i64 .i64 Try.underlying88 Try.underlying3 hi hz0 a c c olds (hof _ rfl) q hq0 (by omega) (by omega) (by omega) (by rw [hz2]; omega) (by
      rw [hz2]; exact growslice_fits (by omega) (by omega))
    obtain ⟨cap, hcap⟩ : ∃ cap, grownCap w (c + q) c 112 = cap := ⟨_, rfl⟩
    have hge := grownCap_ge w (c + q) c 112
    have hle := grownCap_le_maxLen w (c + q) c 112 (by unfold maxLen; omega)
    rw [hcap] at hrun hge hle
    have HR : Hid ((w.drew.alloc (.cells (olds.toArray ++ Builtin.zeroCells (Value.int .i32 0).cells q ++ Builtin.zeroCells (Value.int .i32 0).cells (cap - (c + q))) 112)).ownsRow 0 112 1 (.slice (some ⟨w.heap.size, 0, none⟩) n cap) n (uvals us)) := by
      refine ⟨ho.1, Or.inr ⟨w.heap.size, cap, _, rfl, Nat.zero_le _, heap_alloc_new w.drew _, by omega, hle, ?_, ?_⟩⟩
      · simp only [Array.size_append, List.size_toArray, zero_cells, hol]; omega
      · simp only [Array.toList_append, List.append_assoc, Nat.mul_one]
        rw [List.take_append_of_le_length (by omega)]
        exact hot
    have HB : Hid (Below w.heap.size w (w.drew.alloc (.cells (olds.toArray ++ Builtin.zeroCells (Value.int .i32 0).cells q ++ Builtin.zeroCells (Value.int .i32 0).cells (cap - (c + q))) 112))) := ((Below.refl _ w).drew).alloc (Nat.le_refl _) _
    generalize w.drew.alloc (.cells (olds.toArray ++ Builtin.zeroCells (Value.int .i32 0).cells q ++ Builtin.zeroCells (Value.int .i32 0).cells (cap - (c + q))) 112) = w9 at *
    have hncap : (n : Int) ≤ (cap : Int) := by omega
    have hr : (c : Int) - (n : Int) < (m : Int) := by omega
    have hcq1 : (n : Int) ≤ ((c + q : Nat) : Int) := by omega
    have hc2 : (c : Int) ≤ 1099511627776 := by omega
    have HRun : Hid (∀ z : Int, z = (m : Int) - ((c : Int) - (n : Int)) → Sem.run Try.prog (Builtin.append_ #[88, 3] 88 #[Value.slice a c c, Value.int IntKind.i64 z]) w = Result.ok (Value.slice (some { block := w.heap.size, off := 0 }) (c + q) cap) w9) := fun z hz => by
      have : z = (q : Int) := by omega
      rw [this]; exact hrun
    clear hof hot hol ho hge hle hcap hz0 hz1 hz2 hi hrun hq hroom hcq hq0
    generalize c + q = cq at *
    go_enter Try.func73, Try.ntmps73
    go_wp2_with (at_builtin; refine wpList_app_run rfl (.tmp 20) (.tmp 21) 88 3 rfl (.slice a c c) _ _ _ rfl rfl (HRun.out _ (by first | rfl | (simp <;> omega) | omega)) ?_)
    go_wp2
    go_ret
    exact ⟨_, cap, rfl, HR.out, HB.out, Or.inr ⟨_, rfl, Nat.le_refl _⟩⟩

end Go.Proofs.Ytlpafgjgoheomaa
