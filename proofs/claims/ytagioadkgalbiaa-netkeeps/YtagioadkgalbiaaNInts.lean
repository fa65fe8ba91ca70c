import Derived.Test.YtagioadkgalbiaaNLaw
namespace Go.Proofs.Ytagioadkgalbiaa
open Go.RowKit Go.Maps

theorem Try.infoInt : (Try.prog.info? 3).map (fun i => (i.zero, i.size, i.bytes)) = some (some (.int .i64 0), 1, 8) := by kernel_rfl
def ints (xs : List Nat) : List Value := xs.map fun (x : Nat) => Value.int .i64 (x : Int)
theorem ints_len (xs : List Nat) : (ints xs).length = xs.length := by simp [ints]
theorem ints_app (xs ys : List Nat) : ints (xs ++ ys) = ints xs ++ ints ys := by simp [ints]
theorem ints_one (xs : List Nat) : ∀ u ∈ ints xs, u.oneCell' = true := fun u hu => by
  simp only [ints, List.mem_map] at hu
  obtain ⟨x, _, rfl⟩ := hu
  rfl
/-- Numbers that are read. -/
structure Ints (w : World) (sp : Option Addr) (xs : List Nat) : Prop where
  lie : xs = [] ∨ ∃ g o, sp = some ⟨g, o, none⟩ ∧ g < w.heap.size ∧ ∀ j u, (ints xs)[j]? = some u → w.cell? ⟨g, o + j, none⟩ = some u
theorem Ints.below {w w' : World} {sp : Option Addr} {xs : List Nat} (h : Ints w sp xs) (hb : Below w.heap.size w w') : Ints w' sp xs := by
  refine ⟨h.lie.imp id ?_⟩
  rintro ⟨g, o, e, hg, hc⟩
  exact ⟨g, o, e, Nat.lt_of_lt_of_le hg hb.size, fun j u hj => by rw [hb.cell (p := ⟨g, o + j, none⟩) hg]; exact hc j u hj⟩
theorem run_app_ints {w : World} {B : Nat} {v : Value} {n : Nat} {ys : List Value} (hown : w.ownsRow B 3 1 v n ys) {sp : Option Addr} {m c : Nat} {xs : List Nat} (hm : xs.length = m) (hb : Ints w sp xs) (h63 : n + m ≤ 1099511627776) (ty : TypeId) (hB : B ≤ w.heap.size) :
    ∃ a' c' w', (Builtin.append_ #[32, 32] ty #[v, .slice sp m c]).run Try.prog w = .ok (.slice a' (n + m) c') w' ∧ w'.ownsRow B 3 1 (.slice a' (n + m) c') (n + m) (ys ++ ints xs) ∧ w.grownBy w' v.ownBlock := by
  obtain ⟨i0, hi, hz0, hz1, hz2⟩ := info_parts Try.infoInt
  have owns_form : ∀ {w : World} {v : Value} {n : Nat} {xs : List Value}, w.ownsRow B 3 1 v n xs → ∃ a c, v = .slice a n c ∧ n ≤ c := fun h => by
    rcases h.2 with ⟨h1, h2⟩ | ⟨g, cap, cur, h1, _, _, h3, h4, _⟩
    · exact ⟨none, 0, by rw [h1, h2], by omega⟩
    · exact ⟨_, cap, h1, h3⟩
  have go : ∀ ad : Addr, (∀ j u, (ints xs)[j]? = some u → w.cell? (ad.add j) = some u) → ∃ a' c' w', (Builtin.append_ #[32, 32] ty #[v, .slice (some ad) m c]).run Try.prog w = .ok (.slice a' (n + m) c') w' ∧ w'.ownsRow B 3 1 (.slice a' (n + m) c') (n + m) (ys ++ ints xs) ∧ w.grownBy w' v.ownBlock := fun ad hc => by
    obtain ⟨v', w', hr, h2, h3, _, h5⟩ := run_append_own_at (P := Try.prog) w B 32 ty 3 i0 (.int .i64 0) 1 8 Try.underlying32 hi hz0 hz1 hz2 rfl (by omega) v n ys hown ad m c (ints xs) (by rw [ints_len, hm, Nat.mul_one]) hc (ints_one xs) (by unfold maxLen; omega) (by omega) hB
    obtain ⟨a', c', rfl, _⟩ := owns_form h2
    exact ⟨a', c', w', hr, h2, h3⟩
  rcases hb.lie with h0 | ⟨g, o, rfl, hg, hc⟩
  · cases sp with
    | none =>
      subst h0
      simp at hm
      subst hm
      obtain ⟨a, c', rfl, hle⟩ := owns_form hown
      refine ⟨a, c', w, ?_, by simpa [ints] using hown, ⟨rfl, rfl, rfl, Nat.le_refl _, fun _ _ _ => rfl⟩⟩
      simp [Builtin.append_, run_underlying Try.underlying32, sizeOf, typeInfo, hi, Builtin.lenOf, Builtin.firstCells, hle]
      cases a <;> simp [storeCells]
    | some ad => exact go ad (by rw [h0]; intro j u hj; simp [ints] at hj)
  · exact go _ (fun j u hj => by
      have := hc j u hj
      unfold Addr.add
      by_cases h0 : j = 0
      · subst h0; simpa using this
      · simpa [h0] using this)
theorem wp_app_run {w : World} {o : Oper} {a : Act} {K : Act → World → Prop} {Q : Exit → Act → World → Prop} (s x : Operand) (t tn : TypeId)
    (ho : o.op = .call { callee := .builtin .append, args := #[s, x], argTypes := #[t, tn] }) (v1 v2 v' : Value) (w' : World) (hs : a.eval s = v1) (hx : a.eval x = v2)
    (hr : (Builtin.append_ #[t, tn] o.type #[v1, v2]).run Try.prog w = .ok v' w') (h : K (a.put o.dst v') w') : o.wp Try.prog a w K Q := by
  unfold Oper.wp execOp
  simp only [ho, resolve, invoke, builtin, Sem.run_bind, Sem.run_pure, Result.andThen_ok, List.map_toArray, List.map_cons, List.map_nil, hs, hx, hr]
  exact h
theorem ite_wanted {c : Bool} {A B : Prop} (h : c = true) (a : A) : if c = true then A else B := by rw [if_pos h]; exact a
theorem step_app_run {w : World} {ops : Array Oper} {o : Oper} {a : Act} {K : Act → World → Prop} {Q : Exit → Act → World → Prop} {E : Prop} (hw : Region.wanted o (yielded ops a.tmps) = true) (s x : Operand) (t tn : TypeId)
    (ho : o.op = .call { callee := .builtin .append, args := #[s, x], argTypes := #[t, tn] }) (v1 v2 v' : Value) (w' : World) (hs : a.eval s = v1) (hx : a.eval x = v2)
    (hr : (Builtin.append_ #[t, tn] o.type #[v1, v2]).run Try.prog w = .ok v' w') (h : K (a.put o.dst v') w') : if Region.wanted o (yielded ops a.tmps) = true then Oper.wp Try.prog o a w K Q else E := by
  rw [if_pos hw]
  exact wp_app_run s x t tn ho v1 v2 v' w' hs hx hr h
/-- What lies of a row of numbers. -/
theorem irow_cells {w : World} {B : Nat} {a : Option Addr} {n c : Nat} {l : List Nat} (h : w.ownsRow B 3 1 (.slice a n c) n (ints l)) {k x : Nat} (hm : l[k]? = some x) : ∃ g, a = some ⟨g, 0, none⟩ ∧ n ≤ c ∧ k < n ∧ c ≤ maxLen ∧ w.cell? ⟨g, k, none⟩ = some (.int .i64 (x : Int)) ∧ g < w.heap.size ∧ ∀ j u, (ints l)[j]? = some u → w.cell? ⟨g, j, none⟩ = some u := by
  have hk : k < l.length := (List.getElem?_eq_some_iff.1 hm).1
  have hl := h.1
  rw [ints_len] at hl
  rcases h.2 with ⟨h1, h2⟩ | ⟨g, cap, cur, h1, _, hg, h3, h4, h5, h6⟩
  · omega
  · cases h1
    have key : ∀ j u, (ints l)[j]? = some u → w.cell? ⟨g, j, none⟩ = some u := fun j u e => by
      have hj : j < (ints l).length := (List.getElem?_eq_some_iff.1 e).1
      rw [ints_len] at hj
      rw [← h6, List.getElem?_take, if_pos (by omega), Array.getElem?_toList] at e
      simp only [World.cell?, hg]; exact e
    exact ⟨g, rfl, h3, by omega, h4, key k _ (by simp [ints, hm]), lt_of_block hg, key⟩
/-- 'append(append([]int{}, row[:k]...), row[k+1:]...)'. -/
theorem cut_row {w : World} {B g n c k : Nat} {l : List Nat} (h : w.ownsRow B 3 1 (.slice (some ⟨g, 0, none⟩) n c) n (ints l)) (hn : n ≤ 1000) (hk : k < n) (A : Option Addr) (hA : A = if c = k + 1 then some (⟨g, 0, none⟩ : Addr) else some ⟨g, k + 1, none⟩) (ty : TypeId) :
    ∃ a1 c1 w2 a2 c2 w3, (Builtin.append_ #[32, 32] ty #[.slice (some ⟨w.heap.size, 0, none⟩) 0 0, .slice (some ⟨g, 0, none⟩) k c]).run Try.prog (w.alloc (.cells #[] 3)) = .ok (.slice a1 k c1) w2 ∧
      (Builtin.append_ #[32, 32] ty #[.slice a1 k c1, .slice A (n - (k + 1)) (c - (k + 1))]).run Try.prog w2 = .ok (.slice a2 (n - 1) c2) w3 ∧ w3.ownsRow w.heap.size 3 1 (.slice a2 (n - 1) c2) (n - 1) (ints (l.take k ++ l.drop (k + 1))) ∧ Below w.heap.size w w3 := by
  have hl := h.1
  rw [ints_len, Nat.mul_one] at hl
  obtain ⟨g', e, _, _, _, _, hgl, key⟩ := irow_cells h (List.getElem?_eq_getElem (show k < l.length by omega))
  cases e
  have hb1 : Below w.heap.size w (w.alloc (.cells #[] 3)) := (Below.refl _ _).alloc (Nat.le_refl _) _
  have i1 : Ints w (some ⟨g, 0, none⟩) (l.take k) := ⟨Or.inr ⟨g, 0, rfl, hgl, fun j u hj => by
    rw [Nat.zero_add]
    refine key j u ?_
    rw [show ints (l.take k) = (ints l).take k by simp [ints, List.map_take], List.getElem?_take] at hj
    split at hj
    · exact hj
    · cases hj⟩⟩
  have i2 : Ints w A (l.drop (k + 1)) := by
    by_cases hc : c = k + 1
    · refine ⟨Or.inl (List.drop_eq_nil_of_le ?_)⟩
      rcases h.2 with ⟨h1, _⟩ | ⟨_, cap, _, h1, _, _, h3, _⟩
      · cases h1
      · cases h1; omega
    · rw [if_neg hc] at hA
      refine ⟨Or.inr ⟨g, k + 1, hA, hgl, fun j u hj => key _ u ?_⟩⟩
      rw [show ints (l.drop (k + 1)) = (ints l).drop (k + 1) by simp [ints, List.map_drop], List.getElem?_drop] at hj
      exact hj
  have ho : (w.alloc (.cells #[] 3)).ownsRow w.heap.size 3 1 (.slice (some ⟨w.heap.size, 0, none⟩) 0 0) 0 [] := ⟨rfl, Or.inr ⟨w.heap.size, 0, #[], rfl, Nat.le_refl _, heap_alloc_new _ _, Nat.le_refl _, by unfold maxLen; omega, rfl, rfl⟩⟩
  obtain ⟨a1, c1, w2, r1, o1, g1⟩ := run_app_ints ho (c := c) (m := k) (by rw [List.length_take]; omega) (i1.below hb1) (by omega) ty (by simp)
  rw [Nat.zero_add] at r1 o1
  rw [List.nil_append] at o1
  have hb2 : Below w.heap.size w w2 := hb1.grown g1 (by simp) (fun j e => by simp [Value.ownBlock] at e; omega)
  obtain ⟨a2, c2, w3, r2, o2, g2⟩ := run_app_ints o1 (c := c - (k + 1)) (m := n - (k + 1)) (by rw [List.length_drop]; omega) (i2.below hb2) (by omega) ty hb2.size
  rw [show k + (n - (k + 1)) = n - 1 by omega] at r2 o2
  refine ⟨a1, c1, w2, a2, c2, w3, r1, r2, by rw [ints_app]; exact o2, hb2.grown g2 hb2.size (fun j e => ?_)⟩
  rcases o1.2 with ⟨e1, _⟩ | ⟨g3, _, _, e1, e2, _⟩
  · rw [e1] at e; simp [Value.ownBlock] at e
  · rw [e1] at e; simp [Value.ownBlock] at e; omega

end Go.Proofs.Ytagioadkgalbiaa
