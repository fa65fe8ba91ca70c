import Derived.Test.YthgggjdefhgfiaaNLaw
namespace Go.Proofs.Ythgggjdefhgfiaa
open Go.RowKit Go.Maps

theorem Try.infoU8 : (Try.prog.info? 5).map (fun i => (i.zero, i.size, i.bytes)) = some (some (.int .u8 0), 1, 1) := by kernel_rfl
theorem vals_len (xs : List Nat) : (vals xs).length = xs.length := by simp [vals]
theorem vals_take (xs : List Nat) (n : Nat) : vals (xs.take n) = (vals xs).take n := by simp [vals, List.map_take]
theorem vals_app (xs ys : List Nat) : vals (xs ++ ys) = vals xs ++ vals ys := by simp [vals]
theorem vals_one (xs : List Nat) : ∀ u ∈ vals xs, u.oneCell' = true := fun u hu => by
  simp only [vals, List.mem_map] at hu
  obtain ⟨x, _, rfl⟩ := hu
  rfl
theorem owns_form {w : World} {B : Nat} {e : TypeId} {v : Value} {s n : Nat} {xs : List Value} (h : w.ownsRow B e s v n xs) : ∃ a c, v = .slice a n c ∧ n ≤ c ∧ c ≤ maxLen := by
  rcases h.2 with ⟨h1, h2⟩ | ⟨g, cap, cur, h1, _, _, h3, h4, _⟩
  · exact ⟨none, 0, by rw [h1, h2], by omega, by unfold maxLen; omega⟩
  · exact ⟨_, cap, h1, h3, h4⟩
def Lies (w : World) (v v' : Value) : Prop := v'.ownBlock = v.ownBlock ∨ ∃ g, v'.ownBlock = some g ∧ w.heap.size ≤ g
theorem owns_bytes {w : World} {B : Nat} {a : Option Addr} {n c : Nat} {xs : List Nat} (h : w.ownsRow B 5 1 (.slice a n c) n (vals xs)) (hs : ∀ x ∈ xs, x < 256) : Bytes w a xs := by
  refine ⟨hs, ?_⟩
  rcases h.2 with ⟨h2, h3⟩ | ⟨g, cap, cur, h2, h3, h4, h5, h6, h7, h8⟩
  · left
    have := h.1
    rw [vals_len] at this
    exact List.eq_nil_of_length_eq_zero (by omega)
  · cases h2
    refine Or.inr ⟨g, 0, rfl, lt_of_block h4, fun j hj => ?_⟩
    simp only [World.cell?, h4, Nat.zero_add]
    have hl := h.1
    rw [vals_len] at hl
    have : (vals xs)[j]? = some (.int .u8 (xs.getD j 0)) := by simp [vals, List.getD, hj]
    rw [← h8, List.getElem?_take, if_pos (by omega)] at this
    simpa using this

theorem wpList_app_run {w : World} {ops : Array Oper} {rest : List Oper} {o : Oper} {a : Act} {Q : Exit → Act → World → Prop} (hgd : o.guard = none) (s x : Operand) (t tn : TypeId)
    (ho : o.op = .call { callee := .builtin .append, args := #[s, x], argTypes := #[t, tn] }) (v1 v2 v' : Value) (w' : World) (hs : a.eval s = v1) (hx : a.eval x = v2)
    (hr : (Builtin.append_ #[t, tn] o.type #[v1, v2]).run Try.prog w = .ok v' w') (h : wpList Try.prog ops Q rest (a.put o.dst v') w') : wpList Try.prog ops Q (o :: rest) a w := by
  refine wpList_plain hgd fun K hK => ?_
  unfold Oper.wp execOp
  simp only [ho, resolve, invoke, builtin, Sem.run_bind, Sem.run_pure, Result.andThen_ok, List.map_toArray, List.map_cons, List.map_nil, hs, hx, hr]
  exact hK _ _ h


theorem bytes_cells {w : World} {g o : Nat} {xs : List Nat} (hx : Bytes w (some ⟨g, o, none⟩) xs) : ∀ j u, (vals xs)[j]? = some u → w.cell? ((⟨g, o, none⟩ : Addr).add j) = some u := by
  intro j u hj
  simp only [vals, List.getElem?_map, Option.map_eq_some_iff] at hj
  obtain ⟨x, hx', rfl⟩ := hj
  have hlt : j < xs.length := (List.getElem?_eq_some_iff.1 hx').1
  rcases hx.lie with h0 | ⟨g', o', e, hg, hc⟩
  · subst h0; simp at hlt
  · cases e
    have := hc j hlt
    simp only [List.getD, hx', Option.getD_some] at this
    unfold Addr.add
    by_cases h0 : j = 0
    · subst h0; simpa using this
    · simpa [h0] using this

/-- 'append(l, b...)', l a row of the call's own or nil, b any bytes, none too. -/
theorem run_app_bytes {w : World} {v : Value} {n : Nat} {ys : List Value} (hown : w.ownsRow 0 5 1 v n ys) {sp : Option Addr} {m c : Nat} {xs : List Nat} (hm : xs.length = m) (hb : Bytes w sp xs) (h63 : n + m ≤ 140737488355328) (ty : TypeId) :
    ∃ a' c' w', (Builtin.append_ #[59, 59] ty #[v, .slice sp m c]).run Try.prog w = .ok (.slice a' (n + m) c') w' ∧ w'.ownsRow 0 5 1 (.slice a' (n + m) c') (n + m) (ys ++ vals xs) ∧ w.grownBy w' v.ownBlock ∧ Lies w v (.slice a' (n + m) c') := by
  obtain ⟨i0, hi, hz0, hz1, hz2⟩ := info_parts Try.infoU8
  have go : ∀ (g o : Nat), Bytes w (some ⟨g, o, none⟩) xs → ∃ a' c' w', (Builtin.append_ #[59, 59] ty #[v, .slice (some ⟨g, o, none⟩) m c]).run Try.prog w = .ok (.slice a' (n + m) c') w' ∧ w'.ownsRow 0 5 1 (.slice a' (n + m) c') (n + m) (ys ++ vals xs) ∧ w.grownBy w' v.ownBlock ∧ Lies w v (.slice a' (n + m) c') := fun g o hb => by
    obtain ⟨v', w', hr, h2, h3, _, h5⟩ := run_append_own_at (P := Try.prog) w 0 59 ty 5 i0 (.int .u8 0) 1 1 Try.underlying59 hi hz0 hz1 hz2 rfl (by omega) v n ys hown ⟨g, o, none⟩ m c (vals xs) (by rw [vals_len, hm, Nat.mul_one]) (bytes_cells hb) (vals_one xs) (by unfold maxLen; omega) (by omega) (Nat.zero_le _)
    obtain ⟨a', c', rfl, _, _⟩ := owns_form h2
    exact ⟨a', c', w', hr, h2, h3, h5.imp id (fun e => ⟨_, e, Nat.le_refl _⟩)⟩
  rcases hb.lie with h0 | ⟨g, o, rfl, hg, hc⟩
  · cases sp with
    | none =>
      subst h0
      simp at hm
      subst hm
      obtain ⟨a, c', rfl, hle, _⟩ := owns_form hown
      refine ⟨a, c', w, ?_, by simpa [vals] using hown, ⟨rfl, rfl, rfl, Nat.le_refl _, fun _ _ _ => rfl⟩, Or.inl rfl⟩
      simp [Builtin.append_, run_underlying Try.underlying59, sizeOf, typeInfo, hi, Builtin.lenOf, Builtin.firstCells, hle]
      cases a <;> simp [storeCells]
    | some ad =>
      obtain ⟨v', w', hr, h2, h3, _, h5⟩ := run_append_own_at (P := Try.prog) w 0 59 ty 5 i0 (.int .u8 0) 1 1 Try.underlying59 hi hz0 hz1 hz2 rfl (by omega) v n ys hown ad m c (vals xs) (by rw [vals_len, hm, Nat.mul_one]) (by rw [h0]; intro j u hj; simp [vals] at hj) (vals_one xs) (by unfold maxLen; omega) (by omega) (Nat.zero_le _)
      obtain ⟨a', c', rfl, _, _⟩ := owns_form h2
      exact ⟨a', c', w', hr, h2, h3, h5.imp id (fun e => ⟨_, e, Nat.le_refl _⟩)⟩
  · exact go g o ⟨hb.small, Or.inr ⟨g, o, rfl, hg, hc⟩⟩

theorem wp_app_run {w : World} {o : Oper} {a : Act} {K : Act → World → Prop} {Q : Exit → Act → World → Prop} (s x : Operand) (t tn : TypeId)
    (ho : o.op = .call { callee := .builtin .append, args := #[s, x], argTypes := #[t, tn] }) (v1 v2 v' : Value) (w' : World) (hs : a.eval s = v1) (hx : a.eval x = v2)
    (hr : (Builtin.append_ #[t, tn] o.type #[v1, v2]).run Try.prog w = .ok v' w') (h : K (a.put o.dst v') w') : o.wp Try.prog a w K Q := by
  unfold Oper.wp execOp
  simp only [ho, resolve, invoke, builtin, Sem.run_bind, Sem.run_pure, Result.andThen_ok, List.map_toArray, List.map_cons, List.map_nil, hs, hx, hr]
  exact h
theorem ite_wanted {c : Bool} {A B : Prop} (h : c = true) (a : A) : if c = true then A else B := by rw [if_pos h]; exact a
theorem step_app_run {w : World} {ops : Array Oper} {o : Oper} {a : Act} {K : Act → World → Prop} {Q : Exit → Act → World → Prop} {E : Prop} (hw : Region.wanted o (yielded ops a.tmps) = true) (s x : Operand) (t tn : TypeId)
    (ho : o.op = .call { callee := .builtin .append, args := #[s, x], argTypes := #[t, tn] }) (v1 v2 v' : Value) (w' : World) (hs : a.eval s = v1) (hx : a.eval x = v2)
    (hr : (Builtin.append_ #[t, tn] o.type #[v1, v2]).run Try.prog w = .ok v' w') (h : K (a.put o.dst v') w') : if Region.wanted o (yielded ops a.tmps) = true then Oper.wp Try.prog o a w K Q else E := by
  rw [if_pos hw]
  exact wp_app_run s x t tn ho v1 v2 v' w' hs hx hr h

set_option maxRecDepth 100000 in
set_option maxHeartbeats 400000 in
theorem copy_any (w : World) (sp : Option Addr) (m cap : Nat) (xs : List Nat) (hm : xs.length = m) (hx : Bytes w sp xs) (hlen : m ≤ 140737488355328) :
    Calls Try.prog 43 #[.slice sp m cap] w fun e w' => ∃ a c, e = .returned (.slice a m c) ∧ w'.ownsRow w.heap.size 5 1 (.slice a m c) m (vals xs) ∧ Below w.heap.size w w' := by
  obtain ⟨a', c', w1, hr, ho, hg, hl⟩ := run_app_bytes (w := w) (v := .slice none 0 0) (n := 0) (ys := []) ⟨rfl, Or.inl ⟨rfl, rfl⟩⟩ (c := cap) hm hx (by omega) 59
  simp only [Nat.zero_add, List.nil_append] at hr ho hl
  have HO : Hid (w1.ownsRow w.heap.size 5 1 (.slice a' m c') m (vals xs)) := by
    refine ⟨ho.1, ho.2.imp id ?_⟩
    rintro ⟨g, cap, cur, h1, _, r⟩
    refine ⟨g, cap, cur, h1, ?_, r⟩
    cases h1
    rcases hl with e | ⟨g2, e, e2⟩
    · simp [Value.ownBlock] at e
    · simp [Value.ownBlock] at e; omega
  have HB : Hid (Below w.heap.size w w1) := (Below.refl _ _).grown hg (Nat.le_refl _) (fun k e => by simp [Value.ownBlock] at e)
  clear ho hg hl hx
  go_enter Try.func43, Try.ntmps43
  go_wp2_with (at_builtin; refine wpList_app_run rfl (.tmp 4) (.tmp 5) 59 59 rfl (.slice none 0 0) (.slice sp m cap) _ _ rfl rfl hr ?_)
  go_wp2
  go_ret
  exact ⟨a', c', rfl, HO.out, HB.out⟩


end Go.Proofs.Ythgggjdefhgfiaa
