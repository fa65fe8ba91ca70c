import Derived.Lib.ConvBytes
import Derived.Laws.BytesArg
import Derived.Lib.JoinLaws
import Derived.Test.YtjcdnclfakmbpaaGreatDoorKin
namespace Go.Proofs.YtjcdnclfakmbpaaGreatDoor.U
open Go.RowKit Go.Maps
theorem block_set {w : World} {g i : Nat} {cs : Array Value} {t : TypeId} {fr : Nat × Nat} (h : w.heap[g]? = some (.cells cs t fr)) (v : Value) : (w.setCell ⟨g, i, none⟩ v).heap[g]? = some (.cells (cs.setIfInBounds i v) t fr) := by
  rw [setCell_eq_setRow w g i cs t fr v h]
  exact setRow_heap w g _ _ t _ h
theorem Tryz.infoU8 : (Tryz.prog.info? 5).map (fun i => (i.zero, i.size, i.bytes)) = some (some (.int .u8 0), 1, 1) := by kernel_rfl
theorem vals_len (xs : List Nat) : (vals xs).length = xs.length := by simp [vals]
theorem vals_app (xs ys : List Nat) : vals (xs ++ ys) = vals xs ++ vals ys := by simp [vals]
theorem vals_one (xs : List Nat) : ∀ u ∈ vals xs, u.oneCell' = true := fun u hu => by
  simp only [vals, List.mem_map] at hu
  obtain ⟨x, _, rfl⟩ := hu
  rfl
theorem owns_form {w : World} {B : Nat} {e : TypeId} {v : Value} {s n : Nat} {xs : List Value} (h : w.ownsRow B e s v n xs) : ∃ a c, v = .slice a n c ∧ n ≤ c ∧ c ≤ maxLen := by
  rcases h.2 with ⟨h1, h2⟩ | ⟨g, cap, cur, h1, _, _, h3, h4, _⟩
  · exact ⟨none, 0, by rw [h1, h2], by omega, by unfold maxLen; omega⟩
  · exact ⟨_, cap, h1, h3, h4⟩
def Lies (w : World) (v v' : Value) : Prop := v'.ownBlock = v.ownBlock ∨ ∃ g, v'.ownBlock = some g ∧ w.heap.size ≤ g
theorem owns_bytes {w : World} {B : Nat} {a : Option Addr} {n c : Nat} {xs : List Nat} (h : w.ownsRow B 5 1 (.slice a n c) n (vals xs)) (hs : ∀ x ∈ xs, x < 256) : Bytes w a xs := by
  refine ⟨hs, ?_⟩
  rcases h.2 with ⟨h2, h3⟩ | ⟨g, cap, cur, h2, h3, h4, h5, h6, h7, h8⟩
  · left
    have := h.1
    rw [vals_len] at this
    exact List.eq_nil_of_length_eq_zero (by omega)
  · cases h2
    refine Or.inr ⟨g, 0, rfl, lt_of_block h4, fun j hj => ?_⟩
    simp only [World.cell?, h4, Nat.zero_add]
    have hl := h.1
    rw [vals_len] at hl
    have : (vals xs)[j]? = some (.int .u8 (xs.getD j 0)) := by simp [vals, List.getD, hj]
    rw [← h8, List.getElem?_take, if_pos (by omega)] at this
    simpa using this
theorem wpList_app_run {w : World} {ops : Array Oper} {rest : List Oper} {o : Oper} {a : Act} {Q : Exit → Act → World → Prop} (hgd : o.guard = none) (s x : Operand) (t tn : TypeId)
    (ho : o.op = .call { callee := .builtin .append, args := #[s, x], argTypes := #[t, tn] }) (v1 v2 v' : Value) (w' : World) (hs : a.eval s = v1) (hx : a.eval x = v2)
    (hr : (Builtin.append_ #[t, tn] o.type #[v1, v2]).run Tryz.prog w = .ok v' w') (h : wpList Tryz.prog ops Q rest (a.put o.dst v') w') : wpList Tryz.prog ops Q (o :: rest) a w := by
  refine wpList_plain hgd fun K hK => ?_
  unfold Oper.wp execOp
  simp only [ho, resolve, invoke, builtin, Sem.run_bind, Sem.run_pure, Result.andThen_ok, List.map_toArray, List.map_cons, List.map_nil, hs, hx, hr]
  exact hK _ _ h
theorem bytes_cells {w : World} {g o : Nat} {xs : List Nat} (hx : Bytes w (some ⟨g, o, none⟩) xs) : ∀ j u, (vals xs)[j]? = some u → w.cell? ((⟨g, o, none⟩ : Addr).add j) = some u := by
  intro j u hj
  simp only [vals, List.getElem?_map, Option.map_eq_some_iff] at hj
  obtain ⟨x, hx', rfl⟩ := hj
  have hlt : j < xs.length := (List.getElem?_eq_some_iff.1 hx').1
  rcases hx.lie with h0 | ⟨g', o', e, hg, hc⟩
  · subst h0; simp at hlt
  · cases e
    have := hc j hlt
    simp only [List.getD, hx', Option.getD_some] at this
    unfold Addr.add
    by_cases h0 : j = 0
    · subst h0; simpa using this
    · simpa [h0] using this
theorem run_app_bytes {w : World} {v : Value} {n : Nat} {ys : List Value} (hown : w.ownsRow 0 5 1 v n ys) {sp : Option Addr} {m c : Nat} {xs : List Nat} (hm : xs.length = m) (hb : Bytes w sp xs) (h63 : n + m ≤ 140737488355328) (ty : TypeId) :
    ∃ a' c' w', (Builtin.append_ #[31, 31] ty #[v, .slice sp m c]).run Tryz.prog w = .ok (.slice a' (n + m) c') w' ∧ w'.ownsRow 0 5 1 (.slice a' (n + m) c') (n + m) (ys ++ vals xs) ∧ w.grownBy w' v.ownBlock ∧ Lies w v (.slice a' (n + m) c') := by
  obtain ⟨i0, hi, hz0, hz1, hz2⟩ := info_parts Tryz.infoU8
  have go : ∀ (g o : Nat), Bytes w (some ⟨g, o, none⟩) xs → ∃ a' c' w', (Builtin.append_ #[31, 31] ty #[v, .slice (some ⟨g, o, none⟩) m c]).run Tryz.prog w = .ok (.slice a' (n + m) c') w' ∧ w'.ownsRow 0 5 1 (.slice a' (n + m) c') (n + m) (ys ++ vals xs) ∧ w.grownBy w' v.ownBlock ∧ Lies w v (.slice a' (n + m) c') := fun g o hb => by
    obtain ⟨v', w', hr, h2, h3, _, h5⟩ := run_append_own_at (P := Tryz.prog) w 0 31 ty 5 i0 (.int .u8 0) 1 1 Tryz.underlying31 hi hz0 hz1 hz2 rfl (by omega) v n ys hown ⟨g, o, none⟩ m c (vals xs) (by rw [vals_len, hm, Nat.mul_one]) (bytes_cells hb) (vals_one xs) (by unfold maxLen; omega) (by omega) (Nat.zero_le _)
    obtain ⟨a', c', rfl, _, _⟩ := owns_form h2
    exact ⟨a', c', w', hr, h2, h3, h5.imp id (fun e => ⟨_, e, Nat.le_refl _⟩)⟩
  rcases hb.lie with h0 | ⟨g, o, rfl, hg, hc⟩
  · cases sp with
    | none =>
      subst h0
      simp at hm
      subst hm
      obtain ⟨a, c', rfl, hle, _⟩ := owns_form hown
      refine ⟨a, c', w, ?_, by simpa [vals] using hown, ⟨rfl, rfl, rfl, Nat.le_refl _, fun _ _ _ => rfl⟩, Or.inl rfl⟩
      simp [Builtin.append_, run_underlying Tryz.underlying31, sizeOf, typeInfo, hi, Builtin.lenOf, Builtin.firstCells, hle]
      cases a <;> simp [storeCells]
    | some ad =>
      obtain ⟨v', w', hr, h2, h3, _, h5⟩ := run_append_own_at (P := Tryz.prog) w 0 31 ty 5 i0 (.int .u8 0) 1 1 Tryz.underlying31 hi hz0 hz1 hz2 rfl (by omega) v n ys hown ad m c (vals xs) (by rw [vals_len, hm, Nat.mul_one]) (by rw [h0]; intro j u hj; simp [vals] at hj) (vals_one xs) (by unfold maxLen; omega) (by omega) (Nat.zero_le _)
      obtain ⟨a', c', rfl, _, _⟩ := owns_form h2
      exact ⟨a', c', w', hr, h2, h3, h5.imp id (fun e => ⟨_, e, Nat.le_refl _⟩)⟩
  · exact go g o ⟨hb.small, Or.inr ⟨g, o, rfl, hg, hc⟩⟩
theorem wp_app_run {w : World} {o : Oper} {a : Act} {K : Act → World → Prop} {Q : Exit → Act → World → Prop} (s x : Operand) (t tn : TypeId)
    (ho : o.op = .call { callee := .builtin .append, args := #[s, x], argTypes := #[t, tn] }) (v1 v2 v' : Value) (w' : World) (hs : a.eval s = v1) (hx : a.eval x = v2)
    (hr : (Builtin.append_ #[t, tn] o.type #[v1, v2]).run Tryz.prog w = .ok v' w') (h : K (a.put o.dst v') w') : o.wp Tryz.prog a w K Q := by
  unfold Oper.wp execOp
  simp only [ho, resolve, invoke, builtin, Sem.run_bind, Sem.run_pure, Result.andThen_ok, List.map_toArray, List.map_cons, List.map_nil, hs, hx, hr]
  exact h
theorem step_app_run {w : World} {ops : Array Oper} {o : Oper} {a : Act} {K : Act → World → Prop} {Q : Exit → Act → World → Prop} {E : Prop} (hw : Region.wanted o (yielded ops a.tmps) = true) (s x : Operand) (t tn : TypeId)
    (ho : o.op = .call { callee := .builtin .append, args := #[s, x], argTypes := #[t, tn] }) (v1 v2 v' : Value) (w' : World) (hs : a.eval s = v1) (hx : a.eval x = v2)
    (hr : (Builtin.append_ #[t, tn] o.type #[v1, v2]).run Tryz.prog w = .ok v' w') (h : K (a.put o.dst v') w') : if Region.wanted o (yielded ops a.tmps) = true then Oper.wp Tryz.prog o a w K Q else E := by
  rw [if_pos hw]
  exact wp_app_run s x t tn ho v1 v2 v' w' hs hx hr h
set_option maxRecDepth 100000 in
set_option maxHeartbeats 400000 in
theorem copy_any (w : World) (sp : Option Addr) (m cap : Nat) (xs : List Nat) (hm : xs.length = m) (hx : Bytes w sp xs) (hlen : m ≤ 140737488355328) :
    Calls Tryz.prog 57 #[.slice sp m cap] w fun e w' => ∃ a c, e = .returned (.slice a m c) ∧ w'.ownsRow w.heap.size 5 1 (.slice a m c) m (vals xs) ∧ Below w.heap.size w w' := by
  obtain ⟨a', c', w1, hr, ho, hg, hl⟩ := run_app_bytes (w := w) (v := .slice none 0 0) (n := 0) (ys := []) ⟨rfl, Or.inl ⟨rfl, rfl⟩⟩ (c := cap) hm hx (by omega) 31
  simp only [Nat.zero_add, List.nil_append] at hr ho hl
  have HO : Hid (w1.ownsRow w.heap.size 5 1 (.slice a' m c') m (vals xs)) := by
    refine ⟨ho.1, ho.2.imp id ?_⟩
    rintro ⟨g, cap, cur, h1, _, r⟩
    refine ⟨g, cap, cur, h1, ?_, r⟩
    cases h1
    rcases hl with e | ⟨g2, e, e2⟩
    · simp [Value.ownBlock] at e
    · simp [Value.ownBlock] at e; omega
  have HB : Hid (Below w.heap.size w w1) := (Below.refl _ _).grown hg (Nat.le_refl _) (fun k e => by simp [Value.ownBlock] at e)
  clear ho hg hl hx
  go_enter Tryz.func57, Tryz.ntmps57
  go_wp2_with (at_builtin; refine wpList_app_run rfl (.tmp 4) (.tmp 5) 31 31 rfl (.slice none 0 0) (.slice sp m cap) _ _ rfl rfl hr ?_)
  go_wp2
  go_ret
  exact ⟨a', c', rfl, HO.out, HB.out⟩
def str (xs : List Nat) : ByteArray := strOfNums (xs.map fun (x : Nat) => (x : Int))
theorem conv_str {w : World} {sp : Option Addr} {xs : List Nat} {m : Nat} (h : Bytes w sp xs) (hm : xs.length = m) (c : Nat) :
    (convert 31 9 (.slice sp m c)).run Tryz.prog w = .ok (.string (str xs)) w := by
  subst hm
  have hz : ∀ a : Option Addr, (convert 31 9 (.slice a 0 c)).run Tryz.prog w = .ok (.string (str [])) w := fun a => by
    rw [run_convert_bytes_string w 31 9 5 a 0 c Tryz.underlying31 Tryz.underlying5 Tryz.underlying9]
    cases a with
    | none => simp [Conv.bytesToString]; rfl
    | some a =>
      rw [run_bytesToString w a 0 c [] (by simpa using run_loadCells_list (P := Tryz.prog) w a [] (by simp))]
      rfl
  rcases h.lie with h0 | ⟨g, o, rfl, hg, hc⟩
  · subst h0; exact hz sp
  · refine run_convert_bytes_arg w 31 5 Tryz.underlying31 Tryz.underlying5 g o _ c _ (by simp) (fun i hi => ?_) 9 Tryz.underlying9
    rw [hc i hi]
    simp [List.getD, hi]
theorem take_snoc' {α : Type} (l : List α) (k : Nat) (x : α) (h : l[k]? = some x) : l.take (k + 1) = l.take k ++ [x] := by
  rw [List.take_add_one, h]; rfl
theorem bytes_take {w : World} {sp : Option Addr} {xs : List Nat} (h : Bytes w sp xs) (n : Nat) : Bytes w sp (xs.take n) := by
  refine ⟨fun x hx => h.small x (List.mem_of_mem_take hx), ?_⟩
  rcases h.lie with h0 | ⟨g, o, e, hg, hc⟩
  · left; rw [h0]; simp
  · refine Or.inr ⟨g, o, e, hg, fun j hj => ?_⟩
    rw [List.length_take] at hj
    rw [hc j (by omega)]
    simp only [List.getD, List.getElem?_take, if_pos (show j < n by omega)]
theorem run_append_zero {P : Program} (w : World) (t ty e : TypeId) (i : TypeInfo) (ht : P.underlying t = some (.slice e)) (hi : P.info? e = some i) (bp : Option Addr) (n cap : Nat) (hn : n ≤ cap) (sp : Option Addr) (c : Nat) :
    (Builtin.append_ #[t, t] ty #[.slice bp n cap, .slice sp 0 c]).run P w = .ok (.slice bp n cap) w := by
  have hl : ∀ (x : Addr), (loadCells x 0).run P w = .ok #[] w := fun x => by simpa using run_loadCells_list (P := P) w x [] (by simp)
  cases bp <;> cases sp <;> simp [Builtin.append_, run_underlying ht, sizeOf, typeInfo, hi, Builtin.lenOf, Builtin.firstCells, storeCells, hl, hn]
theorem wpList_append_zero {P : Program} {w : World} {ops : Array Oper} {rest : List Oper} {o : Oper} {a : Act} {Q : Exit → Act → World → Prop} (hgd : o.guard = none) (s x : Operand) (t : TypeId)
    (ho : o.op = .call { callee := .builtin .append, args := #[s, x], argTypes := #[t, t] }) (e : TypeId) (i : TypeInfo) (ht : P.underlying t = some (.slice e)) (hi : P.info? e = some i)
    (bp : Option Addr) (n cap : Nat) (hn : n ≤ cap) (hs : a.eval s = .slice bp n cap) (sp : Option Addr) (c : Nat) (hx : a.eval x = .slice sp 0 c)
    (h : wpList P ops Q rest (a.put o.dst (.slice bp n cap)) w) : wpList P ops Q (o :: rest) a w := by
  refine wpList_plain hgd fun K hK => ?_
  have hrun := run_append_zero (P := P) w t o.type e i ht hi bp n cap hn sp c
  unfold Oper.wp
  simp [execOp, ho, resolve, invoke, builtin, hs, hx, hrun, Result.andThen]
  exact hK _ _ h
theorem made_rep (z : Value) (n : Nat) : madeCells #[z] n = (List.replicate n z).toArray := by
  apply Array.ext
  · simp [madeCells]
  · intro i h1 h2
    simp [madeCells, Nat.mod_one]
theorem lie_row {w : World} {b : Nat} {C : Array Value} {xs : List Nat} {t : TypeId} {fr : Nat × Nat} (h : w.heap[b]? = some (.cells C t fr)) (hs : ∀ x ∈ xs, x < 256) (hc : ∀ j, j < xs.length → C[j]? = some (.int .u8 (xs.getD j 0 : Nat))) : Bytes w (some ⟨b, 0, none⟩) xs :=
  ⟨hs, Or.inr ⟨b, 0, rfl, (Array.getElem?_eq_some_iff.1 h).1, fun j hj => by simp only [World.cell?, h, Nat.zero_add]; exact hc j hj⟩⟩
structure Own (B : Nat) (w : World) (g cap : Nat) (xs : List Nat) : Prop where
  base : B ≤ g
  cap : xs.length ≤ cap
  small : ∀ x ∈ xs, x < 256
  row : ∃ C : Array Value, w.heap[g]? = some (.cells C 5 (0, 0)) ∧ ∀ j, j < xs.length → C[j]? = some (.int .u8 (xs.getD j 0 : Nat))
theorem Own.bytes {B : Nat} {w : World} {g cap : Nat} {xs : List Nat} (h : Own B w g cap xs) : Bytes w (some ⟨g, 0, none⟩) xs := by
  obtain ⟨C, hC, hc⟩ := h.row
  exact lie_row hC h.small hc
theorem Own.lt {B : Nat} {w : World} {g cap : Nat} {xs : List Nat} (h : Own B w g cap xs) : g < w.heap.size := by
  obtain ⟨C, hC, _⟩ := h.row
  exact lt_of_block hC
theorem Own.mono {B B' : Nat} {w : World} {g cap : Nat} {xs : List Nat} (h : Own B w g cap xs) (hb : B' ≤ B) : Own B' w g cap xs := ⟨Nat.le_trans hb h.base, h.cap, h.small, h.row⟩
theorem Own.cell {B : Nat} {w : World} {g cap : Nat} {xs : List Nat} (h : Own B w g cap xs) (j : Nat) (hj : j < xs.length) : w.cell? ⟨g, j, none⟩ = some (.int .u8 (xs.getD j 0 : Nat)) ∧ w.frozen? ⟨g, j, none⟩ = false := by
  obtain ⟨C, hC, hc⟩ := h.row
  exact ⟨by simp only [World.cell?, hC]; exact hc j hj, by simp only [World.frozen?, hC]; simp⟩
theorem Own.set {B : Nat} {w : World} {g cap : Nat} {xs : List Nat} (h : Own B w g cap xs) (i y : Nat) (hy : y < 256) : Own B (w.setCell ⟨g, i, none⟩ (.int .u8 (y : Int))) g cap (xs.set i y) := by
  obtain ⟨C, hC, hc⟩ := h.row
  refine ⟨h.base, by simpa using h.cap, ?_, _, heap_setCell_same _ _ _ _ _ _ hC, ?_⟩
  · intro x hx
    rcases List.mem_or_eq_of_mem_set hx with h' | h'
    · exact h.small x h'
    · rw [h']; exact hy
  · intro j hj
    simp at hj
    have hcj := hc j hj
    have hjs : j < C.size := (Array.getElem?_eq_some_iff.1 hcj).1
    by_cases hij : i = j
    · subst hij
      simp [List.getD, hj, hjs]
    · rw [Array.getElem?_setIfInBounds_ne hij, hcj]
      simp [List.getD, List.getElem?_set_ne hij]
theorem own_of {w : World} {B g n c : Nat} {xs : List Nat} (hl : xs.length = n) (hs : ∀ x ∈ xs, x < 256) (h : w.ownsRow B 5 1 (.slice (some ⟨g, 0, none⟩) n c) n (vals xs)) : Own B w g c xs := by
  rcases h.2 with ⟨h1, _⟩ | ⟨g', cap, cur, h1, h2, hg, h3, _, h5, ht⟩
  · cases h1
  · cases h1
    refine ⟨h2, by omega, hs, cur, hg, fun j hj => ?_⟩
    have : (vals xs)[j]? = some (.int .u8 (xs.getD j 0 : Nat)) := by simp [vals, List.getD, hj]
    rw [← ht, List.getElem?_take, if_pos (by omega)] at this
    simpa using this
def marks : List Nat := (List.range 70).map fun i => 165 - i
theorem marks_len : marks.length = 70 := by decide
theorem marks_small : ∀ x ∈ marks, x < 256 := by decide
theorem marks_at : ∀ i, i < 70 → marks.getD i 0 = 165 - i := by decide
theorem marks_get : ∀ i, i < 70 → marks[i]? = some (165 - i) := by decide
theorem marks_take (i : Nat) (h : i < 70) : marks.take (i + 1) = marks.take i ++ [165 - i] := take_snoc' _ _ _ (marks_get i h)
set_option maxRecDepth 100000 in
theorem markAt_any (w : World) (i : Nat) (hi : i < 70) :
    Calls Tryz.prog 97 #[.int .i64 i] w fun e w' => e = .returned (.int .u8 (165 - i : Nat)) ∧ w' = w := by
  have e1 : (165 : Int) - (i : Int) = ((165 - i : Nat) : Int) := by omega
  have e2 : 165 - i < 256 := by omega
  generalize 165 - i = m at *
  go_enter Tryz.func97, Tryz.ntmps97
  go_wp2
  go_ret
  exact ⟨rfl, rfl⟩
theorem owns_le {w : World} {B n cap g : Nat} {t : TypeId} {ys : List Value} (h : w.ownsRow B t 1 (.slice (some ⟨g, 0, none⟩) n cap) n ys) : n ≤ cap ∧ B ≤ g ∧ g < w.heap.size := by
  rcases h.2 with ⟨h1, _⟩ | ⟨g', cap', cur, h1, h2, hg, h3, _⟩
  · cases h1
  · cases h1; exact ⟨h3, h2, lt_of_block hg⟩
theorem wpList_append_bytes {w : World} {ops : Array Oper} {rest : List Oper} {o : Oper} {a : Act} {Q : Exit → Act → World → Prop} (hgd : o.guard = none) (s x : Operand)
    (ho : o.op = .call { callee := .builtin .append, args := #[s, x], argTypes := #[31, 31] }) (B g0 n cap0 : Nat) (ys : List Value)
    (hs : a.eval s = .slice (some ⟨g0, 0, none⟩) n cap0) (hown : w.ownsRow B 5 1 (.slice (some ⟨g0, 0, none⟩) n cap0) n ys) (sp : Option Addr) (m c : Nat) (xs : List Nat) (hx : a.eval x = .slice sp m c) (hm : xs.length = m) (hb : Bytes w sp xs)
    (h63 : n + m ≤ 140737488355328) (hB : B ≤ w.heap.size)
    (h : ∀ g cap w', w'.ownsRow B 5 1 (.slice (some ⟨g, 0, none⟩) (n + m) cap) (n + m) (ys ++ vals xs) → w.grownBy w' (some g0) → (g = g0 ∨ g = w.heap.size) → wpList Tryz.prog ops Q rest (a.put o.dst (.slice (some ⟨g, 0, none⟩) (n + m) cap)) w') :
    wpList Tryz.prog ops Q (o :: rest) a w := by
  obtain ⟨i0, hi, hz0, hz1, hz2⟩ := info_parts Tryz.infoU8
  rcases hb.lie with h0 | ⟨g, o', rfl, hg, hc⟩
  · subst h0
    simp at hm
    subst hm
    refine wpList_append_zero hgd s x 31 ho 5 i0 Tryz.underlying31 hi _ n cap0 (owns_le hown).1 hs sp c hx ?_
    exact h g0 cap0 w (by simpa [vals] using hown) ⟨rfl, rfl, rfl, Nat.le_refl _, fun _ _ _ => rfl⟩ (Or.inl rfl)
  · by_cases h0 : m = 0
    · subst h0
      have hxs : xs = [] := List.eq_nil_of_length_eq_zero hm
      subst hxs
      refine wpList_append_zero hgd s x 31 ho 5 i0 Tryz.underlying31 hi _ n cap0 (owns_le hown).1 hs _ c hx ?_
      exact h g0 cap0 w (by simpa [vals] using hown) ⟨rfl, rfl, rfl, Nat.le_refl _, fun _ _ _ => rfl⟩ (Or.inl rfl)
    · refine wpList_append_lies _ hgd s x 31 ho B 5 i0 (.int .u8 0) 1 1 Tryz.underlying31 hi hz0 hz1 hz2 rfl (by omega) _ n ys hs hown ⟨g, o', none⟩ m c (vals xs) hx (by rw [vals_len, hm, Nat.mul_one]) (bytes_cells hb) (vals_one xs) (by omega) (by unfold maxLen; omega) (by omega) hB _ rfl ?_
      intro g' cap w' h1 h2 h3 _
      refine h g' cap w' h1 h2 ?_
      rcases h3 with h3 | h3
      · left; simpa [Value.ownBlock] using h3.symm
      · exact Or.inr h3
theorem run_make_lent (w : World) (m : Nat) (hm : m ≤ 140737488351400) :
    ∃ w', (Instr.makeSlice 31 (.int .i64 0) (.int .i64 (m : Int))).run Tryz.prog w = .ok (.slice (some ⟨w.heap.size, 0, none⟩) 0 m) w' ∧ w'.ownsRow w.heap.size 5 1 (.slice (some ⟨w.heap.size, 0, none⟩) 0 m) 0 [] ∧ Below w.heap.size w w' := by
  refine ⟨_, run_make_room (P := Tryz.prog) 31 5 (.int .u8 0) 1 Tryz.underlying31 Tryz.infoU8 rfl .i64 .i64 m (by omega) (by omega) w, World.ownsRow_made w _ m (Nat.le_refl _) (by unfold maxLen; omega) ?_, (Below.refl _ _).alloc (Nat.le_refl _) _⟩
  rw [made_rep]; simp
theorem own_full {w : World} {B g n c : Nat} {xs : List Nat} (hs : ∀ x ∈ xs, x < 256) (h : w.ownsRow B 5 1 (.slice (some ⟨g, 0, none⟩) n c) n (vals xs)) : Own B w g c xs := by
  have hl : xs.length = n := by have := h.1; rw [vals_len] at this; omega
  exact own_of hl hs h
set_option maxRecDepth 100000 in
set_option maxHeartbeats 400000 in
theorem lend_any (w : World) (sp : Option Addr) (m cap : Nat) (xs : List Nat) (hm : xs.length = m) (hx : Bytes w sp xs) (hlen : m ≤ 140737488351232) :
    Calls Tryz.prog 51 #[.slice sp m cap] w fun e w' => ∃ g c', e = .returned (.slice (some ⟨g, 0, none⟩) m c') ∧ w'.ownsRow w.heap.size 5 1 (.slice (some ⟨g, 0, none⟩) (m + 70) c') (m + 70) (vals (xs ++ marks)) ∧ Below w.heap.size w w' := by
  have HX := hide hx
  have HM := hide hm
  clear hx hm
  obtain ⟨M, hMi, hMn⟩ : ∃ M : Nat, (m : Int) + 70 = (M : Int) ∧ M = m + 70 := ⟨m + 70, by omega, rfl⟩
  have HMn := hide hMn
  have hM1 : M ≤ 140737488351400 := by omega
  clear hMn
  obtain ⟨w1, hmk, hown1, hb1⟩ := run_make_lent w M hM1
  have HO1 := hide hown1
  have HB1 := hide hb1
  clear hown1 hb1
  obtain ⟨i0, hi, hz0, hz1, hz2⟩ := info_parts Tryz.infoU8
  go_enter Tryz.func51, Tryz.ntmps51
  go_wp2_with (at_builtin; refine wpList_append_bytes rfl (.tmp 9) (.tmp 10) rfl w.heap.size _ 0 M [] rfl HO1.out sp m cap xs rfl HM.out (HX.out.below HB1.out) (by omega) HB1.out.size ?_; intro g c w2 hown2 hgrow2 hat2)
  have HO2 := hide hown2
  have HB2 : Hid (Below w.heap.size w w2) := HB1.out.grown hgrow2 HB1.out.size (fun k e => by cases e; exact Nat.le_refl _)
  clear hown2 hgrow2 hat2 HO1 HB1 hmk
  go_wp2
  go_loopw [3, 4] (fun l i wr => ∃ (k g c : Nat), k ≤ 70 ∧ i = .int .i64 k ∧ l = .slice (some ⟨g, 0, none⟩) (m + k) c ∧ Hid (wr.ownsRow w.heap.size 5 1 (.slice (some ⟨g, 0, none⟩) (m + k) c) (m + k) (vals (xs ++ marks.take k))) ∧ Hid (Below w.heap.size w wr)) (fun _ i _ => 70 - (intOf i).toNat)
  case atStart => exact ⟨0, g, c, Nat.zero_le _, rfl, by simp, by simpa [Hid] using HO2.out, HB2⟩
  case round =>
    obtain ⟨k, g, c, hk, rfl, rfl, HO, HB⟩ := hrel
    clear HO2 HB2
    by_cases hlt : k < 70
    · have l1 : (k : Int) < 70 := by omega
      have HT : Hid (vals (xs ++ marks.take (k + 1)) = vals (xs ++ marks.take k) ++ [.int .u8 ((165 - k : Nat) : Int)]) := by
        show _ = _
        rw [marks_take k hlt, ← List.append_assoc, vals_app (xs ++ marks.take k)]
        rfl
      have HK := hide (fun w => markAt_any w k hlt)
      generalize 165 - k = x at *
      go_wp2_with fail
      refine (HK.out _).mono ?_
      rintro e w3 ⟨rfl, rfl⟩
      go_wp2_with (at_builtin; refine wpList_append_lies _ rfl (.tmp 16) (.tmp 19) 31 rfl w.heap.size 5 i0 (.int .u8 0) 1 1 Tryz.underlying31 hi hz0 hz1 hz2 rfl (by omega) _ _ _ rfl (HO.out.alloc _) ⟨w3.heap.size, 0, none⟩ 1 1 [.int .u8 (x : Int)] rfl rfl (World.news_of_block (heap_alloc_new w3 (.cells #[.int .u8 (x : Int)] 5))) (by simp [Value.oneCell']) (by omega) (by unfold maxLen; omega) (by omega) (by have := HB.out.size; simp; omega) _ rfl ?_; intro g' cap' w4 hown4 hgrow4 hat4 hltg)
      rw [← HT.out] at hown4
      have HO4 := hide hown4
      have HB4 : Hid (Below w.heap.size w w4) := (HB.out.alloc HB.out.size _).grown hgrow4 (by have := HB.out.size; simp; omega) (fun k e => by cases e; exact (owns_le HO.out).2.1)
      clear hown4 hgrow4 hat4
      go_wp2
      go_roundw
      case rel => exact ⟨k + 1, g', cap', by omega, by go_num, rfl, HO4, HB4⟩
      case measure => simp [intOf]; omega
    · obtain rfl : k = 70 := by omega
      have HF : Hid (wr.ownsRow w.heap.size 5 1 (.slice (some ⟨g, 0, none⟩) (m + 70) c) (m + 70) (vals (xs ++ marks))) := by
        have := HO.out
        rw [List.take_of_length_le (by rw [marks_len]; omega)] at this
        exact this
      have hc : m + 70 ≤ c := (owns_le HO.out).1
      have hc1 : (m : Int) ≤ (c : Int) := by omega
      clear HO
      go_wp2
      go_ret
      exact ⟨g, c, rfl, HF.out, HB.out⟩
theorem Own.front {B : Nat} {w : World} {g cap : Nat} {xs ys : List Nat} (h : Own B w g cap (xs ++ ys)) : Bytes w (some ⟨g, 0, none⟩) xs := by
  have := bytes_take h.bytes xs.length
  rwa [List.take_left' rfl] at this
theorem Own.behind {B : Nat} {w : World} {g cap : Nat} {xs ys : List Nat} (h : Own B w g cap (xs ++ ys)) (k : Nat) (hk : k < ys.length) : w.cell? ⟨g, xs.length + k, none⟩ = some (.int .u8 (ys.getD k 0 : Nat)) := by
  have := (h.cell (xs.length + k) (by simp; omega)).1
  rw [this]
  simp [List.getD, List.getElem?_append_right]
set_option maxRecDepth 100000 in
set_option maxHeartbeats 400000 in
theorem intact_any (w : World) (B g c m : Nat) (sp : Option Addr) (cb : Nat) (xs : List Nat) (hm : xs.length = m) (ho : Own B w g c (xs ++ marks)) (hx : Bytes w sp xs) (hlen : m ≤ 140737488351232) :
    Calls Tryz.prog 54 #[.slice (some ⟨g, 0, none⟩) m c, .slice sp m cb] w fun e w' => e = .returned (.bool true) ∧ ∃ q, w' = w.drewN q := by
  have hv1 := conv_str ho.front hm c
  have hv2 := conv_str hx hm cb
  have hc70 : m + 70 ≤ c := by have := ho.cap; rw [List.length_append, marks_len, hm] at this; exact this
  have HC : Hid (∀ k, k < 70 → w.cell? ⟨g, m + k, none⟩ = some (.int .u8 ((165 - k : Nat) : Int))) := fun k hk => by
    have := ho.behind k (by rw [marks_len]; exact hk)
    rw [marks_at k hk, hm] at this
    exact this
  clear ho hx hm
  generalize str xs = S at *
  have hc1 : (m : Int) + 70 ≤ (c : Int) := by omega
  go_enter Tryz.func54, Tryz.ntmps54
  go_wp2
  clear hv1 hv2
  go_loopw [6] (fun i wr => ∃ (k q : Nat), k ≤ 70 ∧ i = .int .i64 k ∧ Hid (wr = w.drewN q)) (fun i _ => 70 - (intOf i).toNat)
  case atStart => exact ⟨0, 0, Nat.zero_le _, rfl, rfl⟩
  case round =>
    obtain ⟨k, q, hk, rfl, HW⟩ := hrel
    by_cases hlt : k < 70
    · have hcx : wr.cell? ⟨g, m + k, none⟩ = some (.int .u8 ((165 - k : Nat) : Int)) := by rw [HW.out]; exact HC.out k hlt
      have HK := hide (fun w => markAt_any w k hlt)
      have hx : 165 - k < 256 := by omega
      generalize 165 - k = x at *
      have l1 : (k : Int) < 70 := by omega
      have hwr : IntKind.i64.wrap ((m : Int) + (k : Int)) = ((m + k : Nat) : Int) := by rw [IntKind.wrap_i64]; omega
      have l3 : m + k < m + 70 := by omega
      generalize m + k = p at *
      have l4 : (p : Int) < (m : Int) + 70 := by omega
      have l5 : (0 : Int) ≤ (p : Int) := by omega
      go_wp2
      go_quiet (first | (go_at_call 97; exact Calls.quiet_of_same (HK.out _)))
      go_wp2
      go_roundw
      case rel => exact ⟨k + 1, q + nq, by omega, by go_num, by show _ = _; rw [HW.out, World.drewN_drewN]⟩
      case measure => simp [intOf]; omega
    · obtain rfl : k = 70 := by omega
      go_wp2
      go_ret
      exact ⟨rfl, q, HW.out⟩
set_option maxRecDepth 100000 in
set_option maxHeartbeats 400000 in
theorem over_any (w : World) (K : Knd) (k : Nat × Nat) (g m c cap : Nat) (xs : List Nat) (hm : m ≤ xs.length) (ho : Own 0 w g cap xs) (hk : K g = k) (hl : m ≤ 140737488351232) :
    Calls Tryz.prog 55 #[.slice (some ⟨g, 0, none⟩) m c] w fun e w' => e = .returned (.tuple #[]) ∧ Kp (fun q => q = k) K K w w' := by
  have HO := hide ho
  have HM := hide hm
  have HK := hide hk
  clear ho hm hk
  go_enter Tryz.func55, Tryz.ntmps55
  go_wp2
  go_loopw [2] (fun i wr => ∃ (j : Nat) (ys : List Nat), j ≤ m ∧ i = .int .i64 j ∧ Hid (Own 0 wr g cap ys) ∧ Hid (ys.length = xs.length) ∧ Hid (Kp (fun q => q = k) K K w wr)) (fun i _ => m - (intOf i).toNat)
  case atStart => exact ⟨0, xs, Nat.zero_le _, rfl, HO, hide rfl, hide (Kp.refl _ _ _)⟩
  case round =>
    obtain ⟨j, ys, hj, rfl, HY, HYl, HP⟩ := hrel
    by_cases hlt : j < m
    · have hlt' : (j : Int) < (m : Int) := by omega
      have i0 : (0 : Int) ≤ (j : Int) := by omega
      obtain ⟨hc, hf⟩ := HY.out.cell j (by have := HYl.out; have := HM.out; omega)
      have hgl := HY.out.lt
      go_wp2
      go_roundw
      case rel => exact ⟨j + 1, ys.set j 238, by omega, by go_num, hide (HY.out.set j 238 (by omega)), hide (by rw [List.length_set]; exact HYl.out), hide (HP.out.setCell (Or.inr HK.out) _ _)⟩
      case measure => simp [intOf]; omega
    · obtain rfl : j = m := by omega
      go_wp2
      go_end0
      exact ⟨rfl, HP.out⟩
def bkCells (L M : Value) (A turn done used : Int) : Array Value := #[L, M, .int .i64 A, .slice none 0 0, .slice none 0 0, .int .i64 0, .slice none 0 0, .slice none 0 0, .int .i64 0, .slice none 0 0, .slice none 0 0, .int .i64 0, .slice none 0 0, .slice none 0 0, .int .i64 0, .slice none 0 0, .slice none 0 0, .int .i64 0, .slice none 0 0, .slice none 0 0, .int .i64 0, .slice none 0 0, .slice none 0 0, .int .i64 0, .slice none 0 0, .slice none 0 0, .int .i64 0, .slice none 0 0, .slice none 0 0, .int .i64 0, .slice none 0 0, .slice none 0 0, .int .i64 0, .slice none 0 0, .slice none 0 0, .int .i64 0, .slice none 0 0, .slice none 0 0, .int .i64 0, .slice none 0 0, .slice none 0 0, .int .i64 0, .slice none 0 0, .slice none 0 0, .int .i64 0, .slice none 0 0, .slice none 0 0, .int .i64 0, .slice none 0 0, .slice none 0 0, .int .i64 0, .slice none 0 0, .slice none 0 0, .int .i64 0, .int .i64 turn, .int .i64 done, .int .i64 used]
theorem bk_cell {w : World} {b : Nat} {C : Array Value} {t : TypeId} (h : w.heap[b]? = some (.cells C t (0, 0))) (j : Nat) (v : Value) (hj : C[j]? = some v) : w.cell? ⟨b, j, none⟩ = some v := by simp only [World.cell?, h]; exact hj
theorem bk_thaw {w : World} {b : Nat} {C : Array Value} {t : TypeId} (h : w.heap[b]? = some (.cells C t (0, 0))) (j : Nat) : w.frozen? ⟨b, j, none⟩ = false := by simp [World.frozen?, h]
theorem set_cell_same {w : World} {b j : Nat} {C : Array Value} {t : TypeId} {v : Value} (h : w.heap[b]? = some (.cells C t (0, 0))) (hj : C[j]? = some v) : w.setCell ⟨b, j, none⟩ v = w := by
  rw [setCell_eq_setRow w b j _ _ _ _ h]
  have e : C.setIfInBounds j v = C := by
    apply Array.ext_getElem?
    intro i
    rw [Array.getElem?_setIfInBounds]
    split
    · rename_i h'; subst h'
      have := (Array.getElem?_eq_some_iff.1 hj).1
      rw [if_pos this, hj]
    · rfl
  rw [e]
  exact setRow_self w b _ t _ h
set_option maxRecDepth 100000 in
set_option maxHeartbeats 1000000 in
theorem bk_kept (w : World) (b : Nat) (L M : Value) (A turn done used : Int) (h : w.heap[b]? = some (.cells (bkCells L M A turn done used) 70 (0, 0))) :
    Calls Tryz.prog 67 #[.pointer (some ⟨b, 0, none⟩)] w fun e w' => e = .returned (.bool true) ∧ w' = w := by
  have c6 := bk_cell h 6 (.slice none 0 0) rfl
  have c9 := bk_cell h 9 (.slice none 0 0) rfl
  have c12 := bk_cell h 12 (.slice none 0 0) rfl
  have c15 := bk_cell h 15 (.slice none 0 0) rfl
  clear h
  go_enter Tryz.func67, Tryz.ntmps67
  go_wp2
  refine wp_loop_rounds 1 ?_
  rw [rounds_succ]
  go_wp2
  refine wp_loop_rounds 1 ?_
  rw [rounds_succ]
  go_wp2
  refine wp_loop_rounds 1 ?_
  rw [rounds_succ]
  go_wp2
  refine wp_loop_rounds 1 ?_
  rw [rounds_succ]
  go_wp2
  go_ret
  exact ⟨rfl, rfl⟩
set_option maxRecDepth 100000 in
set_option maxHeartbeats 1000000 in
theorem bk_told (w : World) (b : Nat) (L M : Value) (A turn done used : Int) (h : w.heap[b]? = some (.cells (bkCells L M A turn done used) 70 (0, 0))) :
    Calls Tryz.prog 68 #[.pointer (some ⟨b, 0, none⟩)] w fun e w' => e = .returned (.bool true) ∧ w' = w := by
  have c18 := bk_cell h 18 (.slice none 0 0) rfl
  have c21 := bk_cell h 21 (.slice none 0 0) rfl
  have c24 := bk_cell h 24 (.slice none 0 0) rfl
  have c27 := bk_cell h 27 (.slice none 0 0) rfl
  clear h
  go_enter Tryz.func68, Tryz.ntmps68
  go_wp2
  refine wp_loop_rounds 1 ?_
  rw [rounds_succ]
  go_wp2
  refine wp_loop_rounds 1 ?_
  rw [rounds_succ]
  go_wp2
  refine wp_loop_rounds 1 ?_
  rw [rounds_succ]
  go_wp2
  refine wp_loop_rounds 1 ?_
  rw [rounds_succ]
  go_wp2
  go_ret
  exact ⟨rfl, rfl⟩
set_option maxRecDepth 100000 in
set_option maxHeartbeats 1000000 in
theorem bk_held (w : World) (b : Nat) (L M : Value) (A turn done used : Int) (h : w.heap[b]? = some (.cells (bkCells L M A turn done used) 70 (0, 0))) :
    Calls Tryz.prog 69 #[.pointer (some ⟨b, 0, none⟩)] w fun e w' => e = .returned (.bool true) ∧ w' = w := by
  have c30 := bk_cell h 30 (.slice none 0 0) rfl
  have c33 := bk_cell h 33 (.slice none 0 0) rfl
  have c36 := bk_cell h 36 (.slice none 0 0) rfl
  have c39 := bk_cell h 39 (.slice none 0 0) rfl
  clear h
  go_enter Tryz.func69, Tryz.ntmps69
  go_wp2
  refine wp_loop_rounds 1 ?_
  rw [rounds_succ]
  go_wp2
  refine wp_loop_rounds 1 ?_
  rw [rounds_succ]
  go_wp2
  refine wp_loop_rounds 1 ?_
  rw [rounds_succ]
  go_wp2
  refine wp_loop_rounds 1 ?_
  rw [rounds_succ]
  go_wp2
  go_ret
  exact ⟨rfl, rfl⟩
set_option maxRecDepth 100000 in
set_option maxHeartbeats 1000000 in
theorem bk_sent (w : World) (b : Nat) (L M : Value) (A turn done used : Int) (h : w.heap[b]? = some (.cells (bkCells L M A turn done used) 70 (0, 0))) :
    Calls Tryz.prog 70 #[.pointer (some ⟨b, 0, none⟩)] w fun e w' => e = .returned (.bool true) ∧ w' = w := by
  have c42 := bk_cell h 42 (.slice none 0 0) rfl
  have c45 := bk_cell h 45 (.slice none 0 0) rfl
  have c48 := bk_cell h 48 (.slice none 0 0) rfl
  have c51 := bk_cell h 51 (.slice none 0 0) rfl
  clear h
  go_enter Tryz.func70, Tryz.ntmps70
  go_wp2
  refine wp_loop_rounds 1 ?_
  rw [rounds_succ]
  go_wp2
  refine wp_loop_rounds 1 ?_
  rw [rounds_succ]
  go_wp2
  refine wp_loop_rounds 1 ?_
  rw [rounds_succ]
  go_wp2
  refine wp_loop_rounds 1 ?_
  rw [rounds_succ]
  go_wp2
  go_ret
  exact ⟨rfl, rfl⟩
def bk0 : Array Value := bkCells (.slice none 0 0) (.slice none 0 0) 0 0 0 0
end Go.Proofs.YtjcdnclfakmbpaaGreatDoor.U
namespace Go.Proofs.YtjcdnclfakmbpaaGreatDoor.Q
open Go.RowKit Go.Proofs.YtjcdnclfakmbpaaGreatDoor.U
def FzOk (z : Bool) (fz : Nat × Nat) (cap : Nat) : Prop := fz = (0, 0) ∨ (z = true ∧ cap ≤ fz.1)
def ownsQ (z : Bool) (w : World) (base : Nat) (e : TypeId) (size : Nat) (v : Value) (n : Nat) (xs : List Value) : Prop :=
  xs.length = n * size ∧
  ((v = .slice none 0 0 ∧ n = 0) ∨
   ∃ g cap cur, v = .slice (some ⟨g, 0, none⟩) n cap ∧ base ≤ g ∧ (∃ fz, w.heap[g]? = some (.cells cur e fz) ∧ FzOk z fz (cap * size)) ∧ n ≤ cap ∧ cap ≤ maxLen ∧ cur.size = cap * size ∧ cur.toList.take (n * size) = xs)
theorem ownsQ_of {z : Bool} {w : World} {B n s : Nat} {t : TypeId} {v : Value} {xs : List Value} (h : w.ownsRow B t s v n xs) : ownsQ z w B t s v n xs := by
  refine ⟨h.1, h.2.imp id ?_⟩
  rintro ⟨g, cap, cur, h1, h2, h3, r⟩
  exact ⟨g, cap, cur, h1, h2, ⟨_, h3, Or.inl rfl⟩, r⟩
theorem ownsQ.row {w : World} {B n s : Nat} {t : TypeId} {v : Value} {xs : List Value} (h : ownsQ false w B t s v n xs) : w.ownsRow B t s v n xs := by
  refine ⟨h.1, h.2.imp id ?_⟩
  rintro ⟨g, cap, cur, h1, h2, ⟨fz, h3, h4⟩, r⟩
  rcases h4 with rfl | ⟨h4, _⟩
  · exact ⟨g, cap, cur, h1, h2, h3, r⟩
  · cases h4
theorem owns_kept' {z : Bool} {w w' : World} {B n : Nat} {e : TypeId} {size : Nat} {v : Value} {xs : List Value} (h : ownsQ z w B e size v n xs) (hk : ∀ g, v.ownBlock = some g → w'.heap[g]? = w.heap[g]?) : ownsQ z w' B e size v n xs := by
  refine ⟨h.1, h.2.imp id ?_⟩
  rintro ⟨g, cap, cur, h1, h2, ⟨fz, h3, h4⟩, r⟩
  exact ⟨g, cap, cur, h1, h2, ⟨fz, (hk g (by rw [h1]; rfl)).trans h3, h4⟩, r⟩
theorem owns_lt {z : Bool} {w : World} {B n s : Nat} {t : TypeId} {v : Value} {xs : List Value} (h : ownsQ z w B t s v n xs) (g : Nat) (e : v.ownBlock = some g) : g < w.heap.size := by
  rcases h.2 with ⟨h1, h2⟩ | ⟨g', cap, cur, h1, _, ⟨fz, hg, _⟩, _⟩
  · rw [h1] at e; simp [Value.ownBlock] at e
  · rw [h1] at e; simp [Value.ownBlock] at e; subst e; exact lt_of_block hg
theorem ownsQ.alloc {z : Bool} {w : World} {B n s : Nat} {t : TypeId} {v : Value} {xs : List Value} (h : ownsQ z w B t s v n xs) (o : Obj) : ownsQ z (w.alloc o) B t s v n xs := owns_kept' h (fun g e => Below.heap_alloc _ _ _ (owns_lt h g e))
theorem owns_ne {z : Bool} {w : World} {B n k s : Nat} {t t' : TypeId} {v : Value} {xs : List Value} {C : Array Value} {fr : Nat × Nat} (h : ownsQ z w B t s v n xs) (hk : w.heap[k]? = some (.cells C t' fr)) (ht : t' ≠ t) : v.ownBlock ≠ some k := by
  intro e
  rcases h.2 with ⟨h1, h2⟩ | ⟨g', cap, cur, h1, _, ⟨fz, hg, _⟩, _⟩
  · rw [h1] at e; simp [Value.ownBlock] at e
  · rw [h1] at e; simp [Value.ownBlock] at e; subst e
    rw [hg] at hk; simp at hk; exact ht hk.2.1.symm
theorem owns_low {z : Bool} {w : World} {B n : Nat} {t : TypeId} {v : Value} {xs : List Value} (h : ownsQ z w B t 1 v n xs) (g : Nat) (e : v.ownBlock = some g) : B ≤ g := by
  rcases h.2 with ⟨h1, h2⟩ | ⟨g', cap, cur, h1, hb, hg, _⟩
  · rw [h1] at e; simp [Value.ownBlock] at e
  · rw [h1] at e; simp [Value.ownBlock] at e; omega
theorem rows_far0 {z1 z2 : Bool} {w : World} {B1 B2 n1 n2 : Nat} {t1 t2 : TypeId} {v1 v2 : Value} {xs1 xs2 : List Value} (h1 : ownsQ z1 w B1 t1 1 v1 n1 xs1) (h2 : ownsQ z2 w B2 t2 1 v2 n2 xs2) (ht : t1 ≠ t2) : ∀ g, v1.ownBlock = some g → v2.ownBlock ≠ some g := by
  intro g e e'
  rcases h1.2 with ⟨h, _⟩ | ⟨g', cap, cur, h, _, ⟨fz, hg, _⟩, _⟩
  · rw [h] at e; simp [Value.ownBlock] at e
  · rw [h] at e; simp [Value.ownBlock] at e; subst e
    exact owns_ne h2 hg ht e'
theorem thawed {z : Bool} {w : World} {g cap o : Nat} {cur : Array Value} {t : TypeId} {fz : Nat × Nat} (hg : w.heap[g]? = some (.cells cur t fz)) (hf : FzOk z fz cap) (ho : o < cap) : w.frozen? ⟨g, o, none⟩ = false := by
  rcases hf with rfl | ⟨_, hf⟩
  · simp [World.frozen?, hg]
  · obtain ⟨lo, hi⟩ := fz
    simp only [World.frozen?, hg, Bool.and_eq_false_iff, decide_eq_false_iff_not]
    left
    simp only at hf
    omega
theorem owns_cell {z : Bool} {w : World} {B g n c k : Nat} {t : TypeId} {xs : List Value} (h : ownsQ z w B t 1 (.slice (some ⟨g, 0, none⟩) n c) n xs) (a : Value) (hk : xs[k]? = some a) : w.cell? ⟨g, k, none⟩ = some a ∧ w.frozen? ⟨g, k, none⟩ = false := by
  rcases h.2 with ⟨h1, _⟩ | ⟨g', cap, cur, h1, _, ⟨fz, hg, hf⟩, hnc, _, _, ht⟩
  · cases h1
  · cases h1
    have hkl : k < xs.length := (List.getElem?_eq_some_iff.1 hk).1
    have := h.1
    rw [← ht, List.getElem?_take, if_pos (by omega)] at hk
    exact ⟨by simp only [World.cell?, hg]; simpa using hk, thawed hg hf (by omega)⟩
theorem owns_set {z : Bool} {w : World} {B g n c k : Nat} {t : TypeId} {xs : List Value} (h : ownsQ z w B t 1 (.slice (some ⟨g, 0, none⟩) n c) n xs) (_hk : k < n) (a : Value) : ownsQ z (w.setCell ⟨g, k, none⟩ a) B t 1 (.slice (some ⟨g, 0, none⟩) n c) n (xs.set k a) := by
  rcases h.2 with ⟨h1, _⟩ | ⟨g', cap, cur, h1, h2, ⟨fz, hg, hf⟩, h3, h4, h5, ht⟩
  · cases h1
  · cases h1
    refine ⟨by rw [List.length_set]; exact h.1, Or.inr ⟨g, c, cur.setIfInBounds k a, rfl, h2, ⟨fz, block_set hg a, hf⟩, h3, h4, by simpa using h5, ?_⟩⟩
    rw [← ht]
    simp [List.take_set, Array.toList_setIfInBounds]
theorem owns_draws {z : Bool} {w : World} (q : Nat) {N n : Nat} {t : TypeId} {v : Value} {xs : List Value} (h : ownsQ z w N t 1 v n xs) : ownsQ z (w.drewN q) N t 1 v n xs := h
theorem row_cell {z : Bool} {w : World} {B n k : Nat} {t : TypeId} {v a : Value} {xs : List Value} (h : ownsQ z w B t 1 v n xs) (hk : xs[k]? = some a) : ∃ g c, v = .slice (some ⟨g, 0, none⟩) n c ∧ w.cell? ⟨g, k, none⟩ = some a := by
  rcases h.2 with ⟨h1, h2⟩ | ⟨g, cap, cur, h1, _, ⟨fz, hg, _⟩, _, _, _, ht⟩
  · have := h.1
    rw [h2] at this
    have : xs = [] := List.eq_nil_of_length_eq_zero (by omega)
    subst this; simp at hk
  · have hkl : k < xs.length := (List.getElem?_eq_some_iff.1 hk).1
    have := h.1
    rw [← ht, List.getElem?_take, if_pos (by omega)] at hk
    exact ⟨g, cap, h1, by simp only [World.cell?, hg]; simpa using hk⟩
theorem owns_mono {z : Bool} {w : World} {B B' n : Nat} {t : TypeId} {v : Value} {xs : List Value} (h : ownsQ z w B t 1 v n xs) (hb : B' ≤ B) : ownsQ z w B' t 1 v n xs := by
  refine ⟨h.1, h.2.elim Or.inl ?_⟩
  rintro ⟨g, cap, cur, h1, h2, r⟩
  exact Or.inr ⟨g, cap, cur, h1, Nat.le_trans hb h2, r⟩
theorem owns_form {z : Bool} {w : World} {B n s : Nat} {t : TypeId} {v : Value} {xs : List Value} (h : ownsQ z w B t s v n xs) : ∃ p c, v = .slice p n c := by
  rcases h.2 with ⟨h1, h2⟩ | ⟨g, cap, cur, h1, _⟩
  · exact ⟨none, 0, by rw [h1, h2]⟩
  · exact ⟨_, cap, h1⟩
theorem owns_bytes {z : Bool} {w : World} {B n : Nat} {v : Value} {p : Option Addr} {c : Nat} {xs : List Nat} (h : ownsQ z w B 5 1 v n (vals xs)) (hv : v = .slice p n c) (hs : ∀ x ∈ xs, x < 256) : Bytes w p xs := by
  subst hv
  rcases h.2 with ⟨h1, h2⟩ | ⟨g, cap, cur, h1, _, ⟨fz, hg, _⟩, hnc, _, hcs, ht⟩
  · have := h.1
    rw [vals_len, h2] at this
    have : xs = [] := List.eq_nil_of_length_eq_zero (by omega)
    subst this
    exact ⟨by simp, Or.inl rfl⟩
  · cases h1
    refine lie_row hg hs (fun j hj => ?_)
    have hl := h.1
    rw [vals_len] at hl
    have e := congrArg (fun l => l[j]?) ht
    simp only [List.getElem?_take, if_pos (show j < n * 1 by omega)] at e
    rw [← Array.getElem?_toList, e]
    simp [vals, List.getD, hj]
structure But (b : Nat) (w w' : World) : Prop where
  os : w'.os = w.os
  tape : w'.tape = w.tape
  output : w'.output = w.output
  size : w.heap.size ≤ w'.heap.size
  block : ∀ k, k < w.heap.size → k ≠ b → w'.heap[k]? = w.heap[k]?
theorem But.refl (b : Nat) (w : World) : But b w w := ⟨rfl, rfl, rfl, Nat.le_refl _, fun _ _ _ => rfl⟩
theorem But.setCell {b : Nat} {w w' : World} (h : But b w w') {p : Addr} (hp : p.block = b ∨ w.heap.size ≤ p.block) (u : Value) : But b w (w'.setCell p u) :=
  ⟨h.os, h.tape, h.output, by have := h.size; simp [World.setCell]; omega, fun k hk hb => by rw [Below.heap_setCell _ _ _ _ (by omega)]; exact h.block k hk hb⟩
structure Kept (S : Nat → Prop) (w w' : World) : Prop where
  os : w'.os = w.os
  tape : w'.tape = w.tape
  output : w'.output = w.output
  size : w.heap.size ≤ w'.heap.size
  block : ∀ k, k < w.heap.size → ¬ S k → w'.heap[k]? = w.heap[k]?
theorem Kept.refl (S : Nat → Prop) (w : World) : Kept S w w := ⟨rfl, rfl, rfl, Nat.le_refl _, fun _ _ _ => rfl⟩
theorem Kept.trans {S T : Nat → Prop} {w1 w2 w3 : World} (h : Kept S w1 w2) (k : Kept T w2 w3) (hT : ∀ i, T i → S i ∨ w1.heap.size ≤ i) : Kept S w1 w3 :=
  ⟨k.os.trans h.os, k.tape.trans h.tape, k.output.trans h.output, Nat.le_trans h.size k.size, fun i hi hn => (k.block i (Nat.lt_of_lt_of_le hi h.size) (fun t => (hT i t).elim hn (fun e => by omega))).trans (h.block i hi hn)⟩
theorem kept_below {S : Nat → Prop} {w w' : World} (h : Below w.heap.size w w') : Kept S w w' := ⟨h.os, h.tape, h.output, h.size, fun k hk _ => h.block k hk⟩
theorem kept_grown {r : Option Nat} {w w' : World} (h : w.grownBy w' r) : Kept (fun k => some k = r) w w' := ⟨h.os, h.tape, h.output, h.size, fun k hk hn => h.block k hk hn⟩
theorem kept_but {b : Nat} {w w' : World} (h : But b w w') : Kept (fun k => k = b) w w' := ⟨h.os, h.tape, h.output, h.size, fun k hk hn => h.block k hk hn⟩
theorem kp_kept {S : Nat → Prop} {w w' : World} (h : Kept S w w') (p : Nat × Nat → Prop) (K : Knd) (k : Nat × Nat) (hS : ∀ i, i < w.heap.size → S i → p (K i)) : Kp p K (ext K w.heap.size k) w w' :=
  ⟨h.os, h.tape, h.output, h.size, fun _ hb => ext_old K k hb, fun b hb hn => h.block b hb (fun e => hn (hS b hb e))⟩
def Far (v h : Value) : Prop := ∀ g, v.ownBlock = some g → h.ownBlock ≠ some g
theorem rows_far {z1 z2 : Bool} {w : World} {B1 B2 n1 n2 : Nat} {t1 t2 : TypeId} {v1 v2 : Value} {xs1 xs2 : List Value} (h1 : ownsQ z1 w B1 t1 1 v1 n1 xs1) (h2 : ownsQ z2 w B2 t2 1 v2 n2 xs2) (ht : t1 ≠ t2) : Far v1 v2 := rows_far0 h1 h2 ht
theorem bad_drews (w : World) (n : Nat) : Below w.heap.size w (w.drewN n) := ⟨rfl, rfl, rfl, Nat.le_refl _, fun _ _ => rfl⟩
theorem drop_cons (xs : List Nat) (k : Nat) (h : k < xs.length) : xs.drop k = xs.getD k 0 :: xs.drop (k + 1) := by
  rw [List.drop_eq_getElem_cons h]; simp [List.getD, h]
theorem Tryz.info5' : (Tryz.prog.info? 5).map (fun i => (i.zero, i.size, i.bytes)) = some (some (.int .u8 0), 1, 1) := by kernel_rfl
end Go.Proofs.YtjcdnclfakmbpaaGreatDoor.Q
namespace Go.Proofs.YtjcdnclfakmbpaaGreatDoor.Q
open Go.RowKit Go.Proofs.YtjcdnclfakmbpaaGreatDoor.U
set_option maxRecDepth 100000 in
set_option maxHeartbeats 1000000 in
set_option maxRecDepth 100000 in
set_option maxHeartbeats 1000000 in
set_option maxRecDepth 100000 in
set_option maxHeartbeats 1000000 in
set_option maxRecDepth 100000 in
set_option maxHeartbeats 1000000 in
set_option maxRecDepth 100000 in
set_option maxHeartbeats 1000000 in
theorem bk_growRows (w : World) (b : Nat) (L M : Value) (A turn done used : Int) (h : w.heap[b]? = some (.cells (bkCells L M A turn done used) 70 (0, 0))) :
    Calls Tryz.prog 72 #[.pointer (some ⟨b, 0, none⟩)] w fun e w' => e = .returned (.tuple #[]) ∧ w' = w := by
  have c0 := bk_cell h 3 (.slice none 0 0) rfl
  have c2 := bk_cell h 5 (.int .i64 0) rfl
  have cf := bk_thaw h
  have HS := hide (set_cell_same (j := 5) (v := .int .i64 0) h rfl)
  clear h
  go_enter Tryz.func72, Tryz.ntmps72
  go_wp2
  refine wp_loop_rounds 1 ?_
  rw [rounds_succ]
  go_wp2
  go_end0
  exact ⟨rfl, HS.out⟩
set_option maxRecDepth 100000 in
set_option maxHeartbeats 1000000 in
theorem bk_growTexts (w : World) (b : Nat) (L M : Value) (A turn done used : Int) (h : w.heap[b]? = some (.cells (bkCells L M A turn done used) 70 (0, 0))) :
    Calls Tryz.prog 73 #[.pointer (some ⟨b, 0, none⟩)] w fun e w' => e = .returned (.tuple #[]) ∧ w' = w := by
  have c0 := bk_cell h 6 (.slice none 0 0) rfl
  have c2 := bk_cell h 8 (.int .i64 0) rfl
  have cf := bk_thaw h
  have HS := hide (set_cell_same (j := 8) (v := .int .i64 0) h rfl)
  clear h
  go_enter Tryz.func73, Tryz.ntmps73
  go_wp2
  refine wp_loop_rounds 1 ?_
  rw [rounds_succ]
  go_wp2
  go_end0
  exact ⟨rfl, HS.out⟩
set_option maxRecDepth 100000 in
set_option maxHeartbeats 1000000 in
theorem bk_growInts (w : World) (b : Nat) (L M : Value) (A turn done used : Int) (h : w.heap[b]? = some (.cells (bkCells L M A turn done used) 70 (0, 0))) :
    Calls Tryz.prog 74 #[.pointer (some ⟨b, 0, none⟩)] w fun e w' => e = .returned (.tuple #[]) ∧ w' = w := by
  have c0 := bk_cell h 9 (.slice none 0 0) rfl
  have c2 := bk_cell h 11 (.int .i64 0) rfl
  have cf := bk_thaw h
  have HS := hide (set_cell_same (j := 11) (v := .int .i64 0) h rfl)
  clear h
  go_enter Tryz.func74, Tryz.ntmps74
  go_wp2
  refine wp_loop_rounds 1 ?_
  rw [rounds_succ]
  go_wp2
  go_end0
  exact ⟨rfl, HS.out⟩
set_option maxRecDepth 100000 in
set_option maxHeartbeats 1000000 in
theorem bk_growWords (w : World) (b : Nat) (L M : Value) (A turn done used : Int) (h : w.heap[b]? = some (.cells (bkCells L M A turn done used) 70 (0, 0))) :
    Calls Tryz.prog 75 #[.pointer (some ⟨b, 0, none⟩)] w fun e w' => e = .returned (.tuple #[]) ∧ w' = w := by
  have c0 := bk_cell h 12 (.slice none 0 0) rfl
  have c2 := bk_cell h 14 (.int .i64 0) rfl
  have cf := bk_thaw h
  have HS := hide (set_cell_same (j := 14) (v := .int .i64 0) h rfl)
  clear h
  go_enter Tryz.func75, Tryz.ntmps75
  go_wp2
  refine wp_loop_rounds 1 ?_
  rw [rounds_succ]
  go_wp2
  go_end0
  exact ⟨rfl, HS.out⟩
set_option maxRecDepth 100000 in
set_option maxHeartbeats 1000000 in
theorem bk_growBools (w : World) (b : Nat) (L M : Value) (A turn done used : Int) (h : w.heap[b]? = some (.cells (bkCells L M A turn done used) 70 (0, 0))) :
    Calls Tryz.prog 76 #[.pointer (some ⟨b, 0, none⟩)] w fun e w' => e = .returned (.tuple #[]) ∧ w' = w := by
  have c0 := bk_cell h 15 (.slice none 0 0) rfl
  have c2 := bk_cell h 17 (.int .i64 0) rfl
  have cf := bk_thaw h
  have HS := hide (set_cell_same (j := 17) (v := .int .i64 0) h rfl)
  clear h
  go_enter Tryz.func76, Tryz.ntmps76
  go_wp2
  refine wp_loop_rounds 1 ?_
  rw [rounds_succ]
  go_wp2
  go_end0
  exact ⟨rfl, HS.out⟩
set_option maxRecDepth 100000 in
set_option maxHeartbeats 1000000 in
theorem bk_growLines (w : World) (b : Nat) (L M : Value) (A turn done used : Int) (h : w.heap[b]? = some (.cells (bkCells L M A turn done used) 70 (0, 0))) :
    Calls Tryz.prog 77 #[.pointer (some ⟨b, 0, none⟩)] w fun e w' => e = .returned (.tuple #[]) ∧ w' = w := by
  have c0 := bk_cell h 18 (.slice none 0 0) rfl
  have c2 := bk_cell h 20 (.int .i64 0) rfl
  have cf := bk_thaw h
  have HS := hide (set_cell_same (j := 20) (v := .int .i64 0) h rfl)
  clear h
  go_enter Tryz.func77, Tryz.ntmps77
  go_wp2
  refine wp_loop_rounds 1 ?_
  rw [rounds_succ]
  go_wp2
  go_end0
  exact ⟨rfl, HS.out⟩
set_option maxRecDepth 100000 in
set_option maxHeartbeats 1000000 in
theorem bk_growGuards (w : World) (b : Nat) (L M : Value) (A turn done used : Int) (h : w.heap[b]? = some (.cells (bkCells L M A turn done used) 70 (0, 0))) :
    Calls Tryz.prog 78 #[.pointer (some ⟨b, 0, none⟩)] w fun e w' => e = .returned (.tuple #[]) ∧ w' = w := by
  have c0 := bk_cell h 21 (.slice none 0 0) rfl
  have c2 := bk_cell h 23 (.int .i64 0) rfl
  have cf := bk_thaw h
  have HS := hide (set_cell_same (j := 23) (v := .int .i64 0) h rfl)
  clear h
  go_enter Tryz.func78, Tryz.ntmps78
  go_wp2
  refine wp_loop_rounds 1 ?_
  rw [rounds_succ]
  go_wp2
  go_end0
  exact ⟨rfl, HS.out⟩
set_option maxRecDepth 100000 in
set_option maxHeartbeats 1000000 in
theorem bk_growSets (w : World) (b : Nat) (L M : Value) (A turn done used : Int) (h : w.heap[b]? = some (.cells (bkCells L M A turn done used) 70 (0, 0))) :
    Calls Tryz.prog 79 #[.pointer (some ⟨b, 0, none⟩)] w fun e w' => e = .returned (.tuple #[]) ∧ w' = w := by
  have c0 := bk_cell h 24 (.slice none 0 0) rfl
  have c2 := bk_cell h 26 (.int .i64 0) rfl
  have cf := bk_thaw h
  have HS := hide (set_cell_same (j := 26) (v := .int .i64 0) h rfl)
  clear h
  go_enter Tryz.func79, Tryz.ntmps79
  go_wp2
  refine wp_loop_rounds 1 ?_
  rw [rounds_succ]
  go_wp2
  go_end0
  exact ⟨rfl, HS.out⟩
set_option maxRecDepth 100000 in
set_option maxHeartbeats 1000000 in
theorem bk_growRights (w : World) (b : Nat) (L M : Value) (A turn done used : Int) (h : w.heap[b]? = some (.cells (bkCells L M A turn done used) 70 (0, 0))) :
    Calls Tryz.prog 80 #[.pointer (some ⟨b, 0, none⟩)] w fun e w' => e = .returned (.tuple #[]) ∧ w' = w := by
  have c0 := bk_cell h 27 (.slice none 0 0) rfl
  have c2 := bk_cell h 29 (.int .i64 0) rfl
  have cf := bk_thaw h
  have HS := hide (set_cell_same (j := 29) (v := .int .i64 0) h rfl)
  clear h
  go_enter Tryz.func80, Tryz.ntmps80
  go_wp2
  refine wp_loop_rounds 1 ?_
  rw [rounds_succ]
  go_wp2
  go_end0
  exact ⟨rfl, HS.out⟩
set_option maxRecDepth 100000 in
set_option maxHeartbeats 1000000 in
theorem bk_growPrices (w : World) (b : Nat) (L M : Value) (A turn done used : Int) (h : w.heap[b]? = some (.cells (bkCells L M A turn done used) 70 (0, 0))) :
    Calls Tryz.prog 81 #[.pointer (some ⟨b, 0, none⟩)] w fun e w' => e = .returned (.tuple #[]) ∧ w' = w := by
  have c0 := bk_cell h 30 (.slice none 0 0) rfl
  have c2 := bk_cell h 32 (.int .i64 0) rfl
  have cf := bk_thaw h
  have HS := hide (set_cell_same (j := 32) (v := .int .i64 0) h rfl)
  clear h
  go_enter Tryz.func81, Tryz.ntmps81
  go_wp2
  refine wp_loop_rounds 1 ?_
  rw [rounds_succ]
  go_wp2
  go_end0
  exact ⟨rfl, HS.out⟩
set_option maxRecDepth 100000 in
set_option maxHeartbeats 1000000 in
theorem bk_growHelds (w : World) (b : Nat) (L M : Value) (A turn done used : Int) (h : w.heap[b]? = some (.cells (bkCells L M A turn done used) 70 (0, 0))) :
    Calls Tryz.prog 82 #[.pointer (some ⟨b, 0, none⟩)] w fun e w' => e = .returned (.tuple #[]) ∧ w' = w := by
  have c0 := bk_cell h 33 (.slice none 0 0) rfl
  have c2 := bk_cell h 35 (.int .i64 0) rfl
  have cf := bk_thaw h
  have HS := hide (set_cell_same (j := 35) (v := .int .i64 0) h rfl)
  clear h
  go_enter Tryz.func82, Tryz.ntmps82
  go_wp2
  refine wp_loop_rounds 1 ?_
  rw [rounds_succ]
  go_wp2
  go_end0
  exact ⟨rfl, HS.out⟩
set_option maxRecDepth 100000 in
set_option maxHeartbeats 1000000 in
theorem bk_growPools (w : World) (b : Nat) (L M : Value) (A turn done used : Int) (h : w.heap[b]? = some (.cells (bkCells L M A turn done used) 70 (0, 0))) :
    Calls Tryz.prog 83 #[.pointer (some ⟨b, 0, none⟩)] w fun e w' => e = .returned (.tuple #[]) ∧ w' = w := by
  have c0 := bk_cell h 36 (.slice none 0 0) rfl
  have c2 := bk_cell h 38 (.int .i64 0) rfl
  have cf := bk_thaw h
  have HS := hide (set_cell_same (j := 38) (v := .int .i64 0) h rfl)
  clear h
  go_enter Tryz.func83, Tryz.ntmps83
  go_wp2
  refine wp_loop_rounds 1 ?_
  rw [rounds_succ]
  go_wp2
  go_end0
  exact ⟨rfl, HS.out⟩
set_option maxRecDepth 100000 in
set_option maxHeartbeats 1000000 in
theorem bk_growActs (w : World) (b : Nat) (L M : Value) (A turn done used : Int) (h : w.heap[b]? = some (.cells (bkCells L M A turn done used) 70 (0, 0))) :
    Calls Tryz.prog 84 #[.pointer (some ⟨b, 0, none⟩)] w fun e w' => e = .returned (.tuple #[]) ∧ w' = w := by
  have c0 := bk_cell h 39 (.slice none 0 0) rfl
  have c2 := bk_cell h 41 (.int .i64 0) rfl
  have cf := bk_thaw h
  have HS := hide (set_cell_same (j := 41) (v := .int .i64 0) h rfl)
  clear h
  go_enter Tryz.func84, Tryz.ntmps84
  go_wp2
  refine wp_loop_rounds 1 ?_
  rw [rounds_succ]
  go_wp2
  go_end0
  exact ⟨rfl, HS.out⟩
set_option maxRecDepth 100000 in
set_option maxHeartbeats 1000000 in
theorem bk_growEntries (w : World) (b : Nat) (L M : Value) (A turn done used : Int) (h : w.heap[b]? = some (.cells (bkCells L M A turn done used) 70 (0, 0))) :
    Calls Tryz.prog 85 #[.pointer (some ⟨b, 0, none⟩)] w fun e w' => e = .returned (.tuple #[]) ∧ w' = w := by
  have c0 := bk_cell h 42 (.slice none 0 0) rfl
  have c2 := bk_cell h 44 (.int .i64 0) rfl
  have cf := bk_thaw h
  have HS := hide (set_cell_same (j := 44) (v := .int .i64 0) h rfl)
  clear h
  go_enter Tryz.func85, Tryz.ntmps85
  go_wp2
  refine wp_loop_rounds 1 ?_
  rw [rounds_succ]
  go_wp2
  go_end0
  exact ⟨rfl, HS.out⟩
set_option maxRecDepth 100000 in
set_option maxHeartbeats 1000000 in
theorem bk_growFlights (w : World) (b : Nat) (L M : Value) (A turn done used : Int) (h : w.heap[b]? = some (.cells (bkCells L M A turn done used) 70 (0, 0))) :
    Calls Tryz.prog 86 #[.pointer (some ⟨b, 0, none⟩)] w fun e w' => e = .returned (.tuple #[]) ∧ w' = w := by
  have c0 := bk_cell h 45 (.slice none 0 0) rfl
  have c2 := bk_cell h 47 (.int .i64 0) rfl
  have cf := bk_thaw h
  have HS := hide (set_cell_same (j := 47) (v := .int .i64 0) h rfl)
  clear h
  go_enter Tryz.func86, Tryz.ntmps86
  go_wp2
  refine wp_loop_rounds 1 ?_
  rw [rounds_succ]
  go_wp2
  go_end0
  exact ⟨rfl, HS.out⟩
set_option maxRecDepth 100000 in
set_option maxHeartbeats 1000000 in
theorem bk_growFiles (w : World) (b : Nat) (L M : Value) (A turn done used : Int) (h : w.heap[b]? = some (.cells (bkCells L M A turn done used) 70 (0, 0))) :
    Calls Tryz.prog 87 #[.pointer (some ⟨b, 0, none⟩)] w fun e w' => e = .returned (.tuple #[]) ∧ w' = w := by
  have c0 := bk_cell h 48 (.slice none 0 0) rfl
  have c2 := bk_cell h 50 (.int .i64 0) rfl
  have cf := bk_thaw h
  have HS := hide (set_cell_same (j := 50) (v := .int .i64 0) h rfl)
  clear h
  go_enter Tryz.func87, Tryz.ntmps87
  go_wp2
  refine wp_loop_rounds 1 ?_
  rw [rounds_succ]
  go_wp2
  go_end0
  exact ⟨rfl, HS.out⟩
set_option maxRecDepth 100000 in
set_option maxHeartbeats 1000000 in
theorem bk_growItems (w : World) (b : Nat) (L M : Value) (A turn done used : Int) (h : w.heap[b]? = some (.cells (bkCells L M A turn done used) 70 (0, 0))) :
    Calls Tryz.prog 88 #[.pointer (some ⟨b, 0, none⟩)] w fun e w' => e = .returned (.tuple #[]) ∧ w' = w := by
  have c0 := bk_cell h 51 (.slice none 0 0) rfl
  have c2 := bk_cell h 53 (.int .i64 0) rfl
  have cf := bk_thaw h
  have HS := hide (set_cell_same (j := 53) (v := .int .i64 0) h rfl)
  clear h
  go_enter Tryz.func88, Tryz.ntmps88
  go_wp2
  refine wp_loop_rounds 1 ?_
  rw [rounds_succ]
  go_wp2
  go_end0
  exact ⟨rfl, HS.out⟩
end Go.Proofs.YtjcdnclfakmbpaaGreatDoor.Q
namespace Go.Proofs.YtjcdnclfakmbpaaGreatDoor.Q
open Go.RowKit Go.Proofs.YtjcdnclfakmbpaaGreatDoor.U
def mkB (m i : Nat) : Nat := if i % 2 = 0 then 1 + m % 251 else 1 + (7 * m + m / 251) % 251
theorem mkB_lt (m i : Nat) : mkB m i < 256 := by unfold mkB; split <;> omega
def mks (m l : Nat) : List Nat := (List.range l).map (mkB m)
theorem mks_len (m l : Nat) : (mks m l).length = l := by simp [mks]
theorem mks_snoc (m l : Nat) : mks m (l + 1) = mks m l ++ [mkB m l] := by simp [mks, List.range_succ]
set_option maxRecDepth 100000 in
set_option maxHeartbeats 400000 in
theorem at_mark (w : World) (m i : Nat) (hm : m ≤ 1000000000) (hi : i ≤ 140737488355328) :
    Calls Tryz.prog 64 #[.int .i64 m, .int .i64 i] w fun e w' => e = .returned (.int .u8 (mkB m i : Nat)) ∧ w' = w := by
  unfold mkB
  by_cases h : i % 2 = 0
  · rw [if_pos h]
    have h1 : ((i : Int) % 2 == 0) = true := by simp; omega
    have h2 : (i : Int) % 2 = 0 := by omega
    have e1 : (1 : Int) + (m : Int) % 251 = ((1 + m % 251 : Nat) : Int) := by omega
    have e2 : 1 + m % 251 < 256 := by omega
    generalize 1 + m % 251 = x at *
    go_enter Tryz.func64, Tryz.ntmps64
    go_wp2
    go_ret
    exact ⟨rfl, rfl⟩
  · rw [if_neg h]
    have h1 : ((i : Int) % 2 == 0) = false := by simp; omega
    have h2 : ¬ (i : Int) % 2 = 0 := by omega
    have e1 : (1 : Int) + (7 * (m : Int) + (m : Int) / 251) % 251 = ((1 + (7 * m + m / 251) % 251 : Nat) : Int) := by omega
    have e2 : 1 + (7 * m + m / 251) % 251 < 256 := by omega
    generalize 1 + (7 * m + m / 251) % 251 = x at *
    go_enter Tryz.func64, Tryz.ntmps64
    go_wp2
    go_ret
    exact ⟨rfl, rfl⟩
structure Kl where
  p : Option Addr
  l : Nat
  c : Nat
  m : Nat
def Kl.val (k : Kl) : Value := .slice k.p k.l k.c
structure Bk (wr : World) (N b : Nat) (L M : Value) (A turn done used : Nat) (ks : List Kl) : Prop where
  blk : wr.heap[b]? = some (.cells (bkCells L M A turn done used) 70 (0, 0))
  ls : ownsQ false wr N 31 1 L ks.length (ks.map fun k => k.val)
  ms : ownsQ false wr N 3 1 M ks.length (ks.map fun k => .int .i64 (k.m : Int))
  rows : ∀ k ∈ ks, ownsQ true wr N 5 1 k.val k.l (vals (mks k.m k.l))
  num : ∀ k ∈ ks, k.m ≤ 1000000000 ∧ k.l ≤ 100000000000
  most : ks.length ≤ 1000000000
  one : ∀ k ∈ ks, ∀ k' ∈ ks, ∀ g, k.val.ownBlock = some g → k'.val.ownBlock = some g → k.m = k'.m
set_option maxRecDepth 100000 in
set_option maxHeartbeats 2000000 in
theorem bk_plain (w : World) (N b : Nat) (L M : Value) (A turn done used : Nat) (ks : List Kl) (h : Bk w N b L M A turn done used ks) :
    Calls Tryz.prog 66 #[.pointer (some ⟨b, 0, none⟩)] w fun e w' => e = .returned (.bool true) ∧ ∃ q, w' = w.drewN q := by
  have HK := hide h
  have q0 := bk_cell h.blk 0 L rfl
  have q1 := bk_cell h.blk 1 M rfl
  have q3 := bk_cell h.blk 3 (.slice none 0 0) rfl
  obtain ⟨lp, lc, hL⟩ : ∃ p c, L = .slice p ks.length c := by
    rcases h.ls.2 with ⟨h1, h2⟩ | ⟨g, cap, cur, h1, _⟩
    · exact ⟨none, 0, by rw [h1, h2]⟩
    · exact ⟨_, cap, h1⟩
  obtain ⟨mp, mc, hM⟩ : ∃ p c, M = .slice p ks.length c := by
    rcases h.ms.2 with ⟨h1, h2⟩ | ⟨g, cap, cur, h1, _⟩
    · exact ⟨none, 0, by rw [h1, h2]⟩
    · exact ⟨_, cap, h1⟩
  have hmost := h.most
  subst hL
  subst hM
  clear h
  go_enter Tryz.func66, Tryz.ntmps66
  go_wp2
  go_loopw [3] (fun i wr => ∃ (j q : Nat), j ≤ ks.length ∧ i = .int .i64 j ∧ Hid (wr = w.drewN q)) (fun i _ => ks.length - (intOf i).toNat)
  case atStart => exact ⟨0, 0, Nat.zero_le _, rfl, rfl⟩
  case round =>
    obtain ⟨j, q, hj, rfl, HW⟩ := hrel
    have e0 : wr.cell? ⟨b, 0, none⟩ = some (.slice lp ks.length lc) := by rw [HW.out]; exact q0
    have e1 : wr.cell? ⟨b, 1, none⟩ = some (.slice mp ks.length mc) := by rw [HW.out]; exact q1
    have e3 : wr.cell? ⟨b, 3, none⟩ = some (.slice none 0 0) := by rw [HW.out]; exact q3
    by_cases hlt : j < ks.length
    · have hop : ks[j]? = some (ks[j]'hlt) := List.getElem?_eq_getElem _
      obtain ⟨gl, _, hgl, cl0⟩ := row_cell HK.out.ls (k := j) (a := (ks[j]'hlt).val) (by simp [hop])
      obtain ⟨gm, _, hgm, cm0⟩ := row_cell HK.out.ms (k := j) (a := .int .i64 ((ks[j]'hlt).m : Int)) (by simp [hop])
      cases hgl
      cases hgm
      have HR := hide (HK.out.rows _ (List.mem_of_getElem? hop))
      obtain ⟨n1, n2⟩ := HK.out.num _ (List.mem_of_getElem? hop)
      generalize ks[j]'hlt = kl at *
      obtain ⟨p, l, c, m⟩ := kl
      simp only [Kl.val] at cl0 cm0 HR n1 n2
      clear hop
      have l1 : (j : Int) < (ks.length : Int) := by omega
      have l2 : (0 : Int) ≤ (j : Int) := by omega
      go_wp2
      go_loopw [4] (fun i wr => ∃ (i' q : Nat), i' ≤ l ∧ i = .int .i64 i' ∧ Hid (wr = w.drewN q)) (fun i _ => l - (intOf i).toNat)
      case atStart => exact ⟨0, q, Nat.zero_le _, rfl, HW⟩
      case round =>
        clear e0 e1 e3 HW
        obtain ⟨i, q2, hi, rfl, HW⟩ := hrel
        have e0 : wr.cell? ⟨b, 0, none⟩ = some (.slice (some ⟨gl, 0, none⟩) ks.length lc) := by rw [HW.out]; exact q0
        have e1 : wr.cell? ⟨b, 1, none⟩ = some (.slice (some ⟨gm, 0, none⟩) ks.length mc) := by rw [HW.out]; exact q1
        have cl : wr.cell? ⟨gl, j, none⟩ = some (.slice p l c) := by rw [HW.out]; exact cl0
        have cm : wr.cell? ⟨gm, j, none⟩ = some (.int .i64 (m : Int)) := by rw [HW.out]; exact cm0
        by_cases hil : i < l
        · obtain ⟨gx, _, hgx, cx0⟩ := row_cell HR.out (k := i) (a := .int .u8 (mkB m i : Nat)) (by simp [vals, mks, hil])
          cases hgx
          have cx : wr.cell? ⟨gx, i, none⟩ = some (.int .u8 (mkB m i : Nat)) := by rw [HW.out]; exact cx0
          have HA := hide (fun w => at_mark w m i n1 (by omega))
          have hx := mkB_lt m i
          generalize mkB m i = x at *
          have l3 : (i : Int) < (l : Int) := by omega
          have l4 : (0 : Int) ≤ (i : Int) := by omega
          go_wp2
          go_quiet (first | (go_at_call 64; exact Calls.quiet_of_same (HA.out _)))
          go_wp2
          go_roundw
          case rel => exact ⟨i + 1, q2 + nq, by omega, by go_num, by show _ = _; rw [HW.out, World.drewN_drewN]⟩
          case measure => simp [intOf]; omega
        · have l3 : ¬ (i : Int) < (l : Int) := by omega
          go_wp2
          go_roundw
          case rel => exact ⟨j + 1, q2, by omega, by go_num, HW⟩
          case measure => simp [intOf]; omega
    · have l1 : ¬ (j : Int) < (ks.length : Int) := by omega
      go_wp2
      refine wp_loop_rounds 1 ?_
      rw [rounds_succ]
      go_wp2
      go_ret
      exact ⟨rfl, q, HW.out⟩
end Go.Proofs.YtjcdnclfakmbpaaGreatDoor.Q
namespace Go.Proofs.YtjcdnclfakmbpaaGreatDoor.Q
open Go.RowKit Go.Proofs.YtjcdnclfakmbpaaGreatDoor.U
theorem Bk.draws {w : World} {N b : Nat} {L M : Value} {A turn done used : Nat} {ks : List Kl} (h : Bk w N b L M A turn done used ks) (q : Nat) : Bk (w.drewN q) N b L M A turn done used ks :=
  ⟨h.blk, owns_draws q h.ls, owns_draws q h.ms, fun k hk => owns_draws q (h.rows k hk), h.num, h.most, h.one⟩
set_option maxRecDepth 100000 in
set_option maxHeartbeats 400000 in
theorem bk_tight (w : World) (b : Nat) (L M : Value) (A turn done used n : Nat) (hu : used ≤ 16777216) (hn : n ≤ 1000000000000000) (h : w.heap[b]? = some (.cells (bkCells L M A turn done used) 70 (0, 0))) :
    Calls Tryz.prog 65 #[.pointer (some ⟨b, 0, none⟩), .int .i64 n] w fun e w' => (16777216 < used + n ∧ e = .returned (.bool true) ∧ w' = w) ∨ (¬ 16777216 < used + n ∧ e = .returned (.bool false) ∧ w' = w.setCell ⟨b, 56, none⟩ (.int .i64 ((used + n : Nat) : Int))) := by
  have c := bk_cell h 56 (.int .i64 (used : Int)) rfl
  have cf := bk_thaw h
  clear h
  have hs : (used : Int) + (n : Int) = ((used + n : Nat) : Int) := by omega
  have hs2 : used + n ≤ 2000000000000000 := by omega
  generalize used + n = s at *
  by_cases hb : 16777216 < s
  · have l1 : (16777216 : Int) < (s : Int) := by omega
    go_enter Tryz.func65, Tryz.ntmps65
    go_wp2
    go_ret
    show _ ∨ _
    exact Or.inl ⟨hb, rfl, rfl⟩
  · have l1 : ¬ (16777216 : Int) < (s : Int) := by omega
    go_enter Tryz.func65, Tryz.ntmps65
    go_wp2
    go_ret
    exact ⟨rfl, rfl⟩
end Go.Proofs.YtjcdnclfakmbpaaGreatDoor.Q
namespace Go.Proofs.YtjcdnclfakmbpaaGreatDoor.Q
open Go.RowKit Go.Proofs.YtjcdnclfakmbpaaGreatDoor.U
theorem Bk.keep {w w' : World} {N b : Nat} {L M : Value} {A turn done used : Nat} {ks : List Kl} {S : Nat → Prop} (h : Bk w N b L M A turn done used ks) (k : Kept S w w') (h1 : ¬ S b) (h2 : ∀ g, L.ownBlock = some g → ¬ S g) (h3 : ∀ g, M.ownBlock = some g → ¬ S g) (h4 : ∀ x ∈ ks, ∀ g, x.val.ownBlock = some g → ¬ S g) : Bk w' N b L M A turn done used ks :=
  ⟨(k.block b (lt_of_block h.blk) h1).trans h.blk, owns_kept' h.ls (fun g e => k.block g (owns_lt h.ls g e) (h2 g e)), owns_kept' h.ms (fun g e => k.block g (owns_lt h.ms g e) (h3 g e)), fun x hx => owns_kept' (h.rows x hx) (fun g e => k.block g (owns_lt (h.rows x hx) g e) (h4 x hx g e)), h.num, h.most, h.one⟩
theorem Bk.turned {w : World} {N b : Nat} {L M : Value} {A turn done used : Nat} {ks : List Kl} (h : Bk w N b L M A turn done used ks) (t : Nat) : Bk (w.setCell ⟨b, 54, none⟩ (.int .i64 (t : Int))) N b L M A t done used ks := by
  have hs : ∀ j, j ≠ b → (w.setCell ⟨b, 54, none⟩ (.int .i64 (t : Int))).heap[j]? = w.heap[j]? := fun j hj => Below.heap_setCell _ _ _ _ hj
  have hr : ∀ {z0 : Bool} {B0 n : Nat} {ty : TypeId} {v : Value} {xs : List Value}, ownsQ z0 w B0 ty 1 v n xs → 70 ≠ ty → ∀ g, v.ownBlock = some g → (w.setCell ⟨b, 54, none⟩ (.int .i64 (t : Int))).heap[g]? = w.heap[g]? := fun hv ht g e => hs g (fun e' => owns_ne hv h.blk ht (by rw [e, e']))
  exact ⟨by rw [block_set h.blk]; rfl, owns_kept' h.ls (hr h.ls (by decide)), owns_kept' h.ms (hr h.ms (by decide)), fun x hx => owns_kept' (h.rows x hx) (hr (h.rows x hx) (by decide)), h.num, h.most, h.one⟩
theorem Bk.usedUp {w : World} {N b : Nat} {L M : Value} {A turn done used : Nat} {ks : List Kl} (h : Bk w N b L M A turn done used ks) (t : Nat) : Bk (w.setCell ⟨b, 56, none⟩ (.int .i64 (t : Int))) N b L M A turn done t ks := by
  have hs : ∀ j, j ≠ b → (w.setCell ⟨b, 56, none⟩ (.int .i64 (t : Int))).heap[j]? = w.heap[j]? := fun j hj => Below.heap_setCell _ _ _ _ hj
  have hr : ∀ {z0 : Bool} {B0 n : Nat} {ty : TypeId} {v : Value} {xs : List Value}, ownsQ z0 w B0 ty 1 v n xs → 70 ≠ ty → ∀ g, v.ownBlock = some g → (w.setCell ⟨b, 56, none⟩ (.int .i64 (t : Int))).heap[g]? = w.heap[g]? := fun hv ht g e => hs g (fun e' => owns_ne hv h.blk ht (by rw [e, e']))
  exact ⟨by rw [block_set h.blk]; rfl, owns_kept' h.ls (hr h.ls (by decide)), owns_kept' h.ms (hr h.ms (by decide)), fun x hx => owns_kept' (h.rows x hx) (hr (h.rows x hx) (by decide)), h.num, h.most, h.one⟩
theorem Bk.more {w w' : World} {N b : Nat} {L M L' M' : Value} {A turn done used : Nat} {ks : List Kl} {x : Kl} (h : Bk w N b L M A turn done used ks) (k : Kept (fun i => i = b ∨ some i = L.ownBlock ∨ some i = M.ownBlock) w w') (hb : w'.heap[b]? = some (.cells (bkCells L' M' A turn done used) 70 (0, 0)))
    (hl : ownsQ false w' N 31 1 L' (ks.length + 1) ((ks.map fun k => k.val) ++ [x.val])) (hm : ownsQ false w' N 3 1 M' (ks.length + 1) ((ks.map fun k => Value.int .i64 (k.m : Int)) ++ [.int .i64 (x.m : Int)])) (hx : ownsQ true w N 5 1 x.val x.l (vals (mks x.m x.l))) (hn : x.m ≤ 1000000000 ∧ x.l ≤ 100000000000) (hc : ks.length + 1 ≤ 1000000000)
    (ho : ∀ y ∈ ks, ∀ g, y.val.ownBlock = some g → x.val.ownBlock = some g → y.m = x.m) : Bk w' N b L' M' A turn done used (ks ++ [x]) := by
  have hr : ∀ {n : Nat} {v : Value} {xs : List Value}, ownsQ true w N 5 1 v n xs → ownsQ true w' N 5 1 v n xs := fun hv => owns_kept' hv (fun g e => k.block g (owns_lt hv g e) (by
    rintro (e' | e' | e')
    · subst e'; exact owns_ne hv h.blk (by decide) e
    · exact rows_far h.ls hv (by decide) g e'.symm e
    · exact rows_far h.ms hv (by decide) g e'.symm e))
  refine ⟨hb, by simpa using hl, by simpa using hm, fun y hy => ?_, fun y hy => ?_, by simpa using hc, fun y hy z hz g e1 e2 => ?_⟩
  · rcases List.mem_append.1 hy with h' | h'
    · exact hr (h.rows y h')
    · simp at h'; subst h'; exact hr hx
  · rcases List.mem_append.1 hy with h' | h'
    · exact h.num y h'
    · simp at h'; subst h'; exact hn
  · rcases List.mem_append.1 hy with h' | h' <;> rcases List.mem_append.1 hz with h'' | h''
    · exact h.one y h' z h'' g e1 e2
    · simp at h''; subst h''; exact ho y h' g e1 e2
    · simp at h'; subst h'; exact (ho z h'' g e2 e1).symm
    · simp at h' h''; subst h'; subst h''; rfl
end Go.Proofs.YtjcdnclfakmbpaaGreatDoor.Q
namespace Go.Proofs.YtjcdnclfakmbpaaGreatDoor.V
open Go.RowKit Go.Proofs.YtjcdnclfakmbpaaGreatDoor.U Go.Proofs.YtjcdnclfakmbpaaGreatDoor.Q
structure Rv where
  r : Value
  o : Value
  a : Nat
def bkCells (X : Rv) (L M : Value) (A turn done used : Int) : Array Value := #[L, M, .int .i64 A, X.r, X.o, .int .i64 (X.a : Int), .slice none 0 0, .slice none 0 0, .int .i64 0, .slice none 0 0, .slice none 0 0, .int .i64 0, .slice none 0 0, .slice none 0 0, .int .i64 0, .slice none 0 0, .slice none 0 0, .int .i64 0, .slice none 0 0, .slice none 0 0, .int .i64 0, .slice none 0 0, .slice none 0 0, .int .i64 0, .slice none 0 0, .slice none 0 0, .int .i64 0, .slice none 0 0, .slice none 0 0, .int .i64 0, .slice none 0 0, .slice none 0 0, .int .i64 0, .slice none 0 0, .slice none 0 0, .int .i64 0, .slice none 0 0, .slice none 0 0, .int .i64 0, .slice none 0 0, .slice none 0 0, .int .i64 0, .slice none 0 0, .slice none 0 0, .int .i64 0, .slice none 0 0, .slice none 0 0, .int .i64 0, .slice none 0 0, .slice none 0 0, .int .i64 0, .slice none 0 0, .slice none 0 0, .int .i64 0, .int .i64 turn, .int .i64 done, .int .i64 used]
set_option maxRecDepth 100000 in
set_option maxHeartbeats 1000000 in
theorem bk_kept {X : Rv} (w : World) (b : Nat) (L M : Value) (A turn done used : Int) (h : w.heap[b]? = some (.cells (bkCells X L M A turn done used) 70 (0, 0))) :
    Calls Tryz.prog 67 #[.pointer (some ⟨b, 0, none⟩)] w fun e w' => e = .returned (.bool true) ∧ w' = w := by
  have c6 := bk_cell h 6 (.slice none 0 0) rfl
  have c9 := bk_cell h 9 (.slice none 0 0) rfl
  have c12 := bk_cell h 12 (.slice none 0 0) rfl
  have c15 := bk_cell h 15 (.slice none 0 0) rfl
  clear h
  go_enter Tryz.func67, Tryz.ntmps67
  go_wp2
  refine wp_loop_rounds 1 ?_
  rw [rounds_succ]
  go_wp2
  refine wp_loop_rounds 1 ?_
  rw [rounds_succ]
  go_wp2
  refine wp_loop_rounds 1 ?_
  rw [rounds_succ]
  go_wp2
  refine wp_loop_rounds 1 ?_
  rw [rounds_succ]
  go_wp2
  go_ret
  exact ⟨rfl, rfl⟩
set_option maxRecDepth 100000 in
set_option maxHeartbeats 1000000 in
theorem bk_told {X : Rv} (w : World) (b : Nat) (L M : Value) (A turn done used : Int) (h : w.heap[b]? = some (.cells (bkCells X L M A turn done used) 70 (0, 0))) :
    Calls Tryz.prog 68 #[.pointer (some ⟨b, 0, none⟩)] w fun e w' => e = .returned (.bool true) ∧ w' = w := by
  have c18 := bk_cell h 18 (.slice none 0 0) rfl
  have c21 := bk_cell h 21 (.slice none 0 0) rfl
  have c24 := bk_cell h 24 (.slice none 0 0) rfl
  have c27 := bk_cell h 27 (.slice none 0 0) rfl
  clear h
  go_enter Tryz.func68, Tryz.ntmps68
  go_wp2
  refine wp_loop_rounds 1 ?_
  rw [rounds_succ]
  go_wp2
  refine wp_loop_rounds 1 ?_
  rw [rounds_succ]
  go_wp2
  refine wp_loop_rounds 1 ?_
  rw [rounds_succ]
  go_wp2
  refine wp_loop_rounds 1 ?_
  rw [rounds_succ]
  go_wp2
  go_ret
  exact ⟨rfl, rfl⟩
set_option maxRecDepth 100000 in
set_option maxHeartbeats 1000000 in
theorem bk_held {X : Rv} (w : World) (b : Nat) (L M : Value) (A turn done used : Int) (h : w.heap[b]? = some (.cells (bkCells X L M A turn done used) 70 (0, 0))) :
    Calls Tryz.prog 69 #[.pointer (some ⟨b, 0, none⟩)] w fun e w' => e = .returned (.bool true) ∧ w' = w := by
  have c30 := bk_cell h 30 (.slice none 0 0) rfl
  have c33 := bk_cell h 33 (.slice none 0 0) rfl
  have c36 := bk_cell h 36 (.slice none 0 0) rfl
  have c39 := bk_cell h 39 (.slice none 0 0) rfl
  clear h
  go_enter Tryz.func69, Tryz.ntmps69
  go_wp2
  refine wp_loop_rounds 1 ?_
  rw [rounds_succ]
  go_wp2
  refine wp_loop_rounds 1 ?_
  rw [rounds_succ]
  go_wp2
  refine wp_loop_rounds 1 ?_
  rw [rounds_succ]
  go_wp2
  refine wp_loop_rounds 1 ?_
  rw [rounds_succ]
  go_wp2
  go_ret
  exact ⟨rfl, rfl⟩
set_option maxRecDepth 100000 in
set_option maxHeartbeats 1000000 in
theorem bk_sent {X : Rv} (w : World) (b : Nat) (L M : Value) (A turn done used : Int) (h : w.heap[b]? = some (.cells (bkCells X L M A turn done used) 70 (0, 0))) :
    Calls Tryz.prog 70 #[.pointer (some ⟨b, 0, none⟩)] w fun e w' => e = .returned (.bool true) ∧ w' = w := by
  have c42 := bk_cell h 42 (.slice none 0 0) rfl
  have c45 := bk_cell h 45 (.slice none 0 0) rfl
  have c48 := bk_cell h 48 (.slice none 0 0) rfl
  have c51 := bk_cell h 51 (.slice none 0 0) rfl
  clear h
  go_enter Tryz.func70, Tryz.ntmps70
  go_wp2
  refine wp_loop_rounds 1 ?_
  rw [rounds_succ]
  go_wp2
  refine wp_loop_rounds 1 ?_
  rw [rounds_succ]
  go_wp2
  refine wp_loop_rounds 1 ?_
  rw [rounds_succ]
  go_wp2
  refine wp_loop_rounds 1 ?_
  rw [rounds_succ]
  go_wp2
  go_ret
  exact ⟨rfl, rfl⟩
end Go.Proofs.YtjcdnclfakmbpaaGreatDoor.V
namespace Go.Proofs.YtjcdnclfakmbpaaGreatDoor.V
open Go.RowKit Go.Proofs.YtjcdnclfakmbpaaGreatDoor.U Go.Proofs.YtjcdnclfakmbpaaGreatDoor.Q
set_option maxRecDepth 100000 in
set_option maxHeartbeats 1000000 in
theorem bk_growTexts {X : Rv} (w : World) (b : Nat) (L M : Value) (A turn done used : Int) (h : w.heap[b]? = some (.cells (bkCells X L M A turn done used) 70 (0, 0))) :
    Calls Tryz.prog 73 #[.pointer (some ⟨b, 0, none⟩)] w fun e w' => e = .returned (.tuple #[]) ∧ w' = w := by
  have c0 := bk_cell h 6 (.slice none 0 0) rfl
  have c2 := bk_cell h 8 (.int .i64 0) rfl
  have cf := bk_thaw h
  have HS := hide (set_cell_same (j := 8) (v := .int .i64 0) h rfl)
  clear h
  go_enter Tryz.func73, Tryz.ntmps73
  go_wp2
  refine wp_loop_rounds 1 ?_
  rw [rounds_succ]
  go_wp2
  go_end0
  exact ⟨rfl, HS.out⟩
set_option maxRecDepth 100000 in
set_option maxHeartbeats 1000000 in
theorem bk_growInts {X : Rv} (w : World) (b : Nat) (L M : Value) (A turn done used : Int) (h : w.heap[b]? = some (.cells (bkCells X L M A turn done used) 70 (0, 0))) :
    Calls Tryz.prog 74 #[.pointer (some ⟨b, 0, none⟩)] w fun e w' => e = .returned (.tuple #[]) ∧ w' = w := by
  have c0 := bk_cell h 9 (.slice none 0 0) rfl
  have c2 := bk_cell h 11 (.int .i64 0) rfl
  have cf := bk_thaw h
  have HS := hide (set_cell_same (j := 11) (v := .int .i64 0) h rfl)
  clear h
  go_enter Tryz.func74, Tryz.ntmps74
  go_wp2
  refine wp_loop_rounds 1 ?_
  rw [rounds_succ]
  go_wp2
  go_end0
  exact ⟨rfl, HS.out⟩
set_option maxRecDepth 100000 in
set_option maxHeartbeats 1000000 in
theorem bk_growWords {X : Rv} (w : World) (b : Nat) (L M : Value) (A turn done used : Int) (h : w.heap[b]? = some (.cells (bkCells X L M A turn done used) 70 (0, 0))) :
    Calls Tryz.prog 75 #[.pointer (some ⟨b, 0, none⟩)] w fun e w' => e = .returned (.tuple #[]) ∧ w' = w := by
  have c0 := bk_cell h 12 (.slice none 0 0) rfl
  have c2 := bk_cell h 14 (.int .i64 0) rfl
  have cf := bk_thaw h
  have HS := hide (set_cell_same (j := 14) (v := .int .i64 0) h rfl)
  clear h
  go_enter Tryz.func75, Tryz.ntmps75
  go_wp2
  refine wp_loop_rounds 1 ?_
  rw [rounds_succ]
  go_wp2
  go_end0
  exact ⟨rfl, HS.out⟩
set_option maxRecDepth 100000 in
set_option maxHeartbeats 1000000 in
theorem bk_growBools {X : Rv} (w : World) (b : Nat) (L M : Value) (A turn done used : Int) (h : w.heap[b]? = some (.cells (bkCells X L M A turn done used) 70 (0, 0))) :
    Calls Tryz.prog 76 #[.pointer (some ⟨b, 0, none⟩)] w fun e w' => e = .returned (.tuple #[]) ∧ w' = w := by
  have c0 := bk_cell h 15 (.slice none 0 0) rfl
  have c2 := bk_cell h 17 (.int .i64 0) rfl
  have cf := bk_thaw h
  have HS := hide (set_cell_same (j := 17) (v := .int .i64 0) h rfl)
  clear h
  go_enter Tryz.func76, Tryz.ntmps76
  go_wp2
  refine wp_loop_rounds 1 ?_
  rw [rounds_succ]
  go_wp2
  go_end0
  exact ⟨rfl, HS.out⟩
set_option maxRecDepth 100000 in
set_option maxHeartbeats 1000000 in
theorem bk_growLines {X : Rv} (w : World) (b : Nat) (L M : Value) (A turn done used : Int) (h : w.heap[b]? = some (.cells (bkCells X L M A turn done used) 70 (0, 0))) :
    Calls Tryz.prog 77 #[.pointer (some ⟨b, 0, none⟩)] w fun e w' => e = .returned (.tuple #[]) ∧ w' = w := by
  have c0 := bk_cell h 18 (.slice none 0 0) rfl
  have c2 := bk_cell h 20 (.int .i64 0) rfl
  have cf := bk_thaw h
  have HS := hide (set_cell_same (j := 20) (v := .int .i64 0) h rfl)
  clear h
  go_enter Tryz.func77, Tryz.ntmps77
  go_wp2
  refine wp_loop_rounds 1 ?_
  rw [rounds_succ]
  go_wp2
  go_end0
  exact ⟨rfl, HS.out⟩
set_option maxRecDepth 100000 in
set_option maxHeartbeats 1000000 in
theorem bk_growGuards {X : Rv} (w : World) (b : Nat) (L M : Value) (A turn done used : Int) (h : w.heap[b]? = some (.cells (bkCells X L M A turn done used) 70 (0, 0))) :
    Calls Tryz.prog 78 #[.pointer (some ⟨b, 0, none⟩)] w fun e w' => e = .returned (.tuple #[]) ∧ w' = w := by
  have c0 := bk_cell h 21 (.slice none 0 0) rfl
  have c2 := bk_cell h 23 (.int .i64 0) rfl
  have cf := bk_thaw h
  have HS := hide (set_cell_same (j := 23) (v := .int .i64 0) h rfl)
  clear h
  go_enter Tryz.func78, Tryz.ntmps78
  go_wp2
  refine wp_loop_rounds 1 ?_
  rw [rounds_succ]
  go_wp2
  go_end0
  exact ⟨rfl, HS.out⟩
set_option maxRecDepth 100000 in
set_option maxHeartbeats 1000000 in
theorem bk_growSets {X : Rv} (w : World) (b : Nat) (L M : Value) (A turn done used : Int) (h : w.heap[b]? = some (.cells (bkCells X L M A turn done used) 70 (0, 0))) :
    Calls Tryz.prog 79 #[.pointer (some ⟨b, 0, none⟩)] w fun e w' => e = .returned (.tuple #[]) ∧ w' = w := by
  have c0 := bk_cell h 24 (.slice none 0 0) rfl
  have c2 := bk_cell h 26 (.int .i64 0) rfl
  have cf := bk_thaw h
  have HS := hide (set_cell_same (j := 26) (v := .int .i64 0) h rfl)
  clear h
  go_enter Tryz.func79, Tryz.ntmps79
  go_wp2
  refine wp_loop_rounds 1 ?_
  rw [rounds_succ]
  go_wp2
  go_end0
  exact ⟨rfl, HS.out⟩
set_option maxRecDepth 100000 in
set_option maxHeartbeats 1000000 in
theorem bk_growRights {X : Rv} (w : World) (b : Nat) (L M : Value) (A turn done used : Int) (h : w.heap[b]? = some (.cells (bkCells X L M A turn done used) 70 (0, 0))) :
    Calls Tryz.prog 80 #[.pointer (some ⟨b, 0, none⟩)] w fun e w' => e = .returned (.tuple #[]) ∧ w' = w := by
  have c0 := bk_cell h 27 (.slice none 0 0) rfl
  have c2 := bk_cell h 29 (.int .i64 0) rfl
  have cf := bk_thaw h
  have HS := hide (set_cell_same (j := 29) (v := .int .i64 0) h rfl)
  clear h
  go_enter Tryz.func80, Tryz.ntmps80
  go_wp2
  refine wp_loop_rounds 1 ?_
  rw [rounds_succ]
  go_wp2
  go_end0
  exact ⟨rfl, HS.out⟩
set_option maxRecDepth 100000 in
set_option maxHeartbeats 1000000 in
theorem bk_growPrices {X : Rv} (w : World) (b : Nat) (L M : Value) (A turn done used : Int) (h : w.heap[b]? = some (.cells (bkCells X L M A turn done used) 70 (0, 0))) :
    Calls Tryz.prog 81 #[.pointer (some ⟨b, 0, none⟩)] w fun e w' => e = .returned (.tuple #[]) ∧ w' = w := by
  have c0 := bk_cell h 30 (.slice none 0 0) rfl
  have c2 := bk_cell h 32 (.int .i64 0) rfl
  have cf := bk_thaw h
  have HS := hide (set_cell_same (j := 32) (v := .int .i64 0) h rfl)
  clear h
  go_enter Tryz.func81, Tryz.ntmps81
  go_wp2
  refine wp_loop_rounds 1 ?_
  rw [rounds_succ]
  go_wp2
  go_end0
  exact ⟨rfl, HS.out⟩
set_option maxRecDepth 100000 in
set_option maxHeartbeats 1000000 in
theorem bk_growHelds {X : Rv} (w : World) (b : Nat) (L M : Value) (A turn done used : Int) (h : w.heap[b]? = some (.cells (bkCells X L M A turn done used) 70 (0, 0))) :
    Calls Tryz.prog 82 #[.pointer (some ⟨b, 0, none⟩)] w fun e w' => e = .returned (.tuple #[]) ∧ w' = w := by
  have c0 := bk_cell h 33 (.slice none 0 0) rfl
  have c2 := bk_cell h 35 (.int .i64 0) rfl
  have cf := bk_thaw h
  have HS := hide (set_cell_same (j := 35) (v := .int .i64 0) h rfl)
  clear h
  go_enter Tryz.func82, Tryz.ntmps82
  go_wp2
  refine wp_loop_rounds 1 ?_
  rw [rounds_succ]
  go_wp2
  go_end0
  exact ⟨rfl, HS.out⟩
set_option maxRecDepth 100000 in
set_option maxHeartbeats 1000000 in
theorem bk_growPools {X : Rv} (w : World) (b : Nat) (L M : Value) (A turn done used : Int) (h : w.heap[b]? = some (.cells (bkCells X L M A turn done used) 70 (0, 0))) :
    Calls Tryz.prog 83 #[.pointer (some ⟨b, 0, none⟩)] w fun e w' => e = .returned (.tuple #[]) ∧ w' = w := by
  have c0 := bk_cell h 36 (.slice none 0 0) rfl
  have c2 := bk_cell h 38 (.int .i64 0) rfl
  have cf := bk_thaw h
  have HS := hide (set_cell_same (j := 38) (v := .int .i64 0) h rfl)
  clear h
  go_enter Tryz.func83, Tryz.ntmps83
  go_wp2
  refine wp_loop_rounds 1 ?_
  rw [rounds_succ]
  go_wp2
  go_end0
  exact ⟨rfl, HS.out⟩
set_option maxRecDepth 100000 in
set_option maxHeartbeats 1000000 in
theorem bk_growActs {X : Rv} (w : World) (b : Nat) (L M : Value) (A turn done used : Int) (h : w.heap[b]? = some (.cells (bkCells X L M A turn done used) 70 (0, 0))) :
    Calls Tryz.prog 84 #[.pointer (some ⟨b, 0, none⟩)] w fun e w' => e = .returned (.tuple #[]) ∧ w' = w := by
  have c0 := bk_cell h 39 (.slice none 0 0) rfl
  have c2 := bk_cell h 41 (.int .i64 0) rfl
  have cf := bk_thaw h
  have HS := hide (set_cell_same (j := 41) (v := .int .i64 0) h rfl)
  clear h
  go_enter Tryz.func84, Tryz.ntmps84
  go_wp2
  refine wp_loop_rounds 1 ?_
  rw [rounds_succ]
  go_wp2
  go_end0
  exact ⟨rfl, HS.out⟩
set_option maxRecDepth 100000 in
set_option maxHeartbeats 1000000 in
theorem bk_growEntries {X : Rv} (w : World) (b : Nat) (L M : Value) (A turn done used : Int) (h : w.heap[b]? = some (.cells (bkCells X L M A turn done used) 70 (0, 0))) :
    Calls Tryz.prog 85 #[.pointer (some ⟨b, 0, none⟩)] w fun e w' => e = .returned (.tuple #[]) ∧ w' = w := by
  have c0 := bk_cell h 42 (.slice none 0 0) rfl
  have c2 := bk_cell h 44 (.int .i64 0) rfl
  have cf := bk_thaw h
  have HS := hide (set_cell_same (j := 44) (v := .int .i64 0) h rfl)
  clear h
  go_enter Tryz.func85, Tryz.ntmps85
  go_wp2
  refine wp_loop_rounds 1 ?_
  rw [rounds_succ]
  go_wp2
  go_end0
  exact ⟨rfl, HS.out⟩
set_option maxRecDepth 100000 in
set_option maxHeartbeats 1000000 in
theorem bk_growFlights {X : Rv} (w : World) (b : Nat) (L M : Value) (A turn done used : Int) (h : w.heap[b]? = some (.cells (bkCells X L M A turn done used) 70 (0, 0))) :
    Calls Tryz.prog 86 #[.pointer (some ⟨b, 0, none⟩)] w fun e w' => e = .returned (.tuple #[]) ∧ w' = w := by
  have c0 := bk_cell h 45 (.slice none 0 0) rfl
  have c2 := bk_cell h 47 (.int .i64 0) rfl
  have cf := bk_thaw h
  have HS := hide (set_cell_same (j := 47) (v := .int .i64 0) h rfl)
  clear h
  go_enter Tryz.func86, Tryz.ntmps86
  go_wp2
  refine wp_loop_rounds 1 ?_
  rw [rounds_succ]
  go_wp2
  go_end0
  exact ⟨rfl, HS.out⟩
set_option maxRecDepth 100000 in
set_option maxHeartbeats 1000000 in
theorem bk_growFiles {X : Rv} (w : World) (b : Nat) (L M : Value) (A turn done used : Int) (h : w.heap[b]? = some (.cells (bkCells X L M A turn done used) 70 (0, 0))) :
    Calls Tryz.prog 87 #[.pointer (some ⟨b, 0, none⟩)] w fun e w' => e = .returned (.tuple #[]) ∧ w' = w := by
  have c0 := bk_cell h 48 (.slice none 0 0) rfl
  have c2 := bk_cell h 50 (.int .i64 0) rfl
  have cf := bk_thaw h
  have HS := hide (set_cell_same (j := 50) (v := .int .i64 0) h rfl)
  clear h
  go_enter Tryz.func87, Tryz.ntmps87
  go_wp2
  refine wp_loop_rounds 1 ?_
  rw [rounds_succ]
  go_wp2
  go_end0
  exact ⟨rfl, HS.out⟩
set_option maxRecDepth 100000 in
set_option maxHeartbeats 1000000 in
theorem bk_growItems {X : Rv} (w : World) (b : Nat) (L M : Value) (A turn done used : Int) (h : w.heap[b]? = some (.cells (bkCells X L M A turn done used) 70 (0, 0))) :
    Calls Tryz.prog 88 #[.pointer (some ⟨b, 0, none⟩)] w fun e w' => e = .returned (.tuple #[]) ∧ w' = w := by
  have c0 := bk_cell h 51 (.slice none 0 0) rfl
  have c2 := bk_cell h 53 (.int .i64 0) rfl
  have cf := bk_thaw h
  have HS := hide (set_cell_same (j := 53) (v := .int .i64 0) h rfl)
  clear h
  go_enter Tryz.func88, Tryz.ntmps88
  go_wp2
  refine wp_loop_rounds 1 ?_
  rw [rounds_succ]
  go_wp2
  go_end0
  exact ⟨rfl, HS.out⟩
end Go.Proofs.YtjcdnclfakmbpaaGreatDoor.V
namespace Go.Proofs.YtjcdnclfakmbpaaGreatDoor.V
open Go.RowKit Go.Proofs.YtjcdnclfakmbpaaGreatDoor.U Go.Proofs.YtjcdnclfakmbpaaGreatDoor.Q
structure Bk (X : Rv) (wr : World) (N b : Nat) (L M : Value) (A turn done used : Nat) (ks : List Kl) : Prop where
  blk : wr.heap[b]? = some (.cells (bkCells X L M A turn done used) 70 (0, 0))
  ls : ownsQ false wr N 31 1 L ks.length (ks.map fun k => k.val)
  ms : ownsQ false wr N 3 1 M ks.length (ks.map fun k => .int .i64 (k.m : Int))
  rows : ∀ k ∈ ks, ownsQ true wr N 5 1 k.val k.l (vals (mks k.m k.l))
  num : ∀ k ∈ ks, k.m ≤ 1000000000 ∧ k.l ≤ 100000000000
  most : ks.length ≤ 1000000000
  one : ∀ k ∈ ks, ∀ k' ∈ ks, ∀ g, k.val.ownBlock = some g → k'.val.ownBlock = some g → k.m = k'.m
end Go.Proofs.YtjcdnclfakmbpaaGreatDoor.V
namespace Go.Proofs.YtjcdnclfakmbpaaGreatDoor.V
open Go.RowKit Go.Proofs.YtjcdnclfakmbpaaGreatDoor.U Go.Proofs.YtjcdnclfakmbpaaGreatDoor.Q
theorem Bk.draws {X : Rv} {w : World} {N b : Nat} {L M : Value} {A turn done used : Nat} {ks : List Kl} (h : Bk X w N b L M A turn done used ks) (q : Nat) : Bk X (w.drewN q) N b L M A turn done used ks :=
  ⟨h.blk, owns_draws q h.ls, owns_draws q h.ms, fun k hk => owns_draws q (h.rows k hk), h.num, h.most, h.one⟩
set_option maxRecDepth 100000 in
set_option maxHeartbeats 400000 in
theorem bk_tight {X : Rv} (w : World) (b : Nat) (L M : Value) (A turn done used n : Nat) (hu : used ≤ 16777216) (hn : n ≤ 1000000000000000) (h : w.heap[b]? = some (.cells (bkCells X L M A turn done used) 70 (0, 0))) :
    Calls Tryz.prog 65 #[.pointer (some ⟨b, 0, none⟩), .int .i64 n] w fun e w' => (16777216 < used + n ∧ e = .returned (.bool true) ∧ w' = w) ∨ (¬ 16777216 < used + n ∧ e = .returned (.bool false) ∧ w' = w.setCell ⟨b, 56, none⟩ (.int .i64 ((used + n : Nat) : Int))) := by
  have c := bk_cell h 56 (.int .i64 (used : Int)) rfl
  have cf := bk_thaw h
  clear h
  have hs : (used : Int) + (n : Int) = ((used + n : Nat) : Int) := by omega
  have hs2 : used + n ≤ 2000000000000000 := by omega
  generalize used + n = s at *
  by_cases hb : 16777216 < s
  · have l1 : (16777216 : Int) < (s : Int) := by omega
    go_enter Tryz.func65, Tryz.ntmps65
    go_wp2
    go_ret
    show _ ∨ _
    exact Or.inl ⟨hb, rfl, rfl⟩
  · have l1 : ¬ (16777216 : Int) < (s : Int) := by omega
    go_enter Tryz.func65, Tryz.ntmps65
    go_wp2
    go_ret
    exact ⟨rfl, rfl⟩
end Go.Proofs.YtjcdnclfakmbpaaGreatDoor.V
namespace Go.Proofs.YtjcdnclfakmbpaaGreatDoor.V
open Go.RowKit Go.Proofs.YtjcdnclfakmbpaaGreatDoor.U Go.Proofs.YtjcdnclfakmbpaaGreatDoor.Q
theorem Bk.keep {X : Rv} {w w' : World} {N b : Nat} {L M : Value} {A turn done used : Nat} {ks : List Kl} {S : Nat → Prop} (h : Bk X w N b L M A turn done used ks) (k : Kept S w w') (h1 : ¬ S b) (h2 : ∀ g, L.ownBlock = some g → ¬ S g) (h3 : ∀ g, M.ownBlock = some g → ¬ S g) (h4 : ∀ x ∈ ks, ∀ g, x.val.ownBlock = some g → ¬ S g) : Bk X w' N b L M A turn done used ks :=
  ⟨(k.block b (lt_of_block h.blk) h1).trans h.blk, owns_kept' h.ls (fun g e => k.block g (owns_lt h.ls g e) (h2 g e)), owns_kept' h.ms (fun g e => k.block g (owns_lt h.ms g e) (h3 g e)), fun x hx => owns_kept' (h.rows x hx) (fun g e => k.block g (owns_lt (h.rows x hx) g e) (h4 x hx g e)), h.num, h.most, h.one⟩
theorem Bk.turned {X : Rv} {w : World} {N b : Nat} {L M : Value} {A turn done used : Nat} {ks : List Kl} (h : Bk X w N b L M A turn done used ks) (t : Nat) : Bk X (w.setCell ⟨b, 54, none⟩ (.int .i64 (t : Int))) N b L M A t done used ks := by
  have hs : ∀ j, j ≠ b → (w.setCell ⟨b, 54, none⟩ (.int .i64 (t : Int))).heap[j]? = w.heap[j]? := fun j hj => Below.heap_setCell _ _ _ _ hj
  have hr : ∀ {z0 : Bool} {B0 n : Nat} {ty : TypeId} {v : Value} {xs : List Value}, ownsQ z0 w B0 ty 1 v n xs → 70 ≠ ty → ∀ g, v.ownBlock = some g → (w.setCell ⟨b, 54, none⟩ (.int .i64 (t : Int))).heap[g]? = w.heap[g]? := fun hv ht g e => hs g (fun e' => owns_ne hv h.blk ht (by rw [e, e']))
  exact ⟨by rw [block_set h.blk]; rfl, owns_kept' h.ls (hr h.ls (by decide)), owns_kept' h.ms (hr h.ms (by decide)), fun x hx => owns_kept' (h.rows x hx) (hr (h.rows x hx) (by decide)), h.num, h.most, h.one⟩
theorem Bk.usedUp {X : Rv} {w : World} {N b : Nat} {L M : Value} {A turn done used : Nat} {ks : List Kl} (h : Bk X w N b L M A turn done used ks) (t : Nat) : Bk X (w.setCell ⟨b, 56, none⟩ (.int .i64 (t : Int))) N b L M A turn done t ks := by
  have hs : ∀ j, j ≠ b → (w.setCell ⟨b, 56, none⟩ (.int .i64 (t : Int))).heap[j]? = w.heap[j]? := fun j hj => Below.heap_setCell _ _ _ _ hj
  have hr : ∀ {z0 : Bool} {B0 n : Nat} {ty : TypeId} {v : Value} {xs : List Value}, ownsQ z0 w B0 ty 1 v n xs → 70 ≠ ty → ∀ g, v.ownBlock = some g → (w.setCell ⟨b, 56, none⟩ (.int .i64 (t : Int))).heap[g]? = w.heap[g]? := fun hv ht g e => hs g (fun e' => owns_ne hv h.blk ht (by rw [e, e']))
  exact ⟨by rw [block_set h.blk]; rfl, owns_kept' h.ls (hr h.ls (by decide)), owns_kept' h.ms (hr h.ms (by decide)), fun x hx => owns_kept' (h.rows x hx) (hr (h.rows x hx) (by decide)), h.num, h.most, h.one⟩
theorem Bk.more {X : Rv} {w w' : World} {N b : Nat} {L M L' M' : Value} {A turn done used : Nat} {ks : List Kl} {x : Kl} (h : Bk X w N b L M A turn done used ks) (k : Kept (fun i => i = b ∨ some i = L.ownBlock ∨ some i = M.ownBlock) w w') (hb : w'.heap[b]? = some (.cells (bkCells X L' M' A turn done used) 70 (0, 0)))
    (hl : ownsQ false w' N 31 1 L' (ks.length + 1) ((ks.map fun k => k.val) ++ [x.val])) (hm : ownsQ false w' N 3 1 M' (ks.length + 1) ((ks.map fun k => Value.int .i64 (k.m : Int)) ++ [.int .i64 (x.m : Int)])) (hx : ownsQ true w N 5 1 x.val x.l (vals (mks x.m x.l))) (hn : x.m ≤ 1000000000 ∧ x.l ≤ 100000000000) (hc : ks.length + 1 ≤ 1000000000)
    (ho : ∀ y ∈ ks, ∀ g, y.val.ownBlock = some g → x.val.ownBlock = some g → y.m = x.m) : Bk X w' N b L' M' A turn done used (ks ++ [x]) := by
  have hr : ∀ {n : Nat} {v : Value} {xs : List Value}, ownsQ true w N 5 1 v n xs → ownsQ true w' N 5 1 v n xs := fun hv => owns_kept' hv (fun g e => k.block g (owns_lt hv g e) (by
    rintro (e' | e' | e')
    · subst e'; exact owns_ne hv h.blk (by decide) e
    · exact rows_far h.ls hv (by decide) g e'.symm e
    · exact rows_far h.ms hv (by decide) g e'.symm e))
  refine ⟨hb, by simpa using hl, by simpa using hm, fun y hy => ?_, fun y hy => ?_, by simpa using hc, fun y hy z hz g e1 e2 => ?_⟩
  · rcases List.mem_append.1 hy with h' | h'
    · exact hr (h.rows y h')
    · simp at h'; subst h'; exact hr hx
  · rcases List.mem_append.1 hy with h' | h'
    · exact h.num y h'
    · simp at h'; subst h'; exact hn
  · rcases List.mem_append.1 hy with h' | h' <;> rcases List.mem_append.1 hz with h'' | h''
    · exact h.one y h' z h'' g e1 e2
    · simp at h''; subst h''; exact ho y h' g e1 e2
    · simp at h'; subst h'; exact (ho z h'' g e2 e1).symm
    · simp at h' h''; subst h'; subst h''; rfl
end Go.Proofs.YtjcdnclfakmbpaaGreatDoor.V
