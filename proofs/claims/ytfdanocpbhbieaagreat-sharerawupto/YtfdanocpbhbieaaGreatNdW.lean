import Derived.Test.YtfdanocpbhbieaaGreatNdU
import Derived.Laws.BytesArg
import Derived.Lib.JoinLaws
namespace Go.Proofs.YtfdanocpbhbieaaGreat
open Go.RowKit

def lcells (l : List Lin) : List Value := l.flatMap linc
theorem lcells_snoc (l : List Lin) (x : Lin) : lcells (l ++ [x]) = lcells l ++ linc x := by simp [lcells]
theorem lcells_len (l : List Lin) : (lcells l).length = l.length * 2 := by
  induction l with
  | nil => rfl
  | cons x l ih =>
    have : lcells (x :: l) = linc x ++ lcells l := rfl
    rw [this, List.length_append, ih, List.length_cons]
    simp [linc]
    omega
theorem lcells_get (l : List Lin) : ∀ (i : Nat) (x : Lin), l[i]? = some x → ∀ (j : Nat) (v : Value), (linc x)[j]? = some v → (lcells l)[i * 2 + j]? = some v := by
  induction l with
  | nil => intro i x h; simp at h
  | cons y l ih =>
    intro i x h j v hv
    have e : lcells (y :: l) = .int .i64 y.c :: .int .i64 y.n :: lcells l := rfl
    cases i with
    | zero =>
      simp at h
      subst h
      rw [e, Nat.zero_mul, Nat.zero_add]
      match j, hv with
      | 0, hv => exact hv
      | 1, hv => exact hv
      | j + 2, hv => simp [linc] at hv
    | succ i =>
      have := ih i x (by simpa using h) j v hv
      rw [e, show (i + 1) * 2 + j = i * 2 + j + 1 + 1 by omega]
      rw [List.getElem?_cons_succ, List.getElem?_cons_succ]
      exact this
theorem lcells_one (l : List Lin) : ∀ u ∈ lcells l, u.oneCell' = true := by
  intro u hu
  obtain ⟨x, _, hx⟩ := List.mem_flatMap.1 hu
  simp [linc] at hx
  rcases hx with rfl | rfl <;> rfl
theorem lcel_row {w : World} {B n c : Nat} {a : Option Addr} {l : List Lin} {e : TypeId} (h : w.ownsRow B e 2 (.slice a n c) n (lcells l)) : Cel w a 2 (l.map linc) := by
  cases l with
  | nil => exact Or.inl rfl
  | cons y l =>
    obtain ⟨g, e1, hg, _⟩ := row_cell h (i := 0) (u := .int .i64 y.c) rfl
    refine Or.inr ⟨g, 0, e1, hg, fun i r hr j v hv => ?_⟩
    rw [List.getElem?_map] at hr
    cases hx : (y :: l)[i]? with
    | none => rw [hx] at hr; simp at hr
    | some x =>
      rw [hx] at hr
      simp at hr
      subst hr
      obtain ⟨g', e2, _, hc⟩ := row_cell h (lcells_get _ i x hx j v hv)
      rw [e1] at e2
      cases e2
      rw [Nat.zero_add]
      exact hc
/-- Cells one by one. -/
theorem cel_cells {w : World} {p : Option Addr} {l : List Lin} {b o : Nat} (hp : p = some ⟨b, o, none⟩) (h : Cel w p 2 (l.map linc)) : ∀ (t : Nat) (u : Value), (lcells l)[t]? = some u → w.cell? ((⟨b, o, none⟩ : Addr).add t) = some u := by
  intro t u hu
  have ht : t < l.length * 2 := by
    rcases Nat.lt_or_ge t (lcells l).length with h' | h'
    · rw [lcells_len] at h'; exact h'
    · rw [List.getElem?_eq_none h'] at hu; cases hu
  have hx : l[t / 2]? = some l[t / 2] := List.getElem?_eq_getElem (by omega)
  obtain ⟨b', o', e, _, hc⟩ := h.get (i := t / 2) (r := linc l[t / 2]) (by rw [List.getElem?_map, hx]; rfl)
  rw [hp] at e
  cases e
  have e2 : t = t / 2 * 2 + t % 2 := by omega
  have hm : t % 2 < 2 := Nat.mod_lt _ (by omega)
  obtain ⟨v, hv⟩ : ∃ v, (linc l[t / 2])[t % 2]? = some v := ⟨_, List.getElem?_eq_getElem (show t % 2 < 2 from hm)⟩
  have h1 := lcells_get l (t / 2) _ hx (t % 2) v hv
  rw [← e2, hu] at h1
  cases h1
  have h2 := hc (t % 2) _ hv
  have ea : (⟨b, o, none⟩ : Addr).add t = ⟨b, o + t / 2 * 2 + t % 2, none⟩ := by
    unfold Addr.add
    rw [Nat.add_assoc, ← e2]
    simp
  rw [ea]
  exact h2
theorem cel_lins {w : World} {p : Option Addr} {l : List Lin} (h : Cel w p 2 (l.map linc)) : Lins w.heap.size w p l := by
  rcases h with h | ⟨b, o, e, hb, hc⟩
  · left; simpa using h
  · refine Or.inr ⟨b, o, e, hb, fun i x hx => ?_⟩
    have hr : (l.map linc)[i]? = some (linc x) := by rw [List.getElem?_map, hx]; rfl
    have h0 := hc i _ hr 0 _ rfl
    rw [Nat.add_zero] at h0
    exact ⟨h0, hc i _ hr 1 _ rfl⟩
theorem line_info : (Tryz.prog.info? 87).map (fun i => (i.zero, i.size, i.bytes)) = some (some (.agg #[.int .i64 0, .int .i64 0]), 2, 16) := by kernel_rfl
theorem run_append_zero {P : Program} (w : World) (t ty e : TypeId) (i : TypeInfo) (ht : P.underlying t = some (.slice e)) (hi : P.info? e = some i) (bp : Option Addr) (n cap : Nat) (hn : n ≤ cap) (sp : Option Addr) (c : Nat) :
    (Builtin.append_ #[t, t] ty #[.slice bp n cap, .slice sp 0 c]).run P w = .ok (.slice bp n cap) w := by
  have hl : ∀ (x : Addr), (loadCells x 0).run P w = .ok #[] w := fun x => by simpa using run_loadCells_list (P := P) w x [] (by simp)
  cases bp <;> cases sp <;> simp [Builtin.append_, run_underlying ht, sizeOf, typeInfo, hi, Builtin.lenOf, Builtin.firstCells, storeCells, hl, hn]
theorem wpList_append_zero {P : Program} {w : World} {ops : Array Oper} {rest : List Oper} {o : Oper} {a : Act} {Q : Exit → Act → World → Prop} (hgd : o.guard = none) (s x : Operand) (t : TypeId)
    (ho : o.op = .call { callee := .builtin .append, args := #[s, x], argTypes := #[t, t] }) (e : TypeId) (i : TypeInfo) (ht : P.underlying t = some (.slice e)) (hi : P.info? e = some i)
    (bp : Option Addr) (n cap : Nat) (hn : n ≤ cap) (hs : a.eval s = .slice bp n cap) (sp : Option Addr) (c : Nat) (hx : a.eval x = .slice sp 0 c)
    (h : wpList P ops Q rest (a.put o.dst (.slice bp n cap)) w) : wpList P ops Q (o :: rest) a w := by
  refine wpList_plain hgd fun K hK => ?_
  have hrun := run_append_zero (P := P) w t o.type e i ht hi bp n cap hn sp c
  unfold Oper.wp
  simp [execOp, ho, resolve, invoke, builtin, hs, hx, hrun, Result.andThen]
  exact hK _ _ h
theorem owns_le2 {w : World} {B n cap g s : Nat} {t : TypeId} {ys : List Value} (h : w.ownsRow B t s (.slice (some ⟨g, 0, none⟩) n cap) n ys) : n ≤ cap ∧ B ≤ g ∧ g < w.heap.size := by
  rcases h.2 with ⟨h1, _⟩ | ⟨g', cap', cur, h1, h2, hg, h3, _⟩
  · cases h1
  · cases h1; exact ⟨h3, h2, ac_lt hg⟩
/-- 'append(x, l...)', x not nil, l any lines, none too. -/
theorem wpList_append_lines {w : World} {ops : Array Oper} {rest : List Oper} {o : Oper} {a : Act} {Q : Exit → Act → World → Prop} (hgd : o.guard = none) (s x : Operand)
    (ho : o.op = .call { callee := .builtin .append, args := #[s, x], argTypes := #[53, 53] }) (B g0 n cap0 : Nat) (ys : List Value)
    (hs : a.eval s = .slice (some ⟨g0, 0, none⟩) n cap0) (hown : w.ownsRow B 87 2 (.slice (some ⟨g0, 0, none⟩) n cap0) n ys) (sp : Option Addr) (m c : Nat) (xs : List Lin) (hx : a.eval x = .slice sp m c) (hm : xs.length = m) (hb : Cel w sp 2 (xs.map linc))
    (h63 : n + m ≤ 1099511627776) (hB : B ≤ w.heap.size)
    (h : ∀ g cap w', w'.ownsRow B 87 2 (.slice (some ⟨g, 0, none⟩) (n + m) cap) (n + m) (ys ++ lcells xs) → w.grownBy w' (some g0) → wpList Tryz.prog ops Q rest (a.put o.dst (.slice (some ⟨g, 0, none⟩) (n + m) cap)) w') :
    wpList Tryz.prog ops Q (o :: rest) a w := by
  obtain ⟨i0, hi, hz0, hz1, hz2⟩ := info_parts line_info
  by_cases h0 : m = 0
  · subst h0
    have hxs : xs = [] := List.eq_nil_of_length_eq_zero hm
    subst hxs
    refine wpList_append_zero hgd s x 53 ho 87 i0 Tryz.underlying53 hi _ n cap0 (owns_le2 hown).1 hs sp c hx ?_
    exact h g0 cap0 w (by simpa [lcells] using hown) ⟨rfl, rfl, rfl, Nat.le_refl _, fun _ _ _ => rfl⟩
  · rcases hb with hb0 | ⟨g, o', e, hg, hc⟩
    · exfalso
      have : xs = [] := by simpa using hb0
      rw [this] at hm
      exact h0 hm.symm
    · have hcs := cel_cells e (Or.inr ⟨g, o', e, hg, hc⟩)
      rw [e] at hx
      refine wpList_append_lies _ hgd s x 53 ho B 87 i0 (.agg #[.int .i64 0, .int .i64 0]) 2 16 Tryz.underlying53 hi hz0 hz1 hz2 rfl (by omega) _ n ys hs hown ⟨g, o', none⟩ m c (lcells xs) hx (by rw [lcells_len, hm]) hcs (lcells_one xs) (by omega) (by unfold maxLen; omega) (by omega) hB _ rfl ?_
      intro g' cap w' h1 h2 _ _
      exact h g' cap w' h1 h2
def lmk : Lin := ⟨777, 7⟩
def lmarks : List Lin := List.replicate 9 lmk
theorem lmarks_take (k : Nat) (h : k < 9) : lmarks.take (k + 1) = lmarks.take k ++ [lmk] := take_snoc (List.getElem?_replicate_of_lt h)

set_option maxRecDepth 100000 in
set_option maxHeartbeats 1000000 in
theorem lendLines_any (w : World) (sp : Option Addr) (m cap : Nat) (xs : List Lin) (hm : xs.length = m) (hx : Cel w sp 2 (xs.map linc)) (hlen : m ≤ 1073741824) :
    Calls Tryz.prog 6 #[.slice sp m cap] w fun e w' => ∃ g c', e = .returned (.slice (some ⟨g, 0, none⟩) m c') ∧ w'.ownsRow w.heap.size 87 2 (.slice (some ⟨g, 0, none⟩) (m + 9) c') (m + 9) (lcells (xs ++ lmarks)) ∧ Below w.heap.size w w' := by
  have HX := hide hx
  have HM := hide hm
  clear hx hm
  obtain ⟨M, hMi, hMn⟩ : ∃ M : Nat, (m : Int) + 9 = (M : Int) ∧ M = m + 9 := ⟨m + 9, by omega, rfl⟩
  have HMn := hide hMn
  have hM1 : M ≤ 1073741900 := by omega
  clear hMn
  obtain ⟨i0, hi, hz0, hz1, hz2⟩ := info_parts line_info
  obtain ⟨w1, hmk, hown1, hb1⟩ := run_make_own (P := Tryz.prog) w w.heap.size 53 87 i0 (.agg #[.int .i64 0, .int .i64 0]) 2 Tryz.underlying53 hi hz0 hz1 .i64 .i64 M (by rw [hz2]; omega) (by unfold maxLen; omega) (Nat.le_refl _)
  have HO1 := hide hown1
  have HB1 : Hid (Below w.heap.size w w1) := (Below.refl _ w).grown hb1 (Nat.le_refl _) (fun k e => by cases e)
  clear hown1 hb1
  go_enter Tryz.func6, Tryz.ntmps6
  go_wp2_with (at_builtin; refine wpList_append_lines rfl (.tmp 9) (.tmp 10) rfl w.heap.size _ 0 M [] rfl HO1.out sp m cap xs rfl HM.out (HX.out.below HB1.out) (by omega) HB1.out.size ?_; intro g c w2 hown2 hgrow2)
  have HO2 := hide hown2
  have HB2 : Hid (Below w.heap.size w w2) := HB1.out.grown hgrow2 HB1.out.size (fun k e => by cases e; exact Nat.le_refl _)
  clear hown2 hgrow2 HO1 HB1 hmk
  go_wp2
  go_loopw [3, 4] (fun l i wr => ∃ (k g c : Nat), k ≤ 9 ∧ i = .int .i64 k ∧ l = .slice (some ⟨g, 0, none⟩) (m + k) c ∧ Hid (wr.ownsRow w.heap.size 87 2 (.slice (some ⟨g, 0, none⟩) (m + k) c) (m + k) (lcells (xs ++ lmarks.take k))) ∧ Hid (Below w.heap.size w wr)) (fun _ i _ => 9 - (intOf i).toNat)
  case atStart => exact ⟨0, g, c, by omega, rfl, by simp, by simpa using HO2, HB2⟩
  case round =>
    obtain ⟨k, g, c, hk, rfl, rfl, HO, HB⟩ := hrel
    by_cases hlt : k < 9
    · have hlt' : (k : Int) < 9 := by omega
      have HT := hide (lmarks_take k hlt)
      go_wp2_with (at_builtin; refine wpList_append_lies _ rfl (.tmp 16) (.tmp 18) 53 rfl w.heap.size 87 i0 (.agg #[.int .i64 0, .int .i64 0]) 2 16 Tryz.underlying53 hi hz0 hz1 hz2 rfl (by omega) _ _ _ rfl (HO.out.alloc _) ⟨wr.heap.size, 0, none⟩ 1 1 [.int .i64 777, .int .i64 7] rfl rfl (two_new _ _ _ _) (by simp [Value.oneCell']) (by omega) (by unfold maxLen; omega) (by omega) (by have := HB.out.size; simp; omega) _ rfl ?_; intro g1 c1 w3 hown3 hgrow3 hat3 hlt3; have HO3 := hide hown3; have HB3 : Hid (Below w.heap.size w w3) := (HB.out.alloc HB.out.size _).grown hgrow3 (by have := HB.out.size; simp; omega) (fun k e => by cases e; exact (owns_le2 HO.out).2.1); clear hown3 hgrow3 hat3 hlt3)
      go_roundw
      case rel => exact ⟨k + 1, g1, c1, by omega, by go_num, by simp [Nat.add_assoc], by rw [HT.out, ← List.append_assoc, lcells_snoc]; exact HO3, HB3⟩
      case measure => simp [intOf]; omega
    · obtain rfl : k = 9 := by omega
      have hc := (owns_le2 HO.out).1
      have HE : Hid (wr.ownsRow w.heap.size 87 2 (.slice (some ⟨g, 0, none⟩) (m + 9) c) (m + 9) (lcells (xs ++ lmarks))) := HO.out
      go_wp2
      go_ret
      exact ⟨g, c, rfl, HE.out, HB.out⟩
end Go.Proofs.YtfdanocpbhbieaaGreat
namespace Go.Proofs.YtfdanocpbhbieaaGreat
open Go.RowKit

theorem cel_prefix {w : World} {p : Option Addr} {xs ys : List Lin} (h : Cel w p 2 ((xs ++ ys).map linc)) : Cel w p 2 (xs.map linc) := by
  rcases h with h | ⟨b, o, e, hb, hc⟩
  · left
    rw [List.map_append, List.append_eq_nil_iff] at h
    exact h.1
  · refine Or.inr ⟨b, o, e, hb, fun i r hr => hc i r ?_⟩
    rw [List.map_append, List.getElem?_append_left]
    · exact hr
    · rcases Nat.lt_or_ge i (xs.map linc).length with h' | h'
      · exact h'
      · rw [List.getElem?_eq_none h'] at hr; cases hr

set_option maxRecDepth 100000 in
set_option maxHeartbeats 1000000 in
theorem backLines_any (w : World) (sp : Option Addr) (m cap g c : Nat) (xs : List Lin) (hm : xs.length = m) (hx : Cel w sp 2 (xs.map linc)) (hlen : m ≤ 1073741824) (B : Nat) (hr : w.ownsRow B 87 2 (.slice (some ⟨g, 0, none⟩) (m + 9) c) (m + 9) (lcells (xs ++ lmarks))) :
    Calls Tryz.prog 12 #[.slice (some ⟨g, 0, none⟩) m c, .slice sp m cap] w fun e w' => e = .returned (.bool true) ∧ Below w.heap.size w w' := by
  have hcl := lcel_row hr
  have HEq := hide (eqLines_any w (some ⟨g, 0, none⟩) sp m m c cap xs xs hm hm (by omega) (cel_prefix hcl) hx true (by simp))
  have HCl := hide hcl
  have hcap := (owns_le2 hr).1
  have HM := hide hm
  obtain ⟨M, hMi, hMn⟩ : ∃ M : Nat, (m : Int) + 9 = (M : Int) ∧ M = m + 9 := ⟨m + 9, by omega, rfl⟩
  have hM1 : M ≤ c := by omega
  have hM2 : m ≤ M := by omega
  have HMn := hide hMn
  clear hx hr hcl hm hMn
  go_enter Tryz.func12, Tryz.ntmps12
  go_wp2_with (go_at_call 37; refine HEq.out.mono ?_; rintro e w1 ⟨rfl, hb1⟩; have HB1 := hide hb1; clear hb1)
  go_loopw [6] (fun i wr => ∃ k : Nat, k ≤ 9 ∧ i = .int .i64 ((m + k : Nat) : Int) ∧ Hid (Below w.heap.size w wr)) (fun i _ => m + 9 - (intOf i).toNat)
  case atStart => exact ⟨0, by omega, by simp, HB1⟩
  case round =>
    obtain ⟨k, hk, rfl, HB⟩ := hrel
    by_cases hlt : k < 9
    · have hlt' : ((m + k : Nat) : Int) < (M : Int) := by have := HMn.out; omega
      have i0 : (0 : Int) ≤ ((m + k : Nat) : Int) := by omega
      obtain ⟨b, o, e, hbl, hc⟩ := HCl.out.get (i := m + k) (r := linc lmk) (by
        rw [List.getElem?_map, List.getElem?_append_right (by rw [HM.out]; omega), HM.out, Nat.add_sub_cancel_left]
        unfold lmarks
        rw [List.getElem?_replicate_of_lt hlt]
        rfl)
      cases e
      have a0 : wr.cell? ⟨g, 0 + (m + k) * 2 + 0, none⟩ = some (.int .i64 777) := (HB.out.cell (p := ⟨g, 0 + (m + k) * 2 + 0, none⟩) hbl).trans (hc 0 _ rfl)
      have a1 : wr.cell? ⟨g, 0 + (m + k) * 2 + 1, none⟩ = some (.int .i64 7) := (HB.out.cell (p := ⟨g, 0 + (m + k) * 2 + 1, none⟩) hbl).trans (hc 1 _ rfl)
      rw [Nat.zero_add, Nat.add_zero] at a0
      rw [Nat.zero_add] at a1
      clear hc
      obtain ⟨q, hq⟩ : ∃ q, m + k = q := ⟨_, rfl⟩
      have HQ := hide hq
      have hq2 : q + 1 ≤ 1073741900 := by omega
      rw [hq] at hlt' i0 a0 a1 ⊢
      clear hq
      go_wp2
      go_roundw
      case rel => exact ⟨k + 1, by omega, by have := HQ.out; rw [← this]; go_num, HB⟩
      case measure => have := HQ.out; simp [intOf]; omega
    · have e1 : ¬ ((m + k : Nat) : Int) < (M : Int) := by have := HMn.out; omega
      go_wp2
      go_ret
      exact ⟨rfl, HB.out⟩
end Go.Proofs.YtfdanocpbhbieaaGreat
