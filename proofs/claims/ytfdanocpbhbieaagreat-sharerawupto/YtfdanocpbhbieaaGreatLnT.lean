import Derived.Test.YtfdanocpbhbieaaGreatNdW
import Derived.Test.YtfdanocpbhbieaaGreatLnE
namespace Go.Proofs.YtfdanocpbhbieaaGreat
open Go.RowKit

theorem rcells_one (l : List Tri) : ∀ u ∈ rcells l, u.oneCell' = true := by
  intro u hu
  obtain ⟨x, _, hx⟩ := List.mem_flatMap.1 hu
  simp [tric] at hx
  rcases hx with rfl | rfl | rfl <;> rfl
/-- Cells one by one. -/
theorem cel_cells3 {w : World} {p : Option Addr} {l : List Tri} {b o : Nat} (hp : p = some ⟨b, o, none⟩) (h : Cel w p 3 (l.map tric)) : ∀ (t : Nat) (u : Value), (rcells l)[t]? = some u → w.cell? ((⟨b, o, none⟩ : Addr).add t) = some u := by
  intro t u hu
  have ht : t < l.length * 3 := by
    rcases Nat.lt_or_ge t (rcells l).length with h' | h'
    · rw [rcells_len] at h'; exact h'
    · rw [List.getElem?_eq_none h'] at hu; cases hu
  have hx : l[t / 3]? = some l[t / 3] := List.getElem?_eq_getElem (by omega)
  obtain ⟨b', o', e, _, hc⟩ := h.get (i := t / 3) (r := tric l[t / 3]) (by rw [List.getElem?_map, hx]; rfl)
  rw [hp] at e
  cases e
  have e2 : t = t / 3 * 3 + t % 3 := by omega
  have hm : t % 3 < 3 := Nat.mod_lt _ (by omega)
  obtain ⟨v, hv⟩ : ∃ v, (tric l[t / 3])[t % 3]? = some v := ⟨_, List.getElem?_eq_getElem (show t % 3 < 3 from hm)⟩
  have h1 := rcells_get l (t / 3) _ hx (t % 3) v hv
  rw [← e2, hu] at h1
  cases h1
  have h2 := hc (t % 3) _ hv
  have ea : (⟨b, o, none⟩ : Addr).add t = ⟨b, o + t / 3 * 3 + t % 3, none⟩ := by
    unfold Addr.add
    rw [Nat.add_assoc, ← e2]
    simp
  rw [ea]
  exact h2
theorem cel_prefix3 {w : World} {p : Option Addr} {xs ys : List Tri} (h : Cel w p 3 ((xs ++ ys).map tric)) : Cel w p 3 (xs.map tric) := by
  rcases h with h | ⟨b, o, e, hb, hc⟩
  · left
    rw [List.map_append, List.append_eq_nil_iff] at h
    exact h.1
  · refine Or.inr ⟨b, o, e, hb, fun i r hr => hc i r ?_⟩
    rw [List.map_append, List.getElem?_append_left]
    · exact hr
    · rcases Nat.lt_or_ge i (xs.map tric).length with h' | h'
      · exact h'
      · rw [List.getElem?_eq_none h'] at hr; cases hr

theorem guard_info : (Tryz.prog.info? 139).map (fun i => (i.zero, i.size, i.bytes)) = some (some (.agg #[.int .i64 0, .int .i64 0, .int .i64 0]), 3, 24) := by kernel_rfl
/-- 'append(x, l...)', x not nil, l any lines, none too. -/
theorem wpList_append_Guards {w : World} {ops : Array Oper} {rest : List Oper} {o : Oper} {a : Act} {Q : Exit → Act → World → Prop} (hgd : o.guard = none) (s x : Operand)
    (ho : o.op = .call { callee := .builtin .append, args := #[s, x], argTypes := #[77, 77] }) (B g0 n cap0 : Nat) (ys : List Value)
    (hs : a.eval s = .slice (some ⟨g0, 0, none⟩) n cap0) (hown : w.ownsRow B 139 3 (.slice (some ⟨g0, 0, none⟩) n cap0) n ys) (sp : Option Addr) (m c : Nat) (xs : List Tri) (hx : a.eval x = .slice sp m c) (hm : xs.length = m) (hb : Cel w sp 3 (xs.map tric))
    (h63 : n + m ≤ 1099511627776) (hB : B ≤ w.heap.size)
    (h : ∀ g cap w', w'.ownsRow B 139 3 (.slice (some ⟨g, 0, none⟩) (n + m) cap) (n + m) (ys ++ rcells xs) → w.grownBy w' (some g0) → wpList Tryz.prog ops Q rest (a.put o.dst (.slice (some ⟨g, 0, none⟩) (n + m) cap)) w') :
    wpList Tryz.prog ops Q (o :: rest) a w := by
  obtain ⟨i0, hi, hz0, hz1, hz2⟩ := info_parts guard_info
  by_cases h0 : m = 0
  · subst h0
    have hxs : xs = [] := List.eq_nil_of_length_eq_zero hm
    subst hxs
    refine wpList_append_zero hgd s x 77 ho 139 i0 Tryz.underlying77 hi _ n cap0 (owns_le2 hown).1 hs sp c hx ?_
    exact h g0 cap0 w (by simpa [rcells] using hown) ⟨rfl, rfl, rfl, Nat.le_refl _, fun _ _ _ => rfl⟩
  · rcases hb with hb0 | ⟨g, o', e, hg, hc⟩
    · exfalso
      have : xs = [] := by simpa using hb0
      rw [this] at hm
      exact h0 hm.symm
    · have hcs := cel_cells3 e (Or.inr ⟨g, o', e, hg, hc⟩)
      rw [e] at hx
      refine wpList_append_lies _ hgd s x 77 ho B 139 i0 (.agg #[.int .i64 0, .int .i64 0, .int .i64 0]) 3 24 Tryz.underlying77 hi hz0 hz1 hz2 rfl (by omega) _ n ys hs hown ⟨g, o', none⟩ m c (rcells xs) hx (by rw [rcells_len, hm]) hcs (rcells_one xs) (by omega) (by unfold maxLen; omega) (by omega) hB _ rfl ?_
      intro g' cap w' h1 h2 _ _
      exact h g' cap w' h1 h2
def mkGuards : Tri := ⟨777, 0, 0⟩
def marksGuards : List Tri := List.replicate 9 mkGuards
theorem marksGuards_take (k : Nat) (h : k < 9) : marksGuards.take (k + 1) = marksGuards.take k ++ [mkGuards] := take_snoc (List.getElem?_replicate_of_lt h)
set_option maxRecDepth 100000 in
set_option maxHeartbeats 1000000 in
theorem lendGuards_any (w : World) (sp : Option Addr) (m cap : Nat) (xs : List Tri) (hm : xs.length = m) (hx : Cel w sp 3 (xs.map tric)) (hlen : m ≤ 1073741824) :
    Calls Tryz.prog 42 #[.slice sp m cap] w fun e w' => ∃ g c', e = .returned (.slice (some ⟨g, 0, none⟩) m c') ∧ w'.ownsRow w.heap.size 139 3 (.slice (some ⟨g, 0, none⟩) (m + 9) c') (m + 9) (rcells (xs ++ marksGuards)) ∧ Below w.heap.size w w' := by
  have HX := hide hx
  have HM := hide hm
  clear hx hm
  obtain ⟨M, hMi, hMn⟩ : ∃ M : Nat, (m : Int) + 9 = (M : Int) ∧ M = m + 9 := ⟨m + 9, by omega, rfl⟩
  have HMn := hide hMn
  have hM1 : M ≤ 1073741900 := by omega
  clear hMn
  obtain ⟨i0, hi, hz0, hz1, hz2⟩ := info_parts guard_info
  obtain ⟨w1, hmk, hown1, hb1⟩ := run_make_own (P := Tryz.prog) w w.heap.size 77 139 i0 (.agg #[.int .i64 0, .int .i64 0, .int .i64 0]) 3 Tryz.underlying77 hi hz0 hz1 .i64 .i64 M (by rw [hz2]; omega) (by unfold maxLen; omega) (Nat.le_refl _)
  have HO1 := hide hown1
  have HB1 : Hid (Below w.heap.size w w1) := (Below.refl _ w).grown hb1 (Nat.le_refl _) (fun k e => by cases e)
  clear hown1 hb1
  go_enter Tryz.func42, Tryz.ntmps42
  go_wp2_with (at_builtin; refine wpList_append_Guards rfl (.tmp 9) (.tmp 10) rfl w.heap.size _ 0 M [] rfl HO1.out sp m cap xs rfl HM.out (HX.out.below HB1.out) (by omega) HB1.out.size ?_; intro g c w2 hown2 hgrow2)
  have HO2 := hide hown2
  have HB2 : Hid (Below w.heap.size w w2) := HB1.out.grown hgrow2 HB1.out.size (fun k e => by cases e; exact Nat.le_refl _)
  clear hown2 hgrow2 HO1 HB1 hmk
  go_wp2
  go_loopw [3, 4] (fun l i wr => ∃ (k g c : Nat), k ≤ 9 ∧ i = .int .i64 k ∧ l = .slice (some ⟨g, 0, none⟩) (m + k) c ∧ Hid (wr.ownsRow w.heap.size 139 3 (.slice (some ⟨g, 0, none⟩) (m + k) c) (m + k) (rcells (xs ++ marksGuards.take k))) ∧ Hid (Below w.heap.size w wr)) (fun _ i _ => 9 - (intOf i).toNat)
  case atStart => exact ⟨0, g, c, by omega, rfl, by simp, by simpa using HO2, HB2⟩
  case round =>
    obtain ⟨k, g, c, hk, rfl, rfl, HO, HB⟩ := hrel
    by_cases hlt : k < 9
    · have hlt' : (k : Int) < 9 := by omega
      have HT := hide (marksGuards_take k hlt)
      go_wp2_with (at_builtin; refine wpList_append_lies _ rfl (.tmp 16) (.tmp 18) 77 rfl w.heap.size 139 i0 (.agg #[.int .i64 0, .int .i64 0, .int .i64 0]) 3 24 Tryz.underlying77 hi hz0 hz1 hz2 rfl (by omega) _ _ _ rfl (HO.out.alloc _) ⟨wr.heap.size, 0, none⟩ 1 1 [.int .i64 777, .int .i64 0, .int .i64 0] rfl rfl (three_new _ _ _ _ _) (by simp [Value.oneCell']) (by omega) (by unfold maxLen; omega) (by omega) (by have := HB.out.size; simp; omega) _ rfl ?_; intro g1 c1 w3 hown3 hgrow3 hat3 hlt3; have HO3 := hide hown3; have HB3 : Hid (Below w.heap.size w w3) := (HB.out.alloc HB.out.size _).grown hgrow3 (by have := HB.out.size; simp; omega) (fun k e => by cases e; exact (owns_le2 HO.out).2.1); clear hown3 hgrow3 hat3 hlt3)
      go_roundw
      case rel => exact ⟨k + 1, g1, c1, by omega, by go_num, by simp [Nat.add_assoc], by rw [HT.out, ← List.append_assoc, rcells_snoc]; exact HO3, HB3⟩
      case measure => simp [intOf]; omega
    · obtain rfl : k = 9 := by omega
      have hc := (owns_le2 HO.out).1
      have HE : Hid (wr.ownsRow w.heap.size 139 3 (.slice (some ⟨g, 0, none⟩) (m + 9) c) (m + 9) (rcells (xs ++ marksGuards))) := HO.out
      go_wp2
      go_ret
      exact ⟨g, c, rfl, HE.out, HB.out⟩
set_option maxRecDepth 100000 in
set_option maxHeartbeats 1000000 in
theorem backGuards_any (w : World) (sp : Option Addr) (m cap g c : Nat) (xs : List Tri) (hm : xs.length = m) (hx : Cel w sp 3 (xs.map tric)) (hlen : m ≤ 1073741824) (B : Nat) (hr : w.ownsRow B 139 3 (.slice (some ⟨g, 0, none⟩) (m + 9) c) (m + 9) (rcells (xs ++ marksGuards))) :
    Calls Tryz.prog 60 #[.slice (some ⟨g, 0, none⟩) m c, .slice sp m cap] w fun e w' => e = .returned (.bool true) ∧ Below w.heap.size w w' := by
  have hcl := cel_row hr
  have HEq := hide (eqGuards_any w (some ⟨g, 0, none⟩) sp m m c cap xs xs hm hm (by omega) (cel_prefix3 hcl) hx true (by simp))
  have HCl := hide hcl
  have hcap := (owns_le2 hr).1
  have HM := hide hm
  obtain ⟨M, hMi, hMn⟩ : ∃ M : Nat, (m : Int) + 9 = (M : Int) ∧ M = m + 9 := ⟨m + 9, by omega, rfl⟩
  have hM1 : M ≤ c := by omega
  have hM2 : m ≤ M := by omega
  have HMn := hide hMn
  clear hx hr hcl hm hMn
  go_enter Tryz.func60, Tryz.ntmps60
  go_wp2_with (go_at_call 58; refine HEq.out.mono ?_; rintro e w1 ⟨rfl, hb1⟩; have HB1 := hide hb1; clear hb1)
  go_loopw [6] (fun i wr => ∃ k : Nat, k ≤ 9 ∧ i = .int .i64 ((m + k : Nat) : Int) ∧ Hid (Below w.heap.size w wr)) (fun i _ => m + 9 - (intOf i).toNat)
  case atStart => exact ⟨0, by omega, by simp, HB1⟩
  case round =>
    obtain ⟨k, hk, rfl, HB⟩ := hrel
    by_cases hlt : k < 9
    · have hlt' : ((m + k : Nat) : Int) < (M : Int) := by have := HMn.out; omega
      have i0 : (0 : Int) ≤ ((m + k : Nat) : Int) := by omega
      obtain ⟨b, o, e, hbl, hc⟩ := HCl.out.get (i := m + k) (r := tric mkGuards) (by
        rw [List.getElem?_map, List.getElem?_append_right (by rw [HM.out]; omega), HM.out, Nat.add_sub_cancel_left]
        unfold marksGuards
        rw [List.getElem?_replicate_of_lt hlt]
        rfl)
      cases e
      have a0 : wr.cell? ⟨g, 0 + (m + k) * 3 + 0, none⟩ = some (.int .i64 777) := (HB.out.cell (p := ⟨g, 0 + (m + k) * 3 + 0, none⟩) hbl).trans (hc 0 _ rfl)
      have a1 : wr.cell? ⟨g, 0 + (m + k) * 3 + 1, none⟩ = some (.int .i64 0) := (HB.out.cell (p := ⟨g, 0 + (m + k) * 3 + 1, none⟩) hbl).trans (hc 1 _ rfl)
      have a2 : wr.cell? ⟨g, 0 + (m + k) * 3 + 2, none⟩ = some (.int .i64 0) := (HB.out.cell (p := ⟨g, 0 + (m + k) * 3 + 2, none⟩) hbl).trans (hc 2 _ rfl)
      rw [Nat.zero_add, Nat.add_zero] at a0
      rw [Nat.zero_add] at a1 a2
      clear hc
      obtain ⟨q, hq⟩ : ∃ q, m + k = q := ⟨_, rfl⟩
      have HQ := hide hq
      have hq2 : q + 1 ≤ 1073741900 := by omega
      rw [hq] at hlt' i0 a0 a1 a2 ⊢
      clear hq
      go_wp2
      go_roundw
      case rel => exact ⟨k + 1, by omega, by have := HQ.out; rw [← this]; go_num, HB⟩
      case measure => have := HQ.out; simp [intOf]; omega
    · have e1 : ¬ ((m + k : Nat) : Int) < (M : Int) := by have := HMn.out; omega
      go_wp2
      go_ret
      exact ⟨rfl, HB.out⟩
theorem set_info : (Tryz.prog.info? 141).map (fun i => (i.zero, i.size, i.bytes)) = some (some (.agg #[.int .i64 0, .int .i64 0, .int .i64 0]), 3, 24) := by kernel_rfl
/-- 'append(x, l...)', x not nil, l any lines, none too. -/
theorem wpList_append_Sets {w : World} {ops : Array Oper} {rest : List Oper} {o : Oper} {a : Act} {Q : Exit → Act → World → Prop} (hgd : o.guard = none) (s x : Operand)
    (ho : o.op = .call { callee := .builtin .append, args := #[s, x], argTypes := #[78, 78] }) (B g0 n cap0 : Nat) (ys : List Value)
    (hs : a.eval s = .slice (some ⟨g0, 0, none⟩) n cap0) (hown : w.ownsRow B 141 3 (.slice (some ⟨g0, 0, none⟩) n cap0) n ys) (sp : Option Addr) (m c : Nat) (xs : List Tri) (hx : a.eval x = .slice sp m c) (hm : xs.length = m) (hb : Cel w sp 3 (xs.map tric))
    (h63 : n + m ≤ 1099511627776) (hB : B ≤ w.heap.size)
    (h : ∀ g cap w', w'.ownsRow B 141 3 (.slice (some ⟨g, 0, none⟩) (n + m) cap) (n + m) (ys ++ rcells xs) → w.grownBy w' (some g0) → wpList Tryz.prog ops Q rest (a.put o.dst (.slice (some ⟨g, 0, none⟩) (n + m) cap)) w') :
    wpList Tryz.prog ops Q (o :: rest) a w := by
  obtain ⟨i0, hi, hz0, hz1, hz2⟩ := info_parts set_info
  by_cases h0 : m = 0
  · subst h0
    have hxs : xs = [] := List.eq_nil_of_length_eq_zero hm
    subst hxs
    refine wpList_append_zero hgd s x 78 ho 141 i0 Tryz.underlying78 hi _ n cap0 (owns_le2 hown).1 hs sp c hx ?_
    exact h g0 cap0 w (by simpa [rcells] using hown) ⟨rfl, rfl, rfl, Nat.le_refl _, fun _ _ _ => rfl⟩
  · rcases hb with hb0 | ⟨g, o', e, hg, hc⟩
    · exfalso
      have : xs = [] := by simpa using hb0
      rw [this] at hm
      exact h0 hm.symm
    · have hcs := cel_cells3 e (Or.inr ⟨g, o', e, hg, hc⟩)
      rw [e] at hx
      refine wpList_append_lies _ hgd s x 78 ho B 141 i0 (.agg #[.int .i64 0, .int .i64 0, .int .i64 0]) 3 24 Tryz.underlying78 hi hz0 hz1 hz2 rfl (by omega) _ n ys hs hown ⟨g, o', none⟩ m c (rcells xs) hx (by rw [rcells_len, hm]) hcs (rcells_one xs) (by omega) (by unfold maxLen; omega) (by omega) hB _ rfl ?_
      intro g' cap w' h1 h2 _ _
      exact h g' cap w' h1 h2
def mkSets : Tri := ⟨777, 0, 0⟩
def marksSets : List Tri := List.replicate 9 mkSets
theorem marksSets_take (k : Nat) (h : k < 9) : marksSets.take (k + 1) = marksSets.take k ++ [mkSets] := take_snoc (List.getElem?_replicate_of_lt h)
set_option maxRecDepth 100000 in
set_option maxHeartbeats 1000000 in
theorem lendSets_any (w : World) (sp : Option Addr) (m cap : Nat) (xs : List Tri) (hm : xs.length = m) (hx : Cel w sp 3 (xs.map tric)) (hlen : m ≤ 1073741824) :
    Calls Tryz.prog 43 #[.slice sp m cap] w fun e w' => ∃ g c', e = .returned (.slice (some ⟨g, 0, none⟩) m c') ∧ w'.ownsRow w.heap.size 141 3 (.slice (some ⟨g, 0, none⟩) (m + 9) c') (m + 9) (rcells (xs ++ marksSets)) ∧ Below w.heap.size w w' := by
  have HX := hide hx
  have HM := hide hm
  clear hx hm
  obtain ⟨M, hMi, hMn⟩ : ∃ M : Nat, (m : Int) + 9 = (M : Int) ∧ M = m + 9 := ⟨m + 9, by omega, rfl⟩
  have HMn := hide hMn
  have hM1 : M ≤ 1073741900 := by omega
  clear hMn
  obtain ⟨i0, hi, hz0, hz1, hz2⟩ := info_parts set_info
  obtain ⟨w1, hmk, hown1, hb1⟩ := run_make_own (P := Tryz.prog) w w.heap.size 78 141 i0 (.agg #[.int .i64 0, .int .i64 0, .int .i64 0]) 3 Tryz.underlying78 hi hz0 hz1 .i64 .i64 M (by rw [hz2]; omega) (by unfold maxLen; omega) (Nat.le_refl _)
  have HO1 := hide hown1
  have HB1 : Hid (Below w.heap.size w w1) := (Below.refl _ w).grown hb1 (Nat.le_refl _) (fun k e => by cases e)
  clear hown1 hb1
  go_enter Tryz.func43, Tryz.ntmps43
  go_wp2_with (at_builtin; refine wpList_append_Sets rfl (.tmp 9) (.tmp 10) rfl w.heap.size _ 0 M [] rfl HO1.out sp m cap xs rfl HM.out (HX.out.below HB1.out) (by omega) HB1.out.size ?_; intro g c w2 hown2 hgrow2)
  have HO2 := hide hown2
  have HB2 : Hid (Below w.heap.size w w2) := HB1.out.grown hgrow2 HB1.out.size (fun k e => by cases e; exact Nat.le_refl _)
  clear hown2 hgrow2 HO1 HB1 hmk
  go_wp2
  go_loopw [3, 4] (fun l i wr => ∃ (k g c : Nat), k ≤ 9 ∧ i = .int .i64 k ∧ l = .slice (some ⟨g, 0, none⟩) (m + k) c ∧ Hid (wr.ownsRow w.heap.size 141 3 (.slice (some ⟨g, 0, none⟩) (m + k) c) (m + k) (rcells (xs ++ marksSets.take k))) ∧ Hid (Below w.heap.size w wr)) (fun _ i _ => 9 - (intOf i).toNat)
  case atStart => exact ⟨0, g, c, by omega, rfl, by simp, by simpa using HO2, HB2⟩
  case round =>
    obtain ⟨k, g, c, hk, rfl, rfl, HO, HB⟩ := hrel
    by_cases hlt : k < 9
    · have hlt' : (k : Int) < 9 := by omega
      have HT := hide (marksSets_take k hlt)
      go_wp2_with (at_builtin; refine wpList_append_lies _ rfl (.tmp 16) (.tmp 18) 78 rfl w.heap.size 141 i0 (.agg #[.int .i64 0, .int .i64 0, .int .i64 0]) 3 24 Tryz.underlying78 hi hz0 hz1 hz2 rfl (by omega) _ _ _ rfl (HO.out.alloc _) ⟨wr.heap.size, 0, none⟩ 1 1 [.int .i64 777, .int .i64 0, .int .i64 0] rfl rfl (three_new _ _ _ _ _) (by simp [Value.oneCell']) (by omega) (by unfold maxLen; omega) (by omega) (by have := HB.out.size; simp; omega) _ rfl ?_; intro g1 c1 w3 hown3 hgrow3 hat3 hlt3; have HO3 := hide hown3; have HB3 : Hid (Below w.heap.size w w3) := (HB.out.alloc HB.out.size _).grown hgrow3 (by have := HB.out.size; simp; omega) (fun k e => by cases e; exact (owns_le2 HO.out).2.1); clear hown3 hgrow3 hat3 hlt3)
      go_roundw
      case rel => exact ⟨k + 1, g1, c1, by omega, by go_num, by simp [Nat.add_assoc], by rw [HT.out, ← List.append_assoc, rcells_snoc]; exact HO3, HB3⟩
      case measure => simp [intOf]; omega
    · obtain rfl : k = 9 := by omega
      have hc := (owns_le2 HO.out).1
      have HE : Hid (wr.ownsRow w.heap.size 141 3 (.slice (some ⟨g, 0, none⟩) (m + 9) c) (m + 9) (rcells (xs ++ marksSets))) := HO.out
      go_wp2
      go_ret
      exact ⟨g, c, rfl, HE.out, HB.out⟩
set_option maxRecDepth 100000 in
set_option maxHeartbeats 1000000 in
theorem backSets_any (w : World) (sp : Option Addr) (m cap g c : Nat) (xs : List Tri) (hm : xs.length = m) (hx : Cel w sp 3 (xs.map tric)) (hlen : m ≤ 1073741824) (B : Nat) (hr : w.ownsRow B 141 3 (.slice (some ⟨g, 0, none⟩) (m + 9) c) (m + 9) (rcells (xs ++ marksSets))) :
    Calls Tryz.prog 61 #[.slice (some ⟨g, 0, none⟩) m c, .slice sp m cap] w fun e w' => e = .returned (.bool true) ∧ Below w.heap.size w w' := by
  have hcl := cel_row hr
  have HEq := hide (eqSets_any w (some ⟨g, 0, none⟩) sp m m c cap xs xs hm hm (by omega) (cel_prefix3 hcl) hx true (by simp))
  have HCl := hide hcl
  have hcap := (owns_le2 hr).1
  have HM := hide hm
  obtain ⟨M, hMi, hMn⟩ : ∃ M : Nat, (m : Int) + 9 = (M : Int) ∧ M = m + 9 := ⟨m + 9, by omega, rfl⟩
  have hM1 : M ≤ c := by omega
  have hM2 : m ≤ M := by omega
  have HMn := hide hMn
  clear hx hr hcl hm hMn
  go_enter Tryz.func61, Tryz.ntmps61
  go_wp2_with (go_at_call 59; refine HEq.out.mono ?_; rintro e w1 ⟨rfl, hb1⟩; have HB1 := hide hb1; clear hb1)
  go_loopw [6] (fun i wr => ∃ k : Nat, k ≤ 9 ∧ i = .int .i64 ((m + k : Nat) : Int) ∧ Hid (Below w.heap.size w wr)) (fun i _ => m + 9 - (intOf i).toNat)
  case atStart => exact ⟨0, by omega, by simp, HB1⟩
  case round =>
    obtain ⟨k, hk, rfl, HB⟩ := hrel
    by_cases hlt : k < 9
    · have hlt' : ((m + k : Nat) : Int) < (M : Int) := by have := HMn.out; omega
      have i0 : (0 : Int) ≤ ((m + k : Nat) : Int) := by omega
      obtain ⟨b, o, e, hbl, hc⟩ := HCl.out.get (i := m + k) (r := tric mkSets) (by
        rw [List.getElem?_map, List.getElem?_append_right (by rw [HM.out]; omega), HM.out, Nat.add_sub_cancel_left]
        unfold marksSets
        rw [List.getElem?_replicate_of_lt hlt]
        rfl)
      cases e
      have a0 : wr.cell? ⟨g, 0 + (m + k) * 3 + 0, none⟩ = some (.int .i64 777) := (HB.out.cell (p := ⟨g, 0 + (m + k) * 3 + 0, none⟩) hbl).trans (hc 0 _ rfl)
      have a1 : wr.cell? ⟨g, 0 + (m + k) * 3 + 1, none⟩ = some (.int .i64 0) := (HB.out.cell (p := ⟨g, 0 + (m + k) * 3 + 1, none⟩) hbl).trans (hc 1 _ rfl)
      have a2 : wr.cell? ⟨g, 0 + (m + k) * 3 + 2, none⟩ = some (.int .i64 0) := (HB.out.cell (p := ⟨g, 0 + (m + k) * 3 + 2, none⟩) hbl).trans (hc 2 _ rfl)
      rw [Nat.zero_add, Nat.add_zero] at a0
      rw [Nat.zero_add] at a1 a2
      clear hc
      obtain ⟨q, hq⟩ : ∃ q, m + k = q := ⟨_, rfl⟩
      have HQ := hide hq
      have hq2 : q + 1 ≤ 1073741900 := by omega
      rw [hq] at hlt' i0 a0 a1 a2 ⊢
      clear hq
      go_wp2
      go_roundw
      case rel => exact ⟨k + 1, by omega, by have := HQ.out; rw [← this]; go_num, HB⟩
      case measure => have := HQ.out; simp [intOf]; omega
    · have e1 : ¬ ((m + k : Nat) : Int) < (M : Int) := by have := HMn.out; omega
      go_wp2
      go_ret
      exact ⟨rfl, HB.out⟩
/-- 'append(x, l...)', x not nil, l any lines, none too. -/
theorem wpList_append_Rights {w : World} {ops : Array Oper} {rest : List Oper} {o : Oper} {a : Act} {Q : Exit → Act → World → Prop} (hgd : o.guard = none) (s x : Operand)
    (ho : o.op = .call { callee := .builtin .append, args := #[s, x], argTypes := #[60, 60] }) (B g0 n cap0 : Nat) (ys : List Value)
    (hs : a.eval s = .slice (some ⟨g0, 0, none⟩) n cap0) (hown : w.ownsRow B 82 3 (.slice (some ⟨g0, 0, none⟩) n cap0) n ys) (sp : Option Addr) (m c : Nat) (xs : List Tri) (hx : a.eval x = .slice sp m c) (hm : xs.length = m) (hb : Cel w sp 3 (xs.map tric))
    (h63 : n + m ≤ 1099511627776) (hB : B ≤ w.heap.size)
    (h : ∀ g cap w', w'.ownsRow B 82 3 (.slice (some ⟨g, 0, none⟩) (n + m) cap) (n + m) (ys ++ rcells xs) → w.grownBy w' (some g0) → wpList Tryz.prog ops Q rest (a.put o.dst (.slice (some ⟨g, 0, none⟩) (n + m) cap)) w') :
    wpList Tryz.prog ops Q (o :: rest) a w := by
  obtain ⟨i0, hi, hz0, hz1, hz2⟩ := info_parts right_info
  by_cases h0 : m = 0
  · subst h0
    have hxs : xs = [] := List.eq_nil_of_length_eq_zero hm
    subst hxs
    refine wpList_append_zero hgd s x 60 ho 82 i0 Tryz.underlying60 hi _ n cap0 (owns_le2 hown).1 hs sp c hx ?_
    exact h g0 cap0 w (by simpa [rcells] using hown) ⟨rfl, rfl, rfl, Nat.le_refl _, fun _ _ _ => rfl⟩
  · rcases hb with hb0 | ⟨g, o', e, hg, hc⟩
    · exfalso
      have : xs = [] := by simpa using hb0
      rw [this] at hm
      exact h0 hm.symm
    · have hcs := cel_cells3 e (Or.inr ⟨g, o', e, hg, hc⟩)
      rw [e] at hx
      refine wpList_append_lies _ hgd s x 60 ho B 82 i0 (.agg #[.int .i64 0, .int .i64 0, .int .i64 0]) 3 24 Tryz.underlying60 hi hz0 hz1 hz2 rfl (by omega) _ n ys hs hown ⟨g, o', none⟩ m c (rcells xs) hx (by rw [rcells_len, hm]) hcs (rcells_one xs) (by omega) (by unfold maxLen; omega) (by omega) hB _ rfl ?_
      intro g' cap w' h1 h2 _ _
      exact h g' cap w' h1 h2
def mkRights : Tri := ⟨777, 0, 0⟩
def marksRights : List Tri := List.replicate 9 mkRights
theorem marksRights_take (k : Nat) (h : k < 9) : marksRights.take (k + 1) = marksRights.take k ++ [mkRights] := take_snoc (List.getElem?_replicate_of_lt h)
set_option maxRecDepth 100000 in
set_option maxHeartbeats 1000000 in
theorem lendRights_any (w : World) (sp : Option Addr) (m cap : Nat) (xs : List Tri) (hm : xs.length = m) (hx : Cel w sp 3 (xs.map tric)) (hlen : m ≤ 1073741824) :
    Calls Tryz.prog 44 #[.slice sp m cap] w fun e w' => ∃ g c', e = .returned (.slice (some ⟨g, 0, none⟩) m c') ∧ w'.ownsRow w.heap.size 82 3 (.slice (some ⟨g, 0, none⟩) (m + 9) c') (m + 9) (rcells (xs ++ marksRights)) ∧ Below w.heap.size w w' := by
  have HX := hide hx
  have HM := hide hm
  clear hx hm
  obtain ⟨M, hMi, hMn⟩ : ∃ M : Nat, (m : Int) + 9 = (M : Int) ∧ M = m + 9 := ⟨m + 9, by omega, rfl⟩
  have HMn := hide hMn
  have hM1 : M ≤ 1073741900 := by omega
  clear hMn
  obtain ⟨i0, hi, hz0, hz1, hz2⟩ := info_parts right_info
  obtain ⟨w1, hmk, hown1, hb1⟩ := run_make_own (P := Tryz.prog) w w.heap.size 60 82 i0 (.agg #[.int .i64 0, .int .i64 0, .int .i64 0]) 3 Tryz.underlying60 hi hz0 hz1 .i64 .i64 M (by rw [hz2]; omega) (by unfold maxLen; omega) (Nat.le_refl _)
  have HO1 := hide hown1
  have HB1 : Hid (Below w.heap.size w w1) := (Below.refl _ w).grown hb1 (Nat.le_refl _) (fun k e => by cases e)
  clear hown1 hb1
  go_enter Tryz.func44, Tryz.ntmps44
  go_wp2_with (at_builtin; refine wpList_append_Rights rfl (.tmp 9) (.tmp 10) rfl w.heap.size _ 0 M [] rfl HO1.out sp m cap xs rfl HM.out (HX.out.below HB1.out) (by omega) HB1.out.size ?_; intro g c w2 hown2 hgrow2)
  have HO2 := hide hown2
  have HB2 : Hid (Below w.heap.size w w2) := HB1.out.grown hgrow2 HB1.out.size (fun k e => by cases e; exact Nat.le_refl _)
  clear hown2 hgrow2 HO1 HB1 hmk
  go_wp2
  go_loopw [3, 4] (fun l i wr => ∃ (k g c : Nat), k ≤ 9 ∧ i = .int .i64 k ∧ l = .slice (some ⟨g, 0, none⟩) (m + k) c ∧ Hid (wr.ownsRow w.heap.size 82 3 (.slice (some ⟨g, 0, none⟩) (m + k) c) (m + k) (rcells (xs ++ marksRights.take k))) ∧ Hid (Below w.heap.size w wr)) (fun _ i _ => 9 - (intOf i).toNat)
  case atStart => exact ⟨0, g, c, by omega, rfl, by simp, by simpa using HO2, HB2⟩
  case round =>
    obtain ⟨k, g, c, hk, rfl, rfl, HO, HB⟩ := hrel
    by_cases hlt : k < 9
    · have hlt' : (k : Int) < 9 := by omega
      have HT := hide (marksRights_take k hlt)
      go_wp2_with (at_builtin; refine wpList_append_lies _ rfl (.tmp 16) (.tmp 18) 60 rfl w.heap.size 82 i0 (.agg #[.int .i64 0, .int .i64 0, .int .i64 0]) 3 24 Tryz.underlying60 hi hz0 hz1 hz2 rfl (by omega) _ _ _ rfl (HO.out.alloc _) ⟨wr.heap.size, 0, none⟩ 1 1 [.int .i64 777, .int .i64 0, .int .i64 0] rfl rfl (three_new _ _ _ _ _) (by simp [Value.oneCell']) (by omega) (by unfold maxLen; omega) (by omega) (by have := HB.out.size; simp; omega) _ rfl ?_; intro g1 c1 w3 hown3 hgrow3 hat3 hlt3; have HO3 := hide hown3; have HB3 : Hid (Below w.heap.size w w3) := (HB.out.alloc HB.out.size _).grown hgrow3 (by have := HB.out.size; simp; omega) (fun k e => by cases e; exact (owns_le2 HO.out).2.1); clear hown3 hgrow3 hat3 hlt3)
      go_roundw
      case rel => exact ⟨k + 1, g1, c1, by omega, by go_num, by simp [Nat.add_assoc], by rw [HT.out, ← List.append_assoc, rcells_snoc]; exact HO3, HB3⟩
      case measure => simp [intOf]; omega
    · obtain rfl : k = 9 := by omega
      have hc := (owns_le2 HO.out).1
      have HE : Hid (wr.ownsRow w.heap.size 82 3 (.slice (some ⟨g, 0, none⟩) (m + 9) c) (m + 9) (rcells (xs ++ marksRights))) := HO.out
      go_wp2
      go_ret
      exact ⟨g, c, rfl, HE.out, HB.out⟩
set_option maxRecDepth 100000 in
set_option maxHeartbeats 1000000 in
theorem backRights_any (w : World) (sp : Option Addr) (m cap g c : Nat) (xs : List Tri) (hm : xs.length = m) (hx : Cel w sp 3 (xs.map tric)) (hlen : m ≤ 1073741824) (B : Nat) (hr : w.ownsRow B 82 3 (.slice (some ⟨g, 0, none⟩) (m + 9) c) (m + 9) (rcells (xs ++ marksRights))) :
    Calls Tryz.prog 62 #[.slice (some ⟨g, 0, none⟩) m c, .slice sp m cap] w fun e w' => e = .returned (.bool true) ∧ Below w.heap.size w w' := by
  have hcl := cel_row hr
  have HEq := hide (eqRights_any w (some ⟨g, 0, none⟩) sp m m c cap xs xs hm hm (by omega) (cel_prefix3 hcl) hx true (by simp))
  have HCl := hide hcl
  have hcap := (owns_le2 hr).1
  have HM := hide hm
  obtain ⟨M, hMi, hMn⟩ : ∃ M : Nat, (m : Int) + 9 = (M : Int) ∧ M = m + 9 := ⟨m + 9, by omega, rfl⟩
  have hM1 : M ≤ c := by omega
  have hM2 : m ≤ M := by omega
  have HMn := hide hMn
  clear hx hr hcl hm hMn
  go_enter Tryz.func62, Tryz.ntmps62
  go_wp2_with (go_at_call 40; refine HEq.out.mono ?_; rintro e w1 ⟨rfl, hb1⟩; have HB1 := hide hb1; clear hb1)
  go_loopw [6] (fun i wr => ∃ k : Nat, k ≤ 9 ∧ i = .int .i64 ((m + k : Nat) : Int) ∧ Hid (Below w.heap.size w wr)) (fun i _ => m + 9 - (intOf i).toNat)
  case atStart => exact ⟨0, by omega, by simp, HB1⟩
  case round =>
    obtain ⟨k, hk, rfl, HB⟩ := hrel
    by_cases hlt : k < 9
    · have hlt' : ((m + k : Nat) : Int) < (M : Int) := by have := HMn.out; omega
      have i0 : (0 : Int) ≤ ((m + k : Nat) : Int) := by omega
      obtain ⟨b, o, e, hbl, hc⟩ := HCl.out.get (i := m + k) (r := tric mkRights) (by
        rw [List.getElem?_map, List.getElem?_append_right (by rw [HM.out]; omega), HM.out, Nat.add_sub_cancel_left]
        unfold marksRights
        rw [List.getElem?_replicate_of_lt hlt]
        rfl)
      cases e
      have a0 : wr.cell? ⟨g, 0 + (m + k) * 3 + 0, none⟩ = some (.int .i64 777) := (HB.out.cell (p := ⟨g, 0 + (m + k) * 3 + 0, none⟩) hbl).trans (hc 0 _ rfl)
      have a1 : wr.cell? ⟨g, 0 + (m + k) * 3 + 1, none⟩ = some (.int .i64 0) := (HB.out.cell (p := ⟨g, 0 + (m + k) * 3 + 1, none⟩) hbl).trans (hc 1 _ rfl)
      have a2 : wr.cell? ⟨g, 0 + (m + k) * 3 + 2, none⟩ = some (.int .i64 0) := (HB.out.cell (p := ⟨g, 0 + (m + k) * 3 + 2, none⟩) hbl).trans (hc 2 _ rfl)
      rw [Nat.zero_add, Nat.add_zero] at a0
      rw [Nat.zero_add] at a1 a2
      clear hc
      obtain ⟨q, hq⟩ : ∃ q, m + k = q := ⟨_, rfl⟩
      have HQ := hide hq
      have hq2 : q + 1 ≤ 1073741900 := by omega
      rw [hq] at hlt' i0 a0 a1 a2 ⊢
      clear hq
      go_wp2
      go_roundw
      case rel => exact ⟨k + 1, by omega, by have := HQ.out; rw [← this]; go_num, HB⟩
      case measure => have := HQ.out; simp [intOf]; omega
    · have e1 : ¬ ((m + k : Nat) : Int) < (M : Int) := by have := HMn.out; omega
      go_wp2
      go_ret
      exact ⟨rfl, HB.out⟩
end Go.Proofs.YtfdanocpbhbieaaGreat
