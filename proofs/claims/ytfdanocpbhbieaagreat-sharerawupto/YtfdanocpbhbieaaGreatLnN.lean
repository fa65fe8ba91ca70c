import Derived.Test.YtfdanocpbhbieaaGreatLnT
import Derived.Test.YtfdanocpbhbieaaGreatRwB
namespace Go.Proofs.YtfdanocpbhbieaaGreat
open Go.RowKit

theorem prices_info : (Tryz.prog.info? 101).map (fun i => (i.zero, i.size, i.bytes)) = some (some (.agg #[.int .i64 0, .int .i64 0]), 2, 16) := by kernel_rfl
/-- 'append(x, l...)', x not nil, l any lines, none too. -/
theorem wpList_append_Prices {w : World} {ops : Array Oper} {rest : List Oper} {o : Oper} {a : Act} {Q : Exit → Act → World → Prop} (hgd : o.guard = none) (s x : Operand)
    (ho : o.op = .call { callee := .builtin .append, args := #[s, x], argTypes := #[47, 47] }) (B g0 n cap0 : Nat) (ys : List Value)
    (hs : a.eval s = .slice (some ⟨g0, 0, none⟩) n cap0) (hown : w.ownsRow B 101 2 (.slice (some ⟨g0, 0, none⟩) n cap0) n ys) (sp : Option Addr) (m c : Nat) (xs : List Lin) (hx : a.eval x = .slice sp m c) (hm : xs.length = m) (hb : Cel w sp 2 (xs.map linc))
    (h63 : n + m ≤ 1099511627776) (hB : B ≤ w.heap.size)
    (h : ∀ g cap w', w'.ownsRow B 101 2 (.slice (some ⟨g, 0, none⟩) (n + m) cap) (n + m) (ys ++ lcells xs) → w.grownBy w' (some g0) → wpList Tryz.prog ops Q rest (a.put o.dst (.slice (some ⟨g, 0, none⟩) (n + m) cap)) w') :
    wpList Tryz.prog ops Q (o :: rest) a w := by
  obtain ⟨i0, hi, hz0, hz1, hz2⟩ := info_parts prices_info
  by_cases h0 : m = 0
  · subst h0
    have hxs : xs = [] := List.eq_nil_of_length_eq_zero hm
    subst hxs
    refine wpList_append_zero hgd s x 47 ho 101 i0 Tryz.underlying47 hi _ n cap0 (owns_le2 hown).1 hs sp c hx ?_
    exact h g0 cap0 w (by simpa [lcells] using hown) ⟨rfl, rfl, rfl, Nat.le_refl _, fun _ _ _ => rfl⟩
  · rcases hb with hb0 | ⟨g, o', e, hg, hc⟩
    · exfalso
      have : xs = [] := by simpa using hb0
      rw [this] at hm
      exact h0 hm.symm
    · have hcs := cel_cells e (Or.inr ⟨g, o', e, hg, hc⟩)
      rw [e] at hx
      refine wpList_append_lies _ hgd s x 47 ho B 101 i0 (.agg #[.int .i64 0, .int .i64 0]) 2 16 Tryz.underlying47 hi hz0 hz1 hz2 rfl (by omega) _ n ys hs hown ⟨g, o', none⟩ m c (lcells xs) hx (by rw [lcells_len, hm]) hcs (lcells_one xs) (by omega) (by unfold maxLen; omega) (by omega) hB _ rfl ?_
      intro g' cap w' h1 h2 _ _
      exact h g' cap w' h1 h2
def mkPrices : Lin := ⟨777, 0⟩
def marksPrices : List Lin := List.replicate 9 mkPrices
theorem marksPrices_take (k : Nat) (h : k < 9) : marksPrices.take (k + 1) = marksPrices.take k ++ [mkPrices] := take_snoc (List.getElem?_replicate_of_lt h)
set_option maxRecDepth 100000 in
set_option maxHeartbeats 1000000 in
theorem lendPrices_any (w : World) (sp : Option Addr) (m cap : Nat) (xs : List Lin) (hm : xs.length = m) (hx : Cel w sp 2 (xs.map linc)) (hlen : m ≤ 1073741824) :
    Calls Tryz.prog 22 #[.slice sp m cap] w fun e w' => ∃ g c', e = .returned (.slice (some ⟨g, 0, none⟩) m c') ∧ w'.ownsRow w.heap.size 101 2 (.slice (some ⟨g, 0, none⟩) (m + 9) c') (m + 9) (lcells (xs ++ marksPrices)) ∧ Below w.heap.size w w' := by
  have HX := hide hx
  have HM := hide hm
  clear hx hm
  obtain ⟨M, hMi, hMn⟩ : ∃ M : Nat, (m : Int) + 9 = (M : Int) ∧ M = m + 9 := ⟨m + 9, by omega, rfl⟩
  have HMn := hide hMn
  have hM1 : M ≤ 1073741900 := by omega
  clear hMn
  obtain ⟨i0, hi, hz0, hz1, hz2⟩ := info_parts prices_info
  obtain ⟨w1, hmk, hown1, hb1⟩ := run_make_own (P := Tryz.prog) w w.heap.size 47 101 i0 (.agg #[.int .i64 0, .int .i64 0]) 2 Tryz.underlying47 hi hz0 hz1 .i64 .i64 M (by rw [hz2]; omega) (by unfold maxLen; omega) (Nat.le_refl _)
  have HO1 := hide hown1
  have HB1 : Hid (Below w.heap.size w w1) := (Below.refl _ w).grown hb1 (Nat.le_refl _) (fun k e => by cases e)
  clear hown1 hb1
  go_enter Tryz.func22, Tryz.ntmps22
  go_wp2_with (at_builtin; refine wpList_append_Prices rfl (.tmp 9) (.tmp 10) rfl w.heap.size _ 0 M [] rfl HO1.out sp m cap xs rfl HM.out (HX.out.below HB1.out) (by omega) HB1.out.size ?_; intro g c w2 hown2 hgrow2)
  have HO2 := hide hown2
  have HB2 : Hid (Below w.heap.size w w2) := HB1.out.grown hgrow2 HB1.out.size (fun k e => by cases e; exact Nat.le_refl _)
  clear hown2 hgrow2 HO1 HB1 hmk
  go_wp2
  go_loopw [3, 4] (fun l i wr => ∃ (k g c : Nat), k ≤ 9 ∧ i = .int .i64 k ∧ l = .slice (some ⟨g, 0, none⟩) (m + k) c ∧ Hid (wr.ownsRow w.heap.size 101 2 (.slice (some ⟨g, 0, none⟩) (m + k) c) (m + k) (lcells (xs ++ marksPrices.take k))) ∧ Hid (Below w.heap.size w wr)) (fun _ i _ => 9 - (intOf i).toNat)
  case atStart => exact ⟨0, g, c, by omega, rfl, by simp, by simpa using HO2, HB2⟩
  case round =>
    obtain ⟨k, g, c, hk, rfl, rfl, HO, HB⟩ := hrel
    by_cases hlt : k < 9
    · have hlt' : (k : Int) < 9 := by omega
      have HT := hide (marksPrices_take k hlt)
      go_wp2_with (at_builtin; refine wpList_append_lies _ rfl (.tmp 16) (.tmp 18) 47 rfl w.heap.size 101 i0 (.agg #[.int .i64 0, .int .i64 0]) 2 16 Tryz.underlying47 hi hz0 hz1 hz2 rfl (by omega) _ _ _ rfl (HO.out.alloc _) ⟨wr.heap.size, 0, none⟩ 1 1 [.int .i64 777, .int .i64 0] rfl rfl (two_new _ _ _ _) (by simp [Value.oneCell']) (by omega) (by unfold maxLen; omega) (by omega) (by have := HB.out.size; simp; omega) _ rfl ?_; intro g1 c1 w3 hown3 hgrow3 hat3 hlt3; have HO3 := hide hown3; have HB3 : Hid (Below w.heap.size w w3) := (HB.out.alloc HB.out.size _).grown hgrow3 (by have := HB.out.size; simp; omega) (fun k e => by cases e; exact (owns_le2 HO.out).2.1); clear hown3 hgrow3 hat3 hlt3)
      go_roundw
      case rel => exact ⟨k + 1, g1, c1, by omega, by go_num, by simp [Nat.add_assoc], by rw [HT.out, ← List.append_assoc, lcells_snoc]; exact HO3, HB3⟩
      case measure => simp [intOf]; omega
    · obtain rfl : k = 9 := by omega
      have hc := (owns_le2 HO.out).1
      have HE : Hid (wr.ownsRow w.heap.size 101 2 (.slice (some ⟨g, 0, none⟩) (m + 9) c) (m + 9) (lcells (xs ++ marksPrices))) := HO.out
      go_wp2
      go_ret
      exact ⟨g, c, rfl, HE.out, HB.out⟩
theorem held_info : (Tryz.prog.info? 105).map (fun i => (i.zero, i.size, i.bytes)) = some (some (.agg #[.int .i64 0, .int .i64 0]), 2, 16) := by kernel_rfl
/-- 'append(x, l...)', x not nil, l any lines, none too. -/
theorem wpList_append_Held {w : World} {ops : Array Oper} {rest : List Oper} {o : Oper} {a : Act} {Q : Exit → Act → World → Prop} (hgd : o.guard = none) (s x : Operand)
    (ho : o.op = .call { callee := .builtin .append, args := #[s, x], argTypes := #[106, 106] }) (B g0 n cap0 : Nat) (ys : List Value)
    (hs : a.eval s = .slice (some ⟨g0, 0, none⟩) n cap0) (hown : w.ownsRow B 105 2 (.slice (some ⟨g0, 0, none⟩) n cap0) n ys) (sp : Option Addr) (m c : Nat) (xs : List Lin) (hx : a.eval x = .slice sp m c) (hm : xs.length = m) (hb : Cel w sp 2 (xs.map linc))
    (h63 : n + m ≤ 1099511627776) (hB : B ≤ w.heap.size)
    (h : ∀ g cap w', w'.ownsRow B 105 2 (.slice (some ⟨g, 0, none⟩) (n + m) cap) (n + m) (ys ++ lcells xs) → w.grownBy w' (some g0) → wpList Tryz.prog ops Q rest (a.put o.dst (.slice (some ⟨g, 0, none⟩) (n + m) cap)) w') :
    wpList Tryz.prog ops Q (o :: rest) a w := by
  obtain ⟨i0, hi, hz0, hz1, hz2⟩ := info_parts held_info
  by_cases h0 : m = 0
  · subst h0
    have hxs : xs = [] := List.eq_nil_of_length_eq_zero hm
    subst hxs
    refine wpList_append_zero hgd s x 106 ho 105 i0 Tryz.underlying106 hi _ n cap0 (owns_le2 hown).1 hs sp c hx ?_
    exact h g0 cap0 w (by simpa [lcells] using hown) ⟨rfl, rfl, rfl, Nat.le_refl _, fun _ _ _ => rfl⟩
  · rcases hb with hb0 | ⟨g, o', e, hg, hc⟩
    · exfalso
      have : xs = [] := by simpa using hb0
      rw [this] at hm
      exact h0 hm.symm
    · have hcs := cel_cells e (Or.inr ⟨g, o', e, hg, hc⟩)
      rw [e] at hx
      refine wpList_append_lies _ hgd s x 106 ho B 105 i0 (.agg #[.int .i64 0, .int .i64 0]) 2 16 Tryz.underlying106 hi hz0 hz1 hz2 rfl (by omega) _ n ys hs hown ⟨g, o', none⟩ m c (lcells xs) hx (by rw [lcells_len, hm]) hcs (lcells_one xs) (by omega) (by unfold maxLen; omega) (by omega) hB _ rfl ?_
      intro g' cap w' h1 h2 _ _
      exact h g' cap w' h1 h2
def mkHeld : Lin := ⟨777, 778⟩
def marksHeld : List Lin := List.replicate 9 mkHeld
theorem marksHeld_take (k : Nat) (h : k < 9) : marksHeld.take (k + 1) = marksHeld.take k ++ [mkHeld] := take_snoc (List.getElem?_replicate_of_lt h)
set_option maxRecDepth 100000 in
set_option maxHeartbeats 1000000 in
theorem lendHeld_any (w : World) (sp : Option Addr) (m cap : Nat) (xs : List Lin) (hm : xs.length = m) (hx : Cel w sp 2 (xs.map linc)) (hlen : m ≤ 1073741824) :
    Calls Tryz.prog 41 #[.slice sp m cap] w fun e w' => ∃ g c', e = .returned (.slice (some ⟨g, 0, none⟩) m c') ∧ w'.ownsRow w.heap.size 105 2 (.slice (some ⟨g, 0, none⟩) (m + 9) c') (m + 9) (lcells (xs ++ marksHeld)) ∧ Below w.heap.size w w' := by
  have HX := hide hx
  have HM := hide hm
  clear hx hm
  obtain ⟨M, hMi, hMn⟩ : ∃ M : Nat, (m : Int) + 9 = (M : Int) ∧ M = m + 9 := ⟨m + 9, by omega, rfl⟩
  have HMn := hide hMn
  have hM1 : M ≤ 1073741900 := by omega
  clear hMn
  obtain ⟨i0, hi, hz0, hz1, hz2⟩ := info_parts held_info
  obtain ⟨w1, hmk, hown1, hb1⟩ := run_make_own (P := Tryz.prog) w w.heap.size 106 105 i0 (.agg #[.int .i64 0, .int .i64 0]) 2 Tryz.underlying106 hi hz0 hz1 .i64 .i64 M (by rw [hz2]; omega) (by unfold maxLen; omega) (Nat.le_refl _)
  have HO1 := hide hown1
  have HB1 : Hid (Below w.heap.size w w1) := (Below.refl _ w).grown hb1 (Nat.le_refl _) (fun k e => by cases e)
  clear hown1 hb1
  go_enter Tryz.func41, Tryz.ntmps41
  go_wp2_with (at_builtin; refine wpList_append_Held rfl (.tmp 9) (.tmp 10) rfl w.heap.size _ 0 M [] rfl HO1.out sp m cap xs rfl HM.out (HX.out.below HB1.out) (by omega) HB1.out.size ?_; intro g c w2 hown2 hgrow2)
  have HO2 := hide hown2
  have HB2 : Hid (Below w.heap.size w w2) := HB1.out.grown hgrow2 HB1.out.size (fun k e => by cases e; exact Nat.le_refl _)
  clear hown2 hgrow2 HO1 HB1 hmk
  go_wp2
  go_loopw [3, 4] (fun l i wr => ∃ (k g c : Nat), k ≤ 9 ∧ i = .int .i64 k ∧ l = .slice (some ⟨g, 0, none⟩) (m + k) c ∧ Hid (wr.ownsRow w.heap.size 105 2 (.slice (some ⟨g, 0, none⟩) (m + k) c) (m + k) (lcells (xs ++ marksHeld.take k))) ∧ Hid (Below w.heap.size w wr)) (fun _ i _ => 9 - (intOf i).toNat)
  case atStart => exact ⟨0, g, c, by omega, rfl, by simp, by simpa using HO2, HB2⟩
  case round =>
    obtain ⟨k, g, c, hk, rfl, rfl, HO, HB⟩ := hrel
    by_cases hlt : k < 9
    · have hlt' : (k : Int) < 9 := by omega
      have HT := hide (marksHeld_take k hlt)
      go_wp2_with (at_builtin; refine wpList_append_lies _ rfl (.tmp 16) (.tmp 18) 106 rfl w.heap.size 105 i0 (.agg #[.int .i64 0, .int .i64 0]) 2 16 Tryz.underlying106 hi hz0 hz1 hz2 rfl (by omega) _ _ _ rfl (HO.out.alloc _) ⟨wr.heap.size, 0, none⟩ 1 1 [.int .i64 777, .int .i64 778] rfl rfl (two_new _ _ _ _) (by simp [Value.oneCell']) (by omega) (by unfold maxLen; omega) (by omega) (by have := HB.out.size; simp; omega) _ rfl ?_; intro g1 c1 w3 hown3 hgrow3 hat3 hlt3; have HO3 := hide hown3; have HB3 : Hid (Below w.heap.size w w3) := (HB.out.alloc HB.out.size _).grown hgrow3 (by have := HB.out.size; simp; omega) (fun k e => by cases e; exact (owns_le2 HO.out).2.1); clear hown3 hgrow3 hat3 hlt3)
      go_roundw
      case rel => exact ⟨k + 1, g1, c1, by omega, by go_num, by simp [Nat.add_assoc], by rw [HT.out, ← List.append_assoc, lcells_snoc]; exact HO3, HB3⟩
      case measure => simp [intOf]; omega
    · obtain rfl : k = 9 := by omega
      have hc := (owns_le2 HO.out).1
      have HE : Hid (wr.ownsRow w.heap.size 105 2 (.slice (some ⟨g, 0, none⟩) (m + 9) c) (m + 9) (lcells (xs ++ marksHeld))) := HO.out
      go_wp2
      go_ret
      exact ⟨g, c, rfl, HE.out, HB.out⟩
theorem ccells_len {α : Type} (r : α → List Value) (h1 : ∀ x, (r x).length = 1) (l : List α) : (l.flatMap r).length = l.length := by
  induction l with
  | nil => rfl
  | cons x l ih => rw [List.flatMap_cons, List.length_append, ih, h1, List.length_cons]; omega
theorem ccells_get {α : Type} (r : α → List Value) (h1 : ∀ x, (r x).length = 1) (l : List α) : ∀ (i : Nat) (x : α), l[i]? = some x → ∀ (j : Nat) (v : Value), (r x)[j]? = some v → (l.flatMap r)[i * 1 + j]? = some v := by
  induction l with
  | nil => intro i x h; simp at h
  | cons y l ih =>
    intro i x h j v hv
    rw [List.flatMap_cons]
    cases i with
    | zero =>
      simp at h
      subst h
      have hj := (List.getElem?_eq_some_iff.1 hv).1
      rw [List.getElem?_append_left (by omega)]
      simpa using hv
    | succ i =>
      rw [List.getElem?_append_right (by rw [h1]; omega), h1]
      have := ih i x (by simpa using h) j v hv
      rw [show (i + 1) * 1 + j - 1 = i * 1 + j by omega]
      exact this
theorem cel_cells1 {α : Type} (r : α → Value) {w : World} {p : Option Addr} {l : List α} {b o : Nat} (hp : p = some ⟨b, o, none⟩) (h : Cel w p 1 (l.map fun x => [r x])) : ∀ (t : Nat) (u : Value), (l.map r)[t]? = some u → w.cell? ((⟨b, o, none⟩ : Addr).add t) = some u := by
  intro t u hu
  rw [List.getElem?_map] at hu
  cases hx : l[t]? with
  | none => rw [hx] at hu; simp at hu
  | some x =>
    rw [hx] at hu
    cases hu
    obtain ⟨b', o', e, _, hc⟩ := h.get (i := t) (r := [r x]) (by rw [List.getElem?_map, hx]; rfl)
    rw [hp] at e
    cases e
    have h2 := hc 0 _ rfl
    have ea : (⟨b, o, none⟩ : Addr).add t = ⟨b, o + t * 1 + 0, none⟩ := by
      unfold Addr.add
      simp
    rw [ea]
    exact h2
theorem numbers_info : (Tryz.prog.info? 45).map (fun i => (i.zero, i.size, i.bytes)) = some (some (.int .u64 0), 1, 8) := by kernel_rfl
/-- 'append(x, l...)', x not nil, l any lines, none too. -/
theorem wpList_append_Numbers {w : World} {ops : Array Oper} {rest : List Oper} {o : Oper} {a : Act} {Q : Exit → Act → World → Prop} (hgd : o.guard = none) (s x : Operand)
    (ho : o.op = .call { callee := .builtin .append, args := #[s, x], argTypes := #[48, 48] }) (B g0 n cap0 : Nat) (ys : List Value)
    (hs : a.eval s = .slice (some ⟨g0, 0, none⟩) n cap0) (hown : w.ownsRow B 45 1 (.slice (some ⟨g0, 0, none⟩) n cap0) n ys) (sp : Option Addr) (m c : Nat) (xs : List Int) (hx : a.eval x = .slice sp m c) (hm : xs.length = m) (hb : Cel w sp 1 (xs.map fun x => [.int .u64 x]))
    (h63 : n + m ≤ 1099511627776) (hB : B ≤ w.heap.size)
    (h : ∀ g cap w', w'.ownsRow B 45 1 (.slice (some ⟨g, 0, none⟩) (n + m) cap) (n + m) (ys ++ xs.map (.int .u64 ·)) → w.grownBy w' (some g0) → wpList Tryz.prog ops Q rest (a.put o.dst (.slice (some ⟨g, 0, none⟩) (n + m) cap)) w') :
    wpList Tryz.prog ops Q (o :: rest) a w := by
  obtain ⟨i0, hi, hz0, hz1, hz2⟩ := info_parts numbers_info
  by_cases h0 : m = 0
  · subst h0
    have hxs : xs = [] := List.eq_nil_of_length_eq_zero hm
    subst hxs
    refine wpList_append_zero hgd s x 48 ho 45 i0 Tryz.underlying48 hi _ n cap0 (owns_le2 hown).1 hs sp c hx ?_
    exact h g0 cap0 w (by simpa [] using hown) ⟨rfl, rfl, rfl, Nat.le_refl _, fun _ _ _ => rfl⟩
  · rcases hb with hb0 | ⟨g, o', e, hg, hc⟩
    · exfalso
      have : xs = [] := by simpa using hb0
      rw [this] at hm
      exact h0 hm.symm
    · have hcs := cel_cells1 (.int .u64 ·) e (Or.inr ⟨g, o', e, hg, hc⟩)
      rw [e] at hx
      refine wpList_append_lies _ hgd s x 48 ho B 45 i0 (.int .u64 0) 1 8 Tryz.underlying48 hi hz0 hz1 hz2 rfl (by omega) _ n ys hs hown ⟨g, o', none⟩ m c (xs.map (.int .u64 ·)) hx (by rw [List.length_map, hm]; omega) hcs (fun u hu => by obtain ⟨x, _, rfl⟩ := List.mem_map.1 hu; rfl) (by omega) (by unfold maxLen; omega) (by omega) hB _ rfl ?_
      intro g' cap w' h1 h2 _ _
      exact h g' cap w' h1 h2
theorem owed_info : (Tryz.prog.info? 4).map (fun i => (i.zero, i.size, i.bytes)) = some (some (.bool false), 1, 1) := by kernel_rfl
/-- 'append(x, l...)', x not nil, l any lines, none too. -/
theorem wpList_append_Owed {w : World} {ops : Array Oper} {rest : List Oper} {o : Oper} {a : Act} {Q : Exit → Act → World → Prop} (hgd : o.guard = none) (s x : Operand)
    (ho : o.op = .call { callee := .builtin .append, args := #[s, x], argTypes := #[49, 49] }) (B g0 n cap0 : Nat) (ys : List Value)
    (hs : a.eval s = .slice (some ⟨g0, 0, none⟩) n cap0) (hown : w.ownsRow B 4 1 (.slice (some ⟨g0, 0, none⟩) n cap0) n ys) (sp : Option Addr) (m c : Nat) (xs : List Bool) (hx : a.eval x = .slice sp m c) (hm : xs.length = m) (hb : Cel w sp 1 (xs.map fun x => [.bool x]))
    (h63 : n + m ≤ 1099511627776) (hB : B ≤ w.heap.size)
    (h : ∀ g cap w', w'.ownsRow B 4 1 (.slice (some ⟨g, 0, none⟩) (n + m) cap) (n + m) (ys ++ xs.map (.bool ·)) → w.grownBy w' (some g0) → wpList Tryz.prog ops Q rest (a.put o.dst (.slice (some ⟨g, 0, none⟩) (n + m) cap)) w') :
    wpList Tryz.prog ops Q (o :: rest) a w := by
  obtain ⟨i0, hi, hz0, hz1, hz2⟩ := info_parts owed_info
  by_cases h0 : m = 0
  · subst h0
    have hxs : xs = [] := List.eq_nil_of_length_eq_zero hm
    subst hxs
    refine wpList_append_zero hgd s x 49 ho 4 i0 Tryz.underlying49 hi _ n cap0 (owns_le2 hown).1 hs sp c hx ?_
    exact h g0 cap0 w (by simpa [] using hown) ⟨rfl, rfl, rfl, Nat.le_refl _, fun _ _ _ => rfl⟩
  · rcases hb with hb0 | ⟨g, o', e, hg, hc⟩
    · exfalso
      have : xs = [] := by simpa using hb0
      rw [this] at hm
      exact h0 hm.symm
    · have hcs := cel_cells1 (.bool ·) e (Or.inr ⟨g, o', e, hg, hc⟩)
      rw [e] at hx
      refine wpList_append_lies _ hgd s x 49 ho B 4 i0 (.bool false) 1 1 Tryz.underlying49 hi hz0 hz1 hz2 rfl (by omega) _ n ys hs hown ⟨g, o', none⟩ m c (xs.map (.bool ·)) hx (by rw [List.length_map, hm]; omega) hcs (fun u hu => by obtain ⟨x, _, rfl⟩ := List.mem_map.1 hu; rfl) (by omega) (by unfold maxLen; omega) (by omega) hB _ rfl ?_
      intro g' cap w' h1 h2 _ _
      exact h g' cap w' h1 h2
end Go.Proofs.YtfdanocpbhbieaaGreat
namespace Go.Proofs.YtfdanocpbhbieaaGreat
open Go.RowKit

theorem one_new (w : World) (c0 : Value) (t : TypeId) : ∀ j u, [c0][j]? = some u → (w.alloc (.cells #[c0] t)).cell? ((⟨w.heap.size, 0, none⟩ : Addr).add j) = some u := by
  intro j u h
  have hb := heap_alloc_new w (.cells #[c0] t)
  match j, h with
  | 0, h =>
    cases h
    show (w.alloc (.cells #[c0] t)).cell? ⟨w.heap.size, 0, none⟩ = some c0
    simp only [World.cell?, hb]
    rfl
  | j + 1, h => simp at h
def marksNumbers : List Int := List.replicate 9 777
theorem marksNumbers_take (k : Nat) (h : k < 9) : marksNumbers.take (k + 1) = marksNumbers.take k ++ [777] := take_snoc (List.getElem?_replicate_of_lt h)
set_option maxRecDepth 100000 in
set_option maxHeartbeats 1000000 in
theorem lendNumbers_any (w : World) (sp : Option Addr) (m cap : Nat) (xs : List Int) (hm : xs.length = m) (hx : Cel w sp 1 (xs.map fun x => [.int .u64 x])) (hlen : m ≤ 1073741824) :
    Calls Tryz.prog 20 #[.slice sp m cap] w fun e w' => ∃ g c', e = .returned (.slice (some ⟨g, 0, none⟩) m c') ∧ w'.ownsRow w.heap.size 45 1 (.slice (some ⟨g, 0, none⟩) (m + 9) c') (m + 9) ((xs ++ marksNumbers).map (.int .u64 ·)) ∧ Below w.heap.size w w' := by
  have HX := hide hx
  have HM := hide hm
  clear hx hm
  obtain ⟨M, hMi, hMn⟩ : ∃ M : Nat, (m : Int) + 9 = (M : Int) ∧ M = m + 9 := ⟨m + 9, by omega, rfl⟩
  have HMn := hide hMn
  have hM1 : M ≤ 1073741900 := by omega
  clear hMn
  obtain ⟨i0, hi, hz0, hz1, hz2⟩ := info_parts numbers_info
  obtain ⟨w1, hmk, hown1, hb1⟩ := run_make_own (P := Tryz.prog) w w.heap.size 48 45 i0 (.int .u64 0) 1 Tryz.underlying48 hi hz0 hz1 .i64 .i64 M (by rw [hz2]; omega) (by unfold maxLen; omega) (Nat.le_refl _)
  have HO1 := hide hown1
  have HB1 : Hid (Below w.heap.size w w1) := (Below.refl _ w).grown hb1 (Nat.le_refl _) (fun k e => by cases e)
  clear hown1 hb1
  go_enter Tryz.func20, Tryz.ntmps20
  go_wp2_with (at_builtin; refine wpList_append_Numbers rfl (.tmp 9) (.tmp 10) rfl w.heap.size _ 0 M [] rfl HO1.out sp m cap xs rfl HM.out (HX.out.below HB1.out) (by omega) HB1.out.size ?_; intro g c w2 hown2 hgrow2)
  have HO2 := hide hown2
  have HB2 : Hid (Below w.heap.size w w2) := HB1.out.grown hgrow2 HB1.out.size (fun k e => by cases e; exact Nat.le_refl _)
  clear hown2 hgrow2 HO1 HB1 hmk
  go_wp2
  go_loopw [3, 4] (fun l i wr => ∃ (k g c : Nat), k ≤ 9 ∧ i = .int .i64 k ∧ l = .slice (some ⟨g, 0, none⟩) (m + k) c ∧ Hid (wr.ownsRow w.heap.size 45 1 (.slice (some ⟨g, 0, none⟩) (m + k) c) (m + k) ((xs ++ marksNumbers.take k).map (.int .u64 ·))) ∧ Hid (Below w.heap.size w wr)) (fun _ i _ => 9 - (intOf i).toNat)
  case atStart => exact ⟨0, g, c, by omega, rfl, by simp, by simpa using HO2, HB2⟩
  case round =>
    obtain ⟨k, g, c, hk, rfl, rfl, HO, HB⟩ := hrel
    by_cases hlt : k < 9
    · have hlt' : (k : Int) < 9 := by omega
      have HT := hide (marksNumbers_take k hlt)
      go_wp2_with (at_builtin; refine wpList_append_lies _ rfl (.tmp 16) (.tmp 17) 48 rfl w.heap.size 45 i0 (.int .u64 0) 1 8 Tryz.underlying48 hi hz0 hz1 hz2 rfl (by omega) _ _ _ rfl (HO.out.alloc _) ⟨wr.heap.size, 0, none⟩ 1 1 [.int .u64 777] rfl rfl (one_new _ _ _) (by simp [Value.oneCell']) (by omega) (by unfold maxLen; omega) (by omega) (by have := HB.out.size; simp; omega) _ rfl ?_; intro g1 c1 w3 hown3 hgrow3 hat3 hlt3; have HO3 := hide hown3; have HB3 : Hid (Below w.heap.size w w3) := (HB.out.alloc HB.out.size _).grown hgrow3 (by have := HB.out.size; simp; omega) (fun k e => by cases e; exact (owns_le2 HO.out).2.1); clear hown3 hgrow3 hat3 hlt3)
      go_roundw
      case rel => exact ⟨k + 1, g1, c1, by omega, by go_num, by simp [Nat.add_assoc], by rw [HT.out, ← List.append_assoc, List.map_append]; exact HO3, HB3⟩
      case measure => simp [intOf]; omega
    · obtain rfl : k = 9 := by omega
      have hc := (owns_le2 HO.out).1
      have HE : Hid (wr.ownsRow w.heap.size 45 1 (.slice (some ⟨g, 0, none⟩) (m + 9) c) (m + 9) ((xs ++ marksNumbers).map (.int .u64 ·))) := HO.out
      go_wp2
      go_ret
      exact ⟨g, c, rfl, HE.out, HB.out⟩
def par (k : Nat) : Bool := (k : Int).tmod 2 == 0
def marksOwed : List Bool := (List.range 9).map par
theorem marksOwed_take (k : Nat) (h : k < 9) : marksOwed.take (k + 1) = marksOwed.take k ++ [par k] := take_snoc (by unfold marksOwed; rw [List.getElem?_map, List.getElem?_range h]; rfl)
set_option maxRecDepth 100000 in
set_option maxHeartbeats 1000000 in
theorem lendOwed_any (w : World) (sp : Option Addr) (m cap : Nat) (xs : List Bool) (hm : xs.length = m) (hx : Cel w sp 1 (xs.map fun x => [.bool x])) (hlen : m ≤ 1073741824) :
    Calls Tryz.prog 23 #[.slice sp m cap] w fun e w' => ∃ g c', e = .returned (.slice (some ⟨g, 0, none⟩) m c') ∧ w'.ownsRow w.heap.size 4 1 (.slice (some ⟨g, 0, none⟩) (m + 9) c') (m + 9) ((xs ++ marksOwed).map (.bool ·)) ∧ Below w.heap.size w w' := by
  have HX := hide hx
  have HM := hide hm
  clear hx hm
  obtain ⟨M, hMi, hMn⟩ : ∃ M : Nat, (m : Int) + 9 = (M : Int) ∧ M = m + 9 := ⟨m + 9, by omega, rfl⟩
  have HMn := hide hMn
  have hM1 : M ≤ 1073741900 := by omega
  clear hMn
  obtain ⟨i0, hi, hz0, hz1, hz2⟩ := info_parts owed_info
  obtain ⟨w1, hmk, hown1, hb1⟩ := run_make_own (P := Tryz.prog) w w.heap.size 49 4 i0 (.bool false) 1 Tryz.underlying49 hi hz0 hz1 .i64 .i64 M (by rw [hz2]; omega) (by unfold maxLen; omega) (Nat.le_refl _)
  have HO1 := hide hown1
  have HB1 : Hid (Below w.heap.size w w1) := (Below.refl _ w).grown hb1 (Nat.le_refl _) (fun k e => by cases e)
  clear hown1 hb1
  go_enter Tryz.func23, Tryz.ntmps23
  go_wp2_with (at_builtin; refine wpList_append_Owed rfl (.tmp 9) (.tmp 10) rfl w.heap.size _ 0 M [] rfl HO1.out sp m cap xs rfl HM.out (HX.out.below HB1.out) (by omega) HB1.out.size ?_; intro g c w2 hown2 hgrow2)
  have HO2 := hide hown2
  have HB2 : Hid (Below w.heap.size w w2) := HB1.out.grown hgrow2 HB1.out.size (fun k e => by cases e; exact Nat.le_refl _)
  clear hown2 hgrow2 HO1 HB1 hmk
  go_wp2
  go_loopw [3, 4] (fun l i wr => ∃ (k g c : Nat), k ≤ 9 ∧ i = .int .i64 k ∧ l = .slice (some ⟨g, 0, none⟩) (m + k) c ∧ Hid (wr.ownsRow w.heap.size 4 1 (.slice (some ⟨g, 0, none⟩) (m + k) c) (m + k) ((xs ++ marksOwed.take k).map (.bool ·))) ∧ Hid (Below w.heap.size w wr)) (fun _ i _ => 9 - (intOf i).toNat)
  case atStart => exact ⟨0, g, c, by omega, rfl, by simp, by simpa using HO2, HB2⟩
  case round =>
    obtain ⟨k, g, c, hk, rfl, rfl, HO, HB⟩ := hrel
    by_cases hlt : k < 9
    · have hlt' : (k : Int) < 9 := by omega
      have HT := hide (marksOwed_take k hlt)
      go_wp2_with (at_builtin; refine wpList_append_lies _ rfl (.tmp 16) (.tmp 20) 49 rfl w.heap.size 4 i0 (.bool false) 1 1 Tryz.underlying49 hi hz0 hz1 hz2 rfl (by omega) _ _ _ rfl (HO.out.alloc _) ⟨wr.heap.size, 0, none⟩ 1 1 [.bool (par k)] rfl rfl (one_new _ _ _) (by simp [Value.oneCell']) (by omega) (by unfold maxLen; omega) (by omega) (by have := HB.out.size; simp; omega) _ rfl ?_; intro g1 c1 w3 hown3 hgrow3 hat3 hlt3; have HO3 := hide hown3; have HB3 : Hid (Below w.heap.size w w3) := (HB.out.alloc HB.out.size _).grown hgrow3 (by have := HB.out.size; simp; omega) (fun k e => by cases e; exact (owns_le2 HO.out).2.1); clear hown3 hgrow3 hat3 hlt3)
      go_roundw
      case rel => exact ⟨k + 1, g1, c1, by omega, by go_num, by simp [Nat.add_assoc], by rw [HT.out, ← List.append_assoc, List.map_append]; exact HO3, HB3⟩
      case measure => simp [intOf]; omega
    · obtain rfl : k = 9 := by omega
      have hc := (owns_le2 HO.out).1
      have HE : Hid (wr.ownsRow w.heap.size 4 1 (.slice (some ⟨g, 0, none⟩) (m + 9) c) (m + 9) ((xs ++ marksOwed).map (.bool ·))) := HO.out
      go_wp2
      go_ret
      exact ⟨g, c, rfl, HE.out, HB.out⟩
end Go.Proofs.YtfdanocpbhbieaaGreat
