import Derived.Test.YtlnldipiofddkabDoorCopy
import Derived.Laws.BytesArg
import Derived.Lib.JoinLaws
namespace Go.Proofs.YtlnldipiofddkabDoor
open Go.RowKit

/-- The marks behind what is lent. -/
def marks : List Nat := (List.range 70).map fun i => 165 - i
theorem marks_len : marks.length = 70 := by decide
theorem marks_small : ∀ x ∈ marks, x < 256 := by decide
theorem marks_at : ∀ i, i < 70 → marks.getD i 0 = 165 - i := by decide
theorem marks_take (i : Nat) (h : i < 70) : marks.take (i + 1) = marks.take i ++ [165 - i] := by
  rw [take_snoc marks i (by rw [marks_len]; exact h), marks_at i h]

set_option maxRecDepth 100000 in
theorem markAt_any (w : World) (i : Nat) (hi : i < 70) :
    Calls Tryd.prog 15 #[.int .i64 i] w fun e w' => e = .returned (.int .u8 (165 - i : Nat)) ∧ w' = w := by
  have e1 : (165 : Int) - (i : Int) = ((165 - i : Nat) : Int) := by omega
  have e2 : 165 - i < 256 := by omega
  generalize 165 - i = m at *
  go_enter Tryd.func15, Tryd.ntmps15
  go_wp2
  go_ret
  exact ⟨rfl, rfl⟩

theorem run_append_zero {P : Program} (w : World) (t ty e : TypeId) (i : TypeInfo) (ht : P.underlying t = some (.slice e)) (hi : P.info? e = some i) (bp : Option Addr) (n cap : Nat) (hn : n ≤ cap) (sp : Option Addr) (c : Nat) :
    (Builtin.append_ #[t, t] ty #[.slice bp n cap, .slice sp 0 c]).run P w = .ok (.slice bp n cap) w := by
  have hl : ∀ (x : Addr), (loadCells x 0).run P w = .ok #[] w := fun x => by simpa using run_loadCells_list (P := P) w x [] (by simp)
  cases bp <;> cases sp <;> simp [Builtin.append_, run_underlying ht, sizeOf, typeInfo, hi, Builtin.lenOf, Builtin.firstCells, storeCells, hl, hn]

theorem wpList_append_zero {P : Program} {w : World} {ops : Array Oper} {rest : List Oper} {o : Oper} {a : Act} {Q : Exit → Act → World → Prop} (hgd : o.guard = none) (s x : Operand) (t : TypeId)
    (ho : o.op = .call { callee := .builtin .append, args := #[s, x], argTypes := #[t, t] }) (e : TypeId) (i : TypeInfo) (ht : P.underlying t = some (.slice e)) (hi : P.info? e = some i)
    (bp : Option Addr) (n cap : Nat) (hn : n ≤ cap) (hs : a.eval s = .slice bp n cap) (sp : Option Addr) (c : Nat) (hx : a.eval x = .slice sp 0 c)
    (h : wpList P ops Q rest (a.put o.dst (.slice bp n cap)) w) : wpList P ops Q (o :: rest) a w := by
  refine wpList_plain hgd fun K hK => ?_
  have hrun := run_append_zero (P := P) w t o.type e i ht hi bp n cap hn sp c
  unfold Oper.wp
  simp [execOp, ho, resolve, invoke, builtin, hs, hx, hrun, Result.andThen]
  exact hK _ _ h

theorem vals_one (xs : List Nat) : ∀ u ∈ vals xs, u.oneCell' = true := fun u hu => by
  simp only [vals, List.mem_map] at hu
  obtain ⟨x, _, rfl⟩ := hu
  rfl
theorem vals_len (xs : List Nat) : (vals xs).length = xs.length := by simp [vals]
theorem vals_app (xs ys : List Nat) : vals (xs ++ ys) = vals xs ++ vals ys := by simp [vals]

theorem owns_le {w : World} {B n cap g : Nat} {t : TypeId} {ys : List Value} (h : w.ownsRow B t 1 (.slice (some ⟨g, 0, none⟩) n cap) n ys) : n ≤ cap ∧ B ≤ g ∧ g < w.heap.size := by
  rcases h.2 with ⟨h1, _⟩ | ⟨g', cap', cur, h1, h2, hg, h3, _⟩
  · cases h1
  · cases h1; exact ⟨h3, h2, lt_of_block hg⟩

/-- 'append(l, b...)', l not nil, b any bytes, none too. -/
theorem wpList_append_bytes {w : World} {ops : Array Oper} {rest : List Oper} {o : Oper} {a : Act} {Q : Exit → Act → World → Prop} (hgd : o.guard = none) (s x : Operand)
    (ho : o.op = .call { callee := .builtin .append, args := #[s, x], argTypes := #[27, 27] }) (B g0 n cap0 : Nat) (ys : List Value)
    (hs : a.eval s = .slice (some ⟨g0, 0, none⟩) n cap0) (hown : w.ownsRow B 5 1 (.slice (some ⟨g0, 0, none⟩) n cap0) n ys) (sp : Option Addr) (m c : Nat) (xs : List Nat) (hx : a.eval x = .slice sp m c) (hm : xs.length = m) (hb : Bytes w sp xs)
    (h63 : n + m ≤ 140737488355328) (hB : B ≤ w.heap.size)
    (h : ∀ g cap w', w'.ownsRow B 5 1 (.slice (some ⟨g, 0, none⟩) (n + m) cap) (n + m) (ys ++ vals xs) → w.grownBy w' (some g0) → (g = g0 ∨ g = w.heap.size) → wpList Tryd.prog ops Q rest (a.put o.dst (.slice (some ⟨g, 0, none⟩) (n + m) cap)) w') :
    wpList Tryd.prog ops Q (o :: rest) a w := by
  obtain ⟨i0, hi, hz0, hz1, hz2⟩ := info_parts Tryd.info5'
  rcases hb.lie with h0 | ⟨g, o', rfl, hg, hc⟩
  · subst h0
    simp at hm
    subst hm
    refine wpList_append_zero hgd s x 27 ho 5 i0 Tryd.underlying27 hi _ n cap0 (owns_le hown).1 hs sp c hx ?_
    exact h g0 cap0 w (by simpa [vals] using hown) ⟨rfl, rfl, rfl, Nat.le_refl _, fun _ _ _ => rfl⟩ (Or.inl rfl)
  · by_cases h0 : m = 0
    · subst h0
      have hxs : xs = [] := List.eq_nil_of_length_eq_zero hm
      subst hxs
      refine wpList_append_zero hgd s x 27 ho 5 i0 Tryd.underlying27 hi _ n cap0 (owns_le hown).1 hs _ c hx ?_
      exact h g0 cap0 w (by simpa [vals] using hown) ⟨rfl, rfl, rfl, Nat.le_refl _, fun _ _ _ => rfl⟩ (Or.inl rfl)
    · refine wpList_append_lies _ hgd s x 27 ho B 5 i0 (.int .u8 0) 1 1 Tryd.underlying27 hi hz0 hz1 hz2 rfl (by omega) _ n ys hs hown ⟨g, o', none⟩ m c (vals xs) hx (by rw [vals_len, hm, Nat.mul_one]) (bytes_cells hb) (vals_one xs) (by omega) (by unfold maxLen; omega) (by omega) hB _ rfl ?_
      intro g' cap w' h1 h2 h3 _
      refine h g' cap w' h1 h2 ?_
      rcases h3 with h3 | h3
      · left; simpa [Value.ownBlock] using h3.symm
      · exact Or.inr h3

theorem run_make_lent (w : World) (m : Nat) (hm : m ≤ 140737488351400) :
    ∃ w', (Instr.makeSlice 27 (.int .i64 0) (.int .i64 (m : Int))).run Tryd.prog w = .ok (.slice (some ⟨w.heap.size, 0, none⟩) 0 m) w' ∧ w'.ownsRow w.heap.size 5 1 (.slice (some ⟨w.heap.size, 0, none⟩) 0 m) 0 [] ∧ Below w.heap.size w w' := by
  refine ⟨_, run_make_room (P := Tryd.prog) 27 5 (.int .u8 0) 1 Tryd.underlying27 Tryd.info5' rfl .i64 .i64 m (by omega) (by omega) w, World.ownsRow_made w _ m (Nat.le_refl _) (by unfold maxLen; omega) ?_, (Below.refl _ _).alloc (Nat.le_refl _) _⟩
  rw [made_rep]; simp

/-- What was lent, or made, with what lies behind it. -/
theorem own_full {w : World} {B g n c : Nat} {xs : List Nat} (hs : ∀ x ∈ xs, x < 256) (h : w.ownsRow B 5 1 (.slice (some ⟨g, 0, none⟩) n c) n (vals xs)) : Own B w g c xs := by
  have hl : xs.length = n := by have := h.1; rw [vals_len] at this; omega
  exact own_of hl hs h

set_option maxRecDepth 100000 in
set_option maxHeartbeats 400000 in
theorem lend_any (w : World) (sp : Option Addr) (m cap : Nat) (xs : List Nat) (hm : xs.length = m) (hx : Bytes w sp xs) (hlen : m ≤ 140737488351232) :
    Calls Tryd.prog 7 #[.slice sp m cap] w fun e w' => ∃ g c', e = .returned (.slice (some ⟨g, 0, none⟩) m c') ∧ Own w.heap.size w' g c' (xs ++ marks) ∧ Below w.heap.size w w' := by
  have HX := hide hx
  have HM := hide hm
  clear hx hm
  obtain ⟨M, hMi, hMn⟩ : ∃ M : Nat, (m : Int) + 70 = (M : Int) ∧ M = m + 70 := ⟨m + 70, by omega, rfl⟩
  have HMn := hide hMn
  have hM1 : M ≤ 140737488351400 := by omega
  clear hMn
  obtain ⟨w1, hmk, hown1, hb1⟩ := run_make_lent w M hM1
  have HO1 := hide hown1
  have HB1 := hide hb1
  clear hown1 hb1
  obtain ⟨i0, hi, hz0, hz1, hz2⟩ := info_parts Tryd.info5'
  go_enter Tryd.func7, Tryd.ntmps7
  go_wp2_with (at_builtin; refine wpList_append_bytes rfl (.tmp 9) (.tmp 10) rfl w.heap.size _ 0 M [] rfl HO1.out sp m cap xs rfl HM.out (HX.out.below HB1.out) (by omega) HB1.out.size ?_; intro g c w2 hown2 hgrow2 hat2)
  have HO2 := hide hown2
  have HB2 : Hid (Below w.heap.size w w2) := HB1.out.grown hgrow2 HB1.out.size (fun k e => by cases e; exact Nat.le_refl _)
  clear hown2 hgrow2 hat2 HO1 HB1 hmk
  go_wp2
  go_loopw [3, 4] (fun l i wr => ∃ (k g c : Nat), k ≤ 70 ∧ i = .int .i64 k ∧ l = .slice (some ⟨g, 0, none⟩) (m + k) c ∧ Hid (wr.ownsRow w.heap.size 5 1 (.slice (some ⟨g, 0, none⟩) (m + k) c) (m + k) (vals (xs ++ marks.take k))) ∧ Hid (Below w.heap.size w wr)) (fun _ i _ => 70 - (intOf i).toNat)
  case atStart => exact ⟨0, g, c, Nat.zero_le _, rfl, by simp, by simpa [Hid] using HO2.out, HB2⟩
  case round =>
    obtain ⟨k, g, c, hk, rfl, rfl, HO, HB⟩ := hrel
    clear HO2 HB2
    by_cases hlt : k < 70
    · have l1 : (k : Int) < 70 := by omega
      have HT : Hid (vals (xs ++ marks.take (k + 1)) = vals (xs ++ marks.take k) ++ [.int .u8 ((165 - k : Nat) : Int)]) := by
        show _ = _
        rw [marks_take k hlt, ← List.append_assoc, vals_app (xs ++ marks.take k)]
        rfl
      have HK := hide (fun w => markAt_any w k hlt)
      generalize 165 - k = x at *
      go_wp2_with fail
      refine (HK.out _).mono ?_
      rintro e w3 ⟨rfl, rfl⟩
      go_wp2_with (at_builtin; refine wpList_append_lies _ rfl (.tmp 16) (.tmp 19) 27 rfl w.heap.size 5 i0 (.int .u8 0) 1 1 Tryd.underlying27 hi hz0 hz1 hz2 rfl (by omega) _ _ _ rfl (HO.out.alloc _) ⟨w3.heap.size, 0, none⟩ 1 1 [.int .u8 (x : Int)] rfl rfl (World.news_of_block (heap_alloc_new w3 (.cells #[.int .u8 (x : Int)] 5))) (by simp [Value.oneCell']) (by omega) (by unfold maxLen; omega) (by omega) (by have := HB.out.size; simp; omega) _ rfl ?_; intro g' cap' w4 hown4 hgrow4 hat4 hltg)
      rw [← HT.out] at hown4
      have HO4 := hide hown4
      have HB4 : Hid (Below w.heap.size w w4) := (HB.out.alloc HB.out.size _).grown hgrow4 (by have := HB.out.size; simp; omega) (fun k e => by cases e; exact (owns_le HO.out).2.1)
      clear hown4 hgrow4 hat4
      go_wp2
      go_roundw
      case rel => exact ⟨k + 1, g', cap', by omega, by go_num, rfl, HO4, HB4⟩
      case measure => simp [intOf]; omega
    · obtain rfl : k = 70 := by omega
      have HF : Hid (Own w.heap.size wr g c (xs ++ marks)) := by
        have := HO.out
        rw [List.take_of_length_le (by rw [marks_len]; omega)] at this
        exact own_full (fun x hx => by
          rcases List.mem_append.1 hx with h | h
          · exact HX.out.small x h
          · exact marks_small x h) this
      have hc : m + 70 ≤ c := (owns_le HO.out).1
      have hc1 : (m : Int) ≤ (c : Int) := by omega
      clear HO
      go_wp2
      go_ret
      exact ⟨g, c, rfl, HF.out, HB.out⟩

end Go.Proofs.YtlnldipiofddkabDoor
