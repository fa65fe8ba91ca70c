import Derived.Test.YthgggjdefhgfiaaNCopy
import Derived.Laws.BytesArg
import Derived.Lib.JoinLaws
namespace Go.Proofs.Ythgggjdefhgfiaa
open Go.RowKit

theorem take_snoc' {α : Type} (l : List α) (k : Nat) (x : α) (h : l[k]? = some x) : l.take (k + 1) = l.take k ++ [x] := by
  rw [List.take_add_one, h]; rfl
theorem bytes_take {w : World} {sp : Option Addr} {xs : List Nat} (h : Bytes w sp xs) (n : Nat) : Bytes w sp (xs.take n) := by
  refine ⟨fun x hx => h.small x (List.mem_of_mem_take hx), ?_⟩
  rcases h.lie with h0 | ⟨g, o, e, hg, hc⟩
  · left; rw [h0]; simp
  · refine Or.inr ⟨g, o, e, hg, fun j hj => ?_⟩
    rw [List.length_take] at hj
    rw [hc j (by omega)]
    simp only [List.getD, List.getElem?_take, if_pos (show j < n by omega)]
theorem run_append_zero {P : Program} (w : World) (t ty e : TypeId) (i : TypeInfo) (ht : P.underlying t = some (.slice e)) (hi : P.info? e = some i) (bp : Option Addr) (n cap : Nat) (hn : n ≤ cap) (sp : Option Addr) (c : Nat) :
    (Builtin.append_ #[t, t] ty #[.slice bp n cap, .slice sp 0 c]).run P w = .ok (.slice bp n cap) w := by
  have hl : ∀ (x : Addr), (loadCells x 0).run P w = .ok #[] w := fun x => by simpa using run_loadCells_list (P := P) w x [] (by simp)
  cases bp <;> cases sp <;> simp [Builtin.append_, run_underlying ht, sizeOf, typeInfo, hi, Builtin.lenOf, Builtin.firstCells, storeCells, hl, hn]

theorem wpList_append_zero {P : Program} {w : World} {ops : Array Oper} {rest : List Oper} {o : Oper} {a : Act} {Q : Exit → Act → World → Prop} (hgd : o.guard = none) (s x : Operand) (t : TypeId)
    (ho : o.op = .call { callee := .builtin .append, args := #[s, x], argTypes := #[t, t] }) (e : TypeId) (i : TypeInfo) (ht : P.underlying t = some (.slice e)) (hi : P.info? e = some i)
    (bp : Option Addr) (n cap : Nat) (hn : n ≤ cap) (hs : a.eval s = .slice bp n cap) (sp : Option Addr) (c : Nat) (hx : a.eval x = .slice sp 0 c)
    (h : wpList P ops Q rest (a.put o.dst (.slice bp n cap)) w) : wpList P ops Q (o :: rest) a w := by
  refine wpList_plain hgd fun K hK => ?_
  have hrun := run_append_zero (P := P) w t o.type e i ht hi bp n cap hn sp c
  unfold Oper.wp
  simp [execOp, ho, resolve, invoke, builtin, hs, hx, hrun, Result.andThen]
  exact hK _ _ h

theorem made_rep (z : Value) (n : Nat) : madeCells #[z] n = (List.replicate n z).toArray := by
  apply Array.ext
  · simp [madeCells]
  · intro i h1 h2
    simp [madeCells, Nat.mod_one]

theorem lie_row {w : World} {b : Nat} {C : Array Value} {xs : List Nat} {t : TypeId} {fr : Nat × Nat} (h : w.heap[b]? = some (.cells C t fr)) (hs : ∀ x ∈ xs, x < 256) (hc : ∀ j, j < xs.length → C[j]? = some (.int .u8 (xs.getD j 0 : Nat))) : Bytes w (some ⟨b, 0, none⟩) xs :=
  ⟨hs, Or.inr ⟨b, 0, rfl, (Array.getElem?_eq_some_iff.1 h).1, fun j hj => by simp only [World.cell?, h, Nat.zero_add]; exact hc j hj⟩⟩

/-- A list of bytes of the call's own. -/
structure Own (B : Nat) (w : World) (g cap : Nat) (xs : List Nat) : Prop where
  base : B ≤ g
  cap : xs.length ≤ cap
  small : ∀ x ∈ xs, x < 256
  row : ∃ C : Array Value, w.heap[g]? = some (.cells C 5 (0, 0)) ∧ ∀ j, j < xs.length → C[j]? = some (.int .u8 (xs.getD j 0 : Nat))

theorem Own.bytes {B : Nat} {w : World} {g cap : Nat} {xs : List Nat} (h : Own B w g cap xs) : Bytes w (some ⟨g, 0, none⟩) xs := by
  obtain ⟨C, hC, hc⟩ := h.row
  exact lie_row hC h.small hc
theorem Own.lt {B : Nat} {w : World} {g cap : Nat} {xs : List Nat} (h : Own B w g cap xs) : g < w.heap.size := by
  obtain ⟨C, hC, _⟩ := h.row
  exact lt_of_block hC
theorem Own.below {B B' : Nat} {w w' : World} {g cap : Nat} {xs : List Nat} (h : Own B w g cap xs) (hb : Below B' w w') (hg : g < B') : Own B w' g cap xs := by
  obtain ⟨C, hC, hc⟩ := h.row
  exact ⟨h.base, h.cap, h.small, C, (hb.block g hg).trans hC, hc⟩
theorem Own.mono {B B' : Nat} {w : World} {g cap : Nat} {xs : List Nat} (h : Own B w g cap xs) (hb : B' ≤ B) : Own B' w g cap xs := ⟨Nat.le_trans hb h.base, h.cap, h.small, h.row⟩
theorem Own.cell {B : Nat} {w : World} {g cap : Nat} {xs : List Nat} (h : Own B w g cap xs) (j : Nat) (hj : j < xs.length) : w.cell? ⟨g, j, none⟩ = some (.int .u8 (xs.getD j 0 : Nat)) ∧ w.frozen? ⟨g, j, none⟩ = false := by
  obtain ⟨C, hC, hc⟩ := h.row
  exact ⟨by simp only [World.cell?, hC]; exact hc j hj, by simp only [World.frozen?, hC]; simp⟩
theorem Own.set {B : Nat} {w : World} {g cap : Nat} {xs : List Nat} (h : Own B w g cap xs) (i y : Nat) (hy : y < 256) : Own B (w.setCell ⟨g, i, none⟩ (.int .u8 (y : Int))) g cap (xs.set i y) := by
  obtain ⟨C, hC, hc⟩ := h.row
  refine ⟨h.base, by simpa using h.cap, ?_, _, heap_setCell_same _ _ _ _ _ _ hC, ?_⟩
  · intro x hx
    rcases List.mem_or_eq_of_mem_set hx with h' | h'
    · exact h.small x h'
    · rw [h']; exact hy
  · intro j hj
    simp at hj
    have hcj := hc j hj
    have hjs : j < C.size := (Array.getElem?_eq_some_iff.1 hcj).1
    by_cases hij : i = j
    · subst hij
      simp [List.getD, hj, hjs]
    · rw [Array.getElem?_setIfInBounds_ne hij, hcj]
      simp [List.getD, List.getElem?_set_ne hij]

theorem own_of {w : World} {B g n c : Nat} {xs : List Nat} (hl : xs.length = n) (hs : ∀ x ∈ xs, x < 256) (h : w.ownsRow B 5 1 (.slice (some ⟨g, 0, none⟩) n c) n (vals xs)) : Own B w g c xs := by
  rcases h.2 with ⟨h1, _⟩ | ⟨g', cap, cur, h1, h2, hg, h3, _, h5, ht⟩
  · cases h1
  · cases h1
    refine ⟨h2, by omega, hs, cur, hg, fun j hj => ?_⟩
    have : (vals xs)[j]? = some (.int .u8 (xs.getD j 0 : Nat)) := by simp [vals, List.getD, hj]
    rw [← ht, List.getElem?_take, if_pos (by omega)] at this
    simpa using this

/-- The marks behind what is lent. -/
def marks : List Nat := (List.range 70).map fun i => 165 - i
theorem marks_len : marks.length = 70 := by decide
theorem marks_small : ∀ x ∈ marks, x < 256 := by decide
theorem marks_at : ∀ i, i < 70 → marks.getD i 0 = 165 - i := by decide
theorem marks_get : ∀ i, i < 70 → marks[i]? = some (165 - i) := by decide
theorem marks_take (i : Nat) (h : i < 70) : marks.take (i + 1) = marks.take i ++ [165 - i] := take_snoc' _ _ _ (marks_get i h)

set_option maxRecDepth 100000 in
theorem markAt_any (w : World) (i : Nat) (hi : i < 70) :
    Calls Try.prog 50 #[.int .i64 i] w fun e w' => e = .returned (.int .u8 (165 - i : Nat)) ∧ w' = w := by
  have e1 : (165 : Int) - (i : Int) = ((165 - i : Nat) : Int) := by omega
  have e2 : 165 - i < 256 := by omega
  generalize 165 - i = m at *
  go_enter Try.func50, Try.ntmps50
  go_wp2
  go_ret
  exact ⟨rfl, rfl⟩

theorem owns_le {w : World} {B n cap g : Nat} {t : TypeId} {ys : List Value} (h : w.ownsRow B t 1 (.slice (some ⟨g, 0, none⟩) n cap) n ys) : n ≤ cap ∧ B ≤ g ∧ g < w.heap.size := by
  rcases h.2 with ⟨h1, _⟩ | ⟨g', cap', cur, h1, h2, hg, h3, _⟩
  · cases h1
  · cases h1; exact ⟨h3, h2, lt_of_block hg⟩

/-- 'append(l, b...)', l not nil, b any bytes, none too. -/
theorem wpList_append_bytes {w : World} {ops : Array Oper} {rest : List Oper} {o : Oper} {a : Act} {Q : Exit → Act → World → Prop} (hgd : o.guard = none) (s x : Operand)
    (ho : o.op = .call { callee := .builtin .append, args := #[s, x], argTypes := #[59, 59] }) (B g0 n cap0 : Nat) (ys : List Value)
    (hs : a.eval s = .slice (some ⟨g0, 0, none⟩) n cap0) (hown : w.ownsRow B 5 1 (.slice (some ⟨g0, 0, none⟩) n cap0) n ys) (sp : Option Addr) (m c : Nat) (xs : List Nat) (hx : a.eval x = .slice sp m c) (hm : xs.length = m) (hb : Bytes w sp xs)
    (h63 : n + m ≤ 140737488355328) (hB : B ≤ w.heap.size)
    (h : ∀ g cap w', w'.ownsRow B 5 1 (.slice (some ⟨g, 0, none⟩) (n + m) cap) (n + m) (ys ++ vals xs) → w.grownBy w' (some g0) → (g = g0 ∨ g = w.heap.size) → wpList Try.prog ops Q rest (a.put o.dst (.slice (some ⟨g, 0, none⟩) (n + m) cap)) w') :
    wpList Try.prog ops Q (o :: rest) a w := by
  obtain ⟨i0, hi, hz0, hz1, hz2⟩ := info_parts Try.infoU8
  rcases hb.lie with h0 | ⟨g, o', rfl, hg, hc⟩
  · subst h0
    simp at hm
    subst hm
    refine wpList_append_zero hgd s x 59 ho 5 i0 Try.underlying59 hi _ n cap0 (owns_le hown).1 hs sp c hx ?_
    exact h g0 cap0 w (by simpa [vals] using hown) ⟨rfl, rfl, rfl, Nat.le_refl _, fun _ _ _ => rfl⟩ (Or.inl rfl)
  · by_cases h0 : m = 0
    · subst h0
      have hxs : xs = [] := List.eq_nil_of_length_eq_zero hm
      subst hxs
      refine wpList_append_zero hgd s x 59 ho 5 i0 Try.underlying59 hi _ n cap0 (owns_le hown).1 hs _ c hx ?_
      exact h g0 cap0 w (by simpa [vals] using hown) ⟨rfl, rfl, rfl, Nat.le_refl _, fun _ _ _ => rfl⟩ (Or.inl rfl)
    · refine wpList_append_lies _ hgd s x 59 ho B 5 i0 (.int .u8 0) 1 1 Try.underlying59 hi hz0 hz1 hz2 rfl (by omega) _ n ys hs hown ⟨g, o', none⟩ m c (vals xs) hx (by rw [vals_len, hm, Nat.mul_one]) (bytes_cells hb) (vals_one xs) (by omega) (by unfold maxLen; omega) (by omega) hB _ rfl ?_
      intro g' cap w' h1 h2 h3 _
      refine h g' cap w' h1 h2 ?_
      rcases h3 with h3 | h3
      · left; simpa [Value.ownBlock] using h3.symm
      · exact Or.inr h3

theorem run_make_lent (w : World) (m : Nat) (hm : m ≤ 140737488351400) :
    ∃ w', (Instr.makeSlice 59 (.int .i64 0) (.int .i64 (m : Int))).run Try.prog w = .ok (.slice (some ⟨w.heap.size, 0, none⟩) 0 m) w' ∧ w'.ownsRow w.heap.size 5 1 (.slice (some ⟨w.heap.size, 0, none⟩) 0 m) 0 [] ∧ Below w.heap.size w w' := by
  refine ⟨_, run_make_room (P := Try.prog) 59 5 (.int .u8 0) 1 Try.underlying59 Try.infoU8 rfl .i64 .i64 m (by omega) (by omega) w, World.ownsRow_made w _ m (Nat.le_refl _) (by unfold maxLen; omega) ?_, (Below.refl _ _).alloc (Nat.le_refl _) _⟩
  rw [made_rep]; simp

/-- What was lent, or made, with what lies behind it. -/
theorem own_full {w : World} {B g n c : Nat} {xs : List Nat} (hs : ∀ x ∈ xs, x < 256) (h : w.ownsRow B 5 1 (.slice (some ⟨g, 0, none⟩) n c) n (vals xs)) : Own B w g c xs := by
  have hl : xs.length = n := by have := h.1; rw [vals_len] at this; omega
  exact own_of hl hs h

set_option maxRecDepth 100000 in
set_option maxHeartbeats 400000 in
theorem lend_any (w : World) (sp : Option Addr) (m cap : Nat) (xs : List Nat) (hm : xs.length = m) (hx : Bytes w sp xs) (hlen : m ≤ 140737488351232) :
    Calls Try.prog 26 #[.slice sp m cap] w fun e w' => ∃ g c', e = .returned (.slice (some ⟨g, 0, none⟩) m c') ∧ w'.ownsRow w.heap.size 5 1 (.slice (some ⟨g, 0, none⟩) (m + 70) c') (m + 70) (vals (xs ++ marks)) ∧ Below w.heap.size w w' := by
  have HX := hide hx
  have HM := hide hm
  clear hx hm
  obtain ⟨M, hMi, hMn⟩ : ∃ M : Nat, (m : Int) + 70 = (M : Int) ∧ M = m + 70 := ⟨m + 70, by omega, rfl⟩
  have HMn := hide hMn
  have hM1 : M ≤ 140737488351400 := by omega
  clear hMn
  obtain ⟨w1, hmk, hown1, hb1⟩ := run_make_lent w M hM1
  have HO1 := hide hown1
  have HB1 := hide hb1
  clear hown1 hb1
  obtain ⟨i0, hi, hz0, hz1, hz2⟩ := info_parts Try.infoU8
  go_enter Try.func26, Try.ntmps26
  go_wp2_with (at_builtin; refine wpList_append_bytes rfl (.tmp 9) (.tmp 10) rfl w.heap.size _ 0 M [] rfl HO1.out sp m cap xs rfl HM.out (HX.out.below HB1.out) (by omega) HB1.out.size ?_; intro g c w2 hown2 hgrow2 hat2)
  have HO2 := hide hown2
  have HB2 : Hid (Below w.heap.size w w2) := HB1.out.grown hgrow2 HB1.out.size (fun k e => by cases e; exact Nat.le_refl _)
  clear hown2 hgrow2 hat2 HO1 HB1 hmk
  go_wp2
  go_loopw [3, 4] (fun l i wr => ∃ (k g c : Nat), k ≤ 70 ∧ i = .int .i64 k ∧ l = .slice (some ⟨g, 0, none⟩) (m + k) c ∧ Hid (wr.ownsRow w.heap.size 5 1 (.slice (some ⟨g, 0, none⟩) (m + k) c) (m + k) (vals (xs ++ marks.take k))) ∧ Hid (Below w.heap.size w wr)) (fun _ i _ => 70 - (intOf i).toNat)
  case atStart => exact ⟨0, g, c, Nat.zero_le _, rfl, by simp, by simpa [Hid] using HO2.out, HB2⟩
  case round =>
    obtain ⟨k, g, c, hk, rfl, rfl, HO, HB⟩ := hrel
    clear HO2 HB2
    by_cases hlt : k < 70
    · have l1 : (k : Int) < 70 := by omega
      have HT : Hid (vals (xs ++ marks.take (k + 1)) = vals (xs ++ marks.take k) ++ [.int .u8 ((165 - k : Nat) : Int)]) := by
        show _ = _
        rw [marks_take k hlt, ← List.append_assoc, vals_app (xs ++ marks.take k)]
        rfl
      have HK := hide (fun w => markAt_any w k hlt)
      generalize 165 - k = x at *
      go_wp2_with fail
      refine (HK.out _).mono ?_
      rintro e w3 ⟨rfl, rfl⟩
      go_wp2_with (at_builtin; refine wpList_append_lies _ rfl (.tmp 16) (.tmp 19) 59 rfl w.heap.size 5 i0 (.int .u8 0) 1 1 Try.underlying59 hi hz0 hz1 hz2 rfl (by omega) _ _ _ rfl (HO.out.alloc _) ⟨w3.heap.size, 0, none⟩ 1 1 [.int .u8 (x : Int)] rfl rfl (World.news_of_block (heap_alloc_new w3 (.cells #[.int .u8 (x : Int)] 5))) (by simp [Value.oneCell']) (by omega) (by unfold maxLen; omega) (by omega) (by have := HB.out.size; simp; omega) _ rfl ?_; intro g' cap' w4 hown4 hgrow4 hat4 hltg)
      rw [← HT.out] at hown4
      have HO4 := hide hown4
      have HB4 : Hid (Below w.heap.size w w4) := (HB.out.alloc HB.out.size _).grown hgrow4 (by have := HB.out.size; simp; omega) (fun k e => by cases e; exact (owns_le HO.out).2.1)
      clear hown4 hgrow4 hat4
      go_wp2
      go_roundw
      case rel => exact ⟨k + 1, g', cap', by omega, by go_num, rfl, HO4, HB4⟩
      case measure => simp [intOf]; omega
    · obtain rfl : k = 70 := by omega
      have HF : Hid (wr.ownsRow w.heap.size 5 1 (.slice (some ⟨g, 0, none⟩) (m + 70) c) (m + 70) (vals (xs ++ marks))) := by
        have := HO.out
        rw [List.take_of_length_le (by rw [marks_len]; omega)] at this
        exact this
      have hc : m + 70 ≤ c := (owns_le HO.out).1
      have hc1 : (m : Int) ≤ (c : Int) := by omega
      clear HO
      go_wp2
      go_ret
      exact ⟨g, c, rfl, HF.out, HB.out⟩

theorem Own.front {B : Nat} {w : World} {g cap : Nat} {xs ys : List Nat} (h : Own B w g cap (xs ++ ys)) : Bytes w (some ⟨g, 0, none⟩) xs := by
  have := bytes_take h.bytes xs.length
  rwa [List.take_left' rfl] at this
theorem Own.behind {B : Nat} {w : World} {g cap : Nat} {xs ys : List Nat} (h : Own B w g cap (xs ++ ys)) (k : Nat) (hk : k < ys.length) : w.cell? ⟨g, xs.length + k, none⟩ = some (.int .u8 (ys.getD k 0 : Nat)) := by
  have := (h.cell (xs.length + k) (by simp; omega)).1
  rw [this]
  simp [List.getD, List.getElem?_append_right]

theorem cell_draws (w : World) (n : Nat) (a : Addr) : (w.drewN n).cell? a = w.cell? a := rfl

set_option maxRecDepth 100000 in
set_option maxHeartbeats 400000 in
theorem intact_any (w : World) (B g c m : Nat) (sp : Option Addr) (cb : Nat) (xs : List Nat) (hm : xs.length = m) (ho : Own B w g c (xs ++ marks)) (hx : Bytes w sp xs) (hlen : m ≤ 140737488351232) :
    Calls Try.prog 27 #[.slice (some ⟨g, 0, none⟩) m c, .slice sp m cb] w fun e w' => e = .returned (.bool true) ∧ ∃ q, w' = w.drewN q := by
  have hv1 := conv_str ho.front hm c
  have hv2 := conv_str hx hm cb
  have hc70 : m + 70 ≤ c := by have := ho.cap; rw [List.length_append, marks_len, hm] at this; exact this
  have HC : Hid (∀ k, k < 70 → w.cell? ⟨g, m + k, none⟩ = some (.int .u8 ((165 - k : Nat) : Int))) := fun k hk => by
    have := ho.behind k (by rw [marks_len]; exact hk)
    rw [marks_at k hk, hm] at this
    exact this
  clear ho hx hm
  generalize str xs = S at *
  have hc1 : (m : Int) + 70 ≤ (c : Int) := by omega
  go_enter Try.func27, Try.ntmps27
  go_wp2
  clear hv1 hv2
  go_loopw [6] (fun i wr => ∃ (k q : Nat), k ≤ 70 ∧ i = .int .i64 k ∧ Hid (wr = w.drewN q)) (fun i _ => 70 - (intOf i).toNat)
  case atStart => exact ⟨0, 0, Nat.zero_le _, rfl, rfl⟩
  case round =>
    obtain ⟨k, q, hk, rfl, HW⟩ := hrel
    by_cases hlt : k < 70
    · have hcx : wr.cell? ⟨g, m + k, none⟩ = some (.int .u8 ((165 - k : Nat) : Int)) := by rw [HW.out]; exact HC.out k hlt
      have HK := hide (fun w => markAt_any w k hlt)
      have hx : 165 - k < 256 := by omega
      generalize 165 - k = x at *
      have l1 : (k : Int) < 70 := by omega
      have hwr : IntKind.i64.wrap ((m : Int) + (k : Int)) = ((m + k : Nat) : Int) := by rw [IntKind.wrap_i64]; omega
      have l3 : m + k < m + 70 := by omega
      generalize m + k = p at *
      have l4 : (p : Int) < (m : Int) + 70 := by omega
      have l5 : (0 : Int) ≤ (p : Int) := by omega
      go_wp2
      go_quiet (first | (go_at_call 50; exact Calls.quiet_of_same (HK.out _)))
      go_wp2
      go_roundw
      case rel => exact ⟨k + 1, q + nq, by omega, by go_num, by show _ = _; rw [HW.out, World.drewN_drewN]⟩
      case measure => simp [intOf]; omega
    · obtain rfl : k = 70 := by omega
      go_wp2
      go_ret
      exact ⟨rfl, q, HW.out⟩

set_option maxRecDepth 100000 in
set_option maxHeartbeats 400000 in
theorem over_any (w : World) (K : Knd) (k : Nat × Nat) (g m c cap : Nat) (xs : List Nat) (hm : m ≤ xs.length) (ho : Own 0 w g cap xs) (hk : K g = k) (hl : m ≤ 140737488351232) :
    Calls Try.prog 28 #[.slice (some ⟨g, 0, none⟩) m c] w fun e w' => e = .returned (.tuple #[]) ∧ Kp (fun q => q = k) K K w w' := by
  have HO := hide ho
  have HM := hide hm
  have HK := hide hk
  clear ho hm hk
  go_enter Try.func28, Try.ntmps28
  go_wp2
  go_loopw [2] (fun i wr => ∃ (j : Nat) (ys : List Nat), j ≤ m ∧ i = .int .i64 j ∧ Hid (Own 0 wr g cap ys) ∧ Hid (ys.length = xs.length) ∧ Hid (Kp (fun q => q = k) K K w wr)) (fun i _ => m - (intOf i).toNat)
  case atStart => exact ⟨0, xs, Nat.zero_le _, rfl, HO, hide rfl, hide (Kp.refl _ _ _)⟩
  case round =>
    obtain ⟨j, ys, hj, rfl, HY, HYl, HP⟩ := hrel
    by_cases hlt : j < m
    · have hlt' : (j : Int) < (m : Int) := by omega
      have i0 : (0 : Int) ≤ (j : Int) := by omega
      obtain ⟨hc, hf⟩ := HY.out.cell j (by have := HYl.out; have := HM.out; omega)
      have hgl := HY.out.lt
      go_wp2
      go_roundw
      case rel => exact ⟨j + 1, ys.set j 238, by omega, by go_num, hide (HY.out.set j 238 (by omega)), hide (by rw [List.length_set]; exact HYl.out), hide (HP.out.setCell (Or.inr HK.out) _ _)⟩
      case measure => simp [intOf]; omega
    · obtain rfl : j = m := by omega
      go_wp2
      go_end0
      exact ⟨rfl, HP.out⟩

set_option maxRecDepth 100000 in
theorem clip_any (w : World) (sp : Option Addr) (n c : Nat) (hc : n ≤ c) (hc2 : c ≤ 9223372036854775807) :
    Calls Try.prog 14 #[.slice sp n c] w fun e w' => e = .returned (.slice sp (min n 4096) c) ∧ w' = w := by
  by_cases h : 4096 < n
  · have h' : (4096 : Int) < (n : Int) := by omega
    have h2 : (4096 : Int) ≤ (c : Int) := by omega
    have e : min n 4096 = 4096 := by omega
    rw [e]
    clear e
    go_enter Try.func14, Try.ntmps14
    go_wp2
    go_ret
    exact ⟨rfl, rfl⟩
  · have h' : ¬ (4096 : Int) < (n : Int) := by omega
    have e : min n 4096 = n := by omega
    rw [e]
    clear e
    go_enter Try.func14, Try.ntmps14
    go_wp2
    go_ret
    exact ⟨rfl, rfl⟩

end Go.Proofs.Ythgggjdefhgfiaa
