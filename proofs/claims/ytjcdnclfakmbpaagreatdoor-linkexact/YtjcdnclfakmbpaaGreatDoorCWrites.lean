import Derived.Laws.BytesArg
import Derived.Lib.JoinLaws
import Derived.Test.YtjcdnclfakmbpaaGreatDoorCEyeP
namespace Go.Proofs.YtjcdnclfakmbpaaGreatDoor.C
open Go.RowKit
theorem lie_row {w : World} {b : Nat} {C : Array Value} {xs : List Nat} {t : TypeId} {fr : Nat × Nat} (h : w.heap[b]? = some (.cells C t fr)) (hs : ∀ x ∈ xs, x < 256) (hc : ∀ j, j < xs.length → C[j]? = some (.int .u8 (xs.getD j 0 : Nat))) : Bytes w (some ⟨b, 0, none⟩) xs :=
  ⟨hs, Or.inr ⟨b, 0, rfl, (Array.getElem?_eq_some_iff.1 h).1, fun j hj => by simp only [World.cell?, h, Nat.zero_add]; exact hc j hj⟩⟩
structure Own (B : Nat) (w : World) (g cap : Nat) (xs : List Nat) : Prop where
  base : B ≤ g
  cap : xs.length ≤ cap
  small : ∀ x ∈ xs, x < 256
  row : ∃ C : Array Value, w.heap[g]? = some (.cells C 5 (0, 0)) ∧ ∀ j, j < xs.length → C[j]? = some (.int .u8 (xs.getD j 0 : Nat))
theorem Own.bytes {B : Nat} {w : World} {g cap : Nat} {xs : List Nat} (h : Own B w g cap xs) : Bytes w (some ⟨g, 0, none⟩) xs := by
  obtain ⟨C, hC, hc⟩ := h.row
  exact lie_row hC h.small hc
theorem Own.lt {B : Nat} {w : World} {g cap : Nat} {xs : List Nat} (h : Own B w g cap xs) : g < w.heap.size := by
  obtain ⟨C, hC, _⟩ := h.row
  exact lt_of_block hC
theorem Own.mono {B B' : Nat} {w : World} {g cap : Nat} {xs : List Nat} (h : Own B w g cap xs) (hb : B' ≤ B) : Own B' w g cap xs := ⟨Nat.le_trans hb h.base, h.cap, h.small, h.row⟩
theorem Own.cell {B : Nat} {w : World} {g cap : Nat} {xs : List Nat} (h : Own B w g cap xs) (j : Nat) (hj : j < xs.length) : w.cell? ⟨g, j, none⟩ = some (.int .u8 (xs.getD j 0 : Nat)) ∧ w.frozen? ⟨g, j, none⟩ = false := by
  obtain ⟨C, hC, hc⟩ := h.row
  exact ⟨by simp only [World.cell?, hC]; exact hc j hj, by simp only [World.frozen?, hC]; simp⟩
theorem Own.set {B : Nat} {w : World} {g cap : Nat} {xs : List Nat} (h : Own B w g cap xs) (i y : Nat) (hy : y < 256) : Own B (w.setCell ⟨g, i, none⟩ (.int .u8 (y : Int))) g cap (xs.set i y) := by
  obtain ⟨C, hC, hc⟩ := h.row
  refine ⟨h.base, by simpa using h.cap, ?_, _, heap_setCell_same _ _ _ _ _ _ hC, ?_⟩
  · intro x hx
    rcases List.mem_or_eq_of_mem_set hx with h' | h'
    · exact h.small x h'
    · rw [h']; exact hy
  · intro j hj
    simp at hj
    have hcj := hc j hj
    have hjs : j < C.size := (Array.getElem?_eq_some_iff.1 hcj).1
    by_cases hij : i = j
    · subst hij
      simp [List.getD, hj, hjs]
    · rw [Array.getElem?_setIfInBounds_ne hij, hcj]
      simp [List.getD, List.getElem?_set_ne hij]
theorem bytes_cells {w : World} {g o : Nat} {xs : List Nat} (hx : Bytes w (some ⟨g, o, none⟩) xs) : ∀ j u, (vals xs)[j]? = some u → w.cell? ((⟨g, o, none⟩ : Addr).add j) = some u := by
  intro j u hj
  simp only [vals, List.getElem?_map, Option.map_eq_some_iff] at hj
  obtain ⟨x, hx', rfl⟩ := hj
  have hlt : j < xs.length := (List.getElem?_eq_some_iff.1 hx').1
  rcases hx.lie with h0 | ⟨g', o', e, hg, hc⟩
  · subst h0; simp at hlt
  · cases e
    have := hc j hlt
    simp only [List.getD, hx', Option.getD_some] at this
    unfold Addr.add
    by_cases h0 : j = 0
    · subst h0; simpa using this
    · simpa [h0] using this
theorem own_of {w : World} {B g n c : Nat} {xs : List Nat} (hl : xs.length = n) (hs : ∀ x ∈ xs, x < 256) (h : w.ownsRow B 5 1 (.slice (some ⟨g, 0, none⟩) n c) n (vals xs)) : Own B w g c xs := by
  rcases h.2 with ⟨h1, _⟩ | ⟨g', cap, cur, h1, h2, hg, h3, _, h5, ht⟩
  · cases h1
  · cases h1
    refine ⟨h2, by omega, hs, cur, hg, fun j hj => ?_⟩
    have : (vals xs)[j]? = some (.int .u8 (xs.getD j 0 : Nat)) := by simp [vals, List.getD, hj]
    rw [← ht, List.getElem?_take, if_pos (by omega)] at this
    simpa using this
def marks : List Nat := (List.range 70).map fun i => 165 - i
theorem marks_len : marks.length = 70 := by decide
theorem marks_small : ∀ x ∈ marks, x < 256 := by decide
theorem marks_at : ∀ i, i < 70 → marks.getD i 0 = 165 - i := by decide
theorem marks_take (i : Nat) (h : i < 70) : marks.take (i + 1) = marks.take i ++ [165 - i] := by
  rw [take_snoc marks i (by rw [marks_len]; exact h), marks_at i h]
set_option maxRecDepth 100000 in
theorem markAt_any (w : World) (i : Nat) (hi : i < 70) :
    Calls Tryz.prog 97 #[.int .i64 i] w fun e w' => e = .returned (.int .u8 (165 - i : Nat)) ∧ w' = w := by
  have e1 : (165 : Int) - (i : Int) = ((165 - i : Nat) : Int) := by omega
  have e2 : 165 - i < 256 := by omega
  generalize 165 - i = m at *
  go_enter Tryz.func97, Tryz.ntmps97
  go_wp2
  go_ret
  exact ⟨rfl, rfl⟩
theorem vals_one (xs : List Nat) : ∀ u ∈ vals xs, u.oneCell' = true := fun u hu => by
  simp only [vals, List.mem_map] at hu
  obtain ⟨x, _, rfl⟩ := hu
  rfl
theorem vals_len (xs : List Nat) : (vals xs).length = xs.length := by simp [vals]
theorem vals_app (xs ys : List Nat) : vals (xs ++ ys) = vals xs ++ vals ys := by simp [vals]
theorem owns_le {w : World} {B n cap g : Nat} {t : TypeId} {ys : List Value} (h : w.ownsRow B t 1 (.slice (some ⟨g, 0, none⟩) n cap) n ys) : n ≤ cap ∧ B ≤ g ∧ g < w.heap.size := by
  rcases h.2 with ⟨h1, _⟩ | ⟨g', cap', cur, h1, h2, hg, h3, _⟩
  · cases h1
  · cases h1; exact ⟨h3, h2, lt_of_block hg⟩
theorem wpList_append_bytes {w : World} {ops : Array Oper} {rest : List Oper} {o : Oper} {a : Act} {Q : Exit → Act → World → Prop} (hgd : o.guard = none) (s x : Operand)
    (ho : o.op = .call { callee := .builtin .append, args := #[s, x], argTypes := #[31, 31] }) (B g0 n cap0 : Nat) (ys : List Value)
    (hs : a.eval s = .slice (some ⟨g0, 0, none⟩) n cap0) (hown : w.ownsRow B 5 1 (.slice (some ⟨g0, 0, none⟩) n cap0) n ys) (sp : Option Addr) (m c : Nat) (xs : List Nat) (hx : a.eval x = .slice sp m c) (hm : xs.length = m) (hb : Bytes w sp xs)
    (h63 : n + m ≤ 140737488355328) (hB : B ≤ w.heap.size)
    (h : ∀ g cap w', w'.ownsRow B 5 1 (.slice (some ⟨g, 0, none⟩) (n + m) cap) (n + m) (ys ++ vals xs) → w.grownBy w' (some g0) → (g = g0 ∨ g = w.heap.size) → wpList Tryz.prog ops Q rest (a.put o.dst (.slice (some ⟨g, 0, none⟩) (n + m) cap)) w') :
    wpList Tryz.prog ops Q (o :: rest) a w := by
  obtain ⟨i0, hi, hz0, hz1, hz2⟩ := info_parts Tryz.info5'
  rcases hb.lie with h0 | ⟨g, o', rfl, hg, hc⟩
  · subst h0
    simp at hm
    subst hm
    refine wpList_append_zero hgd s x 31 ho 5 i0 Tryz.underlying31 hi _ n cap0 (owns_le hown).1 hs sp c hx ?_
    exact h g0 cap0 w (by simpa [vals] using hown) ⟨rfl, rfl, rfl, Nat.le_refl _, fun _ _ _ => rfl⟩ (Or.inl rfl)
  · by_cases h0 : m = 0
    · subst h0
      have hxs : xs = [] := List.eq_nil_of_length_eq_zero hm
      subst hxs
      refine wpList_append_zero hgd s x 31 ho 5 i0 Tryz.underlying31 hi _ n cap0 (owns_le hown).1 hs _ c hx ?_
      exact h g0 cap0 w (by simpa [vals] using hown) ⟨rfl, rfl, rfl, Nat.le_refl _, fun _ _ _ => rfl⟩ (Or.inl rfl)
    · refine wpList_append_lies _ hgd s x 31 ho B 5 i0 (.int .u8 0) 1 1 Tryz.underlying31 hi hz0 hz1 hz2 rfl (by omega) _ n ys hs hown ⟨g, o', none⟩ m c (vals xs) hx (by rw [vals_len, hm, Nat.mul_one]) (bytes_cells hb) (vals_one xs) (by omega) (by unfold maxLen; omega) (by omega) hB _ rfl ?_
      intro g' cap w' h1 h2 h3 _
      refine h g' cap w' h1 h2 ?_
      rcases h3 with h3 | h3
      · left; simpa [Value.ownBlock] using h3.symm
      · exact Or.inr h3
theorem run_make_lent (w : World) (m : Nat) (hm : m ≤ 140737488351400) :
    ∃ w', (Instr.makeSlice 31 (.int .i64 0) (.int .i64 (m : Int))).run Tryz.prog w = .ok (.slice (some ⟨w.heap.size, 0, none⟩) 0 m) w' ∧ w'.ownsRow w.heap.size 5 1 (.slice (some ⟨w.heap.size, 0, none⟩) 0 m) 0 [] ∧ Below w.heap.size w w' := by
  refine ⟨_, run_make_room (P := Tryz.prog) 31 5 (.int .u8 0) 1 Tryz.underlying31 Tryz.info5' rfl .i64 .i64 m (by omega) (by omega) w, World.ownsRow_made w _ m (Nat.le_refl _) (by unfold maxLen; omega) ?_, (Below.refl _ _).alloc (Nat.le_refl _) _⟩
  rw [made_rep]; simp
theorem own_full {w : World} {B g n c : Nat} {xs : List Nat} (hs : ∀ x ∈ xs, x < 256) (h : w.ownsRow B 5 1 (.slice (some ⟨g, 0, none⟩) n c) n (vals xs)) : Own B w g c xs := by
  have hl : xs.length = n := by have := h.1; rw [vals_len] at this; omega
  exact own_of hl hs h
set_option maxRecDepth 100000 in
set_option maxHeartbeats 400000 in
theorem lend_any (w : World) (sp : Option Addr) (m cap : Nat) (xs : List Nat) (hm : xs.length = m) (hx : Bytes w sp xs) (hlen : m ≤ 140737488351232) :
    Calls Tryz.prog 51 #[.slice sp m cap] w fun e w' => ∃ g c', e = .returned (.slice (some ⟨g, 0, none⟩) m c') ∧ Own w.heap.size w' g c' (xs ++ marks) ∧ Below w.heap.size w w' := by
  have HX := hide hx
  have HM := hide hm
  clear hx hm
  obtain ⟨M, hMi, hMn⟩ : ∃ M : Nat, (m : Int) + 70 = (M : Int) ∧ M = m + 70 := ⟨m + 70, by omega, rfl⟩
  have HMn := hide hMn
  have hM1 : M ≤ 140737488351400 := by omega
  clear hMn
  obtain ⟨w1, hmk, hown1, hb1⟩ := run_make_lent w M hM1
  have HO1 := hide hown1
  have HB1 := hide hb1
  clear hown1 hb1
  obtain ⟨i0, hi, hz0, hz1, hz2⟩ := info_parts Tryz.info5'
  go_enter Tryz.func51, Tryz.ntmps51
  go_wp2_with (at_builtin; refine wpList_append_bytes rfl (.tmp 9) (.tmp 10) rfl w.heap.size _ 0 M [] rfl HO1.out sp m cap xs rfl HM.out (HX.out.below HB1.out) (by omega) HB1.out.size ?_; intro g c w2 hown2 hgrow2 hat2)
  have HO2 := hide hown2
  have HB2 : Hid (Below w.heap.size w w2) := HB1.out.grown hgrow2 HB1.out.size (fun k e => by cases e; exact Nat.le_refl _)
  clear hown2 hgrow2 hat2 HO1 HB1 hmk
  go_wp2
  go_loopw [3, 4] (fun l i wr => ∃ (k g c : Nat), k ≤ 70 ∧ i = .int .i64 k ∧ l = .slice (some ⟨g, 0, none⟩) (m + k) c ∧ Hid (wr.ownsRow w.heap.size 5 1 (.slice (some ⟨g, 0, none⟩) (m + k) c) (m + k) (vals (xs ++ marks.take k))) ∧ Hid (Below w.heap.size w wr)) (fun _ i _ => 70 - (intOf i).toNat)
  case atStart => exact ⟨0, g, c, Nat.zero_le _, rfl, by simp, by simpa [Hid] using HO2.out, HB2⟩
  case round =>
    obtain ⟨k, g, c, hk, rfl, rfl, HO, HB⟩ := hrel
    clear HO2 HB2
    by_cases hlt : k < 70
    · have l1 : (k : Int) < 70 := by omega
      have HT : Hid (vals (xs ++ marks.take (k + 1)) = vals (xs ++ marks.take k) ++ [.int .u8 ((165 - k : Nat) : Int)]) := by
        show _ = _
        rw [marks_take k hlt, ← List.append_assoc, vals_app (xs ++ marks.take k)]
        rfl
      have HK := hide (fun w => markAt_any w k hlt)
      generalize 165 - k = x at *
      go_wp2_with fail
      refine (HK.out _).mono ?_
      rintro e w3 ⟨rfl, rfl⟩
      go_wp2_with (at_builtin; refine wpList_append_lies _ rfl (.tmp 16) (.tmp 19) 31 rfl w.heap.size 5 i0 (.int .u8 0) 1 1 Tryz.underlying31 hi hz0 hz1 hz2 rfl (by omega) _ _ _ rfl (HO.out.alloc _) ⟨w3.heap.size, 0, none⟩ 1 1 [.int .u8 (x : Int)] rfl rfl (World.news_of_block (heap_alloc_new w3 (.cells #[.int .u8 (x : Int)] 5))) (by simp [Value.oneCell']) (by omega) (by unfold maxLen; omega) (by omega) (by have := HB.out.size; simp; omega) _ rfl ?_; intro g' cap' w4 hown4 hgrow4 hat4 hltg)
      rw [← HT.out] at hown4
      have HO4 := hide hown4
      have HB4 : Hid (Below w.heap.size w w4) := (HB.out.alloc HB.out.size _).grown hgrow4 (by have := HB.out.size; simp; omega) (fun k e => by cases e; exact (owns_le HO.out).2.1)
      clear hown4 hgrow4 hat4
      go_wp2
      go_roundw
      case rel => exact ⟨k + 1, g', cap', by omega, by go_num, rfl, HO4, HB4⟩
      case measure => simp [intOf]; omega
    · obtain rfl : k = 70 := by omega
      have HF : Hid (Own w.heap.size wr g c (xs ++ marks)) := by
        have := HO.out
        rw [List.take_of_length_le (by rw [marks_len]; omega)] at this
        exact own_full (fun x hx => by
          rcases List.mem_append.1 hx with h | h
          · exact HX.out.small x h
          · exact marks_small x h) this
      have hc : m + 70 ≤ c := (owns_le HO.out).1
      have hc1 : (m : Int) ≤ (c : Int) := by omega
      clear HO
      go_wp2
      go_ret
      exact ⟨g, c, rfl, HF.out, HB.out⟩
end Go.Proofs.YtjcdnclfakmbpaaGreatDoor.C
namespace Go.Proofs.YtjcdnclfakmbpaaGreatDoor.C
open Go.RowKit
def str (xs : List Nat) : ByteArray := strOfNums (xs.map fun (x : Nat) => (x : Int))
theorem conv_str {w : World} {sp : Option Addr} {xs : List Nat} {m : Nat} (h : Bytes w sp xs) (hm : xs.length = m) (c : Nat) :
    (convert 31 9 (.slice sp m c)).run Tryz.prog w = .ok (.string (str xs)) w := by
  subst hm
  have hz : ∀ a : Option Addr, (convert 31 9 (.slice a 0 c)).run Tryz.prog w = .ok (.string (str [])) w := fun a => by
    rw [run_convert_bytes_string w 31 9 5 a 0 c Tryz.underlying31 Tryz.underlying5 Tryz.underlying9]
    cases a with
    | none => simp [Conv.bytesToString]; rfl
    | some a =>
      rw [run_bytesToString w a 0 c [] (by simpa using run_loadCells_list (P := Tryz.prog) w a [] (by simp))]
      rfl
  rcases h.lie with h0 | ⟨g, o, rfl, hg, hc⟩
  · subst h0; exact hz sp
  · refine run_convert_bytes_arg w 31 5 Tryz.underlying31 Tryz.underlying5 g o _ c _ (by simp) (fun i hi => ?_) 9 Tryz.underlying9
    rw [hc i hi]
    simp [List.getD, hi]
theorem Own.front {B : Nat} {w : World} {g cap : Nat} {xs ys : List Nat} (h : Own B w g cap (xs ++ ys)) : Bytes w (some ⟨g, 0, none⟩) xs := by
  have := h.bytes.take xs.length
  rwa [List.take_left' rfl] at this
theorem Own.behind {B : Nat} {w : World} {g cap : Nat} {xs ys : List Nat} (h : Own B w g cap (xs ++ ys)) (k : Nat) (hk : k < ys.length) : w.cell? ⟨g, xs.length + k, none⟩ = some (.int .u8 (ys.getD k 0 : Nat)) := by
  have := (h.cell (xs.length + k) (by simp; omega)).1
  rw [this]
  simp [List.getD, List.getElem?_append_right]
set_option maxRecDepth 100000 in
set_option maxHeartbeats 400000 in
theorem intact_any (w : World) (B g c m : Nat) (sp : Option Addr) (cb : Nat) (xs : List Nat) (hm : xs.length = m) (ho : Own B w g c (xs ++ marks)) (hx : Bytes w sp xs) (hlen : m ≤ 140737488351232) :
    Calls Tryz.prog 54 #[.slice (some ⟨g, 0, none⟩) m c, .slice sp m cb] w fun e w' => e = .returned (.bool true) ∧ ∃ q, w' = w.drewN q := by
  have hv1 := conv_str ho.front hm c
  have hv2 := conv_str hx hm cb
  have hc70 : m + 70 ≤ c := by have := ho.cap; rw [List.length_append, marks_len, hm] at this; exact this
  have HC : Hid (∀ k, k < 70 → w.cell? ⟨g, m + k, none⟩ = some (.int .u8 ((165 - k : Nat) : Int))) := fun k hk => by
    have := ho.behind k (by rw [marks_len]; exact hk)
    rw [marks_at k hk, hm] at this
    exact this
  clear ho hx hm
  generalize str xs = S at *
  have hc1 : (m : Int) + 70 ≤ (c : Int) := by omega
  go_enter Tryz.func54, Tryz.ntmps54
  go_wp2
  clear hv1 hv2
  go_loopw [6] (fun i wr => ∃ (k q : Nat), k ≤ 70 ∧ i = .int .i64 k ∧ Hid (wr = w.drewN q)) (fun i _ => 70 - (intOf i).toNat)
  case atStart => exact ⟨0, 0, Nat.zero_le _, rfl, rfl⟩
  case round =>
    obtain ⟨k, q, hk, rfl, HW⟩ := hrel
    by_cases hlt : k < 70
    · have hcx : wr.cell? ⟨g, m + k, none⟩ = some (.int .u8 ((165 - k : Nat) : Int)) := by rw [HW.out]; exact HC.out k hlt
      have HK := hide (fun w => markAt_any w k hlt)
      have hx : 165 - k < 256 := by omega
      generalize 165 - k = x at *
      have l1 : (k : Int) < 70 := by omega
      have hwr : IntKind.i64.wrap ((m : Int) + (k : Int)) = ((m + k : Nat) : Int) := by rw [IntKind.wrap_i64]; omega
      have l3 : m + k < m + 70 := by omega
      generalize m + k = p at *
      have l4 : (p : Int) < (m : Int) + 70 := by omega
      have l5 : (0 : Int) ≤ (p : Int) := by omega
      go_wp2
      go_quiet (first | (go_at_call 97; exact Calls.quiet_of_same (HK.out _)))
      go_wp2
      go_roundw
      case rel => exact ⟨k + 1, q + nq, by omega, by go_num, by show _ = _; rw [HW.out, World.drewN_drewN]⟩
      case measure => simp [intOf]; omega
    · obtain rfl : k = 70 := by omega
      go_wp2
      go_ret
      exact ⟨rfl, q, HW.out⟩
end Go.Proofs.YtjcdnclfakmbpaaGreatDoor.C
namespace Go.Proofs.YtjcdnclfakmbpaaGreatDoor.C
open Go.RowKit
structure Kept (S : Nat → Prop) (w w' : World) : Prop where
  os : w'.os = w.os
  tape : w'.tape = w.tape
  output : w'.output = w.output
  size : w.heap.size ≤ w'.heap.size
  block : ∀ k, k < w.heap.size → ¬ S k → w'.heap[k]? = w.heap[k]?
theorem Kept.refl (S : Nat → Prop) (w : World) : Kept S w w := ⟨rfl, rfl, rfl, Nat.le_refl _, fun _ _ _ => rfl⟩
theorem Kept.trans {S T : Nat → Prop} {w1 w2 w3 : World} (h : Kept S w1 w2) (k : Kept T w2 w3) (hT : ∀ i, T i → S i ∨ w1.heap.size ≤ i) : Kept S w1 w3 :=
  ⟨k.os.trans h.os, k.tape.trans h.tape, k.output.trans h.output, Nat.le_trans h.size k.size, fun i hi hn => (k.block i (Nat.lt_of_lt_of_le hi h.size) (fun t => (hT i t).elim hn (fun e => by omega))).trans (h.block i hi hn)⟩
theorem kept_below {S : Nat → Prop} {w w' : World} (h : Below w.heap.size w w') : Kept S w w' := ⟨h.os, h.tape, h.output, h.size, fun k hk _ => h.block k hk⟩
theorem kept_grown {r : Option Nat} {w w' : World} (h : w.grownBy w' r) : Kept (fun k => some k = r) w w' := ⟨h.os, h.tape, h.output, h.size, fun k hk hn => h.block k hk hn⟩
theorem kept_but {b : Nat} {w w' : World} (h : But b w w') : Kept (fun k => k = b) w w' := ⟨h.os, h.tape, h.output, h.size, fun k hk hn => h.block k hk hn⟩
def Far (v h : Value) : Prop := ∀ g, v.ownBlock = some g → h.ownBlock ≠ some g
theorem owns_lt {w : World} {B n : Nat} {t : TypeId} {v : Value} {xs : List Value} (h : w.ownsRow B t 1 v n xs) (g : Nat) (e : v.ownBlock = some g) : g < w.heap.size := by
  rcases h.2 with ⟨h1, h2⟩ | ⟨g', cap, cur, h1, _, hg, _⟩
  · rw [h1] at e; simp [Value.ownBlock] at e
  · rw [h1] at e; simp [Value.ownBlock] at e; subst e; exact lt_of_block hg
theorem owns_ne {w : World} {B n k : Nat} {t t' : TypeId} {v : Value} {xs : List Value} {C : Array Value} {fr : Nat × Nat} (h : w.ownsRow B t 1 v n xs) (hk : w.heap[k]? = some (.cells C t' fr)) (ht : t' ≠ t) : v.ownBlock ≠ some k := by
  intro e
  rcases h.2 with ⟨h1, h2⟩ | ⟨g', cap, cur, h1, _, hg, _⟩
  · rw [h1] at e; simp [Value.ownBlock] at e
  · rw [h1] at e; simp [Value.ownBlock] at e; subst e
    rw [hg] at hk; simp at hk; exact ht hk.2.1.symm
theorem wpList_append_held {w : World} {ops : Array Oper} {rest : List Oper} {o : Oper} {a : Act} {Q : Exit → Act → World → Prop} (hgd : o.guard = none) (s x : Operand)
    (ho : o.op = .call { callee := .builtin .append, args := #[s, x], argTypes := #[31, 31] }) (v : Value) (n : Nat) (ys : List Value)
    (hs : a.eval s = v) (hown : w.ownsRow 0 5 1 v n ys) (sp : Option Addr) (m c : Nat) (xs : List Nat) (hx : a.eval x = .slice sp m c) (hm : xs.length = m) (hb : Bytes w sp xs)
    (h63 : n + m ≤ 140737488355328)
    (h : ∀ v' w', w'.ownsRow 0 5 1 v' (n + m) (ys ++ vals xs) → w.grownBy w' v.ownBlock → (v'.ownBlock = v.ownBlock ∨ v'.ownBlock = some w.heap.size) → wpList Tryz.prog ops Q rest (a.put o.dst v') w') :
    wpList Tryz.prog ops Q (o :: rest) a w := by
  obtain ⟨i0, hi, hz0, hz1, hz2⟩ := info_parts Tryz.info5'
  by_cases h0 : m = 0
  · subst h0
    have hxs : xs = [] := List.eq_nil_of_length_eq_zero hm
    subst hxs
    obtain ⟨bp, cap, rfl, hle⟩ : ∃ bp cap, v = .slice bp n cap ∧ n ≤ cap := by
      rcases hown.2 with ⟨h1, h2⟩ | ⟨g, cap, cur, h1, _, _, h3, _⟩
      · subst h2; exact ⟨none, 0, h1, Nat.le_refl _⟩
      · exact ⟨_, cap, h1, h3⟩
    refine wpList_append_zero hgd s x 31 ho 5 i0 Tryz.underlying31 hi bp n cap hle hs sp c hx ?_
    exact h _ w (by simpa [vals] using hown) ⟨rfl, rfl, rfl, Nat.le_refl _, fun _ _ _ => rfl⟩ (Or.inl rfl)
  · rcases hb.lie with h' | ⟨g, o', rfl, hg, hc⟩
    · subst h'; simp at hm; omega
    · refine wpList_append_lies _ hgd s x 31 ho 0 5 i0 (.int .u8 0) 1 1 Tryz.underlying31 hi hz0 hz1 hz2 rfl (by omega) v n ys hs hown ⟨g, o', none⟩ m c (vals xs) hx (by rw [vals_len, hm, Nat.mul_one]) (bytes_cells hb) (vals_one xs) (by omega) (by unfold maxLen; omega) (by omega) (Nat.zero_le _) _ rfl ?_
      intro g' cap w' h1 h2 h3 _
      refine h _ w' h1 h2 ?_
      rcases h3 with h3 | h3
      · left; rw [h3]; rfl
      · right; rw [h3]; rfl
set_option maxRecDepth 100000 in
set_option maxHeartbeats 400000 in
theorem ref_text (w : World) (sp : Option Addr) (m cap : Nat) (xs : List Nat) (hm : xs.length = m) (hx : Bytes w sp xs) (hlen : m ≤ 140737488351232) :
    Calls Tryz.prog 141 #[.slice sp m cap] w fun e w' => ∃ g c, e = .returned (.slice (some ⟨g, 0, none⟩) (vs m + m) c) ∧ w'.ownsRow w.heap.size 5 1 (.slice (some ⟨g, 0, none⟩) (vs m + m) c) (vs m + m) (vals (varOf m (vs m - 1) ++ xs)) ∧ Below w.heap.size w w' := by
  have HX := hide hx
  have HM := hide hm
  clear hx hm
  have hv := vs_bounds m (by omega)
  have HV := hide (fun w => ref_var_any m (by omega) w)
  have HE : Hid (vals (varOf m (vs m - 1) ++ xs) = vals (varOf m (vs m - 1)) ++ vals xs) := vals_app _ _
  rw [HE.out]
  clear HE
  unfold Vared at HV
  generalize vals (varOf m (vs m - 1)) = V at *
  generalize vs m = s at *
  go_enter Tryz.func141, Tryz.ntmps141
  go_wp2_with fail
  refine (HV.out _).mono ?_
  rintro e w1 ⟨g, c, rfl, hown1, hb1⟩
  have HO := hide hown1
  have HB := hide hb1
  clear hown1 hb1 HV
  go_wp2_with (at_builtin; refine wpList_append_bytes rfl (.tmp 8) (.tmp 9) rfl w.heap.size _ s c V rfl HO.out sp m cap xs rfl HM.out (HX.out.below HB.out) (by omega) HB.out.size ?_; intro g' c' w2 hown2 hgrow2 hat2)
  have HO2 := hide hown2
  have HB2 : Hid (Below w.heap.size w w2) := HB.out.grown hgrow2 HB.out.size (fun k e => by cases e; exact (owns_le HO.out).2.1)
  clear hown2 hgrow2 hat2
  go_wp2
  go_ret
  exact ⟨g', c', rfl, HO2.out, HB2.out⟩
end Go.Proofs.YtjcdnclfakmbpaaGreatDoor.C
namespace Go.Proofs.YtjcdnclfakmbpaaGreatDoor.C
open Go.RowKit
theorem owns_bytes {w : World} {B n c : Nat} {a : Option Addr} {xs : List Nat} (h : w.ownsRow B 5 1 (.slice a n c) n (vals xs)) (hs : ∀ x ∈ xs, x < 256) : Bytes w a xs := by
  rcases h.2 with ⟨h1, h2⟩ | ⟨g, cap, cur, h1, h2, hg, h3, _, h5, ht⟩
  · cases h1
    have := h.1
    rw [vals_len] at this
    exact ⟨hs, Or.inl (List.eq_nil_of_length_eq_zero (by omega))⟩
  · cases h1
    exact (own_full hs h).bytes
theorem owns_form {w : World} {n : Nat} {v : Value} {xs : List Value} (h : w.ownsRow 0 5 1 v n xs) : ∃ a c, v = .slice a n c ∧ n ≤ c := by
  rcases h.2 with ⟨h1, h2⟩ | ⟨g, cap, cur, h1, _, _, h2, _⟩
  · exact ⟨none, 0, by rw [h1, h2], by omega⟩
  · exact ⟨_, cap, h1, h2⟩
theorem be_small (n s : Nat) : ∀ x ∈ beOf n s, x < 256 := fun x hx => by
  simp only [beOf, List.mem_map] at hx
  obtain ⟨i, _, rfl⟩ := hx
  exact Nat.mod_lt _ (by omega)
theorem var_small (n : Nat) (hn : n < 18446744073709551616) : ∀ x ∈ varOf n (vs n - 1), x < 256 := by
  have h1 := vs_bounds n hn
  have h2 := vs_fits n hn
  rw [show vs n = vs n - 1 + 1 by omega] at h2
  exact varOf_small n _ h2
theorem be_len (n s : Nat) : (beOf n s).length = s := by simp [beOf]
end Go.Proofs.YtjcdnclfakmbpaaGreatDoor.C
