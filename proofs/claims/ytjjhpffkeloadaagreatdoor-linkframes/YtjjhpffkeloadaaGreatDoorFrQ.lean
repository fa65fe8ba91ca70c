import Derived.Test.YtjjhpffkeloadaaGreatDoorFrP
import Derived.Test.YtjjhpffkeloadaaGreatDoorCWrites
namespace Go.Proofs.YtjjhpffkeloadaaGreatDoor.U
open Go.RowKit Go.Maps

set_option maxRecDepth 100000 in
set_option maxHeartbeats 400000 in
theorem other_none (w : World) (sp : Option Addr) (cap : Nat) :
    Calls Tryz.prog 12 #[.slice sp 0 cap] w fun e w' => e = .returned (.slice none 0 0) ∧ w' = w := by
  go_enter Tryz.func12, Tryz.ntmps12
  go_wp2
  refine wp_loop_rounds 1 ?_
  rw [rounds_succ]
  go_wp2
  go_ret
  exact ⟨rfl, rfl⟩


set_option maxRecDepth 100000 in
set_option maxHeartbeats 1000000 in
theorem other_some (w : World) (a o m cap : Nat) (xs : List Nat) (hm : xs.length = m) (h0 : 0 < m) (hx : Bytes w (some ⟨a, o, none⟩) xs) (hlen : m ≤ 140737488351232) :
    Calls Tryz.prog 12 #[.slice (some ⟨a, o, none⟩) m cap] w fun e w' => ∃ g c ys, e = .returned (.slice (some ⟨g, 0, none⟩) m c) ∧ ys.length = m ∧ Own w.heap.size w' g c ys ∧ (m ≤ c ∧ c ≤ maxLen) ∧ Below w.heap.size w w' := by
  have HX := hide hx
  have HM := hide hm
  have HC : Hid (a < w.heap.size ∧ ∀ j, j < m → w.cell? ⟨a, o + j, none⟩ = some (.int .u8 (xs.getD j 0))) := by
    rcases hx.lie with h | ⟨g, o', e, hg, hc⟩
    · subst h; simp at hm; omega
    · cases e; exact ⟨hg, fun j hj => hc j (by omega)⟩
  clear hx hm
  obtain ⟨i0, hi, hz0, hz1, hz2⟩ := info_parts Tryz.infoU8
  go_enter Tryz.func12, Tryz.ntmps12
  go_wp2
  go_loopw [3, 4] (fun l i wr => ∃ (j : Nat) (v : Value) (ys : List Nat), j ≤ m ∧ i = .int .i64 ((m : Int) - 1 - (j : Int)) ∧ l = v ∧ Hid (∀ x ∈ ys, x < 256) ∧ Hid (wr.ownsRow w.heap.size 5 1 v j (vals ys)) ∧ Hid (Below w.heap.size w wr)) (fun _ i _ => (intOf i + 1).toNat)
  case atStart => exact ⟨0, _, [], Nat.zero_le _, by simp, rfl, by simp [Hid], C.nil_owns w _, Below.refl _ _⟩
  case round =>
    obtain ⟨j, v, ys, hj, rfl, rfl, HS, HO, HB⟩ := hrel
    by_cases hlt : j < m
    · have hcx : wr.cell? ⟨a, o + (m - 1 - j), none⟩ = some (.int .u8 (xs.getD (m - 1 - j) 0)) := by rw [HB.out.cell (p := ⟨a, o + (m - 1 - j), none⟩) HC.out.1]; exact HC.out.2 _ (by omega)
      have hxs : xs.getD (m - 1 - j) 0 < 256 := C.getD_small HX.out.small _
      generalize xs.getD (m - 1 - j) 0 = x at *
      obtain ⟨p, hp, hpm⟩ : ∃ p : Nat, (m : Int) - 1 - (j : Int) = (p : Int) ∧ p = m - 1 - j := ⟨m - 1 - j, by omega, rfl⟩
      rw [← hpm] at hcx
      have hp2 : (p : Int) - 1 = (m : Int) - 1 - ((j + 1 : Nat) : Int) := by omega
      have HP2 := hide hp2
      have l1 : (p : Int) < (m : Int) := by omega
      have l2 : (0 : Int) ≤ (p : Int) := by omega
      rw [hp]
      clear hpm hp2 hp
      have HT : Hid (vals (ys ++ [x]) = vals ys ++ [.int .u8 (x : Int)]) := vals_app ys [x]
      have HS2 : Hid (∀ y ∈ ys ++ [x], y < 256) := fun y hy => by
        rcases List.mem_append.1 hy with h | h
        · exact HS.out y h
        · simp at h; omega
      go_wp2_with (at_builtin; refine wpList_append_lies _ rfl (.tmp 12) (.tmp 17) 55 rfl w.heap.size 5 i0 (.int .u8 0) 1 1 Tryz.underlying55 hi hz0 hz1 hz2 rfl (by omega) _ _ _ rfl (HO.out.alloc _) ⟨wr.heap.size, 0, none⟩ 1 1 [.int .u8 (x : Int)] rfl rfl (World.news_of_block (heap_alloc_new wr (.cells #[.int .u8 (x : Int)] 5))) (by simp [Value.oneCell']) (by omega) (by unfold maxLen; omega) (by omega) (by have := HB.out.size; simp; omega) _ rfl ?_; intro g' cap' w4 hown4 hgrow4 hat4 hltg)
      rw [← HT.out] at hown4
      have HO4 := hide hown4
      have HB4 : Hid (Below w.heap.size w w4) := (HB.out.alloc HB.out.size _).grown hgrow4 (by have := HB.out.size; simp; omega) (fun k e => (HO.out.lt k e).1)
      clear hown4 hgrow4 hat4
      go_wp2
      go_roundw
      case rel => exact ⟨j + 1, _, ys ++ [x], by omega, by rw [HP2.out], rfl, HS2, HO4, HB4⟩
      case measure => simp [intOf]
    · obtain rfl : j = m := by omega
      obtain ⟨g, c, rfl, hgb, hgl⟩ := HO.out.form h0
      have HF := hide (own_full HS.out HO.out)
      have HCc : Hid (j ≤ c ∧ c ≤ maxLen) := by
        rcases HO.out.2 with ⟨h1, _⟩ | ⟨_, _, _, h1, _, _, h4, h5, _⟩
        · cases h1
        · cases h1; exact ⟨h4, h5⟩
      have HYl : Hid (ys.length = j) := by have := HO.out.1; rw [vals_len] at this; show _ = _; omega
      clear HO
      have hv1 := conv_str HF.out.bytes HYl.out c
      have hv2 := conv_str (HX.out.below HB.out) HM.out cap
      generalize str ys = S1 at *
      generalize str xs = S2 at *
      obtain ⟨p, hp, hpm⟩ : ∃ p : Nat, (j : Int) - 1 = (p : Int) ∧ p = j - 1 := ⟨j - 1, by omega, rfl⟩
      obtain ⟨q0, qf⟩ := HF.out.cell p (by rw [HYl.out]; omega)
      have hy : ys.getD p 0 < 256 := C.getD_small HS.out _
      have hxor := u8_xor_nat (ys.getD p 0) 1 hy (by omega)
      have hx2 : ys.getD p 0 ^^^ 1 < 256 := Nat.xor_lt_two_pow (n := 8) hy (by omega)
      have HF2 := hide (HF.out.set p (ys.getD p 0 ^^^ 1) hx2)
      have HYl2 : Hid ((ys.set p (ys.getD p 0 ^^^ 1)).length = j) := by show _ = _; rw [List.length_set]; exact HYl.out
      generalize ys.set p (ys.getD p 0 ^^^ 1) = zs at *
      generalize ys.getD p 0 ^^^ 1 = X at *
      generalize ys.getD p 0 = x at *
      rw [show ((1 : Nat) : Int) = 1 from rfl] at hxor
      have l1 : (p : Int) < (j : Int) := by omega
      have l2 : (0 : Int) ≤ (p : Int) := by omega
      have l3 : (0 : Int) < (j : Int) := by omega
      have l4 : (j : Int) - 1 - (j : Int) = -1 := by omega
      rw [l4]
      clear hpm l4
      cases hb : (S1.toList == S2.toList)
      · go_wp2
        go_ret
        exact ⟨g, c, ys, rfl, HYl.out, HF.out, HCc.out, HB.out⟩
      · go_wp2
        go_ret
        exact ⟨g, c, zs, rfl, HYl2.out, HF2.out, HCc.out, HB.out.setCell hgb _⟩

set_option maxRecDepth 100000 in
theorem into_none (w : World) (g : Option Addr) (n : Nat) (v : Value) :
    Calls Tryz.prog 14 #[.slice g 0 n, v] w fun e w' => e = .returned (.tuple #[]) ∧ w' = w := by
  go_enter Tryz.func14, Tryz.ntmps14
  go_wp2
  refine wp_loop_rounds 1 ?_
  rw [rounds_succ]
  go_wp2
  go_end0
  exact ⟨rfl, rfl⟩

theorem other_any (w : World) (sp : Option Addr) (m cap : Nat) (xs : List Nat) (hm : xs.length = m) (hx : Bytes w sp xs) (hlen : m ≤ 140737488351232) :
    Calls Tryz.prog 12 #[.slice sp m cap] w fun e w' => ∃ sp' c ys, e = .returned (.slice sp' m c) ∧ ys.length = m ∧ Bytes w' sp' ys ∧ (∀ a, sp' = some a → w.heap.size ≤ a.block ∧ a.block < w'.heap.size) ∧ ((c = 0 ∧ ys = []) ∨ ∃ g o, sp' = some ⟨g, o, none⟩) ∧ m ≤ c ∧ c ≤ maxLen ∧ Below w.heap.size w w' := by
  by_cases h0 : m = 0
  · subst h0
    refine (other_none w sp cap).mono ?_
    rintro e w' ⟨rfl, rfl⟩
    exact ⟨none, 0, [], rfl, rfl, ⟨by simp, Or.inl rfl⟩, fun a e => (by cases e), Or.inl ⟨rfl, rfl⟩, Nat.le_refl _, by unfold maxLen; omega, Below.refl _ _⟩
  · rcases hx.lie with h | ⟨g, o, rfl, hg, hc⟩
    · subst h; simp at hm; omega
    · refine (other_some w g o m cap xs hm (by omega) hx hlen).mono ?_
      rintro e w' ⟨g', c, ys, rfl, hl, ho, hcc, hb⟩
      exact ⟨_, c, ys, rfl, hl, ho.bytes, fun a e => (by cases e; exact ⟨ho.base, ho.lt⟩), Or.inr ⟨g', 0, rfl⟩, hcc.1, hcc.2, hb⟩


theorem into_set (xs ys : List Nat) (k : Nat) (hk : k < ys.length) (h : xs.length = ys.length) : (ys.take k ++ xs.drop k).set k (ys.getD k 0) = ys.take (k + 1) ++ xs.drop (k + 1) := by
  have e : xs.drop k = xs.getD k 0 :: xs.drop (k + 1) := by
    rw [List.drop_eq_getElem_cons (by omega)]
    simp [List.getD, show k < xs.length by omega]
  rw [C.take_snoc ys k hk, e]
  have hl : (ys.take k).length = k := by rw [List.length_take]; omega
  rw [List.set_append_right _ _ (by omega), hl]
  simp
theorem vals_set (xs : List Nat) (k y : Nat) : vals (xs.set k y) = (vals xs).set k (.int .u8 (y : Int)) := by simp [vals, List.map_set]
theorem rk_set {w : World} {K : Knd} {k : Nat × Nat} {g m c : Nat} {xs : List Nat} (h : Rk w K k 5 1 (.slice (some ⟨g, 0, none⟩) m c) m (vals xs)) (j y : Nat) : Rk (w.setCell ⟨g, j, none⟩ (.int .u8 (y : Int))) K k 5 1 (.slice (some ⟨g, 0, none⟩) m c) m (vals (xs.set j y)) := by
  refine ⟨?_, h.kind⟩
  rw [vals_set]
  exact (h.own.stored j (.int .u8 (y : Int))).1
theorem rk_own {w : World} {K : Knd} {k : Nat × Nat} {g m c : Nat} {xs : List Nat} (h : Rk w K k 5 1 (.slice (some ⟨g, 0, none⟩) m c) m (vals xs)) (hs : ∀ x ∈ xs, x < 256) : Own 0 w g c xs := own_full hs h.own
set_option maxRecDepth 100000 in
set_option maxHeartbeats 1000000 in
/-- 'Into(l, b)', l a row of a kind. -/
theorem into_rk (w : World) (K : Knd) (kd : Nat × Nat) (g m c a o cb : Nat) (xs ys : List Nat) (hm : xs.length = m) (hy : ys.length = m) (hs : ∀ x ∈ xs, x < 256) (h : Rk w K kd 5 1 (.slice (some ⟨g, 0, none⟩) m c) m (vals xs)) (ha : a ≠ g) (hx : Bytes w (some ⟨a, o, none⟩) ys) (hlen : m ≤ 140737488351232) :
    Calls Tryz.prog 14 #[.slice (some ⟨g, 0, none⟩) m c, .slice (some ⟨a, o, none⟩) m cb] w fun e w' => e = .returned (.tuple #[]) ∧ Rk w' K kd 5 1 (.slice (some ⟨g, 0, none⟩) m c) m (vals ys) ∧ Kp (fun q => q = kd) K K w w' := by
  have HX := hide hx
  have HM := hide hm
  have HY := hide hy
  have HS := hide hs
  have HO0 := hide h
  have HKg : Hid (K g = kd) := h.kind g rfl
  have HC : Hid (∀ j, j < m → a < w.heap.size ∧ w.cell? ⟨a, o + j, none⟩ = some (.int .u8 (ys.getD j 0))) := by
    rcases hx.lie with h | ⟨g, o', e, hg, hc⟩
    · subst h; simp at hy; intro j hj; omega
    · cases e; exact fun j hj => ⟨hg, hc j (by omega)⟩
  clear hx hm hy h hs
  go_enter Tryz.func14, Tryz.ntmps14
  go_wp2
  go_loopw [4] (fun i wr => ∃ k : Nat, k ≤ m ∧ i = .int .i64 k ∧ Hid (Rk wr K kd 5 1 (.slice (some ⟨g, 0, none⟩) m c) m (vals (ys.take k ++ xs.drop k))) ∧ Hid (Kp (fun q => q = kd) K K w wr) ∧ Hid (∀ b, b < w.heap.size → b ≠ g → wr.heap[b]? = w.heap[b]?)) (fun i _ => m - (intOf i).toNat)
  case atStart => exact ⟨0, Nat.zero_le _, rfl, by simpa [Hid] using HO0.out, hide (Kp.refl _ _ _), fun _ _ _ => rfl⟩
  case round =>
    obtain ⟨k, hk, rfl, HO, HB, HF⟩ := hrel
    by_cases hlt : k < m
    · have hcx : wr.cell? ⟨a, o + k, none⟩ = some (.int .u8 (ys.getD k 0)) := by rw [World.cell?_of_block (w := w) (a := ⟨a, o + k, none⟩) (HF.out a (HC.out k hlt).1 ha)]; exact (HC.out k hlt).2
      have hxs : ys.getD k 0 < 256 := C.getD_small HX.out.small _
      have hsm : ∀ x ∈ ys.take k ++ xs.drop k, x < 256 := fun x hx => by
        rcases List.mem_append.1 hx with h | h
        · exact HX.out.small x (List.mem_of_mem_take h)
        · exact HS.out x (List.mem_of_mem_drop h)
      obtain ⟨q0, qf⟩ := (rk_own HO.out hsm).cell k (by simp; rw [HY.out, HM.out]; omega)
      have hgl := (rk_own HO.out hsm).lt
      have HO2 : Hid (Rk (wr.setCell ⟨g, k, none⟩ (.int .u8 (ys.getD k 0 : Nat))) K kd 5 1 (.slice (some ⟨g, 0, none⟩) m c) m (vals (ys.take (k + 1) ++ xs.drop (k + 1)))) := by
        have := rk_set HO.out k (ys.getD k 0)
        rw [into_set xs ys k (by rw [HY.out]; exact hlt) (by rw [HY.out, HM.out])] at this
        exact this
      generalize (ys.take k ++ xs.drop k).getD k 0 = x0 at *
      generalize ys.getD k 0 = x at *
      have l1 : (k : Int) < (m : Int) := by omega
      have l2 : (0 : Int) ≤ (k : Int) := by omega
      clear hsm
      go_wp2
      go_roundw
      case rel => exact ⟨k + 1, by omega, by go_num, HO2, hide (HB.out.setCell (Or.inr HKg.out) _ _), fun b hb hne => (Below.heap_setCell _ _ _ _ (by simpa using hne)).trans (HF.out b hb hne)⟩
      case measure => simp [intOf]; omega
    · obtain rfl : k = m := by omega
      have HE : Hid (Rk wr K kd 5 1 (.slice (some ⟨g, 0, none⟩) k c) k (vals ys)) := by
        have := HO.out
        rw [List.take_of_length_le (by rw [HY.out]; omega), List.drop_of_length_le (by rw [HM.out]; omega), List.append_nil] at this
        exact this
      go_wp2
      go_end0
      exact ⟨rfl, HE.out, HB.out⟩
set_option maxRecDepth 100000 in
set_option maxHeartbeats 400000 in
/-- 'Over(l)': every byte is 238. -/
theorem over_own (w : World) (K : Knd) (k : Nat × Nat) (g m c cap : Nat) (xs : List Nat) (hm : m ≤ xs.length) (ho : Own 0 w g cap xs) (hk : K g = k) (hl : m ≤ 140737488351232) :
    Calls Tryz.prog 10 #[.slice (some ⟨g, 0, none⟩) m c] w fun e w' => e = .returned (.tuple #[]) ∧ Own 0 w' g cap (List.replicate m 238 ++ xs.drop m) ∧ Kp (fun q => q = k) K K w w' := by
  have HO := hide ho
  have HM := hide hm
  have HK := hide hk
  clear ho hm hk
  go_enter Tryz.func10, Tryz.ntmps10
  go_wp2
  go_loopw [2] (fun i wr => ∃ (j : Nat), j ≤ m ∧ i = .int .i64 j ∧ Hid (Own 0 wr g cap (List.replicate j 238 ++ xs.drop j)) ∧ Hid (Kp (fun q => q = k) K K w wr)) (fun i _ => m - (intOf i).toNat)
  case atStart => exact ⟨0, Nat.zero_le _, rfl, hide (by simpa using HO.out), hide (Kp.refl _ _ _)⟩
  case round =>
    obtain ⟨j, hj, rfl, HY, HP⟩ := hrel
    by_cases hlt : j < m
    · have hlt' : (j : Int) < (m : Int) := by omega
      have i0 : (0 : Int) ≤ (j : Int) := by omega
      have hxl := HM.out
      obtain ⟨hc, hf⟩ := HY.out.cell j (by simp; omega)
      have hgl := HY.out.lt
      have HY2 : Hid (Own 0 (wr.setCell ⟨g, j, none⟩ (.int .u8 (238 : Nat))) g cap (List.replicate (j + 1) 238 ++ xs.drop (j + 1))) := by
        have h1 := HY.out.set j 238 (by omega)
        have e : (List.replicate j 238 ++ xs.drop j).set j 238 = List.replicate (j + 1) 238 ++ xs.drop (j + 1) := by
          rw [List.set_append_right _ _ (by simp), List.length_replicate, Nat.sub_self, List.drop_eq_getElem_cons (by omega), List.set_cons_zero, List.replicate_succ', List.append_assoc]
          rfl
        rw [e] at h1
        exact h1
      generalize (List.replicate j 238 ++ xs.drop j).getD j 0 = x0 at *
      clear hxl
      go_wp2
      go_roundw
      case rel => exact ⟨j + 1, by omega, by go_num, HY2, hide (HP.out.setCell (Or.inr HK.out) _ _)⟩
      case measure => simp [intOf]; omega
    · obtain rfl : j = m := by omega
      go_wp2
      go_end0
      exact ⟨rfl, HY.out, HP.out⟩
end Go.Proofs.YtjjhpffkeloadaaGreatDoor.U
