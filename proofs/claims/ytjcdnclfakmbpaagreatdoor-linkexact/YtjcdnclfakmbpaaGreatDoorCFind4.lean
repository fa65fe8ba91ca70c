import Derived.Deep.RegionHeld3
import Derived.Deep.DrawnRows
import Derived.Test.YtjcdnclfakmbpaaGreatDoorBase
import Derived.Test.YtjcdnclfakmbpaaGreatDoorCPure
namespace Go.Proofs.YtjcdnclfakmbpaaGreatDoor.C
open Go.RowKit
def Found (w w' : World) (xs : List Nat) (it : It) (e : Ending) : Prop :=
  ∃ bp bc, e = .returned (.tuple #[.agg #[.int .u64 (it.num : Int), .slice bp it.len bc, .int .i64 (it.size : Int)], .int .i64 (it.fault : Int)]) ∧ Bytes w' bp ((xs.drop it.off).take it.len) ∧ it.len ≤ bc ∧ bc ≤ 140737488355328 ∧ Below w.heap.size w w'
theorem bytes_none (w : World) (sp : Option Addr) : Bytes w sp [] := ⟨by simp, Or.inl rfl⟩
theorem found_no (w w' : World) (xs : List Nat) (f : Nat) (h : Below w.heap.size w w') : Found w w' xs (no f) (.returned (.tuple #[.agg #[.int .u64 0, .slice none 0 0, .int .i64 0], .int .i64 (f : Int)])) :=
  ⟨none, 0, rfl, by simpa [no] using bytes_none _ none, by simp [no], by omega, h⟩
set_option maxRecDepth 100000 in
set_option maxHeartbeats 400000 in
theorem fixed_short (w : World) (sp : Option Addr) (len cap size : Nat) (hb : len < size) (_hs : size ≤ 8) :
    Calls Tryz.prog 150 #[.slice sp len cap, .int .i64 size] w fun e w' => e = .returned (.tuple #[.agg #[.int .u64 0, .slice none 0 0, .int .i64 0], .int .i64 10]) ∧ Below w.heap.size w w' := by
  go_enter Tryz.func150, Tryz.ntmps150
  go_wp2
  exact bodyPost_ret (v := .tuple #[.agg #[.int .u64 0, .slice none 0 0, .int .i64 0], .int .i64 10]) (by simp [results, Tryz.results150, go_sem]) rfl ⟨rfl, (Below.refl _ _).alloc (Nat.le_refl _) _⟩
set_option maxRecDepth 100000 in
set_option maxHeartbeats 400000 in
theorem fixed_there (w : World) (g o : Nat) (len cap size : Nat) (xs : List Nat) (hX : ∀ x ∈ xs, x < 256) (hl : xs.length = len) (hg : g < w.heap.size) (hc : ∀ j, j < xs.length → w.cell? ⟨g, o + j, none⟩ = some (.int .u8 (xs.getD j 0))) (hb : size ≤ len) (hs : size ≤ 8) (_hcap : len ≤ 140737488355328) :
    Calls Tryz.prog 150 #[.slice (some ⟨g, o, none⟩) len cap, .int .i64 size] w fun e w' => e = .returned (.tuple #[.agg #[.int .u64 (be (xs.take size) : Nat), .slice none 0 0, .int .i64 size], .int .i64 0]) ∧ Below w.heap.size w w' := by
  have HX : Hid (∀ x ∈ xs, x < 256) := hX
  have HL : Hid (xs.length = len) := hl
  have HC : Hid (∀ j, j < len → w.cell? ⟨g, o + j, none⟩ = some (.int .u8 (xs.getD j 0))) := fun j hj => hc j (by omega)
  clear hX hl hc
  go_enter Tryz.func150, Tryz.ntmps150
  go_wp2
  go_loop [6, 14] (fun n i => ∃ (k N : Nat), k ≤ size ∧ i = .int .i64 k ∧ n = .int .u64 (N : Int) ∧ Hid (N = be (xs.take k))) (fun _ i => size - (intOf i).toNat)
  case atStart => exact ⟨0, 0, Nat.zero_le _, rfl, rfl, rfl⟩
  case round =>
    obtain ⟨k, N, hk, rfl, rfl, HN⟩ := hrel
    by_cases hlt : k < size
    · have hcx := HC.out k (by omega)
      have hx : xs.getD k 0 < 256 := getD_small HX.out k
      have hNN : N < 72057594037927936 := by rw [HN.out]; exact be_take_lt xs HX.out k (by omega)
      have HO : Hid (bits .or .u64 ((N : Int) * 256) ((xs.getD k 0 : Nat) : Int) = ((be (xs.take (k + 1)) : Nat) : Int)) := by
        show _ = _
        rw [or_byte N _ hNN hx, take_snoc xs k (by rw [HL.out]; omega), be_snoc, HN.out]
      generalize xs.getD k 0 = x at *
      go_wp2
      go_round
      case rel => exact ⟨k + 1, be (xs.take (k + 1)), by omega, by go_num, by rw [HO.out], rfl⟩
      case measure => simp [intOf]; omega
    · obtain rfl : k = size := by omega
      go_wp2
      exact bodyPost_ret (v := .tuple #[.agg #[.int .u64 (N : Int), .slice none 0 0, .int .i64 k], .int .i64 0]) (by simp [results, Tryz.results150, go_sem]) rfl ⟨by rw [HN.out], (Below.refl _ _).alloc (Nat.le_refl _) _⟩
theorem fixed_any (w : World) (sp : Option Addr) (len cap size : Nat) (xs : List Nat) (hl : xs.length = len) (hB : Bytes w sp xs) (hs : size ≤ 8) (h0 : 0 < size) (hcap : len ≤ 140737488355328) :
    Calls Tryz.prog 150 #[.slice sp len cap, .int .i64 size] w fun e w' => Found w w' xs (pFixed size xs) e := by
  by_cases h : len < size
  · refine (fixed_short w sp len cap size h hs).mono ?_
    rintro e w' ⟨rfl, hb⟩
    rw [pFixed, if_pos (by omega)]
    exact found_no _ _ _ 10 hb
  · rcases hB.lie with h' | ⟨g, o, rfl, hg, hc⟩
    · subst h'; simp at hl; omega
    · refine (fixed_there w g o len cap size xs hB.small hl hg hc (by omega) hs hcap).mono ?_
      rintro e w' ⟨rfl, hb⟩
      rw [pFixed, if_neg (by omega)]
      exact ⟨none, 0, rfl, by simpa using bytes_none _ none, by simp, by omega, hb⟩
set_option maxRecDepth 100000 in
set_option maxHeartbeats 4000000 in
theorem var_there (w : World) (g o len cap most : Nat) (xs : List Nat) (hX : ∀ x ∈ xs, x < 256) (hl : xs.length = len) (hg : g < w.heap.size) (hc : ∀ j, j < xs.length → w.cell? ⟨g, o + j, none⟩ = some (.int .u8 (xs.getD j 0))) (hcap : len ≤ 140737488355328) :
    Calls Tryz.prog 147 #[.slice (some ⟨g, o, none⟩) len cap, .int .u64 most] w fun e w' => Found w w' xs (pVar most xs 0 0) e := by
  have HX : Hid (∀ x ∈ xs, x < 256) := hX
  have HL : Hid (xs.length = len) := hl
  have HC : Hid (∀ j, j < len → w.cell? ⟨g, o + j, none⟩ = some (.int .u8 (xs.getD j 0))) := fun j hj => hc j (by omega)
  clear hX hl hc
  by_cases h10 : (10 : Int) < (len : Int)
  all_goals
    go_enter Tryz.func147, Tryz.ntmps147
    go_wp2
    go_loop [6, 12] (fun n i => ∃ (k N : Nat), k ≤ len ∧ k ≤ 9 ∧ i = .int .i64 k ∧ n = .int .u64 (N : Int) ∧ Hid (N < 128 ^ k) ∧ Hid (pVar most xs 0 0 = pVar most (xs.drop k) k N)) (fun _ i => 10 - (intOf i).toNat)
    case atStart => exact ⟨0, 0, Nat.zero_le _, by omega, rfl, rfl, by simp [Hid], by simp [Hid]⟩
    case round =>
      obtain ⟨k, N, hk, hk9, rfl, rfl, HNN, HN⟩ := hrel
      by_cases hlt : k < len
      · have hcx := HC.out k (by omega)
        have hx : xs.getD k 0 < 256 := getD_small HX.out k
        have HD : Hid (xs.drop k = xs.getD k 0 :: xs.drop (k + 1)) := drop_cons xs k (by rw [HL.out]; exact hlt)
        have han := and_high (xs.getD k 0) hx
        generalize xs.getD k 0 = x at *
        by_cases hA : k = 9 ∧ 1 < x
        · have b9 : ((k : Int) == 9) = true := by simp; omega
          have HP : Hid (pVar most xs 0 0 = no 11) := by show _ = _; rw [HN.out, HD.out, pv_form _ _ _ _ _ hA]
          have h1 : (1 : Int) < (x : Int) := by omega
          clear hA han
          go_wp2
          exact bodyPost_ret (v := .tuple #[.agg #[.int .u64 0, .slice none 0 0, .int .i64 0], .int .i64 11]) (by simp [results, Tryz.results147, go_sem]) rfl (by rw [HP.out]; exact found_no _ _ _ 11 ((Below.refl _ _).alloc (Nat.le_refl _) _))
        · have hE := or_var N x k HNN.out hx hk9 (by omega)
          have HM : Hid (N + (x % 128) * 128 ^ k < 128 ^ (k + 1)) := next_lt N x k HNN.out
          by_cases h128 : 128 ≤ x
          · have b9 : ((k : Int) == 9) = false := by simp; omega
            have HP : Hid (pVar most xs 0 0 = pVar most (xs.drop (k + 1)) (k + 1) (N + (x % 128) * 128 ^ k)) := by show _ = _; rw [HN.out, HD.out, pv_on _ _ _ _ _ hA h128 hx]
            rw [decide_eq_true h128] at han
            generalize N + (x % 128) * 128 ^ k = M at *
            have hk8 : k ≤ 8 := by omega
            clear hA HN HNN HD
            go_wp2
            go_round
            case rel => exact ⟨k + 1, M, by omega, by omega, by go_num, rfl, HM, HP⟩
            case measure => simp [intOf]; omega
          · rw [decide_eq_false h128] at han
            by_cases hz : x = 0 ∧ 0 < k
            · have HP : Hid (pVar most xs 0 0 = no 11) := by show _ = _; rw [HN.out, HD.out, pv_zero _ _ _ _ _ hA (by omega) hz]
              have bz : ((x : Int) == 0) = true := by simp; omega
              have hk0 : 0 < (k : Int) := by omega
              have hx1 : ¬ (1 : Int) < (x : Int) := by omega
              generalize N + (x % 128) * 128 ^ k = M at *
              clear hA HN HNN HD hz
              cases b9 : ((k : Int) == 9)
              all_goals
                go_wp2
                exact bodyPost_ret (v := .tuple #[.agg #[.int .u64 0, .slice none 0 0, .int .i64 0], .int .i64 11]) (by simp [results, Tryz.results147, go_sem]) rfl (by rw [HP.out]; exact found_no _ _ _ 11 ((Below.refl _ _).alloc (Nat.le_refl _) _))
            · have h3 : (((k : Int) == 9) = false ∧ ((x : Int) == 0) = false) ∨ (((k : Int) == 9) = true ∧ ((x : Int) == 0) = false ∧ ¬ (1 : Int) < (x : Int)) ∨ (((k : Int) == 9) = false ∧ ((x : Int) == 0) = true ∧ ¬ (0 : Int) < (k : Int)) := by
                simp only [beq_eq_false_iff_ne, beq_iff_eq, ne_eq]; omega
              by_cases hm : most < N + (x % 128) * 128 ^ k
              · have HP : Hid (pVar most xs 0 0 = no 12) := by show _ = _; rw [HN.out, HD.out, pv_max _ _ _ _ _ hA (by omega) hz hm]
                generalize N + (x % 128) * 128 ^ k = M at *
                clear hA HN HNN HD hz
                rcases h3 with ⟨b9, bz⟩ | ⟨b9, bz, hx1⟩ | ⟨b9, bz, hk0⟩
                all_goals
                  go_wp2
                  exact bodyPost_ret (v := .tuple #[.agg #[.int .u64 0, .slice none 0 0, .int .i64 0], .int .i64 12]) (by simp [results, Tryz.results147, go_sem]) rfl (by rw [HP.out]; exact found_no _ _ _ 12 ((Below.refl _ _).alloc (Nat.le_refl _) _))
              · have HP : Hid (pVar most xs 0 0 = ⟨N + (x % 128) * 128 ^ k, 0, 0, k + 1, 0⟩) := by show _ = _; rw [HN.out, HD.out, pv_ok _ _ _ _ _ hA (by omega) hz hm]
                generalize N + (x % 128) * 128 ^ k = M at *
                clear hA HN HNN HD hz
                rcases h3 with ⟨b9, bz⟩ | ⟨b9, bz, hx1⟩ | ⟨b9, bz, hk0⟩
                all_goals
                  go_wp2
                  exact bodyPost_ret (v := .tuple #[.agg #[.int .u64 (M : Int), .slice none 0 0, .int .i64 ((k : Int) + 1)], .int .i64 0]) (by simp [results, Tryz.results147, go_sem]) rfl (by rw [HP.out]; exact ⟨none, 0, by simp, by simpa using bytes_none _ none, by simp, by omega, (Below.refl _ _).alloc (Nat.le_refl _) _⟩)
      · have HP : Hid (pVar most xs 0 0 = no 10) := by show _ = _; rw [HN.out, List.drop_of_length_le (by rw [HL.out]; omega)]; rfl
        go_wp2
        all_goals exact bodyPost_ret (v := .tuple #[.agg #[.int .u64 0, .slice none 0 0, .int .i64 0], .int .i64 10]) (by simp [results, Tryz.results147, go_sem]) rfl (by rw [HP.out]; exact found_no _ _ _ 10 ((Below.refl _ _).alloc (Nat.le_refl _) _))
set_option maxRecDepth 100000 in
set_option maxHeartbeats 400000 in
theorem var_none (w : World) (sp : Option Addr) (cap most : Nat) :
    Calls Tryz.prog 147 #[.slice sp 0 cap, .int .u64 most] w fun e w' => Found w w' [] (no 10) e := by
  go_enter Tryz.func147, Tryz.ntmps147
  go_wp2
  refine wp_loop_rounds 1 ?_
  rw [rounds_succ]
  go_wp2
  exact bodyPost_ret (v := .tuple #[.agg #[.int .u64 0, .slice none 0 0, .int .i64 0], .int .i64 10]) (by simp [results, Tryz.results147, go_sem]) rfl (found_no _ _ _ 10 ((Below.refl _ _).alloc (Nat.le_refl _) _))
theorem var_any (w : World) (sp : Option Addr) (len cap most : Nat) (xs : List Nat) (hl : xs.length = len) (hB : Bytes w sp xs) (hcap : len ≤ 140737488355328) :
    Calls Tryz.prog 147 #[.slice sp len cap, .int .u64 most] w fun e w' => Found w w' xs (pVar most xs 0 0) e := by
  rcases hB.lie with h' | ⟨g, o, rfl, hg, hc⟩
  · subst h'; simp at hl; subst hl
    exact var_none w sp cap most
  · exact var_there w g o len cap most xs hB.small hl hg hc hcap
end Go.Proofs.YtjcdnclfakmbpaaGreatDoor.C
namespace Go.Proofs.YtjcdnclfakmbpaaGreatDoor.C
open Go.RowKit
theorem Bytes.take {w : World} {sp : Option Addr} {xs : List Nat} (h : Bytes w sp xs) (n : Nat) : Bytes w sp (xs.take n) := by
  refine ⟨fun x hx => h.small x (List.mem_of_mem_take hx), ?_⟩
  rcases h.lie with h0 | ⟨g, o, e, hg, hc⟩
  · left; simp [h0]
  · refine Or.inr ⟨g, o, e, hg, fun j hj => ?_⟩
    rw [List.length_take] at hj
    rw [hc j (by omega)]
    simp [List.getD, show j < n by omega]
theorem Bytes.drop {w : World} {g o : Nat} {xs : List Nat} (h : Bytes w (some ⟨g, o, none⟩) xs) (n : Nat) : Bytes w (some ⟨g, o + n, none⟩) (xs.drop n) := by
  refine ⟨fun x hx => h.small x (List.mem_of_mem_drop hx), ?_⟩
  rcases h.lie with h0 | ⟨g', o', e, hg, hc⟩
  · left; simp [h0]
  · cases e
    refine Or.inr ⟨g, o + n, rfl, hg, fun j hj => ?_⟩
    rw [List.length_drop] at hj
    rw [Nat.add_assoc, hc (n + j) (by omega)]
    simp [List.getD, List.getElem?_drop]
set_option maxRecDepth 100000 in
set_option maxHeartbeats 400000 in
theorem raw_short (w : World) (sp : Option Addr) (len cap n : Nat) (h : len < n) (_hn : n < 18446744073709551616) (_hcap : len ≤ 140737488355328) :
    Calls Tryz.prog 149 #[.slice sp len cap, .int .u64 n] w fun e w' => e = .returned (.tuple #[.agg #[.int .u64 0, .slice none 0 0, .int .i64 0], .int .i64 10]) ∧ Below w.heap.size w w' := by
  go_enter Tryz.func149, Tryz.ntmps149
  go_wp2
  exact bodyPost_ret (v := .tuple #[.agg #[.int .u64 0, .slice none 0 0, .int .i64 0], .int .i64 10]) (by simp [results, Tryz.results149, go_sem]) rfl ⟨rfl, (Below.refl _ _).alloc (Nat.le_refl _) _⟩
set_option maxRecDepth 100000 in
set_option maxHeartbeats 400000 in
theorem raw_there (w : World) (sp : Option Addr) (len cap n : Nat) (h : n ≤ len) (hcap : len ≤ cap) (_hc : cap ≤ 140737488355328) :
    Calls Tryz.prog 149 #[.slice sp len cap, .int .u64 n] w fun e w' => e = .returned (.tuple #[.agg #[.int .u64 0, .slice sp n cap, .int .i64 n], .int .i64 0]) ∧ Below w.heap.size w w' := by
  go_enter Tryz.func149, Tryz.ntmps149
  go_wp2
  exact bodyPost_ret (v := .tuple #[.agg #[.int .u64 0, .slice sp n cap, .int .i64 n], .int .i64 0]) (by simp [results, Tryz.results149, go_sem]) rfl ⟨rfl, (Below.refl _ _).alloc (Nat.le_refl _) _⟩
theorem raw_any (w : World) (sp : Option Addr) (len cap n : Nat) (xs : List Nat) (hl : xs.length = len) (hB : Bytes w sp xs) (hcap : len ≤ cap) (hc : cap ≤ 140737488355328) (hn : n < 18446744073709551616) :
    Calls Tryz.prog 149 #[.slice sp len cap, .int .u64 n] w fun e w' => Found w w' xs (pRaw n xs) e := by
  by_cases h : len < n
  · refine (raw_short w sp len cap n h hn (by omega)).mono ?_
    rintro e w' ⟨rfl, hb⟩
    rw [pRaw, if_pos (by omega)]
    exact found_no _ _ _ 10 hb
  · refine (raw_there w sp len cap n (by omega) hcap hc).mono ?_
    rintro e w' ⟨rfl, hb⟩
    rw [pRaw, if_neg (by omega)]
    exact ⟨sp, cap, rfl, by simpa using (hB.below hb).take n, by simp; omega, hc, hb⟩
theorem bcell {W w1 : World} {n : Nat} (hb : Below n W w1) : (∀ b o, b < n → w1.cell? ⟨b, o, none⟩ = W.cell? ⟨b, o, none⟩) ∧ (∀ b o, b < n → w1.frozen? ⟨b, o, none⟩ = W.frozen? ⟨b, o, none⟩) :=
  ⟨fun b o h => hb.cell (p := ⟨b, o, none⟩) h, fun b o h => hb.frozen (p := ⟨b, o, none⟩) h⟩
theorem pb_bad (most : Nat) (xs : List Nat) (h : (pVar most xs 0 0).fault ≠ 0) : pBytes most xs = no (pVar most xs 0 0).fault := by
  unfold pBytes; simp only [if_pos h]
theorem pb_short (most : Nat) (xs : List Nat) (h : (pVar most xs 0 0).fault = 0) (h2 : xs.length - (pVar most xs 0 0).size < (pVar most xs 0 0).num) : pBytes most xs = no 10 := by
  unfold pBytes; simp only [h, ne_eq, not_true_eq_false, if_false, if_pos h2]
theorem pb_ok (most : Nat) (xs : List Nat) (h : (pVar most xs 0 0).fault = 0) (h2 : ¬ xs.length - (pVar most xs 0 0).size < (pVar most xs 0 0).num) : pBytes most xs = ⟨0, (pVar most xs 0 0).size, (pVar most xs 0 0).num, (pVar most xs 0 0).size + (pVar most xs 0 0).num, 0⟩ := by
  unfold pBytes; simp only [h, ne_eq, not_true_eq_false, if_false, if_neg h2]
attribute [local go_sem ↓] Go.wp_at_zero Go.wp_at_succ
set_option maxRecDepth 100000 in
set_option maxHeartbeats 400000 in
theorem bytes_bad (w : World) (sp : Option Addr) (len cap most : Nat) (xs : List Nat) (hl : xs.length = len) (hB : Bytes w sp xs) (hcap : len ≤ cap) (hc : cap ≤ 140737488355328) (hbad : (pVar most xs 0 0).fault ≠ 0) :
    Calls Tryz.prog 148 #[.slice sp len cap, .int .u64 most] w fun e w' => Found w w' xs (pBytes most xs) e := by
  rw [pb_bad most xs hbad]
  have HV : Hid (∀ w', Bytes w' sp xs → Calls Tryz.prog 147 #[.slice sp len cap, .int .u64 most] w' fun e w'' => Found w' w'' xs (pVar most xs 0 0) e) := fun w' h => var_any w' sp len cap most xs hl h (by omega)
  generalize pVar most xs 0 0 = it at *
  have HB : Hid (Bytes w sp xs) := hB
  have hb0 : ((it.fault : Int) != 0) = true := by simp; omega
  clear hB hl hbad
  go_enter Tryz.func148, Tryz.ntmps148
  go_wp2_with fail
  refine (HV.out _ (HB.out.below ((Below.refl _ _).alloc (Nat.le_refl _) _))).mono ?_
  rintro e w1 ⟨bp, bc, rfl, -, -, -, hbel⟩
  obtain ⟨hc1, hf1⟩ := bcell hbel
  have hs1 : w.heap.size < w1.heap.size := by have := hbel.size; simp at this; omega
  go_wp2
  refine bodyPost_ret (v := .tuple #[.agg #[.int .u64 0, .slice none 0 0, .int .i64 0], .int .i64 (it.fault : Int)]) (by simp [results, Tryz.results148, go_sem, hc1, hs1]) rfl (found_no _ _ _ _ ?_)
  exact (((((Below.refl _ _).alloc (Nat.le_refl _) _).trans (hbel.mono (by simp))).setCell (by simp) _).setCell (by simp) _).setCell (by simp) _ |>.alloc (by simp; omega) _
theorem blk3 {w : World} {b : Nat} {x y z : Value} {t : TypeId} (h : w.heap[b]? = some (.cells #[x, y, z] t (0, 0))) : w.cell? ⟨b, 0, none⟩ = some x ∧ w.cell? ⟨b, 1, none⟩ = some y ∧ w.cell? ⟨b, 2, none⟩ = some z ∧ (∀ o, w.frozen? ⟨b, o, none⟩ = false) :=
  ⟨by simp [World.cell?, h], by simp [World.cell?, h], by simp [World.cell?, h], fun o => by simp [World.frozen?, h]⟩
theorem below_set3 {B : Nat} {a w : World} (h : Below B a w) (b : Nat) (hb : B ≤ b) (x y z : Value) : Below B a (((w.setCell ⟨b, 0, none⟩ x).setCell ⟨b, 1, none⟩ y).setCell ⟨b, 2, none⟩ z) :=
  ((h.setCell hb _).setCell hb _).setCell hb _
set_option maxRecDepth 100000 in
set_option maxHeartbeats 1000000 in
theorem bytes_go (w : World) (g o len cap most num size off : Nat) (xs : List Nat) (HB : Hid (Bytes w (some ⟨g, o, none⟩) xs)) (hcap : len ≤ cap) (hc : cap ≤ 140737488355328) (hnum : num < 18446744073709551616)
    (hsl : size ≤ len) (he : ¬ size = cap)
    (HV : Hid (∀ w', Bytes w' (some ⟨g, o, none⟩) xs → Calls Tryz.prog 147 #[.slice (some ⟨g, o, none⟩) len cap, .int .u64 most] w' fun e w'' => Found w' w'' xs ⟨num, off, 0, size, 0⟩ e)) :
    Calls Tryz.prog 148 #[.slice (some ⟨g, o, none⟩) len cap, .int .u64 most] w fun e w' =>
      e = .returned (if len - size < num then .tuple #[.agg #[.int .u64 0, .slice none 0 0, .int .i64 0], .int .i64 10] else .tuple #[.agg #[.int .u64 0, .slice (some ⟨g, o + size, none⟩) num (cap - size), .int .i64 ((size : Int) + num)], .int .i64 0]) ∧ Below w.heap.size w w' := by
  have i1 : (0 : Int) ≤ (size : Int) := by omega
  have i2 : (size : Int) ≤ (len : Int) := by omega
  by_cases hraw : len - size < num
  · rw [if_pos hraw]
    go_enter Tryz.func148, Tryz.ntmps148
    go_wp2_with fail
    refine (HV.out _ (HB.out.below ((Below.refl _ _).alloc (Nat.le_refl _) _))).mono ?_
    rintro e w1 ⟨bp, bc, rfl, -, -, -, hbel⟩
    have HQ1 : Hid (w1.heap[w.heap.size]? = _) := (hbel.block w.heap.size (by simp)).trans (heap_alloc_new _ _)
    have HA : Hid (Below w.heap.size w w1) := ((Below.refl _ _).alloc (Nat.le_refl _) _).trans (hbel.mono (by simp))
    have hs1 : w.heap.size < w1.heap.size := by have := hbel.size; simp at this; omega
    obtain ⟨q0, q1, q2, qf⟩ := blk3 HQ1.out
    clear hbel
    go_wp2
    go_region_held3 (fun w' => w'.cell? ⟨w1.heap.size, 0, none⟩ = some (.int .u64 num) ∧ w'.cell? ⟨w1.heap.size, 2, none⟩ = some (.int .i64 size)) (go_keep)
      (first | (go_at_call 149; refine (raw_short _ _ _ _ _ hraw (by omega) (by omega)).mono ?_; rintro e w2 ⟨rfl, hbel2⟩; have k0 := hbel2.cell (p := ⟨w1.heap.size, 0, none⟩) (by simp <;> omega); have k2 := hbel2.cell (p := ⟨w1.heap.size, 2, none⟩) (by simp <;> omega); have hs2 : w1.heap.size < w2.heap.size := (by have := hbel2.size; simp at this; omega); have hs3 : w.heap.size < w2.heap.size := Nat.lt_trans hs1 hs2; have HQ : Hid (Below w1.heap.size w1 w2) := Below.trans (by first | exact ((Below.refl _ _).alloc (Nat.le_refl _) _).drew | exact (((Below.refl _ _).alloc (Nat.le_refl _) _).alloc (by simp) _).drew) (hbel2.mono (by simp <;> omega)); obtain ⟨r0, r1, r2, rf⟩ := blk3 ((HQ.out.block _ hs1).trans HQ1.out); obtain ⟨hc2, hf2⟩ := bcell hbel2))
    all_goals go_wp2
    · have HW : Below w.heap.size w w2 := HA.out.trans (HQ.out.mono (by omega))
      refine bodyPost_ret (v := .tuple #[.agg #[.int .u64 0, .slice none 0 0, .int .i64 0], .int .i64 10]) (by simp [results, Tryz.results148, go_sem, r0, r1, r2, hs3]) rfl ⟨rfl, ?_⟩
      exact (below_set3 HW w.heap.size (Nat.le_refl _) _ _ _).alloc (by simp; omega) _
    · have HW : Below w.heap.size w w2 := HA.out.trans (HQ.out.mono (by omega))
      refine bodyPost_ret (v := .tuple #[.agg #[.int .u64 0, .slice none 0 0, .int .i64 0], .int .i64 10]) (by simp [results, Tryz.results148, go_sem, r0, r1, r2]) rfl ⟨rfl, ?_⟩
      exact below_set3 (below_set3 HW (w1.heap.size + 1) (by omega) _ _ _) w.heap.size (Nat.le_refl _) _ _ _
  · rw [if_neg hraw]
    go_enter Tryz.func148, Tryz.ntmps148
    go_wp2_with fail
    refine (HV.out _ (HB.out.below ((Below.refl _ _).alloc (Nat.le_refl _) _))).mono ?_
    rintro e w1 ⟨bp, bc, rfl, -, -, -, hbel⟩
    have HQ1 : Hid (w1.heap[w.heap.size]? = _) := (hbel.block w.heap.size (by simp)).trans (heap_alloc_new _ _)
    have HA : Hid (Below w.heap.size w w1) := ((Below.refl _ _).alloc (Nat.le_refl _) _).trans (hbel.mono (by simp))
    have hs1 : w.heap.size < w1.heap.size := by have := hbel.size; simp at this; omega
    obtain ⟨q0, q1, q2, qf⟩ := blk3 HQ1.out
    clear hbel
    go_wp2
    go_region_held3 (fun w' => w'.cell? ⟨w1.heap.size, 0, none⟩ = some (.int .u64 num) ∧ w'.cell? ⟨w1.heap.size, 2, none⟩ = some (.int .i64 size)) (go_keep)
      (first | (go_at_call 149; refine (raw_there _ _ _ _ _ (by omega) (by omega) (by omega)).mono ?_; rintro e w2 ⟨rfl, hbel2⟩; have k0 := hbel2.cell (p := ⟨w1.heap.size, 0, none⟩) (by simp <;> omega); have k2 := hbel2.cell (p := ⟨w1.heap.size, 2, none⟩) (by simp <;> omega); have hs2 : w1.heap.size < w2.heap.size := (by have := hbel2.size; simp at this; omega); have hs3 : w.heap.size < w2.heap.size := Nat.lt_trans hs1 hs2; have HQ : Hid (Below w1.heap.size w1 w2) := Below.trans (by first | exact ((Below.refl _ _).alloc (Nat.le_refl _) _).drew | exact (((Below.refl _ _).alloc (Nat.le_refl _) _).alloc (by simp) _).drew) (hbel2.mono (by simp <;> omega)); obtain ⟨r0, r1, r2, rf⟩ := blk3 ((HQ.out.block _ hs1).trans HQ1.out); obtain ⟨hc2, hf2⟩ := bcell hbel2))
    all_goals go_wp2
    · have HW : Below w.heap.size w w2 := HA.out.trans (HQ.out.mono (by omega))
      refine bodyPost_ret (v := .tuple #[.agg #[.int .u64 0, .slice (some ⟨g, o + size, none⟩) num (cap - size), .int .i64 ((size : Int) + num)], .int .i64 0]) (by simp [results, Tryz.results148, go_sem, r0, r1, r2, hs3]) rfl ⟨rfl, ?_⟩
      exact (below_set3 HW w.heap.size (Nat.le_refl _) _ _ _).alloc (by simp; omega) _
    · have HW : Below w.heap.size w w2 := HA.out.trans (HQ.out.mono (by omega))
      refine bodyPost_ret (v := .tuple #[.agg #[.int .u64 0, .slice (some ⟨g, o + size, none⟩) num (cap - size), .int .i64 ((size : Int) + num)], .int .i64 0]) (by simp [results, Tryz.results148, go_sem, r0, r1, r2]) rfl ⟨rfl, ?_⟩
      exact below_set3 (below_set3 HW (w1.heap.size + 1) (by omega) _ _ _) w.heap.size (Nat.le_refl _) _ _ _
set_option maxRecDepth 100000 in
set_option maxHeartbeats 1000000 in
theorem bytes_edge_bad (w : World) (g o n most num off : Nat) (xs : List Nat) (HB : Hid (Bytes w (some ⟨g, o, none⟩) xs)) (hc : n ≤ 140737488355328) (hnum : num < 18446744073709551616) (h0 : 0 < num)
    (HV : Hid (∀ w', Bytes w' (some ⟨g, o, none⟩) xs → Calls Tryz.prog 147 #[.slice (some ⟨g, o, none⟩) n n, .int .u64 most] w' fun e w'' => Found w' w'' xs ⟨num, off, 0, n, 0⟩ e)) :
    Calls Tryz.prog 148 #[.slice (some ⟨g, o, none⟩) n n, .int .u64 most] w fun e w' => e = .returned (.tuple #[.agg #[.int .u64 0, .slice none 0 0, .int .i64 0], .int .i64 10]) ∧ Below w.heap.size w w' := by
  have i1 : (0 : Int) ≤ (n : Int) := by omega
  have i2 : (n : Int) ≤ (n : Int) := by omega
  · go_enter Tryz.func148, Tryz.ntmps148
    go_wp2_with fail
    refine (HV.out _ (HB.out.below ((Below.refl _ _).alloc (Nat.le_refl _) _))).mono ?_
    rintro e w1 ⟨bp, bc, rfl, -, -, -, hbel⟩
    have HQ1 : Hid (w1.heap[w.heap.size]? = _) := (hbel.block w.heap.size (by simp)).trans (heap_alloc_new _ _)
    have HA : Hid (Below w.heap.size w w1) := ((Below.refl _ _).alloc (Nat.le_refl _) _).trans (hbel.mono (by simp))
    have hs1 : w.heap.size < w1.heap.size := by have := hbel.size; simp at this; omega
    obtain ⟨q0, q1, q2, qf⟩ := blk3 HQ1.out
    clear hbel
    go_wp2
    go_region_held3 (fun w' => w'.cell? ⟨w1.heap.size, 0, none⟩ = some (.int .u64 num) ∧ w'.cell? ⟨w1.heap.size, 2, none⟩ = some (.int .i64 n)) (go_keep)
      (first | (go_at_call 149; refine (raw_short _ _ _ _ _ h0 (by omega) (by omega)).mono ?_; rintro e w2 ⟨rfl, hbel2⟩; have k0 := hbel2.cell (p := ⟨w1.heap.size, 0, none⟩) (by simp <;> omega); have k2 := hbel2.cell (p := ⟨w1.heap.size, 2, none⟩) (by simp <;> omega); have hs2 : w1.heap.size < w2.heap.size := (by have := hbel2.size; simp at this; omega); have hs3 : w.heap.size < w2.heap.size := Nat.lt_trans hs1 hs2; have HQ : Hid (Below w1.heap.size w1 w2) := Below.trans (by first | exact ((Below.refl _ _).alloc (Nat.le_refl _) _).drew | exact (((Below.refl _ _).alloc (Nat.le_refl _) _).alloc (by simp) _).drew) (hbel2.mono (by simp <;> omega)); obtain ⟨r0, r1, r2, rf⟩ := blk3 ((HQ.out.block _ hs1).trans HQ1.out); obtain ⟨hc2, hf2⟩ := bcell hbel2))
    all_goals go_wp2
    · have HW : Below w.heap.size w w2 := HA.out.trans (HQ.out.mono (by omega))
      refine bodyPost_ret (v := .tuple #[.agg #[.int .u64 0, .slice none 0 0, .int .i64 0], .int .i64 10]) (by simp [results, Tryz.results148, go_sem, r0, r1, r2, hs3]) rfl ⟨rfl, ?_⟩
      exact (below_set3 HW w.heap.size (Nat.le_refl _) _ _ _).alloc (by simp; omega) _
    · have HW : Below w.heap.size w w2 := HA.out.trans (HQ.out.mono (by omega))
      refine bodyPost_ret (v := .tuple #[.agg #[.int .u64 0, .slice none 0 0, .int .i64 0], .int .i64 10]) (by simp [results, Tryz.results148, go_sem, r0, r1, r2]) rfl ⟨rfl, ?_⟩
      exact below_set3 (below_set3 HW (w1.heap.size + 1) (by omega) _ _ _) w.heap.size (Nat.le_refl _) _ _ _
set_option maxRecDepth 100000 in
set_option maxHeartbeats 1000000 in
theorem bytes_edge_ok (w : World) (g o n most off : Nat) (xs : List Nat) (HB : Hid (Bytes w (some ⟨g, o, none⟩) xs)) (hc : n ≤ 140737488355328)
    (HV : Hid (∀ w', Bytes w' (some ⟨g, o, none⟩) xs → Calls Tryz.prog 147 #[.slice (some ⟨g, o, none⟩) n n, .int .u64 most] w' fun e w'' => Found w' w'' xs ⟨0, off, 0, n, 0⟩ e)) :
    Calls Tryz.prog 148 #[.slice (some ⟨g, o, none⟩) n n, .int .u64 most] w fun e w' => e = .returned (.tuple #[.agg #[.int .u64 0, .slice (some ⟨g, o, none⟩) 0 0, .int .i64 n], .int .i64 0]) ∧ Below w.heap.size w w' := by
  have i1 : (0 : Int) ≤ (n : Int) := by omega
  have i2 : (n : Int) ≤ (n : Int) := by omega
  · go_enter Tryz.func148, Tryz.ntmps148
    go_wp2_with fail
    refine (HV.out _ (HB.out.below ((Below.refl _ _).alloc (Nat.le_refl _) _))).mono ?_
    rintro e w1 ⟨bp, bc, rfl, -, -, -, hbel⟩
    have HQ1 : Hid (w1.heap[w.heap.size]? = _) := (hbel.block w.heap.size (by simp)).trans (heap_alloc_new _ _)
    have HA : Hid (Below w.heap.size w w1) := ((Below.refl _ _).alloc (Nat.le_refl _) _).trans (hbel.mono (by simp))
    have hs1 : w.heap.size < w1.heap.size := by have := hbel.size; simp at this; omega
    obtain ⟨q0, q1, q2, qf⟩ := blk3 HQ1.out
    clear hbel
    go_wp2
    go_region_held3 (fun w' => w'.cell? ⟨w1.heap.size, 0, none⟩ = some (.int .u64 0) ∧ w'.cell? ⟨w1.heap.size, 2, none⟩ = some (.int .i64 n)) (go_keep)
      (first | (go_at_call 149; refine (raw_there _ _ 0 0 0 (by omega) (by omega) (by omega)).mono ?_; rintro e w2 ⟨rfl, hbel2⟩; have k0 := hbel2.cell (p := ⟨w1.heap.size, 0, none⟩) (by simp <;> omega); have k2 := hbel2.cell (p := ⟨w1.heap.size, 2, none⟩) (by simp <;> omega); have hs2 : w1.heap.size < w2.heap.size := (by have := hbel2.size; simp at this; omega); have hs3 : w.heap.size < w2.heap.size := Nat.lt_trans hs1 hs2; have HQ : Hid (Below w1.heap.size w1 w2) := Below.trans (by first | exact ((Below.refl _ _).alloc (Nat.le_refl _) _).drew | exact (((Below.refl _ _).alloc (Nat.le_refl _) _).alloc (by simp) _).drew) (hbel2.mono (by simp <;> omega)); obtain ⟨r0, r1, r2, rf⟩ := blk3 ((HQ.out.block _ hs1).trans HQ1.out); obtain ⟨hc2, hf2⟩ := bcell hbel2))
    all_goals go_wp2
    · have HW : Below w.heap.size w w2 := HA.out.trans (HQ.out.mono (by omega))
      refine bodyPost_ret (v := .tuple #[.agg #[.int .u64 0, .slice (some ⟨g, o, none⟩) 0 0, .int .i64 n], .int .i64 0]) (by simp [results, Tryz.results148, go_sem, r0, r1, r2, hs3]) rfl ⟨rfl, ?_⟩
      exact (below_set3 HW w.heap.size (Nat.le_refl _) _ _ _).alloc (by simp; omega) _
    · have HW : Below w.heap.size w w2 := HA.out.trans (HQ.out.mono (by omega))
      refine bodyPost_ret (v := .tuple #[.agg #[.int .u64 0, .slice (some ⟨g, o, none⟩) 0 0, .int .i64 n], .int .i64 0]) (by simp [results, Tryz.results148, go_sem, r0, r1, r2]) rfl ⟨rfl, ?_⟩
      exact below_set3 (below_set3 HW (w1.heap.size + 1) (by omega) _ _ _) w.heap.size (Nat.le_refl _) _ _ _
end Go.Proofs.YtjcdnclfakmbpaaGreatDoor.C
namespace Go.Proofs.YtjcdnclfakmbpaaGreatDoor.C
open Go.RowKit
theorem bytes_any (w : World) (sp : Option Addr) (len cap most : Nat) (xs : List Nat) (hl : xs.length = len) (hB : Bytes w sp xs) (hcap : len ≤ cap) (hc : cap ≤ 140737488355328) (hm : most < 18446744073709551616) :
    Calls Tryz.prog 148 #[.slice sp len cap, .int .u64 most] w fun e w' => Found w w' xs (pBytes most xs) e := by
  by_cases hbad : (pVar most xs 0 0).fault ≠ 0
  · exact bytes_bad w sp len cap most xs hl hB hcap hc hbad
  have hok : (pVar most xs 0 0).fault = 0 := by omega
  obtain ⟨h0, hsz, hnum, hlen0⟩ := pv_size most xs 0 0 hok
  rcases hB.lie with h' | ⟨g, o, rfl, hg, hcc⟩
  · subst h'; simp at hsz; omega
  have HV : ∀ w', Bytes w' (some ⟨g, o, none⟩) xs → Calls Tryz.prog 147 #[.slice (some ⟨g, o, none⟩) len cap, .int .u64 most] w' fun e w'' => Found w' w'' xs (pVar most xs 0 0) e := fun w' h => var_any w' _ len cap most xs hl h (by omega)
  have P1 := pb_short most xs hok
  have P2 := pb_ok most xs hok
  generalize pVar most xs 0 0 = it at *
  obtain ⟨num, off, ilen, size, fault⟩ := it
  simp only at hok h0 hsz hnum hlen0 P1 P2
  subst hok hlen0
  rw [hl] at P1 P2
  by_cases he : size = cap
  · obtain rfl : len = cap := by omega
    subst he
    by_cases hn : 0 < num
    · refine (bytes_edge_bad w g o size most num off xs hB hc (by omega) hn HV).mono ?_
      rintro e w' ⟨rfl, hb⟩
      rw [P1 (by omega)]
      exact found_no _ _ _ 10 hb
    · obtain rfl : num = 0 := by omega
      refine (bytes_edge_ok w g o size most off xs hB hc HV).mono ?_
      rintro e w' ⟨rfl, hb⟩
      rw [P2 (by omega)]
      exact ⟨some ⟨g, o, none⟩, 0, by simp, by simpa using bytes_none _ _, by simp, by omega, hb⟩
  · refine (bytes_go w g o len cap most num size off xs hB hcap hc (by omega) (by omega) he HV).mono ?_
    rintro e w' ⟨rfl, hb⟩
    by_cases hraw : len - size < num
    · rw [if_pos hraw, P1 hraw]
      exact found_no _ _ _ 10 hb
    · rw [if_neg hraw, P2 hraw]
      exact ⟨some ⟨g, o + size, none⟩, cap - size, by simp, by simpa using ((hB.below hb).drop size).take num, by simp; omega, by omega, hb⟩
set_option maxRecDepth 100000 in
set_option maxHeartbeats 400000 in
theorem width_any (w : World) (k : Int) : Calls Tryz.prog 151 #[.int .i64 k] w fun e w' => e = .returned (.int .i64 (width k : Nat)) ∧ w' = w := by
  by_cases h0 : (k == 0) = true
  · have : width k = 1 := by simp at h0; simp [width, h0]
    rw [this]
    go_enter Tryz.func151, Tryz.ntmps151
    go_wp2
    go_ret
    exact ⟨rfl, rfl⟩
  · simp only [Bool.not_eq_true] at h0
    by_cases h1 : (k == 1) = true
    · have : width k = 4 := by simp at h1; simp [width, h1]
      rw [this]
      go_enter Tryz.func151, Tryz.ntmps151
      go_wp2
      go_ret
      exact ⟨rfl, rfl⟩
    · simp only [Bool.not_eq_true] at h1
      have : width k = 8 := by simp at h0 h1; simp [width, h0, h1]
      rw [this]
      go_enter Tryz.func151, Tryz.ntmps151
      go_wp2
      go_ret
      exact ⟨rfl, rfl⟩
theorem width_le (k : Int) : width k ≤ 8 := by unfold width; split <;> (try split) <;> omega
theorem width_pos (k : Int) : 0 < width k := by unfold width; split <;> (try split) <;> omega
end Go.Proofs.YtjcdnclfakmbpaaGreatDoor.C
namespace Go.Proofs.YtjcdnclfakmbpaaGreatDoor.C
open Go.RowKit
theorem not_bytes {w : World} {g b o : Nat} {x : Nat} {x1 x3 : Int} {a : Option Addr} {n c : Nat} {t : TypeId} (hb : w.heap[b]? = some (.cells #[.int .u64 x1, .slice a n c, .int .i64 x3] t (0, 0))) (h : w.cell? ⟨g, o, none⟩ = some (.int .u8 x)) : g ≠ b := by
  rintro rfl
  simp only [World.cell?, hb] at h
  match o, h with
  | 0, h => simp at h
  | 1, h => simp at h
  | 2, h => simp at h
  | n + 3, h => simp at h
theorem Bytes.kept {w w' : World} {sp : Option Addr} {xs : List Nat} (h : Bytes w sp xs) (b : Nat) (hk : ∀ k, k ≠ b → k < w.heap.size → w'.heap[k]? = w.heap[k]?) (hs : w.heap.size ≤ w'.heap.size) (hn : ∀ g o x, w.cell? ⟨g, o, none⟩ = some (.int .u8 (x : Nat)) → g ≠ b) : Bytes w' sp xs := by
  refine ⟨h.small, ?_⟩
  rcases h.lie with h0 | ⟨g, o, e, hg, hc⟩
  · exact Or.inl h0
  · by_cases h0 : xs = []
    · exact Or.inl h0
    · have hpos : 0 < xs.length := List.length_pos_iff.2 h0
      have hgb := hn g _ _ (hc 0 hpos)
      refine Or.inr ⟨g, o, e, Nat.lt_of_lt_of_le hg hs, fun j hj => ?_⟩
      rw [World.cell?_of_block (w := w) (hk g hgb hg)]; exact hc j hj
theorem Bytes.set3 {w : World} {sp : Option Addr} {xs : List Nat} (h : Bytes w sp xs) {b : Nat} {x1 x3 : Int} {a : Option Addr} {n c : Nat} {t : TypeId} (hb : w.heap[b]? = some (.cells #[.int .u64 x1, .slice a n c, .int .i64 x3] t (0, 0))) (y1 y2 y3 : Value) :
    Bytes (((w.setCell ⟨b, 0, none⟩ y1).setCell ⟨b, 1, none⟩ y2).setCell ⟨b, 2, none⟩ y3) sp xs :=
  h.kept b (fun k hk _ => by rw [Below.heap_setCell _ _ _ _ hk, Below.heap_setCell _ _ _ _ hk, Below.heap_setCell _ _ _ _ hk]) (by simp [World.setCell]) (fun _ _ _ => not_bytes hb)
set_option maxRecDepth 100000 in
set_option maxHeartbeats 400000 in
theorem find_var (w : World) (sp : Option Addr) (len cap bound : Nat) (xs : List Nat) (hl : xs.length = len) (hB : Bytes w sp xs) (hcap : len ≤ cap) (hc : cap ≤ 140737488355328) :
    Calls Tryz.prog 130 #[.slice sp len cap, .int .i64 3, .int .u64 bound] w fun e w' => Found w w' xs (pVar bound xs 0 0) e := by
  have HV : Hid (∀ w', Bytes w' sp xs → Calls Tryz.prog 147 #[.slice sp len cap, .int .u64 bound] w' fun e w'' => Found w' w'' xs (pVar bound xs 0 0) e) := fun w' h => var_any w' _ len cap bound xs hl h (by omega)
  generalize pVar bound xs 0 0 = it at *
  have HB : Hid (Bytes w sp xs) := hB
  clear hB hl
  go_enter Tryz.func130, Tryz.ntmps130
  go_wp2_with fail
  refine (HV.out _ (HB.out.below ((Below.refl _ _).alloc (Nat.le_refl _) _))).mono ?_
  rintro e w1 ⟨bp, bc, rfl, HBy, hbc, hbc2, hbel⟩
  have HBy' : Hid (Bytes w1 bp _) := HBy
  have HQ1 : Hid (w1.heap[w.heap.size]? = _) := (hbel.block w.heap.size (by simp)).trans (heap_alloc_new _ _)
  have HA : Hid (Below w.heap.size w w1) := ((Below.refl _ _).alloc (Nat.le_refl _) _).trans (hbel.mono (by simp))
  obtain ⟨q0, q1, q2, qf⟩ := blk3 HQ1.out
  clear hbel HBy
  go_wp2
  refine bodyPost_ret (v := .tuple #[.agg #[.int .u64 (it.num : Int), .slice bp it.len bc, .int .i64 (it.size : Int)], .int .i64 (it.fault : Int)]) (by simp [results, Tryz.results130, go_sem, q0, q1, q2]) rfl ⟨bp, bc, rfl, HBy'.out.set3 HQ1.out _ _ _, hbc, hbc2, ?_⟩
  exact below_set3 HA.out w.heap.size (Nat.le_refl _) _ _ _
set_option maxRecDepth 100000 in
set_option maxHeartbeats 400000 in
theorem find_bytes (w : World) (sp : Option Addr) (len cap bound : Nat) (xs : List Nat) (hl : xs.length = len) (hB : Bytes w sp xs) (hcap : len ≤ cap) (hc : cap ≤ 140737488355328) (hm : bound < 18446744073709551616) :
    Calls Tryz.prog 130 #[.slice sp len cap, .int .i64 4, .int .u64 bound] w fun e w' => Found w w' xs (pBytes bound xs) e := by
  have HV : Hid (∀ w', Bytes w' sp xs → Calls Tryz.prog 148 #[.slice sp len cap, .int .u64 bound] w' fun e w'' => Found w' w'' xs (pBytes bound xs) e) := fun w' h => bytes_any w' _ len cap bound xs hl h hcap hc hm
  generalize pBytes bound xs = it at *
  have HB : Hid (Bytes w sp xs) := hB
  clear hB hl
  go_enter Tryz.func130, Tryz.ntmps130
  go_wp2_with fail
  refine (HV.out _ (HB.out.below ((Below.refl _ _).alloc (Nat.le_refl _) _))).mono ?_
  rintro e w1 ⟨bp, bc, rfl, HBy, hbc, hbc2, hbel⟩
  have HBy' : Hid (Bytes w1 bp _) := HBy
  have HQ1 : Hid (w1.heap[w.heap.size]? = _) := (hbel.block w.heap.size (by simp)).trans (heap_alloc_new _ _)
  have HA : Hid (Below w.heap.size w w1) := ((Below.refl _ _).alloc (Nat.le_refl _) _).trans (hbel.mono (by simp))
  obtain ⟨q0, q1, q2, qf⟩ := blk3 HQ1.out
  clear hbel HBy
  go_wp2
  refine bodyPost_ret (v := .tuple #[.agg #[.int .u64 (it.num : Int), .slice bp it.len bc, .int .i64 (it.size : Int)], .int .i64 (it.fault : Int)]) (by simp [results, Tryz.results130, go_sem, q0, q1, q2]) rfl ⟨bp, bc, rfl, HBy'.out.set3 HQ1.out _ _ _, hbc, hbc2, ?_⟩
  exact below_set3 HA.out w.heap.size (Nat.le_refl _) _ _ _
set_option maxRecDepth 100000 in
set_option maxHeartbeats 400000 in
theorem find_raw (w : World) (sp : Option Addr) (len cap bound : Nat) (xs : List Nat) (hl : xs.length = len) (hB : Bytes w sp xs) (hcap : len ≤ cap) (hc : cap ≤ 140737488355328) (hm : bound < 18446744073709551616) :
    Calls Tryz.prog 130 #[.slice sp len cap, .int .i64 5, .int .u64 bound] w fun e w' => Found w w' xs (pRaw bound xs) e := by
  have HV : Hid (∀ w', Bytes w' sp xs → Calls Tryz.prog 149 #[.slice sp len cap, .int .u64 bound] w' fun e w'' => Found w' w'' xs (pRaw bound xs) e) := fun w' h => raw_any w' _ len cap bound xs hl h hcap hc hm
  generalize pRaw bound xs = it at *
  have HB : Hid (Bytes w sp xs) := hB
  clear hB hl
  go_enter Tryz.func130, Tryz.ntmps130
  go_wp2_with fail
  refine (HV.out _ (HB.out.below ((Below.refl _ _).alloc (Nat.le_refl _) _))).mono ?_
  rintro e w1 ⟨bp, bc, rfl, HBy, hbc, hbc2, hbel⟩
  have HBy' : Hid (Bytes w1 bp _) := HBy
  have HQ1 : Hid (w1.heap[w.heap.size]? = _) := (hbel.block w.heap.size (by simp)).trans (heap_alloc_new _ _)
  have HA : Hid (Below w.heap.size w w1) := ((Below.refl _ _).alloc (Nat.le_refl _) _).trans (hbel.mono (by simp))
  obtain ⟨q0, q1, q2, qf⟩ := blk3 HQ1.out
  clear hbel HBy
  go_wp2
  refine bodyPost_ret (v := .tuple #[.agg #[.int .u64 (it.num : Int), .slice bp it.len bc, .int .i64 (it.size : Int)], .int .i64 (it.fault : Int)]) (by simp [results, Tryz.results130, go_sem, q0, q1, q2]) rfl ⟨bp, bc, rfl, HBy'.out.set3 HQ1.out _ _ _, hbc, hbc2, ?_⟩
  exact below_set3 HA.out w.heap.size (Nat.le_refl _) _ _ _
set_option maxRecDepth 100000 in
set_option maxHeartbeats 400000 in
theorem find_fixed (w : World) (sp : Option Addr) (len cap bound : Nat) (k : Int) (xs : List Nat) (hl : xs.length = len) (hB : Bytes w sp xs) (hcap : len ≤ cap) (hc : cap ≤ 140737488355328) (h3 : (k == 3) = false) (h4 : (k == 4) = false) (h5 : (k == 5) = false) :
    Calls Tryz.prog 130 #[.slice sp len cap, .int .i64 k, .int .u64 bound] w fun e w' => Found w w' xs (pFixed (width k) xs) e := by
  have HV : Hid (∀ w', Bytes w' sp xs → Calls Tryz.prog 150 #[.slice sp len cap, .int .i64 (width k : Nat)] w' fun e w'' => Found w' w'' xs (pFixed (width k) xs) e) := fun w' h => fixed_any w' _ len cap (width k) xs hl h (width_le k) (width_pos k) (by omega)
  generalize pFixed (width k) xs = it at *
  have HB : Hid (Bytes w sp xs) := hB
  clear hB hl
  go_enter Tryz.func130, Tryz.ntmps130
  go_wp2_with fail
  refine (width_any _ _).mono ?_
  rintro e w0 ⟨rfl, rfl⟩
  go_wp2_with fail
  refine (HV.out _ (HB.out.below ((Below.refl _ _).alloc (Nat.le_refl _) _))).mono ?_
  rintro e w1 ⟨bp, bc, rfl, HBy, hbc, hbc2, hbel⟩
  have HBy' : Hid (Bytes w1 bp _) := HBy
  have HQ1 : Hid (w1.heap[w.heap.size]? = _) := (hbel.block w.heap.size (by simp)).trans (heap_alloc_new _ _)
  have HA : Hid (Below w.heap.size w w1) := ((Below.refl _ _).alloc (Nat.le_refl _) _).trans (hbel.mono (by simp))
  obtain ⟨q0, q1, q2, qf⟩ := blk3 HQ1.out
  clear hbel HBy
  go_wp2
  refine bodyPost_ret (v := .tuple #[.agg #[.int .u64 (it.num : Int), .slice bp it.len bc, .int .i64 (it.size : Int)], .int .i64 (it.fault : Int)]) (by simp [results, Tryz.results130, go_sem, q0, q1, q2]) rfl ⟨bp, bc, rfl, HBy'.out.set3 HQ1.out _ _ _, hbc, hbc2, ?_⟩
  exact below_set3 HA.out w.heap.size (Nat.le_refl _) _ _ _
theorem find_any (w : World) (sp : Option Addr) (len cap bound : Nat) (k : Int) (xs : List Nat) (hl : xs.length = len) (hB : Bytes w sp xs) (hcap : len ≤ cap) (hc : cap ≤ 140737488355328) (hm : bound < 18446744073709551616) :
    Calls Tryz.prog 130 #[.slice sp len cap, .int .i64 k, .int .u64 bound] w fun e w' => Found w w' xs (pFind k bound xs) e := by
  unfold pFind
  by_cases h3 : k = 3
  · subst h3; rw [if_pos rfl]; exact find_var w sp len cap bound xs hl hB hcap hc
  · rw [if_neg h3]
    by_cases h4 : k = 4
    · subst h4; rw [if_pos rfl]; exact find_bytes w sp len cap bound xs hl hB hcap hc hm
    · rw [if_neg h4]
      by_cases h5 : k = 5
      · subst h5; rw [if_pos rfl]; exact find_raw w sp len cap bound xs hl hB hcap hc hm
      · rw [if_neg h5]
        exact find_fixed w sp len cap bound k xs hl hB hcap hc (by simp [h3]) (by simp [h4]) (by simp [h5])
end Go.Proofs.YtjcdnclfakmbpaaGreatDoor.C
