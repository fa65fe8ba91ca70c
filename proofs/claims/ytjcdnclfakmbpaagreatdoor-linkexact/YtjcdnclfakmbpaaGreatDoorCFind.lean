import Derived.Deep.RegionHeld3
import Derived.Deep.DrawnRows
import Derived.Test.YtjcdnclfakmbpaaGreatDoorCBase
import Derived.Test.YtjcdnclfakmbpaaGreatDoorCPure
namespace Go.Proofs.YtjcdnclfakmbpaaGreatDoor.C
open Go.RowKit
def Found (w w' : World) (xs : List Nat) (it : It) (e : Ending) : Prop :=
  ∃ bp bc, e = .returned (.tuple #[.agg #[.int .u64 (it.num : Int), .slice bp it.len bc, .int .i64 (it.size : Int)], .int .i64 (it.fault : Int)]) ∧ Bytes w' bp ((xs.drop it.off).take it.len) ∧ it.len ≤ bc ∧ bc ≤ 140737488355328 ∧ Below w.heap.size w w'
theorem bytes_none (w : World) (sp : Option Addr) : Bytes w sp [] := ⟨by simp, Or.inl rfl⟩
theorem found_no (w w' : World) (xs : List Nat) (f : Nat) (h : Below w.heap.size w w') : Found w w' xs (no f) (.returned (.tuple #[.agg #[.int .u64 0, .slice none 0 0, .int .i64 0], .int .i64 (f : Int)])) :=
  ⟨none, 0, rfl, by simpa [no] using bytes_none _ none, by simp [no], by omega, h⟩
set_option maxRecDepth 100000 in
set_option maxHeartbeats 400000 in
theorem fixed_short (w : World) (sp : Option Addr) (len cap size : Nat) (hb : len < size) (_hs : size ≤ 8) :
    Calls Tryz.prog 150 #[.slice sp len cap, .int .i64 size] w fun e w' => e = .returned (.tuple #[.agg #[.int .u64 0, .slice none 0 0, .int .i64 0], .int .i64 10]) ∧ Below w.heap.size w w' := by
  go_enter Tryz.func150, Tryz.ntmps150
  go_wp2
  exact bodyPost_ret (v := .tuple #[.agg #[.int .u64 0, .slice none 0 0, .int .i64 0], .int .i64 10]) (by simp [results, Tryz.results150, go_sem]) rfl ⟨rfl, (Below.refl _ _).alloc (Nat.le_refl _) _⟩
set_option maxRecDepth 100000 in
set_option maxHeartbeats 400000 in
theorem fixed_there (w : World) (g o : Nat) (len cap size : Nat) (xs : List Nat) (hX : ∀ x ∈ xs, x < 256) (hl : xs.length = len) (hg : g < w.heap.size) (hc : ∀ j, j < xs.length → w.cell? ⟨g, o + j, none⟩ = some (.int .u8 (xs.getD j 0))) (hb : size ≤ len) (hs : size ≤ 8) (_hcap : len ≤ 140737488355328) :
    Calls Tryz.prog 150 #[.slice (some ⟨g, o, none⟩) len cap, .int .i64 size] w fun e w' => e = .returned (.tuple #[.agg #[.int .u64 (be (xs.take size) : Nat), .slice none 0 0, .int .i64 size], .int .i64 0]) ∧ Below w.heap.size w w' := by
  have HX : Hid (∀ x ∈ xs, x < 256) := hX
  have HL : Hid (xs.length = len) := hl
  have HC : Hid (∀ j, j < len → w.cell? ⟨g, o + j, none⟩ = some (.int .u8 (xs.getD j 0))) := fun j hj => hc j (by omega)
  clear hX hl hc
  go_enter Tryz.func150, Tryz.ntmps150
  go_wp2
  go_loop [6, 14] (fun n i => ∃ (k N : Nat), k ≤ size ∧ i = .int .i64 k ∧ n = .int .u64 (N : Int) ∧ Hid (N = be (xs.take k))) (fun _ i => size - (intOf i).toNat)
  case atStart => exact ⟨0, 0, Nat.zero_le _, rfl, rfl, rfl⟩
  case round =>
    obtain ⟨k, N, hk, rfl, rfl, HN⟩ := hrel
    by_cases hlt : k < size
    · have hcx := HC.out k (by omega)
      have hx : xs.getD k 0 < 256 := getD_small HX.out k
      have hNN : N < 72057594037927936 := by rw [HN.out]; exact be_take_lt xs HX.out k (by omega)
      have HO : Hid (bits .or .u64 ((N : Int) * 256) ((xs.getD k 0 : Nat) : Int) = ((be (xs.take (k + 1)) : Nat) : Int)) := by
        show _ = _
        rw [or_byte N _ hNN hx, take_snoc xs k (by rw [HL.out]; omega), be_snoc, HN.out]
      generalize xs.getD k 0 = x at *
      go_wp2
      go_round
      case rel => exact ⟨k + 1, be (xs.take (k + 1)), by omega, by go_num, by rw [HO.out], rfl⟩
      case measure => simp [intOf]; omega
    · obtain rfl : k = size := by omega
      go_wp2
      exact bodyPost_ret (v := .tuple #[.agg #[.int .u64 (N : Int), .slice none 0 0, .int .i64 k], .int .i64 0]) (by simp [results, Tryz.results150, go_sem]) rfl ⟨by rw [HN.out], (Below.refl _ _).alloc (Nat.le_refl _) _⟩
theorem fixed_any (w : World) (sp : Option Addr) (len cap size : Nat) (xs : List Nat) (hl : xs.length = len) (hB : Bytes w sp xs) (hs : size ≤ 8) (h0 : 0 < size) (hcap : len ≤ 140737488355328) :
    Calls Tryz.prog 150 #[.slice sp len cap, .int .i64 size] w fun e w' => Found w w' xs (pFixed size xs) e := by
  by_cases h : len < size
  · refine (fixed_short w sp len cap size h hs).mono ?_
    rintro e w' ⟨rfl, hb⟩
    rw [pFixed, if_pos (by omega)]
    exact found_no _ _ _ 10 hb
  · rcases hB.lie with h' | ⟨g, o, rfl, hg, hc⟩
    · subst h'; simp at hl; omega
    · refine (fixed_there w g o len cap size xs hB.small hl hg hc (by omega) hs hcap).mono ?_
      rintro e w' ⟨rfl, hb⟩
      rw [pFixed, if_neg (by omega)]
      exact ⟨none, 0, rfl, by simpa using bytes_none _ none, by simp, by omega, hb⟩
set_option maxRecDepth 100000 in
set_option maxHeartbeats 4000000 in
theorem var_there (w : World) (g o len cap most : Nat) (xs : List Nat) (hX : ∀ x ∈ xs, x < 256) (hl : xs.length = len) (hg : g < w.heap.size) (hc : ∀ j, j < xs.length → w.cell? ⟨g, o + j, none⟩ = some (.int .u8 (xs.getD j 0))) (hcap : len ≤ 140737488355328) :
    Calls Tryz.prog 147 #[.slice (some ⟨g, o, none⟩) len cap, .int .u64 most] w fun e w' => Found w w' xs (pVar most xs 0 0) e := by
  have HX : Hid (∀ x ∈ xs, x < 256) := hX
  have HL : Hid (xs.length = len) := hl
  have HC : Hid (∀ j, j < len → w.cell? ⟨g, o + j, none⟩ = some (.int .u8 (xs.getD j 0))) := fun j hj => hc j (by omega)
  clear hX hl hc
  by_cases h10 : (10 : Int) < (len : Int)
  all_goals
    go_enter Tryz.func147, Tryz.ntmps147
    go_wp2
    go_loop [6, 12] (fun n i => ∃ (k N : Nat), k ≤ len ∧ k ≤ 9 ∧ i = .int .i64 k ∧ n = .int .u64 (N : Int) ∧ Hid (N < 128 ^ k) ∧ Hid (pVar most xs 0 0 = pVar most (xs.drop k) k N)) (fun _ i => 10 - (intOf i).toNat)
    case atStart => exact ⟨0, 0, Nat.zero_le _, by omega, rfl, rfl, by simp [Hid], by simp [Hid]⟩
    case round =>
      obtain ⟨k, N, hk, hk9, rfl, rfl, HNN, HN⟩ := hrel
      by_cases hlt : k < len
      · have hcx := HC.out k (by omega)
        have hx : xs.getD k 0 < 256 := getD_small HX.out k
        have HD : Hid (xs.drop k = xs.getD k 0 :: xs.drop (k + 1)) := drop_cons xs k (by rw [HL.out]; exact hlt)
        have han := and_high (xs.getD k 0) hx
        generalize xs.getD k 0 = x at *
        by_cases hA : k = 9 ∧ 1 < x
        · have b9 : ((k : Int) == 9) = true := by simp; omega
          have HP : Hid (pVar most xs 0 0 = no 11) := by show _ = _; rw [HN.out, HD.out, pv_form _ _ _ _ _ hA]
          have h1 : (1 : Int) < (x : Int) := by omega
          clear hA han
          go_wp2
          exact bodyPost_ret (v := .tuple #[.agg #[.int .u64 0, .slice none 0 0, .int .i64 0], .int .i64 11]) (by simp [results, Tryz.results147, go_sem]) rfl (by rw [HP.out]; exact found_no _ _ _ 11 ((Below.refl _ _).alloc (Nat.le_refl _) _))
        · have hE := or_var N x k HNN.out hx hk9 (by omega)
          have HM : Hid (N + (x % 128) * 128 ^ k < 128 ^ (k + 1)) := next_lt N x k HNN.out
          by_cases h128 : 128 ≤ x
          · have b9 : ((k : Int) == 9) = false := by simp; omega
            have HP : Hid (pVar most xs 0 0 = pVar most (xs.drop (k + 1)) (k + 1) (N + (x % 128) * 128 ^ k)) := by show _ = _; rw [HN.out, HD.out, pv_on _ _ _ _ _ hA h128 hx]
            rw [decide_eq_true h128] at han
            generalize N + (x % 128) * 128 ^ k = M at *
            have hk8 : k ≤ 8 := by omega
            clear hA HN HNN HD
            go_wp2
            go_round
            case rel => exact ⟨k + 1, M, by omega, by omega, by go_num, rfl, HM, HP⟩
            case measure => simp [intOf]; omega
          · rw [decide_eq_false h128] at han
            by_cases hz : x = 0 ∧ 0 < k
            · have HP : Hid (pVar most xs 0 0 = no 11) := by show _ = _; rw [HN.out, HD.out, pv_zero _ _ _ _ _ hA (by omega) hz]
              have bz : ((x : Int) == 0) = true := by simp; omega
              have hk0 : 0 < (k : Int) := by omega
              have hx1 : ¬ (1 : Int) < (x : Int) := by omega
              generalize N + (x % 128) * 128 ^ k = M at *
              clear hA HN HNN HD hz
              cases b9 : ((k : Int) == 9)
              all_goals
                go_wp2
                exact bodyPost_ret (v := .tuple #[.agg #[.int .u64 0, .slice none 0 0, .int .i64 0], .int .i64 11]) (by simp [results, Tryz.results147, go_sem]) rfl (by rw [HP.out]; exact found_no _ _ _ 11 ((Below.refl _ _).alloc (Nat.le_refl _) _))
            · have h3 : (((k : Int) == 9) = false ∧ ((x : Int) == 0) = false) ∨ (((k : Int) == 9) = true ∧ ((x : Int) == 0) = false ∧ ¬ (1 : Int) < (x : Int)) ∨ (((k : Int) == 9) = false ∧ ((x : Int) == 0) = true ∧ ¬ (0 : Int) < (k : Int)) := by
                simp only [beq_eq_false_iff_ne, beq_iff_eq, ne_eq]; omega
              by_cases hm : most < N + (x % 128) * 128 ^ k
              · have HP : Hid (pVar most xs 0 0 = no 12) := by show _ = _; rw [HN.out, HD.out, pv_max _ _ _ _ _ hA (by omega) hz hm]
                generalize N + (x % 128) * 128 ^ k = M at *
                clear hA HN HNN HD hz
                rcases h3 with ⟨b9, bz⟩ | ⟨b9, bz, hx1⟩ | ⟨b9, bz, hk0⟩
                all_goals
                  go_wp2
                  exact bodyPost_ret (v := .tuple #[.agg #[.int .u64 0, .slice none 0 0, .int .i64 0], .int .i64 12]) (by simp [results, Tryz.results147, go_sem]) rfl (by rw [HP.out]; exact found_no _ _ _ 12 ((Below.refl _ _).alloc (Nat.le_refl _) _))
              · have HP : Hid (pVar most xs 0 0 = ⟨N + (x % 128) * 128 ^ k, 0, 0, k + 1, 0⟩) := by show _ = _; rw [HN.out, HD.out, pv_ok _ _ _ _ _ hA (by omega) hz hm]
                generalize N + (x % 128) * 128 ^ k = M at *
                clear hA HN HNN HD hz
                rcases h3 with ⟨b9, bz⟩ | ⟨b9, bz, hx1⟩ | ⟨b9, bz, hk0⟩
                all_goals
                  go_wp2
                  exact bodyPost_ret (v := .tuple #[.agg #[.int .u64 (M : Int), .slice none 0 0, .int .i64 ((k : Int) + 1)], .int .i64 0]) (by simp [results, Tryz.results147, go_sem]) rfl (by rw [HP.out]; exact ⟨none, 0, by simp, by simpa using bytes_none _ none, by simp, by omega, (Below.refl _ _).alloc (Nat.le_refl _) _⟩)
      · have HP : Hid (pVar most xs 0 0 = no 10) := by show _ = _; rw [HN.out, List.drop_of_length_le (by rw [HL.out]; omega)]; rfl
        go_wp2
        all_goals exact bodyPost_ret (v := .tuple #[.agg #[.int .u64 0, .slice none 0 0, .int .i64 0], .int .i64 10]) (by simp [results, Tryz.results147, go_sem]) rfl (by rw [HP.out]; exact found_no _ _ _ 10 ((Below.refl _ _).alloc (Nat.le_refl _) _))
set_option maxRecDepth 100000 in
set_option maxHeartbeats 400000 in
theorem var_none (w : World) (sp : Option Addr) (cap most : Nat) :
    Calls Tryz.prog 147 #[.slice sp 0 cap, .int .u64 most] w fun e w' => Found w w' [] (no 10) e := by
  go_enter Tryz.func147, Tryz.ntmps147
  go_wp2
  refine wp_loop_rounds 1 ?_
  rw [rounds_succ]
  go_wp2
  exact bodyPost_ret (v := .tuple #[.agg #[.int .u64 0, .slice none 0 0, .int .i64 0], .int .i64 10]) (by simp [results, Tryz.results147, go_sem]) rfl (found_no _ _ _ 10 ((Below.refl _ _).alloc (Nat.le_refl _) _))
theorem var_any (w : World) (sp : Option Addr) (len cap most : Nat) (xs : List Nat) (hl : xs.length = len) (hB : Bytes w sp xs) (hcap : len ≤ 140737488355328) :
    Calls Tryz.prog 147 #[.slice sp len cap, .int .u64 most] w fun e w' => Found w w' xs (pVar most xs 0 0) e := by
  rcases hB.lie with h' | ⟨g, o, rfl, hg, hc⟩
  · subst h'; simp at hl; subst hl
    exact var_none w sp cap most
  · exact var_there w g o len cap most xs hB.small hl hg hc hcap
end Go.Proofs.YtjcdnclfakmbpaaGreatDoor.C
