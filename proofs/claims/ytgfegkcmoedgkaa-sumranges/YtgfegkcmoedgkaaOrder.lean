import Derived.Test.YtgfegkcmoedgkaaTotal
import Derived.Test.YtgfegkcmoedgkaaRowI
import Derived.Test.YtgfegkcmoedgkaaRng
import Derived.Test.YtgfegkcmoedgkaaRowO
namespace Go.Proofs.Ytgfegkcmoedgkaa
open Go.RowKit
theorem and_mask (y : Int) (M : Nat) (hM : M < 9223372036854775808) : ∃ q : Nat, bits .and .i64 y (M : Int) = (q : Int) ∧ q ≤ M := by
  have hq : (BitVec.ofInt 64 y &&& BitVec.ofInt 64 (M : Int)).toNat ≤ M := by
    rw [BitVec.toNat_and, BitVec.ofInt_natCast, BitVec.toNat_ofNat]
    refine Nat.le_trans Nat.and_le_right ?_
    exact Nat.mod_le _ _
  have h1 : bits .and .i64 y (M : Int) = IntKind.i64.wrap ((BitVec.ofInt 64 y &&& BitVec.ofInt 64 (M : Int)).toNat : Int) := rfl
  generalize (BitVec.ofInt 64 y &&& BitVec.ofInt 64 (M : Int)).toNat = q at *
  refine ⟨q, ?_, hq⟩
  rw [h1, IntKind.wrap_i64]
  omega
theorem sum_rev (zs : List Int) : zs.reverse.sum = zs.sum := by
  induction zs with
  | nil => rfl
  | cons z zs ih => rw [List.reverse_cons, List.sum_append, ih]; simp; omega
theorem fitv_i64 (x : Int) : I64 (fitv x) := by
  unfold fitv
  split
  · rename_i h; exact (fits_iff x).1 h
  · unfold I64; omega
theorem sum_parts (zs : List Int) (k : Nat) : (zs.take k).sum + (zs.drop k).sum = zs.sum := by
  rw [← List.sum_append, List.take_append_drop]
/-- The list as far as it is turned round. -/
theorem rev_step {zs : List Int} {k : Nat} (hk : k < zs.length) : (zs.drop k).reverse = (zs.drop (k + 1)).reverse ++ [zs[k]'hk] := by
  rw [List.drop_eq_getElem_cons hk, List.reverse_cons]
theorem lst_take {w : World} {p : Option Addr} {m : Nat} {zs : List Int} (h : Lst w p m zs) {k : Nat} (hk : k ≤ m) : Lst w p k (zs.take k) :=
  ⟨by simp [h.len]; omega, Nat.le_trans hk h.most, by
    rcases h.lie with h0 | ⟨g', o, e, hg, hcc⟩
    · exact Or.inl (by rw [h0]; simp)
    · exact Or.inr ⟨g', o, e, hg, fun j z hj => hcc j z (by
        have hjm : j < k := by have := (List.getElem?_eq_some_iff.1 hj).1; simp at this; omega
        rw [List.getElem?_take_of_lt hjm] at hj; exact hj)⟩, mem_take h.each k⟩
theorem lst_drop {w : World} {g o : Nat} {m : Nat} {zs : List Int} (h : Lst w (some ⟨g, o, none⟩) m zs) {k : Nat} (hk : k ≤ m) : Lst w (some ⟨g, o + k, none⟩) (m - k) (zs.drop k) :=
  ⟨by simp [h.len], by have := h.most; omega, by
    rcases h.lie with h0 | ⟨g', o', e, hg, hcc⟩
    · exact Or.inl (by rw [h0]; simp)
    · cases e
      exact Or.inr ⟨_, _, rfl, hg, fun j z hj => by
        rw [List.getElem?_drop] at hj
        have := hcc _ z hj
        rw [show o + k + j = o + (k + j) by omega]; exact this⟩, fun z hz => h.each z (List.mem_of_mem_drop hz)⟩

theorem lst_own {w : World} {B n c : Nat} {p : Option Addr} {zs : List Int} (h : w.ownsRow B 2 1 (.slice p n c) n (ins zs)) (hn : n ≤ 17592186044416) (hz : ∀ z ∈ zs, I64 z) : Lst w p n zs := by
  have hl : zs.length = n := by have := h.1; rw [ins_len] at this; omega
  refine ⟨hl, hn, ?_, hz⟩
  by_cases h0 : n = 0
  · subst h0; exact Or.inl (List.eq_nil_of_length_eq_zero hl)
  · obtain ⟨g, rfl, hO⟩ := own_of (by omega) h
    exact hO.nums
set_option maxRecDepth 20000 in
theorem order_all (w : World) (np : Option Addr) (m d : Nat) (zs : List Int) (y : Int) (h : InN w np m d zs) (_hy : I64 y) :
    Calls Try.prog 8 #[.agg #[.slice np m d, .int .i64 y]] w fun e w' => e = .returned (.bool true) ∧ Below w.heap.size w w' := by
  have HN := hide h
  have hm : m ≤ 17592186043904 := Nat.le_trans h.cap h.most
  have HB0 := hide (below_al w (.cells #[.slice np m d, .int .i64 y] 57))
  have HC0 : Hid ((w.alloc (.cells #[.slice np m d, .int .i64 y] 57)).cell? ⟨w.heap.size, 0, none⟩ = some (.slice np m d) ∧ (w.alloc (.cells #[.slice np m d, .int .i64 y] 57)).cell? ⟨w.heap.size, 1, none⟩ = some (.int .i64 y)) := ⟨by simp [go_sem], by simp [go_sem]⟩
  have HSz : Hid (w.heap.size < (w.alloc (.cells #[.slice np m d, .int .i64 y] 57)).heap.size) := by show _ < _; simp
  clear h
  have HE := hide same_self
  go_enter Try.func8, Try.ntmps8
  go_wp2_with fail
  generalize w.alloc (.cells #[.slice np m d, .int .i64 y] 57) = w1 at *
  have HN1 := hide (HN.out.up HB0.out)
  have HC : Hid (∀ w2, Below w1.heap.size w1 w2 → w2.cell? ⟨w.heap.size, 0, none⟩ = some (.slice np m d) ∧ w2.cell? ⟨w.heap.size, 1, none⟩ = some (.int .i64 y)) := fun w2 h2 => by
    constructor
    · rw [h2.cell (p := ⟨w.heap.size, 0, none⟩) HSz.out]; exact HC0.out.1
    · rw [h2.cell (p := ⟨w.heap.size, 1, none⟩) HSz.out]; exact HC0.out.2
  have HT1 := hide (total_any w1 np m d zs HN1.out.lst)
  obtain ⟨V, O, HVO⟩ : ∃ V O, Hid (fitv zs.sum = V ∧ fits zs.sum = O) := ⟨_, _, rfl, rfl⟩
  rw [HVO.out.1, HVO.out.2] at HT1
  refine HT1.out.mono ?_
  rintro e w2 ⟨rfl, hb2⟩
  have HB2 := hide hb2
  clear hb2 HT1 HN
  obtain ⟨c0, c1⟩ := HC.out w2 HB2.out
  go_wp2
  go_loopw [5, 6] (fun b i wr => ∃ (k c : Nat) (p : Option Addr) (x : Int), k ≤ m ∧ x = (k : Int) - 1 ∧ i = .int .i64 x ∧ b = .slice p (m - k) c ∧ Hid (wr.ownsRow w1.heap.size 2 1 (.slice p (m - k) c) (m - k) (ins (zs.drop k).reverse)) ∧ Hid (Below w1.heap.size w1 wr)) (fun _ i _ => (intOf i + 1).toNat)
  case atStart => exact ⟨m, 0, none, _, Nat.le_refl _, rfl, rfl, by simp, by simpa [Hid, List.drop_of_length_le (Nat.le_of_eq HN1.out.len)] using nil_owns _ _, HB2⟩
  case round =>
    obtain ⟨k, c, p, x, hk, hx, rfl, rfl, HO, HB⟩ := hrel
    clear HB2 c0 c1
    obtain ⟨c0, c1⟩ := HC.out wr HB.out
    cases k with
    | zero =>
      obtain rfl : x = -1 := by omega
      clear hx
      simp only [Nat.sub_zero, List.drop_zero] at HO ⊢
      have HLb : Hid (Lst wr p m zs.reverse) := lst_own HO.out (by omega) (fun z hz => HN1.out.each z (List.mem_reverse.1 hz))
      have HT2 := hide (total_any wr p m c _ HLb.out)
      rw [sum_rev, HVO.out.1, HVO.out.2] at HT2
      obtain ⟨q, e1, hq⟩ := and_mask y 16777215 (by omega)
      have e1' : bits .and .i64 y 16777215 = (q : Int) := e1
      obtain ⟨K, hK, e2, HK⟩ : ∃ K : Nat, K ≤ m ∧ (q : Int).tmod ((m : Int) + 1) = (K : Int) ∧ Hid (K = q % (m + 1)) := ⟨q % (m + 1), by have := Nat.mod_lt q (show 0 < m + 1 by omega); omega, by rw [Int.tmod_eq_emod_of_nonneg (by omega), Int.natCast_emod]; simp, rfl⟩
      have l3 : ¬ (m : Int) + 1 = 0 := by omega
      have l4 : (0 : Int) ≤ (K : Int) := by omega
      have l5 : (K : Int) ≤ (m : Int) := by omega
      have l6 : (K : Int) ≤ (d : Int) := by have := HN1.out.cap; omega
      have l7 : (m : Int) ≤ (d : Int) := by have := HN1.out.cap; omega
      clear e1 HO HLb hq
      have HP := hide (sum_parts zs K)
      have HT3 : Hid (∀ w3, Below w1.heap.size w1 w3 → Calls Try.prog 19 #[.slice np K d] w3 fun e w' => e = .returned (.tuple #[.int .i64 (fitv (zs.take K).sum), .bool (fits (zs.take K).sum)]) ∧ Below w3.heap.size w3 w') := fun w3 h3 => total_any w3 np K d _ (lst_take (HN1.out.lst.up h3) hK)
      have HI2 : Hid (I64 (fitv (zs.take K).sum) ∧ I64 (fitv (zs.drop K).sum)) := ⟨fitv_i64 _, fitv_i64 _⟩
      have HV : Hid (fits (zs.take K).sum = true → fits (zs.drop K).sum = true → fitv (fitv (zs.take K).sum + fitv (zs.drop K).sum) = V ∧ fits (fitv (zs.take K).sum + fitv (zs.drop K).sum) = O) := fun h1 h2 => by
        rw [fitv_fits h1, fitv_fits h2, HP.out]; exact HVO.out
      have H41 : Hid (∀ w3 : World, Calls Try.prog 19 #[.slice (some ⟨w3.heap.size, 0, none⟩) 1 1] (w3.alloc (.cells #[.int .i64 41] 2)) fun e w' => e = .returned (.tuple #[.int .i64 41, .bool true]) ∧ Below (w3.alloc (.cells #[.int .i64 41] 2)).heap.size (w3.alloc (.cells #[.int .i64 41] 2)) w') := fun w3 => total_any _ _ 1 1 [41] ⟨rfl, by omega, nums_one _ _ _, fun z hz => by simp at hz; subst hz; unfold I64; omega⟩
      have HA := hide add_any
      go_wp2_with fail
      refine HT2.out.mono ?_
      rintro e w3 ⟨rfl, g3⟩
      have HB3 := hide (HB.out.trans (g3.mono HB.out.size))
      clear c0 c1 g3 HB HT2
      obtain ⟨c0, c1⟩ := HC.out _ HB3.out
      go_wp2_with (first
        | (go_at_call 13; refine (HE.out _ _ _).mono ?_; rintro e w3 ⟨rfl, h⟩; obtain rfl := h.symm; clear h))
      refine (HT3.out _ HB3.out).mono ?_
      rintro e w4 ⟨rfl, g4⟩
      have HB4 := hide (HB3.out.trans (g4.mono HB3.out.size))
      clear c0 c1 g4 HB3 HT3
      obtain ⟨c0, c1⟩ := HC.out _ HB4.out
      have HL4 := hide (HN1.out.up HB4.out).lst
      by_cases hmK : K = m
      · subst hmK
        have HD : Hid (zs.drop K = []) := by show _ = _; rw [List.drop_of_length_le (Nat.le_of_eq HN1.out.len)]
        have HT4 : Hid (∀ p c, Calls Try.prog 19 #[.slice p 0 c] w4 fun e w' => e = .returned (.tuple #[.int .i64 (fitv (zs.drop K).sum), .bool (fits (zs.drop K).sum)]) ∧ Below w4.heap.size w4 w') := fun p c => by
          rw [HD.out]; exact total_any _ p 0 c [] ⟨rfl, by omega, Or.inl rfl, by simp⟩
        go_wp2_with fail
        all_goals
          refine (HT4.out _ _).mono ?_
          rintro e w5 ⟨rfl, g5⟩
          have HB5 := hide (HB4.out.trans (g5.mono HB4.out.size))
          clear c0 c1 g5 HB4
          generalize fitv (zs.take K).sum = x1 at *
          generalize fitv (zs.drop K).sum = x2 at *
          cases hf1 : fits (zs.take K).sum
          · go_wp2_with fail
            refine (H41.out _).mono ?_
            rintro e w6 ⟨rfl, g6⟩
            have HB6 := hide ((HB5.out.alloc HB5.out.size _).trans (g6.mono (HB5.out.alloc HB5.out.size _).size))
            clear g6
            go_wp2
            go_ret
            exact ⟨rfl, HB0.out.trans (HB6.out.mono (Nat.le_of_lt HSz.out))⟩
          · cases hf2 : fits (zs.drop K).sum
            · go_wp2_with fail
              refine (H41.out _).mono ?_
              rintro e w6 ⟨rfl, g6⟩
              have HB6 := hide ((HB5.out.alloc HB5.out.size _).trans (g6.mono (HB5.out.alloc HB5.out.size _).size))
              clear g6
              go_wp2
              go_ret
              exact ⟨rfl, HB0.out.trans (HB6.out.mono (Nat.le_of_lt HSz.out))⟩
            · obtain ⟨v1, v2⟩ := HV.out hf1 hf2
              have HA2 : Hid (∀ w, Calls Try.prog 9 #[.int .i64 x1, .int .i64 x2] w fun e w' => e = .returned (.tuple #[.int .i64 V, .bool O]) ∧ Below w.heap.size w w') := fun w => by
                have := add_any x1 x2 HI2.out.1 HI2.out.2 w
                rw [v1, v2] at this
                exact this
              clear hf1 hf2 v1 v2 HV
              go_wp2_with fail
              refine (HA2.out _).mono ?_
              rintro e w6 ⟨rfl, g6⟩
              have HB6 := hide (HB5.out.trans (g6.mono HB5.out.size))
              clear g6 HB5
              go_wp2_with (first
                | (go_at_call 13; refine (HE.out _ _ _).mono ?_; rintro e w7 ⟨rfl, h⟩; obtain rfl := h.symm; clear h))
              refine (H41.out _).mono ?_
              rintro e w7 ⟨rfl, g7⟩
              have HB7 := hide ((HB6.out.alloc HB6.out.size _).trans (g7.mono (HB6.out.alloc HB6.out.size _).size))
              clear g7
              go_wp2
              go_ret
              exact ⟨rfl, HB0.out.trans (HB7.out.mono (Nat.le_of_lt HSz.out))⟩
      · have hlt : K < zs.length := by rw [HN1.out.len]; omega
        obtain ⟨g1, o1, hp, _⟩ := HL4.out.lie.at hlt
        subst hp
        have hdK : ¬ (d : Int) = (K : Int) := by omega
        have hdK2 : ¬ d = K := by omega
        have HT4 := hide (total_any w4 _ _ (d - K) _ (lst_drop HL4.out hK))
        go_wp2_with fail
        refine HT4.out.mono ?_
        rintro e w5 ⟨rfl, g5⟩
        have HB5 := hide (HB4.out.trans (g5.mono HB4.out.size))
        clear c0 c1 g5 HB4
        generalize fitv (zs.take K).sum = x1 at *
        generalize fitv (zs.drop K).sum = x2 at *
        cases hf1 : fits (zs.take K).sum
        · go_wp2_with fail
          refine (H41.out _).mono ?_
          rintro e w6 ⟨rfl, g6⟩
          have HB6 := hide ((HB5.out.alloc HB5.out.size _).trans (g6.mono (HB5.out.alloc HB5.out.size _).size))
          clear g6
          go_wp2
          go_ret
          exact ⟨rfl, HB0.out.trans (HB6.out.mono (Nat.le_of_lt HSz.out))⟩
        · cases hf2 : fits (zs.drop K).sum
          · go_wp2_with fail
            refine (H41.out _).mono ?_
            rintro e w6 ⟨rfl, g6⟩
            have HB6 := hide ((HB5.out.alloc HB5.out.size _).trans (g6.mono (HB5.out.alloc HB5.out.size _).size))
            clear g6
            go_wp2
            go_ret
            exact ⟨rfl, HB0.out.trans (HB6.out.mono (Nat.le_of_lt HSz.out))⟩
          · obtain ⟨v1, v2⟩ := HV.out hf1 hf2
            have HA2 : Hid (∀ w, Calls Try.prog 9 #[.int .i64 x1, .int .i64 x2] w fun e w' => e = .returned (.tuple #[.int .i64 V, .bool O]) ∧ Below w.heap.size w w') := fun w => by
              have := add_any x1 x2 HI2.out.1 HI2.out.2 w
              rw [v1, v2] at this
              exact this
            clear hf1 hf2 v1 v2 HV
            go_wp2_with fail
            refine (HA2.out _).mono ?_
            rintro e w6 ⟨rfl, g6⟩
            have HB6 := hide (HB5.out.trans (g6.mono HB5.out.size))
            clear g6 HB5
            go_wp2_with (first
              | (go_at_call 13; refine (HE.out _ _ _).mono ?_; rintro e w7 ⟨rfl, h⟩; obtain rfl := h.symm; clear h))
            refine (H41.out _).mono ?_
            rintro e w7 ⟨rfl, g7⟩
            have HB7 := hide ((HB6.out.alloc HB6.out.size _).trans (g7.mono (HB6.out.alloc HB6.out.size _).size))
            clear g7
            go_wp2
            go_ret
            exact ⟨rfl, HB0.out.trans (HB7.out.mono (Nat.le_of_lt HSz.out))⟩
    | succ j =>
      obtain rfl : x = (j : Int) := by omega
      clear hx
      have hlt' : j < zs.length := by rw [HN1.out.len]; omega
      obtain ⟨g1, o1, hp, hc1⟩ := (HN1.out.lie.below HB.out (Nat.le_refl _)).at hlt'
      have HS := hide (rev_step hlt')
      subst hp
      generalize zs[j]'hlt' = z at *
      have l1 : (j : Int) < (m : Int) := by omega
      have l2 : (0 : Int) ≤ (j : Int) := by omega
      have l0 : decide ((0 : Int) ≤ (j : Int)) = true := decide_eq_true l2
      have HB3 := hide (HB.out.alloc HB.out.size (.cells #[.int .i64 z] 2))
      have hlast : m - j = m - (j + 1) + 1 := by omega
      go_wp2_with (at_builtin; refine app_src rfl (.tmp 32) (.tmp 38) rfl w1.heap.size (m - (j + 1)) p c _ rfl (HO.out.alloc _) _ 1 1 [z] rfl rfl (nums_one _ _ _) (by omega) HB3.out HB3.out.size ?_; intro p2 c2 w2 hown2 hb2)
      rw [← HS.out, ← hlast] at hown2
      have HO2 := hide hown2
      have HB4 := hide hb2
      clear hown2 hb2 HO HB HB3 HS hc1 c0 c1
      go_roundw
      case rel => exact ⟨j, c2, p2, _, by omega, rfl, by go_num, by rw [hlast], HO2, HB4⟩
      case measure => simp [intOf]
end Go.Proofs.Ytgfegkcmoedgkaa
