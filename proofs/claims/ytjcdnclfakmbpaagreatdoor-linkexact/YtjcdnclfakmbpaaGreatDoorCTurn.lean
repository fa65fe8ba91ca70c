import Derived.Test.YtjcdnclfakmbpaaGreatDoorCWriter2
import Derived.Test.YtjcdnclfakmbpaaGreatDoorCLen
namespace Go.Proofs.YtjcdnclfakmbpaaGreatDoor.C
open Go.RowKit
theorem hide1 {p : Prop} (h : p) : Hid p := h
def vs (n : Nat) : Nat := max 1 ((Lib.bitLen n + 6) / 7)
theorem vs_bounds (n : Nat) (h : n < 18446744073709551616) : 1 ≤ vs n ∧ vs n ≤ 10 := by
  have := (bit_bounds n h).2.2.2
  unfold vs; omega
set_option maxRecDepth 100000 in
set_option maxHeartbeats 400000 in
theorem vsize_any (w : World) (n : Nat) (hn : n < 18446744073709551616) :
    Calls Tryz.prog 145 #[.int .u64 n] w fun e w' => e = .returned (.int .i64 (vs n : Nat)) ∧ w' = w := by
  have HC : Hid (Calls Tryz.prog 155 #[.int .u64 n] w fun e w' => e = .returned (.int .i64 (Lib.bitLen n)) ∧ w' = w) := len_any w n hn
  have hb := (bit_bounds n hn).2.2.2
  have HV : Hid (vs n = max 1 ((Lib.bitLen n + 6) / 7)) := rfl
  generalize vs n = V at *
  generalize Lib.bitLen n = L at *
  have he : Hid (max 1 (((L : Int) + 7 - 1) / 7) = (V : Int)) := by show _ = _; rw [HV.out]; omega
  go_enter Tryz.func145, Tryz.ntmps145
  go_wp2_with fail
  refine HC.out.mono ?_
  rintro e w' ⟨rfl, rfl⟩
  go_wp2
  go_ret
  exact ⟨ret_int he.out, rfl⟩
def varOf (n s : Nat) : List Nat := (List.range s).map (fun i => n / 128 ^ i % 128 + 128) ++ [n / 128 ^ s]
def varHd (n s : Nat) : List Nat := (List.range s).map (fun i => n / 128 ^ i % 128 + 128)
theorem hd_take (n s j : Nat) (h : j < s) : (varHd n s).take (j + 1) = (varHd n s).take j ++ [n / 128 ^ j % 128 + 128] := by
  rw [List.take_succ_eq_append_getElem (by simpa [varHd] using h)]
  simp [varHd]
theorem or_128 (N : Nat) : bits .or .u8 ((N : Int) % 256) 128 = ((N % 128 + 128 : Nat) : Int) := by
  have e : (N : Int) % 256 = ((N % 256 : Nat) : Int) := by omega
  have h := u8_or_nat (N % 256) 128 (by omega) (by omega)
  rw [show ((128 : Nat) : Int) = 128 from rfl] at h
  rw [e, h]
  have : ∀ y : Fin 256, y.val ||| 128 = y.val % 128 + 128 := by decide +kernel
  rw [this ⟨N % 256, by omega⟩]
  simp only
  omega
theorem fits_small (n s : Nat) (h : n < 128 ^ (s + 1)) : n / 128 ^ s < 128 := by
  rw [Nat.div_lt_iff_lt_mul (Nat.pow_pos (by omega))]
  rw [Nat.pow_succ] at h; omega
theorem vs_fits (n : Nat) (h : n < 18446744073709551616) : n < 128 ^ vs n := by
  obtain ⟨h1, h2, h3, h4⟩ := bit_bounds n h
  refine Nat.lt_of_lt_of_le h1 ?_
  rw [← pow7]
  exact Nat.pow_le_pow_right (by omega) (by unfold vs; omega)
theorem vs_least (n : Nat) (h : n < 18446744073709551616) (h1 : 1 < vs n) : 128 ^ (vs n - 1) ≤ n := by
  obtain ⟨a1, a2, a3, a4⟩ := bit_bounds n h
  by_cases h0 : n = 0
  · rw [vs, a3 h0] at h1; simp at h1
  · obtain ⟨b1, b2⟩ := a2 h0
    refine Nat.le_trans ?_ b2
    rw [← pow7]
    exact Nat.pow_le_pow_right (by omega) (by unfold vs at h1 ⊢; omega)
set_option maxRecDepth 100000 in
set_option maxHeartbeats 1000000 in
theorem var_lays (w : World) (b : Nat) (v : Value) (ws : List Nat) (n : Nat) (hw : Wr w b v ws) (hn : n < 18446744073709551616) (hlen : ws.length + 10 ≤ 140737488355328) :
    Calls Tryz.prog 126 #[.pointer (some ⟨b, 0, none⟩), .int .u64 n] w fun e w' => e = .returned (.tuple #[]) ∧ Laid w w' b v ws (varOf n (vs n - 1)) := by
  obtain ⟨i0, hi, hz0, hz1, hz2⟩ := info_parts Tryz.info5'
  obtain ⟨hv1, hv2⟩ := vs_bounds n hn
  have hfit := vs_fits n hn
  have HS : Hid (Half w w b v v ws []) := ⟨by simpa using hw, Or.inl rfl, Wrote.refl _ _ _⟩
  have HV : Hid (Calls Tryz.prog 145 #[.int .u64 n] w fun e w' => e = .returned (.int .i64 (vs n : Nat)) ∧ w' = w) := vsize_any w n hn
  clear hw
  generalize hV : vs n = V at *
  clear hV
  obtain ⟨s, rfl⟩ : ∃ s, V = s + 1 := ⟨V - 1, by omega⟩
  simp only [Nat.add_sub_cancel]
  have HFit : Hid (n < 128 ^ (s + 1)) := hfit
  clear hfit hv1
  go_enter Tryz.func126, Tryz.ntmps126
  go_wp2_with fail
  refine HV.out.mono ?_
  rintro e w' ⟨rfl, rfl⟩
  go_wp2
  go_loopw [1, 7] (fun nn i wr => ∃ (j N : Nat) (vr : Value), j ≤ s ∧ i = .int .i64 j ∧ nn = .int .u64 (N : Int) ∧ Hid (N = n / 128 ^ j) ∧ Hid (Half w' wr b v vr ws ((varHd n s).take j))) (fun _ i _ => s - (intOf i).toNat)
  case atStart => exact ⟨0, n, v, Nat.zero_le _, rfl, rfl, by simp [Hid], by simpa using HS⟩
  case round =>
    obtain ⟨j, N, vr, hj, rfl, rfl, HN, HH⟩ := hrel
    clear HS
    obtain ⟨a, c, hv, hc⟩ := HH.out.wr.form
    obtain ⟨q0, qf⟩ := blk1 HH.out.wr.blk
    have hblt := HH.out.wr.lt
    have HB : Hid (some b ≠ vr.ownBlock) := HH.out.wr.apart
    have HO : Hid (wr.ownsRow 0 5 1 vr (ws ++ (varHd n s).take j).length (vals (ws ++ (varHd n s).take j))) := HH.out.wr.own
    have hLL : (ws ++ (varHd n s).take j).length ≤ ws.length + 9 := by simp [varHd]; omega
    subst hv
    generalize hLe : (ws ++ (varHd n s).take j).length = L at *
    have HLE : Hid ((ws ++ (varHd n s).take j).length = L) := hLe
    clear hLe
    by_cases hlt : j < s
    · have HT : Hid ((varHd n s).take (j + 1) = (varHd n s).take j ++ [N % 128 + 128]) := by rw [HN.out]; exact hd_take n s j hlt
      have HN' : Hid (N / 128 = n / 128 ^ (j + 1)) := by show _ = _; rw [HN.out, Nat.div_div_eq_div_mul, Nat.pow_succ]
      have hor := or_128 N
      have hx : N % 128 + 128 < 256 := by omega
      generalize N % 128 + 128 = x at *
      go_wp2_with (at_builtin; refine wpList_append_lies _ rfl (.tmp 13) (.tmp 17) 31 rfl 0 5 i0 (.int .u8 0) 1 1 Tryz.underlying31 hi hz0 hz1 hz2 rfl (by omega) _ _ _ rfl (HO.out.alloc _) ⟨wr.heap.size, 0, none⟩ 1 1 [.int .u8 (x : Int)] rfl rfl (World.news_of_block (heap_alloc_new wr (.cells #[.int .u8 (x : Int)] 5))) (by simp [Value.oneCell']) (by omega) (by unfold maxLen; omega) (by omega) (by omega) _ rfl ?_; intro g cap w1 hown hgrow hat hltg; have r0 := (hgrow.cell_far ⟨b, 0, none⟩ (by simp; omega) HB.out); have rf := fun o => (hgrow.frozen_far ⟨b, o, none⟩ (by simp; omega) HB.out))
      have hL := HLE.out
      subst hL
      have HF := HH.out.step hx ((Below.refl _ _).alloc (Nat.le_refl _) _) hown hgrow (by rcases hat with h | h; exact Or.inl h; exact Or.inr (by simp at h; omega))
      rw [← HT.out] at HF
      go_roundw
      case rel => exact ⟨j + 1, N / 128, _, by omega, by go_num, by simp, HN', HF⟩
      case measure => simp [intOf]; omega
    · obtain rfl : j = s := by omega
      have hNs : N < 128 := by rw [HN.out]; exact fits_small n j HFit.out
      have hmod : (N : Int) % 256 = (N : Int) := by omega
      go_wp2_with (at_builtin; refine wpList_append_lies _ rfl (.tmp 28) (.tmp 31) 31 rfl 0 5 i0 (.int .u8 0) 1 1 Tryz.underlying31 hi hz0 hz1 hz2 rfl (by omega) _ _ _ rfl (HO.out.alloc _) ⟨wr.heap.size, 0, none⟩ 1 1 [.int .u8 (N : Int)] rfl rfl (World.news_of_block (heap_alloc_new wr (.cells #[.int .u8 (N : Int)] 5))) (by simp [Value.oneCell']) (by omega) (by unfold maxLen; omega) (by omega) (by omega) _ rfl ?_; intro g cap w1 hown hgrow hat hltg; have r0 := (hgrow.cell_far ⟨b, 0, none⟩ (by simp; omega) HB.out); have rf := fun o => (hgrow.frozen_far ⟨b, o, none⟩ (by simp; omega) HB.out))
      go_end0
      have hL := HLE.out
      subst hL
      have HF := HH.out.step (show N < 256 by omega) ((Below.refl _ _).alloc (Nat.le_refl _) _) hown hgrow (by rcases hat with h | h; exact Or.inl h; exact Or.inr (by simp at h; omega))
      have e : (varHd n j).take j ++ [N] = varOf n j := by rw [List.take_of_length_le (by simp [varHd]), HN.out]; rfl
      rw [e] at HF
      exact ⟨rfl, _, HF.wr, HF.at_, HF.wrote⟩
theorem varOf_small (n s : Nat) (h : n < 128 ^ (s + 1)) : ∀ x ∈ varOf n s, x < 256 := by
  intro x hx
  simp only [varOf, List.mem_append, List.mem_map, List.mem_range, List.mem_singleton] at hx
  rcases hx with ⟨i, _, rfl⟩ | rfl
  · omega
  · have := fits_small n s h; omega
theorem varOf_length (n s : Nat) : (varOf n s).length = s + 1 := by simp [varOf]
set_option maxRecDepth 100000 in
set_option maxHeartbeats 400000 in
theorem wbytes_any (w : World) (b : Nat) (v : Value) (ws : List Nat) (sp : Option Addr) (m cap : Nat) (xs : List Nat) (hw : Wr w b v ws) (hm : xs.length = m) (hx : Bytes w sp xs) (hlen : ws.length + 10 + m ≤ 140737488355328) (hsep : ∀ g o, sp = some ⟨g, o, none⟩ → 0 < m → g ≠ b ∧ some g ≠ v.ownBlock) :
    Calls Tryz.prog 127 #[.pointer (some ⟨b, 0, none⟩), .slice sp m cap] w fun e w' => e = .returned (.tuple #[]) ∧ Laid w w' b v ws (varOf m (vs m - 1) ++ xs) := by
  have hm64 : m < 18446744073709551616 := by omega
  have HV := hide1 (var_lays w b v ws m hw hm64 (by omega))
  have hvl : (varOf m (vs m - 1)).length ≤ 10 := by rw [varOf_length]; have := vs_bounds m hm64; omega
  have HR : Hid (∀ w1, Laid w w1 b v ws (varOf m (vs m - 1)) → Calls Tryz.prog 146 #[.pointer (some ⟨b, 0, none⟩), .slice sp m cap] w1 fun e w' => e = .returned (.tuple #[]) ∧ Laid w w' b v ws (varOf m (vs m - 1) ++ xs)) := by
    intro w1 hl
    obtain ⟨v1, h1, h2, h3⟩ := hl
    have hB : Bytes w1 sp xs := by
      refine ⟨hx.small, ?_⟩
      rcases hx.lie with h0 | ⟨g, o, e, hg, hc⟩
      · exact Or.inl h0
      · by_cases h0 : xs = []
        · exact Or.inl h0
        · have hpos : 0 < m := by rw [← hm]; exact List.length_pos_iff.2 h0
          obtain ⟨n1, n2⟩ := hsep g o e hpos
          exact Or.inr ⟨g, o, e, Nat.lt_of_lt_of_le hg h3.size, fun j hj => by rw [World.cell?_of_block (w := w) (h3.block g hg n1 n2)]; exact hc j hj⟩
    refine (wraw_any w1 b v1 (ws ++ varOf m (vs m - 1)) sp m cap xs h1 hm hB (by rw [List.length_append]; omega)).mono ?_
    rintro e w2 ⟨rfl, hl2⟩
    refine ⟨rfl, ?_⟩
    obtain ⟨v2, k1, k2, k3⟩ := hl2
    refine ⟨v2, by rw [← List.append_assoc]; exact k1, ?_, h3.trans k3 h2⟩
    rcases k2 with e | ⟨g, e, hg⟩
    · rw [e]; exact h2
    · exact Or.inr ⟨g, e, Nat.le_trans h3.size hg⟩
  clear hw hx hsep hm
  generalize varOf m (vs m - 1) = A at *
  go_enter Tryz.func127, Tryz.ntmps127
  go_wp2_with fail
  refine HV.out.mono ?_
  rintro e w1 ⟨rfl, hl1⟩
  have HL1 := hide1 hl1
  clear hl1
  go_wp2_with fail
  refine (HR.out _ HL1.out).mono ?_
  rintro e w2 ⟨rfl, hl2⟩
  have HL2 := hide1 hl2
  clear hl2
  go_wp2
  go_end0
  exact ⟨rfl, HL2.out⟩
end Go.Proofs.YtjcdnclfakmbpaaGreatDoor.C
namespace Go.Proofs.YtjcdnclfakmbpaaGreatDoor.C
open Go.RowKit
set_option maxRecDepth 100000 in
set_option maxHeartbeats 400000 in
theorem wu8_any (w : World) (b : Nat) (v : Value) (ws : List Nat) (n : Nat) (hw : Wr w b v ws) (hn : n < 256) (hlen : ws.length + 8 ≤ 140737488355328) :
    Calls Tryz.prog 125 #[.pointer (some ⟨b, 0, none⟩), .int .u8 n] w fun e w' => e = .returned (.tuple #[]) ∧ Laid w w' b v ws (beOf n 1) := by
  have HC := hide1 (fixed_lays w b v ws n 0 hw (by omega) hlen)
  rw [show width 0 = 1 by simp [width]] at HC
  clear hw
  generalize beOf n 1 = A at *
  go_enter Tryz.func125, Tryz.ntmps125
  go_wp2_with fail
  refine HC.out.mono ?_
  rintro e w1 ⟨rfl, hl1⟩
  have HL1 := hide1 hl1
  clear hl1
  go_wp2
  go_end0
  exact ⟨rfl, HL1.out⟩
set_option maxRecDepth 100000 in
set_option maxHeartbeats 400000 in
theorem wu32_any (w : World) (b : Nat) (v : Value) (ws : List Nat) (n : Nat) (hw : Wr w b v ws) (hn : n < 4294967296) (hlen : ws.length + 8 ≤ 140737488355328) :
    Calls Tryz.prog 128 #[.pointer (some ⟨b, 0, none⟩), .int .u32 n] w fun e w' => e = .returned (.tuple #[]) ∧ Laid w w' b v ws (beOf n 4) := by
  have HC := hide1 (fixed_lays w b v ws n 1 hw (by omega) hlen)
  rw [show width 1 = 4 by simp [width]] at HC
  clear hw
  generalize beOf n 4 = A at *
  go_enter Tryz.func128, Tryz.ntmps128
  go_wp2_with fail
  refine HC.out.mono ?_
  rintro e w1 ⟨rfl, hl1⟩
  have HL1 := hide1 hl1
  clear hl1
  go_wp2
  go_end0
  exact ⟨rfl, HL1.out⟩
set_option maxRecDepth 100000 in
set_option maxHeartbeats 400000 in
theorem new_any (w : World) :
    Calls Tryz.prog 124 #[] w fun e w' => e = .returned (.pointer (some ⟨w.heap.size, 0, none⟩)) ∧ w' = w.alloc (.cells #[.slice none 0 0] 228) := by
  go_enter Tryz.func124, Tryz.ntmps124
  go_wp2
  go_ret
  exact ⟨rfl, rfl⟩
theorem new_wr (w : World) : Wr (w.alloc (.cells #[.slice none 0 0] 228)) w.heap.size (.slice none 0 0) [] :=
  ⟨heap_alloc_new _ _, ⟨rfl, Or.inl ⟨rfl, rfl⟩⟩, by simp⟩
theorem Wr.bytes {w : World} {b : Nat} {ws : List Nat} {a : Option Addr} {n c : Nat} (hw : Wr w b (.slice a n c) ws) : Bytes w a ws := by
  refine ⟨hw.small, ?_⟩
  rcases hw.own.2 with ⟨h1, h2⟩ | ⟨g, cap, cur, h1, _, hg, h2, h3, h4, h5⟩
  · exact Or.inl (List.eq_nil_of_length_eq_zero h2)
  · simp at h1
    refine Or.inr ⟨g, 0, h1.1, (Array.getElem?_eq_some_iff.1 hg).1, fun j hj => ?_⟩
    simp only [World.cell?, hg]
    have e : (cur.toList.take (ws.length * 1))[j]? = (vals ws)[j]? := by rw [h5]
    rw [List.getElem?_take] at e
    simp only [Nat.mul_one, if_pos hj] at e
    simp only [Nat.zero_add]
    rw [← Array.getElem?_toList]
    simp [e, vals, List.getD, List.getElem?_eq_getElem hj]
set_option maxRecDepth 100000 in
set_option maxHeartbeats 400000 in
theorem out_any (w : World) (b : Nat) (v : Value) (ws : List Nat) (hw : Wr w b v ws) (hlen : ws.length ≤ 140737488355328) :
    Calls Tryz.prog 129 #[.pointer (some ⟨b, 0, none⟩)] w fun e w' => e = .returned (.slice (some ⟨w.heap.size, 0, none⟩) ws.length ws.length) ∧ w' = w.alloc (.cells (vals ws).toArray 5) := by
  obtain ⟨a, c, rfl, hc⟩ := hw.form
  obtain ⟨q0, qf⟩ := blk1 hw.blk
  have HC := hide1 (copied_bytes w a ws.length c ws rfl hlen hw.bytes)
  clear hw
  generalize vals ws = V at *
  generalize ws.length = n at *
  go_enter Tryz.func129, Tryz.ntmps129
  go_wp2_with fail
  refine HC.out.mono ?_
  rintro e w1 ⟨rfl, rfl⟩
  go_wp2
  go_ret
  exact ⟨rfl, rfl⟩
end Go.Proofs.YtjcdnclfakmbpaaGreatDoor.C
namespace Go.Proofs.YtjcdnclfakmbpaaGreatDoor.C
open Go.RowKit
theorem beOf_snoc (N y s : Nat) (hy : y < 256) : beOf (N * 256 + y) (s + 1) = beOf N s ++ [y] := by
  unfold beOf
  rw [List.range_succ, List.map_append]
  congr 1
  · refine List.map_congr_left fun i hi => ?_
    have hi := List.mem_range.1 hi
    have e : s + 1 - 1 - i = (s - 1 - i) + 1 := by omega
    rw [e, Nat.pow_succ', ← Nat.div_div_eq_div_mul, show (N * 256 + y) / 256 = N by omega]
  · simp; omega
theorem varOf_cons (V k : Nat) : varOf V (k + 1) = (V % 128 + 128) :: varOf (V / 128) k := by
  unfold varOf
  rw [List.range_succ_eq_map, List.map_cons, List.map_map]
  simp only [Nat.pow_zero, Nat.div_one, List.cons_append]
  congr 2
  · refine List.map_congr_left fun i _ => ?_
    simp only [Function.comp, Nat.succ_eq_add_one]
    rw [Nat.pow_succ', ← Nat.div_div_eq_div_mul]
  · rw [Nat.pow_succ', ← Nat.div_div_eq_div_mul]
theorem pv_back (most : Nat) : ∀ (k V i acc : Nat) (rest : List Nat), V < 128 ^ (k + 1) → ((i = 0 ∧ k = 0) ∨ 128 ^ k ≤ V) → acc + 128 ^ i * V ≤ most → i + k ≤ 9 → (i + k = 9 → V / 128 ^ k ≤ 1) →
    pVar most (varOf V k ++ rest) i acc = ⟨acc + 128 ^ i * V, 0, 0, i + k + 1, 0⟩ := by
  intro k
  induction k with
  | zero =>
    intro V i acc rest hV hs hm hi h9
    have e : varOf V 0 ++ rest = V :: rest := by simp [varOf]
    rw [e]
    have h1 : ¬ (i = 9 ∧ 1 < V) := by
      rintro ⟨rfl, h⟩
      have := h9 (by omega)
      simp at this; omega
    have h3 : ¬ (V = 0 ∧ 0 < i) := by
      rintro ⟨rfl, h⟩
      rcases hs with ⟨h', _⟩ | h'
      · omega
      · simp at h'
    rw [pVar, if_neg h1, if_neg (by omega), if_neg h3, if_neg (by rw [Nat.mul_comm]; omega), Nat.mul_comm V]
  | succ k ih =>
    intro V i acc rest hV hs hm hi h9
    rw [varOf_cons, List.cons_append]
    have h1 : ¬ (i = 9 ∧ 1 < V % 128 + 128) := by omega
    rw [pVar, if_neg h1, if_pos (by omega), Nat.add_sub_cancel]
    have hV' : V / 128 < 128 ^ (k + 1) := by rw [Nat.div_lt_iff_lt_mul (by omega)]; rw [Nat.pow_succ] at hV; omega
    have hk : 128 ^ k ≤ V / 128 := by
      rcases hs with ⟨_, h⟩ | h
      · omega
      · rw [Nat.le_div_iff_mul_le (by omega)]; rw [Nat.pow_succ] at h; exact h
    have hsum : acc + V % 128 * 128 ^ i + 128 ^ (i + 1) * (V / 128) = acc + 128 ^ i * V := by
      have : 128 ^ i * V = 128 ^ i * (V % 128 + 128 * (V / 128)) := by congr 1; omega
      rw [this, Nat.mul_add, Nat.pow_succ, Nat.mul_comm (V % 128), Nat.mul_assoc]; omega
    have h9' : i + 1 + k = 9 → V / 128 / 128 ^ k ≤ 1 := by
      intro h
      have := h9 (by omega)
      rw [Nat.div_div_eq_div_mul, ← Nat.pow_succ']; exact this
    rw [ih (V / 128) (i + 1) (acc + V % 128 * 128 ^ i) rest hV' (Or.inr hk) (by rw [hsum]; exact hm) (by omega) h9', hsum]
    congr 1
    omega
theorem vs_nine (n : Nat) (hn : n < 18446744073709551616) (_h : vs n - 1 = 9) : n / 128 ^ 9 ≤ 1 := by
  rw [show (128 : Nat) ^ 9 = 9223372036854775808 from rfl]; omega
theorem var_ok (n most : Nat) (rest : List Nat) (hn : n < 18446744073709551616) (hm : n ≤ most) : pVar most (varOf n (vs n - 1) ++ rest) 0 0 = ⟨n, 0, 0, vs n, 0⟩ := by
  have hb := vs_bounds n hn
  have hf := vs_fits n hn
  have e : vs n - 1 + 1 = vs n := by omega
  have := pv_back most (vs n - 1) n 0 0 rest (by rw [e]; exact hf) (by
    by_cases h : vs n - 1 = 0
    · exact Or.inl ⟨rfl, h⟩
    · exact Or.inr (vs_least n hn (by omega))) (by simpa using hm) (by omega) (fun h => by
      have h9 : vs n - 1 = 9 := by omega
      rw [h9]; exact vs_nine n hn h9)
  rw [this]
  simp; omega
theorem be_beOf (n : Nat) : ∀ s, be (beOf n s) = n % 256 ^ s := by
  intro s
  induction s generalizing n with
  | zero => simp [beOf, be, Nat.mod_one]
  | succ s ih =>
    have h := beOf_snoc (n / 256) (n % 256) s (Nat.mod_lt _ (by omega))
    rw [show n / 256 * 256 + n % 256 = n by omega] at h
    rw [h, be_snoc, ih, Nat.pow_succ']
    have := Nat.mod_mul (x := n) (a := 256) (b := 256 ^ s)
    omega
theorem rn_of (k : Int) (bound : Nat) (xs : List Nat) (a : Nat) (it : It) (h : pFind k bound (xs.drop a) = it) (hf : it.fault = 0) : rNext k bound xs a 0 = (it, a + it.size, 0) := by
  rw [rNext, if_neg (by omega), h, if_neg (by omega)]
theorem fx_ok (k : Int) (s n : Nat) (ys rest : List Nat) (hk : width k = s) (h3 : k ≠ 3) (h4 : k ≠ 4) (h5 : k ≠ 5) (hy : ys = beOf n s ++ rest) (hn : n < 256 ^ s) : pFind k 0 ys = ⟨n, 0, 0, s, 0⟩ := by
  simp only [pFind, if_neg h3, if_neg h4, if_neg h5, hk, pFixed]
  have hl : (beOf n s).length = s := by simp [beOf]
  rw [if_neg (by rw [hy, List.length_append, hl]; omega), hy, List.take_append_of_le_length (by omega), List.take_of_length_le (by omega), be_beOf, Nat.mod_eq_of_lt hn]
theorem by_most (most : Nat) (ys bs rest : List Nat) (hb : bs.length < 18446744073709551616) (hm : bs.length ≤ most) (hy : ys = (varOf bs.length (vs bs.length - 1) ++ bs) ++ rest) : pFind 4 most ys = ⟨0, vs bs.length, bs.length, vs bs.length + bs.length, 0⟩ := by
  simp only [pFind, show ¬ (4 : Int) = 3 by omega, if_false, if_true]
  rw [List.append_assoc] at hy
  have e := var_ok bs.length most (bs ++ rest) hb hm
  rw [← hy] at e
  have hv := vs_bounds bs.length hb
  have hl : ys.length = vs bs.length + bs.length + rest.length := by rw [hy]; simp [varOf_length]; omega
  unfold pBytes
  rw [e]
  simp only [ne_eq, not_true_eq_false, if_false]
  rw [if_neg (by rw [hl]; omega)]
end Go.Proofs.YtjcdnclfakmbpaaGreatDoor.C
