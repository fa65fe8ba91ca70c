import Derived.Deep.RegionLaw
import Derived.RegionTactic
import Derived.BigRegion
import Derived.Test.YtjcdnclfakmbpaaGreatDoorCWriter
import Derived.Test.YtjcdnclfakmbpaaGreatDoorCFind4
namespace Go.Proofs.YtjcdnclfakmbpaaGreatDoor.C
open Go.RowKit
attribute [local go_sem ↓] Go.wp_at_zero Go.wp_at_succ
def beOf (n size : Nat) : List Nat := (List.range size).map fun i => n / 256 ^ (size - 1 - i) % 256
theorem be_take (n size j : Nat) (h : j < size) : (beOf n size).take (j + 1) = (beOf n size).take j ++ [n / 256 ^ (size - 1 - j) % 256] := by
  rw [List.take_succ_eq_append_getElem (by simpa [beOf] using h)]
  simp [beOf]
theorem shr_byte (n size j : Nat) (hs : size ≤ 8) (hj : j < size) : Op.shift .shr .u64 (n : Int) .i64 (IntKind.i64.wrap (8 * IntKind.i64.wrap (IntKind.i64.wrap ((size : Int) - 1) - (j : Int)))) = pure (.int .u64 ((n / 256 ^ (size - 1 - j) : Nat) : Int)) := by
  have e : IntKind.i64.wrap (8 * IntKind.i64.wrap (IntKind.i64.wrap ((size : Int) - 1) - (j : Int))) = ((8 * (size - 1 - j) : Nat) : Int) := by
    simp only [IntKind.wrap_i64]; omega
  rw [e, shift_shr .u64 .i64 (n : Int) ((8 * (size - 1 - j) : Nat) : Int) (by omega) (by simp [IntKind.bits]; omega)]
  congr 2
  rw [Int.toNat_natCast, show (256 : Nat) ^ (size - 1 - j) = 2 ^ (8 * (size - 1 - j)) by rw [Nat.pow_mul]]
  simp
structure Half (w wn : World) (b : Nat) (v vr : Value) (ws new : List Nat) : Prop where
  wr : Wr wn b vr (ws ++ new)
  at_ : vr.ownBlock = v.ownBlock ∨ ∃ g, vr.ownBlock = some g ∧ w.heap.size ≤ g
  wrote : Wrote b v.ownBlock w wn
theorem Half.step {w wr w0 w1 : World} {b : Nat} {v vr : Value} {ws new : List Nat} {x : Nat} {g cap : Nat} (h : Half w wr b v vr ws new) (hx : x < 256) (h0 : Below wr.heap.size wr w0)
    (hown : w1.ownsRow 0 5 1 (.slice (some ⟨g, 0, none⟩) ((ws ++ new).length + 1) cap) ((ws ++ new).length + 1) (vals (ws ++ new) ++ [.int .u8 (x : Int)])) (hg : w0.grownBy w1 vr.ownBlock) (hat : vr.ownBlock = some g ∨ wr.heap.size ≤ g) :
    Half w (w1.setCell ⟨b, 0, none⟩ (.slice (some ⟨g, 0, none⟩) ((ws ++ new).length + 1) cap)) b v (.slice (some ⟨g, 0, none⟩) ((ws ++ new).length + 1) cap) ws (new ++ [x]) := by
  obtain ⟨v', h1, h2, h3⟩ := laid_store (new := [x]) h.wr (by simpa using hx) h0 hown hg hat
  have hv : v' = .slice (some ⟨g, 0, none⟩) ((ws ++ new).length + 1) cap := by
    have e1 := h1.blk
    have hb1 : w1.heap[b]? = some (.cells #[vr] 228 (0, 0)) := by
      rw [hg.block b (Nat.lt_of_lt_of_le h.wr.lt h0.size) h.wr.apart, h0.block b h.wr.lt]; exact h.wr.blk
    rw [setCell_eq_setRow w1 b 0 _ _ _ _ hb1, setRow_heap w1 b _ _ _ _ hb1] at e1
    simpa using e1.symm
  subst hv
  refine ⟨by rw [← List.append_assoc]; exact h1, ?_, h.wrote.trans h3 h.at_⟩
  rcases h2 with e | ⟨g', e, hg'⟩
  · rw [e]; exact h.at_
  · exact Or.inr ⟨g', e, Nat.le_trans h.wrote.size hg'⟩
set_option maxRecDepth 100000 in
set_option maxHeartbeats 1000000 in
theorem fixed_lays (w : World) (b : Nat) (v : Value) (ws : List Nat) (n : Nat) (k : Int) (hw : Wr w b v ws) (_hn : n < 18446744073709551616) (hlen : ws.length + 8 ≤ 140737488355328) :
    Calls Tryz.prog 144 #[.pointer (some ⟨b, 0, none⟩), .int .u64 n, .int .i64 k] w fun e w' => e = .returned (.tuple #[]) ∧ Laid w w' b v ws (beOf n (width k)) := by
  obtain ⟨i0, hi, hz0, hz1, hz2⟩ := info_parts Tryz.info5'
  have hs8 := width_le k
  have hs0 := width_pos k
  have HS : Hid (Half w w b v v ws []) := ⟨by simpa using hw, Or.inl rfl, Wrote.refl _ _ _⟩
  have HWd : Hid (∀ w, Calls Tryz.prog 151 #[.int .i64 k] w fun e w' => e = .returned (.int .i64 (width k : Nat)) ∧ w' = w) := fun w => width_any w k
  clear hw
  generalize width k = size at *
  go_enter Tryz.func144, Tryz.ntmps144
  go_wp2_with fail
  refine (HWd.out _).mono ?_
  rintro e w' ⟨rfl, rfl⟩
  go_wp2
  go_loopw [11] (fun i wr => ∃ (j : Nat) (vr : Value), j ≤ size ∧ i = .int .i64 j ∧ Hid (Half w' wr b v vr ws ((beOf n size).take j))) (fun i _ => size - (intOf i).toNat)
  case atStart => exact ⟨0, v, Nat.zero_le _, rfl, by simpa using HS⟩
  case round =>
    obtain ⟨j, vr, hj, rfl, HH⟩ := hrel
    clear HS
    by_cases hlt : j < size
    · obtain ⟨a, c, hv, hc⟩ := HH.out.wr.form
      obtain ⟨q0, qf⟩ := blk1 HH.out.wr.blk
      have hblt := HH.out.wr.lt
      have HB : Hid (some b ≠ vr.ownBlock) := HH.out.wr.apart
      have HO : Hid (wr.ownsRow 0 5 1 vr (ws ++ (beOf n size).take j).length (vals (ws ++ (beOf n size).take j))) := HH.out.wr.own
      have hLL : (ws ++ (beOf n size).take j).length ≤ ws.length + 7 := by simp [beOf]; omega
      have hsh : Op.shift .shr .u64 (n : Int) .i64 (IntKind.i64.wrap (8 * IntKind.i64.wrap (IntKind.i64.wrap ((size : Int) - 1) - (j : Int)))) = pure (.int .u64 ((n / 256 ^ (size - 1 - j) : Nat) : Int)) := shr_byte n size j hs8 hlt
      have hX1 : ((n / 256 ^ (size - 1 - j) : Nat) : Int) % 256 = ((n / 256 ^ (size - 1 - j) % 256 : Nat) : Int) := by omega
      have hX2 : IntKind.u8.wrap ((n / 256 ^ (size - 1 - j) : Nat) : Int) = ((n / 256 ^ (size - 1 - j) % 256 : Nat) : Int) := by rw [IntKind.wrap_u8']; omega
      have hx : n / 256 ^ (size - 1 - j) % 256 < 256 := Nat.mod_lt _ (by omega)
      have HT : Hid ((beOf n size).take (j + 1) = (beOf n size).take j ++ [n / 256 ^ (size - 1 - j) % 256]) := be_take n size j hlt
      generalize n / 256 ^ (size - 1 - j) % 256 = x at *
      generalize n / 256 ^ (size - 1 - j) = Y at *
      subst hv
      generalize hLe : (ws ++ (beOf n size).take j).length = L at *
      have HLe := hLe
      have HLE : Hid ((ws ++ (beOf n size).take j).length = L) := hLe
      clear hLe HLe
      go_wp2
      go_region_law ((refine step_append_lies _ (by rfl) (.tmp 18) (.tmp 27) 31 (by rfl) 0 5 i0 (.int .u8 0) 1 1 Tryz.underlying31 hi hz0 hz1 hz2 rfl (by omega) (.slice a L c) L (vals (ws ++ (beOf n size).take j)) (by rfl) ((HO.out.alloc _).drew) ⟨wr.heap.size, 0, none⟩ 1 1 [.int .u8 (x : Int)] (by rfl) rfl (World.news_of_block (heap_alloc_new wr (.cells #[.int .u8 (x : Int)] 5))) (by simp [Value.oneCell']) (by omega) (by unfold maxLen; omega) (by omega) (by omega) _ rfl ?_; intro g cap w1 hown hgrow hat hltg; have r0 := (hgrow.cell_far ⟨b, 0, none⟩ (by simp; omega) HB.out); have rf := fun o => (hgrow.frozen_far ⟨b, o, none⟩ (by simp; omega) HB.out)))
      all_goals go_wp2
      all_goals
        have hL := HLE.out
        subst hL
        have HF := HH.out.step hx (((Below.refl _ _).alloc (Nat.le_refl _) _).drew) hown hgrow (by rcases hat with h | h; exact Or.inl h; exact Or.inr (by simp at h; omega))
        rw [← HT.out] at HF
        go_roundw
        case rel => exact ⟨j + 1, _, by omega, by go_num, HF⟩
        case measure => simp [intOf]; omega
    · obtain rfl : j = size := by omega
      go_wp2
      go_end0
      have HF := HH.out
      rw [List.take_of_length_le (by simp [beOf])] at HF
      exact ⟨rfl, vr, HF.wr, HF.at_, HF.wrote⟩
end Go.Proofs.YtjcdnclfakmbpaaGreatDoor.C
