import Derived.Test.YtfdclebajninfaaGreatDoorFileC
import Derived.Deep.RegionLaw
namespace Go.Proofs.YtfdclebajninfaaGreatDoor
open Go.RowKit

set_option maxRecDepth 100000 in
set_option maxHeartbeats 1000000 in
theorem cut_less (w : World) (b : Nat) (sv uv : Value) (f : Fil) (h : Flw w b sv uv f) (n : Nat) (hlt : n < f.all.length) (hn2 : f.all.length < 2147483648) (hu : f.units.length < 1099511627776) :
    Calls Tryz.prog 119 #[.pointer (some ⟨b, 0, none⟩), .int .i64 (n : Int)] w fun e w' => ∃ uv', e = .returned (.tuple #[]) ∧ Flw w' b sv uv' (f.cut n) ∧ Wr2 b uv.ownBlock w w' ∧ Lies w uv uv' := by
  obtain ⟨i0, hi, hz0, hz1, hz2⟩ := info_parts Tryz.infoUn
  have HFl := hide h
  obtain ⟨q0, q1, q2, qf⟩ := blk3 h.blk
  have hbl := lt_of_block h.blk
  obtain ⟨N, hN⟩ : ∃ N, f.all.length = N := ⟨_, rfl⟩
  obtain ⟨U, hU⟩ : ∃ U, f.units.length = U := ⟨_, rfl⟩
  have HA := hide hN
  have HU := hide hU
  have HO : Hid (w.ownsRow 0 146 1 uv U (uvals f.units)) := by rw [← hU]; exact h.unit
  have HB : Hid (w.heap[b]? = some (.cells #[sv, uv, .int .i64 (N : Int)] 87 (0, 0))) := by rw [← hN]; exact h.blk
  rw [hN] at q2 hlt hn2
  rw [hU] at hu
  have hlt' : (n : Int) < (N : Int) := by omega
  clear h hN hU
  obtain ⟨a, c, rfl, _, _⟩ := owns_form HO.out
  have HNe : Hid (some b ≠ (Value.slice a U c).ownBlock) := owns_ne HO.out HB.out (by decide)
  have HK := hide (fun w => cutTo_any w n (by omega))
  obtain ⟨z, hz⟩ : ∃ z, -1 - (n : Int) = z := ⟨_, rfl⟩
  rw [hz] at HK
  have HZ := hide hz
  clear hz
  go_enter Tryz.func119, Tryz.ntmps119
  go_wp2
  go_region_law (first | (refine step_append_lies _ (by rfl) (.tmp 14) (.tmp 17) 85 (by rfl) 0 146 i0 (.int .i32 0) 1 4 Tryz.underlying85 hi hz0 hz1 hz2 rfl (by omega) (.slice a U c) U (uvals f.units) (by rfl) ((HO.out.alloc _).drew) ⟨w.heap.size, 0, none⟩ 1 1 [.int .i32 z] (by rfl) rfl (World.news_of_block (heap_alloc_new w (.cells #[.int .i32 z] 146))) (by simp [Value.oneCell']) (by omega) (by unfold maxLen; omega) (by omega) (by omega) _ rfl ?_; intro g' cap' w4 hown4 hgrow4 hat4 hltg; have HB4 : Hid (w4.heap[b]? = some (.cells #[sv, .slice a U c, .int .i64 (N : Int)] 87 (0, 0))) := (hgrow4.block b (by simp; omega) HNe.out).trans ((Below.heap_alloc _ _ _ hbl).trans HB.out); obtain ⟨z0, z1, z2, zf⟩ := blk3 HB4.out; have hbl4 := lt_of_block HB4.out) | (go_simp; go_at_call 140; refine (HK.out _).mono ?_; rintro e w2 ⟨rfl, rfl⟩))
  all_goals go_wp2
  all_goals
    go_end0
    have HW4 : Hid (Wr2 b (Value.slice a U c).ownBlock w w4) := (((Wr2.refl b _ w).below ((Below.refl _ _).alloc (Nat.le_refl _) (.cells #[.int .i32 z] 146))).drew).grown0 (Lies.refl w (.slice a U c)) rfl hgrow4 (Or.inl rfl)
    have HL4 : Hid (Lies w (.slice a U c) (.slice (some ⟨g', 0, none⟩) (U + 1) cap')) := by
      rcases hat4 with h | h
      · exact Or.inl h.symm
      · exact Or.inr ⟨g', rfl, by simp at h; omega⟩
    have HNe4 : Hid (some b ≠ (Value.slice (some ⟨g', 0, none⟩) (U + 1) cap').ownBlock) := owns_ne hown4 HB4.out (by decide)
    have ec : f.cut n = ⟨f.safe, f.units ++ [z]⟩ := by unfold Fil.cut; rw [if_pos (by rw [HA.out]; exact hlt), HZ.out]
    have el : (f.cut n).all.length = n := by rw [Fil.all_cut, List.length_take, HA.out]; omega
    refine ⟨.slice (some ⟨g', 0, none⟩) (U + 1) cap', rfl, ⟨?_, ?_, ?_, HFl.out.ok.cut n (by omega)⟩, (HW4.out.set _ _).set _ _, HL4.out⟩
    · rw [block_set (block_set HB4.out _), el]; rfl
    · rw [ec]
      refine owns_set (owns_set (owns_same HFl.out.safe (fun g hg => HW4.out.block g (rk_lt HFl.out.safe hg) ?_ (owns_apart HFl.out.safe HFl.out.unit (by decide) g hg))) (owns_ne HFl.out.safe HFl.out.blk (by decide))) (owns_ne HFl.out.safe HFl.out.blk (by decide))
      rintro rfl
      exact owns_ne HFl.out.safe HFl.out.blk (by decide) hg.symm
    · rw [ec]
      have e2 : (f.units ++ [z]).length = U + 1 := by simp [HU.out]
      rw [show (Fil.mk f.safe (f.units ++ [z])).units.length = U + 1 from e2]
      exact owns_set (owns_set (by show World.ownsRow _ _ _ _ _ _ (uvals (f.units ++ [z])); rw [uvals_app]; exact hown4) HNe4.out) HNe4.out

end Go.Proofs.YtfdclebajninfaaGreatDoor
namespace Go.Proofs.YtfdclebajninfaaGreatDoor
open Go.RowKit

set_option maxRecDepth 100000 in
set_option maxHeartbeats 1000000 in
theorem cut_any (w : World) (b : Nat) (sv uv : Value) (f : Fil) (h : Flw w b sv uv f) (n : Nat) (hle : n ≤ f.all.length) (hn2 : f.all.length < 2147483648) (hu : f.units.length < 1099511627776) :
    Calls Tryz.prog 119 #[.pointer (some ⟨b, 0, none⟩), .int .i64 (n : Int)] w fun e w' => ∃ uv', e = .returned (.tuple #[]) ∧ Flw w' b sv uv' (f.cut n) ∧ Wr2 b uv.ownBlock w w' ∧ Lies w uv uv' := by
  by_cases hlt : n < f.all.length
  · exact cut_less w b sv uv f h n hlt hn2 hu
  · have HFl := hide h
    obtain ⟨q0, q1, q2, qf⟩ := blk3 h.blk
    have e : f.all.length = n := by omega
    have ec : f.cut n = f := by unfold Fil.cut; rw [if_neg hlt]
    rw [e] at q2
    clear h
    rw [ec]
    clear ec e hle hlt
    go_enter Tryz.func119, Tryz.ntmps119
    go_wp2
    go_end0
    exact ⟨uv, rfl, HFl.out, Wr2.refl _ _ _, Lies.refl _ _⟩

theorem owns_drew {w : World} {B : Nat} {e : TypeId} {s n : Nat} {v : Value} {xs : List Value} (h : w.ownsRow B e s v n xs) : w.drew.ownsRow B e s v n xs := h
theorem Us.drew {w : World} {up : Option Addr} {us : List Int} (h : Us w up us) : Us w.drew up us := ⟨h.lie⟩

set_option maxRecDepth 100000 in
set_option maxHeartbeats 1000000 in
theorem settle_any (w : World) (b : Nat) (sv uv : Value) (f : Fil) (h : Flw w b sv uv f) (hn : f.safe.length + f.units.length ≤ 1099511627776) :
    Calls Tryz.prog 126 #[.pointer (some ⟨b, 0, none⟩)] w fun e w' => ∃ sv', e = .returned (.tuple #[]) ∧ Flw w' b sv' (.slice none 0 0) f.settled ∧ Wr2 b sv.ownBlock w w' ∧ Lies w sv sv' := by
  have HFl := hide h
  obtain ⟨q0, q1, q2, qf⟩ := blk3 h.blk
  have hbl := lt_of_block h.blk
  obtain ⟨a, c, hv, _, _⟩ := owns_form h.unit
  subst hv
  obtain ⟨N, hN⟩ : ∃ N, f.all.length = N := ⟨_, rfl⟩
  have HA := hide hN
  have HB : Hid (w.heap[b]? = some (.cells #[sv, .slice a f.units.length c, .int .i64 (N : Int)] 87 (0, 0))) := by rw [← hN]; exact h.blk
  have HNe : Hid (some b ≠ sv.ownBlock) := owns_ne h.safe h.blk (by decide)
  have HC := hide (carry_any w.drew sv f.safe.length f.safe a f.units.length c f.units rfl h.ok.small (owns_drew h.safe) (owns_us h.unit).drew h.ok.units (fun g o e => by
    have := owns_apart h.unit h.safe (by decide) g (by rw [e]; rfl)
    exact this) hn)
  obtain ⟨U, hU⟩ : ∃ U, f.units.length = U := ⟨_, rfl⟩
  rw [hU] at q1 HC HB
  rw [hN] at q2
  clear h hN hU
  obtain ⟨a0, c0, hs0, _, _⟩ := owns_form HFl.out.safe
  subst hs0
  generalize f.safe.length = L at *
  go_enter Tryz.func126, Tryz.ntmps126
  go_wp2
  go_region_law (first | (go_simp; go_at_call 55; refine HC.out.mono ?_; rintro e w2 ⟨sv2, rfl, hown2, hgrow2, hl2⟩; have HB2 : Hid (w2.heap[b]? = some (.cells #[.slice a0 L c0, .slice a U c, .int .i64 (N : Int)] 87 (0, 0))) := (hgrow2.block b hbl HNe.out).trans HB.out; obtain ⟨z0, z1, z2, zf⟩ := blk3 HB2.out; have hbl2 := lt_of_block HB2.out; obtain ⟨a2, c2, hs2, _, _⟩ := owns_form hown2; subst hs2; have HO2 := hide hown2; have HG2 := hide hgrow2; have HL2 := hide hl2; have HNe2 : Hid (some b ≠ Value.ownBlock _) := (owns_ne hown2 HB2.out (by decide)); clear hown2 hgrow2 hl2))
  all_goals go_wp2
  all_goals
    go_end0
    have HW : Hid (Wr2 b (Value.slice a0 L c0).ownBlock w w2) := ((Wr2.refl b _ w).drew).grown HG2.out (fun j hj => Or.inr (Or.inl hj))
    refine ⟨_, rfl, ⟨?_, ?_, ?_, HFl.out.ok.settled⟩, (HW.out.set _ _).set _ _, HL2.out⟩
    · rw [block_set (block_set HB2.out _), Fil.all_settled, HA.out]; rfl
    · exact owns_set (owns_set HO2.out HNe2.out) HNe2.out
    · exact ⟨rfl, Or.inl ⟨rfl, rfl⟩⟩

set_option maxRecDepth 100000 in
set_option maxHeartbeats 1000000 in
theorem left_any (w : World) (b : Nat) (sv uv : Value) (f : Fil) (h : Flw w b sv uv f) (n : Nat) (hle : n ≤ f.units.length) (hn : f.safe.length + f.units.length ≤ 1099511627776) :
    Calls Tryz.prog 35 #[.pointer (some ⟨b, 0, none⟩), .int .i64 (n : Int)] w fun e w' => ∃ a c, e = .returned (.slice a (f.left n).length c) ∧ w'.ownsRow w.heap.size 5 1 (.slice a (f.left n).length c) (f.left n).length (vals (f.left n)) ∧ Below w.heap.size w w' := by
  have HFl := hide h
  obtain ⟨q0, q1, q2, qf⟩ := blk3 h.blk
  have hbl := lt_of_block h.blk
  obtain ⟨a, c, hv, hc1, hc2⟩ := owns_form h.unit
  subst hv
  obtain ⟨a0, c0, hs0, hc3, hc4⟩ := owns_form h.safe
  subst hs0
  have hnc : (n : Int) ≤ (c : Int) := by omega
  have hn0 : (0 : Int) ≤ (n : Int) := by omega
  have HC1 := hide (copied_bytes w.drew a0 f.safe.length c0 f.safe rfl (by omega) (owns_bytes (owns_drew h.safe) h.ok.small))
  have HB2 : Hid (Below w.heap.size w (w.drew.alloc (.cells (vals f.safe).toArray 5))) := ((Below.refl _ w).drew).alloc (Nat.le_refl _) _
  have HC2 := hide (carry_any (w.drew.alloc (.cells (vals f.safe).toArray 5)) (.slice (some ⟨w.heap.size, 0, none⟩) f.safe.length f.safe.length) f.safe.length f.safe a n c (f.units.take n) (by rw [List.length_take]; omega) h.ok.small
    ⟨by rw [vals_len]; omega, Or.inr ⟨w.heap.size, _, _, rfl, Nat.zero_le _, heap_alloc_new w.drew _, Nat.le_refl _, by unfold maxLen; omega, by simp [vals_len], by rw [Nat.mul_one]; exact List.take_of_length_le (by simp [vals_len])⟩⟩
    ((owns_us_take h.unit hle).drew.grown (World.grownBy_alloc w.drew _ none) (fun _ _ _ => by simp)) (okU_take h.ok.units n)
    (fun g o e => by
      subst e
      have := rk_lt h.unit (g := g) rfl
      intro e2
      simp [Value.ownBlock] at e2
      omega) (by omega))
  have HE : Hid (carryL f.safe (f.units.take n) = f.left n) := rfl
  rw [HE.out] at HC2
  generalize hw2 : w.drew.alloc (.cells (vals f.safe).toArray 5) = w2 at *
  have HBk : Hid (w2.heap[b]? = some (.cells #[.slice a0 f.safe.length c0, .slice a f.units.length c, .int .i64 (f.all.length : Int)] 87 (0, 0))) := by
    show _ = _
    rw [HB2.out.block b hbl]; exact h.blk
  have HW2 : Hid (w.heap.size < w2.heap.size) := by rw [← hw2]; show _ < _; simp
  obtain ⟨y0, y1, y2, yf⟩ := blk3 HBk.out
  generalize f.safe.length = L at *
  generalize f.units.length = U at *
  clear h hc2 hc4 hc1 hc3 hw2
  go_enter Tryz.func35, Tryz.ntmps35
  go_wp2
  go_region_law (first | (go_simp; go_at_call 51; refine HC1.out.mono ?_; rintro e w3 ⟨rfl, rfl⟩) | (go_simp; go_at_call 55; refine HC2.out.mono ?_; rintro e w4 ⟨sv2, rfl, hown2, hgrow2, hl2⟩))
  all_goals go_wp2
  all_goals
    go_ret
    obtain ⟨a2, c2, rfl, _, _⟩ := owns_form hown2
    refine ⟨a2, c2, rfl, ⟨hown2.1, hown2.2.imp id ?_⟩, ?_⟩
    · rintro ⟨g, cap, cur, e1, _, r⟩
      refine ⟨g, cap, cur, e1, ?_, r⟩
      cases e1
      rcases hl2 with h2 | ⟨g2, h2, h3⟩
      · simp [Value.ownBlock] at h2; omega
      · simp [Value.ownBlock] at h2; have := HW2.out; omega
    · exact ⟨hgrow2.os.trans HB2.out.os, hgrow2.tape.trans HB2.out.tape, hgrow2.output.trans HB2.out.output, Nat.le_trans HB2.out.size hgrow2.size, fun k hk => (hgrow2.block k (by have := HW2.out; omega) (by simp [Value.ownBlock]; omega)).trans (HB2.out.block k hk)⟩

end Go.Proofs.YtfdclebajninfaaGreatDoor
