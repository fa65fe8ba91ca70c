import Derived.Test.YtlpafgjgoheomaaFileC
import Derived.Deep.RegionLaw
namespace Go.Proofs.Ytlpafgjgoheomaa
open Go.RowKit

set_option maxRecDepth 100000 in
set_option maxHeartbeats 1000000 in
theorem cut_less (w : World) (b : Nat) (sv uv : Value) (f : Fil) (h : Flw w b sv uv f) (n : Nat) (hlt : n < f.all.length) (hn2 : f.all.length < 2147483648) (hu : f.units.length < 1099511627776) :
    Calls Try.prog 66 #[.pointer (some ⟨b, 0, none⟩), .int .i64 (n : Int)] w fun e w' => ∃ uv', e = .returned (.tuple #[]) ∧ Flw w' b sv uv' (f.cut n) ∧ Wr2 b uv.ownBlock w w' ∧ Lies w uv uv' := by
  obtain ⟨i0, hi, hz0, hz1, hz2⟩ := info_parts Try.infoUn
  have HFl := hide h
  obtain ⟨q0, q1, q2, qf⟩ := blk3 h.blk
  have hbl := lt_of_block h.blk
  obtain ⟨N, hN⟩ : ∃ N, f.all.length = N := ⟨_, rfl⟩
  obtain ⟨U, hU⟩ : ∃ U, f.units.length = U := ⟨_, rfl⟩
  have HA := hide hN
  have HU := hide hU
  have HO : Hid (w.ownsRow 0 112 1 uv U (uvals f.units)) := by rw [← hU]; exact h.unit
  have HB : Hid (w.heap[b]? = some (.cells #[sv, uv, .int .i64 (N : Int)] 90 (0, 0))) := by rw [← hN]; exact h.blk
  rw [hN] at q2 hlt hn2
  rw [hU] at hu
  have hlt' : (n : Int) < (N : Int) := by omega
  clear h hN hU
  obtain ⟨a, c, rfl, _, _⟩ := owns_form HO.out
  have HNe : Hid (some b ≠ (Value.slice a U c).ownBlock) := owns_ne HO.out HB.out (by decide)
  have HK := hide (fun w => cutTo_any w n (by omega))
  obtain ⟨z, hz⟩ : ∃ z, -1 - (n : Int) = z := ⟨_, rfl⟩
  rw [hz] at HK
  have HZ := hide hz
  clear hz
  go_enter Try.func66, Try.ntmps66
  go_wp2
  go_region_law (first | (refine step_append_lies _ (by rfl) (.tmp 14) (.tmp 17) 88 (by rfl) 0 112 i0 (.int .i32 0) 1 4 Try.underlying88 hi hz0 hz1 hz2 rfl (by omega) (.slice a U c) U (uvals f.units) (by rfl) ((HO.out.alloc _).drew) ⟨w.heap.size, 0, none⟩ 1 1 [.int .i32 z] (by rfl) rfl (World.news_of_block (heap_alloc_new w (.cells #[.int .i32 z] 112))) (by simp [Value.oneCell']) (by omega) (by unfold maxLen; omega) (by omega) (by omega) _ rfl ?_; intro g' cap' w4 hown4 hgrow4 hat4 hltg; have HB4 : Hid (w4.heap[b]? = some (.cells #[sv, .slice a U c, .int .i64 (N : Int)] 90 (0, 0))) := (hgrow4.block b (by simp; omega) HNe.out).trans ((Below.heap_alloc _ _ _ hbl).trans HB.out); obtain ⟨z0, z1, z2, zf⟩ := blk3 HB4.out; have hbl4 := lt_of_block HB4.out) | (go_simp; go_at_call 74; refine (HK.out _).mono ?_; rintro e w2 ⟨rfl, rfl⟩))
  all_goals go_wp2
  all_goals
    go_end0
    have HW4 : Hid (Wr2 b (Value.slice a U c).ownBlock w w4) := (((Wr2.refl b _ w).below ((Below.refl _ _).alloc (Nat.le_refl _) (.cells #[.int .i32 z] 112))).drew).grown0 (Lies.refl w (.slice a U c)) rfl hgrow4 (Or.inl rfl)
    have HL4 : Hid (Lies w (.slice a U c) (.slice (some ⟨g', 0, none⟩) (U + 1) cap')) := by
      rcases hat4 with h | h
      · exact Or.inl h.symm
      · exact Or.inr ⟨g', rfl, by simp at h; omega⟩
    have HNe4 : Hid (some b ≠ (Value.slice (some ⟨g', 0, none⟩) (U + 1) cap').ownBlock) := owns_ne hown4 HB4.out (by decide)
    have ec : f.cut n = ⟨f.safe, f.units ++ [z]⟩ := by unfold Fil.cut; rw [if_pos (by rw [HA.out]; exact hlt), HZ.out]
    have el : (f.cut n).all.length = n := by rw [Fil.all_cut, List.length_take, HA.out]; omega
    refine ⟨.slice (some ⟨g', 0, none⟩) (U + 1) cap', rfl, ⟨?_, ?_, ?_, HFl.out.ok.cut n (by omega)⟩, (HW4.out.set _ _).set _ _, HL4.out⟩
    · rw [block_set (block_set HB4.out _), el]; rfl
    · rw [ec]
      refine owns_set (owns_set (owns_same HFl.out.safe (fun g hg => HW4.out.block g (rk_lt HFl.out.safe hg) ?_ (owns_apart HFl.out.safe HFl.out.unit (by decide) g hg))) (owns_ne HFl.out.safe HFl.out.blk (by decide))) (owns_ne HFl.out.safe HFl.out.blk (by decide))
      rintro rfl
      exact owns_ne HFl.out.safe HFl.out.blk (by decide) hg.symm
    · rw [ec]
      have e2 : (f.units ++ [z]).length = U + 1 := by simp [HU.out]
      rw [show (Fil.mk f.safe (f.units ++ [z])).units.length = U + 1 from e2]
      exact owns_set (owns_set (by show World.ownsRow _ _ _ _ _ _ (uvals (f.units ++ [z])); rw [uvals_app]; exact hown4) HNe4.out) HNe4.out

end Go.Proofs.Ytlpafgjgoheomaa
