import Derived.Test.YtlpafgjgoheomaaFileB
namespace Go.Proofs.Ytlpafgjgoheomaa
open Go.RowKit

theorem bytes_kept {w w' : World} {sp : Option Addr} {xs : List Nat} (h : Bytes w sp xs) (hs : w.heap.size ≤ w'.heap.size) (hk : ∀ g o, sp = some ⟨g, o, none⟩ → g < w.heap.size → w'.heap[g]? = w.heap[g]?) : Bytes w' sp xs := by
  refine ⟨h.small, ?_⟩
  rcases h.lie with h0 | ⟨g, o, e, hg, hc⟩
  · exact Or.inl h0
  · exact Or.inr ⟨g, o, e, Nat.lt_of_lt_of_le hg hs, fun j hj => by rw [World.cell?_of_block (hk g o e hg)]; exact hc j hj⟩
theorem uvals_app (a b : List Int) : uvals (a ++ b) = uvals a ++ uvals b := by simp [uvals]
theorem bus_take (xs : List Nat) (k : Nat) (h : k < xs.length) : bus (xs.take (k + 1)) = bus (xs.take k) ++ [((xs.getD k 0 : Nat) : Int)] := by
  rw [take_snoc' xs k (xs.getD k 0) (by rw [List.getD, List.getElem?_eq_getElem h]; rfl)]
  simp [bus]
theorem Wr2.grown0 {b : Nat} {r r' : Option Nat} {w w1 w2 : World} {v v1 : Value} (h : Wr2 b r w w1) (hl : Lies w v v1) (hr : r = v.ownBlock) (k : w1.grownBy w2 r') (hk : r' = v1.ownBlock ∨ r' = none) : Wr2 b r w w2 :=
  h.grown k (fun j hj => by
    rcases hk with hk | hk
    · rw [hk] at hj
      rcases hl with h1 | ⟨g, h1, h2⟩
      · rw [h1] at hj; exact Or.inr (Or.inl (hr.trans hj))
      · rw [h1] at hj; cases hj; exact Or.inl h2
    · rw [hk] at hj; cases hj)
/-- A row behind a write elsewhere. -/
theorem owns_set {w : World} {B n s b i : Nat} {t : TypeId} {v u : Value} {xs : List Value} (h : w.ownsRow B t s v n xs) (hb : some b ≠ v.ownBlock) : (w.setCell ⟨b, i, none⟩ u).ownsRow B t s v n xs :=
  owns_same h (fun g hg => Below.heap_setCell _ _ _ _ (by rintro rfl; exact hb hg.symm))

set_option maxRecDepth 100000 in
set_option maxHeartbeats 1000000 in
theorem add_any (w : World) (b : Nat) (sv uv : Value) (f : Fil) (h : Flw w b sv uv f) (sp : Option Addr) (m cap : Nat) (xs : List Nat) (hm : xs.length = m) (hx : Bytes w sp xs)
    (hfar : xs = [] ∨ ∀ g o, sp = some ⟨g, o, none⟩ → g ≠ b ∧ some g ≠ uv.ownBlock) (hn : f.all.length + f.units.length + m ≤ 1099511627776) :
    Calls Try.prog 65 #[.pointer (some ⟨b, 0, none⟩), .slice sp m cap] w fun e w' => ∃ uv', e = .returned (.tuple #[]) ∧ Flw w' b sv uv' (f.add xs) ∧ Wr2 b uv.ownBlock w w' ∧ Lies w uv uv' := by
  obtain ⟨i0, hi, hz0, hz1, hz2⟩ := info_parts Try.infoUn
  have HFl := hide h
  have HX := hide hx
  have HF := hide hfar
  have HM := hide hm
  obtain ⟨q0, q1, q2, qf⟩ := blk3 h.blk
  have hbl := lt_of_block h.blk
  obtain ⟨N, hN⟩ : ∃ N, f.all.length = N := ⟨_, rfl⟩
  obtain ⟨U, hU⟩ : ∃ U, f.units.length = U := ⟨_, rfl⟩
  have HG := hide (grow_any w uv f.units.length m f.units h.unit (by omega))
  have HA := hide hN
  have HU := hide hU
  rw [hN] at q2 hn
  rw [hU] at hn
  clear h hx hfar hm hN hU
  go_enter Try.func65, Try.ntmps65
  go_wp2_with fail
  refine HG.out.mono ?_
  rintro e w1 ⟨a1, c1, rfl, hown1, hb1, hl1⟩
  rw [HU.out] at hown1 hl1
  rw [HU.out]
  have HB1 : Hid (w1.heap[b]? = some (.cells #[sv, uv, .int .i64 (N : Int)] 90 (0, 0))) := by
    show _ = _
    rw [hb1.block b hbl, HFl.out.blk, HA.out]
  obtain ⟨r0, r1, r2, rf⟩ := blk3 HB1.out
  have hbl1 := lt_of_block HB1.out
  have HO1 := hide hown1
  have HW1 := hide hb1
  have HL1 := hide hl1
  clear hown1 hb1 hl1 q0 q1 q2 qf
  have HNe : Hid (some b ≠ (Value.slice a1 U c1).ownBlock) := owns_ne HO1.out HB1.out (by decide)
  go_wp2
  go_loopw [18] (fun i wr => ∃ (k : Nat) (a : Option Addr) (c : Nat), k ≤ m ∧ i = .int .i64 k ∧ Hid (wr.heap[b]? = some (.cells #[sv, .slice a (U + k) c, .int .i64 (N : Int)] 90 (0, 0))) ∧ Hid (wr.ownsRow 0 112 1 (.slice a (U + k) c) (U + k) (uvals (f.units ++ bus (xs.take k)))) ∧ Hid (Wr2 b uv.ownBlock w wr) ∧ Hid (Lies w uv (.slice a (U + k) c))) (fun i _ => m - (intOf i).toNat)
  case atStart =>
    refine ⟨0, a1, c1, Nat.zero_le _, rfl, ?_, ?_, ?_, HL1⟩
    · show _ = _
      rw [block_set HB1.out]; rfl
    · show World.ownsRow _ _ _ _ _ _ _
      simpa [bus] using owns_set HO1.out HNe.out
    · exact ((Wr2.refl b _ w).below HW1.out).set _ _
  case round =>
    obtain ⟨k, a, c, hk, rfl, HB, HO, HW, HL⟩ := hrel
    obtain ⟨s0, s1, s2, sf⟩ := blk3 HB.out
    have hbl2 := lt_of_block HB.out
    have HNe2 : Hid (some b ≠ (Value.slice a (U + k) c).ownBlock) := owns_ne HO.out HB.out (by decide)
    clear r0 r1 r2 rf
    by_cases hlt : k < m
    · have hlt' : (k : Int) < (m : Int) := by omega
      have HXr : Hid (Bytes wr sp xs) := by
        rcases HF.out with h0 | hf
        · exact ⟨HX.out.small, Or.inl h0⟩
        · exact bytes_kept HX.out HW.out.size (fun g o e hg => HW.out.block g hg (hf g o e).1 (hf g o e).2)
      obtain ⟨g, o, e, hg, hc⟩ : ∃ g o, sp = some ⟨g, o, none⟩ ∧ g < wr.heap.size ∧ ∀ j, j < xs.length → wr.cell? ⟨g, o + j, none⟩ = some (.int .u8 (xs.getD j 0)) := by
        rcases HXr.out.lie with h | h
        · have := HM.out; rw [h] at this; simp at this; omega
        · exact h
      subst e
      have hkx : k < xs.length := by have := HM.out; omega
      have hcell := hc k hkx
      have HT : Hid (uvals (f.units ++ bus (xs.take (k + 1))) = uvals (f.units ++ bus (xs.take k)) ++ [.int .i32 ((xs.getD k 0 : Nat) : Int)]) := by
        show _ = _
        rw [bus_take xs k hkx, ← List.append_assoc, uvals_app]
        rfl
      have hx2 : xs.getD k 0 < 256 := HX.out.small _ (by rw [List.getD, List.getElem?_eq_getElem hkx]; exact List.getElem_mem hkx)
      clear hc
      generalize xs.getD k 0 = x at *
      go_wp2_with (at_builtin; refine wpList_append_lies _ rfl (.tmp 26) (.tmp 29) 88 rfl 0 112 i0 (.int .i32 0) 1 4 Try.underlying88 hi hz0 hz1 hz2 rfl (by omega) (.slice a (U + k) c) (U + k) (uvals (f.units ++ bus (xs.take k))) rfl (HO.out.alloc _) ⟨wr.heap.size, 0, none⟩ 1 1 [.int .i32 (x : Int)] rfl rfl (World.news_of_block (heap_alloc_new wr (.cells #[.int .i32 (x : Int)] 112))) (by simp [Value.oneCell']) (by omega) (by unfold maxLen; omega) (by omega) (by omega) _ rfl ?_; intro g' cap' w4 hown4 hgrow4 hat4 hltg; have HB4 : Hid (w4.heap[b]? = some (.cells #[sv, .slice a (U + k) c, .int .i64 (N : Int)] 90 (0, 0))) := (hgrow4.block b (by simp; omega) HNe2.out).trans ((Below.heap_alloc _ _ _ hbl2).trans HB.out); obtain ⟨z0, z1, z2, zf⟩ := blk3 HB4.out; have hbl4 := lt_of_block HB4.out)
      rw [← HT.out] at hown4
      have HO4 := hide hown4
      have HW4 : Hid (Wr2 b uv.ownBlock w w4) := (HW.out.below ((Below.refl _ _).alloc (Nat.le_refl _) (.cells #[.int .i32 (x : Int)] 112))).grown0 HL.out rfl hgrow4 (Or.inl rfl)
      have HL4 : Hid (Lies w uv (.slice (some ⟨g', 0, none⟩) (U + k + 1) cap')) := HL.out.trans (w1 := wr) (by
        rcases hat4 with h | h
        · exact Or.inl h.symm
        · exact Or.inr ⟨g', rfl, by simp at h; omega⟩) HW.out.size
      clear hown4 hgrow4 hat4 s0 s1 s2 sf
      have HNe4 : Hid (some b ≠ (Value.slice (some ⟨g', 0, none⟩) (U + k + 1) cap').ownBlock) := owns_ne HO4.out HB4.out (by decide)
      go_wp2
      go_roundw
      case rel =>
        refine ⟨k + 1, _, cap', by omega, by go_num, ?_, owns_set HO4.out HNe4.out, HW4.out.set _ _, HL4⟩
        show _ = _
        rw [block_set HB4.out]; rfl
      case measure => simp [intOf]; omega
    · obtain rfl : k = m := by omega
      go_wp2
      go_end0
      have e1 : xs.take k = xs := List.take_of_length_le (by have := HM.out; omega)
      have eA : (f.add xs).all.length = N + k := by rw [Fil.all_add, List.length_append, HA.out, HM.out]
      have eU : (f.add xs).units.length = U + k := by simp [Fil.add, bus, HU.out, HM.out]
      refine ⟨.slice a (U + k) c, rfl, ⟨?_, ?_, ?_, HFl.out.ok.add HX.out.small⟩, HW.out.set _ _, HL.out⟩
      · rw [block_set HB.out, eA]; simp
      · refine owns_set (owns_same HFl.out.safe (fun g hg => HW.out.block g (rk_lt HFl.out.safe hg) ?_ (owns_apart HFl.out.safe HFl.out.unit (by decide) g hg))) (owns_ne HFl.out.safe HFl.out.blk (by decide))
        rintro rfl
        exact owns_ne HFl.out.safe HFl.out.blk (by decide) hg.symm
      · have := owns_set (i := 2) (u := .int .i64 ((N : Int) + (k : Int))) HO.out HNe2.out
        rw [eU]
        rw [e1] at this
        exact this

end Go.Proofs.Ytlpafgjgoheomaa
