import Derived.Test.YthgggjdefhgfiaaNDel
namespace Go.Proofs.Ythgggjdefhgfiaa
open Go.RowKit

/-- A row lies in no block of another type. -/
theorem owns_ne {w : World} {B n k s : Nat} {t t' : TypeId} {v : Value} {xs : List Value} {C : Array Value} {fr : Nat × Nat} (h : w.ownsRow B t s v n xs) (hk : w.heap[k]? = some (.cells C t' fr)) (ht : t' ≠ t) : some k ≠ v.ownBlock := by
  intro e
  rcases h.2 with ⟨h1, h2⟩ | ⟨g', cap, cur, h1, _, hg, _⟩
  · rw [h1] at e; simp [Value.ownBlock] at e
  · rw [h1] at e; simp [Value.ownBlock] at e; subst e
    rw [hg] at hk; simp at hk; exact ht hk.2.1.symm
theorem owns_set {w : World} {B n k s i : Nat} {t : TypeId} {v u : Value} {xs : List Value} (h : w.ownsRow B t s v n xs) (hk : some k ≠ v.ownBlock) : (w.setCell ⟨k, i, none⟩ u).ownsRow B t s v n xs :=
  owns_same h (fun g hg => Below.heap_setCell _ _ _ _ (by rintro rfl; exact hk hg.symm))

theorem blk2 {w : World} {b : Nat} {x0 x1 : Value} {t : TypeId} (h : w.heap[b]? = some (.cells #[x0, x1] t (0, 0))) : w.cell? ⟨b, 0, none⟩ = some x0 ∧ w.cell? ⟨b, 1, none⟩ = some x1 :=
  ⟨by simp [World.cell?, h], by simp [World.cell?, h]⟩
def PNet (o : Nat) : Nat × Nat → Prop := fun k => k = (o, 1) ∨ k = (o, 2)
set_option maxRecDepth 100000 in
set_option maxHeartbeats 1000000 in
theorem add_any (w : World) (K : Knd) (o nb : Nat) (N : Nt) (h : Nk w K o nb N) (hr : N.room ≤ 8192) (m : Ms) :
    Calls Try.prog 41 #[.pointer (some ⟨nb, 0, none⟩), .agg #[.int .i64 m.to, .string m.b]] w fun e w' => ∃ K', e = .returned (.bool N.adds) ∧ Nk w' K' o nb (N.add m) ∧ Kp (PNet o) K K' w w' := by
  obtain ⟨i0, hi, hz0, hz1, hz2⟩ := info_parts Try.infoMs
  obtain ⟨rv, hm⟩ := h
  have hbl := hm.blk
  unfold ncells at hbl
  obtain ⟨a, cr, hrv, _, _⟩ := hm.row.form
  subst hrv
  obtain ⟨L, hL⟩ : ∃ L, N.row.length = L := ⟨_, rfl⟩
  have HL := hide hL
  have HM := hide hm
  rw [hL] at hbl
  obtain ⟨q0, q1, q2, qf⟩ := blk3 hbl
  have hjl := lt_of_block hbl
  have HBl := hide hbl
  have hrow := hm.row.own
  rw [hL] at hrow
  have HRw := hide hrow
  obtain ⟨ms, hms⟩ : ∃ ms, msv N.row = ms := ⟨_, rfl⟩
  have HMs := hide hms
  rw [hms] at HRw
  by_cases hlt : L < N.room
  · have HA : Hid (N.adds = true ∧ N.add m = { N with row := N.row ++ [m] }) := by
      show _ ∧ _
      unfold Nt.adds Nt.add
      rw [hL, if_pos hlt]; simp [hlt]
    generalize hRm : N.room = RM at *
    have hlt' : (L : Int) < (RM : Int) := by omega
    have HRm := hide hRm
    clear hm hbl hrow hL hms hRm
    obtain ⟨to, b⟩ := m
    simp only
    have HNe : Hid (some nb ≠ (Value.slice a L cr).ownBlock) := owns_ne HRw.out HBl.out (by decide)
    have HBx : Hid ((w.alloc (.cells #[.int .i64 to, .string b] 101)).heap[w.heap.size]? = some (.cells #[.int .i64 to, .string b] 101 (0, 0))) := heap_alloc_new _ _
    have HBn : Hid ((w.alloc (.cells #[.int .i64 to, .string b] 101)).heap[nb]? = some (.cells #[.int .i64 RM, .slice a L cr, .int .u64 N.lost] 83 (0, 0))) := (Below.heap_alloc _ _ _ hjl).trans HBl.out
    have HRo := hide (HRw.out.alloc (.cells #[.int .i64 to, .string b] 101))
    have HSz : Hid ((w.alloc (.cells #[.int .i64 to, .string b] 101)).heap.size = w.heap.size + 1) := by show _ = _; simp
    have HKa : Hid (Kp (PNet o) K (ext K w.heap.size (o, 2)) w (w.alloc (.cells #[.int .i64 to, .string b] 101))) := kp_below ((Below.refl _ _).alloc (Nat.le_refl _) _) _ _ _
    go_enter Try.func41, Try.ntmps41
    go_wp2
    generalize w.alloc (.cells #[.int .i64 to, .string b] 101) = w1 at *
    obtain ⟨y0, y1, y2, yf⟩ := blk3 HBn.out
    obtain ⟨x0, x1⟩ := blk2 HBx.out
    have hn1 := lt_of_block HBn.out
    have hx1 := lt_of_block HBx.out
    have n1 : ¬ nb = w.heap.size := by omega
    have n2 : ¬ w.heap.size = nb := by omega
    clear q0 q1 q2 qf
    go_region
    all_goals go_wp2
    all_goals
      go_region_law ((refine step_append_lies _ (by rfl) (.tmp 19) (.tmp 21) 78 (by rfl) 0 101 i0 (.agg #[.int .i64 0, .string ⟨#[]⟩]) 2 24 Try.underlying78 hi hz0 hz1 hz2 rfl (by omega) (.slice a L cr) L ms (by rfl) (((HRo.out.drew).drew.alloc _)) ⟨w1.heap.size, 0, none⟩ 1 1 [.int .i64 to, .string b] (by rfl) rfl (World.news_of_block (heap_alloc_new w1 (.cells #[.int .i64 to, .string b] 101))) (by simp [Value.oneCell']) (by omega) (by unfold maxLen; omega) (by omega) (by omega) _ rfl ?_; intro g' cap' w4 hown4 hgrow4 hat4 hltg; have HO4 := hide hown4; have HG4 := hide hgrow4; have HA4 := hide hat4; have hdb : w4.heap[nb]? = _ := (hgrow4.block nb (by simp; omega) HNe.out).trans ((Below.heap_alloc _ _ _ hn1).trans HBn.out); have HJ4 := hide hdb; obtain ⟨z0, z1, z2, zf⟩ := blk3 hdb; have hd4 := lt_of_block hdb; clear hdb hown4 hgrow4 hat4))
    all_goals go_wp2
    all_goals
      go_ret
      have hm := HM.out
      have hgb : ∀ g2, (Value.slice a L cr).ownBlock = some g2 → K g2 = (o, 2) := fun g2 e => hm.row.kind g2 (by rw [HL.out]; exact e)
      have kp0 : Kp (PNet o) K (ext K w.heap.size (o, 2)) w w4 := by
        have hg4 := HG4.out
        refine ⟨hg4.os.trans HKa.out.os, hg4.tape.trans HKa.out.tape, hg4.output.trans HKa.out.output, ?_, fun b hb => ext_old K _ hb, fun b hb hn => ?_⟩
        · have := hg4.size; simp at this; omega
        · refine (hg4.block b (by simp; omega) (fun e => hn (Or.inr (hgb b e.symm)))).trans ((Below.heap_alloc _ _ _ (by omega)).trans (HKa.out.block b hb hn))
      refine ⟨ext K w.heap.size (o, 2), by rw [HA.out.1]; rfl, ?_, kp0.setCell (Or.inr (Or.inl hm.kn)) _ _⟩
      rw [HA.out.2]
      refine ⟨.slice (some ⟨g', 0, none⟩) (L + 1) cap', ?_, (ext_old K _ hjl).trans hm.kn, ⟨?_, fun g2 e => ?_⟩⟩
      · rw [block_set HJ4.out]
        rfl
      · have hne : some nb ≠ (Value.slice (some ⟨g', 0, none⟩) (L + 1) cap').ownBlock := owns_ne HO4.out HJ4.out (by decide)
        have := owns_set (i := 1) (u := .slice (some ⟨g', 0, none⟩) (L + 1) cap') HO4.out hne
        show World.ownsRow _ _ _ _ _ (N.row ++ [_]).length (msv (N.row ++ [_]))
        rw [List.length_append, HL.out, msv_snoc, HMs.out]
        exact this
      · simp [Value.ownBlock] at e
        subst e
        rcases HA4.out with h | h
        · exact (ext_old K _ (rk_lt HRw.out h)).trans (hgb _ h)
        · exact ext_new K _ (by simp at h; omega)
  · have HA : Hid (N.adds = false ∧ N.add m = N) := by
      show _ ∧ _
      unfold Nt.adds Nt.add
      rw [hL, if_neg hlt]; simp [hlt]
    generalize hRm : N.room = RM at *
    have hlt' : ¬ (L : Int) < (RM : Int) := by omega
    have hlt2 : (RM : Int) ≤ (L : Int) := by omega
    clear hm hbl hrow hL hms hRm
    obtain ⟨to, b⟩ := m
    simp only
    have HBn : Hid ((w.alloc (.cells #[.int .i64 to, .string b] 101)).heap[nb]? = some (.cells #[.int .i64 RM, .slice a L cr, .int .u64 N.lost] 83 (0, 0))) := (Below.heap_alloc _ _ _ hjl).trans HBl.out
    have HKa : Hid (Kp (fun _ => False) K (ext K w.heap.size (o, 2)) w (w.alloc (.cells #[.int .i64 to, .string b] 101))) := kp_below ((Below.refl _ _).alloc (Nat.le_refl _) _) _ _ _
    go_enter Try.func41, Try.ntmps41
    go_wp2
    generalize w.alloc (.cells #[.int .i64 to, .string b] 101) = w1 at *
    obtain ⟨y0, y1, y2, yf⟩ := blk3 HBn.out
    clear q0 q1 q2 qf
    go_region
    all_goals go_wp2
    all_goals
      go_ret
      refine ⟨ext K w.heap.size (o, 2), by rw [HA.out.1]; rfl, ?_, (HKa.out.mono (fun _ h => h.elim)).drew⟩
      rw [HA.out.2]
      exact Nk.kept ⟨_, HM.out⟩ HKa.out.drew (fun _ h => h)

end Go.Proofs.Ythgggjdefhgfiaa
