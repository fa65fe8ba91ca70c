import Derived.Test.YtllpikijakilnaaWkC
import Derived.Lib.SliceRun
namespace Go.Proofs.Ytllpikijakilnaa
open Go.RowKit

set_option maxRecDepth 100000 in
set_option maxHeartbeats 1000000 in
theorem Holds_one (w : World) (P H A B C g : Nat) (a : Int) (ha : a = 1 ∨ a = 2) (hs : Sok w P H) (hg : w.heap[g]? = some (.cells #[.int .i64 0, .int .i64 (-a)] 109 (0, 0))) (R : Bool) (hR : R = decide (a = 1)) :
    Calls Try.prog 8 #[.agg #[.int .u64 0, .slice (some ⟨P, 0, none⟩) 1 1, .slice none 0 0, .slice (some ⟨A, 0, none⟩) 1 1, .slice (some ⟨B, 0, none⟩) 1 1, .slice (some ⟨C, 0, none⟩) 1 1], .int .i64 0, .slice (some ⟨g, 0, none⟩) 1 1] w fun e w' => e = .returned (.bool R) ∧ Below w.heap.size w w' := by
  obtain ⟨w2, hw2⟩ : ∃ w2, (w.alloc (.cells #[.int .u64 0, .slice (some ⟨P, 0, none⟩) 1 1, .slice none 0 0, .slice (some ⟨A, 0, none⟩) 1 1, .slice (some ⟨B, 0, none⟩) 1 1, .slice (some ⟨C, 0, none⟩) 1 1] 32)).alloc (.cells #[.int .i64 0] 3) = w2 := ⟨_, rfl⟩
  have hb2 : Below w.heap.size w w2 := by rw [← hw2]; exact ((Below.refl _ _).alloc (Nat.le_refl _) _).alloc (by simp) _
  have hx2 : w2.heap[w.heap.size]? = some (.cells #[.int .u64 0, .slice (some ⟨P, 0, none⟩) 1 1, .slice none 0 0, .slice (some ⟨A, 0, none⟩) 1 1, .slice (some ⟨B, 0, none⟩) 1 1, .slice (some ⟨C, 0, none⟩) 1 1] 32 (0, 0)) := by rw [← hw2]; exact (Below.heap_alloc _ _ _ (by simp)).trans (heap_alloc_new _ _)
  have hk2 : w2.heap[w.heap.size + 1]? = some (.cells #[.int .i64 0] 3 (0, 0)) := by rw [← hw2]; have h := heap_alloc_new (w.alloc (.cells #[.int .u64 0, .slice (some ⟨P, 0, none⟩) 1 1, .slice none 0 0, .slice (some ⟨A, 0, none⟩) 1 1, .slice (some ⟨B, 0, none⟩) 1 1, .slice (some ⟨C, 0, none⟩) 1 1] 32)) (.cells #[.int .i64 0] 3); rw [World.size_alloc] at h; exact h
  have HAf := hide (afford_any w2 P H A B C w.heap.size (w.heap.size + 1) g a ha (hs.below hb2 (Nat.le_refl _)) hx2 hk2 ((hb2.block g (ac_lt hg)).trans hg) R hR)
  have HW2 := hide hw2
  have HB2 := hide hb2
  clear hw2 hb2 hx2 hk2 hs hg hR ha
  go_enter Try.func8, Try.ntmps8
  go_upto_region 1 with (fail)
  rw [HW2.out]
  go_wp2_with (go_at_call 27; refine HAf.out.mono ?_; rintro e w3 ⟨rfl, hb3⟩; have HB3 := hide hb3; clear hb3)
  go_ret
  exact ⟨rfl, HB2.out.trans (HB3.out.mono HB2.out.size)⟩

set_option maxRecDepth 100000 in
set_option maxHeartbeats 1000000 in
theorem clone_one (w : World) (g : Nat) (a : Int) (hg : w.heap[g]? = some (.cells #[.int .i64 0, .int .i64 a] 109 (0, 0))) :
    Calls Try.prog 62 #[.slice (some ⟨g, 0, none⟩) 1 1] w fun e w' => ∃ q c, e = .returned (.slice (some ⟨q, 0, none⟩) 1 c) ∧ w.heap.size ≤ q ∧ q < w'.heap.size ∧ w'.cell? ⟨q, 1, none⟩ = some (.int .i64 a) ∧ Below w.heap.size w w' := by
  have HE : Hid ((w.alloc (.cells #[] 109)).ownsRow w.heap.size 109 2 (.slice (some ⟨w.heap.size, 0, none⟩) 0 0) 0 []) := ⟨rfl, Or.inr ⟨w.heap.size, 0, #[], rfl, Nat.le_refl _, heap_alloc_new _ _, Nat.le_refl _, by unfold maxLen; omega, rfl, rfl⟩⟩
  obtain ⟨l0, l1⟩ := ac2 ((Below.heap_alloc w (.cells #[] 109) g (ac_lt hg)).trans hg)
  have HC : Hid (Cel (w.alloc (.cells #[] 109)) (some ⟨g, 0, none⟩) 2 ([(⟨0, a⟩ : Lin)].map linc)) := Or.inr ⟨g, 0, rfl, by have := ac_lt hg; simp; omega, fun i r hr j v hv => by
    cases i with
    | succ i => simp at hr
    | zero =>
      simp at hr
      subst hr
      match j, hv with
      | 0, hv => simp [linc] at hv; subst hv; exact l0
      | 1, hv => simp [linc] at hv; subst hv; exact l1
      | j + 2, hv => simp [linc] at hv⟩
  have q22 : ∀ (w : World) (a : Option Addr) (n c n' c' : Nat), (binOp .eql 36 (.slice a n c) (.slice none n' c')).run Try.prog w = .ok (.bool a.isNone) w := fun w a n c n' c' => Lib.run_eql_slice_nil w _ _ a n c n' c' Try.underlying36
  clear hg l0 l1
  go_enter Try.func62, Try.ntmps62
  go_wp2_with (at_builtin; refine wpList_append_lines rfl (.tmp 5) (.tmp 6) rfl w.heap.size _ 0 0 [] rfl HE.out _ 1 1 [⟨0, a⟩] rfl rfl HC.out (by omega) (by simp) ?_; intro q c w2 hown2 hgrow2; have HO2 := hide hown2; have HB2 : Hid (Below w.heap.size w w2) := ((Below.refl _ w).alloc (Nat.le_refl _) _).grown hgrow2 (by simp) (fun k e => by cases e; exact Nat.le_refl _); clear hown2 hgrow2)
  go_ret
  obtain ⟨q', e, hq, hc⟩ := row_cell HO2.out (i := 1) (u := .int .i64 a) rfl
  cases e
  exact ⟨_, _, rfl, (owns_le2 HO2.out).2.1, hq, hc, HB2.out⟩

/-- What is made of the write. -/
def Mv (n0 : Nat) (w : World) (a : Int) (o : Int) (v : Value) : Prop := (a = 1 ∧ o = 1 ∧ ∃ q c, v = .slice (some ⟨q, 0, none⟩) 1 c ∧ n0 ≤ q ∧ q < w.heap.size ∧ w.cell? ⟨q, 1, none⟩ = some (.int .i64 (-1))) ∨ (a = 2 ∧ o = 3 ∧ v = .slice none 0 0)
theorem Mv.low {w : World} {n0 n1 : Nat} {a o : Int} {v : Value} (h : Mv n0 w a o v) (hn : n1 ≤ n0) : Mv n1 w a o v :=
  h.imp (fun ⟨e, f, q, c, e1, h0, r⟩ => ⟨e, f, q, c, e1, Nat.le_trans hn h0, r⟩) id

set_option maxRecDepth 100000 in
set_option maxHeartbeats 2000000 in
theorem judgeWrite_one (w : World) (P H A B C g : Nat) (a : Int) (ha : a = 1 ∨ a = 2) (hs : Sok w P H) (hg : w.heap[g]? = some (.cells #[.int .i64 0, .int .i64 (-a)] 109 (0, 0))) :
    Calls Try.prog 34 #[.agg #[.int .u64 0, .slice (some ⟨P, 0, none⟩) 1 1, .slice none 0 0, .slice (some ⟨A, 0, none⟩) 1 1, .slice (some ⟨B, 0, none⟩) 1 1, .slice (some ⟨C, 0, none⟩) 1 1], .agg #[.int .i64 0, .int .u64 1, .int .i64 1, .bool true, .slice (some ⟨g, 0, none⟩) 1 1, .slice none 0 0, .slice none 0 0, .int .i64 0, .slice none 0 0, .int .i64 0, .int .i64 0, .int .i64 0, .int .i64 0, .int .u64 0, .slice none 0 0]] w fun e w' => ∃ o v, e = .returned (.tuple #[.int .i64 o, v, .slice none 0 0]) ∧ Mv w.heap.size w' a o v ∧ Below w.heap.size w w' := by
  obtain ⟨w2, hw2⟩ : ∃ w2, (w.alloc (.cells #[.int .u64 0, .slice (some ⟨P, 0, none⟩) 1 1, .slice none 0 0, .slice (some ⟨A, 0, none⟩) 1 1, .slice (some ⟨B, 0, none⟩) 1 1, .slice (some ⟨C, 0, none⟩) 1 1] 32)).alloc (.cells #[.int .i64 0, .int .u64 1, .int .i64 1, .bool true, .slice (some ⟨g, 0, none⟩) 1 1, .slice none 0 0, .slice none 0 0, .int .i64 0, .slice none 0 0, .int .i64 0, .int .i64 0, .int .i64 0, .int .i64 0, .int .u64 0, .slice none 0 0] 45) = w2 := ⟨_, rfl⟩
  have hb2 : Below w.heap.size w w2 := by rw [← hw2]; exact ((Below.refl _ _).alloc (Nat.le_refl _) _).alloc (by simp) _
  have hx2 : w2.heap[w.heap.size]? = some (.cells #[.int .u64 0, .slice (some ⟨P, 0, none⟩) 1 1, .slice none 0 0, .slice (some ⟨A, 0, none⟩) 1 1, .slice (some ⟨B, 0, none⟩) 1 1, .slice (some ⟨C, 0, none⟩) 1 1] 32 (0, 0)) := by rw [← hw2]; exact (Below.heap_alloc _ _ _ (by simp)).trans (heap_alloc_new _ _)
  have ha2 : w2.heap[w.heap.size + 1]? = some (.cells #[.int .i64 0, .int .u64 1, .int .i64 1, .bool true, .slice (some ⟨g, 0, none⟩) 1 1, .slice none 0 0, .slice none 0 0, .int .i64 0, .slice none 0 0, .int .i64 0, .int .i64 0, .int .i64 0, .int .i64 0, .int .u64 0, .slice none 0 0] 45 (0, 0)) := by rw [← hw2]; have h := heap_alloc_new (w.alloc (.cells #[.int .u64 0, .slice (some ⟨P, 0, none⟩) 1 1, .slice none 0 0, .slice (some ⟨A, 0, none⟩) 1 1, .slice (some ⟨B, 0, none⟩) 1 1, .slice (some ⟨C, 0, none⟩) 1 1] 32)) (.cells #[.int .i64 0, .int .u64 1, .int .i64 1, .bool true, .slice (some ⟨g, 0, none⟩) 1 1, .slice none 0 0, .slice none 0 0, .int .i64 0, .slice none 0 0, .int .i64 0, .int .i64 0, .int .i64 0, .int .i64 0, .int .u64 0, .slice none 0 0] 45); rw [World.size_alloc] at h; exact h
  have hs2 := hs.below hb2 (Nat.le_refl _)
  have hg2 := (hb2.block g (ac_lt hg)).trans hg
  obtain ⟨c0, c1, c2, c3, c4, c5⟩ := ac6 hx2
  obtain ⟨k0, k1, k2, k3, k4, k5, k6, k7, k8, k9, k10, k11, k12, k13, k14⟩ := ac15 ha2
  have HW2 := hide hw2
  have HB2 := hide hb2
  have HA2 := hide ha2
  have HS2 := hide hs2
  have HG2 := hide hg2
  clear hw2 hb2 hx2 ha2 hs2 hs hg hg2
  rcases ha with rfl | rfl
  · have HHo := hide (Holds_one w2 P H A B C g 1 (Or.inl rfl) HS2.out HG2.out true rfl)
    go_enter Try.func34, Try.ntmps34
    go_upto_region 1 with (fail)
    rw [HW2.out]
    go_upto_region 2 with (go_at_call 8; refine HHo.out.mono ?_; rintro e w3 ⟨rfl, hb3⟩; have HB3 := hide hb3; clear hb3)
    obtain ⟨k0, k1, k2, k3, k4, k5, k6, k7, k8, k9, k10, k11, k12, k13, k14⟩ := ac15 ((HB3.out.block _ (ac_lt HA2.out)).trans HA2.out)
    have HCl := hide (clone_one w3 g (-1) ((HB3.out.block g (ac_lt HG2.out)).trans HG2.out))
    go_wp2_with (go_at_call 62; refine HCl.out.mono ?_; rintro e w4 ⟨q, c, rfl, hq0, hq, hc, hb4⟩; have HQ := hide hq; have HQ0 := hide hq0; clear hq0; have HC4 := hide hc; have HB4 := hide hb4; clear hq hc hb4)
    refine bodyPost_ret (v := .tuple #[.int .i64 1, .slice (some ⟨q, 0, none⟩) 1 c, .slice none 0 0]) (by simp [results, Try.results34, go_sem]) rfl ?_
    exact ⟨1, _, rfl, Or.inl ⟨rfl, rfl, q, c, rfl, Nat.le_trans (Nat.le_trans HB2.out.size HB3.out.size) HQ0.out, HQ.out, HC4.out⟩, HB2.out.trans ((HB3.out.trans (HB4.out.mono HB3.out.size)).mono HB2.out.size)⟩
  · have HHo := hide (Holds_one w2 P H A B C g 2 (Or.inr rfl) HS2.out HG2.out false rfl)
    go_enter Try.func34, Try.ntmps34
    go_upto_region 1 with (fail)
    rw [HW2.out]
    go_upto_region 3 with (go_at_call 8; refine HHo.out.mono ?_; rintro e w3 ⟨rfl, hb3⟩; have HB3 := hide hb3; clear hb3)
    obtain ⟨k0, k1, k2, k3, k4, k5, k6, k7, k8, k9, k10, k11, k12, k13, k14⟩ := ac15 ((HB3.out.block _ (ac_lt HA2.out)).trans HA2.out)
    go_wp2
    refine bodyPost_ret (v := .tuple #[.int .i64 3, .slice none 0 0, .slice none 0 0]) (by simp [results, Try.results34, go_sem]) rfl ?_
    exact ⟨3, _, rfl, Or.inr ⟨rfl, rfl, rfl⟩, HB2.out.trans (HB3.out.mono HB2.out.size)⟩

set_option maxRecDepth 100000 in
set_option maxHeartbeats 2000000 in
theorem Judge_one (w : World) (P H A B C g : Nat) (a : Int) (ha : a = 1 ∨ a = 2) (hs : Sok w P H) (hg : w.heap[g]? = some (.cells #[.int .i64 0, .int .i64 (-a)] 109 (0, 0))) :
    Calls Try.prog 11 #[.agg #[.int .u64 0, .slice (some ⟨P, 0, none⟩) 1 1, .slice none 0 0, .slice (some ⟨A, 0, none⟩) 1 1, .slice (some ⟨B, 0, none⟩) 1 1, .slice (some ⟨C, 0, none⟩) 1 1], .agg #[.int .i64 0, .int .u64 1, .int .i64 1, .bool true, .slice (some ⟨g, 0, none⟩) 1 1, .slice none 0 0, .slice none 0 0, .int .i64 0, .slice none 0 0, .int .i64 0, .int .i64 0, .int .i64 0, .int .i64 0, .int .u64 0, .slice none 0 0]] w fun e w' => ∃ o v, e = .returned (.tuple #[.int .i64 o, v, .slice none 0 0, .int .i64 0]) ∧ Mv w.heap.size w' a o v ∧ Below w.heap.size w w' := by
  obtain ⟨w2, hw2⟩ : ∃ w2, (w.alloc (.cells #[.int .u64 0, .slice (some ⟨P, 0, none⟩) 1 1, .slice none 0 0, .slice (some ⟨A, 0, none⟩) 1 1, .slice (some ⟨B, 0, none⟩) 1 1, .slice (some ⟨C, 0, none⟩) 1 1] 32)).alloc (.cells #[.int .i64 0, .int .u64 1, .int .i64 1, .bool true, .slice (some ⟨g, 0, none⟩) 1 1, .slice none 0 0, .slice none 0 0, .int .i64 0, .slice none 0 0, .int .i64 0, .int .i64 0, .int .i64 0, .int .i64 0, .int .u64 0, .slice none 0 0] 45) = w2 := ⟨_, rfl⟩
  have hb2 : Below w.heap.size w w2 := by rw [← hw2]; exact ((Below.refl _ _).alloc (Nat.le_refl _) _).alloc (by simp) _
  have hx2 : w2.heap[w.heap.size]? = some (.cells #[.int .u64 0, .slice (some ⟨P, 0, none⟩) 1 1, .slice none 0 0, .slice (some ⟨A, 0, none⟩) 1 1, .slice (some ⟨B, 0, none⟩) 1 1, .slice (some ⟨C, 0, none⟩) 1 1] 32 (0, 0)) := by rw [← hw2]; exact (Below.heap_alloc _ _ _ (by simp)).trans (heap_alloc_new _ _)
  have ha2 : w2.heap[w.heap.size + 1]? = some (.cells #[.int .i64 0, .int .u64 1, .int .i64 1, .bool true, .slice (some ⟨g, 0, none⟩) 1 1, .slice none 0 0, .slice none 0 0, .int .i64 0, .slice none 0 0, .int .i64 0, .int .i64 0, .int .i64 0, .int .i64 0, .int .u64 0, .slice none 0 0] 45 (0, 0)) := by rw [← hw2]; have h := heap_alloc_new (w.alloc (.cells #[.int .u64 0, .slice (some ⟨P, 0, none⟩) 1 1, .slice none 0 0, .slice (some ⟨A, 0, none⟩) 1 1, .slice (some ⟨B, 0, none⟩) 1 1, .slice (some ⟨C, 0, none⟩) 1 1] 32)) (.cells #[.int .i64 0, .int .u64 1, .int .i64 1, .bool true, .slice (some ⟨g, 0, none⟩) 1 1, .slice none 0 0, .slice none 0 0, .int .i64 0, .slice none 0 0, .int .i64 0, .int .i64 0, .int .i64 0, .int .i64 0, .int .u64 0, .slice none 0 0] 45); rw [World.size_alloc] at h; exact h
  have hs2 := hs.below hb2 (Nat.le_refl _)
  have hg2 := (hb2.block g (ac_lt hg)).trans hg
  obtain ⟨c0, c1, c2, c3, c4, c5⟩ := ac6 hx2
  obtain ⟨k0, k1, k2, k3, k4, k5, k6, k7, k8, k9, k10, k11, k12, k13, k14⟩ := ac15 ha2
  have HW2 := hide hw2
  have HB2 := hide hb2
  have HA2 := hide ha2
  have HS2 := hide hs2
  have HG2 := hide hg2
  clear hw2 hb2 hx2 ha2 hs2 hs hg hg2
  have HJ := hide (judgeWrite_one w2 P H A B C g a ha HS2.out HG2.out)
  go_enter Try.func11, Try.ntmps11
  go_upto_region 1 with (fail)
  rw [HW2.out]
  go_wp2_with (go_at_call 34; refine HJ.out.mono ?_; rintro e w3 ⟨o, v, rfl, hm, hb3⟩; have HM := hide hm; have HB3 := hide hb3; clear hm hb3)
  refine bodyPost_ret (v := .tuple #[.int .i64 o, v, .slice none 0 0, .int .i64 0]) (by simp [results, Try.results11, go_sem]) rfl ?_
  exact ⟨o, v, rfl, HM.out.low HB2.out.size, HB2.out.trans (HB3.out.mono HB2.out.size)⟩
end Go.Proofs.Ytllpikijakilnaa
