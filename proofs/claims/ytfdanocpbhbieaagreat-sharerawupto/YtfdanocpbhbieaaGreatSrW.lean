import Derived.Test.YtfdanocpbhbieaaGreatSrB
namespace Go.Proofs.YtfdanocpbhbieaaGreat
open Go.RowKit Go.Sort
open Z (Sli SlOk Acd AcdOk AcLent Acts AcsLent Rka RkIn)

def wkS (z : Nat) : Sta := ⟨0, some ⟨z + 1, 0, none⟩, 1, 1, none, 0, 0, some ⟨z + 1 + 1, 0, none⟩, 1, 1, some ⟨z + 1 + 1 + 1, 0, none⟩, 1, 1, some ⟨z + 1 + 1 + 1 + 1, 0, none⟩, 1, 1, [⟨0, 0, 0, some ⟨z, 0, none⟩, 1, 1, [⟨5, 0⟩]⟩], [], [0], [0], [false]⟩
def wkA : Acd := ⟨0, 0, 3, false, ⟨none, 0, 0, []⟩, ⟨none, 0, 0, []⟩, ⟨none, 0, 0, []⟩, 0, ⟨none, 0, 0, []⟩, 0, 0, 2, 0, 0, ⟨none, 0, 0, []⟩⟩
theorem wk_avail (z : Nat) : availT 0 (wkS z).pools (wkS z).pn [wkA] = [⟨0, 0, 3⟩] := by kernel_rfl
theorem wk_may5 (z : Nat) : mayT 0 (wkS z).pools (wkS z).pn [] [⟨0, -5⟩] = true := by kernel_rfl
theorem wk_may6 (z : Nat) : mayT 0 (wkS z).pools (wkS z).pn [] [⟨0, -6⟩] = false := by kernel_rfl
theorem wk_built : Tryz.prog.built 84 [(1, .int .i64 3), (7, .agg #[.int .i64 0, .int .i64 0, .int .i64 2])] = some wkA.arr := by kernel_rfl
theorem alloc_size (w : World) (o : Obj) : (w.alloc o).heap.size = w.heap.size + 1 := by simp
theorem wk_state (w : World) : ∃ W, (((((w.alloc (.cells #[.int .i64 5, .int .i64 0] 105)).alloc (.cells #[.int .i64 0, .int .i64 0, .int .i64 0, .slice (some ⟨w.heap.size, 0, none⟩) 1 1] 108)).alloc (.cells #[.int .u64 0] 45)).alloc (.cells #[.int .u64 0] 45)).alloc (.cells #[.bool false] 4)).alloc (.cells #[.int .u64 0, .slice (some ⟨w.heap.size + 1, 0, none⟩) 1 1, .slice none 0 0, .slice (some ⟨w.heap.size + 1 + 1, 0, none⟩) 1 1, .slice (some ⟨w.heap.size + 1 + 1 + 1, 0, none⟩) 1 1, .slice (some ⟨w.heap.size + 1 + 1 + 1 + 1, 0, none⟩) 1 1] 51) = W ∧ StaOk W (wkS w.heap.size) ∧ Below w.heap.size w W ∧ W.heap[w.heap.size + 1 + 1 + 1 + 1 + 1]? = some (.cells (wkS w.heap.size).arr 51 (0, 0)) := by
  refine ⟨_, rfl, ?_, ?_, ?_⟩
  · obtain ⟨a0, h0⟩ : ∃ a0, w.alloc (.cells #[.int .i64 5, .int .i64 0] 105) = a0 := ⟨_, rfl⟩
    obtain ⟨a1, h1⟩ : ∃ a1, a0.alloc (.cells #[.int .i64 0, .int .i64 0, .int .i64 0, .slice (some ⟨w.heap.size, 0, none⟩) 1 1] 108) = a1 := ⟨_, rfl⟩
    obtain ⟨a2, h2⟩ : ∃ a2, a1.alloc (.cells #[.int .u64 0] 45) = a2 := ⟨_, rfl⟩
    obtain ⟨a3, h3⟩ : ∃ a3, a2.alloc (.cells #[.int .u64 0] 45) = a3 := ⟨_, rfl⟩
    obtain ⟨a4, h4⟩ : ∃ a4, a3.alloc (.cells #[.bool false] 4) = a4 := ⟨_, rfl⟩
    rw [h0, h1, h2, h3, h4]
    have s0 : a0.heap.size = w.heap.size + 1 := by rw [← h0]; simp
    have s1 : a1.heap.size = w.heap.size + 1 + 1 := by rw [← h1, alloc_size, s0]
    have s2 : a2.heap.size = w.heap.size + 1 + 1 + 1 := by rw [← h2, alloc_size, s1]
    have s3 : a3.heap.size = w.heap.size + 1 + 1 + 1 + 1 := by rw [← h3, alloc_size, s2]
    have b1 : Below a0.heap.size a0 a1 := by rw [← h1]; exact (Below.refl _ _).alloc (Nat.le_refl _) _
    have b2 : Below a1.heap.size a1 a2 := by rw [← h2]; exact (Below.refl _ _).alloc (Nat.le_refl _) _
    have b3 : Below a2.heap.size a2 a3 := by rw [← h3]; exact (Below.refl _ _).alloc (Nat.le_refl _) _
    have b4 : Below a3.heap.size a3 a4 := by rw [← h4]; exact (Below.refl _ _).alloc (Nat.le_refl _) _
    have b5 : Below a4.heap.size a4 (a4.alloc (.cells #[.int .u64 0, .slice (some ⟨w.heap.size + 1, 0, none⟩) 1 1, .slice none 0 0, .slice (some ⟨w.heap.size + 1 + 1, 0, none⟩) 1 1, .slice (some ⟨w.heap.size + 1 + 1 + 1, 0, none⟩) 1 1, .slice (some ⟨w.heap.size + 1 + 1 + 1 + 1, 0, none⟩) 1 1] 51)) := (Below.refl _ _).alloc (Nat.le_refl _) _
    have c0 : Cel a0 (some ⟨w.heap.size, 0, none⟩) 2 [linc ⟨5, 0⟩] := by rw [← h0]; exact Z.cel_one1 rfl
    have c1 : Cel a1 (some ⟨w.heap.size + 1, 0, none⟩) 4 [plc ⟨0, 0, 0, some ⟨w.heap.size, 0, none⟩, 1, 1, [⟨5, 0⟩]⟩] := by rw [← s0, ← h1]; exact Z.cel_one1 rfl
    have c2 : Cel a2 (some ⟨w.heap.size + 1 + 1, 0, none⟩) 1 [uc 0] := by rw [← s1, ← h2]; exact Z.cel_one1 rfl
    have c3 : Cel a3 (some ⟨w.heap.size + 1 + 1 + 1, 0, none⟩) 1 [uc 0] := by rw [← s2, ← h3]; exact Z.cel_one1 rfl
    have c4 : Cel a4 (some ⟨w.heap.size + 1 + 1 + 1 + 1, 0, none⟩) 1 [boolc false] := by rw [← s3, ← h4]; exact Z.cel_one1 rfl
    refine ⟨rfl, ((((c1.below b2).below b3).below b4).below b5), fun x hx => ?_, rfl, Or.inl rfl, rfl, (((c2.below b3).below b4).below b5), rfl, ((c3.below b4).below b5), rfl, c4.below b5⟩
    simp [wkS] at hx
    subst hx
    exact ⟨rfl, ((((c0.below b1).below b2).below b3).below b4).below b5⟩
  · exact ((((((Below.refl _ w).alloc (Nat.le_refl _) _).alloc (by simp) _).alloc (by simp; omega) _).alloc (by simp; omega) _).alloc (by simp; omega) _).alloc (by simp; omega) _
  · have h := heap_alloc_new (((((w.alloc (.cells #[.int .i64 5, .int .i64 0] 105)).alloc (.cells #[.int .i64 0, .int .i64 0, .int .i64 0, .slice (some ⟨w.heap.size, 0, none⟩) 1 1] 108)).alloc (.cells #[.int .u64 0] 45)).alloc (.cells #[.int .u64 0] 45)).alloc (.cells #[.bool false] 4)) (.cells #[.int .u64 0, .slice (some ⟨w.heap.size + 1, 0, none⟩) 1 1, .slice none 0 0, .slice (some ⟨w.heap.size + 1 + 1, 0, none⟩) 1 1, .slice (some ⟨w.heap.size + 1 + 1 + 1, 0, none⟩) 1 1, .slice (some ⟨w.heap.size + 1 + 1 + 1 + 1, 0, none⟩) 1 1] 51)
    simp only [World.size_alloc] at h
    exact h
theorem wk_wf (z : Nat) : StaWf (wkS z) := fun p hp h hh => by
  simp [wkS] at hp
  subst hp
  simp at hh
  subst hh
  exact ⟨rfl, rfl⟩
theorem wk_small (z : Nat) : ∀ p ∈ (wkS z).pools, p.hl ≤ 4194304 := fun p hp => by
  simp [wkS] at hp
  subst hp
  show 1 ≤ _
  omega

set_option maxRecDepth 100000 in
set_option maxHeartbeats 4000000 in
theorem wakes_any (w : World) : Calls Tryz.prog 19 #[] w fun e w' => e = .returned (.bool true) ∧ Below w.heap.size w w' := by
  obtain ⟨W, hW, hS, hb, hx⟩ := wk_state w
  have HW := hide hW
  have HS := hide hS
  have HB := hide hb
  have HX := hide hx
  clear hW hS hb hx
  go_enter Tryz.func19, Tryz.ntmps19
  go_upto_region 2 with (fail)
  rw [HW.out]
  clear HW
  obtain ⟨sb, hsb⟩ : ∃ sb, w.heap.size + 1 + 1 + 1 + 1 + 1 = sb := ⟨_, rfl⟩
  rw [hsb] at HX ⊢
  clear hsb
  obtain ⟨q0, q1, q2, q3, q4, q5⟩ := ac6 (show W.heap[sb]? = some (.cells #[.int .u64 0, .slice (some ⟨w.heap.size + 1, 0, none⟩) 1 1, .slice none 0 0, .slice (some ⟨w.heap.size + 1 + 1, 0, none⟩) 1 1, .slice (some ⟨w.heap.size + 1 + 1 + 1, 0, none⟩) 1 1, .slice (some ⟨w.heap.size + 1 + 1 + 1 + 1, 0, none⟩) 1 1] 51 (0, 0)) from HX.out)
  obtain ⟨D, hD⟩ : ∃ D, wkA.arr = D := ⟨_, rfl⟩
  have HBt : Hid (Tryz.prog.built 84 [(1, .int .i64 3), (7, .agg #[.int .i64 0, .int .i64 0, .int .i64 2])] = some D) := by show _ = _; rw [← hD]; exact wk_built
  have HDs : Hid (D.size = 15) := by show _ = _; rw [← hD]; rfl
  obtain ⟨W1, hW1, hb1, hx1⟩ := box_one W D 84
  have HW1 := hide hW1
  have HB1 := hide hb1
  have HA1 : Hid (Acts W1 ⟨some ⟨W.heap.size, 0, none⟩, 1, 1, [wkA]⟩) := by
    refine ⟨⟨rfl, by show 1 ≤ _; omega, ?_⟩, fun e he => ?_⟩
    · rw [← hW1]
      exact Z.cel_one1 (by rw [← hD]; rfl)
    · simp at he
      subst he
      exact ⟨Z.nilS_ok _ _ _, Z.nilS_ok _ _ _, Z.nilS_ok _ _ _, Z.nilS_ok _ _ _, Z.nilS_ok _ _ _⟩
  have HAv := hide (avail_any W1 (wkS w.heap.size) (HS.out.below HB1.out) (wk_wf _) (by show 1 ≤ _; omega) (wk_small _) ⟨some ⟨W.heap.size, 0, none⟩, 1, 1, [wkA]⟩ HA1.out (fun a ha => by simp at ha; subst ha; exact ⟨by simp [wkA], by simp [wkA], ⟨rfl, rfl, rfl⟩⟩) (by show 1 ≤ _; omega) 0)
  rw [wk_avail] at HAv
  clear hW1 hb1 hx1 hD
  go_upto_region 3 with (first | (go_at_call 8; rw [HW1.out]; refine HAv.out.mono ?_; rintro e W2 ⟨v, rfl, hr, _, hb⟩; have HR2 := hide hr; have HB2 := hide hb; clear hr hb) | ((with_reducible show wpList _ _ _ (⟨_, .build 84 _, _, _, _, _⟩ :: _) _ _); refine Z.lp_built rfl 84 _ rfl [(1, .int .i64 3), (7, .agg #[.int .i64 0, .int .i64 0, .int .i64 2])] rfl D HBt.out ?_) | ((with_reducible show wpList _ _ _ (⟨_, .buildSlice 52 _ _, _, _, _, _⟩ :: _) _ _); refine Z.lp_build_one rfl 52 84 _ rfl D rfl 15 (by omega) (by omega) Tryz.underlying52 Z.info_Act HDs.out ?_))
  obtain ⟨p, cc, rfl⟩ := slice_form HR2.out
  clear q0 q1 q2 q3 q4 q5 HW1 HAv HA1 HBt HDs
  have HBa : Hid (Below W.heap.size W W2) := HB1.out.trans (HB2.out.mono HB1.out.size)
  obtain ⟨W3, hW3, hb3, hx3⟩ := box_one W2 #[.int .i64 0, .int .i64 0, .int .i64 3] 82
  have HW3 := hide hW3
  have HB3 := hide hb3
  have HEq := hide (eqRights_any W3 p (some ⟨W2.heap.size, 0, none⟩) 1 1 cc 1 [⟨0, 0, 3⟩] [⟨0, 0, 3⟩] rfl rfl (by omega) (cel_row (RB.owns_kept' HR2.out (fun g e => hb3.block g (RB.owns_lt HR2.out g e)))) (by rw [← hW3]; exact Z.cel_one1 rfl) true (by simp))
  clear hW3 hb3 hx3
  have HF : Hid (∀ V, Below W.heap.size W V → StaOk V (wkS w.heap.size) ∧ V.heap[sb]? = some (.cells #[.int .u64 0, .slice (some ⟨w.heap.size + 1, 0, none⟩) 1 1, .slice none 0 0, .slice (some ⟨w.heap.size + 1 + 1, 0, none⟩) 1 1, .slice (some ⟨w.heap.size + 1 + 1 + 1, 0, none⟩) 1 1, .slice (some ⟨w.heap.size + 1 + 1 + 1 + 1, 0, none⟩) 1 1] 51 (0, 0))) := fun V hb => ⟨HS.out.below hb, (hb.block _ (ac_lt HX.out)).trans HX.out⟩
  have HM : Hid (∀ V (k : Int) (A : Bool), (Lit.int .i64 k).wf = true → mayT 0 (wkS w.heap.size).pools (wkS w.heap.size).pn [] [⟨0, k⟩] = A → Below W.heap.size W V → Calls Tryz.prog 9 #[.agg (wkS w.heap.size).arr, .slice none 0 0, .int .i64 0, .slice (some ⟨V.heap.size, 0, none⟩) 1 1] (V.alloc (.cells #[.int .i64 0, .int .i64 k] 87)) fun e w' => e = .returned (.bool A) ∧ Below W.heap.size W w') := fun V k A hk hA hb => by
    have hb2 : Below V.heap.size V (V.alloc (.cells #[.int .i64 0, .int .i64 k] 87)) := (Below.refl _ _).alloc (Nat.le_refl _) _
    have hb3 := hb.trans (hb2.mono hb.size)
    refine (may_any _ (wkS w.heap.size) (HS.out.below hb3) (wk_wf _) (by show 1 ≤ _; omega) (wk_small _) ⟨none, 0, 0, []⟩ ⟨Z.nilS_ok _ _ _, by simp⟩ (by simp) (by show 0 ≤ _; omega) 0 ⟨some ⟨V.heap.size, 0, none⟩, 1, 1, [⟨0, k⟩]⟩ ⟨rfl, by show 1 ≤ _; omega, Z.cel_one1 rfl⟩ (fun x hx => by simp at hx; subst hx; exact ⟨rfl, hk⟩)).mono ?_
    rintro e w' ⟨rfl, h⟩
    exact ⟨by rw [← hA], hb3.trans (h.mono hb3.size)⟩
  have HN := hide (show (Lit.int .i64 (-5)).wf = true from rfl)
  have HN6 := hide (show (Lit.int .i64 (-6)).wf = true from rfl)
  go_wp2_with (first
    | (go_at_call 40; rw [HW3.out]; refine HEq.out.mono ?_; rintro e V4 ⟨rfl, hb⟩; have HB4 : Hid (Below W.heap.size W V4) := (HBa.out.trans (HB3.out.mono HBa.out.size)).trans (hb.mono (HBa.out.trans (HB3.out.mono HBa.out.size)).size); clear hb; obtain ⟨q0, q1, q2, q3, q4, q5⟩ := ac6 (HF.out V4 HB4.out).2)
    | (go_at_call 9; have HB4x := HB4; refine (HM.out V4 (-5) true HN.out (wk_may5 _) HB4.out).mono ?_; rintro e V5 ⟨rfl, hb⟩; have HB5 := hide hb; clear hb HB4 q0 q1 q2 q3 q4 q5; obtain ⟨q0, q1, q2, q3, q4, q5⟩ := ac6 (HF.out V5 HB5.out).2)
    | (go_at_call 9; refine (HM.out V5 (-6) false HN6.out (wk_may6 _) HB5.out).mono ?_; rintro e V6 ⟨rfl, hb⟩; have HB6 := hide hb; clear hb)
    | fail)
  go_ret
  exact ⟨rfl, HB.out.trans (HB6.out.mono HB.out.size)⟩
end Go.Proofs.YtfdanocpbhbieaaGreat
