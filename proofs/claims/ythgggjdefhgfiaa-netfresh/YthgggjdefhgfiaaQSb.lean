import Derived.Test.YthgggjdefhgfiaaQSa
namespace Go.Proofs.Ythgggjdefhgfiaa.Q
open Go.RowKit

/-- The late answers from place j on; those before have gone into the Book. -/
structure Lr (K : Knd) (w : World) (t : Nat) (G W : Value) (xs : List Gt) (j : Nat) : Prop where
  blk : w.heap[t]? = some (.cells #[G, W] 66 (0, 0))
  gs : ownsQ false w 0 59 1 G xs.length (xs.map fun x => x.val)
  rows : ∀ i x, j ≤ i → xs[i]? = some x → ownsQ true w 0 5 1 x.val x.l (vals x.ys)
  num : ∀ x ∈ xs, x.l ≤ 140737488355328
  ct : K t = (6, 0)
  cg : ∀ g, G.ownBlock = some g → K g = (6, 0)
  cx : ∀ i x, j ≤ i → xs[i]? = some x → ∀ g, x.val.ownBlock = some g → K g = (7, i)
theorem Lt.rest {K : Knd} {w : World} {t : Nat} {G W : Value} {xs : List Gt} (h : Lt K w t G W xs) : Lr K w t G W xs 0 :=
  ⟨h.blk, h.gs, fun _ x _ hx => h.rows x (List.mem_of_getElem? hx), h.num, h.ct, h.cg, fun i x _ hx => h.cx i x hx⟩
theorem Lr.keep {p : Nat × Nat → Prop} {K K' : Knd} {w w' : World} {t j j' : Nat} {G W : Value} {xs : List Gt} (h : Lr K w t G W xs j) (m : Kp p K K' w w') (hj : j ≤ j') (h6 : ¬ p (6, 0)) (hx : ∀ i, j' ≤ i → ¬ p (7, i)) : Lr K' w' t G W xs j' :=
  ⟨(kpb m (lt_of_block h.blk) h.ct h6).trans h.blk, owns_kept' h.gs (fun g e => kpb m (owns_lt h.gs g e) (h.cg g e) h6),
   fun i x hi hxi => owns_kept' (h.rows i x (by omega) hxi) (fun g e => kpb m (owns_lt (h.rows i x (by omega) hxi) g e) (h.cx i x (by omega) hxi g e) (hx i hi)), h.num, kpk m (lt_of_block h.blk) h.ct, fun g e => kpk m (owns_lt h.gs g e) (h.cg g e),
   fun i x hi hxi g e => kpk m (owns_lt (h.rows i x (by omega) hxi) g e) (h.cx i x (by omega) hxi g e)⟩
/-- What a Book keeps while k late answers have gone into it. -/
def PL (k : Nat) (q : Nat × Nat) : Prop := q = (5, 2) ∨ (q.1 = 7 ∧ q.2 < k)
def PS (q : Nat × Nat) : Prop := q.1 = 5 ∨ q.1 = 6 ∨ q.1 = 7
theorem ps_pb {k : Nat} : ∀ q, PB (PL k) q → PS q := by
  rintro q (e | e | e | e)
  · subst e; exact Or.inl rfl
  · subst e; exact Or.inl rfl
  · subst e; exact Or.inl rfl
  · exact Or.inr (Or.inr e.1)

set_option maxRecDepth 100000 in
set_option maxHeartbeats 2000000 in
theorem late_settle (K : Knd) (w : World) (t : Nat) (G W : Value) (xs : List Gt) (b : Nat) (L M : Value) (A turn done used : Nat) (ks : List Kl) (n : Nat) (h : Lt K w t G W xs) (hb : Bt (fun q => q = (5, 2)) K w b L M A turn done used ks) (j : Jn A turn done used ks n) (hn : n + xs.length ≤ 5000) :
    Calls Try.prog 24 #[.pointer (some ⟨t, 0, none⟩), .pointer (some ⟨b, 0, none⟩), .int .i64 0] w fun e w' => e = .returned (.bool true) ∧ ∃ K', Kp PS K K' w w' := by
  have HL := hide h
  have HB := hide (hb.imp (P' := PL 0) (fun q e => Or.inl e))
  have HJ := hide j
  obtain ⟨q0, q1, qf⟩ := blk2 h.blk
  obtain ⟨lp, lc, hG⟩ := owns_form h.gs
  subst hG
  clear h hb j
  have l0 : ¬ (xs.length : Int) < 0 := by omega
  go_enter Try.func24, Try.ntmps24
  go_wp2_with fail
  refine (late_same K w t _ W xs HL.out (by omega)).mono ?_
  rintro e w1 ⟨rfl, q, rfl⟩
  have HM1 : Hid (Kp PS K K w (w.drewN q)) := ⟨rfl, rfl, rfl, Nat.le_refl _, fun _ _ => rfl, fun _ _ _ => rfl⟩
  have HR1 := hide (HL.out.rest.keep (p := fun _ => False) (K' := K) (w' := w.drewN q) ⟨rfl, rfl, rfl, Nat.le_refl _, fun _ _ => rfl, fun _ _ _ => rfl⟩ (Nat.le_refl 0) (fun e => e) (fun _ _ e => e))
  have HB1 := hide (HB.out.keep (p := fun _ => False) (K' := K) (w' := w.drewN q) ⟨rfl, rfl, rfl, Nat.le_refl _, fun _ _ => rfl, fun _ _ _ => rfl⟩ (fun e => e) (fun e => e) (fun _ _ e => e))
  generalize w.drewN q = w1 at *
  go_wp2
  go_loopw [7] (fun i wr => ∃ (k : Nat) (K1 : Knd) (L1 M1 : Value) (turn1 used1 : Nat) (ks1 : List Kl), k ≤ xs.length ∧ i = .int .i64 k ∧ Hid (Lr K1 wr t (.slice lp xs.length lc) W xs k) ∧ Hid (Bt (PL k) K1 wr b L1 M1 A turn1 done used1 ks1) ∧ Hid (Jn A turn1 done used1 ks1 (n + k)) ∧ Hid (Kp PS K K1 w wr)) (fun i _ => xs.length - (intOf i).toNat)
  case atStart => exact ⟨0, K, L, M, turn, used, ks, Nat.zero_le _, rfl, HR1, HB1, HJ, HM1⟩
  case round =>
    clear HR1 HB1 HM1 HB HJ q0 q1 qf
    obtain ⟨k, K1, L1, M1, turn1, used1, ks1, hk, rfl, HR, HB, HJ, HM⟩ := hrel
    obtain ⟨q0, q1, qf⟩ := blk2 HR.out.blk
    by_cases hkl : k < xs.length
    · have hop : xs[k]? = some (xs[k]'hkl) := List.getElem?_eq_getElem _
      obtain ⟨gl, _, hgl, cl⟩ := row_cell HR.out.gs (k := k) (a := (xs[k]'hkl).val) (by simp [hop])
      cases hgl
      have hx := HR.out.rows k _ (Nat.le_refl k) hop
      have hnum := HR.out.num _ (List.mem_of_getElem? hop)
      have hcx := HR.out.cx k _ (Nat.le_refl k) hop
      generalize xs[k]'hkl = x at *
      obtain ⟨p, l, c, ys, wp, wc⟩ := x
      simp only [Gt.val] at cl hx hnum hcx
      clear hop
      have HC := hide (bt_bytes (PL (k + 1)) K1 wr b L1 M1 A turn1 done used1 ks1 (n + k) p l c ys (HB.out.imp (fun q e => e.imp id (fun e => ⟨e.1, by omega⟩))) HJ.out (by omega) hx (fun x hx' g e e' => by
        have h1 := hcx g e
        rcases HB.out.ck x hx' g e' with h2 | h2
        · rw [h1] at h2; simp at h2
        · rw [h1] at h2; have := h2.2; simp at this) (fun g e => by rw [hcx g e]; exact Or.inr ⟨rfl, by show k < k + 1; omega⟩) hnum)
      clear hx hcx
      have l1 : (k : Int) < (xs.length : Int) := by omega
      have l2 : (0 : Int) ≤ (k : Int) := by omega
      go_wp2_with fail
      refine HC.out.mono ?_
      rintro e w2 ⟨rfl, L2, M2, turn2, used2, ks2, hb2, hj2, hm2⟩
      have HB2 := hide hb2
      have HJ2 := hide hj2
      have HM2 := hide (HM.out.trans (hm2.mono ps_pb))
      have HR2 := hide (HR.out.keep hm2 (Nat.le_succ k) (by rintro (e | e | e | e) <;> simp at e) (fun i hi => by
        rintro (e | e | e | e)
        · simp at e
        · simp at e
        · simp at e
        · have := e.2; simp at this; omega))
      clear hb2 hj2 hm2 HC
      go_wp2
      go_roundw
      case rel => exact ⟨k + 1, _, L2, M2, turn2, used2, ks2, by omega, by go_num, HR2, HB2, HJ2, HM2⟩
      case measure => simp [intOf]; omega
    · have l1 : ¬ (k : Int) < (xs.length : Int) := by omega
      have q1' : (wr.setCell ⟨t, 0, none⟩ (.slice none 0 0)).heap[t]? = some (.cells #[.slice none 0 0, W] 66 (0, 0)) := by rw [block_set HR.out.blk]; rfl
      obtain ⟨s0, s1, sf⟩ := blk2 q1'
      have HE : Hid (Kp (fun q => q = (6, 0)) K1 K1 wr ((wr.setCell ⟨t, 0, none⟩ (.slice none 0 0)).setCell ⟨t, 1, none⟩ (.slice none 0 0))) := ((Kp.refl (fun q => q = (6, 0)) K1 wr).setCell (Or.inr HR.out.ct) _ _).setCell (Or.inr HR.out.ct) _ _
      have HB3 := hide (HB.out.keep HE.out (by simp) (by simp) (fun q e e' => by subst e'; rcases e with e | e; simp at e; have := e.1; simp at this))
      have HC := hide (bt_look (PL k) (Or.inl rfl) K1 _ b L1 M1 A turn1 done used1 ks1 (n + k) HB3.out HJ.out (by omega))
      clear q1'
      go_wp2_with fail
      refine HC.out.mono ?_
      rintro e w4 ⟨rfl, L4, M4, A4, done4, ks4, hb4, hj4, hm4⟩
      have HF := hide ((HM.out.trans (HE.out.mono (q := PS) (fun q e => by subst e; exact Or.inr (Or.inl rfl)))).trans (hm4.mono ps_pb))
      clear hb4 hj4 hm4
      go_wp2
      go_ret
      exact ⟨rfl, _, HF.out⟩

end Go.Proofs.Ythgggjdefhgfiaa.Q
