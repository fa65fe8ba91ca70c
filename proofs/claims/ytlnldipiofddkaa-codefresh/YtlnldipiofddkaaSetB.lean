import Derived.Test.YtlnldipiofddkaaSetA
namespace Go.Proofs.Ytlnldipiofddkaa
open Go.RowKit

/-- The late answers from place j on; those before have gone into the Book. -/
structure Lr (τ : Nat → Nat) (w : World) (t : Nat) (G W : Value) (xs : List Gt) (j : Nat) : Prop where
  blk : w.heap[t]? = some (.cells #[G, W] 77 (0, 0))
  gs : w.ownsRow 0 22 1 G xs.length (xs.map fun x => x.val)
  rows : ∀ i x, j ≤ i → xs[i]? = some x → w.ownsRow 0 5 1 x.val x.l (vals x.ys)
  num : ∀ x ∈ xs, x.l ≤ 140737488355328
  ct : τ t = 6
  cg : ∀ g, G.ownBlock = some g → τ g = 6
  cx : ∀ i x, j ≤ i → xs[i]? = some x → ∀ g, x.val.ownBlock = some g → τ g = 10 + i
theorem Lt.rest {τ : Nat → Nat} {w : World} {t : Nat} {G W : Value} {xs : List Gt} (h : Lt τ w t G W xs) : Lr τ w t G W xs 0 :=
  ⟨h.blk, h.gs, fun _ x _ hx => h.rows x (List.mem_of_getElem? hx), h.num, h.ct, h.cg, fun i x _ hx => h.cx i x hx⟩
theorem Lr.keep {S : Nat → Prop} {τ τ' : Nat → Nat} {w w' : World} {t j j' : Nat} {G W : Value} {xs : List Gt} (h : Lr τ w t G W xs j) (m : Mv S τ w τ' w') (hj : j ≤ j') (h6 : ¬ S 6) (hx : ∀ i, j' ≤ i → ¬ S (10 + i)) : Lr τ' w' t G W xs j' :=
  ⟨(m.block (lt_of_block h.blk) h.ct h6).trans h.blk, owns_kept' h.gs (fun g e => m.block (owns_lt h.gs g e) (h.cg g e) h6),
   fun i x hi hxi => owns_kept' (h.rows i x (by omega) hxi) (fun g e => m.block (owns_lt (h.rows i x (by omega) hxi) g e) (h.cx i x (by omega) hxi g e) (hx i hi)), h.num, m.kind (lt_of_block h.blk) h.ct h6, fun g e => m.kind (owns_lt h.gs g e) (h.cg g e) h6,
   fun i x hi hxi g e => m.kind (owns_lt (h.rows i x (by omega) hxi) g e) (h.cx i x (by omega) hxi g e) (hx i hi)⟩
theorem Lr.empty {τ : Nat → Nat} {w : World} {t j : Nat} {G W : Value} {xs : List Gt} (h : Lr τ w t G W xs j) : Lt τ ((w.setCell ⟨t, 0, none⟩ (.slice none 0 0)).setCell ⟨t, 1, none⟩ (.slice none 0 0)) t (.slice none 0 0) (.slice none 0 0) [] ∧ Mv (fun c => c = 6) τ w τ ((w.setCell ⟨t, 0, none⟩ (.slice none 0 0)).setCell ⟨t, 1, none⟩ (.slice none 0 0)) := by
  have hn : ∀ g, (Value.slice none 0 0).ownBlock = some g → False := fun g e => by simp [Value.ownBlock] at e
  have h1 : (w.setCell ⟨t, 0, none⟩ (.slice none 0 0)).heap[t]? = some (.cells #[.slice none 0 0, W] 77 (0, 0)) := by rw [block_set h.blk]; rfl
  refine ⟨⟨by rw [block_set h1]; rfl, ⟨rfl, Or.inl ⟨rfl, rfl⟩⟩, ⟨rfl, Or.inl ⟨rfl, rfl⟩⟩, fun g e => (hn g e).elim, by simp, by simp, by simp, by simp, h.ct, fun g e => (hn g e).elim, fun g e => (hn g e).elim, by simp⟩, ?_⟩
  exact Mv.same (kept_but (((But.refl t w).setCell (p := ⟨t, 0, none⟩) (Or.inl rfl) _).setCell (p := ⟨t, 1, none⟩) (Or.inl rfl) _)) (fun k _ e => by rw [e]; exact h.ct)

/-- What Settle leaves. -/
structure Settled (τ : Nat → Nat) (w : World) (t b n m : Nat) (xs : List Gt) (τ' : Nat → Nat) (w' : World) (G W L M : Value) (A turn done used : Nat) (ks : List Kl) (n' : Nat) (xs' : List Gt) : Prop where
  lt : Lt τ' w' t G W xs'
  bt : Bt τ' w' b L M A turn done used ks
  jn : Jn A turn done used ks n'
  mv : Mv (fun c => c = 5 ∨ c = 6 ∨ 10 ≤ c) τ w τ' w'
  sum : n' + xs'.length ≤ n + xs.length
  few : xs'.length < m ∨ xs' = []

set_option maxRecDepth 100000 in
set_option maxHeartbeats 2000000 in
theorem late_settle (τ : Nat → Nat) (w : World) (t : Nat) (G W : Value) (xs : List Gt) (b : Nat) (L M : Value) (A turn done used : Nat) (ks : List Kl) (n m : Nat) (h : Lt τ w t G W xs) (hb : Bt τ w b L M A turn done used ks) (j : Jn A turn done used ks n) (hn : n + xs.length ≤ 5000) (_hm : m ≤ 1000) :
    Calls Try.prog 32 #[.pointer (some ⟨t, 0, none⟩), .pointer (some ⟨b, 0, none⟩), .int .i64 m] w fun e w' => e = .returned (.bool true) ∧ ∃ τ' G' W' L' M' A' turn' done' used' ks' n' xs', Settled τ w t b n m xs τ' w' G' W' L' M' A' turn' done' used' ks' n' xs' := by
  have HL := hide h
  have HB := hide hb
  have HJ := hide j
  obtain ⟨q0, q1, qf⟩ := blk2 h.blk
  obtain ⟨lp, lc, hG⟩ : ∃ p c, G = .slice p xs.length c := by
    rcases h.gs.2 with ⟨h1, h2⟩ | ⟨g, cap, cur, h1, _⟩
    · exact ⟨none, 0, by rw [h1, h2]⟩
    · exact ⟨_, cap, h1⟩
  subst hG
  clear h hb j
  by_cases hlt : xs.length < m
  · have l0 : (xs.length : Int) < (m : Int) := by omega
    have HLt := hide hlt
    go_enter Try.func32, Try.ntmps32
    go_wp2
    go_ret
    exact ⟨rfl, τ, _, W, L, M, A, turn, done, used, ks, n, xs, HL.out, HB.out, HJ.out, Mv.refl _ _ _, Nat.le_refl _, Or.inl HLt.out⟩
  · have l0 : ¬ (xs.length : Int) < (m : Int) := by omega
    go_enter Try.func32, Try.ntmps32
    go_wp2_with fail
    refine (late_same τ w t _ W xs HL.out (by omega)).mono ?_
    rintro e w1 ⟨rfl, q, rfl⟩
    have HM1 : Hid (Mv (fun c => c = 5 ∨ 10 ≤ c) τ w τ (w.drewN q)) := Mv.same (kept_below (S := fun _ => False) (bad_drews w q)) (fun _ _ e => e.elim)
    have HR1 := hide (HL.out.rest.keep (S := fun _ => False) (τ' := τ) (Mv.same (kept_below (S := fun _ => False) (bad_drews w q)) (fun _ _ e => e.elim)) (Nat.le_refl 0) (fun e => e) (fun _ _ e => e))
    have HB1 := hide (HB.out.keep (S := fun _ => False) (τ' := τ) (Mv.same (kept_below (S := fun _ => False) (bad_drews w q)) (fun _ _ e => e.elim)) (fun e => e))
    generalize w.drewN q = w1 at *
    go_wp2
    go_loopw [7] (fun i wr => ∃ (k : Nat) (τ1 : Nat → Nat) (L1 M1 : Value) (turn1 used1 : Nat) (ks1 : List Kl), k ≤ xs.length ∧ i = .int .i64 k ∧ Hid (Lr τ1 wr t (.slice lp xs.length lc) W xs k) ∧ Hid (Bt τ1 wr b L1 M1 A turn1 done used1 ks1) ∧ Hid (Jn A turn1 done used1 ks1 (n + k)) ∧ Hid (Mv (fun c => c = 5 ∨ 10 ≤ c) τ w τ1 wr)) (fun i _ => xs.length - (intOf i).toNat)
    case atStart => exact ⟨0, τ, L, M, turn, used, ks, Nat.zero_le _, rfl, HR1, HB1, HJ, HM1⟩
    case round =>
      clear HR1 HB1 HM1 HB HJ q0 q1 qf
      obtain ⟨k, τ1, L1, M1, turn1, used1, ks1, hk, rfl, HR, HB, HJ, HM⟩ := hrel
      obtain ⟨q0, q1, qf⟩ := blk2 HR.out.blk
      by_cases hkl : k < xs.length
      · have hop : xs[k]? = some (xs[k]'hkl) := List.getElem?_eq_getElem _
        obtain ⟨gl, _, hgl, cl⟩ := row_cell HR.out.gs (k := k) (a := (xs[k]'hkl).val) (by simp [hop])
        cases hgl
        have hx := HR.out.rows k _ (Nat.le_refl k) hop
        have hnum := HR.out.num _ (List.mem_of_getElem? hop)
        have hcx := HR.out.cx k _ (Nat.le_refl k) hop
        generalize xs[k]'hkl = x at *
        obtain ⟨p, l, c, ys, wp, wc⟩ := x
        simp only [Gt.val] at cl hx hnum hcx
        clear hop
        have HC := hide (bt_bytes τ1 wr b L1 M1 A turn1 done used1 ks1 (n + k) (10 + k) p l c ys HB.out HJ.out (by omega) hx (by omega) hcx hnum)
        clear hx hcx
        have l1 : (k : Int) < (xs.length : Int) := by omega
        have l2 : (0 : Int) ≤ (k : Int) := by omega
        go_wp2_with fail
        refine HC.out.mono ?_
        rintro e w2 ⟨rfl, L2, M2, turn2, used2, ks2, hb2, hj2, hm2⟩
        have HB2 := hide hb2
        have HJ2 := hide hj2
        have HM2 := hide (HM.out.trans hm2 (fun c e => by rcases e with e | e; exact Or.inl e; exact Or.inr (by omega)))
        have HR2 := hide (HR.out.keep hm2 (Nat.le_succ k) (by omega) (fun i hi => by omega))
        clear hb2 hj2 hm2 HC
        go_wp2
        go_roundw
        case rel => exact ⟨k + 1, _, L2, M2, turn2, used2, ks2, by omega, by go_num, HR2, HB2, HJ2, HM2⟩
        case measure => simp [intOf]; omega
      · have l1 : ¬ (k : Int) < (xs.length : Int) := by omega
        have HK : Hid (k = xs.length) := by show _ = _; omega
        have q1' : (wr.setCell ⟨t, 0, none⟩ (.slice none 0 0)).heap[t]? = some (.cells #[.slice none 0 0, W] 77 (0, 0)) := by rw [block_set HR.out.blk]; rfl
        obtain ⟨s0, s1, sf⟩ := blk2 q1'
        have HE := hide HR.out.empty
        have HB3 := hide (HB.out.keep HE.out.2 (by omega))
        have HC := hide (bt_look τ1 _ b L1 M1 A turn1 done used1 ks1 (n + k) HB3.out HJ.out (by omega))
        clear q1'
        go_wp2_with fail
        refine HC.out.mono ?_
        rintro e w4 ⟨rfl, L4, M4, A4, done4, ks4, hb4, hj4, hm4⟩
        have HF : Hid (Settled τ w t b n m xs (ext τ1 ((wr.setCell ⟨t, 0, none⟩ (.slice none 0 0)).setCell ⟨t, 1, none⟩ (.slice none 0 0)).heap.size 5) w4 (.slice none 0 0) (.slice none 0 0) L4 M4 A4 turn1 done4 used1 ks4 (n + k) []) :=
          ⟨HE.out.1.keep hm4 (by omega) (by simp), hb4, hj4, (((HM.out.imp (T := fun c => c = 5 ∨ c = 6 ∨ 10 ≤ c) (fun c e => by omega)).trans HE.out.2 (fun c e => by omega)).trans hm4 (fun c e => by omega)), by have := HK.out; simp; omega, Or.inr rfl⟩
        clear hb4 hj4 hm4
        go_wp2
        go_ret
        exact ⟨rfl, _, _, _, _, _, _, _, _, _, _, _, _, HF.out⟩

end Go.Proofs.Ytlnldipiofddkaa
