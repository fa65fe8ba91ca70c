import Derived.Test.YthgggjdefhgfiaaHLook
namespace Go.Proofs.Ythgggjdefhgfiaa.Q
open Go.RowKit

def PS2 (q : Nat × Nat) : Prop := q = (5, 1) ∨ q = (5, 2) ∨ q.1 = 6 ∨ q.1 = 7
theorem ps_pb2 {k : Nat} : ∀ q, PB (PL k) q → PS2 q := by
  rintro q (e | e | e | e)
  · exact Or.inl e
  · exact Or.inr (Or.inl e)
  · exact Or.inr (Or.inl e)
  · exact Or.inr (Or.inr (Or.inr e.1))
set_option maxRecDepth 100000 in
set_option maxHeartbeats 2000000 in
theorem late_settle2 (K : Knd) (w : World) (t : Nat) (G W : Value) (xs : List Gt) (b : Nat) (L M : Value) (A turn done used : Nat) (ks : List Kl) (n : Nat) (h : Lt K w t G W xs) (hb : Bt (fun q => q = (5, 2)) K w b L M A turn done used ks) (j : Jn A turn done used ks n) (hn : n + xs.length ≤ 5000) :
    Calls Try.prog 24 #[.pointer (some ⟨t, 0, none⟩), .pointer (some ⟨b, 0, none⟩), .int .i64 0] w fun e w' => e = .returned (.bool true) ∧ ∃ K' L' M' A' turn' done' used' ks' n', Bt (PL xs.length) K' w' b L' M' A' turn' done' used' ks' ∧ Jn A' turn' done' used' ks' n' ∧ Kp PS2 K K' w w' := by
  have HL := hide h
  have HB := hide (hb.imp (P' := PL 0) (fun q e => Or.inl e))
  have HJ := hide j
  obtain ⟨q0, q1, qf⟩ := blk2 h.blk
  obtain ⟨lp, lc, hG⟩ := owns_form h.gs
  subst hG
  clear h hb j
  have l0 : ¬ (xs.length : Int) < 0 := by omega
  go_enter Try.func24, Try.ntmps24
  go_wp2_with fail
  refine (late_same K w t _ W xs HL.out (by omega)).mono ?_
  rintro e w1 ⟨rfl, q, rfl⟩
  have HM1 : Hid (Kp PS2 K K w (w.drewN q)) := ⟨rfl, rfl, rfl, Nat.le_refl _, fun _ _ => rfl, fun _ _ _ => rfl⟩
  have HR1 := hide (HL.out.rest.keep (p := fun _ => False) (K' := K) (w' := w.drewN q) ⟨rfl, rfl, rfl, Nat.le_refl _, fun _ _ => rfl, fun _ _ _ => rfl⟩ (Nat.le_refl 0) (fun e => e) (fun _ _ e => e))
  have HB1 := hide (HB.out.keep (p := fun _ => False) (K' := K) (w' := w.drewN q) ⟨rfl, rfl, rfl, Nat.le_refl _, fun _ _ => rfl, fun _ _ _ => rfl⟩ (fun e => e) (fun e => e) (fun _ _ e => e))
  generalize w.drewN q = w1 at *
  go_wp2
  go_loopw [7] (fun i wr => ∃ (k : Nat) (K1 : Knd) (L1 M1 : Value) (turn1 used1 : Nat) (ks1 : List Kl), k ≤ xs.length ∧ i = .int .i64 k ∧ Hid (Lr K1 wr t (.slice lp xs.length lc) W xs k) ∧ Hid (Bt (PL k) K1 wr b L1 M1 A turn1 done used1 ks1) ∧ Hid (Jn A turn1 done used1 ks1 (n + k)) ∧ Hid (Kp PS2 K K1 w wr)) (fun i _ => xs.length - (intOf i).toNat)
  case atStart => exact ⟨0, K, L, M, turn, used, ks, Nat.zero_le _, rfl, HR1, HB1, HJ, HM1⟩
  case round =>
    clear HR1 HB1 HM1 HB HJ q0 q1 qf
    obtain ⟨k, K1, L1, M1, turn1, used1, ks1, hk, rfl, HR, HB, HJ, HM⟩ := hrel
    obtain ⟨q0, q1, qf⟩ := blk2 HR.out.blk
    by_cases hkl : k < xs.length
    · have hop : xs[k]? = some (xs[k]'hkl) := List.getElem?_eq_getElem _
      obtain ⟨gl, _, hgl, cl⟩ := row_cell HR.out.gs (k := k) (a := (xs[k]'hkl).val) (by simp [hop])
      cases hgl
      have hx := HR.out.rows k _ (Nat.le_refl k) hop
      have hnum := HR.out.num _ (List.mem_of_getElem? hop)
      have hcx := HR.out.cx k _ (Nat.le_refl k) hop
      generalize xs[k]'hkl = x at *
      obtain ⟨p, l, c, ys, wp, wc⟩ := x
      simp only [Gt.val] at cl hx hnum hcx
      clear hop
      have HC := hide (bt_bytes (PL (k + 1)) K1 wr b L1 M1 A turn1 done used1 ks1 (n + k) p l c ys (HB.out.imp (fun q e => e.imp id (fun e => ⟨e.1, by omega⟩))) HJ.out (by omega) hx (fun x hx' g e e' => by
        have h1 := hcx g e
        rcases HB.out.ck x hx' g e' with h2 | h2
        · rw [h1] at h2; simp at h2
        · rw [h1] at h2; have := h2.2; simp at this) (fun g e => by rw [hcx g e]; exact Or.inr ⟨rfl, by show k < k + 1; omega⟩) hnum)
      clear hx hcx
      have l1 : (k : Int) < (xs.length : Int) := by omega
      have l2 : (0 : Int) ≤ (k : Int) := by omega
      go_wp2_with fail
      refine HC.out.mono ?_
      rintro e w2 ⟨rfl, L2, M2, turn2, used2, ks2, hb2, hj2, hm2⟩
      have HB2 := hide hb2
      have HJ2 := hide hj2
      have HM2 := hide (HM.out.trans (hm2.mono ps_pb2))
      have HR2 := hide (HR.out.keep hm2 (Nat.le_succ k) (by rintro (e | e | e | e) <;> simp at e) (fun i hi => by
        rintro (e | e | e | e)
        · simp at e
        · simp at e
        · simp at e
        · have := e.2; simp at this; omega))
      clear hb2 hj2 hm2 HC
      go_wp2
      go_roundw
      case rel => exact ⟨k + 1, _, L2, M2, turn2, used2, ks2, by omega, by go_num, HR2, HB2, HJ2, HM2⟩
      case measure => simp [intOf]; omega
    · have l1 : ¬ (k : Int) < (xs.length : Int) := by omega
      have q1' : (wr.setCell ⟨t, 0, none⟩ (.slice none 0 0)).heap[t]? = some (.cells #[.slice none 0 0, W] 66 (0, 0)) := by rw [block_set HR.out.blk]; rfl
      obtain ⟨s0, s1, sf⟩ := blk2 q1'
      have HE : Hid (Kp (fun q => q = (6, 0)) K1 K1 wr ((wr.setCell ⟨t, 0, none⟩ (.slice none 0 0)).setCell ⟨t, 1, none⟩ (.slice none 0 0))) := ((Kp.refl (fun q => q = (6, 0)) K1 wr).setCell (Or.inr HR.out.ct) _ _).setCell (Or.inr HR.out.ct) _ _
      have HB3 := hide (HB.out.keep HE.out (by simp) (by simp) (fun q e e' => by subst e'; rcases e with e | e; simp at e; have := e.1; simp at this))
      have HC := hide (bt_look (PL k) (Or.inl rfl) K1 _ b L1 M1 A turn1 done used1 ks1 (n + k) HB3.out HJ.out (by omega))
      clear q1'
      go_wp2_with fail
      refine HC.out.mono ?_
      rintro e w4 ⟨rfl, L4, M4, A4, done4, ks4, hb4, hj4, hm4⟩
      have HB4 := hide (hb4.imp (P' := PL xs.length) (fun q e => e.imp id (fun e => ⟨e.1, by omega⟩)))
      have HJ4 := hide hj4
      have HF := hide ((HM.out.trans (HE.out.mono (q := PS2) (fun q e => by subst e; exact Or.inr (Or.inr (Or.inl rfl))))).trans (hm4.mono ps_pb2))
      clear hb4 hj4 hm4
      go_wp2
      go_ret
      exact ⟨rfl, _, _, _, _, _, _, _, _, _, HB4.out, HJ4.out, HF.out⟩

end Go.Proofs.Ythgggjdefhgfiaa.Q
namespace Go.Proofs.Ythgggjdefhgfiaa
open Go.RowKit Go.Maps

theorem Rk.relab {K K' : Knd} {w : World} {k : Nat × Nat} {e : TypeId} {s n : Nat} {v : Value} {xs : List Value} (h : Rk w K k e s v n xs) (hK : ∀ b, (K b).1 ≠ 7 → K' b = K b) (hk : k.1 ≠ 7) : Rk w K' k e s v n xs := ⟨h.own, fun g hg => (hK g (by rw [h.kind g hg]; exact hk)).trans (h.kind g hg)⟩
theorem Nk.relab {K K' : Knd} {w : World} {o nb : Nat} {N : Nt} (h : Nk w K o nb N) (hK : ∀ b, (K b).1 ≠ 7 → K' b = K b) (ho : o ≠ 7) : Nk w K' o nb N := by
  obtain ⟨rv, h⟩ := h
  exact ⟨rv, h.blk, (hK _ (by rw [h.kn]; exact ho)).trans h.kn, h.row.relab hK ho⟩
theorem Fk.relab {K K' : Knd} {w : World} {o nb : Nat} {N : Nt} (h : Fk w K o nb N) (hK : ∀ b, (K b).1 ≠ 7 → K' b = K b) (ho : o ≠ 7) : Fk w K' o nb N := by
  obtain ⟨rv, ds, h⟩ := h
  exact ⟨rv, ds, h.blk, (hK _ (by rw [h.kn]; exact ho)).trans h.kn, h.len, h.row.relab hK ho, fun i m d hm hd => by
    have q := h.bys i m d hm hd
    exact ⟨q.by_, fun g e => ⟨(hK g (by rw [(q.kind g e).1]; exact ho)).trans (q.kind g e).1, (q.kind g e).2⟩, q.le, q.max⟩⟩
/-- Behind Settle: the answers are the Book's. -/
theorem Sg.settled {K K' : Knd} {w w' : World} {sb bb M : Nat} {x : Nat → Option Sl} {bm : Bm} (h : Sg w K sb bb M x bm) (hk : Kp Q.PS2 K K' w w') {L' M' : Value} {A' turn' done' used' n' k : Nat} {ks' : List Q.Kl} (hb : Q.Bt (Q.PL k) K' w' bb L' M' A' turn' done' used' ks') (hj : Q.Jn A' turn' done' used' ks' n') : ∃ K'' bm', Sg w' K'' sb bb M x bm' := by
  have hsl := lt_of_block h.blk
  have hks : w'.heap[sb]? = w.heap[sb]? := hk.block sb hsl (by rw [h.ks]; rintro (e | e | e | e) <;> simp at e)
  refine ⟨fun b => if (K' b).1 = 7 then (5, 2) else K' b, ⟨bm.on, L', M', A', turn', done', used', ks', n'⟩, ?_⟩
  have hK : ∀ b, (K' b).1 ≠ 7 → (fun b => if (K' b).1 = 7 then (5, 2) else K' b) b = K' b := fun b hb => if_neg hb
  have hsb : K' sb = (5, 0) := (hk.same sb hsl).trans h.ks
  refine ⟨hks.trans h.blk, (hK sb (by rw [hsb]; decide)).trans hsb, ⟨hb.bk, (hK bb (by rw [hb.cb]; decide)).trans hb.cb, fun g e => (hK g (by rw [hb.cl g e]; decide)).trans (hb.cl g e), fun g e => (hK g (by rw [hb.cm g e]; decide)).trans (hb.cm g e), fun y hy g e => ?_⟩, hj, fun i s hi e => ?_⟩
  · show (if (K' g).1 = 7 then (5, 2) else K' g) = (5, 2)
    rcases hb.ck y hy g e with h1 | h1
    · rw [h1]; rfl
    · rw [if_pos h1.1]
  · have q := (h.ok i s hi e).kept hk (fun j e => by rcases e with e | e | e | e <;> simp at e <;> omega) (fun j e => by rcases e with e | e | e | e <;> simp at e <;> omega)
    exact ⟨q.net.relab hK (by omega), q.doc.relab hK (by omega), q.room, q.le, q.lost, q.small⟩

/-- While the others are taken out: those from i on are as they were. -/
structure Hr (w : World) (K : Knd) (sb bb lb M : Nat) (x : Nat → Option Sl) (bm : Bm) (G W : Value) (xs : List Q.Gt) (V : Value) (ns : List Nat) (i : Nat) : Prop where
  sg : Sg w K sb bb M x bm
  lt : Q.Lt K w lb G W xs
  row : Rk w K (9, 0) 51 1 V ns.length (ns.map fun b => .pointer (some ⟨b, 0, none⟩))
  net : ∀ t b, i ≤ t → ns[t]? = some b → Nk w K (100 + t) b (oN t)
theorem Hd.rest {w : World} {K : Knd} {sb bb lb pb M : Nat} {x : Nat → Option Sl} {bm : Bm} {G W : Value} {xs : List Q.Gt} {V : Value} {ns : List Nat} (h : Hd w K sb bb lb pb M x bm G W xs V ns) : Hr w K sb bb lb M x bm G W xs V ns 0 := ⟨h.sg, h.lt, h.ot.row, fun t b _ e => h.ot.net t b e⟩
theorem Hr.below {w w' : World} {K : Knd} {sb bb lb M : Nat} {x : Nat → Option Sl} {bm : Bm} {G W : Value} {xs : List Q.Gt} {V : Value} {ns : List Nat} {i : Nat} (h : Hr w K sb bb lb M x bm G W xs V ns i) (hb : Below w.heap.size w w') : Hr w' (ext K w.heap.size (0, 0)) sb bb lb M x bm G W xs V ns i := by
  have hk := kp_below hb (fun _ => False) K (0, 0)
  exact ⟨h.sg.kept hk (fun _ _ h => h), h.lt.keep hk (fun h => h) (fun _ _ h => h), h.row.kept hk (fun h => h), fun t b ht e => (h.net t b ht e).kept hk (fun _ h => h)⟩
theorem Hr.took {w w' : World} {K K' : Knd} {sb bb lb M : Nat} {x : Nat → Option Sl} {bm : Bm} {G W : Value} {xs : List Q.Gt} {V : Value} {ns : List Nat} {i : Nat} (h : Hr w K sb bb lb M x bm G W xs V ns i) (hk : Kp (P100 i) K K' w w') : Hr w' K' sb bb lb M x bm G W xs V ns (i + 1) := by
  have no : ∀ a b, a ≠ 100 + i → ¬ P100 i (a, b) := fun a b h1 h2 => h1 h2
  exact ⟨h.sg.kept hk (fun q hq e => by have : q.1 = 100 + i := e; omega), h.lt.keep hk (no _ _ (by omega)) (fun j _ => no _ _ (by omega)), h.row.kept hk (no _ _ (by omega)), fun t b ht e => (h.net t b (by omega) e).kept hk (fun j => no _ _ (by omega))⟩
theorem other_take {w : World} {K : Knd} {i b : Nat} (h : Nk w K (100 + i) b (oN i)) (hi : i < 256) : Calls Try.prog 22 #[.pointer (some ⟨b, 0, none⟩), .int .i64 0] w fun e w' => ∃ p c, e = .returned (.tuple #[.agg #[.int .i64 (i : Int), .slice p 2 c], .bool true]) ∧ Bytes w' p (oxs i) ∧ Kp (P100 i) K (ext K w.heap.size (0, 0)) w w' := by
  have hh : (oN i).has 0 = true := by unfold Nt.has oN; simp
  have hm : (oN i).row[(0 : Int).toNat]? = some ⟨(i : Int), str (oxs i)⟩ := rfl
  have ht : (oN i).tell 0 = ((i : Int), oxs i) := by rw [tell_has hh hm, nums_str (oxs_small i hi)]
  have := Take_u w K (0, 0) (100 + i) b (by show 0 ≠ 100 + i; omega) (oN i) h (by show 1 ≤ 8192; omega) (fun m hm => by simp [oN] at hm; subst hm; show (str (oxs i)).size ≤ 4096; rw [str_size (oxs_small i hi)]; show 2 ≤ 4096; omega) 0
  unfold TkU at this
  rw [ht, hh] at this
  refine this.mono ?_
  rintro e w' ⟨p, c, rfl, h1, h2, _, h3⟩
  exact ⟨p, c, rfl, bq_bytes h1 h2, h3.mono (fun q e => by rcases e with e | e <;> (subst e; rfl))⟩

end Go.Proofs.Ythgggjdefhgfiaa
