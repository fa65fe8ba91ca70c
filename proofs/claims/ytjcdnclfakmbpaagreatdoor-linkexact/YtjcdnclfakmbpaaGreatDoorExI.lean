import Derived.Test.YtjcdnclfakmbpaaGreatDoorExE
import Derived.Test.YtjcdnclfakmbpaaGreatDoorRfD
import Derived.Deep.AppendLies
namespace Go.Proofs.YtjcdnclfakmbpaaGreatDoor
open Go.RowKit
theorem mid_win (L : Lk) : (midO L).length ≤ L.window.toNat + 1 := by
  have h1 := outs_len L (tmL L) L.gone (inWin L)
  have h2 : (inWin L).length ≤ L.window.toNat := by
    unfold inWin; split
    · simp
    · exact List.length_take_le _ _
  unfold midO
  split
  · split
    · simp
    · simp
  · show (bodO L).length ≤ _
    unfold bodO
    omega
theorem mine_row2 {w : World} {B : Nat} {sp : Option Addr} {E : List Nat} (h : C.Mine B w sp E) (hl : E.length ≤ 140737488351232) : w.ownsRow B 5 1 (.slice sp E.length E.length) E.length (vals E) := by
  rcases h with ⟨e1, e2⟩ | ⟨g, e1, e2, e3⟩
  · subst e1; subst e2; exact ⟨rfl, Or.inl ⟨rfl, rfl⟩⟩
  · subst e1
    exact ⟨by simp [vals], Or.inr ⟨g, E.length, _, rfl, e2, e3, Nat.le_refl _, by unfold maxLen; omega, by simp [C.vals], by
      simp [C.vals, vals]
      exact List.take_of_length_le (by simp)⟩⟩
structure To (w : World) (K : Knd) (B : Nat) (a : Option Addr) (q c : Nat) (vs : List Value) (ps : List (List Nat)) : Prop where
  row : Q.ownsQ false w 0 31 1 (.slice a q c) q vs
  len : ps.length = q
  el : ∀ (i : Nat) (p : List Nat), ps[i]? = some p → ∃ sp, vs[i]? = some (.slice sp p.length p.length) ∧ Q.ownsQ true w 0 5 1 (.slice sp p.length p.length) p.length (vals p) ∧ (∀ x ∈ p, x < 256)
  dis : ∀ (i j : Nat) (u v : Value), i < j → vs[i]? = some u → vs[j]? = some v → Q.Far v u
  rk : ∀ g, (Value.slice a q c).ownBlock = some g → B ≤ g ∧ K g = (5, 4)
  vk : ∀ v ∈ vs, ∀ g, v.ownBlock = some g → B ≤ g ∧ K g = (5, 2)
theorem To.kp {w w2 : World} {K K' : Knd} {B : Nat} {a : Option Addr} {q c : Nat} {vs : List Value} {ps : List (List Nat)} {p : Nat × Nat → Prop} (h : To w K B a q c vs ps) (m : Kp p K K' w w2) (h2 : ¬ p (5, 2)) (h4 : ¬ p (5, 4)) : To w2 K' B a q c vs ps := by
  have hvl : ∀ v ∈ vs, ∀ g, v.ownBlock = some g → g < w.heap.size := fun v hv g e => by
    obtain ⟨i, hi⟩ := List.getElem?_of_mem hv
    have hil := (List.getElem?_eq_some_iff.1 hi).1
    have hq : i < ps.length := by rw [h.len]; have := h.row.1; omega
    obtain ⟨sp, q1, q2, _⟩ := h.el i _ (List.getElem?_eq_getElem hq)
    rw [hi] at q1; injection q1 with q1; subst q1
    exact Q.owns_lt q2 g e
  refine ⟨Q.owns_kept' h.row (fun g e => m.block g (Q.owns_lt h.row g e) (by rw [(h.rk g e).2]; exact h4)), h.len, fun i p hp => ?_, h.dis, fun g e => ⟨(h.rk g e).1, (m.same g (Q.owns_lt h.row g e)).trans (h.rk g e).2⟩, fun v hv g e => ⟨(h.vk v hv g e).1, (m.same g (hvl v hv g e)).trans (h.vk v hv g e).2⟩⟩
  obtain ⟨sp, q1, q2, q3⟩ := h.el i p hp
  exact ⟨sp, q1, Q.owns_kept' q2 (fun g e => m.block g (Q.owns_lt q2 g e) (by rw [(h.vk _ (List.mem_of_getElem? q1) g e).2]; exact h2)), q3⟩
structure Td (w : World) (K : Knd) (kd : Nat × Nat) (a : Option Addr) (q c : Nat) (vs : List Value) (ps : List (List Nat)) : Prop where
  row : w.ownsRow 0 31 1 (.slice a q c) q vs
  el : ∀ (i : Nat) (p : List Nat), ps[i]? = some p → ∃ b k, vs[i]? = some (.slice b p.length k) ∧ w.ownsRow 0 5 1 (.slice b p.length k) p.length (vals p) ∧ (∀ x ∈ p, x < 256)
  rk : ∀ g, (Value.slice a q c).ownBlock = some g → K g = kd
  vk : ∀ v ∈ vs, ∀ g, v.ownBlock = some g → K g = kd
theorem Td.kp {w w2 : World} {K K' : Knd} {kd : Nat × Nat} {a : Option Addr} {q c : Nat} {vs : List Value} {ps : List (List Nat)} {p : Nat × Nat → Prop} (h : Td w K kd a q c vs ps) (hl : ps.length = q) (m : Kp p K K' w w2) (hp : ¬ p kd) : Td w2 K' kd a q c vs ps := by
  have hvl : ∀ v ∈ vs, ∀ g, v.ownBlock = some g → g < w.heap.size := fun v hv g e => by
    obtain ⟨i, hi⟩ := List.getElem?_of_mem hv
    have hil := (List.getElem?_eq_some_iff.1 hi).1
    have hq : i < ps.length := by rw [hl]; have := h.row.1; omega
    obtain ⟨sp, k, q1, q2, _⟩ := h.el i _ (List.getElem?_eq_getElem hq)
    rw [hi] at q1; injection q1 with q1; subst q1
    exact rk_lt q2 e
  refine ⟨owns_same h.row (fun g e => m.block g (rk_lt h.row e) (by rw [h.rk g e]; exact hp)), fun i p hq => ?_, fun g e => (m.same g (rk_lt h.row e)).trans (h.rk g e), fun v hv g e => (m.same g (hvl v hv g e)).trans (h.vk v hv g e)⟩
  obtain ⟨b, k, q1, q2, q3⟩ := h.el i p hq
  exact ⟨b, k, q1, owns_same q2 (fun g e => m.block g (rk_lt q2 e) (by rw [h.vk _ (List.mem_of_getElem? q1) g e]; exact hp)), q3⟩
section
variable {w : World} {K : Knd} {kd : Nat × Nat} {b : Nat} {L : Lk} {rv : Value} {i : Nat}
theorem ptick_x (h : Lx w K kd b L rv) (hn : Rn L i) (hi : i ≤ 1000000) (hT : C.Tab w) (hb0 : 0 < b) :
    Calls Tryz.prog 16 #[.pointer (some ⟨b, 0, none⟩)] w fun e w' => ∃ a q c vs K', e = .returned (.slice a q c) ∧ To w' K' w.heap.size a q c vs (midO L) ∧ (∃ rv', Lx w' K' kd b (tickL L) rv') ∧ Kp (fun q => q = kd) K K' w w' := by
  have h1 := hn.row
  refine (tick_any w b L rv h.lw hn.win hn.pok hT hb0 (by omega)).mono ?_
  rintro e w' ⟨a, cc, q, he, hp⟩
  obtain ⟨vs, o1, o2⟩ := hp.row
  have hlen := hp.len
  rw [hlen] at o1
  obtain ⟨K', hK'⟩ : ∃ K' : Knd, K' = fun g => if g < w.heap.size then K g else if some g = (Value.slice a q cc).ownBlock then (5, 4) else (5, 2) := ⟨_, rfl⟩
  have k1 : ∀ g, g < w.heap.size → K' g = K g := fun g hg => by rw [hK']; simp [hg]
  have hel : ∀ (i : Nat) (p : List Nat), (midO L)[i]? = some p → ∃ sp, vs[i]? = some (.slice sp p.length p.length) ∧ w'.ownsRow w.heap.size 5 1 (.slice sp p.length p.length) p.length (vals p) ∧ (∀ x ∈ p, x < 256) := fun i p hpp => by
    obtain ⟨sp, q1, q2, q3, _⟩ := o2 i p hpp
    refine ⟨sp, q1, mine_row2 q2 ?_, q3⟩
    rcases List.mem_of_getElem? hpp |> fun (hm : p ∈ midO L) => (by
      unfold midO at hm
      split at hm
      · split at hm
        · simp at hm; exact ⟨_, hm⟩
        · cases hm
      · unfold bodO outs at hm
        obtain ⟨x, _, hx⟩ := List.mem_map.1 hm
        exact ⟨_, hx.symm⟩ : ∃ f, p = encB f) with ⟨f, hf⟩
    rw [hf]; have := encB_len f; omega
  have hvk : ∀ v ∈ vs, ∀ g, v.ownBlock = some g → w.heap.size ≤ g ∧ g < w'.heap.size ∧ K' g = (5, 2) := fun v hv g e => by
    obtain ⟨j, hj⟩ := List.getElem?_of_mem hv
    have hjl := (List.getElem?_eq_some_iff.1 hj).1
    have hq : j < (midO L).length := by have := o1.1; omega
    obtain ⟨sp, q1, q2, _⟩ := hel j _ (List.getElem?_eq_getElem hq)
    rw [hj] at q1; injection q1 with q1; subst q1
    have h3 := q2.lt g e
    refine ⟨h3.1, h3.2, ?_⟩
    rw [hK']
    have hne : ¬ some g = (Value.slice a q cc).ownBlock := fun e2 => Q.rows_far0 (z1 := false) (z2 := false) (Q.ownsQ_of q2) (Q.ownsQ_of o1) (by decide) g e e2.symm
    simp only []
    rw [if_neg (by omega), if_neg hne]
  refine ⟨a, q, cc, vs, K', he, ⟨Q.ownsQ_of (owns_bs2 o1 (Nat.zero_le _)), hlen, fun j p hpp => ?_, fun j j2 u v hjj hu hv g e e' => ?_, fun g e => ?_, fun v hv g e => ⟨(hvk v hv g e).1, (hvk v hv g e).2.2⟩⟩, ?_⟩
  · obtain ⟨sp, q1, q2, q3⟩ := hel j p hpp
    exact ⟨sp, q1, Q.ownsQ_of (owns_bs2 q2 (Nat.zero_le _)), q3⟩
  · have hj2 : j2 < (midO L).length := by have := o1.1; have := (List.getElem?_eq_some_iff.1 hv).1; omega
    have hj1 : j < (midO L).length := by omega
    obtain ⟨sp2, q1, q2, q3, q4⟩ := o2 j2 _ (List.getElem?_eq_getElem hj2)
    obtain ⟨sp1, r1, r2, _⟩ := o2 j _ (List.getElem?_eq_getElem hj1)
    rw [hv] at q1; injection q1 with q1; subst q1
    rw [hu] at r1; injection r1 with r1; subst r1
    rcases q2 with ⟨z1, _⟩ | ⟨g2, z1, _⟩
    · rw [z1] at e; cases e
    · rcases r2 with ⟨y1, _⟩ | ⟨g1, y1, _⟩
      · rw [y1] at e'; cases e'
      · rw [z1] at e; rw [y1] at e'; cases e; cases e'
        have := q4 j g2 _ _ g2 hjj (by rw [hu, y1]) z1
        omega
  · have h3 := o1.lt g e
    refine ⟨h3.1, ?_⟩
    rw [hK']
    simp only []
    rw [if_neg (by omega), if_pos e.symm]
  · have ht := h.turn (K' := K') hp.lw (Tw.of hp.but) k1 (fun g hg => Or.inl hg)
    have m2 : Kp (fun q => q = kd) K K' w w' := ht.2
    exact ⟨⟨rv, ht.1⟩, m2⟩
theorem dtick_x {kb : Nat × Nat} {m t : Nat} (hkk : kd ≠ kb) (h : Dk w K kd kb b L rv m t) (hn : Rn L i) (hi : i ≤ 1000000) (ht : t ≤ i) (hi2 : i < 1000000) (hw : L.window ≤ 1000) :
    Calls Tryz.prog 61 #[.pointer (some ⟨b, 0, none⟩)] w fun e w' => ∃ a c vs, e = .returned (.slice a (midO L).length c) ∧ Td w' (ext K w.heap.size kd) kd a (midO L).length c vs (midO L) ∧ (∃ rv' t', Dk w' (ext K w.heap.size kd) kd kb b (tickL L) rv' m t' ∧ t' ≤ i + 1) ∧ Kp (fun q => q = kd) K (ext K w.heap.size kd) w w' := by
  have h1 := hn.num
  have h2 := hn.hand
  refine (dtick_any w K kd kb hkk b L rv m t h (by omega) (by omega) (by omega) hn.win hw).mono ?_
  rintro e w' ⟨v, he, hp⟩
  obtain ⟨a, c, hv⟩ := hp.out.form
  obtain ⟨vs, o1, o2⟩ := hp.out
  subst hv
  refine ⟨a, c, vs, he, ⟨owns_bs2 o1 (Nat.zero_le _), fun j p hpp => ?_, fun g e => ext_new _ _ (o1.lt g e).1, fun u hu g e => ?_⟩, ⟨rv, _, hp.dk, by unfold tickT; split <;> omega⟩, hp.kp⟩
  · obtain ⟨b2, k, q1, q2, q3⟩ := o2 j p hpp
    exact ⟨b2, k, q1, owns_bs2 q2 (Nat.zero_le _), q3⟩
  · obtain ⟨j, hj⟩ := List.getElem?_of_mem hu
    have hjl := (List.getElem?_eq_some_iff.1 hj).1
    have hq : j < (midO L).length := by have := o1.1; omega
    obtain ⟨b2, k, q1, q2, _⟩ := o2 j _ (List.getElem?_eq_getElem hq)
    rw [hj] at q1; injection q1 with q1; subst q1
    exact ext_new _ _ (q2.lt g e).1
end
theorem rdec_x (w : World) (sp : Option Addr) (n cap : Nat) (xs : List Nat) (hl : xs.length = n) (hrow : w.ownsRow 0 5 1 (.slice sp n cap) n (vals xs)) (hs : ∀ x ∈ xs, x < 256) (hn : n ≤ 140737488351232) :
    Calls Tryz.prog 62 #[.slice sp n cap] w fun e w' => ∃ (f : Fr) (sq : Option Addr) (k : Nat) (bb : Bool), e = .returned (.tuple #[frV f sq k, .bool bb]) ∧ f.body.length ≤ 140737488351232 ∧ Bytes w' sq f.body ∧ (∀ p, sq = some p → w.heap.size ≤ p.block) ∧ Below w.heap.size w w' := by
  have hby : C.Bytes w sp xs := (owns_bytes hrow hs).c
  have hform : ((cap = 0 ∧ xs = []) ∨ ∃ g o, sp = some ⟨g, o, none⟩) ∧ n ≤ cap ∧ cap ≤ 9223372036854775807 := by
    rcases hrow.2 with ⟨e1, e2⟩ | ⟨g, cap', cur, e1, _, _, e4, e5, _⟩
    · cases e1
      exact ⟨Or.inl ⟨rfl, List.eq_nil_of_length_eq_zero (by omega)⟩, by omega, by omega⟩
    · cases e1
      exact ⟨Or.inr ⟨g, 0, rfl⟩, e4, by unfold maxLen at e5; omega⟩
  refine (rdec_any w sp n cap xs hl hform.2.1 hform.2.2 hn hby hform.1).mono ?_
  rintro e w' (⟨f, sq, k, hd, rfl, hy, hlo, hb⟩ | ⟨hd, rfl, hb⟩)
  · have hf := (dec_some hs hd).1
    have h1 : f.body.length ≤ 2048 := hf.2.2.2.2.2.2.1
    exact ⟨f, sq, k, true, rfl, by omega, Bytes.of_c hy, hlo, hb⟩
  · exact ⟨fr0, none, 0, false, rfl, by show 0 ≤ _; omega, ⟨(fun x hx => by cases hx), Or.inl rfl⟩, (fun p e => by cases e), hb⟩
end Go.Proofs.YtjcdnclfakmbpaaGreatDoor
namespace Go.Proofs.YtjcdnclfakmbpaaGreatDoor
open Go.RowKit
theorem Tryz.infoFr : (Tryz.prog.info? 33).map (fun i => (i.zero, i.size, i.bytes)) = some (some (.agg #[.int .i64 0, .int .i64 0, .int .u64 0, .int .u64 0, .int .u64 0, .int .u64 0, .slice none 0 0]), 7, 72) := by kernel_rfl
section
variable {w0 w wr w2 : World} {K K' : Knd} {wb : Nat} {Y : Pw.Wc} {A D B E : Lk} {es : List Fe} {xn bn st : Nat}
theorem Wm.more {wg : World} {sv' : Value} {e : Fe} (h : Wm w0 wr K wb Y A D B E es xn bn st) (hg : wr.grownBy wg Y.sv.ownBlock) (ho : wg.ownsRow 0 33 7 sv' (es.length + 1) (sentC es ++ feC e)) (hat : sv'.ownBlock = Y.sv.ownBlock ∨ ∃ g, sv'.ownBlock = some g ∧ wr.heap.size ≤ g) (hby : By2 wr K e.p e.f.body) (hbl : e.f.body.length ≤ 140737488351232) :
    Wm w0 (wg.setCell ⟨wb, 10, none⟩ sv') (ext K wr.heap.size (2, 1)) wb { Y with sv := sv' } A D B E (es ++ [e]) xn bn st ∧ Kp (fun q => q = (2, 1) ∨ q = (8, 0)) K (ext K wr.heap.size (2, 1)) wr (wg.setCell ⟨wb, 10, none⟩ sv') := by
  have m0 : Kp (fun q => q = (2, 1)) K (ext K wr.heap.size (2, 1)) wr wg := kp_grown hg K (2, 1) (2, 1) _ (fun g e => h.sent.kind g e) rfl
  have hp0 := h.plc.kept m0 (fun j => by simp)
  have hkb : ext K wr.heap.size (2, 1) wb = (8, 0) := by
    rcases hp0 with ⟨_, q⟩ | ⟨O, I, X, no, m, os, ys, q⟩
    · exact q
    · exact q.kb
  have ms : Kp (fun q => q = (8, 0)) (ext K wr.heap.size (2, 1)) (ext K wr.heap.size (2, 1)) wg (wg.setCell ⟨wb, 10, none⟩ sv') := (Kp.refl (fun q => q = (8, 0)) _ wg).setCell (b := wb) (Or.inr hkb) _ _
  have m : Kp (fun q => q = (2, 1) ∨ q = (8, 0)) K (ext K wr.heap.size (2, 1)) wr (wg.setCell ⟨wb, 10, none⟩ sv') := (m0.mono (fun q e => Or.inl e)).trans (ms.mono (fun q e => Or.inr e))
  refine ⟨⟨m.below h.bel (fun x hx => by rw [h.kz x hx]; simp), fun x hx => (m.same x (Nat.lt_of_lt_of_le hx h.bel.size)).trans (h.kz x hx), h.tab, hp0.cell 10 sv' (fun O I => rfl), ?_, ?_, ?_, ?_, ?_, fun x hx => ?_, ?_, ?_, fun x hx => ?_⟩, m⟩
  · obtain ⟨rv, q⟩ := h.la; exact ⟨rv, q.kp m (by simp)⟩
  · obtain ⟨rv, q⟩ := h.lb; exact ⟨rv, q.kp m (by simp)⟩
  · obtain ⟨rv, t, q, r⟩ := h.ka; exact ⟨rv, t, q.kp m (by simp) (by simp), r⟩
  · obtain ⟨rv, t, q, r⟩ := h.kb; exact ⟨rv, t, q.kp m (by simp) (by simp), r⟩
  · rw [sentC_snoc, List.length_append]
    exact (h.sent.grown ho hat).kept ms (by simp)
  · rcases List.mem_append.1 hx with q | q
    · exact (h.bod x q).kp m (by simp)
    · simp at q; subst q; exact hby.kp m (by simp)
  · obtain ⟨G, V, xs, q, r⟩ := h.late; exact ⟨G, V, xs, q.keep m (by simp) (fun j _ => by simp), r⟩
  · obtain ⟨X, L, M, tn, us, ks, rs, q, r⟩ := h.book
    exact ⟨X, L, M, tn, us, ks, rs, q.keep m (by simp) (by simp) (by simp) (by simp) (fun x e => by rw [e]; simp) (by simp), r⟩
  · rcases List.mem_append.1 hx with q | q
    · exact h.bl x q
    · simp at q; subst q; exact hbl
theorem Wm.up (h : Wm w0 w K wb Y A D B E es xn bn st) : Wm w0 w K wb Y A D B E es xn bn (st + 1) :=
  ⟨h.bel, h.kz, h.tab, h.plc, h.la, h.lb, (by obtain ⟨rv, t, q, r⟩ := h.ka; exact ⟨rv, t, q, by omega⟩), (by obtain ⟨rv, t, q, r⟩ := h.kb; exact ⟨rv, t, q, by omega⟩), h.sent, h.bod, h.late, h.book, h.bl⟩
theorem Wm.pos (h : Wm w0 w K wb Y A D B E es xn bn st) : 0 < Y.l0 ∧ 0 < Y.l1 := by
  have h0 := h.kz 0 h.tab.pos
  obtain ⟨r1, q1⟩ := h.la
  obtain ⟨r2, q2⟩ := h.lb
  refine ⟨Nat.pos_of_ne_zero (fun e => ?_), Nat.pos_of_ne_zero (fun e => ?_)⟩
  · have := q1.kb; rw [e, h0] at this; cases this
  · have := q2.kb; rw [e, h0] at this; cases this
end
theorem by2_new {w w' w2 : World} {K : Knd} {sq : Option Addr} {bo : List Nat} (h : Bytes w' sq bo) (hl : ∀ p, sq = some p → w.heap.size ≤ p.block) (hb : Below w'.heap.size w' w2) : By2 w2 (ext K w.heap.size (2, 2)) sq bo := by
  refine ⟨h.below hb, fun q e hn => ⟨?_, ext_new _ _ (hl q e)⟩⟩
  rcases h.lie with h1 | ⟨g, o, e2, hg, _⟩
  · exact absurd h1 hn
  · rw [e] at e2; cases e2; exact Nat.lt_of_lt_of_le hg hb.size
end Go.Proofs.YtjcdnclfakmbpaaGreatDoor
namespace Go.Proofs.YtjcdnclfakmbpaaGreatDoor
open Go.RowKit
set_option maxRecDepth 100000 in
set_option maxHeartbeats 8000000 in
set_option linter.unusedSimpArgs false in
theorem tickW0 (w0 w : World) (K : Knd) (wb : Nat) (Y : Pw.Wc) (A B : Lk) (es : List Fe) (xn bn st : Nat) (h : Wm w0 w K wb Y A A B B es xn bn st) (hr : Rn A st) (hst : st ≤ 100000) (hbn : bn ≤ 1000000) (hes : es.length ≤ 1000000) (hwin : A.window ≤ 16) :
    Calls Tryz.prog 27 #[.pointer (some ⟨wb, 0, none⟩), .int .i64 0] w fun e w' => e = .returned (.bool true) ∧ ∃ K' sv' fs, Wm w0 w' K' wb { Y with sv := sv' } (tickL A) (tickL A) B B (es ++ fs) xn (bn + 18) (st + 1) ∧ fs.length ≤ 17 := by
  obtain ⟨XX, LL, MM, tn, us, ks, rs, hbz, htn⟩ := h.book
  have hksB : ∀ k ∈ ks, ∀ g, k.val.ownBlock = some g → g < w.heap.size := fun k hk g e => Q.owns_lt (hbz.z.bk.rows k hk) g e
  have hrsB : ∀ k ∈ rs, ∀ g, k.val.ownBlock = some g → g < w.heap.size := fun k hk g e => (hbz.z.rz.rows k hk).lt g e
  have HKs := hide hksB
  have HRs := hide hrsB
  obtain ⟨O, I, hwb, -⟩ := h.blk
  obtain ⟨-, -, -, -, -, -, wc6, wc7, wc8, wc9, -, -, -, -, -⟩ := cellW hwb
  obtain ⟨ll, hll⟩ : ∃ ll, Y.l0 = ll := ⟨_, rfl⟩
  obtain ⟨kk, hkk⟩ : ∃ kk, Y.k0 = kk := ⟨_, rfl⟩
  have hpos := h.pos.1
  obtain ⟨rv, hlx⟩ := h.la
  rw [hll] at wc6 hpos hlx
  have HLl := hide hll
  have HKk := hide hkk
  have HT1 := hide (ptick_x hlx hr (by omega) h.tb hpos)
  have H := hide h
  have HR := hide hr
  have HBz := hide hbz
  have hml := mid_win A
  obtain ⟨ps, hps⟩ : ∃ ps, midO A = ps := ⟨_, rfl⟩
  have hw0 : 0 ≤ A.window := hr.win
  have hpl : ps.length ≤ 17 := by rw [← hps]; omega
  have HPs := hide hps
  rw [hps] at HT1
  obtain ⟨B0, hB0⟩ : ∃ B0, w.heap.size = B0 := ⟨_, rfl⟩
  rw [hB0] at HT1 HKs HRs
  clear h hr hbz hlx hwb hll hkk hml hksB hrsB hps hB0 hw0
  go_enter Tryz.func27, Tryz.ntmps27
  go_wp2_with fail
  refine HT1.out.mono ?_
  rintro e w1 ⟨a, q, c, vs, K1, rfl, hto, hla, hkp1⟩
  have hW1 := (H.out.tla hkp1 (by simp) (fun j => by simp) (by simp) (by simp) (by simp) (by simp) (by simp) (by simp) (by simp) (by simp) (fun j => by simp) (fun j => by simp) (by rw [HLl.out]; exact hla)).up
  have HTo := hide hto
  have HBz1 := hide (HBz.out.keep hkp1 (by simp) (by simp) (by simp) (by simp) (fun x e => by rw [e]; simp) (by simp))
  obtain ⟨O1, I1, hwb1, -⟩ := hW1.blk
  clear wc6 wc7 wc8 wc9
  obtain ⟨-, -, -, -, -, -, wc6, wc7, wc8, wc9, -, -, -, -, -⟩ := cellW hwb1
  obtain ⟨rv2, t2, hdk, htl⟩ := H.out.ka
  have hdk1 := hdk.kp hkp1 (by simp) (by simp)
  rw [HKk.out] at wc8 hdk1
  have HT2 := hide (dtick_x (i := st) (by simp) hdk1 HR.out (by omega) htl (by omega) (by omega))
  rw [HPs.out] at HT2
  have HW1 := hide hW1
  have hql : ps.length = q := hto.len
  subst hql
  clear hto hla hkp1 hW1 hwb1 hdk hdk1 HT1 HBz H
  go_wp2_with fail
  refine HT2.out.mono ?_
  rintro e w2 ⟨a2, c2, vs2, rfl, htd, hda, hkp2⟩
  have HW2 := hide (HW1.out.tka hkp2 (by simp) (fun j => by simp) (by simp) (by simp) (by simp) (by simp) (by simp) (by simp) (by simp) (fun j => by simp) (fun j => by simp) (by rw [HKk.out]; exact hda))
  have HTo2 := hide (HTo.out.kp hkp2 (by simp) (by simp))
  have HBz2 := hide (HBz1.out.keep hkp2 (by simp) (by simp) (by simp) (by simp) (fun x e => by rw [e]; simp) (by simp))
  have HTd2 := hide htd
  have hz : ((ps.length : Int) != (ps.length : Int)) = false := by simp
  generalize ext K1 w1.heap.size (3, 0) = K2 at *
  clear htd hda hkp2 HT2 HW1 HTo HBz1 wc6 wc7 wc8 wc9
  go_wp2_with fail
  go_loopw [7] (fun s7 wr => ∃ (n : Nat) (K3 : Knd) (sv : Value) (fs : List Fe), n ≤ ps.length ∧ s7 = .int .i64 n ∧ Hid (fs.length = n) ∧ Hid (Wm w0 wr K3 wb { Y with sv := sv } (tickL A) (tickL A) B B (es ++ fs) xn bn (st + 1)) ∧ Hid (V.Bz (fun q => q = (5, 2)) K3 wr Y.bb XX LL MM tn us ks rs) ∧ Hid (To wr K3 B0 a ps.length c vs ps) ∧ Hid (Td wr K3 (3, 0) a2 ps.length c2 vs2 ps)) (fun s7 _ => ps.length - (intOf s7).toNat)
  case atStart => exact ⟨0, K2, Y.sv, [], Nat.zero_le _, rfl, rfl, (by show Wm w0 w2 K2 wb { Y with sv := Y.sv } (tickL A) (tickL A) B B (es ++ []) xn bn (st + 1); rw [List.append_nil]; exact HW2.out), HBz2, HTo2, HTd2⟩
  case round =>
    clear HW2 HTo2 HBz2 HTd2
    obtain ⟨n, K3, sv, fs, hn, rfl, HFs, HW, HB, HT, HD⟩ := hrel
    have i0 : (0 : Int) ≤ (n : Int) := by omega
    by_cases hlt : n < ps.length
    · have i1 : (n : Int) < (ps.length : Int) := by omega
      obtain ⟨p, hp⟩ : ∃ p, ps[n]? = some p := ⟨_, List.getElem?_eq_getElem hlt⟩
      obtain ⟨sp, v1, v2, v3⟩ := HT.out.el n p hp
      obtain ⟨b2, k2, u1, u2, u3⟩ := HD.out.el n p hp
      obtain ⟨ga, ca, ea, ca0⟩ := Q.row_cell HT.out.row (k := n) v1
      obtain ⟨gb, cb, eb, cb0⟩ := Q.row_cell (Q.ownsQ_of (z := false) HD.out.row) (k := n) u1
      cases ea
      cases eb
      obtain ⟨pl, hpl2⟩ : ∃ pl, p.length = pl := ⟨_, rfl⟩
      have hpb : pl ≤ 140737488351232 := by
        rw [← hpl2]
        have hm : p ∈ midO A := by rw [HPs.out]; exact List.mem_of_getElem? hp
        have hf : ∃ f, p = encB f := by
          unfold midO at hm
          split at hm
          · split at hm
            · simp at hm; exact ⟨_, hm⟩
            · cases hm
          · unfold bodO outs at hm
            obtain ⟨x, _, hx⟩ := List.mem_map.1 hm
            exact ⟨_, hx.symm⟩
        obtain ⟨f, hf⟩ := hf
        rw [hf]; have := encB_len f; omega
      rw [hpl2] at ca0 cb0 v2 u2
      have HEq : Hid (∀ k, Calls Tryz.prog 49 #[.slice sp pl pl, .slice b2 pl k2] (wr.drewN k) fun e w' => e = .returned (.bool true) ∧ ∃ j, w' = (wr.drewN k).drewN j) := fun k => by
        have := eq_val (wr.drewN k) sp b2 pl pl pl k2 p p hpl2 hpl2 (by omega) (by omega) ((Q.owns_bytes v2 rfl v3).drewN k) ((owns_bytes u2 u3).drewN k)
        rw [decide_eq_true rfl] at this
        exact this
      have HU2 := hide u2
      have HU3 := hide u3
      have HPl := hide hpl2
      clear hp v1 v2 v3 u1 u2 u3 hpl2
      go_upto_region 8 with (fail)
      go_quiet (first | (go_at_call 49; exact Calls.quiet_of (HEq.out _)))
      obtain ⟨wq, hwq⟩ : ∃ wq, wr.drewN nq = wq := ⟨_, rfl⟩
      have mq : Kp (fun _ => False) K3 K3 wr wq := by rw [← hwq]; exact drew_kq wr K3 nq
      have HWq := hide (HW.out.k9 mq (fun _ e => e.elim))
      have HBq := hide (HB.out.keep mq (fun e => e) (fun e => e) (fun e => e) (fun e => e) (fun _ _ e => e) (by simp))
      have HTq := hide (HT.out.kp mq (fun e => e) (fun e => e))
      have HDq := hide (HD.out.kp rfl mq (fun e => e))
      have cb1 : wq.cell? ⟨gb, n, none⟩ = some (.slice b2 pl k2) := by rw [← hwq]; exact cb0
      have HDc := hide (rdec_x wq b2 pl k2 p HPl.out (by rw [← hwq]; exact HU2.out) HU3.out hpb)
      rw [hwq]
      clear hwq mq ca0 cb0 HEq HW HB HT HD HU2 HU3
      go_wp2_with fail
      refine HDc.out.mono ?_
      rintro e w3 ⟨⟨f0, f1, f2, f3, f4, f5, bo⟩, sq, k, bb, rfl, hfl, hby, hlo, hb3⟩
      obtain ⟨nb, hnb⟩ : ∃ nb, bo.length = nb := ⟨_, rfl⟩
      have hv : frV (⟨f0, f1, f2, f3, f4, f5, bo⟩ : Fr) sq k = .agg #[.int .i64 f0, .int .i64 f1, .int .u64 (f2 : Int), .int .u64 (f3 : Int), .int .u64 (f4 : Int), .int .u64 (f5 : Int), .slice sq nb k] := by unfold frV; rw [hnb]
      rw [hv]
      have HNb := hide hnb
      have HFl : Hid (bo.length ≤ 140737488351232) := hfl
      have HBy : Hid (Bytes w3 sq bo) := hby
      have HLo := hide hlo
      have HB3 := hide hb3
      clear hv hfl hby hlo hb3 HDc hnb cb1
      go_upto_region 11 with (fail)
      obtain ⟨w4, hw4⟩ : ∃ w4, w3.alloc (.cells #[.int .i64 f0, .int .i64 f1, .int .u64 (f2 : Int), .int .u64 (f3 : Int), .int .u64 (f4 : Int), .int .u64 (f5 : Int), .slice sq nb k] 33) = w4 := ⟨_, rfl⟩
      rw [hw4]
      obtain ⟨bx, hbx'⟩ : ∃ bx, w3.heap.size = bx := ⟨_, rfl⟩
      have hk4 : w4.heap[bx]? = some (.cells #[.int .i64 f0, .int .i64 f1, .int .u64 (f2 : Int), .int .u64 (f3 : Int), .int .u64 (f4 : Int), .int .u64 (f5 : Int), .slice sq nb k] 33 (0, 0)) := by rw [← hw4, ← hbx']; exact heap_alloc_new _ _
      have hb34 : Below w3.heap.size w3 w4 := by rw [← hw4]; exact (Below.refl _ _).alloc (Nat.le_refl _) _
      have hb4 : Below wq.heap.size wq w4 := HB3.out.trans (hb34.mono HB3.out.size)
      have m4 : Kp (fun _ => False) K3 (ext K3 wq.heap.size (2, 2)) wq w4 := kp_below hb4 _ _ _
      have hY4 : By2 w4 (ext K3 wq.heap.size (2, 2)) sq bo := by2_new HBy.out HLo.out hb34
      rw [hbx']
      obtain ⟨K4, hK4⟩ : ∃ K4, ext K3 wq.heap.size (2, 2) = K4 := ⟨_, rfl⟩
      rw [hK4] at m4 hY4
      have HW4 := hide (HWq.out.k9 m4 (fun _ e => e.elim))
      have HB4 := hide (HBq.out.keep m4 (fun e => e) (fun e => e) (fun e => e) (fun e => e) (fun _ _ e => e) (by simp))
      have HT4 := hide (HTq.out.kp m4 (fun e => e) (fun e => e))
      have HD4 := hide (HDq.out.kp rfl m4 (fun e => e))
      have HY4 := hide hY4
      have HK4 := hide hk4
      clear hw4 hbx' hb34 hb4 m4 hY4 hK4 HWq HBq HTq HDq HB3 HBy HLo
      obtain ⟨E, hE⟩ : ∃ E, es ++ fs = E := ⟨_, rfl⟩
      have hEl : E.length ≤ 1100000 := by rw [← hE, List.length_append, HFs.out]; omega
      have HEe := hide hE
      rw [hE] at HW4
      clear hE
      obtain ⟨sa, sc, hsv, hsl, hsc⟩ : ∃ sa sc, sv = .slice sa E.length sc ∧ E.length ≤ sc ∧ sc ≤ maxLen := owns_form HW4.out.sent.own
      subst hsv
      obtain ⟨O4, I4, hwb4, hkb4⟩ := HW4.out.blk
      obtain ⟨-, -, -, -, -, -, -, -, -, -, p10, -, -, -, pf⟩ := cellW hwb4
      have p10' : w4.cell? ⟨wb, 10, none⟩ = some (.slice sa E.length sc) := p10
      have hpb4 := C.lt_of_block hwb4
      have HWb4 := hide hwb4
      have HPn : Hid (some wb ≠ (Value.slice sa E.length sc).ownBlock) := fun e => by have := HW4.out.sent.kind wb e.symm; rw [hkb4] at this; cases this
      obtain ⟨x0, x1, x2, x3, x4, x5, x6, -⟩ := blk7 HK4.out
      have hbx := C.lt_of_block HK4.out
      obtain ⟨i0', hi, hz0, hz1, hz2⟩ := info_parts Tryz.infoFr
      clear p10 hwb4 hk4
      go_region_law (first | (refine step_append_lies _ (by rfl) (.tmp 57) (.tmp 59) 41 (by rfl) 0 33 i0' (.agg #[.int .i64 0, .int .i64 0, .int .u64 0, .int .u64 0, .int .u64 0, .int .u64 0, .slice none 0 0]) 7 72 Tryz.underlying41 hi hz0 hz1 hz2 rfl (by omega) (.slice sa E.length sc) E.length (sentC E) (by rfl) ((HW4.out.sent.own.alloc _).drew) ⟨w4.heap.size, 0, none⟩ 1 1 [.int .i64 f0, .int .i64 f1, .int .u64 (f2 : Int), .int .u64 (f3 : Int), .int .u64 (f4 : Int), .int .u64 (f5 : Int), .slice sq nb k] (by rfl) rfl (World.news_of_block (heap_alloc_new w4 (.cells #[.int .i64 f0, .int .i64 f1, .int .u64 (f2 : Int), .int .u64 (f3 : Int), .int .u64 (f4 : Int), .int .u64 (f5 : Int), .slice sq nb k] 33))) (by simp [Value.oneCell']) (by omega) (by unfold maxLen; omega) (by omega) (by simp) _ rfl ?_; intro g' cap' w6 hown hgrow hat hltg; have hp6 := (hgrow.block wb (by simp; omega) HPn.out); have hpr6 : w6.heap[wb]? = some (.cells (Pw.wkC { Y with sv := .slice sa E.length sc } O4 I4) 48 (0, 0)) := (hp6.trans ((Below.heap_alloc _ _ _ hpb4).trans HWb4.out)); obtain ⟨-, -, -, -, -, -, -, -, -, -, q10, -, -, -, qf⟩ := cellW hpr6; have q10' : w6.cell? ⟨wb, 10, none⟩ = some (.slice sa E.length sc) := q10; have hq6 := C.lt_of_block hpr6; have HO6 := hide hown; have HG6 := hide hgrow; have HA6 := hide hat; clear hown hgrow hat hp6 hpr6 q10))
      all_goals go_wp2
      all_goals
        have hb6 : Below w4.heap.size w4 (w4.alloc (.cells #[.int .i64 f0, .int .i64 f1, .int .u64 (f2 : Int), .int .u64 (f3 : Int), .int .u64 (f4 : Int), .int .u64 (f5 : Int), .slice sq nb k] 33)).drew := ((Below.refl _ _).alloc (Nat.le_refl _) _).drew
        have m6 : Kp (fun _ => False) K4 (ext K4 w4.heap.size (9, 9)) w4 (w4.alloc (.cells #[.int .i64 f0, .int .i64 f1, .int .u64 (f2 : Int), .int .u64 (f3 : Int), .int .u64 (f4 : Int), .int .u64 (f5 : Int), .slice sq nb k] 33)).drew := kp_below hb6 _ _ _
        obtain ⟨hpm, hkp⟩ := (HW4.out.k9 m6 (fun _ e => e.elim)).more (e := ⟨⟨f0, f1, f2, f3, f4, f5, bo⟩, sq, k⟩) HG6.out (by simpa [feC, HNb.out] using HO6.out) (by
          rcases HA6.out with e1 | e1
          · exact Or.inl e1.symm
          · exact Or.inr ⟨g', rfl, by rw [e1]; exact Nat.le_refl _⟩) (HY4.out.kp m6 (fun e => e)) HFl.out
        have hEa : ∀ x : Fe, E ++ [x] = es ++ (fs ++ [x]) := fun x => by rw [← HEe.out, List.append_assoc]
        rw [hEa] at hpm
        exact ⟨⟨n + 1, _, _, _, by omega, by go_num, hide (by rw [List.length_append, HFs.out]; rfl), hide hpm, hide ((HB4.out.keep m6 (fun e => e) (fun e => e) (fun e => e) (fun e => e) (fun _ _ e => e) (by simp)).keep hkp (by simp) (by simp) (by simp) (by simp) (fun x e => by rw [e]; simp) (by simp)), hide ((HT4.out.kp m6 (fun e => e) (fun e => e)).kp hkp (by simp) (by simp)), hide ((HD4.out.kp rfl m6 (fun e => e)).kp rfl hkp (by simp))⟩, by simp [intOf]; omega⟩
    · have i1 : ¬ (n : Int) < (ps.length : Int) := by omega
      have hnq : n = ps.length := by omega
      obtain ⟨O4, I4, hwb4, -⟩ := HW.out.blk
      obtain ⟨-, -, -, -, -, -, -, -, -, -, -, p11, -, -, -⟩ := cellW hwb4
      have p11' : wr.cell? ⟨wb, 11, none⟩ = some (.pointer (some ⟨Y.bb, 0, none⟩)) := p11
      have HRo := hide (V.bzk_rows K3 wr Y.bb XX LL MM tn us ks rs a ps.length c B0 vs HB.out (by omega) (by omega) HT.out.row (fun i u hu => by
        have hil := (List.getElem?_eq_some_iff.1 hu).1
        have hq : i < ps.length := by have := HT.out.row.1; omega
        obtain ⟨sp, q1, q2, _⟩ := HT.out.el i _ (List.getElem?_eq_getElem hq)
        rw [hu] at q1; injection q1 with q1
        have hpb : (ps[i]'hq).length ≤ 140737488355328 := by
          have hm : ps[i]'hq ∈ midO A := by rw [HPs.out]; exact List.getElem_mem hq
          have hf : ∃ f, ps[i]'hq = encB f := by
            unfold midO at hm
            split at hm
            · split at hm
              · simp at hm; exact ⟨_, hm⟩
              · cases hm
            · unfold bodO outs at hm
              obtain ⟨x, _, hx⟩ := List.mem_map.1 hm
              exact ⟨_, hx.symm⟩
          obtain ⟨f, hf⟩ := hf
          rw [hf]; have := encB_len f; omega
        exact ⟨sp, _, _, _, q1, q2, hpb⟩) HT.out.dis HKs.out HRs.out HT.out.vk HT.out.rk)
      clear hwb4 p11
      go_wp2_with fail
      refine HRo.out.mono ?_
      rintro e w5 ⟨rfl, K5, X5, L5, M5, us5, ks5, rs5, hbz5, hkp5⟩
      have HWf := hide (HW.out.tbook (bn2 := bn + 18) hkp5 (by simp) (fun j => by simp) (by simp) (by simp) (by simp) (by simp) (by simp) (by simp) (by simp) (by simp) (by simp) (fun j => by simp) ⟨X5, L5, M5, _, us5, ks5, rs5, hbz5, by omega⟩)
      clear hbz5 hkp5 HRo
      go_wp2
      go_ret
      exact ⟨rfl, K5, sv, fs, HWf.out, by rw [HFs.out]; omega⟩
end Go.Proofs.YtjcdnclfakmbpaaGreatDoor
