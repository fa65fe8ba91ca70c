import Derived.Test.YtlijclghojfdpaaGreatDoorRaA
namespace Go.Proofs.YtlijclghojfdpaaGreatDoor
open Go.RowKit

/-- An answer that goes into Late. -/
structure Aq (w : World) (K : Knd) (j : Nat) (sp : Option Addr) (n c : Nat) (E : List Nat) : Prop where
  row : Q.ownsQ true w 0 5 1 (.slice sp n c) n (vals E)
  kind : ∀ g, (Value.slice sp n c).ownBlock = some g → K g = (7, j)
  len : E.length = n
  small : ∀ x ∈ E, x < 256
theorem Aq.kp {w w2 : World} {K K' : Knd} {j : Nat} {sp : Option Addr} {n c : Nat} {E : List Nat} {p : Nat × Nat → Prop} (h : Aq w K j sp n c E) (m : Kp p K K' w w2) (hp : ¬ p (7, j)) : Aq w2 K' j sp n c E :=
  ⟨Q.owns_kept' h.row (fun g e => m.block g (Q.owns_lt h.row g e) (by rw [h.kind g e]; exact hp)), fun g e => (m.same g (Q.owns_lt h.row g e)).trans (h.kind g e), h.len, h.small⟩
theorem Aq.bytes {w : World} {K : Knd} {j : Nat} {sp : Option Addr} {n c : Nat} {E : List Nat} (h : Aq w K j sp n c E) : Bytes w sp E := Q.owns_bytes h.row rfl h.small
theorem Aq.bytesS {w : World} {K : Knd} {j : Nat} {sp : Option Addr} {n c : Nat} {E : List Nat} (h : Aq w K j sp n c E) : Q.BytesS (fun k => K k ≠ (6, 0)) w sp E := by
  refine ⟨h.small, ?_⟩
  rcases h.bytes.lie with e | ⟨g, o, e, hg, hc⟩
  · exact Or.inl e
  · exact Or.inr ⟨g, o, e, by rw [h.kind g (by rw [e]; rfl)]; simp, hg, hc⟩
theorem owns_cells0 {w : World} {B g n c : Nat} {e : TypeId} {xs : List Value} (h : w.ownsRow B e 1 (.slice (some ⟨g, 0, none⟩) n c) n xs) : ∀ j u, xs[j]? = some u → w.cell? ((⟨g, 0, none⟩ : Addr).add j) = some u := by
  intro j u hj
  rcases h.2 with ⟨h1, _⟩ | ⟨g', cap, cur, h1, _, hg, _, _, _, ht⟩
  · cases h1
  · cases h1
    have hadd : (⟨g, 0, none⟩ : Addr).add j = ⟨g, j, none⟩ := by unfold Addr.add; split <;> simp_all
    have hjl : j < xs.length := (List.getElem?_eq_some_iff.1 hj).1
    have hxl := h.1
    rw [← ht, List.getElem?_take, if_pos (by omega)] at hj
    rw [hadd]
    simp only [World.cell?, hg]
    simpa using hj
theorem bytesS_new {w w2 : World} {K : Knd} {a : Option Addr} {m c : Nat} {p : List Nat} (h : w2.ownsRow w.heap.size 5 1 (.slice a m c) m (vals p)) (hs : ∀ x ∈ p, x < 256) : Q.BytesS (fun x => ext K w.heap.size (9, 9) x ≠ (6, 0)) w2 a p := by
  refine ⟨hs, ?_⟩
  rcases (owns_bytes h hs).lie with e | ⟨g, o, e, hg, hc⟩
  · exact Or.inl e
  · exact Or.inr ⟨g, o, e, by rw [ext_new _ _ (h.lt g (by rw [e]; rfl)).1]; simp, hg, hc⟩
/-- A box of the law's own. -/
structure Bx (w : World) (K : Knd) (b : Nat) (cs : Array Value) (t : TypeId) : Prop where
  blk : w.heap[b]? = some (.cells cs t (0, 0))
  kind : K b = (9, 1)
theorem Bx.kp {w w2 : World} {K K' : Knd} {b : Nat} {cs : Array Value} {t : TypeId} {p : Nat × Nat → Prop} (h : Bx w K b cs t) (m : Kp p K K' w w2) (hp : ¬ p (9, 1)) : Bx w2 K' b cs t :=
  ⟨(m.block b (C.lt_of_block h.blk) (by rw [h.kind]; exact hp)).trans h.blk, (m.same b (C.lt_of_block h.blk)).trans h.kind⟩
theorem Bx.set {w : World} {K : Knd} {b : Nat} {cs : Array Value} {t : TypeId} (h : Bx w K b cs t) (i : Nat) (v : Value) : Bx (w.setCell ⟨b, i, none⟩ v) K b (cs.setIfInBounds i v) t := ⟨C.block_set h.blk v, h.kind⟩
theorem kpx {w : World} {K : Knd} {b i : Nat} {v : Value} (hk : K b = (9, 1)) : Kp (fun q => q = (9, 1)) K K w (w.setCell ⟨b, i, none⟩ v) := (Kp.refl (fun q => q = (9, 1)) K w).setCell (b := b) (Or.inr hk) _ _
theorem blk12 {w : World} {b : Nat} {x0 x1 x2 x3 x4 x5 x6 x7 x8 x9 x10 x11 : Value} {t : TypeId} (h : w.heap[b]? = some (.cells #[x0, x1, x2, x3, x4, x5, x6, x7, x8, x9, x10, x11] t (0, 0))) :
    w.cell? ⟨b, 0, none⟩ = some x0 ∧ w.cell? ⟨b, 1, none⟩ = some x1 ∧ w.cell? ⟨b, 2, none⟩ = some x2 ∧ w.cell? ⟨b, 3, none⟩ = some x3 ∧ w.cell? ⟨b, 4, none⟩ = some x4 ∧ w.cell? ⟨b, 5, none⟩ = some x5 ∧ w.cell? ⟨b, 6, none⟩ = some x6 ∧ w.cell? ⟨b, 7, none⟩ = some x7 ∧ w.cell? ⟨b, 8, none⟩ = some x8 ∧ w.cell? ⟨b, 9, none⟩ = some x9 ∧ w.cell? ⟨b, 10, none⟩ = some x10 ∧ w.cell? ⟨b, 11, none⟩ = some x11 ∧ (∀ o, w.frozen? ⟨b, o, none⟩ = false) := by
  simp only [World.cell?, World.frozen?, h]
  exact ⟨rfl, rfl, rfl, rfl, rfl, rfl, rfl, rfl, rfl, rfl, rfl, rfl, fun o => by simp⟩
theorem drewN_kp (w : World) (K : Knd) (q : Nat) : Kp (fun _ => False) K K w (w.drewN q) := ⟨rfl, rfl, rfl, Nat.le_refl _, fun _ _ => rfl, fun _ _ _ => rfl⟩
section
variable {w wr : World} {K : Knd} {bb lb b : Nat} {G V : Value} {xs : List Q.Gt} {L : Lk} {rv : Value} {n i : Nat}
/-- Send. -/
theorem send_rz (h : Rz w wr K bb lb b G V xs L rv n) (hn : Rn L i) (hi : i ≤ 150) (g c nb : Nat) (body : List Nat) (hb : body.length = nb) (hl : Lr2 wr K g c body) :
    Calls Tryz.prog 7 #[.pointer (some ⟨b, 0, none⟩), .slice (some ⟨g, 0, none⟩) nb c] wr fun e w' => ∃ (z : Int) (L' : Lk) (rv' : Value), e = .returned (.int .i64 z) ∧ Rz w w' (ext K wr.heap.size (1, 0)) bb lb b G V xs L' rv' n ∧ Rn L' (i + 1) ∧ Kp (fun q => q = (1, 0)) K (ext K wr.heap.size (1, 0)) wr w' := by
  have h1 := hn.row
  have h2 := hn.num
  by_cases hs : nb ≤ 2048
  · refine (send_any wr b L rv h.lw (by omega) (some ⟨g, 0, none⟩) nb c body hl.own.front hb hs (by omega) (fun a ha => ?_)).mono ?_
    · cases ha
      show g ≠ b
      intro e
      have := hl.kind
      rw [e, h.kb] at this
      cases this
    · rintro e w' ⟨he, rv', hlw, htw, hr⟩
      refine ⟨0, _, rv', he, h.turn hlw htw (fun x hx => ext_old _ _ hx) (fun g2 hg2 => ?_), hn.send _, kp_tw htw h.kb h.kr (fun x hx => ext_old _ _ hx)⟩
      rcases hr with q | ⟨g3, q, q2⟩
      · exact Or.inl (by rw [← q]; exact hg2)
      · rw [q] at hg2; cases hg2; exact Or.inr (ext_new _ _ q2)
  · refine (send_long wr b L rv h.lw (some ⟨g, 0, none⟩) nb c (Or.inl (by omega))).mono ?_
    rintro e w' ⟨he, rfl⟩
    have m : Kp (fun q => q = (1, 0)) K (ext K w'.heap.size (1, 0)) w' w' := kp_below (Below.refl _ _) _ _ _
    exact ⟨140, L, rv, he, h.below (Below.refl _ _) (1, 0), hn.up, m⟩
/-- Hear. -/
theorem hear_rz (h : Rz w wr K bb lb b G V xs L rv n) (hn : Rn L i) (hi : i ≤ 150) (g c nf : Nat) (f0 f1 : Int) (mine yours seq ack : Nat) (body : List Nat) (hb : body.length = nf) (hl : Lr2 wr K g c body) (hbl : nf ≤ 140737488351232) :
    Calls Tryz.prog 11 #[.pointer (some ⟨b, 0, none⟩), .agg #[.int .i64 f0, .int .i64 f1, .int .u64 (mine : Int), .int .u64 (yours : Int), .int .u64 (seq : Int), .int .u64 (ack : Int), .slice (some ⟨g, 0, none⟩) nf c]] wr fun e w' =>
      ∃ (a : Option Addr) (m cc : Nat) (t1 t2 t3 : Bool) (ys : List Nat) (L' : Lk) (rv' : Value), e = .returned (.agg #[.slice a m cc, .bool t1, .bool t2, .bool t3]) ∧ m ≤ 140737488351232 ∧ Aq w' (ext K wr.heap.size (7, xs.length)) xs.length a m cc ys ∧ Rz w w' (ext K wr.heap.size (7, xs.length)) bb lb b G V xs L' rv' n ∧ Rn L' (i + 1) ∧ Kp (fun q => q = (1, 0)) K (ext K wr.heap.size (7, xs.length)) wr w' := by
  have h1 := hn.row
  have h2 := hn.hand
  have hsm : ∀ x ∈ body, x < 256 := hl.own.front.small
  by_cases hr : rcv L f0 f1 mine yours seq ack body
  · have e0 := hr.2.1
    have e1 := hr.2.2.1
    rw [e0, e1] at hr
    rw [e0, e1]
    refine (hear_any wr b L rv h.lw mine yours seq ack nf c (some ⟨g, 0, none⟩) body hb hl.own.front (fun a ha => ?_) hr (by omega) (by omega)).mono ?_
    · cases ha
      refine ⟨fun e => ?_, fun e => ?_⟩
      · have := hl.kind
        rw [show g = b from e, h.kb] at this
        cases this
      · have q1 := h.kr g e.symm
        rw [hl.kind] at q1
        cases q1
    · rintro e w' ⟨a, m, cc, rv', he, hp⟩
      have hw := hp.len
      refine ⟨a, m, cc, _, _, _, _, _, rv', he, ?_, ⟨Q.ownsQ_of (owns_low0 hp.row), fun g2 hg2 => ext_new _ _ (hp.row.lt g2 hg2).1, ?_, ?_⟩, h.turn hp.lw hp.tw (fun x hx => ext_old _ _ hx) (fun g2 hg2 => ?_), hn.hear mine yours seq ack, kp_tw hp.tw h.kb h.kr (fun x hx => ext_old _ _ hx)⟩
      · rw [hw]; split <;> omega
      · rw [hw]; split <;> simp
      · intro x hx
        split at hx
        · exact hsm x hx
        · cases hx
      · rcases hp.rb with q | q
        · exact Or.inl (by rw [← q]; exact hg2)
        · rw [q] at hg2; cases hg2
  · refine (hear_no wr b L rv h.lw.lb f0 f1 mine yours seq ack nf c (some ⟨g, 0, none⟩) body hb hr).mono ?_
    rintro e w' ⟨he, hbw⟩
    have m : Kp (fun q => q = (1, 0)) K (ext K wr.heap.size (7, xs.length)) wr w' := kp_below hbw _ _ _
    exact ⟨none, 0, 0, false, false, false, [], L, rv, he, by omega, ⟨⟨rfl, Or.inl ⟨rfl, rfl⟩⟩, fun g2 hg2 => (by simp [Value.ownBlock] at hg2), rfl, fun x hx => (by cases hx)⟩, h.below hbw _, hn.up, m⟩
/-- What a tick tells, from place k on. -/
structure Ot (w : World) (K : Knd) (base : Nat) (a : Option Addr) (q cc : Nat) (ps : List (List Nat)) (vs : List Value) (k : Nat) : Prop where
  own : w.ownsRow 0 54 1 (.slice a q cc) q vs
  kind : ∀ g, (Value.slice a q cc).ownBlock = some g → K g = (9, 9)
  el : ∀ j p, k ≤ j → ps[j]? = some p → ∃ sp, vs[j]? = some (.slice sp p.length p.length) ∧ Aq w K (base + j) sp p.length p.length p
  len : ps.length = q
theorem Ot.kp {w w2 : World} {K K' : Knd} {base : Nat} {a : Option Addr} {q cc : Nat} {ps : List (List Nat)} {vs : List Value} {k k' : Nat} {p : Nat × Nat → Prop} (h : Ot w K base a q cc ps vs k) (m : Kp p K K' w w2) (hk : k ≤ k') (h9 : ¬ p (9, 9)) (h7 : ∀ j, base + k' ≤ j → ¬ p (7, j)) : Ot w2 K' base a q cc ps vs k' := by
  refine ⟨owns_same h.own (fun g e => m.block g (rk_lt h.own e) (by rw [h.kind g e]; exact h9)), fun g e => (m.same g (rk_lt h.own e)).trans (h.kind g e), fun j x hj hx => ?_, h.len⟩
  obtain ⟨sp, q1, q2⟩ := h.el j x (by omega) hx
  exact ⟨sp, q1, q2.kp m (h7 _ (by omega))⟩
theorem mine_row {w : World} {B : Nat} {sp : Option Addr} {E : List Nat} (h : C.Mine B w sp E) (hl : E.length ≤ 140737488351232) : w.ownsRow 0 5 1 (.slice sp E.length E.length) E.length (vals E) := by
  rcases h with ⟨rfl, rfl⟩ | ⟨g, rfl, hg, hb⟩
  · exact ⟨rfl, Or.inl ⟨rfl, rfl⟩⟩
  · refine ⟨by simp [vals], Or.inr ⟨g, E.length, _, rfl, Nat.zero_le _, hb, Nat.le_refl _, by unfold maxLen; omega, by simp [C.vals], ?_⟩⟩
    simp [C.vals, vals]
    exact List.take_of_length_le (by simp)
/-- Tick. -/
theorem tick_rz (h : Rz w wr K bb lb b G V xs L rv n) (hn : Rn L i) (hi : i ≤ 150) (hT : C.Tab wr) (hb0 : 0 < b) :
    Calls Tryz.prog 13 #[.pointer (some ⟨b, 0, none⟩)] wr fun e w' =>
      ∃ (a : Option Addr) (q cc : Nat) (ps : List (List Nat)) (vs : List Value) (K' : Knd) (L' : Lk), e = .returned (.slice a q cc) ∧ q ≤ i + 1 ∧ (∀ p ∈ ps, p.length ≤ 2088) ∧ Ot w' K' xs.length a q cc ps vs 0 ∧ Rz w w' K' bb lb b G V xs L' rv n ∧ Rn L' (i + 1) ∧ Kp (fun q => q = (1, 0)) K K' wr w' := by
  have h1 := hn.row
  refine (tick_any wr b L rv h.lw hn.win hn.pok hT hb0 (by omega)).mono ?_
  rintro e w' ⟨a, cc, q, he, hp⟩
  obtain ⟨vs, hown, hel⟩ := hp.row
  have hlen := hp.len
  have hpl : ∀ p ∈ midO L, p.length ≤ 2088 := by
    intro p hp2
    unfold midO at hp2
    split at hp2
    · split at hp2
      · simp at hp2; rw [hp2]; exact encB_len _
      · cases hp2
    · unfold bodO outs at hp2
      simp only [List.mem_map] at hp2
      obtain ⟨m, _, rfl⟩ := hp2
      exact encB_len _
  have hvl : vs.length = (midO L).length := by have := hown.1; omega
  have hdist : ∀ (i j g l k l2 k2 : Nat), vs[i]? = some (.slice (some ⟨g, 0, none⟩) l k) → vs[j]? = some (.slice (some ⟨g, 0, none⟩) l2 k2) → i = j := by
    have key : ∀ (i j g l k l2 k2 : Nat), i < j → vs[i]? = some (.slice (some ⟨g, 0, none⟩) l k) → vs[j]? = some (.slice (some ⟨g, 0, none⟩) l2 k2) → False := fun i j g l k l2 k2 hij e1 e2 => by
      have hj : j < (midO L).length := by have := (List.getElem?_eq_some_iff.1 e2).1; omega
      obtain ⟨sp, q1, _, _, q4⟩ := hel j _ (List.getElem?_eq_getElem hj)
      rw [e2] at q1
      have e3 : sp = some ⟨g, 0, none⟩ := by injection q1 with q1; injection q1 with q1; exact q1.symm
      have := q4 i g l k g hij e1 e3
      omega
    intro i j g l k l2 k2 e1 e2
    rcases Nat.lt_trichotomy i j with q | q | q
    · exact (key i j g l k l2 k2 q e1 e2).elim
    · exact q
    · exact (key j i g l2 k2 l k q e2 e1).elim
  obtain ⟨K', hK1, hK2, hK3⟩ := kinds_out K wr.heap.size xs.length vs hdist
  rw [hlen] at hown
  refine ⟨a, q, cc, midO L, vs, K', _, he, ?_, hpl, ⟨?_, fun g hg => ?_, fun j p _ hj => ?_, hlen⟩, h.turn hp.lw (Tw.of hp.but) hK1 (fun g hg => Or.inl hg), hn.tick.up, kp_tw (Tw.of (v := rv.ownBlock) hp.but) h.kb h.kr hK1⟩
  · have := mid_len L; omega
  · exact owns_low0 hown
  · rcases hK3 g (hown.lt g hg).1 with e1 | ⟨j, l, k, e1, e2⟩
    · exact e1
    · exfalso
      have hj : j < (midO L).length := by have := (List.getElem?_eq_some_iff.1 e2).1; omega
      obtain ⟨sp, q1, q2, _⟩ := hel j _ (List.getElem?_eq_getElem hj)
      rw [e2] at q1
      have e3 : sp = some ⟨g, 0, none⟩ := by injection q1 with q1; injection q1 with q1; exact q1.symm
      subst e3
      rcases q2 with ⟨e4, _⟩ | ⟨g2, e4, _, e5⟩
      · cases e4
      · cases e4
        rcases hown.2 with ⟨e6, _⟩ | ⟨g3, _, _, e6, _, e7, _⟩
        · rw [e6] at hg; simp [Value.ownBlock] at hg
        · rw [e6] at hg; simp [Value.ownBlock] at hg; subst hg
          rw [e7] at e5; simp at e5
  · obtain ⟨sp, q1, q2, q3, _⟩ := hel j p hj
    refine ⟨sp, q1, Q.ownsQ_of (mine_row q2 (by have := hpl p (List.mem_of_getElem? hj); omega)), fun g hg => ?_, rfl, q3⟩
    rcases q2 with ⟨e4, _⟩ | ⟨g2, e4, e5, _⟩
    · rw [e4] at hg; simp [Value.ownBlock] at hg
    · rw [e4] at hg; simp [Value.ownBlock] at hg; subst hg
      exact hK2 j g2 _ _ e5 (by rw [q1, e4])
/-- Settle. -/
theorem settle_rz (h : Rz w wr K bb lb b G V xs L rv n) (hx : n + xs.length ≤ 20000) (n0 : Nat) :
    Calls Tryz.prog 15 #[.pointer (some ⟨lb, 0, none⟩), .pointer (some ⟨bb, 0, none⟩), .int .i64 (n0 : Int)] wr fun e w' => e = .returned (.bool true) ∧ ∃ K' G' V' xs' n', Rz w w' K' bb lb b G' V' xs' L rv n' ∧ n' + xs'.length = n + xs.length := by
  by_cases hf : xs.length < n0
  · refine (Q.late_few K wr lb G V xs _ h.late n0 hf).mono ?_
    rintro e w' ⟨he, rfl⟩
    exact ⟨he, K, G, V, xs, n, h, rfl⟩
  · obtain ⟨L0, M0, A, turn, done, used, ks, hbt, hjn⟩ := h.book
    refine (Q.late_settle_n K wr lb G V xs bb L0 M0 A turn done used ks n h.late hbt hjn hx n0 hf).mono ?_
    rintro e w' ⟨he, K', L1, M1, A1, t1, d1, us1, ks1, hb1, hj1, hk1, hlb, hkl⟩
    have np : ∀ q : Nat × Nat, q.1 ≠ 5 → q.1 ≠ 6 → q.1 ≠ 7 → ¬ Q.PS q := fun q a1 a2 a3 hq => by
      rcases hq with e | e | e
      · exact a1 e
      · exact a2 e
      · exact a3 e
    have hlw := h.lw.kp h.kb h.kr hk1 (np (1, 0) (by decide) (by decide) (by decide))
    refine ⟨he, Q.rek K', .slice none 0 0, .slice none 0 0, [], n + xs.length, ⟨hk1.below h.bel (fun x hx => by rw [h.kz x hx]; exact np (0, 0) (by decide) (by decide) (by decide)), fun x hx => Q.rek_of ((hk1.same x (Nat.lt_of_lt_of_le hx h.bel.size)).trans (h.kz x hx)) (by decide), ?_, ⟨L1, M1, A1, t1, d1, us1, ks1, hb1.rek, hj1⟩, hlw, Q.rek_of ((hk1.same b (C.lt_of_block h.lw.lb)).trans h.kb) (by decide), fun g hg => Q.rek_of ((hk1.same g (h.lw.row.lt g hg).2).trans (h.kr g hg)) (by decide)⟩, by simp⟩
    exact late_nil hlb (Q.rek_of hkl (by decide))
end
end Go.Proofs.YtlijclghojfdpaaGreatDoor
namespace Go.Proofs.YtlijclghojfdpaaGreatDoor
open Go.RowKit

set_option maxRecDepth 100000 in
set_option maxHeartbeats 8000000 in
theorem raw_all (w : World) (hT : C.Tab w) (me other : Int) (life : Nat) (window most : Int) (op : Option Addr) (ol oc : Nat) (rs : List Rop) (hrs : rs.length = ol) (hR : Rops w op rs) (_hol : ol ≤ 140737488351232) :
    Calls Tryz.prog 3 #[.agg #[.int .i64 me, .int .i64 other, .int .u64 (life : Int), .int .i64 window, .int .i64 most, .slice op ol oc]] w fun e w' => e = .returned (.bool true) ∧ Below w.heap.size w w' := by
  obtain ⟨w1, hw1⟩ : ∃ w1, w.alloc (.cells #[.int .i64 me, .int .i64 other, .int .u64 (life : Int), .int .i64 window, .int .i64 most, .slice op ol oc] 25) = w1 := ⟨_, rfl⟩
  have hb1 : Below w.heap.size w w1 := by rw [← hw1]; exact (Below.refl _ _).alloc (Nat.le_refl _) _
  have hk1 : w1.heap[w.heap.size]? = some (.cells #[.int .i64 me, .int .i64 other, .int .u64 (life : Int), .int .i64 window, .int .i64 most, .slice op ol oc] 25 (0, 0)) := by rw [← hw1]; exact heap_alloc_new _ _
  have HT : Hid (∀ w', Below w1.heap.size w1 w' → C.Tab w') := fun w' hb => (hT.below hb1 hT.pos).below hb (hT.below hb1 hT.pos).pos
  have HR := hide (hR.below hb1)
  have HBx : Hid (∀ w', Below w1.heap.size w1 w' → w'.cell? ⟨w.heap.size, 0, none⟩ = some (.int .i64 me) ∧ w'.cell? ⟨w.heap.size, 1, none⟩ = some (.int .i64 other) ∧ w'.cell? ⟨w.heap.size, 2, none⟩ = some (.int .u64 (life : Int)) ∧ w'.cell? ⟨w.heap.size, 3, none⟩ = some (.int .i64 window) ∧ w'.cell? ⟨w.heap.size, 4, none⟩ = some (.int .i64 most) ∧ w'.cell? ⟨w.heap.size, 5, none⟩ = some (.slice op ol oc)) := fun w' hb => by
    have h := (hb.block _ (C.lt_of_block hk1)).trans hk1
    simp [World.cell?, h]
  have hps : 0 < w1.heap.size := Nat.lt_of_le_of_lt (Nat.zero_le _) (C.lt_of_block hk1)
  have HB1 := hide hb1
  have HRs := hide hrs
  have HW1 := hide hw1
  have HBg := hide (fun w' h => begun_any w' (HT.out w' h))
  clear hw1 hb1 hk1 hT hR hrs
  go_enter Tryz.func3, Tryz.ntmps3
  go_upto_region 1 with (fail)
  rw [HW1.out]
  go_wp2_with fail
  refine (HBg.out w1 (Below.refl _ _)).mono ?_
  rintro e w2 ⟨rfl, hb2⟩
  obtain ⟨x0, x1, x2, x3, x4, x5⟩ := HBx.out w2 hb2
  have HN := hide (new_any w2 me other life window most)
  have HB2 := hide hb2
  clear hb2
  go_wp2_with fail
  refine HN.out.mono ?_
  rintro e w3 ⟨rfl, hl3, hb3⟩
  clear HN x0 x1 x2 x3 x4 x5
  obtain ⟨w4, hw4⟩ : ∃ w4, w3.alloc (.cells U.bk0 50) = w4 := ⟨_, rfl⟩
  obtain ⟨w5, hw5⟩ : ∃ w5, w4.alloc (.cells #[.slice none 0 0, .slice none 0 0] 53) = w5 := ⟨_, rfl⟩
  have hs4 : w4.heap.size = w3.heap.size + 1 := by rw [← hw4]; simp
  obtain ⟨K, hK⟩ : ∃ K : Knd, K = ext (ext (ext (fun _ => (0, 0)) w2.heap.size (1, 0)) w3.heap.size (5, 1)) (w3.heap.size + 1) (6, 0) := ⟨_, rfl⟩
  have hZ : Rz w1 w5 K w3.heap.size (w3.heap.size + 1) w2.heap.size (.slice none 0 0) (.slice none 0 0) [] (Lk.new me other life window most) (.slice none 0 0) 0 := by
    have b4 : Below w3.heap.size w3 w4 := by rw [← hw4]; exact (Below.refl _ _).alloc (Nat.le_refl _) _
    have b5 : Below w4.heap.size w4 w5 := by rw [← hw5]; exact (Below.refl _ _).alloc (Nat.le_refl _) _
    have k4 : w4.heap[w3.heap.size]? = some (.cells U.bk0 50 (0, 0)) := by rw [← hw4]; exact heap_alloc_new _ _
    have k5 : w5.heap[w3.heap.size + 1]? = some (.cells #[.slice none 0 0, .slice none 0 0] 53 (0, 0)) := by rw [← hs4, ← hw5]; exact heap_alloc_new _ _
    have hz2 := HB2.out.size
    have hz3 := hb3.size
    have hlt := C.lt_of_block hl3
    have bel : Below w1.heap.size w1 w5 := HB2.out.trans ((hb3.mono hz2).trans ((b4.mono (by omega)).trans (b5.mono (by omega))))
    have kb : K w2.heap.size = (1, 0) := by rw [hK]; simp only [ext]; rw [if_pos (by omega), if_pos (by omega), if_neg (by omega)]
    have kk : K w3.heap.size = (5, 1) := by rw [hK]; simp only [ext]; rw [if_pos (by omega), if_neg (by omega)]
    have kl : K (w3.heap.size + 1) = (6, 0) := by rw [hK]; simp only [ext]; rw [if_neg (by omega)]
    exact ⟨bel, fun x hx => by rw [hK]; simp only [ext]; rw [if_pos (by omega), if_pos (by omega), if_pos (by omega)], late_nil k5 kl, ⟨_, _, 0, 0, 0, 0, [], Q.bt_empty ((b5.block _ (by omega)).trans k4) kk, Q.jn_empty⟩, ⟨(hl3.below b4).below b5, ⟨rfl, Or.inl ⟨rfl, rfl⟩⟩⟩, kb, fun g hg => by simp [Value.ownBlock] at hg⟩
  have HZ := hide hZ
  have hb0 : 0 < w2.heap.size := Nat.lt_of_lt_of_le hps HB2.out.size
  have HW4 := hide hw4
  have HW5 := hide hw5
  have HS4 := hide hs4
  clear hl3 hb3 hw4 hw5 hs4 hK hZ
  go_wp2_with fail
  refine book_build rfl ?_
  go_upto_region 7 with (fail)
  rw [HW4.out]
  go_upto_region 8 with (fail)
  rw [HW5.out, HS4.out]
  generalize w3.heap.size = bb at *
  generalize w2.heap.size = b at *
  clear HW4 HW5 HS4 HB2
  go_wp2
  go_loopw [6] (fun iv w' => ∃ (i : Nat) (K : Knd) (G V : Value) (xs : List Q.Gt) (L : Lk) (rv : Value) (n : Nat), i ≤ ol ∧ i ≤ 150 ∧ iv = .int .i64 (i : Int) ∧ Hid (Rz w1 w' K bb (bb + 1) b G V xs L rv n ∧ Rn L i ∧ n + xs.length ≤ tri i)) (fun iv _ => 150 - (intOf iv).toNat)
  case atStart => exact ⟨0, K, _, _, [], _, _, 0, Nat.zero_le _, by omega, rfl, hide ⟨HZ.out, rn_new me other life window most, Nat.zero_le _⟩⟩
  case round =>
  clear HZ K
  obtain ⟨i, K, G, V, xs, L, rv, n, hi, hi2, rfl, HQ⟩ := hrel
  rename World => wr
  obtain ⟨-, -, -, -, -, x5⟩ := HBx.out wr HQ.out.1.bel
  by_cases hlt : i < ol
  · have i1 : (i : Int) < (ol : Int) := by omega
    have i2 : (0 : Int) ≤ (i : Int) := by omega
    by_cases h150 : i < 150
    · have i3 : (i : Int) < 150 := by omega
      obtain ⟨r, hr⟩ : ∃ r, rs[i]? = some r := ⟨_, List.getElem?_eq_getElem (by rw [HRs.out]; exact hlt)⟩
      obtain ⟨kind, on, bp, bc, body, ⟨⟨f0, f1, mine, yours, seq, ack, fbd⟩, fp, fc⟩, pick, olife⟩ := r
      obtain ⟨g, o, hop, hg, hcl, hok⟩ := HR.out i _ hr
      subst hop
      obtain ⟨nb, hnb⟩ : ∃ nb, body.length = nb := ⟨_, rfl⟩
      obtain ⟨nf, hnf⟩ : ∃ nf, fbd.length = nf := ⟨_, rfl⟩
      have hnbl : nb ≤ 140737488351232 := by have := hok.len; simp only at this; omega
      have hnfl : nf ≤ 140737488351232 := by have := hok.fe.len; simp only at this; omega
      have HBy : Hid (∀ w', Below w1.heap.size w1 w' → Bytes w' bp body ∧ Bytes w' fp fbd) := fun w' hb => ⟨hok.by_.below hb, hok.fe.by_.below hb⟩
      have hce : ∀ (j : Nat) (v : Value), ([.int .i64 kind, .int .i64 on, .slice bp nb bc, .int .i64 f0, .int .i64 f1, .int .u64 (mine : Int), .int .u64 (yours : Int), .int .u64 (seq : Int), .int .u64 (ack : Int), .slice fp nf fc, .int .i64 pick, .int .u64 olife] : List Value)[j]? = some v → wr.cell? ⟨g, o + i * 12 + j, none⟩ = some v := fun j v hv => (HQ.out.1.bel.cell (p := ⟨g, o + i * 12 + j, none⟩) hg).trans (hcl j v (by rw [← hnb, ← hnf] at hv; exact hv))
      have y0 : wr.cell? ⟨g, o + i * 12, none⟩ = some (.int .i64 kind) := hce 0 _ rfl
      have y1 : wr.cell? ⟨g, o + i * 12 + 1, none⟩ = some (.int .i64 on) := hce 1 _ rfl
      have y2 : wr.cell? ⟨g, o + i * 12 + 2, none⟩ = some (.slice bp nb bc) := hce 2 _ rfl
      have y3 : wr.cell? ⟨g, o + i * 12 + 3, none⟩ = some (.int .i64 f0) := hce 3 _ rfl
      have y4 : wr.cell? ⟨g, o + i * 12 + 4, none⟩ = some (.int .i64 f1) := hce 4 _ rfl
      have y5 : wr.cell? ⟨g, o + i * 12 + 5, none⟩ = some (.int .u64 (mine : Int)) := hce 5 _ rfl
      have y6 : wr.cell? ⟨g, o + i * 12 + 6, none⟩ = some (.int .u64 (yours : Int)) := hce 6 _ rfl
      have y7 : wr.cell? ⟨g, o + i * 12 + 7, none⟩ = some (.int .u64 (seq : Int)) := hce 7 _ rfl
      have y8 : wr.cell? ⟨g, o + i * 12 + 8, none⟩ = some (.int .u64 (ack : Int)) := hce 8 _ rfl
      have y9 : wr.cell? ⟨g, o + i * 12 + 9, none⟩ = some (.slice fp nf fc) := hce 9 _ rfl
      have y10 : wr.cell? ⟨g, o + i * 12 + 10, none⟩ = some (.int .i64 pick) := hce 10 _ rfl
      have y11 : wr.cell? ⟨g, o + i * 12 + 11, none⟩ = some (.int .u64 olife) := hce 11 _ rfl
      have HNb := hide hnb
      have HNf := hide hnf
      clear hr hg hcl hok hce hnb hnf
      go_upto_region 12 with (fail)
      obtain ⟨wa, hwa⟩ : ∃ wa, wr.alloc (.cells #[.int .i64 kind, .int .i64 on, .slice bp nb bc, .int .i64 f0, .int .i64 f1, .int .u64 (mine : Int), .int .u64 (yours : Int), .int .u64 (seq : Int), .int .u64 (ack : Int), .slice fp nf fc, .int .i64 pick, .int .u64 olife] 58) = wa := ⟨_, rfl⟩
      rw [hwa]
      have hba : Below wr.heap.size wr wa := by rw [← hwa]; exact (Below.refl _ _).alloc (Nat.le_refl _) _
      have HZa := hide (HQ.out.1.below hba (9, 1))
      have HOa : Hid (Bx wa (ext K wr.heap.size (9, 1)) wr.heap.size #[.int .i64 kind, .int .i64 on, .slice bp nb bc, .int .i64 f0, .int .i64 f1, .int .u64 (mine : Int), .int .u64 (yours : Int), .int .u64 (seq : Int), .int .u64 (ack : Int), .slice fp nf fc, .int .i64 pick, .int .u64 olife] 58) := ⟨by rw [← hwa]; exact heap_alloc_new _ _, ext_new _ _ (Nat.le_refl _)⟩
      have HNa := hide HQ.out.2.1
      have HBa := hide HQ.out.2.2
      have htri : tri (i + 1) = tri i + i + 2 := rfl
      have htm := tri_most i hi2
      generalize ext K wr.heap.size (9, 1) = Ka at *
      generalize wr.heap.size = ob at *
      clear hwa hba HQ x5 y0 y1 y2 y3 y4 y5 y6 y7 y8 y9 y10 y11
      obtain ⟨c0, c1, c2, c3, c4, c5, c6, c7, c8, c9, c10, c11, cf⟩ := blk12 HOa.out.blk
      by_cases hk1 : kind = 1
      · subst hk1
        have HL := hide (U.lend_any wa bp nb bc body HNb.out (HBy.out wa HZa.out.bel).1 hnbl)
        go_wp2_with fail
        refine HL.out.mono ?_
        rintro e0 wl ⟨gl, cl, rfl, hol, hbl⟩
        have HZb := hide (HZa.out.below hbl (9, 2))
        have HOb := hide (HOa.out.kp (kfz hbl Ka (9, 2)) (fun e => e))
        have HLb : Hid (Lr2 wl (ext Ka wa.heap.size (9, 2)) gl cl body) := Lr2.new hol (HBy.out wa HZa.out.bel).1.small
        generalize ext Ka wa.heap.size (9, 2) = Kb at *
        clear hol hbl HL HZa HOa c0 c1 c2 c3 c4 c5 c6 c7 c8 c9 c10 c11 cf
        have HS := hide (send_rz HZb.out HNa.out hi2 gl cl nb body HNb.out HLb.out)
        go_wp2_with fail
        refine HS.out.mono ?_
        rintro e0 wc ⟨z, L9, rv9, rfl, hzc, hnc, hkc⟩
        have HZc := hide hzc
        have HN9 := hide hnc
        have HOc := hide (HOb.out.kp hkc (by simp))
        have HLc := hide (HLb.out.kp hkc (by simp))
        generalize ext Kb wl.heap.size (1, 0) = Kc at *
        clear hzc hnc hkc HS HZb HOb HLb
        obtain ⟨c0, c1, c2, c3, c4, c5, c6, c7, c8, c9, c10, c11, cf⟩ := blk12 HOc.out.blk
        have HIn := hide (U.intact_any wc 0 gl cl nb bp bc body HNb.out HLc.out.own (HBy.out wc HZc.out.bel).1 hnbl)
        go_wp2_with fail
        refine HIn.out.mono ?_
        rintro e0 wd ⟨rfl, qd, hwd⟩
        have HZd := hide (HZc.out.kp (drewN_kp wc Kc qd) (fun e => e) (fun e => e) (fun _ e => e) (fun e => e) (fun _ _ e => e))
        have HLd := hide (HLc.out.kp (drewN_kp wc Kc qd) (fun e => e))
        rw [← hwd] at HZd HLd
        clear hwd HIn HZc HLc HOc c0 c1 c2 c3 c4 c5 c6 c7 c8 c9 c10 c11 cf
        have HOv := hide (U.over_any wd Kc (9, 2) gl nb cl cl (body ++ U.marks) (by rw [List.length_append, HNb.out]; omega) HLd.out.own HLd.out.kind hnbl)
        go_wp2_with fail
        refine HOv.out.mono ?_
        rintro e0 we ⟨rfl, hke⟩
        have HZ9 := hide (HZd.out.kp hke (by simp) (by simp) (by simp) (by simp) (by simp))
        have HB9 : Hid (n + xs.length ≤ tri (i + 1)) := by show _ ≤ _; have := HBa.out; omega
        clear hke HOv HZd HLd
        obtain ⟨ra, rc, hrv⟩ := HZ9.out.lw.form
        have H1 := hide (known_any _ b _ _ HZ9.out.lw.lb)
        have H2 := hide (life_any _ b _ _ HZ9.out.lw.lb)
        have hlb9 := HZ9.out.lw.lb
        rw [hrv] at hlb9
        have H3 := hide (len_any _ b _ ra _ rc hlb9)
        clear hlb9 hrv
        go_wp2_with fail
        refine H1.out.mono ?_
        rintro e0 z1 ⟨rfl, hz1⟩
        rw [hz1]
        clear hz1
        go_wp2_with fail
        refine H2.out.mono ?_
        rintro e0 z1 ⟨rfl, hz1⟩
        rw [hz1]
        clear hz1
        go_wp2_with fail
        refine H3.out.mono ?_
        rintro e0 z1 ⟨rfl, hz1⟩
        rw [hz1]
        clear hz1 H1 H2 H3
        go_wp2
        first
          | exact ⟨⟨i + 1, _, _, _, _, _, _, _, by omega, by omega, by go_num, hide ⟨HZ9.out, HN9.out, HB9.out⟩⟩, by simp [intOf]; omega⟩
          | (go_roundw
             case rel => exact ⟨i + 1, _, _, _, _, _, _, _, by omega, by omega, by go_num, hide ⟨HZ9.out, HN9.out, HB9.out⟩⟩
             case measure => simp [intOf]; omega)
      · have k1 : (kind == 1) = false := by simpa using hk1
        by_cases hk2 : kind = 2
        · subst hk2
          have HOw := hide (owe_any wa b L rv HZa.out.lw.lb)
          clear k1 hk1
          go_wp2_with fail
          refine HOw.out.mono ?_
          rintro e0 wc ⟨rfl, hlc, honl⟩
          have HZ9 : Hid (Rz w1 wc Ka bb (bb + 1) b G V xs { L with asked := true } rv n) := HZa.out.turn (HZa.out.lw.but honl.but hlc rfl) (Tw.of honl.but) (fun _ _ => rfl) (fun g hg => Or.inl hg)
          have HN9 : Hid (Rn { L with asked := true } (i + 1)) := HNa.out.owe.up
          have HB9 : Hid (n + xs.length ≤ tri (i + 1)) := by show _ ≤ _; have := HBa.out; omega
          clear hlc honl HOw HZa HOa c0 c1 c2 c3 c4 c5 c6 c7 c8 c9 c10 c11 cf
          obtain ⟨ra, rc, hrv⟩ := HZ9.out.lw.form
          have H1 := hide (known_any _ b _ _ HZ9.out.lw.lb)
          have H2 := hide (life_any _ b _ _ HZ9.out.lw.lb)
          have hlb9 := HZ9.out.lw.lb
          rw [hrv] at hlb9
          have H3 := hide (len_any _ b _ ra _ rc hlb9)
          clear hlb9 hrv
          go_wp2_with fail
          refine H1.out.mono ?_
          rintro e0 z1 ⟨rfl, hz1⟩
          rw [hz1]
          clear hz1
          go_wp2_with fail
          refine H2.out.mono ?_
          rintro e0 z1 ⟨rfl, hz1⟩
          rw [hz1]
          clear hz1
          go_wp2_with fail
          refine H3.out.mono ?_
          rintro e0 z1 ⟨rfl, hz1⟩
          rw [hz1]
          clear hz1 H1 H2 H3
          go_wp2
          first
            | exact ⟨⟨i + 1, _, _, _, _, _, _, _, by omega, by omega, by go_num, hide ⟨HZ9.out, HN9.out, HB9.out⟩⟩, by simp [intOf]; omega⟩
            | (go_roundw
               case rel => exact ⟨i + 1, _, _, _, _, _, _, _, by omega, by omega, by go_num, hide ⟨HZ9.out, HN9.out, HB9.out⟩⟩
               case measure => simp [intOf]; omega)
        · have k2 : (kind == 2) = false := by simpa using hk2
          by_cases hk3 : kind = 3
          · subst hk3
            clear k1 k2 hk1 hk2
            go_upto_region 23 with (fail)
            obtain ⟨wb, hwb⟩ : ∃ wb, wa.alloc (.cells #[.int .i64 f0, .int .i64 f1, .int .u64 (mine : Int), .int .u64 (yours : Int), .int .u64 (seq : Int), .int .u64 (ack : Int), .slice fp nf fc] 56) = wb := ⟨_, rfl⟩
            rw [hwb]
            have hbb : Below wa.heap.size wa wb := by rw [← hwb]; exact (Below.refl _ _).alloc (Nat.le_refl _) _
            have HZb := hide (HZa.out.below hbb (9, 1))
            have HOb := hide (HOa.out.kp (kfz hbb Ka (9, 1)) (fun e => e))
            have HXb : Hid (Bx wb (ext Ka wa.heap.size (9, 1)) wa.heap.size #[.int .i64 f0, .int .i64 f1, .int .u64 (mine : Int), .int .u64 (yours : Int), .int .u64 (seq : Int), .int .u64 (ack : Int), .slice fp nf fc] 56) := ⟨by rw [← hwb]; exact heap_alloc_new _ _, ext_new _ _ (Nat.le_refl _)⟩
            generalize ext Ka wa.heap.size (9, 1) = Kb at *
            generalize wa.heap.size = fb at *
            clear hwb hbb HZa HOa c0 c1 c2 c3 c4 c5 c6 c7 c8 c9 c10 c11 cf
            obtain ⟨c0, c1, c2, c3, c4, c5, c6, c7, c8, c9, c10, c11, cf⟩ := blk12 HOb.out.blk
            have HL := hide (U.lend_any wb fp nf fc fbd HNf.out (HBy.out wb HZb.out.bel).2 hnfl)
            go_wp2_with fail
            refine HL.out.mono ?_
            rintro e0 wl ⟨gl, cl, rfl, hol, hbl⟩
            have HZc := hide (HZb.out.below hbl (9, 2))
            have HOc := hide (HOb.out.kp (kfz hbl Kb (9, 2)) (fun e => e))
            have HXc := hide (HXb.out.kp (kfz hbl Kb (9, 2)) (fun e => e))
            have HLc : Hid (Lr2 wl (ext Kb wb.heap.size (9, 2)) gl cl fbd) := Lr2.new hol (HBy.out wb HZb.out.bel).2.small
            generalize ext Kb wb.heap.size (9, 2) = Kc at *
            clear hol hbl HL HZb HOb HXb c0 c1 c2 c3 c4 c5 c6 c7 c8 c9 c10 c11 cf
            obtain ⟨d0, d1, d2, d3, d4, d5, d6, df⟩ := blk7 HXc.out.blk
            have hfl := C.lt_of_block HXc.out.blk
            go_upto_region 24 with (fail)
            obtain ⟨wd, hwd⟩ : ∃ wd, wl.setCell ⟨fb, 6, none⟩ (.slice (some ⟨gl, 0, none⟩) nf cl) = wd := ⟨_, rfl⟩
            rw [hwd]
            have mkd := kpx (w := wl) (i := 6) (v := .slice (some ⟨gl, 0, none⟩) nf cl) HXc.out.kind
            rw [hwd] at mkd
            have HZd := hide (HZc.out.kp mkd (by simp) (by simp) (by simp) (by simp) (by simp))
            have HLd := hide (HLc.out.kp mkd (by simp))
            have HXd := hide (HXc.out.set 6 (.slice (some ⟨gl, 0, none⟩) nf cl))
            have hne : ob ≠ fb := fun e => by
              have h1 := HOc.out.blk
              have h2 := HXc.out.blk
              rw [e, h2] at h1
              simp at h1
            have HOd : Hid (Bx wd Kc ob #[.int .i64 3, .int .i64 on, .slice bp nb bc, .int .i64 f0, .int .i64 f1, .int .u64 (mine : Int), .int .u64 (yours : Int), .int .u64 (seq : Int), .int .u64 (ack : Int), .slice fp nf fc, .int .i64 pick, .int .u64 olife] 58) := ⟨by rw [← hwd]; exact (Below.heap_setCell _ _ _ _ hne).trans HOc.out.blk, HOc.out.kind⟩
            rw [hwd] at HXd
            simp only [List.setIfInBounds_toArray, List.set_cons_succ, List.set_cons_zero] at HXd
            clear hwd mkd hne HZc HLc HXc HOc d0 d1 d2 d3 d4 d5 d6 df hfl
            obtain ⟨d0, d1, d2, d3, d4, d5, d6, df⟩ := blk7 HXd.out.blk
            have HH := hide (hear_rz HZd.out HNa.out hi2 gl cl nf f0 f1 mine yours seq ack fbd HNf.out HLd.out hnfl)
            go_wp2_with fail
            refine HH.out.mono ?_
            rintro e0 we ⟨a, m, cc, t1, t2, t3, ys, L9, rv9, rfl, hml, haq, hze, hne, hke⟩
            have HZe := hide hze
            have HN9 := hide hne
            have HAe := hide haq
            have HOe := hide (HOd.out.kp hke (by simp))
            have HLe := hide (HLd.out.kp hke (by simp))
            have HXe := hide (HXd.out.kp hke (by simp))
            generalize ext Kc wd.heap.size (7, xs.length) = Ke at *
            clear hze hne haq hke HH HZd HLd HXd HOd d0 d1 d2 d3 d4 d5 d6 df
            go_upto_region 25 with (fail)
            obtain ⟨wf, hwf⟩ : ∃ wf, we.alloc (.cells #[.slice a m cc, .bool t1, .bool t2, .bool t3] 65) = wf := ⟨_, rfl⟩
            rw [hwf]
            have hbf : Below we.heap.size we wf := by rw [← hwf]; exact (Below.refl _ _).alloc (Nat.le_refl _) _
            have hkf : wf.heap[we.heap.size]? = some (.cells #[.slice a m cc, .bool t1, .bool t2, .bool t3] 65 (0, 0)) := by rw [← hwf]; exact heap_alloc_new _ _
            have HZf := hide (HZe.out.below hbf (9, 1))
            have HAf := hide (HAe.out.kp (kfz hbf Ke (9, 1)) (fun e => e))
            have HOf := hide (HOe.out.kp (kfz hbf Ke (9, 1)) (fun e => e))
            have HLf := hide (HLe.out.kp (kfz hbf Ke (9, 1)) (fun e => e))
            have HXf := hide (HXe.out.kp (kfz hbf Ke (9, 1)) (fun e => e))
            have z0 : wf.cell? ⟨we.heap.size, 0, none⟩ = some (.slice a m cc) := by simp [World.cell?, hkf]
            generalize ext Ke we.heap.size (9, 1) = Kf at *
            clear hwf hbf hkf HZe HAe HOe HLe HXe
            have HAd := hide (Q.late_add Kf wf (bb + 1) G V xs a m cc ys a cc HZf.out.late HAf.out.row HAf.out.kind HAf.out.bytesS (by omega) (by have := HBa.out; omega))
            go_wp2_with fail
            refine HAd.out.mono ?_
            rintro e0 wg ⟨rfl, G9, V9, wp, wc, hlg, hkg⟩
            have HZg := hide (HZf.out.more hlg hkg)
            have HOg := hide (HOf.out.kp hkg (by simp))
            have HLg := hide (HLf.out.kp hkg (by simp))
            have HXg := hide (HXf.out.kp hkg (by simp))
            generalize ext Kf wf.heap.size (6, 0) = Kg at *
            clear hlg hkg HAd HZf HAf HOf HLf HXf z0
            obtain ⟨c0, c1, c2, c3, c4, c5, c6, c7, c8, c9, c10, c11, cf⟩ := blk12 HOg.out.blk
            obtain ⟨d0, d1, d2, d3, d4, d5, d6, df⟩ := blk7 HXg.out.blk
            have HIn := hide (U.intact_any wg 0 gl cl nf fp fc fbd HNf.out HLg.out.own (HBy.out wg HZg.out.bel).2 hnfl)
            go_wp2_with fail
            refine HIn.out.mono ?_
            rintro e0 wh ⟨rfl, qh, hwh⟩
            have mh := drewN_kp wg Kg qh
            have HZh := hide (HZg.out.kp mh (fun e => e) (fun e => e) (fun _ e => e) (fun e => e) (fun _ _ e => e))
            have HLh := hide (HLg.out.kp mh (fun e => e))
            have HXh := hide (HXg.out.kp mh (fun e => e))
            rw [← hwh] at HZh HLh HXh
            clear hwh mh HIn HZg HLg HXg HOg c0 c1 c2 c3 c4 c5 c6 c7 c8 c9 c10 c11 cf d0 d1 d2 d3 d4 d5 d6 df
            obtain ⟨d0, d1, d2, d3, d4, d5, d6, df⟩ := blk7 HXh.out.blk
            have HOv := hide (U.over_any wh Kg (9, 2) gl nf cl cl (fbd ++ U.marks) (by rw [List.length_append, HNf.out]; omega) HLh.out.own HLh.out.kind hnfl)
            go_wp2_with fail
            refine HOv.out.mono ?_
            rintro e0 wi ⟨rfl, hki⟩
            have HZ9 := hide (HZh.out.kp hki (by simp) (by simp) (by simp) (by simp) (by simp))
            have HB9 : Hid (n + (xs ++ [(⟨a, m, cc, ys, wp, wc⟩ : Q.Gt)]).length ≤ tri (i + 1)) := by show _ ≤ _; rw [List.length_append]; have := HBa.out; simp only [List.length_cons, List.length_nil]; omega
            clear hki HOv HZh HLh HXh d0 d1 d2 d3 d4 d5 d6 df
            obtain ⟨ra, rc, hrv⟩ := HZ9.out.lw.form
            have H1 := hide (known_any _ b _ _ HZ9.out.lw.lb)
            have H2 := hide (life_any _ b _ _ HZ9.out.lw.lb)
            have hlb9 := HZ9.out.lw.lb
            rw [hrv] at hlb9
            have H3 := hide (len_any _ b _ ra _ rc hlb9)
            clear hlb9 hrv
            go_wp2_with fail
            refine H1.out.mono ?_
            rintro e0 z1 ⟨rfl, hz1⟩
            rw [hz1]
            clear hz1
            go_wp2_with fail
            refine H2.out.mono ?_
            rintro e0 z1 ⟨rfl, hz1⟩
            rw [hz1]
            clear hz1
            go_wp2_with fail
            refine H3.out.mono ?_
            rintro e0 z1 ⟨rfl, hz1⟩
            rw [hz1]
            clear hz1 H1 H2 H3
            go_wp2
            first
              | exact ⟨⟨i + 1, _, _, _, _, _, _, _, by omega, by omega, by go_num, hide ⟨HZ9.out, HN9.out, HB9.out⟩⟩, by simp [intOf]; omega⟩
              | (go_roundw
                 case rel => exact ⟨i + 1, _, _, _, _, _, _, _, by omega, by omega, by go_num, hide ⟨HZ9.out, HN9.out, HB9.out⟩⟩
                 case measure => simp [intOf]; omega)
          · have k3 : (kind == 3) = false := by simpa using hk3
            by_cases hk5 : kind = 5
            · subst hk5
              clear k1 k2 k3 hk1 hk2 hk3
              have HTk := hide (tick_rz HZa.out HNa.out hi2 (HT.out wa HZa.out.bel) hb0)
              go_wp2_with fail
              refine HTk.out.mono ?_
              rintro e0 wb ⟨a, q, cc, ps, vs, Kb, L9, rfl, hq, hpl, hot, hzb, hnb9, hkb⟩
              have HZb := hide hzb
              have HN9 := hide hnb9
              have HOt := hide hot
              have HPl := hide hpl
              clear hzb hnb9 hot hpl hkb HTk HZa HOa c0 c1 c2 c3 c4 c5 c6 c7 c8 c9 c10 c11 cf
              go_wp2
              go_loopw [12] (fun kv w' => ∃ (k : Nat) (K : Knd) (G V : Value) (xs' : List Q.Gt), k ≤ q ∧ kv = .int .i64 (k : Int) ∧ Hid (Rz w1 w' K bb (bb + 1) b G V xs' L9 rv n ∧ xs'.length = xs.length + k ∧ Ot w' K xs.length a q cc ps vs k)) (fun kv _ => q - (intOf kv).toNat)
              case atStart => exact ⟨0, Kb, G, V, xs, Nat.zero_le _, rfl, hide ⟨HZb.out, rfl, HOt.out⟩⟩
              case round =>
              clear HZb HOt
              obtain ⟨k, Kk, Gk, Vk, xsk, hk, rfl, HI⟩ := hrel
              rename World => wk
              by_cases hkq : k < q
              · have k1 : (k : Int) < (q : Int) := by omega
                have k2 : (0 : Int) ≤ (k : Int) := by omega
                obtain ⟨p, hp⟩ : ∃ p, ps[k]? = some p := ⟨_, List.getElem?_eq_getElem (by rw [HI.out.2.2.len]; exact hkq)⟩
                obtain ⟨sp, hvk, haq⟩ := HI.out.2.2.el k p (Nat.le_refl _) hp
                have hpl := HPl.out p (List.mem_of_getElem? hp)
                obtain ⟨m, hm⟩ : ∃ m, p.length = m := ⟨_, rfl⟩
                rw [hm] at hvk haq hpl
                obtain ⟨go, rfl⟩ : ∃ go, a = some ⟨go, 0, none⟩ := by
                  rcases HI.out.2.2.own.2 with ⟨e1, e2⟩ | ⟨go, _, _, e1, _⟩
                  · omega
                  · cases e1; exact ⟨go, rfl⟩
                have hcell : wk.cell? ⟨go, k, none⟩ = some (.slice sp m m) := by
                  have h1 := owns_cells0 HI.out.2.2.own k _ hvk
                  rwa [show (⟨go, 0, none⟩ : Addr).add k = ⟨go, k, none⟩ by unfold Addr.add; split <;> simp_all] at h1
                have md := (Kp.refl (fun _ => False) Kk wk).drew
                have HZd := hide (HI.out.1.kp md (fun e => e) (fun e => e) (fun _ e => e) (fun e => e) (fun _ _ e => e))
                have HAd := hide (haq.kp md (fun e => e))
                have HOd := hide (HI.out.2.2.kp md (Nat.le_refl k) (fun e => e) (fun _ _ e => e))
                have HLx := hide HI.out.2.1
                have HM := hide hm
                have hglt : go < wk.heap.size := rk_lt HI.out.2.2.own rfl
                clear hp hvk haq hm md HI
                have HCp := hide (U.copy_any wk.drew sp m m p HM.out HAd.out.bytes (by omega))
                go_upto_region 34 with (fail)
                go_region_law (first
                  | (go_simp; go_at_call 14; refine HCp.out.mono ?_; rintro e0 wc ⟨ca, c2, rfl, hoc, hbc⟩; have HZe := hide (HZd.out.below hbc (9, 9)); have HAe := hide (HAd.out.kp (kfz hbc Kk (9, 9)) (fun e => e)); have HOe := hide (HOd.out.kp (kfz hbc Kk (9, 9)) (Nat.le_refl k) (fun e => e) (fun _ _ e => e)); have HBe := hide (bytesS_new (K := Kk) hoc HAd.out.small); have hce2 : wc.cell? ⟨go, k, none⟩ = some (.slice sp m m) := (hbc.cell (p := ⟨go, k, none⟩) hglt).trans hcell; clear hoc hbc)
                  | (go_simp; go_at_call 12; refine (Q.late_add _ wc (bb + 1) Gk Vk xsk sp m m p ca c2 HZe.out.late HAe.out.row (by rw [HLx.out]; exact HAe.out.kind) HBe.out (by omega) (by have := HLx.out; have := HBa.out; omega)).mono ?_; rintro e0 wd ⟨rfl, G8, V8, wp, wc2, hl8, hk8⟩; have HZ8 := hide (HZe.out.more hl8 hk8); have HO8 := hide (HOe.out.kp hk8 (Nat.le_succ k) (by simp) (by simp)); have HL8 : Hid ((xsk ++ [(⟨sp, m, m, p, wp, wc2⟩ : Q.Gt)]).length = xs.length + (k + 1)) := (by show _ = _; rw [List.length_append, HLx.out]; rfl); clear hl8 hk8))
                all_goals
                  clear HCp HZd HAd HOd HZe HAe HOe HBe
                  go_wp2
                  first
                    | exact ⟨⟨k + 1, _, G8, V8, _, by omega, by go_num, hide ⟨HZ8.out, HL8.out, HO8.out⟩⟩, by simp [intOf]; omega⟩
                    | (go_roundw
                       case rel => exact ⟨k + 1, _, G8, V8, _, by omega, by go_num, hide ⟨HZ8.out, HL8.out, HO8.out⟩⟩
                       case measure => simp [intOf]; omega)
              · obtain rfl : k = q := by omega
                have k1 : ¬ (k : Int) < (k : Int) := by omega
                have hxk : n + xsk.length ≤ tri i + (i + 1) := by have := HI.out.2.1; have := HBa.out; omega
                have HSt := hide (settle_rz HI.out.1 (by omega) 40)
                clear HI
                go_wp2_with fail
                refine HSt.out.mono ?_
                rintro e0 wm ⟨rfl, K7, G7, V7, xs7, n7, hz7, hn7⟩
                have HZ9 := hide hz7
                have HB9 : Hid (n7 + xs7.length ≤ tri (i + 1)) := by show _ ≤ _; omega
                clear hz7 hn7 HSt
                obtain ⟨ra, rc, hrv⟩ := HZ9.out.lw.form
                have H1 := hide (known_any _ b _ _ HZ9.out.lw.lb)
                have H2 := hide (life_any _ b _ _ HZ9.out.lw.lb)
                have hlb9 := HZ9.out.lw.lb
                rw [hrv] at hlb9
                have H3 := hide (len_any _ b _ ra _ rc hlb9)
                clear hlb9 hrv
                go_wp2_with fail
                refine H1.out.mono ?_
                rintro e0 z1 ⟨rfl, hz1⟩
                rw [hz1]
                clear hz1
                go_wp2_with fail
                refine H2.out.mono ?_
                rintro e0 z1 ⟨rfl, hz1⟩
                rw [hz1]
                clear hz1
                go_wp2_with fail
                refine H3.out.mono ?_
                rintro e0 z1 ⟨rfl, hz1⟩
                rw [hz1]
                clear hz1 H1 H2 H3
                go_wp2
                first
                  | exact ⟨⟨i + 1, _, _, _, _, _, _, _, by omega, by omega, by go_num, hide ⟨HZ9.out, HN9.out, HB9.out⟩⟩, by simp [intOf]; omega⟩
                  | (go_roundw
                     case rel => exact ⟨i + 1, _, _, _, _, _, _, _, by omega, by omega, by go_num, hide ⟨HZ9.out, HN9.out, HB9.out⟩⟩
                     case measure => simp [intOf]; omega)
            · have k5 : (kind == 5) = false := by simpa using hk5
              have HZ9 := hide HZa.out
              have HN9 := hide HNa.out.up
              have HB9 : Hid (n + xs.length ≤ tri (i + 1)) := by show _ ≤ _; have := HBa.out; omega
              clear HZa
              obtain ⟨ra, rc, hrv⟩ := HZ9.out.lw.form
              have H1 := hide (known_any _ b _ _ HZ9.out.lw.lb)
              have H2 := hide (life_any _ b _ _ HZ9.out.lw.lb)
              have hlb9 := HZ9.out.lw.lb
              rw [hrv] at hlb9
              have H3 := hide (len_any _ b _ ra _ rc hlb9)
              clear hlb9 hrv
              go_wp2_with fail
              refine H1.out.mono ?_
              rintro e0 z1 ⟨rfl, hz1⟩
              rw [hz1]
              clear hz1
              go_wp2_with fail
              refine H2.out.mono ?_
              rintro e0 z1 ⟨rfl, hz1⟩
              rw [hz1]
              clear hz1
              go_wp2_with fail
              refine H3.out.mono ?_
              rintro e0 z1 ⟨rfl, hz1⟩
              rw [hz1]
              clear hz1 H1 H2 H3
              go_wp2
              first
                | exact ⟨⟨i + 1, _, _, _, _, _, _, _, by omega, by omega, by go_num, hide ⟨HZ9.out, HN9.out, HB9.out⟩⟩, by simp [intOf]; omega⟩
                | (go_roundw
                   case rel => exact ⟨i + 1, _, _, _, _, _, _, _, by omega, by omega, by go_num, hide ⟨HZ9.out, HN9.out, HB9.out⟩⟩
                   case measure => simp [intOf]; omega)
    · have i3 : ¬ (i : Int) < 150 := by omega
      have HSt := hide (settle_rz HQ.out.1 (by have := HQ.out.2.2; have := tri_most i hi2; omega) 0)
      have hBn : n + xs.length ≤ 11475 := by have := HQ.out.2.2; have := tri_most i hi2; omega
      clear HQ
      go_wp2_with fail
      refine HSt.out.mono ?_
      rintro e0 wp ⟨rfl, K2, G2, V2, xs2, n2, hz2, hn2⟩
      have HZ2 := hide hz2
      obtain ⟨L0, M0, A0, tn0, dn0, us0, ks0, hbt, hjn⟩ := hz2.book
      have HLk := hide (Q.bt_look (fun q => q = (5, 2)) rfl K2 wp bb L0 M0 A0 tn0 dn0 us0 ks0 n2 hbt hjn (by omega))
      clear hz2 hn2 hbt hjn HSt x5
      go_wp2_with fail
      refine HLk.out.mono ?_
      rintro e0 wq ⟨rfl, L3, M3, A3, dn3, ks3, -, -, hkb⟩
      have HBb : Hid (Below w1.heap.size w1 wq) := hkb.below HZ2.out.bel (fun x hx => by
        rw [HZ2.out.kz x hx]
        rintro (e | e | e) <;> cases e)
      clear hkb HLk
      go_wp2_with fail
      refine (HBg.out wq HBb.out).mono ?_
      rintro e0 wv ⟨rfl, hbc⟩
      have HBc := hide (HB1.out.trans ((HBb.out.trans (hbc.mono HBb.out.size)).mono HB1.out.size))
      clear hbc
      go_wp2
      go_ret
      exact ⟨rfl, HBc.out⟩
  · have i1 : ¬ (i : Int) < (ol : Int) := by omega
    have HSt := hide (settle_rz HQ.out.1 (by have := HQ.out.2.2; have := tri_most i hi2; omega) 0)
    have hBn : n + xs.length ≤ 11475 := by have := HQ.out.2.2; have := tri_most i hi2; omega
    clear HQ
    go_wp2_with fail
    refine HSt.out.mono ?_
    rintro e0 wp ⟨rfl, K2, G2, V2, xs2, n2, hz2, hn2⟩
    have HZ2 := hide hz2
    obtain ⟨L0, M0, A0, tn0, dn0, us0, ks0, hbt, hjn⟩ := hz2.book
    have HLk := hide (Q.bt_look (fun q => q = (5, 2)) rfl K2 wp bb L0 M0 A0 tn0 dn0 us0 ks0 n2 hbt hjn (by omega))
    clear hz2 hn2 hbt hjn HSt x5
    go_wp2_with fail
    refine HLk.out.mono ?_
    rintro e0 wq ⟨rfl, L3, M3, A3, dn3, ks3, -, -, hkb⟩
    have HBb : Hid (Below w1.heap.size w1 wq) := hkb.below HZ2.out.bel (fun x hx => by
      rw [HZ2.out.kz x hx]
      rintro (e | e | e) <;> cases e)
    clear hkb HLk
    go_wp2_with fail
    refine (HBg.out wq HBb.out).mono ?_
    rintro e0 wv ⟨rfl, hbc⟩
    have HBc := hide (HB1.out.trans ((HBb.out.trans (hbc.mono HBb.out.size)).mono HB1.out.size))
    clear hbc
    go_wp2
    go_ret
    exact ⟨rfl, HBc.out⟩
end Go.Proofs.YtlijclghojfdpaaGreatDoor
