import Derived.Test.YtbcpoejpbhpcbaaDoorSeB
import Derived.Test.YtbcpoejpbhpcbaaDoorSeD
import Derived.Test.YtbcpoejpbhpcbaaDoorSeP
namespace Go.Proofs.YtbcpoejpbhpcbaaDoor
open Go.RowKit

/-- A link with its row, all of one kind. -/
structure Lq (w : World) (K : Knd) (kd : Nat × Nat) (b : Nat) (L : Lk) (rv : Value) : Prop where
  lw : Lw w b L rv
  kb : K b = kd
  kr : ∀ g, rv.ownBlock = some g → K g = kd
theorem Lq.kp {w w2 : World} {K K' : Knd} {kd : Nat × Nat} {b : Nat} {L : Lk} {rv : Value} {p : Nat × Nat → Prop} (h : Lq w K kd b L rv) (m : Kp p K K' w w2) (hp : ¬ p kd) : Lq w2 K' kd b L rv :=
  ⟨⟨h.lw.lb.kept (m.block b (C.lt_of_block h.lw.lb) (by rw [h.kb]; exact hp)), h.lw.row.same (fun g hg => m.block g (h.lw.row.lt g hg).2 (by rw [h.kr g hg]; exact hp))⟩, (m.same b (C.lt_of_block h.lw.lb)).trans h.kb, fun g hg => (m.same g (h.lw.row.lt g hg).2).trans (h.kr g hg)⟩
theorem Lq.lt {w : World} {K : Knd} {kd : Nat × Nat} {b : Nat} {L : Lk} {rv : Value} (h : Lq w K kd b L rv) : b < w.heap.size := C.lt_of_block h.lw.lb
/-- The link has turned: what may have turned is of its kind. -/
theorem Lq.turn {w w2 : World} {K K' : Knd} {kd : Nat × Nat} {b : Nat} {L L' : Lk} {rv rv' : Value} (h : Lq w K kd b L rv) (hl : Lw w2 b L' rv') (ht : Tw b rv.ownBlock w w2) (hK : ∀ x, x < w.heap.size → K' x = K x) (hr : ∀ g, rv'.ownBlock = some g → rv.ownBlock = some g ∨ K' g = kd) : Lq w2 K' kd b L' rv' ∧ Kp (fun q => q = kd) K K' w w2 := by
  refine ⟨⟨hl, (hK b h.lt).trans h.kb, fun g hg => ?_⟩, ⟨ht.os, ht.tape, ht.output, ht.size, hK, fun x hx hn => ht.block x hx (fun e => hn (by rw [e]; exact h.kb)) (fun e => hn (h.kr x e.symm))⟩⟩
  rcases hr g hg with q | q
  · exact (hK g (h.lw.row.lt g q).2).trans (h.kr g q)
  · exact q
theorem lq_new {w : World} {K : Knd} {kd : Nat × Nat} {b : Nat} {me other : Int} {n : Nat} {W M : Int} (h : Lb w b (Lk.new me other n W M) (.slice none 0 0)) (hk : K b = kd) : Lq w K kd b (Lk.new me other n W M) (.slice none 0 0) :=
  ⟨⟨h, ⟨rfl, Or.inl ⟨rfl, rfl⟩⟩⟩, hk, fun g hg => by simp [Value.ownBlock] at hg⟩
/-- The pair in memory: its block, both links, both sides' sessions, what was sent. -/
structure Pm (w wr : World) (K : Knd) (pb W M l0 l1 b0 b1 : Nat) (sv s0 s1 : Value) (A B : Lk) (ra rb : Value) (S T : List Sm) (es : List Fe) : Prop where
  bel : Below w.heap.size w wr
  kz : ∀ x, x < w.heap.size → K x = (0, 0)
  pk : Pk wr K pb W M l0 l1 b0 b1 sv s0 s1
  lq0 : Lq wr K (1, 0) b0 A ra
  lq1 : Lq wr K (1, 1) b1 B rb
  sent : Rk wr K (3, 0) 54 7 sv es.length (sentC es)
  bod : ∀ e ∈ es, By4 wr K e.p e.f.body
  ss0 : Ss wr K (5, 0) 6 s0 S
  ss1 : Ss wr K (5, 1) 7 s1 T
  tab : C.Tab w
/-- Why it holds. -/
structure Pd (W M l0 l1 : Nat) (A B : Lk) (S T : List Sm) (es : List Fe) (k : Nat) : Prop where
  a : Sok 0 5 A l0 k S
  b : Sok 5 0 B l1 k T
  wa : A.window = (W : Int)
  wb : B.window = (W : Int)
  fok : ∀ e ∈ es, Fok 0 5 l0 S e.f ∨ Fok 5 0 l1 T e.f
  el : es.length ≤ 5 * k
  sl : S.length ≤ k
  tl : T.length ≤ k
  w1 : 1 ≤ W ∧ W ≤ 5
  m1 : 1 ≤ M ∧ M ≤ 64
section
variable {w wr w2 : World} {K K' : Knd} {pb W M l0 l1 b0 b1 : Nat} {sv s0 s1 : Value} {A B A' B' : Lk} {ra rb ra' rb' : Value} {S T : List Sm} {es : List Fe} {k : Nat} {p : Nat × Nat → Prop}
theorem Pm.tb (h : Pm w wr K pb W M l0 l1 b0 b1 sv s0 s1 A B ra rb S T es) : C.Tab wr := h.tab.below h.bel h.tab.pos
theorem Pm.pos (h : Pm w wr K pb W M l0 l1 b0 b1 sv s0 s1 A B ra rb S T es) : 0 < b0 ∧ 0 < b1 ∧ 0 < pb := by
  have h0 := h.kz 0 h.tab.pos
  refine ⟨?_, ?_, ?_⟩ <;> refine Nat.pos_of_ne_zero (fun e => ?_)
  · have := h.lq0.kb; rw [e, h0] at this; cases this
  · have := h.lq1.kb; rw [e, h0] at this; cases this
  · have := h.pk.kind; rw [e, h0] at this; cases this
theorem Pm.kp (h : Pm w wr K pb W M l0 l1 b0 b1 sv s0 s1 A B ra rb S T es) (m : Kp p K K' wr w2) (hz : ¬ p (0, 0)) (h1 : ∀ j, ¬ p (1, j)) (h2 : ¬ p (2, 0)) (h3 : ¬ p (3, 0)) (h4 : ¬ p (4, 0)) (h5 : ∀ j, ¬ p (5, j)) (h6 : ∀ j, ¬ p (6, j)) (h7 : ∀ j, ¬ p (7, j)) : Pm w w2 K' pb W M l0 l1 b0 b1 sv s0 s1 A B ra rb S T es :=
  ⟨m.below h.bel (fun x hx => by rw [h.kz x hx]; exact hz), fun x hx => (m.same x (Nat.lt_of_lt_of_le hx h.bel.size)).trans (h.kz x hx), h.pk.kp m h2, h.lq0.kp m (h1 0), h.lq1.kp m (h1 1), h.sent.kept m h3, fun e he => (h.bod e he).kp m h4, h.ss0.kp m h4 (h5 0) h6, h.ss1.kp m h4 (h5 1) h7, h.tab⟩
theorem Pm.below (h : Pm w wr K pb W M l0 l1 b0 b1 sv s0 s1 A B ra rb S T es) (hb : Below wr.heap.size wr w2) (kd : Nat × Nat) : Pm w w2 (ext K wr.heap.size kd) pb W M l0 l1 b0 b1 sv s0 s1 A B ra rb S T es :=
  h.kp (kp_below hb (fun _ => False) K kd) (fun e => e) (fun _ e => e) (fun e => e) (fun e => e) (fun e => e) (fun _ e => e) (fun _ e => e) (fun _ e => e)
theorem Pm.drewN (h : Pm w wr K pb W M l0 l1 b0 b1 sv s0 s1 A B ra rb S T es) (q : Nat) : Pm w (wr.drewN q) K pb W M l0 l1 b0 b1 sv s0 s1 A B ra rb S T es :=
  h.kp (drewN_kq wr K q) (fun e => e) (fun _ e => e) (fun e => e) (fun e => e) (fun e => e) (fun _ e => e) (fun _ e => e) (fun _ e => e)
/-- Link 0 has turned. -/
theorem Pm.turn0 (h : Pm w wr K pb W M l0 l1 b0 b1 sv s0 s1 A B ra rb S T es) (hl : Lw w2 b0 A' ra') (ht : Tw b0 ra.ownBlock wr w2) (hK : ∀ x, x < wr.heap.size → K' x = K x) (hr : ∀ g, ra'.ownBlock = some g → ra.ownBlock = some g ∨ K' g = (1, 0)) : Pm w w2 K' pb W M l0 l1 b0 b1 sv s0 s1 A' B ra' rb S T es := by
  obtain ⟨hq, m⟩ := h.lq0.turn hl ht hK hr
  exact ⟨m.below h.bel (fun x hx => by rw [h.kz x hx]; simp), fun x hx => (m.same x (Nat.lt_of_lt_of_le hx h.bel.size)).trans (h.kz x hx), h.pk.kp m (by simp), hq, h.lq1.kp m (by simp), h.sent.kept m (by simp), fun e he => (h.bod e he).kp m (by simp), h.ss0.kp m (by simp) (by simp) (fun j => by simp), h.ss1.kp m (by simp) (by simp) (fun j => by simp), h.tab⟩
/-- Side 0 begins a greater life. -/
theorem lives_pm0 (h : Pm w wr K pb W M l0 l1 b0 b1 sv s0 s1 A B ra rb S T es) (n : Nat) :
    Calls Tryd.prog 15 #[.pointer (some ⟨pb, 0, none⟩), .int .i64 0, .int .u64 (n : Int)] wr fun e w' => e = .returned (.bool true) ∧ ∃ bl K', Pm w w' K' pb W M n l1 bl b1 sv s0 s1 (Lk.new 0 5 n (W : Int) (M : Int)) B (.slice none 0 0) rb S T es := by
  refine (livesN0 wr pb W M n _ _ _ _ _ _ _ h.pk.blk).mono ?_
  rintro e w' ⟨he, bl, hbl, hl, hk, hb⟩
  have m : Kp (fun q => q = (2, 0)) K (ext K wr.heap.size (1, 0)) wr w' := ⟨hb.os, hb.tape, hb.output, hb.size, fun x hx => ext_old _ _ hx, fun x hx hn => hb.block x hx (fun e => hn (by rw [e]; exact h.pk.kind))⟩
  refine ⟨he, bl, _, m.below h.bel (fun x hx => by rw [h.kz x hx]; simp), fun x hx => (m.same x (Nat.lt_of_lt_of_le hx h.bel.size)).trans (h.kz x hx), ⟨hk, (m.same pb (C.lt_of_block h.pk.blk)).trans h.pk.kind⟩, lq_new hl (ext_new _ _ hbl), h.lq1.kp m (by simp), h.sent.kept m (by simp), fun e he => (h.bod e he).kp m (by simp), h.ss0.kp m (by simp) (by simp) (fun j => by simp), h.ss1.kp m (by simp) (by simp) (fun j => by simp), h.tab⟩
theorem Pd.lives0 (h : Pd W M l0 l1 A B S T es k) (n : Nat) (hn : l0 < n) (hn2 : n ≤ l0 + 3) : Pd W M n l1 (Lk.new 0 5 n (W : Int) (M : Int)) B S T es (k + 1) :=
  ⟨h.a.newLife n hn hn2 W M h.w1.1, h.b.up, (by have := h.w1; show max (W : Int) 0 = (W : Int); omega), h.wb, fun e he => (h.fok e he).imp (fun q => q.grow (Nat.le_of_lt hn) (Grow.refl S)) id, by have := h.el; omega, by have := h.sl; omega, by have := h.tl; omega, h.w1, h.m1⟩
theorem Pd.owe0 (h : Pd W M l0 l1 A B S T es k) : Pd W M l0 l1 { A with asked := true } B S T es (k + 1) :=
  ⟨h.a.owe, h.b.up, h.wa, h.wb, h.fok, by have := h.el; omega, by have := h.sl; omega, by have := h.tl; omega, h.w1, h.m1⟩
/-- Link 1 has turned. -/
theorem Pm.turn1 (h : Pm w wr K pb W M l0 l1 b0 b1 sv s0 s1 A B ra rb S T es) (hl : Lw w2 b1 B' rb') (ht : Tw b1 rb.ownBlock wr w2) (hK : ∀ x, x < wr.heap.size → K' x = K x) (hr : ∀ g, rb'.ownBlock = some g → rb.ownBlock = some g ∨ K' g = (1, 1)) : Pm w w2 K' pb W M l0 l1 b0 b1 sv s0 s1 A B' ra rb' S T es := by
  obtain ⟨hq, m⟩ := h.lq1.turn hl ht hK hr
  exact ⟨m.below h.bel (fun x hx => by rw [h.kz x hx]; simp), fun x hx => (m.same x (Nat.lt_of_lt_of_le hx h.bel.size)).trans (h.kz x hx), h.pk.kp m (by simp), h.lq0.kp m (by simp), hq, h.sent.kept m (by simp), fun e he => (h.bod e he).kp m (by simp), h.ss0.kp m (by simp) (by simp) (fun j => by simp), h.ss1.kp m (by simp) (by simp) (fun j => by simp), h.tab⟩
/-- Side 1 begins a greater life. -/
theorem lives_pm1 (h : Pm w wr K pb W M l0 l1 b0 b1 sv s0 s1 A B ra rb S T es) (n : Nat) :
    Calls Tryd.prog 15 #[.pointer (some ⟨pb, 0, none⟩), .int .i64 1, .int .u64 (n : Int)] wr fun e w' => e = .returned (.bool true) ∧ ∃ bl K', Pm w w' K' pb W M l0 n b0 bl sv s0 s1 A (Lk.new 5 0 n (W : Int) (M : Int)) ra (.slice none 0 0) S T es := by
  refine (livesN1 wr pb W M n _ _ _ _ _ _ _ h.pk.blk).mono ?_
  rintro e w' ⟨he, bl, hbl, hl, hk, hb⟩
  have m : Kp (fun q => q = (2, 0)) K (ext K wr.heap.size (1, 1)) wr w' := ⟨hb.os, hb.tape, hb.output, hb.size, fun x hx => ext_old _ _ hx, fun x hx hn => hb.block x hx (fun e => hn (by rw [e]; exact h.pk.kind))⟩
  refine ⟨he, bl, _, m.below h.bel (fun x hx => by rw [h.kz x hx]; simp), fun x hx => (m.same x (Nat.lt_of_lt_of_le hx h.bel.size)).trans (h.kz x hx), ⟨hk, (m.same pb (C.lt_of_block h.pk.blk)).trans h.pk.kind⟩, h.lq0.kp m (by simp), lq_new hl (ext_new _ _ hbl), h.sent.kept m (by simp), fun e he => (h.bod e he).kp m (by simp), h.ss0.kp m (by simp) (by simp) (fun j => by simp), h.ss1.kp m (by simp) (by simp) (fun j => by simp), h.tab⟩
theorem Pd.lives1 (h : Pd W M l0 l1 A B S T es k) (n : Nat) (hn : l1 < n) (hn2 : n ≤ l1 + 3) : Pd W M l0 n A (Lk.new 5 0 n (W : Int) (M : Int)) S T es (k + 1) :=
  ⟨h.a.up, h.b.newLife n hn hn2 W M h.w1.1, h.wa, (by have := h.w1; show max (W : Int) 0 = (W : Int); omega), fun e he => (h.fok e he).imp id (fun q => q.grow (Nat.le_of_lt hn) (Grow.refl T)), by have := h.el; omega, by have := h.sl; omega, by have := h.tl; omega, h.w1, h.m1⟩
theorem Pd.owe1 (h : Pd W M l0 l1 A B S T es k) : Pd W M l0 l1 A { B with asked := true } S T es (k + 1) :=
  ⟨h.a.up, h.b.owe, h.wa, h.wb, h.fok, by have := h.el; omega, by have := h.sl; omega, by have := h.tl; omega, h.w1, h.m1⟩
end
end Go.Proofs.YtbcpoejpbhpcbaaDoor
namespace Go.Proofs.YtbcpoejpbhpcbaaDoor
open Go.RowKit

section
variable {w wr w2 : World} {K K' : Knd} {pb W M l0 l1 b0 b1 : Nat} {sv s0 s1 : Value} {A B : Lk} {ra rb : Value} {S T : List Sm} {es : List Fe} {k : Nat}
/-- A frame more. -/
theorem Pm.more {wg : World} {sv' : Value} {e : Fe} (h : Pm w wr K pb W M l0 l1 b0 b1 sv s0 s1 A B ra rb S T es) (hg : wr.grownBy wg sv.ownBlock) (ho : wg.ownsRow 0 54 7 sv' (es.length + 1) (sentC es ++ feC e)) (hat : sv'.ownBlock = sv.ownBlock ∨ ∃ g, sv'.ownBlock = some g ∧ wr.heap.size ≤ g) (hby : By4 wr K e.p e.f.body) :
    Pm w (wg.setCell ⟨pb, 6, none⟩ sv') (ext K wr.heap.size (3, 0)) pb W M l0 l1 b0 b1 sv' s0 s1 A B ra rb S T (es ++ [e]) ∧ Kp (fun q => q = (2, 0) ∨ q = (3, 0)) K (ext K wr.heap.size (3, 0)) wr (wg.setCell ⟨pb, 6, none⟩ sv') := by
  have m0 : Kp (fun q => q = (3, 0)) K (ext K wr.heap.size (3, 0)) wr wg := kp_grown hg K (3, 0) (3, 0) _ (fun g e => h.sent.kind g e) rfl
  have hpk := h.pk.kp m0 (by simp)
  have ms : Kp (fun q => q = (2, 0)) (ext K wr.heap.size (3, 0)) (ext K wr.heap.size (3, 0)) wg (wg.setCell ⟨pb, 6, none⟩ sv') := (Kp.refl (fun q => q = (2, 0)) _ wg).setCell (b := pb) (Or.inr hpk.kind) _ _
  have m : Kp (fun q => q = (2, 0) ∨ q = (3, 0)) K (ext K wr.heap.size (3, 0)) wr (wg.setCell ⟨pb, 6, none⟩ sv') := (m0.mono (fun q e => Or.inr e)).trans (ms.mono (fun q e => Or.inl e))
  refine ⟨⟨m.below h.bel (fun x hx => by rw [h.kz x hx]; simp), fun x hx => (m.same x (Nat.lt_of_lt_of_le hx h.bel.size)).trans (h.kz x hx), (hpk.sets sv').2.2, h.lq0.kp m (by simp), h.lq1.kp m (by simp), ?_, fun x hx => ?_, h.ss0.kp m (by simp) (by simp) (fun j => by simp), h.ss1.kp m (by simp) (by simp) (fun j => by simp), h.tab⟩, m⟩
  · rw [sentC_snoc, List.length_append]
    exact (h.sent.grown ho hat).kept ms (by simp)
  · rcases List.mem_append.1 hx with q | q
    · exact (h.bod x q).kp m (by simp)
    · simp at q; subst q; exact hby.kp m (by simp)
end
theorem tick_same (L : Lk) : (tickL L).known = L.known ∧ (tickL L).window = L.window := by
  have hb : (bodL L).known = L.known ∧ (bodL L).window = L.window := by
    unfold bodL gonL tkR ltick
    split
    · split <;> exact ⟨rfl, rfl⟩
    · exact ⟨rfl, rfl⟩
  unfold tickL
  split
  · exact hb
  · exact hb
/-- One of what a tick sends. -/
theorem out_at {B : Nat} {w : World} {a : Option Addr} {c n : Nat} {ps : List (List Nat)} {p : List Nat} (h : Orow B w a c ps) (hp : ps[n]? = some p) :
    ∃ g sp, a = some ⟨g, 0, none⟩ ∧ g < w.heap.size ∧ w.cell? ⟨g, n, none⟩ = some (.slice sp p.length p.length) ∧ Bytes w sp p := by
  obtain ⟨vs, h1, h2⟩ := h
  obtain ⟨sp, q1, q2, q3, _⟩ := h2 n p hp
  have hn := (List.getElem?_eq_some_iff.1 hp).1
  rcases h1.2 with ⟨e, e2⟩ | ⟨g, cap, cur, e, _, hg, _, _, _, ht⟩
  · omega
  · cases e
    refine ⟨g, sp, rfl, C.lt_of_block hg, ?_, Bytes.of_c (q2.bytes q3)⟩
    have hjl : n < vs.length := (List.getElem?_eq_some_iff.1 q1).1
    have hxl := h1.1
    rw [← ht, List.getElem?_take, if_pos (by omega)] at q1
    simp only [World.cell?, hg]
    simpa using q1
theorem by4_mine {wq w3 w5 : World} {K : Knd} {sq : Option Addr} {bo : List Nat} (h : C.Mine wq.heap.size w3 sq bo) (hs : ∀ x ∈ bo, x < 256) (hb : Below w3.heap.size w3 w5) : By4 w5 (ext K wq.heap.size (4, 0)) sq bo := by
  refine By4.new ((Bytes.of_c (h.bytes hs)).below hb) (fun p hp => ?_)
  rcases h with ⟨e, _⟩ | ⟨g, e, h1, _⟩
  · rw [e] at hp; cases hp
  · rw [e] at hp; cases hp; exact h1
section
variable {W M l0 l1 : Nat} {A B : Lk} {S T : List Sm} {es fs : List Fe} {k : Nat}
theorem Pd.tick0 (h : Pd W M l0 l1 A B S T es k) (hk : k ≤ 20000) (hf : fs.map Fe.f = outF A) : Pd W M l0 l1 (tickL A) B S T (es ++ fs) (k + 1) := by
  have hl := out_len A (by have := h.wa; have := h.w1; omega)
  have h1 : fs.length = (outF A).length := by rw [← hf, List.length_map]
  refine ⟨h.a.tick, h.b.up, (tick_same A).2.trans h.wa, h.wb, fun e he => ?_, ?_, by have := h.sl; omega, by have := h.tl; omega, h.w1, h.m1⟩
  · rcases List.mem_append.1 he with q | q
    · exact h.fok e q
    · exact Or.inl (h.a.outs hk (by omega) (by omega) e.f (by rw [← hf]; exact List.mem_map_of_mem q)).1
  · have := h.el; have := h.wa; have := h.w1; rw [List.length_append]; omega
theorem Pd.tick1 (h : Pd W M l0 l1 A B S T es k) (hk : k ≤ 20000) (hf : fs.map Fe.f = outF B) : Pd W M l0 l1 A (tickL B) S T (es ++ fs) (k + 1) := by
  have hl := out_len B (by have := h.wb; have := h.w1; omega)
  have h1 : fs.length = (outF B).length := by rw [← hf, List.length_map]
  refine ⟨h.a.up, h.b.tick, h.wa, (tick_same B).2.trans h.wb, fun e he => ?_, ?_, by have := h.sl; omega, by have := h.tl; omega, h.w1, h.m1⟩
  · rcases List.mem_append.1 he with q | q
    · exact h.fok e q
    · exact Or.inr (h.b.outs hk (by omega) (by omega) e.f (by rw [← hf]; exact List.mem_map_of_mem q)).1
  · have := h.el; have := h.wb; have := h.w1; rw [List.length_append]; omega
end
end Go.Proofs.YtbcpoejpbhpcbaaDoor
