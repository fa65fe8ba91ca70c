import Derived.Test.YtjcdnclfakmbpaaGreatDoorDkG
import Derived.Test.YtjcdnclfakmbpaaGreatDoorDkI
import Derived.Test.YtjcdnclfakmbpaaGreatDoorVZs
import Derived.Test.YtjcdnclfakmbpaaGreatDoorPwP
import Derived.Test.YtjcdnclfakmbpaaGreatDoorDkD
import Derived.Test.YtjcdnclfakmbpaaGreatDoorLkK
import Derived.Test.YtjcdnclfakmbpaaGreatDoorFrQ
import Derived.Deep.RegionHeld3
import Derived.Deep.CutRange
import Derived.Test.YtjcdnclfakmbpaaGreatDoorRfD
import Derived.Deep.AppendLies
namespace Go.Proofs.YtjcdnclfakmbpaaGreatDoor
open Go.RowKit
def sentC (es : List Fe) : List Value := es.flatMap feC
theorem sentC_snoc (es : List Fe) (e : Fe) : sentC (es ++ [e]) = sentC es ++ feC e := by simp [sentC]
theorem sentC_at : ∀ (es : List Fe) (i : Nat) (e : Fe), es[i]? = some e → ∀ (j : Nat) (v : Value), (feC e)[j]? = some v → (sentC es)[i * 7 + j]? = some v
  | [], i, e, h, _, _, _ => by simp at h
  | x :: es, 0, e, h, j, v, hv => by
    simp at h; subst h
    show (feC x ++ sentC es)[0 * 7 + j]? = some v
    rw [Nat.zero_mul, Nat.zero_add, List.getElem?_append_left (List.getElem?_eq_some_iff.1 hv).1]; exact hv
  | x :: es, i + 1, e, h, j, v, hv => by
    have hl : (feC x).length = 7 := rfl
    show (feC x ++ sentC es)[(i + 1) * 7 + j]? = some v
    rw [List.getElem?_append_right (by rw [hl]; omega), hl, show (i + 1) * 7 + j - 7 = i * 7 + j by omega]
    exact sentC_at es i e (by simpa using h) j v hv
structure Lx (w : World) (K : Knd) (kd : Nat × Nat) (b : Nat) (L : Lk) (rv : Value) : Prop where
  lw : Lw w b L rv
  kb : K b = kd
  kr : ∀ g, rv.ownBlock = some g → K g = kd
theorem Lx.kp {w w2 : World} {K K' : Knd} {kd : Nat × Nat} {b : Nat} {L : Lk} {rv : Value} {p : Nat × Nat → Prop} (h : Lx w K kd b L rv) (m : Kp p K K' w w2) (hp : ¬ p kd) : Lx w2 K' kd b L rv :=
  ⟨⟨h.lw.lb.kept (m.block b (C.lt_of_block h.lw.lb) (by rw [h.kb]; exact hp)), h.lw.row.same (fun g hg => m.block g (h.lw.row.lt g hg).2 (by rw [h.kr g hg]; exact hp))⟩, (m.same b (C.lt_of_block h.lw.lb)).trans h.kb, fun g hg => (m.same g (h.lw.row.lt g hg).2).trans (h.kr g hg)⟩
theorem Lx.lt {w : World} {K : Knd} {kd : Nat × Nat} {b : Nat} {L : Lk} {rv : Value} (h : Lx w K kd b L rv) : b < w.heap.size := C.lt_of_block h.lw.lb
theorem Lx.turn {w w2 : World} {K K' : Knd} {kd : Nat × Nat} {b : Nat} {L L' : Lk} {rv rv' : Value} (h : Lx w K kd b L rv) (hl : Lw w2 b L' rv') (ht : Tw b rv.ownBlock w w2) (hK : ∀ x, x < w.heap.size → K' x = K x) (hr : ∀ g, rv'.ownBlock = some g → rv.ownBlock = some g ∨ K' g = kd) : Lx w2 K' kd b L' rv' ∧ Kp (fun q => q = kd) K K' w w2 := by
  refine ⟨⟨hl, (hK b h.lt).trans h.kb, fun g hg => ?_⟩, ⟨ht.os, ht.tape, ht.output, ht.size, hK, fun x hx hn => ht.block x hx (fun e => hn (by rw [e]; exact h.kb)) (fun e => hn (h.kr x e.symm))⟩⟩
  rcases hr g hg with q | q
  · exact (hK g (h.lw.row.lt g q).2).trans (h.kr g q)
  · exact q
theorem lx_new {w : World} {K : Knd} {kd : Nat × Nat} {b : Nat} {me other : Int} {n : Nat} {W M : Int} (h : Lb w b (Lk.new me other n W M) (.slice none 0 0)) (hk : K b = kd) : Lx w K kd b (Lk.new me other n W M) (.slice none 0 0) :=
  ⟨⟨h, ⟨rfl, Or.inl ⟨rfl, rfl⟩⟩⟩, hk, fun g hg => by simp [Value.ownBlock] at hg⟩
structure By2 (w : World) (K : Knd) (sp : Option Addr) (bo : List Nat) : Prop where
  by_ : Bytes w sp bo
  kind : ∀ q, sp = some q → bo ≠ [] → q.block < w.heap.size ∧ K q.block = (2, 2)
theorem By2.kp {w w2 : World} {K K' : Knd} {sp : Option Addr} {bo : List Nat} {p : Nat × Nat → Prop} (h : By2 w K sp bo) (m : Kp p K K' w w2) (hp : ¬ p (2, 2)) : By2 w2 K' sp bo := by
  refine ⟨U.bytes_or h.by_ m.size ?_, fun q e hn => ⟨Nat.lt_of_lt_of_le (h.kind q e hn).1 m.size, (m.same _ (h.kind q e hn).1).trans (h.kind q e hn).2⟩⟩
  by_cases hb : bo = []
  · exact Or.inl hb
  · exact Or.inr (fun g o e hg => m.block g hg (by have q : K g = (2, 2) := (h.kind _ e hb).2; rw [q]; exact hp))
structure Wm (w0 w : World) (K : Knd) (wb : Nat) (Y : Pw.Wc) (A D B E : Lk) (es : List Fe) (xn bn st : Nat) : Prop where
  bel : Below w0.heap.size w0 w
  kz : ∀ x, x < w0.heap.size → K x = (0, 0)
  tab : C.Tab w0
  plc : Pw.Plc Y w K wb
  la : ∃ rv, Lx w K (1, 0) Y.l0 A rv
  lb : ∃ rv, Lx w K (1, 1) Y.l1 B rv
  ka : ∃ rv t, Dk w K (3, 0) (4, 0) Y.k0 D rv Y.c0.toNat t ∧ t ≤ st
  kb : ∃ rv t, Dk w K (3, 1) (4, 1) Y.k1 E rv Y.c1.toNat t ∧ t ≤ st
  sent : Rk w K (2, 1) 33 7 Y.sv es.length (sentC es)
  bod : ∀ e ∈ es, By2 w K e.p e.f.body
  late : ∃ G V xs, Q.Lt K w Y.lb G V xs ∧ xs.length = xn
  book : ∃ X L M tn us ks rs, V.Bz (fun q => q = (5, 2)) K w Y.bb X L M tn us ks rs ∧ tn ≤ bn
  bl : ∀ e ∈ es, e.f.body.length ≤ 140737488351232
section
variable {w0 w w2 : World} {K K' : Knd} {wb : Nat} {Y Y2 : Pw.Wc} {A D B E A2 D2 B2 E2 : Lk} {es : List Fe} {xn bn st xn2 bn2 : Nat} {p : Nat × Nat → Prop}
theorem Wm.kp (h : Wm w0 w K wb Y A D B E es xn bn st) (m : Kp p K K' w w2) (hz : ¬ p (0, 0)) (hpl : ∀ j, ¬ p (8, j)) (h10 : ¬ p (1, 0)) (h11 : ¬ p (1, 1)) (h30 : ¬ p (3, 0)) (h40 : ¬ p (4, 0)) (h31 : ¬ p (3, 1)) (h41 : ¬ p (4, 1)) (h21 : ¬ p (2, 1)) (h22 : ¬ p (2, 2)) (h6 : ¬ p (6, 0)) (h7 : ∀ j, ¬ p (7, j)) (h5 : ∀ j, ¬ p (5, j))  : Wm w0 w2 K' wb Y A D B E es xn bn st :=
  ⟨m.below h.bel (fun x hx => by rw [h.kz x hx]; exact hz), fun x hx => (m.same x (Nat.lt_of_lt_of_le hx h.bel.size)).trans (h.kz x hx), h.tab, h.plc.kept m hpl, (by obtain ⟨rv, q⟩ := h.la; exact ⟨rv, q.kp m h10⟩), (by obtain ⟨rv, q⟩ := h.lb; exact ⟨rv, q.kp m h11⟩), (by obtain ⟨rv, t, q, r⟩ := h.ka; exact ⟨rv, t, q.kp m h30 h40, r⟩), (by obtain ⟨rv, t, q, r⟩ := h.kb; exact ⟨rv, t, q.kp m h31 h41, r⟩), h.sent.kept m h21, (fun e he => (h.bod e he).kp m h22), (by obtain ⟨G, V, xs, q, r⟩ := h.late; exact ⟨G, V, xs, q.keep m h6 (fun j _ => h7 j), r⟩), (by obtain ⟨X, L, M, tn, us, ks, rs, q, r⟩ := h.book; exact ⟨X, L, M, tn, us, ks, rs, q.keep m (h5 1) (h5 2) (h5 3) (h5 4) (fun x e => by rw [e]; exact h5 2) (by simp), r⟩), h.bl⟩
theorem Wm.tla (h : Wm w0 w K wb Y A D B E es xn bn st) (m : Kp p K K' w w2) (hz : ¬ p (0, 0)) (hpl : ∀ j, ¬ p (8, j)) (h11 : ¬ p (1, 1)) (h30 : ¬ p (3, 0)) (h40 : ¬ p (4, 0)) (h31 : ¬ p (3, 1)) (h41 : ¬ p (4, 1)) (h21 : ¬ p (2, 1)) (h22 : ¬ p (2, 2)) (h6 : ¬ p (6, 0)) (h7 : ∀ j, ¬ p (7, j)) (h5 : ∀ j, ¬ p (5, j)) (q0 : ∃ rv, Lx w2 K' (1, 0) Y.l0 A2 rv) : Wm w0 w2 K' wb Y A2 D B E es xn bn st :=
  ⟨m.below h.bel (fun x hx => by rw [h.kz x hx]; exact hz), fun x hx => (m.same x (Nat.lt_of_lt_of_le hx h.bel.size)).trans (h.kz x hx), h.tab, h.plc.kept m hpl, q0, (by obtain ⟨rv, q⟩ := h.lb; exact ⟨rv, q.kp m h11⟩), (by obtain ⟨rv, t, q, r⟩ := h.ka; exact ⟨rv, t, q.kp m h30 h40, r⟩), (by obtain ⟨rv, t, q, r⟩ := h.kb; exact ⟨rv, t, q.kp m h31 h41, r⟩), h.sent.kept m h21, (fun e he => (h.bod e he).kp m h22), (by obtain ⟨G, V, xs, q, r⟩ := h.late; exact ⟨G, V, xs, q.keep m h6 (fun j _ => h7 j), r⟩), (by obtain ⟨X, L, M, tn, us, ks, rs, q, r⟩ := h.book; exact ⟨X, L, M, tn, us, ks, rs, q.keep m (h5 1) (h5 2) (h5 3) (h5 4) (fun x e => by rw [e]; exact h5 2) (by simp), r⟩), h.bl⟩
theorem Wm.tlb (h : Wm w0 w K wb Y A D B E es xn bn st) (m : Kp p K K' w w2) (hz : ¬ p (0, 0)) (hpl : ∀ j, ¬ p (8, j)) (h10 : ¬ p (1, 0)) (h30 : ¬ p (3, 0)) (h40 : ¬ p (4, 0)) (h31 : ¬ p (3, 1)) (h41 : ¬ p (4, 1)) (h21 : ¬ p (2, 1)) (h22 : ¬ p (2, 2)) (h6 : ¬ p (6, 0)) (h7 : ∀ j, ¬ p (7, j)) (h5 : ∀ j, ¬ p (5, j)) (q0 : ∃ rv, Lx w2 K' (1, 1) Y.l1 B2 rv) : Wm w0 w2 K' wb Y A D B2 E es xn bn st :=
  ⟨m.below h.bel (fun x hx => by rw [h.kz x hx]; exact hz), fun x hx => (m.same x (Nat.lt_of_lt_of_le hx h.bel.size)).trans (h.kz x hx), h.tab, h.plc.kept m hpl, (by obtain ⟨rv, q⟩ := h.la; exact ⟨rv, q.kp m h10⟩), q0, (by obtain ⟨rv, t, q, r⟩ := h.ka; exact ⟨rv, t, q.kp m h30 h40, r⟩), (by obtain ⟨rv, t, q, r⟩ := h.kb; exact ⟨rv, t, q.kp m h31 h41, r⟩), h.sent.kept m h21, (fun e he => (h.bod e he).kp m h22), (by obtain ⟨G, V, xs, q, r⟩ := h.late; exact ⟨G, V, xs, q.keep m h6 (fun j _ => h7 j), r⟩), (by obtain ⟨X, L, M, tn, us, ks, rs, q, r⟩ := h.book; exact ⟨X, L, M, tn, us, ks, rs, q.keep m (h5 1) (h5 2) (h5 3) (h5 4) (fun x e => by rw [e]; exact h5 2) (by simp), r⟩), h.bl⟩
theorem Wm.tka (h : Wm w0 w K wb Y A D B E es xn bn st) (m : Kp p K K' w w2) (hz : ¬ p (0, 0)) (hpl : ∀ j, ¬ p (8, j)) (h10 : ¬ p (1, 0)) (h11 : ¬ p (1, 1)) (h31 : ¬ p (3, 1)) (h41 : ¬ p (4, 1)) (h21 : ¬ p (2, 1)) (h22 : ¬ p (2, 2)) (h6 : ¬ p (6, 0)) (h7 : ∀ j, ¬ p (7, j)) (h5 : ∀ j, ¬ p (5, j)) (q0 : ∃ rv t, Dk w2 K' (3, 0) (4, 0) Y.k0 D2 rv Y.c0.toNat t ∧ t ≤ st) : Wm w0 w2 K' wb Y A D2 B E es xn bn st :=
  ⟨m.below h.bel (fun x hx => by rw [h.kz x hx]; exact hz), fun x hx => (m.same x (Nat.lt_of_lt_of_le hx h.bel.size)).trans (h.kz x hx), h.tab, h.plc.kept m hpl, (by obtain ⟨rv, q⟩ := h.la; exact ⟨rv, q.kp m h10⟩), (by obtain ⟨rv, q⟩ := h.lb; exact ⟨rv, q.kp m h11⟩), q0, (by obtain ⟨rv, t, q, r⟩ := h.kb; exact ⟨rv, t, q.kp m h31 h41, r⟩), h.sent.kept m h21, (fun e he => (h.bod e he).kp m h22), (by obtain ⟨G, V, xs, q, r⟩ := h.late; exact ⟨G, V, xs, q.keep m h6 (fun j _ => h7 j), r⟩), (by obtain ⟨X, L, M, tn, us, ks, rs, q, r⟩ := h.book; exact ⟨X, L, M, tn, us, ks, rs, q.keep m (h5 1) (h5 2) (h5 3) (h5 4) (fun x e => by rw [e]; exact h5 2) (by simp), r⟩), h.bl⟩
theorem Wm.tkb (h : Wm w0 w K wb Y A D B E es xn bn st) (m : Kp p K K' w w2) (hz : ¬ p (0, 0)) (hpl : ∀ j, ¬ p (8, j)) (h10 : ¬ p (1, 0)) (h11 : ¬ p (1, 1)) (h30 : ¬ p (3, 0)) (h40 : ¬ p (4, 0)) (h21 : ¬ p (2, 1)) (h22 : ¬ p (2, 2)) (h6 : ¬ p (6, 0)) (h7 : ∀ j, ¬ p (7, j)) (h5 : ∀ j, ¬ p (5, j)) (q0 : ∃ rv t, Dk w2 K' (3, 1) (4, 1) Y.k1 E2 rv Y.c1.toNat t ∧ t ≤ st) : Wm w0 w2 K' wb Y A D B E2 es xn bn st :=
  ⟨m.below h.bel (fun x hx => by rw [h.kz x hx]; exact hz), fun x hx => (m.same x (Nat.lt_of_lt_of_le hx h.bel.size)).trans (h.kz x hx), h.tab, h.plc.kept m hpl, (by obtain ⟨rv, q⟩ := h.la; exact ⟨rv, q.kp m h10⟩), (by obtain ⟨rv, q⟩ := h.lb; exact ⟨rv, q.kp m h11⟩), (by obtain ⟨rv, t, q, r⟩ := h.ka; exact ⟨rv, t, q.kp m h30 h40, r⟩), q0, h.sent.kept m h21, (fun e he => (h.bod e he).kp m h22), (by obtain ⟨G, V, xs, q, r⟩ := h.late; exact ⟨G, V, xs, q.keep m h6 (fun j _ => h7 j), r⟩), (by obtain ⟨X, L, M, tn, us, ks, rs, q, r⟩ := h.book; exact ⟨X, L, M, tn, us, ks, rs, q.keep m (h5 1) (h5 2) (h5 3) (h5 4) (fun x e => by rw [e]; exact h5 2) (by simp), r⟩), h.bl⟩
theorem Wm.tlate (h : Wm w0 w K wb Y A D B E es xn bn st) (m : Kp p K K' w w2) (hz : ¬ p (0, 0)) (hpl : ∀ j, ¬ p (8, j)) (h10 : ¬ p (1, 0)) (h11 : ¬ p (1, 1)) (h30 : ¬ p (3, 0)) (h40 : ¬ p (4, 0)) (h31 : ¬ p (3, 1)) (h41 : ¬ p (4, 1)) (h21 : ¬ p (2, 1)) (h22 : ¬ p (2, 2)) (h5 : ∀ j, ¬ p (5, j)) (q0 : ∃ G V xs, Q.Lt K' w2 Y.lb G V xs ∧ xs.length = xn2) : Wm w0 w2 K' wb Y A D B E es xn2 bn st :=
  ⟨m.below h.bel (fun x hx => by rw [h.kz x hx]; exact hz), fun x hx => (m.same x (Nat.lt_of_lt_of_le hx h.bel.size)).trans (h.kz x hx), h.tab, h.plc.kept m hpl, (by obtain ⟨rv, q⟩ := h.la; exact ⟨rv, q.kp m h10⟩), (by obtain ⟨rv, q⟩ := h.lb; exact ⟨rv, q.kp m h11⟩), (by obtain ⟨rv, t, q, r⟩ := h.ka; exact ⟨rv, t, q.kp m h30 h40, r⟩), (by obtain ⟨rv, t, q, r⟩ := h.kb; exact ⟨rv, t, q.kp m h31 h41, r⟩), h.sent.kept m h21, (fun e he => (h.bod e he).kp m h22), q0, (by obtain ⟨X, L, M, tn, us, ks, rs, q, r⟩ := h.book; exact ⟨X, L, M, tn, us, ks, rs, q.keep m (h5 1) (h5 2) (h5 3) (h5 4) (fun x e => by rw [e]; exact h5 2) (by simp), r⟩), h.bl⟩
theorem Wm.tbook (h : Wm w0 w K wb Y A D B E es xn bn st) (m : Kp p K K' w w2) (hz : ¬ p (0, 0)) (hpl : ∀ j, ¬ p (8, j)) (h10 : ¬ p (1, 0)) (h11 : ¬ p (1, 1)) (h30 : ¬ p (3, 0)) (h40 : ¬ p (4, 0)) (h31 : ¬ p (3, 1)) (h41 : ¬ p (4, 1)) (h21 : ¬ p (2, 1)) (h22 : ¬ p (2, 2)) (h6 : ¬ p (6, 0)) (h7 : ∀ j, ¬ p (7, j)) (q0 : ∃ X L M tn us ks rs, V.Bz (fun q => q = (5, 2)) K' w2 Y.bb X L M tn us ks rs ∧ tn ≤ bn2) : Wm w0 w2 K' wb Y A D B E es xn bn2 st :=
  ⟨m.below h.bel (fun x hx => by rw [h.kz x hx]; exact hz), fun x hx => (m.same x (Nat.lt_of_lt_of_le hx h.bel.size)).trans (h.kz x hx), h.tab, h.plc.kept m hpl, (by obtain ⟨rv, q⟩ := h.la; exact ⟨rv, q.kp m h10⟩), (by obtain ⟨rv, q⟩ := h.lb; exact ⟨rv, q.kp m h11⟩), (by obtain ⟨rv, t, q, r⟩ := h.ka; exact ⟨rv, t, q.kp m h30 h40, r⟩), (by obtain ⟨rv, t, q, r⟩ := h.kb; exact ⟨rv, t, q.kp m h31 h41, r⟩), h.sent.kept m h21, (fun e he => (h.bod e he).kp m h22), (by obtain ⟨G, V, xs, q, r⟩ := h.late; exact ⟨G, V, xs, q.keep m h6 (fun j _ => h7 j), r⟩), q0, h.bl⟩
theorem Wm.k9 (h : Wm w0 w K wb Y A D B E es xn bn st) (m : Kp p K K' w w2) (hp : ∀ q, p q → q.1 = 9) : Wm w0 w2 K' wb Y A D B E es xn bn st := by
  have hn : ∀ i j, i ≠ 9 → ¬ p (i, j) := fun i j hi e => hi (hp _ e)
  exact h.kp m (hn 0 0 (by omega)) (fun j => hn 8 j (by omega)) (hn 1 0 (by omega)) (hn 1 1 (by omega)) (hn 3 0 (by omega)) (hn 4 0 (by omega)) (hn 3 1 (by omega)) (hn 4 1 (by omega)) (hn 2 1 (by omega)) (hn 2 2 (by omega)) (hn 6 0 (by omega)) (fun j => hn 7 j (by omega)) (fun j => hn 5 j (by omega))
theorem Wm.below (h : Wm w0 w K wb Y A D B E es xn bn st) (hb : Below w.heap.size w w2) (kd : Nat × Nat) : Wm w0 w2 (ext K w.heap.size kd) wb Y A D B E es xn bn st := h.k9 (kp_below hb (fun _ => False) K kd) (fun _ e => e.elim)
theorem Wm.drewN (h : Wm w0 w K wb Y A D B E es xn bn st) (q : Nat) : Wm w0 (w.drewN q) K wb Y A D B E es xn bn st := h.k9 (drew_kq w K q) (fun _ e => e.elim)
theorem Wm.tb (h : Wm w0 w K wb Y A D B E es xn bn st) : C.Tab w := h.tab.below h.bel h.tab.pos
theorem Wm.blk (h : Wm w0 w K wb Y A D B E es xn bn st) : ∃ O I, w.heap[wb]? = some (.cells (Pw.wkC Y O I) 48 (0, 0)) ∧ K wb = (8, 0) := by
  rcases h.plc with ⟨q1, q2⟩ | ⟨O, I, X, no, m, os, ys, q⟩
  · exact ⟨_, _, q1, q2⟩
  · exact ⟨O, I, q.blk, q.kb⟩
end
theorem cellW {w : World} {b : Nat} {Y : Pw.Wc} {x0 x1 : Value} {t : TypeId} (h : w.heap[b]? = some (.cells (Pw.wkC Y x0 x1) t (0, 0))) : w.cell? ⟨b, 0, none⟩ = some (.int .i64 Y.m0) ∧ w.cell? ⟨b, 1, none⟩ = some (.int .i64 Y.m1) ∧ w.cell? ⟨b, 2, none⟩ = some (.int .i64 Y.w0) ∧ w.cell? ⟨b, 3, none⟩ = some (.int .i64 Y.w1) ∧ w.cell? ⟨b, 4, none⟩ = some (.int .i64 Y.c0) ∧ w.cell? ⟨b, 5, none⟩ = some (.int .i64 Y.c1) ∧ w.cell? ⟨b, 6, none⟩ = some (.pointer (some ⟨Y.l0, 0, none⟩)) ∧ w.cell? ⟨b, 7, none⟩ = some (.pointer (some ⟨Y.l1, 0, none⟩)) ∧ w.cell? ⟨b, 8, none⟩ = some (.pointer (some ⟨Y.k0, 0, none⟩)) ∧ w.cell? ⟨b, 9, none⟩ = some (.pointer (some ⟨Y.k1, 0, none⟩)) ∧ w.cell? ⟨b, 10, none⟩ = some Y.sv ∧ w.cell? ⟨b, 11, none⟩ = some (.pointer (some ⟨Y.bb, 0, none⟩)) ∧ w.cell? ⟨b, 12, none⟩ = some (.pointer (some ⟨Y.lb, 0, none⟩)) ∧ w.cell? ⟨b, 15, none⟩ = some (.int .i64 (Y.turn : Int)) ∧ ∀ o, w.frozen? ⟨b, o, none⟩ = false := by
  refine ⟨?_, ?_, ?_, ?_, ?_, ?_, ?_, ?_, ?_, ?_, ?_, ?_, ?_, ?_, fun o => by simp [World.frozen?, h]⟩ <;> simp [World.cell?, h, Pw.wkC]
def Gd (Y : Pw.Wc) (w : World) (K : Knd) (wb : Nat) (a : Option Addr) (n c : Nat) (E : List Nat) : Prop := (Y.turn % 2 = 1 ∧ ∃ g, a = some ⟨g, 0, none⟩ ∧ U.Own 0 w g c (E ++ U.marks) ∧ K g = (9, 2)) ∨ (Y.turn % 2 = 0 ∧ Pw.Plc1 Y w K wb (.slice a n c) n E ∧ Bytes w a E)
theorem Gd.kp {Y : Pw.Wc} {w w2 : World} {K K' : Knd} {wb : Nat} {a : Option Addr} {n c : Nat} {E : List Nat} {p : Nat × Nat → Prop} (h : Gd Y w K wb a n c E) (m : Kp p K K' w w2) (h9 : ¬ p (9, 2)) (h8 : ∀ j, ¬ p (8, j)) : Gd Y w2 K' wb a n c E := by
  rcases h with ⟨q1, g, q2, q3, q4⟩ | ⟨q1, ⟨O, I, no, os, q⟩, q3⟩
  · refine Or.inl ⟨q1, g, q2, ?_, (m.same g q3.lt).trans q4⟩
    obtain ⟨C0, hC, hc⟩ := q3.row
    exact ⟨q3.base, q3.cap, q3.small, C0, (m.block g (C.lt_of_block hC) (by rw [q4]; exact h9)).trans hC, hc⟩
  · have hx := q.x.kept m (h8 3)
    refine Or.inr ⟨q1, ⟨O, I, no, os, ⟨(m.block wb (C.lt_of_block q.blk) (by rw [q.kb]; exact h8 0)).trans q.blk, (m.same wb (C.lt_of_block q.blk)).trans q.kb, q.o.kept m (h8 1), q.i.kept m (h8 2), hx⟩⟩, ?_⟩
    refine U.bytes_kept q3 m.size (fun g o e hg => m.block g hg ?_)
    rw [q.x.kind g (by rw [e]; rfl)]
    exact h8 3
theorem Gd.by {Y : Pw.Wc} {w : World} {K : Knd} {wb : Nat} {a : Option Addr} {n c : Nat} {E : List Nat} (h : Gd Y w K wb a n c E) : Bytes w a E ∧ ∀ b, a = some b → K b.block = (9, 2) ∨ K b.block = (8, 3) := by
  rcases h with ⟨q1, g, q2, q3, q4⟩ | ⟨q1, ⟨O, I, no, os, q⟩, q3⟩
  · rw [q2]
    exact ⟨q3.front, fun b e => by cases e; exact Or.inl q4⟩
  · refine ⟨q3, fun b e => Or.inr ?_⟩
    have h1 := q.x.own
    rcases h1.2 with ⟨e1, _⟩ | ⟨g', cap, cur, e1, _⟩
    · cases e1; cases e
    · cases e1; cases e
      exact q.x.kind g' rfl
end Go.Proofs.YtjcdnclfakmbpaaGreatDoor
namespace Go.Proofs.YtjcdnclfakmbpaaGreatDoor
open Go.RowKit
theorem Pw.Plc.cell {w : World} {K : Knd} {wb : Nat} {Y Y2 : Pw.Wc} (h : Pw.Plc Y w K wb) (i : Nat) (v : Value) (he : ∀ O I, (Pw.wkC Y O I).setIfInBounds i v = Pw.wkC Y2 O I) : Pw.Plc Y2 (w.setCell ⟨wb, i, none⟩ v) K wb := by
  rcases h with ⟨q1, q2⟩ | ⟨O, I, X, no, m, os, ys, q⟩
  · exact Or.inl ⟨by rw [C.block_set q1, he], q2⟩
  · have mk : Kp (fun q => q = (8, 0)) K K w (w.setCell ⟨wb, i, none⟩ v) := (Kp.refl (fun q => q = (8, 0)) K w).setCell (b := wb) (Or.inr q.kb) _ _
    exact Or.inr ⟨O, I, X, no, m, os, ys, ⟨by rw [C.block_set q.blk, he], q.kb, q.o.kept mk (by simp), q.i.kept mk (by simp), q.x.kept mk (by simp)⟩⟩
section
variable {w0 w w2 : World} {K K' : Knd} {wb : Nat} {Y Y2 : Pw.Wc} {A D B E : Lk} {es : List Fe} {xn bn st : Nat} {p : Nat × Nat → Prop}
theorem Wm.tplc (h : Wm w0 w K wb Y A D B E es xn bn st) (m : Kp p K K' w w2) (hp : ∀ q, p q → q.1 = 8 ∨ q.1 = 9) (q : Pw.Plc Y2 w2 K' wb) (he : Y2.l0 = Y.l0 ∧ Y2.l1 = Y.l1 ∧ Y2.k0 = Y.k0 ∧ Y2.k1 = Y.k1 ∧ Y2.sv = Y.sv ∧ Y2.bb = Y.bb ∧ Y2.lb = Y.lb ∧ Y2.c0 = Y.c0 ∧ Y2.c1 = Y.c1) : Wm w0 w2 K' wb Y2 A D B E es xn bn st := by
  obtain ⟨e1, e2, e3, e4, e5, e6, e7, e8, e9⟩ := he
  have hn : ∀ i j, i ≠ 8 → i ≠ 9 → ¬ p (i, j) := fun i j h8 h9 e => by rcases hp _ e with e | e; exact h8 e; exact h9 e
  refine ⟨m.below h.bel (fun x hx => by rw [h.kz x hx]; exact hn 0 0 (by omega) (by omega)), fun x hx => (m.same x (Nat.lt_of_lt_of_le hx h.bel.size)).trans (h.kz x hx), h.tab, q, ?_, ?_, ?_, ?_, ?_, ?_, ?_, ?_, h.bl⟩
  · obtain ⟨rv, q⟩ := h.la; rw [e1]; exact ⟨rv, q.kp m (hn 1 0 (by omega) (by omega))⟩
  · obtain ⟨rv, q⟩ := h.lb; rw [e2]; exact ⟨rv, q.kp m (hn 1 1 (by omega) (by omega))⟩
  · obtain ⟨rv, t, q, r⟩ := h.ka; rw [e3, e8]; exact ⟨rv, t, q.kp m (hn 3 0 (by omega) (by omega)) (hn 4 0 (by omega) (by omega)), r⟩
  · obtain ⟨rv, t, q, r⟩ := h.kb; rw [e4, e9]; exact ⟨rv, t, q.kp m (hn 3 1 (by omega) (by omega)) (hn 4 1 (by omega) (by omega)), r⟩
  · rw [e5]; exact h.sent.kept m (hn 2 1 (by omega) (by omega))
  · exact fun e he => (h.bod e he).kp m (hn 2 2 (by omega) (by omega))
  · obtain ⟨G, V, xs, q, r⟩ := h.late; rw [e7]; exact ⟨G, V, xs, q.keep m (hn 6 0 (by omega) (by omega)) (fun j _ => hn 7 j (by omega) (by omega)), r⟩
  · obtain ⟨X, L, M, tn, us, ks, rs, q, r⟩ := h.book
    rw [e6]; exact ⟨X, L, M, tn, us, ks, rs, q.keep m (hn 5 1 (by omega) (by omega)) (hn 5 2 (by omega) (by omega)) (hn 5 3 (by omega) (by omega)) (hn 5 4 (by omega) (by omega)) (fun x e => by rw [e]; exact hn 5 2 (by omega) (by omega)) (by simp), r⟩
end
set_option maxRecDepth 100000 in
set_option maxHeartbeats 400000 in
theorem over_rk (w : World) (K : Knd) (k : Nat × Nat) (g m c : Nat) (xs : List Nat) (hm : xs.length = m) (hs : ∀ x ∈ xs, x < 256) (ho : Rk w K k 5 1 (.slice (some ⟨g, 0, none⟩) m c) m (vals xs)) (hl : m ≤ 140737488351232) :
    Calls Tryz.prog 55 #[.slice (some ⟨g, 0, none⟩) m c] w fun e w' => e = .returned (.tuple #[]) ∧ (∃ ys, Rk w' K k 5 1 (.slice (some ⟨g, 0, none⟩) m c) m (vals ys)) ∧ Kp (fun q => q = k) K K w w' := by
  have HO := hide ho
  have HM := hide hm
  have HS := hide hs
  have HK := hide (ho.kind g rfl)
  clear ho hm hs
  go_enter Tryz.func55, Tryz.ntmps55
  go_wp2
  go_loopw [2] (fun i wr => ∃ (j : Nat) (ys : List Nat), j ≤ m ∧ i = .int .i64 j ∧ Hid (ys.length = m) ∧ Hid (∀ x ∈ ys, x < 256) ∧ Hid (Rk wr K k 5 1 (.slice (some ⟨g, 0, none⟩) m c) m (vals ys)) ∧ Hid (Kp (fun q => q = k) K K w wr)) (fun i _ => m - (intOf i).toNat)
  case atStart => exact ⟨0, xs, Nat.zero_le _, rfl, HM, HS, HO, hide (Kp.refl _ _ _)⟩
  case round =>
    obtain ⟨j, ys, hj, rfl, HL, HSy, HY, HP⟩ := hrel
    by_cases hlt : j < m
    · have hlt' : (j : Int) < (m : Int) := by omega
      have i0 : (0 : Int) ≤ (j : Int) := by omega
      have ho := U.rk_own HY.out HSy.out
      obtain ⟨hc, hf⟩ := ho.cell j (by rw [HL.out]; exact hlt)
      have hgl := ho.lt
      have HY2 : Hid (Rk (wr.setCell ⟨g, j, none⟩ (.int .u8 (238 : Nat))) K k 5 1 (.slice (some ⟨g, 0, none⟩) m c) m (vals (ys.set j 238))) := U.rk_set HY.out j 238
      have HL2 : Hid ((ys.set j 238).length = m) := by show _ = _; rw [List.length_set]; exact HL.out
      have HS2 : Hid (∀ x ∈ ys.set j 238, x < 256) := fun x hx => by
        rcases List.mem_or_eq_of_mem_set hx with q | q
        · exact HSy.out x q
        · omega
      generalize ys.getD j 0 = x0 at *
      clear ho
      go_wp2
      go_roundw
      case rel => exact ⟨j + 1, _, by omega, by go_num, HL2, HS2, HY2, hide (HP.out.setCell (Or.inr HK.out) _ _)⟩
      case measure => simp [intOf]; omega
    · obtain rfl : j = m := by omega
      go_wp2
      go_end0
      exact ⟨rfl, ⟨ys, HY.out⟩, HP.out⟩
def P89 (q : Nat × Nat) : Prop := q.1 = 8 ∨ q = (9, 2)
set_option maxRecDepth 100000 in
set_option maxHeartbeats 1000000 in
theorem given_any (w0 w : World) (K : Knd) (wb : Nat) (Y : Pw.Wc) (A D B E : Lk) (es : List Fe) (xn bn st : Nat) (h : Wm w0 w K wb Y A D B E es xn bn st) (ht : Y.turn ≤ 100000) (sp : Option Addr) (n c : Nat) (F : List Nat) (hx : Bytes w sp F) (hn : F.length = n) (hl : n ≤ 140737488351232) (hsk : ∀ b, sp = some b → F ≠ [] → b.block < w.heap.size ∧ (K b.block).1 ≠ 8) :
    Calls Tryz.prog 19 #[.pointer (some ⟨wb, 0, none⟩), .slice sp n c] w fun e w' => ∃ K' a c', e = .returned (.slice a n c') ∧ Wm w0 w' K' wb { Y with turn := Y.turn + 1 } A D B E es xn bn st ∧ Gd { Y with turn := Y.turn + 1 } w' K' wb a n c' F ∧ Kp U.P8 K K' w w' := by
  obtain ⟨O, I, hblk, hkb⟩ := h.blk
  obtain ⟨-, -, -, -, -, -, -, -, -, -, -, -, -, c15, cf⟩ := cellW hblk
  have hlt := C.lt_of_block hblk
  obtain ⟨w1, hw1⟩ : ∃ w1, w.setCell ⟨wb, 15, none⟩ (.int .i64 ((Y.turn : Int) + 1)) = w1 := ⟨_, rfl⟩
  have hp1 : Pw.Plc { Y with turn := Y.turn + 1 } w1 K wb := by rw [← hw1]; exact h.plc.cell 15 _ (fun O I => rfl)
  have m1 : Kp (fun q => q = (8, 0)) K K w w1 := by rw [← hw1]; exact (Kp.refl (fun q => q = (8, 0)) K w).setCell (b := wb) (Or.inr hkb) _ _
  have h1 : Wm w0 w1 K wb { Y with turn := Y.turn + 1 } A D B E es xn bn st := h.tplc m1 (fun q e => by subst e; exact Or.inl rfl) hp1 ⟨rfl, rfl, rfl, rfl, rfl, rfl, rfl, rfl, rfl⟩
  have hsk' : F = [] ∨ ∀ b, sp = some b → b.block < w.heap.size ∧ (K b.block).1 ≠ 8 := by
    by_cases hF : F = []
    · exact Or.inl hF
    · exact Or.inr (fun b e => hsk b e hF)
  have hx1 : Bytes w1 sp F := U.bytes_or hx m1.size (hsk'.imp id (fun hsk g o e hg => m1.block g hg (fun e2 => (hsk _ e).2 (by show (K g).1 = 8; rw [e2]))))
  have H1 := hide h1
  have HX1 := hide hx1
  have HM1 := hide (m1.mono (q := U.P8) (fun q e => by subst e; rfl))
  have HSk : Hid (F = [] ∨ ∀ g q, sp = some ⟨g, q, none⟩ → g < w1.heap.size ∧ (K g).1 ≠ 8) := hsk'.imp id (fun hsk g q e => ⟨Nat.lt_of_lt_of_le (hsk _ e).1 m1.size, (hsk _ e).2⟩)
  have HW := hide hw1
  have HN := hide hn
  obtain ⟨t, htn⟩ : ∃ t, Y.turn = t := ⟨_, rfl⟩
  have HTn := hide htn
  have c15' : w1.cell? ⟨wb, 15, none⟩ = some (.int .i64 ((t : Int) + 1)) := by
    obtain ⟨O1, I1, hb1, _⟩ := h1.blk
    obtain ⟨-, -, -, -, -, -, -, -, -, -, -, -, -, q, -⟩ := cellW hb1
    rw [q]; simp [htn]
  rw [htn] at c15 ht
  clear h hx h1 hx1 hp1 m1 hsk hsk' hn hblk hkb htn
  go_enter Tryz.func19, Tryz.ntmps19
  go_upto_region 2 with (fail)
  have hw1' : w.setCell ⟨wb, 15, none⟩ (.int .i64 ((t : Int) + 1)) = w1 := by rw [← HW.out, HTn.out]
  rw [hw1']
  clear hw1' HW
  by_cases he : (t + 1) % 2 = 0
  · have e1 : (((t : Int) + 1) % 2 == 0) = true := by simp; omega
    have e2 : ((t : Int) + 1) % 2 = 0 := by omega
    have HE : Hid ((Y.turn + 1) % 2 = 0) := by show _ = _; rw [HTn.out]; exact he
    have HP := hide (Pw.pbytes_any { Y with turn := Y.turn + 1 } w1 K wb H1.out.plc sp n c F HX1.out HN.out hl HSk.out)
    clear he
    go_wp2_with fail
    refine HP.out.mono ?_
    rintro e w2 ⟨K', a, c', rfl, hb, hp, hk, h8⟩
    have hW2 := H1.out.tplc (Y2 := { Y with turn := Y.turn + 1 }) hk (fun q e => Or.inl e) hp.plc ⟨rfl, rfl, rfl, rfl, rfl, rfl, rfl, rfl, rfl⟩
    have HW2 := hide hW2
    have HG : Hid (Gd { Y with turn := Y.turn + 1 } w2 K' wb a n c' F) := Or.inr ⟨HE.out, hp, hb⟩
    have HK := hide (HM1.out.trans hk)
    clear hb hp hk h8 hW2
    go_wp2
    go_ret
    exact ⟨K', a, c', rfl, HW2.out, HG.out, HK.out⟩
  · have e1 : (((t : Int) + 1) % 2 == 0) = false := by simp; omega
    have e2 : ¬ ((t : Int) + 1) % 2 = 0 := by omega
    have HE : Hid ((Y.turn + 1) % 2 = 1) := by show _ = _; rw [HTn.out]; omega
    have HP := hide (U.lend_any w1 sp n c F HN.out HX1.out hl)
    clear he
    go_wp2_with fail
    refine HP.out.mono ?_
    rintro e w2 ⟨g, c', rfl, ho, hb⟩
    have HW2 := hide (H1.out.below hb (9, 2))
    have hown := U.own_full (fun x hx => by
      rcases List.mem_append.1 hx with e | e
      · exact HX1.out.small x e
      · exact U.marks_small x e) ho
    have HG : Hid (Gd { Y with turn := Y.turn + 1 } w2 (ext K w1.heap.size (9, 2)) wb (some ⟨g, 0, none⟩) n c' F) := Or.inl ⟨HE.out, g, rfl, hown.mono (Nat.zero_le _), ext_new _ _ hown.base⟩
    have HK := hide (HM1.out.trans (kp_below hb U.P8 K (9, 2)))
    clear ho hb hown
    go_wp2
    go_ret
    exact ⟨_, _, c', rfl, HW2.out, HG.out, HK.out⟩
set_option maxRecDepth 100000 in
set_option maxHeartbeats 1000000 in
theorem kept_any (w0 w : World) (K : Knd) (wb : Nat) (Y : Pw.Wc) (A D B E : Lk) (es : List Fe) (xn bn st : Nat) (h : Wm w0 w K wb Y A D B E es xn bn st) (ht : Y.turn ≤ 200000) (a sp : Option Addr) (n c c2 : Nat) (F : List Nat) (hg : Gd Y w K wb a n c F) (hx : Bytes w sp F) (hn : F.length = n) (hl : n ≤ 140737488351232) :
    Calls Tryz.prog 21 #[.pointer (some ⟨wb, 0, none⟩), .slice a n c, .slice sp n c2] w fun e w' => e = .returned (.bool true) ∧ Wm w0 w' K wb Y A D B E es xn bn st ∧ Kp P89 K K w w' := by
  obtain ⟨O, I, hblk, hkb⟩ := h.blk
  obtain ⟨-, -, -, -, -, -, -, -, -, -, -, -, -, c15, cf⟩ := cellW hblk
  obtain ⟨t, htn⟩ : ∃ t, Y.turn = t := ⟨_, rfl⟩
  have HQ := hide (eq_val w a sp n n c c2 F F hn hn (by omega) (by omega) hg.by.1 hx)
  rw [decide_eq_true rfl] at HQ
  have H := hide h
  have HGd := hide hg
  have HX := hide hx
  have HN := hide hn
  have HTn := hide htn
  rw [htn] at c15 ht
  clear h hg hx hn hblk hkb htn
  go_enter Tryz.func21, Tryz.ntmps21
  go_wp2_with fail
  refine HQ.out.mono ?_
  rintro e w1 ⟨rfl, q, rfl⟩
  have H1 := hide (H.out.drewN q)
  have HG1 := hide (HGd.out.kp (drew_kq w K q) (fun e => e) (fun _ e => e))
  have HX1 := hide (HX.out.drewN q)
  have HM1 : Hid (Kp P89 K K w (w.drewN q)) := (drew_kq w K q).mono (fun _ e => e.elim)
  have d15 : (w.drewN q).cell? ⟨wb, 15, none⟩ = some (.int .i64 (t : Int)) := c15
  generalize w.drewN q = w1 at *
  clear c15 cf H HGd HX HQ
  by_cases he : t % 2 = 1
  · have e1 : ((t : Int) % 2 == 1) = true := by simp; omega
    have e2 : (t : Int) % 2 = 1 := by omega
    have hgd : ∃ g, a = some ⟨g, 0, none⟩ ∧ U.Own 0 w1 g c (F ++ U.marks) ∧ K g = (9, 2) := by
      rcases HG1.out with ⟨_, q⟩ | ⟨q, _⟩
      · exact q
      · rw [HTn.out] at q; omega
    obtain ⟨g, rfl, ho, hk⟩ := hgd
    have HO := hide ho
    have HK := hide hk
    have HI := hide (U.intact_any w1 0 g c n sp c2 F HN.out ho HX1.out hl)
    clear ho hk he HG1
    go_wp2_with fail
    refine HI.out.mono ?_
    rintro e w2 ⟨rfl, q2, rfl⟩
    have H2 := hide (H1.out.drewN q2)
    have HO2 : Hid (U.Own 0 (w1.drewN q2) g c (F ++ U.marks)) := ⟨HO.out.base, HO.out.cap, HO.out.small, HO.out.row⟩
    have HM2 : Hid (Kp P89 K K w (w1.drewN q2)) := HM1.out.trans ((drew_kq w1 K q2).mono (fun _ e => e.elim))
    generalize w1.drewN q2 = w2 at *
    clear d15 H1 HO HM1 HI HX1
    have HV := hide (U.over_any w2 K (9, 2) g n c c (F ++ U.marks) (by rw [List.length_append, HN.out]; omega) HO2.out HK.out hl)
    go_wp2_with fail
    refine HV.out.mono ?_
    rintro e w3 ⟨rfl, hk3⟩
    have H3 := hide (H2.out.k9 hk3 (fun q e => by subst e; rfl))
    have HM3 := hide (HM2.out.trans (hk3.mono (q := P89) (fun q e => by subst e; exact Or.inr rfl)))
    clear hk3
    go_wp2
    go_ret
    exact ⟨rfl, H3.out, HM3.out⟩
  · have e1 : ((t : Int) % 2 == 1) = false := by simp; omega
    have e2 : ¬ (t : Int) % 2 = 1 := by omega
    have hgd : Pw.Plc1 Y w1 K wb (.slice a n c) n F := by
      rcases HG1.out with ⟨q, _⟩ | ⟨_, q, _⟩
      · rw [HTn.out] at q; omega
      · exact q
    obtain ⟨O1, I1, no, os, hpl⟩ := hgd
    have HPl := hide hpl
    clear he HG1 hpl
    rcases HPl.out.x.own.2 with ⟨ea, en⟩ | ⟨g, cap, cur, ea, hb0, hgb, hnc, hcm, hcs, htk⟩
    · injection ea with ea1 ea2 ea3
      subst ea1
      subst en
      subst ea3
      have HV : Hid (Calls Tryz.prog 55 #[.slice none 0 0] w1 fun e w' => e = .returned (.tuple #[]) ∧ w' = w1) := by
        show Calls _ _ _ _ _
        clear d15 e1 e2 HPl H1 HM1 HX1
        go_enter Tryz.func55, Tryz.ntmps55
        go_wp2
        refine wp_loop_rounds 1 ?_
        rw [rounds_succ]
        go_wp2
        go_end0
        exact ⟨rfl, rfl⟩
      go_wp2_with fail
      refine HV.out.mono ?_
      rintro e w3 ⟨rfl, rfl⟩
      go_wp2
      go_ret
      exact ⟨rfl, H1.out, HM1.out⟩
    · cases ea
      have HV := hide (over_rk w1 K (8, 3) g n c F HN.out HX1.out.small HPl.out.x hl)
      clear hb0 hgb hnc hcm hcs htk
      go_wp2_with fail
      refine HV.out.mono ?_
      rintro e w3 ⟨rfl, ⟨ys, ho3⟩, hk3⟩
      have hpl3 : Pw.Plc Y w3 K wb := Or.inr ⟨O1, I1, .slice (some ⟨g, 0, none⟩) n c, no, n, os, ys, ⟨(hk3.block wb (C.lt_of_block HPl.out.blk) (by rw [HPl.out.kb]; simp)).trans HPl.out.blk, HPl.out.kb, HPl.out.o.kept hk3 (by simp), HPl.out.i.kept hk3 (by simp), ho3⟩⟩
      have H3 := hide (H1.out.tplc (Y2 := Y) hk3 (fun q e => by subst e; exact Or.inl rfl) hpl3 ⟨rfl, rfl, rfl, rfl, rfl, rfl, rfl, rfl, rfl⟩)
      have HM3 := hide (HM1.out.trans (hk3.mono (q := P89) (fun q e => by subst e; exact Or.inl rfl)))
      clear hk3 ho3 hpl3
      go_wp2
      go_ret
      exact ⟨rfl, H3.out, HM3.out⟩
end Go.Proofs.YtjcdnclfakmbpaaGreatDoor
namespace Go.Proofs.YtjcdnclfakmbpaaGreatDoor
open Go.RowKit
def HrR (L : Lk) (f : Fr) (A : Lk) (xs : List Nat) (t1 t2 t3 : Bool) : Prop :=
  (rcv L f.fr f.tt f.mine f.yours f.seq f.ack f.body ∧ A = hrL L f.mine f.yours f.seq f.ack ∧ xs = (if hrH L f.mine f.yours f.seq f.ack = true then f.body else []) ∧ t1 = hrH L f.mine f.yours f.seq f.ack ∧ t2 = decide (L.known < f.mine) ∧ t3 = decide (f.yours = L.life)) ∨ (¬ rcv L f.fr f.tt f.mine f.yours f.seq f.ack f.body ∧ A = L ∧ xs = [] ∧ t1 = false ∧ t2 = false ∧ t3 = false)
theorem HrR.uni {L : Lk} {f : Fr} {A A' : Lk} {xs xs' : List Nat} {t1 t2 t3 t1' t2' t3' : Bool} (h : HrR L f A xs t1 t2 t3) (h' : HrR L f A' xs' t1' t2' t3') : A' = A ∧ xs' = xs ∧ t1' = t1 ∧ t2' = t2 ∧ t3' = t3 := by
  rcases h with ⟨q, a1, a2, a3, a4, a5⟩ | ⟨q, a1, a2, a3, a4, a5⟩ <;> rcases h' with ⟨r, b1, b2, b3, b4, b5⟩ | ⟨r, b1, b2, b3, b4, b5⟩
  · exact ⟨b1.trans a1.symm, b2.trans a2.symm, b3.trans a3.symm, b4.trans a4.symm, b5.trans a5.symm⟩
  · exact absurd q r
  · exact absurd r q
  · exact ⟨b1.trans a1.symm, b2.trans a2.symm, b3.trans a3.symm, b4.trans a4.symm, b5.trans a5.symm⟩
theorem hrL_win (L : Lk) (mine yours seq ack : Nat) : (hrL L mine yours seq ack).window = L.window := by
  have h1 : (hear1 L mine).window = L.window := by unfold hear1; split <;> rfl
  have h2 : ∀ M : Lk, (ackL M ack).window = M.window := fun M => by unfold ackL; split <;> rfl
  have h3 : ∀ M : Lk, (bodyL M seq).window = M.window := fun M => by unfold bodyL; split; rfl; split <;> rfl
  unfold hrL
  split
  · rw [h3, h2]; exact h1
  · exact h1
theorem tickL_win (L : Lk) : (tickL L).window = L.window := by
  have h1 := (tkR_same L).1
  unfold tickL
  split
  · exact h1
  · exact h1
theorem sendN_win (L : Lk) (s : ByteArray) : (sendN L s).window = L.window := by
  show (sendL L).window = L.window
  unfold sendL; split <;> rfl
theorem HrR.rn {L : Lk} {f : Fr} {A : Lk} {xs : List Nat} {t1 t2 t3 : Bool} {i : Nat} (h : HrR L f A xs t1 t2 t3) (r : Rn L i) : Rn A (i + 1) ∧ A.window = L.window := by
  rcases h with ⟨_, e, _⟩ | ⟨_, e, _⟩
  · rw [e]; exact ⟨r.hear _ _ _ _, hrL_win _ _ _ _ _⟩
  · rw [e]; exact ⟨r.up, rfl⟩
theorem HrR.small {L : Lk} {f : Fr} {A : Lk} {xs : List Nat} {t1 t2 t3 : Bool} (h : HrR L f A xs t1 t2 t3) (hs : ∀ x ∈ f.body, x < 256) : (∀ x ∈ xs, x < 256) ∧ xs.length ≤ f.body.length := by
  rcases h with ⟨_, _, e, _⟩ | ⟨_, _, e, _⟩
  · rw [e]; split
    · exact ⟨hs, Nat.le_refl _⟩
    · exact ⟨(fun x hx => by cases hx), Nat.zero_le _⟩
  · rw [e]; exact ⟨(fun x hx => by cases hx), Nat.zero_le _⟩
section
variable {w : World} {K : Knd} {kd : Nat × Nat} {b : Nat} {L : Lk} {rv : Value} {i : Nat}
def frA (f : Fr) (a : Option Addr) (n c : Nat) : Array Value := #[.int .i64 f.fr, .int .i64 f.tt, .int .u64 (f.mine : Int), .int .u64 (f.yours : Int), .int .u64 (f.seq : Int), .int .u64 (f.ack : Int), .slice a n c]
theorem phear_x (h : Lx w K kd b L rv) (hn : Rn L i) (hi : i ≤ 1000000) (f : Fr) (a : Option Addr) (n c : Nat) (hb : f.body.length = n) (hx : Bytes w a f.body) (hk : ∀ q, a = some q → K q.block ≠ kd) (kn : Nat × Nat) :
    Calls Tryz.prog 58 #[.pointer (some ⟨b, 0, none⟩), .agg (frA f a n c)] w fun e w' =>
      ∃ (a2 : Option Addr) (m2 cc : Nat) (A : Lk) (xs : List Nat) (t1 t2 t3 : Bool), e = .returned (.agg #[.slice a2 m2 cc, .bool t1, .bool t2, .bool t3]) ∧ HrR L f A xs t1 t2 t3 ∧ xs.length = m2 ∧ w'.ownsRow w.heap.size 5 1 (.slice a2 m2 cc) m2 (vals xs) ∧ (∃ rv', Lx w' (ext K w.heap.size kn) kd b A rv') ∧ Kp (fun q => q = kd) K (ext K w.heap.size kn) w w' := by
  have h1 := hn.row
  have h2 := hn.hand
  obtain ⟨f0, f1, mine, yours, seq, ack, body⟩ := f
  simp only [frA] at *
  by_cases hr : rcv L f0 f1 mine yours seq ack body
  · have hr2 := hr
    have e0 := hr.2.1
    have e1 := hr.2.2.1
    rw [e0, e1] at hr2
    have hc := hear_any w b L rv h.lw mine yours seq ack n c a body hb hx (fun q hq => ⟨fun e => hk q hq (by rw [e]; exact h.kb), fun e => hk q hq (h.kr _ e.symm)⟩) hr2 (by omega) (by omega)
    rw [e0, e1]
    refine hc.mono ?_
    rintro e w' ⟨a2, m2, cc, rv', he, hp⟩
    have ht := h.turn (K' := ext K w.heap.size kn) hp.lw hp.tw (fun x hx => ext_old _ _ hx) (fun g hg => by
      rcases hp.rb with q | q
      · exact Or.inl (q.symm.trans hg)
      · rw [q] at hg; cases hg)
    refine ⟨a2, m2, cc, _, _, _, _, _, he, Or.inl ⟨by simpa [e0, e1] using hr2, rfl, rfl, rfl, rfl, rfl⟩, by rw [hp.len]; split <;> rfl, hp.row, ⟨rv', ht.1⟩, ht.2⟩
  · refine (hear_no w b L rv h.lw.lb f0 f1 mine yours seq ack n c a body hb hr).mono ?_
    rintro e w' ⟨he, hbw⟩
    have m : Kp (fun q => q = kd) K (ext K w.heap.size kn) w w' := kp_below hbw _ _ _
    exact ⟨none, 0, 0, L, [], false, false, false, he, Or.inr ⟨hr, rfl, rfl, rfl, rfl, rfl⟩, rfl, ⟨rfl, Or.inl ⟨rfl, rfl⟩⟩, ⟨rv, h.kp (kp_below hbw (fun _ => False) K kn) (fun e => e)⟩, m⟩
theorem dhear_x {kb : Nat × Nat} {m t : Nat} (hkk : kd ≠ kb) (h : Dk w K kd kb b L rv m t) (hn : Rn L i) (hi : i ≤ 1000000) (f : Fr) (a : Option Addr) (n c : Nat) (hb : f.body.length = n) (hx : Bytes w a f.body) (hk : ∀ q, a = some q → f.body ≠ [] → K q.block ≠ kd) (ht : t ≤ i) :
    Calls Tryz.prog 59 #[.pointer (some ⟨b, 0, none⟩), .agg (frA f a n c)] w fun e w' =>
      ∃ (a2 : Option Addr) (m2 cc : Nat) (A : Lk) (xs : List Nat) (t1 t2 t3 : Bool), e = .returned (.agg #[.slice a2 m2 cc, .bool t1, .bool t2, .bool t3]) ∧ HrR L f A xs t1 t2 t3 ∧ xs.length = m2 ∧ Bytes w' a2 xs ∧ (∀ p, a2 = some p → w.heap.size ≤ p.block) ∧ (∃ rv' t', Dk w' (ext K w.heap.size kd) kd kb b A rv' m t' ∧ t' ≤ i) ∧ Kp (fun q => q = kd) K (ext K w.heap.size kd) w w' := by
  have h1 := hn.num
  have h2 := hn.hand
  obtain ⟨f0, f1, mine, yours, seq, ack, body⟩ := f
  simp only [frA] at *
  by_cases hr : rcv L f0 f1 mine yours seq ack body
  · have hr2 := hr
    have e0 := hr.2.1
    have e1 := hr.2.2.1
    rw [e0, e1] at hr2
    have hc := dhear_any w K kd kb hkk b L rv m t h mine yours seq ack n c a body hb hx hk hr2 (by omega) (by omega)
    rw [e0, e1]
    refine hc.mono ?_
    rintro e w' ⟨a2, m2, cc, he, hp⟩
    obtain ⟨rv', t', hd, ht'⟩ := hp.dk
    exact ⟨a2, m2, cc, _, _, _, _, _, he, Or.inl ⟨by simpa [e0, e1] using hr2, rfl, rfl, rfl, rfl, rfl⟩, by rw [hp.len]; split <;> rfl, hp.by_, hp.lo, ⟨rv', t', hd, by omega⟩, hp.kp⟩
  · refine (dhear_no w b L rv m t h.db f0 f1 mine yours seq ack n c a body hb hr).mono ?_
    rintro e w' ⟨he, hbw⟩
    exact ⟨none, 0, 0, L, [], false, false, false, he, Or.inr ⟨hr, rfl, rfl, rfl, rfl, rfl⟩, rfl, ⟨(fun x hx => by cases hx), Or.inl rfl⟩, (fun p e => by cases e), ⟨rv, t, h.kp (kp_below hbw (fun _ => False) K kd) (fun e => e) (fun e => e), ht⟩, kp_below hbw _ _ _⟩
def sdL (L : Lk) (xs : List Nat) : Lk := if xs.length ≤ 2048 then sendN L (str xs) else L
def sdE (xs : List Nat) : Int := if xs.length ≤ 2048 then 0 else 140
theorem sdL_rn (r : Rn L i) (xs : List Nat) : Rn (sdL L xs) (i + 1) ∧ (sdL L xs).window = L.window := by
  unfold sdL; split
  · exact ⟨r.send _, sendN_win _ _⟩
  · exact ⟨r.up, rfl⟩
theorem psend_x (h : Lx w K kd b L rv) (hn : Rn L i) (hi : i ≤ 1000000) (a : Option Addr) (n c : Nat) (xs : List Nat) (hb : xs.length = n) (hx : Bytes w a xs) (hk : ∀ q, a = some q → K q.block ≠ kd) :
    Calls Tryz.prog 20 #[.pointer (some ⟨b, 0, none⟩), .slice a n c] w fun e w' => e = .returned (.int .i64 (sdE xs)) ∧ (∃ rv', Lx w' (ext K w.heap.size kd) kd b (sdL L xs) rv') ∧ Kp (fun q => q = kd) K (ext K w.heap.size kd) w w' := by
  have h1 := hn.row
  have h2 := hn.num
  unfold sdE sdL
  by_cases hs : n ≤ 2048
  · rw [if_pos (by omega), if_pos (by omega)]
    refine (send_any w b L rv h.lw (by omega) a n c xs hx hb hs (by omega) (fun q hq e => hk q hq (by rw [e]; exact h.kb))).mono ?_
    rintro e w' ⟨he, rv', hlw, htw, hr⟩
    have ht := h.turn (K' := ext K w.heap.size kd) hlw htw (fun x hx => ext_old _ _ hx) (fun g2 hg2 => by
      rcases hr with q | ⟨g3, q, q2⟩
      · exact Or.inl (by rw [← q]; exact hg2)
      · rw [q] at hg2; cases hg2; exact Or.inr (ext_new _ _ q2))
    exact ⟨he, ⟨rv', ht.1⟩, ht.2⟩
  · rw [if_neg (by omega), if_neg (by omega)]
    refine (send_long w b L rv h.lw a n c (Or.inl (by omega))).mono ?_
    rintro e w' ⟨he, rfl⟩
    exact ⟨he, ⟨rv, h.kp (kp_below (Below.refl _ _) (fun _ => False) K kd) (fun e => e)⟩, kp_below (Below.refl _ _) _ _ _⟩
theorem dsend_x {kb : Nat × Nat} {m t : Nat} (hkk : kd ≠ kb) (h : Dk w K kd kb b L rv m t) (hn : Rn L i) (hi : i ≤ 1000000) (a : Option Addr) (n c : Nat) (xs : List Nat) (hb : xs.length = n) (hx : Bytes w a xs) (hk : ∀ q, a = some q → xs ≠ [] → K q.block ≠ kd) (ht : t ≤ i) :
    Calls Tryz.prog 23 #[.pointer (some ⟨b, 0, none⟩), .slice a n c] w fun e w' => e = .returned (.int .i64 (sdE xs)) ∧ ∃ K', (∃ rv' t', Dk w' K' kd kb b (sdL L xs) rv' m t' ∧ t' ≤ i) ∧ Kp (fun q => q = kd) K K' w w' := by
  have h2 := hn.num
  unfold sdE sdL
  by_cases hs : n ≤ 2048
  · rw [if_pos (by omega), if_pos (by omega)]
    refine (dsend_any w K kd kb hkk b L rv m t h a n c xs hx hk hb hs (by omega)).mono ?_
    rintro e w' ⟨he, rv', K', hd, hkp⟩
    exact ⟨he, K', ⟨rv', _, hd, by unfold sendT; split <;> omega⟩, hkp⟩
  · rw [if_neg (by omega), if_neg (by omega)]
    refine (dsend_long w K kd kb b L rv m t h (by omega) a n c (Or.inl (by omega))).mono ?_
    rintro e w' ⟨he, q, rfl⟩
    exact ⟨he, K, ⟨rv, t, h.kp (drew_kq w K q) (fun e => e) (fun e => e), ht⟩, (drew_kq w K q).mono (fun _ e => e.elim)⟩
theorem powe_x (h : Lx w K kd b L rv) :
    Calls Tryz.prog 24 #[.pointer (some ⟨b, 0, none⟩)] w fun e w' => e = .returned (.tuple #[]) ∧ (∃ rv', Lx w' K kd b { L with asked := true } rv') ∧ Kp (fun q => q = kd) K K w w' := by
  refine (owe_any w b L rv h.lw.lb).mono ?_
  rintro e w' ⟨he, hl, ho⟩
  have ht := h.turn (K' := K) (L' := { L with asked := true }) (rv' := rv) (h.lw.but ho.but hl rfl) (Tw.of ho.but) (fun _ _ => rfl) (fun g hg => Or.inl hg)
  exact ⟨he, ⟨rv, ht.1⟩, ht.2⟩
theorem dowe_x {kb : Nat × Nat} {m t : Nat} (hkk : kd ≠ kb) (h : Dk w K kd kb b L rv m t) :
    Calls Tryz.prog 25 #[.pointer (some ⟨b, 0, none⟩)] w fun e w' => e = .returned (.tuple #[]) ∧ (∃ rv', Dk w' K kd kb b { L with asked := true } rv' m t) ∧ Kp (fun q => q = kd) K K w w' := by
  refine (dowe_any w b L rv m t h.db).mono ?_
  rintro e w' ⟨he, hl, ho⟩
  have mk : Kp (fun q => q = kd) K K w w' := ⟨ho.os, ho.tape, ho.output, Nat.le_of_eq ho.size.symm, fun _ _ => rfl, fun x hx hn => ho.block x (fun e => hn (by rw [e]; exact h.kind))⟩
  obtain ⟨vs, r1, r2⟩ := h.row
  refine ⟨he, ⟨rv, ⟨hl, h.kind, ⟨vs, r1.same (fun g hg => ho.block g (fun e => h.d0.ne (by rw [hg, e]))), fun j x hx => ?_⟩, h.kr, ⟨h.con.p4, h.con.p5⟩, ⟨h.pc.lim, h.pc.m1, h.pc.m2, h.pc.left, h.pc.gap⟩⟩⟩, mk⟩
  obtain ⟨sp, c, q1, q2⟩ := r2 j x hx
  exact ⟨sp, c, q1, q2.kp mk (fun e => hkk e.symm)⟩
end
end Go.Proofs.YtjcdnclfakmbpaaGreatDoor
namespace Go.Proofs.YtjcdnclfakmbpaaGreatDoor
open Go.RowKit
def PH (s : Nat) (q : Nat × Nat) : Prop := q.1 = 8 ∨ q = (9, 2) ∨ q = (1, s) ∨ q = (3, s) ∨ q = (6, 0)
structure Bq (w : World) (K : Knd) (b : Nat) (cs : Array Value) (t : TypeId) : Prop where
  blk : w.heap[b]? = some (.cells cs t (0, 0))
  kind : K b = (9, 9)
theorem Bq.kp {w w2 : World} {K K' : Knd} {b : Nat} {cs : Array Value} {t : TypeId} {p : Nat × Nat → Prop} (h : Bq w K b cs t) (m : Kp p K K' w w2) (hp : ¬ p (9, 9)) : Bq w2 K' b cs t :=
  ⟨(m.block b (C.lt_of_block h.blk) (by rw [h.kind]; exact hp)).trans h.blk, (m.same b (C.lt_of_block h.blk)).trans h.kind⟩
theorem Bq.lt {w : World} {K : Knd} {b : Nat} {cs : Array Value} {t : TypeId} (h : Bq w K b cs t) : b < w.heap.size := C.lt_of_block h.blk
theorem Bq.other {w : World} {K : Knd} {b d i : Nat} {cs : Array Value} {t : TypeId} {v : Value} (h : Bq w K b cs t) (hd : b ≠ d) : Bq (w.setCell ⟨d, i, none⟩ v) K b cs t := ⟨(Below.heap_setCell _ _ _ _ hd).trans h.blk, h.kind⟩
theorem kp99 {w : World} {K : Knd} {b i : Nat} {v : Value} (hk : K b = (9, 9)) : Kp (fun q => q = (9, 9)) K K w (w.setCell ⟨b, i, none⟩ v) := (Kp.refl (fun q => q = (9, 9)) K w).setCell (b := b) (Or.inr hk) _ _
structure Sx (w : World) (K : Knd) (sp : Option Addr) (bo : List Nat) : Prop where
  by_ : Bytes w sp bo
  kind : ∀ q, sp = some q → bo ≠ [] → q.block < w.heap.size ∧ (K q.block = (0, 0) ∨ K q.block = (2, 2))
theorem Sx.kp {w w2 : World} {K K' : Knd} {sp : Option Addr} {bo : List Nat} {p : Nat × Nat → Prop} (h : Sx w K sp bo) (m : Kp p K K' w w2) (h0 : ¬ p (0, 0)) (h2 : ¬ p (2, 2)) : Sx w2 K' sp bo := by
  refine ⟨U.bytes_or h.by_ m.size ?_, fun q e hn => ⟨Nat.lt_of_lt_of_le (h.kind q e hn).1 m.size, ?_⟩⟩
  · by_cases hb : bo = []
    · exact Or.inl hb
    · refine Or.inr (fun g o e hg => m.block g hg (fun e2 => ?_))
      rcases (h.kind _ e hb).2 with q | q
      · have q' : K g = (0, 0) := q
        rw [q'] at e2; exact h0 e2
      · have q' : K g = (2, 2) := q
        rw [q'] at e2; exact h2 e2
  · rw [m.same _ (h.kind q e hn).1]; exact (h.kind q e hn).2
structure Ax (w : World) (K : Knd) (j : Nat) (a : Option Addr) (m c : Nat) (xs : List Nat) : Prop where
  row : Q.ownsQ true w 0 5 1 (.slice a m c) m (vals xs)
  kind : ∀ g, (Value.slice a m c).ownBlock = some g → K g = (7, j)
  len : xs.length = m
  small : ∀ x ∈ xs, x < 256
theorem Ax.kp {w w2 : World} {K K' : Knd} {j : Nat} {a : Option Addr} {m c : Nat} {xs : List Nat} {p : Nat × Nat → Prop} (h : Ax w K j a m c xs) (mk : Kp p K K' w w2) (hp : ¬ p (7, j)) : Ax w2 K' j a m c xs :=
  ⟨Q.owns_kept' h.row (fun g e => mk.block g (Q.owns_lt h.row g e) (by rw [h.kind g e]; exact hp)), fun g e => (mk.same g (Q.owns_lt h.row g e)).trans (h.kind g e), h.len, h.small⟩
theorem Ax.bytes {w : World} {K : Knd} {j : Nat} {a : Option Addr} {m c : Nat} {xs : List Nat} (h : Ax w K j a m c xs) : Bytes w a xs := Q.owns_bytes h.row rfl h.small
structure Dx (w : World) (K : Knd) (a : Option Addr) (xs : List Nat) (kd : Nat × Nat) : Prop where
  small : ∀ x ∈ xs, x < 256
  lie : xs = [] ∨ ∃ g o, a = some ⟨g, o, none⟩ ∧ K g = kd ∧ g < w.heap.size ∧ ∀ j, j < xs.length → w.cell? ⟨g, o + j, none⟩ = some (.int .u8 (xs.getD j 0))
theorem Dx.kp {w w2 : World} {K K' : Knd} {a : Option Addr} {xs : List Nat} {kd : Nat × Nat} {p : Nat × Nat → Prop} (h : Dx w K a xs kd) (m : Kp p K K' w w2) (hp : ¬ p kd) : Dx w2 K' a xs kd := by
  refine ⟨h.small, h.lie.imp id ?_⟩
  rintro ⟨g, o, e, hk, hg, hc⟩
  refine ⟨g, o, e, (m.same g hg).trans hk, Nat.lt_of_lt_of_le hg m.size, fun j hj => ?_⟩
  rw [← hc j hj]
  exact World.cell?_of_block (a := ⟨g, o + j, none⟩) (m.block g hg (by rw [hk]; exact hp))
theorem Dx.bytes {w : World} {K : Knd} {a : Option Addr} {xs : List Nat} {kd : Nat × Nat} (h : Dx w K a xs kd) : Bytes w a xs := ⟨h.small, h.lie.imp id (fun ⟨g, o, e, _, hg, hc⟩ => ⟨g, o, e, hg, hc⟩)⟩
theorem Dx.bytesS {w : World} {K : Knd} {a : Option Addr} {xs : List Nat} {kd : Nat × Nat} (h : Dx w K a xs kd) (hk : kd ≠ (6, 0)) : Q.BytesS (fun k => K k ≠ (6, 0)) w a xs := ⟨h.small, h.lie.imp id (fun ⟨g, o, e, h1, hg, hc⟩ => ⟨g, o, e, by rw [h1]; exact hk, hg, hc⟩)⟩
theorem dx_new {w w' : World} {K : Knd} {a : Option Addr} {xs : List Nat} {kd : Nat × Nat} (h : Bytes w' a xs) (hl : ∀ p, a = some p → w.heap.size ≤ p.block) : Dx w' (ext K w.heap.size kd) a xs kd := ⟨h.small, h.lie.imp id (fun ⟨g, o, e, hg, hc⟩ => ⟨g, o, e, ext_new _ _ (hl _ e), hg, hc⟩)⟩
end Go.Proofs.YtjcdnclfakmbpaaGreatDoor
namespace Go.Proofs.YtjcdnclfakmbpaaGreatDoor
open Go.RowKit
set_option maxRecDepth 100000 in
set_option maxHeartbeats 8000000 in
set_option linter.unusedSimpArgs false in
theorem hearW0 (w0 w : World) (K : Knd) (wb : Nat) (Y : Pw.Wc) (A B : Lk) (es : List Fe) (xn bn st : Nat) (h : Wm w0 w K wb Y A A B B es xn bn st) (hr : Rn A st) (hst : st ≤ 100000) (hxn : xn ≤ 10000) (ht : Y.turn ≤ 100000) (f0 f1 : Int) (mine yours seq ack nb c : Nat) (sp : Option Addr) (bo : List Nat) (hnb : bo.length = nb) (hlen : nb ≤ 140737488351232) (hx : Sx w K sp bo) :
    Calls Tryz.prog 26 #[.pointer (some ⟨wb, 0, none⟩), .int .i64 0, .agg #[.int .i64 f0, .int .i64 f1, .int .u64 (mine : Int), .int .u64 (yours : Int), .int .u64 (seq : Int), .int .u64 (ack : Int), .slice sp nb c]] w fun e w' => e = .returned (.bool true) ∧ ∃ K' A2 xs t1 t2 t3, HrR A ⟨f0, f1, mine, yours, seq, ack, bo⟩ A2 xs t1 t2 t3 ∧ Wm w0 w' K' wb { Y with turn := Y.turn + 1 } A2 A2 B B es (xn + 1) bn st ∧ Kp (PH 0) K K' w w' := by
  obtain ⟨w1, hw1⟩ : ∃ w1, (w.alloc (.cells #[.int .i64 f0, .int .i64 f1, .int .u64 (mine : Int), .int .u64 (yours : Int), .int .u64 (seq : Int), .int .u64 (ack : Int), .slice sp nb c] 33)).alloc (.cells #[.int .i64 f0, .int .i64 f1, .int .u64 (mine : Int), .int .u64 (yours : Int), .int .u64 (seq : Int), .int .u64 (ack : Int), .slice sp nb c] 33) = w1 := ⟨_, rfl⟩
  obtain ⟨fb, hfb⟩ : ∃ fb, w.heap.size = fb := ⟨_, rfl⟩
  have hb1 : Below w.heap.size w w1 := by rw [← hw1]; exact ((Below.refl _ _).alloc (Nat.le_refl _) _).alloc (by simp) _
  have hk2 : w1.heap[fb + 1]? = some (.cells #[.int .i64 f0, .int .i64 f1, .int .u64 (mine : Int), .int .u64 (yours : Int), .int .u64 (seq : Int), .int .u64 (ack : Int), .slice sp nb c] 33 (0, 0)) := by rw [← hw1, ← hfb]; exact heap_alloc2_new w _ _
  have hk1 : w1.heap[fb]? = some (.cells #[.int .i64 f0, .int .i64 f1, .int .u64 (mine : Int), .int .u64 (yours : Int), .int .u64 (seq : Int), .int .u64 (ack : Int), .slice sp nb c] 33 (0, 0)) := by
    rw [← hw1, ← hfb, Below.heap_alloc _ _ _ (by simp)]; exact heap_alloc_new _ _
  have mb1 : Kp (fun _ => False) K (ext K w.heap.size (9, 9)) w w1 := kp_below hb1 _ _ _
  obtain ⟨K1, hK1⟩ : ∃ K1, ext K w.heap.size (9, 9) = K1 := ⟨_, rfl⟩
  have hBf : Bq w1 K1 fb #[.int .i64 f0, .int .i64 f1, .int .u64 (mine : Int), .int .u64 (yours : Int), .int .u64 (seq : Int), .int .u64 (ack : Int), .slice sp nb c] 33 := ⟨hk1, by rw [← hK1]; exact ext_new _ _ (by omega)⟩
  have hBg : Bq w1 K1 (fb + 1) #[.int .i64 f0, .int .i64 f1, .int .u64 (mine : Int), .int .u64 (yours : Int), .int .u64 (seq : Int), .int .u64 (ack : Int), .slice sp nb c] 33 := ⟨hk2, by rw [← hK1]; exact ext_new _ _ (by omega)⟩
  rw [hK1] at mb1
  have hW1 := h.k9 mb1 (fun _ e => e.elim)
  have hS1 := hx.kp mb1 (fun e => e) (fun e => e)
  have HKp1 := hide (mb1.mono (q := PH 0) (fun _ e => e.elim))
  have HSz1 := hide hb1.size
  have HC := hide (given_any w0 w1 K1 wb Y _ _ _ _ es xn bn st hW1 ht sp nb c bo hS1.by_ hnb hlen (fun q e hn => ⟨(hS1.kind q e hn).1, by rcases (hS1.kind q e hn).2 with r | r <;> rw [r] <;> simp⟩))
  have HBf := hide hBf
  have HBg := hide hBg
  have HS1 := hide hS1
  have HR := hide hr
  have HNb := hide hnb
  have HW := hide hw1
  have hFb := hide hfb
  obtain ⟨f0c, f1c, f2c, f3c, f4c, f5c, f6c, ffz⟩ := blk7 hk1
  obtain ⟨g0c, g1c, g2c, g3c, g4c, g5c, g6c, gfz⟩ := blk7 hk2
  have hgl := C.lt_of_block hk2
  clear hw1 hb1 hk1 hk2 mb1 hK1 hBf hBg hW1 hS1 h hr hx hnb
  go_enter Tryz.func26, Tryz.ntmps26
  go_upto_region 2 with (fail)
  rw [HW.out]
  go_wp2_with fail
  refine HC.out.mono ?_
  rintro e w2 ⟨K2, a5, c5, rfl, hW2, hG2, hkp2⟩
  obtain ⟨Y1, hY1⟩ : ∃ Y1 : Pw.Wc, { Y with turn := Y.turn + 1 } = Y1 := ⟨_, rfl⟩
  have ht1 : Y1.turn ≤ 200000 := by rw [← hY1]; show Y.turn + 1 ≤ 200000; omega
  rw [hY1] at hW2 hG2
  have HYe := hide hY1
  have HBf2 := hide (HBf.out.kp hkp2 (by simp [U.P8]))
  have HKp2 := hide (HKp1.out.trans (hkp2.mono (q := PH 0) (fun q e => Or.inl e)))
  have hBg2 := HBg.out.kp hkp2 (by simp [U.P8])
  have hS2 := HS1.out.kp hkp2 (by simp [U.P8]) (by simp [U.P8])
  clear f0c f1c f2c f3c f4c f5c f6c ffz g0c g1c g2c g3c g4c g5c g6c gfz hgl HC HW HBf HBg HS1 hkp2 hY1
  obtain ⟨-, -, -, -, -, -, g6c, gfz⟩ := blk7 hBg2.blk
  have hgl := hBg2.lt
  obtain ⟨w3, hw3⟩ : ∃ w3, w2.setCell ⟨fb + 1, 6, none⟩ (.slice a5 nb c5) = w3 := ⟨_, rfl⟩
  have m3 : Kp (fun q => q = (9, 9)) K2 K2 w2 w3 := by rw [← hw3]; exact kp99 hBg2.kind
  have HW3 := hide (hW2.k9 m3 (fun q e => by subst e; rfl))
  have HG3 := hide (hG2.kp m3 (by simp) (by simp))
  have HS3 := hide (hS2.kp m3 (by simp) (by simp))
  have HBf3 : Hid (Bq w3 K2 fb #[.int .i64 f0, .int .i64 f1, .int .u64 (mine : Int), .int .u64 (yours : Int), .int .u64 (seq : Int), .int .u64 (ack : Int), .slice sp nb c] 33) := by show Bq _ _ _ _ _; rw [← hw3]; exact HBf2.out.other (by omega)
  have HBg3 : Hid (Bq w3 K2 (fb + 1) #[.int .i64 f0, .int .i64 f1, .int .u64 (mine : Int), .int .u64 (yours : Int), .int .u64 (seq : Int), .int .u64 (ack : Int), .slice a5 nb c5] 33) := ⟨by rw [← hw3]; exact C.block_set hBg2.blk _, hBg2.kind⟩
  have HKp3 : Hid (Kp (PH 0) K K2 w w3) := by show Kp _ _ _ _ _; rw [← hw3]; exact HKp2.out.setCell (b := fb + 1) (Or.inl (by have := hFb.out; omega)) _ _
  have HWw := hide hw3
  clear hw3 m3 hW2 hG2 hS2 hBg2 HBf2
  go_upto_region 3 with (fail)
  rw [HWw.out]
  clear g6c gfz hgl HWw
  obtain ⟨O, I, hwb, -⟩ := HW3.out.blk
  obtain ⟨-, -, -, -, -, -, wc6, wc7, wc8, wc9, -, -, wc12, -, -⟩ := cellW hwb
  obtain ⟨ll, hll⟩ : ∃ ll, Y1.l0 = ll := ⟨_, rfl⟩
  obtain ⟨kk, hkk⟩ : ∃ kk, Y1.k0 = kk := ⟨_, rfl⟩
  rw [hll] at wc6
  have HLl := hide hll
  have HKk := hide hkk
  have hwl := C.lt_of_block hwb
  obtain ⟨g0, g1, g2, g3, g4, g5, g6, -⟩ := blk7 HBg3.out.blk
  have hgl := HBg3.out.lt
  obtain ⟨Kz, hKz⟩ : ∃ Kz, ext K2 w3.heap.size (9, 9) = Kz := ⟨_, rfl⟩
  have HZn : Hid (Kz w3.heap.size = (9, 9)) := by show _ = _; rw [← hKz]; exact ext_new _ _ (Nat.le_refl _)
  have ma : Kp (fun _ => False) K2 Kz w3 w3.drew := by rw [← hKz]; exact kp_below ((Below.refl _ _).drew) _ _ _
  have mb : ∀ bl, Kp (fun _ => False) K2 Kz w3 (w3.alloc bl).drew := fun bl => by rw [← hKz]; exact kp_below (((Below.refl _ _).alloc (Nat.le_refl _) bl).drew) _ _ _
  have HMa := hide ma
  have HMb := hide mb
  have HNa := hide (ma.mono (q := PH 0) (fun _ e => e.elim))
  have HNb2 : Hid (∀ bl, Kp (PH 0) K2 Kz w3 (w3.alloc bl).drew) := fun bl => (mb bl).mono (fun _ e => e.elim)
  have HZw : Hid (w.heap.size ≤ w3.heap.size) := HKp3.out.size
  have HH : Hid (∀ w' : World, Kp (fun _ => False) K2 Kz w3 w' → Calls Tryz.prog 58 #[.pointer (some ⟨ll, 0, none⟩), .agg #[.int .i64 f0, .int .i64 f1, .int .u64 (mine : Int), .int .u64 (yours : Int), .int .u64 (seq : Int), .int .u64 (ack : Int), .slice a5 nb c5]] w' fun e w'' => ∃ (a : Option Addr) (m cc : Nat) (A2 : Lk) (xs : List Nat) (t1 t2 t3 : Bool), e = .returned (.agg #[.slice a m cc, .bool t1, .bool t2, .bool t3]) ∧ Hid (HrR A ⟨f0, f1, mine, yours, seq, ack, bo⟩ A2 xs t1 t2 t3) ∧ Hid (Ax w'' (ext Kz w'.heap.size (7, xn)) xn a m cc xs) ∧ Hid (Wm w0 w'' (ext Kz w'.heap.size (7, xn)) wb Y1 A2 A B B es xn bn st) ∧ Kp (fun q => q = (1, 0)) Kz (ext Kz w'.heap.size (7, xn)) w' w'') := fun w' mw => by
    have hw' := HW3.out.k9 mw (fun _ e => e.elim)
    have hg' := HG3.out.kp mw (fun e => e) (fun _ e => e)
    obtain ⟨rv, hlx⟩ := hw'.la
    rw [HLl.out] at hlx
    have hby := hg'.by
    refine (phear_x hlx HR.out (by omega) ⟨f0, f1, mine, yours, seq, ack, bo⟩ a5 nb c5 HNb.out hby.1 (fun q e => by rcases hby.2 q e with r | r <;> rw [r] <;> simp) (7, xn)).mono ?_
    rintro e w'' ⟨a, m, cc, A2, xs, t1, t2, t3, rfl, hh, hlm, hrow, hla, hkp⟩
    refine ⟨a, m, cc, A2, xs, t1, t2, t3, rfl, hh, ⟨Q.ownsQ_of (owns_bs2 hrow (Nat.zero_le _)), fun g e => ?_, hlm, (hh.small hby.1.small).1⟩, hw'.tla hkp (by simp) (fun j => by simp) (by simp) (by simp) (by simp) (by simp) (by simp) (by simp) (by simp) (by simp) (fun j => by simp) (fun j => by simp) (by rw [HLl.out]; exact hla), hkp⟩
    rcases hrow.2 with ⟨e1, _⟩ | ⟨g', cap, cur, e1, e2, _⟩
    · rw [e1] at e; cases e
    · rw [e1] at e; cases e; exact ext_new _ _ e2
  have n1 : w3.heap.size ≠ wb := by omega
  have n2 : w3.heap.size ≠ fb + 1 := by omega
  clear hKz ma mb hwb hll hkk
  go_cut [8] from 17 to 24 (fun s8 wc => ∃ (hx : Nat) (a : Option Addr) (m cc : Nat) (A2 : Lk) (xs : List Nat) (t1 t2 t3 : Bool) (K5 : Knd), s8 = .pointer (some ⟨hx, 0, none⟩) ∧ Hid (Bq wc K5 hx #[.slice a m cc, .bool t1, .bool t2, .bool t3] 127) ∧ Hid (HrR A ⟨f0, f1, mine, yours, seq, ack, bo⟩ A2 xs t1 t2 t3) ∧ Hid (Ax wc K5 xn a m cc xs) ∧ Hid (Wm w0 wc K5 wb Y1 A2 A B B es xn bn st) ∧ Hid (Gd Y1 wc K5 wb a5 nb c5 bo) ∧ Hid (Sx wc K5 sp bo) ∧ Hid (Bq wc K5 fb #[.int .i64 f0, .int .i64 f1, .int .u64 (mine : Int), .int .u64 (yours : Int), .int .u64 (seq : Int), .int .u64 (ack : Int), .slice sp nb c] 33) ∧ Hid (Bq wc K5 (fb + 1) #[.int .i64 f0, .int .i64 f1, .int .u64 (mine : Int), .int .u64 (yours : Int), .int .u64 (seq : Int), .int .u64 (ack : Int), .slice a5 nb c5] 33) ∧ Hid (Kp (PH 0) K K5 w wc))
  case first =>
    go_region_held3 (fun w' => w'.cell? ⟨wb, 6, none⟩ = some (.pointer (some ⟨ll, 0, none⟩)) ∧ w'.cell? ⟨fb + 1, 0, none⟩ = some (.int .i64 f0) ∧ w'.cell? ⟨fb + 1, 1, none⟩ = some (.int .i64 f1) ∧ w'.cell? ⟨fb + 1, 2, none⟩ = some (.int .u64 (mine : Int)) ∧ w'.cell? ⟨fb + 1, 3, none⟩ = some (.int .u64 (yours : Int)) ∧ w'.cell? ⟨fb + 1, 4, none⟩ = some (.int .u64 (seq : Int)) ∧ w'.cell? ⟨fb + 1, 5, none⟩ = some (.int .u64 (ack : Int)) ∧ w'.cell? ⟨fb + 1, 6, none⟩ = some (.slice a5 nb c5)) (go_keep) (first | (go_at_call 58; refine (HH.out _ (by first | with_reducible exact HMa.out | exact HMb.out _)).mono ?_; rintro e w5 ⟨a, m, cc, A2, xs, t1, t2, t3, rfl, HHr, HAx, HW5, hkp5⟩; have mk5 := hkp5; have hG5 := ((HBg3.out.kp (by first | with_reducible exact HMa.out | exact HMb.out _) (fun e => e)).kp hkp5 (by simp)); have hF5 := ((HBf3.out.kp (by first | with_reducible exact HMa.out | exact HMb.out _) (fun e => e)).kp hkp5 (by simp)); have hGd5 := ((HG3.out.kp (by first | with_reducible exact HMa.out | exact HMb.out _) (fun e => e) (fun _ e => e)).kp hkp5 (by simp) (by simp)); have hS5 := ((HS3.out.kp (by first | with_reducible exact HMa.out | exact HMb.out _) (fun e => e) (fun e => e)).kp hkp5 (by simp) (by simp)); obtain ⟨g0n, g1n, g2n, g3n, g4n, g5n, g6n, -⟩ := blk7 hG5.blk; obtain ⟨O5, I5, hwb5, -⟩ := HW5.out.blk; obtain ⟨-, -, -, -, -, -, wn6, wn7, -⟩ := cellW hwb5; rw [HLl.out] at wn6; (first | (have hz5 := (hkp5.block w3.heap.size (by simp) (by rw [HZn.out]; simp)).trans (heap_alloc_new _ _); have hkz5 := ((hkp5.same w3.heap.size (by simp)).trans HZn.out); obtain ⟨zz0, zz1, zz2, zz3, zzf⟩ := blk4 hz5; have HZ5 := hide hz5; have HKz5 := hide hkz5; clear hz5 hkz5) | skip); have HKp5 := hide ((HKp3.out.trans (by first | with_reducible exact HNa.out | exact HNb2.out _)).trans (hkp5.mono (q := PH 0) (fun q e => Or.inr (Or.inr (Or.inl e))))); have HG5 := hide hG5; have HF5 := hide hF5; have HGd5 := hide hGd5; have HS5 := hide hS5; have hs5 : w3.heap.size ≤ w5.heap.size := (by have := hkp5.size; simp at this; omega); clear hkp5 mk5 hG5 hF5 hGd5 hS5 hwb5))
    all_goals go_wp2_with fail
    all_goals go_meet
    · have hb6 : Below w5.heap.size w5 (w5.alloc (.cells #[.slice a m cc, .bool t1, .bool t2, .bool t3] 127)) := (Below.refl _ _).alloc (Nat.le_refl _) _
      have m6 : ∀ KK : Knd, Kp (fun _ => False) KK (ext KK w5.heap.size (9, 9)) w5 (w5.alloc (.cells #[.slice a m cc, .bool t1, .bool t2, .bool t3] 127)) := fun KK => kp_below hb6 _ KK (9, 9)
      exact ⟨w5.heap.size, a, m, cc, A2, xs, t1, t2, t3, _, rfl, ⟨heap_alloc_new _ _, ext_new _ _ (Nat.le_refl _)⟩, HHr, HAx.out.kp (m6 _) (fun e => e), HW5.out.k9 (m6 _) (fun _ e => e.elim), HGd5.out.kp (m6 _) (fun e => e) (fun _ e => e), HS5.out.kp (m6 _) (fun e => e) (fun e => e), HF5.out.kp (m6 _) (fun e => e), HG5.out.kp (m6 _) (fun e => e), HKp5.out.trans ((m6 _).mono (fun _ e => e.elim))⟩
    · have hm6 := ((((Kp.refl (fun q => q = (9, 9)) _ w5).setCell (b := w3.heap.size) (Or.inr HKz5.out) 0 (.slice a m cc)).setCell (b := w3.heap.size) (Or.inr HKz5.out) 1 (.bool t1)).setCell (b := w3.heap.size) (Or.inr HKz5.out) 2 (.bool t2)).setCell (b := w3.heap.size) (Or.inr HKz5.out) 3 (.bool t3)
      have hfn : fb ≠ w3.heap.size := by have := HBf3.out.lt; omega
      exact ⟨w3.heap.size, a, m, cc, A2, xs, t1, t2, t3, _, rfl, ⟨put4z HZ5.out _ _ _ _, HKz5.out⟩, HHr, HAx.out.kp hm6 (by simp), HW5.out.k9 hm6 (fun q e => by subst e; rfl), HGd5.out.kp hm6 (by simp) (by simp), HS5.out.kp hm6 (by simp) (by simp), (((HF5.out.other hfn).other hfn).other hfn).other hfn, (((HG5.out.other n2.symm).other n2.symm).other n2.symm).other n2.symm, (((HKp5.out.setCell (b := w3.heap.size) (Or.inl HZw.out) _ _).setCell (b := w3.heap.size) (Or.inl HZw.out) _ _).setCell (b := w3.heap.size) (Or.inl HZw.out) _ _).setCell (b := w3.heap.size) (Or.inl HZw.out) _ _⟩
  case rest =>
    obtain ⟨hx, a, m, cc, A2, xs, t1, t2, t3, K5, rfl, HBh, HHr, HAx, HW5, HGd, HSx, HF5, HG5, HKp5⟩ := hcut
    have HLen : Hid (m ≤ 140737488351232) := by
      have q1 := (HHr.out.small HSx.out.by_.small).2
      have q2 := HAx.out.len
      have q3 : bo.length = nb := HNb.out
      have q4 : xs.length ≤ bo.length := q1
      show _ ≤ _
      omega
    clear HH HMa HMb HNa HNb2 HZw HKp1 HKp2 HKp3 HZn HBf3 HBg3 HG3 HS3 HW3 g0 g1 g2 g3 g4 g5 g6 hgl wc6 wc7 wc8 wc9 wc12 n1 n2 hwl
    obtain ⟨w5, hw5⟩ : ∃ w5, wc = w5 := ⟨_, rfl⟩
    rw [hw5] at HBh HAx HW5 HGd HSx HF5 HG5 HKp5 ⊢
    clear hw5
    obtain ⟨-, -, -, -, -, -, f6c, -⟩ := blk7 HF5.out.blk
    obtain ⟨-, -, -, -, -, -, g6c, -⟩ := blk7 HG5.out.blk
    have HKe := hide (kept_any w0 w5 K5 wb Y1 _ _ _ _ es xn bn st HW5.out ht1 a5 sp nb c5 c bo HGd.out HSx.out.by_ HNb.out hlen)
    go_wp2_with fail
    refine HKe.out.mono ?_
    rintro e w6 ⟨rfl, hW6, hkp6⟩
    have HW6 := hide hW6
    have HKp6 := hide (HKp5.out.trans (hkp6.mono (q := PH 0) (fun q e => e.elim Or.inl (fun e => Or.inr (Or.inl e)))))
    have HZw : Hid (w.heap.size ≤ w6.heap.size) := HKp6.out.size
    have HBh6 := hide (HBh.out.kp hkp6 (by simp [P89]))
    have HAx6 := hide (HAx.out.kp hkp6 (by simp [P89]))
    have HSx6 := hide (HSx.out.kp hkp6 (by simp [P89]) (by simp [P89]))
    have HF6 := hide (HF5.out.kp hkp6 (by simp [P89]))
    clear hW6 hkp6 HKe HBh HAx HW5 HGd HSx HF5 HG5 f6c g6c
    obtain ⟨O, I, hwb, -⟩ := HW6.out.blk
    obtain ⟨-, -, -, -, -, -, wc6, wc7, wc8, wc9, -, -, wc12, -, -⟩ := cellW hwb
    rw [HKk.out] at wc8
    have hwl := C.lt_of_block hwb
    obtain ⟨g0, g1, g2, g3, g4, g5, g6, -⟩ := blk7 HF6.out.blk
    have hgl := HF6.out.lt
    obtain ⟨Kz, hKz⟩ : ∃ Kz, ext K5 w6.heap.size (9, 9) = Kz := ⟨_, rfl⟩
    have HZn : Hid (Kz w6.heap.size = (9, 9)) := by show _ = _; rw [← hKz]; exact ext_new _ _ (Nat.le_refl _)
    have ma : Kp (fun _ => False) K5 Kz w6 w6.drew := by rw [← hKz]; exact kp_below ((Below.refl _ _).drew) _ _ _
    have mb : ∀ bl, Kp (fun _ => False) K5 Kz w6 (w6.alloc bl).drew := fun bl => by rw [← hKz]; exact kp_below (((Below.refl _ _).alloc (Nat.le_refl _) bl).drew) _ _ _
    have HMa := hide ma
    have HMb := hide mb
    have HNa := hide (ma.mono (q := PH 0) (fun _ e => e.elim))
    have HNb2 : Hid (∀ bl, Kp (PH 0) K5 Kz w6 (w6.alloc bl).drew) := fun bl => (mb bl).mono (fun _ e => e.elim)
    have HH : Hid (∀ w' : World, Kp (fun _ => False) K5 Kz w6 w' → Calls Tryz.prog 59 #[.pointer (some ⟨kk, 0, none⟩), .agg #[.int .i64 f0, .int .i64 f1, .int .u64 (mine : Int), .int .u64 (yours : Int), .int .u64 (seq : Int), .int .u64 (ack : Int), .slice sp nb c]] w' fun e w'' => ∃ (a6 : Option Addr) (cc6 : Nat), e = .returned (.agg #[.slice a6 m cc6, .bool t1, .bool t2, .bool t3]) ∧ Hid (Dx w'' (ext Kz w'.heap.size (3, 0)) a6 xs (3, 0)) ∧ Hid (Wm w0 w'' (ext Kz w'.heap.size (3, 0)) wb Y1 A2 A2 B B es xn bn st) ∧ Kp (fun q => q = (3, 0)) Kz (ext Kz w'.heap.size (3, 0)) w' w'') := fun w' mw => by
      have hw' := HW6.out.k9 mw (fun _ e => e.elim)
      have hs' := HSx6.out.kp mw (fun e => e) (fun e => e)
      obtain ⟨rv, t, hdk, htl⟩ := hw'.ka
      rw [HKk.out] at hdk
      refine (dhear_x (by simp) hdk HR.out (by omega) ⟨f0, f1, mine, yours, seq, ack, bo⟩ sp nb c HNb.out hs'.by_ (fun q e hn => by rcases (hs'.kind q e hn).2 with r | r <;> rw [r] <;> simp) htl).mono ?_
      rintro e w'' ⟨a6, m6, cc6, A6, xs6, u1, u2, u3, rfl, hh, hlm, hby, hlo, hda, hkp⟩
      obtain ⟨rfl, rfl, rfl, rfl, rfl⟩ := HHr.out.uni hh
      have hm6 : m6 = m := by rw [← hlm]; exact HAx6.out.len
      subst hm6
      exact ⟨a6, cc6, rfl, dx_new hby hlo, hw'.tka hkp (by simp) (fun j => by simp) (by simp) (by simp) (by simp) (by simp) (by simp) (by simp) (by simp) (fun j => by simp) (fun j => by simp) (by rw [HKk.out]; exact hda), hkp⟩
    have n1 : w6.heap.size ≠ wb := by omega
    have n2 : w6.heap.size ≠ fb := by omega
    have n3 : hx ≠ w6.heap.size := by have := HBh6.out.lt; omega
    clear hKz ma mb hwb
    go_upto_region 5 with (fail)
    go_cut [10] from 31 to 38 (fun s10 wc => ∃ (xx : Nat) (a6 : Option Addr) (cc6 : Nat) (K7 : Knd), s10 = .pointer (some ⟨xx, 0, none⟩) ∧ Hid (Bq wc K7 xx #[.slice a6 m cc6, .bool t1, .bool t2, .bool t3] 129) ∧ Hid (Dx wc K7 a6 xs (3, 0)) ∧ Hid (Wm w0 wc K7 wb Y1 A2 A2 B B es xn bn st) ∧ Hid (Bq wc K7 hx #[.slice a m cc, .bool t1, .bool t2, .bool t3] 127) ∧ Hid (Ax wc K7 xn a m cc xs) ∧ Hid (Kp (PH 0) K K7 w wc))
    case first =>
      go_region_held3 (fun w' => w'.cell? ⟨wb, 8, none⟩ = some (.pointer (some ⟨kk, 0, none⟩)) ∧ w'.cell? ⟨fb, 0, none⟩ = some (.int .i64 f0) ∧ w'.cell? ⟨fb, 1, none⟩ = some (.int .i64 f1) ∧ w'.cell? ⟨fb, 2, none⟩ = some (.int .u64 (mine : Int)) ∧ w'.cell? ⟨fb, 3, none⟩ = some (.int .u64 (yours : Int)) ∧ w'.cell? ⟨fb, 4, none⟩ = some (.int .u64 (seq : Int)) ∧ w'.cell? ⟨fb, 5, none⟩ = some (.int .u64 (ack : Int)) ∧ w'.cell? ⟨fb, 6, none⟩ = some (.slice sp nb c)) (go_keep) (first | (go_at_call 59; refine (HH.out _ (by first | with_reducible exact HMa.out | exact HMb.out _)).mono ?_; rintro e w7 ⟨a6, cc6, rfl, HDx, HW7, hkp5⟩; have mk5 := hkp5; have hF5 := ((HF6.out.kp (by first | with_reducible exact HMa.out | exact HMb.out _) (fun e => e)).kp hkp5 (by simp)); have hB5 := ((HBh6.out.kp (by first | with_reducible exact HMa.out | exact HMb.out _) (fun e => e)).kp hkp5 (by simp)); have hA5 := ((HAx6.out.kp (by first | with_reducible exact HMa.out | exact HMb.out _) (fun e => e)).kp hkp5 (by simp)); obtain ⟨g0n, g1n, g2n, g3n, g4n, g5n, g6n, -⟩ := blk7 hF5.blk; obtain ⟨O5, I5, hwb5, -⟩ := HW7.out.blk; obtain ⟨-, -, -, -, -, -, -, -, wn8, wn9, -⟩ := cellW hwb5; rw [HKk.out] at wn8; (first | (have hz5 := (hkp5.block w6.heap.size (by simp) (by rw [HZn.out]; simp)).trans (heap_alloc_new _ _); have hkz5 := ((hkp5.same w6.heap.size (by simp)).trans HZn.out); obtain ⟨zz0, zz1, zz2, zz3, zzf⟩ := blk4 hz5; have HZ5 := hide hz5; have HKz5 := hide hkz5; clear hz5 hkz5) | skip); have HKp7 := hide ((HKp6.out.trans (by first | with_reducible exact HNa.out | exact HNb2.out _)).trans (hkp5.mono (q := PH 0) (fun q e => Or.inr (Or.inr (Or.inr (Or.inl e)))))); have HB5 := hide hB5; have HA5 := hide hA5; have hs5 : w6.heap.size ≤ w7.heap.size := (by have := hkp5.size; simp at this; omega); clear hkp5 mk5 hF5 hB5 hA5 hwb5))
      all_goals go_wp2_with fail
      all_goals go_meet
      · have hb6 : Below w7.heap.size w7 (w7.alloc (.cells #[.slice a6 m cc6, .bool t1, .bool t2, .bool t3] 129)) := (Below.refl _ _).alloc (Nat.le_refl _) _
        have m6 : ∀ KK : Knd, Kp (fun _ => False) KK (ext KK w7.heap.size (9, 9)) w7 (w7.alloc (.cells #[.slice a6 m cc6, .bool t1, .bool t2, .bool t3] 129)) := fun KK => kp_below hb6 _ KK (9, 9)
        exact ⟨w7.heap.size, a6, cc6, _, rfl, ⟨heap_alloc_new _ _, ext_new _ _ (Nat.le_refl _)⟩, HDx.out.kp (m6 _) (fun e => e), HW7.out.k9 (m6 _) (fun _ e => e.elim), HB5.out.kp (m6 _) (fun e => e), HA5.out.kp (m6 _) (fun e => e), HKp7.out.trans ((m6 _).mono (fun _ e => e.elim))⟩
      · have hm6 := ((((Kp.refl (fun q => q = (9, 9)) _ w7).setCell (b := w6.heap.size) (Or.inr HKz5.out) 0 (.slice a6 m cc6)).setCell (b := w6.heap.size) (Or.inr HKz5.out) 1 (.bool t1)).setCell (b := w6.heap.size) (Or.inr HKz5.out) 2 (.bool t2)).setCell (b := w6.heap.size) (Or.inr HKz5.out) 3 (.bool t3)
        exact ⟨w6.heap.size, a6, cc6, _, rfl, ⟨put4z HZ5.out _ _ _ _, HKz5.out⟩, HDx.out.kp hm6 (by simp), HW7.out.k9 hm6 (fun q e => by subst e; rfl), (((HB5.out.other n3).other n3).other n3).other n3, HA5.out.kp hm6 (by simp), (((HKp7.out.setCell (b := w6.heap.size) (Or.inl HZw.out) _ _).setCell (b := w6.heap.size) (Or.inl HZw.out) _ _).setCell (b := w6.heap.size) (Or.inl HZw.out) _ _).setCell (b := w6.heap.size) (Or.inl HZw.out) _ _⟩
    case rest =>
      obtain ⟨xx, a6, cc6, K7, rfl, HBx, HDx, HW7, HBh, HAx, HKp7⟩ := hcut
      clear HH HMa HMb HNa HNb2 HZn HZw HKp6 HKp5 HW6 HBh6 HAx6 HSx6 HF6 g0 g1 g2 g3 g4 g5 g6 hgl wc6 wc7 wc8 wc9 wc12 n1 n2 n3 hwl
      obtain ⟨w7, hw7⟩ : ∃ w7, wc = w7 := ⟨_, rfl⟩
      rw [hw7] at HBx HDx HW7 HBh HAx HKp7 ⊢
      clear hw7
      obtain ⟨G, V, xl, hlt, hxl⟩ := HW7.out.late
      obtain ⟨O, I, hwb, -⟩ := HW7.out.blk
      obtain ⟨-, -, -, -, -, -, -, -, -, -, -, -, wc12, -, -⟩ := cellW hwb
      obtain ⟨tt, htt⟩ : ∃ tt, Y1.lb = tt := ⟨_, rfl⟩
      rw [htt] at wc12 hlt
      have HTt := hide htt
      have hwl := C.lt_of_block hwb
      obtain ⟨h0, h1, h2, h3, -⟩ := blk4 HBh.out.blk
      obtain ⟨x0, x1, x2, x3, -⟩ := blk4 HBx.out.blk
      have hhl := HBh.out.lt
      have hxl9 := HBx.out.lt
      have HMa : Hid (Kp (fun _ => False) K7 K7 w7 w7.drew) := (Kp.refl _ _ _).drew
      have HLt := hide hlt
      have HXl := hide hxl
      have HL : Hid (∀ w' : World, Kp (fun _ => False) K7 K7 w7 w' → Calls Tryz.prog 60 #[.pointer (some ⟨tt, 0, none⟩), .slice a m cc, .slice a6 m cc6] w' fun e w'' => e = .returned (.tuple #[]) ∧ Hid (Wm w0 w'' (ext K7 w'.heap.size (6, 0)) wb Y1 A2 A2 B B es (xn + 1) bn st) ∧ Kp (fun q => q = (6, 0)) K7 (ext K7 w'.heap.size (6, 0)) w' w'') := fun w' mw => by
        have hlt' := HLt.out.keep mw (fun e => e) (fun _ _ e => e)
        have hax' := HAx.out.kp mw (fun e => e)
        have hdx' := HDx.out.kp mw (fun e => e)
        have hm2 := HLen.out
        refine (Q.late_add K7 w' tt G V xl a m cc xs a6 cc6 hlt' hax'.row (fun g e => by rw [HXl.out]; exact hax'.kind g e) (hdx'.bytesS (by simp)) (by omega) (by rw [HXl.out]; omega)).mono ?_
        rintro e w'' ⟨rfl, G', V', wp, wcc, hl', hkp⟩
        exact ⟨rfl, (HW7.out.k9 mw (fun _ e => e.elim)).tlate hkp (by simp) (fun j => by simp) (by simp) (by simp) (by simp) (by simp) (by simp) (by simp) (by simp) (by simp) (fun j => by simp) ⟨G', V', _, by rw [HTt.out]; exact hl', by simp [HXl.out]⟩, hkp⟩
      clear hlt hxl hwb htt
      go_upto_region 6 with (fail)
      go_region_held3 (fun w' => w'.cell? ⟨wb, 12, none⟩ = some (.pointer (some ⟨tt, 0, none⟩)) ∧ w'.cell? ⟨hx, 0, none⟩ = some (.slice a m cc) ∧ w'.cell? ⟨xx, 0, none⟩ = some (.slice a6 m cc6)) (go_keep) (first | (go_at_call 60; refine (HL.out _ HMa.out).mono ?_; rintro e w8 ⟨rfl, HW8, hkp8⟩; have hB8 := (HBh.out.kp HMa.out (fun e => e)).kp hkp8 (by simp); have hX8 := (HBx.out.kp HMa.out (fun e => e)).kp hkp8 (by simp); have hA8 := (HAx.out.kp HMa.out (fun e => e)).kp hkp8 (by simp); have hD8 := (HDx.out.kp HMa.out (fun e => e)).kp hkp8 (by simp); obtain ⟨O8, I8, hwb8, -⟩ := HW8.out.blk; obtain ⟨-, -, -, -, -, -, -, -, -, -, -, -, wn12, -, -⟩ := cellW hwb8; rw [HTt.out] at wn12; obtain ⟨y0, y1, y2, y3, -⟩ := blk4 hB8.blk; obtain ⟨z0, z1, z2, z3, -⟩ := blk4 hX8.blk; have HKp8 := hide ((HKp7.out.trans (HMa.out.mono (q := PH 0) (fun _ e => e.elim))).trans (hkp8.mono (q := PH 0) (fun q e => Or.inr (Or.inr (Or.inr (Or.inr e)))))); have HB8 := hide hB8; have HX8 := hide hX8; have HA8 := hide hA8; have HD8 := hide hD8; clear hkp8 hB8 hX8 hA8 hD8 hwb8))
      have HEq := hide (eq_val w8 a a6 m m cc cc6 xs xs HAx.out.len HAx.out.len (by have := HLen.out; omega) (by have := HLen.out; omega) HA8.out.bytes HD8.out.bytes)
      rw [decide_eq_true rfl] at HEq
      have q1 : (t1 == t1) = true := by simp
      have q2 : (t2 == t2) = true := by simp
      have q3 : (t3 == t3) = true := by simp
      go_wp2_with fail
      refine HEq.out.mono ?_
      rintro e w9 ⟨rfl, q, rfl⟩
      have y1' : (w8.drewN q).cell? ⟨hx, 1, none⟩ = some (.bool t1) := y1
      have y2' : (w8.drewN q).cell? ⟨hx, 2, none⟩ = some (.bool t2) := y2
      have y3' : (w8.drewN q).cell? ⟨hx, 3, none⟩ = some (.bool t3) := y3
      have z1' : (w8.drewN q).cell? ⟨xx, 1, none⟩ = some (.bool t1) := z1
      have z2' : (w8.drewN q).cell? ⟨xx, 2, none⟩ = some (.bool t2) := z2
      have z3' : (w8.drewN q).cell? ⟨xx, 3, none⟩ = some (.bool t3) := z3
      have HWf := hide (HW8.out.drewN q)
      go_wp2
      go_ret
      exact ⟨rfl, _, A2, xs, t1, t2, t3, HHr.out, by rw [HYe.out]; exact HWf.out, HKp8.out.trans ((drew_kq w8 _ q).mono (fun _ e => e.elim))⟩
end Go.Proofs.YtjcdnclfakmbpaaGreatDoor
namespace Go.Proofs.YtjcdnclfakmbpaaGreatDoor
open Go.RowKit
theorem mid_win (L : Lk) : (midO L).length ≤ L.window.toNat + 1 := by
  have h1 := outs_len L (tmL L) L.gone (inWin L)
  have h2 : (inWin L).length ≤ L.window.toNat := by
    unfold inWin; split
    · simp
    · exact List.length_take_le _ _
  unfold midO
  split
  · split
    · simp
    · simp
  · show (bodO L).length ≤ _
    unfold bodO
    omega
theorem mine_row2 {w : World} {B : Nat} {sp : Option Addr} {E : List Nat} (h : C.Mine B w sp E) (hl : E.length ≤ 140737488351232) : w.ownsRow B 5 1 (.slice sp E.length E.length) E.length (vals E) := by
  rcases h with ⟨e1, e2⟩ | ⟨g, e1, e2, e3⟩
  · subst e1; subst e2; exact ⟨rfl, Or.inl ⟨rfl, rfl⟩⟩
  · subst e1
    exact ⟨by simp [vals], Or.inr ⟨g, E.length, _, rfl, e2, e3, Nat.le_refl _, by unfold maxLen; omega, by simp [C.vals], by
      simp [C.vals, vals]
      exact List.take_of_length_le (by simp)⟩⟩
structure To (w : World) (K : Knd) (B : Nat) (a : Option Addr) (q c : Nat) (vs : List Value) (ps : List (List Nat)) : Prop where
  row : Q.ownsQ false w 0 31 1 (.slice a q c) q vs
  len : ps.length = q
  el : ∀ (i : Nat) (p : List Nat), ps[i]? = some p → ∃ sp, vs[i]? = some (.slice sp p.length p.length) ∧ Q.ownsQ true w 0 5 1 (.slice sp p.length p.length) p.length (vals p) ∧ (∀ x ∈ p, x < 256)
  dis : ∀ (i j : Nat) (u v : Value), i < j → vs[i]? = some u → vs[j]? = some v → Q.Far v u
  rk : ∀ g, (Value.slice a q c).ownBlock = some g → B ≤ g ∧ K g = (5, 4)
  vk : ∀ v ∈ vs, ∀ g, v.ownBlock = some g → B ≤ g ∧ K g = (5, 2)
theorem To.kp {w w2 : World} {K K' : Knd} {B : Nat} {a : Option Addr} {q c : Nat} {vs : List Value} {ps : List (List Nat)} {p : Nat × Nat → Prop} (h : To w K B a q c vs ps) (m : Kp p K K' w w2) (h2 : ¬ p (5, 2)) (h4 : ¬ p (5, 4)) : To w2 K' B a q c vs ps := by
  have hvl : ∀ v ∈ vs, ∀ g, v.ownBlock = some g → g < w.heap.size := fun v hv g e => by
    obtain ⟨i, hi⟩ := List.getElem?_of_mem hv
    have hil := (List.getElem?_eq_some_iff.1 hi).1
    have hq : i < ps.length := by rw [h.len]; have := h.row.1; omega
    obtain ⟨sp, q1, q2, _⟩ := h.el i _ (List.getElem?_eq_getElem hq)
    rw [hi] at q1; injection q1 with q1; subst q1
    exact Q.owns_lt q2 g e
  refine ⟨Q.owns_kept' h.row (fun g e => m.block g (Q.owns_lt h.row g e) (by rw [(h.rk g e).2]; exact h4)), h.len, fun i p hp => ?_, h.dis, fun g e => ⟨(h.rk g e).1, (m.same g (Q.owns_lt h.row g e)).trans (h.rk g e).2⟩, fun v hv g e => ⟨(h.vk v hv g e).1, (m.same g (hvl v hv g e)).trans (h.vk v hv g e).2⟩⟩
  obtain ⟨sp, q1, q2, q3⟩ := h.el i p hp
  exact ⟨sp, q1, Q.owns_kept' q2 (fun g e => m.block g (Q.owns_lt q2 g e) (by rw [(h.vk _ (List.mem_of_getElem? q1) g e).2]; exact h2)), q3⟩
structure Td (w : World) (K : Knd) (kd : Nat × Nat) (a : Option Addr) (q c : Nat) (vs : List Value) (ps : List (List Nat)) : Prop where
  row : w.ownsRow 0 31 1 (.slice a q c) q vs
  el : ∀ (i : Nat) (p : List Nat), ps[i]? = some p → ∃ b k, vs[i]? = some (.slice b p.length k) ∧ w.ownsRow 0 5 1 (.slice b p.length k) p.length (vals p) ∧ (∀ x ∈ p, x < 256)
  rk : ∀ g, (Value.slice a q c).ownBlock = some g → K g = kd
  vk : ∀ v ∈ vs, ∀ g, v.ownBlock = some g → K g = kd
theorem Td.kp {w w2 : World} {K K' : Knd} {kd : Nat × Nat} {a : Option Addr} {q c : Nat} {vs : List Value} {ps : List (List Nat)} {p : Nat × Nat → Prop} (h : Td w K kd a q c vs ps) (hl : ps.length = q) (m : Kp p K K' w w2) (hp : ¬ p kd) : Td w2 K' kd a q c vs ps := by
  have hvl : ∀ v ∈ vs, ∀ g, v.ownBlock = some g → g < w.heap.size := fun v hv g e => by
    obtain ⟨i, hi⟩ := List.getElem?_of_mem hv
    have hil := (List.getElem?_eq_some_iff.1 hi).1
    have hq : i < ps.length := by rw [hl]; have := h.row.1; omega
    obtain ⟨sp, k, q1, q2, _⟩ := h.el i _ (List.getElem?_eq_getElem hq)
    rw [hi] at q1; injection q1 with q1; subst q1
    exact rk_lt q2 e
  refine ⟨owns_same h.row (fun g e => m.block g (rk_lt h.row e) (by rw [h.rk g e]; exact hp)), fun i p hq => ?_, fun g e => (m.same g (rk_lt h.row e)).trans (h.rk g e), fun v hv g e => (m.same g (hvl v hv g e)).trans (h.vk v hv g e)⟩
  obtain ⟨b, k, q1, q2, q3⟩ := h.el i p hq
  exact ⟨b, k, q1, owns_same q2 (fun g e => m.block g (rk_lt q2 e) (by rw [h.vk _ (List.mem_of_getElem? q1) g e]; exact hp)), q3⟩
section
variable {w : World} {K : Knd} {kd : Nat × Nat} {b : Nat} {L : Lk} {rv : Value} {i : Nat}
theorem ptick_x (h : Lx w K kd b L rv) (hn : Rn L i) (hi : i ≤ 1000000) (hT : C.Tab w) (hb0 : 0 < b) :
    Calls Tryz.prog 16 #[.pointer (some ⟨b, 0, none⟩)] w fun e w' => ∃ a q c vs K', e = .returned (.slice a q c) ∧ To w' K' w.heap.size a q c vs (midO L) ∧ (∃ rv', Lx w' K' kd b (tickL L) rv') ∧ Kp (fun q => q = kd) K K' w w' := by
  have h1 := hn.row
  refine (tick_any w b L rv h.lw hn.win hn.pok hT hb0 (by omega)).mono ?_
  rintro e w' ⟨a, cc, q, he, hp⟩
  obtain ⟨vs, o1, o2⟩ := hp.row
  have hlen := hp.len
  rw [hlen] at o1
  obtain ⟨K', hK'⟩ : ∃ K' : Knd, K' = fun g => if g < w.heap.size then K g else if some g = (Value.slice a q cc).ownBlock then (5, 4) else (5, 2) := ⟨_, rfl⟩
  have k1 : ∀ g, g < w.heap.size → K' g = K g := fun g hg => by rw [hK']; simp [hg]
  have hel : ∀ (i : Nat) (p : List Nat), (midO L)[i]? = some p → ∃ sp, vs[i]? = some (.slice sp p.length p.length) ∧ w'.ownsRow w.heap.size 5 1 (.slice sp p.length p.length) p.length (vals p) ∧ (∀ x ∈ p, x < 256) := fun i p hpp => by
    obtain ⟨sp, q1, q2, q3, _⟩ := o2 i p hpp
    refine ⟨sp, q1, mine_row2 q2 ?_, q3⟩
    rcases List.mem_of_getElem? hpp |> fun (hm : p ∈ midO L) => (by
      unfold midO at hm
      split at hm
      · split at hm
        · simp at hm; exact ⟨_, hm⟩
        · cases hm
      · unfold bodO outs at hm
        obtain ⟨x, _, hx⟩ := List.mem_map.1 hm
        exact ⟨_, hx.symm⟩ : ∃ f, p = encB f) with ⟨f, hf⟩
    rw [hf]; have := encB_len f; omega
  have hvk : ∀ v ∈ vs, ∀ g, v.ownBlock = some g → w.heap.size ≤ g ∧ g < w'.heap.size ∧ K' g = (5, 2) := fun v hv g e => by
    obtain ⟨j, hj⟩ := List.getElem?_of_mem hv
    have hjl := (List.getElem?_eq_some_iff.1 hj).1
    have hq : j < (midO L).length := by have := o1.1; omega
    obtain ⟨sp, q1, q2, _⟩ := hel j _ (List.getElem?_eq_getElem hq)
    rw [hj] at q1; injection q1 with q1; subst q1
    have h3 := q2.lt g e
    refine ⟨h3.1, h3.2, ?_⟩
    rw [hK']
    have hne : ¬ some g = (Value.slice a q cc).ownBlock := fun e2 => Q.rows_far0 (z1 := false) (z2 := false) (Q.ownsQ_of q2) (Q.ownsQ_of o1) (by decide) g e e2.symm
    simp only []
    rw [if_neg (by omega), if_neg hne]
  refine ⟨a, q, cc, vs, K', he, ⟨Q.ownsQ_of (owns_bs2 o1 (Nat.zero_le _)), hlen, fun j p hpp => ?_, fun j j2 u v hjj hu hv g e e' => ?_, fun g e => ?_, fun v hv g e => ⟨(hvk v hv g e).1, (hvk v hv g e).2.2⟩⟩, ?_⟩
  · obtain ⟨sp, q1, q2, q3⟩ := hel j p hpp
    exact ⟨sp, q1, Q.ownsQ_of (owns_bs2 q2 (Nat.zero_le _)), q3⟩
  · have hj2 : j2 < (midO L).length := by have := o1.1; have := (List.getElem?_eq_some_iff.1 hv).1; omega
    have hj1 : j < (midO L).length := by omega
    obtain ⟨sp2, q1, q2, q3, q4⟩ := o2 j2 _ (List.getElem?_eq_getElem hj2)
    obtain ⟨sp1, r1, r2, _⟩ := o2 j _ (List.getElem?_eq_getElem hj1)
    rw [hv] at q1; injection q1 with q1; subst q1
    rw [hu] at r1; injection r1 with r1; subst r1
    rcases q2 with ⟨z1, _⟩ | ⟨g2, z1, _⟩
    · rw [z1] at e; cases e
    · rcases r2 with ⟨y1, _⟩ | ⟨g1, y1, _⟩
      · rw [y1] at e'; cases e'
      · rw [z1] at e; rw [y1] at e'; cases e; cases e'
        have := q4 j g2 _ _ g2 hjj (by rw [hu, y1]) z1
        omega
  · have h3 := o1.lt g e
    refine ⟨h3.1, ?_⟩
    rw [hK']
    simp only []
    rw [if_neg (by omega), if_pos e.symm]
  · have ht := h.turn (K' := K') hp.lw (Tw.of hp.but) k1 (fun g hg => Or.inl hg)
    have m2 : Kp (fun q => q = kd) K K' w w' := ht.2
    exact ⟨⟨rv, ht.1⟩, m2⟩
theorem dtick_x {kb : Nat × Nat} {m t : Nat} (hkk : kd ≠ kb) (h : Dk w K kd kb b L rv m t) (hn : Rn L i) (hi : i ≤ 1000000) (ht : t ≤ i) (hi2 : i < 1000000) (hw : L.window ≤ 1000) :
    Calls Tryz.prog 61 #[.pointer (some ⟨b, 0, none⟩)] w fun e w' => ∃ a c vs, e = .returned (.slice a (midO L).length c) ∧ Td w' (ext K w.heap.size kd) kd a (midO L).length c vs (midO L) ∧ (∃ rv' t', Dk w' (ext K w.heap.size kd) kd kb b (tickL L) rv' m t' ∧ t' ≤ i + 1) ∧ Kp (fun q => q = kd) K (ext K w.heap.size kd) w w' := by
  have h1 := hn.num
  have h2 := hn.hand
  refine (dtick_any w K kd kb hkk b L rv m t h (by omega) (by omega) (by omega) hn.win hw).mono ?_
  rintro e w' ⟨v, he, hp⟩
  obtain ⟨a, c, hv⟩ := hp.out.form
  obtain ⟨vs, o1, o2⟩ := hp.out
  subst hv
  refine ⟨a, c, vs, he, ⟨owns_bs2 o1 (Nat.zero_le _), fun j p hpp => ?_, fun g e => ext_new _ _ (o1.lt g e).1, fun u hu g e => ?_⟩, ⟨rv, _, hp.dk, by unfold tickT; split <;> omega⟩, hp.kp⟩
  · obtain ⟨b2, k, q1, q2, q3⟩ := o2 j p hpp
    exact ⟨b2, k, q1, owns_bs2 q2 (Nat.zero_le _), q3⟩
  · obtain ⟨j, hj⟩ := List.getElem?_of_mem hu
    have hjl := (List.getElem?_eq_some_iff.1 hj).1
    have hq : j < (midO L).length := by have := o1.1; omega
    obtain ⟨b2, k, q1, q2, _⟩ := o2 j _ (List.getElem?_eq_getElem hq)
    rw [hj] at q1; injection q1 with q1; subst q1
    exact ext_new _ _ (q2.lt g e).1
end
theorem rdec_x (w : World) (sp : Option Addr) (n cap : Nat) (xs : List Nat) (hl : xs.length = n) (hrow : w.ownsRow 0 5 1 (.slice sp n cap) n (vals xs)) (hs : ∀ x ∈ xs, x < 256) (hn : n ≤ 140737488351232) :
    Calls Tryz.prog 62 #[.slice sp n cap] w fun e w' => ∃ (f : Fr) (sq : Option Addr) (k : Nat) (bb : Bool), e = .returned (.tuple #[frV f sq k, .bool bb]) ∧ f.body.length ≤ 140737488351232 ∧ Bytes w' sq f.body ∧ (∀ p, sq = some p → w.heap.size ≤ p.block) ∧ Below w.heap.size w w' := by
  have hby : C.Bytes w sp xs := (owns_bytes hrow hs).c
  have hform : ((cap = 0 ∧ xs = []) ∨ ∃ g o, sp = some ⟨g, o, none⟩) ∧ n ≤ cap ∧ cap ≤ 9223372036854775807 := by
    rcases hrow.2 with ⟨e1, e2⟩ | ⟨g, cap', cur, e1, _, _, e4, e5, _⟩
    · cases e1
      exact ⟨Or.inl ⟨rfl, List.eq_nil_of_length_eq_zero (by omega)⟩, by omega, by omega⟩
    · cases e1
      exact ⟨Or.inr ⟨g, 0, rfl⟩, e4, by unfold maxLen at e5; omega⟩
  refine (rdec_any w sp n cap xs hl hform.2.1 hform.2.2 hn hby hform.1).mono ?_
  rintro e w' (⟨f, sq, k, hd, rfl, hy, hlo, hb⟩ | ⟨hd, rfl, hb⟩)
  · have hf := (dec_some hs hd).1
    have h1 : f.body.length ≤ 2048 := hf.2.2.2.2.2.2.1
    exact ⟨f, sq, k, true, rfl, by omega, Bytes.of_c hy, hlo, hb⟩
  · exact ⟨fr0, none, 0, false, rfl, by show 0 ≤ _; omega, ⟨(fun x hx => by cases hx), Or.inl rfl⟩, (fun p e => by cases e), hb⟩
end Go.Proofs.YtjcdnclfakmbpaaGreatDoor
namespace Go.Proofs.YtjcdnclfakmbpaaGreatDoor
open Go.RowKit
theorem Tryz.infoFr : (Tryz.prog.info? 33).map (fun i => (i.zero, i.size, i.bytes)) = some (some (.agg #[.int .i64 0, .int .i64 0, .int .u64 0, .int .u64 0, .int .u64 0, .int .u64 0, .slice none 0 0]), 7, 72) := by kernel_rfl
section
variable {w0 w wr w2 : World} {K K' : Knd} {wb : Nat} {Y : Pw.Wc} {A D B E : Lk} {es : List Fe} {xn bn st : Nat}
theorem Wm.more {wg : World} {sv' : Value} {e : Fe} (h : Wm w0 wr K wb Y A D B E es xn bn st) (hg : wr.grownBy wg Y.sv.ownBlock) (ho : wg.ownsRow 0 33 7 sv' (es.length + 1) (sentC es ++ feC e)) (hat : sv'.ownBlock = Y.sv.ownBlock ∨ ∃ g, sv'.ownBlock = some g ∧ wr.heap.size ≤ g) (hby : By2 wr K e.p e.f.body) (hbl : e.f.body.length ≤ 140737488351232) :
    Wm w0 (wg.setCell ⟨wb, 10, none⟩ sv') (ext K wr.heap.size (2, 1)) wb { Y with sv := sv' } A D B E (es ++ [e]) xn bn st ∧ Kp (fun q => q = (2, 1) ∨ q = (8, 0)) K (ext K wr.heap.size (2, 1)) wr (wg.setCell ⟨wb, 10, none⟩ sv') := by
  have m0 : Kp (fun q => q = (2, 1)) K (ext K wr.heap.size (2, 1)) wr wg := kp_grown hg K (2, 1) (2, 1) _ (fun g e => h.sent.kind g e) rfl
  have hp0 := h.plc.kept m0 (fun j => by simp)
  have hkb : ext K wr.heap.size (2, 1) wb = (8, 0) := by
    rcases hp0 with ⟨_, q⟩ | ⟨O, I, X, no, m, os, ys, q⟩
    · exact q
    · exact q.kb
  have ms : Kp (fun q => q = (8, 0)) (ext K wr.heap.size (2, 1)) (ext K wr.heap.size (2, 1)) wg (wg.setCell ⟨wb, 10, none⟩ sv') := (Kp.refl (fun q => q = (8, 0)) _ wg).setCell (b := wb) (Or.inr hkb) _ _
  have m : Kp (fun q => q = (2, 1) ∨ q = (8, 0)) K (ext K wr.heap.size (2, 1)) wr (wg.setCell ⟨wb, 10, none⟩ sv') := (m0.mono (fun q e => Or.inl e)).trans (ms.mono (fun q e => Or.inr e))
  refine ⟨⟨m.below h.bel (fun x hx => by rw [h.kz x hx]; simp), fun x hx => (m.same x (Nat.lt_of_lt_of_le hx h.bel.size)).trans (h.kz x hx), h.tab, hp0.cell 10 sv' (fun O I => rfl), ?_, ?_, ?_, ?_, ?_, fun x hx => ?_, ?_, ?_, fun x hx => ?_⟩, m⟩
  · obtain ⟨rv, q⟩ := h.la; exact ⟨rv, q.kp m (by simp)⟩
  · obtain ⟨rv, q⟩ := h.lb; exact ⟨rv, q.kp m (by simp)⟩
  · obtain ⟨rv, t, q, r⟩ := h.ka; exact ⟨rv, t, q.kp m (by simp) (by simp), r⟩
  · obtain ⟨rv, t, q, r⟩ := h.kb; exact ⟨rv, t, q.kp m (by simp) (by simp), r⟩
  · rw [sentC_snoc, List.length_append]
    exact (h.sent.grown ho hat).kept ms (by simp)
  · rcases List.mem_append.1 hx with q | q
    · exact (h.bod x q).kp m (by simp)
    · simp at q; subst q; exact hby.kp m (by simp)
  · obtain ⟨G, V, xs, q, r⟩ := h.late; exact ⟨G, V, xs, q.keep m (by simp) (fun j _ => by simp), r⟩
  · obtain ⟨X, L, M, tn, us, ks, rs, q, r⟩ := h.book
    exact ⟨X, L, M, tn, us, ks, rs, q.keep m (by simp) (by simp) (by simp) (by simp) (fun x e => by rw [e]; simp) (by simp), r⟩
  · rcases List.mem_append.1 hx with q | q
    · exact h.bl x q
    · simp at q; subst q; exact hbl
theorem Wm.up (h : Wm w0 w K wb Y A D B E es xn bn st) : Wm w0 w K wb Y A D B E es xn bn (st + 1) :=
  ⟨h.bel, h.kz, h.tab, h.plc, h.la, h.lb, (by obtain ⟨rv, t, q, r⟩ := h.ka; exact ⟨rv, t, q, by omega⟩), (by obtain ⟨rv, t, q, r⟩ := h.kb; exact ⟨rv, t, q, by omega⟩), h.sent, h.bod, h.late, h.book, h.bl⟩
theorem Wm.pos (h : Wm w0 w K wb Y A D B E es xn bn st) : 0 < Y.l0 ∧ 0 < Y.l1 := by
  have h0 := h.kz 0 h.tab.pos
  obtain ⟨r1, q1⟩ := h.la
  obtain ⟨r2, q2⟩ := h.lb
  refine ⟨Nat.pos_of_ne_zero (fun e => ?_), Nat.pos_of_ne_zero (fun e => ?_)⟩
  · have := q1.kb; rw [e, h0] at this; cases this
  · have := q2.kb; rw [e, h0] at this; cases this
end
theorem by2_new {w w' w2 : World} {K : Knd} {sq : Option Addr} {bo : List Nat} (h : Bytes w' sq bo) (hl : ∀ p, sq = some p → w.heap.size ≤ p.block) (hb : Below w'.heap.size w' w2) : By2 w2 (ext K w.heap.size (2, 2)) sq bo := by
  refine ⟨h.below hb, fun q e hn => ⟨?_, ext_new _ _ (hl q e)⟩⟩
  rcases h.lie with h1 | ⟨g, o, e2, hg, _⟩
  · exact absurd h1 hn
  · rw [e] at e2; cases e2; exact Nat.lt_of_lt_of_le hg hb.size
end Go.Proofs.YtjcdnclfakmbpaaGreatDoor
namespace Go.Proofs.YtjcdnclfakmbpaaGreatDoor
open Go.RowKit
set_option maxRecDepth 100000 in
set_option maxHeartbeats 8000000 in
set_option linter.unusedSimpArgs false in
theorem tickW0 (w0 w : World) (K : Knd) (wb : Nat) (Y : Pw.Wc) (A B : Lk) (es : List Fe) (xn bn st : Nat) (h : Wm w0 w K wb Y A A B B es xn bn st) (hr : Rn A st) (hst : st ≤ 100000) (hbn : bn ≤ 1000000) (hes : es.length ≤ 1000000) (hwin : A.window ≤ 16) :
    Calls Tryz.prog 27 #[.pointer (some ⟨wb, 0, none⟩), .int .i64 0] w fun e w' => e = .returned (.bool true) ∧ ∃ K' sv' fs, Wm w0 w' K' wb { Y with sv := sv' } (tickL A) (tickL A) B B (es ++ fs) xn (bn + 18) (st + 1) ∧ fs.length ≤ 17 := by
  obtain ⟨XX, LL, MM, tn, us, ks, rs, hbz, htn⟩ := h.book
  have hksB : ∀ k ∈ ks, ∀ g, k.val.ownBlock = some g → g < w.heap.size := fun k hk g e => Q.owns_lt (hbz.z.bk.rows k hk) g e
  have hrsB : ∀ k ∈ rs, ∀ g, k.val.ownBlock = some g → g < w.heap.size := fun k hk g e => (hbz.z.rz.rows k hk).lt g e
  have HKs := hide hksB
  have HRs := hide hrsB
  obtain ⟨O, I, hwb, -⟩ := h.blk
  obtain ⟨-, -, -, -, -, -, wc6, wc7, wc8, wc9, -, -, -, -, -⟩ := cellW hwb
  obtain ⟨ll, hll⟩ : ∃ ll, Y.l0 = ll := ⟨_, rfl⟩
  obtain ⟨kk, hkk⟩ : ∃ kk, Y.k0 = kk := ⟨_, rfl⟩
  have hpos := h.pos.1
  obtain ⟨rv, hlx⟩ := h.la
  rw [hll] at wc6 hpos hlx
  have HLl := hide hll
  have HKk := hide hkk
  have HT1 := hide (ptick_x hlx hr (by omega) h.tb hpos)
  have H := hide h
  have HR := hide hr
  have HBz := hide hbz
  have hml := mid_win A
  obtain ⟨ps, hps⟩ : ∃ ps, midO A = ps := ⟨_, rfl⟩
  have hw0 : 0 ≤ A.window := hr.win
  have hpl : ps.length ≤ 17 := by rw [← hps]; omega
  have HPs := hide hps
  rw [hps] at HT1
  obtain ⟨B0, hB0⟩ : ∃ B0, w.heap.size = B0 := ⟨_, rfl⟩
  rw [hB0] at HT1 HKs HRs
  clear h hr hbz hlx hwb hll hkk hml hksB hrsB hps hB0 hw0
  go_enter Tryz.func27, Tryz.ntmps27
  go_wp2_with fail
  refine HT1.out.mono ?_
  rintro e w1 ⟨a, q, c, vs, K1, rfl, hto, hla, hkp1⟩
  have hW1 := (H.out.tla hkp1 (by simp) (fun j => by simp) (by simp) (by simp) (by simp) (by simp) (by simp) (by simp) (by simp) (by simp) (fun j => by simp) (fun j => by simp) (by rw [HLl.out]; exact hla)).up
  have HTo := hide hto
  have HBz1 := hide (HBz.out.keep hkp1 (by simp) (by simp) (by simp) (by simp) (fun x e => by rw [e]; simp) (by simp))
  obtain ⟨O1, I1, hwb1, -⟩ := hW1.blk
  clear wc6 wc7 wc8 wc9
  obtain ⟨-, -, -, -, -, -, wc6, wc7, wc8, wc9, -, -, -, -, -⟩ := cellW hwb1
  obtain ⟨rv2, t2, hdk, htl⟩ := H.out.ka
  have hdk1 := hdk.kp hkp1 (by simp) (by simp)
  rw [HKk.out] at wc8 hdk1
  have HT2 := hide (dtick_x (i := st) (by simp) hdk1 HR.out (by omega) htl (by omega) (by omega))
  rw [HPs.out] at HT2
  have HW1 := hide hW1
  have hql : ps.length = q := hto.len
  subst hql
  clear hto hla hkp1 hW1 hwb1 hdk hdk1 HT1 HBz H
  go_wp2_with fail
  refine HT2.out.mono ?_
  rintro e w2 ⟨a2, c2, vs2, rfl, htd, hda, hkp2⟩
  have HW2 := hide (HW1.out.tka hkp2 (by simp) (fun j => by simp) (by simp) (by simp) (by simp) (by simp) (by simp) (by simp) (by simp) (fun j => by simp) (fun j => by simp) (by rw [HKk.out]; exact hda))
  have HTo2 := hide (HTo.out.kp hkp2 (by simp) (by simp))
  have HBz2 := hide (HBz1.out.keep hkp2 (by simp) (by simp) (by simp) (by simp) (fun x e => by rw [e]; simp) (by simp))
  have HTd2 := hide htd
  have hz : ((ps.length : Int) != (ps.length : Int)) = false := by simp
  generalize ext K1 w1.heap.size (3, 0) = K2 at *
  clear htd hda hkp2 HT2 HW1 HTo HBz1 wc6 wc7 wc8 wc9
  go_wp2_with fail
  go_loopw [7] (fun s7 wr => ∃ (n : Nat) (K3 : Knd) (sv : Value) (fs : List Fe), n ≤ ps.length ∧ s7 = .int .i64 n ∧ Hid (fs.length = n) ∧ Hid (Wm w0 wr K3 wb { Y with sv := sv } (tickL A) (tickL A) B B (es ++ fs) xn bn (st + 1)) ∧ Hid (V.Bz (fun q => q = (5, 2)) K3 wr Y.bb XX LL MM tn us ks rs) ∧ Hid (To wr K3 B0 a ps.length c vs ps) ∧ Hid (Td wr K3 (3, 0) a2 ps.length c2 vs2 ps)) (fun s7 _ => ps.length - (intOf s7).toNat)
  case atStart => exact ⟨0, K2, Y.sv, [], Nat.zero_le _, rfl, rfl, (by show Wm w0 w2 K2 wb { Y with sv := Y.sv } (tickL A) (tickL A) B B (es ++ []) xn bn (st + 1); rw [List.append_nil]; exact HW2.out), HBz2, HTo2, HTd2⟩
  case round =>
    clear HW2 HTo2 HBz2 HTd2
    obtain ⟨n, K3, sv, fs, hn, rfl, HFs, HW, HB, HT, HD⟩ := hrel
    have i0 : (0 : Int) ≤ (n : Int) := by omega
    by_cases hlt : n < ps.length
    · have i1 : (n : Int) < (ps.length : Int) := by omega
      obtain ⟨p, hp⟩ : ∃ p, ps[n]? = some p := ⟨_, List.getElem?_eq_getElem hlt⟩
      obtain ⟨sp, v1, v2, v3⟩ := HT.out.el n p hp
      obtain ⟨b2, k2, u1, u2, u3⟩ := HD.out.el n p hp
      obtain ⟨ga, ca, ea, ca0⟩ := Q.row_cell HT.out.row (k := n) v1
      obtain ⟨gb, cb, eb, cb0⟩ := Q.row_cell (Q.ownsQ_of (z := false) HD.out.row) (k := n) u1
      cases ea
      cases eb
      obtain ⟨pl, hpl2⟩ : ∃ pl, p.length = pl := ⟨_, rfl⟩
      have hpb : pl ≤ 140737488351232 := by
        rw [← hpl2]
        have hm : p ∈ midO A := by rw [HPs.out]; exact List.mem_of_getElem? hp
        have hf : ∃ f, p = encB f := by
          unfold midO at hm
          split at hm
          · split at hm
            · simp at hm; exact ⟨_, hm⟩
            · cases hm
          · unfold bodO outs at hm
            obtain ⟨x, _, hx⟩ := List.mem_map.1 hm
            exact ⟨_, hx.symm⟩
        obtain ⟨f, hf⟩ := hf
        rw [hf]; have := encB_len f; omega
      rw [hpl2] at ca0 cb0 v2 u2
      have HEq : Hid (∀ k, Calls Tryz.prog 49 #[.slice sp pl pl, .slice b2 pl k2] (wr.drewN k) fun e w' => e = .returned (.bool true) ∧ ∃ j, w' = (wr.drewN k).drewN j) := fun k => by
        have := eq_val (wr.drewN k) sp b2 pl pl pl k2 p p hpl2 hpl2 (by omega) (by omega) ((Q.owns_bytes v2 rfl v3).drewN k) ((owns_bytes u2 u3).drewN k)
        rw [decide_eq_true rfl] at this
        exact this
      have HU2 := hide u2
      have HU3 := hide u3
      have HPl := hide hpl2
      clear hp v1 v2 v3 u1 u2 u3 hpl2
      go_upto_region 8 with (fail)
      go_quiet (first | (go_at_call 49; exact Calls.quiet_of (HEq.out _)))
      obtain ⟨wq, hwq⟩ : ∃ wq, wr.drewN nq = wq := ⟨_, rfl⟩
      have mq : Kp (fun _ => False) K3 K3 wr wq := by rw [← hwq]; exact drew_kq wr K3 nq
      have HWq := hide (HW.out.k9 mq (fun _ e => e.elim))
      have HBq := hide (HB.out.keep mq (fun e => e) (fun e => e) (fun e => e) (fun e => e) (fun _ _ e => e) (by simp))
      have HTq := hide (HT.out.kp mq (fun e => e) (fun e => e))
      have HDq := hide (HD.out.kp rfl mq (fun e => e))
      have cb1 : wq.cell? ⟨gb, n, none⟩ = some (.slice b2 pl k2) := by rw [← hwq]; exact cb0
      have HDc := hide (rdec_x wq b2 pl k2 p HPl.out (by rw [← hwq]; exact HU2.out) HU3.out hpb)
      rw [hwq]
      clear hwq mq ca0 cb0 HEq HW HB HT HD HU2 HU3
      go_wp2_with fail
      refine HDc.out.mono ?_
      rintro e w3 ⟨⟨f0, f1, f2, f3, f4, f5, bo⟩, sq, k, bb, rfl, hfl, hby, hlo, hb3⟩
      obtain ⟨nb, hnb⟩ : ∃ nb, bo.length = nb := ⟨_, rfl⟩
      have hv : frV (⟨f0, f1, f2, f3, f4, f5, bo⟩ : Fr) sq k = .agg #[.int .i64 f0, .int .i64 f1, .int .u64 (f2 : Int), .int .u64 (f3 : Int), .int .u64 (f4 : Int), .int .u64 (f5 : Int), .slice sq nb k] := by unfold frV; rw [hnb]
      rw [hv]
      have HNb := hide hnb
      have HFl : Hid (bo.length ≤ 140737488351232) := hfl
      have HBy : Hid (Bytes w3 sq bo) := hby
      have HLo := hide hlo
      have HB3 := hide hb3
      clear hv hfl hby hlo hb3 HDc hnb cb1
      go_upto_region 11 with (fail)
      obtain ⟨w4, hw4⟩ : ∃ w4, w3.alloc (.cells #[.int .i64 f0, .int .i64 f1, .int .u64 (f2 : Int), .int .u64 (f3 : Int), .int .u64 (f4 : Int), .int .u64 (f5 : Int), .slice sq nb k] 33) = w4 := ⟨_, rfl⟩
      rw [hw4]
      obtain ⟨bx, hbx'⟩ : ∃ bx, w3.heap.size = bx := ⟨_, rfl⟩
      have hk4 : w4.heap[bx]? = some (.cells #[.int .i64 f0, .int .i64 f1, .int .u64 (f2 : Int), .int .u64 (f3 : Int), .int .u64 (f4 : Int), .int .u64 (f5 : Int), .slice sq nb k] 33 (0, 0)) := by rw [← hw4, ← hbx']; exact heap_alloc_new _ _
      have hb34 : Below w3.heap.size w3 w4 := by rw [← hw4]; exact (Below.refl _ _).alloc (Nat.le_refl _) _
      have hb4 : Below wq.heap.size wq w4 := HB3.out.trans (hb34.mono HB3.out.size)
      have m4 : Kp (fun _ => False) K3 (ext K3 wq.heap.size (2, 2)) wq w4 := kp_below hb4 _ _ _
      have hY4 : By2 w4 (ext K3 wq.heap.size (2, 2)) sq bo := by2_new HBy.out HLo.out hb34
      rw [hbx']
      obtain ⟨K4, hK4⟩ : ∃ K4, ext K3 wq.heap.size (2, 2) = K4 := ⟨_, rfl⟩
      rw [hK4] at m4 hY4
      have HW4 := hide (HWq.out.k9 m4 (fun _ e => e.elim))
      have HB4 := hide (HBq.out.keep m4 (fun e => e) (fun e => e) (fun e => e) (fun e => e) (fun _ _ e => e) (by simp))
      have HT4 := hide (HTq.out.kp m4 (fun e => e) (fun e => e))
      have HD4 := hide (HDq.out.kp rfl m4 (fun e => e))
      have HY4 := hide hY4
      have HK4 := hide hk4
      clear hw4 hbx' hb34 hb4 m4 hY4 hK4 HWq HBq HTq HDq HB3 HBy HLo
      obtain ⟨E, hE⟩ : ∃ E, es ++ fs = E := ⟨_, rfl⟩
      have hEl : E.length ≤ 1100000 := by rw [← hE, List.length_append, HFs.out]; omega
      have HEe := hide hE
      rw [hE] at HW4
      clear hE
      obtain ⟨sa, sc, hsv, hsl, hsc⟩ : ∃ sa sc, sv = .slice sa E.length sc ∧ E.length ≤ sc ∧ sc ≤ maxLen := owns_form HW4.out.sent.own
      subst hsv
      obtain ⟨O4, I4, hwb4, hkb4⟩ := HW4.out.blk
      obtain ⟨-, -, -, -, -, -, -, -, -, -, p10, -, -, -, pf⟩ := cellW hwb4
      have p10' : w4.cell? ⟨wb, 10, none⟩ = some (.slice sa E.length sc) := p10
      have hpb4 := C.lt_of_block hwb4
      have HWb4 := hide hwb4
      have HPn : Hid (some wb ≠ (Value.slice sa E.length sc).ownBlock) := fun e => by have := HW4.out.sent.kind wb e.symm; rw [hkb4] at this; cases this
      obtain ⟨x0, x1, x2, x3, x4, x5, x6, -⟩ := blk7 HK4.out
      have hbx := C.lt_of_block HK4.out
      obtain ⟨i0', hi, hz0, hz1, hz2⟩ := info_parts Tryz.infoFr
      clear p10 hwb4 hk4
      go_region_law (first | (refine step_append_lies _ (by rfl) (.tmp 57) (.tmp 59) 41 (by rfl) 0 33 i0' (.agg #[.int .i64 0, .int .i64 0, .int .u64 0, .int .u64 0, .int .u64 0, .int .u64 0, .slice none 0 0]) 7 72 Tryz.underlying41 hi hz0 hz1 hz2 rfl (by omega) (.slice sa E.length sc) E.length (sentC E) (by rfl) ((HW4.out.sent.own.alloc _).drew) ⟨w4.heap.size, 0, none⟩ 1 1 [.int .i64 f0, .int .i64 f1, .int .u64 (f2 : Int), .int .u64 (f3 : Int), .int .u64 (f4 : Int), .int .u64 (f5 : Int), .slice sq nb k] (by rfl) rfl (World.news_of_block (heap_alloc_new w4 (.cells #[.int .i64 f0, .int .i64 f1, .int .u64 (f2 : Int), .int .u64 (f3 : Int), .int .u64 (f4 : Int), .int .u64 (f5 : Int), .slice sq nb k] 33))) (by simp [Value.oneCell']) (by omega) (by unfold maxLen; omega) (by omega) (by simp) _ rfl ?_; intro g' cap' w6 hown hgrow hat hltg; have hp6 := (hgrow.block wb (by simp; omega) HPn.out); have hpr6 : w6.heap[wb]? = some (.cells (Pw.wkC { Y with sv := .slice sa E.length sc } O4 I4) 48 (0, 0)) := (hp6.trans ((Below.heap_alloc _ _ _ hpb4).trans HWb4.out)); obtain ⟨-, -, -, -, -, -, -, -, -, -, q10, -, -, -, qf⟩ := cellW hpr6; have q10' : w6.cell? ⟨wb, 10, none⟩ = some (.slice sa E.length sc) := q10; have hq6 := C.lt_of_block hpr6; have HO6 := hide hown; have HG6 := hide hgrow; have HA6 := hide hat; clear hown hgrow hat hp6 hpr6 q10))
      all_goals go_wp2
      all_goals
        have hb6 : Below w4.heap.size w4 (w4.alloc (.cells #[.int .i64 f0, .int .i64 f1, .int .u64 (f2 : Int), .int .u64 (f3 : Int), .int .u64 (f4 : Int), .int .u64 (f5 : Int), .slice sq nb k] 33)).drew := ((Below.refl _ _).alloc (Nat.le_refl _) _).drew
        have m6 : Kp (fun _ => False) K4 (ext K4 w4.heap.size (9, 9)) w4 (w4.alloc (.cells #[.int .i64 f0, .int .i64 f1, .int .u64 (f2 : Int), .int .u64 (f3 : Int), .int .u64 (f4 : Int), .int .u64 (f5 : Int), .slice sq nb k] 33)).drew := kp_below hb6 _ _ _
        obtain ⟨hpm, hkp⟩ := (HW4.out.k9 m6 (fun _ e => e.elim)).more (e := ⟨⟨f0, f1, f2, f3, f4, f5, bo⟩, sq, k⟩) HG6.out (by simpa [feC, HNb.out] using HO6.out) (by
          rcases HA6.out with e1 | e1
          · exact Or.inl e1.symm
          · exact Or.inr ⟨g', rfl, by rw [e1]; exact Nat.le_refl _⟩) (HY4.out.kp m6 (fun e => e)) HFl.out
        have hEa : ∀ x : Fe, E ++ [x] = es ++ (fs ++ [x]) := fun x => by rw [← HEe.out, List.append_assoc]
        rw [hEa] at hpm
        exact ⟨⟨n + 1, _, _, _, by omega, by go_num, hide (by rw [List.length_append, HFs.out]; rfl), hide hpm, hide ((HB4.out.keep m6 (fun e => e) (fun e => e) (fun e => e) (fun e => e) (fun _ _ e => e) (by simp)).keep hkp (by simp) (by simp) (by simp) (by simp) (fun x e => by rw [e]; simp) (by simp)), hide ((HT4.out.kp m6 (fun e => e) (fun e => e)).kp hkp (by simp) (by simp)), hide ((HD4.out.kp rfl m6 (fun e => e)).kp rfl hkp (by simp))⟩, by simp [intOf]; omega⟩
    · have i1 : ¬ (n : Int) < (ps.length : Int) := by omega
      have hnq : n = ps.length := by omega
      obtain ⟨O4, I4, hwb4, -⟩ := HW.out.blk
      obtain ⟨-, -, -, -, -, -, -, -, -, -, -, p11, -, -, -⟩ := cellW hwb4
      have p11' : wr.cell? ⟨wb, 11, none⟩ = some (.pointer (some ⟨Y.bb, 0, none⟩)) := p11
      have HRo := hide (V.bzk_rows K3 wr Y.bb XX LL MM tn us ks rs a ps.length c B0 vs HB.out (by omega) (by omega) HT.out.row (fun i u hu => by
        have hil := (List.getElem?_eq_some_iff.1 hu).1
        have hq : i < ps.length := by have := HT.out.row.1; omega
        obtain ⟨sp, q1, q2, _⟩ := HT.out.el i _ (List.getElem?_eq_getElem hq)
        rw [hu] at q1; injection q1 with q1
        have hpb : (ps[i]'hq).length ≤ 140737488355328 := by
          have hm : ps[i]'hq ∈ midO A := by rw [HPs.out]; exact List.getElem_mem hq
          have hf : ∃ f, ps[i]'hq = encB f := by
            unfold midO at hm
            split at hm
            · split at hm
              · simp at hm; exact ⟨_, hm⟩
              · cases hm
            · unfold bodO outs at hm
              obtain ⟨x, _, hx⟩ := List.mem_map.1 hm
              exact ⟨_, hx.symm⟩
          obtain ⟨f, hf⟩ := hf
          rw [hf]; have := encB_len f; omega
        exact ⟨sp, _, _, _, q1, q2, hpb⟩) HT.out.dis HKs.out HRs.out HT.out.vk HT.out.rk)
      clear hwb4 p11
      go_wp2_with fail
      refine HRo.out.mono ?_
      rintro e w5 ⟨rfl, K5, X5, L5, M5, us5, ks5, rs5, hbz5, hkp5⟩
      have HWf := hide (HW.out.tbook (bn2 := bn + 18) hkp5 (by simp) (fun j => by simp) (by simp) (by simp) (by simp) (by simp) (by simp) (by simp) (by simp) (by simp) (by simp) (fun j => by simp) ⟨X5, L5, M5, _, us5, ks5, rs5, hbz5, by omega⟩)
      clear hbz5 hkp5 HRo
      go_wp2
      go_ret
      exact ⟨rfl, K5, sv, fs, HWf.out, by rw [HFs.out]; omega⟩
end Go.Proofs.YtjcdnclfakmbpaaGreatDoor
