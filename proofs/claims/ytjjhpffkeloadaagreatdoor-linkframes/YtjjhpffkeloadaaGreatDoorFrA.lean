import Derived.Test.YtjjhpffkeloadaaGreatDoorFrQ
import Derived.Test.YtjjhpffkeloadaaGreatDoorRfD
import Derived.Test.YtjjhpffkeloadaaGreatDoorLkK
namespace Go.Proofs.YtjjhpffkeloadaaGreatDoor
open Go.RowKit

/-- Lists of bytes that came in, with their room. -/
structure PtF (w : World) (pp : Option Addr) (ps : List (List Nat)) : Prop where
  len : ∀ p ∈ ps, p.length ≤ 140737488351232
  lie : ∀ j p, ps[j]? = some p → ∃ g o ap cp, pp = some ⟨g, o, none⟩ ∧ g < w.heap.size ∧ w.cell? ⟨g, o + j, none⟩ = some (.slice ap p.length cp) ∧ Bytes w ap p ∧ p.length ≤ cp ∧ cp ≤ 140737488351232 ∧ ((cp = 0 ∧ p = []) ∨ ∃ g' o', ap = some ⟨g', o', none⟩)
theorem PtF.below {w w' : World} {pp : Option Addr} {ps : List (List Nat)} (h : PtF w pp ps) (hb : Below w.heap.size w w') : PtF w' pp ps := by
  refine ⟨h.len, fun j p hp => ?_⟩
  obtain ⟨g, o, ap, cp, e, hg, hc, hy, r⟩ := h.lie j p hp
  exact ⟨g, o, ap, cp, e, Nat.lt_of_lt_of_le hg hb.size, (hb.cell (p := ⟨g, o + j, none⟩) hg).trans hc, hy.below hb, r⟩
theorem bytes_blk {w : World} {sp : Option Addr} {xs : List Nat} (h : Bytes w sp xs) : xs = [] ∨ ∀ g o, sp = some ⟨g, o, none⟩ → g < w.heap.size :=
  h.lie.imp id (fun ⟨g, o, e, hg, _⟩ g' o' e' => by rw [e] at e'; cases e'; exact hg)

/-- What LinkFrames keeps: its Late, its Book. -/
structure Fz (w wr : World) (K : Knd) (bb lb : Nat) (G V : Value) (xs : List Q.Gt) : Prop where
  bel : Below w.heap.size w wr
  kz : ∀ b, b < w.heap.size → K b = (0, 0)
  late : Q.Lt K wr lb G V xs
  book : Q.Bt (fun q => q = (5, 2)) K wr bb (.slice none 0 0) (.slice none 0 0) 0 0 0 0 []
theorem Fz.kp {w wr w2 : World} {K K' : Knd} {bb lb : Nat} {G V : Value} {xs : List Q.Gt} {p : Nat × Nat → Prop} (h : Fz w wr K bb lb G V xs) (m : Kp p K K' wr w2) (h0 : ¬ p (0, 0)) (h5 : ∀ j, ¬ p (5, j)) (h6 : ¬ p (6, 0)) (h7 : ∀ j, j < xs.length → ¬ p (7, j)) : Fz w w2 K' bb lb G V xs :=
  ⟨m.below h.bel (fun b hb => by rw [h.kz b hb]; exact h0), fun b hb => (m.same b (Nat.lt_of_lt_of_le hb h.bel.size)).trans (h.kz b hb), h.late.keep m h6 h7, h.book.keep m (h5 1) (h5 2) (fun q e => by rw [e]; exact h5 2)⟩
/-- Bytes of a kind. -/
structure Wt (w : World) (K : Knd) (kd : Nat × Nat) (sp : Option Addr) (E : List Nat) : Prop where
  by_ : Bytes w sp E
  kind : E = [] ∨ ∀ g o, sp = some ⟨g, o, none⟩ → g < w.heap.size ∧ K g = kd
theorem Wt.kp {w w2 : World} {K K' : Knd} {kd : Nat × Nat} {sp : Option Addr} {E : List Nat} {p : Nat × Nat → Prop} (h : Wt w K kd sp E) (m : Kp p K K' w w2) (hp : ¬ p kd) : Wt w2 K' kd sp E :=
  ⟨U.bytes_or h.by_ m.size (h.kind.imp id (fun e g o e2 hg => m.block g hg (by rw [(e g o e2).2]; exact hp))), h.kind.imp id (fun e g o e2 => ⟨Nat.lt_of_lt_of_le (e g o e2).1 m.size, (m.same g (e g o e2).1).trans (e g o e2).2⟩)⟩
theorem Wt.late {w : World} {K : Knd} {kd : Nat × Nat} {sp : Option Addr} {E : List Nat} (h : Wt w K kd sp E) (hk : kd ≠ (6, 0)) : Q.BytesS (fun k => K k ≠ (6, 0)) w sp E := by
  refine ⟨h.by_.small, ?_⟩
  rcases h.by_.lie with e | ⟨g, o, e, hg, hc⟩
  · exact Or.inl e
  · rcases h.kind with e2 | e2
    · exact Or.inl e2
    · exact Or.inr ⟨g, o, e, by rw [(e2 g o e).2]; exact hk, hg, hc⟩
theorem Wt.new {w w2 : World} {K : Knd} {sp : Option Addr} {E : List Nat} (kd : Nat × Nat) (h : Bytes w2 sp E) (hlo : ∀ p, sp = some p → w.heap.size ≤ p.block) : Wt w2 (ext K w.heap.size kd) kd sp E :=
  ⟨h, (bytes_blk h).imp id (fun e g o e2 => ⟨e g o e2, ext_new _ _ (hlo _ e2)⟩)⟩
/-- An answer that goes into Late. -/
structure An (w : World) (K : Knd) (j : Nat) (sp : Option Addr) (n : Nat) (E : List Nat) : Prop where
  row : Q.ownsQ true w 0 5 1 (.slice sp n n) n (vals E)
  kind : ∀ g, (Value.slice sp n n).ownBlock = some g → K g = (7, j)
  len : E.length = n
  small : ∀ x ∈ E, x < 256
theorem An.kp {w w2 : World} {K K' : Knd} {j : Nat} {sp : Option Addr} {n : Nat} {E : List Nat} {p : Nat × Nat → Prop} (h : An w K j sp n E) (m : Kp p K K' w w2) (hp : ¬ p (7, j)) : An w2 K' j sp n E :=
  ⟨Q.owns_kept' h.row (fun g e => m.block g (Q.owns_lt h.row g e) (by rw [h.kind g e]; exact hp)), fun g e => (m.same g (Q.owns_lt h.row g e)).trans (h.kind g e), h.len, h.small⟩
theorem An.bytes {w : World} {K : Knd} {j : Nat} {sp : Option Addr} {n : Nat} {E : List Nat} (h : An w K j sp n E) : Bytes w sp E := Q.owns_bytes h.row rfl h.small
theorem An.new {w w2 : World} {K : Knd} (j : Nat) {sp : Option Addr} {E : List Nat} (h : C.Mine w.heap.size w2 sp E) (hs : ∀ x ∈ E, x < 256) (hl : E.length ≤ 140737488351232) : An w2 (ext K w.heap.size (7, j)) j sp E.length E := by
  rcases h with ⟨rfl, rfl⟩ | ⟨g, rfl, hg, hb⟩
  · exact ⟨⟨rfl, Or.inl ⟨rfl, rfl⟩⟩, fun g e => (by simp [Value.ownBlock] at e), rfl, hs⟩
  · refine ⟨Q.ownsQ_of ⟨by simp [vals], Or.inr ⟨g, E.length, _, rfl, Nat.zero_le _, hb, Nat.le_refl _, by unfold maxLen; omega, by simp [C.vals], ?_⟩⟩, fun g' e => ?_, rfl, hs⟩
    · simp [C.vals, vals]
      exact List.take_of_length_le (by simp)
    · simp [Value.ownBlock] at e; subst e; exact ext_new _ _ hg
theorem An.none (w : World) (K : Knd) (j : Nat) : An w K j none 0 [] := ⟨⟨rfl, Or.inl ⟨rfl, rfl⟩⟩, fun g e => (by simp [Value.ownBlock] at e), rfl, fun _ h => (by cases h)⟩
/-- What was lent. -/
structure Le (w : World) (K : Knd) (g c : Nat) (E : List Nat) : Prop where
  own : U.Own 0 w g c (E ++ U.marks)
  kind : K g = (9, 2)
theorem Le.kp {w w2 : World} {K K' : Knd} {g c : Nat} {E : List Nat} {p : Nat × Nat → Prop} (h : Le w K g c E) (m : Kp p K K' w w2) (hp : ¬ p (9, 2)) : Le w2 K' g c E :=
  ⟨U.own_kept h.own (m.block g h.own.lt (by rw [h.kind]; exact hp)), (m.same g h.own.lt).trans h.kind⟩
theorem Le.new {w w2 : World} {K : Knd} {g c n : Nat} {E : List Nat} (h : w2.ownsRow w.heap.size 5 1 (.slice (some ⟨g, 0, none⟩) n c) n (vals (E ++ U.marks))) (hs : ∀ x ∈ E, x < 256) : Le w2 (ext K w.heap.size (9, 2)) g c E := by
  have ho := U.own_full (fun x hx => by
    rcases List.mem_append.1 hx with e | e
    · exact hs x e
    · exact U.marks_small x e) h
  exact ⟨ho.mono (Nat.zero_le _), ext_new _ _ ho.base⟩
theorem Le.bytes {w : World} {K : Knd} {g c : Nat} {E : List Nat} (h : Le w K g c E) : Bytes w (some ⟨g, 0, none⟩) E := h.own.front
/-- The frame's box. -/
structure Fb (w : World) (K : Knd) (fb : Nat) (cs : Array Value) : Prop where
  blk : w.heap[fb]? = some (.cells cs 57 (0, 0))
  kind : K fb = (9, 1)
theorem Fb.kp {w w2 : World} {K K' : Knd} {fb : Nat} {cs : Array Value} {p : Nat × Nat → Prop} (h : Fb w K fb cs) (m : Kp p K K' w w2) (hp : ¬ p (9, 1)) : Fb w2 K' fb cs :=
  ⟨(m.block fb (C.lt_of_block h.blk) (by rw [h.kind]; exact hp)).trans h.blk, (m.same fb (C.lt_of_block h.blk)).trans h.kind⟩
/-- What a frame's turn has in hand. -/
structure Fi (w wr : World) (K : Knd) (bb lb pb : Nat) (G V : Value) (xs : List Q.Gt) (fb : Nat) (cs : Array Value) (wa : Option Addr) (E : List Nat) : Prop where
  z : Fz w wr K bb lb G V xs
  pl : U.Plc wr K pb
  fr : Fb wr K fb cs
  wt : Wt wr K (9, 3) wa E
section
variable {w wr w2 : World} {K K' : Knd} {bb lb pb : Nat} {G V : Value} {xs : List Q.Gt} {fb : Nat} {cs : Array Value} {wa : Option Addr} {E : List Nat} {p : Nat × Nat → Prop}
theorem Fi.kp (h : Fi w wr K bb lb pb G V xs fb cs wa E) (m : Kp p K K' wr w2) (h0 : ¬ p (0, 0)) (h5 : ∀ j, ¬ p (5, j)) (h6 : ¬ p (6, 0)) (h7 : ∀ j, j < xs.length → ¬ p (7, j)) (h8 : ∀ j, ¬ p (8, j)) (h91 : ¬ p (9, 1)) (h93 : ¬ p (9, 3)) : Fi w w2 K' bb lb pb G V xs fb cs wa E :=
  ⟨h.z.kp m h0 h5 h6 h7, h.pl.kept m h8, h.fr.kp m h91, h.wt.kp m h93⟩
theorem Fi.below (h : Fi w wr K bb lb pb G V xs fb cs wa E) (hb : Below wr.heap.size wr w2) (kd : Nat × Nat) : Fi w w2 (ext K wr.heap.size kd) bb lb pb G V xs fb cs wa E :=
  h.kp (kp_below hb (fun _ => False) K kd) (fun e => e) (fun _ e => e) (fun e => e) (fun _ _ e => e) (fun _ e => e) (fun e => e) (fun e => e)
/-- A cell of the frame's box is set. -/
theorem Fi.set (h : Fi w wr K bb lb pb G V xs fb cs wa E) (i : Nat) (v : Value) : Fi w (wr.setCell ⟨fb, i, none⟩ v) K bb lb pb G V xs fb (cs.setIfInBounds i v) wa E := by
  have m : Kp (fun q => q = (9, 1)) K K wr (wr.setCell ⟨fb, i, none⟩ v) := (Kp.refl (fun q => q = (9, 1)) K wr).setCell (b := fb) (Or.inr h.fr.kind) _ _
  exact ⟨h.z.kp m (by simp) (by simp) (by simp) (by simp), h.pl.kept m (by simp), ⟨C.block_set h.fr.blk v, h.fr.kind⟩, h.wt.kp m (by simp)⟩
theorem kpf (hb : Below wr.heap.size wr w2) (K : Knd) (kd : Nat × Nat) : Kp (fun _ => False) K (ext K wr.heap.size kd) wr w2 := kp_below hb _ _ _
theorem kp91 {fb i : Nat} {v : Value} (hk : K fb = (9, 1)) : Kp (fun q => q = (9, 1)) K K wr (wr.setCell ⟨fb, i, none⟩ v) := (Kp.refl (fun q => q = (9, 1)) K wr).setCell (b := fb) (Or.inr hk) _ _
end
theorem Fz.more {w wr w2 : World} {K K' : Knd} {bb lb : Nat} {G V G' V' : Value} {xs xs' : List Q.Gt} (h : Fz w wr K bb lb G V xs) (hl : Q.Lt K' w2 lb G' V' xs') (m : Kp (fun q => q = (6, 0)) K K' wr w2) : Fz w w2 K' bb lb G' V' xs' :=
  ⟨m.below h.bel (fun b hb => by rw [h.kz b hb]; simp), fun b hb => (m.same b (Nat.lt_of_lt_of_le hb h.bel.size)).trans (h.kz b hb), hl, h.book.keep m (by simp) (by simp) (fun q e => by rw [e]; simp)⟩
theorem Fi.more {w wr w2 : World} {K K' : Knd} {bb lb pb : Nat} {G V G' V' : Value} {xs xs' : List Q.Gt} {fb : Nat} {cs : Array Value} {wa : Option Addr} {E : List Nat} (h : Fi w wr K bb lb pb G V xs fb cs wa E) (hl : Q.Lt K' w2 lb G' V' xs') (m : Kp (fun q => q = (6, 0)) K K' wr w2) : Fi w w2 K' bb lb pb G' V' xs' fb cs wa E :=
  ⟨h.z.more hl m, h.pl.kept m (by simp), h.fr.kp m (by simp), h.wt.kp m (by simp)⟩
theorem drew_below (w : World) (q : Nat) : Below w.heap.size w (w.drewN q) := Q.bad_drews w q
theorem Tryz.builtBook : Tryz.prog.built 47 [] = some U.bk0 := by kernel_rfl
theorem book_build {o : Oper} {a : Act} {w : World} {K : Act → World → Prop} {Q : Exit → Act → World → Prop} (ho : o.op = .build 47 #[]) (h : K (a.put o.dst (.agg U.bk0)) w) : o.wp Tryz.prog a w K Q := by
  have e0 : (#[].map fun (i, x) => (i, a.eval x)).toList = ([] : List (Nat × Value)) := by simp
  refine wp_build 47 #[] ho ?_ ?_
  · rw [e0, Tryz.builtBook]; rfl
  · rw [e0, Tryz.builtBook]; exact h
theorem lt_nil {K : Knd} {w : World} {t : Nat} (h : w.heap[t]? = some (.cells #[.slice none 0 0, .slice none 0 0] 50 (0, 0))) (hk : K t = (6, 0)) : Q.Lt K w t (.slice none 0 0) (.slice none 0 0) [] :=
  ⟨h, ⟨rfl, Or.inl ⟨rfl, rfl⟩⟩, ⟨rfl, Or.inl ⟨rfl, rfl⟩⟩, fun g e => (by simp [Value.ownBlock] at e), fun _ h => (by cases h), fun _ h => (by cases h), fun _ h => (by cases h), fun _ h => (by cases h), hk, fun g e => (by simp [Value.ownBlock] at e), fun g e => (by simp [Value.ownBlock] at e), fun j x h => (by simp at h)⟩
theorem Frs.at {w : World} {sp : Option Addr} {es : List Fe} (h : Frs w sp es) {i : Nat} {e : Fe} (he : es[i]? = some e) : ∃ g o, sp = some ⟨g, o, none⟩ ∧ g < w.heap.size ∧ FeOk w e ∧ w.cell? ⟨g, o + i * 7, none⟩ = some (.int .i64 e.f.fr) ∧ w.cell? ⟨g, o + i * 7 + 1, none⟩ = some (.int .i64 e.f.tt) ∧ w.cell? ⟨g, o + i * 7 + 2, none⟩ = some (.int .u64 (e.f.mine : Int)) ∧ w.cell? ⟨g, o + i * 7 + 3, none⟩ = some (.int .u64 (e.f.yours : Int)) ∧ w.cell? ⟨g, o + i * 7 + 4, none⟩ = some (.int .u64 (e.f.seq : Int)) ∧ w.cell? ⟨g, o + i * 7 + 5, none⟩ = some (.int .u64 (e.f.ack : Int)) ∧ w.cell? ⟨g, o + i * 7 + 6, none⟩ = some (.slice e.p e.f.body.length e.c) := by
  obtain ⟨g, o, h1, h2, h3, h4⟩ := h i e he
  exact ⟨g, o, h1, h2, h4, h3 0 _ rfl, h3 1 _ rfl, h3 2 _ rfl, h3 3 _ rfl, h3 4 _ rfl, h3 5 _ rfl, h3 6 _ rfl⟩
end Go.Proofs.YtjjhpffkeloadaaGreatDoor
