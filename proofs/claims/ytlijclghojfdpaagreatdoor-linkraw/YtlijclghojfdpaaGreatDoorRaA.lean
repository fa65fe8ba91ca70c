import Derived.Test.YtlijclghojfdpaaGreatDoorHeB
import Derived.Test.YtlijclghojfdpaaGreatDoorQSc
import Derived.Test.YtlijclghojfdpaaGreatDoorLkK
import Derived.Test.YtlijclghojfdpaaGreatDoorLqB
namespace Go.Proofs.YtlijclghojfdpaaGreatDoor
open Go.RowKit

/-! A link of any numbers -/
structure Rn (L : Lk) (i : Nat) : Prop where
  row : L.row.length ≤ i
  num : L.numbered ≤ i
  hand : L.handed ≤ i
  pok : L.Pok
  win : 0 ≤ L.window
theorem rn_new (me other : Int) (life : Nat) (window most : Int) : Rn (Lk.new me other life window most) 0 := by
  refine ⟨Nat.zero_le _, Nat.zero_le _, Nat.zero_le _, ⟨Nat.zero_le _, ?_, ?_⟩, by show 0 ≤ max window 0; omega⟩
  · show (if 1 ≤ most ∧ most ≤ 64 then 1 else 0) ≤ 64
    split <;> omega
  · intro m hm
    have h : (if 1 ≤ most ∧ most ≤ 64 then some most.toNat else none) = some m := hm
    split at h
    · injection h with h; omega
    · cases h
theorem Rn.up {L : Lk} {i : Nat} (h : Rn L i) : Rn L (i + 1) := ⟨Nat.le_succ_of_le h.row, Nat.le_succ_of_le h.num, Nat.le_succ_of_le h.hand, h.pok, h.win⟩
theorem Rn.reset {L : Lk} {i : Nat} (h : Rn L i) : Rn (lreset L) i := ⟨h.row, h.num, h.hand, ⟨by show 0 ≤ 64; omega, by show 1 ≤ 64; omega, h.pok.m⟩, h.win⟩
theorem Rn.send {L : Lk} {i : Nat} (h : Rn L i) (s : ByteArray) : Rn (sendN L s) (i + 1) := by
  have h1 : Rn (sendL L) i := by
    unfold sendL
    split
    · exact h.reset
    · exact h
  have h2 := h.row
  have h3 := h.num
  exact ⟨by show (L.row ++ [(L.numbered + 1, s)]).length ≤ i + 1; simp; omega, by show L.numbered + 1 ≤ i + 1; omega, Nat.le_succ_of_le h1.hand, ⟨h1.pok.l, h1.pok.g, h1.pok.m⟩, h1.win⟩
theorem Rn.owe {L : Lk} {i : Nat} (h : Rn L i) : Rn { L with asked := true } i := ⟨h.row, h.num, h.hand, ⟨h.pok.l, h.pok.g, h.pok.m⟩, h.win⟩
theorem Rn.hear1 {L : Lk} {i : Nat} (h : Rn L i) (mine : Nat) : Rn (hear1 L mine) i := by
  unfold Go.Proofs.YtlijclghojfdpaaGreatDoor.hear1
  split
  · exact ⟨Nat.zero_le _, Nat.zero_le _, Nat.zero_le _, ⟨by show 0 ≤ 64; omega, by show 1 ≤ 64; omega, h.pok.m⟩, h.win⟩
  · exact h
theorem Rn.paced {L : Lk} {i : Nat} (h : Rn L i) (p : Bool) : Rn { L with paced := p } i := ⟨h.row, h.num, h.hand, ⟨h.pok.l, h.pok.g, h.pok.m⟩, h.win⟩
theorem Rn.ack {L : Lk} {i : Nat} (h : Rn L i) (a : Nat) : Rn (ackL L a) i := by
  unfold ackL
  split
  · have h1 := h.row
    exact ⟨by show (L.row.drop _).length ≤ i; rw [List.length_drop]; omega, h.num, h.hand, ⟨h.pok.l, h.pok.g, h.pok.m⟩, h.win⟩
  · exact h
theorem Rn.body {L : Lk} {i : Nat} (h : Rn L i) (seq : Nat) : Rn (bodyL L seq) (i + 1) := by
  have h1 := h.hand
  unfold bodyL
  split
  · exact h.up
  · split
    · exact ⟨Nat.le_succ_of_le h.row, Nat.le_succ_of_le h.num, by show L.handed + 1 ≤ i + 1; omega, ⟨h.pok.l, h.pok.g, h.pok.m⟩, h.win⟩
    · exact ⟨Nat.le_succ_of_le h.row, Nat.le_succ_of_le h.num, Nat.le_succ_of_le h.hand, ⟨h.pok.l, h.pok.g, h.pok.m⟩, h.win⟩
theorem Rn.hear {L : Lk} {i : Nat} (h : Rn L i) (mine yours seq ack : Nat) : Rn (hrL L mine yours seq ack) (i + 1) := by
  unfold hrL
  split
  · exact (((h.hear1 mine).paced false).ack ack).body seq
  · exact ((h.hear1 mine).paced true).up
theorem Rn.ltick {L : Lk} {i : Nat} (h : Rn L i) : Rn (ltick L) i := by
  obtain ⟨h1, h2, h3, ⟨p1, p2, p3⟩, h5⟩ := h
  unfold Go.Proofs.YtlijclghojfdpaaGreatDoor.ltick
  split
  · exact ⟨h1, h2, h3, ⟨by show L.left - 1 ≤ 64; omega, p2, p3⟩, h5⟩
  · refine ⟨h1, h2, h3, ⟨p2, ?_, p3⟩, h5⟩
    show (match L.lim with | none => L.gap | some m => min (2 * L.gap) m) ≤ 64
    cases hm : L.lim with
    | none => exact p2
    | some m => have := p3 m hm; show min (2 * L.gap) m ≤ 64; omega
theorem Rn.tick {L : Lk} {i : Nat} (h : Rn L i) : Rn (tickL L) i := by
  have h1 : Rn (tkR L) i := by
    unfold tkR
    split
    · exact h.ltick
    · exact h
  have h2 : Rn (bodL L) i := ⟨h1.row, h1.num, h1.hand, ⟨h1.pok.l, h1.pok.g, h1.pok.m⟩, h1.win⟩
  unfold tickL
  split
  · exact h2
  · exact ⟨h2.row, h2.num, h2.hand, ⟨h2.pok.l, h2.pok.g, h2.pok.m⟩, h2.win⟩
theorem mid_len (L : Lk) : (midO L).length ≤ L.row.length + 1 := by
  unfold midO
  split
  · split
    · simp
    · simp
  · have h1 := outs_len L (tmL L) L.gone (inWin L)
    have h2 : (inWin L).length ≤ L.row.length := by
      unfold inWin
      split
      · simp
      · simp; omega
    show (bodO L).length ≤ _
    unfold bodO
    omega
def tri : Nat → Nat
  | 0 => 0
  | n + 1 => tri n + n + 2
theorem tri_le : ∀ (a b : Nat), a ≤ b → tri a ≤ tri b
  | a, 0, h => by have : a = 0 := by omega
                  subst this; exact Nat.le_refl _
  | a, b + 1, h => by
    by_cases e : a = b + 1
    · subst e; exact Nat.le_refl _
    · have := tri_le a b (by omega)
      show tri a ≤ tri b + b + 2
      omega
theorem tri_most (i : Nat) (h : i ≤ 150) : tri i ≤ 11475 := by
  have h1 := tri_le i 150 h
  have h2 : tri 150 = 11475 := by kernel_rfl
  omega

/-- What LinkRaw keeps: its Late, its Book, its link. -/
structure Rz (w wr : World) (K : Knd) (bb lb b : Nat) (G V : Value) (xs : List Q.Gt) (L : Lk) (rv : Value) (n : Nat) : Prop where
  bel : Below w.heap.size w wr
  kz : ∀ x, x < w.heap.size → K x = (0, 0)
  late : Q.Lt K wr lb G V xs
  book : ∃ L0 M0 A turn done used ks, Q.Bt (fun q => q = (5, 2)) K wr bb L0 M0 A turn done used ks ∧ Q.Jn A turn done used ks n
  lw : Lw wr b L rv
  kb : K b = (1, 0)
  kr : ∀ g, rv.ownBlock = some g → K g = (1, 0)
section
variable {w wr w2 : World} {K K' : Knd} {bb lb b : Nat} {G V G' V' : Value} {xs xs' : List Q.Gt} {L L' : Lk} {rv rv' : Value} {n : Nat} {p : Nat × Nat → Prop}
theorem Lw.kp (h : Lw wr b L rv) (hb : K b = (1, 0)) (hr : ∀ g, rv.ownBlock = some g → K g = (1, 0)) (m : Kp p K K' wr w2) (h1 : ¬ p (1, 0)) : Lw w2 b L rv :=
  ⟨h.lb.kept (m.block b (C.lt_of_block h.lb) (by rw [hb]; exact h1)), h.row.same (fun g hg => m.block g (h.row.lt g hg).2 (by rw [hr g hg]; exact h1))⟩
theorem Rz.kp (h : Rz w wr K bb lb b G V xs L rv n) (m : Kp p K K' wr w2) (h0 : ¬ p (0, 0)) (h1 : ¬ p (1, 0)) (h5 : ∀ j, ¬ p (5, j)) (h6 : ¬ p (6, 0)) (h7 : ∀ j, j < xs.length → ¬ p (7, j)) : Rz w w2 K' bb lb b G V xs L rv n := by
  obtain ⟨L0, M0, A, turn, done, used, ks, hbt, hjn⟩ := h.book
  exact ⟨m.below h.bel (fun x hx => by rw [h.kz x hx]; exact h0), fun x hx => (m.same x (Nat.lt_of_lt_of_le hx h.bel.size)).trans (h.kz x hx), h.late.keep m h6 h7,
    ⟨L0, M0, A, turn, done, used, ks, hbt.keep m (h5 1) (h5 2) (fun q e => by rw [e]; exact h5 2), hjn⟩, h.lw.kp h.kb h.kr m h1, (m.same b (C.lt_of_block h.lw.lb)).trans h.kb, fun g hg => (m.same g (h.lw.row.lt g hg).2).trans (h.kr g hg)⟩
theorem kfz (hb : Below wr.heap.size wr w2) (K : Knd) (kd : Nat × Nat) : Kp (fun _ => False) K (ext K wr.heap.size kd) wr w2 := kp_below hb _ _ _
theorem Rz.below (h : Rz w wr K bb lb b G V xs L rv n) (hb : Below wr.heap.size wr w2) (kd : Nat × Nat) : Rz w w2 (ext K wr.heap.size kd) bb lb b G V xs L rv n :=
  h.kp (kfz hb K kd) (fun e => e) (fun e => e) (fun _ e => e) (fun e => e) (fun _ _ e => e)
theorem Rz.more (h : Rz w wr K bb lb b G V xs L rv n) (hl : Q.Lt K' w2 lb G' V' xs') (m : Kp (fun q => q = (6, 0)) K K' wr w2) : Rz w w2 K' bb lb b G' V' xs' L rv n := by
  obtain ⟨L0, M0, A, turn, done, used, ks, hbt, hjn⟩ := h.book
  exact ⟨m.below h.bel (fun x hx => by rw [h.kz x hx]; simp), fun x hx => (m.same x (Nat.lt_of_lt_of_le hx h.bel.size)).trans (h.kz x hx), hl,
    ⟨L0, M0, A, turn, done, used, ks, hbt.keep m (by simp) (by simp) (fun q e => by rw [e]; simp), hjn⟩, h.lw.kp h.kb h.kr m (by simp), (m.same b (C.lt_of_block h.lw.lb)).trans h.kb, fun g hg => (m.same g (h.lw.row.lt g hg).2).trans (h.kr g hg)⟩
theorem kp_tw {v : Option Nat} (h : Tw b v wr w2) (hb : K b = (1, 0)) (hv : ∀ g, v = some g → K g = (1, 0)) (hK : ∀ x, x < wr.heap.size → K' x = K x) : Kp (fun q => q = (1, 0)) K K' wr w2 :=
  ⟨h.os, h.tape, h.output, h.size, hK, fun x hx hn => h.block x hx (fun e => hn (by rw [e]; exact hb)) (fun e => hn (hv x e.symm))⟩
/-- The link has turned. -/
theorem Rz.turn (h : Rz w wr K bb lb b G V xs L rv n) (hl : Lw w2 b L' rv') (ht : Tw b rv.ownBlock wr w2) (hK : ∀ x, x < wr.heap.size → K' x = K x) (hr : ∀ g, rv'.ownBlock = some g → rv.ownBlock = some g ∨ K' g = (1, 0)) : Rz w w2 K' bb lb b G V xs L' rv' n := by
  have m := kp_tw (K' := K') ht h.kb h.kr hK
  obtain ⟨L0, M0, A, turn, done, used, ks, hbt, hjn⟩ := h.book
  refine ⟨m.below h.bel (fun x hx => by rw [h.kz x hx]; simp), fun x hx => (m.same x (Nat.lt_of_lt_of_le hx h.bel.size)).trans (h.kz x hx), h.late.keep m (by simp) (by simp),
    ⟨L0, M0, A, turn, done, used, ks, hbt.keep m (by simp) (by simp) (fun q e => by rw [e]; simp), hjn⟩, hl, (m.same b (C.lt_of_block h.lw.lb)).trans h.kb, fun g hg => ?_⟩
  rcases hr g hg with q | q
  · exact (m.same g (h.lw.row.lt g q).2).trans (h.kr g q)
  · exact q
theorem Rz.lt (h : Rz w wr K bb lb b G V xs L rv n) : b < wr.heap.size := C.lt_of_block h.lw.lb
end
/-- What was lent. -/
structure Lr2 (w : World) (K : Knd) (g c : Nat) (E : List Nat) : Prop where
  own : U.Own 0 w g c (E ++ U.marks)
  kind : K g = (9, 2)
theorem Lr2.kp {w w2 : World} {K K' : Knd} {g c : Nat} {E : List Nat} {p : Nat × Nat → Prop} (h : Lr2 w K g c E) (m : Kp p K K' w w2) (hp : ¬ p (9, 2)) : Lr2 w2 K' g c E := by
  refine ⟨?_, (m.same g h.own.lt).trans h.kind⟩
  obtain ⟨C0, hC, hc⟩ := h.own.row
  exact ⟨h.own.base, h.own.cap, h.own.small, C0, (m.block g (C.lt_of_block hC) (by rw [h.kind]; exact hp)).trans hC, hc⟩
theorem Lr2.new {w w2 : World} {K : Knd} {g c n : Nat} {E : List Nat} (h : w2.ownsRow w.heap.size 5 1 (.slice (some ⟨g, 0, none⟩) n c) n (vals (E ++ U.marks))) (hs : ∀ x ∈ E, x < 256) : Lr2 w2 (ext K w.heap.size (9, 2)) g c E := by
  have ho := U.own_full (fun x hx => by
    rcases List.mem_append.1 hx with e | e
    · exact hs x e
    · exact U.marks_small x e) h
  exact ⟨ho.mono (Nat.zero_le _), ext_new _ _ ho.base⟩
/-- A step, as it came in. -/
structure Rop where
  kind : Int
  on : Int
  bp : Option Addr
  bc : Nat
  body : List Nat
  fe : Fe
  pick : Int
  life : Int
def opC (r : Rop) : List Value := [.int .i64 r.kind, .int .i64 r.on, .slice r.bp r.body.length r.bc, .int .i64 r.fe.f.fr, .int .i64 r.fe.f.tt, .int .u64 (r.fe.f.mine : Int), .int .u64 (r.fe.f.yours : Int), .int .u64 (r.fe.f.seq : Int), .int .u64 (r.fe.f.ack : Int), .slice r.fe.p r.fe.f.body.length r.fe.c, .int .i64 r.pick, .int .u64 r.life]
structure RopOk (w : World) (r : Rop) : Prop where
  by_ : Bytes w r.bp r.body
  len : r.body.length ≤ 140737488351232
  fe : FeOk w r.fe
def Rops (w : World) (sp : Option Addr) (rs : List Rop) : Prop := ∀ i r, rs[i]? = some r → ∃ g o, sp = some ⟨g, o, none⟩ ∧ g < w.heap.size ∧ (∀ (j : Nat) (v : Value), (opC r)[j]? = some v → w.cell? ⟨g, o + i * 12 + j, none⟩ = some v) ∧ RopOk w r
theorem Rops.below {w w' : World} {sp : Option Addr} {rs : List Rop} (h : Rops w sp rs) (hb : Below w.heap.size w w') : Rops w' sp rs := fun i e he => by
  obtain ⟨g, o, h1, h2, h3, h4⟩ := h i e he
  exact ⟨g, o, h1, Nat.lt_of_lt_of_le h2 hb.size, fun j v hv => (hb.cell (p := ⟨g, o + i * 12 + j, none⟩) h2).trans (h3 j v hv), ⟨h4.by_.below hb, h4.len, ⟨h4.fe.by_.below hb, h4.fe.len⟩⟩⟩
theorem owns_low0 {w : World} {B n s : Nat} {e : TypeId} {v : Value} {xs : List Value} (h : w.ownsRow B e s v n xs) : w.ownsRow 0 e s v n xs := by
  refine ⟨h.1, h.2.imp id ?_⟩
  rintro ⟨g, cap, cur, e1, _, r⟩
  exact ⟨g, cap, cur, e1, Nat.zero_le _, r⟩
theorem Tryz.builtBook : Tryz.prog.built 50 [] = some U.bk0 := by kernel_rfl
theorem book_build {o : Oper} {a : Act} {w : World} {K : Act → World → Prop} {Q : Exit → Act → World → Prop} (ho : o.op = .build 50 #[]) (h : K (a.put o.dst (.agg U.bk0)) w) : o.wp Tryz.prog a w K Q := by
  have e0 : (#[].map fun (i, x) => (i, a.eval x)).toList = ([] : List (Nat × Value)) := by simp
  refine wp_build 50 #[] ho ?_ ?_
  · rw [e0, Tryz.builtBook]; rfl
  · rw [e0, Tryz.builtBook]; exact h
theorem late_nil {K : Knd} {w : World} {t : Nat} (h : w.heap[t]? = some (.cells #[.slice none 0 0, .slice none 0 0] 53 (0, 0))) (hk : K t = (6, 0)) : Q.Lt K w t (.slice none 0 0) (.slice none 0 0) [] :=
  ⟨h, ⟨rfl, Or.inl ⟨rfl, rfl⟩⟩, ⟨rfl, Or.inl ⟨rfl, rfl⟩⟩, fun g e => (by simp [Value.ownBlock] at e), fun _ h => (by cases h), fun _ h => (by cases h), fun _ h => (by cases h), fun _ h => (by cases h), hk, fun g e => (by simp [Value.ownBlock] at e), fun g e => (by simp [Value.ownBlock] at e), fun j x h => (by simp at h)⟩
/-- Kinds for the answers of a tick. -/
theorem kinds_out (K : Knd) (s base : Nat) (vs : List Value) (hd : ∀ (i j g l k l2 k2 : Nat), vs[i]? = some (.slice (some ⟨g, 0, none⟩) l k) → vs[j]? = some (.slice (some ⟨g, 0, none⟩) l2 k2) → i = j) :
    ∃ K' : Knd, (∀ x, x < s → K' x = K x) ∧ (∀ (j g l k : Nat), s ≤ g → vs[j]? = some (.slice (some ⟨g, 0, none⟩) l k) → K' g = (7, base + j)) ∧ ∀ x, s ≤ x → K' x = (9, 9) ∨ ∃ j l k : Nat, K' x = (7, base + j) ∧ vs[j]? = some (.slice (some ⟨x, 0, none⟩) l k) := by
  classical
  refine ⟨fun x => if x < s then K x else if h : ∃ j l k : Nat, vs[j]? = some (.slice (some ⟨x, 0, none⟩) l k) then (7, base + h.choose) else (9, 9), fun x hx => by simp [hx], fun j g l k hg hv => ?_, fun x hx => ?_⟩
  · have h : ∃ j l k : Nat, vs[j]? = some (Value.slice (some ⟨g, 0, none⟩) l k) := ⟨j, l, k, hv⟩
    obtain ⟨l2, k2, h2⟩ := h.choose_spec
    have e := hd _ _ _ _ _ _ _ h2 hv
    show (if g < s then K g else if h : ∃ j l k : Nat, vs[j]? = some (.slice (some ⟨g, 0, none⟩) l k) then (7, base + h.choose) else (9, 9)) = _
    rw [if_neg (by omega), dif_pos h, e]
  · show (if x < s then K x else if h : ∃ j l k : Nat, vs[j]? = some (.slice (some ⟨x, 0, none⟩) l k) then (7, base + h.choose) else (9, 9)) = (9, 9) ∨ ∃ j l k : Nat, (if x < s then K x else if h : ∃ j l k : Nat, vs[j]? = some (.slice (some ⟨x, 0, none⟩) l k) then (7, base + h.choose) else (9, 9)) = (7, base + j) ∧ _
    by_cases h : ∃ j l k : Nat, vs[j]? = some (Value.slice (some ⟨x, 0, none⟩) l k)
    · right
      obtain ⟨l2, k2, h2⟩ := h.choose_spec
      refine ⟨h.choose, l2, k2, ?_, h2⟩
      rw [if_neg (by omega), dif_pos h]
    · left
      rw [if_neg (by omega), dif_neg h]
end Go.Proofs.YtlijclghojfdpaaGreatDoor
