import Derived.Test.YtjcdnclfakmbpaaGreatDoorDkD
import Derived.Test.YtjcdnclfakmbpaaGreatDoorPwP
import Derived.Test.YtjcdnclfakmbpaaGreatDoorLkK
import Derived.Test.YtjcdnclfakmbpaaGreatDoorMbB
namespace Go.Proofs.YtjcdnclfakmbpaaGreatDoor
open Go.RowKit
structure Rz (w wr : World) (K : Knd) (bb lb b : Nat) (G V : Value) (xs : List Q.Gt) (L : Lk) (rv : Value) (n : Nat) : Prop where
  bel : Below w.heap.size w wr
  kz : ∀ x, x < w.heap.size → K x = (0, 0)
  late : Q.Lt K wr lb G V xs
  book : ∃ L0 M0 A turn done used ks, Q.Bt (fun q => q = (5, 2)) K wr bb L0 M0 A turn done used ks ∧ Q.Jn A turn done used ks n
  lw : Lw wr b L rv
  kb : K b = (1, 0)
  kr : ∀ g, rv.ownBlock = some g → K g = (1, 0)
section
variable {w wr w2 : World} {K K' : Knd} {bb lb b : Nat} {G V G' V' : Value} {xs xs' : List Q.Gt} {L L' : Lk} {rv rv' : Value} {n : Nat} {p : Nat × Nat → Prop}
end
structure Rop where
  kind : Int
  on : Int
  bp : Option Addr
  bc : Nat
  body : List Nat
  fe : Fe
  pick : Int
  life : Int
def opC (r : Rop) : List Value := [.int .i64 r.kind, .int .i64 r.on, .slice r.bp r.body.length r.bc, .int .i64 r.fe.f.fr, .int .i64 r.fe.f.tt, .int .u64 (r.fe.f.mine : Int), .int .u64 (r.fe.f.yours : Int), .int .u64 (r.fe.f.seq : Int), .int .u64 (r.fe.f.ack : Int), .slice r.fe.p r.fe.f.body.length r.fe.c, .int .i64 r.pick, .int .u64 r.life]
structure RopOk (w : World) (r : Rop) : Prop where
  by_ : Bytes w r.bp r.body
  len : r.body.length ≤ 140737488351232
  fe : FeOk w r.fe
def Rops (w : World) (sp : Option Addr) (rs : List Rop) : Prop := ∀ i r, rs[i]? = some r → ∃ g o, sp = some ⟨g, o, none⟩ ∧ g < w.heap.size ∧ (∀ (j : Nat) (v : Value), (opC r)[j]? = some v → w.cell? ⟨g, o + i * 12 + j, none⟩ = some v) ∧ RopOk w r
theorem Rops.below {w w' : World} {sp : Option Addr} {rs : List Rop} (h : Rops w sp rs) (hb : Below w.heap.size w w') : Rops w' sp rs := fun i e he => by
  obtain ⟨g, o, h1, h2, h3, h4⟩ := h i e he
  exact ⟨g, o, h1, Nat.lt_of_lt_of_le h2 hb.size, fun j v hv => (hb.cell (p := ⟨g, o + i * 12 + j, none⟩) h2).trans (h3 j v hv), ⟨h4.by_.below hb, h4.len, ⟨h4.fe.by_.below hb, h4.fe.len⟩⟩⟩
theorem Tryz.builtBook : Tryz.prog.built 70 [] = some U.bk0 := by kernel_rfl
theorem book_build {o : Oper} {a : Act} {w : World} {K : Act → World → Prop} {Q : Exit → Act → World → Prop} (ho : o.op = .build 70 #[]) (h : K (a.put o.dst (.agg U.bk0)) w) : o.wp Tryz.prog a w K Q := by
  have e0 : (#[].map fun (i, x) => (i, a.eval x)).toList = ([] : List (Nat × Value)) := by simp
  refine wp_build 70 #[] ho ?_ ?_
  · rw [e0, Tryz.builtBook]; rfl
  · rw [e0, Tryz.builtBook]; exact h
theorem late_nil {K : Knd} {w : World} {t : Nat} (h : w.heap[t]? = some (.cells #[.slice none 0 0, .slice none 0 0] 72 (0, 0))) (hk : K t = (6, 0)) : Q.Lt K w t (.slice none 0 0) (.slice none 0 0) [] :=
  ⟨h, ⟨rfl, Or.inl ⟨rfl, rfl⟩⟩, ⟨rfl, Or.inl ⟨rfl, rfl⟩⟩, fun g e => (by simp [Value.ownBlock] at e), fun _ h => (by cases h), fun _ h => (by cases h), fun _ h => (by cases h), fun _ h => (by cases h), hk, fun g e => (by simp [Value.ownBlock] at e), fun g e => (by simp [Value.ownBlock] at e), fun j x h => (by simp at h)⟩
end Go.Proofs.YtjcdnclfakmbpaaGreatDoor
