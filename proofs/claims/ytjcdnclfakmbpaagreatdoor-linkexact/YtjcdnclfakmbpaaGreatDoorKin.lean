import Derived.Maps.RangeWalk
import Derived.Deep.AppendLies
import Derived.Deep.RegionHeld3
import Derived.Deep.DrawnRows
import Derived.Deep.QuietTactic
import Derived.BigQuiet
import Derived.OwnWalk
import Derived.Laws.OwnMore
import Derived.Test.YtjcdnclfakmbpaaGreatDoorBase
namespace Go.Proofs.YtjcdnclfakmbpaaGreatDoor
open Go.RowKit
theorem hide {p : Prop} (h : p) : Hid p := h
abbrev Knd := Nat → Nat × Nat
structure Kp (p : Nat × Nat → Prop) (K K' : Knd) (w w' : World) : Prop where
  os : w'.os = w.os
  tape : w'.tape = w.tape
  output : w'.output = w.output
  size : w.heap.size ≤ w'.heap.size
  same : ∀ b, b < w.heap.size → K' b = K b
  block : ∀ b, b < w.heap.size → ¬ p (K b) → w'.heap[b]? = w.heap[b]?
theorem Kp.refl (p : Nat × Nat → Prop) (K : Knd) (w : World) : Kp p K K w w := ⟨rfl, rfl, rfl, Nat.le_refl _, fun _ _ => rfl, fun _ _ _ => rfl⟩
theorem Kp.trans {p : Nat × Nat → Prop} {K1 K2 K3 : Knd} {w1 w2 w3 : World} (h : Kp p K1 K2 w1 w2) (k : Kp p K2 K3 w2 w3) : Kp p K1 K3 w1 w3 :=
  ⟨k.os.trans h.os, k.tape.trans h.tape, k.output.trans h.output, Nat.le_trans h.size k.size, fun b hb => (k.same b (Nat.lt_of_lt_of_le hb h.size)).trans (h.same b hb),
    fun b hb hn => (k.block b (Nat.lt_of_lt_of_le hb h.size) (by rw [h.same b hb]; exact hn)).trans (h.block b hb hn)⟩
theorem Kp.mono {p q : Nat × Nat → Prop} {K K' : Knd} {w w' : World} (h : Kp p K K' w w') (hpq : ∀ k, p k → q k) : Kp q K K' w w' :=
  ⟨h.os, h.tape, h.output, h.size, h.same, fun b hb hn => h.block b hb (fun e => hn (hpq _ e))⟩
def ext (K : Knd) (n : Nat) (k : Nat × Nat) : Knd := fun b => if b < n then K b else k
theorem ext_old (K : Knd) {n b : Nat} (k : Nat × Nat) (h : b < n) : ext K n k b = K b := by simp [ext, h]
theorem ext_new (K : Knd) {n b : Nat} (k : Nat × Nat) (h : n ≤ b) : ext K n k b = k := by simp [ext, Nat.not_lt.2 h]
theorem kp_below {w w' : World} (h : Below w.heap.size w w') (p : Nat × Nat → Prop) (K : Knd) (k : Nat × Nat) : Kp p K (ext K w.heap.size k) w w' :=
  ⟨h.os, h.tape, h.output, h.size, fun _ hb => ext_old K k hb, fun b hb _ => h.block b hb⟩
theorem kp_grown {w w' : World} {r : Option Nat} (h : w.grownBy w' r) (K : Knd) (k k' : Nat × Nat) (p : Nat × Nat → Prop) (hr : ∀ g, r = some g → K g = k) (hp : p k) : Kp p K (ext K w.heap.size k') w w' :=
  ⟨h.os, h.tape, h.output, h.size, fun _ hb => ext_old K k' hb, fun b hb hn => h.block b hb (fun e => hn (by rw [hr b e.symm]; exact hp))⟩
theorem Kp.below {p : Nat × Nat → Prop} {K K' : Knd} {W w w' : World} (h : Kp p K K' w w') (hb : Below W.heap.size W w) (hk : ∀ b, b < W.heap.size → ¬ p (K b)) : Below W.heap.size W w' :=
  ⟨h.os.trans hb.os, h.tape.trans hb.tape, h.output.trans hb.output, Nat.le_trans hb.size h.size, fun b hlt => (h.block b (Nat.lt_of_lt_of_le hlt hb.size) (hk b hlt)).trans (hb.block b hlt)⟩
theorem Kp.setCell {p : Nat × Nat → Prop} {K K' : Knd} {w w' : World} (h : Kp p K K' w w') {b : Nat} (hb : w.heap.size ≤ b ∨ p (K b)) (i : Nat) (v : Value) : Kp p K K' w (w'.setCell ⟨b, i, none⟩ v) :=
  ⟨h.os, h.tape, h.output, by simpa [World.setCell] using h.size, h.same, fun c hc hn => by
    rw [Below.heap_setCell _ _ _ _ (by rintro rfl; rcases hb with e | e; exact absurd hc (by simpa using e); exact hn e)]; exact h.block c hc hn⟩
theorem Kp.drew {p : Nat × Nat → Prop} {K K' : Knd} {w w' : World} (h : Kp p K K' w w') : Kp p K K' w w'.drew := ⟨h.os, h.tape, h.output, h.size, h.same, h.block⟩
structure Rk (w : World) (K : Knd) (k : Nat × Nat) (e : TypeId) (s : Nat) (v : Value) (n : Nat) (xs : List Value) : Prop where
  own : w.ownsRow 0 e s v n xs
  kind : ∀ g, v.ownBlock = some g → K g = k
theorem rk_lt {w : World} {e : TypeId} {s n : Nat} {v : Value} {xs : List Value} {B : Nat} (h : w.ownsRow B e s v n xs) {g : Nat} (hg : v.ownBlock = some g) : g < w.heap.size := by
  rcases h.2 with ⟨h1, _⟩ | ⟨g', cap, cur, h1, _, hg', _⟩
  · rw [h1] at hg; simp [Value.ownBlock] at hg
  · rw [h1] at hg; simp [Value.ownBlock] at hg; subst hg; exact lt_of_block hg'
theorem owns_same {w w' : World} {e : TypeId} {s n : Nat} {v : Value} {xs : List Value} {B : Nat} (h : w.ownsRow B e s v n xs) (hs : ∀ g, v.ownBlock = some g → w'.heap[g]? = w.heap[g]?) : w'.ownsRow B e s v n xs := by
  refine ⟨h.1, h.2.imp id ?_⟩
  rintro ⟨g, cap, cur, h1, h2, h3, r⟩
  exact ⟨g, cap, cur, h1, h2, (hs g (by rw [h1]; rfl)).trans h3, r⟩
theorem Rk.kept {p : Nat × Nat → Prop} {K K' : Knd} {w w' : World} {k : Nat × Nat} {e : TypeId} {s n : Nat} {v : Value} {xs : List Value} (h : Rk w K k e s v n xs) (hk : Kp p K K' w w') (hp : ¬ p k) : Rk w' K' k e s v n xs :=
  ⟨owns_same h.own (fun g hg => hk.block g (rk_lt h.own hg) (by rw [h.kind g hg]; exact hp)), fun g hg => (hk.same g (rk_lt h.own hg)).trans (h.kind g hg)⟩
theorem rk_nil (w : World) (K : Knd) (k : Nat × Nat) (e : TypeId) (s : Nat) : Rk w K k e s (.slice none 0 0) 0 [] := ⟨⟨by simp, Or.inl ⟨rfl, rfl⟩⟩, fun g hg => by simp [Value.ownBlock] at hg⟩
theorem Rk.grown {w w' : World} {K : Knd} {k : Nat × Nat} {e : TypeId} {s n n' : Nat} {v v' : Value} {xs xs' : List Value} (h : Rk w K k e s v n xs) (ho : w'.ownsRow 0 e s v' n' xs') (hat : v'.ownBlock = v.ownBlock ∨ ∃ g, v'.ownBlock = some g ∧ w.heap.size ≤ g) :
    Rk w' (ext K w.heap.size k) k e s v' n' xs' :=
  ⟨ho, fun g hg => by
    rcases hat with e1 | ⟨g', e1, e2⟩
    · have hg' := hg
      rw [e1] at hg'
      rw [ext_old K k (rk_lt h.own hg')]; exact h.kind g hg'
    · rw [e1] at hg; cases hg; exact ext_new K k e2⟩
theorem Rk.form {w : World} {K : Knd} {k : Nat × Nat} {e : TypeId} {s n : Nat} {v : Value} {xs : List Value} (h : Rk w K k e s v n xs) : ∃ a c, v = .slice a n c ∧ n ≤ c ∧ c ≤ maxLen := by
  rcases h.own.2 with ⟨h1, h2⟩ | ⟨g, cap, cur, h1, _, _, h3, h4, _⟩
  · exact ⟨none, 0, by rw [h1, h2], by omega, by unfold maxLen; omega⟩
  · exact ⟨_, cap, h1, h3, h4⟩
end Go.Proofs.YtjcdnclfakmbpaaGreatDoor
