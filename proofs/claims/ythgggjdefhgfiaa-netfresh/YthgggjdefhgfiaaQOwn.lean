import Derived.Test.YthgggjdefhgfiaaNBk
import Derived.Test.YthgggjdefhgfiaaNRef4
namespace Go.Proofs.Ythgggjdefhgfiaa.Q
open Go.RowKit

/-- No cell of a row of 'cap' cells is frozen. -/
def FzOk (z : Bool) (fz : Nat × Nat) (cap : Nat) : Prop := fz = (0, 0) ∨ (z = true ∧ cap ≤ fz.1)
/-- A ROW OF THE CALL's OWN; z: it may be marked behind its end (what was made of a string is). -/
def ownsQ (z : Bool) (w : World) (base : Nat) (e : TypeId) (size : Nat) (v : Value) (n : Nat) (xs : List Value) : Prop :=
  xs.length = n * size ∧
  ((v = .slice none 0 0 ∧ n = 0) ∨
   ∃ g cap cur, v = .slice (some ⟨g, 0, none⟩) n cap ∧ base ≤ g ∧ (∃ fz, w.heap[g]? = some (.cells cur e fz) ∧ FzOk z fz (cap * size)) ∧ n ≤ cap ∧ cap ≤ maxLen ∧ cur.size = cap * size ∧ cur.toList.take (n * size) = xs)
theorem ownsQ_of {z : Bool} {w : World} {B n s : Nat} {t : TypeId} {v : Value} {xs : List Value} (h : w.ownsRow B t s v n xs) : ownsQ z w B t s v n xs := by
  refine ⟨h.1, h.2.imp id ?_⟩
  rintro ⟨g, cap, cur, h1, h2, h3, r⟩
  exact ⟨g, cap, cur, h1, h2, ⟨_, h3, Or.inl rfl⟩, r⟩
theorem ownsQ.row {w : World} {B n s : Nat} {t : TypeId} {v : Value} {xs : List Value} (h : ownsQ false w B t s v n xs) : w.ownsRow B t s v n xs := by
  refine ⟨h.1, h.2.imp id ?_⟩
  rintro ⟨g, cap, cur, h1, h2, ⟨fz, h3, h4⟩, r⟩
  rcases h4 with rfl | ⟨h4, _⟩
  · exact ⟨g, cap, cur, h1, h2, h3, r⟩
  · cases h4
theorem owns_kept' {z : Bool} {w w' : World} {B n : Nat} {e : TypeId} {size : Nat} {v : Value} {xs : List Value} (h : ownsQ z w B e size v n xs) (hk : ∀ g, v.ownBlock = some g → w'.heap[g]? = w.heap[g]?) : ownsQ z w' B e size v n xs := by
  refine ⟨h.1, h.2.imp id ?_⟩
  rintro ⟨g, cap, cur, h1, h2, ⟨fz, h3, h4⟩, r⟩
  exact ⟨g, cap, cur, h1, h2, ⟨fz, (hk g (by rw [h1]; rfl)).trans h3, h4⟩, r⟩
theorem owns_lt {z : Bool} {w : World} {B n s : Nat} {t : TypeId} {v : Value} {xs : List Value} (h : ownsQ z w B t s v n xs) (g : Nat) (e : v.ownBlock = some g) : g < w.heap.size := by
  rcases h.2 with ⟨h1, h2⟩ | ⟨g', cap, cur, h1, _, ⟨fz, hg, _⟩, _⟩
  · rw [h1] at e; simp [Value.ownBlock] at e
  · rw [h1] at e; simp [Value.ownBlock] at e; subst e; exact lt_of_block hg
theorem ownsQ.alloc {z : Bool} {w : World} {B n s : Nat} {t : TypeId} {v : Value} {xs : List Value} (h : ownsQ z w B t s v n xs) (o : Obj) : ownsQ z (w.alloc o) B t s v n xs := owns_kept' h (fun g e => Below.heap_alloc _ _ _ (owns_lt h g e))
theorem owns_ne {z : Bool} {w : World} {B n k s : Nat} {t t' : TypeId} {v : Value} {xs : List Value} {C : Array Value} {fr : Nat × Nat} (h : ownsQ z w B t s v n xs) (hk : w.heap[k]? = some (.cells C t' fr)) (ht : t' ≠ t) : v.ownBlock ≠ some k := by
  intro e
  rcases h.2 with ⟨h1, h2⟩ | ⟨g', cap, cur, h1, _, ⟨fz, hg, _⟩, _⟩
  · rw [h1] at e; simp [Value.ownBlock] at e
  · rw [h1] at e; simp [Value.ownBlock] at e; subst e
    rw [hg] at hk; simp at hk; exact ht hk.2.1.symm
theorem owns_low {z : Bool} {w : World} {B n : Nat} {t : TypeId} {v : Value} {xs : List Value} (h : ownsQ z w B t 1 v n xs) (g : Nat) (e : v.ownBlock = some g) : B ≤ g := by
  rcases h.2 with ⟨h1, h2⟩ | ⟨g', cap, cur, h1, hb, hg, _⟩
  · rw [h1] at e; simp [Value.ownBlock] at e
  · rw [h1] at e; simp [Value.ownBlock] at e; omega
theorem rows_far0 {z1 z2 : Bool} {w : World} {B1 B2 n1 n2 : Nat} {t1 t2 : TypeId} {v1 v2 : Value} {xs1 xs2 : List Value} (h1 : ownsQ z1 w B1 t1 1 v1 n1 xs1) (h2 : ownsQ z2 w B2 t2 1 v2 n2 xs2) (ht : t1 ≠ t2) : ∀ g, v1.ownBlock = some g → v2.ownBlock ≠ some g := by
  intro g e e'
  rcases h1.2 with ⟨h, _⟩ | ⟨g', cap, cur, h, _, ⟨fz, hg, _⟩, _⟩
  · rw [h] at e; simp [Value.ownBlock] at e
  · rw [h] at e; simp [Value.ownBlock] at e; subst e
    exact owns_ne h2 hg ht e'
theorem thawed {z : Bool} {w : World} {g cap o : Nat} {cur : Array Value} {t : TypeId} {fz : Nat × Nat} (hg : w.heap[g]? = some (.cells cur t fz)) (hf : FzOk z fz cap) (ho : o < cap) : w.frozen? ⟨g, o, none⟩ = false := by
  rcases hf with rfl | ⟨_, hf⟩
  · simp [World.frozen?, hg]
  · obtain ⟨lo, hi⟩ := fz
    simp only [World.frozen?, hg, Bool.and_eq_false_iff, decide_eq_false_iff_not]
    left
    simp only at hf
    omega
theorem owns_cell {z : Bool} {w : World} {B g n c k : Nat} {t : TypeId} {xs : List Value} (h : ownsQ z w B t 1 (.slice (some ⟨g, 0, none⟩) n c) n xs) (a : Value) (hk : xs[k]? = some a) : w.cell? ⟨g, k, none⟩ = some a ∧ w.frozen? ⟨g, k, none⟩ = false := by
  rcases h.2 with ⟨h1, _⟩ | ⟨g', cap, cur, h1, _, ⟨fz, hg, hf⟩, hnc, _, _, ht⟩
  · cases h1
  · cases h1
    have hkl : k < xs.length := (List.getElem?_eq_some_iff.1 hk).1
    have := h.1
    rw [← ht, List.getElem?_take, if_pos (by omega)] at hk
    exact ⟨by simp only [World.cell?, hg]; simpa using hk, thawed hg hf (by omega)⟩
theorem owns_set {z : Bool} {w : World} {B g n c k : Nat} {t : TypeId} {xs : List Value} (h : ownsQ z w B t 1 (.slice (some ⟨g, 0, none⟩) n c) n xs) (_hk : k < n) (a : Value) : ownsQ z (w.setCell ⟨g, k, none⟩ a) B t 1 (.slice (some ⟨g, 0, none⟩) n c) n (xs.set k a) := by
  rcases h.2 with ⟨h1, _⟩ | ⟨g', cap, cur, h1, h2, ⟨fz, hg, hf⟩, h3, h4, h5, ht⟩
  · cases h1
  · cases h1
    refine ⟨by rw [List.length_set]; exact h.1, Or.inr ⟨g, c, cur.setIfInBounds k a, rfl, h2, ⟨fz, block_set hg a, hf⟩, h3, h4, by simpa using h5, ?_⟩⟩
    rw [← ht]
    simp [List.take_set, Array.toList_setIfInBounds]
theorem owns_draws {z : Bool} {w : World} (q : Nat) {N n : Nat} {t : TypeId} {v : Value} {xs : List Value} (h : ownsQ z w N t 1 v n xs) : ownsQ z (w.drewN q) N t 1 v n xs := h
theorem row_cell {z : Bool} {w : World} {B n k : Nat} {t : TypeId} {v a : Value} {xs : List Value} (h : ownsQ z w B t 1 v n xs) (hk : xs[k]? = some a) : ∃ g c, v = .slice (some ⟨g, 0, none⟩) n c ∧ w.cell? ⟨g, k, none⟩ = some a := by
  rcases h.2 with ⟨h1, h2⟩ | ⟨g, cap, cur, h1, _, ⟨fz, hg, _⟩, _, _, _, ht⟩
  · have := h.1
    rw [h2] at this
    have : xs = [] := List.eq_nil_of_length_eq_zero (by omega)
    subst this; simp at hk
  · have hkl : k < xs.length := (List.getElem?_eq_some_iff.1 hk).1
    have := h.1
    rw [← ht, List.getElem?_take, if_pos (by omega)] at hk
    exact ⟨g, cap, h1, by simp only [World.cell?, hg]; simpa using hk⟩
theorem owns_mono {z : Bool} {w : World} {B B' n : Nat} {t : TypeId} {v : Value} {xs : List Value} (h : ownsQ z w B t 1 v n xs) (hb : B' ≤ B) : ownsQ z w B' t 1 v n xs := by
  refine ⟨h.1, h.2.elim Or.inl ?_⟩
  rintro ⟨g, cap, cur, h1, h2, r⟩
  exact Or.inr ⟨g, cap, cur, h1, Nat.le_trans hb h2, r⟩
theorem owns_form {z : Bool} {w : World} {B n s : Nat} {t : TypeId} {v : Value} {xs : List Value} (h : ownsQ z w B t s v n xs) : ∃ p c, v = .slice p n c := by
  rcases h.2 with ⟨h1, h2⟩ | ⟨g, cap, cur, h1, _⟩
  · exact ⟨none, 0, by rw [h1, h2]⟩
  · exact ⟨_, cap, h1⟩
/-- What was told is the caller's own. -/
theorem told_owns {w : World} {g c : Nat} {s : ByteArray} (h : Told w g c s) (hm : s.size ≤ maxLen) : ownsQ true w 0 5 1 (.slice (some ⟨g, 0, none⟩) s.size c) s.size (vals (nums s)) := by
  obtain ⟨⟨xs, h1, h2, h3, h4⟩, h5, h6⟩ := h
  refine ⟨by rw [vals_len, nums_len]; omega, Or.inr ⟨g, c, _, rfl, Nat.zero_le _, ⟨_, h1, Or.inr ⟨rfl, by show c * 1 ≤ c; omega⟩⟩, h5, h6 hm, by simp [vals, h2], ?_⟩⟩
  rw [← h3]
  simp [vals, List.map_take]
theorem owns_bytes {z : Bool} {w : World} {B n : Nat} {v : Value} {p : Option Addr} {c : Nat} {xs : List Nat} (h : ownsQ z w B 5 1 v n (vals xs)) (hv : v = .slice p n c) (hs : ∀ x ∈ xs, x < 256) : Bytes w p xs := by
  subst hv
  rcases h.2 with ⟨h1, h2⟩ | ⟨g, cap, cur, h1, _, ⟨fz, hg, _⟩, hnc, _, hcs, ht⟩
  · have := h.1
    rw [vals_len, h2] at this
    have : xs = [] := List.eq_nil_of_length_eq_zero (by omega)
    subst this
    exact ⟨by simp, Or.inl rfl⟩
  · cases h1
    refine lie_row hg hs (fun j hj => ?_)
    have hl := h.1
    rw [vals_len] at hl
    have e := congrArg (fun l => l[j]?) ht
    simp only [List.getElem?_take, if_pos (show j < n * 1 by omega)] at e
    rw [← Array.getElem?_toList, e]
    simp [vals, List.getD, hj]

/-- Blocks but b are as they were. -/
structure But (b : Nat) (w w' : World) : Prop where
  os : w'.os = w.os
  tape : w'.tape = w.tape
  output : w'.output = w.output
  size : w.heap.size ≤ w'.heap.size
  block : ∀ k, k < w.heap.size → k ≠ b → w'.heap[k]? = w.heap[k]?
theorem But.refl (b : Nat) (w : World) : But b w w := ⟨rfl, rfl, rfl, Nat.le_refl _, fun _ _ _ => rfl⟩
theorem But.setCell {b : Nat} {w w' : World} (h : But b w w') {p : Addr} (hp : p.block = b ∨ w.heap.size ≤ p.block) (u : Value) : But b w (w'.setCell p u) :=
  ⟨h.os, h.tape, h.output, by have := h.size; simp [World.setCell]; omega, fun k hk hb => by rw [Below.heap_setCell _ _ _ _ (by omega)]; exact h.block k hk hb⟩
/-- Blocks outside S are as they were. -/
structure Kept (S : Nat → Prop) (w w' : World) : Prop where
  os : w'.os = w.os
  tape : w'.tape = w.tape
  output : w'.output = w.output
  size : w.heap.size ≤ w'.heap.size
  block : ∀ k, k < w.heap.size → ¬ S k → w'.heap[k]? = w.heap[k]?
theorem Kept.refl (S : Nat → Prop) (w : World) : Kept S w w := ⟨rfl, rfl, rfl, Nat.le_refl _, fun _ _ _ => rfl⟩
theorem Kept.trans {S T : Nat → Prop} {w1 w2 w3 : World} (h : Kept S w1 w2) (k : Kept T w2 w3) (hT : ∀ i, T i → S i ∨ w1.heap.size ≤ i) : Kept S w1 w3 :=
  ⟨k.os.trans h.os, k.tape.trans h.tape, k.output.trans h.output, Nat.le_trans h.size k.size, fun i hi hn => (k.block i (Nat.lt_of_lt_of_le hi h.size) (fun t => (hT i t).elim hn (fun e => by omega))).trans (h.block i hi hn)⟩
theorem kept_below {S : Nat → Prop} {w w' : World} (h : Below w.heap.size w w') : Kept S w w' := ⟨h.os, h.tape, h.output, h.size, fun k hk _ => h.block k hk⟩
theorem kept_grown {r : Option Nat} {w w' : World} (h : w.grownBy w' r) : Kept (fun k => some k = r) w w' := ⟨h.os, h.tape, h.output, h.size, fun k hk hn => h.block k hk hn⟩
theorem kept_but {b : Nat} {w w' : World} (h : But b w w') : Kept (fun k => k = b) w w' := ⟨h.os, h.tape, h.output, h.size, fun k hk hn => h.block k hk hn⟩
/-- A Kept is a Kp. -/
theorem kp_kept {S : Nat → Prop} {w w' : World} (h : Kept S w w') (p : Nat × Nat → Prop) (K : Knd) (k : Nat × Nat) (hS : ∀ i, i < w.heap.size → S i → p (K i)) : Kp p K (ext K w.heap.size k) w w' :=
  ⟨h.os, h.tape, h.output, h.size, fun _ hb => ext_old K k hb, fun b hb hn => h.block b hb (fun e => hn (hS b hb e))⟩
/-- Two rows that do not share a block. -/
def Far (v h : Value) : Prop := ∀ g, v.ownBlock = some g → h.ownBlock ≠ some g
theorem rows_far {z1 z2 : Bool} {w : World} {B1 B2 n1 n2 : Nat} {t1 t2 : TypeId} {v1 v2 : Value} {xs1 xs2 : List Value} (h1 : ownsQ z1 w B1 t1 1 v1 n1 xs1) (h2 : ownsQ z2 w B2 t2 1 v2 n2 xs2) (ht : t1 ≠ t2) : Far v1 v2 := rows_far0 h1 h2 ht
theorem bad_drews (w : World) (n : Nat) : Below w.heap.size w (w.drewN n) := ⟨rfl, rfl, rfl, Nat.le_refl _, fun _ _ => rfl⟩
theorem drop_cons (xs : List Nat) (k : Nat) (h : k < xs.length) : xs.drop k = xs.getD k 0 :: xs.drop (k + 1) := by
  rw [List.drop_eq_getElem_cons h]; simp [List.getD, h]
theorem Try.info5' : (Try.prog.info? 5).map (fun i => (i.zero, i.size, i.bytes)) = some (some (.int .u8 0), 1, 1) := by kernel_rfl

end Go.Proofs.Ythgggjdefhgfiaa.Q
