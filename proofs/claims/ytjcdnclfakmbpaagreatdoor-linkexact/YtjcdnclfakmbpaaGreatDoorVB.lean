import Derived.Test.YtjcdnclfakmbpaaGreatDoorVE
import Derived.Test.YtjcdnclfakmbpaaGreatDoorQB
namespace Go.Proofs.YtjcdnclfakmbpaaGreatDoor.V
open Go.RowKit Go.Proofs.YtjcdnclfakmbpaaGreatDoor.U Go.Proofs.YtjcdnclfakmbpaaGreatDoor.Q
structure Bk (X : Rv) (wr : World) (N b : Nat) (L M : Value) (A turn done used : Nat) (ks : List Kl) : Prop where
  blk : wr.heap[b]? = some (.cells (bkCells X L M A turn done used) 70 (0, 0))
  ls : ownsQ false wr N 31 1 L ks.length (ks.map fun k => k.val)
  ms : ownsQ false wr N 3 1 M ks.length (ks.map fun k => .int .i64 (k.m : Int))
  rows : ∀ k ∈ ks, ownsQ true wr N 5 1 k.val k.l (vals (mks k.m k.l))
  num : ∀ k ∈ ks, k.m ≤ 1000000000 ∧ k.l ≤ 100000000000
  most : ks.length ≤ 1000000000
  one : ∀ k ∈ ks, ∀ k' ∈ ks, ∀ g, k.val.ownBlock = some g → k'.val.ownBlock = some g → k.m = k'.m
end Go.Proofs.YtjcdnclfakmbpaaGreatDoor.V
namespace Go.Proofs.YtjcdnclfakmbpaaGreatDoor.V
open Go.RowKit Go.Proofs.YtjcdnclfakmbpaaGreatDoor.U Go.Proofs.YtjcdnclfakmbpaaGreatDoor.Q
theorem Bk.draws {X : Rv} {w : World} {N b : Nat} {L M : Value} {A turn done used : Nat} {ks : List Kl} (h : Bk X w N b L M A turn done used ks) (q : Nat) : Bk X (w.drewN q) N b L M A turn done used ks :=
  ⟨h.blk, owns_draws q h.ls, owns_draws q h.ms, fun k hk => owns_draws q (h.rows k hk), h.num, h.most, h.one⟩
set_option maxRecDepth 100000 in
set_option maxHeartbeats 400000 in
theorem bk_tight {X : Rv} (w : World) (b : Nat) (L M : Value) (A turn done used n : Nat) (hu : used ≤ 16777216) (hn : n ≤ 1000000000000000) (h : w.heap[b]? = some (.cells (bkCells X L M A turn done used) 70 (0, 0))) :
    Calls Tryz.prog 65 #[.pointer (some ⟨b, 0, none⟩), .int .i64 n] w fun e w' => (16777216 < used + n ∧ e = .returned (.bool true) ∧ w' = w) ∨ (¬ 16777216 < used + n ∧ e = .returned (.bool false) ∧ w' = w.setCell ⟨b, 56, none⟩ (.int .i64 ((used + n : Nat) : Int))) := by
  have c := bk_cell h 56 (.int .i64 (used : Int)) rfl
  have cf := bk_thaw h
  clear h
  have hs : (used : Int) + (n : Int) = ((used + n : Nat) : Int) := by omega
  have hs2 : used + n ≤ 2000000000000000 := by omega
  generalize used + n = s at *
  by_cases hb : 16777216 < s
  · have l1 : (16777216 : Int) < (s : Int) := by omega
    go_enter Tryz.func65, Tryz.ntmps65
    go_wp2
    go_ret
    show _ ∨ _
    exact Or.inl ⟨hb, rfl, rfl⟩
  · have l1 : ¬ (16777216 : Int) < (s : Int) := by omega
    go_enter Tryz.func65, Tryz.ntmps65
    go_wp2
    go_ret
    exact ⟨rfl, rfl⟩
end Go.Proofs.YtjcdnclfakmbpaaGreatDoor.V
namespace Go.Proofs.YtjcdnclfakmbpaaGreatDoor.V
open Go.RowKit Go.Proofs.YtjcdnclfakmbpaaGreatDoor.U Go.Proofs.YtjcdnclfakmbpaaGreatDoor.Q
theorem Bk.keep {X : Rv} {w w' : World} {N b : Nat} {L M : Value} {A turn done used : Nat} {ks : List Kl} {S : Nat → Prop} (h : Bk X w N b L M A turn done used ks) (k : Kept S w w') (h1 : ¬ S b) (h2 : ∀ g, L.ownBlock = some g → ¬ S g) (h3 : ∀ g, M.ownBlock = some g → ¬ S g) (h4 : ∀ x ∈ ks, ∀ g, x.val.ownBlock = some g → ¬ S g) : Bk X w' N b L M A turn done used ks :=
  ⟨(k.block b (lt_of_block h.blk) h1).trans h.blk, owns_kept' h.ls (fun g e => k.block g (owns_lt h.ls g e) (h2 g e)), owns_kept' h.ms (fun g e => k.block g (owns_lt h.ms g e) (h3 g e)), fun x hx => owns_kept' (h.rows x hx) (fun g e => k.block g (owns_lt (h.rows x hx) g e) (h4 x hx g e)), h.num, h.most, h.one⟩
theorem Bk.turned {X : Rv} {w : World} {N b : Nat} {L M : Value} {A turn done used : Nat} {ks : List Kl} (h : Bk X w N b L M A turn done used ks) (t : Nat) : Bk X (w.setCell ⟨b, 54, none⟩ (.int .i64 (t : Int))) N b L M A t done used ks := by
  have hs : ∀ j, j ≠ b → (w.setCell ⟨b, 54, none⟩ (.int .i64 (t : Int))).heap[j]? = w.heap[j]? := fun j hj => Below.heap_setCell _ _ _ _ hj
  have hr : ∀ {z0 : Bool} {B0 n : Nat} {ty : TypeId} {v : Value} {xs : List Value}, ownsQ z0 w B0 ty 1 v n xs → 70 ≠ ty → ∀ g, v.ownBlock = some g → (w.setCell ⟨b, 54, none⟩ (.int .i64 (t : Int))).heap[g]? = w.heap[g]? := fun hv ht g e => hs g (fun e' => owns_ne hv h.blk ht (by rw [e, e']))
  exact ⟨by rw [block_set h.blk]; rfl, owns_kept' h.ls (hr h.ls (by decide)), owns_kept' h.ms (hr h.ms (by decide)), fun x hx => owns_kept' (h.rows x hx) (hr (h.rows x hx) (by decide)), h.num, h.most, h.one⟩
theorem Bk.usedUp {X : Rv} {w : World} {N b : Nat} {L M : Value} {A turn done used : Nat} {ks : List Kl} (h : Bk X w N b L M A turn done used ks) (t : Nat) : Bk X (w.setCell ⟨b, 56, none⟩ (.int .i64 (t : Int))) N b L M A turn done t ks := by
  have hs : ∀ j, j ≠ b → (w.setCell ⟨b, 56, none⟩ (.int .i64 (t : Int))).heap[j]? = w.heap[j]? := fun j hj => Below.heap_setCell _ _ _ _ hj
  have hr : ∀ {z0 : Bool} {B0 n : Nat} {ty : TypeId} {v : Value} {xs : List Value}, ownsQ z0 w B0 ty 1 v n xs → 70 ≠ ty → ∀ g, v.ownBlock = some g → (w.setCell ⟨b, 56, none⟩ (.int .i64 (t : Int))).heap[g]? = w.heap[g]? := fun hv ht g e => hs g (fun e' => owns_ne hv h.blk ht (by rw [e, e']))
  exact ⟨by rw [block_set h.blk]; rfl, owns_kept' h.ls (hr h.ls (by decide)), owns_kept' h.ms (hr h.ms (by decide)), fun x hx => owns_kept' (h.rows x hx) (hr (h.rows x hx) (by decide)), h.num, h.most, h.one⟩
theorem Bk.more {X : Rv} {w w' : World} {N b : Nat} {L M L' M' : Value} {A turn done used : Nat} {ks : List Kl} {x : Kl} (h : Bk X w N b L M A turn done used ks) (k : Kept (fun i => i = b ∨ some i = L.ownBlock ∨ some i = M.ownBlock) w w') (hb : w'.heap[b]? = some (.cells (bkCells X L' M' A turn done used) 70 (0, 0)))
    (hl : ownsQ false w' N 31 1 L' (ks.length + 1) ((ks.map fun k => k.val) ++ [x.val])) (hm : ownsQ false w' N 3 1 M' (ks.length + 1) ((ks.map fun k => Value.int .i64 (k.m : Int)) ++ [.int .i64 (x.m : Int)])) (hx : ownsQ true w N 5 1 x.val x.l (vals (mks x.m x.l))) (hn : x.m ≤ 1000000000 ∧ x.l ≤ 100000000000) (hc : ks.length + 1 ≤ 1000000000)
    (ho : ∀ y ∈ ks, ∀ g, y.val.ownBlock = some g → x.val.ownBlock = some g → y.m = x.m) : Bk X w' N b L' M' A turn done used (ks ++ [x]) := by
  have hr : ∀ {n : Nat} {v : Value} {xs : List Value}, ownsQ true w N 5 1 v n xs → ownsQ true w' N 5 1 v n xs := fun hv => owns_kept' hv (fun g e => k.block g (owns_lt hv g e) (by
    rintro (e' | e' | e')
    · subst e'; exact owns_ne hv h.blk (by decide) e
    · exact rows_far h.ls hv (by decide) g e'.symm e
    · exact rows_far h.ms hv (by decide) g e'.symm e))
  refine ⟨hb, by simpa using hl, by simpa using hm, fun y hy => ?_, fun y hy => ?_, by simpa using hc, fun y hy z hz g e1 e2 => ?_⟩
  · rcases List.mem_append.1 hy with h' | h'
    · exact hr (h.rows y h')
    · simp at h'; subst h'; exact hr hx
  · rcases List.mem_append.1 hy with h' | h'
    · exact h.num y h'
    · simp at h'; subst h'; exact hn
  · rcases List.mem_append.1 hy with h' | h' <;> rcases List.mem_append.1 hz with h'' | h''
    · exact h.one y h' z h'' g e1 e2
    · simp at h''; subst h''; exact ho y h' g e1 e2
    · simp at h'; subst h'; exact (ho z h'' g e2 e1).symm
    · simp at h' h''; subst h'; subst h''; rfl
end Go.Proofs.YtjcdnclfakmbpaaGreatDoor.V
