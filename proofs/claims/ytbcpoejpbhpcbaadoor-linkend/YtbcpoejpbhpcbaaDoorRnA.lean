import Derived.Test.YtbcpoejpbhpcbaaDoorHeB
namespace Go.Proofs.YtbcpoejpbhpcbaaDoor
open Go.RowKit

/-! A link of any numbers -/
structure Rn (L : Lk) (i : Nat) : Prop where
  row : L.row.length ≤ i
  num : L.numbered ≤ i
  hand : L.handed ≤ i
  pok : L.Pok
  win : 0 ≤ L.window
theorem rn_new (me other : Int) (life : Nat) (window most : Int) : Rn (Lk.new me other life window most) 0 := by
  refine ⟨Nat.zero_le _, Nat.zero_le _, Nat.zero_le _, ⟨Nat.zero_le _, ?_, ?_⟩, by show 0 ≤ max window 0; omega⟩
  · show (if 1 ≤ most ∧ most ≤ 64 then 1 else 0) ≤ 64
    split <;> omega
  · intro m hm
    have h : (if 1 ≤ most ∧ most ≤ 64 then some most.toNat else none) = some m := hm
    split at h
    · injection h with h; omega
    · cases h
theorem Rn.up {L : Lk} {i : Nat} (h : Rn L i) : Rn L (i + 1) := ⟨Nat.le_succ_of_le h.row, Nat.le_succ_of_le h.num, Nat.le_succ_of_le h.hand, h.pok, h.win⟩
theorem Rn.reset {L : Lk} {i : Nat} (h : Rn L i) : Rn (lreset L) i := ⟨h.row, h.num, h.hand, ⟨by show 0 ≤ 64; omega, by show 1 ≤ 64; omega, h.pok.m⟩, h.win⟩
theorem Rn.send {L : Lk} {i : Nat} (h : Rn L i) (s : ByteArray) : Rn (sendN L s) (i + 1) := by
  have h1 : Rn (sendL L) i := by
    unfold sendL
    split
    · exact h.reset
    · exact h
  have h2 := h.row
  have h3 := h.num
  exact ⟨by show (L.row ++ [(L.numbered + 1, s)]).length ≤ i + 1; simp; omega, by show L.numbered + 1 ≤ i + 1; omega, Nat.le_succ_of_le h1.hand, ⟨h1.pok.l, h1.pok.g, h1.pok.m⟩, h1.win⟩
theorem Rn.owe {L : Lk} {i : Nat} (h : Rn L i) : Rn { L with asked := true } i := ⟨h.row, h.num, h.hand, ⟨h.pok.l, h.pok.g, h.pok.m⟩, h.win⟩
theorem Rn.hear1 {L : Lk} {i : Nat} (h : Rn L i) (mine : Nat) : Rn (hear1 L mine) i := by
  unfold Go.Proofs.YtbcpoejpbhpcbaaDoor.hear1
  split
  · exact ⟨Nat.zero_le _, Nat.zero_le _, Nat.zero_le _, ⟨by show 0 ≤ 64; omega, by show 1 ≤ 64; omega, h.pok.m⟩, h.win⟩
  · exact h
theorem Rn.paced {L : Lk} {i : Nat} (h : Rn L i) (p : Bool) : Rn { L with paced := p } i := ⟨h.row, h.num, h.hand, ⟨h.pok.l, h.pok.g, h.pok.m⟩, h.win⟩
theorem Rn.ack {L : Lk} {i : Nat} (h : Rn L i) (a : Nat) : Rn (ackL L a) i := by
  unfold ackL
  split
  · have h1 := h.row
    exact ⟨by show (L.row.drop _).length ≤ i; rw [List.length_drop]; omega, h.num, h.hand, ⟨h.pok.l, h.pok.g, h.pok.m⟩, h.win⟩
  · exact h
theorem Rn.body {L : Lk} {i : Nat} (h : Rn L i) (seq : Nat) : Rn (bodyL L seq) (i + 1) := by
  have h1 := h.hand
  unfold bodyL
  split
  · exact h.up
  · split
    · exact ⟨Nat.le_succ_of_le h.row, Nat.le_succ_of_le h.num, by show L.handed + 1 ≤ i + 1; omega, ⟨h.pok.l, h.pok.g, h.pok.m⟩, h.win⟩
    · exact ⟨Nat.le_succ_of_le h.row, Nat.le_succ_of_le h.num, Nat.le_succ_of_le h.hand, ⟨h.pok.l, h.pok.g, h.pok.m⟩, h.win⟩
theorem Rn.hear {L : Lk} {i : Nat} (h : Rn L i) (mine yours seq ack : Nat) : Rn (hrL L mine yours seq ack) (i + 1) := by
  unfold hrL
  split
  · exact (((h.hear1 mine).paced false).ack ack).body seq
  · exact ((h.hear1 mine).paced true).up
theorem Rn.ltick {L : Lk} {i : Nat} (h : Rn L i) : Rn (ltick L) i := by
  obtain ⟨h1, h2, h3, ⟨p1, p2, p3⟩, h5⟩ := h
  unfold Go.Proofs.YtbcpoejpbhpcbaaDoor.ltick
  split
  · exact ⟨h1, h2, h3, ⟨by show L.left - 1 ≤ 64; omega, p2, p3⟩, h5⟩
  · refine ⟨h1, h2, h3, ⟨p2, ?_, p3⟩, h5⟩
    show (match L.lim with | none => L.gap | some m => min (2 * L.gap) m) ≤ 64
    cases hm : L.lim with
    | none => exact p2
    | some m => have := p3 m hm; show min (2 * L.gap) m ≤ 64; omega
theorem Rn.tick {L : Lk} {i : Nat} (h : Rn L i) : Rn (tickL L) i := by
  have h1 : Rn (tkR L) i := by
    unfold tkR
    split
    · exact h.ltick
    · exact h
  have h2 : Rn (bodL L) i := ⟨h1.row, h1.num, h1.hand, ⟨h1.pok.l, h1.pok.g, h1.pok.m⟩, h1.win⟩
  unfold tickL
  split
  · exact h2
  · exact ⟨h2.row, h2.num, h2.hand, ⟨h2.pok.l, h2.pok.g, h2.pok.m⟩, h2.win⟩
theorem mid_len (L : Lk) : (midO L).length ≤ L.row.length + 1 := by
  unfold midO
  split
  · split
    · simp
    · simp
  · have h1 := outs_len L (tmL L) L.gone (inWin L)
    have h2 : (inWin L).length ≤ L.row.length := by
      unfold inWin
      split
      · simp
      · simp; omega
    show (bodO L).length ≤ _
    unfold bodO
    omega
def tri : Nat → Nat
  | 0 => 0
  | n + 1 => tri n + n + 2
theorem tri_le : ∀ (a b : Nat), a ≤ b → tri a ≤ tri b
  | a, 0, h => by have : a = 0 := by omega
                  subst this; exact Nat.le_refl _
  | a, b + 1, h => by
    by_cases e : a = b + 1
    · subst e; exact Nat.le_refl _
    · have := tri_le a b (by omega)
      show tri a ≤ tri b + b + 2
      omega
theorem tri_most (i : Nat) (h : i ≤ 150) : tri i ≤ 11475 := by
  have h1 := tri_le i 150 h
  have h2 : tri 150 = 11475 := by kernel_rfl
  omega

end Go.Proofs.YtbcpoejpbhpcbaaDoor
