import Derived.Test.YtfdanocpbhbieaaGreatRwA
namespace Go.Proofs.YtfdanocpbhbieaaGreat
open Go.RowKit

/-- The state that wakes makes. -/
def Sv (P A B C : Nat) : Value := .agg #[.int .u64 0, .slice (some ⟨P, 0, none⟩) 1 1, .slice none 0 0, .slice (some ⟨A, 0, none⟩) 1 1, .slice (some ⟨B, 0, none⟩) 1 1, .slice (some ⟨C, 0, none⟩) 1 1]
structure Sok (w : World) (P H : Nat) : Prop where
  pool : w.heap[P]? = some (.cells #[.int .i64 6, .int .i64 5, .int .i64 4, .slice (some ⟨H, 0, none⟩) 1 1] 108 (0, 0))
  held : w.heap[H]? = some (.cells #[.int .i64 1, .int .i64 0] 105 (0, 0))
theorem Sok.below {w w' : World} {P H : Nat} (h : Sok w P H) {n : Nat} (hb : Below n w w') (hn : w.heap.size ≤ n) : Sok w' P H :=
  ⟨(hb.block P (Nat.lt_of_lt_of_le (ac_lt h.pool) hn)).trans h.pool, (hb.block H (Nat.lt_of_lt_of_le (ac_lt h.held) hn)).trans h.held⟩
theorem ac6 {w : World} {b : Nat} {x0 x1 x2 x3 x4 x5 : Value} {t : TypeId} (h : w.heap[b]? = some (.cells #[x0, x1, x2, x3, x4, x5] t (0, 0))) :
    w.cell? ⟨b, 0, none⟩ = some x0 ∧ w.cell? ⟨b, 1, none⟩ = some x1 ∧ w.cell? ⟨b, 2, none⟩ = some x2 ∧ w.cell? ⟨b, 3, none⟩ = some x3 ∧ w.cell? ⟨b, 4, none⟩ = some x4 ∧ w.cell? ⟨b, 5, none⟩ = some x5 :=
  ⟨by simp [World.cell?, h], by simp [World.cell?, h], by simp [World.cell?, h], by simp [World.cell?, h], by simp [World.cell?, h], by simp [World.cell?, h]⟩

end Go.Proofs.YtfdanocpbhbieaaGreat
namespace Go.Proofs.YtfdanocpbhbieaaGreat
open Go.RowKit

def SvC (P A B C : Nat) : Array Value := #[.int .u64 0, .slice (some ⟨P, 0, none⟩) 1 1, .slice none 0 0, .slice (some ⟨A, 0, none⟩) 1 1, .slice (some ⟨B, 0, none⟩) 1 1, .slice (some ⟨C, 0, none⟩) 1 1]
theorem Sv_eq (P A B C : Nat) : Sv P A B C = .agg (SvC P A B C) := rfl

theorem need_one (a : Int) (h : a = 1 ∨ a = 2) : needT [⟨0, -a⟩] = [⟨0, 0, a⟩] := by
  rcases h with rfl | rfl <;> simp [needT, putT, triOf, wayOf, amtOf, wrap64]

end Go.Proofs.YtfdanocpbhbieaaGreat
