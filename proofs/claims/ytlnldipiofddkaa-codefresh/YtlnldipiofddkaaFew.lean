import Derived.Test.YtlnldipiofddkaaEye5
namespace Go.Proofs.Ytlnldipiofddkaa
open Go.RowKit

theorem blk2 {w : World} {b : Nat} {x0 x1 : Value} {t : TypeId} (h : w.heap[b]? = some (.cells #[x0, x1] t (0, 0))) : w.cell? ⟨b, 0, none⟩ = some x0 ∧ w.cell? ⟨b, 1, none⟩ = some x1 ∧ (∀ o, w.frozen? ⟨b, o, none⟩ = false) :=
  ⟨by simp [World.cell?, h], by simp [World.cell?, h], fun o => by simp [World.frozen?, h]⟩
theorem le_step {a b n k : Nat} (h : a ≤ k * 4194314) (hn : n ≤ b + 10) (hb : b ≤ 4194304) : a + n ≤ (k + 1) * 4194314 := by omega
theorem ops_at {S : Nat → Prop} {w : World} {g o : Nat} {P : List Op1} (h : OpsS S w (some ⟨g, o, none⟩) P) (k : Nat) (p : Op1) (hp : P[k]? = some p) :
    w.cell? ⟨g, o + k * 5, none⟩ = some (.int .i64 p.kind) ∧ w.cell? ⟨g, o + k * 5 + 1, none⟩ = some (.int .i64 p.which) ∧ w.cell? ⟨g, o + k * 5 + 2, none⟩ = some (.int .i64 p.m) ∧ w.cell? ⟨g, o + k * 5 + 3, none⟩ = some (.int .u64 (p.n : Int)) ∧ w.cell? ⟨g, o + k * 5 + 4, none⟩ = some (.slice p.bp p.bl p.bc) := by
  rcases h.lie with h0 | ⟨g', o', e, _, _, hc⟩
  · subst h0; simp at hp
  · cases e; exact hc k p hp
theorem bl_le (P : List Op1) (hs : (P.map (·.bl)).sum ≤ 4194304) : ∀ o ∈ P, o.bl ≤ 4194304 := by
  induction P with
  | nil => intro o ho; cases ho
  | cons p P ih =>
    intro o ho
    simp only [List.map_cons, List.sum_cons] at hs
    rcases List.mem_cons.1 ho with rfl | ho
    · omega
    · exact ih (by omega) o ho

end Go.Proofs.Ytlnldipiofddkaa
