import Derived.Test.YtplbnnfncngchaaPcB
namespace Go.Proofs.Ytplbnnfncngchaa
open Go.RowKit

theorem tmod_into (n m : Int) (hm : 0 < m) : n % m = if n.tmod m < 0 then n.tmod m + m else n.tmod m := by
  have h1 := Int.tmod_lt_of_pos n hm
  have h2 : -m < n.tmod m := Int.lt_tmod_of_pos n hm
  have e : n % m = n.tmod m % m := by rw [Int.tmod_def, Int.sub_mul_emod_self_left]
  split
  · rw [e, ← Int.add_emod_right, Int.emod_eq_of_lt (by omega) (by omega)]
  · rw [e, Int.emod_eq_of_lt (by omega) (by omega)]
set_option maxRecDepth 100000 in
theorem into_any (w : World) (n : Int) (m : Nat) (hm : 0 < m) (hm2 : m ≤ 1000000) :
    Calls Try.prog 7 #[.int .i64 n, .int .i64 (m : Int)] w fun r w' => r = .returned (.int .i64 ((n % (m : Int)).toNat : Int)) ∧ w' = w := by
  have h1 := Int.tmod_lt_of_pos n (show (0 : Int) < (m : Int) by omega)
  have h2 : -(m : Int) < n.tmod m := Int.lt_tmod_of_pos n (by omega)
  have h3 := tmod_into n m (by omega)
  have h4 := Int.emod_nonneg n (show (m : Int) ≠ 0 by omega)
  have h6 : (((n % (m : Int)).toNat : Nat) : Int) = n % (m : Int) := by omega
  rw [h6]
  have hm0 : ¬ (m : Int) = 0 := by omega
  by_cases hlt : n.tmod m < 0
  · rw [if_pos hlt] at h3
    generalize n % (m : Int) = r at *
    have H3 := hide h3
    clear h3 h6 h4
    go_enter Try.func7, Try.ntmps7
    go_wp2
    go_ret
    exact ⟨by rw [H3.out]; rfl, rfl⟩
  · rw [if_neg hlt] at h3
    generalize n % (m : Int) = r at *
    have H3 := hide h3
    clear h3 h6 h4
    go_enter Try.func7, Try.ntmps7
    go_wp2
    go_ret
    exact ⟨by rw [H3.out]; rfl, rfl⟩
theorem into_lt (n : Int) (m : Nat) (hm : 0 < m) : (n % (m : Int)).toNat < m := by
  have h4 := Int.emod_nonneg n (show (m : Int) ≠ 0 by omega)
  have h5 := Int.emod_lt_of_pos n (show (0 : Int) < (m : Int) by omega)
  omega

/-- Where bounded's loop stands: i ticks, t times, the last gap, ticks since the last time. -/
structure Bd (m i t gp s : Nat) (P : Pc) : Prop where
  ti : t ≤ i
  none : t = 0 → i = 0 ∧ gp = 0 ∧ s = 0 ∧ P = .new m
  some : 0 < t → ∃ G q, P = ⟨G - s, min (2 * G) m, m⟩ ∧ s < G ∧ G ≤ m ∧ q + m = t * m ∧ i ≤ 1 + q + s ∧ 1 ≤ i ∧ ((gp = 0 ∧ G = 1) ∨ (1 ≤ gp ∧ gp ≤ m ∧ G = min (2 * gp) m))
theorem Bd.start (m : Nat) : Bd m 0 0 0 0 (.new m) := ⟨Nat.le_refl _, fun _ => ⟨rfl, rfl, rfl, rfl⟩, fun h => absurd h (Nat.lt_irrefl _)⟩
/-- A tick that is no time. -/
theorem Bd.wait {m i t gp s : Nat} {P : Pc} (h : Bd m i t gp s P) (hl : 1 < P.left) : Bd m (i + 1) t gp (s + 1) P.tick ∧ 1 ≤ i ∧ s + 1 < m := by
  obtain ⟨h0, h1, h2⟩ := h
  by_cases ht : t = 0
  · obtain ⟨_, _, _, rfl⟩ := h1 ht
    exact absurd hl (by show ¬ 1 < 0; omega)
  · obtain ⟨G, q, rfl, e1, e2, e3, e4, e5, e6⟩ := h2 (by omega)
    have hl' : 1 < G - s := hl
    refine ⟨⟨by omega, fun e => absurd e ht, fun _ => ⟨G, q, ?_, by omega, e2, e3, by omega, by omega, e6⟩⟩, e5, by omega⟩
    unfold Pc.tick
    rw [if_pos hl]
    show Pc.mk (G - s - 1) _ _ = _
    congr 1
/-- The first time. -/
theorem Bd.first {m i gp s : Nat} {P : Pc} (h : Bd m i 0 gp s P) (hm : 1 ≤ m) : Bd m (i + 1) 1 gp 0 P.tick := by
  obtain ⟨rfl, rfl, rfl, rfl⟩ := h.none rfl
  refine ⟨by omega, fun e => absurd e (by omega), fun _ => ⟨1, 0, ?_, by omega, hm, by omega, by omega, by omega, Or.inl ⟨rfl, rfl⟩⟩⟩
  unfold Pc.tick
  rw [if_neg (by show ¬ 1 < 0; omega)]
  rfl
/-- A time behind the first. -/
theorem Bd.time {m i t gp s : Nat} {P : Pc} (h : Bd m i t gp s P) (ht : 0 < t) (hl : P.left ≤ 1) : Bd m (i + 1) (t + 1) (s + 1) 0 P.tick ∧ gp ≤ s + 1 ∧ s + 1 ≤ m ∧ gp ≤ m ∧ (0 < gp → s + 1 ≤ 2 * gp) ∧ (0 < gp → s + 1 < m → s + 1 = 2 * gp) := by
  obtain ⟨G, q, rfl, e1, e2, e3, e4, e5, e6⟩ := h.some ht
  have hl' : G - s ≤ 1 := hl
  have hti := h.ti
  obtain rfl : G = s + 1 := by omega
  refine ⟨⟨by omega, fun e => absurd e (by omega), fun _ => ⟨min (2 * (s + 1)) m, q + m, ?_, by omega, by omega, by rw [e3, Nat.succ_mul], by omega, by omega, Or.inr ⟨by omega, e2, rfl⟩⟩⟩, ?_, e2, ?_, ?_, ?_⟩
  · unfold Pc.tick
    rw [if_neg (by show ¬ 1 < s + 1 - s; omega)]
    rfl
  all_goals rcases e6 with ⟨a, b⟩ | ⟨a, b, c⟩ <;> omega
theorem Bd.small {m i t gp s : Nat} {P : Pc} (h : Bd m i t gp s P) (hm : 1 ≤ m) : s < m ∧ gp ≤ m ∧ i / m ≤ t := by
  by_cases ht : t = 0
  · obtain ⟨rfl, rfl, rfl, _⟩ := h.none ht
    exact ⟨by omega, by omega, by simp⟩
  · obtain ⟨G, q, _, e1, e2, e3, e4, _, e6⟩ := h.some (by omega)
    refine ⟨by omega, by rcases e6 with ⟨a, b⟩ | ⟨a, b, c⟩ <;> omega, Nat.div_le_of_le_mul ?_⟩
    rw [Nat.mul_comm]; omega
end Go.Proofs.Ytplbnnfncngchaa
