import Derived.Test.YtfjhbbekeibpkaaDoorRfC
namespace Go.Proofs.YtfjhbbekeibpkaaDoor
open Go.RowKit

/-- The document's reading and the program's agree. -/
theorem rdec_pure {xs : List Nat} (hs : ∀ x ∈ xs, x < 256) : ((q7 xs).2.2 = 0 ∧ (frOf xs).fit ∧ encB (frOf xs) = xs → decB xs = some (frOf xs)) ∧ (¬ ((q7 xs).2.2 = 0 ∧ (frOf xs).fit ∧ encB (frOf xs) = xs) → decB xs = none) := by
  have hg := C.got_small hs (q6 xs).2.1 (q7 xs)
  have hsm : (frOf xs).small := by
    unfold Fr.small frOf
    generalize q7 xs = x7 at *
    generalize q6 xs = x6 at *
    exact hg
  clear hg
  refine ⟨fun ⟨_, h2, h3⟩ => ?_, fun h => ?_⟩
  · have h4 := dec_bytes h2 hsm
    unfold encB at h3
    rw [if_pos h2] at h3
    rw [h3] at h4
    exact h4
  · cases e : decB xs with
    | none => rfl
    | some f =>
      obtain ⟨h1, h2, h3⟩ := dec_some hs e
      obtain ⟨h4, h5⟩ := read_bytes h1 h2
      rw [h3] at h4 h5
      refine absurd ⟨?_, ?_, ?_⟩ h
      · obtain ⟨_, h6, _⟩ := h5
        have e8 : q8 xs = C.rNext 1 0 xs (q7 xs).2.1 (q7 xs).2.2 := by unfold q8; rfl
        have h7 := (end_zero h6).1
        rw [e8] at h7
        exact rn_stays 1 0 xs _ _ h7
      · rw [h4]; exact h1
      · rw [h4]; unfold encB; rw [if_pos h1]; exact h3
/-- THE DOCUMENT's DECODE. -/
theorem rdec_any (w : World) (sp : Option Addr) (n cap : Nat) (xs : List Nat) (hl : xs.length = n) (hcap : n ≤ cap) (hc : cap ≤ 9223372036854775807) (hn : n ≤ 140737488351232) (hx : C.Bytes w sp xs) (hform : (cap = 0 ∧ xs = []) ∨ ∃ g o, sp = some ⟨g, o, none⟩) :
    Calls Tryd.prog 9 #[.slice sp n cap] w fun e w' =>
      (∃ f sq k, decB xs = some f ∧ e = .returned (.tuple #[frV f sq k, .bool true]) ∧ C.Bytes w' sq f.body ∧ (∀ p, sq = some p → w.heap.size ≤ p.block) ∧ Below w.heap.size w w') ∨
      (decB xs = none ∧ e = .returned (.tuple #[frV fr0 none 0, .bool false]) ∧ Below w.heap.size w w') := by
  obtain ⟨p1, p2⟩ := rdec_pure hx.small
  have e1 : q1 xs = C.rNext 0 0 xs 0 0 := by unfold q1; rfl
  have e2 : q2 xs = C.rNext 0 0 xs (q1 xs).2.1 (q1 xs).2.2 := by unfold q2; rfl
  have e3 : q3 xs = C.rNext 3 1099511627776 xs (q2 xs).2.1 (q2 xs).2.2 := by unfold q3; rfl
  have e4 : q4 xs = C.rNext 3 1099511627776 xs (q3 xs).2.1 (q3 xs).2.2 := by unfold q4; rfl
  have e5 : q5 xs = C.rNext 3 1099511627776 xs (q4 xs).2.1 (q4 xs).2.2 := by unfold q5; rfl
  have e6 : q6 xs = C.rNext 3 1099511627776 xs (q5 xs).2.1 (q5 xs).2.2 := by unfold q6; rfl
  have e7 : q7 xs = C.rText 2048 xs (q6 xs).2.1 (q6 xs).2.2 := by unfold q7; rfl
  have ef : frOf xs = ⟨(q1 xs).1.num, (q2 xs).1.num, (q3 xs).1.num, (q4 xs).1.num, (q5 xs).1.num, (q6 xs).1.num, C.got xs (q6 xs).2.1 (q7 xs)⟩ := by unfold frOf; rfl
  refine (rdec_go w sp n cap xs hl hcap hc hn hx hform (q1 xs) (q2 xs) (q3 xs) (q4 xs) (q5 xs) (q6 xs) (q7 xs) e1 e2 e3 e4 e5 e6 e7 (frOf xs) ef _ rfl).mono ?_
  clear e1 e2 e3 e4 e5 e6 e7 ef
  generalize frOf xs = f at *
  generalize q7 xs = x7 at *
  rintro e w' ⟨sq, k, he, hy, hlo, hb⟩
  by_cases ho : x7.2.2 = 0 ∧ f.fit ∧ encB f = xs
  · rw [decide_eq_true ho, if_pos rfl] at he
    exact Or.inl ⟨f, sq, k, p1 ho, he, hy, hlo, hb⟩
  · rw [decide_eq_false ho, if_neg (by decide)] at he
    exact Or.inr ⟨p2 ho, he, hb⟩
end Go.Proofs.YtfjhbbekeibpkaaDoor
