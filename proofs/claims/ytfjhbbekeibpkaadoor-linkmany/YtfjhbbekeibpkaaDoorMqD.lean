import Derived.Test.YtfjhbbekeibpkaaDoorMqC
import Derived.Test.YtfjhbbekeibpkaaDoorMbB
namespace Go.Proofs.YtfjhbbekeibpkaaDoor
open Go.RowKit

/-- What of the row stands in the window. -/
def inWin (L : Lk) : List (Nat × ByteArray) := if L.known = 0 then [] else L.row.take L.window.toNat
theorem msv_get (ms : List (Nat × ByteArray)) : ∀ (j : Nat) (m : Nat × ByteArray), ms[j]? = some m → (msv ms)[j * 2]? = some (.int .u64 (m.1 : Int)) ∧ (msv ms)[j * 2 + 1]? = some (.string m.2) := by
  induction ms with
  | nil => intro j m h; simp at h
  | cons x ms ih =>
    intro j m h
    cases j with
    | zero => simp at h; subst h; exact ⟨rfl, rfl⟩
    | succ j =>
      have := ih j m (by simpa using h)
      rw [show (j + 1) * 2 = j * 2 + 2 by omega, show j * 2 + 2 + 1 = j * 2 + 1 + 2 by omega]
      exact ⟨by simpa [msv] using this.1, by simpa [msv] using this.2⟩
theorem Lw.ms {w : World} {b : Nat} {L : Lk} {g o c : Nat} (h : Lw w b L (.slice (some ⟨g, o, none⟩) L.row.length c)) : Ms w g o L.row ∧ L.row.length ≤ c ∧ g ≠ b := by
  have hc := h.row.cells
  refine ⟨⟨(h.row.lt g rfl).2, fun j m hm => hc _ _ (msv_get _ j m hm).1, fun j m hm => ?_⟩, ?_, fun e => h.ne (by rw [← e]; rfl)⟩
  · have := hc _ _ (msv_get _ j m hm).2
    rw [Nat.add_assoc]
    exact this
  · rcases h.row.2 with ⟨e, _⟩ | ⟨g', o', cap, cur, e, _, _, h4, _⟩
    · cases e
    · cases e; exact h4
theorem bodies_all (w : World) (b : Nat) (L : Lk) (rv : Value) (tb gb : Nat) (tm : Bool) (gn : Nat) (h : Lw w b L rv) (hwin : 0 ≤ L.window)
    (ht : w.heap[tb]? = some (.cells #[.bool tm] 4 (0, 0))) (htb : tb ≠ b) (hgo : w.heap[gb]? = some (.cells #[.int .u64 (gn : Int)] 26 (0, 0))) (hgb : gb ≠ b) (hT : C.Tab w) (hb0 : 0 < b) (hlen : L.row.length ≤ 1099511627776) :
    Calls Tryd.prog 20 #[.pointer (some ⟨b, 0, none⟩), .func (.func 21) #[] #[.pointer (some ⟨tb, 0, none⟩), .pointer (some ⟨gb, 0, none⟩)]] w fun e w' => ∃ a cc q, e = .returned (.slice a q cc) ∧ Bd w w' b L rv tm gn a cc q (inWin L) := by
  by_cases hk : L.known = 0
  · have hi : inWin L = [] := by unfold inWin; rw [if_pos hk]
    rw [hi]
    refine (bodies_none w b L rv h.lb hk _).mono ?_
    rintro e w' ⟨rfl, rfl⟩
    exact ⟨none, 0, 0, rfl, h.lb, C.But.refl _ _, orow_nil _ _, rfl⟩
  · have hi : inWin L = L.row.take L.window.toNat := by unfold inWin; rw [if_neg hk]
    rw [hi]
    obtain ⟨a, c, hrv⟩ := h.form
    subst hrv
    cases a with
    | none =>
      have h0 : L.row.length = 0 ∧ c = 0 := by
        rcases h.row.2 with ⟨e, e2⟩ | ⟨_, _, _, _, e, _⟩
        · injection e with _ _ e3; exact ⟨e2, e3⟩
        · cases e
      have hr : L.row = [] := List.eq_nil_of_length_eq_zero h0.1
      have hl : Lb w b L (.slice none 0 0) := by have := h.lb; rw [h0.1, h0.2] at this; exact this
      refine (bodies_nil w b L hwin hl (by omega) _).mono ?_
      rintro e w' ⟨rfl, hb⟩
      rw [hr, List.take_nil, h0.2]
      exact ⟨none, 0, 0, rfl, hl.below hb, C.but_of hb b, orow_nil _ _, rfl⟩
    | some ad =>
      have hf : ∃ g o, ad = ⟨g, o, none⟩ := by
        rcases h.row.2 with ⟨e, _⟩ | ⟨g, o, _, _, e, _⟩
        · cases e
        · cases e; exact ⟨g, o, rfl⟩
      obtain ⟨g, o, rfl⟩ := hf
      obtain ⟨h1, h2, h3⟩ := h.ms
      exact bodies_any w b L g o c tb gb tm gn L.row h.lb h1 h2 h3 hwin (by omega) ht htb hgo hgb hT hb0 hlen
end Go.Proofs.YtfjhbbekeibpkaaDoor
