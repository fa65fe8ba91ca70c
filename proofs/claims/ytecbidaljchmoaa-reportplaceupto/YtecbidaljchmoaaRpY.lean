import Derived.Test.YtecbidaljchmoaaRpX
import Derived.Test.YtecbidaljchmoaaAcA
import Derived.Maps.AppendAt
namespace Go.Proofs.Ytecbidaljchmoaa
open Go.RowKit

/-- 'append(v, l...)', and where it lies then. -/
theorem Elt.run_append_at {α : Type} {f : α → List Value} {sz by_ : Nat} {t e : TypeId} (E : Elt f sz by_ t e) (w : World) (ty : TypeId) (B n : Nat) (v : Value) (ys : List Value) (hown : w.ownsRow B e sz v n ys) (sp : Option Addr) (m c : Nat) (xs : List α) (hm : xs.length = m) (hc : Cel w sp sz (xs.map f)) (h63 : n + m ≤ 1099511627) (hB : B ≤ w.heap.size) :
    ∃ v' w', (Builtin.append_ #[t, t] ty #[v, .slice sp m c]).run Try.prog w = .ok v' w' ∧ w'.ownsRow B e sz v' (n + m) (ys ++ flat f xs) ∧ w.grownBy w' v.ownBlock ∧ (v'.ownBlock = v.ownBlock ∨ v'.ownBlock = some w.heap.size) := by
  obtain ⟨i, z, hi, hz0, hz1, hz2, hz3⟩ := E.info
  by_cases h0 : m = 0
  · subst h0
    have hxs : xs = [] := List.eq_nil_of_length_eq_zero hm
    subst hxs
    obtain ⟨a, c', rfl, hle⟩ := slice_form hown
    exact ⟨_, w, run_append_zero w t ty e i E.ht hi a n c' hle sp c, by simpa [flat] using hown, ⟨rfl, rfl, rfl, Nat.le_refl _, fun _ _ _ => rfl⟩, Or.inl rfl⟩
  · rcases hc with hb0 | ⟨g, o', e1, hg, hc⟩
    · exfalso
      have : xs = [] := by simpa using hb0
      rw [this] at hm
      exact h0 hm.symm
    · have hcs := cel_cells E.len E.pos e1 (Or.inr ⟨g, o', e1, hg, hc⟩)
      subst e1
      have hs := E.small
      obtain ⟨v', w', h1, h2, h3, _, h5⟩ := run_append_own_at (P := Try.prog) w B t ty e i z sz by_ E.ht hi hz0 hz1 hz2 hz3 E.pos v n ys hown ⟨g, o', none⟩ m c (flat f xs) (by rw [flat_len E.len, hm]) hcs (E.ones xs) (by unfold maxLen; omega) (by
        have := Nat.mul_le_mul h63 hs
        omega) hB
      exact ⟨v', w', h1, h2, h3, h5⟩
/-- A row of one's own cut to none is a row of one's own. -/
theorem own_cut {w : World} {B : Nat} {e : TypeId} {s n c : Nat} {a : Option Addr} {xs : List Value} (h : w.ownsRow B e s (.slice a n c) n xs) : w.ownsRow B e s (.slice a 0 c) 0 [] := by
  refine ⟨by simp, ?_⟩
  rcases h.2 with ⟨h1, _⟩ | ⟨g, cap, cur, h1, h2, h3, h4, h5, h6, _⟩
  · simp only [Value.slice.injEq] at h1
    obtain ⟨rfl, rfl, rfl⟩ := h1
    exact Or.inl ⟨rfl, rfl⟩
  · simp only [Value.slice.injEq] at h1
    obtain ⟨rfl, _, rfl⟩ := h1
    exact Or.inr ⟨g, c, cur, rfl, h2, h3, Nat.zero_le _, h5, h6, by simp⟩
/-- 'append(r[:0], l...)' at a row of a kind. -/
theorem Elt.relay {α : Type} {f : α → List Value} {sz by_ : Nat} {t e : TypeId} (E : Elt f sz by_ t e) (w : World) (K : Knd) (k : Nat × Nat) (ty : TypeId) (n : Nat) (a : Option Addr) (c : Nat) (ys : List Value) (hown : Rk w K k e sz (.slice a n c) n ys) (s : Sli α) (hs : SlOk w sz f s) :
    ∃ a' c' w', (Builtin.append_ #[t, t] ty #[.slice a 0 c, s.v]).run Try.prog w = .ok (.slice a' s.n c') w' ∧ Rk w' (ext K w.heap.size k) k e sz (.slice a' s.n c') s.n (flat f s.xs) ∧ Kp (fun q => q = k) K (ext K w.heap.size k) w w' := by
  obtain ⟨v', w', h1, h2, h3, h4⟩ := E.run_append_at w ty 0 0 (.slice a 0 c) [] (own_cut hown.own) s.p s.n s.c s.xs hs.len hs.cel (by have := hs.most; omega) (Nat.zero_le _)
  simp only [Nat.zero_add, List.nil_append] at h2
  obtain ⟨a', c', rfl, _⟩ := slice_form h2
  have hk : ∀ g, (Value.slice a 0 c).ownBlock = some g → K g = k := fun g hg => hown.kind g (by cases a with
    | none => simp [Value.ownBlock] at hg
    | some x => simpa [Value.ownBlock] using hg)
  have h0 : Rk w K k e sz (.slice a 0 c) 0 [] := ⟨own_cut hown.own, hk⟩
  refine ⟨a', c', w', h1, h0.grown h2 ?_, kp_grown h3 K k k _ hk rfl⟩
  rcases h4 with e1 | e1
  · exact Or.inl e1
  · exact Or.inr ⟨_, e1, Nat.le_refl _⟩

set_option maxRecDepth 100000 in
set_option maxHeartbeats 1000000 in
theorem seatLines_any (w : World) (K : Knd) (o b : Nat) (cs : Array Value) (hb : w.heap[b]? = some (.cells cs 48 (0, 0))) (hz : cs.size = 17) (hK : K b = (o, 0)) (a : Option Addr) (n c : Nat) (ys : List Value) (h0 : cs[0]? = some (.slice a n c)) (hr : Rk w K (o, 1) 84 2 (.slice a n c) n ys) (s : Sli Lin) (hs : SlOk w 2 linc s) :
    Calls Try.prog 42 #[.pointer (some ⟨b, 0, none⟩), s.v] w fun e w' => ∃ K' a' c', e = .returned (.slice a' s.n c') ∧ w'.heap[b]? = some (.cells (cs.set! 0 (.slice a' s.n c')) 48 (0, 0)) ∧ Rk w' K' (o, 1) 84 2 (.slice a' s.n c') s.n (flat linc s.xs) ∧ Kp (fun q => q = (o, 0) ∨ q = (o, 1)) K K' w w' := by
  obtain ⟨a', c', w', h1, h2, h3⟩ := elt_line.relay w K (o, 1) 37 n a c ys hr s hs
  have e0 : w.cell? ⟨b, 0, none⟩ = some (.slice a n c) := by rw [cell_of_row _ _ _ _ _ _ hb]; exact h0
  have hlt : b < w.heap.size := lt_of_block hb
  have hb' : w'.heap[b]? = some (.cells cs 48 (0, 0)) := (h3.block b hlt (by rw [hK]; simp)).trans hb
  have hcc : n ≤ c ∧ c ≤ maxLen := by
    obtain ⟨a2, c2, e2, h5, h6⟩ := hr.form
    simp only [Value.slice.injEq] at e2
    obtain ⟨_, _, rfl⟩ := e2
    exact ⟨h5, h6⟩
  have hb2 : (w'.setCell ⟨b, 0, none⟩ (.slice a' s.n c')).heap[b]? = some (.cells (cs.set! 0 (.slice a' s.n c')) 48 (0, 0)) := heap_setCell_same _ _ _ _ _ _ hb'
  have e1 : w'.cell? ⟨b, 0, none⟩ = some (.slice a n c) := by rw [cell_of_row _ _ _ _ _ _ hb']; exact h0
  have e2 : (w'.setCell ⟨b, 0, none⟩ (.slice a' s.n c')).cell? ⟨b, 0, none⟩ = some (.slice a' s.n c') := by rw [cell_of_row _ _ _ _ _ _ hb2]; simp [hz]
  have hfr : w'.frozen? ⟨b, 0, none⟩ = false := by simp [World.frozen?, hb']
  obtain ⟨p, m, d, xs⟩ := s
  go_enter Try.func42, Try.ntmps42
  go_wp2_with (refine lp_append (.slice a 0 c) (.slice p m d) rfl rfl ⟨_, w', h1, ?_⟩)
  go_ret
  refine ⟨_, a', c', rfl, hb2, ⟨owns_same h2.own (fun g hg => ?_), h2.kind⟩, Kp.setCell (p := fun q => q = (o, 0) ∨ q = (o, 1)) (b := b) (h3.mono (fun k e => Or.inr e)) (Or.inr (Or.inl hK)) _ _⟩
  refine heap_setCell_other _ _ _ _ ?_
  rintro rfl
  have e3 := h2.kind _ hg
  rw [h3.same _ hlt, hK] at e3
  simp at e3
end Go.Proofs.Ytecbidaljchmoaa
