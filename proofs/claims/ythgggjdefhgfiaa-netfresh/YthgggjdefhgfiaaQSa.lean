import Derived.Test.YthgggjdefhgfiaaQLc
namespace Go.Proofs.Ythgggjdefhgfiaa.Q
open Go.RowKit

/-- A Book among kinds: its block (5, 1), its lists (5, 2), what it keeps of P's kinds. -/
structure Bt (P : Nat × Nat → Prop) (K : Knd) (w : World) (b : Nat) (L M : Value) (A turn done used : Nat) (ks : List Kl) : Prop where
  bk : Bk w 0 b L M A turn done used ks
  cb : K b = (5, 1)
  cl : ∀ g, L.ownBlock = some g → K g = (5, 2)
  cm : ∀ g, M.ownBlock = some g → K g = (5, 2)
  ck : ∀ k ∈ ks, ∀ g, k.val.ownBlock = some g → P (K g)
theorem Bt.keep {P p : Nat × Nat → Prop} {K K' : Knd} {w w' : World} {b : Nat} {L M : Value} {A turn done used : Nat} {ks : List Kl} (h : Bt P K w b L M A turn done used ks) (m : Kp p K K' w w') (h1 : ¬ p (5, 1)) (h2 : ¬ p (5, 2)) (h3 : ∀ q, P q → ¬ p q) : Bt P K' w' b L M A turn done used ks :=
  ⟨h.bk.keep (Kp.kept m) (by rw [h.cb]; exact h1) (fun g e => by rw [h.cl g e]; exact h2) (fun g e => by rw [h.cm g e]; exact h2) (fun x hx g e => h3 _ (h.ck x hx g e)), kpk m (lt_of_block h.bk.blk) h.cb, fun g e => kpk m (owns_lt h.bk.ls g e) (h.cl g e), fun g e => kpk m (owns_lt h.bk.ms g e) (h.cm g e), fun x hx g e => by rw [m.same g (owns_lt (h.bk.rows x hx) g e)]; exact h.ck x hx g e⟩
theorem Bt.imp {P P' : Nat × Nat → Prop} {K : Knd} {w : World} {b : Nat} {L M : Value} {A turn done used : Nat} {ks : List Kl} (h : Bt P K w b L M A turn done used ks) (hi : ∀ q, P q → P' q) : Bt P' K w b L M A turn done used ks := ⟨h.bk, h.cb, h.cl, h.cm, fun k hk g e => hi _ (h.ck k hk g e)⟩
theorem bt_empty {P : Nat × Nat → Prop} {K : Knd} {w : World} {b : Nat} (h : w.heap[b]? = some (.cells bk0 50 (0, 0))) (hb : K b = (5, 1)) : Bt P K w b (.slice none 0 0) (.slice none 0 0) 0 0 0 0 [] := by
  refine ⟨⟨h, ⟨rfl, Or.inl ⟨rfl, rfl⟩⟩, ⟨rfl, Or.inl ⟨rfl, rfl⟩⟩, by simp, by simp, by simp, by simp⟩, hb, fun g e => ?_, fun g e => ?_, by simp⟩
  · simp [Value.ownBlock] at e
  · simp [Value.ownBlock] at e

/-- A Book's numbers; n: how many lists have come. -/
structure Jn (A turn done used : Nat) (ks : List Kl) (n : Nat) : Prop where
  a : A ≤ ks.length
  len : ks.length + 96 * (ks.length - A) ≤ 97 * n
  tn : turn ≤ n
  le : done ≤ turn
  eq : done = turn → A = ks.length
  low : ∀ j x, A ≤ j → ks[j]? = some x → x.l ≤ 99999999000
  us : used ≤ 16777216
theorem jn_empty : Jn 0 0 0 0 [] 0 := ⟨Nat.le_refl _, by simp, Nat.le_refl _, Nat.le_refl _, fun _ => rfl, by simp, by omega⟩

/-- What a Book may turn. -/
def PB (P : Nat × Nat → Prop) (q : Nat × Nat) : Prop := q = (5, 1) ∨ q = (5, 2) ∨ P q

theorem bt_bytes (P : Nat × Nat → Prop) (K : Knd) (w : World) (b : Nat) (L M : Value) (A turn done used : Nat) (ks : List Kl) (n : Nat) (p : Option Addr) (len c : Nat) (ys : List Nat) (h : Bt P K w b L M A turn done used ks) (j : Jn A turn done used ks n) (hn : n ≤ 5000) (hrow : ownsQ true w 0 5 1 (.slice p len c) len (vals ys)) (hfar : ∀ k ∈ ks, Far (.slice p len c) k.val) (hk : ∀ g, (Value.slice p len c).ownBlock = some g → P (K g)) (hlen : len ≤ 140737488355328) :
    Calls Try.prog 49 #[.pointer (some ⟨b, 0, none⟩), .slice p len c] w fun e w' => e = .returned (.tuple #[]) ∧ ∃ L' M' turn' used' ks', Bt P (ext K w.heap.size (5, 2)) w' b L' M' A turn' done used' ks' ∧ Jn A turn' done used' ks' (n + 1) ∧ Kp (PB P) K (ext K w.heap.size (5, 2)) w w' := by
  have hlk := j.len
  have hto := j.tn
  refine (bk_bytes w 0 b L M A turn done used ks p len c ys h.bk hrow hfar (Nat.zero_le _) (by omega) hlen j.us (by omega)).mono ?_
  rintro e w' ⟨rfl, L', M', used', ks', hb, hu, hks, hkept, hL, hM⟩
  have hfix : ∀ {X Y : Value}, (∀ g, Y.ownBlock = some g → K g = (5, 2)) → (∀ g, Y.ownBlock = some g → g < w.heap.size) → (X.ownBlock = Y.ownBlock ∨ ∃ g, X.ownBlock = some g ∧ w.heap.size ≤ g) → ∀ g, X.ownBlock = some g → ext K w.heap.size (5, 2) g = (5, 2) := fun h1 h2 h3 g e => by
    rcases h3 with e' | ⟨g', e', hg'⟩
    · rw [ext_old _ _ (h2 g (by rw [← e', e]))]; exact h1 g (by rw [← e', e])
    · rw [e'] at e; cases e; exact ext_new _ _ hg'
  refine ⟨rfl, L', M', turn + 1, used', ks', ⟨hb, (ext_old _ _ (lt_of_block h.bk.blk)).trans h.cb, hfix h.cl (owns_lt h.bk.ls) hL, hfix h.cm (owns_lt h.bk.ms) hM, fun x hx g e => ?_⟩, ⟨?_, ?_, by omega, by have := j.le; omega, fun e => by have := j.le; omega, fun i x hi hx => ?_, hu⟩, kp_kept hkept _ _ _ (fun i hi e => ?_)⟩
  · rcases hks with rfl | ⟨rfl, hsmall⟩
    · rw [ext_old _ _ (owns_lt (h.bk.rows x hx) g e)]; exact h.ck x hx g e
    · rcases List.mem_append.1 hx with h' | h'
      · rw [ext_old _ _ (owns_lt (h.bk.rows x h') g e)]; exact h.ck x h' g e
      · simp at h'; subst h'
        rw [ext_old _ _ (owns_lt hrow g e)]; exact hk g e
  · have := j.a
    rcases hks with rfl | ⟨rfl, hsmall⟩
    · exact this
    · simp; omega
  · have := j.a
    rcases hks with rfl | ⟨rfl, hsmall⟩
    · omega
    · simp; omega
  · rcases hks with rfl | ⟨rfl, hsmall⟩
    · exact j.low i x hi hx
    · by_cases hil : i < ks.length
      · rw [List.getElem?_append_left hil] at hx
        exact j.low i x hi hx
      · rw [List.getElem?_append_right (by omega)] at hx
        have := List.mem_of_getElem? hx
        simp at this; subst this
        simp only; omega
  · rcases e with e | e | e | e
    · rw [e]; exact Or.inl h.cb
    · exact Or.inr (Or.inl (h.cl i e.symm))
    · exact Or.inr (Or.inl (h.cm i e.symm))
    · exact Or.inr (Or.inr (hk i e.symm))

theorem bt_look (P : Nat × Nat → Prop) (hP : P (5, 2)) (K : Knd) (w : World) (b : Nat) (L M : Value) (A turn done used : Nat) (ks : List Kl) (n : Nat) (h : Bt P K w b L M A turn done used ks) (j : Jn A turn done used ks n) (hn : n ≤ 6000) :
    Calls Try.prog 8 #[.pointer (some ⟨b, 0, none⟩)] w fun e w' => e = .returned (.bool true) ∧ ∃ L' M' A' done' ks', Bt P (ext K w.heap.size (5, 2)) w' b L' M' A' turn done' used ks' ∧ Jn A' turn done' used ks' n ∧ Kp (PB P) K (ext K w.heap.size (5, 2)) w w' := by
  have hlk := j.len
  refine (bk_look w 0 b L M A turn done used ks h.bk (Nat.zero_le _) j.a (by omega) j.low).mono ?_
  rintro e w' ⟨rfl, L', M', ks', A', done', hg, hc, hcase⟩
  have hfix : ∀ {X Y : Value}, (∀ g, Y.ownBlock = some g → K g = (5, 2)) → (∀ g, Y.ownBlock = some g → g < w.heap.size) → (X.ownBlock = Y.ownBlock ∨ ∃ g, X.ownBlock = some g ∧ w.heap.size ≤ g) → ∀ g, X.ownBlock = some g → ext K w.heap.size (5, 2) g = (5, 2) := fun h1 h2 h3 g e => by
    rcases h3 with e' | ⟨g', e', hg'⟩
    · rw [ext_old _ _ (h2 g (by rw [← e', e]))]; exact h1 g (by rw [← e', e])
    · rw [e'] at e; cases e; exact ext_new _ _ hg'
  refine ⟨rfl, L', M', A', done', ks', ⟨hg.bk, (ext_old _ _ (lt_of_block h.bk.blk)).trans h.cb, hfix h.cl (owns_lt h.bk.ls) hg.lo, hfix h.cm (owns_lt h.bk.ms) hg.mo, fun x hx g e => ?_⟩, ?_, kp_kept hg.kept _ _ _ (fun i hi e => ?_)⟩
  · rcases hg.own x hx g e with ⟨k, hk, e'⟩ | e'
    · rw [ext_old _ _ (owns_lt (h.bk.rows k hk) g e')]; exact h.ck k hk g e'
    · rw [ext_new _ _ e']; exact hP
  · rcases hcase with ⟨rfl, rfl⟩ | ⟨rfl, rfl, hd, rfl⟩
    · exact ⟨Nat.le_refl _, by omega, j.tn, Nat.le_refl _, fun _ => rfl, fun i x hi hx => by have := (List.getElem?_eq_some_iff.1 hx).1; omega, j.us⟩
    · exact j
  · rcases e with e | e | e | ⟨k, hk, e⟩
    · rw [e]; exact Or.inl h.cb
    · exact Or.inr (Or.inl (h.cl i e.symm))
    · exact Or.inr (Or.inl (h.cm i e.symm))
    · exact Or.inr (Or.inr (h.ck k hk i e.symm))

end Go.Proofs.Ythgggjdefhgfiaa.Q
