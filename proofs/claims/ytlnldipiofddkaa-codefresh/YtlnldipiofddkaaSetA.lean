import Derived.Test.YtlnldipiofddkaaLateC
namespace Go.Proofs.Ytlnldipiofddkaa
open Go.RowKit

theorem Mv.trans {S T : Nat → Prop} {τ τ1 τ2 : Nat → Nat} {w w1 w2 : World} (h : Mv S τ w τ1 w1) (k : Mv T τ1 w1 τ2 w2) (hT : ∀ c, T c → S c) : Mv S τ w τ2 w2 := by
  refine ⟨h.kept.trans k.kept (fun i hi => ?_), fun i hi hn => ?_⟩
  · by_cases hs : i < w.heap.size
    · left
      by_cases hS : S (τ i)
      · exact hS
      · have := h.col i hs hS
        rw [this] at hi
        exact hT _ hi
    · exact Or.inr (by omega)
  · rw [k.col i (Nat.lt_of_lt_of_le hi h.kept.size) (fun e => hn (by have := h.col i hi hn; rw [this] at e; exact hT _ e)), h.col i hi hn]
theorem Mv.imp {S T : Nat → Prop} {τ τ1 : Nat → Nat} {w w1 : World} (h : Mv S τ w τ1 w1) (hT : ∀ c, S c → T c) : Mv T τ w τ1 w1 :=
  ⟨⟨h.kept.os, h.kept.tape, h.kept.output, h.kept.size, fun k hk hn => h.kept.block k hk (fun e => hn (hT _ e))⟩, fun k hk hn => h.col k hk (fun e => hn (hT _ e))⟩
theorem Mv.refl (S : Nat → Prop) (τ : Nat → Nat) (w : World) : Mv S τ w τ w := ⟨Kept.refl _ _, fun _ _ _ => rfl⟩
theorem Mv.same {S T : Nat → Prop} {τ : Nat → Nat} {w w' : World} (h : Kept T w w') (hS : ∀ k, k < w.heap.size → T k → S (τ k)) : Mv S τ w τ w' :=
  ⟨⟨h.os, h.tape, h.output, h.size, fun k hk hn => h.block k hk (fun t => hn (hS k hk t))⟩, fun _ _ _ => rfl⟩

/-- A Book whose blocks are of one kind. -/
structure Bt (τ : Nat → Nat) (w : World) (b : Nat) (L M : Value) (A turn done used : Nat) (ks : List Kl) : Prop where
  bk : Bk w 0 b L M A turn done used ks
  cb : τ b = 5
  cl : ∀ g, L.ownBlock = some g → τ g = 5
  cm : ∀ g, M.ownBlock = some g → τ g = 5
  ck : ∀ k ∈ ks, ∀ g, k.val.ownBlock = some g → τ g = 5
theorem Bt.keep {S : Nat → Prop} {τ τ' : Nat → Nat} {w w' : World} {b : Nat} {L M : Value} {A turn done used : Nat} {ks : List Kl} (h : Bt τ w b L M A turn done used ks) (m : Mv S τ w τ' w') (h5 : ¬ S 5) : Bt τ' w' b L M A turn done used ks :=
  ⟨h.bk.keep m.kept (by rw [h.cb]; exact h5) (fun g e => by rw [h.cl g e]; exact h5) (fun g e => by rw [h.cm g e]; exact h5) (fun x hx g e => by rw [h.ck x hx g e]; exact h5), m.kind (lt_of_block h.bk.blk) h.cb h5, fun g e => m.kind (owns_lt h.bk.ls g e) (h.cl g e) h5, fun g e => m.kind (owns_lt h.bk.ms g e) (h.cm g e) h5, fun x hx g e => m.kind (owns_lt (h.bk.rows x hx) g e) (h.ck x hx g e) h5⟩

/-- A Book's numbers; n: how many lists have come. -/
structure Jn (A turn done used : Nat) (ks : List Kl) (n : Nat) : Prop where
  a : A ≤ ks.length
  len : ks.length + 96 * (ks.length - A) ≤ 97 * n
  tn : turn ≤ n
  le : done ≤ turn
  eq : done = turn → A = ks.length
  low : ∀ j x, A ≤ j → ks[j]? = some x → x.l ≤ 99999999000
  us : used ≤ 16777216

/-- The kind d, and new blocks, are the Book's. -/
def took (τ : Nat → Nat) (n d : Nat) (k : Nat) : Nat := if k < n then (if τ k = d then 5 else τ k) else 5

theorem bt_bytes (τ : Nat → Nat) (w : World) (b : Nat) (L M : Value) (A turn done used : Nat) (ks : List Kl) (n d : Nat) (p : Option Addr) (len c : Nat) (ys : List Nat) (h : Bt τ w b L M A turn done used ks) (j : Jn A turn done used ks n) (hn : n ≤ 5000) (hrow : w.ownsRow 0 5 1 (.slice p len c) len (vals ys)) (hd : 10 ≤ d) (hk : ∀ g, (Value.slice p len c).ownBlock = some g → τ g = d) (hlen : len ≤ 140737488355328) :
    Calls Try.prog 63 #[.pointer (some ⟨b, 0, none⟩), .slice p len c] w fun e w' => e = .returned (.tuple #[]) ∧ ∃ L' M' turn' used' ks', Bt (took τ w.heap.size d) w' b L' M' A turn' done used' ks' ∧ Jn A turn' done used' ks' (n + 1) ∧ Mv (fun c => c = 5 ∨ c = d) τ w (took τ w.heap.size d) w' := by
  have hfar : ∀ k ∈ ks, Far (.slice p len c) k.val := fun k hk' g e e' => by
    have h1 := hk g e
    have h2 := h.ck k hk' g e'
    omega
  have hlk := j.len
  have hto := j.tn
  refine (bk_bytes w 0 b L M A turn done used ks p len c ys h.bk hrow hfar (Nat.zero_le _) (by omega) hlen j.us (by omega)).mono ?_
  rintro e w' ⟨rfl, L', M', used', ks', hb, hu, hks, hkept, hL, hM⟩
  have hfix : ∀ {X Y : Value}, (∀ g, Y.ownBlock = some g → τ g = 5) → (∀ g, Y.ownBlock = some g → g < w.heap.size) → (X.ownBlock = Y.ownBlock ∨ ∃ g, X.ownBlock = some g ∧ w.heap.size ≤ g) → ∀ g, X.ownBlock = some g → took τ w.heap.size d g = 5 := fun h1 h2 h3 g e => by
    rcases h3 with e' | ⟨g', e', hg'⟩
    · have := h1 g (by rw [← e', e])
      unfold took
      split
      · split
        · rfl
        · exact this
      · rfl
    · rw [e'] at e; cases e; exact if_neg (by omega)
  have h5 : ∀ g, τ g = 5 → took τ w.heap.size d g = 5 := fun g e => by
    unfold took
    split
    · split
      · rfl
      · exact e
    · rfl
  refine ⟨rfl, L', M', turn + 1, used', ks', ⟨hb, h5 b h.cb, hfix h.cl (owns_lt h.bk.ls) hL, hfix h.cm (owns_lt h.bk.ms) hM, fun x hx g e => ?_⟩, ⟨?_, ?_, by omega, by have := j.le; omega, fun e => by have := j.le; omega, fun i x hi hx => ?_, hu⟩, ⟨⟨hkept.os, hkept.tape, hkept.output, hkept.size, fun i hi hn' => hkept.block i hi (fun e => hn' ?_)⟩, fun i hi hn' => ?_⟩⟩
  · rcases hks with rfl | ⟨rfl, hsmall⟩
    · exact h5 g (h.ck x hx g e)
    · rcases List.mem_append.1 hx with h' | h'
      · exact h5 g (h.ck x h' g e)
      · simp at h'; subst h'
        have := hk g e
        simp [took, this]
  · have := j.a
    rcases hks with rfl | ⟨rfl, hsmall⟩
    · exact this
    · simp; omega
  · have := j.a
    rcases hks with rfl | ⟨rfl, hsmall⟩
    · omega
    · simp; omega
  · rcases hks with rfl | ⟨rfl, hsmall⟩
    · exact j.low i x hi hx
    · by_cases hil : i < ks.length
      · rw [List.getElem?_append_left hil] at hx
        exact j.low i x hi hx
      · rw [List.getElem?_append_right (by omega)] at hx
        have := List.mem_of_getElem? hx
        simp at this; subst this
        simp only; omega
  · rcases e with e | e | e | e
    · rw [e]; exact Or.inl h.cb
    · exact Or.inl (h.cl i e.symm)
    · exact Or.inl (h.cm i e.symm)
    · exact Or.inr (hk i e.symm)
  · unfold took
    rw [if_pos hi, if_neg (fun e => hn' (Or.inr e))]

theorem bt_look (τ : Nat → Nat) (w : World) (b : Nat) (L M : Value) (A turn done used : Nat) (ks : List Kl) (n : Nat) (h : Bt τ w b L M A turn done used ks) (j : Jn A turn done used ks n) (hn : n ≤ 6000) :
    Calls Try.prog 33 #[.pointer (some ⟨b, 0, none⟩)] w fun e w' => e = .returned (.bool true) ∧ ∃ L' M' A' done' ks', Bt (ext τ w.heap.size 5) w' b L' M' A' turn done' used ks' ∧ Jn A' turn done' used ks' n ∧ Mv (fun c => c = 5) τ w (ext τ w.heap.size 5) w' := by
  have hlk := j.len
  refine (bk_look w 0 b L M A turn done used ks h.bk (Nat.zero_le _) j.a (by omega) j.low).mono ?_
  rintro e w' ⟨rfl, L', M', ks', A', done', hg, hc, hcase⟩
  have h5 : ∀ g, τ g = 5 → ext τ w.heap.size 5 g = 5 := fun g e => by
    unfold ext
    split
    · exact e
    · rfl
  have hfix : ∀ {X Y : Value}, (∀ g, Y.ownBlock = some g → τ g = 5) → (X.ownBlock = Y.ownBlock ∨ ∃ g, X.ownBlock = some g ∧ w.heap.size ≤ g) → ∀ g, X.ownBlock = some g → ext τ w.heap.size 5 g = 5 := fun h1 h3 g e => by
    rcases h3 with e' | ⟨g', e', hg'⟩
    · exact h5 g (h1 g (by rw [← e', e]))
    · rw [e'] at e; cases e; exact ext_new hg'
  refine ⟨rfl, L', M', A', done', ks', ⟨hg.bk, h5 b h.cb, hfix h.cl hg.lo, hfix h.cm hg.mo, fun x hx g e => ?_⟩, ?_, Mv.of hg.kept (fun i hi e => ?_) 5⟩
  · rcases hg.own x hx g e with ⟨k, hk, e'⟩ | e'
    · exact h5 g (h.ck k hk g e')
    · exact ext_new e'
  · rcases hcase with ⟨rfl, rfl⟩ | ⟨rfl, rfl, hd, rfl⟩
    · exact ⟨Nat.le_refl _, by omega, j.tn, Nat.le_refl _, fun _ => rfl, fun i x hi hx => by have := (List.getElem?_eq_some_iff.1 hx).1; omega, j.us⟩
    · exact j
  · rcases e with e | e | e | ⟨k, hk, e⟩
    · rw [e]; exact h.cb
    · exact h.cl i e.symm
    · exact h.cm i e.symm
    · exact h.ck k hk i e.symm

end Go.Proofs.Ytlnldipiofddkaa
