import Derived.Test.YtbacgkfmnccheaaDoorQuoR
namespace Go.Proofs.YtbacgkfmnccheaaDoor
open Go.RowKit

/-- One value behind a row of the call's own: what is left as it was. -/
theorem app_gen {W : World} {ops : Array Oper} {rest : List Oper} {o : Oper} {a : Act} {Q : Exit → Act → World → Prop} (t e : TypeId) (z v : Value) (bytes : Nat) (ht : Tryd.prog.underlying t = some (.slice e)) (hinfo : (Tryd.prog.info? e).map (fun i => (i.zero, i.size, i.bytes)) = some (some z, 1, bytes)) (hz : z.cells.size = 1) (hv : v.oneCell' = true) (hby : bytes ≤ 1000)
    (hgd : o.guard = none) (s x : Operand) (ho : o.op = .call { callee := .builtin .append, args := #[s, x], argTypes := #[t, t] }) (base n : Nat) (p : Option Addr) (c : Nat) (xs : List Value)
    (hs : a.eval s = .slice p n c) (hO : W.ownsRow base e 1 (.slice p n c) n xs) (hx : a.eval x = .slice (some ⟨W.heap.size, 0, none⟩) 1 1) (hn : n ≤ 1000000) (hle : base ≤ W.heap.size)
    (h : ∀ g cap w', w'.ownsRow base e 1 (.slice (some ⟨g, 0, none⟩) (n + 1) cap) (n + 1) (xs ++ [v]) → (W.alloc (.cells #[v] e)).grownBy w' (Value.slice p n c).ownBlock → wpList Tryd.prog ops Q rest (a.put o.dst (.slice (some ⟨g, 0, none⟩) (n + 1) cap)) w') :
    wpList Tryd.prog ops Q (o :: rest) a (W.alloc (.cells #[v] e)) := by
  obtain ⟨i0, hi, hz0, hz1, hz2⟩ := info_parts hinfo
  have hbb : (n + 1) * bytes ≤ 140737488355328 := Nat.le_trans (Nat.mul_le_mul (show n + 1 ≤ 1000001 by omega) hby) (by decide)
  refine wpList_append_lies _ hgd s x t ho base e i0 z 1 bytes ht hi hz0 hz1 hz2 hz (by omega) _ n _ hs (hO.alloc _) ⟨W.heap.size, 0, none⟩ 1 1 [v] hx rfl (news_one W _ _) (by simpa using hv) (by omega) (by unfold maxLen; omega) hbb (by simp; omega) _ rfl ?_
  intro g' c' w5 hown hgrow _ _
  exact h g' c' w5 hown hgrow
theorem owns_up {w w' : World} {B : Nat} {e : TypeId} {v : Value} {n : Nat} {xs : List Value} (h : w.ownsRow B e 1 v n xs) (hb : ∀ k, v.ownBlock = some k → w'.heap[k]? = w.heap[k]?) : w'.ownsRow B e 1 v n xs := by
  refine ⟨h.1, ?_⟩
  rcases h.2 with h1 | ⟨g, cap, cur, h1, h2, h3, h4⟩
  · exact Or.inl h1
  · refine Or.inr ⟨g, cap, cur, h1, h2, ?_, h4⟩
    rw [hb g (by rw [h1]; rfl)]; exact h3
theorem owns_kind {w : World} {B : Nat} {e : TypeId} {v : Value} {n : Nat} {xs : List Value} (h : w.ownsRow B e 1 v n xs) {k : Nat} (hk : v.ownBlock = some k) : ∃ c, w.heap[k]? = some (.cells c e (0, 0)) := by
  rcases h.2 with ⟨rfl, _⟩ | ⟨g, cap, cur, rfl, _, hg, _⟩
  · cases hk
  · cases hk; exact ⟨cur, hg⟩
theorem blk_lt {w : World} {b : Nat} {o : Obj} (h : w.heap[b]? = some o) : b < w.heap.size := (Array.getElem?_eq_some_iff.1 h).1
theorem blk_ne {w : World} {k g : Nat} {c c' : Array Value} {e e' : TypeId} {f f' : Nat × Nat} (h : w.heap[k]? = some (.cells c e f)) (h' : w.heap[g]? = some (.cells c' e' f')) (hne : e ≠ e') : k ≠ g := by
  intro he; subst he; rw [h] at h'; cases h'; exact hne rfl
theorem owns_ge {W : World} {base : Nat} {t : TypeId} {v : Value} {n : Nat} {l : List Value} (h : W.ownsRow base t 1 v n l) : ∀ k, v.ownBlock = some k → base ≤ k := fun k e => (h.lt k e).1
/-- A row of another kind is as it was. -/
theorem owns_other {w wa : World} {B B' : Nat} {e e' : TypeId} {v v' : Value} {n n' : Nat} {xs xs' : List Value} {u : Value} (h : w.ownsRow B e 1 v n xs) (h' : w.ownsRow B' e' 1 v' n' xs') (hne : e ≠ e') {t : TypeId}
    (ga : (w.alloc (.cells #[u] t)).grownBy wa v'.ownBlock) : wa.ownsRow B e 1 v n xs := by
  refine owns_up h (fun k hk => ?_)
  have hkw := (h.lt k hk).2
  rw [ga.block k (by simp; omega) (fun hk2 => by
    obtain ⟨ca, hca⟩ := owns_kind h hk
    obtain ⟨cl2, hcl2⟩ := owns_kind h' hk2.symm
    exact absurd rfl (blk_ne hca hcl2 hne))]
  exact Below.heap_alloc w _ k hkw

/-- What the document's Words holds: the word, and what is told. -/
structure WS (w0 w : World) (p1 : Option Addr) (c1 : Nat) (p2 : Option Addr) (c2 : Nat) (word : List Nat) (out : List ByteArray) : Prop where
  below : Below w0.heap.size w0 w
  rowW : w.ownsRow w0.heap.size 5 1 (.slice p1 word.length c1) word.length (bys word)
  rowO : w.ownsRow w0.heap.size 9 1 (.slice p2 out.length c2) out.length (out.map Value.string)
  small : ∀ x ∈ word, x < 256
theorem WS.start (w : World) : WS w w none 0 none 0 [] [] := ⟨Below.refl _ _, ⟨rfl, Or.inl ⟨rfl, rfl⟩⟩, ⟨rfl, Or.inl ⟨rfl, rfl⟩⟩, by simp⟩
theorem WS.byte {w0 w wa : World} {p1 : Option Addr} {c1 : Nat} {p2 : Option Addr} {c2 : Nat} {word : List Nat} {out : List ByteArray} (h : WS w0 w p1 c1 p2 c2 word out) {c g cap : Nat} (hc : c < 256)
    (ha : wa.ownsRow w0.heap.size 5 1 (.slice (some ⟨g, 0, none⟩) (word.length + 1) cap) (word.length + 1) (bys word ++ [.int .u8 (c : Int)])) (ga : (w.alloc (.cells #[.int .u8 (c : Int)] 5)).grownBy wa (Value.slice p1 word.length c1).ownBlock) :
    WS w0 wa (some ⟨g, 0, none⟩) cap p2 c2 (word ++ [c]) out := by
  have hsz : w0.heap.size ≤ w.heap.size := h.below.size
  refine ⟨(h.below.alloc hsz _).grown ga (by simp; omega) (owns_ge h.rowW), ?_, owns_other h.rowO h.rowW (by decide) ga, ?_⟩
  · rw [show (word ++ [c]).length = word.length + 1 by simp, show bys (word ++ [c]) = bys word ++ [.int .u8 (c : Int)] by simp [bys]]
    exact ha
  · intro x hx
    rcases List.mem_append.1 hx with hx | hx
    · exact h.small x hx
    · simp at hx; subst hx; exact hc
theorem WS.str {w0 w wa : World} {p1 : Option Addr} {c1 : Nat} {p2 : Option Addr} {c2 : Nat} {word : List Nat} {out : List ByteArray} (h : WS w0 w p1 c1 p2 c2 word out) {g cap : Nat} {t : ByteArray}
    (ha : wa.ownsRow w0.heap.size 9 1 (.slice (some ⟨g, 0, none⟩) (out.length + 1) cap) (out.length + 1) (out.map Value.string ++ [.string t])) (ga : (w.alloc (.cells #[.string t] 9)).grownBy wa (Value.slice p2 out.length c2).ownBlock) :
    WS w0 wa none 0 (some ⟨g, 0, none⟩) cap [] (out ++ [t]) := by
  have hsz : w0.heap.size ≤ w.heap.size := h.below.size
  refine ⟨(h.below.alloc hsz _).grown ga (by simp; omega) (owns_ge h.rowO), ⟨rfl, Or.inl ⟨rfl, rfl⟩⟩, ?_, by simp⟩
  rw [show (out ++ [t]).length = out.length + 1 by simp, List.map_append]
  exact ha
theorem WS.conv {w0 w : World} {p1 : Option Addr} {c1 : Nat} {p2 : Option Addr} {c2 : Nat} {word : List Nat} {out : List ByteArray} (h : WS w0 w p1 c1 p2 c2 word out) : ∃ t, (convert 43 9 (.slice p1 word.length c1)).run Tryd.prog w = .ok (.string t) w ∧ nums t = word := by
  cases p1 with
  | none =>
    obtain ⟨h1, h2⟩ := own_none h.rowW
    have hw : word = [] := List.eq_nil_of_length_eq_zero h1
    subst hw
    subst h2
    exact ⟨⟨#[]⟩, nil_back w, rfl⟩
  | some a =>
    obtain ⟨g, rfl⟩ := own_some h.rowW
    exact own_back w _ g _ _ word h.rowW rfl h.small
end Go.Proofs.YtbacgkfmnccheaaDoor
