import Derived.Test.YtgfegkcmoedgkaaAsked
import Derived.Test.YtgfegkcmoedgkaaRangesO
import Derived.Test.YtgfegkcmoedgkaaRowI
import Derived.Test.YtgfegkcmoedgkaaOrder
namespace Go.Proofs.Ytgfegkcmoedgkaa
open Go.RowKit

theorem Try.infoP : (Try.prog.info? 46).map (fun i => (i.zero, i.size, i.bytes)) = some (some (.pointer none), 1, 8) := by kernel_rfl
theorem Try.infoN : (Try.prog.info? 3).map (fun i => (i.zero, i.size, i.bytes)) = some (some (.int .i64 0), 1, 8) := by kernel_rfl

theorem heap_new (w : World) (o : Obj) : (w.alloc o).heap[w.heap.size]? = some o := by unfold World.alloc; exact Array.getElem?_push_size
theorem news_one (W : World) (v : Value) (t : TypeId) : ∀ j u, [v][j]? = some u → (W.alloc (.cells #[v] t)).cell? ((⟨W.heap.size, 0, none⟩ : Addr).add j) = some u := fun j u h => by
  match j, h with
  | 0, h =>
    simp only [List.getElem?_cons_zero, Option.some.injEq] at h
    subst h
    have h := heap_new W (.cells #[v] t)
    rw [ad_plain, Nat.zero_add]
    unfold World.cell?; simp only [h]; rfl
  | j + 1, h => simp at h

/-- One value behind a row of the call's own. -/
theorem app_val {W : World} {ops : Array Oper} {rest : List Oper} {o : Oper} {a : Act} {Q : Exit → Act → World → Prop} (t e : TypeId) (z v : Value) (ht : Try.prog.underlying t = some (.slice e)) (hinfo : (Try.prog.info? e).map (fun i => (i.zero, i.size, i.bytes)) = some (some z, 1, 8)) (hz : z.cells.size = 1) (hv : v.oneCell' = true)
    (hgd : o.guard = none) (s x : Operand) (ho : o.op = .call { callee := .builtin .append, args := #[s, x], argTypes := #[t, t] }) (base n : Nat) (p : Option Addr) (c : Nat) (xs : List Value)
    (hs : a.eval s = .slice p n c) (hO : W.ownsRow base e 1 (.slice p n c) n xs) (hx : a.eval x = .slice (some ⟨W.heap.size, 0, none⟩) 1 1) (hn : n ≤ 1000) (hle : base ≤ W.heap.size)
    (h : ∀ g cap w', w'.ownsRow base e 1 (.slice (some ⟨g, 0, none⟩) (n + 1) cap) (n + 1) (xs ++ [v]) → (W.alloc (.cells #[v] e)).grownBy w' (Value.slice p n c).ownBlock → wpList Try.prog ops Q rest (a.put o.dst (.slice (some ⟨g, 0, none⟩) (n + 1) cap)) w') :
    wpList Try.prog ops Q (o :: rest) a (W.alloc (.cells #[v] e)) := by
  obtain ⟨i0, hi, hz0, hz1, hz2⟩ := info_parts hinfo
  refine wpList_append_lies _ hgd s x t ho base e i0 z 1 8 ht hi hz0 hz1 hz2 hz (by omega) _ n _ hs (hO.alloc _) ⟨W.heap.size, 0, none⟩ 1 1 [v] hx rfl (news_one W _ _) (by simpa using hv) (by omega) (by unfold maxLen; omega) (by omega) (by simp; omega) _ rfl ?_
  intro g' c' w5 hown hgrow _ _
  exact h g' c' w5 hown hgrow

/-- The ranges that were made: where they lie, and of which place. -/
def ptrs (es : List (Nat × Nat)) : List Value := es.map fun e => Value.pointer (some ⟨e.1, 0, none⟩)
def idxs (es : List (Nat × Nat)) : List Value := es.map fun e => Value.int .i64 (e.2 : Int)
structure St (w1 w : World) (ls hs : List Int) (p1 : Option Addr) (c1 : Nat) (p2 : Option Addr) (c2 : Nat) (es : List (Nat × Nat)) : Prop where
  below : Below w1.heap.size w1 w
  rowL : w.ownsRow w1.heap.size 46 1 (.slice p1 es.length c1) es.length (ptrs es)
  rowA : w.ownsRow w1.heap.size 3 1 (.slice p2 es.length c2) es.length (idxs es)
  rng : ∀ e ∈ es, ∃ lo hi, ls[e.2]? = some lo ∧ hs[e.2]? = some hi ∧ lo ≤ hi ∧ w1.heap.size ≤ e.1 ∧ w.heap[e.1]? = some (.cells #[.int .i64 lo, .int .i64 hi] 69 (0, 0))

theorem owns_up {w w' : World} {B : Nat} {e : TypeId} {v : Value} {n : Nat} {xs : List Value} (h : w.ownsRow B e 1 v n xs) (hb : ∀ k, v.ownBlock = some k → w'.heap[k]? = w.heap[k]?) : w'.ownsRow B e 1 v n xs := by
  refine ⟨h.1, ?_⟩
  rcases h.2 with h1 | ⟨g, cap, cur, h1, h2, h3, h4⟩
  · exact Or.inl h1
  · refine Or.inr ⟨g, cap, cur, h1, h2, ?_, h4⟩
    rw [hb g (by rw [h1]; rfl)]; exact h3
theorem owns_kind {w : World} {B : Nat} {e : TypeId} {v : Value} {n : Nat} {xs : List Value} (h : w.ownsRow B e 1 v n xs) {k : Nat} (hk : v.ownBlock = some k) : ∃ c, w.heap[k]? = some (.cells c e (0, 0)) := by
  rcases h.2 with ⟨rfl, _⟩ | ⟨g, cap, cur, rfl, _, hg, _⟩
  · cases hk
  · cases hk; exact ⟨cur, hg⟩
theorem St.up {w1 w w' : World} {ls hs : List Int} {p1 : Option Addr} {c1 : Nat} {p2 : Option Addr} {c2 : Nat} {es : List (Nat × Nat)} (h : St w1 w ls hs p1 c1 p2 c2 es) (hb : Below w.heap.size w w') : St w1 w' ls hs p1 c1 p2 c2 es :=
  ⟨h.below.trans (hb.mono h.below.size), owns_up h.rowL (fun k hk => hb.block k (h.rowL.lt k hk).2), owns_up h.rowA (fun k hk => hb.block k (h.rowA.lt k hk).2), fun e he => by
    obtain ⟨lo, hi, a1, a2, a3, a4, a5⟩ := h.rng e he
    exact ⟨lo, hi, a1, a2, a3, a4, (hb.block e.1 (lt_of_block a5)).trans a5⟩⟩
theorem block_ne {w : World} {k g : Nat} {c c' : Array Value} {e e' : TypeId} {f f' : Nat × Nat} (h : w.heap[k]? = some (.cells c e f)) (h' : w.heap[g]? = some (.cells c' e' f')) (hne : e ≠ e') : k ≠ g := by
  intro he; subst he; rw [h] at h'; cases h'; exact hne rfl
/-- A range is added: its pointer and its place. -/
theorem St.add {w1 w wa wb : World} {ls hs : List Int} {p1 : Option Addr} {c1 : Nat} {p2 : Option Addr} {c2 : Nat} {es : List (Nat × Nat)} (h : St w1 w ls hs p1 c1 p2 c2 es) {G j : Nat} {lo hi : Int}
    (hlo : ls[j]? = some lo) (hhi : hs[j]? = some hi) (hl : lo ≤ hi) (hG : w1.heap.size ≤ G) (hR : w.heap[G]? = some (.cells #[.int .i64 lo, .int .i64 hi] 69 (0, 0)))
    {g1 d1 g2 d2 : Nat}
    (ha : wa.ownsRow w1.heap.size 46 1 (.slice (some ⟨g1, 0, none⟩) (es.length + 1) d1) (es.length + 1) (ptrs es ++ [.pointer (some ⟨G, 0, none⟩)])) (ga : (w.alloc (.cells #[.pointer (some ⟨G, 0, none⟩)] 46)).grownBy wa (Value.slice p1 es.length c1).ownBlock)
    (hb : wb.ownsRow w1.heap.size 3 1 (.slice (some ⟨g2, 0, none⟩) (es.length + 1) d2) (es.length + 1) (idxs es ++ [.int .i64 (j : Int)])) (gb : (wa.alloc (.cells #[.int .i64 (j : Int)] 3)).grownBy wb (Value.slice p2 es.length c2).ownBlock) :
    St w1 wb ls hs (some ⟨g1, 0, none⟩) d1 (some ⟨g2, 0, none⟩) d2 (es ++ [(G, j)]) := by
  have hsz : w1.heap.size ≤ w.heap.size := h.below.size
  -- blocks of w that are not l's own row are in wa as they were
  have ka : ∀ k, k < w.heap.size → some k ≠ (Value.slice p1 es.length c1).ownBlock → wa.heap[k]? = w.heap[k]? := fun k hk hne => by
    rw [ga.block k (by simp; omega) hne]; exact Below.heap_alloc w _ k hk
  have hsa : w.heap.size ≤ wa.heap.size := by have := ga.size; simp at this; omega
  have kb : ∀ k, k < wa.heap.size → some k ≠ (Value.slice p2 es.length c2).ownBlock → wb.heap[k]? = wa.heap[k]? := fun k hk hne => by
    rw [gb.block k (by simp; omega) hne]; exact Below.heap_alloc wa _ k hk
  have hba : Below w1.heap.size w1 wa := (h.below.alloc hsz _).grown ga (by simp; omega) (owns_ge h.rowL)
  have hbb : Below w1.heap.size w1 wb := (hba.alloc hba.size _).grown gb (by have := hba.size; simp; omega) (owns_ge h.rowA)
  refine ⟨hbb, ?_, ?_, ?_⟩
  · have : (es ++ [(G, j)]).length = es.length + 1 := by simp
    rw [this]
    have e1 : ptrs (es ++ [(G, j)]) = ptrs es ++ [.pointer (some ⟨G, 0, none⟩)] := by simp [ptrs]
    rw [e1]
    refine owns_up ha (fun k hk => ?_)
    refine kb k (ha.lt k hk).2 (fun he => ?_)
    -- at's row lies in w, of another kind
    obtain ⟨ca, hca⟩ := owns_kind h.rowA he.symm
    obtain ⟨cl, hcl⟩ := owns_kind ha hk
    have hkw : k < w.heap.size := lt_of_block hca
    have hnl : some k ≠ (Value.slice p1 es.length c1).ownBlock := fun hk2 => by
      obtain ⟨cl2, hcl2⟩ := owns_kind h.rowL hk2.symm
      exact absurd rfl (block_ne hca hcl2 (by decide))
    have := ka k hkw hnl
    rw [hcl, hca] at this
    cases this
  · have : (es ++ [(G, j)]).length = es.length + 1 := by simp
    rw [this]
    have e1 : idxs (es ++ [(G, j)]) = idxs es ++ [.int .i64 (j : Int)] := by simp [idxs]
    rw [e1]
    exact hb
  · have hold : ∀ (k : Nat) (lo hi : Int), w.heap[k]? = some (.cells #[.int .i64 lo, .int .i64 hi] 69 (0, 0)) → wb.heap[k]? = some (.cells #[.int .i64 lo, .int .i64 hi] 69 (0, 0)) := fun k lo hi hk => by
      have hkw := lt_of_block hk
      have n1 : some k ≠ (Value.slice p1 es.length c1).ownBlock := fun hk2 => by
        obtain ⟨cl2, hcl2⟩ := owns_kind h.rowL hk2.symm
        exact absurd rfl (block_ne hk hcl2 (by decide))
      have n2 : some k ≠ (Value.slice p2 es.length c2).ownBlock := fun hk2 => by
        obtain ⟨cl2, hcl2⟩ := owns_kind h.rowA hk2.symm
        exact absurd rfl (block_ne hk hcl2 (by decide))
      rw [kb k (by omega) n2, ka k hkw n1]; exact hk
    intro e he
    rcases List.mem_append.1 he with he | he
    · obtain ⟨lo', hi', a1, a2, a3, a4, a5⟩ := h.rng e he
      exact ⟨lo', hi', a1, a2, a3, a4, hold _ _ _ a5⟩
    · simp only [List.mem_singleton] at he
      subst he
      exact ⟨lo, hi, hlo, hhi, hl, hG, hold _ _ _ hR⟩
theorem St.keepA {w1 w wa : World} {ls hs : List Int} {p1 : Option Addr} {c1 : Nat} {p2 : Option Addr} {c2 : Nat} {es : List (Nat × Nat)} (h : St w1 w ls hs p1 c1 p2 c2 es) {v : Value}
    (ga : (w.alloc (.cells #[v] 46)).grownBy wa (Value.slice p1 es.length c1).ownBlock) : wa.ownsRow w1.heap.size 3 1 (.slice p2 es.length c2) es.length (idxs es) ∧ w1.heap.size ≤ wa.heap.size := by
  have hsz : w1.heap.size ≤ w.heap.size := h.below.size
  refine ⟨owns_up h.rowA (fun k hk => ?_), by have := ga.size; simp at this; omega⟩
  have hkw := (h.rowA.lt k hk).2
  rw [ga.block k (by simp; omega) (fun hk2 => by
    obtain ⟨ca, hca⟩ := owns_kind h.rowA hk
    obtain ⟨cl2, hcl2⟩ := owns_kind h.rowL hk2.symm
    exact absurd rfl (block_ne hca hcl2 (by decide)))]
  exact Below.heap_alloc w _ k hkw
/-- What is read of a row. -/
theorem owns_get {w : World} {B n c : Nat} {p : Option Addr} {e : TypeId} {xs : List Value} (h : w.ownsRow B e 1 (.slice p n c) n xs) {k : Nat} {v : Value} (hk : xs[k]? = some v) : ∃ g, p = some ⟨g, 0, none⟩ ∧ w.cell? ⟨g, k, none⟩ = some v := by
  have hlt : k < n := by have := (List.getElem?_eq_some_iff.1 hk).1; have := h.1; omega
  rcases h.2 with ⟨h1, h2⟩ | ⟨g, cap, cur, h1, h2, hg, h3, h4, h5, h6⟩
  · omega
  · cases h1
    refine ⟨g, rfl, ?_⟩
    have : cur.toList[k]? = some v := by
      rw [← h6, List.getElem?_take_of_lt (by omega)] at hk; exact hk
    simp only [World.cell?, hg]
    simpa using this
theorem St.start (w1 : World) (ls hs : List Int) : St w1 w1 ls hs none 0 none 0 [] :=
  ⟨Below.refl _ _, ⟨rfl, Or.inl ⟨rfl, rfl⟩⟩, ⟨rfl, Or.inl ⟨rfl, rfl⟩⟩, by simp⟩
theorem new_blk (lo hi : Int) (w : World) (hl : lo ≤ hi) :
    Calls Try.prog 26 #[.int .i64 lo, .int .i64 hi] w fun e w' => e = .returned (.tuple #[.pointer (some ⟨w.heap.size, 0, none⟩), .int .i64 0]) ∧ w'.heap[w.heap.size]? = some (.cells #[.int .i64 lo, .int .i64 hi] 69 (0, 0)) ∧ Below w.heap.size w w' := by
  have p1 : decide (hi < lo) = false := by simpa using hl
  go_enter Try.func26, Try.ntmps26
  go_wp2
  go_ret2
  exact ⟨rfl, heap_new _ _, below_al _ _⟩
theorem rg_of {w : World} {g : Nat} {lo hi : Int} (h : w.heap[g]? = some (.cells #[.int .i64 lo, .int .i64 hi] 69 (0, 0))) : Rg w g lo hi :=
  ⟨by simp [World.cell?, h], by simp [World.cell?, h]⟩
end Go.Proofs.Ytgfegkcmoedgkaa
