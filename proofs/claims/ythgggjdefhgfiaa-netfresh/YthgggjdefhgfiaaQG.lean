import Derived.Test.YthgggjdefhgfiaaQC
import Derived.ArgAppend
namespace Go.Proofs.Ythgggjdefhgfiaa.Q
open Go.RowKit


/-- In a block of one mark one more byte of the mark is written: whatever list of that mark lies there still does. -/
theorem row_marked {w : World} {N g n k cap : Nat} {m : Nat} {cur : Array Value} {u : Value} {fz : Nat × Nat} (hg : w.heap[g]? = some (.cells cur 5 fz)) (hcs : cur.size = cap) (hn : n < cap) (h : ownsQ true w N 5 1 u k (vals (mks m k))) :
    ownsQ true (w.setCell ⟨g, n, none⟩ (.int .u8 (mkB m n : Nat))) N 5 1 u k (vals (mks m k)) := by
  refine ⟨h.1, ?_⟩
  rcases h.2 with h0 | ⟨g', cap', cur', h1, h2, ⟨fz', hg', hf'⟩, h3, h4, h5, ht⟩
  · exact Or.inl h0
  · by_cases e : g' = g
    · subst e
      rw [hg] at hg'
      simp only [Option.some.injEq, Obj.cells.injEq, true_and] at hg'
      obtain ⟨rfl, rfl⟩ := hg'
      refine Or.inr ⟨g', cap', cur.setIfInBounds n (.int .u8 (mkB m n : Nat)), h1, h2, ⟨_, block_set hg _, hf'⟩, h3, h4, by simpa using h5, ?_⟩
      rw [← ht]
      apply List.ext_getElem?
      intro i
      rw [List.getElem?_take, List.getElem?_take]
      by_cases hi : i < k * 1
      · rw [if_pos hi, if_pos hi]
        by_cases hin : n = i
        · subst hin
          have := congrArg (fun l => l[n]?) ht
          simp only [List.getElem?_take, if_pos hi] at this
          rw [this]
          have hk : n < k := by omega
          simp [vals, mks, hk, show n < cur.size by omega]
        · simp [List.getElem?_set_ne hin]
      · rw [if_neg hi, if_neg hi]
    · exact Or.inr ⟨g', cap', cur', h1, h2, ⟨fz', (Below.heap_setCell _ _ _ _ (by simpa using e)).trans hg', hf'⟩, h3, h4, h5, ht⟩

/-- 'g = append(g, at(m, len(g)))'. -/
theorem wpList_append_mark {w : World} {ops : Array Oper} {rest : List Oper} {o : Oper} {a : Act} {Q : Exit → Act → World → Prop} (hgd : o.guard = none) (s x : Operand)
    (ho : o.op = .call { callee := .builtin .append, args := #[s, x], argTypes := #[59, 59] }) (N m n : Nat) (v : Value) (hs : a.eval s = v) (hrow : ownsQ true w N 5 1 v n (vals (mks m n))) (B : Nat) (hx : a.eval x = .slice (some ⟨B, 0, none⟩) 1 1) (hB : w.cell? ⟨B, 0, none⟩ = some (.int .u8 (mkB m n : Nat)))
    (hn : n + 1 ≤ 140737488355328) (hN : N ≤ w.heap.size)
    (h : ∀ v' w', ownsQ true w' N 5 1 v' (n + 1) (vals (mks m (n + 1))) → (v'.ownBlock = v.ownBlock ∨ ∃ g, v'.ownBlock = some g ∧ w.heap.size ≤ g) → Kept (fun i => some i = v.ownBlock) w w' → (∀ u k, ownsQ true w N 5 1 u k (vals (mks m k)) → ownsQ true w' N 5 1 u k (vals (mks m k))) → wpList Try.prog ops Q rest (a.put o.dst v') w') :
    wpList Try.prog ops Q (o :: rest) a w := by
  obtain ⟨i0, hi, hz0, hz1, hz2⟩ := info_parts Try.info5'
  have hnew : ∀ j u, ([Value.int .u8 (mkB m n : Nat)] : List Value)[j]? = some u → w.cell? ((⟨B, 0, none⟩ : Addr).add j) = some u := fun j u hj => by
    match j, hj with
    | 0, hj => simp at hj; subst hj; simpa [Addr.add] using hB
  have hsnoc : vals (mks m n) ++ [Value.int .u8 (mkB m n : Nat)] = vals (mks m (n + 1)) := by rw [mks_snoc, vals_app]; rfl
  have hkeep : ∀ w' : World, (∀ k, k < w.heap.size → w'.heap[k]? = w.heap[k]?) → ∀ u k, ownsQ true w N 5 1 u k (vals (mks m k)) → ownsQ true w' N 5 1 u k (vals (mks m k)) := fun w' hk u k hu => owns_kept' hu (fun g e => hk g (owns_lt hu g e))
  rcases hrow.2 with ⟨h1, h2⟩ | ⟨g, cap, cur, h1, hbg, ⟨fz, hg, hf⟩, h3, h4, h5, ht⟩
  · subst h2
    refine wpList_append_lies _ hgd s x 59 ho N 5 i0 (.int .u8 0) 1 1 Try.underlying59 hi hz0 hz1 hz2 rfl (by omega) v 0 (vals (mks m 0)) hs ⟨by simp [vals, mks], Or.inl ⟨h1, rfl⟩⟩ ⟨B, 0, none⟩ 1 1 [.int .u8 (mkB m 0 : Nat)] hx rfl hnew (by simp [Value.oneCell']) (by omega) (by unfold maxLen; omega) (by omega) hN _ rfl ?_
    intro g' cap' w' r1 r2 r3 _
    have hvn : v.ownBlock = none := by rw [h1]; rfl
    rw [hsnoc] at r1
    rw [hvn] at r2 r3
    refine h _ w' (ownsQ_of r1) ?_ (by rw [hvn]; exact kept_grown r2) (hkeep w' (fun k hk => r2.block k hk (by simp)))
    rcases r3 with e | e
    · cases e
    · exact Or.inr ⟨g', rfl, by omega⟩
  · subst h1
    have hcell : ∀ j u, (vals (mks m n))[j]? = some u → w.cell? ⟨g, 0 + j, none⟩ = some u := fun j u hj => by
      have := (owns_cell hrow u hj).1
      simpa using this
    refine wpList_append_arg w hgd s x 59 ho 5 i0 (.int .u8 0) 1 1 Try.underlying59 hi hz0 hz1 hz2 rfl (by omega) g 0 n cap (vals (mks m n)) hs (by rw [vals_len, mks_len]; omega) hcell ⟨B, 0, none⟩ 1 1 [.int .u8 (mkB m n : Nat)] hx rfl hnew (by simp [Value.oneCell']) ?_ (by unfold maxLen; omega) (by omega) ?_ ?_
    · intro hroom j hj
      simp at hj
      subst hj
      have hlt : n < cur.size := by omega
      exact ⟨by simp [World.cell?, hg, hlt], by simpa using thawed (o := n) hg hf (by omega)⟩
    · intro hroom
      have e : w.setCells g (0 + n * 1) [.int .u8 (mkB m n : Nat)] = w.setCell ⟨g, n, none⟩ (.int .u8 (mkB m n : Nat)) := by simp [World.setCells]
      rw [e]
      refine h _ _ ⟨by rw [vals_len, mks_len]; omega, Or.inr ⟨g, cap, cur.setIfInBounds n (.int .u8 (mkB m n : Nat)), rfl, hbg, ⟨fz, block_set hg _, hf⟩, hroom, h4, by simpa using h5, ?_⟩⟩ (Or.inl rfl) (kept_but ((But.refl g w).setCell (p := ⟨g, n, none⟩) (Or.inl rfl) _) |> fun k => ⟨k.os, k.tape, k.output, k.size, fun j hj hn => k.block j hj (fun e => hn (by rw [e]; rfl))⟩) (fun u k hu => row_marked hg (by omega) (by omega) hu)
      rw [← hsnoc, ← ht]
      apply List.ext_getElem?
      intro i
      rw [List.getElem?_take]
      have hlt : n < cur.size := by omega
      have hlen : (cur.toList.take (n * 1)).length = n := by simp; omega
      by_cases hi' : i < n
      · rw [if_pos (by omega), List.getElem?_append_left (by omega), List.getElem?_take, if_pos (by omega)]
        simp [List.getElem?_set_ne (show n ≠ i by omega)]
      · by_cases hin : i = n
        · subst hin
          rw [if_pos (by omega), List.getElem?_append_right (by omega), hlen]
          simp [hlt]
        · rw [if_neg (by omega), List.getElem?_eq_none (by simp; omega)]
    · intro _ v' w' r1 r2
      rw [hsnoc] at r1
      refine h v' w' (owns_mono (ownsQ_of r1) hN) ?_ ⟨r2.os, r2.tape, r2.output, r2.size, fun j hj _ => r2.block j hj (by simp)⟩ (hkeep w' (fun k hk => r2.block k hk (by simp)))
      obtain ⟨g', c', e, hb', _⟩ := r1.form (by omega)
      exact Or.inr ⟨g', by rw [e]; rfl, hb'⟩


end Go.Proofs.Ythgggjdefhgfiaa.Q
