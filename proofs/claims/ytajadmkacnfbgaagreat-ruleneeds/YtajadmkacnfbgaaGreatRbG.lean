import Derived.Test.YtajadmkacnfbgaaGreatRbC
import Derived.ArgAppend
namespace Go.Proofs.YtajadmkacnfbgaaGreat.RB
open Go.RowKit Go.Proofs.YtajadmkacnfbgaaGreat

/-- In a block of one mark a cell of the mark is written: whatever list of that mark lies there still does. -/
theorem row_mark1 {w : World} {N g k j : Nat} {m : Nat} {u v : Value} (hv : ∀ k, j < k * 3 → (mrow m k)[j]? = some v) (h : w.ownsRow N 70 3 u k (mrow m k)) :
    (w.setCell ⟨g, j, none⟩ v).ownsRow N 70 3 u k (mrow m k) := by
  refine ⟨h.1, ?_⟩
  rcases h.2 with h0 | ⟨g', cap', cur', h1, h2, hg', h3, h4, h5, ht⟩
  · exact Or.inl h0
  · by_cases e : g' = g
    · subst e
      refine Or.inr ⟨g', cap', cur'.setIfInBounds j v, h1, h2, block_set hg' _, h3, h4, by simpa using h5, ?_⟩
      rw [← ht]
      apply List.ext_getElem?
      intro i
      rw [List.getElem?_take, List.getElem?_take]
      by_cases hi : i < k * 3
      · rw [if_pos hi, if_pos hi]
        by_cases hin : j = i
        · subst hin
          have := congrArg (fun l => l[j]?) ht
          simp only [List.getElem?_take, if_pos hi] at this
          rw [this, hv k hi]
          have : j < cur'.size := by rw [h5]; omega
          simp [this]
        · simp [List.getElem?_set_ne hin]
      · rw [if_neg hi, if_neg hi]
    · exact Or.inr ⟨g', cap', cur', h1, h2, (Below.heap_setCell _ _ _ _ (by simpa using e)).trans hg', h3, h4, h5, ht⟩
theorem row_marked {w : World} {N g n k : Nat} {m : Nat} {u : Value} (h : w.ownsRow N 70 3 u k (mrow m k)) :
    (((w.setCell ⟨g, n * 3, none⟩ (.int .i64 (1000 + (m : Int)))).setCell ⟨g, n * 3 + 1, none⟩ (.int .i64 0)).setCell ⟨g, n * 3 + 2, none⟩ (.int .i64 0)).ownsRow N 70 3 u k (mrow m k) := by
  refine row_mark1 (fun k hk => mrow_get m k n (by omega) 2 _ rfl) (row_mark1 (fun k hk => mrow_get m k n (by omega) 1 _ rfl) (row_mark1 (fun k hk => ?_) h))
  have := mrow_get m k n (by omega) 0 _ rfl
  rw [Nat.add_zero] at this
  exact this

/-- 'g = append(g, rightsMark(m))'. -/
theorem wpList_append_mark {w : World} {ops : Array Oper} {rest : List Oper} {o : Oper} {a : Act} {Q : Exit → Act → World → Prop} (hgd : o.guard = none) (s x : Operand)
    (ho : o.op = .call { callee := .builtin .append, args := #[s, x], argTypes := #[50, 50] }) (N m n : Nat) (v : Value) (hs : a.eval s = v) (hrow : w.ownsRow N 70 3 v n (mrow m n)) (B : Nat) (hx : a.eval x = .slice (some ⟨B, 0, none⟩) 1 1) (hB : w.heap[B]? = some (.cells #[.int .i64 (1000 + (m : Int)), .int .i64 0, .int .i64 0] 70 (0, 0)))
    (hn : n + 1 ≤ 1000000000000) (hN : N ≤ w.heap.size)
    (h : ∀ v' w', w'.ownsRow N 70 3 v' (n + 1) (mrow m (n + 1)) → (v'.ownBlock = v.ownBlock ∨ ∃ g, v'.ownBlock = some g ∧ w.heap.size ≤ g) → Kept (fun i => some i = v.ownBlock) w w' → (∀ u k, w.ownsRow N 70 3 u k (mrow m k) → w'.ownsRow N 70 3 u k (mrow m k)) → wpList Tryz.prog ops Q rest (a.put o.dst v') w') :
    wpList Tryz.prog ops Q (o :: rest) a w := by
  obtain ⟨i0, hi, hz0, hz1, hz2⟩ := info_parts right_info
  have hnew : ∀ j u, ([Value.int .i64 (1000 + (m : Int)), .int .i64 0, .int .i64 0] : List Value)[j]? = some u → w.cell? ((⟨B, 0, none⟩ : Addr).add j) = some u := fun j u hj => World.news_of_block hB j u hj
  have hsnoc : mrow m n ++ [Value.int .i64 (1000 + (m : Int)), .int .i64 0, .int .i64 0] = mrow m (n + 1) := (mrow_snoc m n).symm
  have hkeep : ∀ w' : World, (∀ k, k < w.heap.size → w'.heap[k]? = w.heap[k]?) → ∀ u k, w.ownsRow N 70 3 u k (mrow m k) → w'.ownsRow N 70 3 u k (mrow m k) := fun w' hk u k hu => owns_kept' hu (fun g e => hk g (owns_lt hu g e))
  rcases hrow.2 with ⟨h1, h2⟩ | ⟨g, cap, cur, h1, hbg, hg, h3, h4, h5, ht⟩
  · subst h2
    refine wpList_append_lies _ hgd s x 50 ho N 70 i0 (.agg #[.int .i64 0, .int .i64 0, .int .i64 0]) 3 24 Tryz.underlying50 hi hz0 hz1 hz2 rfl (by omega) v 0 _ hs hrow ⟨B, 0, none⟩ 1 1 [.int .i64 (1000 + (m : Int)), .int .i64 0, .int .i64 0] hx rfl hnew (by simp [Value.oneCell']) (by omega) (by unfold maxLen; omega) (by omega) hN _ rfl ?_
    intro g' cap' w' r1 r2 r3 _
    have hvn : v.ownBlock = none := by rw [h1]; rfl
    rw [hsnoc] at r1
    rw [hvn] at r2 r3
    refine h _ w' r1 ?_ (by rw [hvn]; exact kept_grown r2) (hkeep w' (fun k hk => r2.block k hk (by simp)))
    rcases r3 with e | e
    · cases e
    · exact Or.inr ⟨g', rfl, by omega⟩
  · subst h1
    have hcell : ∀ j u, (mrow m n)[j]? = some u → w.cell? ⟨g, 0 + j, none⟩ = some u := fun j u hj => by
      obtain ⟨g', c', e, hc⟩ := row_cell hrow hj
      cases e
      rw [Nat.zero_add]
      exact hc
    refine wpList_append_arg w hgd s x 50 ho 70 i0 (.agg #[.int .i64 0, .int .i64 0, .int .i64 0]) 3 24 Tryz.underlying50 hi hz0 hz1 hz2 rfl (by omega) g 0 n cap (mrow m n) hs (by rw [mrow_len]) hcell ⟨B, 0, none⟩ 1 1 [.int .i64 (1000 + (m : Int)), .int .i64 0, .int .i64 0] hx rfl hnew (by simp [Value.oneCell']) ?_ (by unfold maxLen; omega) (by omega) ?_ ?_
    · intro hroom j hj
      simp at hj
      have hlt : 0 + n * 3 + j < cur.size := by rw [h5]; omega
      rw [Nat.zero_add] at hlt ⊢
      exact ⟨by simp [World.cell?, hg, hlt], by simp [World.frozen?, hg]⟩
    · intro hroom
      have e : w.setCells g (0 + n * 3) [.int .i64 (1000 + (m : Int)), .int .i64 0, .int .i64 0] = ((w.setCell ⟨g, n * 3, none⟩ (.int .i64 (1000 + (m : Int)))).setCell ⟨g, n * 3 + 1, none⟩ (.int .i64 0)).setCell ⟨g, n * 3 + 2, none⟩ (.int .i64 0) := by simp [World.setCells]
      rw [e]
      have hbs := block_set (i := n * 3 + 2) (block_set (i := n * 3 + 1) (block_set (i := n * 3) hg (.int .i64 (1000 + (m : Int)))) (.int .i64 0)) (.int .i64 0)
      have hBt : But g w (((w.setCell ⟨g, n * 3, none⟩ (.int .i64 (1000 + (m : Int)))).setCell ⟨g, n * 3 + 1, none⟩ (.int .i64 0)).setCell ⟨g, n * 3 + 2, none⟩ (.int .i64 0)) := (((But.refl g w).setCell (p := ⟨g, n * 3, none⟩) (Or.inl rfl) _).setCell (p := ⟨g, n * 3 + 1, none⟩) (Or.inl rfl) _).setCell (p := ⟨g, n * 3 + 2, none⟩) (Or.inl rfl) _
      refine h _ _ ⟨by rw [mrow_len], Or.inr ⟨g, cap, _, rfl, hbg, hbs, hroom, h4, by simpa using h5, ?_⟩⟩ (Or.inl rfl) (kept_but hBt |> fun k => ⟨k.os, k.tape, k.output, k.size, fun j hj hn => k.block j hj (fun e => hn (by rw [e]; rfl))⟩) (fun u k hu => row_marked hu)
      rw [← hsnoc, ← ht]
      apply List.ext_getElem?
      intro i
      rw [List.getElem?_take]
      have hlt : n * 3 + 2 < cur.size := by rw [h5]; omega
      have hlen : (cur.toList.take (n * 3)).length = n * 3 := by simp; omega
      by_cases hi' : i < n * 3
      · rw [if_pos (by omega), List.getElem?_append_left (by omega), List.getElem?_take, if_pos (by omega)]
        simp [List.getElem?_set_ne (show n * 3 ≠ i by omega), List.getElem?_set_ne (show n * 3 + 1 ≠ i by omega), List.getElem?_set_ne (show n * 3 + 2 ≠ i by omega)]
      · rw [List.getElem?_append_right (by omega), hlen]
        rcases (show i = n * 3 ∨ i = n * 3 + 1 ∨ i = n * 3 + 2 ∨ n * 3 + 3 ≤ i by omega) with h' | h' | h' | h'
        · subst h'
          rw [if_pos (by omega)]
          simp [show n * 3 < cur.size by omega]
        · subst h'
          rw [if_pos (by omega)]
          simp [show n * 3 + 1 < cur.size by omega]
        · subst h'
          rw [if_pos (by omega)]
          simp [hlt]
        · rw [if_neg (by omega), List.getElem?_eq_none (by simp; omega)]
    · intro _ v' w' r1 r2
      rw [hsnoc] at r1
      refine h v' w' (owns_mono r1 hN) ?_ ⟨r2.os, r2.tape, r2.output, r2.size, fun j hj _ => r2.block j hj (by simp)⟩ (hkeep w' (fun k hk => r2.block k hk (by simp)))
      obtain ⟨g', c', e, hb', _⟩ := r1.form (by omega)
      exact Or.inr ⟨g', by rw [e]; rfl, hb'⟩
end Go.Proofs.YtajadmkacnfbgaaGreat.RB
