import Derived.Test.YtfdanocpbhbieaaGreatRbC
import Derived.ArgAppend
import Derived.Deep.Cut
namespace Go.Proofs.YtfdanocpbhbieaaGreat.RB
open Go.RowKit Go.Proofs.YtfdanocpbhbieaaGreat

/-- In a block of one mark a cell of the mark is written: whatever list of that mark lies there still does. -/
theorem row_mark1 {w : World} {N g k j : Nat} {m : Nat} {u v : Value} (hv : ∀ k, j < k * 3 → (mrow m k)[j]? = some v) (h : w.ownsRow N 82 3 u k (mrow m k)) :
    (w.setCell ⟨g, j, none⟩ v).ownsRow N 82 3 u k (mrow m k) := by
  refine ⟨h.1, ?_⟩
  rcases h.2 with h0 | ⟨g', cap', cur', h1, h2, hg', h3, h4, h5, ht⟩
  · exact Or.inl h0
  · by_cases e : g' = g
    · subst e
      refine Or.inr ⟨g', cap', cur'.setIfInBounds j v, h1, h2, block_set hg' _, h3, h4, by simpa using h5, ?_⟩
      rw [← ht]
      apply List.ext_getElem?
      intro i
      rw [List.getElem?_take, List.getElem?_take]
      by_cases hi : i < k * 3
      · rw [if_pos hi, if_pos hi]
        by_cases hin : j = i
        · subst hin
          have := congrArg (fun l => l[j]?) ht
          simp only [List.getElem?_take, if_pos hi] at this
          rw [this, hv k hi]
          have : j < cur'.size := by rw [h5]; omega
          simp [this]
        · simp [List.getElem?_set_ne hin]
      · rw [if_neg hi, if_neg hi]
    · exact Or.inr ⟨g', cap', cur', h1, h2, (Below.heap_setCell _ _ _ _ (by simpa using e)).trans hg', h3, h4, h5, ht⟩
theorem row_marked {w : World} {N g n k : Nat} {m : Nat} {u : Value} (h : w.ownsRow N 82 3 u k (mrow m k)) :
    (((w.setCell ⟨g, n * 3, none⟩ (.int .i64 (1000 + (m : Int)))).setCell ⟨g, n * 3 + 1, none⟩ (.int .i64 0)).setCell ⟨g, n * 3 + 2, none⟩ (.int .i64 0)).ownsRow N 82 3 u k (mrow m k) := by
  refine row_mark1 (fun k hk => mrow_get m k n (by omega) 2 _ rfl) (row_mark1 (fun k hk => mrow_get m k n (by omega) 1 _ rfl) (row_mark1 (fun k hk => ?_) h))
  have := mrow_get m k n (by omega) 0 _ rfl
  rw [Nat.add_zero] at this
  exact this

/-- 'g = append(g, rightsMark(m))'. -/
theorem wpList_append_mark {w : World} {ops : Array Oper} {rest : List Oper} {o : Oper} {a : Act} {Q : Exit → Act → World → Prop} (hgd : o.guard = none) (s x : Operand)
    (ho : o.op = .call { callee := .builtin .append, args := #[s, x], argTypes := #[60, 60] }) (N m n : Nat) (v : Value) (hs : a.eval s = v) (hrow : w.ownsRow N 82 3 v n (mrow m n)) (B : Nat) (hx : a.eval x = .slice (some ⟨B, 0, none⟩) 1 1) (hB : w.heap[B]? = some (.cells #[.int .i64 (1000 + (m : Int)), .int .i64 0, .int .i64 0] 82 (0, 0)))
    (hn : n + 1 ≤ 1000000000000) (hN : N ≤ w.heap.size)
    (h : ∀ v' w', w'.ownsRow N 82 3 v' (n + 1) (mrow m (n + 1)) → (v'.ownBlock = v.ownBlock ∨ ∃ g, v'.ownBlock = some g ∧ w.heap.size ≤ g) → Kept (fun i => some i = v.ownBlock) w w' → (∀ u k, w.ownsRow N 82 3 u k (mrow m k) → w'.ownsRow N 82 3 u k (mrow m k)) → wpList Tryz.prog ops Q rest (a.put o.dst v') w') :
    wpList Tryz.prog ops Q (o :: rest) a w := by
  obtain ⟨i0, hi, hz0, hz1, hz2⟩ := info_parts right_info
  have hnew : ∀ j u, ([Value.int .i64 (1000 + (m : Int)), .int .i64 0, .int .i64 0] : List Value)[j]? = some u → w.cell? ((⟨B, 0, none⟩ : Addr).add j) = some u := fun j u hj => World.news_of_block hB j u hj
  have hsnoc : mrow m n ++ [Value.int .i64 (1000 + (m : Int)), .int .i64 0, .int .i64 0] = mrow m (n + 1) := (mrow_snoc m n).symm
  have hkeep : ∀ w' : World, (∀ k, k < w.heap.size → w'.heap[k]? = w.heap[k]?) → ∀ u k, w.ownsRow N 82 3 u k (mrow m k) → w'.ownsRow N 82 3 u k (mrow m k) := fun w' hk u k hu => owns_kept' hu (fun g e => hk g (owns_lt hu g e))
  rcases hrow.2 with ⟨h1, h2⟩ | ⟨g, cap, cur, h1, hbg, hg, h3, h4, h5, ht⟩
  · subst h2
    refine wpList_append_lies _ hgd s x 60 ho N 82 i0 (.agg #[.int .i64 0, .int .i64 0, .int .i64 0]) 3 24 Tryz.underlying60 hi hz0 hz1 hz2 rfl (by omega) v 0 _ hs hrow ⟨B, 0, none⟩ 1 1 [.int .i64 (1000 + (m : Int)), .int .i64 0, .int .i64 0] hx rfl hnew (by simp [Value.oneCell']) (by omega) (by unfold maxLen; omega) (by omega) hN _ rfl ?_
    intro g' cap' w' r1 r2 r3 _
    have hvn : v.ownBlock = none := by rw [h1]; rfl
    rw [hsnoc] at r1
    rw [hvn] at r2 r3
    refine h _ w' r1 ?_ (by rw [hvn]; exact kept_grown r2) (hkeep w' (fun k hk => r2.block k hk (by simp)))
    rcases r3 with e | e
    · cases e
    · exact Or.inr ⟨g', rfl, by omega⟩
  · subst h1
    have hcell : ∀ j u, (mrow m n)[j]? = some u → w.cell? ⟨g, 0 + j, none⟩ = some u := fun j u hj => by
      obtain ⟨g', c', e, hc⟩ := row_cell hrow hj
      cases e
      rw [Nat.zero_add]
      exact hc
    refine wpList_append_arg w hgd s x 60 ho 82 i0 (.agg #[.int .i64 0, .int .i64 0, .int .i64 0]) 3 24 Tryz.underlying60 hi hz0 hz1 hz2 rfl (by omega) g 0 n cap (mrow m n) hs (by rw [mrow_len]) hcell ⟨B, 0, none⟩ 1 1 [.int .i64 (1000 + (m : Int)), .int .i64 0, .int .i64 0] hx rfl hnew (by simp [Value.oneCell']) ?_ (by unfold maxLen; omega) (by omega) ?_ ?_
    · intro hroom j hj
      simp at hj
      have hlt : 0 + n * 3 + j < cur.size := by rw [h5]; omega
      rw [Nat.zero_add] at hlt ⊢
      exact ⟨by simp [World.cell?, hg, hlt], by simp [World.frozen?, hg]⟩
    · intro hroom
      have e : w.setCells g (0 + n * 3) [.int .i64 (1000 + (m : Int)), .int .i64 0, .int .i64 0] = ((w.setCell ⟨g, n * 3, none⟩ (.int .i64 (1000 + (m : Int)))).setCell ⟨g, n * 3 + 1, none⟩ (.int .i64 0)).setCell ⟨g, n * 3 + 2, none⟩ (.int .i64 0) := by simp [World.setCells]
      rw [e]
      have hbs := block_set (i := n * 3 + 2) (block_set (i := n * 3 + 1) (block_set (i := n * 3) hg (.int .i64 (1000 + (m : Int)))) (.int .i64 0)) (.int .i64 0)
      have hBt : But g w (((w.setCell ⟨g, n * 3, none⟩ (.int .i64 (1000 + (m : Int)))).setCell ⟨g, n * 3 + 1, none⟩ (.int .i64 0)).setCell ⟨g, n * 3 + 2, none⟩ (.int .i64 0)) := (((But.refl g w).setCell (p := ⟨g, n * 3, none⟩) (Or.inl rfl) _).setCell (p := ⟨g, n * 3 + 1, none⟩) (Or.inl rfl) _).setCell (p := ⟨g, n * 3 + 2, none⟩) (Or.inl rfl) _
      refine h _ _ ⟨by rw [mrow_len], Or.inr ⟨g, cap, _, rfl, hbg, hbs, hroom, h4, by simpa using h5, ?_⟩⟩ (Or.inl rfl) (kept_but hBt |> fun k => ⟨k.os, k.tape, k.output, k.size, fun j hj hn => k.block j hj (fun e => hn (by rw [e]; rfl))⟩) (fun u k hu => row_marked hu)
      rw [← hsnoc, ← ht]
      apply List.ext_getElem?
      intro i
      rw [List.getElem?_take]
      have hlt : n * 3 + 2 < cur.size := by rw [h5]; omega
      have hlen : (cur.toList.take (n * 3)).length = n * 3 := by simp; omega
      by_cases hi' : i < n * 3
      · rw [if_pos (by omega), List.getElem?_append_left (by omega), List.getElem?_take, if_pos (by omega)]
        simp [List.getElem?_set_ne (show n * 3 ≠ i by omega), List.getElem?_set_ne (show n * 3 + 1 ≠ i by omega), List.getElem?_set_ne (show n * 3 + 2 ≠ i by omega)]
      · rw [List.getElem?_append_right (by omega), hlen]
        rcases (show i = n * 3 ∨ i = n * 3 + 1 ∨ i = n * 3 + 2 ∨ n * 3 + 3 ≤ i by omega) with h' | h' | h' | h'
        · subst h'
          rw [if_pos (by omega)]
          simp [show n * 3 < cur.size by omega]
        · subst h'
          rw [if_pos (by omega)]
          simp [show n * 3 + 1 < cur.size by omega]
        · subst h'
          rw [if_pos (by omega)]
          simp [hlt]
        · rw [if_neg (by omega), List.getElem?_eq_none (by simp; omega)]
    · intro _ v' w' r1 r2
      rw [hsnoc] at r1
      refine h v' w' (owns_mono r1 hN) ?_ ⟨r2.os, r2.tape, r2.output, r2.size, fun j hj _ => r2.block j hj (by simp)⟩ (hkeep w' (fun k hk => r2.block k hk (by simp)))
      obtain ⟨g', c', e, hb', _⟩ := r1.form (by omega)
      exact Or.inr ⟨g', by rw [e]; rfl, hb'⟩
end Go.Proofs.YtfdanocpbhbieaaGreat.RB
namespace Go.Proofs.YtfdanocpbhbieaaGreat.RB
open Go.RowKit Go.Proofs.YtfdanocpbhbieaaGreat

/-- What growing may turn. -/
def GS (b : Nat) (L M : Value) (ks : List Kl) (i : Nat) : Prop := i = b ∨ some i = L.ownBlock ∨ some i = M.ownBlock ∨ ∃ k ∈ ks, some i = k.val.ownBlock

/-- WHILE THE LISTS GROW. w, L0, M0, ks: as it began. -/
structure Gr (w : World) (L0 M0 : Value) (ks : List Kl) (wr : World) (N b : Nat) (L M : Value) (A turn done used : Nat) (ks2 : List Kl) : Prop where
  bk : Bk wr N b L M A turn done used ks2
  pre : ∀ j, j < ks.length → ks2[j]? = ks[j]?
  len : ks.length ≤ ks2.length
  own : ∀ x ∈ ks2, ∀ g, x.val.ownBlock = some g → (∃ k ∈ ks, k.val.ownBlock = some g) ∨ w.heap.size ≤ g
  lo : L.ownBlock = L0.ownBlock ∨ ∃ g, L.ownBlock = some g ∧ w.heap.size ≤ g
  mo : M.ownBlock = M0.ownBlock ∨ ∃ g, M.ownBlock = some g ∧ w.heap.size ≤ g
  kept : Kept (GS b L0 M0 ks) w wr

/-- The list that grows. -/
structure Cu (w : World) (ks : List Kl) (wr : World) (N m : Nat) (g : Value) (n : Nat) (ks2 : List Kl) : Prop where
  row : wr.ownsRow N 82 3 g n (mrow m n)
  one : ∀ x ∈ ks2, ∀ q, x.val.ownBlock = some q → g.ownBlock = some q → x.m = m
  own : ∀ q, g.ownBlock = some q → (∃ k ∈ ks, k.val.ownBlock = some q) ∨ w.heap.size ≤ q

section
variable {w wr w' : World} {L0 M0 L M g g' : Value} {ks ks2 : List Kl} {N b A turn done used m n : Nat}
theorem Gr.mark (h : Gr w L0 M0 ks wr N b L M A turn done used ks2) (c : Cu w ks wr N m g n ks2) (hrow : w'.ownsRow N 82 3 g' (n + 1) (mrow m (n + 1))) (hat : g'.ownBlock = g.ownBlock ∨ ∃ q, g'.ownBlock = some q ∧ wr.heap.size ≤ q) (k : Kept (fun i => some i = g.ownBlock) wr w')
    (hm : ∀ u k, wr.ownsRow N 82 3 u k (mrow m k) → w'.ownsRow N 82 3 u k (mrow m k)) : Gr w L0 M0 ks w' N b L M A turn done used ks2 ∧ Cu w ks w' N m g' (n + 1) ks2 := by
  have hz := h.kept.size
  refine ⟨⟨⟨(k.block b (lt_of_block h.bk.blk) (fun e => owns_ne c.row h.bk.blk (by decide) e.symm)).trans h.bk.blk, owns_kept' h.bk.ls (fun q e => k.block q (owns_lt h.bk.ls q e) (fun e' => rows_far h.bk.ls c.row (by decide) q e e'.symm)), owns_kept' h.bk.ms (fun q e => k.block q (owns_lt h.bk.ms q e) (fun e' => rows_far h.bk.ms c.row (by decide) q e e'.symm)), fun x hx => ?_, h.bk.num, h.bk.most, h.bk.one⟩, h.pre, h.len, h.own, h.lo, h.mo, h.kept.trans k (fun i e => ?_)⟩, ⟨hrow, fun x hx q e1 e2 => ?_, fun q e => ?_⟩⟩
  · by_cases hxm : x.m = m
    · have := h.bk.rows x hx
      rw [hxm] at this ⊢
      exact hm _ _ this
    · have hr := h.bk.rows x hx
      exact owns_kept' hr (fun q e => k.block q (owns_lt hr q e) (fun e' => hxm (c.one x hx q e e'.symm)))
  · rcases c.own i e.symm with ⟨x, hx, e'⟩ | e'
    · exact Or.inl (Or.inr (Or.inr (Or.inr ⟨x, hx, e'.symm⟩)))
    · exact Or.inr e'
  · rcases hat with e' | ⟨q', e', hq'⟩
    · exact c.one x hx q e1 (by rw [← e', e2])
    · rw [e'] at e2; cases e2
      have := owns_lt (h.bk.rows x hx) _ e1
      omega
  · rcases hat with e' | ⟨q', e', hq'⟩
    · exact c.own q (by rw [← e', e])
    · rw [e'] at e; cases e; exact Or.inr (by omega)

/-- The list, so far, is kept. -/
theorem Gr.push (h : Gr w L0 M0 ks wr N b L M A turn done used ks2) {p : Option Addr} {cc : Nat} (c : Cu w ks wr N m (.slice p n cc) n ks2) {L' M' : Value} (k : Kept (fun i => i = b ∨ some i = L.ownBlock ∨ some i = M.ownBlock) wr w') (hb : w'.heap[b]? = some (.cells (bkCells L' M' A turn done used) 44 (0, 0)))
    (hl : w'.ownsRow N 60 1 L' (ks2.length + 1) ((ks2.map fun k => k.val) ++ [.slice p n cc])) (hm : w'.ownsRow N 3 1 M' (ks2.length + 1) ((ks2.map fun k => Value.int .i64 (k.m : Int)) ++ [.int .i64 (m : Int)])) (hn : m ≤ 1000000000000000 ∧ n ≤ 100000000000) (hc : ks2.length + 1 ≤ 1000000000)
    (ha : L'.ownBlock = L.ownBlock ∨ ∃ q, L'.ownBlock = some q ∧ wr.heap.size ≤ q) (hb' : M'.ownBlock = M.ownBlock ∨ ∃ q, M'.ownBlock = some q ∧ wr.heap.size ≤ q) :
    Gr w L0 M0 ks w' N b L' M' A turn done used (ks2 ++ [⟨p, n, cc, m⟩]) ∧ Cu w ks w' N m (.slice p n cc) n (ks2 ++ [⟨p, n, cc, m⟩]) := by
  have hz := h.kept.size
  have hbk := h.bk.more (x := ⟨p, n, cc, m⟩) k hb hl hm c.row hn hc (fun y hy q e1 e2 => c.one y hy q e1 e2)
  have hfix : ∀ {X Y Z : Value}, (X.ownBlock = Y.ownBlock ∨ ∃ q, X.ownBlock = some q ∧ w.heap.size ≤ q) → (Z.ownBlock = X.ownBlock ∨ ∃ q, Z.ownBlock = some q ∧ wr.heap.size ≤ q) → (Z.ownBlock = Y.ownBlock ∨ ∃ q, Z.ownBlock = some q ∧ w.heap.size ≤ q) := fun h1 h2 => by
    rcases h2 with e | ⟨q, e, hq⟩
    · rw [e]; exact h1
    · exact Or.inr ⟨q, e, by omega⟩
  refine ⟨⟨hbk, fun j hj => ?_, by simp; have := h.len; omega, fun x hx q e => ?_, hfix h.lo ha, hfix h.mo hb', h.kept.trans k (fun i hi => ?_)⟩, ⟨hbk.rows ⟨p, n, cc, m⟩ (by simp), fun x hx q e1 e2 => ?_, c.own⟩⟩
  · rw [List.getElem?_append_left (by have := h.len; omega)]; exact h.pre j hj
  · rcases List.mem_append.1 hx with h' | h'
    · exact h.own x h' q e
    · simp at h'; subst h'; exact c.own q e
  · rcases hi with e | e | e
    · exact Or.inl (Or.inl e)
    · rcases h.lo with e' | ⟨q, e', hq⟩
      · exact Or.inl (Or.inr (Or.inl (by rw [e, e'])))
      · rw [e'] at e; cases e; exact Or.inr hq
    · rcases h.mo with e' | ⟨q, e', hq⟩
      · exact Or.inl (Or.inr (Or.inr (Or.inl (by rw [e, e']))))
      · rw [e'] at e; cases e; exact Or.inr hq
  · rcases List.mem_append.1 hx with h' | h'
    · exact c.one x h' q e1 e2
    · simp at h'; subst h'; rfl
end

theorem Gr.below {w wr w' : World} {L0 M0 L M : Value} {ks ks2 : List Kl} {N b A turn done used : Nat} (h : Gr w L0 M0 ks wr N b L M A turn done used ks2) (hb : Below wr.heap.size wr w') : Gr w L0 M0 ks w' N b L M A turn done used ks2 :=
  ⟨h.bk.below hb, h.pre, h.len, h.own, h.lo, h.mo, h.kept.trans (kept_below (S := fun _ => False) hb) (fun _ e => e.elim)⟩
theorem Cu.below {w wr w' : World} {g : Value} {ks ks2 : List Kl} {N m n b A turn done used : Nat} {L M : Value} (h : Cu w ks wr N m g n ks2) (hb : Below wr.heap.size wr w') (_ : Bk wr N b L M A turn done used ks2) : Cu w ks w' N m g n ks2 :=
  ⟨owns_kept' h.row (fun q e => hb.block q (owns_lt h.row q e)), h.one, h.own⟩
theorem Bk.grownTo {w : World} {N b : Nat} {L M : Value} {A turn done used : Nat} {ks : List Kl} (h : Bk w N b L M A turn done used ks) (t : Nat) : Bk (w.setCell ⟨b, 29, none⟩ (.int .i64 (t : Int))) N b L M t turn done used ks := by
  have hs : ∀ j, j ≠ b → (w.setCell ⟨b, 29, none⟩ (.int .i64 (t : Int))).heap[j]? = w.heap[j]? := fun j hj => Below.heap_setCell _ _ _ _ hj
  have hr : ∀ {B0 n s0 : Nat} {ty : TypeId} {v : Value} {xs : List Value}, w.ownsRow B0 ty s0 v n xs → 44 ≠ ty → ∀ g, v.ownBlock = some g → (w.setCell ⟨b, 29, none⟩ (.int .i64 (t : Int))).heap[g]? = w.heap[g]? := fun hv ht g e => hs g (fun e' => owns_ne hv h.blk ht (by rw [e, e']))
  exact ⟨by rw [block_set h.blk]; rfl, owns_kept' h.ls (hr h.ls (by decide)), owns_kept' h.ms (hr h.ms (by decide)), fun x hx => owns_kept' (h.rows x hx) (hr (h.rows x hx) (by decide)), h.num, h.most, h.one⟩

set_option maxRecDepth 100000 in
set_option maxHeartbeats 4000000 in
theorem bk_growRights (w : World) (N b : Nat) (L0 M0 : Value) (A turn done used : Nat) (ks : List Kl) (h : Bk w N b L0 M0 A turn done used ks) (hN : N ≤ w.heap.size) (hA : A ≤ ks.length) (hks : ks.length ≤ 1000000) (hl : ∀ j x, A ≤ j → ks[j]? = some x → x.l ≤ 99999999000) :
    Calls Tryz.prog 77 #[.pointer (some ⟨b, 0, none⟩)] w fun e w' => e = .returned (.tuple #[]) ∧ ∃ L M ks2, Gr w L0 M0 ks w' N b L M ks2.length turn done used ks2 ∧ ks2.length ≤ ks.length + 32 * (ks.length - A) := by
  obtain ⟨i1, hi1, hz10, hz11, hz12⟩ := info_parts infoBy
  obtain ⟨i2, hi2, hz20, hz21, hz22⟩ := info_parts infoIn
  have HLs := hide hl
  have q0 := bk_cell h.blk 27 L0 rfl
  have q2 := bk_cell h.blk 29 (.int .i64 (A : Int)) rfl
  have HG0 : Hid (Gr w L0 M0 ks w N b L0 M0 A turn done used ks) := ⟨h, fun _ _ => rfl, Nat.le_refl _, fun x hx g e => Or.inl ⟨x, hx, e⟩, Or.inl rfl, Or.inl rfl, Kept.refl _ _⟩
  obtain ⟨lp, lc, hL0⟩ : ∃ p c, L0 = .slice p ks.length c := by
    rcases h.ls.2 with ⟨h1, h2⟩ | ⟨g, cap, cur, h1, _⟩
    · exact ⟨none, 0, by rw [h1, h2]⟩
    · exact ⟨_, cap, h1⟩
  rw [hL0] at q0
  clear h hl hL0
  go_enter Tryz.func77, Tryz.ntmps77
  go_wp2
  clear q0 q2
  go_loopw [3] (fun i wr => ∃ (k : Nat) (L M : Value) (ks2 : List Kl), A ≤ k ∧ k ≤ ks.length ∧ i = .int .i64 k ∧ Hid (Gr w L0 M0 ks wr N b L M A turn done used ks2) ∧ Hid (ks2.length ≤ ks.length + 32 * (k - A))) (fun i _ => ks.length - (intOf i).toNat)
  case atStart => exact ⟨A, L0, M0, ks, Nat.le_refl _, hA, rfl, HG0, by show _ ≤ _; omega⟩
  case round =>
    clear HG0
    obtain ⟨k, L, M, ks2, hkA, hk, rfl, HG, HC⟩ := hrel
    by_cases hlt : k < ks.length
    · have hop : ks[k]? = some (ks[k]'hlt) := List.getElem?_eq_getElem _
      have hop2 : ks2[k]? = some (ks[k]'hlt) := (HG.out.pre k hlt).trans hop
      have hx9 := HLs.out k _ hkA hop
      have hmem := hide (List.mem_of_getElem? hop2)
      obtain ⟨gl, cl, hgl, cl0⟩ := row_cell HG.out.bk.ls (k := k) (a := (ks[k]'hlt).val) (by simp [hop2])
      obtain ⟨gm, cm, hgm, cm0⟩ := row_cell HG.out.bk.ms (k := k) (a := .int .i64 ((ks[k]'hlt).m : Int)) (by simp [hop2])
      have q0 := bk_cell HG.out.bk.blk 27 L rfl
      have q1 := bk_cell HG.out.bk.blk 28 M rfl
      have HCu : Hid (Cu w ks wr N (ks[k]'hlt).m (ks[k]'hlt).val (ks[k]'hlt).l ks2) := ⟨HG.out.bk.rows _ hmem.out, fun x hx q e1 e2 => HG.out.bk.one x hx _ hmem.out q e1 e2, HG.out.own _ hmem.out⟩
      obtain ⟨hm9, _⟩ := HG.out.bk.num _ hmem.out
      generalize ks[k]'hlt = xk at *
      obtain ⟨p, l, c, m⟩ := xk
      simp only [Kl.val] at cl0 cm0 HCu hm9 hx9
      rw [hgl] at q0
      rw [hgm] at q1
      have HGL := hide hgl
      have HGM := hide hgm
      have hl2 := HG.out.len
      have hcnt := HC.out
      clear hop hop2 hmem hgl hgm
      have l1 : (k : Int) < (ks2.length : Int) := by omega
      have l2 : (0 : Int) ≤ (k : Int) := by omega
      have l3 : (k : Int) < (ks.length : Int) := by omega
      go_wp2
      clear q0 q1 cl0 cm0 l1
      go_loopw [4, 6] (fun gv i wr => ∃ (i' n : Nat) (v L M : Value) (ks3 : List Kl), 1 ≤ i' ∧ i' ≤ 33 ∧ i = .int .i64 i' ∧ gv = v ∧ Hid (Gr w L0 M0 ks wr N b L M A turn done used ks3) ∧ Hid (Cu w ks wr N m v n ks3) ∧ n + 1 = l + i' ∧ ks3.length + 1 ≤ ks2.length + i') (fun _ i _ => 33 - (intOf i).toNat)
      case atStart => exact ⟨1, l, _, L, M, ks2, by omega, by omega, rfl, rfl, HG, HCu, rfl, Nat.le_refl _⟩
      case round =>
        clear HG HCu HGL HGM
        obtain ⟨i, n, v, L3, M3, ks3, hi1', hi33, rfl, rfl, HG, HCu, hnl, hcn⟩ := hrel
        have HNL := hide hnl
        have hn9 : n + 1 ≤ 99999999097 := by omega
        clear hnl
        by_cases hi96 : i < 33
        · obtain ⟨p3, c3, hv3⟩ : ∃ p c, u4 = .slice p n c := by
            rcases HCu.out.row.2 with ⟨h1, h2⟩ | ⟨g, cap, cur, h1, _⟩
            · exact ⟨none, 0, by rw [h1, h2]⟩
            · exact ⟨_, cap, h1⟩
          subst hv3
          have HA := hide (fun w => mark_any w m hm9)
          have HNr : Hid (N ≤ wr.heap.size) := Nat.le_trans hN HG.out.kept.size
          have l4 : (i : Int) ≤ 32 := by omega
          go_wp2_with fail
          refine (HA.out _).mono ?_
          rintro e wx ⟨rfl, rfl⟩
          have hbx : Below wr.heap.size wr (wr.alloc (.cells #[.int .i64 (1000 + (m : Int)), .int .i64 0, .int .i64 0] 82)) := (Below.refl _ _).alloc (Nat.le_refl _) _
          have HGx := hide (HG.out.below hbx)
          have HCx := hide (HCu.out.below hbx HG.out.bk)
          have HNx : Hid (N ≤ (wr.alloc (.cells #[.int .i64 (1000 + (m : Int)), .int .i64 0, .int .i64 0] 82)).heap.size) := Nat.le_trans HNr.out hbx.size
          generalize wr.alloc (.cells #[.int .i64 (1000 + (m : Int)), .int .i64 0, .int .i64 0] 82) = wx at *
          clear hbx
          go_upto_region 10 with (at_builtin; refine wpList_append_mark rfl (.tmp 39) (.tmp 42) rfl N m n (.slice p3 n c3) rfl (HCx.out.row.alloc _) wx.heap.size rfl (heap_alloc_new _ _) (by omega) (by have := HNx.out; simp; omega) ?_; intro v4 w4 r1 r2 r3 r4; have hp4 := HGx.out.mark HCx.out r1 (by rcases r2 with e | ⟨q, e, hq⟩; exact Or.inl e; exact Or.inr ⟨q, e, by simp at hq; omega⟩) ((kept_below (S := fun i => some i = (Value.slice p3 n c3).ownBlock) ((Below.refl _ _).alloc (Nat.le_refl _) (.cells #[.int .i64 (1000 + (m : Int)), .int .i64 0, .int .i64 0] 82))).trans r3 (fun i e => Or.inl e)) (fun u k hu => r4 u k (hu.alloc _)); have HG4 := hide hp4.1; have HC4 := hide hp4.2; clear r1 r2 r3 r4 hp4)
          obtain ⟨p4, k4, hv4⟩ : ∃ p c, v4 = .slice p (n + 1) c := by
            rcases HC4.out.row.2 with ⟨h1, h2⟩ | ⟨g, cap, cur, h1, _⟩
            · omega
            · exact ⟨_, cap, h1⟩
          subst hv4
          clear HG HCu HA HNr HGx HCx HNx
          by_cases hi4 : i < 4
          · have l5 : (i : Int) < 4 := by omega
            have c0 := bk_cell HG4.out.bk.blk 27 L3 rfl
            have cf := bk_thaw HG4.out.bk.blk
            have HN2 : Hid (N ≤ w4.heap.size) := Nat.le_trans hN HG4.out.kept.size
            go_upto_region 12 with (at_builtin; refine wpList_append_lies _ rfl (.tmp 55) (.tmp 57) 34 rfl N 60 i1 (.slice none 0 0) 1 24 Tryz.underlying34 hi1 hz10 hz11 hz12 rfl (by omega) L3 ks3.length _ rfl (HG4.out.bk.ls.alloc _) ⟨w4.heap.size, 0, none⟩ 1 1 [.slice p4 (n + 1) k4] rfl rfl (World.news_of_block (heap_alloc_new w4 (.cells #[.slice p4 (n + 1) k4] 60))) (by simp [Value.oneCell']) (by omega) (by unfold maxLen; omega) (by omega) (by have := HN2.out; simp; omega) _ rfl ?_; intro gl cl w5 hown5 hgrow5 hat5 hlt5; have kk5 : Kept (fun i => some i = L3.ownBlock) w4 w5 := (kept_below (S := fun i => some i = L3.ownBlock) ((Below.refl _ _).alloc (Nat.le_refl _) (.cells #[.slice p4 (n + 1) k4] 60))).trans (kept_grown hgrow5) (fun i e => Or.inl e); have HK5 := hide kk5; have HB5 := hide ((kk5.block b (lt_of_block HG4.out.bk.blk) (fun e => owns_ne HG4.out.bk.ls HG4.out.bk.blk (by decide) e.symm)).trans HG4.out.bk.blk); have c50 := bk_cell HB5.out 27 L3 rfl; have cf5 := bk_thaw HB5.out; have HL5 := hide hown5; have HA5 := hide hat5; clear hown5 hgrow5 hat5 hlt5 kk5)
            have HB6 : Hid ((w5.setCell ⟨b, 27, none⟩ (.slice (some ⟨gl, 0, none⟩) (ks3.length + 1) cl)).heap[b]? = some (.cells (bkCells (.slice (some ⟨gl, 0, none⟩) (ks3.length + 1) cl) M3 A turn done used) 44 (0, 0))) := by show _ = _; rw [block_set HB5.out]; rfl
            have HL6 : Hid ((w5.setCell ⟨b, 27, none⟩ (.slice (some ⟨gl, 0, none⟩) (ks3.length + 1) cl)).ownsRow N 60 1 (.slice (some ⟨gl, 0, none⟩) (ks3.length + 1) cl) (ks3.length + 1) ((ks3.map fun k => k.val) ++ [.slice p4 (n + 1) k4])) := owns_kept' HL5.out (fun g e => Below.heap_setCell _ _ _ _ (fun e' => owns_ne HL5.out HB5.out (by decide) (by rw [e, e'])))
            have HK6 : Hid (Kept (fun i => i = b ∨ some i = L3.ownBlock ∨ some i = M3.ownBlock) w4 (w5.setCell ⟨b, 27, none⟩ (.slice (some ⟨gl, 0, none⟩) (ks3.length + 1) cl))) := ((Kept.refl _ _).trans HK5.out (fun i e => Or.inl (Or.inr (Or.inl e)))).trans (kept_but ((But.refl b w5).setCell (p := ⟨b, 27, none⟩) (Or.inl rfl) _)) (fun i e => Or.inl (Or.inl e))
            have HM6 : Hid ((w5.setCell ⟨b, 27, none⟩ (.slice (some ⟨gl, 0, none⟩) (ks3.length + 1) cl)).ownsRow N 3 1 M3 ks3.length (ks3.map fun k => .int .i64 (k.m : Int))) := owns_kept' HG4.out.bk.ms (fun g e => (Below.heap_setCell _ _ _ _ (fun e' => owns_ne HG4.out.bk.ms HG4.out.bk.blk (by decide) (by rw [e, e']))).trans (HK5.out.block g (owns_lt HG4.out.bk.ms g e) (fun e' => rows_far HG4.out.bk.ls HG4.out.bk.ms (by decide) g e'.symm e)))
            generalize w5.setCell ⟨b, 27, none⟩ (.slice (some ⟨gl, 0, none⟩) (ks3.length + 1) cl) = w6 at *
            clear HK5 HB5 HL5 c50 cf5 c0 cf
            have c1 := bk_cell HB6.out 28 M3 rfl
            have cf := bk_thaw HB6.out
            have HN6 : Hid (N ≤ w6.heap.size) := Nat.le_trans HN2.out HK6.out.size
            go_wp2_with (at_builtin; refine wpList_append_lies _ rfl (.tmp 65) (.tmp 67) 25 rfl N 3 i2 (.int .i64 0) 1 8 Tryz.underlying25 hi2 hz20 hz21 hz22 rfl (by omega) M3 ks3.length _ rfl (HM6.out.alloc _) ⟨w6.heap.size, 0, none⟩ 1 1 [.int .i64 (m : Int)] rfl rfl (World.news_of_block (heap_alloc_new w6 (.cells #[.int .i64 (m : Int)] 3))) (by simp [Value.oneCell']) (by omega) (by unfold maxLen; omega) (by omega) (by have := HN6.out; simp; omega) _ rfl ?_; intro gm cm w7 hown7 hgrow7 hat7 hlt7; have kk7 : Kept (fun i => some i = M3.ownBlock) w6 w7 := (kept_below (S := fun i => some i = M3.ownBlock) ((Below.refl _ _).alloc (Nat.le_refl _) (.cells #[.int .i64 (m : Int)] 3))).trans (kept_grown hgrow7) (fun i e => Or.inl e); have HK7 := hide kk7; have HB7 := hide ((kk7.block b (lt_of_block HB6.out) (fun e => owns_ne HM6.out HB6.out (by decide) e.symm)).trans HB6.out); have c71 := bk_cell HB7.out 28 M3 rfl; have cf7 := bk_thaw HB7.out; have HM7 := hide hown7; have HA7 := hide hat7; clear hown7 hgrow7 hat7 hlt7 kk7)
            have HB8 : Hid ((w7.setCell ⟨b, 28, none⟩ (.slice (some ⟨gm, 0, none⟩) (ks3.length + 1) cm)).heap[b]? = some (.cells (bkCells (.slice (some ⟨gl, 0, none⟩) (ks3.length + 1) cl) (.slice (some ⟨gm, 0, none⟩) (ks3.length + 1) cm) A turn done used) 44 (0, 0))) := by show _ = _; rw [block_set HB7.out]; rfl
            have HM8 : Hid ((w7.setCell ⟨b, 28, none⟩ (.slice (some ⟨gm, 0, none⟩) (ks3.length + 1) cm)).ownsRow N 3 1 (.slice (some ⟨gm, 0, none⟩) (ks3.length + 1) cm) (ks3.length + 1) ((ks3.map fun k => Value.int .i64 (k.m : Int)) ++ [.int .i64 (m : Int)])) := owns_kept' HM7.out (fun g e => Below.heap_setCell _ _ _ _ (fun e' => owns_ne HM7.out HB7.out (by decide) (by rw [e, e'])))
            have HL8 : Hid ((w7.setCell ⟨b, 28, none⟩ (.slice (some ⟨gm, 0, none⟩) (ks3.length + 1) cm)).ownsRow N 60 1 (.slice (some ⟨gl, 0, none⟩) (ks3.length + 1) cl) (ks3.length + 1) ((ks3.map fun k => k.val) ++ [.slice p4 (n + 1) k4])) := owns_kept' HL6.out (fun g e => (Below.heap_setCell _ _ _ _ (fun e' => owns_ne HL6.out HB6.out (by decide) (by rw [e, e']))).trans (HK7.out.block g (owns_lt HL6.out g e) (fun e' => rows_far HM6.out HL6.out (by decide) g e'.symm e)))
            have HK8 : Hid (Kept (fun i => i = b ∨ some i = L3.ownBlock ∨ some i = M3.ownBlock) w4 (w7.setCell ⟨b, 28, none⟩ (.slice (some ⟨gm, 0, none⟩) (ks3.length + 1) cm))) := (HK6.out.trans HK7.out (fun i e => Or.inl (Or.inr (Or.inr e)))).trans (kept_but ((But.refl b w7).setCell (p := ⟨b, 28, none⟩) (Or.inl rfl) _)) (fun i e => Or.inl (Or.inl e))
            have HP8 := hide (HG4.out.push HC4.out HK8.out HB8.out HL8.out HM8.out ⟨hm9, by omega⟩ (by omega) (by
              rcases HA5.out with h | h
              · exact Or.inl h.symm
              · exact Or.inr ⟨gl, rfl, by simp at h; omega⟩) (by
              rcases HA7.out with h | h
              · exact Or.inl h.symm
              · exact Or.inr ⟨gm, rfl, by have := HK6.out.size; simp at h; omega⟩))
            go_wp2
            go_roundw
            case rel => exact ⟨i + 1, n + 1, _, _, _, _, by omega, by omega, by go_num, rfl, HP8.out.1, HP8.out.2, by have := HNL.out; omega, by simp; omega⟩
            case measure => simp [intOf]; omega
          · have l5 : ¬ (i : Int) < 4 := by omega
            by_cases hi16 : i % 16 = 0
            · have l6 : ((i : Int) % 16 == 0) = true := by simp; omega
              have l7 : (i : Int) % 16 = 0 := by omega
              have c0 := bk_cell HG4.out.bk.blk 27 L3 rfl
              have cf := bk_thaw HG4.out.bk.blk
              have HN2 : Hid (N ≤ w4.heap.size) := Nat.le_trans hN HG4.out.kept.size
              go_upto_region 12 with (at_builtin; refine wpList_append_lies _ rfl (.tmp 55) (.tmp 57) 34 rfl N 60 i1 (.slice none 0 0) 1 24 Tryz.underlying34 hi1 hz10 hz11 hz12 rfl (by omega) L3 ks3.length _ rfl (HG4.out.bk.ls.alloc _) ⟨w4.heap.size, 0, none⟩ 1 1 [.slice p4 (n + 1) k4] rfl rfl (World.news_of_block (heap_alloc_new w4 (.cells #[.slice p4 (n + 1) k4] 60))) (by simp [Value.oneCell']) (by omega) (by unfold maxLen; omega) (by omega) (by have := HN2.out; simp; omega) _ rfl ?_; intro gl cl w5 hown5 hgrow5 hat5 hlt5; have kk5 : Kept (fun i => some i = L3.ownBlock) w4 w5 := (kept_below (S := fun i => some i = L3.ownBlock) ((Below.refl _ _).alloc (Nat.le_refl _) (.cells #[.slice p4 (n + 1) k4] 60))).trans (kept_grown hgrow5) (fun i e => Or.inl e); have HK5 := hide kk5; have HB5 := hide ((kk5.block b (lt_of_block HG4.out.bk.blk) (fun e => owns_ne HG4.out.bk.ls HG4.out.bk.blk (by decide) e.symm)).trans HG4.out.bk.blk); have c50 := bk_cell HB5.out 27 L3 rfl; have cf5 := bk_thaw HB5.out; have HL5 := hide hown5; have HA5 := hide hat5; clear hown5 hgrow5 hat5 hlt5 kk5)
              have HB6 : Hid ((w5.setCell ⟨b, 27, none⟩ (.slice (some ⟨gl, 0, none⟩) (ks3.length + 1) cl)).heap[b]? = some (.cells (bkCells (.slice (some ⟨gl, 0, none⟩) (ks3.length + 1) cl) M3 A turn done used) 44 (0, 0))) := by show _ = _; rw [block_set HB5.out]; rfl
              have HL6 : Hid ((w5.setCell ⟨b, 27, none⟩ (.slice (some ⟨gl, 0, none⟩) (ks3.length + 1) cl)).ownsRow N 60 1 (.slice (some ⟨gl, 0, none⟩) (ks3.length + 1) cl) (ks3.length + 1) ((ks3.map fun k => k.val) ++ [.slice p4 (n + 1) k4])) := owns_kept' HL5.out (fun g e => Below.heap_setCell _ _ _ _ (fun e' => owns_ne HL5.out HB5.out (by decide) (by rw [e, e'])))
              have HK6 : Hid (Kept (fun i => i = b ∨ some i = L3.ownBlock ∨ some i = M3.ownBlock) w4 (w5.setCell ⟨b, 27, none⟩ (.slice (some ⟨gl, 0, none⟩) (ks3.length + 1) cl))) := ((Kept.refl _ _).trans HK5.out (fun i e => Or.inl (Or.inr (Or.inl e)))).trans (kept_but ((But.refl b w5).setCell (p := ⟨b, 27, none⟩) (Or.inl rfl) _)) (fun i e => Or.inl (Or.inl e))
              have HM6 : Hid ((w5.setCell ⟨b, 27, none⟩ (.slice (some ⟨gl, 0, none⟩) (ks3.length + 1) cl)).ownsRow N 3 1 M3 ks3.length (ks3.map fun k => .int .i64 (k.m : Int))) := owns_kept' HG4.out.bk.ms (fun g e => (Below.heap_setCell _ _ _ _ (fun e' => owns_ne HG4.out.bk.ms HG4.out.bk.blk (by decide) (by rw [e, e']))).trans (HK5.out.block g (owns_lt HG4.out.bk.ms g e) (fun e' => rows_far HG4.out.bk.ls HG4.out.bk.ms (by decide) g e'.symm e)))
              generalize w5.setCell ⟨b, 27, none⟩ (.slice (some ⟨gl, 0, none⟩) (ks3.length + 1) cl) = w6 at *
              clear HK5 HB5 HL5 c50 cf5 c0 cf
              have c1 := bk_cell HB6.out 28 M3 rfl
              have cf := bk_thaw HB6.out
              have HN6 : Hid (N ≤ w6.heap.size) := Nat.le_trans HN2.out HK6.out.size
              go_wp2_with (at_builtin; refine wpList_append_lies _ rfl (.tmp 65) (.tmp 67) 25 rfl N 3 i2 (.int .i64 0) 1 8 Tryz.underlying25 hi2 hz20 hz21 hz22 rfl (by omega) M3 ks3.length _ rfl (HM6.out.alloc _) ⟨w6.heap.size, 0, none⟩ 1 1 [.int .i64 (m : Int)] rfl rfl (World.news_of_block (heap_alloc_new w6 (.cells #[.int .i64 (m : Int)] 3))) (by simp [Value.oneCell']) (by omega) (by unfold maxLen; omega) (by omega) (by have := HN6.out; simp; omega) _ rfl ?_; intro gm cm w7 hown7 hgrow7 hat7 hlt7; have kk7 : Kept (fun i => some i = M3.ownBlock) w6 w7 := (kept_below (S := fun i => some i = M3.ownBlock) ((Below.refl _ _).alloc (Nat.le_refl _) (.cells #[.int .i64 (m : Int)] 3))).trans (kept_grown hgrow7) (fun i e => Or.inl e); have HK7 := hide kk7; have HB7 := hide ((kk7.block b (lt_of_block HB6.out) (fun e => owns_ne HM6.out HB6.out (by decide) e.symm)).trans HB6.out); have c71 := bk_cell HB7.out 28 M3 rfl; have cf7 := bk_thaw HB7.out; have HM7 := hide hown7; have HA7 := hide hat7; clear hown7 hgrow7 hat7 hlt7 kk7)
              have HB8 : Hid ((w7.setCell ⟨b, 28, none⟩ (.slice (some ⟨gm, 0, none⟩) (ks3.length + 1) cm)).heap[b]? = some (.cells (bkCells (.slice (some ⟨gl, 0, none⟩) (ks3.length + 1) cl) (.slice (some ⟨gm, 0, none⟩) (ks3.length + 1) cm) A turn done used) 44 (0, 0))) := by show _ = _; rw [block_set HB7.out]; rfl
              have HM8 : Hid ((w7.setCell ⟨b, 28, none⟩ (.slice (some ⟨gm, 0, none⟩) (ks3.length + 1) cm)).ownsRow N 3 1 (.slice (some ⟨gm, 0, none⟩) (ks3.length + 1) cm) (ks3.length + 1) ((ks3.map fun k => Value.int .i64 (k.m : Int)) ++ [.int .i64 (m : Int)])) := owns_kept' HM7.out (fun g e => Below.heap_setCell _ _ _ _ (fun e' => owns_ne HM7.out HB7.out (by decide) (by rw [e, e'])))
              have HL8 : Hid ((w7.setCell ⟨b, 28, none⟩ (.slice (some ⟨gm, 0, none⟩) (ks3.length + 1) cm)).ownsRow N 60 1 (.slice (some ⟨gl, 0, none⟩) (ks3.length + 1) cl) (ks3.length + 1) ((ks3.map fun k => k.val) ++ [.slice p4 (n + 1) k4])) := owns_kept' HL6.out (fun g e => (Below.heap_setCell _ _ _ _ (fun e' => owns_ne HL6.out HB6.out (by decide) (by rw [e, e']))).trans (HK7.out.block g (owns_lt HL6.out g e) (fun e' => rows_far HM6.out HL6.out (by decide) g e'.symm e)))
              have HK8 : Hid (Kept (fun i => i = b ∨ some i = L3.ownBlock ∨ some i = M3.ownBlock) w4 (w7.setCell ⟨b, 28, none⟩ (.slice (some ⟨gm, 0, none⟩) (ks3.length + 1) cm))) := (HK6.out.trans HK7.out (fun i e => Or.inl (Or.inr (Or.inr e)))).trans (kept_but ((But.refl b w7).setCell (p := ⟨b, 28, none⟩) (Or.inl rfl) _)) (fun i e => Or.inl (Or.inl e))
              have HP8 := hide (HG4.out.push HC4.out HK8.out HB8.out HL8.out HM8.out ⟨hm9, by omega⟩ (by omega) (by
                rcases HA5.out with h | h
                · exact Or.inl h.symm
                · exact Or.inr ⟨gl, rfl, by simp at h; omega⟩) (by
                rcases HA7.out with h | h
                · exact Or.inl h.symm
                · exact Or.inr ⟨gm, rfl, by have := HK6.out.size; simp at h; omega⟩))
              go_wp2
              go_roundw
              case rel => exact ⟨i + 1, n + 1, _, _, _, _, by omega, by omega, by go_num, rfl, HP8.out.1, HP8.out.2, by have := HNL.out; omega, by simp; omega⟩
              case measure => simp [intOf]; omega
            · have l6 : ((i : Int) % 16 == 0) = false := by simp; omega
              have l7 : ¬ (i : Int) % 16 = 0 := by omega
              go_wp2
              go_roundw
              case rel => exact ⟨i + 1, n + 1, _, _, _, _, by omega, by omega, by go_num, rfl, HG4, HC4, by have := HNL.out; omega, by omega⟩
              case measure => simp [intOf]; omega
        · have l4 : ¬ (i : Int) ≤ 32 := by omega
          go_wp2
          go_roundw
          case rel => exact ⟨k + 1, L3, M3, ks3, by omega, by omega, by go_num, HG, by show _ ≤ _; omega⟩
          case measure => simp [intOf]; omega
    · have q0 := bk_cell HG.out.bk.blk 27 L rfl
      have cf := bk_thaw HG.out.bk.blk
      have q2 := bk_cell HG.out.bk.blk 29 (.int .i64 (A : Int)) rfl
      obtain ⟨lp2, lc2, hL2⟩ : ∃ p c, L = .slice p ks2.length c := by
        rcases HG.out.bk.ls.2 with ⟨h1, h2⟩ | ⟨g, cap, cur, h1, _⟩
        · exact ⟨none, 0, by rw [h1, h2]⟩
        · exact ⟨_, cap, h1⟩
      have HG2 : Hid (Gr w L0 M0 ks (wr.setCell ⟨b, 29, none⟩ (.int .i64 (ks2.length : Int))) N b L M ks2.length turn done used ks2) := ⟨HG.out.bk.grownTo ks2.length, HG.out.pre, HG.out.len, HG.out.own, HG.out.lo, HG.out.mo, HG.out.kept.trans (kept_but ((But.refl b wr).setCell (p := ⟨b, 29, none⟩) (Or.inl rfl) _)) (fun i e => Or.inl (Or.inl e))⟩
      have HCf : Hid (ks2.length ≤ ks.length + 32 * (ks.length - A)) := by show _ ≤ _; have := HC.out; omega
      rw [hL2] at q0
      have l1 : ¬ (k : Int) < (ks.length : Int) := by omega
      go_wp2
      go_end0
      exact ⟨rfl, L, M, ks2, HG2.out, HCf.out⟩

end Go.Proofs.YtfdanocpbhbieaaGreat.RB
namespace Go.Proofs.YtfdanocpbhbieaaGreat.RB
open Go.RowKit Go.Proofs.YtfdanocpbhbieaaGreat

theorem Bk.doneTo {w : World} {N b : Nat} {L M : Value} {A turn done used : Nat} {ks : List Kl} (h : Bk w N b L M A turn done used ks) (t : Nat) : Bk (w.setCell ⟨b, 55, none⟩ (.int .i64 (t : Int))) N b L M A turn t used ks := by
  have hs : ∀ j, j ≠ b → (w.setCell ⟨b, 55, none⟩ (.int .i64 (t : Int))).heap[j]? = w.heap[j]? := fun j hj => Below.heap_setCell _ _ _ _ hj
  have hr : ∀ {B0 n s0 : Nat} {ty : TypeId} {v : Value} {xs : List Value}, w.ownsRow B0 ty s0 v n xs → 44 ≠ ty → ∀ g, v.ownBlock = some g → (w.setCell ⟨b, 55, none⟩ (.int .i64 (t : Int))).heap[g]? = w.heap[g]? := fun hv ht g e => hs g (fun e' => owns_ne hv h.blk ht (by rw [e, e']))
  exact ⟨by rw [block_set h.blk]; rfl, owns_kept' h.ls (hr h.ls (by decide)), owns_kept' h.ms (hr h.ms (by decide)), fun x hx => owns_kept' (h.rows x hx) (hr (h.rows x hx) (by decide)), h.num, h.most, h.one⟩

set_option maxRecDepth 100000 in
set_option maxHeartbeats 2000000 in
theorem bk_grow (w : World) (N b : Nat) (L0 M0 : Value) (A turn done used : Nat) (ks : List Kl) (h : Bk w N b L0 M0 A turn done used ks) (hN : N ≤ w.heap.size) (hA : A ≤ ks.length) (hks : ks.length ≤ 1000000) (hl : ∀ j x, A ≤ j → ks[j]? = some x → x.l ≤ 99999999000) :
    Calls Tryz.prog 39 #[.pointer (some ⟨b, 0, none⟩)] w fun e w' => e = .returned (.tuple #[]) ∧ ∃ L M ks2, Gr w L0 M0 ks w' N b L M ks2.length turn turn used ks2 ∧ ks2.length ≤ ks.length + 32 * (ks.length - A) := by
  have HC := hide (bk_growRights w N b L0 M0 A turn done used ks h hN hA hks hl)
  have HB0 := hide h.blk
  clear h hl
  go_enter Tryz.func39, Tryz.ntmps39
  go_wp2_with fail
  refine (bk_growBytes _ b L0 M0 A turn done used HB0.out).mono ?_
  rintro e w2 ⟨rfl, hw2⟩
  rw [hw2]
  clear hw2 w2
  go_wp2_with fail
  refine (bk_growRows _ b L0 M0 A turn done used HB0.out).mono ?_
  rintro e w2 ⟨rfl, hw2⟩
  rw [hw2]
  clear hw2 w2
  go_wp2_with fail
  refine (bk_growTexts _ b L0 M0 A turn done used HB0.out).mono ?_
  rintro e w2 ⟨rfl, hw2⟩
  rw [hw2]
  clear hw2 w2
  go_wp2_with fail
  refine (bk_growInts _ b L0 M0 A turn done used HB0.out).mono ?_
  rintro e w2 ⟨rfl, hw2⟩
  rw [hw2]
  clear hw2 w2
  go_wp2_with fail
  refine (bk_growWords _ b L0 M0 A turn done used HB0.out).mono ?_
  rintro e w2 ⟨rfl, hw2⟩
  rw [hw2]
  clear hw2 w2
  go_wp2_with fail
  refine (bk_growBools _ b L0 M0 A turn done used HB0.out).mono ?_
  rintro e w2 ⟨rfl, hw2⟩
  rw [hw2]
  clear hw2 w2
  go_wp2_with fail
  refine (bk_growLines _ b L0 M0 A turn done used HB0.out).mono ?_
  rintro e w2 ⟨rfl, hw2⟩
  rw [hw2]
  clear hw2 w2
  go_wp2_with fail
  refine (bk_growGuards _ b L0 M0 A turn done used HB0.out).mono ?_
  rintro e w2 ⟨rfl, hw2⟩
  rw [hw2]
  clear hw2 w2
  go_wp2_with fail
  refine (bk_growSets _ b L0 M0 A turn done used HB0.out).mono ?_
  rintro e w2 ⟨rfl, hw2⟩
  rw [hw2]
  clear hw2 w2
  go_wp2_with fail
  refine HC.out.mono ?_
  rintro e w1 ⟨rfl, L, M, ks2, hg, hc⟩
  have HG := hide hg
  have HCn := hide hc
  clear hg hc HC
  go_wp2_with fail
  refine (bk_growPrices _ b L M ks2.length turn done used HG.out.bk.blk).mono ?_
  rintro e w2 ⟨rfl, rfl⟩
  go_wp2_with fail
  refine (bk_growHelds _ b L M ks2.length turn done used HG.out.bk.blk).mono ?_
  rintro e w2 ⟨rfl, rfl⟩
  go_wp2_with fail
  refine (bk_growPools _ b L M ks2.length turn done used HG.out.bk.blk).mono ?_
  rintro e w2 ⟨rfl, rfl⟩
  go_wp2_with fail
  refine (bk_growActs _ b L M ks2.length turn done used HG.out.bk.blk).mono ?_
  rintro e w2 ⟨rfl, rfl⟩
  go_wp2_with fail
  refine (bk_growEntries _ b L M ks2.length turn done used HG.out.bk.blk).mono ?_
  rintro e w2 ⟨rfl, rfl⟩
  go_wp2_with fail
  refine (bk_growFlights _ b L M ks2.length turn done used HG.out.bk.blk).mono ?_
  rintro e w2 ⟨rfl, rfl⟩
  go_wp2_with fail
  refine (bk_growFiles _ b L M ks2.length turn done used HG.out.bk.blk).mono ?_
  rintro e w2 ⟨rfl, rfl⟩
  go_wp2_with fail
  refine (bk_growItems _ b L M ks2.length turn done used HG.out.bk.blk).mono ?_
  rintro e w2 ⟨rfl, rfl⟩
  have c54 := bk_cell HG.out.bk.blk 54 (.int .i64 (turn : Int)) rfl
  have c55 := bk_cell HG.out.bk.blk 55 (.int .i64 (done : Int)) rfl
  have cf := bk_thaw HG.out.bk.blk
  have HG2 : Hid (Gr w L0 M0 ks (w2.setCell ⟨b, 55, none⟩ (.int .i64 (turn : Int))) N b L M ks2.length turn turn used ks2) := ⟨HG.out.bk.doneTo turn, HG.out.pre, HG.out.len, HG.out.own, HG.out.lo, HG.out.mo, HG.out.kept.trans (kept_but ((But.refl b w2).setCell (p := ⟨b, 55, none⟩) (Or.inl rfl) _)) (fun i e => Or.inl (Or.inl e))⟩
  go_wp2
  go_end0
  exact ⟨rfl, L, M, ks2, HG2.out, HCn.out⟩

theorem Gr.draws {w wr : World} {L0 M0 L M : Value} {ks ks2 : List Kl} {N b A turn done used : Nat} (h : Gr w L0 M0 ks wr N b L M A turn done used ks2) (q : Nat) : Gr w L0 M0 ks (wr.drewN q) N b L M A turn done used ks2 := h.below (bad_drews wr q)
theorem Bk.draws {w : World} {N b : Nat} {L M : Value} {A turn done used : Nat} {ks : List Kl} (h : Bk w N b L M A turn done used ks) (q : Nat) : Bk (w.drewN q) N b L M A turn done used ks := h.below (bad_drews w q)

set_option maxRecDepth 100000 in
set_option maxHeartbeats 1000000 in
theorem bk_look (w : World) (N b : Nat) (L0 M0 : Value) (A turn done used : Nat) (ks : List Kl) (h : Bk w N b L0 M0 A turn done used ks) (hN : N ≤ w.heap.size) (hA : A ≤ ks.length) (hks : ks.length ≤ 1000000) (hl : ∀ j x, A ≤ j → ks[j]? = some x → x.l ≤ 99999999000) :
    Calls Tryz.prog 13 #[.pointer (some ⟨b, 0, none⟩)] w fun e w' => e = .returned (.bool true) ∧ ∃ L M ks2 A2 done2, Gr w L0 M0 ks w' N b L M A2 turn done2 used ks2 ∧ ks2.length ≤ ks.length + 32 * (ks.length - A) ∧ ((A2 = ks2.length ∧ done2 = turn) ∨ (A2 = A ∧ ks2 = ks ∧ done = turn ∧ done2 = done)) := by
  have HK := hide h
  have HLs := hide hl
  have HG0 : Hid (Gr w L0 M0 ks w N b L0 M0 A turn done used ks) := ⟨h, fun _ _ => rfl, Nat.le_refl _, fun x hx g e => Or.inl ⟨x, hx, e⟩, Or.inl rfl, Or.inl rfl, Kept.refl _ _⟩
  clear h hl
  go_enter Tryz.func13, Tryz.ntmps13
  go_wp2_with fail
  refine (bk_holds w N b L0 M0 A turn done used ks HK.out).mono ?_
  rintro e w1 ⟨rfl, hb1⟩
  have HK1 := hide (HK.out.below hb1)
  have HG1 := hide (HG0.out.below hb1)
  have HKe : Hid (Kept (fun _ => False) w w1) := kept_below hb1
  have HN1 : Hid (N ≤ w1.heap.size) := Nat.le_trans hN hb1.size
  have HSz : Hid (w.heap.size ≤ w1.heap.size) := hb1.size
  clear hb1
  clear HK HG0
  have c54 := bk_cell HK1.out.blk 54 (.int .i64 (turn : Int)) rfl
  have c55 := bk_cell HK1.out.blk 55 (.int .i64 (done : Int)) rfl
  by_cases hd : done = turn
  · have hb : ((done : Int) == (turn : Int)) = true := by simp; omega
    have HD := hide hd
    clear hd
    go_wp2
    go_quiet (fail)
    go_wp2
    go_ret
    exact ⟨rfl, L0, M0, ks, A, done, HG1.out.draws nq, by omega, Or.inr ⟨rfl, rfl, HD.out, rfl⟩⟩
  · have hb : ((done : Int) == (turn : Int)) = false := by simp; omega
    clear hd
    go_wp2
    go_quiet (fail)
    have HK2 := hide (HK1.out.draws nq)
    have HKe2 : Hid (Kept (fun _ => False) w (w1.drewN nq)) := HKe.out.trans (kept_below (S := fun _ => False) (bad_drews w1 nq)) (fun _ e => e.elim)
    have HN2 : Hid (N ≤ (w1.drewN nq).heap.size) := HN1.out
    have HSz2 : Hid (w.heap.size ≤ (w1.drewN nq).heap.size) := HSz.out
    generalize w1.drewN nq = w2 at *
    clear c54 c55 HK1 HG1
    go_wp2_with fail
    refine (bk_grow w2 N b L0 M0 A turn done used ks HK2.out HN2.out hA hks HLs.out).mono ?_
    rintro e w3 ⟨rfl, L, M, ks2, hg, hc⟩
    have HG3 : Hid (Gr w L0 M0 ks w3 N b L M ks2.length turn turn used ks2) := ⟨hg.bk, hg.pre, hg.len, fun x hx g e => (hg.own x hx g e).imp id (fun h => Nat.le_trans HSz2.out h), hg.lo.imp id (fun ⟨g, e, h⟩ => ⟨g, e, Nat.le_trans HSz2.out h⟩), hg.mo.imp id (fun ⟨g, e, h⟩ => ⟨g, e, Nat.le_trans HSz2.out h⟩), ⟨hg.kept.os.trans HKe2.out.os, hg.kept.tape.trans HKe2.out.tape, hg.kept.output.trans HKe2.out.output, Nat.le_trans HKe2.out.size hg.kept.size, fun k hk hn => (hg.kept.block k (Nat.lt_of_lt_of_le hk HSz2.out) hn).trans (HKe2.out.block k hk (fun e => e))⟩⟩
    have HCn := hide hc
    clear hg hc
    go_wp2_with fail
    refine (bk_holds w3 N b L M ks2.length turn turn used ks2 HG3.out.bk).mono ?_
    rintro e w4 ⟨rfl, hb4⟩
    have HG4 := hide (HG3.out.below hb4)
    clear hb4
    go_wp2
    go_ret
    exact ⟨rfl, L, M, ks2, ks2.length, turn, HG4.out, HCn.out, Or.inl ⟨rfl, rfl⟩⟩

end Go.Proofs.YtfdanocpbhbieaaGreat.RB
