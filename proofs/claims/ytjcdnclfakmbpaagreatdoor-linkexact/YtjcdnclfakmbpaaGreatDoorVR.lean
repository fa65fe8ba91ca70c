import Derived.ArgAppend
import Derived.Test.YtjcdnclfakmbpaaGreatDoorVC
import Derived.Deep.Cut
namespace Go.Proofs.YtjcdnclfakmbpaaGreatDoor.Q
open Go.RowKit Go.Proofs.YtjcdnclfakmbpaaGreatDoor.U
theorem row_marked {w : World} {N g n k cap : Nat} {m : Nat} {cur : Array Value} {u : Value} {fz : Nat × Nat} (hg : w.heap[g]? = some (.cells cur 5 fz)) (hcs : cur.size = cap) (hn : n < cap) (h : ownsQ true w N 5 1 u k (vals (mks m k))) :
    ownsQ true (w.setCell ⟨g, n, none⟩ (.int .u8 (mkB m n : Nat))) N 5 1 u k (vals (mks m k)) := by
  refine ⟨h.1, ?_⟩
  rcases h.2 with h0 | ⟨g', cap', cur', h1, h2, ⟨fz', hg', hf'⟩, h3, h4, h5, ht⟩
  · exact Or.inl h0
  · by_cases e : g' = g
    · subst e
      rw [hg] at hg'
      simp only [Option.some.injEq, Obj.cells.injEq, true_and] at hg'
      obtain ⟨rfl, rfl⟩ := hg'
      refine Or.inr ⟨g', cap', cur.setIfInBounds n (.int .u8 (mkB m n : Nat)), h1, h2, ⟨_, block_set hg _, hf'⟩, h3, h4, by simpa using h5, ?_⟩
      rw [← ht]
      apply List.ext_getElem?
      intro i
      rw [List.getElem?_take, List.getElem?_take]
      by_cases hi : i < k * 1
      · rw [if_pos hi, if_pos hi]
        by_cases hin : n = i
        · subst hin
          have := congrArg (fun l => l[n]?) ht
          simp only [List.getElem?_take, if_pos hi] at this
          rw [this]
          have hk : n < k := by omega
          simp [vals, mks, hk, show n < cur.size by omega]
        · simp [List.getElem?_set_ne hin]
      · rw [if_neg hi, if_neg hi]
    · exact Or.inr ⟨g', cap', cur', h1, h2, ⟨fz', (Below.heap_setCell _ _ _ _ (by simpa using e)).trans hg', hf'⟩, h3, h4, h5, ht⟩
theorem wpList_append_mark {w : World} {ops : Array Oper} {rest : List Oper} {o : Oper} {a : Act} {Q : Exit → Act → World → Prop} (hgd : o.guard = none) (s x : Operand)
    (ho : o.op = .call { callee := .builtin .append, args := #[s, x], argTypes := #[31, 31] }) (N m n : Nat) (v : Value) (hs : a.eval s = v) (hrow : ownsQ true w N 5 1 v n (vals (mks m n))) (B : Nat) (hx : a.eval x = .slice (some ⟨B, 0, none⟩) 1 1) (hB : w.cell? ⟨B, 0, none⟩ = some (.int .u8 (mkB m n : Nat)))
    (hn : n + 1 ≤ 140737488355328) (hN : N ≤ w.heap.size)
    (h : ∀ v' w', ownsQ true w' N 5 1 v' (n + 1) (vals (mks m (n + 1))) → (v'.ownBlock = v.ownBlock ∨ ∃ g, v'.ownBlock = some g ∧ w.heap.size ≤ g) → Kept (fun i => some i = v.ownBlock) w w' → (∀ u k, ownsQ true w N 5 1 u k (vals (mks m k)) → ownsQ true w' N 5 1 u k (vals (mks m k))) → wpList Tryz.prog ops Q rest (a.put o.dst v') w') :
    wpList Tryz.prog ops Q (o :: rest) a w := by
  obtain ⟨i0, hi, hz0, hz1, hz2⟩ := info_parts Tryz.info5'
  have hnew : ∀ j u, ([Value.int .u8 (mkB m n : Nat)] : List Value)[j]? = some u → w.cell? ((⟨B, 0, none⟩ : Addr).add j) = some u := fun j u hj => by
    match j, hj with
    | 0, hj => simp at hj; subst hj; simpa [Addr.add] using hB
  have hsnoc : vals (mks m n) ++ [Value.int .u8 (mkB m n : Nat)] = vals (mks m (n + 1)) := by rw [mks_snoc, vals_app]; rfl
  have hkeep : ∀ w' : World, (∀ k, k < w.heap.size → w'.heap[k]? = w.heap[k]?) → ∀ u k, ownsQ true w N 5 1 u k (vals (mks m k)) → ownsQ true w' N 5 1 u k (vals (mks m k)) := fun w' hk u k hu => owns_kept' hu (fun g e => hk g (owns_lt hu g e))
  rcases hrow.2 with ⟨h1, h2⟩ | ⟨g, cap, cur, h1, hbg, ⟨fz, hg, hf⟩, h3, h4, h5, ht⟩
  · subst h2
    refine wpList_append_lies _ hgd s x 31 ho N 5 i0 (.int .u8 0) 1 1 Tryz.underlying31 hi hz0 hz1 hz2 rfl (by omega) v 0 (vals (mks m 0)) hs ⟨by simp [vals, mks], Or.inl ⟨h1, rfl⟩⟩ ⟨B, 0, none⟩ 1 1 [.int .u8 (mkB m 0 : Nat)] hx rfl hnew (by simp [Value.oneCell']) (by omega) (by unfold maxLen; omega) (by omega) hN _ rfl ?_
    intro g' cap' w' r1 r2 r3 _
    have hvn : v.ownBlock = none := by rw [h1]; rfl
    rw [hsnoc] at r1
    rw [hvn] at r2 r3
    refine h _ w' (ownsQ_of r1) ?_ (by rw [hvn]; exact kept_grown r2) (hkeep w' (fun k hk => r2.block k hk (by simp)))
    rcases r3 with e | e
    · cases e
    · exact Or.inr ⟨g', rfl, by omega⟩
  · subst h1
    have hcell : ∀ j u, (vals (mks m n))[j]? = some u → w.cell? ⟨g, 0 + j, none⟩ = some u := fun j u hj => by
      have := (owns_cell hrow u hj).1
      simpa using this
    refine wpList_append_arg w hgd s x 31 ho 5 i0 (.int .u8 0) 1 1 Tryz.underlying31 hi hz0 hz1 hz2 rfl (by omega) g 0 n cap (vals (mks m n)) hs (by rw [vals_len, mks_len]; omega) hcell ⟨B, 0, none⟩ 1 1 [.int .u8 (mkB m n : Nat)] hx rfl hnew (by simp [Value.oneCell']) ?_ (by unfold maxLen; omega) (by omega) ?_ ?_
    · intro hroom j hj
      simp at hj
      subst hj
      have hlt : n < cur.size := by omega
      exact ⟨by simp [World.cell?, hg, hlt], by simpa using thawed (o := n) hg hf (by omega)⟩
    · intro hroom
      have e : w.setCells g (0 + n * 1) [.int .u8 (mkB m n : Nat)] = w.setCell ⟨g, n, none⟩ (.int .u8 (mkB m n : Nat)) := by simp [World.setCells]
      rw [e]
      refine h _ _ ⟨by rw [vals_len, mks_len]; omega, Or.inr ⟨g, cap, cur.setIfInBounds n (.int .u8 (mkB m n : Nat)), rfl, hbg, ⟨fz, block_set hg _, hf⟩, hroom, h4, by simpa using h5, ?_⟩⟩ (Or.inl rfl) (kept_but ((But.refl g w).setCell (p := ⟨g, n, none⟩) (Or.inl rfl) _) |> fun k => ⟨k.os, k.tape, k.output, k.size, fun j hj hn => k.block j hj (fun e => hn (by rw [e]; rfl))⟩) (fun u k hu => row_marked hg (by omega) (by omega) hu)
      rw [← hsnoc, ← ht]
      apply List.ext_getElem?
      intro i
      rw [List.getElem?_take]
      have hlt : n < cur.size := by omega
      have hlen : (cur.toList.take (n * 1)).length = n := by simp; omega
      by_cases hi' : i < n
      · rw [if_pos (by omega), List.getElem?_append_left (by omega), List.getElem?_take, if_pos (by omega)]
        simp [List.getElem?_set_ne (show n ≠ i by omega)]
      · by_cases hin : i = n
        · subst hin
          rw [if_pos (by omega), List.getElem?_append_right (by omega), hlen]
          simp [hlt]
        · rw [if_neg (by omega), List.getElem?_eq_none (by simp; omega)]
    · intro _ v' w' r1 r2
      rw [hsnoc] at r1
      refine h v' w' (owns_mono (ownsQ_of r1) hN) ?_ ⟨r2.os, r2.tape, r2.output, r2.size, fun j hj _ => r2.block j hj (by simp)⟩ (hkeep w' (fun k hk => r2.block k hk (by simp)))
      obtain ⟨g', c', e, hb', _⟩ := r1.form (by omega)
      exact Or.inr ⟨g', by rw [e]; rfl, hb'⟩
end Go.Proofs.YtjcdnclfakmbpaaGreatDoor.Q
namespace Go.Proofs.YtjcdnclfakmbpaaGreatDoor.Q
open Go.RowKit Go.Proofs.YtjcdnclfakmbpaaGreatDoor.U
def GS (b : Nat) (L M : Value) (ks : List Kl) (i : Nat) : Prop := i = b ∨ some i = L.ownBlock ∨ some i = M.ownBlock ∨ ∃ k ∈ ks, some i = k.val.ownBlock
structure Gr (w : World) (L0 M0 : Value) (ks : List Kl) (wr : World) (N b : Nat) (L M : Value) (A turn done used : Nat) (ks2 : List Kl) : Prop where
  bk : Bk wr N b L M A turn done used ks2
  pre : ∀ j, j < ks.length → ks2[j]? = ks[j]?
  len : ks.length ≤ ks2.length
  own : ∀ x ∈ ks2, ∀ g, x.val.ownBlock = some g → (∃ k ∈ ks, k.val.ownBlock = some g) ∨ w.heap.size ≤ g
  lo : L.ownBlock = L0.ownBlock ∨ ∃ g, L.ownBlock = some g ∧ w.heap.size ≤ g
  mo : M.ownBlock = M0.ownBlock ∨ ∃ g, M.ownBlock = some g ∧ w.heap.size ≤ g
  kept : Kept (GS b L0 M0 ks) w wr
structure Cu (w : World) (ks : List Kl) (wr : World) (N m : Nat) (g : Value) (n : Nat) (ks2 : List Kl) : Prop where
  row : ownsQ true wr N 5 1 g n (vals (mks m n))
  one : ∀ x ∈ ks2, ∀ q, x.val.ownBlock = some q → g.ownBlock = some q → x.m = m
  own : ∀ q, g.ownBlock = some q → (∃ k ∈ ks, k.val.ownBlock = some q) ∨ w.heap.size ≤ q
section
variable {w wr w' : World} {L0 M0 L M g g' : Value} {ks ks2 : List Kl} {N b A turn done used m n : Nat}
theorem Gr.mark (h : Gr w L0 M0 ks wr N b L M A turn done used ks2) (c : Cu w ks wr N m g n ks2) (hrow : ownsQ true w' N 5 1 g' (n + 1) (vals (mks m (n + 1)))) (hat : g'.ownBlock = g.ownBlock ∨ ∃ q, g'.ownBlock = some q ∧ wr.heap.size ≤ q) (k : Kept (fun i => some i = g.ownBlock) wr w')
    (hm : ∀ u k, ownsQ true wr N 5 1 u k (vals (mks m k)) → ownsQ true w' N 5 1 u k (vals (mks m k))) : Gr w L0 M0 ks w' N b L M A turn done used ks2 ∧ Cu w ks w' N m g' (n + 1) ks2 := by
  have hz := h.kept.size
  refine ⟨⟨⟨(k.block b (lt_of_block h.bk.blk) (fun e => owns_ne c.row h.bk.blk (by decide) e.symm)).trans h.bk.blk, owns_kept' h.bk.ls (fun q e => k.block q (owns_lt h.bk.ls q e) (fun e' => rows_far h.bk.ls c.row (by decide) q e e'.symm)), owns_kept' h.bk.ms (fun q e => k.block q (owns_lt h.bk.ms q e) (fun e' => rows_far h.bk.ms c.row (by decide) q e e'.symm)), fun x hx => ?_, h.bk.num, h.bk.most, h.bk.one⟩, h.pre, h.len, h.own, h.lo, h.mo, h.kept.trans k (fun i e => ?_)⟩, ⟨hrow, fun x hx q e1 e2 => ?_, fun q e => ?_⟩⟩
  · by_cases hxm : x.m = m
    · have := h.bk.rows x hx
      rw [hxm] at this ⊢
      exact hm _ _ this
    · have hr := h.bk.rows x hx
      exact owns_kept' hr (fun q e => k.block q (owns_lt hr q e) (fun e' => hxm (c.one x hx q e e'.symm)))
  · rcases c.own i e.symm with ⟨x, hx, e'⟩ | e'
    · exact Or.inl (Or.inr (Or.inr (Or.inr ⟨x, hx, e'.symm⟩)))
    · exact Or.inr e'
  · rcases hat with e' | ⟨q', e', hq'⟩
    · exact c.one x hx q e1 (by rw [← e', e2])
    · rw [e'] at e2; cases e2
      have := owns_lt (h.bk.rows x hx) _ e1
      omega
  · rcases hat with e' | ⟨q', e', hq'⟩
    · exact c.own q (by rw [← e', e])
    · rw [e'] at e; cases e; exact Or.inr (by omega)
theorem Gr.push (h : Gr w L0 M0 ks wr N b L M A turn done used ks2) {p : Option Addr} {cc : Nat} (c : Cu w ks wr N m (.slice p n cc) n ks2) {L' M' : Value} (k : Kept (fun i => i = b ∨ some i = L.ownBlock ∨ some i = M.ownBlock) wr w') (hb : w'.heap[b]? = some (.cells (bkCells L' M' A turn done used) 70 (0, 0)))
    (hl : ownsQ false w' N 31 1 L' (ks2.length + 1) ((ks2.map fun k => k.val) ++ [.slice p n cc])) (hm : ownsQ false w' N 3 1 M' (ks2.length + 1) ((ks2.map fun k => Value.int .i64 (k.m : Int)) ++ [.int .i64 (m : Int)])) (hn : m ≤ 1000000000 ∧ n ≤ 100000000000) (hc : ks2.length + 1 ≤ 1000000000)
    (ha : L'.ownBlock = L.ownBlock ∨ ∃ q, L'.ownBlock = some q ∧ wr.heap.size ≤ q) (hb' : M'.ownBlock = M.ownBlock ∨ ∃ q, M'.ownBlock = some q ∧ wr.heap.size ≤ q) :
    Gr w L0 M0 ks w' N b L' M' A turn done used (ks2 ++ [⟨p, n, cc, m⟩]) ∧ Cu w ks w' N m (.slice p n cc) n (ks2 ++ [⟨p, n, cc, m⟩]) := by
  have hz := h.kept.size
  have hbk := h.bk.more (x := ⟨p, n, cc, m⟩) k hb hl hm c.row hn hc (fun y hy q e1 e2 => c.one y hy q e1 e2)
  have hfix : ∀ {X Y Z : Value}, (X.ownBlock = Y.ownBlock ∨ ∃ q, X.ownBlock = some q ∧ w.heap.size ≤ q) → (Z.ownBlock = X.ownBlock ∨ ∃ q, Z.ownBlock = some q ∧ wr.heap.size ≤ q) → (Z.ownBlock = Y.ownBlock ∨ ∃ q, Z.ownBlock = some q ∧ w.heap.size ≤ q) := fun h1 h2 => by
    rcases h2 with e | ⟨q, e, hq⟩
    · rw [e]; exact h1
    · exact Or.inr ⟨q, e, by omega⟩
  refine ⟨⟨hbk, fun j hj => ?_, by simp; have := h.len; omega, fun x hx q e => ?_, hfix h.lo ha, hfix h.mo hb', h.kept.trans k (fun i hi => ?_)⟩, ⟨hbk.rows ⟨p, n, cc, m⟩ (by simp), fun x hx q e1 e2 => ?_, c.own⟩⟩
  · rw [List.getElem?_append_left (by have := h.len; omega)]; exact h.pre j hj
  · rcases List.mem_append.1 hx with h' | h'
    · exact h.own x h' q e
    · simp at h'; subst h'; exact c.own q e
  · rcases hi with e | e | e
    · exact Or.inl (Or.inl e)
    · rcases h.lo with e' | ⟨q, e', hq⟩
      · exact Or.inl (Or.inr (Or.inl (by rw [e, e'])))
      · rw [e'] at e; cases e; exact Or.inr hq
    · rcases h.mo with e' | ⟨q, e', hq⟩
      · exact Or.inl (Or.inr (Or.inr (Or.inl (by rw [e, e']))))
      · rw [e'] at e; cases e; exact Or.inr hq
  · rcases List.mem_append.1 hx with h' | h'
    · exact c.one x h' q e1 e2
    · simp at h'; subst h'; rfl
end
theorem Bk.grownTo {w : World} {N b : Nat} {L M : Value} {A turn done used : Nat} {ks : List Kl} (h : Bk w N b L M A turn done used ks) (t : Nat) : Bk (w.setCell ⟨b, 2, none⟩ (.int .i64 (t : Int))) N b L M t turn done used ks := by
  have hs : ∀ j, j ≠ b → (w.setCell ⟨b, 2, none⟩ (.int .i64 (t : Int))).heap[j]? = w.heap[j]? := fun j hj => Below.heap_setCell _ _ _ _ hj
  have hr : ∀ {z0 : Bool} {B0 n : Nat} {ty : TypeId} {v : Value} {xs : List Value}, ownsQ z0 w B0 ty 1 v n xs → 70 ≠ ty → ∀ g, v.ownBlock = some g → (w.setCell ⟨b, 2, none⟩ (.int .i64 (t : Int))).heap[g]? = w.heap[g]? := fun hv ht g e => hs g (fun e' => owns_ne hv h.blk ht (by rw [e, e']))
  exact ⟨by rw [block_set h.blk]; rfl, owns_kept' h.ls (hr h.ls (by decide)), owns_kept' h.ms (hr h.ms (by decide)), fun x hx => owns_kept' (h.rows x hx) (hr (h.rows x hx) (by decide)), h.num, h.most, h.one⟩
set_option maxRecDepth 100000 in
set_option maxHeartbeats 4000000 in
theorem bk_growBytes (w : World) (N b : Nat) (L0 M0 : Value) (A turn done used : Nat) (ks : List Kl) (h : Bk w N b L0 M0 A turn done used ks) (hN : N ≤ w.heap.size) (hA : A ≤ ks.length) (hks : ks.length ≤ 4000000) (hl : ∀ j x, A ≤ j → ks[j]? = some x → x.l ≤ 99999999000) :
    Calls Tryz.prog 71 #[.pointer (some ⟨b, 0, none⟩)] w fun e w' => e = .returned (.tuple #[]) ∧ ∃ L M ks2, Gr w L0 M0 ks w' N b L M ks2.length turn done used ks2 ∧ ks2.length ≤ ks.length + 96 * (ks.length - A) := by
  obtain ⟨i1, hi1, hz10, hz11, hz12⟩ := info_parts Tryz.infoBy
  obtain ⟨i2, hi2, hz20, hz21, hz22⟩ := info_parts Tryz.infoIn
  have HLs := hide hl
  have q0 := bk_cell h.blk 0 L0 rfl
  have q2 := bk_cell h.blk 2 (.int .i64 (A : Int)) rfl
  have HG0 : Hid (Gr w L0 M0 ks w N b L0 M0 A turn done used ks) := ⟨h, fun _ _ => rfl, Nat.le_refl _, fun x hx g e => Or.inl ⟨x, hx, e⟩, Or.inl rfl, Or.inl rfl, Kept.refl _ _⟩
  obtain ⟨lp, lc, hL0⟩ : ∃ p c, L0 = .slice p ks.length c := by
    rcases h.ls.2 with ⟨h1, h2⟩ | ⟨g, cap, cur, h1, _⟩
    · exact ⟨none, 0, by rw [h1, h2]⟩
    · exact ⟨_, cap, h1⟩
  rw [hL0] at q0
  clear h hl hL0
  go_enter Tryz.func71, Tryz.ntmps71
  go_wp2
  clear q0 q2
  go_loopw [3] (fun i wr => ∃ (k : Nat) (L M : Value) (ks2 : List Kl), A ≤ k ∧ k ≤ ks.length ∧ i = .int .i64 k ∧ Hid (Gr w L0 M0 ks wr N b L M A turn done used ks2) ∧ Hid (ks2.length ≤ ks.length + 96 * (k - A))) (fun i _ => ks.length - (intOf i).toNat)
  case atStart => exact ⟨A, L0, M0, ks, Nat.le_refl _, hA, rfl, HG0, by show _ ≤ _; omega⟩
  case round =>
    clear HG0
    obtain ⟨k, L, M, ks2, hkA, hk, rfl, HG, HC⟩ := hrel
    by_cases hlt : k < ks.length
    · have hop : ks[k]? = some (ks[k]'hlt) := List.getElem?_eq_getElem _
      have hop2 : ks2[k]? = some (ks[k]'hlt) := (HG.out.pre k hlt).trans hop
      have hx9 := HLs.out k _ hkA hop
      have hmem := hide (List.mem_of_getElem? hop2)
      obtain ⟨gl, cl, hgl, cl0⟩ := row_cell HG.out.bk.ls (k := k) (a := (ks[k]'hlt).val) (by simp [hop2])
      obtain ⟨gm, cm, hgm, cm0⟩ := row_cell HG.out.bk.ms (k := k) (a := .int .i64 ((ks[k]'hlt).m : Int)) (by simp [hop2])
      have q0 := bk_cell HG.out.bk.blk 0 L rfl
      have q1 := bk_cell HG.out.bk.blk 1 M rfl
      have HCu : Hid (Cu w ks wr N (ks[k]'hlt).m (ks[k]'hlt).val (ks[k]'hlt).l ks2) := ⟨HG.out.bk.rows _ hmem.out, fun x hx q e1 e2 => HG.out.bk.one x hx _ hmem.out q e1 e2, HG.out.own _ hmem.out⟩
      obtain ⟨hm9, _⟩ := HG.out.bk.num _ hmem.out
      generalize ks[k]'hlt = xk at *
      obtain ⟨p, l, c, m⟩ := xk
      simp only [Kl.val] at cl0 cm0 HCu hm9 hx9
      rw [hgl] at q0
      rw [hgm] at q1
      have HGL := hide hgl
      have HGM := hide hgm
      have hl2 := HG.out.len
      have hcnt := HC.out
      clear hop hop2 hmem hgl hgm
      have l1 : (k : Int) < (ks2.length : Int) := by omega
      have l2 : (0 : Int) ≤ (k : Int) := by omega
      have l3 : (k : Int) < (ks.length : Int) := by omega
      go_wp2
      clear q0 q1 cl0 cm0 l1
      go_loopw [4, 6] (fun gv i wr => ∃ (i' n : Nat) (v L M : Value) (ks3 : List Kl), 1 ≤ i' ∧ i' ≤ 97 ∧ i = .int .i64 i' ∧ gv = v ∧ Hid (Gr w L0 M0 ks wr N b L M A turn done used ks3) ∧ Hid (Cu w ks wr N m v n ks3) ∧ n + 1 = l + i' ∧ ks3.length + 1 ≤ ks2.length + i') (fun _ i _ => 97 - (intOf i).toNat)
      case atStart => exact ⟨1, l, _, L, M, ks2, by omega, by omega, rfl, rfl, HG, HCu, rfl, Nat.le_refl _⟩
      case round =>
        clear HG HCu HGL HGM
        obtain ⟨i, n, v, L3, M3, ks3, hi1', hi97, rfl, rfl, HG, HCu, hnl, hcn⟩ := hrel
        have HNL := hide hnl
        have hn9 : n + 1 ≤ 99999999097 := by omega
        clear hnl
        by_cases hi96 : i < 97
        · obtain ⟨p3, c3, hv3⟩ : ∃ p c, u4 = .slice p n c := by
            rcases HCu.out.row.2 with ⟨h1, h2⟩ | ⟨g, cap, cur, h1, _⟩
            · exact ⟨none, 0, by rw [h1, h2]⟩
            · exact ⟨_, cap, h1⟩
          subst hv3
          have HA := hide (fun w => at_mark w m n hm9 (by omega))
          have HNr : Hid (N ≤ wr.heap.size) := Nat.le_trans hN HG.out.kept.size
          have l4 : (i : Int) ≤ 96 := by omega
          go_wp2_with fail
          refine (HA.out _).mono ?_
          rintro e wx ⟨rfl, rfl⟩
          have HB0 : Hid ((wx.alloc (.cells #[.int .u8 (mkB m n : Nat)] 5)).cell? ⟨wx.heap.size, 0, none⟩ = some (.int .u8 (mkB m n : Nat))) := by
            have := heap_alloc_new wx (.cells #[.int .u8 (mkB m n : Nat)] 5 (0, 0))
            show _ = _
            simp only [World.cell?, this]
            rfl
          go_upto_region 10 with (at_builtin; refine wpList_append_mark rfl (.tmp 39) (.tmp 44) rfl N m n (.slice p3 n c3) rfl (HCu.out.row.alloc _) wx.heap.size rfl HB0.out (by omega) (by have := HNr.out; simp; omega) ?_; intro v4 w4 r1 r2 r3 r4; have hp4 := HG.out.mark HCu.out r1 (by rcases r2 with e | ⟨q, e, hq⟩; exact Or.inl e; exact Or.inr ⟨q, e, by simp at hq; omega⟩) ((kept_below (S := fun i => some i = (Value.slice p3 n c3).ownBlock) ((Below.refl _ _).alloc (Nat.le_refl _) (.cells #[.int .u8 (mkB m n : Nat)] 5))).trans r3 (fun i e => Or.inl e)) (fun u k hu => r4 u k (hu.alloc _)); have HG4 := hide hp4.1; have HC4 := hide hp4.2; clear r1 r2 r3 r4 hp4)
          obtain ⟨p4, k4, hv4⟩ : ∃ p c, v4 = .slice p (n + 1) c := by
            rcases HC4.out.row.2 with ⟨h1, h2⟩ | ⟨g, cap, cur, h1, _⟩
            · omega
            · exact ⟨_, cap, h1⟩
          subst hv4
          clear HG HCu HA HB0 HNr
          by_cases hi4 : i < 4
          · have l5 : (i : Int) < 4 := by omega
            have c0 := bk_cell HG4.out.bk.blk 0 L3 rfl
            have cf := bk_thaw HG4.out.bk.blk
            have HN2 : Hid (N ≤ w4.heap.size) := Nat.le_trans hN HG4.out.kept.size
            go_upto_region 12 with (at_builtin; refine wpList_append_lies _ rfl (.tmp 57) (.tmp 59) 44 rfl N 31 i1 (.slice none 0 0) 1 24 Tryz.underlying44 hi1 hz10 hz11 hz12 rfl (by omega) L3 ks3.length _ rfl (HG4.out.bk.ls.row.alloc _) ⟨w4.heap.size, 0, none⟩ 1 1 [.slice p4 (n + 1) k4] rfl rfl (World.news_of_block (heap_alloc_new w4 (.cells #[.slice p4 (n + 1) k4] 31))) (by simp [Value.oneCell']) (by omega) (by unfold maxLen; omega) (by omega) (by have := HN2.out; simp; omega) _ rfl ?_; intro gl cl w5 hown5 hgrow5 hat5 hlt5; have kk5 : Kept (fun i => some i = L3.ownBlock) w4 w5 := (kept_below (S := fun i => some i = L3.ownBlock) ((Below.refl _ _).alloc (Nat.le_refl _) (.cells #[.slice p4 (n + 1) k4] 31))).trans (kept_grown hgrow5) (fun i e => Or.inl e); have HK5 := hide kk5; have HB5 := hide ((kk5.block b (lt_of_block HG4.out.bk.blk) (fun e => owns_ne HG4.out.bk.ls HG4.out.bk.blk (by decide) e.symm)).trans HG4.out.bk.blk); have c50 := bk_cell HB5.out 0 L3 rfl; have cf5 := bk_thaw HB5.out; have HL5 := hide (ownsQ_of (z := false) hown5); have HA5 := hide hat5; clear hown5 hgrow5 hat5 hlt5 kk5)
            have HB6 : Hid ((w5.setCell ⟨b, 0, none⟩ (.slice (some ⟨gl, 0, none⟩) (ks3.length + 1) cl)).heap[b]? = some (.cells (bkCells (.slice (some ⟨gl, 0, none⟩) (ks3.length + 1) cl) M3 A turn done used) 70 (0, 0))) := by show _ = _; rw [block_set HB5.out]; rfl
            have HL6 : Hid (ownsQ false (w5.setCell ⟨b, 0, none⟩ (.slice (some ⟨gl, 0, none⟩) (ks3.length + 1) cl)) N 31 1 (.slice (some ⟨gl, 0, none⟩) (ks3.length + 1) cl) (ks3.length + 1) ((ks3.map fun k => k.val) ++ [.slice p4 (n + 1) k4])) := owns_kept' HL5.out (fun g e => Below.heap_setCell _ _ _ _ (fun e' => owns_ne HL5.out HB5.out (by decide) (by rw [e, e'])))
            have HK6 : Hid (Kept (fun i => i = b ∨ some i = L3.ownBlock ∨ some i = M3.ownBlock) w4 (w5.setCell ⟨b, 0, none⟩ (.slice (some ⟨gl, 0, none⟩) (ks3.length + 1) cl))) := ((Kept.refl _ _).trans HK5.out (fun i e => Or.inl (Or.inr (Or.inl e)))).trans (kept_but ((But.refl b w5).setCell (p := ⟨b, 0, none⟩) (Or.inl rfl) _)) (fun i e => Or.inl (Or.inl e))
            have HM6 : Hid (ownsQ false (w5.setCell ⟨b, 0, none⟩ (.slice (some ⟨gl, 0, none⟩) (ks3.length + 1) cl)) N 3 1 M3 ks3.length (ks3.map fun k => .int .i64 (k.m : Int))) := owns_kept' HG4.out.bk.ms (fun g e => (Below.heap_setCell _ _ _ _ (fun e' => owns_ne HG4.out.bk.ms HG4.out.bk.blk (by decide) (by rw [e, e']))).trans (HK5.out.block g (owns_lt HG4.out.bk.ms g e) (fun e' => rows_far HG4.out.bk.ls HG4.out.bk.ms (by decide) g e'.symm e)))
            generalize w5.setCell ⟨b, 0, none⟩ (.slice (some ⟨gl, 0, none⟩) (ks3.length + 1) cl) = w6 at *
            clear HK5 HB5 HL5 c50 cf5 c0 cf
            have c1 := bk_cell HB6.out 1 M3 rfl
            have cf := bk_thaw HB6.out
            have HN6 : Hid (N ≤ w6.heap.size) := Nat.le_trans HN2.out HK6.out.size
            go_wp2_with (at_builtin; refine wpList_append_lies _ rfl (.tmp 67) (.tmp 69) 51 rfl N 3 i2 (.int .i64 0) 1 8 Tryz.underlying51 hi2 hz20 hz21 hz22 rfl (by omega) M3 ks3.length _ rfl (HM6.out.row.alloc _) ⟨w6.heap.size, 0, none⟩ 1 1 [.int .i64 (m : Int)] rfl rfl (World.news_of_block (heap_alloc_new w6 (.cells #[.int .i64 (m : Int)] 3))) (by simp [Value.oneCell']) (by omega) (by unfold maxLen; omega) (by omega) (by have := HN6.out; simp; omega) _ rfl ?_; intro gm cm w7 hown7 hgrow7 hat7 hlt7; have kk7 : Kept (fun i => some i = M3.ownBlock) w6 w7 := (kept_below (S := fun i => some i = M3.ownBlock) ((Below.refl _ _).alloc (Nat.le_refl _) (.cells #[.int .i64 (m : Int)] 3))).trans (kept_grown hgrow7) (fun i e => Or.inl e); have HK7 := hide kk7; have HB7 := hide ((kk7.block b (lt_of_block HB6.out) (fun e => owns_ne HM6.out HB6.out (by decide) e.symm)).trans HB6.out); have c71 := bk_cell HB7.out 1 M3 rfl; have cf7 := bk_thaw HB7.out; have HM7 := hide (ownsQ_of (z := false) hown7); have HA7 := hide hat7; clear hown7 hgrow7 hat7 hlt7 kk7)
            have HB8 : Hid ((w7.setCell ⟨b, 1, none⟩ (.slice (some ⟨gm, 0, none⟩) (ks3.length + 1) cm)).heap[b]? = some (.cells (bkCells (.slice (some ⟨gl, 0, none⟩) (ks3.length + 1) cl) (.slice (some ⟨gm, 0, none⟩) (ks3.length + 1) cm) A turn done used) 70 (0, 0))) := by show _ = _; rw [block_set HB7.out]; rfl
            have HM8 : Hid (ownsQ false (w7.setCell ⟨b, 1, none⟩ (.slice (some ⟨gm, 0, none⟩) (ks3.length + 1) cm)) N 3 1 (.slice (some ⟨gm, 0, none⟩) (ks3.length + 1) cm) (ks3.length + 1) ((ks3.map fun k => Value.int .i64 (k.m : Int)) ++ [.int .i64 (m : Int)])) := owns_kept' HM7.out (fun g e => Below.heap_setCell _ _ _ _ (fun e' => owns_ne HM7.out HB7.out (by decide) (by rw [e, e'])))
            have HL8 : Hid (ownsQ false (w7.setCell ⟨b, 1, none⟩ (.slice (some ⟨gm, 0, none⟩) (ks3.length + 1) cm)) N 31 1 (.slice (some ⟨gl, 0, none⟩) (ks3.length + 1) cl) (ks3.length + 1) ((ks3.map fun k => k.val) ++ [.slice p4 (n + 1) k4])) := owns_kept' HL6.out (fun g e => (Below.heap_setCell _ _ _ _ (fun e' => owns_ne HL6.out HB6.out (by decide) (by rw [e, e']))).trans (HK7.out.block g (owns_lt HL6.out g e) (fun e' => rows_far HM6.out HL6.out (by decide) g e'.symm e)))
            have HK8 : Hid (Kept (fun i => i = b ∨ some i = L3.ownBlock ∨ some i = M3.ownBlock) w4 (w7.setCell ⟨b, 1, none⟩ (.slice (some ⟨gm, 0, none⟩) (ks3.length + 1) cm))) := (HK6.out.trans HK7.out (fun i e => Or.inl (Or.inr (Or.inr e)))).trans (kept_but ((But.refl b w7).setCell (p := ⟨b, 1, none⟩) (Or.inl rfl) _)) (fun i e => Or.inl (Or.inl e))
            have HP8 := hide (HG4.out.push HC4.out HK8.out HB8.out HL8.out HM8.out ⟨hm9, by omega⟩ (by omega) (by
              rcases HA5.out with h | h
              · exact Or.inl h.symm
              · exact Or.inr ⟨gl, rfl, by simp at h; omega⟩) (by
              rcases HA7.out with h | h
              · exact Or.inl h.symm
              · exact Or.inr ⟨gm, rfl, by have := HK6.out.size; simp at h; omega⟩))
            go_wp2
            go_roundw
            case rel => exact ⟨i + 1, n + 1, _, _, _, _, by omega, by omega, by go_num, rfl, HP8.out.1, HP8.out.2, by have := HNL.out; omega, by simp; omega⟩
            case measure => simp [intOf]; omega
          · have l5 : ¬ (i : Int) < 4 := by omega
            by_cases hi16 : i % 16 = 0
            · have l6 : ((i : Int) % 16 == 0) = true := by simp; omega
              have l7 : (i : Int) % 16 = 0 := by omega
              have c0 := bk_cell HG4.out.bk.blk 0 L3 rfl
              have cf := bk_thaw HG4.out.bk.blk
              have HN2 : Hid (N ≤ w4.heap.size) := Nat.le_trans hN HG4.out.kept.size
              go_upto_region 12 with (at_builtin; refine wpList_append_lies _ rfl (.tmp 57) (.tmp 59) 44 rfl N 31 i1 (.slice none 0 0) 1 24 Tryz.underlying44 hi1 hz10 hz11 hz12 rfl (by omega) L3 ks3.length _ rfl (HG4.out.bk.ls.row.alloc _) ⟨w4.heap.size, 0, none⟩ 1 1 [.slice p4 (n + 1) k4] rfl rfl (World.news_of_block (heap_alloc_new w4 (.cells #[.slice p4 (n + 1) k4] 31))) (by simp [Value.oneCell']) (by omega) (by unfold maxLen; omega) (by omega) (by have := HN2.out; simp; omega) _ rfl ?_; intro gl cl w5 hown5 hgrow5 hat5 hlt5; have kk5 : Kept (fun i => some i = L3.ownBlock) w4 w5 := (kept_below (S := fun i => some i = L3.ownBlock) ((Below.refl _ _).alloc (Nat.le_refl _) (.cells #[.slice p4 (n + 1) k4] 31))).trans (kept_grown hgrow5) (fun i e => Or.inl e); have HK5 := hide kk5; have HB5 := hide ((kk5.block b (lt_of_block HG4.out.bk.blk) (fun e => owns_ne HG4.out.bk.ls HG4.out.bk.blk (by decide) e.symm)).trans HG4.out.bk.blk); have c50 := bk_cell HB5.out 0 L3 rfl; have cf5 := bk_thaw HB5.out; have HL5 := hide (ownsQ_of (z := false) hown5); have HA5 := hide hat5; clear hown5 hgrow5 hat5 hlt5 kk5)
              have HB6 : Hid ((w5.setCell ⟨b, 0, none⟩ (.slice (some ⟨gl, 0, none⟩) (ks3.length + 1) cl)).heap[b]? = some (.cells (bkCells (.slice (some ⟨gl, 0, none⟩) (ks3.length + 1) cl) M3 A turn done used) 70 (0, 0))) := by show _ = _; rw [block_set HB5.out]; rfl
              have HL6 : Hid (ownsQ false (w5.setCell ⟨b, 0, none⟩ (.slice (some ⟨gl, 0, none⟩) (ks3.length + 1) cl)) N 31 1 (.slice (some ⟨gl, 0, none⟩) (ks3.length + 1) cl) (ks3.length + 1) ((ks3.map fun k => k.val) ++ [.slice p4 (n + 1) k4])) := owns_kept' HL5.out (fun g e => Below.heap_setCell _ _ _ _ (fun e' => owns_ne HL5.out HB5.out (by decide) (by rw [e, e'])))
              have HK6 : Hid (Kept (fun i => i = b ∨ some i = L3.ownBlock ∨ some i = M3.ownBlock) w4 (w5.setCell ⟨b, 0, none⟩ (.slice (some ⟨gl, 0, none⟩) (ks3.length + 1) cl))) := ((Kept.refl _ _).trans HK5.out (fun i e => Or.inl (Or.inr (Or.inl e)))).trans (kept_but ((But.refl b w5).setCell (p := ⟨b, 0, none⟩) (Or.inl rfl) _)) (fun i e => Or.inl (Or.inl e))
              have HM6 : Hid (ownsQ false (w5.setCell ⟨b, 0, none⟩ (.slice (some ⟨gl, 0, none⟩) (ks3.length + 1) cl)) N 3 1 M3 ks3.length (ks3.map fun k => .int .i64 (k.m : Int))) := owns_kept' HG4.out.bk.ms (fun g e => (Below.heap_setCell _ _ _ _ (fun e' => owns_ne HG4.out.bk.ms HG4.out.bk.blk (by decide) (by rw [e, e']))).trans (HK5.out.block g (owns_lt HG4.out.bk.ms g e) (fun e' => rows_far HG4.out.bk.ls HG4.out.bk.ms (by decide) g e'.symm e)))
              generalize w5.setCell ⟨b, 0, none⟩ (.slice (some ⟨gl, 0, none⟩) (ks3.length + 1) cl) = w6 at *
              clear HK5 HB5 HL5 c50 cf5 c0 cf
              have c1 := bk_cell HB6.out 1 M3 rfl
              have cf := bk_thaw HB6.out
              have HN6 : Hid (N ≤ w6.heap.size) := Nat.le_trans HN2.out HK6.out.size
              go_wp2_with (at_builtin; refine wpList_append_lies _ rfl (.tmp 67) (.tmp 69) 51 rfl N 3 i2 (.int .i64 0) 1 8 Tryz.underlying51 hi2 hz20 hz21 hz22 rfl (by omega) M3 ks3.length _ rfl (HM6.out.row.alloc _) ⟨w6.heap.size, 0, none⟩ 1 1 [.int .i64 (m : Int)] rfl rfl (World.news_of_block (heap_alloc_new w6 (.cells #[.int .i64 (m : Int)] 3))) (by simp [Value.oneCell']) (by omega) (by unfold maxLen; omega) (by omega) (by have := HN6.out; simp; omega) _ rfl ?_; intro gm cm w7 hown7 hgrow7 hat7 hlt7; have kk7 : Kept (fun i => some i = M3.ownBlock) w6 w7 := (kept_below (S := fun i => some i = M3.ownBlock) ((Below.refl _ _).alloc (Nat.le_refl _) (.cells #[.int .i64 (m : Int)] 3))).trans (kept_grown hgrow7) (fun i e => Or.inl e); have HK7 := hide kk7; have HB7 := hide ((kk7.block b (lt_of_block HB6.out) (fun e => owns_ne HM6.out HB6.out (by decide) e.symm)).trans HB6.out); have c71 := bk_cell HB7.out 1 M3 rfl; have cf7 := bk_thaw HB7.out; have HM7 := hide (ownsQ_of (z := false) hown7); have HA7 := hide hat7; clear hown7 hgrow7 hat7 hlt7 kk7)
              have HB8 : Hid ((w7.setCell ⟨b, 1, none⟩ (.slice (some ⟨gm, 0, none⟩) (ks3.length + 1) cm)).heap[b]? = some (.cells (bkCells (.slice (some ⟨gl, 0, none⟩) (ks3.length + 1) cl) (.slice (some ⟨gm, 0, none⟩) (ks3.length + 1) cm) A turn done used) 70 (0, 0))) := by show _ = _; rw [block_set HB7.out]; rfl
              have HM8 : Hid (ownsQ false (w7.setCell ⟨b, 1, none⟩ (.slice (some ⟨gm, 0, none⟩) (ks3.length + 1) cm)) N 3 1 (.slice (some ⟨gm, 0, none⟩) (ks3.length + 1) cm) (ks3.length + 1) ((ks3.map fun k => Value.int .i64 (k.m : Int)) ++ [.int .i64 (m : Int)])) := owns_kept' HM7.out (fun g e => Below.heap_setCell _ _ _ _ (fun e' => owns_ne HM7.out HB7.out (by decide) (by rw [e, e'])))
              have HL8 : Hid (ownsQ false (w7.setCell ⟨b, 1, none⟩ (.slice (some ⟨gm, 0, none⟩) (ks3.length + 1) cm)) N 31 1 (.slice (some ⟨gl, 0, none⟩) (ks3.length + 1) cl) (ks3.length + 1) ((ks3.map fun k => k.val) ++ [.slice p4 (n + 1) k4])) := owns_kept' HL6.out (fun g e => (Below.heap_setCell _ _ _ _ (fun e' => owns_ne HL6.out HB6.out (by decide) (by rw [e, e']))).trans (HK7.out.block g (owns_lt HL6.out g e) (fun e' => rows_far HM6.out HL6.out (by decide) g e'.symm e)))
              have HK8 : Hid (Kept (fun i => i = b ∨ some i = L3.ownBlock ∨ some i = M3.ownBlock) w4 (w7.setCell ⟨b, 1, none⟩ (.slice (some ⟨gm, 0, none⟩) (ks3.length + 1) cm))) := (HK6.out.trans HK7.out (fun i e => Or.inl (Or.inr (Or.inr e)))).trans (kept_but ((But.refl b w7).setCell (p := ⟨b, 1, none⟩) (Or.inl rfl) _)) (fun i e => Or.inl (Or.inl e))
              have HP8 := hide (HG4.out.push HC4.out HK8.out HB8.out HL8.out HM8.out ⟨hm9, by omega⟩ (by omega) (by
                rcases HA5.out with h | h
                · exact Or.inl h.symm
                · exact Or.inr ⟨gl, rfl, by simp at h; omega⟩) (by
                rcases HA7.out with h | h
                · exact Or.inl h.symm
                · exact Or.inr ⟨gm, rfl, by have := HK6.out.size; simp at h; omega⟩))
              go_wp2
              go_roundw
              case rel => exact ⟨i + 1, n + 1, _, _, _, _, by omega, by omega, by go_num, rfl, HP8.out.1, HP8.out.2, by have := HNL.out; omega, by simp; omega⟩
              case measure => simp [intOf]; omega
            · have l6 : ((i : Int) % 16 == 0) = false := by simp; omega
              have l7 : ¬ (i : Int) % 16 = 0 := by omega
              go_wp2
              go_roundw
              case rel => exact ⟨i + 1, n + 1, _, _, _, _, by omega, by omega, by go_num, rfl, HG4, HC4, by have := HNL.out; omega, by omega⟩
              case measure => simp [intOf]; omega
        · have l4 : ¬ (i : Int) ≤ 96 := by omega
          go_wp2
          go_roundw
          case rel => exact ⟨k + 1, L3, M3, ks3, by omega, by omega, by go_num, HG, by show _ ≤ _; omega⟩
          case measure => simp [intOf]; omega
    · have q0 := bk_cell HG.out.bk.blk 0 L rfl
      have cf := bk_thaw HG.out.bk.blk
      have q2 := bk_cell HG.out.bk.blk 2 (.int .i64 (A : Int)) rfl
      obtain ⟨lp2, lc2, hL2⟩ : ∃ p c, L = .slice p ks2.length c := by
        rcases HG.out.bk.ls.2 with ⟨h1, h2⟩ | ⟨g, cap, cur, h1, _⟩
        · exact ⟨none, 0, by rw [h1, h2]⟩
        · exact ⟨_, cap, h1⟩
      have HG2 : Hid (Gr w L0 M0 ks (wr.setCell ⟨b, 2, none⟩ (.int .i64 (ks2.length : Int))) N b L M ks2.length turn done used ks2) := ⟨HG.out.bk.grownTo ks2.length, HG.out.pre, HG.out.len, HG.out.own, HG.out.lo, HG.out.mo, HG.out.kept.trans (kept_but ((But.refl b wr).setCell (p := ⟨b, 2, none⟩) (Or.inl rfl) _)) (fun i e => Or.inl (Or.inl e))⟩
      have HCf : Hid (ks2.length ≤ ks.length + 96 * (ks.length - A)) := by show _ ≤ _; have := HC.out; omega
      rw [hL2] at q0
      have l1 : ¬ (k : Int) < (ks.length : Int) := by omega
      go_wp2
      go_end0
      exact ⟨rfl, L, M, ks2, HG2.out, HCf.out⟩
end Go.Proofs.YtjcdnclfakmbpaaGreatDoor.Q
namespace Go.Proofs.YtjcdnclfakmbpaaGreatDoor.V
open Go.RowKit Go.Proofs.YtjcdnclfakmbpaaGreatDoor.U Go.Proofs.YtjcdnclfakmbpaaGreatDoor.Q
structure Gr (X : Rv) (w : World) (L0 M0 : Value) (ks : List Kl) (wr : World) (N b : Nat) (L M : Value) (A turn done used : Nat) (ks2 : List Kl) : Prop where
  bk : Bk X wr N b L M A turn done used ks2
  pre : ∀ j, j < ks.length → ks2[j]? = ks[j]?
  len : ks.length ≤ ks2.length
  own : ∀ x ∈ ks2, ∀ g, x.val.ownBlock = some g → (∃ k ∈ ks, k.val.ownBlock = some g) ∨ w.heap.size ≤ g
  lo : L.ownBlock = L0.ownBlock ∨ ∃ g, L.ownBlock = some g ∧ w.heap.size ≤ g
  mo : M.ownBlock = M0.ownBlock ∨ ∃ g, M.ownBlock = some g ∧ w.heap.size ≤ g
  kept : Kept (GS b L0 M0 ks) w wr
section
variable {w wr w' : World} {L0 M0 L M g g' : Value} {ks ks2 : List Kl} {N b A turn done used m n : Nat}
theorem Gr.mark {X : Rv} (h : Gr X w L0 M0 ks wr N b L M A turn done used ks2) (c : Cu w ks wr N m g n ks2) (hrow : ownsQ true w' N 5 1 g' (n + 1) (vals (mks m (n + 1)))) (hat : g'.ownBlock = g.ownBlock ∨ ∃ q, g'.ownBlock = some q ∧ wr.heap.size ≤ q) (k : Kept (fun i => some i = g.ownBlock) wr w')
    (hm : ∀ u k, ownsQ true wr N 5 1 u k (vals (mks m k)) → ownsQ true w' N 5 1 u k (vals (mks m k))) : Gr X w L0 M0 ks w' N b L M A turn done used ks2 ∧ Cu w ks w' N m g' (n + 1) ks2 := by
  have hz := h.kept.size
  refine ⟨⟨⟨(k.block b (lt_of_block h.bk.blk) (fun e => owns_ne c.row h.bk.blk (by decide) e.symm)).trans h.bk.blk, owns_kept' h.bk.ls (fun q e => k.block q (owns_lt h.bk.ls q e) (fun e' => rows_far h.bk.ls c.row (by decide) q e e'.symm)), owns_kept' h.bk.ms (fun q e => k.block q (owns_lt h.bk.ms q e) (fun e' => rows_far h.bk.ms c.row (by decide) q e e'.symm)), fun x hx => ?_, h.bk.num, h.bk.most, h.bk.one⟩, h.pre, h.len, h.own, h.lo, h.mo, h.kept.trans k (fun i e => ?_)⟩, ⟨hrow, fun x hx q e1 e2 => ?_, fun q e => ?_⟩⟩
  · by_cases hxm : x.m = m
    · have := h.bk.rows x hx
      rw [hxm] at this ⊢
      exact hm _ _ this
    · have hr := h.bk.rows x hx
      exact owns_kept' hr (fun q e => k.block q (owns_lt hr q e) (fun e' => hxm (c.one x hx q e e'.symm)))
  · rcases c.own i e.symm with ⟨x, hx, e'⟩ | e'
    · exact Or.inl (Or.inr (Or.inr (Or.inr ⟨x, hx, e'.symm⟩)))
    · exact Or.inr e'
  · rcases hat with e' | ⟨q', e', hq'⟩
    · exact c.one x hx q e1 (by rw [← e', e2])
    · rw [e'] at e2; cases e2
      have := owns_lt (h.bk.rows x hx) _ e1
      omega
  · rcases hat with e' | ⟨q', e', hq'⟩
    · exact c.own q (by rw [← e', e])
    · rw [e'] at e; cases e; exact Or.inr (by omega)
theorem Gr.push {X : Rv} (h : Gr X w L0 M0 ks wr N b L M A turn done used ks2) {p : Option Addr} {cc : Nat} (c : Cu w ks wr N m (.slice p n cc) n ks2) {L' M' : Value} (k : Kept (fun i => i = b ∨ some i = L.ownBlock ∨ some i = M.ownBlock) wr w') (hb : w'.heap[b]? = some (.cells (bkCells X L' M' A turn done used) 70 (0, 0)))
    (hl : ownsQ false w' N 31 1 L' (ks2.length + 1) ((ks2.map fun k => k.val) ++ [.slice p n cc])) (hm : ownsQ false w' N 3 1 M' (ks2.length + 1) ((ks2.map fun k => Value.int .i64 (k.m : Int)) ++ [.int .i64 (m : Int)])) (hn : m ≤ 1000000000 ∧ n ≤ 100000000000) (hc : ks2.length + 1 ≤ 1000000000)
    (ha : L'.ownBlock = L.ownBlock ∨ ∃ q, L'.ownBlock = some q ∧ wr.heap.size ≤ q) (hb' : M'.ownBlock = M.ownBlock ∨ ∃ q, M'.ownBlock = some q ∧ wr.heap.size ≤ q) :
    Gr X w L0 M0 ks w' N b L' M' A turn done used (ks2 ++ [⟨p, n, cc, m⟩]) ∧ Cu w ks w' N m (.slice p n cc) n (ks2 ++ [⟨p, n, cc, m⟩]) := by
  have hz := h.kept.size
  have hbk := h.bk.more (x := ⟨p, n, cc, m⟩) k hb hl hm c.row hn hc (fun y hy q e1 e2 => c.one y hy q e1 e2)
  have hfix : ∀ {X1 Y Z : Value}, (X1.ownBlock = Y.ownBlock ∨ ∃ q, X1.ownBlock = some q ∧ w.heap.size ≤ q) → (Z.ownBlock = X1.ownBlock ∨ ∃ q, Z.ownBlock = some q ∧ wr.heap.size ≤ q) → (Z.ownBlock = Y.ownBlock ∨ ∃ q, Z.ownBlock = some q ∧ w.heap.size ≤ q) := fun h1 h2 => by
    rcases h2 with e | ⟨q, e, hq⟩
    · rw [e]; exact h1
    · exact Or.inr ⟨q, e, by omega⟩
  refine ⟨⟨hbk, fun j hj => ?_, by simp; have := h.len; omega, fun x hx q e => ?_, hfix h.lo ha, hfix h.mo hb', h.kept.trans k (fun i hi => ?_)⟩, ⟨hbk.rows ⟨p, n, cc, m⟩ (by simp), fun x hx q e1 e2 => ?_, c.own⟩⟩
  · rw [List.getElem?_append_left (by have := h.len; omega)]; exact h.pre j hj
  · rcases List.mem_append.1 hx with h' | h'
    · exact h.own x h' q e
    · simp at h'; subst h'; exact c.own q e
  · rcases hi with e | e | e
    · exact Or.inl (Or.inl e)
    · rcases h.lo with e' | ⟨q, e', hq⟩
      · exact Or.inl (Or.inr (Or.inl (by rw [e, e'])))
      · rw [e'] at e; cases e; exact Or.inr hq
    · rcases h.mo with e' | ⟨q, e', hq⟩
      · exact Or.inl (Or.inr (Or.inr (Or.inl (by rw [e, e']))))
      · rw [e'] at e; cases e; exact Or.inr hq
  · rcases List.mem_append.1 hx with h' | h'
    · exact c.one x h' q e1 e2
    · simp at h'; subst h'; rfl
end
theorem Bk.grownTo {X : Rv} {w : World} {N b : Nat} {L M : Value} {A turn done used : Nat} {ks : List Kl} (h : Bk X w N b L M A turn done used ks) (t : Nat) : Bk X (w.setCell ⟨b, 2, none⟩ (.int .i64 (t : Int))) N b L M t turn done used ks := by
  have hs : ∀ j, j ≠ b → (w.setCell ⟨b, 2, none⟩ (.int .i64 (t : Int))).heap[j]? = w.heap[j]? := fun j hj => Below.heap_setCell _ _ _ _ hj
  have hr : ∀ {z0 : Bool} {B0 n : Nat} {ty : TypeId} {v : Value} {xs : List Value}, ownsQ z0 w B0 ty 1 v n xs → 70 ≠ ty → ∀ g, v.ownBlock = some g → (w.setCell ⟨b, 2, none⟩ (.int .i64 (t : Int))).heap[g]? = w.heap[g]? := fun hv ht g e => hs g (fun e' => owns_ne hv h.blk ht (by rw [e, e']))
  exact ⟨by rw [block_set h.blk]; rfl, owns_kept' h.ls (hr h.ls (by decide)), owns_kept' h.ms (hr h.ms (by decide)), fun x hx => owns_kept' (h.rows x hx) (hr (h.rows x hx) (by decide)), h.num, h.most, h.one⟩
set_option maxRecDepth 100000 in
set_option maxHeartbeats 4000000 in
theorem bk_growBytes {X : Rv} (w : World) (N b : Nat) (L0 M0 : Value) (A turn done used : Nat) (ks : List Kl) (h : Bk X w N b L0 M0 A turn done used ks) (hN : N ≤ w.heap.size) (hA : A ≤ ks.length) (hks : ks.length ≤ 4000000) (hl : ∀ j x, A ≤ j → ks[j]? = some x → x.l ≤ 99999999000) :
    Calls Tryz.prog 71 #[.pointer (some ⟨b, 0, none⟩)] w fun e w' => e = .returned (.tuple #[]) ∧ ∃ L M ks2, Gr X w L0 M0 ks w' N b L M ks2.length turn done used ks2 ∧ ks2.length ≤ ks.length + 96 * (ks.length - A) := by
  obtain ⟨i1, hi1, hz10, hz11, hz12⟩ := info_parts Tryz.infoBy
  obtain ⟨i2, hi2, hz20, hz21, hz22⟩ := info_parts Tryz.infoIn
  have HLs := hide hl
  have q0 := bk_cell h.blk 0 L0 rfl
  have q2 := bk_cell h.blk 2 (.int .i64 (A : Int)) rfl
  have HG0 : Hid (Gr X w L0 M0 ks w N b L0 M0 A turn done used ks) := ⟨h, fun _ _ => rfl, Nat.le_refl _, fun x hx g e => Or.inl ⟨x, hx, e⟩, Or.inl rfl, Or.inl rfl, Kept.refl _ _⟩
  obtain ⟨lp, lc, hL0⟩ : ∃ p c, L0 = .slice p ks.length c := by
    rcases h.ls.2 with ⟨h1, h2⟩ | ⟨g, cap, cur, h1, _⟩
    · exact ⟨none, 0, by rw [h1, h2]⟩
    · exact ⟨_, cap, h1⟩
  rw [hL0] at q0
  clear h hl hL0
  go_enter Tryz.func71, Tryz.ntmps71
  go_wp2
  clear q0 q2
  go_loopw [3] (fun i wr => ∃ (k : Nat) (L M : Value) (ks2 : List Kl), A ≤ k ∧ k ≤ ks.length ∧ i = .int .i64 k ∧ Hid (Gr X w L0 M0 ks wr N b L M A turn done used ks2) ∧ Hid (ks2.length ≤ ks.length + 96 * (k - A))) (fun i _ => ks.length - (intOf i).toNat)
  case atStart => exact ⟨A, L0, M0, ks, Nat.le_refl _, hA, rfl, HG0, by show _ ≤ _; omega⟩
  case round =>
    clear HG0
    obtain ⟨k, L, M, ks2, hkA, hk, rfl, HG, HC⟩ := hrel
    by_cases hlt : k < ks.length
    · have hop : ks[k]? = some (ks[k]'hlt) := List.getElem?_eq_getElem _
      have hop2 : ks2[k]? = some (ks[k]'hlt) := (HG.out.pre k hlt).trans hop
      have hx9 := HLs.out k _ hkA hop
      have hmem := hide (List.mem_of_getElem? hop2)
      obtain ⟨gl, cl, hgl, cl0⟩ := row_cell HG.out.bk.ls (k := k) (a := (ks[k]'hlt).val) (by simp [hop2])
      obtain ⟨gm, cm, hgm, cm0⟩ := row_cell HG.out.bk.ms (k := k) (a := .int .i64 ((ks[k]'hlt).m : Int)) (by simp [hop2])
      have q0 := bk_cell HG.out.bk.blk 0 L rfl
      have q1 := bk_cell HG.out.bk.blk 1 M rfl
      have HCu : Hid (Cu w ks wr N (ks[k]'hlt).m (ks[k]'hlt).val (ks[k]'hlt).l ks2) := ⟨HG.out.bk.rows _ hmem.out, fun x hx q e1 e2 => HG.out.bk.one x hx _ hmem.out q e1 e2, HG.out.own _ hmem.out⟩
      obtain ⟨hm9, _⟩ := HG.out.bk.num _ hmem.out
      generalize ks[k]'hlt = xk at *
      obtain ⟨p, l, c, m⟩ := xk
      simp only [Kl.val] at cl0 cm0 HCu hm9 hx9
      rw [hgl] at q0
      rw [hgm] at q1
      have HGL := hide hgl
      have HGM := hide hgm
      have hl2 := HG.out.len
      have hcnt := HC.out
      clear hop hop2 hmem hgl hgm
      have l1 : (k : Int) < (ks2.length : Int) := by omega
      have l2 : (0 : Int) ≤ (k : Int) := by omega
      have l3 : (k : Int) < (ks.length : Int) := by omega
      go_wp2
      clear q0 q1 cl0 cm0 l1
      go_loopw [4, 6] (fun gv i wr => ∃ (i' n : Nat) (v L M : Value) (ks3 : List Kl), 1 ≤ i' ∧ i' ≤ 97 ∧ i = .int .i64 i' ∧ gv = v ∧ Hid (Gr X w L0 M0 ks wr N b L M A turn done used ks3) ∧ Hid (Cu w ks wr N m v n ks3) ∧ n + 1 = l + i' ∧ ks3.length + 1 ≤ ks2.length + i') (fun _ i _ => 97 - (intOf i).toNat)
      case atStart => exact ⟨1, l, _, L, M, ks2, by omega, by omega, rfl, rfl, HG, HCu, rfl, Nat.le_refl _⟩
      case round =>
        clear HG HCu HGL HGM
        obtain ⟨i, n, v, L3, M3, ks3, hi1', hi97, rfl, rfl, HG, HCu, hnl, hcn⟩ := hrel
        have HNL := hide hnl
        have hn9 : n + 1 ≤ 99999999097 := by omega
        clear hnl
        by_cases hi96 : i < 97
        · obtain ⟨p3, c3, hv3⟩ : ∃ p c, u4 = .slice p n c := by
            rcases HCu.out.row.2 with ⟨h1, h2⟩ | ⟨g, cap, cur, h1, _⟩
            · exact ⟨none, 0, by rw [h1, h2]⟩
            · exact ⟨_, cap, h1⟩
          subst hv3
          have HA := hide (fun w => at_mark w m n hm9 (by omega))
          have HNr : Hid (N ≤ wr.heap.size) := Nat.le_trans hN HG.out.kept.size
          have l4 : (i : Int) ≤ 96 := by omega
          go_wp2_with fail
          refine (HA.out _).mono ?_
          rintro e wx ⟨rfl, rfl⟩
          have HB0 : Hid ((wx.alloc (.cells #[.int .u8 (mkB m n : Nat)] 5)).cell? ⟨wx.heap.size, 0, none⟩ = some (.int .u8 (mkB m n : Nat))) := by
            have := heap_alloc_new wx (.cells #[.int .u8 (mkB m n : Nat)] 5 (0, 0))
            show _ = _
            simp only [World.cell?, this]
            rfl
          go_upto_region 10 with (at_builtin; refine wpList_append_mark rfl (.tmp 39) (.tmp 44) rfl N m n (.slice p3 n c3) rfl (HCu.out.row.alloc _) wx.heap.size rfl HB0.out (by omega) (by have := HNr.out; simp; omega) ?_; intro v4 w4 r1 r2 r3 r4; have hp4 := HG.out.mark HCu.out r1 (by rcases r2 with e | ⟨q, e, hq⟩; exact Or.inl e; exact Or.inr ⟨q, e, by simp at hq; omega⟩) ((kept_below (S := fun i => some i = (Value.slice p3 n c3).ownBlock) ((Below.refl _ _).alloc (Nat.le_refl _) (.cells #[.int .u8 (mkB m n : Nat)] 5))).trans r3 (fun i e => Or.inl e)) (fun u k hu => r4 u k (hu.alloc _)); have HG4 := hide hp4.1; have HC4 := hide hp4.2; clear r1 r2 r3 r4 hp4)
          obtain ⟨p4, k4, hv4⟩ : ∃ p c, v4 = .slice p (n + 1) c := by
            rcases HC4.out.row.2 with ⟨h1, h2⟩ | ⟨g, cap, cur, h1, _⟩
            · omega
            · exact ⟨_, cap, h1⟩
          subst hv4
          clear HG HCu HA HB0 HNr
          by_cases hi4 : i < 4
          · have l5 : (i : Int) < 4 := by omega
            have c0 := bk_cell HG4.out.bk.blk 0 L3 rfl
            have cf := bk_thaw HG4.out.bk.blk
            have HN2 : Hid (N ≤ w4.heap.size) := Nat.le_trans hN HG4.out.kept.size
            go_upto_region 12 with (at_builtin; refine wpList_append_lies _ rfl (.tmp 57) (.tmp 59) 44 rfl N 31 i1 (.slice none 0 0) 1 24 Tryz.underlying44 hi1 hz10 hz11 hz12 rfl (by omega) L3 ks3.length _ rfl (HG4.out.bk.ls.row.alloc _) ⟨w4.heap.size, 0, none⟩ 1 1 [.slice p4 (n + 1) k4] rfl rfl (World.news_of_block (heap_alloc_new w4 (.cells #[.slice p4 (n + 1) k4] 31))) (by simp [Value.oneCell']) (by omega) (by unfold maxLen; omega) (by omega) (by have := HN2.out; simp; omega) _ rfl ?_; intro gl cl w5 hown5 hgrow5 hat5 hlt5; have kk5 : Kept (fun i => some i = L3.ownBlock) w4 w5 := (kept_below (S := fun i => some i = L3.ownBlock) ((Below.refl _ _).alloc (Nat.le_refl _) (.cells #[.slice p4 (n + 1) k4] 31))).trans (kept_grown hgrow5) (fun i e => Or.inl e); have HK5 := hide kk5; have HB5 := hide ((kk5.block b (lt_of_block HG4.out.bk.blk) (fun e => owns_ne HG4.out.bk.ls HG4.out.bk.blk (by decide) e.symm)).trans HG4.out.bk.blk); have c50 := bk_cell HB5.out 0 L3 rfl; have cf5 := bk_thaw HB5.out; have HL5 := hide (ownsQ_of (z := false) hown5); have HA5 := hide hat5; clear hown5 hgrow5 hat5 hlt5 kk5)
            have HB6 : Hid ((w5.setCell ⟨b, 0, none⟩ (.slice (some ⟨gl, 0, none⟩) (ks3.length + 1) cl)).heap[b]? = some (.cells (bkCells X (.slice (some ⟨gl, 0, none⟩) (ks3.length + 1) cl) M3 A turn done used) 70 (0, 0))) := by show _ = _; rw [block_set HB5.out]; rfl
            have HL6 : Hid (ownsQ false (w5.setCell ⟨b, 0, none⟩ (.slice (some ⟨gl, 0, none⟩) (ks3.length + 1) cl)) N 31 1 (.slice (some ⟨gl, 0, none⟩) (ks3.length + 1) cl) (ks3.length + 1) ((ks3.map fun k => k.val) ++ [.slice p4 (n + 1) k4])) := owns_kept' HL5.out (fun g e => Below.heap_setCell _ _ _ _ (fun e' => owns_ne HL5.out HB5.out (by decide) (by rw [e, e'])))
            have HK6 : Hid (Kept (fun i => i = b ∨ some i = L3.ownBlock ∨ some i = M3.ownBlock) w4 (w5.setCell ⟨b, 0, none⟩ (.slice (some ⟨gl, 0, none⟩) (ks3.length + 1) cl))) := ((Kept.refl _ _).trans HK5.out (fun i e => Or.inl (Or.inr (Or.inl e)))).trans (kept_but ((But.refl b w5).setCell (p := ⟨b, 0, none⟩) (Or.inl rfl) _)) (fun i e => Or.inl (Or.inl e))
            have HM6 : Hid (ownsQ false (w5.setCell ⟨b, 0, none⟩ (.slice (some ⟨gl, 0, none⟩) (ks3.length + 1) cl)) N 3 1 M3 ks3.length (ks3.map fun k => .int .i64 (k.m : Int))) := owns_kept' HG4.out.bk.ms (fun g e => (Below.heap_setCell _ _ _ _ (fun e' => owns_ne HG4.out.bk.ms HG4.out.bk.blk (by decide) (by rw [e, e']))).trans (HK5.out.block g (owns_lt HG4.out.bk.ms g e) (fun e' => rows_far HG4.out.bk.ls HG4.out.bk.ms (by decide) g e'.symm e)))
            generalize w5.setCell ⟨b, 0, none⟩ (.slice (some ⟨gl, 0, none⟩) (ks3.length + 1) cl) = w6 at *
            clear HK5 HB5 HL5 c50 cf5 c0 cf
            have c1 := bk_cell HB6.out 1 M3 rfl
            have cf := bk_thaw HB6.out
            have HN6 : Hid (N ≤ w6.heap.size) := Nat.le_trans HN2.out HK6.out.size
            go_wp2_with (at_builtin; refine wpList_append_lies _ rfl (.tmp 67) (.tmp 69) 51 rfl N 3 i2 (.int .i64 0) 1 8 Tryz.underlying51 hi2 hz20 hz21 hz22 rfl (by omega) M3 ks3.length _ rfl (HM6.out.row.alloc _) ⟨w6.heap.size, 0, none⟩ 1 1 [.int .i64 (m : Int)] rfl rfl (World.news_of_block (heap_alloc_new w6 (.cells #[.int .i64 (m : Int)] 3))) (by simp [Value.oneCell']) (by omega) (by unfold maxLen; omega) (by omega) (by have := HN6.out; simp; omega) _ rfl ?_; intro gm cm w7 hown7 hgrow7 hat7 hlt7; have kk7 : Kept (fun i => some i = M3.ownBlock) w6 w7 := (kept_below (S := fun i => some i = M3.ownBlock) ((Below.refl _ _).alloc (Nat.le_refl _) (.cells #[.int .i64 (m : Int)] 3))).trans (kept_grown hgrow7) (fun i e => Or.inl e); have HK7 := hide kk7; have HB7 := hide ((kk7.block b (lt_of_block HB6.out) (fun e => owns_ne HM6.out HB6.out (by decide) e.symm)).trans HB6.out); have c71 := bk_cell HB7.out 1 M3 rfl; have cf7 := bk_thaw HB7.out; have HM7 := hide (ownsQ_of (z := false) hown7); have HA7 := hide hat7; clear hown7 hgrow7 hat7 hlt7 kk7)
            have HB8 : Hid ((w7.setCell ⟨b, 1, none⟩ (.slice (some ⟨gm, 0, none⟩) (ks3.length + 1) cm)).heap[b]? = some (.cells (bkCells X (.slice (some ⟨gl, 0, none⟩) (ks3.length + 1) cl) (.slice (some ⟨gm, 0, none⟩) (ks3.length + 1) cm) A turn done used) 70 (0, 0))) := by show _ = _; rw [block_set HB7.out]; rfl
            have HM8 : Hid (ownsQ false (w7.setCell ⟨b, 1, none⟩ (.slice (some ⟨gm, 0, none⟩) (ks3.length + 1) cm)) N 3 1 (.slice (some ⟨gm, 0, none⟩) (ks3.length + 1) cm) (ks3.length + 1) ((ks3.map fun k => Value.int .i64 (k.m : Int)) ++ [.int .i64 (m : Int)])) := owns_kept' HM7.out (fun g e => Below.heap_setCell _ _ _ _ (fun e' => owns_ne HM7.out HB7.out (by decide) (by rw [e, e'])))
            have HL8 : Hid (ownsQ false (w7.setCell ⟨b, 1, none⟩ (.slice (some ⟨gm, 0, none⟩) (ks3.length + 1) cm)) N 31 1 (.slice (some ⟨gl, 0, none⟩) (ks3.length + 1) cl) (ks3.length + 1) ((ks3.map fun k => k.val) ++ [.slice p4 (n + 1) k4])) := owns_kept' HL6.out (fun g e => (Below.heap_setCell _ _ _ _ (fun e' => owns_ne HL6.out HB6.out (by decide) (by rw [e, e']))).trans (HK7.out.block g (owns_lt HL6.out g e) (fun e' => rows_far HM6.out HL6.out (by decide) g e'.symm e)))
            have HK8 : Hid (Kept (fun i => i = b ∨ some i = L3.ownBlock ∨ some i = M3.ownBlock) w4 (w7.setCell ⟨b, 1, none⟩ (.slice (some ⟨gm, 0, none⟩) (ks3.length + 1) cm))) := (HK6.out.trans HK7.out (fun i e => Or.inl (Or.inr (Or.inr e)))).trans (kept_but ((But.refl b w7).setCell (p := ⟨b, 1, none⟩) (Or.inl rfl) _)) (fun i e => Or.inl (Or.inl e))
            have HP8 := hide (HG4.out.push HC4.out HK8.out HB8.out HL8.out HM8.out ⟨hm9, by omega⟩ (by omega) (by
              rcases HA5.out with h | h
              · exact Or.inl h.symm
              · exact Or.inr ⟨gl, rfl, by simp at h; omega⟩) (by
              rcases HA7.out with h | h
              · exact Or.inl h.symm
              · exact Or.inr ⟨gm, rfl, by have := HK6.out.size; simp at h; omega⟩))
            go_wp2
            go_roundw
            case rel => exact ⟨i + 1, n + 1, _, _, _, _, by omega, by omega, by go_num, rfl, HP8.out.1, HP8.out.2, by have := HNL.out; omega, by simp; omega⟩
            case measure => simp [intOf]; omega
          · have l5 : ¬ (i : Int) < 4 := by omega
            by_cases hi16 : i % 16 = 0
            · have l6 : ((i : Int) % 16 == 0) = true := by simp; omega
              have l7 : (i : Int) % 16 = 0 := by omega
              have c0 := bk_cell HG4.out.bk.blk 0 L3 rfl
              have cf := bk_thaw HG4.out.bk.blk
              have HN2 : Hid (N ≤ w4.heap.size) := Nat.le_trans hN HG4.out.kept.size
              go_upto_region 12 with (at_builtin; refine wpList_append_lies _ rfl (.tmp 57) (.tmp 59) 44 rfl N 31 i1 (.slice none 0 0) 1 24 Tryz.underlying44 hi1 hz10 hz11 hz12 rfl (by omega) L3 ks3.length _ rfl (HG4.out.bk.ls.row.alloc _) ⟨w4.heap.size, 0, none⟩ 1 1 [.slice p4 (n + 1) k4] rfl rfl (World.news_of_block (heap_alloc_new w4 (.cells #[.slice p4 (n + 1) k4] 31))) (by simp [Value.oneCell']) (by omega) (by unfold maxLen; omega) (by omega) (by have := HN2.out; simp; omega) _ rfl ?_; intro gl cl w5 hown5 hgrow5 hat5 hlt5; have kk5 : Kept (fun i => some i = L3.ownBlock) w4 w5 := (kept_below (S := fun i => some i = L3.ownBlock) ((Below.refl _ _).alloc (Nat.le_refl _) (.cells #[.slice p4 (n + 1) k4] 31))).trans (kept_grown hgrow5) (fun i e => Or.inl e); have HK5 := hide kk5; have HB5 := hide ((kk5.block b (lt_of_block HG4.out.bk.blk) (fun e => owns_ne HG4.out.bk.ls HG4.out.bk.blk (by decide) e.symm)).trans HG4.out.bk.blk); have c50 := bk_cell HB5.out 0 L3 rfl; have cf5 := bk_thaw HB5.out; have HL5 := hide (ownsQ_of (z := false) hown5); have HA5 := hide hat5; clear hown5 hgrow5 hat5 hlt5 kk5)
              have HB6 : Hid ((w5.setCell ⟨b, 0, none⟩ (.slice (some ⟨gl, 0, none⟩) (ks3.length + 1) cl)).heap[b]? = some (.cells (bkCells X (.slice (some ⟨gl, 0, none⟩) (ks3.length + 1) cl) M3 A turn done used) 70 (0, 0))) := by show _ = _; rw [block_set HB5.out]; rfl
              have HL6 : Hid (ownsQ false (w5.setCell ⟨b, 0, none⟩ (.slice (some ⟨gl, 0, none⟩) (ks3.length + 1) cl)) N 31 1 (.slice (some ⟨gl, 0, none⟩) (ks3.length + 1) cl) (ks3.length + 1) ((ks3.map fun k => k.val) ++ [.slice p4 (n + 1) k4])) := owns_kept' HL5.out (fun g e => Below.heap_setCell _ _ _ _ (fun e' => owns_ne HL5.out HB5.out (by decide) (by rw [e, e'])))
              have HK6 : Hid (Kept (fun i => i = b ∨ some i = L3.ownBlock ∨ some i = M3.ownBlock) w4 (w5.setCell ⟨b, 0, none⟩ (.slice (some ⟨gl, 0, none⟩) (ks3.length + 1) cl))) := ((Kept.refl _ _).trans HK5.out (fun i e => Or.inl (Or.inr (Or.inl e)))).trans (kept_but ((But.refl b w5).setCell (p := ⟨b, 0, none⟩) (Or.inl rfl) _)) (fun i e => Or.inl (Or.inl e))
              have HM6 : Hid (ownsQ false (w5.setCell ⟨b, 0, none⟩ (.slice (some ⟨gl, 0, none⟩) (ks3.length + 1) cl)) N 3 1 M3 ks3.length (ks3.map fun k => .int .i64 (k.m : Int))) := owns_kept' HG4.out.bk.ms (fun g e => (Below.heap_setCell _ _ _ _ (fun e' => owns_ne HG4.out.bk.ms HG4.out.bk.blk (by decide) (by rw [e, e']))).trans (HK5.out.block g (owns_lt HG4.out.bk.ms g e) (fun e' => rows_far HG4.out.bk.ls HG4.out.bk.ms (by decide) g e'.symm e)))
              generalize w5.setCell ⟨b, 0, none⟩ (.slice (some ⟨gl, 0, none⟩) (ks3.length + 1) cl) = w6 at *
              clear HK5 HB5 HL5 c50 cf5 c0 cf
              have c1 := bk_cell HB6.out 1 M3 rfl
              have cf := bk_thaw HB6.out
              have HN6 : Hid (N ≤ w6.heap.size) := Nat.le_trans HN2.out HK6.out.size
              go_wp2_with (at_builtin; refine wpList_append_lies _ rfl (.tmp 67) (.tmp 69) 51 rfl N 3 i2 (.int .i64 0) 1 8 Tryz.underlying51 hi2 hz20 hz21 hz22 rfl (by omega) M3 ks3.length _ rfl (HM6.out.row.alloc _) ⟨w6.heap.size, 0, none⟩ 1 1 [.int .i64 (m : Int)] rfl rfl (World.news_of_block (heap_alloc_new w6 (.cells #[.int .i64 (m : Int)] 3))) (by simp [Value.oneCell']) (by omega) (by unfold maxLen; omega) (by omega) (by have := HN6.out; simp; omega) _ rfl ?_; intro gm cm w7 hown7 hgrow7 hat7 hlt7; have kk7 : Kept (fun i => some i = M3.ownBlock) w6 w7 := (kept_below (S := fun i => some i = M3.ownBlock) ((Below.refl _ _).alloc (Nat.le_refl _) (.cells #[.int .i64 (m : Int)] 3))).trans (kept_grown hgrow7) (fun i e => Or.inl e); have HK7 := hide kk7; have HB7 := hide ((kk7.block b (lt_of_block HB6.out) (fun e => owns_ne HM6.out HB6.out (by decide) e.symm)).trans HB6.out); have c71 := bk_cell HB7.out 1 M3 rfl; have cf7 := bk_thaw HB7.out; have HM7 := hide (ownsQ_of (z := false) hown7); have HA7 := hide hat7; clear hown7 hgrow7 hat7 hlt7 kk7)
              have HB8 : Hid ((w7.setCell ⟨b, 1, none⟩ (.slice (some ⟨gm, 0, none⟩) (ks3.length + 1) cm)).heap[b]? = some (.cells (bkCells X (.slice (some ⟨gl, 0, none⟩) (ks3.length + 1) cl) (.slice (some ⟨gm, 0, none⟩) (ks3.length + 1) cm) A turn done used) 70 (0, 0))) := by show _ = _; rw [block_set HB7.out]; rfl
              have HM8 : Hid (ownsQ false (w7.setCell ⟨b, 1, none⟩ (.slice (some ⟨gm, 0, none⟩) (ks3.length + 1) cm)) N 3 1 (.slice (some ⟨gm, 0, none⟩) (ks3.length + 1) cm) (ks3.length + 1) ((ks3.map fun k => Value.int .i64 (k.m : Int)) ++ [.int .i64 (m : Int)])) := owns_kept' HM7.out (fun g e => Below.heap_setCell _ _ _ _ (fun e' => owns_ne HM7.out HB7.out (by decide) (by rw [e, e'])))
              have HL8 : Hid (ownsQ false (w7.setCell ⟨b, 1, none⟩ (.slice (some ⟨gm, 0, none⟩) (ks3.length + 1) cm)) N 31 1 (.slice (some ⟨gl, 0, none⟩) (ks3.length + 1) cl) (ks3.length + 1) ((ks3.map fun k => k.val) ++ [.slice p4 (n + 1) k4])) := owns_kept' HL6.out (fun g e => (Below.heap_setCell _ _ _ _ (fun e' => owns_ne HL6.out HB6.out (by decide) (by rw [e, e']))).trans (HK7.out.block g (owns_lt HL6.out g e) (fun e' => rows_far HM6.out HL6.out (by decide) g e'.symm e)))
              have HK8 : Hid (Kept (fun i => i = b ∨ some i = L3.ownBlock ∨ some i = M3.ownBlock) w4 (w7.setCell ⟨b, 1, none⟩ (.slice (some ⟨gm, 0, none⟩) (ks3.length + 1) cm))) := (HK6.out.trans HK7.out (fun i e => Or.inl (Or.inr (Or.inr e)))).trans (kept_but ((But.refl b w7).setCell (p := ⟨b, 1, none⟩) (Or.inl rfl) _)) (fun i e => Or.inl (Or.inl e))
              have HP8 := hide (HG4.out.push HC4.out HK8.out HB8.out HL8.out HM8.out ⟨hm9, by omega⟩ (by omega) (by
                rcases HA5.out with h | h
                · exact Or.inl h.symm
                · exact Or.inr ⟨gl, rfl, by simp at h; omega⟩) (by
                rcases HA7.out with h | h
                · exact Or.inl h.symm
                · exact Or.inr ⟨gm, rfl, by have := HK6.out.size; simp at h; omega⟩))
              go_wp2
              go_roundw
              case rel => exact ⟨i + 1, n + 1, _, _, _, _, by omega, by omega, by go_num, rfl, HP8.out.1, HP8.out.2, by have := HNL.out; omega, by simp; omega⟩
              case measure => simp [intOf]; omega
            · have l6 : ((i : Int) % 16 == 0) = false := by simp; omega
              have l7 : ¬ (i : Int) % 16 = 0 := by omega
              go_wp2
              go_roundw
              case rel => exact ⟨i + 1, n + 1, _, _, _, _, by omega, by omega, by go_num, rfl, HG4, HC4, by have := HNL.out; omega, by omega⟩
              case measure => simp [intOf]; omega
        · have l4 : ¬ (i : Int) ≤ 96 := by omega
          go_wp2
          go_roundw
          case rel => exact ⟨k + 1, L3, M3, ks3, by omega, by omega, by go_num, HG, by show _ ≤ _; omega⟩
          case measure => simp [intOf]; omega
    · have q0 := bk_cell HG.out.bk.blk 0 L rfl
      have cf := bk_thaw HG.out.bk.blk
      have q2 := bk_cell HG.out.bk.blk 2 (.int .i64 (A : Int)) rfl
      obtain ⟨lp2, lc2, hL2⟩ : ∃ p c, L = .slice p ks2.length c := by
        rcases HG.out.bk.ls.2 with ⟨h1, h2⟩ | ⟨g, cap, cur, h1, _⟩
        · exact ⟨none, 0, by rw [h1, h2]⟩
        · exact ⟨_, cap, h1⟩
      have HG2 : Hid (Gr X w L0 M0 ks (wr.setCell ⟨b, 2, none⟩ (.int .i64 (ks2.length : Int))) N b L M ks2.length turn done used ks2) := ⟨HG.out.bk.grownTo ks2.length, HG.out.pre, HG.out.len, HG.out.own, HG.out.lo, HG.out.mo, HG.out.kept.trans (kept_but ((But.refl b wr).setCell (p := ⟨b, 2, none⟩) (Or.inl rfl) _)) (fun i e => Or.inl (Or.inl e))⟩
      have HCf : Hid (ks2.length ≤ ks.length + 96 * (ks.length - A)) := by show _ ≤ _; have := HC.out; omega
      rw [hL2] at q0
      have l1 : ¬ (k : Int) < (ks.length : Int) := by omega
      go_wp2
      go_end0
      exact ⟨rfl, L, M, ks2, HG2.out, HCf.out⟩
end Go.Proofs.YtjcdnclfakmbpaaGreatDoor.V
namespace Go.Proofs.YtjcdnclfakmbpaaGreatDoor.V
open Go.RowKit Go.Proofs.YtjcdnclfakmbpaaGreatDoor.U Go.Proofs.YtjcdnclfakmbpaaGreatDoor.Q
def Mrk (w : World) (F : Nat → Prop) (m : Nat) (v : Value) : Prop := ∃ g, v = .slice (some ⟨g, 0, none⟩) 2 2 ∧ F g ∧ w.heap[g]? = some (.cells #[.int .u8 (mkB m 0 : Nat), .int .u8 (mkB m 1 : Nat)] 5 (0, 0))
theorem Mrk.one {w : World} {F : Nat → Prop} {m : Nat} {v : Value} (h : Mrk w F m v) : v.oneCell' = true := by
  obtain ⟨g, rfl, _⟩ := h; rfl
theorem Mrk.keep {w w' : World} {F F' : Nat → Prop} {m : Nat} {v : Value} (h : Mrk w F m v) (hk : ∀ g cur, F g → w.heap[g]? = some (.cells cur 5 (0, 0)) → w'.heap[g]? = w.heap[g]?) (hF : ∀ g, F g → F' g) : Mrk w' F' m v := by
  obtain ⟨g, e, hf, hb⟩ := h
  exact ⟨g, e, hF g hf, (hk g _ hf hb).trans hb⟩
def Rwm (w : World) (N : Nat) (F : Nat → Prop) (m : Nat) (v : Value) (n : Nat) : Prop := ∃ vs, ownsQ false w N 31 1 v n vs ∧ ∀ u ∈ vs, Mrk w F m u
theorem Rwm.lt {w : World} {N : Nat} {F : Nat → Prop} {m : Nat} {v : Value} {n : Nat} (h : Rwm w N F m v n) (g : Nat) (e : v.ownBlock = some g) : g < w.heap.size := by
  obtain ⟨vs, h1, _⟩ := h
  exact owns_lt h1 g e
theorem Rwm.keep {w w' : World} {N : Nat} {F F' : Nat → Prop} {m : Nat} {v : Value} {n : Nat} (h : Rwm w N F m v n) (hv : ∀ g, v.ownBlock = some g → w'.heap[g]? = w.heap[g]?) (hk : ∀ g cur, F g → w.heap[g]? = some (.cells cur 5 (0, 0)) → w'.heap[g]? = w.heap[g]?) (hF : ∀ g, F g → F' g) : Rwm w' N F' m v n := by
  obtain ⟨vs, h1, h2⟩ := h
  exact ⟨vs, owns_kept' h1 hv, fun u hu => (h2 u hu).keep hk hF⟩
theorem Rwm.form {w : World} {N : Nat} {F : Nat → Prop} {m : Nat} {v : Value} {n : Nat} (h : Rwm w N F m v n) : ∃ p c, v = .slice p n c := by
  obtain ⟨vs, h1, _⟩ := h
  exact Q.owns_form h1
structure Rz (w : World) (N : Nat) (F : Nat → Prop) (X : Rv) (rs : List Kl) : Prop where
  ls : ownsQ false w N 44 1 X.r rs.length (rs.map fun k => k.val)
  ms : ownsQ false w N 3 1 X.o rs.length (rs.map fun k => .int .i64 (k.m : Int))
  rows : ∀ k ∈ rs, Rwm w N F k.m k.val k.l
  num : ∀ k ∈ rs, k.m ≤ 1000000000 ∧ k.l ≤ 100000000000
  most : rs.length ≤ 1000000000
  one : ∀ k ∈ rs, ∀ k' ∈ rs, ∀ g, k.val.ownBlock = some g → k'.val.ownBlock = some g → k.m = k'.m
theorem Rz.keep {w w' : World} {N : Nat} {F : Nat → Prop} {X : Rv} {rs : List Kl} {S : Nat → Prop} (h : Rz w N F X rs) (k : Kept S w w') (h1 : ∀ g, X.r.ownBlock = some g → ¬ S g) (h2 : ∀ g, X.o.ownBlock = some g → ¬ S g) (h3 : ∀ x ∈ rs, ∀ g, x.val.ownBlock = some g → ¬ S g) (h4 : ∀ g cur, F g → w.heap[g]? = some (.cells cur 5 (0, 0)) → ¬ S g) : Rz w' N F X rs :=
  ⟨owns_kept' h.ls (fun g e => k.block g (owns_lt h.ls g e) (h1 g e)), owns_kept' h.ms (fun g e => k.block g (owns_lt h.ms g e) (h2 g e)), fun x hx => (h.rows x hx).keep (fun g e => k.block g ((h.rows x hx).lt g e) (h3 x hx g e)) (fun g cur hf hb => k.block g (lt_of_block hb) (h4 g cur hf hb)) (fun _ e => e), h.num, h.most, h.one⟩
theorem Rz.wide {w : World} {N : Nat} {F F' : Nat → Prop} {X : Rv} {rs : List Kl} (h : Rz w N F X rs) (hF : ∀ g, F g → F' g) : Rz w N F' X rs := ⟨h.ls, h.ms, fun x hx => (h.rows x hx).keep (fun _ _ => rfl) (fun _ _ _ _ => rfl) hF, h.num, h.most, h.one⟩
theorem Rz.draws {w : World} {N : Nat} {F : Nat → Prop} {X : Rv} {rs : List Kl} (h : Rz w N F X rs) (q : Nat) : Rz (w.drewN q) N F X rs := h.keep (S := fun _ => False) (kept_below (bad_drews w q)) (fun _ _ e => e) (fun _ _ e => e) (fun _ _ _ _ e => e) (fun _ _ _ _ e => e)
theorem rwm_ne {w : World} {N k n m : Nat} {F : Nat → Prop} {v : Value} {C : Array Value} {t' : TypeId} {fr : Nat × Nat} (h : Rwm w N F m v n) (hk : w.heap[k]? = some (.cells C t' fr)) (ht : t' ≠ 31) : v.ownBlock ≠ some k := by
  obtain ⟨vs, h1, _⟩ := h
  exact owns_ne h1 hk ht
theorem rwm_far {z : Bool} {w : World} {N B n k m : Nat} {F : Nat → Prop} {v u : Value} {t : TypeId} {xs : List Value} (h : Rwm w N F m v n) (h2 : ownsQ z w B t 1 u k xs) (ht : t ≠ 31) (g : Nat) (e1 : v.ownBlock = some g) : u.ownBlock ≠ some g := by
  obtain ⟨vs, h1, _⟩ := h
  exact rows_far0 h1 h2 (fun e => ht e.symm) g e1
theorem owns_block {z : Bool} {w : World} {B n s : Nat} {t : TypeId} {v : Value} {xs : List Value} (h : ownsQ z w B t s v n xs) (g : Nat) (e : v.ownBlock = some g) : ∃ cur fz, w.heap[g]? = some (.cells cur t fz) := by
  rcases h.2 with ⟨h1, _⟩ | ⟨g', cap, cur, h1, _, ⟨fz, h3, _⟩, _⟩
  · rw [h1] at e; cases e
  · rw [h1] at e; cases e; exact ⟨cur, fz, h3⟩
theorem rwm_marked {w : World} {N g n k m : Nat} {F : Nat → Prop} {cur : Array Value} {u mv : Value} {fz : Nat × Nat} (hg : w.heap[g]? = some (.cells cur 31 fz)) (hmv : Mrk w F m mv) (h : Rwm w N F m u k) : Rwm (w.setCell ⟨g, n, none⟩ mv) N F m u k := by
  have hmk : ∀ v, Mrk w F m v → Mrk (w.setCell ⟨g, n, none⟩ mv) F m v := fun v hv => hv.keep (fun g' cur' _ hb => Below.heap_setCell _ _ _ _ (fun e => by subst e; rw [hg] at hb; simp at hb)) (fun _ e => e)
  obtain ⟨vs, h1, h2⟩ := h
  rcases h1.2 with h0 | ⟨g', cap', cur', e1, e2, ⟨fz', hg', hf'⟩, e3, e4, e5, ht⟩
  · exact ⟨vs, ⟨h1.1, Or.inl h0⟩, fun v hv => hmk v (h2 v hv)⟩
  · by_cases e : g' = g
    · subst e
      rw [hg] at hg'
      simp only [Option.some.injEq, Obj.cells.injEq, true_and] at hg'
      obtain ⟨rfl, rfl⟩ := hg'
      refine ⟨vs.set n mv, ⟨by rw [List.length_set]; exact h1.1, Or.inr ⟨g', cap', cur.setIfInBounds n mv, e1, e2, ⟨_, block_set hg _, hf'⟩, e3, e4, by simpa using e5, ?_⟩⟩, fun v hv => ?_⟩
      · rw [← ht]
        simp [List.take_set]
      · rcases List.mem_or_eq_of_mem_set hv with q | q
        · exact hmk v (h2 v q)
        · rw [q]; exact hmk mv hmv
    · exact ⟨vs, ⟨h1.1, Or.inr ⟨g', cap', cur', e1, e2, ⟨fz', (Below.heap_setCell _ _ _ _ (by simpa using e)).trans hg', hf'⟩, e3, e4, e5, ht⟩⟩, fun v hv => hmk v (h2 v hv)⟩
theorem wpList_append_row {w : World} {ops : Array Oper} {rest : List Oper} {o : Oper} {a : Act} {Q : Exit → Act → World → Prop} (hgd : o.guard = none) (s x : Operand)
    (ho : o.op = .call { callee := .builtin .append, args := #[s, x], argTypes := #[44, 44] }) (N m n : Nat) (F : Nat → Prop) (v : Value) (hs : a.eval s = v) (hrow : Rwm w N F m v n) (B : Nat) (mv : Value) (hx : a.eval x = .slice (some ⟨B, 0, none⟩) 1 1) (hB : w.cell? ⟨B, 0, none⟩ = some mv) (hmv : Mrk w F m mv)
    (hn : (n + 1) * 24 ≤ 140737488355328) (hN : N ≤ w.heap.size)
    (h : ∀ v' w', Rwm w' N F m v' (n + 1) → (v'.ownBlock = v.ownBlock ∨ ∃ g, v'.ownBlock = some g ∧ w.heap.size ≤ g) → Kept (fun i => some i = v.ownBlock) w w' → (∀ u k, Rwm w N F m u k → Rwm w' N F m u k) → wpList Tryz.prog ops Q rest (a.put o.dst v') w') :
    wpList Tryz.prog ops Q (o :: rest) a w := by
  obtain ⟨i0, hi, hz0, hz1, hz2⟩ := info_parts Tryz.infoBy
  obtain ⟨vs, hro, hvs⟩ := hrow
  have hnew : ∀ j u, ([mv] : List Value)[j]? = some u → w.cell? ((⟨B, 0, none⟩ : Addr).add j) = some u := fun j u hj => by
    match j, hj with
    | 0, hj => simp at hj; subst hj; simpa [Addr.add] using hB
  have hkeep : ∀ w' : World, (∀ k, k < w.heap.size → w'.heap[k]? = w.heap[k]?) → ∀ u k, Rwm w N F m u k → Rwm w' N F m u k := fun w' hk u k hu => hu.keep (fun g e => hk g (hu.lt g e)) (fun g cur _ hb => hk g (lt_of_block hb)) (fun _ e => e)
  have hall : ∀ w', (∀ k, k < w.heap.size → w'.heap[k]? = w.heap[k]?) → ∀ u ∈ vs ++ [mv], Mrk w' F m u := fun w' hk u hu => by
    rcases List.mem_append.1 hu with q | q
    · exact (hvs u q).keep (fun g cur _ hb => hk g (lt_of_block hb)) (fun _ e => e)
    · simp at q; subst q; exact hmv.keep (fun g cur _ hb => hk g (lt_of_block hb)) (fun _ e => e)
  have hvl : vs.length = n * 1 := hro.1
  rcases hro.2 with ⟨h1, h2⟩ | ⟨g, cap, cur, h1, hbg, ⟨fz, hg, hf⟩, h3, h4, h5, ht⟩
  · subst h2
    have hv0 : vs = [] := List.eq_nil_of_length_eq_zero (by omega)
    refine wpList_append_lies _ hgd s x 44 ho N 31 i0 (.slice none 0 0) 1 24 Tryz.underlying44 hi hz0 hz1 hz2 rfl (by omega) v 0 vs hs ⟨by rw [hv0]; rfl, Or.inl ⟨h1, rfl⟩⟩ ⟨B, 0, none⟩ 1 1 [mv] hx rfl hnew (by simp [hmv.one]) (by omega) (by unfold maxLen; omega) (by omega) hN _ rfl ?_
    intro g' cap' w' r1 r2 r3 _
    have hvn : v.ownBlock = none := by rw [h1]; rfl
    rw [hvn] at r2 r3
    refine h _ w' ⟨_, ownsQ_of r1, hall w' (fun k hk => r2.block k hk (by simp))⟩ ?_ (by rw [hvn]; exact kept_grown r2) (hkeep w' (fun k hk => r2.block k hk (by simp)))
    rcases r3 with e | e
    · cases e
    · exact Or.inr ⟨g', rfl, by omega⟩
  · subst h1
    have hcell : ∀ j u, vs[j]? = some u → w.cell? ⟨g, 0 + j, none⟩ = some u := fun j u hj => by
      have := (owns_cell hro u hj).1
      simpa using this
    refine wpList_append_arg w hgd s x 44 ho 31 i0 (.slice none 0 0) 1 24 Tryz.underlying44 hi hz0 hz1 hz2 rfl (by omega) g 0 n cap vs hs (by omega) hcell ⟨B, 0, none⟩ 1 1 [mv] hx rfl hnew (by simp [hmv.one]) ?_ (by unfold maxLen; omega) (by omega) ?_ ?_
    · intro hroom j hj
      simp at hj
      subst hj
      have hlt : n < cur.size := by omega
      exact ⟨by simp [World.cell?, hg, hlt], by simpa using thawed (o := n) hg hf (by omega)⟩
    · intro hroom
      have e : w.setCells g (0 + n * 1) [mv] = w.setCell ⟨g, n, none⟩ mv := by simp [World.setCells]
      rw [e]
      have hmk : ∀ u, Mrk w F m u → Mrk (w.setCell ⟨g, n, none⟩ mv) F m u := fun u hu => hu.keep (fun g' cur' _ hb => Below.heap_setCell _ _ _ _ (fun e => by subst e; rw [hg] at hb; simp at hb)) (fun _ e => e)
      refine h _ _ ⟨vs ++ [mv], ⟨by rw [List.length_append, hvl]; simp, Or.inr ⟨g, cap, cur.setIfInBounds n mv, rfl, hbg, ⟨fz, block_set hg _, hf⟩, hroom, h4, by simpa using h5, ?_⟩⟩, fun u hu => ?_⟩ (Or.inl rfl) (kept_but ((But.refl g w).setCell (p := ⟨g, n, none⟩) (Or.inl rfl) _) |> fun k => ⟨k.os, k.tape, k.output, k.size, fun j hj hn => k.block j hj (fun e => hn (by rw [e]; rfl))⟩) (fun u k hu => rwm_marked hg hmv hu)
      · rw [← ht]
        apply List.ext_getElem?
        intro i
        rw [List.getElem?_take]
        have hlt : n < cur.size := by omega
        have hlen : (cur.toList.take (n * 1)).length = n := by simp; omega
        by_cases hi' : i < n
        · rw [if_pos (by omega), List.getElem?_append_left (by omega), List.getElem?_take, if_pos (by omega)]
          simp [List.getElem?_set_ne (show n ≠ i by omega)]
        · by_cases hin : i = n
          · subst hin
            rw [if_pos (by omega), List.getElem?_append_right (by omega), hlen]
            simp [hlt]
          · rw [if_neg (by omega), List.getElem?_eq_none (by simp; omega)]
      · rcases List.mem_append.1 hu with q | q
        · exact hmk u (hvs u q)
        · simp at q; subst q; exact hmk u hmv
    · intro _ v' w' r1 r2
      refine h v' w' ⟨_, owns_mono (ownsQ_of r1) hN, hall w' (fun k hk => r2.block k hk (by simp))⟩ ?_ ⟨r2.os, r2.tape, r2.output, r2.size, fun j hj _ => r2.block j hj (by simp)⟩ (hkeep w' (fun k hk => r2.block k hk (by simp)))
      obtain ⟨g', c', e, hb', _⟩ := r1.form (by omega)
      exact Or.inr ⟨g', by rw [e]; rfl, hb'⟩
end Go.Proofs.YtjcdnclfakmbpaaGreatDoor.V
