import Derived.Test.YtbacgkfmnccheaaDoorChars
import Derived.Deep.AppendLies
import Derived.OwnWalk
import Derived.Laws.OwnMore
import Derived.Below
import Derived.ArgAppend
namespace Go.Proofs.YtbacgkfmnccheaaDoor
open Go.RowKit

/-- A row in a block of its tag. -/
structure MR (B : Nat) (w : World) (tag : Nat → Nat) (t : Nat) (e : TypeId) (u : Value) (m : Nat) (xs : List Value) : Prop where
  row : w.ownsRow B e 1 u m xs
  own : ∀ b, u.ownBlock = some b → tag b = t
/-- What has turned: blocks of one tag alone, and new ones. -/
structure Step (B t : Nat) (w : World) (tag : Nat → Nat) (w' : World) (tag' : Nat → Nat) : Prop where
  size : w.heap.size ≤ w'.heap.size
  keep : ∀ k, k < w.heap.size → tag k ≠ t → w'.heap[k]? = w.heap[k]?
  low : Below B w w'
  tags : ∀ k, k < w.heap.size → tag' k = tag k
theorem tag_up {w w' : World} {B : Nat} {e : TypeId} {v : Value} {n : Nat} {xs : List Value} (h : w.ownsRow B e 1 v n xs) (hb : ∀ k, v.ownBlock = some k → w'.heap[k]? = w.heap[k]?) : w'.ownsRow B e 1 v n xs := by
  refine ⟨h.1, ?_⟩
  rcases h.2 with h1 | ⟨g, cap, cur, h1, h2, h3, h4⟩
  · exact Or.inl h1
  · refine Or.inr ⟨g, cap, cur, h1, h2, ?_, h4⟩
    rw [hb g (by rw [h1]; rfl)]; exact h3
theorem MR.step {B : Nat} {w w' : World} {tag tag' : Nat → Nat} {t t' : Nat} {e : TypeId} {u : Value} {m : Nat} {xs : List Value} (h : MR B w tag t e u m xs) (hs : Step B t' w tag w' tag') (hne : t ≠ t') : MR B w' tag' t e u m xs :=
  ⟨tag_up h.row (fun k hk => hs.keep k (h.row.lt k hk).2 (by rw [h.own k hk]; exact hne)), fun b hb => by rw [hs.tags b (h.row.lt b hb).2]; exact h.own b hb⟩
/-- Only new blocks. -/
theorem Step.of_below {B t : Nat} {w w' : World} {tag : Nat → Nat} (hb : Below w.heap.size w w') (hB : B ≤ w.heap.size) (s : Nat) : Step B t w tag w' (fun b => if b < w.heap.size then tag b else s) :=
  ⟨hb.size, fun k hk _ => hb.block k hk, hb.mono hB, fun k hk => by simp [hk]⟩
theorem MR.below {B : Nat} {w w' : World} {tag : Nat → Nat} {t : Nat} {e : TypeId} {u : Value} {m : Nat} {xs : List Value} (h : MR B w tag t e u m xs) (hb : Below w.heap.size w w') : MR B w' tag t e u m xs :=
  ⟨tag_up h.row (fun k hk => hb.block k (h.row.lt k hk).2), h.own⟩
/-- A row of new blocks has the new tag. -/
theorem MR.fresh {B s : Nat} {w w' : World} {tag : Nat → Nat} {e : TypeId} {u : Value} {m : Nat} {xs : List Value} (h : w'.ownsRow w.heap.size e 1 u m xs) (hB : B ≤ w.heap.size) : MR B w' (fun b => if b < w.heap.size then tag b else s) s e u m xs := by
  refine ⟨?_, fun b hb => ?_⟩
  · refine ⟨h.1, ?_⟩
    rcases h.2 with h1 | ⟨g, cap, cur, h1, h2, h3⟩
    · exact Or.inl h1
    · exact Or.inr ⟨g, cap, cur, h1, Nat.le_trans hB h2, h3⟩
  · have := (h.lt b hb).1
    simp [show ¬ b < w.heap.size by omega]
/-- What is read of a row. -/
theorem MR.get {B : Nat} {w : World} {tag : Nat → Nat} {t n c : Nat} {p : Option Addr} {e : TypeId} {xs : List Value} (h : MR B w tag t e (.slice p n c) n xs) {k : Nat} {v : Value} (hk : xs[k]? = some v) : ∃ g, p = some ⟨g, 0, none⟩ ∧ w.cell? ⟨g, k, none⟩ = some v ∧ w.frozen? ⟨g, k, none⟩ = false := by
  have h := h.row
  have hlt : k < n := by have := (List.getElem?_eq_some_iff.1 hk).1; have := h.1; omega
  rcases h.2 with ⟨h1, h2⟩ | ⟨g, cap, cur, h1, h2, hg, h3, h4, h5, h6⟩
  · omega
  · cases h1
    refine ⟨g, rfl, ?_, by simp [World.frozen?, hg]⟩
    have : cur.toList[k]? = some v := by
      rw [← h6, List.getElem?_take_of_lt (by omega)] at hk; exact hk
    simp only [World.cell?, hg]
    simpa using this
/-- A cell of a row is written. -/
theorem set_blk {w : World} {g k : Nat} {cur : Array Value} {e : TypeId} (v : Value) (h : w.heap[g]? = some (.cells cur e (0, 0))) : (w.setCell ⟨g, k, none⟩ v).heap[g]? = some (.cells (cur.setIfInBounds k v) e (0, 0)) := heap_setCell_same _ _ _ _ _ _ h
theorem MR.write {B : Nat} {w : World} {tag : Nat → Nat} {t n c g : Nat} {e : TypeId} {xs : List Value} (h : MR B w tag t e (.slice (some ⟨g, 0, none⟩) n c) n xs) {k : Nat} (v : Value) :
    MR B (w.setCell ⟨g, k, none⟩ v) tag t e (.slice (some ⟨g, 0, none⟩) n c) n (xs.set k v) ∧ Step B t w tag (w.setCell ⟨g, k, none⟩ v) tag := by
  have hB : B ≤ g := (h.row.lt g rfl).1
  have ht : tag g = t := h.own g rfl
  refine ⟨⟨⟨by simpa using h.row.1, ?_⟩, h.own⟩, ⟨by simp, fun j _ hj => Below.heap_setCell _ _ _ _ (fun e => hj (by rw [e]; exact ht)), (Below.refl _ _).setCell (p := ⟨g, k, none⟩) hB _, fun _ _ => rfl⟩⟩
  rcases h.row.2 with ⟨h1, h2⟩ | ⟨g', cap, cur, h1, h2, hg, h3, h4, h5, h6⟩
  · cases h1
  · cases h1
    refine Or.inr ⟨g, c, cur.setIfInBounds k v, rfl, h2, set_blk v hg, h3, h4, by simpa using h5, ?_⟩
    rw [← h6, Array.toList_setIfInBounds, List.take_set]

theorem lt_blk {w : World} {b : Nat} {o : Obj} (h : w.heap[b]? = some o) : b < w.heap.size := (Array.getElem?_eq_some_iff.1 h).1
theorem cells_new {w : World} {g : Nat} {cs : Array Value} {t : TypeId} {f : Nat × Nat} (h : w.heap[g]? = some (.cells cs t f)) : ∀ j u, cs.toList[j]? = some u → w.cell? ((⟨g, 0, none⟩ : Addr).add j) = some u := fun j u hj => by
  have : (⟨g, 0, none⟩ : Addr).add j = ⟨g, j, none⟩ := by unfold Addr.add; split <;> simp_all
  rw [this]
  simp only [World.cell?, h]
  simpa using hj
theorem heap_nw (w : World) (o : Obj) : (w.alloc o).heap[w.heap.size]? = some o := by unfold World.alloc; exact Array.getElem?_push_size
/-- Values behind a row of a tag. -/
theorem app_row {W : World} {ops : Array Oper} {rest : List Oper} {o : Oper} {a : Act} {Q : Exit → Act → World → Prop} (t e : TypeId) (z : Value) (bytes : Nat) (news : List Value) (ht : Tryd.prog.underlying t = some (.slice e)) (hinfo : (Tryd.prog.info? e).map (fun i => (i.zero, i.size, i.bytes)) = some (some z, 1, bytes)) (hz : z.cells.size = 1) (hv : ∀ u ∈ news, u.oneCell' = true) (hby : bytes ≤ 1000) (hne : 0 < news.length) (hne2 : news.length ≤ 10)
    (hgd : o.guard = none) (s x : Operand) (ho : o.op = .call { callee := .builtin .append, args := #[s, x], argTypes := #[t, t] }) (B : Nat) (tag : Nat → Nat) (tg n : Nat) (p : Option Addr) (c : Nat) (xs : List Value)
    (hs : a.eval s = .slice p n c) (hO : MR B W tag tg e (.slice p n c) n xs) (hx : a.eval x = .slice (some ⟨W.heap.size, 0, none⟩) news.length news.length) (hn : n ≤ 1000000) (hle : B ≤ W.heap.size)
    (h : ∀ g cap w' tag', MR B w' tag' tg e (.slice (some ⟨g, 0, none⟩) (n + news.length) cap) (n + news.length) (xs ++ news) → Step B tg W tag w' tag' → wpList Tryd.prog ops Q rest (a.put o.dst (.slice (some ⟨g, 0, none⟩) (n + news.length) cap)) w') :
    wpList Tryd.prog ops Q (o :: rest) a (W.alloc (.cells news.toArray e)) := by
  obtain ⟨i0, hi, hz0, hz1, hz2⟩ := info_parts hinfo
  have hbb : (n + news.length) * bytes ≤ 140737488355328 := Nat.le_trans (Nat.mul_le_mul (show n + news.length ≤ 1000010 by omega) hby) (by decide)
  refine wpList_append_lies _ hgd s x t ho B e i0 z 1 bytes ht hi hz0 hz1 hz2 hz (by omega) _ n _ hs (hO.row.alloc _) ⟨W.heap.size, 0, none⟩ news.length news.length news hx (by simp) (by simpa using cells_new (heap_nw W (.cells news.toArray e (0, 0)))) hv hne (by unfold maxLen; omega) hbb (by simp; omega) _ rfl ?_
  intro g' c' w5 hown hgrow hat _
  refine h g' c' w5 (fun b => if b < W.heap.size then tag b else tg) ⟨hown, fun b hb => ?_⟩ ?_
  · cases hb
    rcases hat with e1 | e1
    · have h1 := (hO.row.lt g' e1).2
      simp [h1, hO.own g' e1]
    · have : ¬ g' < W.heap.size := by simp at e1; omega
      simp [this]
  · have hsz := hgrow.size
    simp at hsz
    refine ⟨by omega, fun k hk htk => ?_, ?_, fun k hk => by simp [hk]⟩
    · rw [hgrow.block k (by simp; omega) (fun e1 => htk (hO.own k e1.symm))]
      exact Below.heap_alloc W _ k hk
    · exact ((Below.refl B W).alloc hle _).grown hgrow (by simp; omega) (fun k e1 => (hO.row.lt k e1).1)
/-- A row whose places tell what lies there. -/
def fr (f : Nat → Value) (n : Nat) : List Value := (List.range n).map f
theorem fr_len (f : Nat → Value) (n : Nat) : (fr f n).length = n := by simp [fr]
theorem fr_get (f : Nat → Value) {n k : Nat} (h : k < n) : (fr f n)[k]? = some (f k) := by simp [fr, h]
theorem fr_succ (f : Nat → Value) (n : Nat) : fr f (n + 1) = fr f n ++ [f n] := by simp [fr, List.range_succ]
/-- The next value behind such a row: every row of that tag is as it was. -/
theorem app_f {W : World} {ops : Array Oper} {rest : List Oper} {o : Oper} {a : Act} {Q : Exit → Act → World → Prop} (t e : TypeId) (z : Value) (bytes : Nat) (f : Nat → Value) (ht : Tryd.prog.underlying t = some (.slice e)) (hinfo : (Tryd.prog.info? e).map (fun i => (i.zero, i.size, i.bytes)) = some (some z, 1, bytes)) (hz : z.cells.size = 1) (hv : ∀ k, (f k).oneCell' = true) (hby : bytes ≤ 1000)
    (hgd : o.guard = none) (s x : Operand) (ho : o.op = .call { callee := .builtin .append, args := #[s, x], argTypes := #[t, t] }) (B : Nat) (tag : Nat → Nat) (tg n : Nat) (p : Option Addr) (c : Nat)
    (hs : a.eval s = .slice p n c) (hO : MR B W tag tg e (.slice p n c) n (fr f n)) (hx : a.eval x = .slice (some ⟨W.heap.size, 0, none⟩) 1 1) (hn : n ≤ 1000000) (hle : B ≤ W.heap.size)
    (h : ∀ g cap w' tag', MR B w' tag' tg e (.slice (some ⟨g, 0, none⟩) (n + 1) cap) (n + 1) (fr f (n + 1)) → Step B tg W tag w' tag' → (∀ u k, MR B W tag tg e u k (fr f k) → MR B w' tag' tg e u k (fr f k)) → wpList Tryd.prog ops Q rest (a.put o.dst (.slice (some ⟨g, 0, none⟩) (n + 1) cap)) w') :
    wpList Tryd.prog ops Q (o :: rest) a (W.alloc (.cells #[f n] e)) := by
  obtain ⟨i0, hi, hz0, hz1, hz2⟩ := info_parts hinfo
  have hbb : (n + 1) * bytes ≤ 140737488355328 := Nat.le_trans (Nat.mul_le_mul (show n + 1 ≤ 1000001 by omega) hby) (by decide)
  have hnew : ∀ j u, ([f n] : List Value)[j]? = some u → (W.alloc (.cells #[f n] e)).cell? ((⟨W.heap.size, 0, none⟩ : Addr).add j) = some u := cells_new (heap_nw W (.cells #[f n] e (0, 0)))
  -- new blocks alone
  have grown : ∀ g' c' w5, w5.ownsRow B e 1 (.slice (some ⟨g', 0, none⟩) (n + 1) c') (n + 1) (fr f (n + 1)) → W.heap.size ≤ g' → (W.alloc (.cells #[f n] e)).grownBy w5 none → wpList Tryd.prog ops Q rest (a.put o.dst (.slice (some ⟨g', 0, none⟩) (n + 1) c')) w5 := fun g' c' w5 hown hg' hgrow => by
    have hsz := hgrow.size
    simp at hsz
    have hold : ∀ k, k < W.heap.size → w5.heap[k]? = W.heap[k]? := fun k hk => by
      rw [hgrow.block k (by simp; omega) (by simp)]
      exact Below.heap_alloc W _ k hk
    refine h g' c' w5 (fun b => if b < W.heap.size then tag b else tg) ⟨hown, fun b hb => ?_⟩ ⟨by omega, fun k hk _ => hold k hk, ((Below.refl B W).alloc hle _).grown hgrow (by simp; omega) (fun k e1 => by cases e1), fun k hk => by simp [hk]⟩ ?_
    · cases hb
      simp [show ¬ g' < W.heap.size by omega]
    · intro u k hu
      exact ⟨tag_up hu.row (fun j hj => hold j (hu.row.lt j hj).2), fun b hb => by simp [(hu.row.lt b hb).2, hu.own b hb]⟩
  rcases hO.row.2 with ⟨h1, h2⟩ | ⟨g, cap, cur, h1, h2, hg, h3, h4, h5, h6⟩
  · subst h2
    refine wpList_append_lies _ hgd s x t ho B e i0 z 1 bytes ht hi hz0 hz1 hz2 hz (by omega) _ 0 _ hs (hO.row.alloc _) ⟨W.heap.size, 0, none⟩ 1 1 [f 0] hx rfl hnew (by simpa using hv 0) (by omega) (by unfold maxLen; omega) hbb (by simp; omega) _ rfl ?_
    intro g' c' w5 hown hgrow hat _
    cases h1
    rw [← fr_succ] at hown
    refine grown g' c' w5 hown ?_ hgrow
    rcases hat with e1 | e1
    · cases e1
    · simp at e1; omega
  · cases h1
    have hgW : g < W.heap.size := (hO.row.lt g rfl).2
    have hg' : (W.alloc (.cells #[f n] e)).heap[g]? = some (.cells cur e (0, 0)) := (Below.heap_alloc W _ g hgW).trans hg
    refine wpList_append_arg _ hgd s x t ho e i0 z 1 bytes ht hi hz0 hz1 hz2 hz (by omega) g 0 n c (fr f n) hs (by rw [fr_len, Nat.mul_one]) ?_ ⟨W.heap.size, 0, none⟩ 1 1 [f n] hx rfl hnew (by simpa using hv n) ?_ (by unfold maxLen; omega) hbb ?_ ?_
    · intro j u hj
      have hjn : j < n := by have := (List.getElem?_eq_some_iff.1 hj).1; rw [fr_len] at this; exact this
      obtain ⟨g2, e2, hc2, _⟩ := hO.get hj
      cases e2
      rw [Nat.zero_add]
      rw [World.cell?_of_block (w := W) (Below.heap_alloc W _ g hgW)]; exact hc2
    · intro hroom j hj
      simp at hj
      subst hj
      have hlt : n < cur.size := by omega
      exact ⟨by simp [World.cell?, hg', hlt], by simp [World.frozen?, hg']⟩
    · intro hroom
      have e1 : (W.alloc (.cells #[f n] e)).setCells g (0 + n * 1) [f n] = (W.alloc (.cells #[f n] e)).setCell ⟨g, n, none⟩ (f n) := by simp [World.setCells]
      rw [e1]
      have hgs := set_blk (k := n) (f n) hg'
      have hoth : ∀ k, k < W.heap.size → k ≠ g → ((W.alloc (.cells #[f n] e)).setCell ⟨g, n, none⟩ (f n)).heap[k]? = W.heap[k]? := fun k hk hkg => by
        rw [Below.heap_setCell _ _ _ _ (by simpa using hkg)]; exact Below.heap_alloc W _ k hk
      have hrows : ∀ u k, MR B W tag tg e u k (fr f k) → MR B ((W.alloc (.cells #[f n] e)).setCell ⟨g, n, none⟩ (f n)) (fun b => if b < W.heap.size then tag b else tg) tg e u k (fr f k) := fun u k hu => by
        refine ⟨⟨hu.row.1, ?_⟩, fun b hb => by simp [(hu.row.lt b hb).2, hu.own b hb]⟩
        rcases hu.row.2 with hq | ⟨g3, cap3, cur3, q1, q2, q3, q4, q5, q6, q7⟩
        · exact Or.inl hq
        · by_cases hgg : g3 = g
          · subst hgg
            rw [hg] at q3
            cases q3
            refine Or.inr ⟨g3, cap3, _, q1, q2, hgs, q4, q5, by simpa using q6, ?_⟩
            rw [Array.toList_setIfInBounds, List.take_set, q7]
            apply List.ext_getElem?
            intro i
            rw [List.getElem?_set]
            by_cases hin : n = i
            · subst hin
              by_cases hnk : n < k
              · rw [if_pos rfl, if_pos (by rw [fr_len]; exact hnk), fr_get f hnk]
              · rw [if_pos rfl, if_neg (by rw [fr_len]; exact hnk), List.getElem?_eq_none (by rw [fr_len]; omega)]
            · simp [hin]
          · refine Or.inr ⟨g3, cap3, cur3, q1, q2, ?_, q4, q5, q6, q7⟩
            rw [hoth g3 (lt_blk q3) hgg]; exact q3
      refine h g c _ (fun b => if b < W.heap.size then tag b else tg) ⟨⟨by rw [fr_len, Nat.mul_one], Or.inr ⟨g, c, _, rfl, h2, hgs, hroom, h4, by simpa using h5, ?_⟩⟩, fun b hb => ?_⟩ ⟨by simp, fun k hk htk => hoth k hk (fun e2 => htk (by rw [e2]; exact hO.own g rfl)), ((Below.refl B W).alloc hle _).setCell (p := ⟨g, n, none⟩) h2 _, fun k hk => by simp [hk]⟩ hrows
      · rw [Array.toList_setIfInBounds, List.take_set]
        apply List.ext_getElem?
        intro i
        rw [List.getElem?_set]
        have h6' : ∀ i, i < n → cur.toList[i]? = some (f i) := fun i hi => by
          have := congrArg (fun l => l[i]?) h6
          simp only [fr_get f hi] at this
          rw [List.getElem?_take_of_lt (by omega)] at this
          exact this
        by_cases hin : n = i
        · subst hin
          have hlt : n < cur.size := by omega
          rw [if_pos rfl, if_pos (by simp; omega), fr_get f (show n < n + 1 by omega)]
        · by_cases hi : i < n
          · rw [if_neg hin, List.getElem?_take_of_lt (by omega), h6' i hi, fr_get f (by omega)]
          · rw [if_neg hin, List.getElem?_eq_none (by simp; omega), List.getElem?_eq_none (by rw [fr_len]; omega)]
      · cases hb
        simp [hgW, hO.own g rfl]
    · intro hsmall v' w' hown hgrow
      rcases hown.2 with ⟨_, q2⟩ | ⟨g3, cap3, cur3, q1, q2, q3⟩
      · omega
      · subst q1
        rw [← fr_succ] at hown
        refine grown g3 cap3 w' ⟨hown.1, ?_⟩ (by simp at q2; omega) hgrow
        rcases hown.2 with q | ⟨g4, cap4, cur4, r1, r2, r3⟩
        · exact Or.inl q
        · exact Or.inr ⟨g4, cap4, cur4, r1, by simp at r2; omega, r3⟩
theorem app_fv {W : World} {ops : Array Oper} {rest : List Oper} {o : Oper} {a : Act} {Q : Exit → Act → World → Prop} (t e : TypeId) (z : Value) (bytes : Nat) (f : Nat → Value) (ht : Tryd.prog.underlying t = some (.slice e)) (hinfo : (Tryd.prog.info? e).map (fun i => (i.zero, i.size, i.bytes)) = some (some z, 1, bytes)) (hz : z.cells.size = 1) (hv : ∀ k, (f k).oneCell' = true) (hby : bytes ≤ 1000)
    (hgd : o.guard = none) (s x : Operand) (ho : o.op = .call { callee := .builtin .append, args := #[s, x], argTypes := #[t, t] }) (B : Nat) (tag : Nat → Nat) (tg n : Nat) (p : Option Addr) (c : Nat) (v : Value) (hfv : f n = v)
    (hs : a.eval s = .slice p n c) (hO : MR B W tag tg e (.slice p n c) n (fr f n)) (hx : a.eval x = .slice (some ⟨W.heap.size, 0, none⟩) 1 1) (hn : n ≤ 1000000) (hle : B ≤ W.heap.size)
    (h : ∀ g cap w' tag', MR B w' tag' tg e (.slice (some ⟨g, 0, none⟩) (n + 1) cap) (n + 1) (fr f (n + 1)) → Step B tg W tag w' tag' → (∀ u k, MR B W tag tg e u k (fr f k) → MR B w' tag' tg e u k (fr f k)) → wpList Tryd.prog ops Q rest (a.put o.dst (.slice (some ⟨g, 0, none⟩) (n + 1) cap)) w') :
    wpList Tryd.prog ops Q (o :: rest) a (W.alloc (.cells #[v] e)) := by
  subst hfv
  exact app_f t e z bytes f ht hinfo hz hv hby hgd s x ho B tag tg n p c hs hO hx hn hle h
end Go.Proofs.YtbacgkfmnccheaaDoor
