import Derived.Test.YtgfegkcmoedgkaaNums
import Derived.Deep.AppendLies
import Derived.OwnWalk
import Derived.Laws.OwnMore
import Derived.Lib.SmallJoins
namespace Go.Proofs.Ytgfegkcmoedgkaa
open Go.RowKit

theorem Try.infoI : (Try.prog.info? 2).map (fun i => (i.zero, i.size, i.bytes)) = some (some (.int .i64 0), 1, 8) := by kernel_rfl
theorem info_parts {P : Program} {t : TypeId} {v : Value} {size bytes : Nat} (h : (P.info? t).map (fun i => (i.zero, i.size, i.bytes)) = some (some v, size, bytes)) :
    ∃ i, P.info? t = some i ∧ i.zero = some v ∧ i.size = size ∧ i.bytes = bytes := by
  cases e : P.info? t with
  | none => rw [e] at h; simp at h
  | some i => rw [e] at h; simp at h; exact ⟨i, rfl, h.1, h.2.1, h.2.2⟩

def ins (l : List Int) : List Value := l.map fun x => Value.int .i64 x
theorem ins_len (l : List Int) : (ins l).length = l.length := by simp [ins]
theorem ins_app (l k : List Int) : ins (l ++ k) = ins l ++ ins k := by simp [ins]
theorem ins_one (l : List Int) : ∀ u ∈ ins l, u.oneCell' = true := fun u hu => by
  simp only [ins, List.mem_map] at hu
  obtain ⟨x, _, rfl⟩ := hu
  rfl
theorem ad_plain (g o j : Nat) : (⟨g, o, none⟩ : Addr).add j = ⟨g, o + j, none⟩ := by
  unfold Addr.add; split <;> simp_all
theorem nums_cells {w : World} {g o : Nat} {zs : List Int} (h : Nums w (some ⟨g, o, none⟩) zs) : ∀ j u, (ins zs)[j]? = some u → w.cell? ((⟨g, o, none⟩ : Addr).add j) = some u := by
  intro j u hj
  simp only [ins, List.getElem?_map, Option.map_eq_some_iff] at hj
  obtain ⟨x, hx', rfl⟩ := hj
  rcases h with h0 | ⟨g', o', e, hg, hc⟩
  · subst h0; simp at hx'
  · cases e
    rw [ad_plain]; exact hc j x hx'

theorem run_append_zero {P : Program} (w : World) (t ty e : TypeId) (i : TypeInfo) (ht : P.underlying t = some (.slice e)) (hi : P.info? e = some i) (bp : Option Addr) (n cap : Nat) (hn : n ≤ cap) (sp : Option Addr) (c : Nat) :
    (Builtin.append_ #[t, t] ty #[.slice bp n cap, .slice sp 0 c]).run P w = .ok (.slice bp n cap) w := by
  have hl : ∀ (x : Addr), (loadCells x 0).run P w = .ok #[] w := fun x => by simpa using run_loadCells_list (P := P) w x [] (by simp)
  cases bp <;> cases sp <;> simp [Builtin.append_, run_underlying ht, sizeOf, typeInfo, hi, Builtin.lenOf, Builtin.firstCells, storeCells, hl, hn]
theorem wpList_append_zero {P : Program} {w : World} {ops : Array Oper} {rest : List Oper} {o : Oper} {a : Act} {Q : Exit → Act → World → Prop} (hgd : o.guard = none) (s x : Operand) (t : TypeId)
    (ho : o.op = .call { callee := .builtin .append, args := #[s, x], argTypes := #[t, t] }) (e : TypeId) (i : TypeInfo) (ht : P.underlying t = some (.slice e)) (hi : P.info? e = some i)
    (bp : Option Addr) (n cap : Nat) (hn : n ≤ cap) (hs : a.eval s = .slice bp n cap) (sp : Option Addr) (c : Nat) (hx : a.eval x = .slice sp 0 c)
    (h : wpList P ops Q rest (a.put o.dst (.slice bp n cap)) w) : wpList P ops Q (o :: rest) a w := by
  refine wpList_plain hgd fun K hK => ?_
  have hrun := run_append_zero (P := P) w t o.type e i ht hi bp n cap hn sp c
  unfold Oper.wp
  simp [execOp, ho, resolve, invoke, builtin, hs, hx, hrun, Result.andThen]
  exact hK _ _ h

theorem owns_cap {w : World} {B n c : Nat} {p : Option Addr} {t : TypeId} {ys : List Value} (h : w.ownsRow B t 1 (.slice p n c) n ys) : n ≤ c := by
  rcases h.2 with ⟨h1, h2⟩ | ⟨g', cap', cur, h1, h2, hg, h3, _⟩
  · omega
  · cases h1; exact h3
theorem owns_ge {W : World} {base : Nat} {t : TypeId} {v : Value} {n : Nat} {l : List Value} (h : W.ownsRow base t 1 v n l) : ∀ k, v.ownBlock = some k → base ≤ k := fun k e => (h.lt k e).1
theorem nil_owns (w : World) (B : Nat) : w.ownsRow B 2 1 (.slice none 0 0) 0 (ins []) := ⟨rfl, Or.inl ⟨rfl, rfl⟩⟩

/-- 'append(l, b...)', l a row of the call's own, b any numbers. -/
theorem app_src {W w0 : World} {ops : Array Oper} {rest : List Oper} {o : Oper} {a : Act} {Q : Exit → Act → World → Prop} (hgd : o.guard = none) (s x : Operand)
    (ho : o.op = .call { callee := .builtin .append, args := #[s, x], argTypes := #[32, 32] }) (base n : Nat) (p : Option Addr) (c : Nat) (l : List Int)
    (hs : a.eval s = .slice p n c) (hO : W.ownsRow base 2 1 (.slice p n c) n (ins l)) (sp : Option Addr) (m d : Nat) (zs : List Int) (hx : a.eval x = .slice sp m d) (hm : zs.length = m) (hz : Nums W sp zs) (hn : n + m ≤ 17592186044416) (hB : Below base w0 W) (hle : base ≤ W.heap.size)
    (h : ∀ p' cap w', w'.ownsRow base 2 1 (.slice p' (n + m) cap) (n + m) (ins (l ++ zs)) → Below base w0 w' → wpList Try.prog ops Q rest (a.put o.dst (.slice p' (n + m) cap)) w') :
    wpList Try.prog ops Q (o :: rest) a W := by
  obtain ⟨i0, hi, hz0, hz1, hz2⟩ := info_parts Try.infoI
  by_cases h0 : m = 0
  · subst h0
    have hzs : zs = [] := List.eq_nil_of_length_eq_zero hm
    subst hzs
    refine wpList_append_zero hgd s x 32 ho 2 i0 Try.underlying32 hi _ n c (owns_cap hO) hs sp d hx ?_
    exact h p c W (by simpa using hO) hB
  · have hne : zs ≠ [] := fun e => h0 (by rw [← hm, e]; rfl)
    rcases hz with hz | ⟨g, q, rfl, hg, hc⟩
    · exact absurd hz hne
    · refine wpList_append_lies _ hgd s x 32 ho base 2 i0 (.int .i64 0) 1 8 Try.underlying32 hi hz0 hz1 hz2 rfl (by omega) _ n _ hs hO ⟨g, q, none⟩ m d (ins zs) hx (by rw [ins_len, hm, Nat.mul_one]) (nums_cells (Or.inr ⟨g, q, rfl, hg, hc⟩)) (ins_one zs) (by omega) (by unfold maxLen; omega) (by omega) hle _ rfl ?_
      intro g' c' w5 hown hgrow _ _
      refine h _ c' w5 ?_ ?_
      · rw [ins_app]; exact hown
      · exact hB.grown hgrow hle (owns_ge hO)

/-- A row of numbers of the call's own. -/
structure OwnI (B : Nat) (w : World) (g cap : Nat) (zs : List Int) : Prop where
  base : B ≤ g
  cap : zs.length ≤ cap
  row : ∃ C : Array Value, w.heap[g]? = some (.cells C 2 (0, 0)) ∧ ∀ (j : Nat) z, zs[j]? = some z → C[j]? = some (.int .i64 z)
theorem lt_of_block {w : World} {b : Nat} {o : Obj} (h : w.heap[b]? = some o) : b < w.heap.size := (Array.getElem?_eq_some_iff.1 h).1
theorem OwnI.lt {B : Nat} {w : World} {g cap : Nat} {zs : List Int} (h : OwnI B w g cap zs) : g < w.heap.size := by
  obtain ⟨C, hC, _⟩ := h.row
  exact lt_of_block hC
theorem OwnI.cell {B : Nat} {w : World} {g cap : Nat} {zs : List Int} (h : OwnI B w g cap zs) {j : Nat} {z : Int} (hj : zs[j]? = some z) : w.cell? ⟨g, j, none⟩ = some (.int .i64 z) := by
  obtain ⟨C, hC, hc⟩ := h.row
  simp only [World.cell?, hC]; exact hc j z hj
theorem OwnI.frozen {B : Nat} {w : World} {g cap : Nat} {zs : List Int} (h : OwnI B w g cap zs) (j : Nat) : w.frozen? ⟨g, j, none⟩ = false := by
  obtain ⟨C, hC, hc⟩ := h.row
  simp only [World.frozen?, hC]; simp
theorem OwnI.nums {B : Nat} {w : World} {g cap : Nat} {zs : List Int} (h : OwnI B w g cap zs) : Nums w (some ⟨g, 0, none⟩) zs :=
  Or.inr ⟨g, 0, rfl, h.lt, fun j z hz => by rw [Nat.zero_add]; exact h.cell hz⟩
theorem OwnI.below {B B' : Nat} {w w' : World} {g cap : Nat} {zs : List Int} (h : OwnI B w g cap zs) (hb : Below B' w w') (hg : g < B') : OwnI B w' g cap zs := by
  obtain ⟨C, hC, hc⟩ := h.row
  exact ⟨h.base, h.cap, C, (hb.block g hg).trans hC, hc⟩
theorem OwnI.up {B : Nat} {w w' : World} {g cap : Nat} {zs : List Int} (h : OwnI B w g cap zs) (hb : Below w.heap.size w w') : OwnI B w' g cap zs := h.below hb h.lt
theorem OwnI.set {B : Nat} {w : World} {g cap : Nat} {zs : List Int} (h : OwnI B w g cap zs) (i : Nat) (y : Int) : OwnI B (w.setCell ⟨g, i, none⟩ (.int .i64 y)) g cap (zs.set i y) := by
  obtain ⟨C, hC, hc⟩ := h.row
  refine ⟨h.base, by simpa using h.cap, _, heap_setCell_same _ _ _ _ _ _ hC, ?_⟩
  intro j z hj
  by_cases hij : i = j
  · subst hij
    have hlt : i < zs.length := by
      have := (List.getElem?_eq_some_iff.1 hj).1
      simpa using this
    have hjs : i < C.size := (Array.getElem?_eq_some_iff.1 (hc i _ (List.getElem?_eq_getElem hlt))).1
    have : y = z := by simpa [List.getElem?_set, hlt] using hj
    subst this
    simp [hjs]
  · rw [List.getElem?_set_ne hij] at hj
    rw [Array.getElem?_setIfInBounds_ne hij]; exact hc j z hj
theorem own_of {w : World} {B n c : Nat} {p : Option Addr} {zs : List Int} (hn : 0 < n) (h : w.ownsRow B 2 1 (.slice p n c) n (ins zs)) : ∃ g, p = some ⟨g, 0, none⟩ ∧ OwnI B w g c zs := by
  have hl : zs.length = n := by have := h.1; rw [ins_len] at this; omega
  rcases h.2 with ⟨h1, h2⟩ | ⟨g', cap, cur, h1, h2, hg, h3, _, h5, ht⟩
  · omega
  · cases h1
    refine ⟨g', rfl, h2, by omega, cur, hg, fun j z hj => ?_⟩
    have hjl : j < zs.length := (List.getElem?_eq_some_iff.1 hj).1
    have : (ins zs)[j]? = some (.int .i64 z) := by simp [ins, hj]
    rw [← ht, List.getElem?_take, if_pos (by omega)] at this
    simpa using this
theorem nums_two (W : World) (x y : Int) (t : TypeId) : Nums (W.alloc (.cells #[.int .i64 x, .int .i64 y] t)) (some ⟨W.heap.size, 0, none⟩) [x, y] := by
  refine Or.inr ⟨W.heap.size, 0, rfl, by simp, fun j z hj => ?_⟩
  match j, hj with
  | 0, hj => simp at hj; subst hj; simp [go_sem]
  | 1, hj => simp at hj; subst hj; simp [go_sem]
  | j + 2, hj => simp at hj
theorem nums_one (W : World) (x : Int) (t : TypeId) : Nums (W.alloc (.cells #[.int .i64 x] t)) (some ⟨W.heap.size, 0, none⟩) [x] := by
  refine Or.inr ⟨W.heap.size, 0, rfl, by simp, fun j z hj => ?_⟩
  match j, hj with
  | 0, hj => simp at hj; subst hj; simp [go_sem]
  | j + 1, hj => simp at hj
end Go.Proofs.Ytgfegkcmoedgkaa
