import Derived.Test.YtllpikijakilnaaRbA
import Derived.Test.YtllpikijakilnaaNdW
import Derived.Laws.ResultCell
namespace Go.Proofs.Ytllpikijakilnaa
open Go.RowKit

theorem res_ct {fn : Func} {p u : Tmp} {ty : TypeId} (h : fn.results = #[.cell p ty, .tmp u]) (tmps : Array Value) (w : World) (g : Nat) (cs : Array Value)
    (hp : tmps.getD p undef = .pointer (some ⟨g, 0, none⟩)) (hl : (loadVar ty ⟨g, 0, none⟩).run Try.prog w = .ok (.agg cs) w) :
    (results fn tmps).run Try.prog w = .ok (.tuple #[.agg cs, tmps.getD u undef]) w := by
  rw [results_cell_tmp h, hp]
  simp [asAddr, hl]
theorem ac4 {w : World} {b : Nat} {x0 x1 x2 x3 : Value} {t : TypeId} (h : w.heap[b]? = some (.cells #[x0, x1, x2, x3] t (0, 0))) :
    w.cell? ⟨b, 0, none⟩ = some x0 ∧ w.cell? ⟨b, 1, none⟩ = some x1 ∧ w.cell? ⟨b, 2, none⟩ = some x2 ∧ w.cell? ⟨b, 3, none⟩ = some x3 :=
  ⟨by simp [World.cell?, h], by simp [World.cell?, h], by simp [World.cell?, h], by simp [World.cell?, h]⟩

set_option maxRecDepth 100000 in
set_option maxHeartbeats 1000000 in
theorem atPool_any (w : World) (P : Nat) (i0 i1 i2 : Int) (s : Option Addr) (l c : Nat) (h : w.heap[P]? = some (.cells #[.int .i64 i0, .int .i64 i1, .int .i64 i2, .slice s l c] 107 (0, 0))) :
    Calls Try.prog 58 #[.slice (some ⟨P, 0, none⟩) 1 1, .int .i64 0] w fun e w' => e = .returned (.tuple #[.agg #[.int .i64 i0, .int .i64 i1, .int .i64 i2, .slice s l c], .bool true]) ∧ Below w.heap.size w w' := by
  have hlt := ac_lt h
  obtain ⟨w1, hw1⟩ : ∃ w1, w.alloc (.cells #[.int .i64 0, .int .i64 0, .int .i64 0, .slice none 0 0] 107) = w1 := ⟨_, rfl⟩
  have hB : Below w.heap.size w w1 := by rw [← hw1]; exact (Below.refl _ _).alloc (Nat.le_refl _) _
  have hb : w1.heap[w.heap.size]? = some (.cells #[.int .i64 0, .int .i64 0, .int .i64 0, .slice none 0 0] 107 (0, 0)) := by rw [← hw1]; exact heap_alloc_new _ _
  obtain ⟨c0, c1, c2, c3⟩ := ac4 ((hB.block P hlt).trans h)
  obtain ⟨d0, d1, d2, d3⟩ := ac4 hb
  have cf := RB.bk_thaw hb
  have HB := hide hB
  have HW1 := hide hw1
  have HBb := hide hb
  clear hB hw1 hb h
  go_enter Try.func58, Try.ntmps58
  go_upto_region 1 with (fail)
  rw [HW1.out]
  go_wp2
  refine bodyPost_ret (res_ct rfl _ _ w.heap.size #[.int .i64 i0, .int .i64 i1, .int .i64 i2, .slice s l c] rfl (run_loadVar_row _ _ 107 _ #[.int .i64 i0, .int .i64 i1, .int .i64 i2, .slice s l c] (0, 0) _ (by rw [RB.block_set (RB.block_set (RB.block_set (RB.block_set HBb.out _) _) _) _]; rfl) Try.underlying107 rfl (by kernel_rfl))) rfl ?_
  exact ⟨rfl, (((HB.out.setCell (p := ⟨w.heap.size, 0, none⟩) (Nat.le_refl _) _).setCell (p := ⟨w.heap.size, 1, none⟩) (Nat.le_refl _) _).setCell (p := ⟨w.heap.size, 2, none⟩) (Nat.le_refl _) _).setCell (p := ⟨w.heap.size, 3, none⟩) (Nat.le_refl _) _⟩

set_option maxRecDepth 100000 in
set_option maxHeartbeats 1000000 in
theorem atWays_any (w : World) (P : Nat) (i0 i1 : Int) (h : w.heap[P]? = some (.cells #[.int .i64 i0, .int .i64 i1] 104 (0, 0))) :
    Calls Try.prog 60 #[.slice (some ⟨P, 0, none⟩) 1 1, .int .i64 0] w fun e w' => e = .returned (.tuple #[.agg #[.int .i64 i0, .int .i64 i1], .bool true]) ∧ Below w.heap.size w w' := by
  have hlt := ac_lt h
  obtain ⟨w1, hw1⟩ : ∃ w1, w.alloc (.cells #[.int .i64 0, .int .i64 0] 104) = w1 := ⟨_, rfl⟩
  have hB : Below w.heap.size w w1 := by rw [← hw1]; exact (Below.refl _ _).alloc (Nat.le_refl _) _
  have hb : w1.heap[w.heap.size]? = some (.cells #[.int .i64 0, .int .i64 0] 104 (0, 0)) := by rw [← hw1]; exact heap_alloc_new _ _
  obtain ⟨c0, c1⟩ := ac2 ((hB.block P hlt).trans h)
  obtain ⟨d0, d1⟩ := ac2 hb
  have cf := RB.bk_thaw hb
  have HB := hide hB
  have HW1 := hide hw1
  have HBb := hide hb
  clear hB hw1 hb h
  go_enter Try.func60, Try.ntmps60
  go_upto_region 1 with (fail)
  rw [HW1.out]
  go_wp2
  refine bodyPost_ret (res_ct rfl _ _ w.heap.size #[.int .i64 i0, .int .i64 i1] rfl (run_loadVar_row _ _ 104 _ #[.int .i64 i0, .int .i64 i1] (0, 0) _ (by rw [RB.block_set (RB.block_set HBb.out _) _]; rfl) Try.underlying104 rfl (by kernel_rfl))) rfl ?_
  exact ⟨rfl, (HB.out.setCell (p := ⟨w.heap.size, 0, none⟩) (Nat.le_refl _) _).setCell (p := ⟨w.heap.size, 1, none⟩) (Nat.le_refl _) _⟩

set_option maxRecDepth 100000 in
set_option maxHeartbeats 1000000 in
theorem atInt_any (w : World) (P : Nat) (i0 i1 : Int) (h : w.heap[P]? = some (.cells #[.int .i64 i0, .int .i64 i1] 104 (0, 0))) :
    Calls Try.prog 59 #[.slice (some ⟨P, 0, none⟩) 2 2, .int .i64 0] w fun e w' => e = .returned (.tuple #[.int .i64 i0, .bool true]) ∧ w' = w := by
  obtain ⟨c0, c1⟩ := ac2 h
  clear h
  go_enter Try.func59, Try.ntmps59
  go_wp2
  refine bodyPost_ret (v := .tuple #[.int .i64 i0, .bool true]) (by simp [results, Try.results59, go_sem]) rfl ?_
  exact ⟨rfl, rfl⟩
end Go.Proofs.Ytllpikijakilnaa
namespace Go.Proofs.Ytllpikijakilnaa
open Go.RowKit

/-- A pool as it lies in a state: value, free rights, the list of what tills hold. -/
structure Pl where
  v : Int
  f0 : Int
  f1 : Int
  hp : Option Addr
  hl : Nat
  hc : Nat
  hs : List Lin
def plc (x : Pl) : List Value := [.int .i64 x.v, .int .i64 x.f0, .int .i64 x.f1, .slice x.hp x.hl x.hc]
def pl0 : Pl := ⟨0, 0, 0, none, 0, 0, []⟩
/-- An item of a list, if there is one. -/
def hasAt {α : Type} (l : List α) (i : Int) : Bool := decide (0 ≤ i ∧ i < l.length)
def getAt {α : Type} (l : List α) (z : α) (i : Int) : α := if 0 ≤ i then l.getD i.toNat z else z
theorem at_in {α : Type} {l : List α} {z x : α} {k : Nat} (h : l[k]? = some x) : hasAt l (k : Int) = true ∧ getAt l z (k : Int) = x := by
  have hk := (List.getElem?_eq_some_iff.1 h).1
  constructor
  · simp [hasAt]; omega
  · simp [getAt, h]
theorem at_out {α : Type} {l : List α} {z : α} {i : Int} (h : i < 0 ∨ (l.length : Int) ≤ i) : hasAt l i = false ∧ getAt l z i = z := by
  constructor
  · simp [hasAt]; omega
  · unfold getAt
    split
    · rcases h with h | h
      · omega
      · simp [List.getElem?_eq_none (show l.length ≤ i.toNat by omega)]
    · rfl
theorem at_case {α : Type} (l : List α) (n : Nat) (hn : l.length = n) (i : Int) : (i < 0) ∨ (¬ i < 0 ∧ (n : Int) ≤ i) ∨ (∃ (k : Nat) (x : α), i = (k : Int) ∧ k < n ∧ l[k]? = some x) := by
  by_cases h : i < 0
  · exact Or.inl h
  · by_cases h2 : (n : Int) ≤ i
    · exact Or.inr (Or.inl ⟨h, h2⟩)
    · refine Or.inr (Or.inr ⟨i.toNat, l[i.toNat]'(by omega), by omega, by omega, List.getElem?_eq_getElem _⟩)

set_option maxRecDepth 100000 in
set_option maxHeartbeats 1000000 in
theorem atPool_gen (w : World) (p : Option Addr) (n c : Nat) (ps : List Pl) (hn : ps.length = n) (hc : Cel w p 4 (ps.map plc)) (i : Int) :
    Calls Try.prog 58 #[.slice p n c, .int .i64 i] w fun e w' => e = .returned (.tuple #[.agg (plc (getAt ps pl0 i)).toArray, .bool (hasAt ps i)]) ∧ Below w.heap.size w w' := by
  obtain ⟨w1, hw1⟩ : ∃ w1, w.alloc (.cells #[.int .i64 0, .int .i64 0, .int .i64 0, .slice none 0 0] 107) = w1 := ⟨_, rfl⟩
  have hB : Below w.heap.size w w1 := by rw [← hw1]; exact (Below.refl _ _).alloc (Nat.le_refl _) _
  have hb : w1.heap[w.heap.size]? = some (.cells #[.int .i64 0, .int .i64 0, .int .i64 0, .slice none 0 0] 107 (0, 0)) := by rw [← hw1]; exact heap_alloc_new _ _
  obtain ⟨w2, hw2⟩ : ∃ w2, w1.alloc (.cells #[.int .i64 0, .int .i64 0, .int .i64 0, .slice none 0 0] 107) = w2 := ⟨_, rfl⟩
  have HB2 : Hid (Below w.heap.size w w2) := by show Below _ _ _; rw [← hw2]; exact hB.alloc hB.size _
  have hbc : w2.heap[w.heap.size]? = some (.cells #[.int .i64 0, .int .i64 0, .int .i64 0, .slice none 0 0] 107 (0, 0)) := by rw [← hw2]; exact (Below.heap_alloc _ _ _ (ac_lt hb)).trans hb
  have HG := hide (ac4 (show w2.heap[w1.heap.size]? = some (.cells #[.int .i64 0, .int .i64 0, .int .i64 0, .slice none 0 0] 107 (0, 0)) by rw [← hw2]; exact heap_alloc_new _ _))
  have HD := hide (ac4 hbc)
  have HBc := hide hbc
  have HW2 := hide hw2
  obtain ⟨d0, d1, d2, d3⟩ := ac4 hb
  have cf := RB.bk_thaw hb
  have HB := hide hB
  have HW1 := hide hw1
  have HBb := hide hb
  have HC := hide (hc.below hB)
  have HN := hide hn
  clear hbc hw2
  rcases at_case ps n hn i with h | ⟨h, h2⟩ | ⟨k, x, rfl, hk, hx⟩
  · skip
    obtain ⟨e1, e2⟩ := at_out (l := ps) (z := pl0) (i := i) (Or.inl h)
    have HE := hide (And.intro e1 e2)
    clear e1 e2 hB hw1 hb hc hn 
    go_enter Try.func58, Try.ntmps58
    go_upto_region 1 with (fail)
    rw [HW1.out]
    clear d0 d1 d2 d3 cf
    go_upto_region 3 with (fail)
    rw [HW2.out]
    have cf := RB.bk_thaw HBc.out
    obtain ⟨d0, d1, d2, d3⟩ := HD.out
    obtain ⟨g0, g1, g2, g3⟩ := HG.out
    go_wp2
    refine bodyPost_ret (res_ct rfl _ _ w.heap.size #[.int .i64 0, .int .i64 0, .int .i64 0, .slice none 0 0] rfl (run_loadVar_row _ _ 107 _ #[.int .i64 0, .int .i64 0, .int .i64 0, .slice none 0 0] (0, 0) _ (by rw [RB.block_set (RB.block_set (RB.block_set (RB.block_set HBc.out _) _) _) _]; rfl) Try.underlying107 rfl (by kernel_rfl))) rfl ?_
    rw [HE.out.1, HE.out.2]
    exact ⟨rfl, (((HB2.out.setCell (p := ⟨w.heap.size, 0, none⟩) (Nat.le_refl _) _).setCell (p := ⟨w.heap.size, 1, none⟩) (Nat.le_refl _) _).setCell (p := ⟨w.heap.size, 2, none⟩) (Nat.le_refl _) _).setCell (p := ⟨w.heap.size, 3, none⟩) (Nat.le_refl _) _⟩
  · skip
    obtain ⟨e1, e2⟩ := at_out (l := ps) (z := pl0) (i := i) (Or.inr (by rw [hn]; exact h2))
    have HE := hide (And.intro e1 e2)
    clear e1 e2 hB hw1 hb hc hn 
    go_enter Try.func58, Try.ntmps58
    go_upto_region 1 with (fail)
    rw [HW1.out]
    clear d0 d1 d2 d3 cf
    go_upto_region 3 with (fail)
    rw [HW2.out]
    have cf := RB.bk_thaw HBc.out
    obtain ⟨d0, d1, d2, d3⟩ := HD.out
    obtain ⟨g0, g1, g2, g3⟩ := HG.out
    go_wp2
    refine bodyPost_ret (res_ct rfl _ _ w.heap.size #[.int .i64 0, .int .i64 0, .int .i64 0, .slice none 0 0] rfl (run_loadVar_row _ _ 107 _ #[.int .i64 0, .int .i64 0, .int .i64 0, .slice none 0 0] (0, 0) _ (by rw [RB.block_set (RB.block_set (RB.block_set (RB.block_set HBc.out _) _) _) _]; rfl) Try.underlying107 rfl (by kernel_rfl))) rfl ?_
    rw [HE.out.1, HE.out.2]
    exact ⟨rfl, (((HB2.out.setCell (p := ⟨w.heap.size, 0, none⟩) (Nat.le_refl _) _).setCell (p := ⟨w.heap.size, 1, none⟩) (Nat.le_refl _) _).setCell (p := ⟨w.heap.size, 2, none⟩) (Nat.le_refl _) _).setCell (p := ⟨w.heap.size, 3, none⟩) (Nat.le_refl _) _⟩
  · obtain ⟨e1, e2⟩ := at_in (z := pl0) hx
    have HE := hide (And.intro e1 e2)
    obtain ⟨b, o, rfl, hbl, hcl⟩ := HC.out.get (i := k) (r := plc x) (by rw [List.getElem?_map, hx]; rfl)
    obtain ⟨xv, x0, x1, xp, xl, xc, xs⟩ := x
    have c0 := hcl 0 _ rfl
    have c1 := hcl 1 _ rfl
    have c2 := hcl 2 _ rfl
    have c3 := hcl 3 _ rfl
    rw [Nat.add_zero] at c0
    have hk' : (k : Int) < (n : Int) := by omega
    have k0' : ¬ (k : Int) < 0 := by omega
    clear e1 e2 hB hw1 hb hc hn hcl hx HW2 HBc HD HG HB2
    go_enter Try.func58, Try.ntmps58
    go_upto_region 1 with (fail)
    rw [HW1.out]
    go_wp2
    refine bodyPost_ret (res_ct rfl _ _ w.heap.size #[.int .i64 xv, .int .i64 x0, .int .i64 x1, .slice xp xl xc] rfl (run_loadVar_row _ _ 107 _ #[.int .i64 xv, .int .i64 x0, .int .i64 x1, .slice xp xl xc] (0, 0) _ (by rw [RB.block_set (RB.block_set (RB.block_set (RB.block_set HBb.out _) _) _) _]; rfl) Try.underlying107 rfl (by kernel_rfl))) rfl ?_
    rw [HE.out.1, HE.out.2]
    exact ⟨rfl, (((HB.out.setCell (p := ⟨w.heap.size, 0, none⟩) (Nat.le_refl _) _).setCell (p := ⟨w.heap.size, 1, none⟩) (Nat.le_refl _) _).setCell (p := ⟨w.heap.size, 2, none⟩) (Nat.le_refl _) _).setCell (p := ⟨w.heap.size, 3, none⟩) (Nat.le_refl _) _⟩

set_option maxRecDepth 100000 in
set_option maxHeartbeats 1000000 in
theorem atWays_gen (w : World) (p : Option Addr) (n c : Nat) (ps : List Lin) (hn : ps.length = n) (hc : Cel w p 2 (ps.map linc)) (i : Int) :
    Calls Try.prog 60 #[.slice p n c, .int .i64 i] w fun e w' => e = .returned (.tuple #[.agg (linc (getAt ps ⟨0, 0⟩ i)).toArray, .bool (hasAt ps i)]) ∧ Below w.heap.size w w' := by
  obtain ⟨w1, hw1⟩ : ∃ w1, w.alloc (.cells #[.int .i64 0, .int .i64 0] 104) = w1 := ⟨_, rfl⟩
  have hB : Below w.heap.size w w1 := by rw [← hw1]; exact (Below.refl _ _).alloc (Nat.le_refl _) _
  have hb : w1.heap[w.heap.size]? = some (.cells #[.int .i64 0, .int .i64 0] 104 (0, 0)) := by rw [← hw1]; exact heap_alloc_new _ _
  obtain ⟨w2, hw2⟩ : ∃ w2, w1.alloc (.cells #[.int .i64 0, .int .i64 0] 104) = w2 := ⟨_, rfl⟩
  have HB2 : Hid (Below w.heap.size w w2) := by show Below _ _ _; rw [← hw2]; exact hB.alloc hB.size _
  have hbc : w2.heap[w.heap.size]? = some (.cells #[.int .i64 0, .int .i64 0] 104 (0, 0)) := by rw [← hw2]; exact (Below.heap_alloc _ _ _ (ac_lt hb)).trans hb
  have HG := hide (ac2 (show w2.heap[w1.heap.size]? = some (.cells #[.int .i64 0, .int .i64 0] 104 (0, 0)) by rw [← hw2]; exact heap_alloc_new _ _))
  have HD := hide (ac2 hbc)
  have HBc := hide hbc
  have HW2 := hide hw2
  obtain ⟨d0, d1⟩ := ac2 hb
  have cf := RB.bk_thaw hb
  have HB := hide hB
  have HW1 := hide hw1
  have HBb := hide hb
  have HC := hide (hc.below hB)
  have HN := hide hn
  clear hbc hw2
  rcases at_case ps n hn i with h | ⟨h, h2⟩ | ⟨k, x, rfl, hk, hx⟩
  · skip
    obtain ⟨e1, e2⟩ := at_out (l := ps) (z := ⟨0, 0⟩) (i := i) (Or.inl h)
    have HE := hide (And.intro e1 e2)
    clear e1 e2 hB hw1 hb hc hn 
    go_enter Try.func60, Try.ntmps60
    go_upto_region 1 with (fail)
    rw [HW1.out]
    clear d0 d1 cf
    go_upto_region 3 with (fail)
    rw [HW2.out]
    have cf := RB.bk_thaw HBc.out
    obtain ⟨d0, d1⟩ := HD.out
    obtain ⟨g0, g1⟩ := HG.out
    go_wp2
    refine bodyPost_ret (res_ct rfl _ _ w.heap.size #[.int .i64 0, .int .i64 0] rfl (run_loadVar_row _ _ 104 _ #[.int .i64 0, .int .i64 0] (0, 0) _ (by rw [RB.block_set (RB.block_set HBc.out _) _]; rfl) Try.underlying104 rfl (by kernel_rfl))) rfl ?_
    rw [HE.out.1, HE.out.2]
    exact ⟨rfl, (HB2.out.setCell (p := ⟨w.heap.size, 0, none⟩) (Nat.le_refl _) _).setCell (p := ⟨w.heap.size, 1, none⟩) (Nat.le_refl _) _⟩
  · skip
    obtain ⟨e1, e2⟩ := at_out (l := ps) (z := ⟨0, 0⟩) (i := i) (Or.inr (by rw [hn]; exact h2))
    have HE := hide (And.intro e1 e2)
    clear e1 e2 hB hw1 hb hc hn 
    go_enter Try.func60, Try.ntmps60
    go_upto_region 1 with (fail)
    rw [HW1.out]
    clear d0 d1 cf
    go_upto_region 3 with (fail)
    rw [HW2.out]
    have cf := RB.bk_thaw HBc.out
    obtain ⟨d0, d1⟩ := HD.out
    obtain ⟨g0, g1⟩ := HG.out
    go_wp2
    refine bodyPost_ret (res_ct rfl _ _ w.heap.size #[.int .i64 0, .int .i64 0] rfl (run_loadVar_row _ _ 104 _ #[.int .i64 0, .int .i64 0] (0, 0) _ (by rw [RB.block_set (RB.block_set HBc.out _) _]; rfl) Try.underlying104 rfl (by kernel_rfl))) rfl ?_
    rw [HE.out.1, HE.out.2]
    exact ⟨rfl, (HB2.out.setCell (p := ⟨w.heap.size, 0, none⟩) (Nat.le_refl _) _).setCell (p := ⟨w.heap.size, 1, none⟩) (Nat.le_refl _) _⟩
  · obtain ⟨e1, e2⟩ := at_in (z := ⟨0, 0⟩) hx
    have HE := hide (And.intro e1 e2)
    obtain ⟨b, o, rfl, hbl, hcl⟩ := HC.out.get (i := k) (r := linc x) (by rw [List.getElem?_map, hx]; rfl)
    obtain ⟨xc, xn⟩ := x
    have c0 := hcl 0 _ rfl
    have c1 := hcl 1 _ rfl
    rw [Nat.add_zero] at c0
    have hk' : (k : Int) < (n : Int) := by omega
    have k0' : ¬ (k : Int) < 0 := by omega
    clear e1 e2 hB hw1 hb hc hn hcl hx HW2 HBc HD HG HB2
    go_enter Try.func60, Try.ntmps60
    go_upto_region 1 with (fail)
    rw [HW1.out]
    go_wp2
    refine bodyPost_ret (res_ct rfl _ _ w.heap.size #[.int .i64 xc, .int .i64 xn] rfl (run_loadVar_row _ _ 104 _ #[.int .i64 xc, .int .i64 xn] (0, 0) _ (by rw [RB.block_set (RB.block_set HBb.out _) _]; rfl) Try.underlying104 rfl (by kernel_rfl))) rfl ?_
    rw [HE.out.1, HE.out.2]
    exact ⟨rfl, (HB.out.setCell (p := ⟨w.heap.size, 0, none⟩) (Nat.le_refl _) _).setCell (p := ⟨w.heap.size, 1, none⟩) (Nat.le_refl _) _⟩

set_option maxRecDepth 100000 in
set_option maxHeartbeats 1000000 in
theorem atPrice_gen (w : World) (p : Option Addr) (n c : Nat) (ps : List Lin) (hn : ps.length = n) (hc : Cel w p 2 (ps.map linc)) (i : Int) :
    Calls Try.prog 61 #[.slice p n c, .int .i64 i] w fun e w' => e = .returned (.tuple #[.agg (linc (getAt ps ⟨0, 0⟩ i)).toArray, .bool (hasAt ps i)]) ∧ Below w.heap.size w w' := by
  obtain ⟨w1, hw1⟩ : ∃ w1, w.alloc (.cells #[.int .i64 0, .int .i64 0] 99) = w1 := ⟨_, rfl⟩
  have hB : Below w.heap.size w w1 := by rw [← hw1]; exact (Below.refl _ _).alloc (Nat.le_refl _) _
  have hb : w1.heap[w.heap.size]? = some (.cells #[.int .i64 0, .int .i64 0] 99 (0, 0)) := by rw [← hw1]; exact heap_alloc_new _ _
  obtain ⟨w2, hw2⟩ : ∃ w2, w1.alloc (.cells #[.int .i64 0, .int .i64 0] 99) = w2 := ⟨_, rfl⟩
  have HB2 : Hid (Below w.heap.size w w2) := by show Below _ _ _; rw [← hw2]; exact hB.alloc hB.size _
  have hbc : w2.heap[w.heap.size]? = some (.cells #[.int .i64 0, .int .i64 0] 99 (0, 0)) := by rw [← hw2]; exact (Below.heap_alloc _ _ _ (ac_lt hb)).trans hb
  have HG := hide (ac2 (show w2.heap[w1.heap.size]? = some (.cells #[.int .i64 0, .int .i64 0] 99 (0, 0)) by rw [← hw2]; exact heap_alloc_new _ _))
  have HD := hide (ac2 hbc)
  have HBc := hide hbc
  have HW2 := hide hw2
  obtain ⟨d0, d1⟩ := ac2 hb
  have cf := RB.bk_thaw hb
  have HB := hide hB
  have HW1 := hide hw1
  have HBb := hide hb
  have HC := hide (hc.below hB)
  have HN := hide hn
  clear hbc hw2
  rcases at_case ps n hn i with h | ⟨h, h2⟩ | ⟨k, x, rfl, hk, hx⟩
  · skip
    obtain ⟨e1, e2⟩ := at_out (l := ps) (z := ⟨0, 0⟩) (i := i) (Or.inl h)
    have HE := hide (And.intro e1 e2)
    clear e1 e2 hB hw1 hb hc hn 
    go_enter Try.func61, Try.ntmps61
    go_upto_region 1 with (fail)
    rw [HW1.out]
    clear d0 d1 cf
    go_upto_region 3 with (fail)
    rw [HW2.out]
    have cf := RB.bk_thaw HBc.out
    obtain ⟨d0, d1⟩ := HD.out
    obtain ⟨g0, g1⟩ := HG.out
    go_wp2
    refine bodyPost_ret (res_ct rfl _ _ w.heap.size #[.int .i64 0, .int .i64 0] rfl (run_loadVar_row _ _ 99 _ #[.int .i64 0, .int .i64 0] (0, 0) _ (by rw [RB.block_set (RB.block_set HBc.out _) _]; rfl) Try.underlying99 rfl (by kernel_rfl))) rfl ?_
    rw [HE.out.1, HE.out.2]
    exact ⟨rfl, (HB2.out.setCell (p := ⟨w.heap.size, 0, none⟩) (Nat.le_refl _) _).setCell (p := ⟨w.heap.size, 1, none⟩) (Nat.le_refl _) _⟩
  · skip
    obtain ⟨e1, e2⟩ := at_out (l := ps) (z := ⟨0, 0⟩) (i := i) (Or.inr (by rw [hn]; exact h2))
    have HE := hide (And.intro e1 e2)
    clear e1 e2 hB hw1 hb hc hn 
    go_enter Try.func61, Try.ntmps61
    go_upto_region 1 with (fail)
    rw [HW1.out]
    clear d0 d1 cf
    go_upto_region 3 with (fail)
    rw [HW2.out]
    have cf := RB.bk_thaw HBc.out
    obtain ⟨d0, d1⟩ := HD.out
    obtain ⟨g0, g1⟩ := HG.out
    go_wp2
    refine bodyPost_ret (res_ct rfl _ _ w.heap.size #[.int .i64 0, .int .i64 0] rfl (run_loadVar_row _ _ 99 _ #[.int .i64 0, .int .i64 0] (0, 0) _ (by rw [RB.block_set (RB.block_set HBc.out _) _]; rfl) Try.underlying99 rfl (by kernel_rfl))) rfl ?_
    rw [HE.out.1, HE.out.2]
    exact ⟨rfl, (HB2.out.setCell (p := ⟨w.heap.size, 0, none⟩) (Nat.le_refl _) _).setCell (p := ⟨w.heap.size, 1, none⟩) (Nat.le_refl _) _⟩
  · obtain ⟨e1, e2⟩ := at_in (z := ⟨0, 0⟩) hx
    have HE := hide (And.intro e1 e2)
    obtain ⟨b, o, rfl, hbl, hcl⟩ := HC.out.get (i := k) (r := linc x) (by rw [List.getElem?_map, hx]; rfl)
    obtain ⟨xc, xn⟩ := x
    have c0 := hcl 0 _ rfl
    have c1 := hcl 1 _ rfl
    rw [Nat.add_zero] at c0
    have hk' : (k : Int) < (n : Int) := by omega
    have k0' : ¬ (k : Int) < 0 := by omega
    clear e1 e2 hB hw1 hb hc hn hcl hx HW2 HBc HD HG HB2
    go_enter Try.func61, Try.ntmps61
    go_upto_region 1 with (fail)
    rw [HW1.out]
    go_wp2
    refine bodyPost_ret (res_ct rfl _ _ w.heap.size #[.int .i64 xc, .int .i64 xn] rfl (run_loadVar_row _ _ 99 _ #[.int .i64 xc, .int .i64 xn] (0, 0) _ (by rw [RB.block_set (RB.block_set HBb.out _) _]; rfl) Try.underlying99 rfl (by kernel_rfl))) rfl ?_
    rw [HE.out.1, HE.out.2]
    exact ⟨rfl, (HB.out.setCell (p := ⟨w.heap.size, 0, none⟩) (Nat.le_refl _) _).setCell (p := ⟨w.heap.size, 1, none⟩) (Nat.le_refl _) _⟩
end Go.Proofs.Ytllpikijakilnaa
