import Derived.Test.YtfdanocpbhbieaaGreatAcA
import Derived.RangeFuncNested
import Derived.RangeFuncBound
import Derived.RangeFuncCalls
import Derived.RangeFuncLeaves
import Derived.Shelf.Abstract
import Derived.Shelf.RegionOpen
import Derived.OwnWalkIn
import Derived.TacticsInMore
import Derived.LoopNIn
import Derived.LoopIn
import Derived.RegionIn
import Derived.Deep.MidRow
import Derived.Deep.WholeRow
namespace Go.Proofs.YtfdanocpbhbieaaGreat.Z
open Go.RowKit

/-- A slice: where it lies, and what lies there. -/
structure Sli (α : Type) where
  p : Option Addr
  n : Nat
  c : Nat
  xs : List α
def Sli.v {α : Type} (s : Sli α) : Value := .slice s.p s.n s.c
/-- Rows of elements of sz cells, as f tells them. -/
structure SlOk {α : Type} (w : World) (sz : Nat) (f : α → List Value) (s : Sli α) : Prop where
  len : s.xs.length = s.n
  most : s.n ≤ 4194304
  cel : Cel w s.p sz (s.xs.map f)
theorem SlOk.below {α : Type} {w w' : World} {sz : Nat} {f : α → List Value} {s : Sli α} (h : SlOk w sz f s) (hb : Below w.heap.size w w') : SlOk w' sz f s := ⟨h.len, h.most, h.cel.below hb⟩
/-- An act as data. -/
structure Acd where
  till : Int
  num : Int
  kind : Int
  sure : Bool
  lines : Sli Lin
  guards : Sli Tri
  sets : Sli Tri
  mg : Int
  other : Sli Lin
  ra : Int
  rb : Int
  rd : Int
  to : Int
  gen : Int
  rights : Sli Tri
def Acd.list (a : Acd) : List Value := [.int .i64 a.till, .int .u64 a.num, .int .i64 a.kind, .bool a.sure, .slice a.lines.p a.lines.n a.lines.c, .slice a.guards.p a.guards.n a.guards.c, .slice a.sets.p a.sets.n a.sets.c, .int .i64 a.mg, .slice a.other.p a.other.n a.other.c, .int .i64 a.ra, .int .i64 a.rb, .int .i64 a.rd, .int .i64 a.to, .int .u64 a.gen, .slice a.rights.p a.rights.n a.rights.c]
def Acd.arr (a : Acd) : Array Value := #[.int .i64 a.till, .int .u64 a.num, .int .i64 a.kind, .bool a.sure, .slice a.lines.p a.lines.n a.lines.c, .slice a.guards.p a.guards.n a.guards.c, .slice a.sets.p a.sets.n a.sets.c, .int .i64 a.mg, .slice a.other.p a.other.n a.other.c, .int .i64 a.ra, .int .i64 a.rb, .int .i64 a.rd, .int .i64 a.to, .int .u64 a.gen, .slice a.rights.p a.rights.n a.rights.c]
structure AcdOk (w : World) (a : Acd) : Prop where
  lines : SlOk w 2 linc a.lines
  guards : SlOk w 3 tric a.guards
  sets : SlOk w 3 tric a.sets
  other : SlOk w 2 linc a.other
  rights : SlOk w 3 tric a.rights
theorem AcdOk.below {w w' : World} {a : Acd} (h : AcdOk w a) (hb : Below w.heap.size w w') : AcdOk w' a :=
  ⟨h.lines.below hb, h.guards.below hb, h.sets.below hb, h.other.below hb, h.rights.below hb⟩
/-- An entry as data. -/
structure Eda where
  po : Int
  ac : Acd
  oc : Int
  made : Sli Lin
  sets : Sli Tri
  n : Int
  fe : Int
  ge : Int
def Eda.list (e : Eda) : List Value := [.int .u64 e.po, .int .i64 e.ac.till, .int .u64 e.ac.num, .int .i64 e.ac.kind, .bool e.ac.sure, .slice e.ac.lines.p e.ac.lines.n e.ac.lines.c, .slice e.ac.guards.p e.ac.guards.n e.ac.guards.c, .slice e.ac.sets.p e.ac.sets.n e.ac.sets.c, .int .i64 e.ac.mg, .slice e.ac.other.p e.ac.other.n e.ac.other.c, .int .i64 e.ac.ra, .int .i64 e.ac.rb, .int .i64 e.ac.rd, .int .i64 e.ac.to, .int .u64 e.ac.gen, .slice e.ac.rights.p e.ac.rights.n e.ac.rights.c, .int .i64 e.oc, .slice e.made.p e.made.n e.made.c, .slice e.sets.p e.sets.n e.sets.c, .int .i64 e.n, .int .i64 e.fe, .int .u64 e.ge]
def Eda.arr (e : Eda) : Array Value := #[.int .u64 e.po, .int .i64 e.ac.till, .int .u64 e.ac.num, .int .i64 e.ac.kind, .bool e.ac.sure, .slice e.ac.lines.p e.ac.lines.n e.ac.lines.c, .slice e.ac.guards.p e.ac.guards.n e.ac.guards.c, .slice e.ac.sets.p e.ac.sets.n e.ac.sets.c, .int .i64 e.ac.mg, .slice e.ac.other.p e.ac.other.n e.ac.other.c, .int .i64 e.ac.ra, .int .i64 e.ac.rb, .int .i64 e.ac.rd, .int .i64 e.ac.to, .int .u64 e.ac.gen, .slice e.ac.rights.p e.ac.rights.n e.ac.rights.c, .int .i64 e.oc, .slice e.made.p e.made.n e.made.c, .slice e.sets.p e.sets.n e.sets.c, .int .i64 e.n, .int .i64 e.fe, .int .u64 e.ge]
theorem Eda.size (e : Eda) : e.arr.size = 22 := rfl
theorem Eda.ones (e : Eda) : e.arr.all (·.oneCell') = true := by simp [Eda.arr, Value.oneCell']
theorem Acd.ones (a : Acd) : a.arr.all (·.oneCell') = true := by simp [Acd.arr, Value.oneCell']
theorem Acd.size (a : Acd) : a.arr.size = 15 := rfl
def LinWf (x : Lin) : Prop := (Lit.int .i64 x.c).wf = true ∧ (Lit.int .i64 x.n).wf = true
structure EdaOk (w : World) (e : Eda) : Prop where
  ac : AcdOk w e.ac
  made : SlOk w 2 linc e.made
  sets : SlOk w 3 tric e.sets
  wf : ∀ x ∈ e.made.xs, LinWf x
theorem EdaOk.below {w w' : World} {e : Eda} (h : EdaOk w e) (hb : Below w.heap.size w w') : EdaOk w' e :=
  ⟨h.ac.below hb, h.made.below hb, h.sets.below hb, h.wf⟩
structure Acts (w : World) (s : Sli Acd) : Prop where
  row : SlOk w 15 Acd.list s
  each : ∀ e ∈ s.xs, AcdOk w e
theorem Acts.below {w w' : World} {s : Sli Acd} (h : Acts w s) (hb : Below w.heap.size w w') : Acts w' s := ⟨h.row.below hb, fun e he => (h.each e he).below hb⟩
/-- A block of cells that is there stays where nothing but the row has turned. -/
theorem take_snoc {α : Type} {xs : List α} {k : Nat} {x : α} (h : xs[k]? = some x) : xs.take (k + 1) = xs.take k ++ [x] := by rw [List.take_add_one, h]; rfl
theorem retB {a b : Bool} (h : a = b) : Ending.returned (.bool b) = .returned (.bool a) := by rw [h]
theorem grown_drew {W W' : World} {r : Option Nat} (h : W.grownBy W' r) : W.grownBy W'.drew r := ⟨h.os, h.tape, h.output, h.size, h.block⟩
theorem grown_of_drew {W W' : World} {r : Option Nat} (h : W.drew.grownBy W' r) : W.grownBy W' r := ⟨h.os, h.tape, h.output, h.size, h.block⟩
/-- Many cells at once, as the walk meets them. -/
theorem load_mid {P : Program} {w : World} {b o n : Nat} {cs : List Value} {A : Array Value} (hA : A = cs.toArray) (hn : cs.length = n) (hc : ∀ j v, cs[j]? = some v → w.cell? ⟨b, o + j, none⟩ = some v) : (loadCellsFrom ⟨b, o, none⟩ 0 n #[]).run P w = .ok A w := by
  subst hA hn
  have := run_loadCells_list (P := P) w ⟨b, o, none⟩ cs (fun j v hv => by rw [Addr.add_mid]; exact hc j v hv)
  simpa [loadCells] using this
theorem load_new {P : Program} (w : World) (t : TypeId) (A : Array Value) (n : Nat) (hn : A.size = n) : (loadCellsFrom ⟨w.heap.size, 0, none⟩ 0 n #[]).run P (w.alloc (.cells A t)) = .ok A (w.alloc (.cells A t)) := run_loadCellsFrom_new w t A n hn
theorem load_blk {P : Program} {w : World} {b : Nat} {t : TypeId} {A : Array Value} {n : Nat} (h : w.heap[b]? = some (.cells A t (0, 0))) (hn : A.size = n) : (loadCellsFrom ⟨b, 0, none⟩ 0 n #[]).run P w = .ok A w :=
  load_mid (cs := A.toList) (by simp) (by simpa using hn) (fun j v hv => by simp [World.cell?, h]; simpa using hv)
/-- A whole struct out of the middle of a block, and into a new one: the operations in a list. -/
theorem li_loadw {F : Fence} {n : Nat} {P : Program} {ops : Array Oper} {rest : List Oper} {a : Act} {w : World} {Q : Exit → Act → World → Prop} {dst : Option Tmp} {t ty : TypeId} {x : Operand} {pos : String} {after : Array Edge} {gd : Option (Nat × Bool)} (b o : Nat) (A : Array Value)
    (hw : Region.wanted ⟨dst, .load t x, ty, pos, after, gd⟩ (yielded ops a.tmps) = true) (hx : a.eval x = .pointer (some ⟨b, o, none⟩)) (hr : (Instr.loadAt t (.pointer (some ⟨b, o, none⟩))).run P w = .ok (.agg A) w) (h : wpListIn F n P ops Q rest (a.put dst (.agg A)) w) :
    wpListIn F n P ops Q (⟨dst, .load t x, ty, pos, after, gd⟩ :: rest) a w := by
  refine wpListIn_step fun K hK => ?_
  rw [if_pos hw]
  unfold Oper.wpIn
  refine ⟨?_, ?_⟩
  · simp [Oper.about]
  · rw [Oper.semAt_plain F _ _ (by intro c hc'; cases hc')]
    simp [execOp, hx, hr, Result.andThen]
    exact hK _ _ h
theorem li_load {F : Fence} {n : Nat} {P : Program} {ops : Array Oper} {rest : List Oper} {a : Act} {w : World} {Q : Exit → Act → World → Prop} {dst : Option Tmp} {t ty : TypeId} {x : Operand} {pos : String} {after : Array Edge} (b o : Nat) (A : Array Value)
    (hx : a.eval x = .pointer (some ⟨b, o, none⟩)) (hr : (Instr.loadAt t (.pointer (some ⟨b, o, none⟩))).run P w = .ok (.agg A) w) (h : wpListIn F n P ops Q rest (a.put dst (.agg A)) w) :
    wpListIn F n P ops Q (⟨dst, .load t x, ty, pos, after, none⟩ :: rest) a w := li_loadw b o A rfl hx hr h
theorem li_store {F : Fence} {n : Nat} {P : Program} {ops : Array Oper} {rest : List Oper} {a : Act} {w w' : World} {Q : Exit → Act → World → Prop} {dst : Option Tmp} {t ty : TypeId} {x y : Operand} {pos : String} {after : Array Edge} (p : Option Addr) (v : Value)
    (hx : a.eval x = .pointer p) (hy : a.eval y = v) (hr : (Instr.storeAt t (.pointer p) v).run P w = .ok () w') (h : wpListIn F n P ops Q rest (a.put dst undef) w') :
    wpListIn F n P ops Q (⟨dst, .store t x y, ty, pos, after, none⟩ :: rest) a w := by
  refine wpListIn_plain rfl fun K hK => ?_
  unfold Oper.wpIn
  refine ⟨?_, ?_⟩
  · simp [Oper.about]
  · rw [Oper.semAt_plain F _ _ (by intro c hc'; cases hc')]
    simp [execOp, hx, hy, hr, Result.andThen]
    exact hK _ _ h
theorem lp_load {P : Program} {ops : Array Oper} {rest : List Oper} {a : Act} {w : World} {Q : Exit → Act → World → Prop} {dst : Option Tmp} {t ty : TypeId} {x : Operand} {pos : String} {after : Array Edge} (b o : Nat) (A : Array Value)
    (hx : a.eval x = .pointer (some ⟨b, o, none⟩)) (hr : (Instr.loadAt t (.pointer (some ⟨b, o, none⟩))).run P w = .ok (.agg A) w) (h : wpList P ops Q rest (a.put dst (.agg A)) w) :
    wpList P ops Q (⟨dst, .load t x, ty, pos, after, none⟩ :: rest) a w := by
  refine wpList_plain rfl fun K hK => ?_
  unfold Oper.wp
  simp [execOp, hx, hr, Result.andThen]
  exact hK _ _ h
theorem lp_store {P : Program} {ops : Array Oper} {rest : List Oper} {a : Act} {w w' : World} {Q : Exit → Act → World → Prop} {dst : Option Tmp} {t ty : TypeId} {x y : Operand} {pos : String} {after : Array Edge} (p : Option Addr) (v : Value)
    (hx : a.eval x = .pointer p) (hy : a.eval y = v) (hr : (Instr.storeAt t (.pointer p) v).run P w = .ok () w') (h : wpList P ops Q rest (a.put dst undef) w') :
    wpList P ops Q (⟨dst, .store t x y, ty, pos, after, none⟩ :: rest) a w := by
  refine wpList_plain rfl fun K hK => ?_
  unfold Oper.wp
  simp [execOp, hx, hy, hr, Result.andThen]
  exact hK _ _ h
theorem storeAt_row {P : Program} {w : World} {g : Nat} {t : TypeId} {c c' : Array Value} (hg : w.heap[g]? = some (.cells c t (0, 0))) (hi : (P.info? t).map (·.size) = some c'.size) (ho : c.size = c'.size) (h1 : c'.all (·.oneCell') = true) :
    (Instr.storeAt t (.pointer (some ⟨g, 0, none⟩)) (.agg c')).run P w = .ok () (w.setRow g c') := by
  simp only [Instr.storeAt, Instr.sureAddr, Sem.run_bind, Sem.run_pure, Result.andThen]
  exact run_storeVar_row w g t t c c' hg hi ho h1
theorem loadAt_row {P : Program} {w : World} {g : Nat} {t ty : TypeId} {c : Array Value} {fr : Nat × Nat} {d : TypeDesc} (hg : w.heap[g]? = some (.cells c t fr)) (hu : P.underlying ty = some d) (hd : d.isRow = true) (hi : (P.info? ty).map (·.size) = some c.size) :
    (Instr.loadAt ty (.pointer (some ⟨g, 0, none⟩))).run P w = .ok (.agg c) w := by
  have h := run_loadAt_mid (P := P) w g 0 ty c.toList d (fun j v hv => by rw [cell_of_row _ _ _ _ _ _ hg, Nat.zero_add]; simpa using hv) hu hd (by simpa using hi)
  rw [Array.toArray_toList] at h
  exact h
theorem act_in (e : Eda) : ∀ (j : Nat) (v : Value), e.ac.list[j]? = some v → e.arr[1 + j]? = some v := fun j v hv => by
  have h : j < 15 := (List.getElem?_eq_some_iff.1 hv).1
  match j, h with
  | 0, _ => exact hv
  | 1, _ => exact hv
  | 2, _ => exact hv
  | 3, _ => exact hv
  | 4, _ => exact hv
  | 5, _ => exact hv
  | 6, _ => exact hv
  | 7, _ => exact hv
  | 8, _ => exact hv
  | 9, _ => exact hv
  | 10, _ => exact hv
  | 11, _ => exact hv
  | 12, _ => exact hv
  | 13, _ => exact hv
  | 14, _ => exact hv
/-- What the till's own entries are. -/
def ownB (till : Int) (e : Eda) : Bool := !decide (e.ac.kind = 0) && decide (e.ac.till = till)
def wrB (till : Int) (e : Eda) : Bool := ownB till e && decide (e.ac.kind = 1)
def waB (till : Int) (a : Acd) : Bool := decide (a.kind = 1) && decide (a.till = till)
end Go.Proofs.YtfdanocpbhbieaaGreat.Z
