import Derived.RangeFuncNested
import Derived.RangeFuncBound
import Derived.RangeFuncCalls
import Derived.RangeFuncLeaves
import Derived.Shelf.Abstract
import Derived.Shelf.RegionOpen
import Derived.OwnWalkIn
import Derived.TacticsInMore
import Derived.LoopNIn
import Derived.LoopIn
import Derived.RegionIn
import Derived.Deep.MidRow
import Derived.Deep.WholeRow
import Derived.Test.YtiogibfhafoapaaGreatAcA
set_option maxRecDepth 100000
set_option maxHeartbeats 8000000
set_option linter.unusedSimpArgs false
set_option linter.unusedVariables false
namespace Go.Proofs.YtiogibfhafoapaaGreat.Z
open Go.RowKit
structure Sli (α:Type) where
 p:Option Addr
 n:Nat
 c:Nat
 xs:List α
structure QaE {α:Type} (w:World) (sz:Nat) (f:α→List Value) (s:Sli α):Prop where
 len:s.xs.length=s.n
 most:s.n≤4194304
 cel:Cel w s.p sz (s.xs.map f)
theorem QaE.below {α:Type} {w w':World} {sz:Nat} {f:α→List Value} {s:Sli α} (h:QaE w sz f s) (hb:Below w.heap.size w w'):QaE w' sz f s:=⟨h.len,h.most,h.cel.below hb⟩
structure Acd where
 till:Int
 num:Int
 kind:Int
 sure:Bool
 lines:Sli Lin
 guards:Sli Tri
 sets:Sli Tri
 mg:Int
 other:Sli Lin
 ra:Int
 rb:Int
 rd:Int
 to:Int
 gen:Int
 rights:Sli Tri
def Acd.list (a:Acd):List Value:=[.int .i64 a.till,.int .u64 a.num,.int .i64 a.kind,.bool a.sure,.slice a.lines.p a.lines.n a.lines.c,.slice a.guards.p a.guards.n a.guards.c,.slice a.sets.p a.sets.n a.sets.c,.int .i64 a.mg,.slice a.other.p a.other.n a.other.c,.int .i64 a.ra,.int .i64 a.rb,.int .i64 a.rd,.int .i64 a.to,.int .u64 a.gen,.slice a.rights.p a.rights.n a.rights.c]
def Acd.arr (a:Acd):Array Value:=#[.int .i64 a.till,.int .u64 a.num,.int .i64 a.kind,.bool a.sure,.slice a.lines.p a.lines.n a.lines.c,.slice a.guards.p a.guards.n a.guards.c,.slice a.sets.p a.sets.n a.sets.c,.int .i64 a.mg,.slice a.other.p a.other.n a.other.c,.int .i64 a.ra,.int .i64 a.rb,.int .i64 a.rd,.int .i64 a.to,.int .u64 a.gen,.slice a.rights.p a.rights.n a.rights.c]
structure Qad (w:World) (a:Acd):Prop where
 lines:QaE w 2 Qal a.lines
 guards:QaE w 3 Qar a.guards
 sets:QaE w 3 Qar a.sets
 other:QaE w 2 Qal a.other
 rights:QaE w 3 Qar a.rights
theorem Qad.below {w w':World} {a:Acd} (h:Qad w a) (hb:Below w.heap.size w w'):Qad w' a :=
 ⟨h.lines.below hb,h.guards.below hb,h.sets.below hb,h.other.below hb,h.rights.below hb⟩
structure Eda where
 po:Int
 ac:Acd
 oc:Int
 made:Sli Lin
 sets:Sli Tri
 n:Int
 fe:Int
 ge:Int
def Eda.arr (e:Eda):Array Value:=#[.int .u64 e.po,.int .i64 e.ac.till,.int .u64 e.ac.num,.int .i64 e.ac.kind,.bool e.ac.sure,.slice e.ac.lines.p e.ac.lines.n e.ac.lines.c,.slice e.ac.guards.p e.ac.guards.n e.ac.guards.c,.slice e.ac.sets.p e.ac.sets.n e.ac.sets.c,.int .i64 e.ac.mg,.slice e.ac.other.p e.ac.other.n e.ac.other.c,.int .i64 e.ac.ra,.int .i64 e.ac.rb,.int .i64 e.ac.rd,.int .i64 e.ac.to,.int .u64 e.ac.gen,.slice e.ac.rights.p e.ac.rights.n e.ac.rights.c,.int .i64 e.oc,.slice e.made.p e.made.n e.made.c,.slice e.sets.p e.sets.n e.sets.c,.int .i64 e.n,.int .i64 e.fe,.int .u64 e.ge]
theorem Eda.ones (e:Eda):e.arr.all (·.oneCell')=true:=by simp[Eda.arr,Value.oneCell']
theorem Acd.ones (a:Acd):a.arr.all (·.oneCell')=true:=by simp[Acd.arr,Value.oneCell']
def Qaw (x:Lin):Prop:=(Lit.int .i64 x.c).wf=true∧(Lit.int .i64 x.n).wf=true
structure QaP (w:World) (e:Eda):Prop where
 ac:Qad w e.ac
 made:QaE w 2 Qal e.made
 sets:QaE w 3 Qar e.sets
 wf:∀x∈e.made.xs,Qaw x
theorem QaP.below {w w':World} {e:Eda} (h:QaP w e) (hb:Below w.heap.size w w'):QaP w' e :=
 ⟨h.ac.below hb,h.made.below hb,h.sets.below hb,h.wf⟩
theorem take_snoc {α:Type} {xs:List α} {k:Nat} {x:α} (h:xs[k]?=some x):xs.take (k+1)=xs.take k++[x]:=by rw[VS,h];rfl
theorem Qda {a b:Bool} (h:a=b):Ending.returned (.bool b)=.returned (.bool a):=by rw[h]
theorem Qec {W W':World} {r:Option Nat} (h:W.grownBy W' r):W.grownBy W'.drew r:=⟨h.os,h.tape,h.output,h.size,h.block⟩
theorem Qca {W W':World} {r:Option Nat} (h:W.drew.grownBy W' r):W.grownBy W' r:=⟨h.os,h.tape,h.output,h.size,h.block⟩
theorem lp_load {P:Program} {ops:Array Oper} {rest:List Oper} {a:Act} {w:World} {Q:Exit→Act→World→Prop} {dst:Option Tmp} {t ty:TypeId} {x:Operand} {pos:String} {after:Array Edge} (b o:Nat) (A:Array Value)
  (hx:a.eval x=.pointer (some ⟨b,o,none⟩)) (hr:(Instr.loadAt t (.pointer (some ⟨b,o,none⟩))).run P w=.ok (.agg A) w) (h:wpList P ops Q rest (a.put dst (.agg A)) w) :
  wpList P ops Q (⟨dst,.load t x,ty,pos,after,none⟩ :: rest) a w:=by
 refine wpList_plain rfl fun K hK=>?_
 unfold Oper.wp;simp[execOp,hx,hr,Result.andThen];exact hK _ _ h
theorem lp_store {P:Program} {ops:Array Oper} {rest:List Oper} {a:Act} {w w':World} {Q:Exit→Act→World→Prop} {dst:Option Tmp} {t ty:TypeId} {x y:Operand} {pos:String} {after:Array Edge} (p:Option Addr) (v:Value)
  (hx:a.eval x=.pointer p) (hy:a.eval y=v) (hr:(Instr.storeAt t (.pointer p) v).run P w=.ok () w') (h:wpList P ops Q rest (a.put dst undef) w') :
  wpList P ops Q (⟨dst,.store t x y,ty,pos,after,none⟩ :: rest) a w:=by
 refine wpList_plain rfl fun K hK=>?_
 unfold Oper.wp;simp[execOp,hx,hy,hr,Result.andThen];exact hK _ _ h
theorem storeAt_row {P:Program} {w:World} {g:Nat} {t:TypeId} {c c':Array Value} (hg:w.heap[g]?=some (.cells c t (0,0))) (hi:(P.info? t).map (·.size)=some c'.size) (ho:c.size=c'.size) (h1:c'.all (·.oneCell')=true) :
  (Instr.storeAt t (.pointer (some ⟨g,0,none⟩)) (.agg c')).run P w=.ok () (w.setRow g c'):=by
 simp only[Instr.storeAt,Instr.sureAddr,Sem.run_bind,Sem.run_pure,Result.andThen];exact run_storeVar_row w g t t c c' hg hi ho h1
theorem loadAt_row {P:Program} {w:World} {g:Nat} {t ty:TypeId} {c:Array Value} {fr:Nat × Nat} {d:TypeDesc} (hg:w.heap[g]?=some (.cells c t fr)) (hu:P.underlying ty=some d) (hd:d.isRow=true) (hi:(P.info? ty).map (·.size)=some c.size) :
  (Instr.loadAt ty (.pointer (some ⟨g,0,none⟩))).run P w=.ok (.agg c) w:=by
 have h:=VX (P:=P) w g 0 ty c.toList d (fun j v hv=>by rw[cRq hg,Nat.zero_add];simpa using hv) hu hd (by simpa using hi);rw[Array.toArray_toList]at h;exact h
theorem _root_.Go.Proofs.YtiogibfhafoapaaGreat.lr136 {w : World} {g : Nat} {t : TypeId} {c : Array Value} {fr : Nat × Nat} (h : w.heap[g]? = some (Obj.cells c t fr)) (hz : Option.map (fun x => x.size) (Tryz.prog.info? 136) = some c.size) : Sem.run Tryz.prog (Instr.loadAt 136 (Value.pointer (some ⟨g, 0, none⟩))) w = Result.ok (Value.agg c) w := loadAt_row h Tryz.underlying136 rfl hz
theorem _root_.Go.Proofs.YtiogibfhafoapaaGreat.lr34 {w : World} {g : Nat} {t : TypeId} {c : Array Value} {fr : Nat × Nat} (h : w.heap[g]? = some (Obj.cells c t fr)) (hz : Option.map (fun x => x.size) (Tryz.prog.info? 34) = some c.size) : Sem.run Tryz.prog (Instr.loadAt 34 (Value.pointer (some ⟨g, 0, none⟩))) w = Result.ok (Value.agg c) w := loadAt_row h Tryz.underlying34 rfl hz
theorem _root_.Go.Proofs.YtiogibfhafoapaaGreat.lr42 {w : World} {g : Nat} {t : TypeId} {c : Array Value} {fr : Nat × Nat} (h : w.heap[g]? = some (Obj.cells c t fr)) (hz : Option.map (fun x => x.size) (Tryz.prog.info? 42) = some c.size) : Sem.run Tryz.prog (Instr.loadAt 42 (Value.pointer (some ⟨g, 0, none⟩))) w = Result.ok (Value.agg c) w := loadAt_row h Tryz.underlying42 rfl hz
theorem _root_.Go.Proofs.YtiogibfhafoapaaGreat.lr55 {w : World} {g : Nat} {t : TypeId} {c : Array Value} {fr : Nat × Nat} (h : w.heap[g]? = some (Obj.cells c t fr)) (hz : Option.map (fun x => x.size) (Tryz.prog.info? 55) = some c.size) : Sem.run Tryz.prog (Instr.loadAt 55 (Value.pointer (some ⟨g, 0, none⟩))) w = Result.ok (Value.agg c) w := loadAt_row h Tryz.underlying55 rfl hz
theorem _root_.Go.Proofs.YtiogibfhafoapaaGreat.lr57 {w : World} {g : Nat} {t : TypeId} {c : Array Value} {fr : Nat × Nat} (h : w.heap[g]? = some (Obj.cells c t fr)) (hz : Option.map (fun x => x.size) (Tryz.prog.info? 57) = some c.size) : Sem.run Tryz.prog (Instr.loadAt 57 (Value.pointer (some ⟨g, 0, none⟩))) w = Result.ok (Value.agg c) w := loadAt_row h Tryz.underlying57 rfl hz
theorem _root_.Go.Proofs.YtiogibfhafoapaaGreat.lr61 {w : World} {g : Nat} {t : TypeId} {c : Array Value} {fr : Nat × Nat} (h : w.heap[g]? = some (Obj.cells c t fr)) (hz : Option.map (fun x => x.size) (Tryz.prog.info? 61) = some c.size) : Sem.run Tryz.prog (Instr.loadAt 61 (Value.pointer (some ⟨g, 0, none⟩))) w = Result.ok (Value.agg c) w := loadAt_row h Tryz.underlying61 rfl hz
end Go.Proofs.YtiogibfhafoapaaGreat.Z
namespace Go.Proofs.YtiogibfhafoapaaGreat
open Go.RowKit
open Z (Acd)
abbrev qA (a:Acd):Array Value:=#[.int .i64 a.till,.int .u64 a.num,.int .i64 a.kind,.bool a.sure,.slice a.lines.p a.lines.n a.lines.c,.slice a.guards.p a.guards.n a.guards.c,.slice a.sets.p a.sets.n a.sets.c,.int .i64 a.mg,.slice a.other.p a.other.n a.other.c,.int .i64 a.ra,.int .i64 a.rb,.int .i64 a.rd,.int .i64 a.to,.int .u64 a.gen,.slice a.rights.p a.rights.n a.rights.c]
end Go.Proofs.YtiogibfhafoapaaGreat
