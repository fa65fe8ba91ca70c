import Derived.Laws.Tables
import Derived.Test.YtfbegfapoijbnaaGreatZBl
set_option maxRecDepth 100000
namespace Go.Proofs.YtfbegfapoijbnaaGreat.Z
open Go.RowKit
theorem lp_built {ops:Array Oper} {rest:List Oper} {o:Oper} {a:Act} {w:World} {Q:Exit→Act→World→Prop} (hg:o.guard=none) (t:TypeId) (parts:Array (Nat × Operand)) (ho:o.op=.build t parts) (vs:List (Nat × Value)) (hv:(parts.toList.map fun x=>(x.1,a.eval x.2))=vs) (cells:Array Value) (hb:Tryz.prog.built t vs=some cells)
  (h:wpList Tryz.prog ops Q rest (a.put o.dst (.agg cells)) w):wpList Tryz.prog ops Q (o :: rest) a w:=by
 have e:(parts.map fun (i,x)=>(i,a.eval x)).toList=vs:=by rw[Array.toList_map];exact hv
 refine wpList_build hg t parts ho (by rw[e,hb];rfl) ?_
 rw[e,hb]
 exact h
end Go.Proofs.YtfbegfapoijbnaaGreat.Z
