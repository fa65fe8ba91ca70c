import Derived.Great.BuildSlice
import Derived.Test.YtiogibfhafoapaaGreatZXc
import Derived.Laws.Tables
set_option maxRecDepth 100000
set_option maxHeartbeats 8000000
set_option linter.unusedSimpArgs false
set_option linter.unusedVariables false
namespace Go.Proofs.YtiogibfhafoapaaGreat.Z
open Go.RowKit
theorem Qg0:∀(l:List Value) (k:Nat) (cs:Array Value),k+l.length≤cs.size→((l.zipIdx k).foldl (fun cs x=>cs.setIfInBounds (0+x.2) x.1) cs).toList=cs.toList.take k++l++cs.toList.drop (k+l.length)
 | [],k,cs,_=>by simp
 | v :: l,k,cs,h=>by
  simp only[List.zipIdx_cons,VI];simp only[VO]at h;rw[Qg0 l (k+1) _ (by rw[Array.size_setIfInBounds];omega)];simp only[Nat.zero_add,Array.toList_setIfInBounds,VO];have hk:k<cs.toList.length:=by simp;omega
  rw[VS,Vn hk,List.take_set,List.drop_set,if_pos (by omega)];rw[List.set_eq_of_length_le (by simp;omega)];simp[Nat.add_assoc,Nat.add_comm 1]
theorem Qkk {sz:Nat} (Z E:Array Value) (hZ:Z.size=sz) (hE:E.size=sz):Instr.fill (fun i=>some (i*sz,sz)) Z [(0,.agg E)]=some E:=by
 have h:(E.zipIdx.foldl (fun cs (x:Value × Nat)=>cs.setIfInBounds (0*sz+x.2) x.1) Z)=E:=by
  rw[←Array.foldl_toList,Array.toList_zipIdx];apply Array.ext';have:=Qg0 E.toList 0 Z (by simp;omega);simp only[Nat.zero_mul];rw[this];simp;omega
 simp only[Instr.fill,Value.cells,hE,hZ];rw[if_neg (by simp)];exact Vl some h
theorem wp_build_one {o:Oper} {a:Act} {w:World} {K:Act→World→Prop} {Q:Exit→Act→World→Prop} (t e:TypeId) (x:Operand) (ho:o.op=.buildSlice t 1 #[(0,x)]) (E:Array Value) (hx:a.eval x=.agg E) (sz:Nat) (hpos:0<sz) (hsm:sz≤512) (hu:Tryz.prog.underlying t=some (.slice e)) (hi:∃i z,Tryz.prog.info? e=some i∧i.zero=some z∧i.size=sz) (hE:E.size=sz)
  (h:K (a.put o.dst (.slice (some ⟨w.heap.size,0,none⟩) 1 1)) (w.alloc (.cells E e))):o.wp Tryz.prog a w K Q:=by
 obtain⟨i,z,h1,h2,h3⟩:=hi;refine wp_buildSlice t e 1 #[(0,x)] ho E i z hu h1 h2 (by rw[h3];omega) (by rw[h3];omega) ?_ h;rw[h3];have:(#[(0,x)].map fun (i,x)=>(i,a.eval x)).toList=[(0,Value.agg E)]:=by simp[hx]
 rw[this];exact Qkk _ E (by simp) hE
end Go.Proofs.YtiogibfhafoapaaGreat.Z
namespace Go.Proofs.YtiogibfhafoapaaGreat.Z
open Go.RowKit
theorem lp_built {ops:Array Oper} {rest:List Oper} {o:Oper} {a:Act} {w:World} {Q:Exit→Act→World→Prop} (hg:o.guard=none) (t:TypeId) (parts:Array (Nat × Operand)) (ho:o.op=.build t parts) (vs:List (Nat × Value)) (hv:(parts.toList.map fun x=>(x.1,a.eval x.2))=vs) (cells:Array Value) (hb:Tryz.prog.built t vs=some cells)
  (h:wpList Tryz.prog ops Q rest (a.put o.dst (.agg cells)) w):wpList Tryz.prog ops Q (o :: rest) a w:=by
 have e:(parts.map fun (i,x)=>(i,a.eval x)).toList=vs:=by rw[Array.toList_map];exact hv
 refine wpList_build hg t parts ho (by rw[e,hb];rfl) ?_;rw[e,hb];exact h
end Go.Proofs.YtiogibfhafoapaaGreat.Z
