import Derived.Laws.BytesArg
import Derived.Lib.JoinLaws
import Derived.Test.YtiogibfhafoapaaGreatAbA
set_option maxRecDepth 100000
set_option maxHeartbeats 8000000
set_option linter.unusedSimpArgs false
set_option linter.unusedVariables false
namespace Go.Proofs.YtiogibfhafoapaaGreat.Z
open Go.RowKit
def flat {α:Type} (f:α→List Value) (xs:List α):List Value:=xs.flatMap f
theorem flat_snoc {α:Type} (f:α→List Value) (xs:List α) (x:α):flat f (xs++[x])=flat f xs++f x:=by simp[flat]
theorem flat_app {α:Type} (f:α→List Value) (xs ys:List α):flat f (xs++ys)=flat f xs++flat f ys:=by simp[flat]
section
variable {α : Type} {f : α → List Value} {sz : Nat} (hf : ∀ x, (f x).length = sz)
include hf
theorem flat_len (xs:List α):(flat f xs).length=xs.length*sz:=by
 induction xs with
 | nil=>simp[flat]
 | cons x xs ih =>
  have:flat f (x :: xs)=f x++flat f xs:=rfl;rw[this,VJ,ih,VO,hf x,Nat.add_mul,Nat.one_mul,Nat.add_comm]
theorem QaF (xs:List α):∀(i:Nat) (x:α),xs[i]?=some x→∀(j:Nat) (v:Value),(f x)[j]?=some v→(flat f xs)[i*sz+j]?=some v:=by
 induction xs with
 | nil=>intro i x h;simp at h
 | cons y xs ih =>
  intro i x h j v hv;have e:flat f (y :: xs)=f y++flat f xs:=rfl
  cases i with
  | zero =>
   simp at h;subst h;rw[e,Nat.zero_mul,Nat.zero_add,List.getElem?_append_left]
   ·exact hv
   ·exact(Vd.1 hv).1
  | succ i =>
   have:=ih i x (by simpa using h) j v hv;rw[e,List.getElem?_append_right (by rw[hf y,Nat.add_mul];omega),hf y,Nat.add_mul];rw[show i*sz+1*sz+j - sz=i*sz+j by omega];exact this
theorem cel_row {w:World} {B n c:Nat} {a:Option Addr} {xs:List α} {e:TypeId} (h:w.ownsRow B e sz (.slice a n c) n (flat f xs)) (hl:xs.length=n):Cel w a sz (xs.map f):=by
 rcases h.2 with ⟨h1,h2⟩ | ⟨g,cap,cur,h1,_,hg,_,_,_,ht⟩
 ·left
  rw[h2]at hl;rw[List.eq_nil_of_length_eq_zero hl];rfl
 ·simp only[Value.slice.injEq]at h1
  refine Or.inr ⟨g,0,h1.1,Qab hg,fun i r hr j v hv=>?_⟩;rw[Vb]at hr
  cases hx:xs[i]? with
  | none=>rw[hx]at hr;simp at hr
  | some x =>
   rw[hx]at hr;simp at hr;subst hr;have h3:=QaF hf xs i x hx j v hv
   have hil:i*sz+j<n*sz:=by
    have h4:=(Vd.1 h3).1;rw[flat_len hf,hl]at h4;exact h4
   rw[←ht,List.getElem?_take_of_lt hil]at h3;rw[Nat.zero_add];simp only[World.cell?,hg];simp only[Option.isSome_none,Bool.false_eq_true,if_false];rw[←Array.getElem?_toList,h3]
theorem cel_cells {w:World} {p:Option Addr} {xs:List α} {b o:Nat} (hsz:0<sz) (hp:p=some ⟨b,o,none⟩) (h:Cel w p sz (xs.map f)):∀(t:Nat) (u:Value),(flat f xs)[t]?=some u→w.cell? ((⟨b,o,none⟩:Addr).add t)=some u:=by
 intro t u hu
 have ht:t<xs.length*sz:=by
  have h':=(Vd.1 hu).1;rw[flat_len hf]at h';exact h'
 have hlt:t / sz<xs.length:=Nat.div_lt_of_lt_mul (by rw[Nat.mul_comm];exact ht);have hx:xs[t / sz]?=some xs[t / sz]:=gE hlt;obtain⟨b',o',e,_,hc⟩:=h.get (i:=t / sz) (r:=f xs[t / sz]) (by rw[Vb,hx];rfl);rw[hp]at e;cases e;have e2:t / sz*sz+t % sz=t:=by rw[Nat.mul_comm];exact Nat.div_add_mod t sz
 have hm:t % sz<sz:=Nat.mod_lt _ hsz;obtain⟨v,hv⟩:∃v,(f xs[t / sz])[t % sz]?=some v:=⟨_,gE (by rw[hf xs[t / sz]];exact hm)⟩;have h1:=QaF hf xs (t / sz) _ hx (t % sz) v hv;rw[e2,hu]at h1;cases h1;have h2:=hc (t % sz) _ hv;rw[Nat.add_assoc,e2]at h2;rw[Addr.add_mid];exact h2
end
structure Elt {α:Type} (f:α→List Value) (sz by_:Nat) (t e:TypeId):Prop where
 len:∀x,(f x).length=sz
 one:∀x,∀u∈f x,u.oneCell'=true
 pos:0<sz
 ht:Tryz.prog.underlying t=some (.slice e)
 info:∃i z,Tryz.prog.info? e=some i∧i.zero=some z∧i.size=sz∧i.bytes=by_∧z.cells.size=sz
 small:by_≤512
theorem Elt.ones {α:Type} {f:α→List Value} {sz by_:Nat} {t e:TypeId} (E:Elt f sz by_ t e) (xs:List α):∀u∈flat f xs,u.oneCell'=true:=fun u hu=>by
 obtain⟨x,_,hx⟩:=List.mem_flatMap.1 hu;exact E.one x u hx
theorem slice_form {w:World} {B:Nat} {e:TypeId} {s n:Nat} {v:Value} {xs:List Value} (h:w.ownsRow B e s v n xs):∃a c,v=.slice a n c∧n≤c:=by
 rcases h.2 with ⟨h1,h2⟩ | ⟨g,cap,cur,h1,_,_,h3,_⟩
 ·exact⟨none,0,by rw[h1,h2],by omega⟩
 ·exact⟨_,cap,h1,h3⟩
theorem QbL {P:Program} (w:World) (t ty e:TypeId) (i:TypeInfo) (ht:P.underlying t=some (.slice e)) (hi:P.info? e=some i) (bp:Option Addr) (n cap:Nat) (hn:n≤cap) (sp:Option Addr) (c:Nat) :
  (Builtin.append_ #[t,t] ty #[.slice bp n cap,.slice sp 0 c]).run P w=.ok (.slice bp n cap) w:=by
 have hl:∀(x:Addr),(loadCells x 0).run P w=.ok #[] w:=fun x=>by simpa using run_loadCells_list (P:=P) w x [] (by simp)
 cases bp <;> cases sp <;> simp[Builtin.append_,run_underlying ht,sizeOf,typeInfo,hi,Builtin.lenOf,Builtin.firstCells,storeCells,hl,hn]
theorem Elt.run_append {α:Type} {f:α→List Value} {sz by_:Nat} {t e:TypeId} (E:Elt f sz by_ t e) (w:World) (ty:TypeId) (B n:Nat) (v:Value) (ys:List Value) (hown:w.ownsRow B e sz v n ys) (sp:Option Addr) (m c:Nat) (xs:List α) (hm:xs.length=m) (hc:Cel w sp sz (xs.map f)) (h63:n+m≤1099511627) (hB:B≤w.heap.size) :
  ∃v' w',(Builtin.append_ #[t,t] ty #[v,.slice sp m c]).run Tryz.prog w=.ok v' w'∧w'.ownsRow B e sz v' (n+m) (ys++flat f xs)∧w.grownBy w' v.ownBlock∧(v'=.slice none 0 0↔v=.slice none 0 0∧m=0):=by
 obtain⟨i,z,hi,hz0,hz1,hz2,hz3⟩:=E.info;by_cases h0:m=0
 ·subst h0
  have hxs:xs=[]:=List.eq_nil_of_length_eq_zero hm;subst hxs;obtain⟨a,c',rfl,hle⟩:=slice_form hown;exact⟨_,w,QbL w t ty e i E.ht hi a n c' hle sp c,by simpa[flat] using hown,⟨rfl,rfl,rfl,Va _,fun _ _ _=>rfl⟩,by simp⟩
 ·rcases hc with hb0 | ⟨g,o',e1,hg,hc⟩
  ·exfalso
   have:xs=[]:=by simpa using hb0
   rw[this]at hm;exact h0 hm.symm
  ·have hcs:=cel_cells E.len E.pos e1 (Or.inr ⟨g,o',e1,hg,hc⟩)
   subst e1;have hs:=E.small;refine run_append_own (P:=Tryz.prog) w B t ty e i z sz by_ E.ht hi hz0 hz1 hz2 hz3 E.pos v n ys hown ⟨g,o',none⟩ m c (flat f xs) (by rw[flat_len E.len,hm]) hcs (E.ones xs) (by unfold maxLen;omega) ?_ hB;have:=Nat.mul_le_mul h63 hs;omega
theorem lp_append {P:Program} {ops:Array Oper} {rest:List Oper} {a:Act} {w:World} {Q:Exit→Act→World→Prop} {dst:Option Tmp} {t ty:TypeId} {s x:Operand} {pos:String} {after:Array Edge} (v xv:Value)
  (hs:a.eval s=v) (hx:a.eval x=xv) (hr:∃v' w',(Builtin.append_ #[t,t] ty #[v,xv]).run P w=.ok v' w'∧wpList P ops Q rest (a.put dst v') w') :
  wpList P ops Q (⟨dst,.call { callee:=.builtin .append,args:=#[s,x],argTypes:=#[t,t] },ty,pos,after,none⟩ :: rest) a w:=by
 obtain⟨v',w',hr,h⟩:=hr;refine wpList_plain rfl fun K hK=>?_
 unfold Oper.wp;simp[execOp,resolve,invoke,builtin,hs,hx,hr,Result.andThen];exact hK _ _ h
theorem elt_line:Elt Qal 2 16 46 132:=⟨fun _=>rfl,fun x u hu=>by simp[Qal]at hu;rcases hu with rfl | rfl <;> rfl,by omega,Tryz.underlying46,by
 obtain⟨i,h⟩:=info_parts (show (Tryz.prog.info? 132).map (fun i=>(i.zero,i.size,i.bytes))=some (some (.agg #[.int .i64 0,.int .i64 0]),2,16) by kernel_rfl);exact⟨i,_,h.1,h.2.1,h.2.2.1,h.2.2.2,rfl⟩,by omega⟩
theorem elt_set:Elt Qar 3 24 48 76:=⟨fun _=>rfl,fun x u hu=>by simp[Qar]at hu;rcases hu with rfl | rfl | rfl <;> rfl,by omega,Tryz.underlying48,by
 obtain⟨i,h⟩:=info_parts (show (Tryz.prog.info? 76).map (fun i=>(i.zero,i.size,i.bytes))=some (some (.agg #[.int .i64 0,.int .i64 0,.int .i64 0]),3,24) by kernel_rfl);exact⟨i,_,h.1,h.2.1,h.2.2.1,h.2.2.2,rfl⟩,by omega⟩
end Go.Proofs.YtiogibfhafoapaaGreat.Z
namespace Go.Proofs.YtiogibfhafoapaaGreat.Z
open Go.RowKit
theorem owns_ne {w:World} {B n k s:Nat} {t t':TypeId} {v:Value} {xs:List Value} {C:Array Value} {fr:Nat × Nat} (h:w.ownsRow B t s v n xs) (hk:w.heap[k]?=some (.cells C t' fr)) (ht:t'≠t):some k≠v.ownBlock:=by
 rcases h.2 with ⟨rfl,_⟩ | ⟨g,cap,cur,rfl,_,hgb,_⟩
 ·simp[Value.ownBlock]
 ·intro e'
  obtain rfl:k=g:=by simpa[Value.ownBlock] using e'
  rw[hk]at hgb;simp at hgb;exact ht hgb.2.1
theorem owns_two {w:World} {B B' n n' s s':Nat} {t t':TypeId} {v v':Value} {xs xs':List Value} (h:w.ownsRow B t s v n xs) (h':w.ownsRow B' t' s' v' n' xs') (ht:t≠t'):v.ownBlock=none∨v.ownBlock≠v'.ownBlock:=by
 rcases h.2 with ⟨rfl,_⟩ | ⟨g,cap,cur,rfl,_,hgb,_⟩
 ·left;rfl
 ·right
  intro e;exact(owns_ne h' hgb ht) e
theorem owns_keep {w w':World} {B n s:Nat} {t:TypeId} {v:Value} {xs:List Value} (h:w.ownsRow B t s v n xs) (hb:Below w.heap.size w w'):w'.ownsRow B t s v n xs:=Qas h (fun g hg=>hb.block g (Qds h hg))
theorem owns_le {w:World} {base base':Nat} {e:TypeId} {size:Nat} {v:Value} {n:Nat} {xs:List Value} (h:w.ownsRow base e size v n xs) (hb:base'≤base):w.ownsRow base' e size v n xs :=
 ⟨h.1,h.2.imp id fun ⟨g,cap,cur,h1,h2,r⟩=>⟨g,cap,cur,h1,Vt hb h2,r⟩⟩
theorem owns_base {w:World} {B n s:Nat} {t:TypeId} {v:Value} {xs:List Value} (h:w.ownsRow B t s v n xs):∀g,v.ownBlock=some g→B≤g:=fun g hg=>by
 rcases h.2 with ⟨rfl,_⟩ | ⟨g',cap,cur,rfl,hb,_⟩
 ·simp[Value.ownBlock]at hg
 ·obtain rfl:g'=g:=by simpa[Value.ownBlock] using hg
  exact hb
theorem owns_grown {w w':World} {B n s:Nat} {t:TypeId} {v:Value} {xs:List Value} {r:Option Nat} (h:w.ownsRow B t s v n xs) (hg:w.grownBy w' r) (hr:∀g,v.ownBlock=some g→some g≠r):w'.ownsRow B t s v n xs :=
 Qas h (fun g e=>hg.block g (Qds h e) (hr g e))
theorem Tryz.sizeA:(Tryz.prog.info? 55).map (·.size)=some 15:=by kernel_rfl
end Go.Proofs.YtiogibfhafoapaaGreat.Z
