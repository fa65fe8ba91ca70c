import Derived.Laws.BytesArg
import Derived.Lib.JoinLaws
import Derived.Test.YtiogibfhafoapaaGreatNdU
import Derived.Laws.CopyRow
import Derived.Laws.Tables
set_option maxRecDepth 100000
set_option maxHeartbeats 8000000
set_option linter.unusedSimpArgs false
set_option linter.unusedVariables false
namespace Go.Proofs.YtiogibfhafoapaaGreat
open Go.RowKit
def QaI (l:List Lin):List Value:=l.flatMap Qal
theorem Qf1 (l:List Lin) (x:Lin):QaI (l++[x])=QaI l++Qal x:=by simp[QaI]
theorem Qed (l:List Lin):(QaI l).length=l.length*2:=by
 induction l with
 | nil=>rfl
 | cons x l ih =>
  have:QaI (x :: l)=Qal x++QaI l:=rfl;rw[this,VJ,ih,VO];simp[Qal];omega
theorem Qhy (l:List Lin):∀(i:Nat) (x:Lin),l[i]?=some x→∀(j:Nat) (v:Value),(Qal x)[j]?=some v→(QaI l)[i*2+j]?=some v:=by
 induction l with
 | nil=>intro i x h;simp at h
 | cons y l ih =>
  intro i x h j v hv;have e:QaI (y :: l)=.int .i64 y.c :: .int .i64 y.n :: QaI l:=rfl
  cases i with
  | zero =>
   simp at h;subst h;rw[e,Nat.zero_mul,Nat.zero_add]
   match j,hv with
   | 0,hv=>exact hv
   | 1,hv=>exact hv
   | j+2,hv=>simp[Qal]at hv
  | succ i =>
   have:=ih i x (by simpa using h) j v hv;rw[e,show (i+1)*2+j=i*2+j+1+1 by omega];rw[List.getElem?_cons_succ,List.getElem?_cons_succ];exact this
theorem Qhm (l:List Lin):∀u∈QaI l,u.oneCell'=true:=by
 intro u hu;obtain⟨x,_,hx⟩:=List.mem_flatMap.1 hu;simp[Qal]at hx;rcases hx with rfl | rfl <;> rfl
theorem cel_cells {w:World} {p:Option Addr} {l:List Lin} {b o:Nat} (hp:p=some ⟨b,o,none⟩) (h:Cel w p 2 (l.map Qal)):∀(t:Nat) (u:Value),(QaI l)[t]?=some u→w.cell? ((⟨b,o,none⟩:Addr).add t)=some u:=by
 intro t u hu
 have ht:t<l.length*2:=by
  rcases Nat.lt_or_ge t (QaI l).length with h' | h'
  ·rw[Qed]at h';exact h'
  ·rw[List.getElem?_eq_none h']at hu;cases hu
 have hx:l[t / 2]?=some l[t / 2]:=gE (by omega);obtain⟨b',o',e,_,hc⟩:=h.get (i:=t / 2) (r:=Qal l[t / 2]) (by rw[Vb,hx];rfl);rw[hp]at e;cases e;have e2:t=t / 2*2+t % 2:=by omega
 have hm:t % 2<2:=Nat.mod_lt _ (by omega);obtain⟨v,hv⟩:∃v,(Qal l[t / 2])[t % 2]?=some v:=⟨_,gE (show t % 2<2 from hm)⟩;have h1:=Qhy l (t / 2) _ hx (t % 2) v hv;rw[←e2,hu]at h1;cases h1;have h2:=hc (t % 2) _ hv
 have ea:(⟨b,o,none⟩:Addr).add t=⟨b,o+t / 2*2+t % 2,none⟩:=by
  unfold Addr.add;rw[Nat.add_assoc,←e2];simp
 rw[ea];exact h2
theorem QcZ {w:World} {p:Option Addr} {l:List Lin} (h:Cel w p 2 (l.map Qal)):QjH w.heap.size w p l:=by
 rcases h with h | ⟨b,o,e,hb,hc⟩
 ·left;simpa using h
 ·refine Or.inr ⟨b,o,e,hb,fun i x hx=>?_⟩
  have hr:(l.map Qal)[i]?=some (Qal x):=by rw[Vb,hx];rfl
  have h0:=hc i _ hr 0 _ rfl;rw[Vr]at h0;exact⟨h0,hc i _ hr 1 _ rfl⟩
theorem Qff:(Tryz.prog.info? 132).map (fun i=>(i.zero,i.size,i.bytes))=some (some (.agg #[.int .i64 0,.int .i64 0]),2,16):=by kernel_rfl
theorem QbL {P:Program} (w:World) (t ty e:TypeId) (i:TypeInfo) (ht:P.underlying t=some (.slice e)) (hi:P.info? e=some i) (bp:Option Addr) (n cap:Nat) (hn:n≤cap) (sp:Option Addr) (c:Nat) :
  (Builtin.append_ #[t,t] ty #[.slice bp n cap,.slice sp 0 c]).run P w=.ok (.slice bp n cap) w:=by
 have hl:∀(x:Addr),(loadCells x 0).run P w=.ok #[] w:=fun x=>by simpa using run_loadCells_list (P:=P) w x [] (by simp)
 cases bp <;> cases sp <;> simp[Builtin.append_,run_underlying ht,sizeOf,typeInfo,hi,Builtin.lenOf,Builtin.firstCells,storeCells,hl,hn]
theorem Qc7 {P:Program} {w:World} {ops:Array Oper} {rest:List Oper} {o:Oper} {a:Act} {Q:Exit→Act→World→Prop} (hgd:o.guard=none) (s x:Operand) (t:TypeId)
  (ho:o.op=.call { callee:=.builtin .append,args:=#[s,x],argTypes:=#[t,t] }) (e:TypeId) (i:TypeInfo) (ht:P.underlying t=some (.slice e)) (hi:P.info? e=some i)
  (bp:Option Addr) (n cap:Nat) (hn:n≤cap) (hs:a.eval s=.slice bp n cap) (sp:Option Addr) (c:Nat) (hx:a.eval x=.slice sp 0 c)
  (h:wpList P ops Q rest (a.put o.dst (.slice bp n cap)) w):wpList P ops Q (o :: rest) a w:=by
 refine wpList_plain hgd fun K hK=>?_
 have hrun:=QbL (P:=P) w t o.type e i ht hi bp n cap hn sp c;unfold Oper.wp;simp[execOp,ho,resolve,invoke,builtin,hs,hx,hrun,Result.andThen];exact hK _ _ h
theorem Qha {w:World} {B n cap g s:Nat} {t:TypeId} {ys:List Value} (h:w.ownsRow B t s (.slice (some ⟨g,0,none⟩) n cap) n ys):n≤cap∧B≤g∧g<w.heap.size:=by
 rcases h.2 with ⟨h1,_⟩ | ⟨g',cap',cur,h1,h2,hg,h3,_⟩
 ·cases h1
 ·cases h1;exact⟨h3,h2,Qab hg⟩
theorem QbG {w:World} {ops:Array Oper} {rest:List Oper} {o:Oper} {a:Act} {Q:Exit→Act→World→Prop} (hgd:o.guard=none) (s x:Operand)
  (ho:o.op=.call { callee:=.builtin .append,args:=#[s,x],argTypes:=#[46,46] }) (B g0 n cap0:Nat) (ys:List Value)
  (hs:a.eval s=.slice (some ⟨g0,0,none⟩) n cap0) (hown:w.ownsRow B 132 2 (.slice (some ⟨g0,0,none⟩) n cap0) n ys) (sp:Option Addr) (m c:Nat) (xs:List Lin) (hx:a.eval x=.slice sp m c) (hm:xs.length=m) (hb:Cel w sp 2 (xs.map Qal))
  (h63:n+m≤1099511627776) (hB:B≤w.heap.size)
  (h:∀g cap w',w'.ownsRow B 132 2 (.slice (some ⟨g,0,none⟩) (n+m) cap) (n+m) (ys++QaI xs)→w.grownBy w' (some g0)→wpList Tryz.prog ops Q rest (a.put o.dst (.slice (some ⟨g,0,none⟩) (n+m) cap)) w') :
  wpList Tryz.prog ops Q (o :: rest) a w:=by
 obtain⟨i0,hi,hz0,hz1,hz2⟩:=info_parts Qff;by_cases h0:m=0
 ·subst h0
  have hxs:xs=[]:=List.eq_nil_of_length_eq_zero hm;subst hxs;refine Qc7 hgd s x 46 ho 132 i0 Tryz.underlying46 hi _ n cap0 (Qha hown).1 hs sp c hx ?_;exact h g0 cap0 w (by simpa[QaI] using hown) ⟨rfl,rfl,rfl,Va _,fun _ _ _=>rfl⟩
 ·rcases hb with hb0 | ⟨g,o',e,hg,hc⟩
  ·exfalso
   have:xs=[]:=by simpa using hb0
   rw[this]at hm;exact h0 hm.symm
  ·have hcs:=cel_cells e (Or.inr ⟨g,o',e,hg,hc⟩)
   rw[e]at hx;refine wpList_append_lies _ hgd s x 46 ho B 132 i0 (.agg #[.int .i64 0,.int .i64 0]) 2 16 Tryz.underlying46 hi hz0 hz1 hz2 rfl (by omega) _ n ys hs hown ⟨g,o',none⟩ m c (QaI xs) hx (by rw[Qed,hm]) hcs (Qhm xs) (by omega) (by unfold maxLen;omega) (by omega) hB _ rfl ?_;intro g' cap w' h1 h2 _ _;exact h g' cap w' h1 h2
end Go.Proofs.YtiogibfhafoapaaGreat
namespace Go.Proofs.YtiogibfhafoapaaGreat.RB
open Go.RowKit Go.Proofs.YtiogibfhafoapaaGreat
theorem lt_of_block {w:World} {b:Nat} {o:Obj} (h:w.heap[b]?=some o):b<w.heap.size:=(Array.getElem?_eq_some_iff.1 h).1
theorem block_set {w:World} {g i:Nat} {cs:Array Value} {t:TypeId} {fr:Nat × Nat} (h:w.heap[g]?=some (.cells cs t fr)) (v:Value):(w.setCell ⟨g,i,none⟩ v).heap[g]?=some (.cells (cs.setIfInBounds i v) t fr):=by
 rw[setCell_eq_setRow w g i cs t fr v h];exact VB w g _ _ t _ h
theorem owns_lt {w:World} {B n s:Nat} {t:TypeId} {v:Value} {xs:List Value} (h:w.ownsRow B t s v n xs) (g:Nat) (e:v.ownBlock=some g):g<w.heap.size:=Qds h e
theorem owns_ne {w:World} {B n k s:Nat} {t t':TypeId} {v:Value} {xs:List Value} {C:Array Value} {fr:Nat × Nat} (h:w.ownsRow B t s v n xs) (hk:w.heap[k]?=some (.cells C t' fr)) (ht:t'≠t):v.ownBlock≠some k:=fun e=>QbE h hk ht e.symm
theorem owns_kept' {w w':World} {B n:Nat} {e:TypeId} {size:Nat} {v:Value} {xs:List Value} (h:w.ownsRow B e size v n xs) (hk:∀g,v.ownBlock=some g→w'.heap[g]?=w.heap[g]?):w'.ownsRow B e size v n xs:=Qas h hk
theorem owns_low {w:World} {B n s:Nat} {t:TypeId} {v:Value} {xs:List Value} (h:w.ownsRow B t s v n xs) (g:Nat) (e:v.ownBlock=some g):B≤g:=by
 rcases h.2 with ⟨h1,h2⟩ | ⟨g',cap,cur,h1,hb,hg,_⟩
 ·rw[h1]at e;simp[Value.ownBlock]at e
 ·rw[h1]at e;simp[Value.ownBlock]at e;omega
theorem row_cell {w:World} {B n k s:Nat} {t:TypeId} {v a:Value} {xs:List Value} (h:w.ownsRow B t s v n xs) (hk:xs[k]?=some a):∃g c,v=.slice (some ⟨g,0,none⟩) n c∧w.cell? ⟨g,k,none⟩=some a:=by
 obtain⟨a',c,rfl⟩:=slice_form h;obtain⟨g,e,_,hc⟩:=YtiogibfhafoapaaGreat.row_cell h hk;exact⟨g,c,by rw[e],hc⟩
theorem bk_thaw {w:World} {b:Nat} {C:Array Value} {t:TypeId} (h:w.heap[b]?=some (.cells C t (0,0))) (j:Nat):w.frozen? ⟨b,j,none⟩=false:=by simp[World.frozen?,h]
end Go.Proofs.YtiogibfhafoapaaGreat.RB
