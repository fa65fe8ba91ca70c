import Derived.ProofKit
import Derived.OpenShut
import Derived.SizedLaws
import Derived.Deep.Slices
import Derived.Test.YtfbegfapoijbnaaGreatLgB
import Derived.Test.YtfbegfapoijbnaaGreatRows
set_option maxRecDepth 100000
namespace Go.Proofs.YtfbegfapoijbnaaGreat.Z
open Go.RowKit Go.ChangeShapes Go.WideShapes Go.Deep
namespace Blk
theorem one_le {H:Type} (d:DataW H):1≤Rows.uptoBulk d:=by
 cases d with
 | lit l=>cases l <;> simp[Rows.uptoBulk]
 | nil=>simp[Rows.uptoBulk]
 | ptr d=>simp[Rows.uptoBulk]
 | slice elems spare=>simp[Rows.uptoBulk]
 | agg parts=>simp[Rows.uptoBulk]
 | iface t d=>simp[Rows.uptoBulk]
 | map entries=>simp[Rows.uptoBulk]
 | held h=>simp[Rows.uptoBulk]
theorem part_le {H:Type} {d:DataW H} {l:List (DataW H)} (h:d∈l):Rows.uptoBulk d≤Rows.uptoBulkAll l:=by
 induction l with
 | nil=>cases h
 | cons x r ih =>
  simp only[Rows.uptoBulkAll]
  cases List.mem_cons.1 h with
  | inl e=>subst e;omega
  | inr e=>have:=ih e;omega
theorem length_le {H:Type} (l:List (DataW H)):l.length≤Rows.uptoBulkAll l:=by
 induction l with
 | nil=>simp[Rows.uptoBulkAll]
 | cons x r ih=>have:=one_le x;simp only[Rows.uptoBulkAll,List.length_cons];omega
theorem all_sum {H:Type} (l:List (DataW H)):Rows.uptoBulkAll l=(l.map Rows.uptoBulk).sum:=by
 induction l with
 | nil=>rfl
 | cons x r ih=>simp[Rows.uptoBulkAll,ih]
theorem sum_le {α:Type} (f g:α→Nat):∀(l:List α),(∀x∈l,f x≤g x)→(l.map f).sum≤(l.map g).sum
 | [],_=>Nat.le_refl _
 | x :: r,h=>by
  have h1:=h x (List.mem_cons_self)
  have h2:=sum_le f g r (fun y hy=>h y (List.mem_cons_of_mem _ hy))
  simp only[List.map_cons,List.sum_cons]
  omega
end Blk
theorem addr_flat {w:World} {a:Addr} {v:Value} (h:w.cell? a=some v):∃g o,a=⟨g,o,none⟩:=by
 obtain⟨g,o,sp⟩:=a
 unfold World.cell? at h
 cases sp with
 | none=>exact⟨g,o,rfl⟩
 | some x=>split at h <;> simp at h
theorem cell_lies {w:World} {p:Addr} {v:Value} (h:w.cell? p=some v):p.block<w.heap.size:=by
 unfold World.cell? at h
 rcases Nat.lt_or_ge p.block w.heap.size with hl | hl
 ·exact hl
 ·rw[Array.getElem?_eq_none hl]at h;cases h
section
variable {H : Type} {enc : TypeId × Value → H} {w : World} {base : Nat} {held : Bool}
theorem slice_in {α:Type} [Inhabited α] {f:α→List Value} {sz:Nat} {t e:TypeId} (ht:Tryz.prog.underlying t=some (.slice e)) (hce:Tryz.prog.cellsOf e=sz) (hsz:0<sz) (hf:∀x,(f x).length=sz) (V:α→Prop) (g:α→Nat)
  (hopen:∀(fuel:Nat) (cs:List Value) (x:DataW H × List MemPlace),DataW.trod enc Tryz.prog w base (fun _=>true) held fuel e cs=some x→Rows.uptoBulk x.1≤1048576→∃a,cs=f a∧V a∧g a≤Rows.uptoBulk x.1)
  {fuel:Nat} {v:Value} {x:DataW H × List MemPlace} (h:DataW.trod enc Tryz.prog w base (fun _=>true) held fuel t [v]=some x) (hb:Rows.uptoBulk x.1≤1048576) :
  ∃s:Sli α,v=.slice s.p s.n s.c∧SlOk w sz f s∧(∀a∈s.xs,V a)∧(s.xs.map g).sum≤Rows.uptoBulk x.1∧s.xs.length≤Rows.uptoBulk x.1∧s.n≤s.c:=by
 rcases open_slice ht h with ⟨hcs,hx⟩ | ⟨a,len,cap,m,n,D,Pl,hcs,_,hl,hm,hmm,hx,hel⟩
 ·simp at hcs
  exact⟨⟨none,0,0,[]⟩,hcs,⟨rfl,Nat.zero_le _,Or.inl rfl⟩,fun a ha=>by simp at ha,Nat.zero_le _,Nat.zero_le _,Nat.le_refl _⟩
 ·simp at hcs hmm
  rw[hce]at hel
  have hD:x.1=.slice ((List.range len).map D) ((List.range (m - len)).map fun j=>D (len+j)):=by rw[hx]
  have hbk:Rows.uptoBulk x.1=Rows.uptoBulkAll ((List.range len).map D)+Rows.uptoBulkAll ((List.range (m - len)).map fun j=>D (len+j))+1:=by rw[hD];rfl
  have hDb:∀i,i<len→Rows.uptoBulk (D i)≤1048576:=fun i hi=>by
   have:=Blk.part_le (List.mem_map.2 ⟨i,List.mem_range.2 hi,rfl⟩:D i∈(List.range len).map D)
   omega
  have hlen:len≤Rows.uptoBulk x.1:=by
   have:=Blk.length_le ((List.range len).map D)
   simp at this
   omega
  obtain⟨q,hq⟩:=choose_lt (n:=len) (p:=fun i p=>w.cells? base (a.add (i*sz)) sz=some (f p)∧V p∧g p≤Rows.uptoBulk (D i)) (fun i hi=>by
   obtain⟨cs',h1,h2⟩:=hel i (by omega)
   obtain⟨p,rfl,hp,hg⟩:=hopen _ _ _ h2 (hDb i hi)
   exact⟨p,h1,hp,hg⟩)
  refine⟨⟨some a,len,cap,(List.range len).map q⟩,hcs,⟨by simp,by show len≤4194304;omega,?_⟩,fun z hz=>?_,?_,by simpa using hlen,hl⟩
  ·by_cases h0:len=0
   ·left;simp[h0]
   ·right
    have c0:=(World.cells?_some (hq 0 (by omega)).1).2.2 0 hsz
    obtain⟨u,hu⟩:∃u,(f (q 0))[0]?=some u:=⟨_,List.getElem?_eq_getElem (by rw[hf];exact hsz)⟩
    rw[hu]at c0
    obtain⟨gg,oo,rfl⟩:∃g o,a=⟨g,o,none⟩:=by
     obtain⟨g,o,e⟩:=addr_flat c0
     exact⟨g,o,by simpa[Addr.add] using e⟩
    refine⟨gg,oo,rfl,by have:=cell_lies c0;simpa[Addr.add_mid] using this,fun i r hr j v hv=>?_⟩
    have hi:i<len:=by
     have:=(List.getElem?_eq_some_iff.1 hr).1
     simpa using this
    rw[List.getElem?_map,List.getElem?_map,List.getElem?_range hi]at hr
    simp at hr
    subst hr
    have hj:j<sz:=by
     have:=(List.getElem?_eq_some_iff.1 hv).1
     rwa [hf]at this
    have e0:=(World.cells?_some (hq i hi).1).2.2 j hj
    simp only[Addr.add_mid]at e0
    rw[e0,hv]
  ·obtain⟨i,hi,rfl⟩:=List.mem_map.1 hz
   exact(hq i (List.mem_range.1 hi)).2.1
  ·have h1:=Blk.sum_le (fun i=>g (q i)) (fun i=>Rows.uptoBulk (D i)) (List.range len) (fun i hi=>(hq i (List.mem_range.1 hi)).2.2)
   have h2:Rows.uptoBulkAll ((List.range len).map D)=((List.range len).map (fun i=>Rows.uptoBulk (D i))).sum:=by rw[Blk.all_sum,List.map_map];rfl
   rw[List.map_map]
   show ((List.range len).map (fun i=>g (q i))).sum≤_
   omega
theorem cEint:Tryz.prog.cellsOf 3=1:=by kernel_rfl
theorem cEint64:Tryz.prog.cellsOf 2=1:=by kernel_rfl
theorem cEuint64:Tryz.prog.cellsOf 39=1:=by kernel_rfl
theorem cEbool:Tryz.prog.cellsOf 4=1:=by kernel_rfl
theorem cEapiLine:Tryz.prog.cellsOf 96=2:=by kernel_rfl
theorem cEapiGuard:Tryz.prog.cellsOf 99=3:=by kernel_rfl
theorem cEapiSet:Tryz.prog.cellsOf 101=3:=by kernel_rfl
theorem cEapiRight:Tryz.prog.cellsOf 53=3:=by kernel_rfl
theorem cEtilllaw1Bounds:Tryz.prog.cellsOf 71=3:=by kernel_rfl
theorem cEsapiLine:Tryz.prog.cellsOf 29=1:=by kernel_rfl
theorem cEsapiGuard:Tryz.prog.cellsOf 30=1:=by kernel_rfl
theorem cEsapiSet:Tryz.prog.cellsOf 31=1:=by kernel_rfl
theorem cEsapiRight:Tryz.prog.cellsOf 54=1:=by kernel_rfl
theorem cEstilllaw1Bounds:Tryz.prog.cellsOf 22=1:=by kernel_rfl
theorem cEsint64:Tryz.prog.cellsOf 23=1:=by kernel_rfl
theorem cEapiHead:Tryz.prog.cellsOf 49=2:=by kernel_rfl
theorem cEapiMerge:Tryz.prog.cellsOf 51=2:=by kernel_rfl
theorem cEapiAct:Tryz.prog.cellsOf 56=15:=by kernel_rfl
theorem cEtilllaw1Conf:Tryz.prog.cellsOf 25=9:=by kernel_rfl
theorem cEtilllaw9Step:Tryz.prog.cellsOf 58=20:=by kernel_rfl
theorem cEstilllaw9Step:Tryz.prog.cellsOf 26=1:=by kernel_rfl
theorem cEtilllaw9Script:Tryz.prog.cellsOf 28=10:=by kernel_rfl
theorem cEtilllaw9Long:Tryz.prog.cellsOf 33=14:=by kernel_rfl
theorem len2 {l:List Value} (h:l.length=2):∃v0 v1,l=[v0,v1]:=by
 match l,h with
 | [v0,v1],_=>exact⟨v0,v1,rfl⟩
theorem len3 {l:List Value} (h:l.length=3):∃v0 v1 v2,l=[v0,v1,v2]:=by
 match l,h with
 | [v0,v1,v2],_=>exact⟨v0,v1,v2,rfl⟩
theorem len9 {l:List Value} (h:l.length=9):∃v0 v1 v2 v3 v4 v5 v6 v7 v8,l=[v0,v1,v2,v3,v4,v5,v6,v7,v8]:=by
 match l,h with
 | [v0,v1,v2,v3,v4,v5,v6,v7,v8],_=>exact⟨v0,v1,v2,v3,v4,v5,v6,v7,v8,rfl⟩
theorem len10 {l:List Value} (h:l.length=10):∃v0 v1 v2 v3 v4 v5 v6 v7 v8 v9,l=[v0,v1,v2,v3,v4,v5,v6,v7,v8,v9]:=by
 match l,h with
 | [v0,v1,v2,v3,v4,v5,v6,v7,v8,v9],_=>exact⟨v0,v1,v2,v3,v4,v5,v6,v7,v8,v9,rfl⟩
theorem len14 {l:List Value} (h:l.length=14):∃v0 v1 v2 v3 v4 v5 v6 v7 v8 v9 v10 v11 v12 v13,l=[v0,v1,v2,v3,v4,v5,v6,v7,v8,v9,v10,v11,v12,v13]:=by
 match l,h with
 | [v0,v1,v2,v3,v4,v5,v6,v7,v8,v9,v10,v11,v12,v13],_=>exact⟨v0,v1,v2,v3,v4,v5,v6,v7,v8,v9,v10,v11,v12,v13,rfl⟩
theorem len15 {l:List Value} (h:l.length=15):∃v0 v1 v2 v3 v4 v5 v6 v7 v8 v9 v10 v11 v12 v13 v14,l=[v0,v1,v2,v3,v4,v5,v6,v7,v8,v9,v10,v11,v12,v13,v14]:=by
 match l,h with
 | [v0,v1,v2,v3,v4,v5,v6,v7,v8,v9,v10,v11,v12,v13,v14],_=>exact⟨v0,v1,v2,v3,v4,v5,v6,v7,v8,v9,v10,v11,v12,v13,v14,rfl⟩
theorem len20 {l:List Value} (h:l.length=20):∃v0 v1 v2 v3 v4 v5 v6 v7 v8 v9 v10 v11 v12 v13 v14 v15 v16 v17 v18 v19,l=[v0,v1,v2,v3,v4,v5,v6,v7,v8,v9,v10,v11,v12,v13,v14,v15,v16,v17,v18,v19]:=by
 match l,h with
 | [v0,v1,v2,v3,v4,v5,v6,v7,v8,v9,v10,v11,v12,v13,v14,v15,v16,v17,v18,v19],_=>exact⟨v0,v1,v2,v3,v4,v5,v6,v7,v8,v9,v10,v11,v12,v13,v14,v15,v16,v17,v18,v19,rfl⟩
set_option linter.unusedVariables false
set_option linter.unusedSimpArgs false
theorem int64_open {fuel:Nat} {cs:List Value} {x:DataW H × List MemPlace} (h:DataW.trod enc Tryz.prog w base (fun _=>true) held fuel 2 cs=some x) (hb:Rows.uptoBulk x.1≤1048576):∃a:Int,cs=(fun n:Int=>[Value.int .i64 n]) a∧True∧0≤Rows.uptoBulk x.1:=by
 obtain⟨z,g,_,_⟩:=DataW.trod_int Tryz.underlying2 h
 exact⟨z,g,trivial,Nat.zero_le _⟩
theorem i64s_in {fuel:Nat} {v:Value} {x:DataW H × List MemPlace} (h:DataW.trod enc Tryz.prog w base (fun _=>true) held fuel 23 [v]=some x) (hb:Rows.uptoBulk x.1≤1048576):∃s:Sli Int,v=.slice s.p s.n s.c∧SlOk w 1 (fun n:Int=>[Value.int .i64 n]) s∧(∀a∈s.xs,(fun _=>True) a)∧(s.xs.map (fun _=>0)).sum≤Rows.uptoBulk x.1∧s.xs.length≤Rows.uptoBulk x.1∧s.n≤s.c :=
 @slice_in H enc w base held Int ⟨0⟩ _ _ _ _ Tryz.underlying23 cEint64 (by omega) (fun _=>rfl) (V:=(fun _=>True)) (g:=(fun _=>0)) (fun _ _ _ h hb=>int64_open h hb) fuel v x h hb
theorem line_open {fuel:Nat} {cs:List Value} {x:DataW H × List MemPlace} (h:DataW.trod enc Tryz.prog w base (fun _=>true) held fuel 96 cs=some x) (hb:Rows.uptoBulk x.1≤1048576):∃a:Lin,cs=linc a∧True∧0≤Rows.uptoBulk x.1:=by
 obtain⟨ys,n,_,rfl,hl,hlen,hf⟩:=DataW.trod_struct Tryz.underlying96 h
 rw[cEapiLine]at hl
 obtain⟨v0,v1,rfl⟩:=len2 hl
 have f0:DataW.trod enc Tryz.prog w base (fun _=>true) held n 3 (([v0,v1].drop 0).take (Tryz.prog.cellsOf 3))=ys[0]?:=hf 0 _ rfl
 have f1:DataW.trod enc Tryz.prog w base (fun _=>true) held n 2 (([v0,v1].drop 1).take (Tryz.prog.cellsOf 2))=ys[1]?:=hf 1 _ rfl
 simp only[cEint,cEint64,List.drop_zero,List.drop_succ_cons,List.take_succ_cons,List.take_zero]at f0 f1
 have hbk:Rows.uptoBulkAll (ys.map (·.1))+1≤1048576:=hb
 have hy:∀i,i<2→∃y,ys[i]?=some y∧Rows.uptoBulk y.1≤Rows.uptoBulkAll (ys.map (·.1)):=fun i hi=>⟨ys[i]'(by rw[hlen];exact hi),List.getElem?_eq_getElem _,Blk.part_le (List.mem_map.2 ⟨_,List.getElem_mem _,rfl⟩)⟩
 obtain⟨y0,e0,b0⟩:=hy 0 (by omega)
 rw[e0]at f0
 obtain⟨z0,g0,_,w0⟩:=DataW.trod_int Tryz.underlying3 f0
 simp only[List.cons.injEq,and_true]at g0
 subst g0
 obtain⟨y1,e1,b1⟩:=hy 1 (by omega)
 rw[e1]at f1
 obtain⟨z1,g1,_,w1⟩:=DataW.trod_int Tryz.underlying2 f1
 simp only[List.cons.injEq,and_true]at g1
 subst g1
 have htop:Rows.uptoBulk (DataW.agg (ys.map (·.1)))=Rows.uptoBulkAll (ys.map (·.1))+1:=rfl
 exact⟨⟨z0,z1⟩,rfl,trivial,Nat.zero_le _⟩
theorem guard_open {fuel:Nat} {cs:List Value} {x:DataW H × List MemPlace} (h:DataW.trod enc Tryz.prog w base (fun _=>true) held fuel 99 cs=some x) (hb:Rows.uptoBulk x.1≤1048576):∃a:Tri,cs=tric a∧True∧0≤Rows.uptoBulk x.1:=by
 obtain⟨ys,n,_,rfl,hl,hlen,hf⟩:=DataW.trod_struct Tryz.underlying99 h
 rw[cEapiGuard]at hl
 obtain⟨v0,v1,v2,rfl⟩:=len3 hl
 have f0:DataW.trod enc Tryz.prog w base (fun _=>true) held n 3 (([v0,v1,v2].drop 0).take (Tryz.prog.cellsOf 3))=ys[0]?:=hf 0 _ rfl
 have f1:DataW.trod enc Tryz.prog w base (fun _=>true) held n 3 (([v0,v1,v2].drop 1).take (Tryz.prog.cellsOf 3))=ys[1]?:=hf 1 _ rfl
 have f2:DataW.trod enc Tryz.prog w base (fun _=>true) held n 2 (([v0,v1,v2].drop 2).take (Tryz.prog.cellsOf 2))=ys[2]?:=hf 2 _ rfl
 simp only[cEint,cEint64,List.drop_zero,List.drop_succ_cons,List.take_succ_cons,List.take_zero]at f0 f1 f2
 have hbk:Rows.uptoBulkAll (ys.map (·.1))+1≤1048576:=hb
 have hy:∀i,i<3→∃y,ys[i]?=some y∧Rows.uptoBulk y.1≤Rows.uptoBulkAll (ys.map (·.1)):=fun i hi=>⟨ys[i]'(by rw[hlen];exact hi),List.getElem?_eq_getElem _,Blk.part_le (List.mem_map.2 ⟨_,List.getElem_mem _,rfl⟩)⟩
 obtain⟨y0,e0,b0⟩:=hy 0 (by omega)
 rw[e0]at f0
 obtain⟨z0,g0,_,w0⟩:=DataW.trod_int Tryz.underlying3 f0
 simp only[List.cons.injEq,and_true]at g0
 subst g0
 obtain⟨y1,e1,b1⟩:=hy 1 (by omega)
 rw[e1]at f1
 obtain⟨z1,g1,_,w1⟩:=DataW.trod_int Tryz.underlying3 f1
 simp only[List.cons.injEq,and_true]at g1
 subst g1
 obtain⟨y2,e2,b2⟩:=hy 2 (by omega)
 rw[e2]at f2
 obtain⟨z2,g2,_,w2⟩:=DataW.trod_int Tryz.underlying2 f2
 simp only[List.cons.injEq,and_true]at g2
 subst g2
 have htop:Rows.uptoBulk (DataW.agg (ys.map (·.1)))=Rows.uptoBulkAll (ys.map (·.1))+1:=rfl
 exact⟨⟨z0,z1,z2⟩,rfl,trivial,Nat.zero_le _⟩
theorem set_open {fuel:Nat} {cs:List Value} {x:DataW H × List MemPlace} (h:DataW.trod enc Tryz.prog w base (fun _=>true) held fuel 101 cs=some x) (hb:Rows.uptoBulk x.1≤1048576):∃a:Tri,cs=tric a∧True∧0≤Rows.uptoBulk x.1:=by
 obtain⟨ys,n,_,rfl,hl,hlen,hf⟩:=DataW.trod_struct Tryz.underlying101 h
 rw[cEapiSet]at hl
 obtain⟨v0,v1,v2,rfl⟩:=len3 hl
 have f0:DataW.trod enc Tryz.prog w base (fun _=>true) held n 3 (([v0,v1,v2].drop 0).take (Tryz.prog.cellsOf 3))=ys[0]?:=hf 0 _ rfl
 have f1:DataW.trod enc Tryz.prog w base (fun _=>true) held n 3 (([v0,v1,v2].drop 1).take (Tryz.prog.cellsOf 3))=ys[1]?:=hf 1 _ rfl
 have f2:DataW.trod enc Tryz.prog w base (fun _=>true) held n 2 (([v0,v1,v2].drop 2).take (Tryz.prog.cellsOf 2))=ys[2]?:=hf 2 _ rfl
 simp only[cEint,cEint64,List.drop_zero,List.drop_succ_cons,List.take_succ_cons,List.take_zero]at f0 f1 f2
 have hbk:Rows.uptoBulkAll (ys.map (·.1))+1≤1048576:=hb
 have hy:∀i,i<3→∃y,ys[i]?=some y∧Rows.uptoBulk y.1≤Rows.uptoBulkAll (ys.map (·.1)):=fun i hi=>⟨ys[i]'(by rw[hlen];exact hi),List.getElem?_eq_getElem _,Blk.part_le (List.mem_map.2 ⟨_,List.getElem_mem _,rfl⟩)⟩
 obtain⟨y0,e0,b0⟩:=hy 0 (by omega)
 rw[e0]at f0
 obtain⟨z0,g0,_,w0⟩:=DataW.trod_int Tryz.underlying3 f0
 simp only[List.cons.injEq,and_true]at g0
 subst g0
 obtain⟨y1,e1,b1⟩:=hy 1 (by omega)
 rw[e1]at f1
 obtain⟨z1,g1,_,w1⟩:=DataW.trod_int Tryz.underlying3 f1
 simp only[List.cons.injEq,and_true]at g1
 subst g1
 obtain⟨y2,e2,b2⟩:=hy 2 (by omega)
 rw[e2]at f2
 obtain⟨z2,g2,_,w2⟩:=DataW.trod_int Tryz.underlying2 f2
 simp only[List.cons.injEq,and_true]at g2
 subst g2
 have htop:Rows.uptoBulk (DataW.agg (ys.map (·.1)))=Rows.uptoBulkAll (ys.map (·.1))+1:=rfl
 exact⟨⟨z0,z1,z2⟩,rfl,trivial,Nat.zero_le _⟩
theorem right_open {fuel:Nat} {cs:List Value} {x:DataW H × List MemPlace} (h:DataW.trod enc Tryz.prog w base (fun _=>true) held fuel 53 cs=some x) (hb:Rows.uptoBulk x.1≤1048576):∃a:Tri,cs=tric a∧True∧0≤Rows.uptoBulk x.1:=by
 obtain⟨ys,n,_,rfl,hl,hlen,hf⟩:=DataW.trod_struct Tryz.underlying53 h
 rw[cEapiRight]at hl
 obtain⟨v0,v1,v2,rfl⟩:=len3 hl
 have f0:DataW.trod enc Tryz.prog w base (fun _=>true) held n 3 (([v0,v1,v2].drop 0).take (Tryz.prog.cellsOf 3))=ys[0]?:=hf 0 _ rfl
 have f1:DataW.trod enc Tryz.prog w base (fun _=>true) held n 3 (([v0,v1,v2].drop 1).take (Tryz.prog.cellsOf 3))=ys[1]?:=hf 1 _ rfl
 have f2:DataW.trod enc Tryz.prog w base (fun _=>true) held n 2 (([v0,v1,v2].drop 2).take (Tryz.prog.cellsOf 2))=ys[2]?:=hf 2 _ rfl
 simp only[cEint,cEint64,List.drop_zero,List.drop_succ_cons,List.take_succ_cons,List.take_zero]at f0 f1 f2
 have hbk:Rows.uptoBulkAll (ys.map (·.1))+1≤1048576:=hb
 have hy:∀i,i<3→∃y,ys[i]?=some y∧Rows.uptoBulk y.1≤Rows.uptoBulkAll (ys.map (·.1)):=fun i hi=>⟨ys[i]'(by rw[hlen];exact hi),List.getElem?_eq_getElem _,Blk.part_le (List.mem_map.2 ⟨_,List.getElem_mem _,rfl⟩)⟩
 obtain⟨y0,e0,b0⟩:=hy 0 (by omega)
 rw[e0]at f0
 obtain⟨z0,g0,_,w0⟩:=DataW.trod_int Tryz.underlying3 f0
 simp only[List.cons.injEq,and_true]at g0
 subst g0
 obtain⟨y1,e1,b1⟩:=hy 1 (by omega)
 rw[e1]at f1
 obtain⟨z1,g1,_,w1⟩:=DataW.trod_int Tryz.underlying3 f1
 simp only[List.cons.injEq,and_true]at g1
 subst g1
 obtain⟨y2,e2,b2⟩:=hy 2 (by omega)
 rw[e2]at f2
 obtain⟨z2,g2,_,w2⟩:=DataW.trod_int Tryz.underlying2 f2
 simp only[List.cons.injEq,and_true]at g2
 subst g2
 have htop:Rows.uptoBulk (DataW.agg (ys.map (·.1)))=Rows.uptoBulkAll (ys.map (·.1))+1:=rfl
 exact⟨⟨z0,z1,z2⟩,rfl,trivial,Nat.zero_le _⟩
theorem bound_open {fuel:Nat} {cs:List Value} {x:DataW H × List MemPlace} (h:DataW.trod enc Tryz.prog w base (fun _=>true) held fuel 71 cs=some x) (hb:Rows.uptoBulk x.1≤1048576):∃a:Tri,cs=tric a∧True∧0≤Rows.uptoBulk x.1:=by
 obtain⟨ys,n,_,rfl,hl,hlen,hf⟩:=DataW.trod_struct Tryz.underlying71 h
 rw[cEtilllaw1Bounds]at hl
 obtain⟨v0,v1,v2,rfl⟩:=len3 hl
 have f0:DataW.trod enc Tryz.prog w base (fun _=>true) held n 2 (([v0,v1,v2].drop 0).take (Tryz.prog.cellsOf 2))=ys[0]?:=hf 0 _ rfl
 have f1:DataW.trod enc Tryz.prog w base (fun _=>true) held n 2 (([v0,v1,v2].drop 1).take (Tryz.prog.cellsOf 2))=ys[1]?:=hf 1 _ rfl
 have f2:DataW.trod enc Tryz.prog w base (fun _=>true) held n 2 (([v0,v1,v2].drop 2).take (Tryz.prog.cellsOf 2))=ys[2]?:=hf 2 _ rfl
 simp only[cEint64,List.drop_zero,List.drop_succ_cons,List.take_succ_cons,List.take_zero]at f0 f1 f2
 have hbk:Rows.uptoBulkAll (ys.map (·.1))+1≤1048576:=hb
 have hy:∀i,i<3→∃y,ys[i]?=some y∧Rows.uptoBulk y.1≤Rows.uptoBulkAll (ys.map (·.1)):=fun i hi=>⟨ys[i]'(by rw[hlen];exact hi),List.getElem?_eq_getElem _,Blk.part_le (List.mem_map.2 ⟨_,List.getElem_mem _,rfl⟩)⟩
 obtain⟨y0,e0,b0⟩:=hy 0 (by omega)
 rw[e0]at f0
 obtain⟨z0,g0,_,w0⟩:=DataW.trod_int Tryz.underlying2 f0
 simp only[List.cons.injEq,and_true]at g0
 subst g0
 obtain⟨y1,e1,b1⟩:=hy 1 (by omega)
 rw[e1]at f1
 obtain⟨z1,g1,_,w1⟩:=DataW.trod_int Tryz.underlying2 f1
 simp only[List.cons.injEq,and_true]at g1
 subst g1
 obtain⟨y2,e2,b2⟩:=hy 2 (by omega)
 rw[e2]at f2
 obtain⟨z2,g2,_,w2⟩:=DataW.trod_int Tryz.underlying2 f2
 simp only[List.cons.injEq,and_true]at g2
 subst g2
 have htop:Rows.uptoBulk (DataW.agg (ys.map (·.1)))=Rows.uptoBulkAll (ys.map (·.1))+1:=rfl
 exact⟨⟨z0,z1,z2⟩,rfl,trivial,Nat.zero_le _⟩
theorem lines_in {fuel:Nat} {v:Value} {x:DataW H × List MemPlace} (h:DataW.trod enc Tryz.prog w base (fun _=>true) held fuel 29 [v]=some x) (hb:Rows.uptoBulk x.1≤1048576):∃s:Sli Lin,v=.slice s.p s.n s.c∧SlOk w 2 linc s∧(∀a∈s.xs,(fun _=>True) a)∧(s.xs.map (fun _=>0)).sum≤Rows.uptoBulk x.1∧s.xs.length≤Rows.uptoBulk x.1∧s.n≤s.c :=
 @slice_in H enc w base held Lin ⟨⟨0,0⟩⟩ _ _ _ _ Tryz.underlying29 cEapiLine (by omega) (fun _=>rfl) (V:=(fun _=>True)) (g:=(fun _=>0)) (fun _ _ _ h hb=>line_open h hb) fuel v x h hb
theorem guards_in {fuel:Nat} {v:Value} {x:DataW H × List MemPlace} (h:DataW.trod enc Tryz.prog w base (fun _=>true) held fuel 30 [v]=some x) (hb:Rows.uptoBulk x.1≤1048576):∃s:Sli Tri,v=.slice s.p s.n s.c∧SlOk w 3 tric s∧(∀a∈s.xs,(fun _=>True) a)∧(s.xs.map (fun _=>0)).sum≤Rows.uptoBulk x.1∧s.xs.length≤Rows.uptoBulk x.1∧s.n≤s.c :=
 @slice_in H enc w base held Tri ⟨⟨0,0,0⟩⟩ _ _ _ _ Tryz.underlying30 cEapiGuard (by omega) (fun _=>rfl) (V:=(fun _=>True)) (g:=(fun _=>0)) (fun _ _ _ h hb=>guard_open h hb) fuel v x h hb
theorem sets_in {fuel:Nat} {v:Value} {x:DataW H × List MemPlace} (h:DataW.trod enc Tryz.prog w base (fun _=>true) held fuel 31 [v]=some x) (hb:Rows.uptoBulk x.1≤1048576):∃s:Sli Tri,v=.slice s.p s.n s.c∧SlOk w 3 tric s∧(∀a∈s.xs,(fun _=>True) a)∧(s.xs.map (fun _=>0)).sum≤Rows.uptoBulk x.1∧s.xs.length≤Rows.uptoBulk x.1∧s.n≤s.c :=
 @slice_in H enc w base held Tri ⟨⟨0,0,0⟩⟩ _ _ _ _ Tryz.underlying31 cEapiSet (by omega) (fun _=>rfl) (V:=(fun _=>True)) (g:=(fun _=>0)) (fun _ _ _ h hb=>set_open h hb) fuel v x h hb
theorem rights_in {fuel:Nat} {v:Value} {x:DataW H × List MemPlace} (h:DataW.trod enc Tryz.prog w base (fun _=>true) held fuel 54 [v]=some x) (hb:Rows.uptoBulk x.1≤1048576):∃s:Sli Tri,v=.slice s.p s.n s.c∧SlOk w 3 tric s∧(∀a∈s.xs,(fun _=>True) a)∧(s.xs.map (fun _=>0)).sum≤Rows.uptoBulk x.1∧s.xs.length≤Rows.uptoBulk x.1∧s.n≤s.c :=
 @slice_in H enc w base held Tri ⟨⟨0,0,0⟩⟩ _ _ _ _ Tryz.underlying54 cEapiRight (by omega) (fun _=>rfl) (V:=(fun _=>True)) (g:=(fun _=>0)) (fun _ _ _ h hb=>right_open h hb) fuel v x h hb
theorem bounds_in {fuel:Nat} {v:Value} {x:DataW H × List MemPlace} (h:DataW.trod enc Tryz.prog w base (fun _=>true) held fuel 22 [v]=some x) (hb:Rows.uptoBulk x.1≤1048576):∃s:Sli Tri,v=.slice s.p s.n s.c∧SlOk w 3 tric s∧(∀a∈s.xs,(fun _=>True) a)∧(s.xs.map (fun _=>0)).sum≤Rows.uptoBulk x.1∧s.xs.length≤Rows.uptoBulk x.1∧s.n≤s.c :=
 @slice_in H enc w base held Tri ⟨⟨0,0,0⟩⟩ _ _ _ _ Tryz.underlying22 cEtilllaw1Bounds (by omega) (fun _=>rfl) (V:=(fun _=>True)) (g:=(fun _=>0)) (fun _ _ _ h hb=>bound_open h hb) fuel v x h hb
theorem head_open {fuel:Nat} {cs:List Value} {x:DataW H × List MemPlace} (h:DataW.trod enc Tryz.prog w base (fun _=>true) held fuel 49 cs=some x) (hb:Rows.uptoBulk x.1≤1048576):∃a b:Int,cs=[.int .i64 a,.int .u64 b]:=by
 obtain⟨ys,n,_,rfl,hl,hlen,hf⟩:=DataW.trod_struct Tryz.underlying49 h
 rw[cEapiHead]at hl
 obtain⟨v0,v1,rfl⟩:=len2 hl
 have f0:DataW.trod enc Tryz.prog w base (fun _=>true) held n 3 (([v0,v1].drop 0).take (Tryz.prog.cellsOf 3))=ys[0]?:=hf 0 _ rfl
 have f1:DataW.trod enc Tryz.prog w base (fun _=>true) held n 39 (([v0,v1].drop 1).take (Tryz.prog.cellsOf 39))=ys[1]?:=hf 1 _ rfl
 simp only[cEint,cEuint64,List.drop_zero,List.drop_succ_cons,List.take_succ_cons,List.take_zero]at f0 f1
 have hbk:Rows.uptoBulkAll (ys.map (·.1))+1≤1048576:=hb
 have hy:∀i,i<2→∃y,ys[i]?=some y∧Rows.uptoBulk y.1≤Rows.uptoBulkAll (ys.map (·.1)):=fun i hi=>⟨ys[i]'(by rw[hlen];exact hi),List.getElem?_eq_getElem _,Blk.part_le (List.mem_map.2 ⟨_,List.getElem_mem _,rfl⟩)⟩
 obtain⟨y0,e0,b0⟩:=hy 0 (by omega)
 rw[e0]at f0
 obtain⟨z0,g0,_,w0⟩:=DataW.trod_int Tryz.underlying3 f0
 simp only[List.cons.injEq,and_true]at g0
 subst g0
 obtain⟨y1,e1,b1⟩:=hy 1 (by omega)
 rw[e1]at f1
 obtain⟨z1,g1,_,w1⟩:=DataW.trod_int Tryz.underlying39 f1
 simp only[List.cons.injEq,and_true]at g1
 subst g1
 have htop:Rows.uptoBulk (DataW.agg (ys.map (·.1)))=Rows.uptoBulkAll (ys.map (·.1))+1:=rfl
 exact⟨z0,z1,rfl⟩
theorem merge_open {fuel:Nat} {cs:List Value} {x:DataW H × List MemPlace} (h:DataW.trod enc Tryz.prog w base (fun _=>true) held fuel 51 cs=some x) (hb:Rows.uptoBulk x.1≤1048576):∃(a:Int) (s:Sli Lin),cs=[.int .i64 a,.slice s.p s.n s.c]∧SlOk w 2 linc s:=by
 obtain⟨ys,n,_,rfl,hl,hlen,hf⟩:=DataW.trod_struct Tryz.underlying51 h
 rw[cEapiMerge]at hl
 obtain⟨v0,v1,rfl⟩:=len2 hl
 have f0:DataW.trod enc Tryz.prog w base (fun _=>true) held n 3 (([v0,v1].drop 0).take (Tryz.prog.cellsOf 3))=ys[0]?:=hf 0 _ rfl
 have f1:DataW.trod enc Tryz.prog w base (fun _=>true) held n 29 (([v0,v1].drop 1).take (Tryz.prog.cellsOf 29))=ys[1]?:=hf 1 _ rfl
 simp only[cEint,cEsapiLine,List.drop_zero,List.drop_succ_cons,List.take_succ_cons,List.take_zero]at f0 f1
 have hbk:Rows.uptoBulkAll (ys.map (·.1))+1≤1048576:=hb
 have hy:∀i,i<2→∃y,ys[i]?=some y∧Rows.uptoBulk y.1≤Rows.uptoBulkAll (ys.map (·.1)):=fun i hi=>⟨ys[i]'(by rw[hlen];exact hi),List.getElem?_eq_getElem _,Blk.part_le (List.mem_map.2 ⟨_,List.getElem_mem _,rfl⟩)⟩
 obtain⟨y0,e0,b0⟩:=hy 0 (by omega)
 rw[e0]at f0
 obtain⟨z0,g0,_,w0⟩:=DataW.trod_int Tryz.underlying3 f0
 simp only[List.cons.injEq,and_true]at g0
 subst g0
 obtain⟨y1,e1,b1⟩:=hy 1 (by omega)
 rw[e1]at f1
 obtain⟨z1,rfl,k1,V1,m1,l1,c1⟩:=lines_in f1 (by omega)
 have htop:Rows.uptoBulk (DataW.agg (ys.map (·.1)))=Rows.uptoBulkAll (ys.map (·.1))+1:=rfl
 exact⟨z0,z1,rfl,k1⟩
theorem act_open {fuel:Nat} {cs:List Value} {x:DataW H × List MemPlace} (h:DataW.trod enc Tryz.prog w base (fun _=>true) held fuel 56 cs=some x) (hb:Rows.uptoBulk x.1≤1048576):∃a:Acd,cs=a.list∧AcdOk w a∧0≤Rows.uptoBulk x.1:=by
 obtain⟨ys,n,_,rfl,hl,hlen,hf⟩:=DataW.trod_struct Tryz.underlying56 h
 rw[cEapiAct]at hl
 obtain⟨v0,v1,v2,v3,v4,v5,v6,v7,v8,v9,v10,v11,v12,v13,v14,rfl⟩:=len15 hl
 have f0:DataW.trod enc Tryz.prog w base (fun _=>true) held n 49 (([v0,v1,v2,v3,v4,v5,v6,v7,v8,v9,v10,v11,v12,v13,v14].drop 0).take (Tryz.prog.cellsOf 49))=ys[0]?:=hf 0 _ rfl
 have f1:DataW.trod enc Tryz.prog w base (fun _=>true) held n 3 (([v0,v1,v2,v3,v4,v5,v6,v7,v8,v9,v10,v11,v12,v13,v14].drop 2).take (Tryz.prog.cellsOf 3))=ys[1]?:=hf 1 _ rfl
 have f2:DataW.trod enc Tryz.prog w base (fun _=>true) held n 4 (([v0,v1,v2,v3,v4,v5,v6,v7,v8,v9,v10,v11,v12,v13,v14].drop 3).take (Tryz.prog.cellsOf 4))=ys[2]?:=hf 2 _ rfl
 have f3:DataW.trod enc Tryz.prog w base (fun _=>true) held n 29 (([v0,v1,v2,v3,v4,v5,v6,v7,v8,v9,v10,v11,v12,v13,v14].drop 4).take (Tryz.prog.cellsOf 29))=ys[3]?:=hf 3 _ rfl
 have f4:DataW.trod enc Tryz.prog w base (fun _=>true) held n 30 (([v0,v1,v2,v3,v4,v5,v6,v7,v8,v9,v10,v11,v12,v13,v14].drop 5).take (Tryz.prog.cellsOf 30))=ys[4]?:=hf 4 _ rfl
 have f5:DataW.trod enc Tryz.prog w base (fun _=>true) held n 31 (([v0,v1,v2,v3,v4,v5,v6,v7,v8,v9,v10,v11,v12,v13,v14].drop 6).take (Tryz.prog.cellsOf 31))=ys[5]?:=hf 5 _ rfl
 have f6:DataW.trod enc Tryz.prog w base (fun _=>true) held n 51 (([v0,v1,v2,v3,v4,v5,v6,v7,v8,v9,v10,v11,v12,v13,v14].drop 7).take (Tryz.prog.cellsOf 51))=ys[6]?:=hf 6 _ rfl
 have f7:DataW.trod enc Tryz.prog w base (fun _=>true) held n 53 (([v0,v1,v2,v3,v4,v5,v6,v7,v8,v9,v10,v11,v12,v13,v14].drop 9).take (Tryz.prog.cellsOf 53))=ys[7]?:=hf 7 _ rfl
 have f8:DataW.trod enc Tryz.prog w base (fun _=>true) held n 3 (([v0,v1,v2,v3,v4,v5,v6,v7,v8,v9,v10,v11,v12,v13,v14].drop 12).take (Tryz.prog.cellsOf 3))=ys[8]?:=hf 8 _ rfl
 have f9:DataW.trod enc Tryz.prog w base (fun _=>true) held n 39 (([v0,v1,v2,v3,v4,v5,v6,v7,v8,v9,v10,v11,v12,v13,v14].drop 13).take (Tryz.prog.cellsOf 39))=ys[9]?:=hf 9 _ rfl
 have f10:DataW.trod enc Tryz.prog w base (fun _=>true) held n 54 (([v0,v1,v2,v3,v4,v5,v6,v7,v8,v9,v10,v11,v12,v13,v14].drop 14).take (Tryz.prog.cellsOf 54))=ys[10]?:=hf 10 _ rfl
 simp only[cEapiHead,cEapiMerge,cEapiRight,cEbool,cEint,cEsapiGuard,cEsapiLine,cEsapiRight,cEsapiSet,cEuint64,List.drop_zero,List.drop_succ_cons,List.take_succ_cons,List.take_zero]at f0 f1 f2 f3 f4 f5 f6 f7 f8 f9 f10
 have hbk:Rows.uptoBulkAll (ys.map (·.1))+1≤1048576:=hb
 have hy:∀i,i<11→∃y,ys[i]?=some y∧Rows.uptoBulk y.1≤Rows.uptoBulkAll (ys.map (·.1)):=fun i hi=>⟨ys[i]'(by rw[hlen];exact hi),List.getElem?_eq_getElem _,Blk.part_le (List.mem_map.2 ⟨_,List.getElem_mem _,rfl⟩)⟩
 obtain⟨y0,e0,b0⟩:=hy 0 (by omega)
 rw[e0]at f0
 obtain⟨z0a,z0b,g0⟩:=head_open f0 (by omega)
 simp only[List.cons.injEq,and_true]at g0
 obtain⟨rfl,rfl⟩:=g0
 obtain⟨y1,e1,b1⟩:=hy 1 (by omega)
 rw[e1]at f1
 obtain⟨z1,g1,_,w1⟩:=DataW.trod_int Tryz.underlying3 f1
 simp only[List.cons.injEq,and_true]at g1
 subst g1
 obtain⟨y2,e2,b2⟩:=hy 2 (by omega)
 rw[e2]at f2
 obtain⟨z2,g2,_⟩:=DataW.trod_bool Tryz.underlying4 f2
 simp only[List.cons.injEq,and_true]at g2
 subst g2
 obtain⟨y3,e3,b3⟩:=hy 3 (by omega)
 rw[e3]at f3
 obtain⟨z3,rfl,k3,V3,m3,l3,c3⟩:=lines_in f3 (by omega)
 obtain⟨y4,e4,b4⟩:=hy 4 (by omega)
 rw[e4]at f4
 obtain⟨z4,rfl,k4,V4,m4,l4,c4⟩:=guards_in f4 (by omega)
 obtain⟨y5,e5,b5⟩:=hy 5 (by omega)
 rw[e5]at f5
 obtain⟨z5,rfl,k5,V5,m5,l5,c5⟩:=sets_in f5 (by omega)
 obtain⟨y6,e6,b6⟩:=hy 6 (by omega)
 rw[e6]at f6
 obtain⟨z6a,z6b,g6,k6⟩:=merge_open f6 (by omega)
 simp only[List.cons.injEq,and_true]at g6
 obtain⟨rfl,rfl⟩:=g6
 obtain⟨y7,e7,b7⟩:=hy 7 (by omega)
 rw[e7]at f7
 obtain⟨z7,g7,_,_⟩:=right_open f7 (by omega)
 simp only[tric,List.cons.injEq,and_true]at g7
 obtain⟨rfl,rfl,rfl⟩:=g7
 obtain⟨y8,e8,b8⟩:=hy 8 (by omega)
 rw[e8]at f8
 obtain⟨z8,g8,_,w8⟩:=DataW.trod_int Tryz.underlying3 f8
 simp only[List.cons.injEq,and_true]at g8
 subst g8
 obtain⟨y9,e9,b9⟩:=hy 9 (by omega)
 rw[e9]at f9
 obtain⟨z9,g9,_,w9⟩:=DataW.trod_int Tryz.underlying39 f9
 simp only[List.cons.injEq,and_true]at g9
 subst g9
 obtain⟨y10,e10,b10⟩:=hy 10 (by omega)
 rw[e10]at f10
 obtain⟨z10,rfl,k10,V10,m10,l10,c10⟩:=rights_in f10 (by omega)
 have htop:Rows.uptoBulk (DataW.agg (ys.map (·.1)))=Rows.uptoBulkAll (ys.map (·.1))+1:=rfl
 exact⟨⟨z0a,z0b,z1,z2,z3,z4,z5,z6a,z6b,z7.a,z7.b,z7.n,z8,z9,z10⟩,rfl,⟨k3,k4,k5,k6,k10⟩,Nat.zero_le _⟩
theorem step_open {fuel:Nat} {cs:List Value} {x:DataW H × List MemPlace} (h:DataW.trod enc Tryz.prog w base (fun _=>true) held fuel 58 cs=some x) (hb:Rows.uptoBulk x.1≤1048576):∃a:Stp,cs=a.list∧AcdOk w a.ac∧0≤Rows.uptoBulk x.1:=by
 obtain⟨ys,n,_,rfl,hl,hlen,hf⟩:=DataW.trod_struct Tryz.underlying58 h
 rw[cEtilllaw9Step]at hl
 obtain⟨v0,v1,v2,v3,v4,v5,v6,v7,v8,v9,v10,v11,v12,v13,v14,v15,v16,v17,v18,v19,rfl⟩:=len20 hl
 have f0:DataW.trod enc Tryz.prog w base (fun _=>true) held n 3 (([v0,v1,v2,v3,v4,v5,v6,v7,v8,v9,v10,v11,v12,v13,v14,v15,v16,v17,v18,v19].drop 0).take (Tryz.prog.cellsOf 3))=ys[0]?:=hf 0 _ rfl
 have f1:DataW.trod enc Tryz.prog w base (fun _=>true) held n 56 (([v0,v1,v2,v3,v4,v5,v6,v7,v8,v9,v10,v11,v12,v13,v14,v15,v16,v17,v18,v19].drop 1).take (Tryz.prog.cellsOf 56))=ys[1]?:=hf 1 _ rfl
 have f2:DataW.trod enc Tryz.prog w base (fun _=>true) held n 3 (([v0,v1,v2,v3,v4,v5,v6,v7,v8,v9,v10,v11,v12,v13,v14,v15,v16,v17,v18,v19].drop 16).take (Tryz.prog.cellsOf 3))=ys[2]?:=hf 2 _ rfl
 have f3:DataW.trod enc Tryz.prog w base (fun _=>true) held n 3 (([v0,v1,v2,v3,v4,v5,v6,v7,v8,v9,v10,v11,v12,v13,v14,v15,v16,v17,v18,v19].drop 17).take (Tryz.prog.cellsOf 3))=ys[3]?:=hf 3 _ rfl
 have f4:DataW.trod enc Tryz.prog w base (fun _=>true) held n 3 (([v0,v1,v2,v3,v4,v5,v6,v7,v8,v9,v10,v11,v12,v13,v14,v15,v16,v17,v18,v19].drop 18).take (Tryz.prog.cellsOf 3))=ys[4]?:=hf 4 _ rfl
 have f5:DataW.trod enc Tryz.prog w base (fun _=>true) held n 2 (([v0,v1,v2,v3,v4,v5,v6,v7,v8,v9,v10,v11,v12,v13,v14,v15,v16,v17,v18,v19].drop 19).take (Tryz.prog.cellsOf 2))=ys[5]?:=hf 5 _ rfl
 simp only[cEapiAct,cEint,cEint64,List.drop_zero,List.drop_succ_cons,List.take_succ_cons,List.take_zero]at f0 f1 f2 f3 f4 f5
 have hbk:Rows.uptoBulkAll (ys.map (·.1))+1≤1048576:=hb
 have hy:∀i,i<6→∃y,ys[i]?=some y∧Rows.uptoBulk y.1≤Rows.uptoBulkAll (ys.map (·.1)):=fun i hi=>⟨ys[i]'(by rw[hlen];exact hi),List.getElem?_eq_getElem _,Blk.part_le (List.mem_map.2 ⟨_,List.getElem_mem _,rfl⟩)⟩
 obtain⟨y0,e0,b0⟩:=hy 0 (by omega)
 rw[e0]at f0
 obtain⟨z0,g0,_,w0⟩:=DataW.trod_int Tryz.underlying3 f0
 simp only[List.cons.injEq,and_true]at g0
 subst g0
 obtain⟨y1,e1,b1⟩:=hy 1 (by omega)
 rw[e1]at f1
 obtain⟨z1,g1,k1,_⟩:=act_open f1 (by omega)
 simp only[Acd.list,List.cons.injEq,and_true]at g1
 obtain⟨rfl,rfl,rfl,rfl,rfl,rfl,rfl,rfl,rfl,rfl,rfl,rfl,rfl,rfl,rfl⟩:=g1
 obtain⟨y2,e2,b2⟩:=hy 2 (by omega)
 rw[e2]at f2
 obtain⟨z2,g2,_,w2⟩:=DataW.trod_int Tryz.underlying3 f2
 simp only[List.cons.injEq,and_true]at g2
 subst g2
 obtain⟨y3,e3,b3⟩:=hy 3 (by omega)
 rw[e3]at f3
 obtain⟨z3,g3,_,w3⟩:=DataW.trod_int Tryz.underlying3 f3
 simp only[List.cons.injEq,and_true]at g3
 subst g3
 obtain⟨y4,e4,b4⟩:=hy 4 (by omega)
 rw[e4]at f4
 obtain⟨z4,g4,_,w4⟩:=DataW.trod_int Tryz.underlying3 f4
 simp only[List.cons.injEq,and_true]at g4
 subst g4
 obtain⟨y5,e5,b5⟩:=hy 5 (by omega)
 rw[e5]at f5
 obtain⟨z5,g5,_,w5⟩:=DataW.trod_int Tryz.underlying2 f5
 simp only[List.cons.injEq,and_true]at g5
 subst g5
 have htop:Rows.uptoBulk (DataW.agg (ys.map (·.1)))=Rows.uptoBulkAll (ys.map (·.1))+1:=rfl
 exact⟨⟨z0,z1,z2,z3,z4,z5⟩,rfl,k1,Nat.zero_le _⟩
theorem steps_in {fuel:Nat} {v:Value} {x:DataW H × List MemPlace} (h:DataW.trod enc Tryz.prog w base (fun _=>true) held fuel 26 [v]=some x) (hb:Rows.uptoBulk x.1≤1048576):∃s:Sli Stp,v=.slice s.p s.n s.c∧SlOk w 20 Stp.list s∧(∀a∈s.xs,(fun a=>AcdOk w a.ac) a)∧(s.xs.map (fun _=>0)).sum≤Rows.uptoBulk x.1∧s.xs.length≤Rows.uptoBulk x.1∧s.n≤s.c :=
 @slice_in H enc w base held Stp ⟨⟨0,⟨0,0,0,false,⟨none,0,0,[]⟩,⟨none,0,0,[]⟩,⟨none,0,0,[]⟩,0,⟨none,0,0,[]⟩,0,0,0,0,0,⟨none,0,0,[]⟩⟩,0,0,0,0⟩⟩ _ _ _ _ Tryz.underlying26 cEtilllaw9Step (by omega) (fun _=>rfl) (V:=(fun a=>AcdOk w a.ac)) (g:=(fun _=>0)) (fun _ _ _ h hb=>step_open h hb) fuel v x h hb
theorem conf_open {fuel:Nat} {cs:List Value} {x:DataW H × List MemPlace} (h:DataW.trod enc Tryz.prog w base (fun _=>true) held fuel 25 cs=some x) (hb:Rows.uptoBulk x.1≤1048576):∃p:Cnf,cs=p.arr.toList∧SlOk w 3 tric p.ctr∧SlOk w 1 (fun n:Int=>[Value.int .i64 n]) p.prc:=by
 obtain⟨ys,n,_,rfl,hl,hlen,hf⟩:=DataW.trod_struct Tryz.underlying25 h
 rw[cEtilllaw1Conf]at hl
 obtain⟨v0,v1,v2,v3,v4,v5,v6,v7,v8,rfl⟩:=len9 hl
 have f0:DataW.trod enc Tryz.prog w base (fun _=>true) held n 3 (([v0,v1,v2,v3,v4,v5,v6,v7,v8].drop 0).take (Tryz.prog.cellsOf 3))=ys[0]?:=hf 0 _ rfl
 have f1:DataW.trod enc Tryz.prog w base (fun _=>true) held n 22 (([v0,v1,v2,v3,v4,v5,v6,v7,v8].drop 1).take (Tryz.prog.cellsOf 22))=ys[1]?:=hf 1 _ rfl
 have f2:DataW.trod enc Tryz.prog w base (fun _=>true) held n 23 (([v0,v1,v2,v3,v4,v5,v6,v7,v8].drop 2).take (Tryz.prog.cellsOf 23))=ys[2]?:=hf 2 _ rfl
 have f3:DataW.trod enc Tryz.prog w base (fun _=>true) held n 3 (([v0,v1,v2,v3,v4,v5,v6,v7,v8].drop 3).take (Tryz.prog.cellsOf 3))=ys[3]?:=hf 3 _ rfl
 have f4:DataW.trod enc Tryz.prog w base (fun _=>true) held n 3 (([v0,v1,v2,v3,v4,v5,v6,v7,v8].drop 4).take (Tryz.prog.cellsOf 3))=ys[4]?:=hf 4 _ rfl
 have f5:DataW.trod enc Tryz.prog w base (fun _=>true) held n 3 (([v0,v1,v2,v3,v4,v5,v6,v7,v8].drop 5).take (Tryz.prog.cellsOf 3))=ys[5]?:=hf 5 _ rfl
 have f6:DataW.trod enc Tryz.prog w base (fun _=>true) held n 3 (([v0,v1,v2,v3,v4,v5,v6,v7,v8].drop 6).take (Tryz.prog.cellsOf 3))=ys[6]?:=hf 6 _ rfl
 have f7:DataW.trod enc Tryz.prog w base (fun _=>true) held n 3 (([v0,v1,v2,v3,v4,v5,v6,v7,v8].drop 7).take (Tryz.prog.cellsOf 3))=ys[7]?:=hf 7 _ rfl
 have f8:DataW.trod enc Tryz.prog w base (fun _=>true) held n 3 (([v0,v1,v2,v3,v4,v5,v6,v7,v8].drop 8).take (Tryz.prog.cellsOf 3))=ys[8]?:=hf 8 _ rfl
 simp only[cEint,cEsint64,cEstilllaw1Bounds,List.drop_zero,List.drop_succ_cons,List.take_succ_cons,List.take_zero]at f0 f1 f2 f3 f4 f5 f6 f7 f8
 have hbk:Rows.uptoBulkAll (ys.map (·.1))+1≤1048576:=hb
 have hy:∀i,i<9→∃y,ys[i]?=some y∧Rows.uptoBulk y.1≤Rows.uptoBulkAll (ys.map (·.1)):=fun i hi=>⟨ys[i]'(by rw[hlen];exact hi),List.getElem?_eq_getElem _,Blk.part_le (List.mem_map.2 ⟨_,List.getElem_mem _,rfl⟩)⟩
 obtain⟨y0,e0,b0⟩:=hy 0 (by omega)
 rw[e0]at f0
 obtain⟨z0,g0,_,w0⟩:=DataW.trod_int Tryz.underlying3 f0
 simp only[List.cons.injEq,and_true]at g0
 subst g0
 obtain⟨y1,e1,b1⟩:=hy 1 (by omega)
 rw[e1]at f1
 obtain⟨z1,rfl,k1,V1,m1,l1,c1⟩:=bounds_in f1 (by omega)
 obtain⟨y2,e2,b2⟩:=hy 2 (by omega)
 rw[e2]at f2
 obtain⟨z2,rfl,k2,V2,m2,l2,c2⟩:=i64s_in f2 (by omega)
 obtain⟨y3,e3,b3⟩:=hy 3 (by omega)
 rw[e3]at f3
 obtain⟨z3,g3,_,w3⟩:=DataW.trod_int Tryz.underlying3 f3
 simp only[List.cons.injEq,and_true]at g3
 subst g3
 obtain⟨y4,e4,b4⟩:=hy 4 (by omega)
 rw[e4]at f4
 obtain⟨z4,g4,_,w4⟩:=DataW.trod_int Tryz.underlying3 f4
 simp only[List.cons.injEq,and_true]at g4
 subst g4
 obtain⟨y5,e5,b5⟩:=hy 5 (by omega)
 rw[e5]at f5
 obtain⟨z5,g5,_,w5⟩:=DataW.trod_int Tryz.underlying3 f5
 simp only[List.cons.injEq,and_true]at g5
 subst g5
 obtain⟨y6,e6,b6⟩:=hy 6 (by omega)
 rw[e6]at f6
 obtain⟨z6,g6,_,w6⟩:=DataW.trod_int Tryz.underlying3 f6
 simp only[List.cons.injEq,and_true]at g6
 subst g6
 obtain⟨y7,e7,b7⟩:=hy 7 (by omega)
 rw[e7]at f7
 obtain⟨z7,g7,_,w7⟩:=DataW.trod_int Tryz.underlying3 f7
 simp only[List.cons.injEq,and_true]at g7
 subst g7
 obtain⟨y8,e8,b8⟩:=hy 8 (by omega)
 rw[e8]at f8
 obtain⟨z8,g8,_,w8⟩:=DataW.trod_int Tryz.underlying3 f8
 simp only[List.cons.injEq,and_true]at g8
 subst g8
 have htop:Rows.uptoBulk (DataW.agg (ys.map (·.1)))=Rows.uptoBulkAll (ys.map (·.1))+1:=rfl
 exact⟨⟨z0,z1,z2,z3,z4,z5,z6,z7,z8⟩,rfl,k1,k2⟩
def scr9 (p:Cnf) (s:Sli Stp):List Value:=[.int .i64 p.tills,.slice p.ctr.p p.ctr.n p.ctr.c,.slice p.prc.p p.prc.n p.prc.c,.int .i64 p.lease,.int .i64 p.watch,.int .i64 p.beat,.int .i64 p.window,.int .i64 p.cap,.int .i64 p.flight,.slice s.p s.n s.c]
theorem script_open {fuel:Nat} {cs:List Value} {x:DataW H × List MemPlace} (h:DataW.trod enc Tryz.prog w base (fun _=>true) held fuel 28 cs=some x) (hb:Rows.uptoBulk x.1≤1048576):∃(p:Cnf) (s:Sli Stp),cs=scr9 p s∧SlOk w 3 tric p.ctr∧SlOk w 1 (fun n:Int=>[Value.int .i64 n]) p.prc∧SlOk w 20 Stp.list s∧∀o∈s.xs,AcdOk w o.ac:=by
 obtain⟨ys,n,_,rfl,hl,hlen,hf⟩:=DataW.trod_struct Tryz.underlying28 h
 rw[cEtilllaw9Script]at hl
 obtain⟨v0,v1,v2,v3,v4,v5,v6,v7,v8,v9,rfl⟩:=len10 hl
 have f0:DataW.trod enc Tryz.prog w base (fun _=>true) held n 25 (([v0,v1,v2,v3,v4,v5,v6,v7,v8,v9].drop 0).take (Tryz.prog.cellsOf 25))=ys[0]?:=hf 0 _ rfl
 have f1:DataW.trod enc Tryz.prog w base (fun _=>true) held n 26 (([v0,v1,v2,v3,v4,v5,v6,v7,v8,v9].drop 9).take (Tryz.prog.cellsOf 26))=ys[1]?:=hf 1 _ rfl
 simp only[cEstilllaw9Step,cEtilllaw1Conf,List.drop_zero,List.drop_succ_cons,List.take_succ_cons,List.take_zero]at f0 f1
 have hbk:Rows.uptoBulkAll (ys.map (·.1))+1≤1048576:=hb
 have hy:∀i,i<2→∃y,ys[i]?=some y∧Rows.uptoBulk y.1≤Rows.uptoBulkAll (ys.map (·.1)):=fun i hi=>⟨ys[i]'(by rw[hlen];exact hi),List.getElem?_eq_getElem _,Blk.part_le (List.mem_map.2 ⟨_,List.getElem_mem _,rfl⟩)⟩
 obtain⟨y0,e0,b0⟩:=hy 0 (by omega)
 rw[e0]at f0
 obtain⟨z0,g0,k0a,k0b⟩:=conf_open f0 (by omega)
 simp only[Cnf.arr,List.cons.injEq,and_true]at g0
 obtain⟨rfl,rfl,rfl,rfl,rfl,rfl,rfl,rfl,rfl⟩:=g0
 obtain⟨y1,e1,b1⟩:=hy 1 (by omega)
 rw[e1]at f1
 obtain⟨z1,rfl,k1,V1,m1,l1,c1⟩:=steps_in f1 (by omega)
 have htop:Rows.uptoBulk (DataW.agg (ys.map (·.1)))=Rows.uptoBulkAll (ys.map (·.1))+1:=rfl
 exact⟨z0,z1,rfl,k0a,k0b,k1,V1⟩
theorem long_open {fuel:Nat} {cs:List Value} {x:DataW H × List MemPlace} (h:DataW.trod enc Tryz.prog w base (fun _=>true) held fuel 33 cs=some x) (hb:Rows.uptoBulk x.1≤1048576):∃d:Lgd,cs=d.arr.toList∧SlOk w 3 tric d.p.ctr∧SlOk w 1 (fun n:Int=>[Value.int .i64 n]) d.p.prc∧SlOk w 20 Stp.list d.st∧(∀o∈d.st.xs,AcdOk w o.ac)∧SlOk w 2 linc d.l∧SlOk w 3 tric d.g∧SlOk w 3 tric d.q∧d.g.n≤d.g.c∧d.q.n≤d.q.c:=by
 obtain⟨ys,n,_,rfl,hl,hlen,hf⟩:=DataW.trod_struct Tryz.underlying33 h
 rw[cEtilllaw9Long]at hl
 obtain⟨v0,v1,v2,v3,v4,v5,v6,v7,v8,v9,v10,v11,v12,v13,rfl⟩:=len14 hl
 have f0:DataW.trod enc Tryz.prog w base (fun _=>true) held n 28 (([v0,v1,v2,v3,v4,v5,v6,v7,v8,v9,v10,v11,v12,v13].drop 0).take (Tryz.prog.cellsOf 28))=ys[0]?:=hf 0 _ rfl
 have f1:DataW.trod enc Tryz.prog w base (fun _=>true) held n 3 (([v0,v1,v2,v3,v4,v5,v6,v7,v8,v9,v10,v11,v12,v13].drop 10).take (Tryz.prog.cellsOf 3))=ys[1]?:=hf 1 _ rfl
 have f2:DataW.trod enc Tryz.prog w base (fun _=>true) held n 29 (([v0,v1,v2,v3,v4,v5,v6,v7,v8,v9,v10,v11,v12,v13].drop 11).take (Tryz.prog.cellsOf 29))=ys[2]?:=hf 2 _ rfl
 have f3:DataW.trod enc Tryz.prog w base (fun _=>true) held n 30 (([v0,v1,v2,v3,v4,v5,v6,v7,v8,v9,v10,v11,v12,v13].drop 12).take (Tryz.prog.cellsOf 30))=ys[3]?:=hf 3 _ rfl
 have f4:DataW.trod enc Tryz.prog w base (fun _=>true) held n 31 (([v0,v1,v2,v3,v4,v5,v6,v7,v8,v9,v10,v11,v12,v13].drop 13).take (Tryz.prog.cellsOf 31))=ys[4]?:=hf 4 _ rfl
 simp only[cEint,cEsapiGuard,cEsapiLine,cEsapiSet,cEtilllaw9Script,List.drop_zero,List.drop_succ_cons,List.take_succ_cons,List.take_zero]at f0 f1 f2 f3 f4
 have hbk:Rows.uptoBulkAll (ys.map (·.1))+1≤1048576:=hb
 have hy:∀i,i<5→∃y,ys[i]?=some y∧Rows.uptoBulk y.1≤Rows.uptoBulkAll (ys.map (·.1)):=fun i hi=>⟨ys[i]'(by rw[hlen];exact hi),List.getElem?_eq_getElem _,Blk.part_le (List.mem_map.2 ⟨_,List.getElem_mem _,rfl⟩)⟩
 obtain⟨y0,e0,b0⟩:=hy 0 (by omega)
 rw[e0]at f0
 obtain⟨z0p,z0s,g0,k0a,k0b,k0c,k0d⟩:=script_open f0 (by omega)
 simp only[scr9,List.cons.injEq,and_true]at g0
 obtain⟨rfl,rfl,rfl,rfl,rfl,rfl,rfl,rfl,rfl,rfl⟩:=g0
 obtain⟨y1,e1,b1⟩:=hy 1 (by omega)
 rw[e1]at f1
 obtain⟨z1,g1,_,w1⟩:=DataW.trod_int Tryz.underlying3 f1
 simp only[List.cons.injEq,and_true]at g1
 subst g1
 obtain⟨y2,e2,b2⟩:=hy 2 (by omega)
 rw[e2]at f2
 obtain⟨z2,rfl,k2,V2,m2,l2,c2⟩:=lines_in f2 (by omega)
 obtain⟨y3,e3,b3⟩:=hy 3 (by omega)
 rw[e3]at f3
 obtain⟨z3,rfl,k3,V3,m3,l3,c3⟩:=guards_in f3 (by omega)
 obtain⟨y4,e4,b4⟩:=hy 4 (by omega)
 rw[e4]at f4
 obtain⟨z4,rfl,k4,V4,m4,l4,c4⟩:=sets_in f4 (by omega)
 have htop:Rows.uptoBulk (DataW.agg (ys.map (·.1)))=Rows.uptoBulkAll (ys.map (·.1))+1:=rfl
 exact⟨⟨z0p,z0s,z1,z2,z3,z4⟩,rfl,k0a,k0b,k0c,k0d,k2,k3,k4,c3,c4⟩
end
end Go.Proofs.YtfbegfapoijbnaaGreat.Z
namespace Go.Proofs.YtfbegfapoijbnaaGreat
open Go.RowKit Go.ChangeShapes Go.WideShapes Go.ChangeAt
theorem Tryz.own:ownKnob Tryz.prog.godebug=none:=by kernel_rfl
theorem Tryz.laidOut:laidOutB Tryz.prog=true:=by kernel_rfl
theorem long_contract (H:Type) (enc:TypeId × Value→H) (W:World) (base:Nat) (args:Array Value) (ds gs:List (DataW H)) (before:List MemPlace)
  (hval0:∀(j:Nat) t v,Tryz.f3.params[j]?=some t→args[j]?=some v→Value.okWide Tryz.prog W .any base t v)
  (hW:DataW.Whole enc Tryz.prog Tryz.f3.params.toList Rows.ruleLongSpec.vars false W args.toList ds gs before) (hk:Rows.uptoSmall H (ds++gs)=true) :
  Calls Tryz.prog 3 args W fun e W'=>∃v,e=.returned v∧Rows.ruleLongSpec.post enc Tryz.prog Tryz.f3 false true false false W args v W':=by
 have hval:∀(j:Nat) t v,Tryz.f3.params[j]?=some t→args[j]?=some v→Value.okWide Tryz.prog W .any base t v:=hval0
 have hW':=hW
 obtain⟨p,q,hA0,hV,rfl,hfz,hnd⟩:=hW
 have hA:DataW.TrodAll enc Tryz.prog W 0 (fun _=>true) true Tryz.f3.params.toList args.toList ds p:=hA0
 rw[Tryz.params3]at hA hval
 obtain⟨v0,d0,rfl,rfl,h0⟩:=trodAll_one hA
 obtain⟨rfl,rfl⟩:=trodVars_none hV
 have hbk:Rows.uptoBulk d0≤1048576:=by
  have h:Rows.uptoBulkAll ([d0]++[])≤1048576:=of_decide_eq_true hk
  simp only[List.append_nil,Rows.uptoBulkAll]at h
  omega
 obtain⟨cs,rfl,hsz⟩:=okWide_struct Tryz.underlying33 (hval 0 33 v0 rfl rfl)
 obtain⟨fuel,hf0⟩:=h0
 obtain⟨d,hcs,k1,k2,k3,k4,k5,k6,k7,k8,k9⟩:=Z.long_open hf0 hbk
 have hcs':cs=d.arr:=Array.toList_inj.1 hcs
 subst hcs'
 have h0:DataW.Trod enc Tryz.prog W 0 (fun _=>true) true 33 (.agg d.arr) d0 p:=⟨fuel,hf0⟩
 clear hA0 hval0
 simp only[List.append_nil]at hW'
 refine(long_all W d k1 k2 k3 k4 k5 k6 k7 k8 k9).mono fun e W' ⟨he,hb⟩=>?_
 subst he
 have hlt:∀x∈p,x.block<W.heap.size:=fun x hx=>by simpa using hW'.lt x hx
 exact⟨_,rfl,_,_,_,[],p,[],hW',trodAll_mk1 (shut_bool Tryz.underlying4 true),trodAll_mk1 (Below.trod Tryz.laidOut (by kernel_rfl) (of_decide_eq_true (by kernel_rfl)) h0 hb hlt),rfl,hb.frame _,fun h=>by cases h⟩
theorem long_lifted (os:Go.Os) (started:os.Started) (H:Type) (enc:TypeId × Value→H) (F:Stop.Interp) :
  ReturnsInHanded {} Tryz.checked os 3 .any ((Rows.OpenSpec.upto Rows.ruleLongSpec).pre6 enc Tryz.prog Tryz.f3 Rows.ruleLongUptoRow.domain false) (((Rows.OpenSpec.upto Rows.ruleLongSpec).at F).post enc Tryz.prog Tryz.f3 false true false false):=by
 refine returnsInHanded_of_cond (C:=Tryz.checked) (s:=Rows.OpenSpec.upto Rows.ruleLongSpec) (k:=Rows.uptoSmall) rfl Tryz.own started (by kernel_rfl) Tryz.func3
  (OpenSpec.witness (enc:=enc) (C:=Tryz.checked) (s:=Rows.OpenSpec.upto Rows.ruleLongSpec) (k:=Rows.uptoSmall) rfl false ⟨#[],#[.agg #[.int .i64 0,.slice none 0 0,.slice none 0 0,.int .i64 0,.int .i64 0,.int .i64 0,.int .i64 0,.int .i64 0,.int .i64 0,.slice none 0 0,.int .i64 0,.slice none 0 0,.slice none 0 0,.slice none 0 0]],[]⟩ 8 (by kernel_rfl) (by kernel_rfl) (by kernel_rfl)
   (x:=([.agg [.agg [.agg [.lit (.int .i64 0),.nil,.nil,.lit (.int .i64 0),.lit (.int .i64 0),.lit (.int .i64 0),.lit (.int .i64 0),.lit (.int .i64 0),.lit (.int .i64 0)],.nil],.lit (.int .i64 0),.nil,.nil,.nil]],[],[])) (by kernel_rfl) rfl (by kernel_rfl)) ?_
 intro W base args ds gs before hval hW _ hk _
 exact long_contract H enc W base args ds gs before hval hW hk
theorem long_holds:Rows.RuleLongUptoSaid :=
 OpenClaim.holds_of_cond 3 Tryz.f3 rfl rfl rfl rfl rfl rfl rfl ⟨rfl,rfl,rfl,rfl,rfl⟩ rfl rfl rfl rfl rfl (by kernel_rfl) Tryz.func3 (by kernel_rfl)
  (of_decide_eq_true (by kernel_rfl)) (by unfold Func.isWrapper;first | (rw[if_pos (by decide +kernel)];kernel_rfl) | (rw[if_neg (by decide +kernel)];exact⟨rfl,rfl⟩))
  (fun os started H enc _ F=>long_lifted os started H enc F)
end Go.Proofs.YtfbegfapoijbnaaGreat
