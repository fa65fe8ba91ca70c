import Derived.Laws.OwnMore
import Derived.Test.YtiogibfhafoapaaGreatZV
import Derived.Test.YtiogibfhafoapaaGreatZXc
import Derived.Test.YtiogibfhafoapaaGreatRwO
import Derived.Test.YtiogibfhafoapaaGreatAbZ
import Derived.Test.YtiogibfhafoapaaGreatDcR
import Derived.Test.YtiogibfhafoapaaGreatDcC
import Derived.Test.YtiogibfhafoapaaGreatNdU
import Derived.Deep.RegionHeld3
import Derived.Lib.QuietBelow
import Derived.Lib.SmallJoins
set_option maxRecDepth 100000
set_option maxHeartbeats 8000000
set_option linter.unusedSimpArgs false
set_option linter.unusedVariables false
namespace Go.Proofs.YtiogibfhafoapaaGreat.Z
open Go.RowKit
theorem Qdw (w:World) (p q:Option Addr) (n m cap cap':Nat) (xs ys:List Tri) (hn:xs.length=n) (hm:ys.length=m) (hnl:n≤140737488355328) (hc:Cel w p 3 (xs.map Qar)) (hd:Cel w q 3 (ys.map Qar)) (A:Bool) (hA:A=true↔xs=ys) :
  Calls Tryz.prog 51 #[.slice p n cap,.slice q m cap'] w fun e w'=>e=.returned (.bool A)∧Below w.heap.size w w':=by
 obtain⟨HC,HD,HA⟩:=Qmk hc hd hA;clear hc hd hA;by_cases hl:n=m
 ·subst hl
  go_enter Tryz.func51,Tryz.ntmps51;go_wp2;go_loopw [5] (fun i wr=>∃j:Nat,j≤n∧i=.int .i64 j∧Hid (Below w.heap.size w wr)∧Hid (xs.take j=ys.take j)) (fun i _=>n - (intOf i).toNat);case atStart=>exact⟨0,Vo _,rfl,bR,rfl⟩
  case round =>
   obtain⟨j,hj,rfl,HBr,HT⟩:=hrel;by_cases hlt:j<n
   ·have hlt':(j:Int)<(n:Int):=by omega
    have i0:(0:Int)≤(j:Int):=by omega
    obtain⟨x,hx⟩:∃x,xs[j]?=some x:=⟨_,gE (by omega)⟩;obtain⟨y,hy⟩:∃y,ys[j]?=some y:=⟨_,gE (by omega)⟩;obtain⟨b,o,rfl,hbl,hcl⟩:=HC.out.get (i:=j) (r:=Qar x) (by simp[hx]);obtain⟨b',o',rfl,hbl',hcl'⟩:=HD.out.get (i:=j) (r:=Qar y) (by simp[hy]);have f:∀i v,(Qar x)[i]?=some v→wr.cell? ⟨b,o+j*3+i,none⟩=some v:=fun i v hv=>(HBr.out.cell (p:=⟨b,o+j*3+i,none⟩) hbl).trans (hcl i v hv)
    have f':∀i v,(Qar y)[i]?=some v→wr.cell? ⟨b',o'+j*3+i,none⟩=some v:=fun i v hv=>(HBr.out.cell (p:=⟨b',o'+j*3+i,none⟩) hbl').trans (hcl' i v hv)
    have a0:=f 0 _ rfl;have a1:=f 1 _ rfl;have a2:=f 2 _ rfl;have b0:=f' 0 _ rfl;have b1:=f' 1 _ rfl;have b2:=f' 2 _ rfl;rw[Vr]at a0 b0;obtain⟨xa,xb,xn⟩:=x;obtain⟨ya,yb,yn⟩:=y;simp only at a0 a1 a2 b0 b1 b2;clear f f' hcl hcl';have HBd:Hid (Below w.heap.size w wr.drew):=HBr.out.drew;by_cases he:(⟨xa,xb,xn⟩:Tri)=⟨ya,yb,yn⟩
    ·cases he
     have HT2:Hid (xs.take (j+1)=ys.take (j+1)):=by show _=_;rw[VS,VS,hx,hy,HT.out]
     go_upto_region 6 with (fail);go_region;go_wp2;go_roundw;case rel=>exact⟨j+1,by omega,by go_num,HBd,HT2⟩
     case measure=>simp[intOf];omega
    ·have HF:Hid (A=false):=by
      show A=false
      cases hAA:A with
      | false=>rfl
      | true=>exact(Qgb hx hy he (HA.out.1 hAA)).elim
     rcases Qfq he with h1 | ⟨h1,h2⟩ | ⟨h1,h3,h2⟩
     ·go_upto_region 6 with (fail)
      go_region;all_goals go_wp2
      all_goals go_ret
      all_goals exact⟨Qda HF.out,HBd.out⟩
     ·subst h1
      go_upto_region 6 with (fail);go_region;all_goals go_wp2
      all_goals go_ret
      all_goals exact⟨Qda HF.out,HBd.out⟩
     ·subst h1
      subst h3;go_upto_region 6 with (fail);go_region;all_goals go_wp2
      all_goals go_ret
      all_goals exact⟨Qda HF.out,HBd.out⟩
   ·have e1:¬(j:Int)<(n:Int):=by omega
    have HT':Hid (A=true):=HA.out.2 (by have h:=HT.out;rw[Vh (by omega),Vh (by omega)]at h;exact h);go_wp2;go_ret;exact⟨Qda HT'.out,HBr.out⟩
 ·have hl':¬(n:Int)=(m:Int):=by omega
  have HF:Hid (A=false):=by
   show A=false
   cases hAA:A with
   | false=>rfl
   | true=>exact(hl (by rw[←hn,←hm,HA.out.1 hAA])).elim
  go_enter Tryz.func51,Tryz.ntmps51;go_wp2;go_ret;exact⟨Qda HF.out,bR⟩
end Go.Proofs.YtiogibfhafoapaaGreat.Z
namespace Go.Proofs.YtiogibfhafoapaaGreat
open Go.RowKit
open Z (Sli QaE Acd Qad)
structure Qfe (a:Acd):Prop where
 lines:∀x∈a.lines.xs,Qaw x
 other:∀x∈a.other.xs,Qaw x
def QbZ (s:Sta) (a:Acd):Int × List Lin × List Tri :=
 if (QdL s (a.lines.xs.map QaL)).2.length+(a.sets.xs.filter s.want).length=0 then (3,[],[]) else (2,(QdL s (a.lines.xs.map QaL)).2,(a.sets.xs.filter s.want).map s.raise)
def QaG (s:Sta) (a:Acd):Int × List Lin × List Tri :=
 if a.mg=1 then QbZ s a
 else if a.mg=2 then (if s.fits a.other.xs then (2,a.other.xs,[]) else (3,[],[]))
 else if a.mg=3 then (if s.fits a.lines.xs && s.opens a.sets.xs then (2,a.lines.xs,a.sets.xs.map s.raise) else (3,[],[]))
 else (3,[],[])
def QaR (s:Sta) (a:Acd):Int × List Lin × List Tri :=
 if a.sure then (if s.keeps a.till a.lines.xs then (1,a.lines.xs,[]) else (3,[],[]))
 else if s.guards a.guards.xs && s.fits a.lines.xs && s.opens a.sets.xs then (1,a.lines.xs,a.sets.xs.map s.raise) else QaG s a
def Qb1 (b:Bool):Int:=if b then 5 else 3
def Qan (s:Sta) (a:Acd):Int × List Lin × List Tri × Int :=
 if a.kind=1 then ((QaR s a).1,(QaR s a).2.1,(QaR s a).2.2,0)
 else if a.kind=2 then (4,[],[],min a.rd (min (s.free a.ra a.rb) (wrap64 (18014398509481984 - s.held a.till a.ra a.rb))))
 else if a.kind=3 then (Qb1 (decide (a.rd≤s.held a.till a.ra a.rb)),[],[],0)
 else if a.kind=4 then (Qb1 (decide (a.rd≤s.held a.till a.ra a.rb) && decide (a.rd≤wrap64 (18014398509481984 - s.held a.to a.ra a.rb))),[],[],0)
 else if a.kind=5 then (Qb1 (s.owes a.till a.gen && s.hasAll a.till a.rights.xs),[],[],0)
 else (0,[],[],0)
def QcS (B:Nat) (w:World) (v u:Value) (L:List Lin) (S:List Tri):Prop:=w.ownsRow B 132 2 v L.length (QaI L)∧w.ownsRow B 76 3 u S.length (Qav S)
theorem Qa4 (B:Nat) (w:World):QcS B w (.slice none 0 0) (.slice none 0 0) [] []:=⟨⟨rfl,Or.inl ⟨rfl,rfl⟩⟩,⟨rfl,Or.inl ⟨rfl,rfl⟩⟩⟩
def MgP (B:Nat) (w0:World) (r:Int × List Lin × List Tri) (e:Ending) (w:World):Prop:=∃v u,e=.returned (.tuple #[.int .i64 r.1,v,u])∧QcS B w v u r.2.1 r.2.2∧Below B w0 w
def JgP (B:Nat) (w0:World) (r:Int × List Lin × List Tri × Int) (e:Ending) (w:World):Prop:=∃v u,e=.returned (.tuple #[.int .i64 r.1,v,u,.int .i64 r.2.2.2])∧QcS B w v u r.2.1 r.2.2.1∧Below B w0 w
theorem Qc0 {w:World} {B n s:Nat} {e:TypeId} {v:Value} {xs:List Value} (h:w.ownsRow B e s v n xs):∃a c,v=.slice a n c:=by
 rcases h.2 with ⟨rfl,rfl⟩ | ⟨g,cap,cur,rfl,_⟩
 ·exact⟨none,0,rfl⟩
 ·exact⟨_,_,rfl⟩
theorem Qbn {W W':World} {B s n:Nat} {e:TypeId} {u:Value} {xs:List Value} (hr:W.ownsRow B e s u n xs) (hb:Below W.heap.size W W'):W'.ownsRow B e s u n xs:=Z.owns_keep hr hb
theorem QhV {w:World} {B n:Nat} {a:Option Addr} {c:Nat} {e:TypeId} {xs:List Tri} (h:w.ownsRow B e 3 (.slice a n c) n (Qav xs)) (hl:xs.length=n):Cel w a 3 (xs.map Qar):=by
 have hf:Qav xs=Z.flat Qar xs:=by
  induction xs generalizing n with
  | nil=>rfl
  | cons x xs ih=>simp[Qav,Z.flat,Qar]at *
 rw[hf]at h;exact Z.cel_row (f:=Qar) (sz:=3) (fun _=>rfl) h hl
theorem QaT (w:World) (A B:Array Value) (t u:TypeId):∃w2,(w.alloc (.cells A t)).alloc (.cells B u)=w2∧Below w.heap.size w w2∧w2.heap[w.heap.size]?=some (.cells A t (0,0))∧w2.heap[w.heap.size+1]?=some (.cells B u (0,0)):=by
 obtain⟨w2,h1,h2,h3,h4⟩:=QaQ w A t u B;exact⟨w2,h1,h2,h3,h4⟩
def Qbc (a:Acd) (k:Int):Bool:=a.lines.xs.any (fun x=>x.c == k) || (a.other.xs.any (fun x=>x.c == k) || (a.guards.xs.any (fun x=>x.a != 4 && x.b == k) || (a.rights.xs.any (fun x=>x.a == k) || (a.kind != 1 && (a.kind != 5 && a.ra == k)))))
def Qdq (a:Acd) (k:Int):Bool:=a.sets.xs.any (fun x=>x.a == k) || a.guards.xs.any (fun x=>x.a == 4 && x.b == k)
structure Alk (s x:Sta) (a:Acd):Prop where
 pl:s.pools.length=x.pools.length
 pool:∀k,Qbc a k=true→(Qai s.pools pl0 k).v=(Qai x.pools pl0 k).v∧(Qai s.pools pl0 k).f0=(Qai x.pools pl0 k).f0∧(Qai s.pools pl0 k).f1=(Qai x.pools pl0 k).f1∧(Qai s.pools pl0 k).hs=(Qai x.pools pl0 k).hs
 rl:s.prices.length=x.prices.length
 price:∀k,Qdq a k=true→Qai s.prices ⟨0,0⟩ k=Qai x.prices ⟨0,0⟩ k
 gl:s.gen.length=x.gen.length
 gen:Qai s.gen 0 a.till=Qai x.gen 0 a.till
 owed:Qai s.owed false a.till=Qai x.owed false a.till
theorem Alk.free {s x:Sta} {a:Acd} (h:Alk s x a) {k:Int} (hk:Qbc a k=true) (w:Int):s.free k w=x.free k w:=by
 obtain⟨_,h1,h2,_⟩:=h.pool k hk;unfold Sta.free;rw[h1,h2]
theorem Alk.held {s x:Sta} {a:Acd} (h:Alk s x a) {k:Int} (hk:Qbc a k=true) (t w:Int):s.held t k w=x.held t k w:=by
 obtain⟨_,_,_,h1⟩:=h.pool k hk;unfold Sta.held;rw[h1]
theorem Qll {a:Acd} {x:Lin} (h:x∈a.lines.xs):Qbc a x.c=true:=by
 have h1:a.lines.xs.any (fun y=>y.c == x.c)=true:=List.any_eq_true.2 ⟨x,h,by simp⟩;unfold Qbc;rw[h1];rfl
theorem Qj2 {a:Acd} {x:Lin} (h:x∈a.other.xs):Qbc a x.c=true:=by
 have h1:a.other.xs.any (fun y=>y.c == x.c)=true:=List.any_eq_true.2 ⟨x,h,by simp⟩;unfold Qbc;rw[h1];simp
theorem Qj3 {a:Acd} {x:Tri} (h:x∈a.guards.xs) (h4:x.a≠4):Qbc a x.b=true:=by
 have h1:a.guards.xs.any (fun y=>y.a != 4 && y.b == x.b)=true:=List.any_eq_true.2 ⟨x,h,by simp[h4]⟩;unfold Qbc;rw[h1];simp
theorem QjP {a:Acd} {x:Tri} (h:x∈a.rights.xs):Qbc a x.a=true:=by
 have h1:a.rights.xs.any (fun y=>y.a == x.a)=true:=List.any_eq_true.2 ⟨x,h,by simp⟩;unfold Qbc;rw[h1];simp
theorem QfK {a:Acd} (h1:a.kind≠1) (h5:a.kind≠5):Qbc a a.ra=true:=by
 unfold Qbc;simp[h1,h5]
theorem QgZ {a:Acd} {x:Tri} (h:x∈a.sets.xs):Qdq a x.a=true:=by
 have h1:a.sets.xs.any (fun y=>y.a == x.a)=true:=List.any_eq_true.2 ⟨x,h,by simp⟩;unfold Qdq;rw[h1];rfl
theorem Qkm {a:Acd} {x:Tri} (h:x∈a.guards.xs) (h4:x.a=4):Qdq a x.b=true:=by
 have h1:a.guards.xs.any (fun y=>y.a == 4 && y.b == x.b)=true:=List.any_eq_true.2 ⟨x,h,by simp[h4]⟩;unfold Qdq;rw[h1];simp
theorem QcY {α:Type} {xs:List α} {f g:α→Bool} (h:∀x∈xs,f x=g x):xs.all f=xs.all g:=by
 induction xs with
 | nil=>rfl
 | cons x xs ih=>simp only[List.all_cons];rw[h x (VH ..),ih (fun y hy=>h y (Vy _ hy))]
theorem Alk.fits {s x:Sta} {a:Acd} (h:Alk s x a) {xs:List Lin} (hx:∀y∈xs,Qbc a y.c=true):s.fits xs=x.fits xs:=by
 unfold Sta.fits;exact QcY (fun r hr=>by obtain⟨y,hy,e1,_⟩:=Qdc hr;rw[h.free (by rw[e1];exact hx y hy)])
theorem Alk.keeps {s x:Sta} {a:Acd} (h:Alk s x a) (t:Int) {xs:List Lin} (hx:∀y∈xs,Qbc a y.c=true):s.keeps t xs=x.keeps t xs:=by
 unfold Sta.keeps;exact QcY (fun r hr=>by obtain⟨y,hy,e1,_⟩:=Qdc hr;rw[h.held (by rw[e1];exact hx y hy)])
theorem Alk.isOpen {s x:Sta} {a:Acd} (h:Alk s x a) {k:Int} (hk:Qdq a k=true):s.isOpen k=x.isOpen k:=by
 unfold Sta.isOpen Qba;rw[h.price k hk,h.rl]
theorem Alk.guard {s x:Sta} {a:Acd} (h:Alk s x a) {g:Tri} (hg:g∈a.guards.xs):s.guard g.a g.b g.n=x.guard g.a g.b g.n:=by
 unfold Sta.guard Qba;by_cases h4:g.a=4
 ·rw[if_pos h4,if_pos h4,h.price _ (Qkm hg h4),h.rl]
 ·obtain⟨h1,_⟩:=h.pool _ (Qj3 hg h4)
  rw[if_neg h4,if_neg h4,h1,h.pl]
theorem Alk.raise {s x:Sta} {a:Acd} (h:Alk s x a) {y:Tri} (hy:y∈a.sets.xs):s.raise y=x.raise y:=by
 unfold Sta.raise;rw[h.price _ (QgZ hy)]
theorem Alk.want {s x:Sta} {a:Acd} (h:Alk s x a) {y:Tri} (hy:y∈a.sets.xs):s.want y=x.want y:=by
 unfold Sta.want;rw[h.isOpen (QgZ hy),h.price _ (QgZ hy)]
theorem Qgo {α:Type} {xs:List α} {f g:α→Bool} (h:∀x∈xs,f x=g x):xs.filter f=xs.filter g:=by
 induction xs with
 | nil=>rfl
 | cons x xs ih=>simp only[List.filter_cons];rw[h x (VH ..),ih (fun y hy=>h y (Vy _ hy))]
theorem Qgy {α β:Type} {xs:List α} {f g:α→β} (h:∀x∈xs,f x=g x):xs.map f=xs.map g:=List.map_congr_left h
theorem Alk.cut {s x:Sta} {a:Acd} (h:Alk s x a):∀(ts:List Tri) (p:DataW Unit × List Lin),(∀t∈ts,Qbc a t.a=true)→ts.foldl (Qa2 s) p=ts.foldl (Qa2 x) p
 | [],_,_=>rfl
 | t :: ts,p,ht=>by
  have e:Qa2 s p t=Qa2 x p t:=by
   have e1:Qdd s p.1 (QaS t) t.n=Qdd x p.1 (QaS t) t.n:=by
    unfold Qdd;rw[h.free (k:=(QaS t).1) (ht t (VH ..))]
   unfold Qa2;rw[e1]
  rw[VI,VI,e];exact Alk.cut h ts _ (fun u hu=>ht u (Vy _ hu))
theorem QhH {s x:Sta} {a:Acd} (h:Alk s x a):Qan s a=Qan x a:=by
 have hl:∀y∈a.lines.xs,Qbc a y.c=true:=fun y hy=>Qll hy
 have ho:∀y∈a.other.xs,Qbc a y.c=true:=fun y hy=>Qj2 hy
 have e1:s.guards a.guards.xs=x.guards a.guards.xs:=QcY (fun g hg=>h.guard hg);have e2:s.opens a.sets.xs=x.opens a.sets.xs:=QcY (fun y hy=>h.isOpen (QgZ hy));have e3:a.sets.xs.map s.raise=a.sets.xs.map x.raise:=Qgy (fun y hy=>h.raise hy);have e4:a.sets.xs.filter s.want=a.sets.xs.filter x.want:=Qgo (fun y hy=>h.want hy);have e5:(a.sets.xs.filter x.want).map s.raise=(a.sets.xs.filter x.want).map x.raise:=Qgy (fun y hy=>h.raise (List.mem_filter.1 hy).1);have e6:QdL s (a.lines.xs.map QaL)=QdL x (a.lines.xs.map QaL):=h.cut _ _ (fun t ht=>by obtain⟨y,hy,rfl⟩:=List.mem_map.1 ht;exact hl y hy);have e7:s.hasAll a.till a.rights.xs=x.hasAll a.till a.rights.xs:=QcY (fun r hr=>by rw[h.held (QjP hr)]);have e8:s.owes a.till a.gen=x.owes a.till a.gen:=by unfold Sta.owes Qba;rw[h.gen,h.owed,h.gl]
 unfold Qan QaR QaG QbZ;rw[h.fits hl,h.fits ho,h.keeps a.till hl,e1,e2,e3,e4,e5,e6,e7,e8];by_cases h1:a.kind=1
 ·simp only[h1,if_true]
 ·by_cases h5:a.kind=5
  ·simp[h5]
  ·rw[h.free (QfK h1 h5),h.held (QfK h1 h5),h.held (QfK h1 h5)]
def Qdo (m x:Lin):Bool:=(m.c == x.c) && ((decide (0<m.n) && decide (m.n≤x.n)) || (decide (m.n<0) && decide (x.n≤m.n)))
def Qb0 (ms:List Lin) (k:Nat) (x:Lin):Nat:=match ms[k]? with
 | some m=>if Qdo m x=true then k+1 else k
 | none=>k
def Qkt (ms xs:List Lin):Bool:=xs.foldl (Qb0 ms) 0 == ms.length
theorem QkW (ms xs:List Lin):xs.foldl (Qb0 ms) ms.length=ms.length:=by
 induction xs with
 | nil=>rfl
 | cons x xs ih =>
  rw[VI,show Qb0 ms ms.length x=ms.length from by unfold Qb0;rw[List.getElem?_eq_none (Va _)]];exact ih
theorem Qdf {ms xs:List Lin} {i k:Nat} {x m:Lin} (h:(xs.take i).foldl (Qb0 ms) 0=k) (hx:xs[i]?=some x) (hm:ms[k]?=some m) {b:Bool} (hb:Qdo m x=b):(xs.take (i+1)).foldl (Qb0 ms) 0=if b=true then k+1 else k:=by
 rw[Z.take_snoc hx,List.foldl_append,h];show Qb0 ms k x=_;unfold Qb0;rw[hm];show (if Qdo m x=true then _ else _)=_;rw[hb]
theorem Qlz {ms xs:List Lin} {i:Nat} (h:(xs.take i).foldl (Qb0 ms) 0=ms.length):Qkt ms xs=true:=by
 have e:xs.foldl (Qb0 ms) 0=ms.length:=by
  rw[←List.take_append_drop i xs,List.foldl_append,h];exact QkW _ _
 unfold Qkt;rw[e];simp
theorem Qj9 (w:World) (p q:Option Addr) (n m cap cap':Nat) (ms xs:List Lin) (hn:ms.length=n) (hm:xs.length=m) (hnl:n≤140737488355328) (hml:m≤140737488355328) (hc:Cel w p 2 (ms.map Qal)) (hd:Cel w q 2 (xs.map Qal)) :
  Calls Tryz.prog 96 #[.slice p n cap,.slice q m cap'] w fun e w'=>e=.returned (.bool (Qkt ms xs))∧Below w.heap.size w w':=by
 obtain⟨N,hN⟩:=exq (Qkt ms xs);have HN:=Qaa hN;rw[hN];obtain⟨HC,HD,HL⟩:=Qmk hc hd hn;clear hc hd hN;go_enter Tryz.func96,Tryz.ntmps96;go_wp2;go_loopw [5,6] (fun kv iv wr=>∃k i:Nat,k≤n∧i≤m∧kv=.int .i64 (k:Int)∧iv=.int .i64 (i:Int)∧Hid ((xs.take i).foldl (Qb0 ms) 0=k)∧Hid (Below w.heap.size w wr)) (fun _ iv _=>m - (intOf iv).toNat);case atStart=>exact⟨0,0,Vo _,Vo _,rfl,rfl,rfl,bR⟩
 case round =>
  obtain⟨k,i,hk,hi,rfl,rfl,HK,HBr⟩:=hrel;by_cases h1:i<m
  ·have h1i:(i:Int)<(m:Int):=by omega
   have i0:(0:Int)≤(i:Int):=by omega
   have k0:(0:Int)≤(k:Int):=by omega
   by_cases h2:k<n
   ·have h2i:(k:Int)<(n:Int):=by omega
    obtain⟨x,hx⟩:∃x,xs[i]?=some x:=⟨_,gE (by omega)⟩;obtain⟨y,hy⟩:∃y,ms[k]?=some y:=⟨_,gE (by omega)⟩;obtain⟨b,o,rfl,hbl,hcl⟩:=HC.out.get (i:=k) (r:=Qal y) (by simp[hy]);obtain⟨b',o',rfl,hbl',hcl'⟩:=HD.out.get (i:=i) (r:=Qal x) (by simp[hx]);have f:∀j v,(Qal y)[j]?=some v→wr.cell? ⟨b,o+k*2+j,none⟩=some v:=fun j v hv=>(HBr.out.cell (p:=⟨b,o+k*2+j,none⟩) hbl).trans (hcl j v hv)
    have f':∀j v,(Qal x)[j]?=some v→wr.cell? ⟨b',o'+i*2+j,none⟩=some v:=fun j v hv=>(HBr.out.cell (p:=⟨b',o'+i*2+j,none⟩) hbl').trans (hcl' j v hv)
    have a0:=f 0 _ rfl;have a1:=f 1 _ rfl;have b0:=f' 0 _ rfl;have b1:=f' 1 _ rfl;rw[Vr]at a0 b0;obtain⟨yc,yn⟩:=y;obtain⟨xc,xn⟩:=x;simp only at a0 a1 b0 b1;obtain⟨HX,HY⟩:=Qmj hx hy;clear f f' hcl hcl' hx hy;have HBd:Hid (Below w.heap.size w wr.drew):=HBr.out.drew;by_cases q1:yc=xc
    ·subst q1
     by_cases q2:0<yn
     ·by_cases q3:yn≤xn
      ·skip
       have q4:¬yn<0:=by omega
       have HNx:Hid ((xs.take (i+1)).foldl (Qb0 ms) 0=k+1):=Qdf (b:=true) HK.out HX.out HY.out (by simp[Qdo, *]);go_upto_region 5 with (fail);go_region;go_wp2;go_roundw;case rel=>exact⟨k+1,i+1,by omega,by omega,by go_num,by go_num,HNx,HBd⟩
       case measure=>simp[intOf];omega
      ·skip
       have q4:¬yn<0:=by omega
       have HNx:Hid ((xs.take (i+1)).foldl (Qb0 ms) 0=k):=Qdf (b:=false) HK.out HX.out HY.out (by simp[Qdo, *]);go_upto_region 5 with (fail);go_region;go_wp2;go_roundw;case rel=>exact⟨k,i+1,by omega,by omega,by go_num,by go_num,HNx,HBd⟩
       case measure=>simp[intOf];omega
     ·by_cases q4:yn<0
      ·by_cases q5:xn≤yn
       ·skip
        have q6:¬0<yn:=q2;have HNx:Hid ((xs.take (i+1)).foldl (Qb0 ms) 0=k+1):=Qdf (b:=true) HK.out HX.out HY.out (by simp[Qdo, *]);go_upto_region 5 with (fail);go_region;go_wp2;go_roundw;case rel=>exact⟨k+1,i+1,by omega,by omega,by go_num,by go_num,HNx,HBd⟩
        case measure=>simp[intOf];omega
       ·skip
        have q6:¬0<yn:=q2;have HNx:Hid ((xs.take (i+1)).foldl (Qb0 ms) 0=k):=Qdf (b:=false) HK.out HX.out HY.out (by simp[Qdo, *]);go_upto_region 5 with (fail);go_region;go_wp2;go_roundw;case rel=>exact⟨k,i+1,by omega,by omega,by go_num,by go_num,HNx,HBd⟩
        case measure=>simp[intOf];omega
      ·skip
       have q6:¬0<yn:=q2;have HNx:Hid ((xs.take (i+1)).foldl (Qb0 ms) 0=k):=Qdf (b:=false) HK.out HX.out HY.out (by simp[Qdo, *]);go_upto_region 5 with (fail);go_region;go_wp2;go_roundw;case rel=>exact⟨k,i+1,by omega,by omega,by go_num,by go_num,HNx,HBd⟩
       case measure=>simp[intOf];omega
    ·have q7:(yc == xc)=false:=by simp[q1]
     have HNx:Hid ((xs.take (i+1)).foldl (Qb0 ms) 0=k):=Qdf (b:=false) HK.out HX.out HY.out (by simp[Qdo, *]);go_upto_region 5 with (fail);go_region;go_wp2;go_roundw;case rel=>exact⟨k,i+1,by omega,by omega,by go_num,by go_num,HNx,HBd⟩
     case measure=>simp[intOf];omega
   ·have h2i:¬(k:Int)<(n:Int):=by omega
    have e:(k:Int)=(n:Int):=by omega
    have HT:Hid (N=true):=by show _=_;rw[←HN.out];exact Qlz (i:=i) (by rw[HK.out,HL.out];omega)
    go_wp2;go_ret;refine⟨?_,HBr.out⟩;rw[HT.out];first | rfl | simp[e] | (simp;omega)
  ·have h1i:¬(i:Int)<(m:Int):=by omega
   have HT:Hid (N=((k:Int) == (n:Int))):=by
    show _=_;have h:=HK.out;rw[Vh (by omega)]at h;rw[←HN.out];unfold Qkt;rw[h,HL.out];rw[Bool.eq_iff_iff];simp only[beq_iff_eq];omega
   go_wp2;go_ret;exact⟨Vl (fun b=>Ending.returned (.bool b)) HT.out.symm,HBr.out⟩
def Qdr (s:Sta) (y x:Tri):Bool:=(y.a == x.a) && ((y.n == x.n) && (y.b == IntKind.i64.wrap ((Qai s.prices ⟨0,0⟩ x.a).n+1)))
def Qcq (s:Sta) (ys:List Tri) (k:Nat) (x:Tri):Nat:=match ys[k]? with
 | some y=>if Qdr s y x=true then k+1 else k
 | none=>k
def whB (s:Sta) (ys xs:List Tri):Bool:=xs.foldl (Qcq s ys) 0 == ys.length
theorem Qk7 (s:Sta) (ys xs:List Tri):xs.foldl (Qcq s ys) ys.length=ys.length:=by
 induction xs with
 | nil=>rfl
 | cons x xs ih =>
  rw[VI,show Qcq s ys ys.length x=ys.length from by unfold Qcq;rw[List.getElem?_eq_none (Va _)]];exact ih
theorem QeM {s:Sta} {ys xs:List Tri} {i k:Nat} {x y:Tri} (h:(xs.take i).foldl (Qcq s ys) 0=k) (hx:xs[i]?=some x) (hy:ys[k]?=some y) {b:Bool} (hb:Qdr s y x=b):(xs.take (i+1)).foldl (Qcq s ys) 0=if b=true then k+1 else k:=by
 rw[Z.take_snoc hx,List.foldl_append,h];show Qcq s ys k x=_;unfold Qcq;rw[hy];show (if Qdr s y x=true then _ else _)=_;rw[hb]
theorem QlF {s:Sta} {ys xs:List Tri} {i:Nat} (h:(xs.take i).foldl (Qcq s ys) 0=ys.length):whB s ys xs=true:=by
 have e:xs.foldl (Qcq s ys) 0=ys.length:=by
  rw[←List.take_append_drop i xs,List.foldl_append,h];exact Qk7 _ _ _
 unfold whB;rw[e];simp
theorem QdM (w:World) (s:Sta) (hs:Qae w s) (hrn:s.rn≤4194304) (a:Acd) (ha:Qad w a) (hpr:∀x∈a.sets.xs,0≤x.a∧x.a<(s.rn:Int)) (q:Option Addr) (n cap:Nat) (ys:List Tri) (hn:ys.length=n) (hnl:n≤140737488355328) (hd:Cel w q 3 (ys.map Qar)) :
  Calls Tryz.prog 95 #[.agg s.arr,.agg a.arr,.slice q n cap] w fun e w'=>e=.returned (.bool (whB s ys a.sets.xs))∧Below w.heap.size w w':=by
 obtain⟨N,hN⟩:=exq (whB s ys a.sets.xs);have HN:=Qaa hN;rw[hN];obtain⟨S,hS⟩:=exq s.arr;obtain⟨AA,hA⟩:=exq a.arr;obtain⟨w2,hw2,hb2,hx2,hy2⟩:=QaQ w S 42 55 AA
 have HS2:Hid (∀W,Below w2.heap.size w2 W→W.cell? ⟨w.heap.size,2,none⟩=some (.slice s.rp s.rn s.rc)):=fun W h=>by
  rw[cRq ((h.block _ (Qab hx2)).trans hx2),←hS];rfl
 have HA6:Hid (∀W,Below w2.heap.size w2 W→W.cell? ⟨w.heap.size+1,6,none⟩=some (.slice a.sets.p a.sets.n a.sets.c)):=fun W h=>by
  rw[cRq ((h.block _ (Qab hy2)).trans hy2),←hA];rfl
 have HD:=Qaa (hd.below hb2);have HL:=Qaa hn;have HSt:=Qaa (hs.below hb2);have HAc:=Qaa (ha.below hb2);obtain⟨HB2,HW2,HPr⟩:=Qmk hb2 hw2 hpr;obtain⟨m,hm⟩:=exq a.sets.n;have hml:m≤4194304:=by rw[←hm];exact ha.sets.most
 have hxl:a.sets.xs.length=m:=by rw[←hm];exact ha.sets.len
 rw[hm]at HA6;rw[hS,hA];clear hd hN hw2 hb2 hx2 hy2 hs ha hpr hS hA hm;go_enter Tryz.func95,Tryz.ntmps95;go_upto_region 1 with (fail);rw[HW2.out];go_wp2;go_loopw [7,8] (fun kv iv wr=>∃k i:Nat,k≤n∧i≤m∧kv=.int .i64 (k:Int)∧iv=.int .i64 (i:Int)∧Hid ((a.sets.xs.take i).foldl (Qcq s ys) 0=k)∧Hid (Below w2.heap.size w2 wr)) (fun _ iv _=>m - (intOf iv).toNat);case atStart=>exact⟨0,0,Vo _,Vo _,rfl,rfl,rfl,bR⟩
 case round =>
  obtain⟨k,i,hk,hi,rfl,rfl,HK,HBr⟩:=hrel;have s2:=HS2.out _ HBr.out;have a6:=HA6.out _ HBr.out;by_cases h1:i<m
  ·have h1i:(i:Int)<(m:Int):=by omega
   have i0:(0:Int)≤(i:Int):=by omega
   have k0:(0:Int)≤(k:Int):=by omega
   by_cases h2:k<n
   ·have h2i:(k:Int)<(n:Int):=by omega
    obtain⟨x,hx⟩:∃x,a.sets.xs[i]?=some x:=⟨_,gE (by omega)⟩;obtain⟨y,hy⟩:∃y,ys[k]?=some y:=⟨_,gE (by omega)⟩;have hp:=HPr.out x (mG hx);obtain⟨u,hu⟩:∃u:Nat,x.a=(u:Int):=⟨x.a.toNat,by omega⟩;obtain⟨P,hP⟩:∃P,s.prices[u]?=some P:=⟨_,gE (by have:=HSt.out.rn;omega)⟩;have u0:(0:Int)≤(u:Int):=by omega
    have u1:(u:Int)<(s.rn:Int):=by omega
    have HG:Hid ((Qai s.prices ⟨0,0⟩ (u:Int)).n=P.n):=by show _=_;rw[(Qbe (z:=(⟨0,0⟩:Lin)) hP).2]
    obtain⟨b,o,rfl,hbl,hcl⟩:=HD.out.get (i:=k) (r:=Qar y) (by simp[hy]);obtain⟨b',o',eg',hbl',hcl'⟩:=HAc.out.sets.cel.get (i:=i) (r:=Qar x) (by simp[hx]);obtain⟨b2,o2,eg2,hbl2,hcl2⟩:=HSt.out.prices.get (i:=u) (r:=Qal P) (by simp[hP]);have f:∀j v,(Qar y)[j]?=some v→wr.cell? ⟨b,o+k*3+j,none⟩=some v:=fun j v hv=>(HBr.out.cell (p:=⟨b,o+k*3+j,none⟩) hbl).trans (hcl j v hv)
    have f':∀j v,(Qar x)[j]?=some v→wr.cell? ⟨b',o'+i*3+j,none⟩=some v:=fun j v hv=>(HBr.out.cell (p:=⟨b',o'+i*3+j,none⟩) hbl').trans (hcl' j v hv)
    have f2:∀j v,(Qal P)[j]?=some v→wr.cell? ⟨b2,o2+u*2+j,none⟩=some v:=fun j v hv=>(HBr.out.cell (p:=⟨b2,o2+u*2+j,none⟩) hbl2).trans (hcl2 j v hv)
    rw[eg']at a6;rw[eg2]at s2;have y0:=f 0 _ rfl;have y1:=f 1 _ rfl;have y2:=f 2 _ rfl;have x0:=f' 0 _ rfl;have x2:=f' 2 _ rfl;have p1:=f2 1 _ rfl;rw[Vr]at x0 y0;obtain⟨HX,HY⟩:=Qmj hx hy;clear f f' f2 hcl hcl' hcl2 hx hy eg' eg2 hp hP hbl hbl' hbl2;obtain⟨ya,yb,yn⟩:=y;obtain⟨xa,xb,xn⟩:=x;obtain⟨pc,pn⟩:=P;dsimp only at hu;subst hu;dsimp only at x0 x2 y0 y1 y2 p1 HG;obtain⟨v,hv⟩:=exq (IntKind.i64.wrap (pn+1));have HG2:Hid (IntKind.i64.wrap ((Qai s.prices ⟨0,0⟩ (u:Int)).n+1)=v):=by show _=_;rw[HG.out];exact hv
    have HBd:Hid (Below w2.heap.size w2 wr.drew):=HBr.out.drew;by_cases q1:ya=(u:Int)
    ·subst q1
     by_cases q2:yn=xn
     ·subst q2
      by_cases q3:yb=v
      ·subst q3
       have HNx:Hid ((a.sets.xs.take (i+1)).foldl (Qcq s ys) 0=k+1):=(QeM (b:=true) HK.out HX.out HY.out (by have hG:=HG2.out;simp only[Qdr,hG];simp[*]));go_upto_region 6 with (fail);go_region;go_wp2;go_roundw;case rel=>exact⟨k+1,i+1,by omega,by omega,by go_num,by go_num,HNx,HBd⟩
       case measure=>simp[intOf];omega
      ·have q7:(yb == v)=false:=by simp[q3]
       have HNx:Hid ((a.sets.xs.take (i+1)).foldl (Qcq s ys) 0=k):=(QeM (b:=false) HK.out HX.out HY.out (by have hG:=HG2.out;simp only[Qdr,hG];simp[*]));go_upto_region 6 with (fail);go_region;go_wp2;go_roundw;case rel=>exact⟨k,i+1,by omega,by omega,by go_num,by go_num,HNx,HBd⟩
       case measure=>simp[intOf];omega
     ·have q7:(yn == xn)=false:=by simp[q2]
      have HNx:Hid ((a.sets.xs.take (i+1)).foldl (Qcq s ys) 0=k):=(QeM (b:=false) HK.out HX.out HY.out (by have hG:=HG2.out;simp only[Qdr,hG];simp[*]));go_upto_region 6 with (fail);go_region;go_wp2;go_roundw;case rel=>exact⟨k,i+1,by omega,by omega,by go_num,by go_num,HNx,HBd⟩
      case measure=>simp[intOf];omega
    ·have q7:(ya == (u:Int))=false:=by simp[q1]
     have HNx:Hid ((a.sets.xs.take (i+1)).foldl (Qcq s ys) 0=k):=(QeM (b:=false) HK.out HX.out HY.out (by have hG:=HG2.out;simp only[Qdr,hG];simp[*]));go_upto_region 6 with (fail);go_region;go_wp2;go_roundw;case rel=>exact⟨k,i+1,by omega,by omega,by go_num,by go_num,HNx,HBd⟩
     case measure=>simp[intOf];omega
   ·have h2i:¬(k:Int)<(n:Int):=by omega
    have e:(k:Int)=(n:Int):=by omega
    have HT:Hid (N=true):=by show _=_;rw[←HN.out];exact QlF (i:=i) (by rw[HK.out,HL.out];omega)
    go_wp2;go_ret;refine⟨?_,HB2.out.trans (HBr.out.mono HB2.out.size)⟩;rw[HT.out];first | rfl | simp[e] | (simp;omega)
  ·have h1i:¬(i:Int)<(m:Int):=by omega
   have HT:Hid (N=((k:Int) == (n:Int))):=by
    show _=_;have h:=HK.out;rw[Vh (by omega)]at h;rw[←HN.out];unfold whB;rw[h,HL.out];rw[Bool.eq_iff_iff];simp only[beq_iff_eq];omega
   go_wp2;go_ret;exact⟨Vl (fun b=>Ending.returned (.bool b)) HT.out.symm,HB2.out.trans (HBr.out.mono HB2.out.size)⟩
theorem QkZ (w:World) (s:Sta) (hs:Qae w s) (a:Acd) (ha:Qad w a) (hz:Qfe a) (m1:a.mg=1) :
  Calls Tryz.prog 162 #[.agg s.arr,.agg a.arr] w (MgP w.heap.size w (QaG s a)):=by
 obtain⟨w2,hw2,hb2,hx2,hy2⟩:=QaT w s.arr a.arr 42 55;have HS2:Hid (∀W,Below w2.heap.size w2 W→Qae W s):=fun W hb=>(hs.below hb2).below hb
 have HA2:Hid (∀W,Below w2.heap.size w2 W→Qad W a):=fun W hb=>(ha.below hb2).below hb
 have HX2:Hid (∀W,Below w2.heap.size w2 W→W.heap[w.heap.size]?=some (.cells s.arr 42 (0,0))):=fun W hb=>(hb.block _ (Qab hx2)).trans hx2
 have HY2:Hid (∀W,Below w2.heap.size w2 W→W.heap[w.heap.size+1]?=some (.cells a.arr 55 (0,0))):=fun W hb=>(hb.block _ (Qab hy2)).trans hy2
 obtain⟨HZ,HW2,HB2⟩:=Qmk hz hw2 hb2;have HE:Hid (∀W,Below w2.heap.size w2 W→Below w.heap.size w W):=fun W hb=>hb2.trans (hb.mono hb2.size)
 have HD:Hid (∀W,Below w2.heap.size w2 W→Below w2.heap.size w2 W.drew):=fun W hb=>⟨hb.os,hb.tape,hb.output,hb.size,hb.block⟩
 have HR:Hid (Below w2.heap.size w2 w2):=bR;have HO:Hid (∀(W W':World) (B k n:Nat) (t:TypeId) (v:Value) (xs:List Value),Below w2.heap.size w2 W→W.ownsRow W.heap.size t k v n xs→W.ownsRow w.heap.size t k v n xs):=fun W W' B k n t v xs hb h=>Qah h (Vt hb2.size hb.size)
 obtain⟨c0,c1,c2,c3,c4,c5⟩:=ac6 hx2;obtain⟨k0,k1,k2,k3,k4,k5,k6,k7,k8,k9,k10,k11,k12,k13,k14⟩:=QaA hy2
 have HCt:Hid (∀W,Below w2.heap.size w2 W→Calls Tryz.prog 199 #[.agg s.arr,.slice a.lines.p a.lines.n a.lines.c] W fun e w'=>∃va n c,e=.returned (.slice va n c)∧n=(QdL s (a.lines.xs.map QaL)).2.length∧n≤4194304∧w'.ownsRow w.heap.size 132 2 (.slice va n c) n (QaI (QdL s (a.lines.xs.map QaL)).2)∧Below w2.heap.size w2 w'):=fun W hb=>(Qlj W s (HS2.out W hb) a.lines.p a.lines.n a.lines.c a.lines.xs (HA2.out W hb).lines.len (by have:=(HA2.out W hb).lines.most;omega) HZ.out.lines (HA2.out W hb).lines.cel).mono fun _ _ ⟨v,he,hr,h⟩=>by
  obtain⟨va,c,rfl⟩:=Qc0 hr;have hl:=Qey s (a.lines.xs.map QaL);rw[VG,(HA2.out W hb).lines.len]at hl;exact⟨va,_,c,he,rfl,Vt hl (HA2.out W hb).lines.most,Qah hr (Vt HB2.out.size hb.size),hb.trans (h.mono hb.size)⟩
 have HWa:Hid (∀W,Below w2.heap.size w2 W→Calls Tryz.prog 200 #[.agg s.arr,.slice a.sets.p a.sets.n a.sets.c] W fun e w'=>∃va n c,e=.returned (.slice va n c)∧n=(a.sets.xs.filter s.want).length∧n≤4194304∧Cel w' va 3 ((a.sets.xs.filter s.want).map Qar)∧Below w2.heap.size w2 w'∧Below W.heap.size W w'):=fun W hb=>(QhY W s (HS2.out W hb) a.sets.p a.sets.n a.sets.c a.sets.xs (HA2.out W hb).sets.len (by have:=(HA2.out W hb).sets.most;omega) (HA2.out W hb).sets.cel).mono fun _ _ ⟨v,he,hr,h⟩=>by
  obtain⟨va,c,rfl⟩:=Qc0 hr;have h1:=List.length_filter_le s.want a.sets.xs;have h2:=(HA2.out W hb).sets.len;have h3:=(HA2.out W hb).sets.most;exact⟨va,_,c,he,rfl,by omega,QhV hr rfl,hb.trans (h.mono hb.size),h⟩
 have HRw:Hid (∀W va n c,Below w2.heap.size w2 W→n=(a.sets.xs.filter s.want).length→n≤4194304→Cel W va 3 ((a.sets.xs.filter s.want).map Qar)→Calls Tryz.prog 161 #[.agg s.arr,.slice va n c] W fun e w'=>∃ua uc,e=.returned (.slice ua n uc)∧w'.ownsRow w.heap.size 76 3 (.slice ua n uc) n (Qav ((a.sets.xs.filter s.want).map s.raise))∧Below w2.heap.size w2 w'∧Below W.heap.size W w'):=fun W va n c hb hl hn hx=>(Qdi W s (HS2.out W hb) va n c _ hl.symm (by omega) hx).mono fun _ _ ⟨v,he,hr,h⟩=>by
  obtain⟨ua,uc,rfl⟩:=Qc0 hr;exact⟨ua,uc,he,Qah hr (Vt HB2.out.size hb.size),hb.trans (h.mono hb.size),h⟩
 have m1':(a.mg == 1)=true:=by simp[m1]
 have HM:QaG s a=QbZ s a:=by simp[QaG,m1]
 rw[HM];clear HM;clear hw2 hb2 hx2 hy2 hs ha hz;go_enter Tryz.func162,Tryz.ntmps162;go_upto_region 1 with (fail);rw[HW2.out];go_upto_region 3 with (fail);go_region_held3 (fun w'=>w'.cell? ⟨w.heap.size,0,none⟩=some (.int .u64 s.pos)∧w'.cell? ⟨w.heap.size,1,none⟩=some (.slice s.pp s.pn s.pc)∧w'.cell? ⟨w.heap.size,2,none⟩=some (.slice s.rp s.rn s.rc)∧w'.cell? ⟨w.heap.size,3,none⟩=some (.slice s.lp s.ln s.lc)∧w'.cell? ⟨w.heap.size,4,none⟩=some (.slice s.gp s.gn s.gc)∧w'.cell? ⟨w.heap.size,5,none⟩=some (.slice s.op s.on s.oc)∧w'.cell? ⟨w.heap.size+1,4,none⟩=some (.slice a.lines.p a.lines.n a.lines.c)∧w'.cell? ⟨w.heap.size+1,6,none⟩=some (.slice a.sets.p a.sets.n a.sets.c)) (go_keep) (first | (go_at_call 199;refine(HCt.out _ (by first | exact HR.out | exact HD.out _ HR.out)).mono ?_;rintro e wA ⟨va,na,ca,rfl,hna,hla,hra,hbA⟩;obtain⟨HNa,HRa⟩:=Qmj hna hra;clear hna hra;have HwA:=Qaa hbA;obtain⟨cwA0,cwA1,cwA2,cwA3,cwA4,cwA5⟩:=ac6 (HX2.out _ HwA.out);obtain⟨kwA0,kwA1,kwA2,kwA3,kwA4,kwA5,kwA6,kwA7,kwA8,kwA9,kwA10,kwA11,kwA12,kwA13,kwA14⟩:=QaA (HY2.out _ HwA.out);clear hbA) | (go_at_call 200;refine(HWa.out _ (by first | exact HwA.out | exact HD.out _ HwA.out)).mono ?_;rintro e wB ⟨vb,nb,cb,rfl,hnb,hlb,hcb,hbB,hcB⟩;obtain⟨HCb,HNb,HcB⟩:=Qmk hcb hnb hcB;clear hcb hnb hcB;have HwB:=Qaa hbB;obtain⟨cwB0,cwB1,cwB2,cwB3,cwB4,cwB5⟩:=ac6 (HX2.out _ HwB.out);obtain⟨kwB0,kwB1,kwB2,kwB3,kwB4,kwB5,kwB6,kwB7,kwB8,kwB9,kwB10,kwB11,kwB12,kwB13,kwB14⟩:=QaA (HY2.out _ HwB.out);clear hbB) | (go_at_call 161;refine(HRw.out _ vb nb cb (by first | exact HwB.out | exact HD.out _ HwB.out) HNb.out hlb (by first | exact HCb.out)).mono ?_;rintro e wC ⟨vc,cc,rfl,hrc,hbC,hcC⟩;obtain⟨HRc,HcC⟩:=Qmj hrc hcC;clear hrc hcC;have HwC:=Qaa hbC;obtain⟨cwC0,cwC1,cwC2,cwC3,cwC4,cwC5⟩:=ac6 (HX2.out _ HwC.out);obtain⟨kwC0,kwC1,kwC2,kwC3,kwC4,kwC5,kwC6,kwC7,kwC8,kwC9,kwC10,kwC11,kwC12,kwC13,kwC14⟩:=QaA (HY2.out _ HwC.out);clear hbC) | fail);have HF:=Qaa (HE.out _ HwC.out);have HrA:Hid (wC.ownsRow w.heap.size 132 2 (.slice va na ca) na (QaI (QdL s (a.lines.xs.map QaL)).2)):=Qbn (Qbn HRa.out (by first | exact HcB.out | exact(show Below wA.heap.size wA wB from HcB.out))) HcC.out;have HrC:Hid (wC.ownsRow w.heap.size 76 3 (.slice vc nb cc) nb (Qav ((a.sets.xs.filter s.want).map s.raise))):=HRc.out;by_cases hz0:na+nb=0
 ·have q1:¬(0:Int)<(na:Int)+(nb:Int):=by omega
  have HC0:Hid (QbZ s a=(3,[],[])):=by show _=_;unfold QbZ;rw[←HNa.out,←HNb.out,if_pos hz0]
  clear hz0;go_wp2;refine Vg (v:=.tuple #[.int .i64 3,.slice none 0 0,.slice none 0 0]) (by simp[results,Tryz.results162,go_sem]) rfl ?_;exact⟨_,_,by rw[HC0.out],by rw[HC0.out];exact Qa4 _ _,HF.out⟩
 ·have q1:(0:Int)<(na:Int)+(nb:Int):=by omega
  have HC0:Hid (QbZ s a=(2,(QdL s (a.lines.xs.map QaL)).2,(a.sets.xs.filter s.want).map s.raise)):=by show _=_;unfold QbZ;rw[←HNa.out,←HNb.out,if_neg hz0]
  clear hz0;go_wp2;refine Vg (v:=.tuple #[.int .i64 2,.slice va na ca,.slice vc nb cc]) (by simp[results,Tryz.results162,go_sem]) rfl ?_;exact⟨_,_,by rw[HC0.out],by rw[HC0.out];exact⟨by rw[←HNa.out];exact HrA.out,by rw[VG,←HNb.out];exact HrC.out⟩,HF.out⟩
theorem Qly (w:World) (s:Sta) (hs:Qae w s) (a:Acd) (ha:Qad w a) (hz:Qfe a) (m1:a.mg=2) :
  Calls Tryz.prog 162 #[.agg s.arr,.agg a.arr] w (MgP w.heap.size w (QaG s a)):=by
 obtain⟨w2,hw2,hb2,hx2,hy2⟩:=QaT w s.arr a.arr 42 55;have HS2:Hid (∀W,Below w2.heap.size w2 W→Qae W s):=fun W hb=>(hs.below hb2).below hb
 have HA2:Hid (∀W,Below w2.heap.size w2 W→Qad W a):=fun W hb=>(ha.below hb2).below hb
 have HX2:Hid (∀W,Below w2.heap.size w2 W→W.heap[w.heap.size]?=some (.cells s.arr 42 (0,0))):=fun W hb=>(hb.block _ (Qab hx2)).trans hx2
 have HY2:Hid (∀W,Below w2.heap.size w2 W→W.heap[w.heap.size+1]?=some (.cells a.arr 55 (0,0))):=fun W hb=>(hb.block _ (Qab hy2)).trans hy2
 obtain⟨HZ,HW2,HB2⟩:=Qmk hz hw2 hb2;have HE:Hid (∀W,Below w2.heap.size w2 W→Below w.heap.size w W):=fun W hb=>hb2.trans (hb.mono hb2.size)
 have HD:Hid (∀W,Below w2.heap.size w2 W→Below w2.heap.size w2 W.drew):=fun W hb=>⟨hb.os,hb.tape,hb.output,hb.size,hb.block⟩
 have HR:Hid (Below w2.heap.size w2 w2):=bR;have HO:Hid (∀(W W':World) (B k n:Nat) (t:TypeId) (v:Value) (xs:List Value),Below w2.heap.size w2 W→W.ownsRow W.heap.size t k v n xs→W.ownsRow w.heap.size t k v n xs):=fun W W' B k n t v xs hb h=>Qah h (Vt hb2.size hb.size)
 obtain⟨c0,c1,c2,c3,c4,c5⟩:=ac6 hx2;obtain⟨k0,k1,k2,k3,k4,k5,k6,k7,k8,k9,k10,k11,k12,k13,k14⟩:=QaA hy2;obtain⟨bFo,hFo⟩:=exq (s.fits a.other.xs);have HEFo:=Qaa hFo;have HFo:Hid (∀W,Below w2.heap.size w2 W→Calls Tryz.prog 54 #[.agg s.arr,.slice a.other.p a.other.n a.other.c] W fun e w'=>e=.returned (.bool bFo)∧Below w2.heap.size w2 w'):=fun W hb=>(QeE W s (HS2.out W hb) a.other.p a.other.n a.other.c a.other.xs (HA2.out W hb).other.len (by have:=(HA2.out W hb).other.most;omega) HZ.out.other (HA2.out W hb).other.cel).mono fun _ _ ⟨he,h⟩=>⟨by rw[he,←HEFo.out];try rfl,hb.trans (h.mono hb.size)⟩
 have HCo:Hid (∀W,Below w2.heap.size w2 W→Calls Tryz.prog 160 #[.slice a.other.p a.other.n a.other.c] W fun e w'=>∃v,e=.returned v∧w'.ownsRow w.heap.size 132 2 v a.other.xs.length (QaI a.other.xs)∧Below w2.heap.size w2 w'):=fun W hb=>(Qc9 W a.other.p a.other.n a.other.c a.other.xs (HA2.out W hb).other.len (by have:=(HA2.out W hb).other.most;omega) (HA2.out W hb).other.cel).mono fun _ _ ⟨v,he,hr,h⟩=>⟨v,he,by rw[(HA2.out W hb).other.len];exact Qah hr (Vt HB2.out.size hb.size),hb.trans (h.mono hb.size)⟩
 have m1':(a.mg == 1)=false:=by simp[m1]
 have m2':(a.mg == 2)=true:=by simp[m1]
 have HM:Hid (QaG s a=if bFo=true then (2,a.other.xs,[]) else (3,[],[])):=by show _=_;simp[QaG,m1,←hFo]
 clear hw2 hb2 hx2 hy2 hs ha hz hFo m1
 cases bFo with
 | true =>
  go_enter Tryz.func162,Tryz.ntmps162;go_upto_region 1 with (fail);rw[HW2.out];go_upto_region 8 with (go_at_call 54;refine(HFo.out _ (by first | exact HR.out | exact HD.out _ HR.out)).mono ?_;rintro e w3 ⟨rfl,hbw3⟩;have Hw3:=Qaa hbw3;clear hbw3;obtain⟨c0,c1,c2,c3,c4,c5⟩:=ac6 (HX2.out _ Hw3.out);obtain⟨k0,k1,k2,k3,k4,k5,k6,k7,k8,k9,k10,k11,k12,k13,k14⟩:=QaA (HY2.out _ Hw3.out));go_wp2_with (go_at_call 160;refine(HCo.out _ (by first | exact Hw3.out | exact HD.out _ Hw3.out)).mono ?_;rintro e w4 ⟨v,rfl,hr,hbw4⟩;have Hw4:=Qaa hbw4;clear hbw4;obtain⟨c0,c1,c2,c3,c4,c5⟩:=ac6 (HX2.out _ Hw4.out);obtain⟨k0,k1,k2,k3,k4,k5,k6,k7,k8,k9,k10,k11,k12,k13,k14⟩:=QaA (HY2.out _ Hw4.out);have Hr:=Qaa hr;clear hr)
  refine Vg (v:=.tuple #[.int .i64 2,v,.slice none 0 0]) (by simp[results,Tryz.results162,go_sem]) rfl ?_;have HM2:Hid (QaG s a=(2,a.other.xs,[])):=by show _=_;exact HM.out.trans rfl
  exact⟨_,_,by rw[HM2.out],by rw[HM2.out];exact⟨Hr.out,(Qa4 _ _).2⟩,HE.out _ Hw4.out⟩
 | false =>
  go_enter Tryz.func162,Tryz.ntmps162;go_upto_region 1 with (fail);rw[HW2.out];go_wp2_with (go_at_call 54;refine(HFo.out _ (by first | exact HR.out | exact HD.out _ HR.out)).mono ?_;rintro e w3 ⟨rfl,hbw3⟩;have Hw3:=Qaa hbw3;clear hbw3;obtain⟨c0,c1,c2,c3,c4,c5⟩:=ac6 (HX2.out _ Hw3.out);obtain⟨k0,k1,k2,k3,k4,k5,k6,k7,k8,k9,k10,k11,k12,k13,k14⟩:=QaA (HY2.out _ Hw3.out))
  refine Vg (v:=.tuple #[.int .i64 3,.slice none 0 0,.slice none 0 0]) (by simp[results,Tryz.results162,go_sem]) rfl ?_;have HM2:Hid (QaG s a=(3,[],[])):=by show _=_;exact HM.out.trans rfl
  exact⟨_,_,by rw[HM2.out],by rw[HM2.out];exact Qa4 _ _,HE.out _ Hw3.out⟩
theorem QlB (w:World) (s:Sta) (hs:Qae w s) (a:Acd) (ha:Qad w a) (hz:Qfe a) (m1:a.mg=3) :
  Calls Tryz.prog 162 #[.agg s.arr,.agg a.arr] w (MgP w.heap.size w (QaG s a)):=by
 obtain⟨w2,hw2,hb2,hx2,hy2⟩:=QaT w s.arr a.arr 42 55;have HS2:Hid (∀W,Below w2.heap.size w2 W→Qae W s):=fun W hb=>(hs.below hb2).below hb
 have HA2:Hid (∀W,Below w2.heap.size w2 W→Qad W a):=fun W hb=>(ha.below hb2).below hb
 have HX2:Hid (∀W,Below w2.heap.size w2 W→W.heap[w.heap.size]?=some (.cells s.arr 42 (0,0))):=fun W hb=>(hb.block _ (Qab hx2)).trans hx2
 have HY2:Hid (∀W,Below w2.heap.size w2 W→W.heap[w.heap.size+1]?=some (.cells a.arr 55 (0,0))):=fun W hb=>(hb.block _ (Qab hy2)).trans hy2
 obtain⟨HZ,HW2,HB2⟩:=Qmk hz hw2 hb2;have HE:Hid (∀W,Below w2.heap.size w2 W→Below w.heap.size w W):=fun W hb=>hb2.trans (hb.mono hb2.size)
 have HD:Hid (∀W,Below w2.heap.size w2 W→Below w2.heap.size w2 W.drew):=fun W hb=>⟨hb.os,hb.tape,hb.output,hb.size,hb.block⟩
 have HR:Hid (Below w2.heap.size w2 w2):=bR;have HO:Hid (∀(W W':World) (B k n:Nat) (t:TypeId) (v:Value) (xs:List Value),Below w2.heap.size w2 W→W.ownsRow W.heap.size t k v n xs→W.ownsRow w.heap.size t k v n xs):=fun W W' B k n t v xs hb h=>Qah h (Vt hb2.size hb.size)
 obtain⟨c0,c1,c2,c3,c4,c5⟩:=ac6 hx2;obtain⟨k0,k1,k2,k3,k4,k5,k6,k7,k8,k9,k10,k11,k12,k13,k14⟩:=QaA hy2;obtain⟨bFl,hFl⟩:=exq (s.fits a.lines.xs);have HEFl:=Qaa hFl;have HFl:Hid (∀W,Below w2.heap.size w2 W→Calls Tryz.prog 54 #[.agg s.arr,.slice a.lines.p a.lines.n a.lines.c] W fun e w'=>e=.returned (.bool bFl)∧Below w2.heap.size w2 w'):=fun W hb=>(QeE W s (HS2.out W hb) a.lines.p a.lines.n a.lines.c a.lines.xs (HA2.out W hb).lines.len (by have:=(HA2.out W hb).lines.most;omega) HZ.out.lines (HA2.out W hb).lines.cel).mono fun _ _ ⟨he,h⟩=>⟨by rw[he,←HEFl.out];try rfl,hb.trans (h.mono hb.size)⟩
 obtain⟨bOp,hOp⟩:=exq (s.opens a.sets.xs);have HEOp:=Qaa hOp;have HOp:Hid (∀W,Below w2.heap.size w2 W→Calls Tryz.prog 59 #[.agg s.arr,.slice a.sets.p a.sets.n a.sets.c] W fun e w'=>e=.returned (.bool bOp)∧Below w2.heap.size w2 w'):=fun W hb=>(QgH W s (HS2.out W hb) a.sets.p a.sets.n a.sets.c a.sets.xs (HA2.out W hb).sets.len (by have:=(HA2.out W hb).sets.most;omega) (HA2.out W hb).sets.cel).mono fun _ _ ⟨he,h⟩=>⟨by rw[he,←HEOp.out];try rfl,hb.trans (h.mono hb.size)⟩
 have HCl:Hid (∀W,Below w2.heap.size w2 W→Calls Tryz.prog 160 #[.slice a.lines.p a.lines.n a.lines.c] W fun e w'=>∃v,e=.returned v∧w'.ownsRow w.heap.size 132 2 v a.lines.xs.length (QaI a.lines.xs)∧Below w2.heap.size w2 w'):=fun W hb=>(Qc9 W a.lines.p a.lines.n a.lines.c a.lines.xs (HA2.out W hb).lines.len (by have:=(HA2.out W hb).lines.most;omega) (HA2.out W hb).lines.cel).mono fun _ _ ⟨v,he,hr,h⟩=>⟨v,he,by rw[(HA2.out W hb).lines.len];exact Qah hr (Vt HB2.out.size hb.size),hb.trans (h.mono hb.size)⟩
 have HRa:Hid (∀W,Below w2.heap.size w2 W→Calls Tryz.prog 161 #[.agg s.arr,.slice a.sets.p a.sets.n a.sets.c] W fun e w'=>∃v,e=.returned v∧w'.ownsRow w.heap.size 76 3 v (a.sets.xs.map s.raise).length (Qav (a.sets.xs.map s.raise))∧Below w2.heap.size w2 w'∧Below W.heap.size W w'):=fun W hb=>(Qdi W s (HS2.out W hb) a.sets.p a.sets.n a.sets.c a.sets.xs (HA2.out W hb).sets.len (by have:=(HA2.out W hb).sets.most;omega) (HA2.out W hb).sets.cel).mono fun _ _ ⟨v,he,hr,h⟩=>⟨v,he,by rw[VG,(HA2.out W hb).sets.len];exact Qah hr (Vt HB2.out.size hb.size),hb.trans (h.mono hb.size),h⟩
 have m1':(a.mg == 1)=false:=by simp[m1]
 have m2':(a.mg == 2)=false:=by simp[m1]
 have m3':(a.mg == 3)=true:=by simp[m1]
 have HM:Hid (QaG s a=if (bFl && bOp)=true then (2,a.lines.xs,a.sets.xs.map s.raise) else (3,[],[])):=by show _=_;simp[QaG,m1,←hFl,←hOp]
 clear hw2 hb2 hx2 hy2 hs ha hz hFl hOp m1
 cases bFl with
 | true =>
  cases bOp with
  | true =>
   go_enter Tryz.func162,Tryz.ntmps162;go_upto_region 1 with (fail);rw[HW2.out];go_upto_region 11 with (first | (go_at_call 59;refine(HOp.out _ (by first | exact Hw3.out | exact HD.out _ Hw3.out)).mono ?_;rintro e w4 ⟨rfl,hbw4⟩;have Hw4:=Qaa hbw4;clear hbw4;obtain⟨c0,c1,c2,c3,c4,c5⟩:=ac6 (HX2.out _ Hw4.out);obtain⟨k0,k1,k2,k3,k4,k5,k6,k7,k8,k9,k10,k11,k12,k13,k14⟩:=QaA (HY2.out _ Hw4.out)) | (go_at_call 54;refine(HFl.out _ (by first | exact HR.out | exact HD.out _ HR.out)).mono ?_;rintro e w3 ⟨rfl,hbw3⟩;have Hw3:=Qaa hbw3;clear hbw3;obtain⟨c0,c1,c2,c3,c4,c5⟩:=ac6 (HX2.out _ Hw3.out);obtain⟨k0,k1,k2,k3,k4,k5,k6,k7,k8,k9,k10,k11,k12,k13,k14⟩:=QaA (HY2.out _ Hw3.out)));go_upto_region 11 with (fail);go_region_held3 (fun w'=>w'.cell? ⟨w.heap.size,0,none⟩=some (.int .u64 s.pos)∧w'.cell? ⟨w.heap.size,1,none⟩=some (.slice s.pp s.pn s.pc)∧w'.cell? ⟨w.heap.size,2,none⟩=some (.slice s.rp s.rn s.rc)∧w'.cell? ⟨w.heap.size,3,none⟩=some (.slice s.lp s.ln s.lc)∧w'.cell? ⟨w.heap.size,4,none⟩=some (.slice s.gp s.gn s.gc)∧w'.cell? ⟨w.heap.size,5,none⟩=some (.slice s.op s.on s.oc)∧w'.cell? ⟨w.heap.size+1,4,none⟩=some (.slice a.lines.p a.lines.n a.lines.c)∧w'.cell? ⟨w.heap.size+1,6,none⟩=some (.slice a.sets.p a.sets.n a.sets.c)) (go_keep) (first | (go_at_call 160;refine(HCl.out _ (by first | exact Hw4.out | exact HD.out _ Hw4.out)).mono ?_;rintro e wA ⟨va,rfl,hra,hbA⟩;have HRr:=Qaa hra;clear hra;have HwA:=Qaa hbA;obtain⟨cwA0,cwA1,cwA2,cwA3,cwA4,cwA5⟩:=ac6 (HX2.out _ HwA.out);obtain⟨kwA0,kwA1,kwA2,kwA3,kwA4,kwA5,kwA6,kwA7,kwA8,kwA9,kwA10,kwA11,kwA12,kwA13,kwA14⟩:=QaA (HY2.out _ HwA.out);clear hbA) | (go_at_call 161;refine(HRa.out _ (by first | exact HwA.out | exact HD.out _ HwA.out)).mono ?_;rintro e wC ⟨vc,rfl,hrc,hbC,hcC⟩;obtain⟨HRc,HcC⟩:=Qmj hrc hcC;clear hrc hcC;have HwC:=Qaa hbC;obtain⟨cwC0,cwC1,cwC2,cwC3,cwC4,cwC5⟩:=ac6 (HX2.out _ HwC.out);obtain⟨kwC0,kwC1,kwC2,kwC3,kwC4,kwC5,kwC6,kwC7,kwC8,kwC9,kwC10,kwC11,kwC12,kwC13,kwC14⟩:=QaA (HY2.out _ HwC.out);clear hbC) | fail);have HrA:=Qaa (Qbn HRr.out HcC.out);go_wp2;refine Vg (v:=.tuple #[.int .i64 2,va,vc]) (by simp[results,Tryz.results162,go_sem]) rfl ?_;have HM2:Hid (QaG s a=(2,a.lines.xs,a.sets.xs.map s.raise)):=by show _=_;exact HM.out.trans rfl
   exact⟨_,_,by rw[HM2.out],by rw[HM2.out];exact⟨HrA.out,HRc.out⟩,HE.out _ HwC.out⟩
  | false =>
   go_enter Tryz.func162,Tryz.ntmps162;go_upto_region 1 with (fail);rw[HW2.out];go_wp2_with (first | (go_at_call 59;refine(HOp.out _ (by first | exact Hw3.out | exact HD.out _ Hw3.out)).mono ?_;rintro e w4 ⟨rfl,hbw4⟩;have Hw4:=Qaa hbw4;clear hbw4;obtain⟨c0,c1,c2,c3,c4,c5⟩:=ac6 (HX2.out _ Hw4.out);obtain⟨k0,k1,k2,k3,k4,k5,k6,k7,k8,k9,k10,k11,k12,k13,k14⟩:=QaA (HY2.out _ Hw4.out)) | (go_at_call 54;refine(HFl.out _ (by first | exact HR.out | exact HD.out _ HR.out)).mono ?_;rintro e w3 ⟨rfl,hbw3⟩;have Hw3:=Qaa hbw3;clear hbw3;obtain⟨c0,c1,c2,c3,c4,c5⟩:=ac6 (HX2.out _ Hw3.out);obtain⟨k0,k1,k2,k3,k4,k5,k6,k7,k8,k9,k10,k11,k12,k13,k14⟩:=QaA (HY2.out _ Hw3.out)))
   refine Vg (v:=.tuple #[.int .i64 3,.slice none 0 0,.slice none 0 0]) (by simp[results,Tryz.results162,go_sem]) rfl ?_;have HM2:Hid (QaG s a=(3,[],[])):=by show _=_;exact HM.out.trans rfl
   exact⟨_,_,by rw[HM2.out],by rw[HM2.out];exact Qa4 _ _,HE.out _ Hw4.out⟩
 | false =>
  go_enter Tryz.func162,Tryz.ntmps162;go_upto_region 1 with (fail);rw[HW2.out];go_wp2_with (go_at_call 54;refine(HFl.out _ (by first | exact HR.out | exact HD.out _ HR.out)).mono ?_;rintro e w3 ⟨rfl,hbw3⟩;have Hw3:=Qaa hbw3;clear hbw3;obtain⟨c0,c1,c2,c3,c4,c5⟩:=ac6 (HX2.out _ Hw3.out);obtain⟨k0,k1,k2,k3,k4,k5,k6,k7,k8,k9,k10,k11,k12,k13,k14⟩:=QaA (HY2.out _ Hw3.out))
  refine Vg (v:=.tuple #[.int .i64 3,.slice none 0 0,.slice none 0 0]) (by simp[results,Tryz.results162,go_sem]) rfl ?_;have HM2:Hid (QaG s a=(3,[],[])):=by show _=_;exact HM.out.trans rfl
  exact⟨_,_,by rw[HM2.out],by rw[HM2.out];exact Qa4 _ _,HE.out _ Hw3.out⟩
theorem Qk9 (w:World) (s:Sta) (hs:Qae w s) (a:Acd) (ha:Qad w a) (hz:Qfe a) (n1:¬a.mg=1) (n2:¬a.mg=2) (n3:¬a.mg=3) :
  Calls Tryz.prog 162 #[.agg s.arr,.agg a.arr] w (MgP w.heap.size w (QaG s a)):=by
 obtain⟨w2,hw2,hb2,hx2,hy2⟩:=QaT w s.arr a.arr 42 55;have HS2:Hid (∀W,Below w2.heap.size w2 W→Qae W s):=fun W hb=>(hs.below hb2).below hb
 have HA2:Hid (∀W,Below w2.heap.size w2 W→Qad W a):=fun W hb=>(ha.below hb2).below hb
 have HX2:Hid (∀W,Below w2.heap.size w2 W→W.heap[w.heap.size]?=some (.cells s.arr 42 (0,0))):=fun W hb=>(hb.block _ (Qab hx2)).trans hx2
 have HY2:Hid (∀W,Below w2.heap.size w2 W→W.heap[w.heap.size+1]?=some (.cells a.arr 55 (0,0))):=fun W hb=>(hb.block _ (Qab hy2)).trans hy2
 obtain⟨HZ,HW2,HB2⟩:=Qmk hz hw2 hb2;have HE:Hid (∀W,Below w2.heap.size w2 W→Below w.heap.size w W):=fun W hb=>hb2.trans (hb.mono hb2.size)
 have HD:Hid (∀W,Below w2.heap.size w2 W→Below w2.heap.size w2 W.drew):=fun W hb=>⟨hb.os,hb.tape,hb.output,hb.size,hb.block⟩
 have HR:Hid (Below w2.heap.size w2 w2):=bR;have HO:Hid (∀(W W':World) (B k n:Nat) (t:TypeId) (v:Value) (xs:List Value),Below w2.heap.size w2 W→W.ownsRow W.heap.size t k v n xs→W.ownsRow w.heap.size t k v n xs):=fun W W' B k n t v xs hb h=>Qah h (Vt hb2.size hb.size)
 obtain⟨c0,c1,c2,c3,c4,c5⟩:=ac6 hx2;obtain⟨k0,k1,k2,k3,k4,k5,k6,k7,k8,k9,k10,k11,k12,k13,k14⟩:=QaA hy2;have m1':(a.mg == 1)=false:=beq_eq_false_iff_ne.2 n1;have m2':(a.mg == 2)=false:=beq_eq_false_iff_ne.2 n2;have m3':(a.mg == 3)=false:=beq_eq_false_iff_ne.2 n3;have HM:Hid (QaG s a=(3,[],[])):=by show _=_;simp[QaG,n1,n2,n3]
 clear hw2 hb2 hx2 hy2 hs ha hz n1 n2 n3;go_enter Tryz.func162,Tryz.ntmps162;go_upto_region 1 with (fail);rw[HW2.out];go_wp2;refine Vg (v:=.tuple #[.int .i64 3,.slice none 0 0,.slice none 0 0]) (by simp[results,Tryz.results162,go_sem]) rfl ?_;have HM2:Hid (QaG s a=(3,[],[])):=by show _=_;exact HM.out.trans rfl
 exact⟨_,_,by rw[HM2.out],by rw[HM2.out];exact Qa4 _ _,HE.out _ HR.out⟩
theorem Qjp (w:World) (s:Sta) (hs:Qae w s) (a:Acd) (ha:Qad w a) (hz:Qfe a):Calls Tryz.prog 162 #[.agg s.arr,.agg a.arr] w (MgP w.heap.size w (QaG s a)):=by
 by_cases m1:a.mg=1
 ·exact QkZ w s hs a ha hz m1
 ·by_cases m2:a.mg=2
  ·exact Qly w s hs a ha hz m2
  ·by_cases m3:a.mg=3
   ·exact QlB w s hs a ha hz m3
   ·exact Qk9 w s hs a ha hz m1 m2 m3
theorem Qhv (w:World) (s:Sta) (hs:Qae w s) (a:Acd) (ha:Qad w a) (hz:Qfe a) (hsu:a.sure=true) :
  Calls Tryz.prog 87 #[.agg s.arr,.agg a.arr] w (MgP w.heap.size w (QaR s a)):=by
 obtain⟨w2,hw2,hb2,hx2,hy2⟩:=QaT w s.arr a.arr 42 55;have HS2:Hid (∀W,Below w2.heap.size w2 W→Qae W s):=fun W hb=>(hs.below hb2).below hb
 have HA2:Hid (∀W,Below w2.heap.size w2 W→Qad W a):=fun W hb=>(ha.below hb2).below hb
 have HX2:Hid (∀W,Below w2.heap.size w2 W→W.heap[w.heap.size]?=some (.cells s.arr 42 (0,0))):=fun W hb=>(hb.block _ (Qab hx2)).trans hx2
 have HY2:Hid (∀W,Below w2.heap.size w2 W→W.heap[w.heap.size+1]?=some (.cells a.arr 55 (0,0))):=fun W hb=>(hb.block _ (Qab hy2)).trans hy2
 obtain⟨HZ,HW2,HB2⟩:=Qmk hz hw2 hb2;have HE:Hid (∀W,Below w2.heap.size w2 W→Below w.heap.size w W):=fun W hb=>hb2.trans (hb.mono hb2.size)
 have HD:Hid (∀W,Below w2.heap.size w2 W→Below w2.heap.size w2 W.drew):=fun W hb=>⟨hb.os,hb.tape,hb.output,hb.size,hb.block⟩
 have HR:Hid (Below w2.heap.size w2 w2):=bR;have HO:Hid (∀(W W':World) (B k n:Nat) (t:TypeId) (v:Value) (xs:List Value),Below w2.heap.size w2 W→W.ownsRow W.heap.size t k v n xs→W.ownsRow w.heap.size t k v n xs):=fun W W' B k n t v xs hb h=>Qah h (Vt hb2.size hb.size)
 obtain⟨c0,c1,c2,c3,c4,c5⟩:=ac6 hx2;obtain⟨k0,k1,k2,k3,k4,k5,k6,k7,k8,k9,k10,k11,k12,k13,k14⟩:=QaA hy2;obtain⟨bHo,hHo⟩:=exq (s.keeps a.till a.lines.xs);have HEHo:=Qaa hHo;have HHo:Hid (∀W,Below w2.heap.size w2 W→Calls Tryz.prog 56 #[.agg s.arr,.int .i64 a.till,.slice a.lines.p a.lines.n a.lines.c] W fun e w'=>e=.returned (.bool bHo)∧Below w2.heap.size w2 w'):=fun W hb=>(Qjk W s (HS2.out W hb) a.till a.lines.p a.lines.n a.lines.c a.lines.xs (HA2.out W hb).lines.len (by have:=(HA2.out W hb).lines.most;omega) HZ.out.lines (HA2.out W hb).lines.cel).mono fun _ _ ⟨he,h⟩=>⟨by rw[he,←HEHo.out];try rfl,hb.trans (h.mono hb.size)⟩
 have HCl:Hid (∀W,Below w2.heap.size w2 W→Calls Tryz.prog 160 #[.slice a.lines.p a.lines.n a.lines.c] W fun e w'=>∃v,e=.returned v∧w'.ownsRow w.heap.size 132 2 v a.lines.xs.length (QaI a.lines.xs)∧Below w2.heap.size w2 w'):=fun W hb=>(Qc9 W a.lines.p a.lines.n a.lines.c a.lines.xs (HA2.out W hb).lines.len (by have:=(HA2.out W hb).lines.most;omega) (HA2.out W hb).lines.cel).mono fun _ _ ⟨v,he,hr,h⟩=>⟨v,he,by rw[(HA2.out W hb).lines.len];exact Qah hr (Vt HB2.out.size hb.size),hb.trans (h.mono hb.size)⟩
 have HM:Hid (QaR s a=if bHo=true then (1,a.lines.xs,[]) else (3,[],[])):=by show _=_;simp[QaR,hsu,←hHo]
 clear hw2 hb2 hx2 hy2 hs ha hz hHo
 cases bHo with
 | true =>
  go_enter Tryz.func87,Tryz.ntmps87;go_upto_region 1 with (fail);rw[HW2.out];go_upto_region 2 with (go_at_call 56;refine(HHo.out _ (by first | exact HR.out | exact HD.out _ HR.out)).mono ?_;rintro e w3 ⟨rfl,hbw3⟩;have Hw3:=Qaa hbw3;clear hbw3;obtain⟨c0,c1,c2,c3,c4,c5⟩:=ac6 (HX2.out _ Hw3.out);obtain⟨k0,k1,k2,k3,k4,k5,k6,k7,k8,k9,k10,k11,k12,k13,k14⟩:=QaA (HY2.out _ Hw3.out));go_wp2_with (go_at_call 160;refine(HCl.out _ (by first | exact Hw3.out | exact HD.out _ Hw3.out)).mono ?_;rintro e w4 ⟨v,rfl,hr,hbw4⟩;have Hw4:=Qaa hbw4;clear hbw4;obtain⟨c0,c1,c2,c3,c4,c5⟩:=ac6 (HX2.out _ Hw4.out);obtain⟨k0,k1,k2,k3,k4,k5,k6,k7,k8,k9,k10,k11,k12,k13,k14⟩:=QaA (HY2.out _ Hw4.out);have Hr:=Qaa hr;clear hr)
  refine Vg (v:=.tuple #[.int .i64 1,v,.slice none 0 0]) (by simp[results,Tryz.results87,go_sem]) rfl ?_;have HM2:Hid (QaR s a=(1,a.lines.xs,[])):=by show _=_;exact HM.out.trans rfl
  exact⟨_,_,by rw[HM2.out],by rw[HM2.out];exact⟨Hr.out,(Qa4 _ _).2⟩,HE.out _ Hw4.out⟩
 | false =>
  go_enter Tryz.func87,Tryz.ntmps87;go_upto_region 1 with (fail);rw[HW2.out];go_wp2_with (go_at_call 56;refine(HHo.out _ (by first | exact HR.out | exact HD.out _ HR.out)).mono ?_;rintro e w3 ⟨rfl,hbw3⟩;have Hw3:=Qaa hbw3;clear hbw3;obtain⟨c0,c1,c2,c3,c4,c5⟩:=ac6 (HX2.out _ Hw3.out);obtain⟨k0,k1,k2,k3,k4,k5,k6,k7,k8,k9,k10,k11,k12,k13,k14⟩:=QaA (HY2.out _ Hw3.out))
  refine Vg (v:=.tuple #[.int .i64 3,.slice none 0 0,.slice none 0 0]) (by simp[results,Tryz.results87,go_sem]) rfl ?_;have HM2:Hid (QaR s a=(3,[],[])):=by show _=_;exact HM.out.trans rfl
  exact⟨_,_,by rw[HM2.out],by rw[HM2.out];exact Qa4 _ _,HE.out _ Hw3.out⟩
theorem Qgp (w:World) (s:Sta) (hs:Qae w s) (a:Acd) (ha:Qad w a) (hz:Qfe a) (hsu:a.sure=false) :
  Calls Tryz.prog 87 #[.agg s.arr,.agg a.arr] w (MgP w.heap.size w (QaR s a)):=by
 obtain⟨w2,hw2,hb2,hx2,hy2⟩:=QaT w s.arr a.arr 42 55;have HS2:Hid (∀W,Below w2.heap.size w2 W→Qae W s):=fun W hb=>(hs.below hb2).below hb
 have HA2:Hid (∀W,Below w2.heap.size w2 W→Qad W a):=fun W hb=>(ha.below hb2).below hb
 have HX2:Hid (∀W,Below w2.heap.size w2 W→W.heap[w.heap.size]?=some (.cells s.arr 42 (0,0))):=fun W hb=>(hb.block _ (Qab hx2)).trans hx2
 have HY2:Hid (∀W,Below w2.heap.size w2 W→W.heap[w.heap.size+1]?=some (.cells a.arr 55 (0,0))):=fun W hb=>(hb.block _ (Qab hy2)).trans hy2
 obtain⟨HZ,HW2,HB2⟩:=Qmk hz hw2 hb2;have HE:Hid (∀W,Below w2.heap.size w2 W→Below w.heap.size w W):=fun W hb=>hb2.trans (hb.mono hb2.size)
 have HD:Hid (∀W,Below w2.heap.size w2 W→Below w2.heap.size w2 W.drew):=fun W hb=>⟨hb.os,hb.tape,hb.output,hb.size,hb.block⟩
 have HR:Hid (Below w2.heap.size w2 w2):=bR;have HO:Hid (∀(W W':World) (B k n:Nat) (t:TypeId) (v:Value) (xs:List Value),Below w2.heap.size w2 W→W.ownsRow W.heap.size t k v n xs→W.ownsRow w.heap.size t k v n xs):=fun W W' B k n t v xs hb h=>Qah h (Vt hb2.size hb.size)
 obtain⟨c0,c1,c2,c3,c4,c5⟩:=ac6 hx2;obtain⟨k0,k1,k2,k3,k4,k5,k6,k7,k8,k9,k10,k11,k12,k13,k14⟩:=QaA hy2;obtain⟨bGd,hGd⟩:=exq (s.guards a.guards.xs);have HEGd:=Qaa hGd;have HGd:Hid (∀W,Below w2.heap.size w2 W→Calls Tryz.prog 24 #[.agg s.arr,.slice a.guards.p a.guards.n a.guards.c] W fun e w'=>e=.returned (.bool bGd)∧Below w2.heap.size w2 w'):=fun W hb=>(QfS W s (HS2.out W hb) a.guards.p a.guards.n a.guards.c a.guards.xs (HA2.out W hb).guards.len (by have:=(HA2.out W hb).guards.most;omega) (HA2.out W hb).guards.cel).mono fun _ _ ⟨he,h⟩=>⟨by rw[he,←HEGd.out];try rfl,hb.trans (h.mono hb.size)⟩
 obtain⟨bFl,hFl⟩:=exq (s.fits a.lines.xs);have HEFl:=Qaa hFl;have HFl:Hid (∀W,Below w2.heap.size w2 W→Calls Tryz.prog 54 #[.agg s.arr,.slice a.lines.p a.lines.n a.lines.c] W fun e w'=>e=.returned (.bool bFl)∧Below w2.heap.size w2 w'):=fun W hb=>(QeE W s (HS2.out W hb) a.lines.p a.lines.n a.lines.c a.lines.xs (HA2.out W hb).lines.len (by have:=(HA2.out W hb).lines.most;omega) HZ.out.lines (HA2.out W hb).lines.cel).mono fun _ _ ⟨he,h⟩=>⟨by rw[he,←HEFl.out];try rfl,hb.trans (h.mono hb.size)⟩
 obtain⟨bOp,hOp⟩:=exq (s.opens a.sets.xs);have HEOp:=Qaa hOp;have HOp:Hid (∀W,Below w2.heap.size w2 W→Calls Tryz.prog 59 #[.agg s.arr,.slice a.sets.p a.sets.n a.sets.c] W fun e w'=>e=.returned (.bool bOp)∧Below w2.heap.size w2 w'):=fun W hb=>(QgH W s (HS2.out W hb) a.sets.p a.sets.n a.sets.c a.sets.xs (HA2.out W hb).sets.len (by have:=(HA2.out W hb).sets.most;omega) (HA2.out W hb).sets.cel).mono fun _ _ ⟨he,h⟩=>⟨by rw[he,←HEOp.out];try rfl,hb.trans (h.mono hb.size)⟩
 have HCl:Hid (∀W,Below w2.heap.size w2 W→Calls Tryz.prog 160 #[.slice a.lines.p a.lines.n a.lines.c] W fun e w'=>∃v,e=.returned v∧w'.ownsRow w.heap.size 132 2 v a.lines.xs.length (QaI a.lines.xs)∧Below w2.heap.size w2 w'):=fun W hb=>(Qc9 W a.lines.p a.lines.n a.lines.c a.lines.xs (HA2.out W hb).lines.len (by have:=(HA2.out W hb).lines.most;omega) (HA2.out W hb).lines.cel).mono fun _ _ ⟨v,he,hr,h⟩=>⟨v,he,by rw[(HA2.out W hb).lines.len];exact Qah hr (Vt HB2.out.size hb.size),hb.trans (h.mono hb.size)⟩
 have HRa:Hid (∀W,Below w2.heap.size w2 W→Calls Tryz.prog 161 #[.agg s.arr,.slice a.sets.p a.sets.n a.sets.c] W fun e w'=>∃v,e=.returned v∧w'.ownsRow w.heap.size 76 3 v (a.sets.xs.map s.raise).length (Qav (a.sets.xs.map s.raise))∧Below w2.heap.size w2 w'∧Below W.heap.size W w'):=fun W hb=>(Qdi W s (HS2.out W hb) a.sets.p a.sets.n a.sets.c a.sets.xs (HA2.out W hb).sets.len (by have:=(HA2.out W hb).sets.most;omega) (HA2.out W hb).sets.cel).mono fun _ _ ⟨v,he,hr,h⟩=>⟨v,he,by rw[VG,(HA2.out W hb).sets.len];exact Qah hr (Vt HB2.out.size hb.size),hb.trans (h.mono hb.size),h⟩
 have HMg:Hid (∀W,Below w2.heap.size w2 W→Calls Tryz.prog 162 #[.agg s.arr,.agg #[.int .i64 a.till,.int .u64 a.num,.int .i64 a.kind,.bool false,.slice a.lines.p a.lines.n a.lines.c,.slice a.guards.p a.guards.n a.guards.c,.slice a.sets.p a.sets.n a.sets.c,.int .i64 a.mg,.slice a.other.p a.other.n a.other.c,.int .i64 a.ra,.int .i64 a.rb,.int .i64 a.rd,.int .i64 a.to,.int .u64 a.gen,.slice a.rights.p a.rights.n a.rights.c]] W (fun e w'=>∃v u,e=.returned (.tuple #[.int .i64 (QaG s a).1,v,u])∧QcS w.heap.size w' v u (QaG s a).2.1 (QaG s a).2.2∧Below w2.heap.size w2 w')):=fun W hb=>by rw[show #[.int .i64 a.till,.int .u64 a.num,.int .i64 a.kind,.bool false,.slice a.lines.p a.lines.n a.lines.c,.slice a.guards.p a.guards.n a.guards.c,.slice a.sets.p a.sets.n a.sets.c,.int .i64 a.mg,.slice a.other.p a.other.n a.other.c,.int .i64 a.ra,.int .i64 a.rb,.int .i64 a.rd,.int .i64 a.to,.int .u64 a.gen,.slice a.rights.p a.rights.n a.rights.c]=a.arr by simp only[Acd.arr,hsu]];exact(Qjp W s (HS2.out W hb) a (HA2.out W hb) HZ.out).mono fun _ _ ⟨v,u,he,⟨hr1,hr2⟩,h⟩=>⟨v,u,he,⟨Qah hr1 (Vt HB2.out.size hb.size),Qah hr2 (Vt HB2.out.size hb.size)⟩,hb.trans (h.mono hb.size)⟩
 obtain⟨mo,hmo⟩:=exq ((QaG s a).1);rw[hmo]at HMg;have HMo:=Qaa hmo;have HM:Hid (QaR s a=if (bGd && bFl && bOp)=true then (1,a.lines.xs,a.sets.xs.map s.raise) else QaG s a):=by show _=_;simp[QaR,hsu,←hGd,←hFl,←hOp]
 clear hw2 hb2 hx2 hy2 hs ha hz hGd hFl hOp hmo
 cases bGd with
 | true =>
  cases bFl with
  | true =>
   cases bOp with
   | true =>
    go_enter Tryz.func87,Tryz.ntmps87;go_upto_region 1 with (fail);rw[HW2.out];go_upto_region 6 with (first | (go_at_call 59;refine(HOp.out _ (by first | exact Hw4.out | exact HD.out _ Hw4.out)).mono ?_;rintro e w5 ⟨rfl,hbw5⟩;have Hw5:=Qaa hbw5;clear hbw5;obtain⟨c0,c1,c2,c3,c4,c5⟩:=ac6 (HX2.out _ Hw5.out);obtain⟨k0,k1,k2,k3,k4,k5,k6,k7,k8,k9,k10,k11,k12,k13,k14⟩:=QaA (HY2.out _ Hw5.out)) | (go_at_call 54;refine(HFl.out _ (by first | exact Hw3.out | exact HD.out _ Hw3.out)).mono ?_;rintro e w4 ⟨rfl,hbw4⟩;have Hw4:=Qaa hbw4;clear hbw4;obtain⟨c0,c1,c2,c3,c4,c5⟩:=ac6 (HX2.out _ Hw4.out);obtain⟨k0,k1,k2,k3,k4,k5,k6,k7,k8,k9,k10,k11,k12,k13,k14⟩:=QaA (HY2.out _ Hw4.out)) | (go_at_call 24;refine(HGd.out _ (by first | exact HR.out | exact HD.out _ HR.out)).mono ?_;rintro e w3 ⟨rfl,hbw3⟩;have Hw3:=Qaa hbw3;clear hbw3;obtain⟨c0,c1,c2,c3,c4,c5⟩:=ac6 (HX2.out _ Hw3.out);obtain⟨k0,k1,k2,k3,k4,k5,k6,k7,k8,k9,k10,k11,k12,k13,k14⟩:=QaA (HY2.out _ Hw3.out)));go_upto_region 6 with (fail);go_region_held3 (fun w'=>w'.cell? ⟨w.heap.size,0,none⟩=some (.int .u64 s.pos)∧w'.cell? ⟨w.heap.size,1,none⟩=some (.slice s.pp s.pn s.pc)∧w'.cell? ⟨w.heap.size,2,none⟩=some (.slice s.rp s.rn s.rc)∧w'.cell? ⟨w.heap.size,3,none⟩=some (.slice s.lp s.ln s.lc)∧w'.cell? ⟨w.heap.size,4,none⟩=some (.slice s.gp s.gn s.gc)∧w'.cell? ⟨w.heap.size,5,none⟩=some (.slice s.op s.on s.oc)∧w'.cell? ⟨w.heap.size+1,4,none⟩=some (.slice a.lines.p a.lines.n a.lines.c)∧w'.cell? ⟨w.heap.size+1,6,none⟩=some (.slice a.sets.p a.sets.n a.sets.c)) (go_keep) (first | (go_at_call 160;refine(HCl.out _ (by first | exact Hw5.out | exact HD.out _ Hw5.out)).mono ?_;rintro e wA ⟨va,rfl,hra,hbA⟩;have HRr:=Qaa hra;clear hra;have HwA:=Qaa hbA;obtain⟨cwA0,cwA1,cwA2,cwA3,cwA4,cwA5⟩:=ac6 (HX2.out _ HwA.out);obtain⟨kwA0,kwA1,kwA2,kwA3,kwA4,kwA5,kwA6,kwA7,kwA8,kwA9,kwA10,kwA11,kwA12,kwA13,kwA14⟩:=QaA (HY2.out _ HwA.out);clear hbA) | (go_at_call 161;refine(HRa.out _ (by first | exact HwA.out | exact HD.out _ HwA.out)).mono ?_;rintro e wC ⟨vc,rfl,hrc,hbC,hcC⟩;obtain⟨HRc,HcC⟩:=Qmj hrc hcC;clear hrc hcC;have HwC:=Qaa hbC;obtain⟨cwC0,cwC1,cwC2,cwC3,cwC4,cwC5⟩:=ac6 (HX2.out _ HwC.out);obtain⟨kwC0,kwC1,kwC2,kwC3,kwC4,kwC5,kwC6,kwC7,kwC8,kwC9,kwC10,kwC11,kwC12,kwC13,kwC14⟩:=QaA (HY2.out _ HwC.out);clear hbC) | fail);have HrA:=Qaa (Qbn HRr.out HcC.out);go_wp2;refine Vg (v:=.tuple #[.int .i64 1,va,vc]) (by simp[results,Tryz.results87,go_sem]) rfl ?_;have HM2:Hid (QaR s a=(1,a.lines.xs,a.sets.xs.map s.raise)):=by show _=_;exact HM.out.trans rfl
    exact⟨_,_,by rw[HM2.out],by rw[HM2.out];exact⟨HrA.out,HRc.out⟩,HE.out _ HwC.out⟩
   | false =>
    go_enter Tryz.func87,Tryz.ntmps87;go_upto_region 1 with (fail);rw[HW2.out];go_wp2_with (first | (go_at_call 162;refine(HMg.out _ (by first | exact Hw5.out | exact HD.out _ Hw5.out)).mono ?_;rintro e w6 ⟨vm,um,rfl,hrm,hbw6⟩;have Hw6:=Qaa hbw6;clear hbw6;obtain⟨c0,c1,c2,c3,c4,c5⟩:=ac6 (HX2.out _ Hw6.out);obtain⟨k0,k1,k2,k3,k4,k5,k6,k7,k8,k9,k10,k11,k12,k13,k14⟩:=QaA (HY2.out _ Hw6.out);have Hrm:=Qaa hrm;clear hrm) | (go_at_call 59;refine(HOp.out _ (by first | exact Hw4.out | exact HD.out _ Hw4.out)).mono ?_;rintro e w5 ⟨rfl,hbw5⟩;have Hw5:=Qaa hbw5;clear hbw5;obtain⟨c0,c1,c2,c3,c4,c5⟩:=ac6 (HX2.out _ Hw5.out);obtain⟨k0,k1,k2,k3,k4,k5,k6,k7,k8,k9,k10,k11,k12,k13,k14⟩:=QaA (HY2.out _ Hw5.out)) | (go_at_call 54;refine(HFl.out _ (by first | exact Hw3.out | exact HD.out _ Hw3.out)).mono ?_;rintro e w4 ⟨rfl,hbw4⟩;have Hw4:=Qaa hbw4;clear hbw4;obtain⟨c0,c1,c2,c3,c4,c5⟩:=ac6 (HX2.out _ Hw4.out);obtain⟨k0,k1,k2,k3,k4,k5,k6,k7,k8,k9,k10,k11,k12,k13,k14⟩:=QaA (HY2.out _ Hw4.out)) | (go_at_call 24;refine(HGd.out _ (by first | exact HR.out | exact HD.out _ HR.out)).mono ?_;rintro e w3 ⟨rfl,hbw3⟩;have Hw3:=Qaa hbw3;clear hbw3;obtain⟨c0,c1,c2,c3,c4,c5⟩:=ac6 (HX2.out _ Hw3.out);obtain⟨k0,k1,k2,k3,k4,k5,k6,k7,k8,k9,k10,k11,k12,k13,k14⟩:=QaA (HY2.out _ Hw3.out)))
    refine Vg (v:=.tuple #[.int .i64 mo,vm,um]) (by simp[results,Tryz.results87,go_sem]) rfl ?_;have HM2:Hid (QaR s a=QaG s a):=by show _=_;exact HM.out.trans rfl
    exact⟨_,_,by rw[HM2.out,HMo.out],by rw[HM2.out];exact Hrm.out,HE.out _ Hw6.out⟩
  | false =>
   go_enter Tryz.func87,Tryz.ntmps87;go_upto_region 1 with (fail);rw[HW2.out];go_wp2_with (first | (go_at_call 162;refine(HMg.out _ (by first | exact Hw4.out | exact HD.out _ Hw4.out)).mono ?_;rintro e w6 ⟨vm,um,rfl,hrm,hbw6⟩;have Hw6:=Qaa hbw6;clear hbw6;obtain⟨c0,c1,c2,c3,c4,c5⟩:=ac6 (HX2.out _ Hw6.out);obtain⟨k0,k1,k2,k3,k4,k5,k6,k7,k8,k9,k10,k11,k12,k13,k14⟩:=QaA (HY2.out _ Hw6.out);have Hrm:=Qaa hrm;clear hrm) | (go_at_call 54;refine(HFl.out _ (by first | exact Hw3.out | exact HD.out _ Hw3.out)).mono ?_;rintro e w4 ⟨rfl,hbw4⟩;have Hw4:=Qaa hbw4;clear hbw4;obtain⟨c0,c1,c2,c3,c4,c5⟩:=ac6 (HX2.out _ Hw4.out);obtain⟨k0,k1,k2,k3,k4,k5,k6,k7,k8,k9,k10,k11,k12,k13,k14⟩:=QaA (HY2.out _ Hw4.out)) | (go_at_call 24;refine(HGd.out _ (by first | exact HR.out | exact HD.out _ HR.out)).mono ?_;rintro e w3 ⟨rfl,hbw3⟩;have Hw3:=Qaa hbw3;clear hbw3;obtain⟨c0,c1,c2,c3,c4,c5⟩:=ac6 (HX2.out _ Hw3.out);obtain⟨k0,k1,k2,k3,k4,k5,k6,k7,k8,k9,k10,k11,k12,k13,k14⟩:=QaA (HY2.out _ Hw3.out)))
   refine Vg (v:=.tuple #[.int .i64 mo,vm,um]) (by simp[results,Tryz.results87,go_sem]) rfl ?_;have HM2:Hid (QaR s a=QaG s a):=by show _=_;exact HM.out.trans rfl
   exact⟨_,_,by rw[HM2.out,HMo.out],by rw[HM2.out];exact Hrm.out,HE.out _ Hw6.out⟩
 | false =>
  go_enter Tryz.func87,Tryz.ntmps87;go_upto_region 1 with (fail);rw[HW2.out];go_wp2_with (first | (go_at_call 162;refine(HMg.out _ (by first | exact Hw3.out | exact HD.out _ Hw3.out)).mono ?_;rintro e w6 ⟨vm,um,rfl,hrm,hbw6⟩;have Hw6:=Qaa hbw6;clear hbw6;obtain⟨c0,c1,c2,c3,c4,c5⟩:=ac6 (HX2.out _ Hw6.out);obtain⟨k0,k1,k2,k3,k4,k5,k6,k7,k8,k9,k10,k11,k12,k13,k14⟩:=QaA (HY2.out _ Hw6.out);have Hrm:=Qaa hrm;clear hrm) | (go_at_call 24;refine(HGd.out _ (by first | exact HR.out | exact HD.out _ HR.out)).mono ?_;rintro e w3 ⟨rfl,hbw3⟩;have Hw3:=Qaa hbw3;clear hbw3;obtain⟨c0,c1,c2,c3,c4,c5⟩:=ac6 (HX2.out _ Hw3.out);obtain⟨k0,k1,k2,k3,k4,k5,k6,k7,k8,k9,k10,k11,k12,k13,k14⟩:=QaA (HY2.out _ Hw3.out)))
  refine Vg (v:=.tuple #[.int .i64 mo,vm,um]) (by simp[results,Tryz.results87,go_sem]) rfl ?_;have HM2:Hid (QaR s a=QaG s a):=by show _=_;exact HM.out.trans rfl
  exact⟨_,_,by rw[HM2.out,HMo.out],by rw[HM2.out];exact Hrm.out,HE.out _ Hw6.out⟩
theorem Qjz (w:World) (s:Sta) (hs:Qae w s) (a:Acd) (ha:Qad w a) (hz:Qfe a):Calls Tryz.prog 87 #[.agg s.arr,.agg a.arr] w (MgP w.heap.size w (QaR s a)):=by
 cases h:a.sure
 ·exact Qgp w s hs a ha hz h
 ·exact Qhv w s hs a ha hz h
theorem QcH (w:World) (b:Bool):Calls Tryz.prog 89 #[.bool b] w fun e w'=>e=.returned (.int .i64 (Qb1 b))∧w'=w:=by
 cases b
 ·go_enter Tryz.func89,Tryz.ntmps89
  go_wp2;go_ret;exact⟨rfl,rfl⟩
 ·go_enter Tryz.func89,Tryz.ntmps89
  go_wp2;go_ret;exact⟨rfl,rfl⟩
theorem Qlt (w:World) (s:Sta) (hs:Qae w s) (a:Acd) (ha:Qad w a) (hz:Qfe a) (hk:a.kind=1) :
  Calls Tryz.prog 42 #[.agg s.arr,.agg a.arr] w (JgP w.heap.size w (Qan s a)):=by
 obtain⟨w2,hw2,hb2,hx2,hy2⟩:=QaT w s.arr a.arr 42 55;have HS2:Hid (∀W,Below w2.heap.size w2 W→Qae W s):=fun W hb=>(hs.below hb2).below hb
 have HA2:Hid (∀W,Below w2.heap.size w2 W→Qad W a):=fun W hb=>(ha.below hb2).below hb
 have HX2:Hid (∀W,Below w2.heap.size w2 W→W.heap[w.heap.size]?=some (.cells s.arr 42 (0,0))):=fun W hb=>(hb.block _ (Qab hx2)).trans hx2
 have HY2:Hid (∀W,Below w2.heap.size w2 W→W.heap[w.heap.size+1]?=some (.cells a.arr 55 (0,0))):=fun W hb=>(hb.block _ (Qab hy2)).trans hy2
 obtain⟨HZ,HW2,HB2⟩:=Qmk hz hw2 hb2;have HE:Hid (∀W,Below w2.heap.size w2 W→Below w.heap.size w W):=fun W hb=>hb2.trans (hb.mono hb2.size)
 have HD:Hid (∀W,Below w2.heap.size w2 W→Below w2.heap.size w2 W.drew):=fun W hb=>⟨hb.os,hb.tape,hb.output,hb.size,hb.block⟩
 have HR:Hid (Below w2.heap.size w2 w2):=bR;have HO:Hid (∀(W W':World) (B k n:Nat) (t:TypeId) (v:Value) (xs:List Value),Below w2.heap.size w2 W→W.ownsRow W.heap.size t k v n xs→W.ownsRow w.heap.size t k v n xs):=fun W W' B k n t v xs hb h=>Qah h (Vt hb2.size hb.size)
 obtain⟨c0,c1,c2,c3,c4,c5⟩:=ac6 hx2;obtain⟨k0,k1,k2,k3,k4,k5,k6,k7,k8,k9,k10,k11,k12,k13,k14⟩:=QaA hy2;have k1':(a.kind == 1)=true:=by simp[hk]
 have HMg:Hid (∀W,Below w2.heap.size w2 W→Calls Tryz.prog 87 #[.agg s.arr,.agg a.arr] W (fun e w'=>∃v u,e=.returned (.tuple #[.int .i64 (QaR s a).1,v,u])∧QcS w.heap.size w' v u (QaR s a).2.1 (QaR s a).2.2∧Below w2.heap.size w2 w')):=fun W hb=>(Qjz W s (HS2.out W hb) a (HA2.out W hb) HZ.out).mono fun _ _ ⟨v,u,he,⟨hr1,hr2⟩,h⟩=>⟨v,u,he,⟨Qah hr1 (Vt HB2.out.size hb.size),Qah hr2 (Vt HB2.out.size hb.size)⟩,hb.trans (h.mono hb.size)⟩
 obtain⟨mo,hmo⟩:=exq ((QaR s a).1);rw[hmo]at HMg;have HM:Hid (Qan s a=(mo,(QaR s a).2.1,(QaR s a).2.2,0)):=by show _=_;simp[Qan,hk,hmo]
 clear hw2 hb2 hx2 hy2 hs ha hz hk hmo;go_enter Tryz.func42,Tryz.ntmps42;go_upto_region 1 with (fail);rw[HW2.out];go_wp2_with (go_at_call 87;refine(HMg.out _ (by first | exact HR.out | exact HD.out _ HR.out)).mono ?_;rintro e w6 ⟨vm,um,rfl,hrm,hbw6⟩;have Hw6:=Qaa hbw6;clear hbw6;obtain⟨c0,c1,c2,c3,c4,c5⟩:=ac6 (HX2.out _ Hw6.out);obtain⟨k0,k1,k2,k3,k4,k5,k6,k7,k8,k9,k10,k11,k12,k13,k14⟩:=QaA (HY2.out _ Hw6.out);have Hrm:=Qaa hrm;clear hrm)
 refine Vg (v:=.tuple #[.int .i64 mo,vm,um,.int .i64 0]) (by simp[results,Tryz.results42,go_sem]) rfl ?_;exact⟨_,_,by rw[HM.out],by rw[HM.out];exact Hrm.out,HE.out _ Hw6.out⟩
theorem QkY (w:World) (s:Sta) (hs:Qae w s) (a:Acd) (ha:Qad w a) (hz:Qfe a) (hk:a.kind=2) :
  Calls Tryz.prog 42 #[.agg s.arr,.agg a.arr] w (JgP w.heap.size w (Qan s a)):=by
 obtain⟨w2,hw2,hb2,hx2,hy2⟩:=QaT w s.arr a.arr 42 55;have HS2:Hid (∀W,Below w2.heap.size w2 W→Qae W s):=fun W hb=>(hs.below hb2).below hb
 have HA2:Hid (∀W,Below w2.heap.size w2 W→Qad W a):=fun W hb=>(ha.below hb2).below hb
 have HX2:Hid (∀W,Below w2.heap.size w2 W→W.heap[w.heap.size]?=some (.cells s.arr 42 (0,0))):=fun W hb=>(hb.block _ (Qab hx2)).trans hx2
 have HY2:Hid (∀W,Below w2.heap.size w2 W→W.heap[w.heap.size+1]?=some (.cells a.arr 55 (0,0))):=fun W hb=>(hb.block _ (Qab hy2)).trans hy2
 obtain⟨HZ,HW2,HB2⟩:=Qmk hz hw2 hb2;have HE:Hid (∀W,Below w2.heap.size w2 W→Below w.heap.size w W):=fun W hb=>hb2.trans (hb.mono hb2.size)
 have HD:Hid (∀W,Below w2.heap.size w2 W→Below w2.heap.size w2 W.drew):=fun W hb=>⟨hb.os,hb.tape,hb.output,hb.size,hb.block⟩
 have HR:Hid (Below w2.heap.size w2 w2):=bR;have HO:Hid (∀(W W':World) (B k n:Nat) (t:TypeId) (v:Value) (xs:List Value),Below w2.heap.size w2 W→W.ownsRow W.heap.size t k v n xs→W.ownsRow w.heap.size t k v n xs):=fun W W' B k n t v xs hb h=>Qah h (Vt hb2.size hb.size)
 obtain⟨c0,c1,c2,c3,c4,c5⟩:=ac6 hx2;obtain⟨k0,k1,k2,k3,k4,k5,k6,k7,k8,k9,k10,k11,k12,k13,k14⟩:=QaA hy2;have k1':(a.kind == 1)=false:=by simp[hk]
 have k2':(a.kind == 2)=true:=by simp[hk]
 obtain⟨nGr,hGr⟩:=exq (min a.rd (min (s.free a.ra a.rb) (wrap64 (18014398509481984 - s.held a.till a.ra a.rb))));have HEGr:=Qaa hGr;have HGr:Hid (∀W,Below w2.heap.size w2 W→Calls Tryz.prog 88 #[.agg s.arr,.int .i64 a.till,.agg #[.int .i64 a.ra,.int .i64 a.rb,.int .i64 a.rd]] W fun e w'=>e=.returned (.int .i64 nGr)∧Below w2.heap.size w2 w'):=fun W hb=>(Qiz W s (HS2.out W hb) a.till a.ra a.rb a.rd).mono fun _ _ ⟨he,h⟩=>⟨by rw[he,←HEGr.out],hb.trans (h.mono hb.size)⟩
 have HM:Hid (Qan s a=(4,[],[],nGr)):=by show _=_;simp[Qan,hk,hGr]
 clear hw2 hb2 hx2 hy2 hs ha hz hk hGr;go_enter Tryz.func42,Tryz.ntmps42;go_upto_region 1 with (fail);rw[HW2.out];go_wp2_with (go_at_call 88;refine(HGr.out _ (by first | exact HR.out | exact HD.out _ HR.out)).mono ?_;rintro e w3 ⟨rfl,hbw3⟩;have Hw3:=Qaa hbw3;clear hbw3;obtain⟨c0,c1,c2,c3,c4,c5⟩:=ac6 (HX2.out _ Hw3.out);obtain⟨k0,k1,k2,k3,k4,k5,k6,k7,k8,k9,k10,k11,k12,k13,k14⟩:=QaA (HY2.out _ Hw3.out))
 refine Vg (v:=.tuple #[.int .i64 4,.slice none 0 0,.slice none 0 0,.int .i64 nGr]) (by simp[results,Tryz.results42,go_sem]) rfl ?_;have HM2:Hid (Qan s a=(4,[],[],nGr)):=by show _=_;exact HM.out.trans rfl
 exact⟨_,_,by rw[HM2.out],by rw[HM2.out];exact Qa4 _ _,HE.out _ Hw3.out⟩
theorem Qlm (w:World) (s:Sta) (hs:Qae w s) (a:Acd) (ha:Qad w a) (hz:Qfe a) (hk:a.kind=3) :
  Calls Tryz.prog 42 #[.agg s.arr,.agg a.arr] w (JgP w.heap.size w (Qan s a)):=by
 obtain⟨w2,hw2,hb2,hx2,hy2⟩:=QaT w s.arr a.arr 42 55;have HS2:Hid (∀W,Below w2.heap.size w2 W→Qae W s):=fun W hb=>(hs.below hb2).below hb
 have HA2:Hid (∀W,Below w2.heap.size w2 W→Qad W a):=fun W hb=>(ha.below hb2).below hb
 have HX2:Hid (∀W,Below w2.heap.size w2 W→W.heap[w.heap.size]?=some (.cells s.arr 42 (0,0))):=fun W hb=>(hb.block _ (Qab hx2)).trans hx2
 have HY2:Hid (∀W,Below w2.heap.size w2 W→W.heap[w.heap.size+1]?=some (.cells a.arr 55 (0,0))):=fun W hb=>(hb.block _ (Qab hy2)).trans hy2
 obtain⟨HZ,HW2,HB2⟩:=Qmk hz hw2 hb2;have HE:Hid (∀W,Below w2.heap.size w2 W→Below w.heap.size w W):=fun W hb=>hb2.trans (hb.mono hb2.size)
 have HD:Hid (∀W,Below w2.heap.size w2 W→Below w2.heap.size w2 W.drew):=fun W hb=>⟨hb.os,hb.tape,hb.output,hb.size,hb.block⟩
 have HR:Hid (Below w2.heap.size w2 w2):=bR;have HO:Hid (∀(W W':World) (B k n:Nat) (t:TypeId) (v:Value) (xs:List Value),Below w2.heap.size w2 W→W.ownsRow W.heap.size t k v n xs→W.ownsRow w.heap.size t k v n xs):=fun W W' B k n t v xs hb h=>Qah h (Vt hb2.size hb.size)
 obtain⟨c0,c1,c2,c3,c4,c5⟩:=ac6 hx2;obtain⟨k0,k1,k2,k3,k4,k5,k6,k7,k8,k9,k10,k11,k12,k13,k14⟩:=QaA hy2;have k1':(a.kind == 1)=false:=by simp[hk]
 have k2':(a.kind == 2)=false:=by simp[hk]
 have k3':(a.kind == 3)=true:=by simp[hk]
 obtain⟨bHs,hHs⟩:=exq (decide (a.rd≤s.held a.till a.ra a.rb));have HEHs:=Qaa hHs;have HHs:Hid (∀W,Below w2.heap.size w2 W→Calls Tryz.prog 90 #[.agg s.arr,.int .i64 a.till,.agg #[.int .i64 a.ra,.int .i64 a.rb,.int .i64 a.rd]] W fun e w'=>e=.returned (.bool bHs)∧Below w2.heap.size w2 w'):=fun W hb=>(QeL W s (HS2.out W hb) a.till a.ra a.rb a.rd).mono fun _ _ ⟨he,h⟩=>⟨by rw[he,←HEHs.out];try rfl,hb.trans (h.mono hb.size)⟩
 have HDn:Hid (∀W b,Below w2.heap.size w2 W→Calls Tryz.prog 89 #[.bool b] W fun e w'=>e=.returned (.int .i64 (Qb1 b))∧Below w2.heap.size w2 w'):=fun W b hb=>(QcH W b).mono fun _ _ ⟨he,h⟩=>⟨he,by rw[h];exact hb⟩
 have HM:Hid (Qan s a=(Qb1 bHs,[],[],0)):=by show _=_;simp[Qan,hk,hHs]
 clear hw2 hb2 hx2 hy2 hs ha hz hk hHs;go_enter Tryz.func42,Tryz.ntmps42;go_upto_region 1 with (fail);rw[HW2.out];go_wp2_with (first | (go_at_call 89;refine(HDn.out _ bHs (by first | exact Hw3.out | exact HD.out _ Hw3.out)).mono ?_;rintro e w4 ⟨rfl,hbw4⟩;have Hw4:=Qaa hbw4;clear hbw4) | (go_at_call 90;refine(HHs.out _ (by first | exact HR.out | exact HD.out _ HR.out)).mono ?_;rintro e w3 ⟨rfl,hbw3⟩;have Hw3:=Qaa hbw3;clear hbw3;obtain⟨c0,c1,c2,c3,c4,c5⟩:=ac6 (HX2.out _ Hw3.out);obtain⟨k0,k1,k2,k3,k4,k5,k6,k7,k8,k9,k10,k11,k12,k13,k14⟩:=QaA (HY2.out _ Hw3.out)))
 refine Vg (v:=.tuple #[.int .i64 (Qb1 bHs),.slice none 0 0,.slice none 0 0,.int .i64 0]) (by simp[results,Tryz.results42,go_sem]) rfl ?_;have HM2:Hid (Qan s a=(Qb1 bHs,[],[],0)):=by show _=_;exact HM.out.trans rfl
 exact⟨_,_,by rw[HM2.out],by rw[HM2.out];exact Qa4 _ _,HE.out _ Hw4.out⟩
theorem Qle (w:World) (s:Sta) (hs:Qae w s) (a:Acd) (ha:Qad w a) (hz:Qfe a) (hk:a.kind=5) :
  Calls Tryz.prog 42 #[.agg s.arr,.agg a.arr] w (JgP w.heap.size w (Qan s a)):=by
 obtain⟨w2,hw2,hb2,hx2,hy2⟩:=QaT w s.arr a.arr 42 55;have HS2:Hid (∀W,Below w2.heap.size w2 W→Qae W s):=fun W hb=>(hs.below hb2).below hb
 have HA2:Hid (∀W,Below w2.heap.size w2 W→Qad W a):=fun W hb=>(ha.below hb2).below hb
 have HX2:Hid (∀W,Below w2.heap.size w2 W→W.heap[w.heap.size]?=some (.cells s.arr 42 (0,0))):=fun W hb=>(hb.block _ (Qab hx2)).trans hx2
 have HY2:Hid (∀W,Below w2.heap.size w2 W→W.heap[w.heap.size+1]?=some (.cells a.arr 55 (0,0))):=fun W hb=>(hb.block _ (Qab hy2)).trans hy2
 obtain⟨HZ,HW2,HB2⟩:=Qmk hz hw2 hb2;have HE:Hid (∀W,Below w2.heap.size w2 W→Below w.heap.size w W):=fun W hb=>hb2.trans (hb.mono hb2.size)
 have HD:Hid (∀W,Below w2.heap.size w2 W→Below w2.heap.size w2 W.drew):=fun W hb=>⟨hb.os,hb.tape,hb.output,hb.size,hb.block⟩
 have HR:Hid (Below w2.heap.size w2 w2):=bR;have HO:Hid (∀(W W':World) (B k n:Nat) (t:TypeId) (v:Value) (xs:List Value),Below w2.heap.size w2 W→W.ownsRow W.heap.size t k v n xs→W.ownsRow w.heap.size t k v n xs):=fun W W' B k n t v xs hb h=>Qah h (Vt hb2.size hb.size)
 obtain⟨c0,c1,c2,c3,c4,c5⟩:=ac6 hx2;obtain⟨k0,k1,k2,k3,k4,k5,k6,k7,k8,k9,k10,k11,k12,k13,k14⟩:=QaA hy2;have k1':(a.kind == 1)=false:=by simp[hk]
 have k2':(a.kind == 2)=false:=by simp[hk]
 have k3':(a.kind == 3)=false:=by simp[hk]
 have k4':(a.kind == 4)=false:=by simp[hk]
 have k5':(a.kind == 5)=true:=by simp[hk]
 obtain⟨bOw,hOw⟩:=exq (s.owes a.till a.gen);have HEOw:=Qaa hOw;have HOw:Hid (∀W,Below w2.heap.size w2 W→Calls Tryz.prog 93 #[.agg s.arr,.int .i64 a.till,.int .u64 a.gen] W fun e w'=>e=.returned (.bool bOw)∧Below w2.heap.size w2 w'):=fun W hb=>(QkB W s (HS2.out W hb) a.till a.gen).mono fun _ _ ⟨he,h⟩=>⟨by rw[he,←HEOw.out];try rfl,hb.trans (h.mono hb.size)⟩
 obtain⟨bHa,hHa⟩:=exq (s.hasAll a.till a.rights.xs);have HEHa:=Qaa hHa;have HHa:Hid (∀W,Below w2.heap.size w2 W→Calls Tryz.prog 94 #[.agg s.arr,.int .i64 a.till,.slice a.rights.p a.rights.n a.rights.c] W fun e w'=>e=.returned (.bool bHa)∧Below w2.heap.size w2 w'):=fun W hb=>(Qhe W s (HS2.out W hb) a.till a.rights.p a.rights.n a.rights.c a.rights.xs (HA2.out W hb).rights.len (by have:=(HA2.out W hb).rights.most;omega) (HA2.out W hb).rights.cel).mono fun _ _ ⟨he,h⟩=>⟨by rw[he,←HEHa.out];try rfl,hb.trans (h.mono hb.size)⟩
 have HDn:Hid (∀W b,Below w2.heap.size w2 W→Calls Tryz.prog 89 #[.bool b] W fun e w'=>e=.returned (.int .i64 (Qb1 b))∧Below w2.heap.size w2 w'):=fun W b hb=>(QcH W b).mono fun _ _ ⟨he,h⟩=>⟨he,by rw[h];exact hb⟩
 have HM:Hid (Qan s a=(Qb1 (bOw && bHa),[],[],0)):=by show _=_;simp[Qan,hk,hOw,hHa]
 clear hw2 hb2 hx2 hy2 hs ha hz hk hOw hHa
 cases bOw with
 | true =>
  go_enter Tryz.func42,Tryz.ntmps42;go_upto_region 1 with (fail);rw[HW2.out];go_wp2_with (first | (go_at_call 89;refine(HDn.out _ bHa (by first | exact Hw4.out | exact HD.out _ Hw4.out)).mono ?_;rintro e w5 ⟨rfl,hbw5⟩;have Hw5:=Qaa hbw5;clear hbw5) | (go_at_call 94;refine(HHa.out _ (by first | exact Hw3.out | exact HD.out _ Hw3.out)).mono ?_;rintro e w4 ⟨rfl,hbw4⟩;have Hw4:=Qaa hbw4;clear hbw4;obtain⟨c0,c1,c2,c3,c4,c5⟩:=ac6 (HX2.out _ Hw4.out);obtain⟨k0,k1,k2,k3,k4,k5,k6,k7,k8,k9,k10,k11,k12,k13,k14⟩:=QaA (HY2.out _ Hw4.out)) | (go_at_call 93;refine(HOw.out _ (by first | exact HR.out | exact HD.out _ HR.out)).mono ?_;rintro e w3 ⟨rfl,hbw3⟩;have Hw3:=Qaa hbw3;clear hbw3;obtain⟨c0,c1,c2,c3,c4,c5⟩:=ac6 (HX2.out _ Hw3.out);obtain⟨k0,k1,k2,k3,k4,k5,k6,k7,k8,k9,k10,k11,k12,k13,k14⟩:=QaA (HY2.out _ Hw3.out)))
  refine Vg (v:=.tuple #[.int .i64 (Qb1 bHa),.slice none 0 0,.slice none 0 0,.int .i64 0]) (by simp[results,Tryz.results42,go_sem]) rfl ?_;have HM2:Hid (Qan s a=(Qb1 bHa,[],[],0)):=by show _=_;exact HM.out.trans rfl
  exact⟨_,_,by rw[HM2.out],by rw[HM2.out];exact Qa4 _ _,HE.out _ Hw5.out⟩
 | false =>
  go_enter Tryz.func42,Tryz.ntmps42;go_upto_region 1 with (fail);rw[HW2.out];go_wp2_with (first | (go_at_call 89;refine(HDn.out _ false (by first | exact Hw3.out | exact HD.out _ Hw3.out)).mono ?_;rintro e w4 ⟨rfl,hbw4⟩;have Hw4:=Qaa hbw4;clear hbw4) | (go_at_call 93;refine(HOw.out _ (by first | exact HR.out | exact HD.out _ HR.out)).mono ?_;rintro e w3 ⟨rfl,hbw3⟩;have Hw3:=Qaa hbw3;clear hbw3;obtain⟨c0,c1,c2,c3,c4,c5⟩:=ac6 (HX2.out _ Hw3.out);obtain⟨k0,k1,k2,k3,k4,k5,k6,k7,k8,k9,k10,k11,k12,k13,k14⟩:=QaA (HY2.out _ Hw3.out)))
  refine Vg (v:=.tuple #[.int .i64 (Qb1 false),.slice none 0 0,.slice none 0 0,.int .i64 0]) (by simp[results,Tryz.results42,go_sem]) rfl ?_;have HM2:Hid (Qan s a=(Qb1 false,[],[],0)):=by show _=_;exact HM.out.trans rfl
  exact⟨_,_,by rw[HM2.out],by rw[HM2.out];exact Qa4 _ _,HE.out _ Hw4.out⟩
theorem QlE (w:World) (s:Sta) (hs:Qae w s) (a:Acd) (ha:Qad w a) (hz:Qfe a) (n1:¬a.kind=1) (n2:¬a.kind=2) (n3:¬a.kind=3) (n4:¬a.kind=4) (n5:¬a.kind=5) :
  Calls Tryz.prog 42 #[.agg s.arr,.agg a.arr] w (JgP w.heap.size w (Qan s a)):=by
 obtain⟨w2,hw2,hb2,hx2,hy2⟩:=QaT w s.arr a.arr 42 55;have HS2:Hid (∀W,Below w2.heap.size w2 W→Qae W s):=fun W hb=>(hs.below hb2).below hb
 have HA2:Hid (∀W,Below w2.heap.size w2 W→Qad W a):=fun W hb=>(ha.below hb2).below hb
 have HX2:Hid (∀W,Below w2.heap.size w2 W→W.heap[w.heap.size]?=some (.cells s.arr 42 (0,0))):=fun W hb=>(hb.block _ (Qab hx2)).trans hx2
 have HY2:Hid (∀W,Below w2.heap.size w2 W→W.heap[w.heap.size+1]?=some (.cells a.arr 55 (0,0))):=fun W hb=>(hb.block _ (Qab hy2)).trans hy2
 obtain⟨HZ,HW2,HB2⟩:=Qmk hz hw2 hb2;have HE:Hid (∀W,Below w2.heap.size w2 W→Below w.heap.size w W):=fun W hb=>hb2.trans (hb.mono hb2.size)
 have HD:Hid (∀W,Below w2.heap.size w2 W→Below w2.heap.size w2 W.drew):=fun W hb=>⟨hb.os,hb.tape,hb.output,hb.size,hb.block⟩
 have HR:Hid (Below w2.heap.size w2 w2):=bR;have HO:Hid (∀(W W':World) (B k n:Nat) (t:TypeId) (v:Value) (xs:List Value),Below w2.heap.size w2 W→W.ownsRow W.heap.size t k v n xs→W.ownsRow w.heap.size t k v n xs):=fun W W' B k n t v xs hb h=>Qah h (Vt hb2.size hb.size)
 obtain⟨c0,c1,c2,c3,c4,c5⟩:=ac6 hx2;obtain⟨k0,k1,k2,k3,k4,k5,k6,k7,k8,k9,k10,k11,k12,k13,k14⟩:=QaA hy2;have k1':(a.kind == 1)=false:=beq_eq_false_iff_ne.2 n1;have k2':(a.kind == 2)=false:=beq_eq_false_iff_ne.2 n2;have k3':(a.kind == 3)=false:=beq_eq_false_iff_ne.2 n3;have k4':(a.kind == 4)=false:=beq_eq_false_iff_ne.2 n4;have k5':(a.kind == 5)=false:=beq_eq_false_iff_ne.2 n5;have HM:Hid (Qan s a=(0,[],[],0)):=by show _=_;simp[Qan,n1,n2,n3,n4,n5]
 clear hw2 hb2 hx2 hy2 hs ha hz n1 n2 n3 n4 n5;go_enter Tryz.func42,Tryz.ntmps42;go_upto_region 1 with (fail);rw[HW2.out];go_wp2;refine Vg (v:=.tuple #[.int .i64 0,.slice none 0 0,.slice none 0 0,.int .i64 0]) (by simp[results,Tryz.results42,go_sem]) rfl ?_;have HM2:Hid (Qan s a=(0,[],[],0)):=by show _=_;exact HM.out.trans rfl
 exact⟨_,_,by rw[HM2.out],by rw[HM2.out];exact Qa4 _ _,HE.out _ HR.out⟩
end Go.Proofs.YtiogibfhafoapaaGreat
namespace Go.Proofs.YtiogibfhafoapaaGreat
open Go.RowKit Go.Sort
open Z (Sli QaE Acd Qad)
theorem QkX (w:World) (s:Sta) (hs:Qae w s) (a:Acd) (ha:Qad w a) (hz:Qfe a) (hk:a.kind=4) :
  Calls Tryz.prog 42 #[.agg s.arr,.agg a.arr] w (JgP w.heap.size w (Qan s a)):=by
 obtain⟨w2,hw2,hb2,hx2,hy2⟩:=QaT w s.arr a.arr 42 55;have HS2:Hid (∀W,Below w2.heap.size w2 W→Qae W s):=fun W hb=>(hs.below hb2).below hb
 have HA2:Hid (∀W,Below w2.heap.size w2 W→Qad W a):=fun W hb=>(ha.below hb2).below hb
 have HX2:Hid (∀W,Below w2.heap.size w2 W→W.heap[w.heap.size]?=some (.cells s.arr 42 (0,0))):=fun W hb=>(hb.block _ (Qab hx2)).trans hx2
 have HY2:Hid (∀W,Below w2.heap.size w2 W→W.heap[w.heap.size+1]?=some (.cells a.arr 55 (0,0))):=fun W hb=>(hb.block _ (Qab hy2)).trans hy2
 obtain⟨HZ,HW2,HB2⟩:=Qmk hz hw2 hb2;have HE:Hid (∀W,Below w2.heap.size w2 W→Below w.heap.size w W):=fun W hb=>hb2.trans (hb.mono hb2.size)
 have HD:Hid (∀W,Below w2.heap.size w2 W→Below w2.heap.size w2 W.drew):=fun W hb=>⟨hb.os,hb.tape,hb.output,hb.size,hb.block⟩
 have HR:Hid (Below w2.heap.size w2 w2):=bR;have HO:Hid (∀(W W':World) (B k n:Nat) (t:TypeId) (v:Value) (xs:List Value),Below w2.heap.size w2 W→W.ownsRow W.heap.size t k v n xs→W.ownsRow w.heap.size t k v n xs):=fun W W' B k n t v xs hb h=>Qah h (Vt hb2.size hb.size)
 obtain⟨c0,c1,c2,c3,c4,c5⟩:=ac6 hx2;obtain⟨k0,k1,k2,k3,k4,k5,k6,k7,k8,k9,k10,k11,k12,k13,k14⟩:=QaA hy2;have k1':(a.kind == 1)=false:=by simp[hk]
 have k2':(a.kind == 2)=false:=by simp[hk]
 have k3':(a.kind == 3)=false:=by simp[hk]
 have k4':(a.kind == 4)=true:=by simp[hk]
 obtain⟨bHs,hHs⟩:=exq (decide (a.rd≤s.held a.till a.ra a.rb));have HEHs:=Qaa hHs;have HHs:Hid (∀W,Below w2.heap.size w2 W→Calls Tryz.prog 90 #[.agg s.arr,.int .i64 a.till,.agg #[.int .i64 a.ra,.int .i64 a.rb,.int .i64 a.rd]] W fun e w'=>e=.returned (.bool bHs)∧Below w2.heap.size w2 w'):=fun W hb=>(QeL W s (HS2.out W hb) a.till a.ra a.rb a.rd).mono fun _ _ ⟨he,h⟩=>⟨by rw[he,←HEHs.out];try rfl,hb.trans (h.mono hb.size)⟩
 obtain⟨nHr,hHr⟩:=exq (wrap64 (18014398509481984 - s.held a.to a.ra a.rb));have HEHr:=Qaa hHr;have HHr:Hid (∀W,Below w2.heap.size w2 W→Calls Tryz.prog 91 #[.agg s.arr,.int .i64 a.to,.agg #[.int .i64 a.ra,.int .i64 a.rb]] W fun e w'=>e=.returned (.int .i64 nHr)∧Below w2.heap.size w2 w'):=fun W hb=>(Qdy W s (HS2.out W hb) a.to a.ra a.rb).mono fun _ _ ⟨he,h⟩=>⟨by rw[he,←HEHr.out],hb.trans (h.mono hb.size)⟩
 have HDn:Hid (∀W b,Below w2.heap.size w2 W→Calls Tryz.prog 89 #[.bool b] W fun e w'=>e=.returned (.int .i64 (Qb1 b))∧Below w2.heap.size w2 w'):=fun W b hb=>(QcH W b).mono fun _ _ ⟨he,h⟩=>⟨he,by rw[h];exact hb⟩
 have HKo:Hid (∀W,Below w2.heap.size w2 W→Calls Tryz.prog 92 #[.agg #[.int .i64 a.ra,.int .i64 a.rb,.int .i64 a.rd]] W fun e w'=>e=.returned (.agg #[.int .i64 a.ra,.int .i64 a.rb])∧Below w2.heap.size w2 w'):=fun W hb=>(QbD W a.ra a.rb a.rd).mono fun _ _ ⟨he,h⟩=>⟨he,hb.trans (h.mono hb.size)⟩
 have HM:Hid (Qan s a=(Qb1 (bHs && decide (a.rd≤nHr)),[],[],0)):=by show _=_;simp[Qan,hk,hHs,hHr]
 clear hw2 hb2 hx2 hy2 hs ha hz hk hHs hHr
 cases bHs with
 | true =>
  go_enter Tryz.func42,Tryz.ntmps42;go_upto_region 1 with (fail);rw[HW2.out];go_upto_region 9 with (fail);go_region_held3 (fun w'=>w'.cell? ⟨w.heap.size,0,none⟩=some (.int .u64 s.pos)∧w'.cell? ⟨w.heap.size,1,none⟩=some (.slice s.pp s.pn s.pc)∧w'.cell? ⟨w.heap.size,2,none⟩=some (.slice s.rp s.rn s.rc)∧w'.cell? ⟨w.heap.size,3,none⟩=some (.slice s.lp s.ln s.lc)∧w'.cell? ⟨w.heap.size,4,none⟩=some (.slice s.gp s.gn s.gc)∧w'.cell? ⟨w.heap.size,5,none⟩=some (.slice s.op s.on s.oc)∧w'.cell? ⟨w.heap.size+1,0,none⟩=some (.int .i64 a.till)∧w'.cell? ⟨w.heap.size+1,9,none⟩=some (.int .i64 a.ra)∧w'.cell? ⟨w.heap.size+1,10,none⟩=some (.int .i64 a.rb)∧w'.cell? ⟨w.heap.size+1,11,none⟩=some (.int .i64 a.rd)∧w'.cell? ⟨w.heap.size+1,12,none⟩=some (.int .i64 a.to)) (go_keep) (first | (go_at_call 89;refine(HDn.out _ _ (by first | exact Hw5.out | exact HD.out _ Hw5.out)).mono ?_;rintro e w6 ⟨rfl,hbw6⟩;have Hw6:=Qaa hbw6;obtain⟨cw60,cw61,cw62,cw63,cw64,cw65⟩:=ac6 (HX2.out _ Hw6.out);obtain⟨kw60,kw61,kw62,kw63,kw64,kw65,kw66,kw67,kw68,kw69,kw610,kw611,kw612,kw613,kw614⟩:=QaA (HY2.out _ Hw6.out);clear hbw6) | (go_at_call 91;refine(HHr.out _ (by first | exact Hw4.out | exact HD.out _ Hw4.out)).mono ?_;rintro e w5 ⟨rfl,hbw5⟩;have Hw5:=Qaa hbw5;obtain⟨cw50,cw51,cw52,cw53,cw54,cw55⟩:=ac6 (HX2.out _ Hw5.out);obtain⟨kw50,kw51,kw52,kw53,kw54,kw55,kw56,kw57,kw58,kw59,kw510,kw511,kw512,kw513,kw514⟩:=QaA (HY2.out _ Hw5.out);clear hbw5) | (go_at_call 92;refine(HKo.out _ (by first | exact Hw3.out | exact HD.out _ Hw3.out)).mono ?_;rintro e w4 ⟨rfl,hbw4⟩;have Hw4:=Qaa hbw4;obtain⟨cw40,cw41,cw42,cw43,cw44,cw45⟩:=ac6 (HX2.out _ Hw4.out);obtain⟨kw40,kw41,kw42,kw43,kw44,kw45,kw46,kw47,kw48,kw49,kw410,kw411,kw412,kw413,kw414⟩:=QaA (HY2.out _ Hw4.out);clear hbw4) | (go_at_call 90;refine(HHs.out _ (by first | exact HR.out | exact HD.out _ HR.out)).mono ?_;rintro e w3 ⟨rfl,hbw3⟩;have Hw3:=Qaa hbw3;obtain⟨cw30,cw31,cw32,cw33,cw34,cw35⟩:=ac6 (HX2.out _ Hw3.out);obtain⟨kw30,kw31,kw32,kw33,kw34,kw35,kw36,kw37,kw38,kw39,kw310,kw311,kw312,kw313,kw314⟩:=QaA (HY2.out _ Hw3.out);clear hbw3) | fail);go_wp2;refine Vg (v:=.tuple #[.int .i64 (Qb1 (decide (a.rd≤nHr))),.slice none 0 0,.slice none 0 0,.int .i64 0]) (by simp[results,Tryz.results42,go_sem]) rfl ?_;have HM2:Hid (Qan s a=(Qb1 (decide (a.rd≤nHr)),[],[],0)):=by show _=_;exact HM.out.trans rfl
  exact⟨_,_,by rw[HM2.out],by rw[HM2.out];exact Qa4 _ _,HE.out _ Hw6.out⟩
 | false =>
  go_enter Tryz.func42,Tryz.ntmps42;go_upto_region 1 with (fail);rw[HW2.out];clear c0 c1 c2 c3 c4 c5;obtain⟨c0,c1,c2,c3,c4,c5⟩:=ac6 (HX2.out _ HR.out);have hbr:∀d os,Below w2.heap.size w2 (grow (redrawn w2 d) os):=fun d os=>below_regrown w2 d os
  have HQh:=Qaa (fun d os=>Calls.regrown_of ((QeL (grow (redrawn w2 d) os) s (HS2.out _ (hbr d os)) a.till a.ra a.rb a.rd).mono fun _ _ ⟨he,h⟩=>(⟨by rw[he,HEHs.out],h⟩:_=Ending.returned (.bool false)∧_)));have HQd:=Qaa (fun d os=>Calls.regrown_of ((QcH (grow (redrawn w2 d) os) false).mono fun _ _ ⟨he,h⟩=>(⟨he,by rw[h];exact bR⟩:_∧Below _ _ _)));have HBr:=Qaa hbr;go_upto_region 9 with (fail);have r0:=cell_regrown c0;have r1:=cell_regrown c1;have r2:=cell_regrown c2;have r3:=cell_regrown c3;have r4:=cell_regrown c4;have r5:=cell_regrown c5;have q0:=cell_regrown k0;have q9:=cell_regrown k9;have q10:=cell_regrown k10;have q11:=cell_regrown k11;have q12:=cell_regrown k12;clear c0 c1 c2 c3 c4 c5 hbr;refine wp_region_quiet_below (by kernel_rfl) (by kernel_rfl) ?_;repeat (go_big_quiet_step (first | (go_at_call 90;exact HQh.out _ _) | (go_at_call 89;exact HQd.out _ _)))
  refine VT ?_;intro _ hw';obtain⟨⟨dq,osq⟩,hw''⟩:=hw';have HB3:=Qaa (HBr.out dq osq);obtain⟨w3,hw3⟩:=exq (grow (redrawn w2 dq) osq);rw[hw3]at HB3;have hw4:=(hw''.trans hw3).symm;subst hw4;clear hw3 hw'';go_wp2;refine Vg (v:=.tuple #[.int .i64 (Qb1 false),.slice none 0 0,.slice none 0 0,.int .i64 0]) (by simp[results,Tryz.results42,go_sem]) rfl ?_;have HM2:Hid (Qan s a=(Qb1 false,[],[],0)):=by show _=_;exact HM.out.trans rfl
  exact⟨_,_,by rw[HM2.out],by rw[HM2.out];exact Qa4 _ _,HE.out _ HB3.out⟩
theorem Qiw (w:World) (s:Sta) (hs:Qae w s) (a:Acd) (ha:Qad w a) (hz:Qfe a):Calls Tryz.prog 42 #[.agg s.arr,.agg a.arr] w (JgP w.heap.size w (Qan s a)):=by
 by_cases h1:a.kind=1
 ·exact Qlt w s hs a ha hz h1
 by_cases h2:a.kind=2
 ·exact QkY w s hs a ha hz h2
 by_cases h3:a.kind=3
 ·exact Qlm w s hs a ha hz h3
 by_cases h4:a.kind=4
 ·exact QkX w s hs a ha hz h4
 by_cases h5:a.kind=5
 ·exact Qle w s hs a ha hz h5
 exact QlE w s hs a ha hz h1 h2 h3 h4 h5
end Go.Proofs.YtiogibfhafoapaaGreat
