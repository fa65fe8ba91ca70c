import Derived.Test.YtiogibfhafoapaaGreatJgE
import Derived.Test.YtiogibfhafoapaaGreatEfD
import Derived.Test.YtiogibfhafoapaaGreatFoH
import Derived.Test.YtiogibfhafoapaaGreatFoF
import Derived.Test.YtiogibfhafoapaaGreatAbZ
import Derived.Test.YtiogibfhafoapaaGreatTk
set_option maxRecDepth 100000
set_option maxHeartbeats 8000000
set_option linter.unusedSimpArgs false
set_option linter.unusedVariables false
namespace Go.Proofs.YtiogibfhafoapaaGreat
open Go.RowKit
open Z (Sli SlOk Elt Acd AcdOk Ctr)
theorem getAt_nat {α:Type} {l:List α} {z:α} (k:Nat):getAt l z (k:Int)=l.getD k z:=by simp[getAt]
theorem getAt_set {α:Type} {l:List α} {z x:α} {k:Nat} {i:Int} (h:i≠(k:Int)):getAt (l.set k x) z i=getAt l z i:=by
 unfold getAt;split
 ·rw[List.getD_eq_getElem?_getD,List.getD_eq_getElem?_getD,List.getElem?_set_ne (by omega)]
 ·rfl
theorem getAt_map {l:List Pl} (i:Int):(getAt l pl0 i).d=getAt (l.map Pl.d) pl0.d i:=by
 unfold getAt;split
 ·rw[List.getD_eq_getElem?_getD,List.getD_eq_getElem?_getD,List.getElem?_map]
  cases l[i.toNat]? <;> rfl
 ·rfl
theorem d_pool {s x:Sta} (h:s.d=x.d) (i:Int):(getAt s.pools pl0 i).d=(getAt x.pools pl0 i).d:=by
 have h1:s.pools.map Pl.d=x.pools.map Pl.d:=congrArg StP.pools h;rw[getAt_map,getAt_map,h1]
theorem d_len {s x:Sta} (h:s.d=x.d):s.pools.length=x.pools.length:=by
 have h1:s.pools.map Pl.d=x.pools.map Pl.d:=congrArg StP.pools h;have h2:=congrArg List.length h1;simpa using h2
theorem Alk.of_d {s x:Sta} (h:s.d=x.d) (a:Acd):Alk s x a:=by
 have h1:s.prices=x.prices:=congrArg StP.prices h;have h2:s.gen=x.gen:=congrArg StP.gen h;have h3:s.owed=x.owed:=congrArg StP.owed h;exact⟨d_len h,fun k _=>⟨congrArg PlP.v (d_pool h k),congrArg PlP.f0 (d_pool h k),congrArg PlP.f1 (d_pool h k),congrArg PlP.hs (d_pool h k)⟩,by rw[h1],fun k _=>by rw[h1],by rw[h2],by rw[h2],by rw[h3]⟩
theorem Alk.setPool {s x:Sta} {a:Acd} (h:Alk s x a) {k:Nat} (hk:namedB a (k:Int)=false) (Q:Pl):Alk s (x.upP k Q) a :=
 ⟨by show _=(x.pools.set k Q).length;rw[List.length_set];exact h.pl,fun i hi=>by
  have e:getAt (x.upP k Q).pools pl0 i=getAt x.pools pl0 i:=getAt_set (by rintro rfl;rw[hk]at hi;cases hi);rw[e];exact h.pool i hi,h.rl,h.price,h.gl,h.gen,h.owed⟩
theorem Alk.setPrice {s x:Sta} {a:Acd} (h:Alk s x a) {k:Nat} (hk:pricedB a (k:Int)=false) (q:Lin):Alk s { x with prices:=x.prices.set k q } a :=
 ⟨h.pl,h.pool,by show _=(x.prices.set k q).length;rw[List.length_set];exact h.rl,fun i hi=>by
  have e:getAt (x.prices.set k q) ⟨0,0⟩ i=getAt x.prices ⟨0,0⟩ i:=getAt_set (by rintro rfl;rw[hk]at hi;cases hi);show _=getAt (x.prices.set k q) ⟨0,0⟩ i;rw[e];exact h.price i hi,h.gl,h.gen,h.owed⟩
theorem Alk.setLast {s x:Sta} {a:Acd} (h:Alk s x a) (k:Nat) (n:Int):Alk s (x.setLast k n) a:=⟨h.pl,h.pool,h.rl,h.price,h.gl,h.gen,h.owed⟩
theorem Alk.setTill {s x:Sta} {a:Acd} (h:Alk s x a) {k:Nat} (hk:a.till≠(k:Int)) (n:Int) (b:Bool):Alk s ((x.setGen k n).setOw k b) a :=
 ⟨h.pl,h.pool,h.rl,h.price,by show _=(x.gen.set k n).length;rw[List.length_set];exact h.gl,by
  have e:getAt (x.gen.set k n) 0 a.till=getAt x.gen 0 a.till:=getAt_set hk;show _=getAt (x.gen.set k n) 0 a.till;rw[e];exact h.gen,by
  have e:getAt (x.owed.set k b) false a.till=getAt x.owed false a.till:=getAt_set hk;show _=getAt (x.owed.set k b) false a.till;rw[e];exact h.owed⟩
theorem Alk.setPos {s x:Sta} {a:Acd} (h:Alk s x a) (n:Int):Alk s { x with pos:=n } a:=⟨h.pl,h.pool,h.rl,h.price,h.gl,h.gen,h.owed⟩
structure Spd (s x:Sta) (t:Int):Prop where
 held:∀k,getAt (getAt s.pools pl0 k).hs ⟨0,0⟩ t=getAt (getAt x.pools pl0 k).hs ⟨0,0⟩ t
theorem Spd.of_d {s x:Sta} (h:s.d=x.d) (t:Int):Spd s x t:=⟨fun k=>by
 have e:(getAt s.pools pl0 k).hs=(getAt x.pools pl0 k).hs:=congrArg PlP.hs (d_pool h k);rw[e]⟩
theorem getAt_here {α:Type} {l:List α} {z x y:α} {k:Nat} (h:l[k]?=some y):getAt (l.set k x) z (k:Int)=x:=by
 rw[getAt_nat,List.getD_eq_getElem?_getD,List.getElem?_set_self (List.getElem?_eq_some_iff.1 h).1];rfl
theorem Spd.up {s x:Sta} {t:Int} (h:Spd s x t) {k:Nat} {P Q:Pl} (hP:x.pools[k]?=some P) (hq:getAt Q.hs ⟨0,0⟩ t=getAt P.hs ⟨0,0⟩ t):Spd s (x.upP k Q) t:=⟨fun i=>by
 by_cases e:i=(k:Int)
 ·subst e
  have e1:getAt (x.upP k Q).pools pl0 (k:Int)=Q:=getAt_here hP;rw[e1,hq,h.held,(at_in (z:=pl0) hP).2]
 ·have e1:getAt (x.upP k Q).pools pl0 i=getAt x.pools pl0 i:=getAt_set e
  rw[e1];exact h.held i⟩
theorem judge_sure {s x:Sta} {a:Acd} (h:Spd s x a.till) (h1:a.kind=1) (hsu:a.sure=true):judgeT s a=judgeT x a:=by
 have e:∀k w,s.held a.till k w=x.held a.till k w:=fun k w=>by unfold Sta.held;rw[h.held k]
 have e1:s.keeps a.till a.lines.xs=x.keeps a.till a.lines.xs:=by unfold Sta.keeps;exact all_same (fun r _=>by rw[e])
 unfold judgeT writeT;rw[if_pos h1,if_pos h1,if_pos hsu,if_pos hsu,e1]
theorem flat4 (xs:List Pl):∀(k:Nat) (Q:Pl),k<xs.length→((((Z.flat plc xs).set (k*4) (.int .i64 Q.v)).set (k*4+1) (.int .i64 Q.f0)).set (k*4+2) (.int .i64 Q.f1)).set (k*4+3) Q.hv=Z.flat plc (xs.set k Q):=by
 induction xs with
 | nil=>intro k Q h;simp at h
 | cons y ys ih =>
  intro k Q h
  cases k with
  | zero=>simp[Z.flat,plc,Pl.hv]
  | succ k =>
   have:=ih k Q (by simpa using h);rw[show (k+1)*4=k*4+1+1+1+1 by omega,show k*4+1+1+1+1+1=(k*4+1)+1+1+1+1 by omega,show k*4+1+1+1+1+2=(k*4+2)+1+1+1+1 by omega,show k*4+1+1+1+1+3=(k*4+3)+1+1+1+1 by omega];simp only[Z.flat,List.flatMap_cons,List.set_cons_succ]at this ⊢;show (((((plc y++_).set _ _).set _ _).set _ _).set _ _)=plc y++_;rw[←this];rfl
theorem StaOw.putPool {B:Nat} {W:World} {s:Sta} (h:StaOw B W s) {k:Nat} {P Q:Pl} (hP:s.pools[k]?=some P) (hQl:Q.hs.length=Q.hl) (hQ:W.ownsRow B 118 2 Q.hv Q.hl (Z.flat linc Q.hs)) (hap:∀(i:Nat) (x:Pl),i≠k→s.pools[i]?=some x→∀g,x.hv.ownBlock=some g→Q.hv.ownBlock≠some g) {g:Nat} (hg:s.pp=some ⟨g,0,none⟩) :
  StaOw B ((((W.setCell ⟨g,k*4,none⟩ (.int .i64 Q.v)).setCell ⟨g,k*4+1,none⟩ (.int .i64 Q.f0)).setCell ⟨g,k*4+2,none⟩ (.int .i64 Q.f1)).setCell ⟨g,k*4+3,none⟩ Q.hv) (s.upP k Q):=by
 obtain⟨_,⟨C,hC⟩,_,_⟩:=h.poolRow hP hg;have h1:=heap_setCell_same W g (k*4) _ _ (.int .i64 Q.v) hC;have h2:=heap_setCell_same _ g (k*4+1) _ _ (.int .i64 Q.f0) h1;have h3:=heap_setCell_same _ g (k*4+2) _ _ (.int .i64 Q.f1) h2;have K:∀(B' k' n':Nat) (t:TypeId) (u:Value) (ys:List Value),W.ownsRow B' t k' u n' ys→121≠t→((((W.setCell ⟨g,k*4,none⟩ (.int .i64 Q.v)).setCell ⟨g,k*4+1,none⟩ (.int .i64 Q.f0)).setCell ⟨g,k*4+2,none⟩ (.int .i64 Q.f1)).setCell ⟨g,k*4+3,none⟩ Q.hv).ownsRow B' t k' u n' ys:=fun B' k' n' t u ys hr ht=>Z.owns_set (Z.owns_set (Z.owns_set (Z.owns_set hr hC ht) h1 ht) h2 ht) h3 ht
 have hk:=(List.getElem?_eq_some_iff.1 hP).1;refine⟨by unfold Sta.upP;simp only[List.length_set];exact h.pn,?_,fun x hx=>?_,fun x hx=>?_,fun i j x y hx hy hij b hb=>?_,h.rn,K _ _ _ _ _ _ h.prices (by decide),h.ln,K _ _ _ _ _ _ h.last (by decide),h.gn,K _ _ _ _ _ _ h.gen (by decide),h.on,K _ _ _ _ _ _ h.owed (by decide),h.lg⟩
 ·have h0:=h.pools
  rw[hg]at h0;have h5:=owns_setg (k:=k*4+3) (owns_setg (k:=k*4+2) (owns_setg (k:=k*4+1) (owns_setg (k:=k*4) h0 (.int .i64 Q.v)) (.int .i64 Q.f0)) (.int .i64 Q.f1)) Q.hv;rw[flat4 _ _ _ hk,←hg]at h5;exact h5
 ·rcases mem_upP hx with hx | rfl
  ·exact h.hlen x hx
  ·exact hQl
 ·rcases mem_upP hx with hx | rfl
  ·exact K _ _ _ _ _ _ (h.held x hx) (by decide)
  ·exact K _ _ _ _ _ _ hQ (by decide)
 ·rcases upP_get hP hx with ⟨a1,a2⟩ | ⟨rfl,rfl⟩
  ·rcases upP_get hP hy with ⟨a3,a4⟩ | ⟨rfl,rfl⟩
   ·exact h.apart i j x y a2 a4 hij b hb
   ·exact hap i x a1 a2 b hb
  ·rcases upP_get hP hy with ⟨a3,a4⟩ | ⟨rfl,rfl⟩
   ·exact fun e=>hap j y a3 a4 b e hb
   ·exact absurd rfl hij
theorem sm_of {c:Cfg} {w:World} {cs:List Ctr} {s:Sta} (hc:CfgOk w c cs) (h:Shp c s):StSm s:=by
 have h1:=hc.cl;have h2:=hc.pl;have h3:=hc.tills;have h4:=h.ln;have h5:=h.gn;have h6:=h.on;exact⟨by rw[h.pn];exact h1,by rw[h.rn];exact h2,by omega,by omega,by omega,fun p hp=>by have:=h.hl p hp;omega⟩
theorem boxes3 (w:World) (A B C:Array Value) (ta tb tc:TypeId):∃w2,((w.alloc (.cells A ta)).alloc (.cells B tb)).alloc (.cells C tc)=w2∧Below w.heap.size w w2∧w2.heap[w.heap.size]?=some (.cells A ta (0,0))∧w2.heap[w.heap.size+1]?=some (.cells B tb (0,0))∧w2.heap[w.heap.size+1+1]?=some (.cells C tc (0,0))∧w2.heap.size=w.heap.size+1+1+1:=by
 refine⟨_,rfl,(((Below.refl _ w).alloc (Nat.le_refl _) _).alloc (by simp) _).alloc (by simp;omega) _,?_,?_,?_,by simp⟩
 ·rw[Below.heap_alloc _ _ _ (by simp only[World.size_alloc];omega),Below.heap_alloc _ _ _ (by simp)];exact heap_alloc_new _ _
 ·rw[Below.heap_alloc _ _ _ (by simp)];exact heap_alloc2_new _ _ _
 ·have h:=heap_alloc_new ((w.alloc (.cells A ta)).alloc (.cells B tb)) (.cells C tc)
  simp only[World.size_alloc]at h;exact h
theorem boxes4 (w:World) (A B C D:Array Value) (ta tb tc td:TypeId):∃w2,(((w.alloc (.cells A ta)).alloc (.cells B tb)).alloc (.cells C tc)).alloc (.cells D td)=w2∧Below w.heap.size w w2∧w2.heap[w.heap.size]?=some (.cells A ta (0,0))∧w2.heap[w.heap.size+1]?=some (.cells B tb (0,0))∧w2.heap[w.heap.size+1+1]?=some (.cells C tc (0,0))∧w2.heap[w.heap.size+1+1+1]?=some (.cells D td (0,0))∧w2.heap.size=w.heap.size+1+1+1+1:=by
 obtain⟨w1,e1,b1,h1,h2,h3,s1⟩:=boxes3 w A B C ta tb tc;refine⟨_,rfl,by rw[e1];exact b1.alloc (by omega) _,?_,?_,?_,?_,by rw[e1];simp[s1]⟩
 ·rw[e1,Below.heap_alloc _ _ _ (ac_lt h1)];exact h1
 ·rw[e1,Below.heap_alloc _ _ _ (ac_lt h2)];exact h2
 ·rw[e1,Below.heap_alloc _ _ _ (ac_lt h3)];exact h3
 ·have h:=heap_alloc_new w1 (.cells D td)
  rw[s1]at h;rw[e1];exact h
structure Sp (B:Nat) (w4 W:World) (s X0 X:Sta) (t:Int):Prop where
 mt:Mut B w4 W
 ow:StaOw B W X
 sm:Same X0 X
 sp:Spd s X t
theorem Sp.drew {B:Nat} {w4 W:World} {s X0 X:Sta} {t:Int} (h:Sp B w4 W s X0 X t):Sp B w4 W.drew s X0 X t:=⟨h.mt.drew,h.ow.below ((Below.refl _ _).drew),h.sm,h.sp⟩
theorem pair_set {l:List Lin} {k:Nat} {x:Lin} {t:Int} (h:t≠(k:Int)):getAt (l.set k x) ⟨0,0⟩ t=getAt l ⟨0,0⟩ t:=getAt_set h
theorem spent_any (w:World) (c:Cfg) (cs:List Ctr) (s:Sta) (a:Acd) (hc:CfgOk w c cs) (hs:StaOk w s) (hsh:Shp c s) (u:Nat) (hu:a.till=(u:Int)) (hut:(u:Int)<c.tills) :
  Calls Tryz.prog 23 #[.agg s.arr,.agg a.arr] w fun e w'=>∃X:Sta,e=.returned (.agg X.arr)∧StaOk w' X∧Spd s X a.till∧Below w.heap.size w w':=by
 obtain⟨S,hS⟩:∃S,s.arr=S:=⟨_,rfl⟩;obtain⟨AA,hA⟩:∃A,a.arr=A:=⟨_,rfl⟩;have HSz:Hid (S.size=6):=by show _=_;rw[←hS];rfl
 obtain⟨w2,hw2,hb2,hx2,hy2,hz2,hsz⟩:=boxes3 w S AA qs 42 55 42;have HCp:Hid (Calls Tryz.prog 15 #[.agg s.arr] w2 fun e w'=>∃r:Sta,e=.returned (.agg r.arr)∧r.d=s.d∧StaOw w2.heap.size w' r∧Below w2.heap.size w2 w'):=copyState_any w2 s (hs.below hb2) (sm_of (hc.below hb2) hsh);rw[hS]at HCp;have HLs:=hide (Z.loadAt_row (P:=Tryz.prog) (ty:=42) hx2 Tryz.underlying42 rfl (by rw[HSz.out];exact Tryz.sizeS))
 have a0:Hid (∀W,Below w2.heap.size w2 W→W.cell? ⟨w.heap.size+1,0,none⟩=some (.int .i64 (u:Int))):=fun W h=>by
  rw[cell_of_row _ _ _ _ _ _ ((h.block _ (ac_lt hy2)).trans hy2),←hA,←hu];rfl
 have hbnd:s.pn≤4194304∧s.rn≤4194304∧s.gn≤4194304:=by have h:=sm_of hc hsh;exact⟨h.pn,h.rn,h.gn⟩
 obtain⟨hbn1,hbn2,hbn3⟩:=hbnd;have HSq:Hid (∀q∈s.pools,q.hs.length=q.hl):=fun q hq=>(hs.held q hq).len
 have HSp:Hid (s.pools.length=s.pn):=hs.pn;have HSl:Hid (s.last.length=s.ln):=hs.ln;have HW2:=hide hw2;have HB2:=hide hb2;have HZ2:=hide hz2;have HSh:=hide hsh;have HU:=hide hu;have hc':=hc.tills;obtain⟨n,hn⟩:∃n:Nat,c.tills=(n:Int):=⟨c.tills.toNat,by omega⟩;rw[hn]at hut hc';have HN:=hide hn;rw[hS,hA];clear hw2 hb2 hx2 hy2 hz2 hS hA hs hsh hc hu hn;go_enter Tryz.func23,Tryz.ntmps23;go_upto_region 1 with (fail);rw[HW2.out]
 go_upto_region 2 with (
   first
   | ((with_reducible show wpList _ _ _ (⟨_,.load 42 (.tmp 2),_,_,_,_⟩ :: _) _ _);refine Z.lp_load w.heap.size 0 S rfl HLs.out ?_)
   | (go_at_call 15;refine HCp.out.mono ?_;rintro e w3 ⟨X0,rfl,hxd,hxo,hb3⟩;have HXd:=hide hxd;have HXo:=hide hxo;have HB3:=hide hb3;obtain⟨XA,hXA⟩:∃X,X0.arr=X:=⟨_,rfl⟩;have HXA:=hide hXA;have HXz:Hid (XA.size=6):=(by show _=_;rw[←hXA];rfl);have HXn:Hid (XA.all (·.oneCell')=true):=(by show _=_;rw[←hXA];simp[Sta.arr,Value.oneCell']);rw[hXA];clear hxd hxo hb3 hXA)
   | ((with_reducible show wpList _ _ _ (⟨_,.store 42 (.tmp 5) _,_,_,_,_⟩ :: _) _ _);refine Z.lp_store (t:=42) (x:=.tmp 5) (some ⟨w3.heap.size,0,none⟩) (.agg XA) rfl rfl (run_storeAt_new w3 _ qs XA (by rw[HXz.out];exact Tryz.sizeS) (by rw[HXz.out];rfl) HXn.out) ?_)
   | fail)
 try dsimp only[Act.put]
 have hk4:=heap_alloc_new w3 (.cells XA 42);have hb4:Below w3.heap.size w3 (w3.alloc (.cells XA 42)):=(Below.refl _ _).alloc (Nat.le_refl _) _;obtain⟨w4,hw4⟩:∃W,w3.alloc (.cells XA 42)=W:=⟨_,rfl⟩;rw[hw4]at hk4 hb4 ⊢;obtain⟨xb,hxb⟩:∃k,w3.heap.size=k:=⟨_,rfl⟩;rw[hxb]at hk4 ⊢;have HB24:Hid (Below w2.heap.size w2 w4):=HB3.out.trans (hb4.mono HB3.out.size);have HP0:Hid (Sp w2.heap.size w4 w4 s X0 X0 (u:Int)):=⟨Mut.refl _ _,HXo.out.below hb4,Same.refl _,Spd.of_d HXd.out.symm _⟩
 have HX:Hid (∀(W:World) (X:Sta),Sp w2.heap.size w4 W s X0 X (u:Int)→W.heap[xb]?=some (.cells X.arr 42 (0,0))):=fun W X h=>by
  rw[h.sm.arr,HXA.out];exact h.mt.cell hk4 (not_mut rfl)
 have HZw:Hid (∀W,Mut w2.heap.size w4 W→W.heap[w.heap.size+1+1]?=some (.cells qs 42 (0,0))):=fun W h=>h.cell ((HB24.out.block _ (ac_lt HZ2.out)).trans HZ2.out) (not_mut rfl)
 have HBw:Hid (∀W,Mut w2.heap.size w4 W→Below w.heap.size w W):=fun W h=>HB2.out.trans ((HB24.out.trans h.bel).mono HB2.out.size)
 have HA0:Hid (∀W,Mut w2.heap.size w4 W→W.cell? ⟨w.heap.size+1,0,none⟩=some (.int .i64 (u:Int))):=fun W h=>a0.out W (HB24.out.trans h.bel)
 have hln:X0.ln=n:=by have h1:X0.last=s.last:=congrArg StP.last HXd.out;have h2:=HXo.out.ln;have h3:=HSh.out.ln;have h4:=HSl.out;have h5:=HN.out;rw[h1]at h2;omega
 have hpn:X0.pn=s.pn:=by have h2:=HXo.out.pn;have h3:=d_len HXd.out;have h4:=HSp.out;omega
 have HHl:Hid (∀p∈X0.pools,p.hl=n):=fun p hp=>by
  have h1:X0.pools.map Pl.d=s.pools.map Pl.d:=congrArg StP.pools HXd.out;have h2:p.d∈s.pools.map Pl.d:=by rw[←h1];exact List.mem_map.2 ⟨p,hp,rfl⟩
  obtain⟨q,hq,e⟩:=List.mem_map.1 h2;have h3:q.hs=p.hs:=congrArg PlP.hs e;have h4:=HXo.out.hlen p hp;have h5:=(HSq.out q hq);have h6:=HSh.out.hl q hq;have h7:=HN.out;rw[←h3]at h4;omega
 clear hw4 hxb hb4 HCp HLs HB3 HXz HXn HXo HXd;obtain⟨c0,c1,c2,c3,c4,c5⟩:=ac6 (HX.out _ _ HP0.out);rw[hln]at c3;have HLn:=hide hln;have HPn:=hide hpn;clear hk4 hln hpn;by_cases h2:n<2
 ·have h2i:(n:Int)<2:=by omega
  obtain⟨XB,hXB⟩:∃Y,X0.arr=Y:=⟨_,rfl⟩;have HYz:Hid (XB.size=6):=by show _=_;rw[←hXB];rfl
  have HYn:Hid (XB.all (·.oneCell')=true):=by show _=_;rw[←hXB];simp[Sta.arr,Value.oneCell']
  have HYb:Hid (w4.heap[xb]?=some (.cells XB 42 (0,0))):=by show _=_;rw[←hXB];exact HX.out _ _ HP0.out
  have HLx:=hide (Z.loadAt_row (P:=Tryz.prog) (ty:=42) HYb.out Tryz.underlying42 rfl (by rw[HYz.out];exact Tryz.sizeS));have HZe:=hide (HZw.out _ HP0.out.mt);have HXB:=hide hXB;clear hXB
  go_wp2_with (
    first
    | ((with_reducible show wpList _ _ _ (⟨_,.load 42 (.tmp 5),_,_,_,_⟩ :: _) _ _);refine Z.lp_load xb 0 XB rfl HLx.out ?_)
    | ((with_reducible show wpList _ _ _ (⟨_,.store 42 (.tmp 4) _,_,_,_,_⟩ :: _) _ _);refine Z.lp_store (t:=42) (x:=.tmp 4) (some ⟨(w.heap.size+1+1),0,none⟩) (.agg XB) rfl rfl (Z.storeAt_row HZe.out (by rw[HYz.out];exact Tryz.sizeS) (by rw[HYz.out];rfl) HYn.out) ?_)
    | fail)
  refine bodyPost_ret (results_cell_row rfl _ _ (w.heap.size+1+1) 42 XB (0,0) _ rfl (setRow_heap _ _ _ _ _ _ HZe.out) Tryz.underlying42 rfl (by rw[HYz.out];exact Tryz.sizeS)) rfl ?_;exact⟨X0,by rw[HXB.out],(HP0.out.ow.far (fun g C t hg ht=>setRow_other _ _ _ _ (by rintro rfl;rw[HZe.out]at hg;cases hg;exact not_mut rfl ht))).ok,by rw[HU.out];exact HP0.out.sp,below_setRow (HBw.out _ HP0.out.mt) (by omega) _⟩
 ·have h2i:¬(n:Int)<2:=by omega
  obtain⟨t,ht⟩:∃t:Nat,((u:Int)+1) % (n:Int)=(t:Int):=⟨(((u:Int)+1) % (n:Int)).toNat,by have:=Int.emod_nonneg ((u:Int)+1) (show (n:Int)≠0 by omega);omega⟩;have htn:(t:Int)<(n:Int):=by rw[←ht];exact Int.emod_lt_of_pos _ (by omega)
  have hne:(u:Int)≠(t:Int):=by
   rw[←ht];by_cases e:(u:Int)+1=n
   ·rw[e,Int.emod_self];omega
   ·rw[Int.emod_eq_of_lt (by omega) (by omega)];omega
  have HNe:=hide hne;have a0':=HA0.out _ HP0.out.mt;have u0:(0:Int)≤(u:Int):=by omega
  have n0:(0:Int)<(n:Int):=by omega
  clear hne;go_wp2;clear a0' c0 c1 c2 c3 c4 c5 ht u0 n0;go_loopw [7] (fun iv wr=>∃(i:Nat) (X:Sta),i≤s.pn∧iv=.int .i64 i∧Hid (Sp w2.heap.size w4 wr s X0 X (u:Int))) (fun iv _=>s.pn - (intOf iv).toNat);case atStart=>exact⟨0,X0,Nat.zero_le _,rfl,HP0⟩
  case round =>
   obtain⟨i,X,hi,rfl,HP⟩:=hrel;obtain⟨c0,c1,c2,c3,c4,c5⟩:=ac6 (HX.out _ _ HP.out);have hXp:X.pn=s.pn:=by rw[HP.out.sm.pn];exact HPn.out
   rw[hXp]at c1;by_cases hlt:i<s.pn
   ·have hlti:(i:Int)<(s.pn:Int):=by omega
    have i0:(0:Int)≤(i:Int):=by omega
    go_wp2;clear c0 c1 c2 c3 c4 c5 hXp;go_loopw [8] (fun jv wr=>∃(j:Nat) (X:Sta),j≤2∧jv=.int .i64 j∧Hid (Sp w2.heap.size w4 wr s X0 X (u:Int))) (fun jv _=>2 - (intOf jv).toNat);case atStart=>exact⟨0,X,by omega,rfl,HP⟩
    case round =>
     clear HP;obtain⟨j,X,hj,rfl,HP⟩:=hrel;by_cases hj2:j=2
     ·subst hj2
      go_wp2;go_roundw;case rel=>exact⟨i+1,X,by omega,by go_num,HP⟩
      case measure=>simp[intOf];omega
     ·obtain⟨c0,c1,c2,c3,c4,c5⟩:=ac6 (HX.out _ _ HP.out)
      have hXp:X.pn=s.pn:=by rw[HP.out.sm.pn];exact HPn.out
      have hxb0:=HX.out _ _ HP.out;obtain⟨p,hp⟩:∃p,X.pools[i]?=some p:=⟨_,List.getElem?_eq_getElem (by rw[HP.out.ow.pn];omega)⟩
      have hhl:p.hl=n:=by
       have h1:=HP.out.sm.hl i;rw[hp]at h1
       obtain⟨q,hq⟩:∃q,X0.pools[i]?=some q:=by
        cases e:X0.pools[i]? with
        | none=>rw[e]at h1;cases h1
        | some q=>exact⟨q,rfl⟩
       rw[hq]at h1;have h2:p.hl=q.hl:=by simpa using h1
       rw[h2];exact HHl.out q (List.mem_of_getElem? hq)
      obtain⟨l,hl⟩:∃l,p.hs[t]?=some l:=⟨_,List.getElem?_eq_getElem (by rw[HP.out.ow.hlen p (List.mem_of_getElem? hp),hhl];omega)⟩;obtain⟨g,eg,hgB,⟨C,hC⟩,hf,hcl,-⟩:=HP.out.ow.setP hp;obtain⟨gh,egh,hghB,⟨Ch,hCh⟩,hfh,hch,hsth⟩:=HP.out.ow.setH hp hl;have ne1:¬g=xb:=by rintro rfl;rw[hC]at hxb0;cases hxb0
      have ne2:¬gh=xb:=by rintro rfl;rw[hCh]at hxb0;cases hxb0
      have ne3:¬gh=g:=by rintro rfl;rw[hC]at hCh;cases hCh
      rw[hXp,eg]at c1;have b3:=hcl 3 _ rfl;rw[egh,hhl]at b3;have t0:(0:Int)≤(t:Int):=by omega
      have hlti':=hlti;have HPm:=hide (And.intro hp hl);have HEg:=hide eg;have HEgh:=hide egh;have HHp:=hide hhl;have HCc:=hide (And.intro hC hCh);have hj01:j=0∨j=1:=by omega
      rcases hj01 with rfl | rfl
      ·obtain⟨xv,hxv⟩:∃v,l.c=v:=⟨_,rfl⟩
       obtain⟨fv,hfv⟩:∃v,p.f0=v:=⟨_,rfl⟩;have q0:=hch 0 _ rfl;have qz:=hfh (t*2+0);have f0:=hcl 1 _ rfl;have fz:=hf (i*4+1);rw[hxv]at q0;rw[hfv]at f0;obtain⟨m,hm⟩:∃m,wrap64 (18014398509481984 - fv)=m:=⟨_,rfl⟩;have hmu:IntKind.i64.wrap (18014398509481984 - fv)=m:=by rw[←hm];exact wrap_i64 _
       obtain⟨v1,hv1⟩:∃v,wrap64 (xv+fv)=v:=⟨_,rfl⟩;have hvu:IntKind.i64.wrap (xv+fv)=v1:=by rw[←hv1];exact wrap_i64 _
       have HS1:=hide (hsth 0 ⟨v1,l.n⟩ (.int .i64 v1) (by omega) rfl);have HPd:=hide HP.out.drew;clear hcl hch hf hfh hsth hC hCh hp hl eg egh hhl hm hv1 hxv hfv hxb0 hXp;rw[Nat.add_zero]at q0 qz HS1;by_cases hle:xv≤m
       ·have hle':=hle
        go_upto_region 11 with (fail);refine wp_region_noPanic ?_;refine wp_region_held_drew (S:=(fun w'=>w'.cell? ⟨xb,1,none⟩=some (.slice (some ⟨g,0,none⟩) s.pn X.pc)∧w'.cell? ⟨g,i*4+3,none⟩=some (.slice (some ⟨gh,0,none⟩) n p.hc)∧w'.cell? ⟨gh,t*2,none⟩=some (.int .i64 xv)∧w'.cell? ⟨g,i*4+1,none⟩=some (.int .i64 fv))) (by kernel_rfl) (by go_keep) (fun hHeld=>?_);refine tkg 0 ?_;refine tkg 1 ?_;refine tkg 2 ?_;refine tkg 3 ?_;refine tkg 4 ?_;refine tkg 5 ?_;refine tkg 6 ?_;refine tkg 7 ?_;refine tkg 8 ?_;refine tkg 9 ?_;refine tkg 10 ?_;refine tkg 11 ?_;refine tkg 12 ?_;refine tkg 13 ?_;refine tkg 14 ?_;refine tkg 15 ?_;refine tkg 16 ?_;refine tkg 17 ?_;refine tkg 18 ?_;refine tkg 19 ?_;refine tkg 20 ?_;try simp only[Act.put,qzg,qzh,qzi,qzs,qz0,qz1]
        refine wpAnyH_done (by kernel_rfl) (NoPanic.normal ?_) _;go_upto_region 12 with (fail);obtain⟨w6,hw6⟩:∃W,wr.drew=W:=⟨_,rfl⟩;have hd1:wr.drew.cell? ⟨xb,1,none⟩=some (.slice (some ⟨g,0,none⟩) s.pn X.pc):=c1;have hd2:wr.drew.cell? ⟨g,i*4+3,none⟩=some (.slice (some ⟨gh,0,none⟩) n p.hc):=b3;have hd3:wr.drew.cell? ⟨gh,t*2,none⟩=some (.int .i64 xv):=q0;have hd4:wr.drew.cell? ⟨g,i*4+1,none⟩=some (.int .i64 fv):=f0;have hd5:wr.drew.frozen? ⟨gh,t*2,none⟩=false:=qz;have hd6:wr.drew.frozen? ⟨g,i*4+1,none⟩=false:=fz;have HS2:Hid (StaOw w2.heap.size (wr.drew.setCell ⟨gh,t*2,none⟩ (.int .i64 v1)).drew (X.upP i { p with hs:=p.hs.set t ⟨v1,l.n⟩ })):=HS1.out.below ⟨rfl,rfl,rfl,Nat.le_refl _,fun _ _=>rfl⟩;have HM2:Hid (Mut w2.heap.size w4 (wr.drew.setCell ⟨gh,t*2,none⟩ (.int .i64 v1)).drew):=((HP.out.mt.drew).set HCc.out.2 (Or.inr (Or.inl rfl)) hghB _ _).drew;clear c0 c1 c2 c3 c4 c5 b3 q0 f0 qz fz hle hle' hmu;obtain⟨w6,hw6⟩:∃W,wr.drew=W:=⟨_,rfl⟩;rw[hw6]at hd1 hd2 hd3 hd4 hd5 hd6 HS2 HM2 ⊢;clear hw6;refine wp_region_noPanic ?_;refine wp_region_held_drew (S:=(fun w'=>w'.cell? ⟨xb,1,none⟩=some (.slice (some ⟨g,0,none⟩) s.pn X.pc)∧w'.cell? ⟨g,i*4+3,none⟩=some (.slice (some ⟨gh,0,none⟩) n p.hc)∧w'.cell? ⟨g,i*4+1,none⟩=some (.int .i64 fv))) (by kernel_rfl) (by go_keep) (fun hHeld=>?_);refine tkg 0 ?_;refine tkg 1 ?_;refine tkg 2 ?_;refine tkg 3 ?_;refine tkg 4 ?_;refine tkg 5 ?_;refine tkg 6 ?_;refine tkg 7 ?_;refine tkg 8 ?_;refine tkg 9 ?_;refine tkg 10 ?_;refine tkg 11 ?_;refine tkg 12 ?_;refine tkg 13 ?_;refine tkg 14 ?_;refine tkg 15 ?_;refine tkg 16 ?_;refine tkg 17 ?_;refine tkg 19 ?_;refine tkg 20 ?_;refine tkg 21 ?_;refine tkg 22 ?_;refine tkg 23 ?_;refine tkg 24 ?_;refine tkg 25 ?_;refine tkg 26 ?_;refine tkg 28 ?_;refine rdy 18 (fun KK hKK=>?_);go_simp;refine hKK.out _ _ (by(try dsimp only);go_keep) (fun hHeld=>?_);clear hKK KK;try simp only[Act.put,qzg,qzh,qzi,qzs,qz0,qz1]
        refine tkg 27 ?_;refine tkg 29 ?_;refine rdy 30 (fun KK hKK=>?_);go_simp;refine hKK.out _ _ (by(try dsimp only);go_keep) (fun hHeld=>?_);clear hKK KK;try simp only[Act.put,qzg,qzh,qzi,qzs,qz0,qz1]
        try simp only[Act.put,qzg,qzh,qzi,qzs,qz0,qz1]
        refine wpAnyH_done (by kernel_rfl) (NoPanic.normal ?_) _;go_upto_region 13 with (fail);obtain⟨w7,hw7⟩:∃W,(w6.setCell ⟨gh,t*2,none⟩ (.int .i64 v1)).drew=W:=⟨_,rfl⟩;rw[hw7]at HS2 HM2 ⊢;clear hw7 hd1 hd2 hd3 hd4 hd5 hd6 hvu;have hP1:(X.upP i { p with hs:=p.hs.set t ⟨v1,l.n⟩ }).pools[i]?=some { p with hs:=p.hs.set t ⟨v1,l.n⟩ }:=List.getElem?_set_self (List.getElem?_eq_some_iff.1 HPm.out.1).1;obtain⟨g2,eg2,hg2B,⟨C2,hC2⟩,hf2,hc2,hst2⟩:=HS2.out.setP hP1;obtain rfl:g=g2:=by have h1:X.pp=some ⟨g2,0,none⟩:=eg2;rw[HEg.out]at h1;cases h1;rfl
        have HS3:=hide (hst2 1 { { p with hs:=p.hs.set t ⟨v1,l.n⟩ } with f0:=0 } (.int .i64 0) (by omega) rfl rfl rfl rfl rfl);have HM3:=hide (HM2.out.set hC2 (Or.inl rfl) hg2B (i*4+1) (.int .i64 0));have HSm:Hid (Same X0 (X.upP i { p with hs:=p.hs.set t ⟨v1,l.n⟩ })):=HP.out.sm.trans (Same.up HPm.out.1 rfl);have HSp1:Hid (Spd s (X.upP i { p with hs:=p.hs.set t ⟨v1,l.n⟩ }) (u:Int)):=HP.out.sp.up HPm.out.1 (pair_set HNe.out);have HP3:Hid (Sp w2.heap.size w4 (w7.setCell ⟨g,i*4+1,none⟩ (.int .i64 0)) s X0 ((X.upP i { p with hs:=p.hs.set t ⟨v1,l.n⟩ }).upP i { { p with hs:=p.hs.set t ⟨v1,l.n⟩ } with f0:=0 }) (u:Int)):=⟨HM3.out,HS3.out,HSm.out.trans (Same.up hP1 rfl),HSp1.out.up hP1 rfl⟩;have hx7:w7.heap[xb]?=some (.cells (X.upP i { p with hs:=p.hs.set t ⟨v1,l.n⟩ }).arr 42 (0,0)):=HX.out _ _ ⟨HM2.out,HS2.out,HSm.out,HSp1.out⟩;obtain⟨c0,c1,c2,c3,c4,c5⟩:=ac6 hx7;have c1':w7.cell? ⟨xb,1,none⟩=some (.slice (some ⟨g,0,none⟩) s.pn X.pc):=by have h1:X.pn=s.pn:=(by rw[HP.out.sm.pn];exact HPn.out);rw[←h1,←HEg.out];exact c1
        have f0:=hc2 1 _ rfl;have fz:=hf2 (i*4+1);clear c0 c1 c2 c3 c4 c5 hx7 hc2 hf2 hst2 hC2 eg2 HS2 HM2 HS3 HM3 HSm HSp1 hP1;go_wp2;go_roundw;case rel=>exact⟨1,_,by omega,by go_num,HP3⟩
        case measure=>simp[intOf]
       ·have hle':=hle
        go_upto_region 11 with (fail);refine wp_region_noPanic ?_;refine wp_region_held_drew (S:=(fun w'=>w'.cell? ⟨xb,1,none⟩=some (.slice (some ⟨g,0,none⟩) s.pn X.pc)∧w'.cell? ⟨g,i*4+3,none⟩=some (.slice (some ⟨gh,0,none⟩) n p.hc)∧w'.cell? ⟨gh,t*2,none⟩=some (.int .i64 xv)∧w'.cell? ⟨g,i*4+1,none⟩=some (.int .i64 fv))) (by kernel_rfl) (by go_keep) (fun hHeld=>?_);refine tkg 0 ?_;refine tkg 1 ?_;refine tkg 2 ?_;refine tkg 3 ?_;refine tkg 4 ?_;refine tkg 5 ?_;refine tkg 6 ?_;refine tkg 7 ?_;refine tkg 8 ?_;refine tkg 9 ?_;refine tkg 10 ?_;refine tkg 11 ?_;refine tkg 12 ?_;refine tkg 13 ?_;refine tkg 14 ?_;refine tkg 15 ?_;refine tkg 16 ?_;refine tkg 17 ?_;refine tkg 18 ?_;refine tkg 19 ?_;refine tkg 20 ?_;try simp only[Act.put,qzg,qzh,qzi,qzs,qz0,qz1]
        refine wpAnyH_done (by kernel_rfl) (NoPanic.normal ?_) _;go_wp2;go_roundw;case rel=>exact⟨1,X,by omega,by go_num,HPd⟩
        case measure=>simp[intOf]
      ·obtain⟨xv,hxv⟩:∃v,l.n=v:=⟨_,rfl⟩
       obtain⟨fv,hfv⟩:∃v,p.f1=v:=⟨_,rfl⟩;have q0:=hch 1 _ rfl;have qz:=hfh (t*2+1);have f0:=hcl 2 _ rfl;have fz:=hf (i*4+2);rw[hxv]at q0;rw[hfv]at f0;obtain⟨m,hm⟩:∃m,wrap64 (18014398509481984 - fv)=m:=⟨_,rfl⟩;have hmu:IntKind.i64.wrap (18014398509481984 - fv)=m:=by rw[←hm];exact wrap_i64 _
       obtain⟨v1,hv1⟩:∃v,wrap64 (xv+fv)=v:=⟨_,rfl⟩;have hvu:IntKind.i64.wrap (xv+fv)=v1:=by rw[←hv1];exact wrap_i64 _
       have HS1:=hide (hsth 1 ⟨l.c,v1⟩ (.int .i64 v1) (by omega) rfl);have HPd:=hide HP.out.drew;clear hcl hch hf hfh hsth hC hCh hp hl eg egh hhl hm hv1 hxv hfv hxb0 hXp;by_cases hle:xv≤m
       ·have hle':=hle
        go_upto_region 11 with (fail);refine wp_region_noPanic ?_;refine wp_region_held_drew (S:=(fun w'=>w'.cell? ⟨xb,1,none⟩=some (.slice (some ⟨g,0,none⟩) s.pn X.pc)∧w'.cell? ⟨g,i*4+3,none⟩=some (.slice (some ⟨gh,0,none⟩) n p.hc)∧w'.cell? ⟨gh,t*2+1,none⟩=some (.int .i64 xv)∧w'.cell? ⟨g,i*4+2,none⟩=some (.int .i64 fv))) (by kernel_rfl) (by go_keep) (fun hHeld=>?_);refine tkg 0 ?_;refine tkg 1 ?_;refine tkg 2 ?_;refine tkg 3 ?_;refine tkg 4 ?_;refine tkg 5 ?_;refine tkg 6 ?_;refine tkg 7 ?_;refine tkg 8 ?_;refine tkg 9 ?_;refine tkg 10 ?_;refine tkg 11 ?_;refine tkg 12 ?_;refine tkg 13 ?_;refine tkg 14 ?_;refine tkg 15 ?_;refine tkg 16 ?_;refine tkg 17 ?_;refine tkg 18 ?_;refine tkg 19 ?_;refine tkg 20 ?_;try simp only[Act.put,qzg,qzh,qzi,qzs,qz0,qz1]
        refine wpAnyH_done (by kernel_rfl) (NoPanic.normal ?_) _;go_upto_region 12 with (fail);obtain⟨w6,hw6⟩:∃W,wr.drew=W:=⟨_,rfl⟩;have hd1:wr.drew.cell? ⟨xb,1,none⟩=some (.slice (some ⟨g,0,none⟩) s.pn X.pc):=c1;have hd2:wr.drew.cell? ⟨g,i*4+3,none⟩=some (.slice (some ⟨gh,0,none⟩) n p.hc):=b3;have hd3:wr.drew.cell? ⟨gh,t*2+1,none⟩=some (.int .i64 xv):=q0;have hd4:wr.drew.cell? ⟨g,i*4+2,none⟩=some (.int .i64 fv):=f0;have hd5:wr.drew.frozen? ⟨gh,t*2+1,none⟩=false:=qz;have hd6:wr.drew.frozen? ⟨g,i*4+2,none⟩=false:=fz;have HS2:Hid (StaOw w2.heap.size (wr.drew.setCell ⟨gh,t*2+1,none⟩ (.int .i64 v1)).drew (X.upP i { p with hs:=p.hs.set t ⟨l.c,v1⟩ })):=HS1.out.below ⟨rfl,rfl,rfl,Nat.le_refl _,fun _ _=>rfl⟩;have HM2:Hid (Mut w2.heap.size w4 (wr.drew.setCell ⟨gh,t*2+1,none⟩ (.int .i64 v1)).drew):=((HP.out.mt.drew).set HCc.out.2 (Or.inr (Or.inl rfl)) hghB _ _).drew;clear c0 c1 c2 c3 c4 c5 b3 q0 f0 qz fz hle hle' hmu;obtain⟨w6,hw6⟩:∃W,wr.drew=W:=⟨_,rfl⟩;rw[hw6]at hd1 hd2 hd3 hd4 hd5 hd6 HS2 HM2 ⊢;clear hw6;refine wp_region_noPanic ?_;refine wp_region_held_drew (S:=(fun w'=>w'.cell? ⟨xb,1,none⟩=some (.slice (some ⟨g,0,none⟩) s.pn X.pc)∧w'.cell? ⟨g,i*4+3,none⟩=some (.slice (some ⟨gh,0,none⟩) n p.hc)∧w'.cell? ⟨g,i*4+2,none⟩=some (.int .i64 fv))) (by kernel_rfl) (by go_keep) (fun hHeld=>?_);refine tkg 0 ?_;refine tkg 1 ?_;refine tkg 2 ?_;refine tkg 3 ?_;refine tkg 4 ?_;refine tkg 5 ?_;refine tkg 6 ?_;refine tkg 7 ?_;refine tkg 8 ?_;refine tkg 9 ?_;refine tkg 10 ?_;refine tkg 11 ?_;refine tkg 12 ?_;refine tkg 13 ?_;refine tkg 14 ?_;refine tkg 15 ?_;refine tkg 16 ?_;refine tkg 17 ?_;refine tkg 19 ?_;refine tkg 20 ?_;refine tkg 21 ?_;refine tkg 22 ?_;refine tkg 23 ?_;refine tkg 24 ?_;refine tkg 25 ?_;refine tkg 26 ?_;refine tkg 28 ?_;refine rdy 18 (fun KK hKK=>?_);go_simp;refine hKK.out _ _ (by(try dsimp only);go_keep) (fun hHeld=>?_);clear hKK KK;try simp only[Act.put,qzg,qzh,qzi,qzs,qz0,qz1]
        refine tkg 27 ?_;refine tkg 29 ?_;refine rdy 30 (fun KK hKK=>?_);go_simp;refine hKK.out _ _ (by(try dsimp only);go_keep) (fun hHeld=>?_);clear hKK KK;try simp only[Act.put,qzg,qzh,qzi,qzs,qz0,qz1]
        try simp only[Act.put,qzg,qzh,qzi,qzs,qz0,qz1]
        refine wpAnyH_done (by kernel_rfl) (NoPanic.normal ?_) _;go_upto_region 13 with (fail);obtain⟨w7,hw7⟩:∃W,(w6.setCell ⟨gh,t*2+1,none⟩ (.int .i64 v1)).drew=W:=⟨_,rfl⟩;rw[hw7]at HS2 HM2 ⊢;clear hw7 hd1 hd2 hd3 hd4 hd5 hd6 hvu;have hP1:(X.upP i { p with hs:=p.hs.set t ⟨l.c,v1⟩ }).pools[i]?=some { p with hs:=p.hs.set t ⟨l.c,v1⟩ }:=List.getElem?_set_self (List.getElem?_eq_some_iff.1 HPm.out.1).1;obtain⟨g2,eg2,hg2B,⟨C2,hC2⟩,hf2,hc2,hst2⟩:=HS2.out.setP hP1;obtain rfl:g=g2:=by have h1:X.pp=some ⟨g2,0,none⟩:=eg2;rw[HEg.out]at h1;cases h1;rfl
        have HS3:=hide (hst2 2 { { p with hs:=p.hs.set t ⟨l.c,v1⟩ } with f1:=0 } (.int .i64 0) (by omega) rfl rfl rfl rfl rfl);have HM3:=hide (HM2.out.set hC2 (Or.inl rfl) hg2B (i*4+2) (.int .i64 0));have HSm:Hid (Same X0 (X.upP i { p with hs:=p.hs.set t ⟨l.c,v1⟩ })):=HP.out.sm.trans (Same.up HPm.out.1 rfl);have HSp1:Hid (Spd s (X.upP i { p with hs:=p.hs.set t ⟨l.c,v1⟩ }) (u:Int)):=HP.out.sp.up HPm.out.1 (pair_set HNe.out);have HP3:Hid (Sp w2.heap.size w4 (w7.setCell ⟨g,i*4+2,none⟩ (.int .i64 0)) s X0 ((X.upP i { p with hs:=p.hs.set t ⟨l.c,v1⟩ }).upP i { { p with hs:=p.hs.set t ⟨l.c,v1⟩ } with f1:=0 }) (u:Int)):=⟨HM3.out,HS3.out,HSm.out.trans (Same.up hP1 rfl),HSp1.out.up hP1 rfl⟩;have hx7:w7.heap[xb]?=some (.cells (X.upP i { p with hs:=p.hs.set t ⟨l.c,v1⟩ }).arr 42 (0,0)):=HX.out _ _ ⟨HM2.out,HS2.out,HSm.out,HSp1.out⟩;obtain⟨c0,c1,c2,c3,c4,c5⟩:=ac6 hx7;have c1':w7.cell? ⟨xb,1,none⟩=some (.slice (some ⟨g,0,none⟩) s.pn X.pc):=by have h1:X.pn=s.pn:=(by rw[HP.out.sm.pn];exact HPn.out);rw[←h1,←HEg.out];exact c1
        have f0:=hc2 2 _ rfl;have fz:=hf2 (i*4+2);clear c0 c1 c2 c3 c4 c5 hx7 hc2 hf2 hst2 hC2 eg2 HS2 HM2 HS3 HM3 HSm HSp1 hP1;go_wp2;go_roundw;case rel=>exact⟨2,_,by omega,by go_num,HP3⟩
        case measure=>simp[intOf]
       ·have hle':=hle
        go_upto_region 11 with (fail);refine wp_region_noPanic ?_;refine wp_region_held_drew (S:=(fun w'=>w'.cell? ⟨xb,1,none⟩=some (.slice (some ⟨g,0,none⟩) s.pn X.pc)∧w'.cell? ⟨g,i*4+3,none⟩=some (.slice (some ⟨gh,0,none⟩) n p.hc)∧w'.cell? ⟨gh,t*2+1,none⟩=some (.int .i64 xv)∧w'.cell? ⟨g,i*4+2,none⟩=some (.int .i64 fv))) (by kernel_rfl) (by go_keep) (fun hHeld=>?_);refine tkg 0 ?_;refine tkg 1 ?_;refine tkg 2 ?_;refine tkg 3 ?_;refine tkg 4 ?_;refine tkg 5 ?_;refine tkg 6 ?_;refine tkg 7 ?_;refine tkg 8 ?_;refine tkg 9 ?_;refine tkg 10 ?_;refine tkg 11 ?_;refine tkg 12 ?_;refine tkg 13 ?_;refine tkg 14 ?_;refine tkg 15 ?_;refine tkg 16 ?_;refine tkg 17 ?_;refine tkg 18 ?_;refine tkg 19 ?_;refine tkg 20 ?_;try simp only[Act.put,qzg,qzh,qzi,qzs,qz0,qz1]
        refine wpAnyH_done (by kernel_rfl) (NoPanic.normal ?_) _;go_wp2;go_roundw;case rel=>exact⟨2,X,by omega,by go_num,HPd⟩
        case measure=>simp[intOf]
   ·have hlti:¬(i:Int)<(s.pn:Int):=by omega
    go_upto_region 14 with (fail);clear c0 c1 c2 c3 c4 c5;obtain⟨XB,hXB⟩:∃Y,X.arr=Y:=⟨_,rfl⟩;have HYz:Hid (XB.size=6):=by show _=_;rw[←hXB];rfl
    have HYn:Hid (XB.all (·.oneCell')=true):=by show _=_;rw[←hXB];simp[Sta.arr,Value.oneCell']
    have HYb:Hid (wr.heap[xb]?=some (.cells XB 42 (0,0))):=by show _=_;rw[←hXB];exact HX.out _ _ HP.out
    have HLx:=hide (Z.loadAt_row (P:=Tryz.prog) (ty:=42) HYb.out Tryz.underlying42 rfl (by rw[HYz.out];exact Tryz.sizeS));have HZe:=hide (HZw.out _ HP.out.mt);have HXB:=hide hXB;clear hXB
    go_wp2_with (
      first
      | ((with_reducible show wpList _ _ _ (⟨_,.load 42 (.tmp 5),_,_,_,_⟩ :: _) _ _);refine Z.lp_load xb 0 XB rfl HLx.out ?_)
      | ((with_reducible show wpList _ _ _ (⟨_,.store 42 (.tmp 4) _,_,_,_,_⟩ :: _) _ _);refine Z.lp_store (t:=42) (x:=.tmp 4) (some ⟨(w.heap.size+1+1),0,none⟩) (.agg XB) rfl rfl (Z.storeAt_row HZe.out (by rw[HYz.out];exact Tryz.sizeS) (by rw[HYz.out];rfl) HYn.out) ?_)
      | fail)
    refine bodyPost_ret (results_cell_row rfl _ _ (w.heap.size+1+1) 42 XB (0,0) _ rfl (setRow_heap _ _ _ _ _ _ HZe.out) Tryz.underlying42 rfl (by rw[HYz.out];exact Tryz.sizeS)) rfl ?_;exact⟨X,by rw[HXB.out],(HP.out.ow.far (fun g C t hg ht=>setRow_other _ _ _ _ (by rintro rfl;rw[HZe.out]at hg;cases hg;exact not_mut rfl ht))).ok,by rw[HU.out];exact HP.out.sp,below_setRow (HBw.out _ HP.out.mt) (by omega) _⟩
end Go.Proofs.YtiogibfhafoapaaGreat
