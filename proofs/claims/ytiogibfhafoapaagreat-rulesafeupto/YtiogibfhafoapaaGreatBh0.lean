import Derived.Test.YtiogibfhafoapaaGreatAbZ
import Derived.Test.YtiogibfhafoapaaGreatOnD
import Derived.Test.YtiogibfhafoapaaGreatMv0
import Derived.Test.YtiogibfhafoapaaGreatCfB
import Derived.Test.YtiogibfhafoapaaGreatRtC
import Derived.Test.YtiogibfhafoapaaGreatFoF
import Derived.Test.YtiogibfhafoapaaGreatDcI
import Derived.Test.YtiogibfhafoapaaGreatRwK
set_option maxRecDepth 100000
set_option maxHeartbeats 8000000
set_option linter.unusedSimpArgs false
set_option linter.unusedVariables false
namespace Go.Proofs.YtiogibfhafoapaaGreat
open Go.RowKit
open Z (Sli QaE Acd Qad Eda QaP AcOwn Ctr ctc)
def Qd4 (l:List Pl):Prop:=∀p∈l,Qaw (frL p)
theorem Qi5 {P:Pl} (h:Qaw (frL P)) (t:Nat) (w n:Int):Qaw (frL (P.shift t w n)):=by
 unfold Pl.shift frL at *;split
 ·exact⟨QbI _,h.2⟩
 ·exact⟨h.1,QbI _⟩
theorem Qj5 {P:Pl} (h:Qaw (frL P)) (n:Int) (b:Bool) (t:Nat):Qaw (frL (P.line n b t)):=by
 unfold Pl.line frL at *;split <;> split
 ·exact⟨h.1,QbI _⟩
 ·exact⟨QbI _,QbI _⟩
 ·exact⟨QbI _,h.2⟩
 ·exact⟨QbI _,QbI _⟩
theorem QgY {l:List Pl} (h:Qd4 l) (k:Nat):Qaw (frL (l.getD k pl0)):=by
 rw[Vu]
 cases h1:l[k]? with
 | none=>exact⟨rfl,rfl⟩
 | some P=>exact h P (mG h1)
theorem QkN {s:Sta} (h:Qd4 s.pools) (k:Nat) {P:Pl} (hP:Qaw (frL P)):Qd4 (s.upP k P).pools:=fun p hp=>by
 rcases Qdu hp with h1 | rfl
 ·exact h p h1
 ·exact hP
theorem QhQ {s:Sta} (h:Qd4 s.pools) (x:Lin) (b:Bool) (t:Nat):Qd4 (s.lineAt x b t).pools:=QkN h _ (Qj5 (QgY h _) _ _ _)
theorem QbK {s:Sta} (h:Qd4 s.pools) (t:Nat) (c w n:Int):Qd4 (s.shiftAt t c w n).pools:=QkN h _ (Qi5 (QgY h _) _ _ _)
theorem QfD (b:Bool) (t:Nat):∀(xs:List Lin) (s:Sta),Qd4 s.pools→Qd4 (xs.foldl (fun s x=>s.lineAt x b t) s).pools
 | [],_,h=>h
 | _ :: xs,_,h=>QfD b t xs _ (QhQ h _ b t)
theorem Qgz:∀(xs:List Tri) (s:Sta),Qd4 s.pools→Qd4 (xs.foldl Sta.setPr s).pools
 | [],_,h=>h
 | _ :: xs,_,h=>Qgz xs _ h
theorem Qet (t:Nat):∀(xs:List Tri) (s:Sta),Qd4 s.pools→Qd4 (xs.foldl (fun s x=>s.shiftAt t x.a x.b (wrap64 (-x.n))) s).pools
 | [],_,h=>h
 | _ :: xs,_,h=>Qet t xs _ (QbK h t _ _ _)
theorem Qlu {s:Sta} (h:Qd4 s.pools) (e:Eda):Qd4 (QcA s e).pools:=by
 unfold QcA;simp only;have h2:=Qgz e.sets.xs _ (QfD e.ac.sure e.ac.till.toNat e.made.xs s h)
 have h3:Qd4 (if e.oc=4 then (e.sets.xs.foldl Sta.setPr (e.made.xs.foldl (fun s x=>s.lineAt x e.ac.sure e.ac.till.toNat) s)).shiftAt e.ac.till.toNat e.ac.ra e.ac.rb e.n else (e.sets.xs.foldl Sta.setPr (e.made.xs.foldl (fun s x=>s.lineAt x e.ac.sure e.ac.till.toNat) s))).pools:=by
  split
  ·exact QbK h2 _ _ _ _
  ·exact h2
 split
 ·exact h3
 ·split
  ·exact QbK h3 _ _ _ _
  ·split
   ·exact QbK (QbK h3 _ _ _ _) _ _ _ _
   ·split
    ·exact Qet _ _ _ h3
    ·exact h3
theorem frw_d {s r:Sta} (h:Qd4 s.pools) (hd:r.d=s.d):Qd4 r.pools:=fun p hp=>by
 have h1:r.pools.map Pl.d=s.pools.map Pl.d:=by have h2:=Vl StP.pools hd;exact h2
 have h2:p.d∈s.pools.map Pl.d:=by rw[←h1];exact List.mem_map.2 ⟨p,hp,rfl⟩
 obtain⟨q,hq,e⟩:=List.mem_map.1 h2;have e1:q.f0=p.f0:=Vl PlP.f0 e;have e2:q.f1=p.f1:=Vl PlP.f1 e;have h3:=h q hq;unfold frL at *;rw[←e1,←e2];exact h3
theorem QcI {s r0:Sta} (h:Qd4 s.pools) (hd:r0.d=s.d) (e:Eda):Qd4 (Qdj r0 e).pools:=by
 have h0:=frw_d h hd;unfold Qdj;split
 ·exact h0
 ·exact Qlu (s:=(r0.setPos e.po).setLast e.ac.till.toNat e.ac.num) h0 e
theorem Qg9 {n:Int} (h : -9223372036854775808≤n∧n≤9223372036854775807):(Lit.int .i64 n).wf=true:=by
 have h1:=QbI n;rwa [Z.w64_id h]at h1
theorem QiY {c:Cfg} {cs:List Ctr} {w:World} {r:Sta} (hc:Qbp w c cs) (hl:r.pools.length=r.pn) (h:Qdt c cs r):Qd4 r.pools:=fun p hp=>by
 obtain⟨i,hi,e⟩:=List.mem_iff_getElem.1 hp;have h1:=hc.len;have h2:=h.shp.pn;obtain⟨x,hx⟩:∃x,cs[i]?=some x:=⟨_,gE (by omega)⟩;have h3:=h.pools i x p hx (by rw[←e];exact gE hi);have hb:=hc.bnd x (mG hx);have a1:=h3.down.f0;have a2:=h3.down.free;have a3:=h3.up.f0;have a4:=h3.up.free;have v1:=h3.vlo;have v2:=h3.vhi;exact⟨Qg9 (by show _≤p.f0∧p.f0≤_;omega),Qg9 (by show _≤p.f1∧p.f1≤_;omega)⟩
structure StG (w:World) (c:Cfg) (s:Sta):Prop where
 ok:Qae w s
 shp:Shp c s
 wf:Qd4 s.pools
theorem StG.below {w w':World} {c:Cfg} {s:Sta} (h:StG w c s) (hb:Below w.heap.size w w'):StG w' c s:=⟨h.ok.below hb,h.shp,h.wf⟩
structure Bhd (w W:World) (C S O:Array Value):Prop where
 cb:W.heap[w.heap.size]?=some (.cells C 34 (0,0))
 sb:W.heap[w.heap.size+1]?=some (.cells S 42 (0,0))
 ob:W.heap[w.heap.size+1+1]?=some (.cells O 57 (0,0))
 rb:W.heap[w.heap.size+1+1+1]?=some (.cells qs 42 (0,0))
 bel:Below w.heap.size w W
theorem Bhd.below {w W W':World} {C S O:Array Value} (h:Bhd w W C S O) (hb:Below W.heap.size W W'):Bhd w W' C S O :=
 ⟨(hb.block _ (Qab h.cb)).trans h.cb,(hb.block _ (Qab h.sb)).trans h.sb,(hb.block _ (Qab h.ob)).trans h.ob,(hb.block _ (Qab h.rb)).trans h.rb,h.bel.trans (hb.mono h.bel.size)⟩
theorem Bhd.told {w W:World} {C S O:Array Value} (h:Bhd w W C S O) {c:Cfg} {s r:Sta} (hr:StG W c r) (hf:(∃B,Qac B W r)∨(r=s∧Qae w r)) (E:Array Value):(W.setRow (w.heap.size+1+1+1) E).heap[w.heap.size+1+1+1]?=some (.cells E 42 (0,0))∧StG (W.setRow (w.heap.size+1+1+1) E) c r∧((∃B,Qac B (W.setRow (w.heap.size+1+1+1) E) r)∨r=s)∧Below w.heap.size w (W.setRow (w.heap.size+1+1+1) E):=by
 have hb:Below w.heap.size w (W.setRow (w.heap.size+1+1+1) E):=VA h.bel (by omega) E;rcases hf with ⟨B,hf⟩ | ⟨he,hf⟩
 ·have ho:=hf.far (W':=W.setRow (w.heap.size+1+1+1) E) (fun g C t hg ht=>Vz _ _ _ _ (by rintro rfl;rw[h.rb]at hg;cases hg;exact Qay rfl ht))
  exact⟨VB _ _ _ _ _ _ h.rb,⟨ho.ok,hr.shp,hr.wf⟩,Or.inl ⟨B,ho⟩,hb⟩
 ·exact⟨VB _ _ _ _ _ _ h.rb,⟨hf.below hb,hr.shp,hr.wf⟩,Or.inr he,hb⟩
theorem QfX {W:World} {E:Eda} {po til ge:Int} (h:QaP W E) (hd:E.dd=(po,QiT.d,0,[],[],0,til,ge)):∀W':World,QaP W' E:=fun W'=>by
 have h1:E.ac.d=QiT.d:=Vl (fun x=>x.2.1) hd;have h2:E.made.xs=[]:=Vl (fun x=>x.2.2.2.1) hd;have h3:E.sets.xs=[]:=Vl (fun x=>x.2.2.2.2.1) hd;have K:∀{α:Type} {sz:Nat} {f:α→List Value} {s:Sli α},QaE W sz f s→s.xs=[]→QaE W' sz f s:=fun h e=>⟨h.len,h.most,Or.inl (by rw[e];rfl)⟩
 exact⟨⟨K h.ac.lines (Vl Z.AcP.lines h1),K h.ac.guards (Vl Z.AcP.guards h1),K h.ac.sets (Vl Z.AcP.sets h1),K h.ac.other (Vl Z.AcP.other h1),K h.ac.rights (Vl Z.AcP.rights h1)⟩,K h.made h2,K h.sets h3,h.wf⟩
theorem QjR (c:Cfg) (a:Acd):∃V,QcR c a V:=by
 by_cases hK:Qck a
 ·by_cases hH:Qcm c a
  ·by_cases h1:a.kind=1
   ·exact⟨_,⟨fun h=>absurd hK h,fun _ h=>absurd hH h,fun _ _ _=>rfl,fun _ _ h=>absurd h1 h⟩⟩
   ·exact⟨_,⟨fun h=>absurd hK h,fun _ h=>absurd hH h,fun _ _ h=>absurd h h1,fun _ _ _=>rfl⟩⟩
  ·exact⟨_,⟨fun h=>absurd hK h,fun _ _=>rfl,fun _ h=>absurd h hH,fun _ h=>absurd h hH⟩⟩
 ·exact⟨_,⟨fun _=>rfl,fun h=>absurd h hK,fun h=>absurd h hK,fun h=>absurd h hK⟩⟩
end Go.Proofs.YtiogibfhafoapaaGreat
namespace Go.Proofs.YtiogibfhafoapaaGreat
open Go.RowKit
open Z (Sli QaE Acd Qad Eda QaP Ctr)
structure Qdg (cs:List Ctr) (T:Nat) (s:Sta):Prop where
 pls:Qaz cs T s
 pos:s.pos≤1099511627776
 prices:∀q∈s.prices,Qbz q
 tills:∀t:Nat,QdS s t
 gnn:∀g∈s.gen,0≤g
theorem d_at {s r:Sta} (h:r.d=s.d) {k:Nat} {P:Pl} (hP:r.pools[k]?=some P):∃Q,s.pools[k]?=some Q∧Q.d=P.d:=by
 have h1:r.pools.map Pl.d=s.pools.map Pl.d:=Vl StP.pools h;have h2:(r.pools.map Pl.d)[k]?=some P.d:=by rw[Vb,hP];rfl
 rw[h1,Vb]at h2
 cases e:s.pools[k]? with
 | none=>rw[e]at h2;cases h2
 | some Q=>rw[e]at h2;exact⟨Q,rfl,Option.some.inj h2⟩
theorem Ql1 {lo hi:Int} {P Q:Pl} (h:Qa1 lo hi Q) (e:Q.d=P.d):Qa1 lo hi P:=by
 have e1:Q.v=P.v:=Vl PlP.v e;have e2:Q.f0=P.f0:=Vl PlP.f0 e;have e3:Q.f1=P.f1:=Vl PlP.f1 e;have e4:Q.hs=P.hs:=Vl PlP.hs e;exact⟨by rw[←e1];exact h.vlo,by rw[←e1];exact h.vhi,by rw[←e1,←e2,←e4];exact h.down,by rw[←e1,←e3,←e4];exact h.up⟩
theorem Qaz.d {cs:List Ctr} {T:Nat} {s r:Sta} (h:Qaz cs T s) (e:r.d=s.d):Qaz cs T r :=
 ⟨by
  have h1:r.pools.map Pl.d=s.pools.map Pl.d:=Vl StP.pools e;have h2:=Vl List.length h1;rw[VG,VG]at h2;rw[h2];exact h.len,fun i x p hx hp=>by
  obtain⟨Q,hQ,eQ⟩:=d_at e hp;exact Ql1 (h.each i x Q hx hQ) eQ,fun p hp=>by
  obtain⟨i,hi⟩:=List.mem_iff_getElem?.1 hp;obtain⟨Q,hQ,eQ⟩:=d_at e hi;have e4:Q.hs=p.hs:=Vl PlP.hs eQ;rw[←e4];exact h.hl Q (mG hQ),h.bnd⟩
theorem Qdg.d {cs:List Ctr} {T:Nat} {s r:Sta} (h:Qdg cs T s) (e:r.d=s.d):Qdg cs T r:=by
 have e1:r.pos=s.pos:=Vl StP.pos e;have e2:r.prices=s.prices:=Vl StP.prices e;have e3:r.last=s.last:=Vl StP.last e;have e4:r.gen=s.gen:=Vl StP.gen e;have e5:r.owed=s.owed:=Vl StP.owed e;exact⟨h.pls.d e,by rw[e1];exact h.pos,by rw[e2];exact h.prices,fun t l g o h1 h2 h3=>h.tills t l g o (by rw[←e3];exact h1) (by rw[←e4];exact h2) (by rw[←e5];exact h3),by rw[e4];exact h.gnn⟩
theorem Qdg.of {w W:World} {c:Cfg} {cs:List Ctr} {T:Nat} {s:Sta} (hr:Qdt c cs s) (ok:Qae W s) (hc:Qbp w c cs) (hT:c.tills=(T:Int)) (hg:∀g∈s.gen,0≤g):Qdg cs T s :=
 ⟨⟨by rw[ok.pn,hr.shp.pn,hc.len],fun i x p hx hp=>hr.pools i x p hx hp,fun p hp=>by have h1:=(ok.held p hp).len;have h2:=hr.shp.hl p hp;omega,fun x hx=>by have:=hc.bnd x hx;omega⟩,hr.pos,hr.prices,fun t l g o h1 h2 h3=>by
  by_cases h:(t:Int)<c.tills
  ·exact hr.tills t h l g o h1 h2 h3
  ·have:=(Vd.1 h1).1
   have:=ok.ln;have:=hr.shp.ln;omega,hg⟩
theorem Qb9 {s:Sta} {k:Nat} {P:Pl} (hP:s.pools[k]?=some P) {w:Int} (hw:w=0∨w=1) (t:Nat):s.free (k:Int) w=avP P false t w:=by
 have e:=(Qbe (z:=pl0) hP).2;unfold Sta.free avP;rw[e];rcases hw with rfl | rfl <;> simp[Qai]
theorem QcO {s:Sta} {k:Nat} {P:Pl} (hP:s.pools[k]?=some P) {w:Int} (hw:w=0∨w=1) (t:Nat):s.held (t:Int) (k:Int) w=avP P true t w:=by
 have e:=(Qbe (z:=pl0) hP).2;unfold Sta.held avP;rw[e];rcases hw with rfl | rfl <;> simp[Qai,Vu]
theorem QcC {lo hi:Int} {P:Pl} (h:Qa1 lo hi P) (h1 : -9007199254740992≤lo) (h2:hi≤9007199254740992) (b:Bool) {t:Nat} {w:Int} (ht:t<P.hs.length):0≤avP P b t w∧avP P b t w≤18014398509481984:=by
 have hb:=h.b h1 h2;obtain⟨q,hq⟩:∃q,P.hs[t]?=some q:=⟨_,gE ht⟩;have hqb:=hb.hs q (mG hq);obtain⟨f1,f2⟩:=hb.f0;obtain⟨g1,g2⟩:=hb.f1;obtain⟨⟨q1,q2⟩,q3,q4⟩:=hqb;unfold avP;rw[hq];cases b <;> simp <;> split <;> exact⟨by assumption,by assumption⟩
theorem Qb2 {n:Nat} {xs:List Lin} (h:QaK n xs=true):xs.length≤8∧∀x∈xs,(∃k:Nat,x.c=(k:Int)∧k<n)∧-1099511627776≤x.n∧x.n≤1099511627776:=by
 unfold QaK at h;simp only[Vs,List.all_eq_true,decide_eq_true_eq]at h;refine⟨h.1,fun x hx=>?_⟩;have h1:=h.2 x hx;unfold Qcn at h1;simp at h1;obtain⟨⟨⟨h2,_⟩,h3⟩,h4⟩:=h1;exact⟨⟨x.c.toNat,by omega,by omega⟩,by omega,by omega⟩
theorem QkQ {cs:List Ctr} {T:Nat} {s r:Sta} (h:Qaz cs T s) (hr:Qaz cs T r) (e:r.pools.map Pl.d=s.pools.map Pl.d) {t:Nat} (ht:t<T) {xs:List Lin} (hl:QaK cs.length xs=true) (sure:Bool) (hf:(QaD xs).all (fun x=>decide (x.n≤(if sure=true then s.held (t:Int) x.a x.b else s.free x.a x.b)))=true) :
  Qaz cs T (xs.foldl (fun s x=>s.lineAt x sure t) r):=by
 obtain⟨l1,l2⟩:=Qb2 hl;refine QgF sure t ht xs r hr (fun x hx=>?_) (fun k P w hw hP=>?_)
 ·obtain⟨⟨k,e1,e2⟩,e3⟩:=l2 x hx
  exact⟨⟨k,e1,by rw[hr.len];exact e2⟩,e3⟩
 ·have h2:(r.pools.map Pl.d)[k]?=some P.d:=by rw[Vb,hP];rfl
  rw[e,Vb]at h2
  obtain⟨Q,hQ,eQ⟩:∃Q,s.pools[k]?=some Q∧Q.d=P.d:=by
   cases e:s.pools[k]? with
   | none=>rw[e]at h2;cases h2
   | some Q=>rw[e]at h2;exact⟨Q,rfl,Option.some.inj h2⟩
  have e2:Q.f0=P.f0:=Vl PlP.f0 eQ;have e3:Q.f1=P.f1:=Vl PlP.f1 eQ;have e4:Q.hs=P.hs:=Vl PlP.hs eQ;have ea:avP P sure t w=avP Q sure t w:=by unfold avP;rw[e2,e3,e4]
  obtain⟨y,_,hPo,b1,b2,hPl⟩:=h.at hQ
  have hq:(if sure=true then s.held (t:Int) (k:Int) w else s.free (k:Int) w)=avP Q sure t w:=by
   cases sure
   ·exact Qb9 hQ hw t
   ·exact QcO hQ hw t
  rw[ea,←hq];exact QgI (q:=fun a b=>if sure=true then s.held (t:Int) a b else s.free a b) (fun x hx=>(l2 x hx).2) (by omega) hf (k:Int) w (by show 0≤(if sure=true then s.held (t:Int) (k:Int) w else s.free (k:Int) w);rw[hq];exact(QcC hPo b1 b2 sure (by omega)).1)
theorem QjN {n:Nat} {lo hi:Int} {xs:List Tri} (h:QbP n lo hi xs=true):∀x∈xs,0≤x.n∧x.n≤1099511627776:=fun x hx=>by
 unfold QbP at h;simp only[Vs]at h;obtain⟨l,hl⟩:=QdF h.2 x hx;unfold QjA at hl;simp at hl;obtain⟨⟨⟨⟨_,h2⟩,h3⟩,_⟩,_⟩:=hl;omega
theorem Qka {s:Sta} (hp:∀q∈s.prices,Qbz q) {x:Tri} (hx:0≤x.n∧x.n≤1099511627776) (ho:s.isOpen x.a=true):(0≤(s.raise x).n∧(s.raise x).n≤1099511627776)∧0≤(s.raise x).b∧(s.raise x).b≤1099511627776:=by
 unfold Sta.isOpen at ho;rw[Vs,decide_eq_true_eq]at ho
 have hv:0≤(Qai s.prices ⟨0,0⟩ x.a).n:=by
  have h1:=ho.1;unfold Qba at h1;rw[decide_eq_true_eq]at h1;obtain⟨k,hk⟩:∃k:Nat,x.a=(k:Int):=⟨x.a.toNat,by omega⟩;obtain⟨q,hq⟩:∃q,s.prices[k]?=some q:=⟨_,gE (by omega)⟩;rw[hk,(Qbe (z:=(⟨0,0⟩:Lin)) hq).2];exact(hp q (mG hq)).2.1
 refine⟨hx,?_⟩;unfold Sta.raise;simp only;rw[Z.w64_id (by omega)];omega
theorem Qdg.pl {cs:List Ctr} {T:Nat} {r r':Sta} (h:Qdg cs T r) (hp:Qaz cs T r') (e1:r'.pos=r.pos) (e2:∀q∈r'.prices,Qbz q) (e3:r'.last=r.last) (e4:r'.gen=r.gen) (e5:r'.owed=r.owed):Qdg cs T r' :=
 ⟨hp,by rw[e1];exact h.pos,e2,fun t l g o h1 h2 h3=>h.tills t l g o (by rw[←e3];exact h1) (by rw[←e4];exact h2) (by rw[←e5];exact h3),by rw[e4];exact h.gnn⟩
theorem Qgu {s r:Sta} (e:r.pools.map Pl.d=s.pools.map Pl.d) {k:Nat} {P:Pl} (hP:r.pools[k]?=some P):∃Q,s.pools[k]?=some Q∧∀b t w,avP P b t w=avP Q b t w:=by
 have h2:(r.pools.map Pl.d)[k]?=some P.d:=by rw[Vb,hP];rfl
 rw[e,Vb]at h2
 cases e0:s.pools[k]? with
 | none=>rw[e0]at h2;cases h2
 | some Q =>
  rw[e0]at h2;have eQ:Q.d=P.d:=Option.some.inj h2;have e2:Q.f0=P.f0:=Vl PlP.f0 eQ;have e3:Q.f1=P.f1:=Vl PlP.f1 eQ;have e4:Q.hs=P.hs:=Vl PlP.hs eQ;exact⟨Q,rfl,fun b t w=>by unfold avP;rw[e2,e3,e4]⟩
theorem Qg8 {s r:Sta} (e:r.pools.map Pl.d=s.pools.map Pl.d):s.pools.map frL=r.pools.map frL:=by
 have h:∀x:Sta,x.pools.map frL=(x.pools.map Pl.d).map (fun p=>(⟨p.f0,p.f1⟩:Lin)):=fun x=>by rw[List.map_map];rfl
 rw[h s,h r,e]
structure Ef1 (cs:List Ctr) (T:Nat) (r:Sta) (sure:Bool) (t:Nat) (J:Int × List Lin × List Tri × Int):Prop where
 oc:J.1≠4∧J.1≠5
 pls:Qaz cs T (J.2.1.foldl (fun s x=>s.lineAt x sure t) r)
 sets:∀x∈J.2.2.1,(0≤x.n∧x.n≤1099511627776)∧0≤x.b∧x.b≤1099511627776
theorem Qfj {cs:List Ctr} {T:Nat} {r:Sta} (h:Qaz cs T r) (sure:Bool) (t:Nat):Ef1 cs T r sure t (3,[],[],0):=⟨⟨by show (3:Int)≠4;omega,by show (3:Int)≠5;omega⟩,h,fun _ h=>by cases h⟩
theorem ef1 {c:Cfg} {cs:List Ctr} {T:Nat} {s r:Sta} {a:Acd} (hs:Qdg cs T s) (hr:Qaz cs T r) (e:r.pools.map Pl.d=s.pools.map Pl.d) (hcl:cs.length=c.cl) {t:Nat} (ht:t<T) (hat:a.till=(t:Int)) (hk:a.kind=1)
  (l1:QaK c.cl a.lines.xs=true) (l3:∃lo hi,QbP c.pl lo hi a.sets.xs=true) (l4:Qce c.cl a=true):Ef1 cs T r a.sure t (Qaf s a):=by
 obtain⟨lo,hi,l3⟩:=l3
 have hset:∀xs:List Tri,(∀x∈xs,x∈a.sets.xs∧s.isOpen x.a=true)→∀x∈xs.map s.raise,(0≤x.n∧x.n≤1099511627776)∧0≤x.b∧x.b≤1099511627776:=fun xs hx y hy=>by
  obtain⟨x,hxm,rfl⟩:=List.mem_map.1 hy;exact Qka hs.prices (QjN l3 x (hx x hxm).1) (hx x hxm).2
 have hop:s.opens a.sets.xs=true→∀x∈a.sets.xs,x∈a.sets.xs∧s.isOpen x.a=true:=fun h x hx=>⟨hx,List.all_eq_true.1 h x hx⟩
 have hfit:∀xs,QaK c.cl xs=true→s.fits xs=true→Qaz cs T (xs.foldl (fun s x=>s.lineAt x false t) r):=fun xs h1 h2=>QkQ hs.pls hr e ht (by rw[hcl];exact h1) false (by unfold Sta.fits at h2;simpa using h2)
 unfold Qaf;rw[if_pos hk]
 cases hsu:a.sure with
 | true =>
  rw[if_pos rfl];split
  ·rename_i hq
   refine⟨⟨by show (1:Int)≠4;omega,by show (1:Int)≠5;omega⟩,QkQ hs.pls hr e ht (by rw[hcl];exact l1) true ?_,fun _ h=>by cases h⟩;unfold Sta.keeps at hq;rw[hat]at hq;simpa using hq
  ·exact Qfj hr true t
 | false =>
  rw[if_neg (by simp)];unfold Qbw;split
  ·rename_i hq
   rw[Vs,Vs]at hq;exact⟨⟨by show (1:Int)≠4;omega,by show (1:Int)≠5;omega⟩,hfit _ l1 hq.2.1,hset _ (hop hq.2.2)⟩
  ·split
   ·unfold Qbo
    split
    ·exact Qfj hr false t
    ·refine⟨⟨by show (2:Int)≠4;omega,by show (2:Int)≠5;omega⟩,?_,hset _ (fun x hx=>?_)⟩
     ·obtain⟨l5,l6⟩:=Qb2 l1
      obtain⟨M',h1,h2⟩:=QeQ (cs:=cs) (T:=T) t ht a.lines.xs r [] hr (fun x hx=>by
       obtain⟨⟨k,e1,e2⟩,e3⟩:=l6 x hx;exact⟨⟨k,e1,by rw[hr.len,hcl];exact e2⟩,e3⟩)
      unfold QaC;rw[Qg8 e,h1];exact h2
     ·obtain⟨h1,h2⟩:=List.mem_filter.1 hx
      unfold Sta.want at h2;rw[Vs]at h2;exact⟨h1,h2.1⟩
   ·split
    ·rename_i hm1 hm2
     split
     ·rename_i hf
      unfold Qce at l4;rw[Vs,if_neg (by omega),if_pos hm2,Vs]at l4;exact⟨⟨by show (2:Int)≠4;omega,by show (2:Int)≠5;omega⟩,hfit _ l4.1.2 hf,fun _ h=>by cases h⟩
     ·exact Qfj hr false t
    ·split
     ·split
      ·rename_i hq
       rw[Vs]at hq;exact⟨⟨by show (2:Int)≠4;omega,by show (2:Int)≠5;omega⟩,hfit _ l1 hq.1,hset _ (hop hq.2)⟩
      ·exact Qfj hr false t
     ·exact Qfj hr false t
theorem eff1 {cs:List Ctr} {T:Nat} {r:Sta} {e:Eda} {t:Nat} (hr:Qdg cs T r) (ht:e.ac.till=(t:Int)) {J:Int × List Lin × List Tri × Int} (hJ:Ef1 cs T r e.ac.sure t J) (e1:e.oc=J.1) (e2:e.made.xs=J.2.1) (e3:e.sets.xs=J.2.2.1):Qdg cs T (QcA r e):=by
 have h4:¬e.oc=4:=by rw[e1];exact hJ.oc.1
 have h5:¬e.oc=5:=by rw[e1];exact hJ.oc.2
 have ee:QcA r e=e.sets.xs.foldl Sta.setPr (e.made.xs.foldl (fun s x=>s.lineAt x e.ac.sure e.ac.till.toNat) r):=by
  unfold QcA;simp only[h4,h5,if_false,not_false_eq_true,if_true]
 rw[ee,ht,Vv,e2,e3];obtain⟨p1,p2,p3,p4,p5⟩:=QgO e.ac.sure t J.2.1 r;generalize hr1:J.2.1.foldl (fun s x=>s.lineAt x e.ac.sure t) r=r1 at p1 p2 p3 p4 p5;have hp:Qaz cs T r1:=by rw[←hr1];exact hJ.pls
 obtain⟨q1,q2,q3,q4,q5⟩:=Qjj J.2.2.1 r1;refine hr.pl ⟨by rw[q1];exact hp.len,fun i x p hx hpp=>hp.each i x p hx (by rw[←q1];exact hpp),fun p hpp=>hp.hl p (by rw[←q1];exact hpp),hp.bnd⟩ (q5.trans p5) (QiW _ _ (by rw[p1];exact hr.prices) hJ.sets) (q2.trans p2) (q3.trans p3) (q4.trans p4)
theorem Qbg {n:Nat} {m:Int} {x:Tri} (h:QaX n m x=true):(∃k:Nat,x.a=(k:Int)∧k<n)∧(x.b=0∨x.b=1)∧1≤x.n∧x.n≤m:=by
 unfold QaX at h;simp at h;obtain⟨⟨⟨h1,h2⟩,h3⟩,h4⟩:=h;exact⟨⟨x.a.toNat,by omega,by omega⟩,by omega,h3,h4⟩
theorem QkC (P:Pl) (t u:Nat) (w:Int):avP P false t w=avP P false u w:=by unfold avP;simp
theorem Qe3 {cs:List Ctr} {T t:Nat} (ht:t<T):∀(xs:List Tri) (r:Sta),Qaz cs T r→xs.Pairwise (fun y x=>2*y.a+y.b<2*x.a+x.b)→(∀x∈xs,(∃k:Nat,x.a=(k:Int)∧k<r.pools.length)∧(x.b=0∨x.b=1)∧1≤x.n∧x.n≤18014398509481984) →
  (∀x∈xs,∀(k:Nat) (P:Pl),x.a=(k:Int)→r.pools[k]?=some P→x.n≤avP P true t x.b) →
  Qaz cs T (xs.foldl (fun s x=>s.shiftAt t x.a x.b (wrap64 (-x.n))) r)∧(xs.foldl (fun s x=>s.shiftAt t x.a x.b (wrap64 (-x.n))) r).prices=r.prices∧(xs.foldl (fun s x=>s.shiftAt t x.a x.b (wrap64 (-x.n))) r).last=r.last∧(xs.foldl (fun s x=>s.shiftAt t x.a x.b (wrap64 (-x.n))) r).gen=r.gen∧(xs.foldl (fun s x=>s.shiftAt t x.a x.b (wrap64 (-x.n))) r).owed=r.owed∧(xs.foldl (fun s x=>s.shiftAt t x.a x.b (wrap64 (-x.n))) r).pos=r.pos
 | [],r,h,_,_,_=>⟨h,rfl,rfl,rfl,rfl,rfl⟩
 | x :: xs,r,h,hp,hx,hn=>by
  obtain⟨hp1,hp2⟩:=List.pairwise_cons.1 hp;obtain⟨⟨k,ek,hk⟩,hw,n1,n2⟩:=hx x (VH ..);obtain⟨P,hP⟩:∃P,r.pools[k]?=some P:=⟨_,gE hk⟩;obtain⟨y,hy,hPo,b1,b2,hPl⟩:=h.at hP;have hv:=hn x (VH ..) k P ek hP;have hf:=(QcC hPo b1 b2 false (t:=t) (w:=x.b) (by omega)).1;have ew:wrap64 (-x.n) = -x.n:=Z.w64_id (by omega);obtain⟨g1,g2,g3,g4,g5,g6⟩:=h.shiftAt ht ek hw hP (n:=-x.n) (by omega) (by omega);rw[VI,ew,g2];rw[g2]at g1
  obtain⟨f1,f2⟩:=Qe3 ht xs (r.upP k (P.shift t x.b (-x.n))) g1 hp2 (fun z hz=>by
   obtain⟨⟨k2,e2,l2⟩,z1⟩:=hx z (Vy _ hz);exact⟨⟨k2,e2,by show k2<(r.pools.set k _).length;rw[VP];exact l2⟩,z1⟩) (fun z hz k2 P2 e2 hP2=>by
   have hlt:=hp1 z hz;have hzw:=(hx z (Vy _ hz)).2.1;rcases Qcs hP hP2 with ⟨_,h2⟩ | ⟨rfl,rfl⟩
   ·exact hn z (Vy _ hz) k2 P2 e2 h2
   ·have h3:=hn z (Vy _ hz) k2 P e2 hP
    rw[g5 true z.b (by omega) hzw];exact h3)
  exact⟨f1,f2⟩
theorem Qfx {cn:Nat} {m:Int} : ∀(n:Nat) (xs:List Tri),xs.length=n→Qc5 (fun l x=>QaX cn m x && QkU l x) xs=true→xs.Pairwise (fun y x=>2*y.a+y.b<2*x.a+x.b)
 | 0,xs,hl,_=>by rw[List.eq_nil_of_length_eq_zero hl];exact List.Pairwise.nil
 | n+1,xs,hl,h=>by
  obtain⟨ys,x,rfl⟩:∃ys x,xs=ys++[x]:=by
   have hne:xs≠[]:=by rintro rfl;simp at hl
   exact⟨xs.dropLast,xs.getLast hne,(List.dropLast_concat_getLast hne).symm⟩
  rw[Qct,Vs,Vs]at h;have ih:=Qfx n ys (by simpa using hl) h.1;refine List.pairwise_append.2 ⟨ih,List.pairwise_singleton _ _,fun y hy z hz=>?_⟩;rw[List.mem_singleton.1 hz];have hi:=h.2.2;unfold QkU at hi
  cases hg:ys.getLast? with
  | none=>rw[List.getLast?_eq_none_iff.1 hg]at hy;cases hy
  | some q =>
   rw[hg]at hi;simp at hi
   obtain⟨zs,rfl⟩:∃zs,ys=zs++[q]:=by
    have hne:ys≠[]:=by rintro rfl;simp at hg
    refine⟨ys.dropLast,?_⟩;have h1:=List.dropLast_concat_getLast hne
    have h2:ys.getLast hne=q:=by
     have h3:=hg;rw[←h1,List.getLast?_append]at h3;simpa using h3
    rw[h2]at h1;exact h1.symm
   rcases List.mem_append.1 hy with h1 | h1
   ·have h2:=(List.pairwise_append.1 ih).2.2 y h1 q (List.mem_singleton.2 rfl)
    omega
   ·rw[List.mem_singleton.1 h1];omega
theorem Qh0 {α:Type} {l:List α} {z:α} (k:Nat):Qai l z (k:Int)=l.getD k z:=by simp[Qai]
theorem Qc1 {c:Cfg} {a:Acd} (h:QcR c a 0):Qck a∧Qcm c a∧(a.kind=1→QaK c.cl a.lines.xs=true∧(∃lo hi,QbP c.pl lo hi a.sets.xs=true)∧Qce c.cl a=true)∧(a.kind≠1→Qa8 c a=true):=by
 have hK:Qck a:=by
  apply Classical.byContradiction;intro hn;have:=h.kind hn;omega
 have hH:Qcm c a:=by
  apply Classical.byContradiction;intro hn;have:=h.head hK hn;omega
 refine⟨hK,hH,fun h1=>?_,fun h1=>?_⟩
 ·have hw:=h.write hK hH h1
  unfold QbT at hw;by_cases g1:(!QaK c.cl a.lines.xs || decide (a.lines.xs.length+a.sets.xs.length=0))=true
  ·rw[if_pos g1]at hw;omega
  rw[if_neg g1]at hw;by_cases g2:(!QbB c.cl c.pl a.guards.xs)=true
  ·rw[if_pos g2]at hw;omega
  rw[if_neg g2]at hw;by_cases g3:(!QbP c.pl (-1) (if a.mg=1 then 1099511627776 else -1) a.sets.xs)=true
  ·rw[if_pos g3]at hw;omega
  rw[if_neg g3]at hw;by_cases g4:(!Qce c.cl a)=true
  ·rw[if_pos g4]at hw;omega
  exact⟨by simp at g1;exact g1.1,⟨_,_,by simpa using g3⟩,by simpa using g4⟩
 ·have hr:=h.rest hK hH h1
  cases hb:Qa8 c a with
  | true=>rfl
  | false=>rw[hb]at hr;simp at hr
theorem QlO {c:Cfg} {cs:List Ctr} {T:Nat} {s r0:Sta} {e:Eda} (hs:Qdg cs T s) (hd:r0.d=s.d) (hO:QbM s e) (hH:Qcm c e.ac) {t:Nat} : Qdg cs T ((r0.setPos e.po).setLast t e.ac.num):=by
 have h:=hs.d hd;refine⟨⟨h.pls.len,h.pls.each,h.pls.hl,h.pls.bnd⟩,hO.2,h.prices,fun u l g o h1 h2 h3=>?_,h.gnn⟩;have h1':(r0.last.set t e.ac.num)[u]?=some l:=h1;by_cases q:t=u
 ·subst q
  have hl:t<r0.last.length:=by have:=(Vd.1 h1').1;simpa using this
  rw[Vn hl]at h1';cases h1';obtain⟨x,hx⟩:∃x,r0.last[t]?=some x:=⟨_,gE hl⟩;have h4:=h.tills t x g o hx h2 h3;exact⟨hH.2.2,h4.2⟩
 ·rw[VR q]at h1'
  exact h.tills u l g o h1' h2 h3
theorem QhN {c:Cfg} {cs:List Ctr} {T:Nat} {s r0:Sta} {e:Eda} (hcl:cs.length=c.cl) (hT:c.tills=(T:Int)) (hs:Qdg cs T s) (hd:r0.d=s.d) (hO:QbM s e) (k0:¬e.ac.kind=0) (hC:QcR c e.ac 0) (hE:e.dd=QdZ s e.ac):Qdg cs T (Qdj r0 e):=by
 obtain⟨hK,hH,hw,hg⟩:=Qc1 hC;obtain⟨t,ht⟩:∃t:Nat,e.ac.till=(t:Int):=⟨e.ac.till.toNat,by have:=hH.1;omega⟩;have htT:t<T:=by have:=hH.1;omega
 have e1:e.oc=(Qaf s e.ac).1:=Vl (fun x=>x.2.2.1) hE;have e2:e.made.xs=(Qaf s e.ac).2.1:=Vl (fun x=>x.2.2.2.1) hE;have e3:e.sets.xs=(Qaf s e.ac).2.2.1:=Vl (fun x=>x.2.2.2.2.1) hE;have e4:e.n=(Qaf s e.ac).2.2.2:=Vl (fun x=>x.2.2.2.2.2.1) hE;have ef:Qdj r0 e=QcA ((r0.setPos e.po).setLast t e.ac.num) e:=by unfold Qdj;rw[if_neg k0,ht,Vv]
 rw[ef];have hr:=QlO (T:=T) (t:=t) hs hd hO hH;have hp:((r0.setPos e.po).setLast t e.ac.num).pools.map Pl.d=s.pools.map Pl.d:=Vl StP.pools hd;generalize (r0.setPos e.po).setLast t e.ac.num=r at hr hp;have hrl:=hr.pls.len;by_cases k1:e.ac.kind=1
 ·obtain⟨l1,l3,l4⟩:=hw k1
  exact eff1 hr ht (ef1 hs hr.pls hp hcl htT ht k1 l1 l3 l4) e1 e2 e3
 ·have hg:=hg k1
  obtain⟨⟨ka,kb⟩,-⟩:=hK;have m0:e.made.xs=[]:=by rw[e2];unfold Qaf;rw[if_neg k1];split;rfl;split;rfl;split;rfl;rfl
  have s0:e.sets.xs=[]:=by rw[e3];unfold Qaf;rw[if_neg k1];split;rfl;split;rfl;split;rfl;rfl
  have hn0:∀b:Bool,QbA b=4→False:=fun b h=>by cases b <;> simp[QbA]at h
  -- a right of the act's
  have one:∀{k:Nat} {w:Int},k<cs.length→(w=0∨w=1)→∃P,r.pools[k]?=some P∧s.free (k:Int) w=avP P false t w∧(∀u:Nat,s.held (u:Int) (k:Int) w=avP P true u w)∧(∀(b:Bool) (u:Nat),u<T→0≤avP P b u w∧avP P b u w≤18014398509481984):=fun {k w} hk hwy=>by
   obtain⟨P,hP⟩:∃P,r.pools[k]?=some P:=⟨_,gE (by rw[hrl];exact hk)⟩;obtain⟨Q,hQ,eQ⟩:=Qgu hp hP;obtain⟨y,_,hPo,b1,b2,hPl⟩:=hr.pls.at hP;exact⟨P,hP,by rw[eQ];exact Qb9 hQ hwy t,fun u=>by rw[eQ];exact QcO hQ hwy u,fun b u hu=>QcC hPo b1 b2 b (by omega)⟩
  by_cases k2:e.ac.kind=2
  ·have hj:Qaf s e.ac=(4,[],[],min e.ac.rd (min (s.free e.ac.ra e.ac.rb) (wrap64 (18014398509481984 - s.held e.ac.till e.ac.ra e.ac.rb)))):=by unfold Qaf;rw[if_neg k1,if_pos k2]
   rw[hj]at e1 e4;unfold Qa8 at hg;rw[if_neg (by omega),if_neg (by omega)]at hg;obtain⟨⟨k,ek,hk⟩,hwy,n1,n2⟩:=Qbg hg;simp only at ek hwy n1 n2;obtain⟨P,hP,hf,hh,hb⟩:=one (k:=k) (w:=e.ac.rb) (by rw[hcl];exact hk) hwy
   have ee:QcA r e=r.shiftAt t e.ac.ra e.ac.rb e.n:=by
    unfold QcA;simp only[m0,s0,List.foldl_nil,e1,if_true,ht,Vv,show ¬((4:Int)=5) by omega,not_false_eq_true]
   have q1:=hb false t htT;have q2:=hb true t htT;have e4':e.n=min e.ac.rd (min (s.free e.ac.ra e.ac.rb) (wrap64 (18014398509481984 - s.held e.ac.till e.ac.ra e.ac.rb))):=e4;rw[ek,ht,hf,hh,Z.w64_id (by omega)]at e4';obtain⟨g1,g2,_⟩:=hr.pls.shiftAt htT ek hwy hP (n:=e.n) (by omega) (by omega);rw[ee];exact hr.pl g1 rfl hr.prices rfl rfl rfl
  ·have hd3:∀b:Bool,e.oc=QbA b→b=false→Qdg cs T (QcA r e):=fun b h hb=>by
    have h5:¬e.oc=5:=by rw[h,hb];simp[QbA]
    have h4:¬e.oc=4:=fun z=>hn0 b (by rw[←h];exact z)
    have ee:QcA r e=r:=by
     unfold QcA;simp only[m0,s0,List.foldl_nil,h4,h5,if_false,not_false_eq_true,if_true]
    rw[ee];exact hr
   have hd5:∀b:Bool,e.oc=QbA b→b=true→e.oc=5:=fun b h hb=>by rw[h,hb];simp[QbA]
   by_cases k3:e.ac.kind=3
   ·have hj:(Qaf s e.ac).1=QbA (decide (e.ac.rd≤s.held e.ac.till e.ac.ra e.ac.rb)):=by unfold Qaf;rw[if_neg k1,if_neg k2,if_pos k3]
    rw[hj]at e1;by_cases hq:e.ac.rd≤s.held e.ac.till e.ac.ra e.ac.rb
    ·have h5:=hd5 _ e1 (Vq hq)
     unfold Qa8 at hg;rw[if_neg (by omega),if_neg (by omega)]at hg;obtain⟨⟨k,ek,hk⟩,hwy,n1,n2⟩:=Qbg hg;simp only at ek hwy n1 n2;obtain⟨P,hP,hf,hh,hb⟩:=one (k:=k) (w:=e.ac.rb) (by rw[hcl];exact hk) hwy;have q1:=hb false t htT;rw[ek,ht,hh]at hq
     have ee:QcA r e=r.shiftAt t e.ac.ra e.ac.rb (-e.ac.rd):=by
      unfold QcA;simp only[m0,s0,List.foldl_nil,h5,if_true,ht,Vv,show ¬((5:Int)=4) by omega,if_false,not_true_eq_false,k3];rw[Z.w64_id (by omega)]
     obtain⟨g1,g2,_⟩:=hr.pls.shiftAt htT ek hwy hP (n:=-e.ac.rd) (by omega) (by omega);rw[ee];exact hr.pl g1 rfl hr.prices rfl rfl rfl
    ·exact hd3 _ e1 (Vk hq)
   ·by_cases k4:e.ac.kind=4
    ·have hj:(Qaf s e.ac).1=QbA (decide (e.ac.rd≤s.held e.ac.till e.ac.ra e.ac.rb) && decide (s.held e.ac.to e.ac.ra e.ac.rb≤wrap64 (18014398509481984 - e.ac.rd))):=by unfold Qaf;rw[if_neg k1,if_neg k2,if_neg k3,if_pos k4]
     rw[hj]at e1;by_cases hq:e.ac.rd≤s.held e.ac.till e.ac.ra e.ac.rb
     ·cases hz:(decide (e.ac.rd≤s.held e.ac.till e.ac.ra e.ac.rb) && decide (s.held e.ac.to e.ac.ra e.ac.rb≤wrap64 (18014398509481984 - e.ac.rd))) with
      | false=>exact hd3 _ e1 hz
      | true =>
       have h5:=hd5 _ e1 hz;unfold Qa8 at hg;rw[if_pos k4,Vs,Vs,decide_eq_true_eq]at hg;obtain⟨⟨hg1,hg2⟩,_⟩:=hg;obtain⟨⟨k,ek,hk⟩,hwy,n1,n2⟩:=Qbg hg1;simp only at ek hwy n1 n2;obtain⟨u,hu⟩:∃u:Nat,e.ac.to=(u:Int):=⟨e.ac.to.toNat,by omega⟩;have huT:u<T:=by omega
       obtain⟨P,hP,hf,hh,hb⟩:=one (k:=k) (w:=e.ac.rb) (by rw[hcl];exact hk) hwy;have q1:=hb false t htT;rw[ek,ht,hh]at hq
       have ee:QcA r e=(r.shiftAt t e.ac.ra e.ac.rb (-e.ac.rd)).shiftAt u e.ac.ra e.ac.rb e.ac.rd:=by
        unfold QcA;simp only[m0,s0,List.foldl_nil,h5,if_true,ht,hu,Vv,show ¬((5:Int)=4) by omega,show ¬((4:Int)=3) by omega,if_false,not_true_eq_false,k4];rw[Z.w64_id (by omega)]
       obtain⟨g1,g2,g3,g4,_⟩:=hr.pls.shiftAt htT ek hwy hP (n:=-e.ac.rd) (by omega) (by omega);have hP':(r.shiftAt t e.ac.ra e.ac.rb (-e.ac.rd)).pools[k]?=some (P.shift t e.ac.rb (-e.ac.rd)):=by rw[g2];exact Vn (Vd.1 hP).1
       obtain⟨y,_,hPo,b1,b2,hPl⟩:=g1.at hP';have q2:=QcC hPo b1 b2 true (t:=u) (w:=e.ac.rb) (by omega);obtain⟨g5,g6,_⟩:=g1.shiftAt huT ek hwy hP' (n:=e.ac.rd) (by rw[QkC _ u t,g3];omega) (by omega);rw[ee];exact(hr.pl g1 rfl hr.prices rfl rfl rfl).pl g5 rfl hr.prices rfl rfl rfl
     ·exact hd3 _ e1 (by simp[hq])
    ·have k5:e.ac.kind=5:=by omega
     have hj:(Qaf s e.ac).1=QbA (s.owes e.ac.till e.ac.gen && s.hasAll e.ac.till e.ac.rights.xs):=by unfold Qaf;rw[if_neg k1,if_neg k2,if_neg k3,if_neg k4]
     rw[hj]at e1
     cases hz:(s.owes e.ac.till e.ac.gen && s.hasAll e.ac.till e.ac.rights.xs) with
     | false=>exact hd3 _ e1 hz
     | true =>
      have h5:=hd5 _ e1 hz;unfold Qa8 at hg;rw[if_neg k4,if_pos k5,Vs]at hg;have hro:=hg.2;unfold Qcg at hro;have hpw:=Qfx _ _ rfl hro;rw[Vs]at hz;have hall:=hz.2;unfold Sta.hasAll at hall
      have hrg:∀x∈e.ac.rights.xs,(∃k:Nat,x.a=(k:Int)∧k<r.pools.length)∧(x.b=0∨x.b=1)∧1≤x.n∧x.n≤18014398509481984:=fun x hx=>by
       obtain⟨l,hl⟩:=QdF hro x hx;rw[Vs]at hl;obtain⟨⟨k,ek,hk⟩,h2⟩:=Qbg hl.1;exact⟨⟨k,ek,by rw[hrl,hcl];exact hk⟩,h2⟩
      obtain⟨f1,f2,f3,f4,f5,f6⟩:=Qe3 htT e.ac.rights.xs r hr.pls hpw hrg (fun x hx k P ek hP=>by
       have h1:=List.all_eq_true.1 hall x hx;rw[decide_eq_true_eq,ek,ht]at h1;obtain⟨Q,hQ,eQ⟩:=Qgu hp hP;rw[QcO hQ (hrg x hx).2.1 t,←eQ]at h1;exact h1)
      have ee:QcA r e=(e.ac.rights.xs.foldl (fun s x=>s.shiftAt t x.a x.b (wrap64 (-x.n))) r).setOw t false:=by
       unfold QcA;simp only[m0,s0,List.foldl_nil,h5,if_true,ht,Vv,show ¬((5:Int)=4) by omega,show ¬((5:Int)=3) by omega,if_false,not_true_eq_false,k5]
      rw[ee];generalize e.ac.rights.xs.foldl (fun s x=>s.shiftAt t x.a x.b (wrap64 (-x.n))) r=r2 at f1 f2 f3 f4 f5 f6;refine⟨⟨f1.len,f1.each,f1.hl,f1.bnd⟩,by show r2.pos≤_;rw[f6];exact hr.pos,by show ∀q∈r2.prices,_;rw[f2];exact hr.prices,fun u l g o h1 h2 h3=>?_,by show ∀g∈r2.gen,_;rw[f4];exact hr.gnn⟩;have h1':r.last[u]?=some l:=by rw[←f3];exact h1
      have h2':r.gen[u]?=some g:=by rw[←f4];exact h2
      have h3':(r.owed.set t false)[u]?=some o:=by rw[←f5];exact h3
      have hul:u<r.owed.length:=by have:=(Vd.1 h3').1;simpa using this
      obtain⟨o',ho'⟩:∃o',r.owed[u]?=some o':=⟨_,gE hul⟩;obtain⟨a1,a2,a3⟩:=hr.tills u l g o' h1' h2' ho';refine⟨a1,a2,?_⟩;by_cases q:t=u
      ·subst q
       rw[Vn hul]at h3';cases h3';simp
      ·rw[VR q,ho']at h3'
       cases h3';exact a3
theorem QfT {c:Cfg} {cs:List Ctr} {T:Nat} {s r0:Sta} {e:Eda} (hs:Qdg cs T s) (hd:r0.d=s.d) (hO:QbM s e) (k0:e.ac.kind=0) (hf:Qd7 c.tills s e.fe) (hE:e.dd=Qma s e.fe):Qdg cs T (Qdj r0 e):=by
 have h:=hs.d hd;have e1:e.ge=IntKind.u64.wrap (Qai s.gen 0 e.fe+1):=Vl (fun x=>x.2.2.2.2.2.2.2) hE;obtain⟨f1,f2,f3,f4⟩:=hf;obtain⟨t,ht⟩:∃t:Nat,e.fe=(t:Int):=⟨e.fe.toNat,by omega⟩;have ef:Qdj r0 e=((r0.setPos e.po).setGen t e.ge).setOw t true:=by unfold Qdj;rw[if_pos k0,ht,Vv]
 have hg0:0≤Qai s.gen 0 e.fe:=by
  rw[ht,Qh0];rw[Vu]
  cases hq:s.gen[t]? with
  | none=>exact Int.le_refl _
  | some g=>exact hs.gnn g (mG hq)
 have eg:e.ge=Qai s.gen 0 e.fe+1:=by
  rw[e1];simp[IntKind.wrap,IntKind.bits,IntKind.signed];omega
 rw[ef];refine⟨⟨h.pls.len,h.pls.each,h.pls.hl,h.pls.bnd⟩,hO.2,h.prices,fun u l g o h1 h2 h3=>?_,fun g hg=>?_⟩
 ·have h1':r0.last[u]?=some l:=h1
  have h2':(r0.gen.set t e.ge)[u]?=some g:=h2;have h3':(r0.owed.set t true)[u]?=some o:=h3;have hgl:u<r0.gen.length:=by have:=(Vd.1 h2').1;simpa using this
  have hol:u<r0.owed.length:=by have:=(Vd.1 h3').1;simpa using this
  obtain⟨g',hg'⟩:∃g',r0.gen[u]?=some g':=⟨_,gE hgl⟩;obtain⟨o',ho'⟩:∃o',r0.owed[u]?=some o':=⟨_,gE hol⟩;obtain⟨a1,a2,a3⟩:=h.tills u l g' o' h1' hg' ho';by_cases q:t=u
  ·subst q
   rw[Vn hgl]at h2';cases h2';exact⟨a1,by omega,by omega⟩
  ·rw[VR q,hg']at h2'
   rw[VR q,ho']at h3';cases h2';cases h3';exact⟨a1,a2,a3⟩
 ·rcases List.mem_or_eq_of_mem_set hg with h1 | h1
  ·exact h.gnn g h1
  ·omega
theorem Qga {c:Cfg} {cs:List Ctr} {T:Nat} {s r0:Sta} {e:Eda} (hcl:cs.length=c.cl) (hT:c.tills=(T:Int)) (hs:Qdg cs T s) (hd:r0.d=s.d) (hV:Qeb c s e 0):Qdg cs T (Qdj r0 e):=by
 have hO:QbM s e:=Classical.byContradiction fun h=>by have:=hV.order h;omega
 by_cases k0:e.ac.kind=0
 ·have h1:Qd7 c.tills s e.fe∧e.dd=Qma s e.fe:=Classical.byContradiction fun h=>by have:=hV.fence hO k0 h;omega
  exact QfT hs hd hO k0 h1.1 h1.2
 ·have h1:QcR c e.ac 0∧QdY s e:=Classical.byContradiction fun h=>by have:=hV.act hO k0 h;omega
  have h2:e.dd=QdZ s e.ac:=Classical.byContradiction fun h=>by have:=hV.out hO k0 h1.1 h1.2 h;omega
  exact QhN hcl hT hs hd hO k0 h1.1 h2
def Kpt (c:Cfg) (cs:List Ctr) (s r:Sta):Prop:=∀T:Nat,c.tills=(T:Int)→Qdg cs T s→Qdg cs T r
theorem Kpt.refl (c:Cfg) (cs:List Ctr) (s:Sta):Kpt c cs s s:=fun _ _ h=>h
theorem Kpt.fold {c:Cfg} {cs:List Ctr} {s r0 r:Sta} {e:Eda} (hcl:cs.length=c.cl) (hd:r0.d=s.d) (hV:Qeb c s e 0) (hr:r=Qdj r0 e):Kpt c cs s r:=fun T hT h=>by
 rw[hr];exact Qga hcl hT h hd hV
def QlK (w:World) (c:Cfg) (cs:List Ctr) (s:Sta) (E:Ending) (w':World):Prop:=∃r:Sta,E=.returned (.agg r.arr)∧Kpt c cs s r∧StG w' c r∧((∃B,Qac B w' r)∨r=s)∧Below w.heap.size w w'
end Go.Proofs.YtiogibfhafoapaaGreat
namespace Go.Proofs.YtiogibfhafoapaaGreat
open Go.RowKit Go.Sort
open Z (Sli QaE Acd Qad Eda QaP AcOwn Ctr ctc)
theorem QjQ (w:World) (c:Cfg) (cs:List Ctr) (hcf:Qbp w c cs) (h1t:1≤c.tills) (hcl1:1≤c.cl) (s:Sta) (hg:StG w c s) (o:Stp) (hok:Qad w o.ac) (h1:¬o.do_=1) (h3:¬o.do_=3) (h4:¬o.do_=4) :
  Calls Tryz.prog 19 #[.agg (qC c),.agg (qS s),.agg o.arr] w (QlK w c cs s):=by
 obtain⟨O,hO⟩:=exq o.arr;have hOz:O.size=20:=by rw[←hO];rfl
 obtain⟨w2,hw2,hb2,hc2,hs2,ho2,hr2,hsz2⟩:=QaV w (qC c) (qS s) O qs 42;have HW2:=Qaa hw2;have HM:Hid (Bhd w w2 (qC c) (qS s) O):=⟨hc2,hs2,ho2,hr2,hb2⟩;have HS0:=Qaa hg.ok;have HG:=Qaa (hg.below hb2);have HCf:=Qaa (hcf.below hb2);have HOk:=Qaa (hok.below hb2)
 have HOc:Hid (∀W:World,W.heap[w.heap.size+1+1]?=some (.cells O 57 (0,0))→W.cell? ⟨w.heap.size+1+1,0,none⟩=some (.int .i64 o.do_)∧W.cell? ⟨w.heap.size+1+1,18,none⟩=some (.int .i64 o.till)):=fun W h=>by
  refine⟨?_,?_⟩ <;> · rw[cRq h,←hO];rfl
 have HLO:Hid (∀W:World,W.heap[w.heap.size+1+1]?=some (.cells O 57 (0,0))→(Instr.loadAt 57 (.pointer (some ⟨w.heap.size+1+1,0,none⟩))).run Tryz.prog W=.ok (.agg O) W):=fun W h=>lr57 h (by rw[hOz];kernel_rfl)
 obtain⟨o0,o18⟩:=HOc.out w2 ho2;obtain⟨c0,c1,c2,c3,c4,c5⟩:=ac6 hs2;obtain⟨d0,d1,d2,d3,d4,d5,d6,d7,d8⟩:=ac9 hc2;have n1:((o.do_:Int) == 1)=false:=by simp[h1]
 have n3:((o.do_:Int) == 3)=false:=by simp[h3]
 have n4:((o.do_:Int) == 4)=false:=by simp[h4]
 clear h1 h3 h4;have HOe:=Qaa hO;rw[hO];clear hO hOz hw2 hb2 hc2 hs2 ho2 hr2 hsz2 hg hcf hok;go_enter Tryz.func19,Tryz.ntmps19;go_upto_region 1 with (fail);rw[HW2.out];have HGW:=HG;have HSt8:=Qaa (Z.storeAt_row (P:=Tryz.prog) (c':=(qS s)) HM.out.rb Tryz.sizeS rfl (by simp[Value.oneCell']));go_wp2_with (first | ((with_reducible refine gsq 42 6 ?_);refine Z.lp_store (t:=42) (x:=.tmp 6) (some ⟨w.heap.size+1+1+1,0,none⟩) (.agg (qS s)) rfl rfl HSt8.out ?_) | fail)
 refine bq rfl rfl (HM.out.told (s:=s) HGW.out (Or.inr ⟨rfl,HS0.out⟩) _).1 Tryz.underlying42 rfl Tryz.sizeS rfl ?_;exact⟨s,rfl,Kpt.refl _ _ _,(HM.out.told HGW.out (Or.inr ⟨rfl,HS0.out⟩) _).2⟩
end Go.Proofs.YtiogibfhafoapaaGreat
