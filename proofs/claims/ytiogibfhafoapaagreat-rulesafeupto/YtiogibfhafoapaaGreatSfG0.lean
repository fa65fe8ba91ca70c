import Derived.Test.YtiogibfhafoapaaGreatJgE
import Derived.Test.YtiogibfhafoapaaGreatOnD
import Derived.Test.YtiogibfhafoapaaGreatBh0
import Derived.Test.YtiogibfhafoapaaGreatFoF
import Derived.Test.YtiogibfhafoapaaGreatTk
set_option maxRecDepth 100000
set_option maxHeartbeats 8000000
set_option linter.unusedSimpArgs false
set_option linter.unusedVariables false
namespace Go.Proofs.YtiogibfhafoapaaGreat
open Go.RowKit
open Z (Sli QaE Acd Qad Ctr)
theorem QlA {D:DataW Unit} (hD:Maps.IsMap D) (x y:K64) (n:Int):lkD (QbN D x.1 n) y.1=if y.1=x.1 then wrap64 (lkD D x.1+n) else lkD D y.1:=by
 by_cases e:y=x
 ·subst e
  rw[if_pos rfl];unfold lkD QbN;rw[Maps.atKey_put_same hD (Qfu _)];rfl
 ·have hne:Qcz y.1≠Qcz x.1:=fun e2=>e (Qme y x e2)
  rw[if_neg (fun e2=>e (Subtype.ext e2))];unfold lkD QbN;rw[Maps.atKey_put_other hne]
theorem QlQ {k:Nat} {w:Int} (hk:k<4194304) (hw:w=0∨w=1):(Lit.int .i64 (k:Int)).wf=true∧(Lit.int .i64 w).wf=true:=⟨Qb5 (by omega) (by omega),Qb5 (by omega) (by omega)⟩
theorem Qkn {D:DataW Unit} (hD:Maps.IsMap D) {k k':Nat} {w w':Int} (hk:k<4194304) (hk':k'<4194304) (hw:w=0∨w=1) (hw':w'=0∨w'=1) (n:Int):lkD (QbN D ((k:Int),w) n) ((k':Int),w')=if k'=k∧w'=w then wrap64 (lkD D ((k:Int),w)+n) else lkD D ((k':Int),w'):=by
 have h:=QlA hD ⟨((k:Int),w),QlQ hk hw⟩ ⟨((k':Int),w'),QlQ hk' hw'⟩ n;simp only at h;rw[h];by_cases e:k'=k∧w'=w
 ·rw[if_pos e,if_pos (by rw[e.1,e.2])]
 ·rw[if_neg e,if_neg (fun q=>e ⟨by have:=Vl Prod.fst q;simp only at this;omega,Vl Prod.snd q⟩)]
theorem Qlk {r:Sta} {k:Nat} {P P':Pl} (hP:r.pools[k]?=some P) {w:Int} (hw:w=0∨w=1) (t:Nat):(r.upP k P').free (k:Int) w=avP P' false t w :=
 Qb9 (s:=r.upP k P') (Vn (Vd.1 hP).1) hw t
theorem Qjq {r:Sta} {k k':Nat} {P':Pl} (h:k'≠k) (w:Int):(r.upP k P').free (k':Int) w=r.free (k':Int) w:=by
 unfold Sta.free Sta.upP;simp only;rw[Qil (by omega)]
theorem QeH {cs:List Ctr} {T:Nat} (t:Nat) (ht:t<T) (s:Sta):∀(xs:List Lin) (r:Sta) (D:DataW Unit) (M:List Lin),Qaz cs T r→r.pools.length≤4194304→Maps.IsMap D→(∀x∈xs,(∃k:Nat,x.c=(k:Int)∧k<r.pools.length)∧-1099511627776≤x.n∧x.n≤1099511627776) →
  (∀(k:Nat) (w:Int),(w=0∨w=1)→k<r.pools.length→(r.free k w=s.free k w - lkD D ((k:Int),w)+lkD D ((k:Int),1 - w))∧(0≤s.free k w∧s.free k w≤18014398509481984)∧0≤lkD D ((k:Int),w)∧lkD D ((k:Int),w)+(xs.length:Int)*1099511627776≤18014398509481984) →
  ((xs.map QaL).foldl (Qa2 s) (D,M)).2=(xs.foldl Qax (r.pools.map frL,M)).2
 | [],r,D,M,_,_,_,_,_=>rfl
 | x :: xs,r,D,M,h,hl,hD,hx,hi=>by
  obtain⟨⟨k,ek,hk⟩,x1,x2⟩:=hx x (VH ..);obtain⟨P,hP⟩:∃P,r.pools[k]?=some P:=⟨_,gE hk⟩;obtain⟨y,hy,hPo,b1,b2,hPl⟩:=h.at hP;have hw:=Qkf x.n;have hxs:∀z∈xs,(∃k:Nat,z.c=(k:Int)∧k<r.pools.length)∧-1099511627776≤z.n∧z.n≤1099511627776:=fun z hz=>hx z (Vy _ hz)
  obtain⟨W,hW⟩:=exq (Qam x.n);rw[hW]at hw;have hw':1 - W=0∨1 - W=1:=by omega
  have hFb:=QcC hPo b1 b2 false (t:=t) (w:=W) (by omega);have eL:((x :: xs).length:Int)*1099511627776=(xs.length:Int)*1099511627776+1099511627776:=by rw[VO];push_cast;omega
  have hLn:0≤(xs.length:Int)*1099511627776:=by omega
  obtain⟨i1,i2,i3,i4⟩:=hi k W hw hk;obtain⟨j1,j2,j3,j4⟩:=hi k (1 - W) hw' hk;rw[show 1 - (1 - W)=W by omega]at j1;rw[eL]at i4 j4;obtain⟨f,hf⟩:=exq (avP P false t W);rw[hf]at hFb;have e1:r.free (k:Int) W=f:=(Qb9 hP hw t).trans hf;have ha:Qbh x.n=QbY x.n:=by unfold Qbh QbY;exact Z.w64_id (by split <;> omega)
  have hab:0≤QbY x.n∧QbY x.n≤1099511627776:=by unfold QbY;constructor <;> split <;> omega
  obtain⟨m,hm⟩:=exq (min (QbY x.n) f);have hmb:0≤m∧m≤f∧m≤QbY x.n:=by rw[←hm];omega
  have hw1:wrap64 (1 - W)=1 - W:=Z.w64_id (by omega)
  have ht1:Qdd s D ((k:Int),W) (QbY x.n)=m:=by
   unfold Qdd;simp only;rw[hw1];rw[e1]at i1;generalize s.free (k:Int) W=A at *;generalize lkD D ((k:Int),W)=B at *;generalize lkD D ((k:Int),1 - W)=C at *
   have e2:wrap64 (wrap64 (A - B)+C)=f:=by
    rw[Z.w64_id (n:=A - B) (by omega),show A - B+C=f by omega];exact Z.w64_id (by omega)
   rw[e2];unfold Ql7;rw[show max f 0=f by omega,Z.w64_id (n:=-f) (by omega)];omega
  have hg:(r.pools.map frL).getD x.c.toNat ⟨0,0⟩=frL P:=by rw[ek,Vv,Vu,Vb,hP];rfl
  have hfw:frW (frL P) x.n=f:=by
   rw[←hf,←hW];unfold frW frL avP Qam;by_cases q:x.n<0
   ·simp[q]
   ·simp[q]
  have hcut:Qcp (r.pools.map frL) x=if x.n<0 then -m else m:=by
   unfold Qcp;rw[hg,hfw];unfold QfJ QdD;rw[if_neg (by omega),←hm];unfold QbY;by_cases q:x.n<0
   ·simp only[q,if_true];split <;> omega
   ·simp only[q,if_false];split <;> omega
  have eB:∀(k':Nat) (w':Int),(w'=0∨w'=1)→k'<r.pools.length→lkD (QbN D ((k:Int),W) m) ((k':Int),w')=if k'=k∧w'=W then lkD D ((k:Int),W)+m else lkD D ((k':Int),w'):=fun k' w' q1 q2=>by
   rw[Qkn hD (by omega) (by omega) hw q1,Z.w64_id (n:=lkD D ((k:Int),W)+m) (by omega)]
  rw[List.map_cons,VI,VI]
  have eC:Qa2 s (D,M) (QaL x)=(QbN D ((k:Int),W) m,if m=0 then M else M++[⟨x.c,if x.n<0 then -m else m⟩]):=by
   unfold Qa2;have eK:QaS (QaL x)=((k:Int),W):=by unfold QaS QaL;simp only;rw[ek,hW]
   have eN:(QaL x).n=QbY x.n:=ha;rw[eK,eN];simp only;rw[ht1];have eb:(QaL x).b=W:=hW;have ea:(QaL x).a=x.c:=rfl;rw[eb,ea,Z.w64_id (n:=-m) (by omega)];by_cases q:x.n<0
   ·have hb:W=0:=by rw[←hW];unfold Qam;rw[if_pos q]
    rw[if_pos q,if_pos hb]
   ·have hb:¬W=0:=by rw[←hW];unfold Qam;rw[if_neg q];omega
    rw[if_neg q,if_neg hb]
  rw[eC];by_cases hm0:m=0
  ·have e:Qax (r.pools.map frL,M) x=(r.pools.map frL,M):=by
    unfold Qax;simp only;rw[if_pos (by rw[hcut,hm0];split <;> rfl)]
   rw[e,if_pos hm0];refine QeH t ht s xs r (QbN D ((k:Int),W) m) M h hl (show Maps.IsMap (QbN D ((k:Int),W) m) from hD.put _ _) hxs (fun k' w' q1 q2=>?_);obtain⟨p1,p2,p3,p4⟩:=hi k' w' q1 q2;rw[eL]at p4;rw[eB k' w' q1 q2,eB k' (1 - w') (by omega) q2]
   have z1:∀v:Int,(if k'=k∧v=W then lkD D ((k:Int),W)+m else lkD D ((k':Int),v))=lkD D ((k':Int),v):=fun v=>by
    split
    ·rename_i q;rw[q.1,q.2];omega
    ·rfl
   rw[z1,z1];exact⟨p1,p2,p3,by omega⟩
  ·obtain⟨n,hn⟩:=exq (if x.n<0 then -m else m)
   rw[hn]at hcut;rw[if_neg hm0,hn];have hn0:¬n=0:=by rw[←hn];split <;> omega
   have hwn:Qam n=W:=by
    rw[←hW,←hn];unfold Qam;by_cases q:x.n<0
    ·simp only[q,if_true];rw[if_pos (by omega)]
    ·simp only[q,if_false];rw[if_neg (by omega)]
   have han:QbY n=m:=by
    rw[←hn];unfold QbY;by_cases q:x.n<0
    ·simp only[q,if_true];rw[if_pos (by omega)];omega
    ·simp only[q,if_false];rw[if_neg (by omega)]
   have hnr : -1099511627776≤n∧n≤1099511627776:=by rw[←hn];split <;> omega
   have hnx:n<0↔x.n<0:=by
    rw[←hn];by_cases q:x.n<0
    ·rw[if_pos q];omega
    ·rw[if_neg q];omega
   obtain⟨g1,g2,g3,g4,g5⟩:=QdO hPo b1 b2 (n:=n) hnr (sure:=false) (t:=t) (by omega) (by rw[hwn,hf,han];exact hmb.2.1);have ha2:Qbh n=QbY n:=by unfold Qbh QbY;exact Z.w64_id (by split <;> omega)
   have hmv:Qd8 (frL P) x.n (Qbh n)=frL (P.line n false t):=by
    rw[g5,ha2];unfold Qd8;by_cases q:n<0
    ·rw[if_pos q,if_pos (hnx.1 q)]
    ·rw[if_neg q,if_neg (fun z=>q (hnx.2 z))]
   have e:Qax (r.pools.map frL,M) x=((r.upP k (P.line n false t)).pools.map frL,M++[⟨x.c,n⟩]):=by
    unfold Qax;simp only;rw[hcut,if_neg hn0,hg,hmv,ek,Vv];show (_,_)=((r.pools.set k _).map frL,_);rw[List.map_set]
   rw[e];have hFb2:=QcC hPo b1 b2 false (t:=t) (w:=1 - W) (by omega);have e1':r.free (k:Int) (1 - W)=avP P false t (1 - W):=Qb9 hP hw' t
   have g6:avP (P.line n false t) false t (1 - W)=avP P false t (1 - W)+m:=by
    rw[han]at g5;have c1:(P.line n false t).f0=(Qd8 (frL P) n m).c:=Vl Lin.c g5;have c2:(P.line n false t).f1=(Qd8 (frL P) n m).n:=Vl Lin.n g5;have hb:=hPo.b b1 b2;obtain⟨f1,f2⟩:=hb.f0;obtain⟨f3,f4⟩:=hb.f1;unfold Qd8 frL at c1 c2;simp only at c1 c2;by_cases q:n<0
    ·have hW0:W=0:=by rw[←hwn];unfold Qam;rw[if_pos q]
     rw[if_pos q]at c2;simp only at c2;rw[hW0];unfold avP;simp only[show ¬((1:Int) - 0=0) by omega,if_false,Bool.false_eq_true];rw[c2];exact Z.w64_id (by omega)
    ·have hW0:W=1:=by rw[←hwn];unfold Qam;rw[if_neg q]
     rw[if_neg q]at c1;simp only at c1;rw[hW0];unfold avP;simp only[show ((1:Int) - 1=0) by omega,if_true,Bool.false_eq_true,if_false];rw[c1];exact Z.w64_id (by omega)
   rw[hwn,han,hf]at g3
   refine QeH t ht s xs (r.upP k (P.line n false t)) (QbN D ((k:Int),W) m) (M++[⟨x.c,n⟩]) (h.up hP (fun z hz=>by rw[hy]at hz;cases hz;exact g1) (by rw[g2];exact hPl)) (by show (r.pools.set k _).length≤_;rw[VP];exact hl) (show Maps.IsMap (QbN D ((k:Int),W) m) from hD.put _ _) (fun z hz=>by
    obtain⟨⟨k2,e2,l2⟩,z1⟩:=hxs z hz;exact⟨⟨k2,e2,by show k2<(r.pools.set k _).length;rw[VP];exact l2⟩,z1⟩) (fun k' w' q1 q2=>?_)
   have q2':k'<r.pools.length:=by have h0:k'<(r.pools.set k (P.line n false t)).length:=q2;rw[VP]at h0;exact h0
   obtain⟨p1,p2,p3,p4⟩:=hi k' w' q1 q2';rw[eL]at p4;rw[eB k' w' q1 q2',eB k' (1 - w') (by omega) q2'];by_cases qk:k'=k
   ·subst qk
    rw[Qlk hP q1 t];rcases (show w'=W∨w'=1 - W by omega) with qw | qw
    ·subst qw
     rw[if_pos ⟨rfl,rfl⟩,if_neg (fun z=>by have:=z.2;omega),g3];rw[e1]at i1;exact⟨by omega,p2,by omega,by omega⟩
    ·subst qw
     rw[if_neg (fun z=>by have:=z.2;omega),show 1 - (1 - W)=W by omega,if_pos ⟨rfl,rfl⟩,g6];rw[e1']at j1;exact⟨by omega,p2,by omega,by omega⟩
   ·rw[if_neg (fun z=>qk z.1),if_neg (fun z=>qk z.1),Qjq qk]
    exact⟨p1,p2,p3,by omega⟩
theorem cl_eq {cs:List Ctr} {T:Nat} {s:Sta} {a:Acd} (hs:Qaz cs T s) (hT:0<T) (hc:cs.length≤4194304) (hl:QaK cs.length a.lines.xs=true):Qbo s a.lines.xs a.sets.xs=((QbZ s a).1,(QbZ s a).2.1,(QbZ s a).2.2,0):=by
 obtain⟨l1,l2⟩:=Qb2 hl
 have h:=QeH (cs:=cs) (T:=T) 0 hT s a.lines.xs s (.map []) [] hs (by rw[hs.len];exact hc) Maps.isMap_empty (fun x hx=>by
  obtain⟨⟨k,e1,e2⟩,e3⟩:=l2 x hx;exact⟨⟨k,e1,by rw[hs.len];exact e2⟩,e3⟩) (fun k w hw hk=>by
  obtain⟨P,hP⟩:∃P,s.pools[k]?=some P:=⟨_,gE hk⟩;obtain⟨y,_,hPo,b1,b2,hPl⟩:=hs.at hP;have h1:=QcC hPo b1 b2 false (t:=0) (w:=w) (by omega);rw[←Qb9 hP hw 0]at h1;have z:∀v:Int,lkD (.map []:DataW Unit) ((k:Int),v)=0:=fun v=>rfl
  rw[z,z];exact⟨by omega,h1,by omega,by omega⟩)
 have h':(QdL s (a.lines.xs.map QaL)).2=(QaC s a.lines.xs).2:=h;unfold Qbo QbZ;rw[h'];by_cases q:(QaC s a.lines.xs).2.length=0∧(a.sets.xs.filter s.want).length=0
 ·rw[if_pos q,if_pos (by omega)]
 ·rw[if_neg q,if_neg (by omega)]
theorem Qip {c:Cfg} {cs:List Ctr} {T:Nat} {s:Sta} {a:Acd} (hs:Qaz cs T s) (hcl:cs.length=c.cl) (hc:cs.length≤4194304) (hT:c.tills=(T:Int)) (hC:QcR c a 0):Qan s a=Qaf s a:=by
 obtain⟨⟨hk,_⟩,⟨⟨t1,t2⟩,_⟩,h1,h2⟩:=Qc1 hC;unfold Qan Qaf;by_cases k1:a.kind=1
 ·rw[if_pos k1,if_pos k1]
  obtain⟨l1,_,_⟩:=h1 k1;have e:=cl_eq (a:=a) hs (by omega) hc (by rw[hcl];exact l1);unfold QaR Qbw QaG;rw[e,Bool.and_assoc];cases a.sure
  ·simp only[Bool.false_eq_true,if_false]
   repeat' split
   all_goals first | rfl | omega
  ·simp only[if_true]
   split <;> rfl
 ·rw[if_neg k1,if_neg k1]
  have h3:=h2 k1;by_cases k2:a.kind=2
  ·rw[if_pos k2,if_pos k2]
  ·rw[if_neg k2,if_neg k2]
   by_cases k3:a.kind=3
   ·rw[if_pos k3,if_pos k3];rfl
   ·rw[if_neg k3,if_neg k3]
    by_cases k4:a.kind=4
    ·rw[if_pos k4,if_pos k4]
     unfold Qa8 at h3;rw[if_pos k4,Vs,Vs,decide_eq_true_eq]at h3;obtain⟨⟨k,e1,e2⟩,e3,e4,e5⟩:=Qbg h3.1.1;simp only at e1 e3 e4 e5;obtain⟨u,hu⟩:∃u:Nat,a.to=(u:Int):=⟨a.to.toNat,by omega⟩;obtain⟨P,hP⟩:∃P,s.pools[k]?=some P:=⟨_,gE (by rw[hs.len];omega)⟩;obtain⟨y,_,hPo,b1,b2,hPl⟩:=hs.at hP;have h4:=QcC hPo b1 b2 true (t:=u) (w:=a.rb) (by omega);rw[←QcO hP e3 u,←hu,←e1]at h4
     have e6:decide (a.rd≤wrap64 (18014398509481984 - s.held a.to a.ra a.rb))=decide (s.held a.to a.ra a.rb≤wrap64 (18014398509481984 - a.rd)):=by
      rw[Z.w64_id (by omega),Z.w64_id (by omega)];exact decide_eq_decide.2 (by omega)
     rw[e6];rfl
    ·rw[if_neg k4,if_neg k4,if_pos (by omega)];rfl
inductive Mt {α β:Type} (tst:α→β→Bool):List α→List β→Prop
 | nil (xs:List β):Mt tst [] xs
 | skip {ys:List α} {x:β} {xs:List β} : Mt tst ys xs→Mt tst ys (x :: xs)
 | take {y:α} {ys:List α} {x:β} {xs:List β} : tst y x=true→Mt tst ys xs→Mt tst (y :: ys) (x :: xs)
theorem Mt.tail {α β:Type} {tst:α→β→Bool} {y:α} {ys:List α} : ∀{xs:List β},Mt tst (y :: ys) xs→Mt tst ys xs
 | _,.skip h=>.skip h.tail
 | _,.take _ h=>.skip h
theorem Mt.greedy {α β:Type} {tst:α→β→Bool} {ys:List α} {stp:Nat→β→Nat} (h1:∀k x,ys[k]?=none→stp k x=k) (h2:∀k x y,ys[k]?=some y→stp k x=if tst y x=true then k+1 else k):∀(xs:List β) (k:Nat),k≤ys.length→Mt tst (ys.drop k) xs→xs.foldl stp k=ys.length
 | [],k,hk,h=>by
  obtain⟨zs,hz⟩:=exq (ys.drop k);rw[hz]at h;cases h;have:=List.drop_eq_nil_iff.1 hz;show k=_;omega
 | x :: xs,k,hk,h=>by
  rw[VI]
  cases hy:ys[k]? with
  | none =>
   rw[h1 k x hy];have h3:ys.drop k=[]:=List.drop_eq_nil_iff.2 (List.getElem?_eq_none_iff.1 hy);exact greedy h1 h2 xs k hk (by rw[h3];exact .nil _)
  | some y =>
   obtain⟨hk2,ey⟩:=Vd.1 hy;have h3:ys.drop k=y :: ys.drop (k+1):=by rw[List.drop_eq_getElem_cons hk2,ey]
   rw[h2 k x y hy];have h':=h;rw[h3]at h';by_cases ht:tst y x=true
   ·rw[if_pos ht]
    refine greedy h1 h2 xs (k+1) hk2 ?_
    cases h' with
    | skip q=>exact q.tail
    | take _ q=>exact q
   ·rw[if_neg ht]
    refine greedy h1 h2 xs k hk ?_;rw[h3]
    cases h' with
    | skip q=>exact q
    | take q _=>exact absurd q ht
theorem Ql0 {ms xs:List Lin} (h:Mt Qdo ms xs):Qkt ms xs=true:=by
 unfold Qkt;rw[Mt.greedy (tst:=Qdo) (ys:=ms) (stp:=Qb0 ms) (fun k x e=>by unfold Qb0;rw[e]) (fun k x y e=>by unfold Qb0;rw[e]) xs 0 (Vo _) h];simp
theorem QiV {s:Sta} {ys xs:List Tri} (h:Mt (Qdr s) ys xs):whB s ys xs=true:=by
 unfold whB;rw[Mt.greedy (tst:=Qdr s) (ys:=ys) (stp:=Qcq s ys) (fun k x e=>by unfold Qcq;rw[e]) (fun k x y e=>by unfold Qcq;rw[e]) xs 0 (Vo _) h];simp
theorem Qg6 (s:Sta) (x:Tri):Qdr s (s.raise x) x=true:=by
 unfold Qdr Sta.raise;simp only[beq_self_eq_true,Bool.true_and];rw[Qaq];simp
theorem Qgf (s:Sta) (p:Tri→Bool):∀xs:List Tri,Mt (Qdr s) ((xs.filter p).map s.raise) xs
 | []=>.nil _
 | x :: xs=>by
  rw[List.filter_cons];split
  ·exact .take (Qg6 s x) (Qgf s p xs)
  ·exact .skip (Qgf s p xs)
theorem QiA (s:Sta):∀xs:List Tri,Mt (Qdr s) (xs.map s.raise) xs
 | []=>.nil _
 | x :: xs=>.take (Qg6 s x) (QiA s xs)
theorem QeV:∀(xs F M:List Lin),∃M',(xs.foldl Qax (F,M)).2=M++M'∧Mt Qdo M' xs
 | [],F,M=>⟨[],by simp,.nil _⟩
 | x :: xs,F,M=>by
  rw[VI];by_cases h0:Qcp F x=0
  ·rw[show Qax (F,M) x=(F,M) from by unfold Qax;rw[if_pos h0]]
   obtain⟨M',h1,h2⟩:=QeV xs F M;exact⟨M',h1,.skip h2⟩
  ·obtain⟨n,hn⟩:=exq (Qcp F x)
   obtain⟨F',hF⟩:∃F',Qax (F,M) x=(F',M++[⟨x.c,n⟩]):=⟨_,by unfold Qax;rw[if_neg h0,hn]⟩;rw[hF];obtain⟨M',h1,h2⟩:=QeV xs F' (M++[⟨x.c,n⟩]);refine⟨⟨x.c,n⟩ :: M',by rw[h1,List.append_assoc];rfl,.take ?_ h2⟩;rw[hn]at h0;unfold Qcp at hn;obtain⟨f,hf⟩:=exq (frW (F.getD x.c.toNat ⟨0,0⟩) x.n);rw[hf]at hn;unfold QfJ QdD at hn;unfold Qdo;simp only[beq_self_eq_true,Bool.true_and,Bool.or_eq_true,Vs,decide_eq_true_eq];by_cases q1:f<0
   ·rw[if_pos q1]at hn;omega
   ·rw[if_neg q1]at hn
    by_cases q:x.n<0
    ·simp only[q,if_true]at hn;split at hn <;> omega
    ·simp only[q,if_false]at hn;split at hn <;> omega
inductive WrT (s:Sta) (a:Acd):Int→List Lin→List Tri→Prop
 | no:WrT s a 3 [] []
 | one (L:List Lin) (S:List Tri):L=a.lines.xs→S.length=a.sets.xs.length→whB s S a.sets.xs=true→WrT s a 1 L S
 | cut (L:List Lin) (S:List Tri):¬(L.length=0∧S.length=0)→a.sure=false→a.mg=1→Qkt L a.lines.xs=true→whB s S a.sets.xs=true→WrT s a 2 L S
 | other (L:List Lin):¬L.length=0→a.sure=false→a.mg=2→L=a.other.xs→WrT s a 2 L []
 | force (L:List Lin) (S:List Tri):¬(L.length=0∧S.length=0)→a.sure=false→a.mg=3→L=a.lines.xs→S.length=a.sets.xs.length→whB s S a.sets.xs=true→WrT s a 2 L S
structure ShT (s:Sta) (a:Acd) (J:Int × List Lin × List Tri × Int):Prop where
 write:a.kind=1→WrT s a J.1 J.2.1 J.2.2.1∧J.2.2.2=0
 ask:a.kind=2→J.1=4∧J.2.1=[]∧J.2.2.1=[]∧0≤J.2.2.2∧J.2.2.2≤a.rd∧J.2.2.2≤s.free a.ra a.rb∧(J.2.2.2=a.rd∨J.2.2.2=s.free a.ra a.rb∨J.2.2.2+s.held a.till a.ra a.rb=18014398509481984)
 rest:¬a.kind=1→¬a.kind=2→(J.1=5∨J.1=3)∧J.2.1=[]∧J.2.2.1=[]∧J.2.2.2=0
theorem QeA (b:Bool):QbA b=5∨QbA b=3:=by cases b;exact Or.inr rfl;exact Or.inl rfl
theorem Qlg {c:Cfg} {a:Acd} (h:QcR c a 0) (hk:a.kind=1):¬a.lines.xs.length+a.sets.xs.length=0:=by
 by_cases hK:Qck a
 ·by_cases hH:Qcm c a
  ·have h1:=h.write hK hH hk
   unfold QbT at h1;intro h0;rw[if_pos (by simp[h0])]at h1;omega
  ·have:=h.head hK hH;omega
 ·have:=h.kind hK;omega
theorem Qho {c:Cfg} {cs:List Ctr} {T:Nat} {s:Sta} {a:Acd} (hs:Qaz cs T s) (hcl:cs.length=c.cl) (hT:c.tills=(T:Int)) (hC:QcR c a 0):ShT s a (Qaf s a):=by
 obtain⟨⟨hk,_⟩,⟨⟨t1,t2⟩,_⟩,h1,h2⟩:=Qc1 hC;unfold Qaf;refine⟨fun k1=>?_,fun k2=>?_,fun k1 k2=>?_⟩
 ·rw[if_pos k1]
  obtain⟨l1,_,l3⟩:=h1 k1;have l4:=Qlg hC k1;unfold Qce at l3;rw[Vs]at l3;obtain⟨l5,l6⟩:=l3;have hm:(a.sets.xs.map s.raise).length=a.sets.xs.length:=VG ..
  cases hsu:a.sure with
  | true =>
   rw[if_pos rfl];split
   ·rw[hsu]at l6
    simp at l6;have hz:a.sets.xs=[]:=l6.2;exact⟨.one _ _ rfl (by rw[hz]) (by rw[hz];rfl),rfl⟩
   ·exact⟨.no,rfl⟩
  | false =>
   rw[if_neg (by simp)];unfold Qbw;split
   ·exact⟨.one _ _ rfl hm (QiV (QiA s _)),rfl⟩
   ·split
    ·rename_i hm1
     unfold Qbo;split
     ·exact⟨.no,rfl⟩
     ·rename_i hne
      obtain⟨M',e1,e2⟩:=QeV a.lines.xs (s.pools.map frL) [];rw[VU]at e1;refine⟨.cut _ _ (by rw[VG];exact hne) hsu hm1 (Ql0 ?_) (QiV (Qgf s _ _)),rfl⟩;unfold QaC;rw[e1];exact e2
    ·split
     ·rename_i hm1 hm2
      split
      ·rw[if_neg (by omega),if_pos hm2,Vs]at l5
       refine⟨.other _ (by have h:=l5.1;simpa using h) hsu hm2 rfl,rfl⟩
      ·exact⟨.no,rfl⟩
     ·split
      ·split
       ·rename_i hm3 _
        exact⟨show WrT s a 2 a.lines.xs (a.sets.xs.map s.raise) from .force _ _ (fun z=>by obtain⟨z1,z2⟩:=z;rw[hm]at z2;omega) hsu hm3 rfl hm (QiV (QiA s _)),rfl⟩
       ·exact⟨.no,rfl⟩
      ·exact⟨.no,rfl⟩
 ·rw[if_neg (by omega),if_pos k2]
  have h3:=h2 (by omega);unfold Qa8 at h3;rw[if_neg (by omega),if_neg (by omega)]at h3;obtain⟨⟨k,e1,e2⟩,e3,e4,e5⟩:=Qbg h3;simp only at e1 e3 e4 e5;obtain⟨u,hu⟩:∃u:Nat,a.till=(u:Int):=⟨a.till.toNat,by omega⟩;obtain⟨P,hP⟩:∃P,s.pools[k]?=some P:=⟨_,gE (by rw[hs.len];omega)⟩;obtain⟨y,_,hPo,b1,b2,hPl⟩:=hs.at hP;have h4:=QcC hPo b1 b2 true (t:=u) (w:=a.rb) (by omega);have h5:=QcC hPo b1 b2 false (t:=u) (w:=a.rb) (by omega);rw[←QcO hP e3 u,←hu,←e1]at h4;rw[←Qb9 hP e3 u,←e1]at h5;have e6:wrap64 (18014398509481984 - s.held a.till a.ra a.rb)=18014398509481984 - s.held a.till a.ra a.rb:=Z.w64_id (by omega);rw[e6];refine⟨rfl,rfl,rfl,?_⟩;simp only;generalize s.held a.till a.ra a.rb=h at *;generalize s.free a.ra a.rb=f at *;omega
 ·rw[if_neg k1,if_neg k2]
  split
  ·exact⟨QeA _,rfl,rfl,rfl⟩
  ·split
   ·exact⟨QeA _,rfl,rfl,rfl⟩
   ·exact⟨QeA _,rfl,rfl,rfl⟩
def Qcy (Q:Sta→Prop) (sure:Bool) (t:Nat):Sta→List Lin→Prop
 | _,[]=>True
 | s,x :: xs=>Q (s.lineAt x sure t)∧Qcy Q sure t (s.lineAt x sure t) xs
theorem Qcy.at {Q:Sta→Prop} {sure:Bool} {t:Nat} : ∀{xs:List Lin} {s:Sta},Qcy Q sure t s xs→∀{i:Nat} {x:Lin},xs[i]?=some x→Q (((xs.take i).foldl (fun s x=>s.lineAt x sure t) s).lineAt x sure t)
 | [],_,_,i,x,hx=>by simp at hx
 | y :: ys,s,h,0,x,hx=>by simp at hx;subst hx;exact h.1
 | y :: ys,s,h,i+1,x,hx=>by
  rw[List.take_succ_cons,VI];exact Qcy.at h.2 (by simpa using hx)
theorem Qe2 {cs:List Ctr} {T:Nat} (sure:Bool) (t:Nat) (ht:t<T):∀(xs:List Lin) (s:Sta),Qaz cs T s→(∀x∈xs,(∃k:Nat,x.c=(k:Int)∧k<s.pools.length)∧-1099511627776≤x.n∧x.n≤1099511627776) →
  (∀(k:Nat) (P:Pl) (w:Int),(w=0∨w=1)→s.pools[k]?=some P→ndS xs k w≤avP P sure t w)→Qcy (Qaz cs T) sure t s xs
 | [],s,h,_,_=>trivial
 | x :: xs,s,h,hx,hn=>by
  obtain⟨⟨k,ek,hk⟩,x1,x2⟩:=hx x (VH ..);obtain⟨P,hP⟩:∃P,s.pools[k]?=some P:=⟨_,gE hk⟩;obtain⟨y,hy,hPo,b1,b2,hPl⟩:=h.at hP;have hw:=Qkf x.n;have h0:=QkP xs k (Qam x.n);have h1:=hn k P (Qam x.n) hw hP;rw[Qbx,if_pos ⟨ek,rfl⟩]at h1;obtain⟨g1,g2,g3,g4,_⟩:=QdO hPo b1 b2 (n:=x.n) ⟨x1,x2⟩ (sure:=sure) (t:=t) (by omega) (by omega)
  have e:s.lineAt x sure t=s.upP k (P.line x.n sure t):=by
   unfold Sta.lineAt;rw[ek,Vv,Vu,hP];rfl
  have hQ:Qaz cs T (s.upP k (P.line x.n sure t)):=h.up hP (fun z hz=>by rw[hy]at hz;cases hz;exact g1) (by rw[g2];exact hPl);show Qaz cs T (s.lineAt x sure t)∧_;rw[e];refine⟨hQ,?_⟩;refine Qe2 sure t ht xs _ hQ (fun z hz=>?_) (fun k' P' w hw' hP'=>?_)
  ·obtain⟨⟨k2,e2,l2⟩,z1⟩:=hx z (Vy _ hz)
   exact⟨⟨k2,e2,by show k2<(s.pools.set k _).length;rw[VP];exact l2⟩,z1⟩
  ·rcases Qcs hP hP' with ⟨n1,h2⟩ | ⟨rfl,rfl⟩
   ·have h3:=hn k' P' w hw' h2
    rw[Qbx,if_neg (by rintro ⟨q,_⟩;rw[ek]at q;omega)]at h3;omega
   ·have h3:=hn k' P w hw' hP
    rw[Qbx]at h3;by_cases q:Qam x.n=w
    ·subst q
     rw[if_pos ⟨ek,rfl⟩]at h3;omega
    ·rw[if_neg (fun z=>q z.2)]at h3
     have e2:w=1 - Qam x.n:=by omega
     subst e2;omega
theorem Qij {cs:List Ctr} {T:Nat} {s r:Sta} (h:Qaz cs T s) (hr:Qaz cs T r) (e:r.pools.map Pl.d=s.pools.map Pl.d) {t:Nat} (ht:t<T) {xs:List Lin} (hl:QaK cs.length xs=true) (sure:Bool) (hf:(QaD xs).all (fun x=>decide (x.n≤(if sure=true then s.held (t:Int) x.a x.b else s.free x.a x.b)))=true) :
  Qcy (Qaz cs T) sure t r xs:=by
 obtain⟨l1,l2⟩:=Qb2 hl;refine Qe2 sure t ht xs r hr (fun x hx=>?_) (fun k P w hw hP=>?_)
 ·obtain⟨⟨k,e1,e2⟩,e3⟩:=l2 x hx
  exact⟨⟨k,e1,by rw[hr.len];exact e2⟩,e3⟩
 ·have h2:(r.pools.map Pl.d)[k]?=some P.d:=by rw[Vb,hP];rfl
  rw[e,Vb]at h2
  obtain⟨Q,hQ,eQ⟩:∃Q,s.pools[k]?=some Q∧Q.d=P.d:=by
   cases e:s.pools[k]? with
   | none=>rw[e]at h2;cases h2
   | some Q=>rw[e]at h2;exact⟨Q,rfl,Option.some.inj h2⟩
  have e2:Q.f0=P.f0:=Vl PlP.f0 eQ;have e3:Q.f1=P.f1:=Vl PlP.f1 eQ;have e4:Q.hs=P.hs:=Vl PlP.hs eQ;have ea:avP P sure t w=avP Q sure t w:=by unfold avP;rw[e2,e3,e4]
  obtain⟨y,_,hPo,b1,b2,hPl⟩:=h.at hQ
  have hq:(if sure=true then s.held (t:Int) (k:Int) w else s.free (k:Int) w)=avP Q sure t w:=by
   cases sure
   ·exact Qb9 hQ hw t
   ·exact QcO hQ hw t
  rw[ea,←hq];exact QgI (q:=fun a b=>if sure=true then s.held (t:Int) a b else s.free a b) (fun x hx=>(l2 x hx).2) (by omega) hf (k:Int) w (by show 0≤(if sure=true then s.held (t:Int) (k:Int) w else s.free (k:Int) w);rw[hq];exact(QcC hPo b1 b2 sure (by omega)).1)
def Qc8 (n:Nat) (x:Lin):Prop:=(∃k:Nat,x.c=(k:Int)∧k<n)∧¬x.n=0∧-1099511627776≤x.n∧x.n≤1099511627776
theorem Qen {n:Nat} {xs:List Lin} (h:QaK n xs=true):∀x∈xs,Qc8 n x:=fun x hx=>by
 obtain⟨l1,l2⟩:=Qb2 h;obtain⟨e1,e2⟩:=l2 x hx;refine⟨e1,fun h0=>?_,e2⟩;unfold QaK at h;simp only[Vs,List.all_eq_true,decide_eq_true_eq]at h;have h1:=h.2 x hx;unfold Qcn at h1;simp[h0]at h1
theorem Qd1 {cs:List Ctr} {T:Nat} (t:Nat) (ht:t<T):∀(xs:List Lin) (s:Sta) (M:List Lin),Qaz cs T s→(∀x∈xs,(∃k:Nat,x.c=(k:Int)∧k<s.pools.length)∧-1099511627776≤x.n∧x.n≤1099511627776) →
  ∃M',(xs.foldl Qax (s.pools.map frL,M)).2=M++M'∧Qcy (Qaz cs T) false t s M'∧∀x∈M',Qc8 s.pools.length x
 | [],s,M,h,_=>⟨[],by simp,trivial,fun _ h=>by cases h⟩
 | x :: xs,s,M,h,hx=>by
  obtain⟨⟨k,ek,hk⟩,x1,x2⟩:=hx x (VH ..);obtain⟨P,hP⟩:∃P,s.pools[k]?=some P:=⟨_,gE hk⟩;obtain⟨y,hy,hPo,b1,b2,hPl⟩:=h.at hP;have hb:=hPo.b b1 b2;have hg:(s.pools.map frL).getD x.c.toNat ⟨0,0⟩=frL P:=by rw[ek,Vv,Vu,Vb,hP];rfl
  have hxs:∀z∈xs,(∃k:Nat,z.c=(k:Int)∧k<s.pools.length)∧-1099511627776≤z.n∧z.n≤1099511627776:=fun z hz=>hx z (Vy _ hz)
  rw[VI];by_cases h0:Qcp (s.pools.map frL) x=0
  ·have e:Qax (s.pools.map frL,M) x=(s.pools.map frL,M):=by unfold Qax;rw[if_pos h0]
   rw[e];exact Qd1 t ht xs s M h hxs
  ·obtain⟨n,hn⟩:=exq (Qcp (s.pools.map frL) x)
   have hn':=hn;unfold Qcp at hn';rw[hg]at hn'
   have ha:QbY n≤avP P false t (Qam n)∧(n<0↔x.n<0)∧-1099511627776≤n∧n≤1099511627776:=by
    obtain⟨f1,f2⟩:=hb.f0;obtain⟨g1,g2⟩:=hb.f1;rw[hn]at h0;unfold QfJ frW frL QdD at hn';simp only at hn';by_cases hneg:x.n<0
    ·simp only[hneg,if_true]at hn'
     rw[if_neg (by omega)]at hn';have hn0:n<0:=by split at hn' <;> omega
     have hn1 : -n≤P.f0∧x.n≤n:=by split at hn' <;> omega
     have hw:Qam n=0:=by unfold Qam;rw[if_pos hn0]
     rw[hw];refine⟨?_,⟨fun _=>hneg,fun _=>hn0⟩,by omega,by omega⟩;unfold QbY avP;simp only[hn0,if_true,Bool.false_eq_true,if_false];omega
    ·simp only[hneg,if_false]at hn'
     rw[if_neg (by omega)]at hn';have hn0:¬n<0:=by split at hn' <;> omega
     have hn1:n≤P.f1∧n≤x.n:=by split at hn' <;> omega
     have hw:Qam n=1:=by unfold Qam;rw[if_neg hn0]
     rw[hw];refine⟨?_,⟨fun z=>absurd z hn0,fun z=>absurd z hneg⟩,by omega,by omega⟩;unfold QbY avP;simp only[hn0,if_false,Bool.false_eq_true,show ¬((1:Int)=0) by omega];omega
   obtain⟨a1,a2,a3,a4⟩:=ha;obtain⟨g1,g2,g3,g4,g5⟩:=QdO hPo b1 b2 (n:=n) ⟨a3,a4⟩ (sure:=false) (t:=t) (by omega) a1;have ha2:Qbh n=QbY n:=by unfold Qbh;exact Z.w64_id (by split <;> omega)
   have hmv:Qd8 (frL P) x.n (Qbh n)=frL (P.line n false t):=by
    rw[g5,ha2];unfold Qd8;by_cases q:n<0
    ·rw[if_pos q,if_pos (a2.1 q)]
    ·rw[if_neg q,if_neg (fun z=>q (a2.2 z))]
   have e:Qax (s.pools.map frL,M) x=((s.upP k (P.line n false t)).pools.map frL,M++[⟨x.c,n⟩]):=by
    unfold Qax;simp only;rw[if_neg h0,hn,hg,hmv,ek,Vv];show (_,_)=((s.pools.set k _).map frL,_);rw[List.map_set]
   have e1:s.lineAt ⟨x.c,n⟩ false t=s.upP k (P.line n false t):=by
    unfold Sta.lineAt;simp only;rw[ek,Vv,Vu,hP];rfl
   rw[e];have hQ:Qaz cs T (s.upP k (P.line n false t)):=h.up hP (fun z hz=>by rw[hy]at hz;cases hz;exact g1) (by rw[g2];exact hPl)
   obtain⟨M',h1,h2,h3⟩:=Qd1 t ht xs (s.upP k (P.line n false t)) (M++[⟨x.c,n⟩]) hQ (fun z hz=>by
    obtain⟨⟨k2,e2,l2⟩,z1⟩:=hxs z hz;exact⟨⟨k2,e2,by show k2<(s.pools.set k _).length;rw[VP];exact l2⟩,z1⟩)
   refine⟨⟨x.c,n⟩ :: M',by rw[h1,List.append_assoc];rfl,?_,fun z hz=>?_⟩
   ·show Qaz cs T (s.lineAt _ false t)∧Qcy _ _ _ (s.lineAt _ false t) _
    rw[e1];exact⟨hQ,h2⟩
   ·rcases List.mem_cons.1 hz with rfl | hz
    ·exact⟨⟨k,ek,hk⟩,by rw[←hn];exact h0,a3,a4⟩
    ·obtain⟨⟨k2,e2,l2⟩,z1⟩:=h3 z hz
     have l3:k2<(s.pools.set k (P.line n false t)).length:=l2;rw[VP]at l3;exact⟨⟨k2,e2,l3⟩,z1⟩
theorem QdX {c:Cfg} {cs:List Ctr} {T:Nat} {s r:Sta} {a:Acd} (hs:Qaz cs T s) (hr:Qaz cs T r) (e:r.pools.map Pl.d=s.pools.map Pl.d) (hcl:cs.length=c.cl) (hT:c.tills=(T:Int)) {t:Nat} (hat:a.till=(t:Int)) (hC:QcR c a 0):Qcy (Qaz cs T) a.sure t r (Qaf s a).2.1∧∀x∈(Qaf s a).2.1,Qc8 cs.length x:=by
 obtain⟨⟨hk,_⟩,⟨⟨t1,t2⟩,_⟩,h1,h2⟩:=Qc1 hC;have ht:t<T:=by omega
 have hno:∀b:Bool,Qcy (Qaz cs T) b t r []∧∀x∈([]:List Lin),Qc8 cs.length x:=fun b=>⟨trivial,fun _ h=>by cases h⟩
 unfold Qaf;by_cases k1:a.kind=1
 ·rw[if_pos k1]
  obtain⟨l1,_,l4⟩:=h1 k1;rw[←hcl]at l1 l4;have hfit:∀xs,QaK cs.length xs=true→s.fits xs=true→Qcy (Qaz cs T) false t r xs∧∀x∈xs,Qc8 cs.length x:=fun xs h1 h2=>⟨Qij hs hr e ht h1 false (by unfold Sta.fits at h2;simpa using h2),Qen h1⟩
  cases hsu:a.sure with
  | true =>
   rw[if_pos rfl];split
   ·rename_i hq
    refine⟨Qij hs hr e ht l1 true ?_,Qen l1⟩;unfold Sta.keeps at hq;rw[hat]at hq;simpa using hq
   ·exact hno true
  | false =>
   rw[if_neg (by simp)];unfold Qbw;split
   ·rename_i hq
    rw[Vs,Vs]at hq;exact hfit _ l1 hq.2.1
   ·split
    ·unfold Qbo
     split
     ·exact hno false
     ·obtain⟨l5,l6⟩:=Qb2 l1
      obtain⟨M',e1,e2,e3⟩:=Qd1 (cs:=cs) (T:=T) t ht a.lines.xs r [] hr (fun x hx=>by
       obtain⟨⟨k,e1,e2⟩,e3⟩:=l6 x hx;exact⟨⟨k,e1,by rw[hr.len];exact e2⟩,e3⟩)
      unfold QaC;rw[Qg8 e,e1,←hr.len];exact⟨e2,e3⟩
    ·split
     ·rename_i hm1 hm2
      split
      ·rename_i hf
       unfold Qce at l4;rw[Vs,if_neg (by omega),if_pos hm2,Vs]at l4;exact hfit _ l4.1.2 hf
      ·exact hno false
     ·split
      ·split
       ·rename_i hq
        rw[Vs]at hq;exact hfit _ l1 hq.1
       ·exact hno false
      ·exact hno false
 ·rw[if_neg k1]
  repeat' split
  all_goals exact hno _
end Go.Proofs.YtiogibfhafoapaaGreat
namespace Go.Proofs.YtiogibfhafoapaaGreat
open Go.RowKit
open Z (Sli QaE Acd Qad)
theorem Qfr (w:World) (s:Sta) (hs:Qae w s) (hrn:s.rn≤4194304) (a:Acd) (ha:Qad w a) (hpr:∀x∈a.sets.xs,0≤x.a∧x.a<(s.rn:Int)) (oc tw:Int) (p q:Option Addr) (n m cap cap':Nat) (L:List Lin) (Ss:List Tri) (hn:L.length=n) (hm:Ss.length=m) (hnl:n≤140737488355328) (hml:m≤140737488355328) (hc:Cel w p 2 (L.map Qal)) (hd:Cel w q 3 (Ss.map Qar)) (h:WrT s a oc L Ss) :
  Calls Tryz.prog 43 #[.agg s.arr,.agg a.arr,.agg #[.int .i64 oc,.slice p n cap,.slice q m cap',.int .i64 tw],.bool (decide (n=0) && decide (m=0))] w fun e w'=>e=.returned (.bool true)∧Below w.heap.size w w':=by
 have hf:¬(L.length=0∧Ss.length=0)→(decide (n=0) && decide (m=0))=false:=fun h=>by
  rw[hn,hm]at h;by_cases h1:n=0
  ·by_cases h2:m=0
   ·exact absurd ⟨h1,h2⟩ h
   ·simp[h2]
  ·simp[h1]
 obtain⟨S,hS⟩:=exq s.arr;obtain⟨AA,hA⟩:=exq a.arr;obtain⟨TT,hT⟩:∃T:Array Value,#[.int .i64 oc,.slice p n cap,.slice q m cap',.int .i64 tw]=T:=⟨_,rfl⟩;have hSz:S.size=6:=by rw[←hS];rfl
 have hAz:AA.size=15:=by rw[←hA];rfl
 obtain⟨w2,hw2,hb2,hx2,hy2,hz2,hsz⟩:=QcL w S AA TT 42 55 61
 have HA:Hid (∀W,Below w2.heap.size w2 W→W.cell? ⟨w.heap.size+1,3,none⟩=some (.bool a.sure)∧W.cell? ⟨w.heap.size+1,4,none⟩=some (.slice a.lines.p a.lines.n a.lines.c)∧W.cell? ⟨w.heap.size+1,6,none⟩=some (.slice a.sets.p a.sets.n a.sets.c)∧W.cell? ⟨w.heap.size+1,7,none⟩=some (.int .i64 a.mg)∧W.cell? ⟨w.heap.size+1,8,none⟩=some (.slice a.other.p a.other.n a.other.c)):=fun W h=>by
  have h1:=(h.block _ (Qab hy2)).trans hy2;refine⟨?_,?_,?_,?_,?_⟩ <;> · rw[cRq h1,←hA];rfl
 have HT:Hid (∀W,Below w2.heap.size w2 W→W.cell? ⟨w.heap.size+1+1,0,none⟩=some (.int .i64 oc)∧W.cell? ⟨w.heap.size+1+1,1,none⟩=some (.slice p n cap)∧W.cell? ⟨w.heap.size+1+1,2,none⟩=some (.slice q m cap')):=fun W h=>by
  have h1:=(h.block _ (Qab hz2)).trans hz2;refine⟨?_,?_,?_⟩ <;> · rw[cRq h1,←hT];rfl
 have HLS:Hid (∀W,Below w2.heap.size w2 W→(Instr.loadAt 42 (.pointer (some ⟨w.heap.size,0,none⟩))).run Tryz.prog W=.ok (.agg S) W):=fun W h=>lr42 ((h.block _ (Qab hx2)).trans hx2) (by rw[hSz];exact Tryz.sizeS)
 have HLA:Hid (∀W,Below w2.heap.size w2 W→(Instr.loadAt 55 (.pointer (some ⟨w.heap.size+1,0,none⟩))).run Tryz.prog W=.ok (.agg AA) W):=fun W h=>lr55 ((h.block _ (Qab hy2)).trans hy2) (by rw[hAz];exact Z.Tryz.sizeA)
 have HWh:Hid (whB s Ss a.sets.xs=true→∀W,Below w2.heap.size w2 W→Calls Tryz.prog 95 #[.agg S,.agg AA,.slice q m cap'] W fun e w'=>e=.returned (.bool true)∧Below W.heap.size W w'):=fun e W h=>by
  have h2:=hb2.trans (h.mono hb2.size);have h3:=QdM W s (hs.below h2) hrn a (ha.below h2) hpr q m cap' Ss hm hml (hd.below h2);rw[e,hS,hA]at h3;exact h3
 have HCu:Hid (Qkt L a.lines.xs=true→∀W,Below w2.heap.size w2 W→Calls Tryz.prog 96 #[.slice p n cap,.slice a.lines.p a.lines.n a.lines.c] W fun e w'=>e=.returned (.bool true)∧Below W.heap.size W w'):=fun e W h=>by
  have h2:=hb2.trans (h.mono hb2.size);have h3:=Qj9 W p a.lines.p n a.lines.n cap a.lines.c L a.lines.xs hn ha.lines.len hnl (by have:=ha.lines.most;omega) (hc.below h2) (ha.lines.cel.below h2);rw[e]at h3;exact h3
 have HEq:Hid (∀y:Sli Lin,QaE w 2 Qal y→L=y.xs→∀W,Below w2.heap.size w2 W→Calls Tryz.prog 25 #[.slice p n cap,.slice y.p y.n y.c] W fun e w'=>e=.returned (.bool true)∧Below W.heap.size W w'):=fun y hy e W h=>by
  have h2:=hb2.trans (h.mono hb2.size);exact Qa6 W p y.p n y.n cap y.c L y.xs hn hy.len hnl (hc.below h2) (hy.below h2).cel true (by simp[e])
 obtain⟨HB2,HW2⟩:=Qmj hb2 hw2;have HI2:Hid (Below w2.heap.size w2 w2):=bR;have HO:=Qaa (And.intro ha.lines (And.intro ha.other ha.sets.len));rw[hS,hA,hT];clear hw2 hb2 hx2 hy2 hz2 hsz hs ha hpr hS hA hT hSz hAz hc hd hnl hml hrn
 cases h with
 | no =>
  obtain rfl:n=0:=by rw[←hn];rfl
  obtain rfl:m=0:=by rw[←hm];rfl
  rw[show (decide ((0:Nat)=0) && decide ((0:Nat)=0))=true from rfl];obtain⟨t0,-,-⟩:=HT.out w2 HI2.out;clear HO hn hm hf;go_enter Tryz.func43,Tryz.ntmps43;go_upto_region 1 with (fail);rw[HW2.out];go_wp2;go_ret;exact⟨rfl,HB2.out.trans (HI2.out.mono HB2.out.size)⟩
 | one _ _ hL hl hw =>
  have HX:=Qaa (HEq.out a.lines HO.out.1 hL);have HWk:=Qaa (HWh.out hw);have hmn:a.sets.n=m:=by rw[←hm,hl];exact HO.out.2.2.symm
  clear hL hl hw;obtain⟨nn,hnn⟩:∃r,(decide (n=0) && decide (m=0))=r:=⟨_,rfl⟩;rw[hnn];clear hnn;rw[hmn]at HA;obtain⟨t0,t1,t2⟩:=HT.out w2 HI2.out;obtain⟨-,a4,a6,-,-⟩:=HA.out w2 HI2.out;clear HO hn hm hf hmn;go_enter Tryz.func43,Tryz.ntmps43;go_upto_region 1 with (fail);rw[HW2.out]
  go_wp2_with (
    first
    | ((with_reducible refine glq 42 4 ?_);refine Qak w.heap.size 0 S (by exact rfl) rfl (HLS.out _ HB3.out) ?_)
    | ((with_reducible refine glq 55 5 ?_);refine Qak (w.heap.size+1) 0 AA (by exact rfl) rfl (HLA.out _ HB3.out) ?_)
    | (go_at_call 25;refine(HX.out _ HI2.out).mono ?_;rintro eHB3 w3 ⟨rfl,hHB3⟩;have HB3:Hid (Below w2.heap.size w2 w3):=HI2.out.trans (hHB3.mono HI2.out.size);clear hHB3 t0 t1 t2 a4 a6;obtain⟨-,-,t2⟩:=HT.out w3 HB3.out;obtain⟨-,-,a6,-,-⟩:=HA.out w3 HB3.out)
    | (go_at_call 95;refine(HWk.out _ HB3.out).mono ?_;rintro eHB4 w4 ⟨rfl,hHB4⟩;have HB4:Hid (Below w2.heap.size w2 w4):=HB3.out.trans (hHB4.mono HB3.out.size);clear hHB4;skip)
    | fail)
  go_ret;exact⟨rfl,HB2.out.trans (HB4.out.mono HB2.out.size)⟩
 | cut _ _ h0 hsu hmg hC hw =>
  have HX:=Qaa (HCu.out hC);have HWk:=Qaa (HWh.out hw);rw[hf h0];clear h0 hC hw;rw[hsu]at HA;rw[hmg]at HA;obtain⟨t0,t1,t2⟩:=HT.out w2 HI2.out;obtain⟨a3,a4,-,a7,-⟩:=HA.out w2 HI2.out;clear HO hn hm hf hsu hmg;go_enter Tryz.func43,Tryz.ntmps43;go_upto_region 1 with (fail);rw[HW2.out]
  go_wp2_with (
    first
    | ((with_reducible refine glq 42 4 ?_);refine Qak w.heap.size 0 S (by exact rfl) rfl (HLS.out _ HB3.out) ?_)
    | ((with_reducible refine glq 55 5 ?_);refine Qak (w.heap.size+1) 0 AA (by exact rfl) rfl (HLA.out _ HB3.out) ?_)
    | (go_at_call 96;refine(HX.out _ HI2.out).mono ?_;rintro eHB3 w3 ⟨rfl,hHB3⟩;have HB3:Hid (Below w2.heap.size w2 w3):=HI2.out.trans (hHB3.mono HI2.out.size);clear hHB3 t0 t1 t2 a3 a4 a7;obtain⟨-,-,t2⟩:=HT.out w3 HB3.out)
    | (go_at_call 95;refine(HWk.out _ HB3.out).mono ?_;rintro eHB4 w4 ⟨rfl,hHB4⟩;have HB4:Hid (Below w2.heap.size w2 w4):=HB3.out.trans (hHB4.mono HB3.out.size);clear hHB4;skip)
    | fail)
  go_ret;exact⟨rfl,HB2.out.trans (HB4.out.mono HB2.out.size)⟩
 | other _ h0 hsu hmg hL =>
  have HX:=Qaa (HEq.out a.other HO.out.2.1 hL);rw[hf (fun z=>h0 z.1)];obtain rfl:m=0:=by rw[←hm];rfl
  clear h0 hL;rw[hsu]at HA;rw[hmg]at HA;obtain⟨t0,t1,t2⟩:=HT.out w2 HI2.out;obtain⟨a3,-,-,a7,a8⟩:=HA.out w2 HI2.out;clear HO hn hm hf hsu hmg;go_enter Tryz.func43,Tryz.ntmps43;go_upto_region 1 with (fail);rw[HW2.out]
  go_wp2_with (
    first
    | (go_at_call 25;refine(HX.out _ HI2.out).mono ?_;rintro eHB3 w3 ⟨rfl,hHB3⟩;have HB3:Hid (Below w2.heap.size w2 w3):=HI2.out.trans (hHB3.mono HI2.out.size);clear hHB3 t0 t1 t2 a3 a7 a8;obtain⟨-,-,t2⟩:=HT.out w3 HB3.out)
    | fail)
  go_ret;exact⟨rfl,HB2.out.trans (HB3.out.mono HB2.out.size)⟩
 | force _ _ h0 hsu hmg hL hl hw =>
  have HX:=Qaa (HEq.out a.lines HO.out.1 hL);have HWk:=Qaa (HWh.out hw);have hmn:a.sets.n=m:=by rw[←hm,hl];exact HO.out.2.2.symm
  rw[hf h0];clear h0 hL hl hw;rw[hsu]at HA;rw[hmg]at HA;rw[hmn]at HA;obtain⟨t0,t1,t2⟩:=HT.out w2 HI2.out;obtain⟨a3,a4,a6,a7,-⟩:=HA.out w2 HI2.out;clear HO hn hm hf hsu hmg hmn;go_enter Tryz.func43,Tryz.ntmps43;go_upto_region 1 with (fail);rw[HW2.out]
  go_wp2_with (
    first
    | ((with_reducible refine glq 42 4 ?_);refine Qak w.heap.size 0 S (by exact rfl) rfl (HLS.out _ HB3.out) ?_)
    | ((with_reducible refine glq 55 5 ?_);refine Qak (w.heap.size+1) 0 AA (by exact rfl) rfl (HLA.out _ HB3.out) ?_)
    | (go_at_call 25;refine(HX.out _ HI2.out).mono ?_;rintro eHB3 w3 ⟨rfl,hHB3⟩;have HB3:Hid (Below w2.heap.size w2 w3):=HI2.out.trans (hHB3.mono HI2.out.size);clear hHB3 t0 t1 t2 a3 a4 a6 a7;obtain⟨-,-,t2⟩:=HT.out w3 HB3.out;obtain⟨-,-,a6,-,-⟩:=HA.out w3 HB3.out)
    | (go_at_call 95;refine(HWk.out _ HB3.out).mono ?_;rintro eHB4 w4 ⟨rfl,hHB4⟩;have HB4:Hid (Below w2.heap.size w2 w4):=HB3.out.trans (hHB4.mono HB3.out.size);clear hHB4;skip)
    | fail)
  go_ret;exact⟨rfl,HB2.out.trans (HB4.out.mono HB2.out.size)⟩
end Go.Proofs.YtiogibfhafoapaaGreat
namespace Go.Proofs.YtiogibfhafoapaaGreat
open Go.RowKit
open Z (Sli QaE Elt Acd Qad Ctr ctc)
structure Cw (B:Nat) (w4 W:World) (X0 X:Sta):Prop where
 mt:Mut B w4 W
 ow:Qac B W X
 sm:Qbv X0 X
def Pl.getF (P:Pl) (b:Nat):Int:=if b=0 then P.f0 else P.f1
def Pl.setF (P:Pl) (b:Nat) (v:Int):Pl:=if b=0 then ⟨P.v,v,P.f1,P.hp,P.hl,P.hc,P.hs⟩ else ⟨P.v,P.f0,v,P.hp,P.hl,P.hc,P.hs⟩
def Pl.setV (P:Pl) (v:Int):Pl:=⟨v,P.f0,P.f1,P.hp,P.hl,P.hc,P.hs⟩
def Pl.setH (P:Pl) (t:Nat) (l:Lin):Pl:=⟨P.v,P.f0,P.f1,P.hp,P.hl,P.hc,P.hs.set t l⟩
def Lin.getW (l:Lin) (b:Nat):Int:=if b=0 then l.c else l.n
def Lin.setW (l:Lin) (b:Nat) (v:Int):Lin:=if b=0 then ⟨v,l.n⟩ else ⟨l.c,v⟩
theorem Qmm (P:Pl) (b:Nat) (v:Int):(P.setF b v).hs=P.hs∧(P.setF b v).hp=P.hp∧(P.setF b v).hl=P.hl∧(P.setF b v).hc=P.hc∧(P.setF b v).v=P.v:=by unfold Pl.setF;split <;> exact⟨rfl,rfl,rfl,rfl,rfl⟩
theorem Qmn (P:Pl) {b q:Nat} (h:¬b=q∧b<2∧q<2) (v:Int):(P.setF b v).getF q=P.getF q:=by
 obtain⟨h1,h2,h3⟩:=h;unfold Pl.setF Pl.getF;rcases (show (b=0∧q=1)∨(b=1∧q=0) by omega) with ⟨rfl,rfl⟩ | ⟨rfl,rfl⟩ <;> simp
def Wy (n:Int) (b q:Nat) (m:Int):Prop:=(n<0∧b=0∧q=1∧m = -n)∨(¬n<0∧b=1∧q=0∧m=n)
theorem Qmo {n m:Int} {b q:Nat} (h:Wy n b q m) (hn : -1099511627776≤n∧n≤1099511627776) (P:Pl) (t:Nat) {l:Lin} (hl:P.hs[t]?=some l) :
  P.line n false t=((P.setF b (wrap64 (P.getF b - m))).setF q (wrap64 (P.getF q+m))).setV (wrap64 (P.v+n))∧P.line n true t=((P.setH t (l.setW b (wrap64 (l.getW b - m)))).setF q (wrap64 (P.getF q+m))).setV (wrap64 (P.v+n)):=by
 unfold Pl.line Pl.setF Pl.getF Pl.setV Pl.setH Lin.setW Lin.getW;rw[hl];rcases h with ⟨h1,rfl,rfl,rfl⟩ | ⟨h1,rfl,rfl,rfl⟩
 ·have e:wrap64 (-n) = -n:=Z.w64_id (by omega)
  simp[h1,e]
 ·simp[h1]
structure StF (B:Nat) (w4 W:World) (X0 X:Sta) (k g:Nat) (P P':Pl) (a:Addr) (o v:Int):Prop where
 f0:W.cell? a=some (.int .i64 o)
 fz:W.frozen? a=false
 cw:Cw B w4 (W.setCell a (.int .i64 v)).drew X0 (X.upP k P')
 at_:(X.upP k P').pools[k]?=some P'
theorem Cw.stF {B:Nat} {w4 W:World} {X0 X:Sta} {k g:Nat} {P:Pl} (h:Cw B w4 W X0 X) (hP:X.pools[k]?=some P) (hg:X.pp=some ⟨g,0,none⟩) (b:Nat) (hb:b<2) (v:Int):StF B w4 W X0 X k g P (P.setF b v) ⟨g,k*4+1+b,none⟩ (P.getF b) v:=by
 obtain⟨g2,eg,hgB,⟨C,hC⟩,hf,hc,hst⟩:=h.ow.setP hP;obtain rfl:g=g2:=by rw[hg]at eg;cases eg;rfl
 have e:k*4+1+b=k*4+(1+b):=by omega
 have hp:=Qmm P b v;have hl:(P.setF b v).hl=P.hl:=hp.2.2.1;refine⟨?_,by rw[e];exact hf _,⟨(h.mt.set hC (Or.inl rfl) hgB _ _).drew,?_,h.sm.trans (Qbv.up hP hl)⟩,Vn (Vd.1 hP).1⟩
 ·rw[e]
  refine hc _ _ ?_;unfold Pl.getF;rcases (show b=0∨b=1 by omega) with rfl | rfl <;> rfl
 ·rw[e]
  refine(hst (1+b) _ (.int .i64 v) (by omega) ?_ hp.1 hp.2.1 hp.2.2.1 hp.2.2.2.1).below (bR.drew);unfold Pl.setF;rcases (show b=0∨b=1 by omega) with rfl | rfl <;> rfl
theorem Cw.stV {B:Nat} {w4 W:World} {X0 X:Sta} {k g:Nat} {P:Pl} (h:Cw B w4 W X0 X) (hP:X.pools[k]?=some P) (hg:X.pp=some ⟨g,0,none⟩) (v:Int):StF B w4 W X0 X k g P (P.setV v) ⟨g,k*4,none⟩ P.v v:=by
 obtain⟨g2,eg,hgB,⟨C,hC⟩,hf,hc,hst⟩:=h.ow.setP hP;obtain rfl:g=g2:=by rw[hg]at eg;cases eg;rfl
 exact⟨hc 0 _ rfl,hf _,⟨(h.mt.set hC (Or.inl rfl) hgB _ _).drew,(hst 0 (P.setV v) (.int .i64 v) (by omega) rfl rfl rfl rfl rfl).below (bR.drew),h.sm.trans (Qbv.up hP rfl)⟩,Vn (Vd.1 hP).1⟩
theorem Cw.stH {B:Nat} {w4 W:World} {X0 X:Sta} {k g t:Nat} {P:Pl} {l:Lin} (h:Cw B w4 W X0 X) (hP:X.pools[k]?=some P) (hl:P.hs[t]?=some l) (hg:P.hp=some ⟨g,0,none⟩) (b:Nat) (hb:b<2) (v:Int):StF B w4 W X0 X k g P (P.setH t (l.setW b v)) ⟨g,t*2+b,none⟩ (l.getW b) v:=by
 obtain⟨g2,eg,hgB,⟨C,hC⟩,hf,hc,hst⟩:=h.ow.setH hP hl;obtain rfl:g=g2:=by rw[hg]at eg;cases eg;rfl
 refine⟨hc _ _ ?_,hf _,⟨(h.mt.set hC (Or.inr (Or.inl rfl)) hgB _ _).drew,(hst b _ (.int .i64 v) hb ?_).below (bR.drew),h.sm.trans (Qbv.up hP rfl)⟩,Vn (Vd.1 hP).1⟩
 ·unfold Lin.getW
  rcases (show b=0∨b=1 by omega) with rfl | rfl <;> rfl
 ·unfold Lin.setW
  rcases (show b=0∨b=1 by omega) with rfl | rfl <;> rfl
theorem Cw.box {W:World} {X X1:Sta} {xb g n:Nat} (hX:W.heap[xb]?=some (.cells X1.arr 42 (0,0))) (e:X1.arr=X.arr) (hg:X.pp=some ⟨g,0,none⟩) (hn:X.pn=n):W.cell? ⟨xb,1,none⟩=some (.slice (some ⟨g,0,none⟩) n X.pc):=by
 rw[cRq hX,e,←hg,←hn];rfl
theorem Cw.held {B:Nat} {w4 W:World} {X0 X:Sta} {k g gh T:Nat} {P:Pl} {c:Nat} (h:Cw B w4 W X0 X) (hP:X.pools[k]?=some P) (hg:X.pp=some ⟨g,0,none⟩) (h1:P.hp=some ⟨gh,0,none⟩) (h2:P.hl=T) (h3:P.hc=c):W.cell? ⟨g,k*4+3,none⟩=some (.slice (some ⟨gh,0,none⟩) T c):=by
 obtain⟨g2,eg,-,-,-,hc,-⟩:=h.ow.setP hP;obtain rfl:g=g2:=by rw[hg]at eg;cases eg;rfl
 rw[←h1,←h2,←h3];exact hc 3 _ rfl
end Go.Proofs.YtiogibfhafoapaaGreat
