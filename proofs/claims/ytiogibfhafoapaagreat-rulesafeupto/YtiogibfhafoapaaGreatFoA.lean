import Derived.Test.YtiogibfhafoapaaGreatDcW
import Derived.Test.YtiogibfhafoapaaGreatAppB0
import Derived.Test.YtiogibfhafoapaaGreatRwK
import Derived.Test.YtiogibfhafoapaaGreatAbZ
import Derived.Test.YtiogibfhafoapaaGreatAbA
import Derived.Test.YtiogibfhafoapaaGreatAbE
import Derived.Test.YtiogibfhafoapaaGreatDcR
import Derived.Test.YtiogibfhafoapaaGreatZE
set_option maxRecDepth 100000
set_option maxHeartbeats 8000000
set_option linter.unusedSimpArgs false
set_option linter.unusedVariables false
namespace Go.Proofs.YtiogibfhafoapaaGreat
open Go.RowKit
open Z (Sli QaE Elt CpS)
structure Cst (w wr:World) (s:Sta) (A Y X:Array Value) (p:Option Addr) (n cc j:Nat) (R:List Pl):Prop where
 cps:CpS w wr 42 A Y X
 len:R.length=n
 row:wr.ownsRow (w.heap.size+1+1+1) 121 4 (.slice p n cc) n (Z.flat plc R)
 same:R.map Pl.d=s.pools.map Pl.d
 rest:∀i,j≤i→R[i]?=s.pools[i]?
 held:∀(i:Nat) (x:Pl),i<j→R[i]?=some x→wr.ownsRow (w.heap.size+1+1+1) 118 2 x.hv x.hl (Z.flat Qal x.hs)∧x.hs.length=x.hl
 apart:∀(i k:Nat) (x y:Pl),i<j→k<j→i≠k→R[i]?=some x→R[k]?=some y→∀g,x.hv.ownBlock=some g→y.hv.ownBlock≠some g
theorem Qh9 {R:List Pl} {j:Nat} {x y:Pl} (hx:R[j]?=some x) (hd:y.d=x.d):(R.set j y).map Pl.d=R.map Pl.d:=by
 apply List.ext_getElem?;intro i;rw[Vb,Vb,List.getElem?_set];by_cases h:j=i
 ·subst h
  have hl:=(Vd.1 hx).1;rw[if_pos rfl,if_pos hl,hx];simp[hd]
 ·rw[if_neg h]
theorem Cst.step {w wr w4:World} {s:Sta} {A Y X:Array Value} {g n cc j:Nat} {R:List Pl} {P:Pl} (h:Cst w wr s A Y X (some ⟨g,0,none⟩) n cc j R) (hP:R[j]?=some P) (hb:Below wr.heap.size wr w4) (q:Option Addr) (d:Nat) (hq:w4.ownsRow wr.heap.size 118 2 (.slice q P.hl d) P.hl (Z.flat Qal P.hs)) (hl:P.hs.length=P.hl) :
  (∃u,w4.cell? ⟨g,j*4+3,none⟩=some u)∧w4.frozen? ⟨g,j*4+3,none⟩=false∧Cst w (w4.setCell ⟨g,j*4+3,none⟩ (.slice q P.hl d)) s A Y X (some ⟨g,0,none⟩) n cc (j+1) (R.set j ⟨P.v,P.f0,P.f1,q,P.hl,d,P.hs⟩):=by
 have hr4:=Z.owns_keep h.row hb;have hjl:=(Vd.1 hP).1;obtain⟨g',e,hgl,hc⟩:=row_cell hr4 (QaF (f:=plc) (sz:=4) (fun _=>rfl) R j 3 P _ hP rfl);cases e;have hgB:w.heap.size+1+1+1≤g:=Z.owns_base hr4 g rfl
 obtain⟨cur,hcur⟩:∃cur,w4.heap[g]?=some (.cells cur 121 (0,0)):=by
  rcases hr4.2 with ⟨h1,_⟩ | ⟨g',cap,cur,h1,_,hg',_⟩
  ·cases h1
  ·cases h1;exact⟨cur,hg'⟩
 have hoth:∀k,k≠g→(w4.setCell ⟨g,j*4+3,none⟩ (.slice q P.hl d)).heap[k]?=w4.heap[k]?:=fun k hk=>Below.heap_setCell _ _ _ _ hk
 have hkeep:∀{B sz m:Nat} {v:Value} {xs:List Value},w4.ownsRow B 118 sz v m xs→(w4.setCell ⟨g,j*4+3,none⟩ (.slice q P.hl d)).ownsRow B 118 sz v m xs:=fun hv=>RB.owns_kept' hv (fun k e=>hoth k (fun e'=>Z.owns_ne hv hcur (by decide) (by rw[e,e'])))
 have hnew:∀k,(Value.slice q P.hl d).ownBlock=some k→wr.heap.size≤k:=fun k e=>Z.owns_base hq k e
 have hold:∀(i:Nat) (x:Pl),i<j→R[i]?=some x→∀k,x.hv.ownBlock=some k→k<wr.heap.size:=fun i x hi hx k e=>RB.owns_lt (h.held i x hi hx).1 k e
 refine⟨⟨_,hc⟩,VN _ _ _ _ _ hcur,⟨⟨(hoth _ (by omega)).trans ((hb.block _ (Qab h.cps.a)).trans h.cps.a),(hoth _ (by omega)).trans ((hb.block _ (Qab h.cps.z)).trans h.cps.z),(hoth _ (by omega)).trans ((hb.block _ (Qab h.cps.x)).trans h.cps.x),(h.cps.bel.trans (hb.mono h.cps.bel.size)).setCell (p:=⟨g,j*4+3,none⟩) (by show w.heap.size≤g;omega) _⟩,by rw[VP];exact h.len,?_,?_,?_,?_,?_⟩⟩
 ·have h1:=Qbm (k:=j*4+3) hr4 (.slice q P.hl d)
  rw[QbC (f:=plc) (sz:=4) (fun _=>rfl) R j 3 P ⟨P.v,P.f0,P.f1,q,P.hl,d,P.hs⟩ (.slice q P.hl d) hP (by omega) rfl]at h1;exact h1
 ·rw[Qh9 (y:=⟨P.v,P.f0,P.f1,q,P.hl,d,P.hs⟩) hP rfl];exact h.same
 ·intro i hi
  rw[VR (by omega)];exact h.rest i (by omega)
 ·intro i x hi hx
  rcases Nat.lt_or_ge i j with hij | hij
  ·rw[VR (by omega)]at hx
   exact⟨hkeep (Z.owns_keep (h.held i x hij hx).1 hb),(h.held i x hij hx).2⟩
  ·obtain rfl:i=j:=by omega
   rw[Vn hjl]at hx;cases hx;exact⟨hkeep (Z.owns_le hq (by have:=hb.size;have:=Qab h.cps.x;omega)),hl⟩
 ·intro i k x y hi hk hik hx hy g' e1 e2
  rcases Nat.lt_or_ge i j with hij | hij
  ·rw[VR (by omega)]at hx
   rcases Nat.lt_or_ge k j with hkj | hkj
   ·rw[VR (by omega)]at hy
    exact h.apart i k x y hij hkj hik hx hy g' e1 e2
   ·obtain rfl:k=j:=by omega
    rw[Vn hjl]at hy;cases hy;have:=hold i x hij hx g' e1;have:=hnew g' e2;omega
  ·obtain rfl:i=j:=by omega
   rw[Vn hjl]at hx;cases hx;rw[VR (by omega)]at hy;have:=hold k y (by omega) hy g' e2;have:=hnew g' e1;omega
theorem QdT {α:Type} {f:α→List Value} {sz by_:Nat} {t e ty:TypeId} (E:Elt f sz by_ t e) {w wr:World} {A Y X:Array Value} (h:CpS w wr ty A Y X) (hte:ty≠e) (s:Sli α) (hs:QaE w sz f s) (i:Nat) (hi:i<X.size) (tt:TypeId) :
  ∃(c:Sli α) (w4:World),(Builtin.append_ #[t,t] tt #[.slice (some ⟨wr.heap.size,0,none⟩) 0 0,.slice s.p s.n s.c]).run Tryz.prog (wr.alloc (.cells #[] e))=.ok (.slice c.p c.n c.c) w4∧c.xs=s.xs ∧
   (∃u,w4.cell? ⟨w.heap.size+1+1,i,none⟩=some u)∧w4.frozen? ⟨w.heap.size+1+1,i,none⟩=false ∧
   CpS w (w4.setCell ⟨w.heap.size+1+1,i,none⟩ (.slice c.p c.n c.c)) ty A Y (X.setIfInBounds i (.slice c.p c.n c.c)) ∧
   Z.SlOwn (w.heap.size+1+1+1) (w4.setCell ⟨w.heap.size+1+1,i,none⟩ (.slice c.p c.n c.c)) e sz f c ∧
   (∀B e' sz' v n xs,w.heap.size+1+1+1≤B→wr.ownsRow B e' sz' v n xs→(w4.setCell ⟨w.heap.size+1+1,i,none⟩ (.slice c.p c.n c.c)).ownsRow B e' sz' v n xs)∧(∀g,(Value.slice c.p c.n c.c).ownBlock=some g→wr.heap.size≤g)∧wr.heap.size≤w4.heap.size:=by
 have hlt:=Z.cp_lt h;have hal:Below wr.heap.size wr (wr.alloc (.cells #[] e)):=(Below.refl _ wr).alloc (Va _) _;have hrow:(wr.alloc (.cells #[] e)).ownsRow wr.heap.size e sz (.slice (some ⟨wr.heap.size,0,none⟩) 0 0) 0 []:=⟨by simp,.inr ⟨wr.heap.size,0,#[],rfl,Va _,hNq _ _,Va _,by unfold maxLen;omega,by simp,by simp⟩⟩;have hcel:Cel (wr.alloc (.cells #[] e)) s.p sz (s.xs.map f):=hs.cel.below (h.bel.trans (hal.mono h.bel.size));have hm:=hs.most;obtain⟨v',w4,hr,ho,hg,_⟩:=E.run_append (wr.alloc (.cells #[] e)) tt wr.heap.size 0 (.slice (some ⟨wr.heap.size,0,none⟩) 0 0) [] hrow s.p s.n s.c s.xs hs.len hcel (by omega) (by simp);rw[Nat.zero_add,VU]at ho;obtain⟨p,c,rfl,_⟩:=Z.slice_form ho;have hg':Below wr.heap.size wr w4:=hal.grown hg (by simp) (fun k e=>by cases e;exact Va _);have ha4:w4.heap[w.heap.size]?=some (.cells A ty (0,0)):=(hg'.block _ (by omega)).trans h.a;have hz4:w4.heap[w.heap.size+1]?=some (.cells Y ty (0,0)):=(hg'.block _ (by omega)).trans h.z;have hx4:w4.heap[w.heap.size+1+1]?=some (.cells X ty (0,0)):=(hg'.block _ (by omega)).trans h.x;refine⟨⟨p,s.n,c,s.xs⟩,w4,hr,rfl,⟨X[i],?_⟩,VN _ _ _ _ _ hx4,⟨?_,?_,Vx _ _ _ _ _ _ hx4,?_⟩,⟨?_,hs.len,hs.most⟩,?_,fun g e=>Z.owns_base ho g e,hg'.size⟩
 ·rw[cRq hx4];exact Array.getElem?_eq_getElem hi
 ·rw[Ve _ _ _ _ (by show w.heap.size≠w.heap.size+1+1;omega)];exact ha4
 ·rw[Ve _ _ _ _ (by show w.heap.size+1≠w.heap.size+1+1;omega)];exact hz4
 ·exact(h.bel.trans (hg'.mono h.bel.size)).setCell (p:=⟨w.heap.size+1+1,i,none⟩) (by show w.heap.size≤w.heap.size+1+1;omega) _
 ·exact Z.owns_set (Z.owns_le ho (by omega)) hx4 hte
 ·intro B e' sz' v n xs hB hown
  exact Z.owns_low_set (Z.owns_keep hown hg') (by omega)
theorem Tryz.sizeS:(Tryz.prog.info? 42).map (·.size)=some 6:=by kernel_rfl
theorem Qat (w:World) (s:Sta) (hs:Qae w s) (hsm:QjI s) :
  Calls Tryz.prog 15 #[.agg (qS s)] w fun e w'=>∃r:Sta,e=.returned (.agg r.arr)∧r.d=s.d∧Qac w.heap.size w' r∧Below w.heap.size w w':=by
 obtain⟨w3,hw3,hC0⟩:=QcJ w 42 (qS s) qs (qS s);obtain⟨HW3,HS,HSm⟩:=Qmk hw3 hs hsm;obtain⟨⟨cp,cn,ccap,cxs⟩,v0,hr0,hx0,⟨u0,hu0⟩,hf0,hC1,ho0,hk0,hn0,hz0⟩:=QdT QgB hC0 (by decide) ⟨s.pp,s.pn,s.pc,s.pools⟩ ⟨hs.pn,hsm.pn,hs.pools⟩ 1 (by simp) 37;simp only at hx0 hr0 hC1 ho0 hk0 hn0 hu0 hf0;subst hx0;have hcn:cn=s.pn:=by have:=ho0.2.1;simp only at this;rw[←this];exact hs.pn
 subst hcn;obtain⟨w4,hw4⟩:∃w',v0.setCell ⟨w.heap.size+1+1,1,none⟩ (.slice cp s.pn ccap)=w':=⟨_,rfl⟩;rw[hw4]at hC1 ho0 hk0;have HI:Hid (Cst w w4 s (qS s) qs #[.int .u64 s.pos,.slice cp s.pn ccap,.slice s.rp s.rn s.rc,.slice s.lp s.ln s.lc,.slice s.gp s.gn s.gc,.slice s.op s.on s.oc] cp s.pn ccap 0 s.pools):=⟨hC1,hs.pn,ho0.1,rfl,fun _ _=>rfl,fun i x h=>by omega,fun i k x y h=>by omega⟩;obtain⟨HR0,HW4⟩:=Qmj hr0 hw4;have d0:(w3.alloc (.cells #[] 121)).cell? ⟨w.heap.size,1,none⟩=some (.slice s.pp s.pn s.pc):=by rw[VC (w:=w3) (Vc _ _ _ (Qab hC0.a)),cRq hC0.a];rfl
 have hA1:((w.alloc (.cells (qS s) 42)).alloc (.cells qs 42)).heap[w.heap.size]?=some (.cells (qS s) 42 (0,0)):=by rw[Vc _ _ _ (by simp)];exact hNq _ _
 obtain⟨b0,b1,b2,b3,b4,b5⟩:=ac6 hA1;have hpm:=hsm.pn;clear hw3 hs hsm hC0 hr0 hC1 ho0 hk0 hn0 hz0 hw4 hA1;go_enter Tryz.func15,Tryz.ntmps15;go_upto_region 2 with (fail);rw[HW3.out];clear b0 b1 b2 b3 b4 b5;go_upto_region 3 with (at_builtin;refine Z.lp_append (.slice (some ⟨w3.heap.size,0,none⟩) 0 0) (.slice s.pp s.pn s.pc) rfl rfl ⟨_,v0,HR0.out,?_⟩);rw[HW4.out];clear hu0 hf0 d0 HR0 HW4;go_wp2_with fail
 go_loopw [4] (fun i wr=>∃(j:Nat) (R:List Pl),j≤s.pn∧i=.int .i64 j∧Hid (Cst w wr s (qS s) qs #[.int .u64 s.pos,.slice cp s.pn ccap,.slice s.rp s.rn s.rc,.slice s.lp s.ln s.lc,.slice s.gp s.gn s.gc,.slice s.op s.on s.oc] cp s.pn ccap j R)) (fun i _=>s.pn - (intOf i).toNat);case atStart=>exact⟨0,s.pools,Vo _,rfl,HI⟩
 case round =>
  clear HI;obtain⟨j,R,hj,rfl,HI⟩:=hrel;obtain⟨-,x1,-,-,-,-⟩:=ac6 HI.out.cps.x;obtain⟨-,a1,-,-,-,-⟩:=ac6 HI.out.cps.a;by_cases hlt:j<s.pn
  ·have hlt':(j:Int)<(s.pn:Int):=by omega
   have j0':(0:Int)≤(j:Int):=by omega
   have hPs:=HI.out.rest j (Va _);obtain⟨P,hP⟩:∃P,s.pools[j]?=some P:=⟨_,gE (by rw[HS.out.pn];exact hlt)⟩;rw[hP]at hPs;have hPm:=mG hP;have hOk:=HS.out.below HI.out.cps.bel;obtain⟨pb,po,ep,hpb0,hpc⟩:=HS.out.pools.get (i:=j) (r:=plc P) (by rw[Vb,hP];rfl);have b3:=(HI.out.cps.bel.cell (p:=⟨pb,po+j*4+3,none⟩) hpb0).trans (hpc 3 _ rfl);have hpb:pb<wr.heap.size:=VL hpb0 HI.out.cps.bel.size;rw[ep]at a1;obtain⟨g,eg,hgl,hgc⟩:=row_cell HI.out.row (QaF (f:=plc) (sz:=4) (fun _=>rfl) R j 3 P _ hPs rfl);subst eg;have hrow:(wr.alloc (.cells #[] 118)).drew.ownsRow wr.heap.size 118 2 (.slice (some ⟨wr.heap.size,0,none⟩) 0 0) 0 []:=⟨by simp,.inr ⟨wr.heap.size,0,#[],rfl,Va _,hNq _ _,Va _,by unfold maxLen;omega,by simp,by simp⟩⟩;have hbA:Below wr.heap.size wr (wr.alloc (.cells #[] 118)).drew:=((Below.refl _ wr).alloc (Va _) _).drew;have hPo:=hOk.held P hPm;have hPl:=HSm.out.hl P hPm;obtain⟨v',w5,hr,ho,hg,_⟩:=QiD.run_append (wr.alloc (.cells #[] 118)).drew 119 wr.heap.size 0 (.slice (some ⟨wr.heap.size,0,none⟩) 0 0) [] hrow P.hp P.hl P.hc P.hs hPo.len (hPo.cel.below hbA) (by omega) hbA.size;rw[Nat.zero_add,VU]at ho;obtain⟨q,d,rfl,_⟩:=Z.slice_form ho;have hb5:Below wr.heap.size wr w5:=hbA.grown hg hbA.size (fun k e=>by cases e;exact Va _);obtain⟨⟨u,hu⟩,hfz,hst⟩:=HI.out.step hPs hb5 q d ho hPo.len;obtain⟨HR,HSt⟩:=Qmj hr hst;have z1:=(hb5.cell (p:=⟨w.heap.size+1+1,1,none⟩) (Qab HI.out.cps.x)).trans x1;have z2:=(hb5.cell (p:=⟨w.heap.size,1,none⟩) (Qab HI.out.cps.a)).trans a1;have z3:=(hb5.cell (p:=⟨pb,po+j*4+3,none⟩) hpb).trans b3;have n1:=World.new_ne wr _ x1;have n2:=World.new_ne wr _ a1;have n3:=World.new_ne wr _ b3;have hgx:g≠w.heap.size+1+1:=by have:=Z.owns_base HI.out.row g rfl;omega
   have hgp:g≠pb:=by have:=Z.owns_base HI.out.row g rfl;omega
   have hgp':pb≠g:=fun e=>hgp e.symm
   have hga:g≠w.heap.size:=by have:=Z.owns_base HI.out.row g rfl;omega
   obtain⟨pn,hpn⟩:=exq s.pn;clear hpc hP hPs hPm hOk hPo hr hst ho hg hrow hbA ep hgc hpn pn;go_upto_region 6 with (fail);go_region_held3 (fun w'=>w'.cell? ⟨w.heap.size+1+1,1,none⟩=some (.slice (some ⟨g,0,none⟩) s.pn ccap)∧w'.cell? ⟨w.heap.size,1,none⟩=some (.slice (some ⟨pb,po,none⟩) s.pn s.pc)∧w'.cell? ⟨pb,po+j*4+3,none⟩=some (.slice P.hp P.hl P.hc)) (go_keep) (first | (refine QaO (.tmp 21) (.tmp 27) 119 119 (by rfl) (.slice (some ⟨wr.heap.size,0,none⟩) 0 0) (.slice P.hp P.hl P.hc) (.slice q P.hl d) w5 (by rfl) (by rfl) HR.out ?_) | fail);go_wp2;go_roundw;case rel=>exact⟨j+1,_,by omega,by go_num,HSt⟩
   case measure=>simp[intOf];omega
  ·have hlt':¬(j:Int)<(s.pn:Int):=by omega
   obtain rfl:j=s.pn:=by omega
   have hOk:=HS.out;have hsm:=HSm.out;obtain⟨⟨p1,m1,e1,l1⟩,v1,hr1,hx1,⟨u1,hu1⟩,hf1,hD1,ho1,hk1,hn1,hz1⟩:=QdT Qdn HI.out.cps (by decide) ⟨s.rp,s.rn,s.rc,s.prices⟩ ⟨hOk.rn,hsm.rn,hOk.prices⟩ 2 (by simp) 38;simp only at hx1 hr1 hD1 ho1 hk1 hn1 hu1 hf1;subst hx1;obtain⟨y1,hy1⟩:∃w',v1.setCell ⟨w.heap.size+1+1,2,none⟩ (.slice p1 m1 e1)=w':=⟨_,rfl⟩;rw[hy1]at hD1 ho1 hk1;have t1:(wr.alloc (.cells #[] 123)).cell? ⟨w.heap.size,2,none⟩=some (.slice s.rp s.rn s.rc):=by rw[VC (w:=wr) (Vc _ _ _ (Qab (HI.out.cps).a)),cRq (HI.out.cps).a];rfl
   obtain⟨⟨p2,m2,e2,l2⟩,v2,hr2,hx2,⟨u2,hu2⟩,hf2,hD2,ho2,hk2,hn2,hz2⟩:=QdT QeC hD1 (by decide) ⟨s.lp,s.ln,s.lc,s.last⟩ ⟨hOk.ln,hsm.ln,hOk.last⟩ 3 (by simp) 39;simp only at hx2 hr2 hD2 ho2 hk2 hn2 hu2 hf2;subst hx2;obtain⟨y2,hy2⟩:∃w',v2.setCell ⟨w.heap.size+1+1,3,none⟩ (.slice p2 m2 e2)=w':=⟨_,rfl⟩;rw[hy2]at hD2 ho2 hk2;have t2:(y1.alloc (.cells #[] 36)).cell? ⟨w.heap.size,3,none⟩=some (.slice s.lp s.ln s.lc):=by rw[VC (w:=y1) (Vc _ _ _ (Qab (hD1).a)),cRq (hD1).a];rfl
   obtain⟨⟨p3,m3,e3,l3⟩,v3,hr3,hx3,⟨u3,hu3⟩,hf3,hD3,ho3,hk3,hn3,hz3⟩:=QdT QeC hD2 (by decide) ⟨s.gp,s.gn,s.gc,s.gen⟩ ⟨hOk.gn,hsm.gn,hOk.gen⟩ 4 (by simp) 39;simp only at hx3 hr3 hD3 ho3 hk3 hn3 hu3 hf3;subst hx3;obtain⟨y3,hy3⟩:∃w',v3.setCell ⟨w.heap.size+1+1,4,none⟩ (.slice p3 m3 e3)=w':=⟨_,rfl⟩;rw[hy3]at hD3 ho3 hk3;have t3:(y2.alloc (.cells #[] 36)).cell? ⟨w.heap.size,4,none⟩=some (.slice s.gp s.gn s.gc):=by rw[VC (w:=y2) (Vc _ _ _ (Qab (hD2).a)),cRq (hD2).a];rfl
   obtain⟨⟨p4,m4,e4,l4⟩,v4,hr4,hx4,⟨u4,hu4⟩,hf4,hD4,ho4,hk4,hn4,hz4⟩:=QdT QgK hD3 (by decide) ⟨s.op,s.on,s.oc,s.owed⟩ ⟨hOk.on,hsm.on,hOk.owed⟩ 5 (by simp) 40;simp only at hx4 hr4 hD4 ho4 hk4 hn4 hu4 hf4;subst hx4;obtain⟨y4,hy4⟩:∃w',v4.setCell ⟨w.heap.size+1+1,5,none⟩ (.slice p4 m4 e4)=w':=⟨_,rfl⟩;rw[hy4]at hD4 ho4 hk4;have t4:(y3.alloc (.cells #[] 4)).cell? ⟨w.heap.size,5,none⟩=some (.slice s.op s.on s.oc):=by rw[VC (w:=y3) (Vc _ _ _ (Qab (hD3).a)),cRq (hD3).a];rfl
   have HI1:=HI.out
   have hOw:Qac (w.heap.size+1+1+1) y4 ⟨s.pos,cp,s.pn,ccap,p1,m1,e1,p2,m2,e2,p3,m3,e3,p4,m4,e4,R,s.prices,s.last,s.gen,s.owed⟩:=by
    have K:∀e' sz' v n xs,wr.ownsRow (w.heap.size+1+1+1) e' sz' v n xs→y4.ownsRow (w.heap.size+1+1+1) e' sz' v n xs:=fun e' sz' v n xs h=>hk4 _ _ _ _ _ _ (Va _) (hk3 _ _ _ _ _ _ (Va _) (hk2 _ _ _ _ _ _ (Va _) (hk1 _ _ _ _ _ _ (Va _) h)))
    have hin:∀x∈R,∃i,i<s.pn∧R[i]?=some x:=fun x hx=>by
     obtain⟨i,hi,e⟩:=List.mem_iff_getElem.1 hx;exact⟨i,by rw[←HI1.len];exact hi,by rw[←e];exact gE hi⟩
    refine⟨HI1.len,K _ _ _ _ _ HI1.row,fun x hx=>?_,fun x hx=>?_,fun i k x y hx hy hik=>?_,ho1.2.1,hk4 _ _ _ _ _ _ (Va _) (hk3 _ _ _ _ _ _ (Va _) (hk2 _ _ _ _ _ _ (Va _) ho1.1)),ho2.2.1,hk4 _ _ _ _ _ _ (Va _) (hk3 _ _ _ _ _ _ (Va _) ho2.1),ho3.2.1,hk4 _ _ _ _ _ _ (Va _) ho3.1,ho4.2.1,ho4.1,fun g e1' e2'=>?_⟩
    ·obtain⟨i,hi,hx'⟩:=hin x hx
     exact(HI1.held i x hi hx').2
    ·obtain⟨i,hi,hx'⟩:=hin x hx
     exact K _ _ _ _ _ (HI1.held i x hi hx').1
    ·exact HI1.apart i k x y (by rw[←HI1.len];exact(Vd.1 hx).1) (by rw[←HI1.len];exact(Vd.1 hy).1) hik hx hy
    ·have q1:=RB.owns_lt ho2.1 g e1'
     have q2:=hn3 g e2';omega
   obtain⟨X,hX⟩:∃X:Array Value,#[.int .u64 s.pos,.slice cp s.pn ccap,.slice p1 m1 e1,.slice p2 m2 e2,.slice p3 m3 e3,.slice p4 m4 e4]=X:=⟨_,rfl⟩;have hDX:CpS w y4 42 (qS s) qs X:=by rw[←hX];exact hD4
   have HXs:Hid (X.size=6):=by show _=_;rw[←hX];rfl
   have HXo:Hid (X.all (·.oneCell')=true):=by show _=_;rw[←hX];simp[Value.oneCell']
   have HL:=Qaa (lr42 hDX.x (by rw[HXs.out];exact Tryz.sizeS));have HSX:=Qaa (Z.storeAt_row (P:=Tryz.prog) (c':=X) hDX.z (by rw[HXs.out];exact Tryz.sizeS) (by rw[HXs.out];rfl) HXo.out)
   have HEnd:Hid ((y4.setRow (w.heap.size+1) X).heap[w.heap.size+1]?=some (.cells X 42 (0,0))∧Qac w.heap.size (y4.setRow (w.heap.size+1) X) ⟨s.pos,cp,s.pn,ccap,p1,m1,e1,p2,m2,e2,p3,m3,e3,p4,m4,e4,R,s.prices,s.last,s.gen,s.owed⟩∧Below w.heap.size w (y4.setRow (w.heap.size+1) X)):=by
    have hg:y4.grownBy (y4.setRow (w.heap.size+1) X) (some (w.heap.size+1)):=⟨rfl,rfl,rfl,by simp,fun k _ hne=>Vz y4 _ _ X (fun e=>hne (by rw[e]))⟩;exact⟨VB _ _ _ _ _ _ hDX.z,hOw.by (fun e' sz' v n xs h=>Z.owns_le (Z.owns_grown h hg (fun g e e'=>by have:=Z.owns_base h g e;cases e';omega)) (by omega)),VA hDX.bel (by omega) X⟩
   have HXb:Hid (X=(⟨s.pos,cp,s.pn,ccap,p1,m1,e1,p2,m2,e2,p3,m3,e3,p4,m4,e4,R,s.prices,s.last,s.gen,s.owed⟩:Sta).arr):=by show _=_;rw[←hX];rfl
   have HDd:Hid ((⟨s.pos,cp,s.pn,ccap,p1,m1,e1,p2,m2,e2,p3,m3,e3,p4,m4,e4,R,s.prices,s.last,s.gen,s.owed⟩:Sta).d=s.d):=by show _=_;unfold Sta.d;simp only;rw[HI1.same]
   obtain⟨HR1,HR2,HR3,HR4,HY1,HY2,HY3,HY4⟩:=hd8 hr1 hr2 hr3 hr4 hy1 hy2 hy3 hy4;clear hOw hDX hX hD1 hD2 hD3 hD4 ho1 ho2 ho3 ho4 hk1 hk2 hk3 hk4 hn1 hn2 hn3 hn4 hz1 hz2 hz3 hz4 hr1 hr2 hr3 hr4 hy1 hy2 hy3 hy4 hOk hsm HI1;go_upto_region 8 with (at_builtin;refine Z.lp_append (.slice (some ⟨wr.heap.size,0,none⟩) 0 0) (.slice s.rp s.rn s.rc) rfl rfl ⟨_,v1,HR1.out,?_⟩);rw[HY1.out];clear hu1 hf1 t1;go_upto_region 9 with (at_builtin;refine Z.lp_append (.slice (some ⟨y1.heap.size,0,none⟩) 0 0) (.slice s.lp s.ln s.lc) rfl rfl ⟨_,v2,HR2.out,?_⟩);rw[HY2.out];clear hu2 hf2 t2;go_upto_region 10 with (at_builtin;refine Z.lp_append (.slice (some ⟨y2.heap.size,0,none⟩) 0 0) (.slice s.gp s.gn s.gc) rfl rfl ⟨_,v3,HR3.out,?_⟩);rw[HY3.out];clear hu3 hf3 t3;go_upto_region 11 with (at_builtin;refine Z.lp_append (.slice (some ⟨y3.heap.size,0,none⟩) 0 0) (.slice s.op s.on s.oc) rfl rfl ⟨_,v4,HR4.out,?_⟩);rw[HY4.out];clear hu4 hf4 t4;go_wp2_with (first | ((with_reducible refine glq 42 3 ?_);refine Z.lp_load (w.heap.size+1+1) 0 X rfl HL.out ?_) | ((with_reducible refine gsq 42 2 ?_);refine Z.lp_store (t:=42) (x:=.tmp 2) (some ⟨w.heap.size+1,0,none⟩) (.agg X) rfl rfl HSX.out ?_))
   refine Vg (VF rfl _ _ (w.heap.size+1) 42 X (0,0) _ rfl HEnd.out.1 Tryz.underlying42 rfl (by rw[HXs.out];exact Tryz.sizeS)) rfl ?_;exact⟨⟨s.pos,cp,s.pn,ccap,p1,m1,e1,p2,m2,e2,p3,m3,e3,p4,m4,e4,R,s.prices,s.last,s.gen,s.owed⟩,by rw[HXb.out],HDd.out,HEnd.out.2.1,HEnd.out.2.2⟩
end Go.Proofs.YtiogibfhafoapaaGreat
namespace Go.Proofs.YtiogibfhafoapaaGreat
open Go.RowKit
open Z (Sli QaE Acd Qad Eda QaP)
def Z.Eda.dd (e:Eda):Int × Z.AcP × Int × List Lin × List Tri × Int × Int × Int:=(e.po,e.ac.d,e.oc,e.made.xs,e.sets.xs,e.n,e.fe,e.ge)
theorem Qdx (w:World) (x y:Eda) (hx:QaP w x) (hy:QaP w y) (D:Bool) (hD:D=true↔x.dd=y.dd) :
  Calls Tryz.prog 97 #[.agg (qE x),.agg (qE y)] w fun e w'=>e=.returned (.bool D)∧Below w.heap.size w w':=by
 obtain⟨w2,hw2,hb2,hx2,hy2⟩:=QaQ w (qE x) 136 136 (qE y);obtain⟨HW2,HB2⟩:=Qmj hw2 hb2
 have HF:Hid (∀W,Below w2.heap.size w2 W→(W.cell? ⟨w.heap.size,0,none⟩=some (.int .u64 x.po)∧W.cell? ⟨w.heap.size,1,none⟩=some (.int .i64 x.ac.till)∧W.cell? ⟨w.heap.size,2,none⟩=some (.int .u64 x.ac.num)∧W.cell? ⟨w.heap.size,3,none⟩=some (.int .i64 x.ac.kind)∧W.cell? ⟨w.heap.size,4,none⟩=some (.bool x.ac.sure)∧W.cell? ⟨w.heap.size,5,none⟩=some (.slice x.ac.lines.p x.ac.lines.n x.ac.lines.c)∧W.cell? ⟨w.heap.size,6,none⟩=some (.slice x.ac.guards.p x.ac.guards.n x.ac.guards.c)∧W.cell? ⟨w.heap.size,7,none⟩=some (.slice x.ac.sets.p x.ac.sets.n x.ac.sets.c)∧W.cell? ⟨w.heap.size,8,none⟩=some (.int .i64 x.ac.mg)∧W.cell? ⟨w.heap.size,9,none⟩=some (.slice x.ac.other.p x.ac.other.n x.ac.other.c)∧W.cell? ⟨w.heap.size,10,none⟩=some (.int .i64 x.ac.ra)∧W.cell? ⟨w.heap.size,11,none⟩=some (.int .i64 x.ac.rb)∧W.cell? ⟨w.heap.size,12,none⟩=some (.int .i64 x.ac.rd)∧W.cell? ⟨w.heap.size,13,none⟩=some (.int .i64 x.ac.to)∧W.cell? ⟨w.heap.size,14,none⟩=some (.int .u64 x.ac.gen)∧W.cell? ⟨w.heap.size,15,none⟩=some (.slice x.ac.rights.p x.ac.rights.n x.ac.rights.c)∧W.cell? ⟨w.heap.size,16,none⟩=some (.int .i64 x.oc)∧W.cell? ⟨w.heap.size,17,none⟩=some (.slice x.made.p x.made.n x.made.c)∧W.cell? ⟨w.heap.size,18,none⟩=some (.slice x.sets.p x.sets.n x.sets.c)∧W.cell? ⟨w.heap.size,19,none⟩=some (.int .i64 x.n)∧W.cell? ⟨w.heap.size,20,none⟩=some (.int .i64 x.fe)∧W.cell? ⟨w.heap.size,21,none⟩=some (.int .u64 x.ge))∧(W.cell? ⟨w.heap.size+1,0,none⟩=some (.int .u64 y.po)∧W.cell? ⟨w.heap.size+1,1,none⟩=some (.int .i64 y.ac.till)∧W.cell? ⟨w.heap.size+1,2,none⟩=some (.int .u64 y.ac.num)∧W.cell? ⟨w.heap.size+1,3,none⟩=some (.int .i64 y.ac.kind)∧W.cell? ⟨w.heap.size+1,4,none⟩=some (.bool y.ac.sure)∧W.cell? ⟨w.heap.size+1,5,none⟩=some (.slice y.ac.lines.p y.ac.lines.n y.ac.lines.c)∧W.cell? ⟨w.heap.size+1,6,none⟩=some (.slice y.ac.guards.p y.ac.guards.n y.ac.guards.c)∧W.cell? ⟨w.heap.size+1,7,none⟩=some (.slice y.ac.sets.p y.ac.sets.n y.ac.sets.c)∧W.cell? ⟨w.heap.size+1,8,none⟩=some (.int .i64 y.ac.mg)∧W.cell? ⟨w.heap.size+1,9,none⟩=some (.slice y.ac.other.p y.ac.other.n y.ac.other.c)∧W.cell? ⟨w.heap.size+1,10,none⟩=some (.int .i64 y.ac.ra)∧W.cell? ⟨w.heap.size+1,11,none⟩=some (.int .i64 y.ac.rb)∧W.cell? ⟨w.heap.size+1,12,none⟩=some (.int .i64 y.ac.rd)∧W.cell? ⟨w.heap.size+1,13,none⟩=some (.int .i64 y.ac.to)∧W.cell? ⟨w.heap.size+1,14,none⟩=some (.int .u64 y.ac.gen)∧W.cell? ⟨w.heap.size+1,15,none⟩=some (.slice y.ac.rights.p y.ac.rights.n y.ac.rights.c)∧W.cell? ⟨w.heap.size+1,16,none⟩=some (.int .i64 y.oc)∧W.cell? ⟨w.heap.size+1,17,none⟩=some (.slice y.made.p y.made.n y.made.c)∧W.cell? ⟨w.heap.size+1,18,none⟩=some (.slice y.sets.p y.sets.n y.sets.c)∧W.cell? ⟨w.heap.size+1,19,none⟩=some (.int .i64 y.n)∧W.cell? ⟨w.heap.size+1,20,none⟩=some (.int .i64 y.fe)∧W.cell? ⟨w.heap.size+1,21,none⟩=some (.int .u64 y.ge))):=fun W hb=>by
  have h1:=(hb.block _ (Qab hx2)).trans hx2;have h2:=(hb.block _ (Qab hy2)).trans hy2;exact⟨⟨by rw[cRq h1];rfl,by rw[cRq h1];rfl,by rw[cRq h1];rfl,by rw[cRq h1];rfl,by rw[cRq h1];rfl,by rw[cRq h1];rfl,by rw[cRq h1];rfl,by rw[cRq h1];rfl,by rw[cRq h1];rfl,by rw[cRq h1];rfl,by rw[cRq h1];rfl,by rw[cRq h1];rfl,by rw[cRq h1];rfl,by rw[cRq h1];rfl,by rw[cRq h1];rfl,by rw[cRq h1];rfl,by rw[cRq h1];rfl,by rw[cRq h1];rfl,by rw[cRq h1];rfl,by rw[cRq h1];rfl,by rw[cRq h1];rfl,by rw[cRq h1];rfl⟩,⟨by rw[cRq h2];rfl,by rw[cRq h2];rfl,by rw[cRq h2];rfl,by rw[cRq h2];rfl,by rw[cRq h2];rfl,by rw[cRq h2];rfl,by rw[cRq h2];rfl,by rw[cRq h2];rfl,by rw[cRq h2];rfl,by rw[cRq h2];rfl,by rw[cRq h2];rfl,by rw[cRq h2];rfl,by rw[cRq h2];rfl,by rw[cRq h2];rfl,by rw[cRq h2];rfl,by rw[cRq h2];rfl,by rw[cRq h2];rfl,by rw[cRq h2];rfl,by rw[cRq h2];rfl,by rw[cRq h2];rfl,by rw[cRq h2];rfl,by rw[cRq h2];rfl⟩⟩
 obtain⟨ba,hba⟩:=Qbj (x.ac.d=y.ac.d);obtain⟨bm,hbm⟩:=Qbj (x.made.xs=y.made.xs);obtain⟨bs,hbs⟩:=Qbj (x.sets.xs=y.sets.xs);have HAc:Hid (∀W,Below w2.heap.size w2 W→Calls Tryz.prog 36 #[.agg (qA x.ac),.agg (qA y.ac)] W fun e w'=>e=.returned (.bool ba)∧Below w2.heap.size w2 w'):=fun W hb=>(Qek W x.ac y.ac ((hx.ac.below hb2).below hb) ((hy.ac.below hb2).below hb) ba hba).mono fun _ _ ⟨he,h⟩=>⟨he,hb.trans (h.mono hb.size)⟩
 have HMa:Hid (∀W,Below w2.heap.size w2 W→Calls Tryz.prog 25 #[.slice x.made.p x.made.n x.made.c,.slice y.made.p y.made.n y.made.c] W fun e w'=>e=.returned (.bool bm)∧Below w2.heap.size w2 w'):=fun W hb=>(Qa6 W x.made.p y.made.p x.made.n y.made.n x.made.c y.made.c x.made.xs y.made.xs hx.made.len hy.made.len (by have:=hx.made.most;omega) ((hx.made.below hb2).below hb).cel ((hy.made.below hb2).below hb).cel bm hbm).mono fun _ _ ⟨he,h⟩=>⟨he,hb.trans (h.mono hb.size)⟩
 have HSe:Hid (∀W,Below w2.heap.size w2 W→Calls Tryz.prog 26 #[.slice x.sets.p x.sets.n x.sets.c,.slice y.sets.p y.sets.n y.sets.c] W fun e w'=>e=.returned (.bool bs)∧Below w2.heap.size w2 w'):=fun W hb=>(Qg1 W x.sets.p y.sets.p x.sets.n y.sets.n x.sets.c y.sets.c x.sets.xs y.sets.xs hx.sets.len hy.sets.len (by have:=hx.sets.most;omega) ((hx.sets.below hb2).below hb).cel ((hy.sets.below hb2).below hb).cel bs hbs).mono fun _ _ ⟨he,h⟩=>⟨he,hb.trans (h.mono hb.size)⟩
 obtain⟨R,hR⟩:∃b:Bool,decide (x.po=y.po∧x.oc=y.oc∧x.n=y.n∧x.fe=y.fe∧x.ge=y.ge)=b:=⟨_,rfl⟩
 have HD:Hid (D=(R && ba && bm && bs)):=by
  show D=_;rw[Bool.eq_iff_iff,hD];simp only[Eda.dd,Prod.mk.injEq,Vs,←hR,hba,hbm,hbs,decide_eq_true_eq];constructor
  ·rintro ⟨e0,e1,e2,e3,e4,e5,e6,e7⟩
   exact⟨⟨⟨⟨e0,e2,e5,e6,e7⟩,e1⟩,e3⟩,e4⟩
  ·rintro ⟨⟨⟨⟨e0,e2,e5,e6,e7⟩,e1⟩,e3⟩,e4⟩
   exact⟨e0,e1,e2,e3,e4,e5,e6,e7⟩
 rw[HD.out];have HR2:Hid (Below w2.heap.size w2 w2):=bR;have HRo:=Qaa hR;obtain⟨⟨x0,x1,x2,x3,x4,x5,x6,x7,x8,x9,x10,x11,x12,x13,x14,x15,x16,x17,x18,x19,x20,x21⟩,⟨y0,y1,y2,y3,y4,y5,y6,y7,y8,y9,y10,y11,y12,y13,y14,y15,y16,y17,y18,y19,y20,y21⟩⟩:=HF.out w2 HR2.out;clear hw2 hb2 hx2 hy2 hx hy hba hbm hbs hR HD hD;go_enter Tryz.func97,Tryz.ntmps97;go_upto_region 1 with (fail);rw[HW2.out];go_cut [5] from 6 to 38 (fun s5 wc=>s5=.bool R∧wc=w2)
 case first =>
  by_cases q0:x.po=y.po
  ·have p0:((x.po:Int) == y.po)=true:=by simp[q0]
   by_cases q1:x.oc=y.oc
   ·have p1:((x.oc:Int) == y.oc)=true:=by simp[q1]
    by_cases q2:x.n=y.n
    ·have p2:((x.n:Int) == y.n)=true:=by simp[q2]
     by_cases q3:x.fe=y.fe
     ·have p3:((x.fe:Int) == y.fe)=true:=by simp[q3]
      by_cases q4:x.ge=y.ge
      ·have p4:((x.ge:Int) == y.ge)=true:=by simp[q4]
       have hHv:R=true:=by rw[←HRo.out];simp[q0,q1,q2,q3,q4]
       clear q0 q1 q2 q3 q4;go_wp2_with fail
       go_meet;exact⟨by rw[hHv],rfl⟩
      ·have p4:((x.ge:Int) == y.ge)=false:=by simp[q4]
       have hHv:R=false:=by rw[←HRo.out];simp[q4]
       clear q0 q1 q2 q3 q4;go_wp2_with fail
       go_meet;exact⟨by rw[hHv],rfl⟩
     ·have p3:((x.fe:Int) == y.fe)=false:=by simp[q3]
      have hHv:R=false:=by rw[←HRo.out];simp[q3]
      clear q0 q1 q2 q3;go_wp2_with fail
      go_meet;exact⟨by rw[hHv],rfl⟩
    ·have p2:((x.n:Int) == y.n)=false:=by simp[q2]
     have hHv:R=false:=by rw[←HRo.out];simp[q2]
     clear q0 q1 q2;go_wp2_with fail
     go_meet;exact⟨by rw[hHv],rfl⟩
   ·have p1:((x.oc:Int) == y.oc)=false:=by simp[q1]
    have hHv:R=false:=by rw[←HRo.out];simp[q1]
    clear q0 q1;go_wp2_with fail
    go_meet;exact⟨by rw[hHv],rfl⟩
  ·have p0:((x.po:Int) == y.po)=false:=by simp[q0]
   have hHv:R=false:=by rw[←HRo.out];simp[q0]
   clear q0;go_wp2_with fail
   go_meet;exact⟨by rw[hHv],rfl⟩
 case rest =>
  obtain⟨rfl,hwc⟩:=hcut;rw[hwc];clear hwc wc
  cases R with
  | false =>
   go_wp2_with (first | (go_at_call 26;refine(HSe.out _ HBv2.out).mono ?_;rintro e v3 ⟨rfl,hb⟩;have HBv3:=Qaa hb;clear x0 x1 x2 x3 x4 x5 x6 x7 x8 x9 x10 x11 x12 x13 x14 x15 x16 x17 x18 x19 x20 x21 y0 y1 y2 y3 y4 y5 y6 y7 y8 y9 y10 y11 y12 y13 y14 y15 y16 y17 y18 y19 y20 y21;obtain⟨⟨x0,x1,x2,x3,x4,x5,x6,x7,x8,x9,x10,x11,x12,x13,x14,x15,x16,x17,x18,x19,x20,x21⟩,⟨y0,y1,y2,y3,y4,y5,y6,y7,y8,y9,y10,y11,y12,y13,y14,y15,y16,y17,y18,y19,y20,y21⟩⟩:=HF.out v3 hb;clear hb) | (go_at_call 25;refine(HMa.out _ HBv1.out).mono ?_;rintro e v2 ⟨rfl,hb⟩;have HBv2:=Qaa hb;clear x0 x1 x2 x3 x4 x5 x6 x7 x8 x9 x10 x11 x12 x13 x14 x15 x16 x17 x18 x19 x20 x21 y0 y1 y2 y3 y4 y5 y6 y7 y8 y9 y10 y11 y12 y13 y14 y15 y16 y17 y18 y19 y20 y21;obtain⟨⟨x0,x1,x2,x3,x4,x5,x6,x7,x8,x9,x10,x11,x12,x13,x14,x15,x16,x17,x18,x19,x20,x21⟩,⟨y0,y1,y2,y3,y4,y5,y6,y7,y8,y9,y10,y11,y12,y13,y14,y15,y16,y17,y18,y19,y20,y21⟩⟩:=HF.out v2 hb;clear hb) | (go_at_call 36;refine(HAc.out _ HR2.out).mono ?_;rintro e v1 ⟨rfl,hb⟩;have HBv1:=Qaa hb;clear x0 x1 x2 x3 x4 x5 x6 x7 x8 x9 x10 x11 x12 x13 x14 x15 x16 x17 x18 x19 x20 x21 y0 y1 y2 y3 y4 y5 y6 y7 y8 y9 y10 y11 y12 y13 y14 y15 y16 y17 y18 y19 y20 y21;obtain⟨⟨x0,x1,x2,x3,x4,x5,x6,x7,x8,x9,x10,x11,x12,x13,x14,x15,x16,x17,x18,x19,x20,x21⟩,⟨y0,y1,y2,y3,y4,y5,y6,y7,y8,y9,y10,y11,y12,y13,y14,y15,y16,y17,y18,y19,y20,y21⟩⟩:=HF.out v1 hb;clear hb) | fail)
   go_ret;exact⟨rfl,HB2.out⟩
  | true =>
   cases ba with
   | false =>
    go_wp2_with (first | (go_at_call 26;refine(HSe.out _ HBv2.out).mono ?_;rintro e v3 ⟨rfl,hb⟩;have HBv3:=Qaa hb;clear x0 x1 x2 x3 x4 x5 x6 x7 x8 x9 x10 x11 x12 x13 x14 x15 x16 x17 x18 x19 x20 x21 y0 y1 y2 y3 y4 y5 y6 y7 y8 y9 y10 y11 y12 y13 y14 y15 y16 y17 y18 y19 y20 y21;obtain⟨⟨x0,x1,x2,x3,x4,x5,x6,x7,x8,x9,x10,x11,x12,x13,x14,x15,x16,x17,x18,x19,x20,x21⟩,⟨y0,y1,y2,y3,y4,y5,y6,y7,y8,y9,y10,y11,y12,y13,y14,y15,y16,y17,y18,y19,y20,y21⟩⟩:=HF.out v3 hb;clear hb) | (go_at_call 25;refine(HMa.out _ HBv1.out).mono ?_;rintro e v2 ⟨rfl,hb⟩;have HBv2:=Qaa hb;clear x0 x1 x2 x3 x4 x5 x6 x7 x8 x9 x10 x11 x12 x13 x14 x15 x16 x17 x18 x19 x20 x21 y0 y1 y2 y3 y4 y5 y6 y7 y8 y9 y10 y11 y12 y13 y14 y15 y16 y17 y18 y19 y20 y21;obtain⟨⟨x0,x1,x2,x3,x4,x5,x6,x7,x8,x9,x10,x11,x12,x13,x14,x15,x16,x17,x18,x19,x20,x21⟩,⟨y0,y1,y2,y3,y4,y5,y6,y7,y8,y9,y10,y11,y12,y13,y14,y15,y16,y17,y18,y19,y20,y21⟩⟩:=HF.out v2 hb;clear hb) | (go_at_call 36;refine(HAc.out _ HR2.out).mono ?_;rintro e v1 ⟨rfl,hb⟩;have HBv1:=Qaa hb;clear x0 x1 x2 x3 x4 x5 x6 x7 x8 x9 x10 x11 x12 x13 x14 x15 x16 x17 x18 x19 x20 x21 y0 y1 y2 y3 y4 y5 y6 y7 y8 y9 y10 y11 y12 y13 y14 y15 y16 y17 y18 y19 y20 y21;obtain⟨⟨x0,x1,x2,x3,x4,x5,x6,x7,x8,x9,x10,x11,x12,x13,x14,x15,x16,x17,x18,x19,x20,x21⟩,⟨y0,y1,y2,y3,y4,y5,y6,y7,y8,y9,y10,y11,y12,y13,y14,y15,y16,y17,y18,y19,y20,y21⟩⟩:=HF.out v1 hb;clear hb) | fail)
    go_ret;exact⟨rfl,HB2.out.trans (HBv1.out.mono HB2.out.size)⟩
   | true =>
    cases bm with
    | false =>
     go_wp2_with (first | (go_at_call 26;refine(HSe.out _ HBv2.out).mono ?_;rintro e v3 ⟨rfl,hb⟩;have HBv3:=Qaa hb;clear x0 x1 x2 x3 x4 x5 x6 x7 x8 x9 x10 x11 x12 x13 x14 x15 x16 x17 x18 x19 x20 x21 y0 y1 y2 y3 y4 y5 y6 y7 y8 y9 y10 y11 y12 y13 y14 y15 y16 y17 y18 y19 y20 y21;obtain⟨⟨x0,x1,x2,x3,x4,x5,x6,x7,x8,x9,x10,x11,x12,x13,x14,x15,x16,x17,x18,x19,x20,x21⟩,⟨y0,y1,y2,y3,y4,y5,y6,y7,y8,y9,y10,y11,y12,y13,y14,y15,y16,y17,y18,y19,y20,y21⟩⟩:=HF.out v3 hb;clear hb) | (go_at_call 25;refine(HMa.out _ HBv1.out).mono ?_;rintro e v2 ⟨rfl,hb⟩;have HBv2:=Qaa hb;clear x0 x1 x2 x3 x4 x5 x6 x7 x8 x9 x10 x11 x12 x13 x14 x15 x16 x17 x18 x19 x20 x21 y0 y1 y2 y3 y4 y5 y6 y7 y8 y9 y10 y11 y12 y13 y14 y15 y16 y17 y18 y19 y20 y21;obtain⟨⟨x0,x1,x2,x3,x4,x5,x6,x7,x8,x9,x10,x11,x12,x13,x14,x15,x16,x17,x18,x19,x20,x21⟩,⟨y0,y1,y2,y3,y4,y5,y6,y7,y8,y9,y10,y11,y12,y13,y14,y15,y16,y17,y18,y19,y20,y21⟩⟩:=HF.out v2 hb;clear hb) | (go_at_call 36;refine(HAc.out _ HR2.out).mono ?_;rintro e v1 ⟨rfl,hb⟩;have HBv1:=Qaa hb;clear x0 x1 x2 x3 x4 x5 x6 x7 x8 x9 x10 x11 x12 x13 x14 x15 x16 x17 x18 x19 x20 x21 y0 y1 y2 y3 y4 y5 y6 y7 y8 y9 y10 y11 y12 y13 y14 y15 y16 y17 y18 y19 y20 y21;obtain⟨⟨x0,x1,x2,x3,x4,x5,x6,x7,x8,x9,x10,x11,x12,x13,x14,x15,x16,x17,x18,x19,x20,x21⟩,⟨y0,y1,y2,y3,y4,y5,y6,y7,y8,y9,y10,y11,y12,y13,y14,y15,y16,y17,y18,y19,y20,y21⟩⟩:=HF.out v1 hb;clear hb) | fail)
     go_ret;exact⟨rfl,HB2.out.trans (HBv2.out.mono HB2.out.size)⟩
    | true =>
     go_wp2_with (first | (go_at_call 26;refine(HSe.out _ HBv2.out).mono ?_;rintro e v3 ⟨rfl,hb⟩;have HBv3:=Qaa hb;clear x0 x1 x2 x3 x4 x5 x6 x7 x8 x9 x10 x11 x12 x13 x14 x15 x16 x17 x18 x19 x20 x21 y0 y1 y2 y3 y4 y5 y6 y7 y8 y9 y10 y11 y12 y13 y14 y15 y16 y17 y18 y19 y20 y21;obtain⟨⟨x0,x1,x2,x3,x4,x5,x6,x7,x8,x9,x10,x11,x12,x13,x14,x15,x16,x17,x18,x19,x20,x21⟩,⟨y0,y1,y2,y3,y4,y5,y6,y7,y8,y9,y10,y11,y12,y13,y14,y15,y16,y17,y18,y19,y20,y21⟩⟩:=HF.out v3 hb;clear hb) | (go_at_call 25;refine(HMa.out _ HBv1.out).mono ?_;rintro e v2 ⟨rfl,hb⟩;have HBv2:=Qaa hb;clear x0 x1 x2 x3 x4 x5 x6 x7 x8 x9 x10 x11 x12 x13 x14 x15 x16 x17 x18 x19 x20 x21 y0 y1 y2 y3 y4 y5 y6 y7 y8 y9 y10 y11 y12 y13 y14 y15 y16 y17 y18 y19 y20 y21;obtain⟨⟨x0,x1,x2,x3,x4,x5,x6,x7,x8,x9,x10,x11,x12,x13,x14,x15,x16,x17,x18,x19,x20,x21⟩,⟨y0,y1,y2,y3,y4,y5,y6,y7,y8,y9,y10,y11,y12,y13,y14,y15,y16,y17,y18,y19,y20,y21⟩⟩:=HF.out v2 hb;clear hb) | (go_at_call 36;refine(HAc.out _ HR2.out).mono ?_;rintro e v1 ⟨rfl,hb⟩;have HBv1:=Qaa hb;clear x0 x1 x2 x3 x4 x5 x6 x7 x8 x9 x10 x11 x12 x13 x14 x15 x16 x17 x18 x19 x20 x21 y0 y1 y2 y3 y4 y5 y6 y7 y8 y9 y10 y11 y12 y13 y14 y15 y16 y17 y18 y19 y20 y21;obtain⟨⟨x0,x1,x2,x3,x4,x5,x6,x7,x8,x9,x10,x11,x12,x13,x14,x15,x16,x17,x18,x19,x20,x21⟩,⟨y0,y1,y2,y3,y4,y5,y6,y7,y8,y9,y10,y11,y12,y13,y14,y15,y16,y17,y18,y19,y20,y21⟩⟩:=HF.out v1 hb;clear hb) | fail)
     go_ret;exact⟨by simp,HB2.out.trans (HBv3.out.mono HB2.out.size)⟩
end Go.Proofs.YtiogibfhafoapaaGreat
