import Derived.Test.YtiogibfhafoapaaGreatAbZ
import Derived.Test.YtiogibfhafoapaaGreatSfG0
set_option maxRecDepth 100000
set_option maxHeartbeats 8000000
set_option linter.unusedSimpArgs false
set_option linter.unusedVariables false
namespace Go.Proofs.YtiogibfhafoapaaGreat
open Go.RowKit
open Z (Sli QaE Elt Acd Qad Ctr ctc)
theorem Qfl (w:World) (c:Cfg) (cs:List Ctr) (T:Nat) (hcf:Qbp w c cs) (hT:c.tills=(T:Int)) (s:Sta) (hs:Qae w s) (hsh:Shp c s) (a:Acd) (u:Nat) (hu:a.till=(u:Int)) (huT:u<T) (p:Option Addr) (n cap:Nat) (M:List Lin) (hn:M.length=n) (hnl:n≤4194304) (hcel:Cel w p 2 (M.map Qal)) (hA:∀r:Sta,r.d=s.d→Qcy (Qaz cs T) a.sure u r M) (hM:∀x∈M,Qc8 cs.length x) (hsu:a.sure=false) :
        Calls Tryz.prog 18 #[.agg c.arr,.agg s.arr,.agg a.arr,.slice p n cap] w fun e w'=>e=.returned (.bool true)∧Below w.heap.size w w':=by
 obtain⟨CC,hC⟩:=exq c.arr;obtain⟨S,hS⟩:=exq s.arr;obtain⟨AA,hAA⟩:=exq a.arr;have HSz:Hid (S.size=6):=by show _=_;rw[←hS];rfl
 obtain⟨w2,hw2,hb2,hx2,hy2,hz2,hsz⟩:=QcL w CC S AA 34 42 55;have HCp:Hid (Calls Tryz.prog 15 #[.agg s.arr] w2 fun e w'=>∃r:Sta,e=.returned (.agg r.arr)∧r.d=s.d∧Qac w2.heap.size w' r∧Below w2.heap.size w2 w'):=Qat w2 s (hs.below hb2) (Qi0 (hcf.below hb2) hsh);rw[hS]at HCp;have HLs:=Qaa (lr42 hy2 (by rw[HSz.out];exact Tryz.sizeS))
 have c1':Hid (∀W,Below w2.heap.size w2 W→W.cell? ⟨w.heap.size,1,none⟩=some (.slice c.cp c.cl c.cc)):=fun W h=>by
  rw[cRq ((h.block _ (Qab hx2)).trans hx2),←hC];rfl
 have a0':Hid (∀W,Below w2.heap.size w2 W→W.cell? ⟨w.heap.size+1+1,0,none⟩=some (.int .i64 (u:Int))∧W.cell? ⟨w.heap.size+1+1,3,none⟩=some (.bool a.sure)):=fun W h=>by
  have h1:=(h.block _ (Qab hz2)).trans hz2;rw[cRq h1,cRq h1,←hAA,←hu];exact⟨rfl,rfl⟩
 have hpnm:s.pn≤4194304:=(Qi0 hcf hsh).pn;obtain⟨HW2,HB2⟩:=Qmj hw2 hb2;have HS2z:Hid (w2.heap.size=w.heap.size+1+1+1):=hsz;obtain⟨HSh,HCf,HTi,HCe,HAl,HMd,HUT,HMn⟩:=hd8 hsh hcf hT hcel hA hM huT hn;have HSl:Hid (∀q∈s.pools,q.hs.length=q.hl):=fun q hq=>(hs.held q hq).len
 have HSp:Hid (s.pools.length=s.pn):=hs.pn;rw[hC,hS,hAA];have HSv:=Qaa hsu;clear hw2 hb2 hx2 hy2 hz2 hsz hS hC hAA hs hsh hcf hu hT hcel hA hM huT hn hsu;go_enter Tryz.func18,Tryz.ntmps18;go_upto_region 1 with (fail);rw[HW2.out]
 go_upto_region 2 with (
   first
   | ((with_reducible refine glq 42 5 ?_);refine Z.lp_load (w.heap.size+1) 0 S rfl HLs.out ?_)
   | (go_at_call 15;refine HCp.out.mono ?_;rintro e w3 ⟨X0,rfl,hxd,hxo,hb3⟩;obtain⟨HXd,HXo,HB3⟩:=Qmk hxd hxo hb3;obtain⟨XA,hXA⟩:=exq X0.arr;have HXA:=Qaa hXA;have HXz:Hid (XA.size=6):=(by show _=_;rw[←hXA];rfl);have HXn:Hid (XA.all (·.oneCell')=true):=(by show _=_;rw[←hXA];simp[Sta.arr,Value.oneCell']);rw[hXA];clear hxd hxo hb3 hXA)
   | ((with_reducible refine gsq 42 9 ?_);refine Z.lp_store (t:=42) (x:=.tmp 9) (some ⟨w3.heap.size,0,none⟩) (.agg XA) rfl rfl (run_storeAt_new w3 _ qs XA (by rw[HXz.out];exact Tryz.sizeS) (by rw[HXz.out];rfl) HXn.out) ?_)
   | fail)
 try dsimp only[Act.put]
 have hk4:=hNq w3 (.cells XA 42);have hb4:Below w3.heap.size w3 (w3.alloc (.cells XA 42)):=bR.alloc (Va _) _;obtain⟨w4,hw4⟩:=exq (w3.alloc (.cells XA 42));rw[hw4]at hk4 hb4 ⊢;obtain⟨xb,hxb⟩:=exq w3.heap.size;rw[hxb]at hk4 ⊢;have HB24:Hid (Below w2.heap.size w2 w4):=HB3.out.trans (hb4.mono HB3.out.size);have HP0:Hid (Cw w2.heap.size w4 w4 X0 X0):=⟨Mut.refl _ _,HXo.out.below hb4,Qbv.refl _⟩
 have HX:Hid (∀(W:World) (X:Sta),Cw w2.heap.size w4 W X0 X→W.heap[xb]?=some (.cells X.arr 42 (0,0))):=fun W X h=>by
  rw[h.sm.arr,HXA.out];exact h.mt.cell hk4 (Qay rfl)
 have HBw:Hid (∀W,Mut w2.heap.size w4 W→Below w.heap.size w W):=fun W h=>HB2.out.trans ((HB24.out.trans h.bel).mono HB2.out.size)
 have HA0:Hid (∀W,Mut w2.heap.size w4 W→W.cell? ⟨w.heap.size+1+1,0,none⟩=some (.int .i64 (u:Int))∧W.cell? ⟨w.heap.size+1+1,3,none⟩=some (.bool a.sure)):=fun W h=>a0'.out W (HB24.out.trans h.bel)
 have HC1:Hid (∀W,Mut w2.heap.size w4 W→W.cell? ⟨w.heap.size,1,none⟩=some (.slice c.cp c.cl c.cc)):=fun W h=>c1'.out W (HB24.out.trans h.bel)
 have HAx:Hid (Qcy (Qaz cs T) a.sure u X0 M):=HAl.out X0 HXd.out;have hpn:X0.pn=s.pn:=by have h2:=HXo.out.pn;have h3:=Qk3 HXd.out;have h4:=HSp.out;omega
 have HPl:Hid (s.pn=cs.length):=by have h1:=HSh.out.pn;have h2:=HCf.out.len;show _=_;omega
 have HHl:Hid (∀p∈X0.pools,p.hl=T):=fun p hp=>by
  have h1:X0.pools.map Pl.d=s.pools.map Pl.d:=Vl StP.pools HXd.out;have h2:p.d∈s.pools.map Pl.d:=by rw[←h1];exact List.mem_map.2 ⟨p,hp,rfl⟩
  obtain⟨q,hq,e⟩:=List.mem_map.1 h2;have h3:q.hs=p.hs:=Vl PlP.hs e;have h4:=HXo.out.hlen p hp;have h5:=(HSl.out q hq);have h6:=HSh.out.hl q hq;have h7:=HTi.out;rw[←h3]at h4;omega
 have HPn:=Qaa hpn;clear hw4 hxb hb4 HCp HLs HB3 HXz HXn HXo HXd hk4 hpn HAl HSl HSp a0' c1';go_wp2;go_loopw [10] (fun iv wr=>∃(i:Nat) (X:Sta),i≤n∧iv=.int .i64 i∧Hid (Cw w2.heap.size w4 wr X0 X)∧Hid (X=(M.take i).foldl (fun s x=>s.lineAt x a.sure u) X0)) (fun iv _=>n - (intOf iv).toNat);case atStart=>exact⟨0,X0,Vo _,rfl,HP0,rfl⟩
 case round =>
  clear HP0;obtain⟨i,X,hi,rfl,HP,HXf⟩:=hrel;by_cases hlt:i<n
  ·have hlti:(i:Int)<(n:Int):=by omega
   have i0:(0:Int)≤(i:Int):=by omega
   obtain⟨x,hx⟩:∃x,M[i]?=some x:=⟨_,gE (by rw[HMn.out];exact hlt)⟩;obtain⟨⟨k,ek,hk⟩,hx0,hx1,hx2⟩:=HMd.out x (mG hx);have HQ:Hid (Qaz cs T (X.lineAt x a.sure u)):=by have h:=HAx.out.at hx;rw[←HXf.out]at h;exact h
   have HXf2:Hid (X.lineAt x a.sure u=(M.take (i+1)).foldl (fun s x=>s.lineAt x a.sure u) X0):=by show _=_;rw[Z.take_snoc hx,List.foldl_append,←HXf.out];rfl
   obtain⟨mb,mo,em,hml,hmc⟩:=HCe.out.get (i:=i) (r:=Qal x) (by rw[Vb,hx];rfl)
   have HMc:Hid (∀W,Mut w2.heap.size w4 W→W.cell? ⟨mb,mo+i*2,none⟩=some (.int .i64 (k:Int))∧W.cell? ⟨mb,mo+i*2+1,none⟩=some (.int .i64 x.n)):=fun W h=>by
    have h1:=fun j v hv=>((HBw.out W h).cell (p:=⟨mb,mo+i*2+j,none⟩) hml).trans (hmc j v hv)
    have h2:=h1 0 _ rfl;rw[ek]at h2;exact⟨h2,h1 1 _ rfl⟩
   obtain⟨HMl,HEk⟩:=Qmj hml ek;obtain⟨xn,hxn⟩:=exq x.n;rw[hxn]at HMc hx0 hx1 hx2;have HXn:=Qaa hxn;clear hmc hml hx ek hxn HXf;have hpk:k<s.pn:=by rw[HPl.out];exact hk
   have hXp:X.pn=s.pn:=by rw[HP.out.sm.pn];exact HPn.out
   obtain⟨P,hP⟩:∃P,X.pools[k]?=some P:=⟨_,gE (by rw[HP.out.ow.pn,hXp];exact hpk)⟩
   have hhl:P.hl=T:=by
    have h1:=HP.out.sm.hl k;rw[hP]at h1
    obtain⟨q,hq⟩:∃q,X0.pools[k]?=some q:=by
     cases e:X0.pools[k]? with
     | none=>rw[e]at h1;cases h1
     | some q=>exact⟨q,rfl⟩
    rw[hq]at h1;have h2:P.hl=q.hl:=by simpa using h1
    rw[h2];exact HHl.out q (mG hq)
   obtain⟨l,hl⟩:∃l,P.hs[u]?=some l:=⟨_,gE (by rw[HP.out.ow.hlen P (mG hP),hhl];exact HUT.out)⟩;obtain⟨g,eg,hgB,⟨C,hC⟩,hf,hcl,hst⟩:=HP.out.ow.setP hP;obtain⟨gh,egh,hghB,⟨Ch,hCh⟩,hfh,hch,hsth⟩:=HP.out.ow.setH hP hl;have hxb0:=HX.out _ _ HP.out;have ne1:¬g=xb:=by rintro rfl;rw[hC]at hxb0;cases hxb0
   have ne2:¬gh=xb:=by rintro rfl;rw[hCh]at hxb0;cases hxb0
   have ne3:¬gh=g:=by rintro rfl;rw[hC]at hCh;cases hCh
   have k0:(0:Int)≤(k:Int):=by omega
   have k1:(k:Int)<(s.pn:Int):=by omega
   have u0:(0:Int)≤(u:Int):=by omega
   have u1:(u:Int)<(T:Int):=by have:=HUT.out;omega
   obtain⟨y,hy,hPo,hb1,hb2',hPl⟩:=HQ.out.at (k:=k) (P:=P.line xn a.sure u) (by unfold Sta.lineAt;rw[HEk.out,HXn.out,Vv,Vu,hP];exact Vn (Vd.1 hP).1);obtain⟨cb,co,ec,hcl3,hcc⟩:=HCf.out.cel.get (i:=k) (r:=ctc y) (by rw[Vb,hy];rfl)
   have HCc:Hid (∀W,Mut w2.heap.size w4 W→W.cell? ⟨cb,co+k*4+1,none⟩=some (.int .i64 y.lo)∧W.cell? ⟨cb,co+k*4+2,none⟩=some (.int .i64 y.hi)):=fun W h=>by
    have h1:=fun j v hv=>((HBw.out W h).cell (p:=⟨cb,co+k*4+j,none⟩) hcl3).trans (hcc j v hv)
    exact⟨h1 1 _ rfl,h1 2 _ rfl⟩
   have kc:(k:Int)<(c.cl:Int):=by have:=HCf.out.len;omega
   have HBd:=Qaa (hPo.b hb1 hb2');obtain⟨HPo,HEc,HEg,HEgh,HHp⟩:=Qml hPo ec eg egh hhl;have HCg:=Qaa (And.intro hC hCh);have HPm:=Qaa (And.intro hP hl);have HXp:=Qaa hXp;have HF:=Qaa (And.intro hf hfh);obtain⟨HSt,HSth⟩:=Qmj hst hsth;have HCl:=Qaa (And.intro hcl hch);clear hf hfh hst hsth hcl hch hC hCh hhl eg egh hP hl hXp hPo hb1 hb2' hPl ec hcl3 hcc hy hxb0 hpk;have ne4:¬gh=w.heap.size+1+1:=by have:=HS2z.out;omega
   have ne5:¬g=w.heap.size+1+1:=by have:=HS2z.out;omega
   have ne6:¬g=mb:=by have:=HS2z.out;have:=HMl.out;omega
   subst em;rw[HSv.out]at HA0;have HN0:=HP;have HP0:Hid (X.pools[k]?=some P):=HPm.out.1;obtain⟨m0,m1⟩:=HMc.out _ HP.out.mt;have c1:wr.cell? ⟨xb,1,none⟩=some (.slice (some ⟨g,0,none⟩) s.pn X.pc):=Cw.box (HX.out _ _ HN0.out) rfl HEg.out HXp.out;obtain⟨a0,a3⟩:=HA0.out _ HP.out.mt;go_upto_if 33 with (fail);clear m0 m1;go_cut [12,13] from 1 to 0 (fun sw sn wc=>∃(b q:Nat) (m:Int),sw=.int .i64 (b:Int)∧sn=.int .i64 m∧Hid (Wy xn b q m)∧Hid (wc=wr))
   case first =>
    by_cases hneg:xn<0
    ·go_wp2
     go_meet;case rel=>exact⟨0,1,-xn,rfl,rfl,Or.inl ⟨by omega,rfl,rfl,rfl⟩,rfl⟩
    ·go_wp2
     go_meet;case rel=>exact⟨1,0,xn,rfl,rfl,Or.inr ⟨by omega,rfl,rfl,rfl⟩,rfl⟩
   case rest =>
    obtain⟨b,q,m,rfl,rfl,HWy,hwc⟩:=hcut;rw[show wc=wr from hwc.out];clear hwc wc;have hb:b<2∧q<2∧(q:Int)=1 - (b:Int)∧0<m∧m≤1099511627776:=by rcases HWy.out with ⟨h1,rfl,rfl,rfl⟩ | ⟨h1,rfl,rfl,rfl⟩ <;> omega
    obtain⟨hb2,hq2,hqb,hm0,hm1⟩:=hb;have b0:(0:Int)≤(b:Int):=by omega
    have b1:(b:Int)<2:=by omega
    have q0:(0:Int)≤(q:Int):=by omega
    have q1:(q:Int)<2:=by omega
    have hqw:IntKind.i64.wrap (1 - (b:Int))=(q:Int):=by rw[←hqb,Qaq];exact Z.w64_id (by omega)
    have HQb:=Qaa hqb;clear hqb;go_upto_region 15 with (fail);clear c1 a0 a3;obtain⟨fb,hfb⟩:=exq (P.getF b);obtain⟨fq,hfq⟩:=exq (P.getF q);obtain⟨pv,hpv⟩:=exq P.v;have HFs:=Qaa (And.intro hfb (And.intro hfq hpv));have c1:wr.cell? ⟨xb,1,none⟩=some (.slice (some ⟨g,0,none⟩) s.pn X.pc):=Cw.box (HX.out _ _ HN0.out) rfl HEg.out HXp.out;obtain⟨f0,fz,hn,hp⟩:=HN0.out.stF HP0.out HEg.out b hb2 (wrap64 (fb - m));rw[hfb]at f0;obtain⟨wv,hwv⟩:=exq (wrap64 (fb - m));have hwvu:IntKind.i64.wrap (fb - m)=wv:=by rw[←hwv];exact Qaq _
    rw[hwv]at hn hp;obtain⟨HN1,HP1,Hwv⟩:=Qmk hn hp hwv;clear hn hp hwv;go_upto_region 15 with (fail);refine Vi ?_;refine Vf (S:=(fun w'=>w'.cell? ⟨xb,1,none⟩=some (.slice (some ⟨g,0,none⟩) s.pn X.pc))) (by kernel_rfl) (by go_keep) (fun hHeld=>?_);refine tkg 0 ?_;refine tkg 1 ?_;refine tkg 2 ?_;refine tkg 3 ?_;refine tkg 4 ?_;refine tkg 5 ?_;refine tkg 6 ?_;refine tkg 7 ?_;refine tkg 8 ?_;refine tkg 9 ?_;refine tkg 10 ?_;refine tkg 12 ?_;refine tkg 14 ?_;refine tkg 15 ?_;refine rdy 11 (fun KK hKK=>?_);go_simp;refine hKK.out _ _ (by(try dsimp only);go_keep) (fun hHeld=>?_);clear hKK KK;try simp only[Act.put,qzg,qzh,qzi,qzs,qz0,qz1]
    refine tkg 13 ?_;refine tkg 16 ?_;refine rdy 17 (fun KK hKK=>?_);go_simp;refine hKK.out _ _ (by(try dsimp only);go_keep) (fun hHeld=>?_);clear hKK KK;try simp only[Act.put,qzg,qzh,qzi,qzs,qz0,qz1]
    try simp only[Act.put,qzg,qzh,qzi,qzs,qz0,qz1]
    refine Vp (by kernel_rfl) (Vj ?_) _;obtain⟨w5,hw1⟩:=exq ((wr.setCell ⟨g,k*4+1+b,none⟩ (.int .i64 wv)).drew);rw[hw1]at HN1 ⊢;clear hw1 c1 f0 fz hwvu;have c1:w5.cell? ⟨xb,1,none⟩=some (.slice (some ⟨g,0,none⟩) s.pn X.pc):=Cw.box (HX.out _ _ HN1.out) rfl HEg.out HXp.out;obtain⟨f0,fz,hn,hp⟩:=HN1.out.stF HP1.out HEg.out q hq2 (wrap64 (fq+m));rw[show (P.setF b wv).getF q=P.getF q from Qmn _ (by have:=HQb.out;omega) _,hfq]at f0;obtain⟨ov,hov⟩:=exq (wrap64 (fq+m));have hovu:IntKind.i64.wrap (fq+m)=ov:=by rw[←hov];exact Qaq _
    rw[hov]at hn hp;obtain⟨HN2,HP2,Hov⟩:=Qmk hn hp hov;clear hn hp hov;go_upto_region 16 with (fail);refine Vi ?_;refine Vf (S:=(fun w'=>w'.cell? ⟨xb,1,none⟩=some (.slice (some ⟨g,0,none⟩) s.pn X.pc))) (by kernel_rfl) (by go_keep) (fun hHeld=>?_);refine tkg 0 ?_;refine tkg 1 ?_;refine tkg 2 ?_;refine tkg 3 ?_;refine tkg 4 (v:=.int .i64 (q:Int)) ?_;refine tkg 5 ?_;refine tkg 6 ?_;refine tkg 7 ?_;refine tkg 8 ?_;refine tkg 9 (v:=.int .i64 (q:Int)) ?_;refine tkg 10 ?_;refine tkg 11 ?_;refine tkg 12 ?_;refine tkg 14 ?_;refine tkg 16 ?_;refine tkg 17 ?_;refine rdy 13 (fun KK hKK=>?_);go_simp;refine hKK.out _ _ (by(try dsimp only);go_keep) (fun hHeld=>?_);clear hKK KK;try simp only[Act.put,qzg,qzh,qzi,qzs,qz0,qz1]
    refine tkg 15 ?_;refine tkg 18 ?_;refine rdy 19 (fun KK hKK=>?_);go_simp;refine hKK.out _ _ (by(try dsimp only);go_keep) (fun hHeld=>?_);clear hKK KK;try simp only[Act.put,qzg,qzh,qzi,qzs,qz0,qz1]
    try simp only[Act.put,qzg,qzh,qzi,qzs,qz0,qz1]
    refine Vp (by kernel_rfl) (Vj ?_) _;obtain⟨w6,hw2⟩:=exq ((w5.setCell ⟨g,k*4+1+q,none⟩ (.int .i64 ov)).drew);rw[hw2]at HN2 ⊢;clear hw2 c1 f0 fz hovu;have c1:w6.cell? ⟨xb,1,none⟩=some (.slice (some ⟨g,0,none⟩) s.pn X.pc):=Cw.box (HX.out _ _ HN2.out) rfl HEg.out HXp.out;obtain⟨m0,m1⟩:=HMc.out _ HN2.out.mt;obtain⟨f0,fz,hn,hp⟩:=HN2.out.stV HP2.out HEg.out (wrap64 (pv+xn));rw[show ((P.setF b wv).setF q ov).v=P.v from by simp only[(Qmm _ _ _).2.2.2.2],hpv]at f0;obtain⟨nv,hnv⟩:=exq (wrap64 (pv+xn));have hnvu:IntKind.i64.wrap (pv+xn)=nv:=by rw[←hnv];exact Qaq _
    rw[hnv]at hn hp;obtain⟨HN3,HP3,Hnv⟩:=Qmk hn hp hnv;clear hn hp hnv;go_upto_region 17 with (fail);refine Vi ?_;refine Vf (S:=(fun w'=>w'.cell? ⟨xb,1,none⟩=some (.slice (some ⟨g,0,none⟩) s.pn X.pc)∧w'.cell? ⟨mb,mo+i*2+1,none⟩=some (.int .i64 xn))) (by kernel_rfl) (by go_keep) (fun hHeld=>?_);refine tkg 0 ?_;refine tkg 1 ?_;refine tkg 2 ?_;refine tkg 3 ?_;refine tkg 4 ?_;refine tkg 5 ?_;refine tkg 6 ?_;refine tkg 7 ?_;refine tkg 9 ?_;refine tkg 10 ?_;refine tkg 11 ?_;refine tkg 12 ?_;refine tkg 13 ?_;refine rdy 8 (fun KK hKK=>?_);go_simp;refine hKK.out _ _ (by(try dsimp only);go_keep) (fun hHeld=>?_);clear hKK KK;try simp only[Act.put,qzg,qzh,qzi,qzs,qz0,qz1]
    refine tkg 14 ?_;refine tkg 15 ?_;refine tkg 16 ?_;refine rdy 17 (fun KK hKK=>?_);go_simp;refine hKK.out _ _ (by(try dsimp only);go_keep) (fun hHeld=>?_);clear hKK KK;try simp only[Act.put,qzg,qzh,qzi,qzs,qz0,qz1]
    try simp only[Act.put,qzg,qzh,qzi,qzs,qz0,qz1]
    refine Vp (by kernel_rfl) (Vj ?_) _;obtain⟨w7,hw3⟩:=exq ((w6.setCell ⟨g,k*4,none⟩ (.int .i64 nv)).drew);rw[hw3]at HN3 ⊢;clear hw3 c1 f0 fz hnvu m0 m1;have e3:(((P.setF b wv).setF q ov).setV nv)=P.line xn a.sure u:=by rw[HSv.out,(Qmo HWy.out ⟨hx1,hx2⟩ P u HPm.out.2).1,HFs.out.1,HFs.out.2.1,HFs.out.2.2,Hwv.out,Hov.out,Hnv.out]
    have HXe:Hid ((((X.upP k (P.setF b wv)).upP k ((P.setF b wv).setF q ov)).upP k (((P.setF b wv).setF q ov).setV nv))=(M.take (i+1)).foldl (fun s x=>s.lineAt x a.sure u) X0):=by
     show _=_;rw[←HXf2.out,e3];have h:(X.pools.getD k pl0)=P:=by rw[Vu,HPm.out.1];rfl
     unfold Sta.lineAt Sta.upP;rw[HEk.out,HXn.out,Vv,h];simp only[List.set_set]
    have hB:=HBd.out;have hO:=HPo.out;rw[←e3]at hB hO;clear e3 HWy;obtain⟨z1,-,-,-⟩:=HN3.out.stF HP3.out HEg.out b hb2 0;obtain⟨z2,-,-,-⟩:=HN3.out.stV HP3.out HEg.out 0;skip;obtain⟨w1v,hw1⟩:=exq (((((P.setF b wv).setF q ov).setV nv)).getF b);rw[hw1]at z1;have q2:¬w1v<0:=by rw[←hw1];unfold Pl.getF;split;exact Int.not_lt.2 hB.f0.1;exact Int.not_lt.2 hB.f1.1
    have hlh:((((P.setF b wv).setF q ov).setV nv)).hs[u]?=some l:=by rw[show ((((P.setF b wv).setF q ov).setV nv)).hs=P.hs from (Qmm _ _ _).1.trans (Qmm _ _ _).1];exact HPm.out.2
    have hpp:((((P.setF b wv).setF q ov).setV nv)).hp=some ⟨gh,0,none⟩∧((((P.setF b wv).setF q ov).setV nv)).hl=T∧((((P.setF b wv).setF q ov).setV nv)).hc=P.hc:=by have h1:=Qmm (P.setF b wv) q ov;have h2:=Qmm P b wv;exact⟨h1.2.1.trans (h2.2.1.trans HEgh.out),h1.2.2.1.trans (h2.2.2.1.trans HHp.out),h1.2.2.2.1.trans h2.2.2.2.1⟩
    obtain⟨z3,-,-,-⟩:=HN3.out.stH HP3.out hlh hpp.1 b hb2 0;obtain⟨l1v,hl1⟩:=exq ((l).getW b);rw[hl1]at z3;have q3:¬l1v<0:=by rw[←hl1];have h:=hB.hs _ (mG hlh);unfold Lin.getW;split;exact Int.not_lt.2 h.1.1;exact Int.not_lt.2 h.2.1
    have z2':w7.cell? ⟨g,k*4,none⟩=some (.int .i64 nv):=z2;have q4:¬nv<y.lo:=Int.not_lt.2 hO.vlo;have q5:¬y.hi<nv:=Int.not_lt.2 hO.vhi;have b3:=HN3.out.held HP3.out HEg.out hpp.1 hpp.2.1 hpp.2.2;have c1:w7.cell? ⟨xb,1,none⟩=some (.slice (some ⟨g,0,none⟩) s.pn X.pc):=Cw.box (HX.out _ _ HN3.out) rfl HEg.out HXp.out;obtain⟨a0,a3⟩:=HA0.out _ HN3.out.mt;have d1:=HC1.out _ HN3.out.mt;rw[HEc.out]at d1;obtain⟨d2,d3⟩:=HCc.out _ HN3.out.mt;have HN4:Hid (Cw w2.heap.size w4 w7.drew X0 _):=⟨HN3.out.mt.drew,HN3.out.ow.below (bR.drew),HN3.out.sm⟩;clear hB hO hw1 hlh hpp hl1 z2 HN3 HP3 hqw q0 q1 hq2 hb2 hfb hfq hpv;go_upto_region 18 with (fail);go_region;go_wp2;go_roundw;case rel=>exact⟨i+1,_,by omega,by go_num,HN4,HXe⟩
    case measure=>simp[intOf];omega
  ·have hlti:¬(i:Int)<(n:Int):=by omega
   have HBr:=Qaa (HBw.out _ HP.out.mt);clear HP HXf;go_wp2;go_ret;exact⟨rfl,HBr.out⟩
end Go.Proofs.YtiogibfhafoapaaGreat
