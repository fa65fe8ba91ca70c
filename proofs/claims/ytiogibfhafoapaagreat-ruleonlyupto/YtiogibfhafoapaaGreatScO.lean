import Derived.Test.YtiogibfhafoapaaGreatAbZ
import Derived.Test.YtiogibfhafoapaaGreatJgE
import Derived.Test.YtiogibfhafoapaaGreatOnD
import Derived.Test.YtiogibfhafoapaaGreatMv3
import Derived.ProofKit
import Derived.OpenShut
import Derived.SizedLaws
import Derived.Deep.Slices
import Derived.Test.YtiogibfhafoapaaGreatRows
set_option maxRecDepth 100000
set_option maxHeartbeats 8000000
set_option linter.unusedSimpArgs false
set_option linter.unusedVariables false
namespace Go.Proofs.YtiogibfhafoapaaGreat
open Go.RowKit
open Z (Sli SlOk Elt Acd AcdOk Ctr)
theorem Same.parts {s r:Sta} (h:Same s r):r.pp=s.pp∧r.pc=s.pc∧r.rp=s.rp∧r.rc=s.rc∧r.lp=s.lp∧r.ln=s.ln∧r.lc=s.lc∧r.gp=s.gp∧r.gn=s.gn∧r.gc=s.gc∧r.op=s.op∧r.oc=s.oc:=by
 have ha:=h.arr;unfold Sta.arr at ha;simp at ha;exact⟨ha.2.1.1,ha.2.1.2.2,ha.2.2.1.1,ha.2.2.1.2.2,ha.2.2.2.1.1,ha.2.2.2.1.2.1,ha.2.2.2.1.2.2,ha.2.2.2.2.1.1,ha.2.2.2.2.1.2.1,ha.2.2.2.2.1.2.2,ha.2.2.2.2.2.1,ha.2.2.2.2.2.2.2⟩
theorem row_low {W:World} {B n m k c:Nat} {t:TypeId} {p:Option Addr} {ys:List Value} (h:W.ownsRow B t k (.slice p n c) m ys) {g:Nat} (hg:p=some ⟨g,0,none⟩):g<W.heap.size:=RB.owns_lt h g (by rw[hg];rfl)
structure Es (B:Nat) (w4 w5 W:World) (s X0 F X:Sta) (a:Acd):Prop where
 mt:Mut B w5 W
 ow:StaOw B W X
 sm:Same X0 X
 fo:StaOw w4.heap.size W F
 al:Alk s X a
 src:∀(i:Nat) (p:Pl),X.pools[i]?=some p→(∀b,p.hv.ownBlock=some b→b<w4.heap.size)∨F.pools[i]?=some p
theorem Es.below {B:Nat} {w4 w5 W W':World} {s X0 F X:Sta} {a:Acd} (h:Es B w4 w5 W s X0 F X a) (hB:B≤W.heap.size) (hb:Below W.heap.size W W'):Es B w4 w5 W' s X0 F X a :=
 ⟨h.mt.trans (Mut.of hb hB),h.ow.below hb,h.sm,h.fo.below hb,h.al,h.src⟩
theorem Es.drew {B:Nat} {w4 w5 W:World} {s X0 F X:Sta} {a:Acd} (h:Es B w4 w5 W s X0 F X a):Es B w4 w5 W.drew s X0 F X a :=
 ⟨h.mt.drew,h.ow.below ((Below.refl _ _).drew),h.sm,h.fo.below ((Below.refl _ _).drew),h.al,h.src⟩
theorem StaOw.low_set {B k i:Nat} {W:World} {s:Sta} {v:Value} (h:StaOw B W s) (hk:k<B):StaOw B (W.setCell ⟨k,i,none⟩ v) s:=h.by (fun _ _ _ _ _ hr=>Z.owns_low_set hr hk)
theorem Es.pool {B:Nat} {w4 w5 W:World} {s X0 F X:Sta} {a:Acd} (h:Es B w4 w5 W s X0 F X a) (hB:B≤w4.heap.size) {k:Nat} {P Q:Pl} (hP:X.pools[k]?=some P) (hQ:F.pools[k]?=some Q) (hl:Q.hl=P.hl) (hk:namedB a (k:Int)=false) {g:Nat} (hg:X.pp=some ⟨g,0,none⟩) (hlow:g<w4.heap.size) :
  Es B w4 w5 ((((W.setCell ⟨g,k*4,none⟩ (.int .i64 Q.v)).setCell ⟨g,k*4+1,none⟩ (.int .i64 Q.f0)).setCell ⟨g,k*4+2,none⟩ (.int .i64 Q.f1)).setCell ⟨g,k*4+3,none⟩ Q.hv) s X0 F (X.upP k Q) a:=by
 obtain⟨hgB,⟨C,hC⟩,_,_⟩:=h.ow.poolRow hP hg;have hQm:=List.mem_of_getElem? hQ;have hQr:=Z.owns_le (h.fo.held Q hQm) hB
 have hap:∀(i:Nat) (x:Pl),i≠k→X.pools[i]?=some x→∀b,x.hv.ownBlock=some b→Q.hv.ownBlock≠some b:=fun i x hi hx b hb hq=>by
  rcases h.src i x hx with h1 | h1
  ·have h2:=h1 b hb
   have h3:=Z.owns_base (h.fo.held Q hQm) b hq;omega
  ·exact h.fo.apart i k x Q h1 hQ hi b hb hq
 refine⟨h.mt.set4 hC (Or.inl rfl) hgB _ _ _ _ _ _ _ _,h.ow.putPool hP (h.fo.hlen Q hQm) hQr hap hg,h.sm.trans (Same.up hP hl),(((h.fo.low_set hlow).low_set hlow).low_set hlow).low_set hlow,h.al.setPool hk Q,fun i p hp=>?_⟩;rcases upP_get hP hp with ⟨_,h1⟩ | ⟨rfl,rfl⟩
 ·exact h.src i p h1
 ·exact Or.inr hQ
theorem Es.price {B:Nat} {w4 w5 W:World} {s X0 F X:Sta} {a:Acd} (h:Es B w4 w5 W s X0 F X a) {k:Nat} {p:Lin} (hp:X.prices[k]?=some p) (x n:Int) (hk:pricedB a (k:Int)=false) {g:Nat} (hg:X.rp=some ⟨g,0,none⟩) (hlow:g<w4.heap.size) :
  Es B w4 w5 ((W.setCell ⟨g,k*2,none⟩ (.int .i64 x)).setCell ⟨g,k*2+1,none⟩ (.int .i64 n)) s X0 F { X with prices:=X.prices.set k ⟨x,n⟩ } a:=by
 obtain⟨g',e,hB,⟨C,hC⟩,_,_,hst⟩:=h.ow.setR hp;rw[hg]at e;cases e;have hC1:=heap_setCell_same W g (k*2) _ _ (.int .i64 x) hC;exact⟨(h.mt.set hC (Or.inr (Or.inr (Or.inl rfl))) hB _ _).set hC1 (Or.inr (Or.inr (Or.inl rfl))) hB _ _,hst x n,⟨h.sm.arr,h.sm.pn,h.sm.rn,h.sm.on,h.sm.hl⟩,(h.fo.low_set hlow).low_set hlow,h.al.setPrice hk _,h.src⟩
theorem Es.last {B:Nat} {w4 w5 W:World} {s X0 F X:Sta} {a:Acd} (h:Es B w4 w5 W s X0 F X a) {k:Nat} {q:Int} (hq:X.last[k]?=some q) {g:Nat} (hg:X.lp=some ⟨g,0,none⟩) (hlow:g<w4.heap.size) :
  Es B w4 w5 (W.setCell ⟨g,k,none⟩ (.int .u64 0)) s X0 F (X.setLast k 0) a:=by
 obtain⟨g',e,hB,⟨C,hC⟩,_,_,hst⟩:=h.ow.setL hq;rw[hg]at e;cases e;exact⟨h.mt.set hC (Or.inr (Or.inr (Or.inr (Or.inl rfl)))) hB _ _,hst 0,⟨h.sm.arr,h.sm.pn,h.sm.rn,h.sm.on,h.sm.hl⟩,h.fo.low_set hlow,h.al.setLast k 0,h.src⟩
theorem Es.till {B:Nat} {w4 w5 W:World} {s X0 F X:Sta} {a:Acd} (h:Es B w4 w5 W s X0 F X a) {k:Nat} {q:Int} {b:Bool} (hq:X.gen[k]?=some q) (hb:X.owed[k]?=some b) (hk:a.till≠(k:Int)) {g g2:Nat} (hg:X.gp=some ⟨g,0,none⟩) (hg2:X.op=some ⟨g2,0,none⟩) (hlow:g<w4.heap.size) (hlow2:g2<w4.heap.size) :
  Es B w4 w5 ((W.setCell ⟨g,k,none⟩ (.int .u64 0)).setCell ⟨g2,k,none⟩ (.bool false)) s X0 F ((X.setGen k 0).setOw k false) a:=by
 obtain⟨g',e,hB,⟨C,hC⟩,_,_,hst⟩:=h.ow.setG hq;rw[hg]at e;cases e;have h1:=hst 0;obtain⟨g',e,hB2,⟨C2,hC2⟩,_,_,hst2⟩:=h1.setO (k:=k) (q:=b) hb;have e':X.op=some ⟨g',0,none⟩:=e;rw[hg2]at e';cases e';exact⟨(h.mt.set hC (Or.inr (Or.inr (Or.inr (Or.inl rfl)))) hB _ _).set hC2 (Or.inr (Or.inr (Or.inr (Or.inr rfl)))) hB2 _ _,hst2 false,⟨h.sm.arr,h.sm.pn,h.sm.rn,h.sm.on,h.sm.hl⟩,(h.fo.low_set hlow).low_set hlow2,h.al.setTill hk _ _,h.src⟩
theorem elsewhere_any (w:World) (c:Cfg) (cs:List Ctr) (ps:List (ByteArray × Int)) (s:Sta) (a:Acd) (hc:CfgOk w c cs) (hs:StaOk w s) (hsh:Shp c s) (ha:AcdOk w a) (T:Nat) (hT:c.tills=(T:Int)) (hpl:ps.length=c.pl)
  (hF:∀W,Below w.heap.size w W→Calls Tryz.prog 11 #[.agg c.arr] W fun e w'=>∃S:Sta,e=.returned (.agg S.arr)∧S.d=firD T c.cl c.pl T cs ps∧StaOw W.heap.size w' S∧Below W.heap.size W w') :
  Calls Tryz.prog 21 #[.agg c.arr,.agg s.arr,.agg a.arr] w fun e w'=>∃X:Sta,e=.returned (.agg X.arr)∧StaOk w' X∧Alk s X a∧Below w.heap.size w w':=by
 obtain⟨CA,hCA⟩:∃A,c.arr=A:=⟨_,rfl⟩;obtain⟨S,hS⟩:∃S,s.arr=S:=⟨_,rfl⟩;obtain⟨AA,hA⟩:∃A,a.arr=A:=⟨_,rfl⟩;have HSz:Hid (S.size=6):=by show _=_;rw[←hS];rfl
 have HCz:Hid (CA.size=9):=by show _=_;rw[←hCA];rfl
 have HAz:Hid (AA.size=15):=by show _=_;rw[←hA];rfl
 obtain⟨w2,hw2,hb2,hc2,hx2,hy2,hz2,hsz⟩:=boxes4 w CA S AA qs 34 42 55 42;have HCp:Hid (Calls Tryz.prog 15 #[.agg s.arr] w2 fun e w'=>∃r:Sta,e=.returned (.agg r.arr)∧r.d=s.d∧StaOw w2.heap.size w' r∧Below w2.heap.size w2 w'):=copyState_any w2 s (hs.below hb2) (sm_of (hc.below hb2) hsh);rw[hS]at HCp;have HFi:=hide hF;rw[hCA]at HFi;have HLs:=hide (Z.loadAt_row (P:=Tryz.prog) (ty:=42) hx2 Tryz.underlying42 rfl (by rw[HSz.out];exact Tryz.sizeS));have HAb:Hid (∀W,Below w2.heap.size w2 W→W.heap[w.heap.size+1+1]?=some (.cells AA 55 (0,0))):=fun W h=>(h.block _ (ac_lt hy2)).trans hy2
 have HCb:Hid (∀W,Below w2.heap.size w2 W→W.heap[w.heap.size]?=some (.cells CA 34 (0,0))):=fun W h=>(h.block _ (ac_lt hc2)).trans hc2
 have HAt:Hid (∀W:World,W.heap[w.heap.size+1+1]?=some (.cells AA 55 (0,0))→W.cell? ⟨w.heap.size+1+1,0,none⟩=some (.int .i64 a.till)):=fun W h=>by
  rw[cell_of_row _ _ _ _ _ _ h,←hA];rfl
 have HSl:Hid (s.last.length=s.ln∧s.gen.length=s.gn∧s.owed.length=s.on∧s.pools.length=s.pn∧s.prices.length=s.rn):=⟨hs.ln,hs.gn,hs.on,hs.pn,hs.rn⟩;have HSq:Hid (∀q∈s.pools,q.hs.length=q.hl):=fun q hq=>(hs.held q hq).len
 have HNm:=hide (fun (W:World) (h:Below w2.heap.size w2 W) (k:Int)=>named_any W a ((ha.below hb2).below h) k);have HPr:=hide (fun (W:World) (h:Below w2.heap.size w2 W) (k:Int)=>priced_any W a ((ha.below hb2).below h) k);rw[hA]at HNm HPr;have hbnd:s.pn≤4194304∧s.rn≤4194304∧s.gn≤4194304:=by have h:=sm_of hc hsh;exact⟨h.pn,h.rn,h.gn⟩
 obtain⟨hbn1,hbn2,hbn3⟩:=hbnd;have HW2:=hide hw2;have HB2:=hide hb2;have HZ2:=hide hz2;have HSh:=hide hsh;have HT:=hide hT;have HCl:=hide hc.len;have HPl:=hide hpl;rw[hCA,hS,hA];clear hw2 hb2 hc2 hx2 hy2 hz2 hCA hS hA hs hsh hc ha hT hF hpl;go_enter Tryz.func21,Tryz.ntmps21;go_upto_region 1 with (fail);rw[HW2.out]
 go_upto_region 2 with (
   first
   | ((with_reducible show wpList _ _ _ (⟨_,.load 42 (.tmp 4),_,_,_,_⟩ :: _) _ _);refine Z.lp_load (w.heap.size+1) 0 S rfl HLs.out ?_)
   | (go_at_call 15;refine HCp.out.mono ?_;rintro e w3 ⟨X0,rfl,hxd,hxo,hb3⟩;have HXd:=hide hxd;have HXo:=hide hxo;have HB3:=hide hb3;obtain⟨XA,hXA⟩:∃X,X0.arr=X:=⟨_,rfl⟩;have HXA:=hide hXA;have HXz:Hid (XA.size=6):=(by show _=_;rw[←hXA];rfl);have HXn:Hid (XA.all (·.oneCell')=true):=(by show _=_;rw[←hXA];simp[Sta.arr,Value.oneCell']);rw[hXA];clear hxd hxo hb3 hXA)
   | ((with_reducible show wpList _ _ _ (⟨_,.store 42 (.tmp 7) _,_,_,_,_⟩ :: _) _ _);refine Z.lp_store (t:=42) (x:=.tmp 7) (some ⟨w3.heap.size,0,none⟩) (.agg XA) rfl rfl (run_storeAt_new w3 _ qs XA (by rw[HXz.out];exact Tryz.sizeS) (by rw[HXz.out];rfl) HXn.out) ?_)
   | fail)
 try dsimp only[Act.put]
 have hk4:=heap_alloc_new w3 (.cells XA 42);have hb4:Below w3.heap.size w3 (w3.alloc (.cells XA 42)):=(Below.refl _ _).alloc (Nat.le_refl _) _;obtain⟨w4,hw4⟩:∃W,w3.alloc (.cells XA 42)=W:=⟨_,rfl⟩;rw[hw4]at hk4 hb4 ⊢;obtain⟨xb,hxb⟩:∃k,w3.heap.size=k:=⟨_,rfl⟩;rw[hxb]at hk4 ⊢;have HXlt:Hid (w.heap.size+1+1+1<xb):=by show _<_;rw[←hxb];have h1:=HB3.out.size;have h2:=ac_lt HZ2.out;omega
 have HB24:Hid (Below w2.heap.size w2 w4):=HB3.out.trans (hb4.mono HB3.out.size);have HXo4:=hide (HXo.out.below hb4);have HK4:=hide hk4;have HLc:=hide (Z.loadAt_row (P:=Tryz.prog) (ty:=34) (HCb.out _ HB24.out) Tryz.underlying34 rfl (by rw[HCz.out];exact Tryz.sizeC));have HFi4:=hide (HFi.out w4 (HB2.out.trans (HB24.out.mono HB2.out.size)));clear hw4 hxb hb4 hk4 HCp HLs HB3 HXo HFi
 go_upto_region 3 with (
   first
   | ((with_reducible show wpList _ _ _ (⟨_,.load 34 (.tmp 3),_,_,_,_⟩ :: _) _ _);refine Z.lp_load w.heap.size 0 CA rfl HLc.out ?_)
   | (go_at_call 11;refine HFi4.out.mono ?_;rintro e w5 ⟨F,rfl,hfd,hfo,hb5⟩;have HFd:=hide hfd;have HFo:=hide hfo;have HB5:=hide hb5;obtain⟨FA,hFA⟩:∃X,F.arr=X:=⟨_,rfl⟩;have HFA:=hide hFA;have HFz:Hid (FA.size=6):=(by show _=_;rw[←hFA];rfl);have HFn:Hid (FA.all (·.oneCell')=true):=(by show _=_;rw[←hFA];simp[Sta.arr,Value.oneCell']);rw[hFA];clear hfd hfo hb5 hFA)
   | ((with_reducible show wpList _ _ _ (⟨_,.store 42 (.tmp 8) _,_,_,_,_⟩ :: _) _ _);refine Z.lp_store (t:=42) (x:=.tmp 8) (some ⟨w5.heap.size,0,none⟩) (.agg FA) rfl rfl (run_storeAt_new w5 _ qs FA (by rw[HFz.out];exact Tryz.sizeS) (by rw[HFz.out];rfl) HFn.out) ?_)
   | fail)
 try dsimp only[Act.put]
 have hk6:=heap_alloc_new w5 (.cells FA 42);have hb6:Below w5.heap.size w5 (w5.alloc (.cells FA 42)):=(Below.refl _ _).alloc (Nat.le_refl _) _;obtain⟨w6,hw6⟩:∃W,w5.alloc (.cells FA 42)=W:=⟨_,rfl⟩;rw[hw6]at hk6 hb6 ⊢;obtain⟨fb,hfb⟩:∃k,w5.heap.size=k:=⟨_,rfl⟩;rw[hfb]at hk6 ⊢;have HB46:Hid (Below w4.heap.size w4 w6):=HB5.out.trans (hb6.mono HB5.out.size);have HB26:Hid (Below w2.heap.size w2 w6):=HB24.out.trans (HB46.out.mono HB24.out.size);have HE0:Hid (Es w2.heap.size w4 w6 w6 s X0 F X0 a):=⟨Mut.refl _ _,HXo4.out.below HB46.out,Same.refl _,HFo.out.below hb6,Alk.of_d HXd.out.symm a,fun i p hp=>Or.inl (fun b hb=>RB.owns_lt (HXo4.out.held p (List.mem_of_getElem? hp)) b hb)⟩
 have HX:Hid (∀(W:World) (X:Sta),Es w2.heap.size w4 w6 W s X0 F X a→W.heap[xb]?=some (.cells X.arr 42 (0,0))):=fun W X h=>by
  rw[h.sm.arr,HXA.out];exact h.mt.cell ((HB46.out.block _ (ac_lt HK4.out)).trans HK4.out) (not_mut rfl)
 have HFb:Hid (∀W,Mut w2.heap.size w6 W→W.heap[fb]?=some (.cells F.arr 42 (0,0))):=fun W h=>by rw[HFA.out];exact h.cell hk6 (not_mut rfl)
 have HAw:Hid (∀W,Mut w2.heap.size w6 W→W.heap[w.heap.size+1+1]?=some (.cells AA 55 (0,0))):=fun W h=>HAb.out W (HB26.out.trans h.bel)
 have HZw:Hid (∀W,Mut w2.heap.size w6 W→W.heap[w.heap.size+1+1+1]?=some (.cells qs 42 (0,0))):=fun W h=>h.cell ((HB26.out.block _ (ac_lt HZ2.out)).trans HZ2.out) (not_mut rfl)
 have HBw:Hid (∀W,Mut w2.heap.size w6 W→Below w.heap.size w W):=fun W h=>HB2.out.trans ((HB26.out.trans h.bel).mono HB2.out.size)
 have HFs:Hid (Shp c F):=fir_shp HFo.out HFd.out HCl.out HPl.out HT.out;have hle24:w2.heap.size≤w4.heap.size:=HB24.out.size
 have HLow:Hid (∀g,(X0.pp=some ⟨g,0,none⟩∨X0.rp=some ⟨g,0,none⟩∨X0.lp=some ⟨g,0,none⟩∨X0.gp=some ⟨g,0,none⟩∨X0.op=some ⟨g,0,none⟩)→g<w4.heap.size):=fun g h=>by
  rcases h with h | h | h | h | h
  ·exact row_low HXo4.out.pools h
  ·exact row_low HXo4.out.prices h
  ·exact row_low HXo4.out.last h
  ·exact row_low HXo4.out.gen h
  ·exact row_low HXo4.out.owed h
 have hpn:X0.pn=s.pn:=by have h2:=HXo4.out.pn;have h3:=d_len HXd.out;have h4:=HSl.out.2.2.2.1;omega
 have hrn:X0.rn=s.rn:=by have h2:=HXo4.out.rn;have h3:X0.prices=s.prices:=congrArg StP.prices HXd.out;have h4:=HSl.out.2.2.2.2;rw[h3]at h2;omega
 have hln:X0.ln=s.ln:=by have h2:=HXo4.out.ln;have h3:X0.last=s.last:=congrArg StP.last HXd.out;have h4:=HSl.out.1;rw[h3]at h2;omega
 have hgn:X0.gn=s.gn:=by have h2:=HXo4.out.gn;have h3:X0.gen=s.gen:=congrArg StP.gen HXd.out;have h4:=HSl.out.2.1;rw[h3]at h2;omega
 have hon:X0.on=s.on:=by have h2:=HXo4.out.on;have h3:X0.owed=s.owed:=congrArg StP.owed HXd.out;have h4:=HSl.out.2.2.1;rw[h3]at h2;omega
 have HNs:Hid (s.pn=c.cl∧F.pn=c.cl∧s.rn=c.pl∧F.rn=c.pl∧s.ln=T∧s.gn=T∧s.on=T):=by have h1:=HSh.out.ln;have h2:=HSh.out.gn;have h3:=HSh.out.on;have h4:=HT.out;exact⟨HSh.out.pn,HFs.out.pn,HSh.out.rn,HFs.out.rn,by omega,by omega,by omega⟩
 have HHl:Hid (∀p∈X0.pools,(p.hl:Int)=c.tills):=fun p hp=>by
  have h1:X0.pools.map Pl.d=s.pools.map Pl.d:=congrArg StP.pools HXd.out;have h2:p.d∈s.pools.map Pl.d:=by rw[←h1];exact List.mem_map.2 ⟨p,hp,rfl⟩
  obtain⟨q,hq,e⟩:=List.mem_map.1 h2;have h3:q.hs=p.hs:=congrArg PlP.hs e;have h4:=HXo4.out.hlen p hp;have h5:=(HSq.out q hq);have h6:=HSh.out.hl q hq;rw[←h3]at h4;omega
 have HPn:=hide (And.intro hpn (And.intro hrn (And.intro hln (And.intro hgn hon))));clear hw6 hfb hb6 hk6 HFi4 HLc HB5 HFo HXo4 HXz HXn HFz HFn hpn hrn hln hgn hon HXd HFd HK4 HXA HFA HAb HCb HSl HSq HZ2;go_wp2;go_loopw [9] (fun iv wr=>∃(i:Nat) (X:Sta),i≤s.pn∧iv=.int .i64 i∧Hid (Es w2.heap.size w4 w6 wr s X0 F X a)) (fun iv _=>s.pn - (intOf iv).toNat);case atStart=>exact⟨0,X0,Nat.zero_le _,rfl,HE0⟩
 case round =>
  obtain⟨i,X,hi,rfl,HE⟩:=hrel;obtain⟨c0,c1,c2,c3,c4,c5⟩:=ac6 (HX.out _ _ HE.out);obtain⟨P1,P2,P3,P4,P5⟩:=HPn.out;have hS:=HE.out.sm.parts;have hXp:X.pn=s.pn:=by rw[HE.out.sm.pn];exact P1
  have hXr:X.rn=s.rn:=by rw[HE.out.sm.rn];exact P2
  have hXl:X.ln=s.ln:=by rw[hS.2.2.2.2.2.1];exact P3
  have hXg:X.gn=s.gn:=by rw[hS.2.2.2.2.2.2.2.2.1];exact P4
  have hXo:X.on=s.on:=by rw[HE.out.sm.on];exact P5
  rw[hXp]at c1;rw[hXr]at c2;rw[hXl]at c3;rw[hXg]at c4;rw[hXo]at c5;have HS:=hide hS;clear hS P1 P2 P3 P4 P5 hXl hXg hXo;by_cases hlt:i<s.pn
  ·have hlti:(i:Int)<(s.pn:Int):=by omega
   have i0:(0:Int)≤(i:Int):=by omega
   have HLa:=hide (Z.loadAt_row (P:=Tryz.prog) (ty:=55) (HAw.out _ HE.out.mt) Tryz.underlying55 rfl (by rw[HAz.out];exact Z.Tryz.sizeA));obtain⟨nb,hnb⟩:∃b,namedB a (i:Int)=b:=⟨_,rfl⟩;have HNb:=hide hnb;have HC1:=hide (HNm.out wr (HB26.out.trans HE.out.mt.bel) (i:Int));rw[hnb]at HC1;have hBz:w2.heap.size≤wr.heap.size:=by have h1:=HB26.out.size;have h2:=HE.out.mt.size;omega
   clear hnb
   cases nb with
   | true =>
    go_wp2_with (
      first
      | ((with_reducible show wpList _ _ _ (⟨_,.load 55 (.tmp 5),_,_,_,_⟩ :: _) _ _);refine Z.lp_load (w.heap.size+1+1) 0 AA rfl HLa.out ?_)
      | (go_at_call 48;refine HC1.out.mono ?_;rintro e w7 ⟨rfl,hb7⟩;have HE7:=hide (HE.out.below hBz hb7);clear hb7)
      | fail)
    go_roundw;case rel=>exact⟨i+1,X,by omega,by go_num,HE7⟩
    case measure=>simp[intOf];omega
   | false =>
    go_upto_region 7 with (
      first
      | ((with_reducible show wpList _ _ _ (⟨_,.load 55 (.tmp 5),_,_,_,_⟩ :: _) _ _);refine Z.lp_load (w.heap.size+1+1) 0 AA rfl HLa.out ?_)
      | (go_at_call 48;refine HC1.out.mono ?_;rintro e w7 ⟨rfl,hb7⟩;have HE7:=hide (HE.out.below hBz hb7);clear hb7)
      | fail)
    clear HC1 HLa c0 c1 c2 c3 c4 c5;have HE:=hide HE7.out;clear HE7;obtain⟨wr,hwr⟩:∃W,w7=W:=⟨_,rfl⟩;rw[hwr]at HE ⊢;clear hwr;obtain⟨c0,c1,c2,c3,c4,c5⟩:=ac6 (HX.out _ _ HE.out);rw[hXp]at c1;obtain⟨p,hp⟩:∃p,X.pools[i]?=some p:=⟨_,List.getElem?_eq_getElem (by rw[HE.out.ow.pn];omega)⟩;obtain⟨q,hq⟩:∃q,F.pools[i]?=some q:=⟨_,List.getElem?_eq_getElem (by rw[HE.out.fo.pn,HNs.out.2.1,←HNs.out.1];omega)⟩
    have hhl:q.hl=p.hl:=by
     have h1:=HE.out.sm.hl i;rw[hp]at h1
     obtain⟨r,hr⟩:∃r,X0.pools[i]?=some r:=by
      cases e:X0.pools[i]? with
      | none=>rw[e]at h1;cases h1
      | some q=>exact⟨q,rfl⟩
     rw[hr]at h1;have h2:p.hl=r.hl:=by simpa using h1
     have h3:=HHl.out r (List.mem_of_getElem? hr);have h4:=HFs.out.hl q (List.mem_of_getElem? hq);omega
    obtain⟨g,eg,hgB,⟨C,hC⟩,hf,hcl,-⟩:=HE.out.ow.setP hp;obtain⟨gf,egf,hgfB,⟨Cf,hCf⟩,-,hcf,-⟩:=HE.out.fo.setP hq;have hgl:g<w4.heap.size:=HLow.out g (Or.inl (by rw[←HS.out.1];exact eg));have hxb0:=HX.out _ _ HE.out;have hfb0:=HFb.out _ HE.out.mt;have ne1:¬g=xb:=by rintro rfl;rw[hC]at hxb0;cases hxb0
    have ne2:¬g=fb:=by rintro rfl;rw[hC]at hfb0;cases hfb0
    have ne3:¬g=gf:=by omega
    have HEn:=hide (HE.out.pool hle24 hp hq hhl HNb.out eg hgl).drew;obtain⟨qv,f0,f1,qp,ql,qc,qs⟩:=q;unfold Pl.hv at HEn;dsimp only at HEn;obtain⟨d0,d1,d2,d3,d4,d5⟩:=ac6 hfb0;rw[egf]at d1;rw[eg]at c1;have b0:=hcf 0 _ rfl;have b1:=hcf 1 _ rfl;have b2:=hcf 2 _ rfl;have b3:=hcf 3 _ rfl;rw[Nat.add_zero]at b0;have r0:=hcl 0 _ rfl;have r1:=hcl 1 _ rfl;have r2:=hcl 2 _ rfl;have r3:=hcl 3 _ rfl;rw[Nat.add_zero]at r0;have e0:=hf (i*4);have e1:=hf (i*4+1);have e2:=hf (i*4+2);have e3:=hf (i*4+3);have hFn:(i:Int)<(F.pn:Int):=by rw[HNs.out.2.1,←HNs.out.1];exact hlti
    clear hcl hcf hf hC hCf hp hq eg egf hxb0 hfb0 hhl hgB hgfB;refine wp_region_noPanic ?_;refine wp_region_held_drew (S:=(fun w'=>w'.cell? ⟨xb,1,none⟩=some (.slice (some ⟨g,0,none⟩) s.pn X.pc)∧w'.cell? ⟨fb,1,none⟩=some (.slice (some ⟨gf,0,none⟩) F.pn F.pc)∧w'.cell? ⟨gf,i*4,none⟩=some (.int .i64 qv)∧w'.cell? ⟨gf,i*4+1,none⟩=some (.int .i64 f0)∧w'.cell? ⟨gf,i*4+2,none⟩=some (.int .i64 f1)∧w'.cell? ⟨gf,i*4+3,none⟩=some (.slice qp ql qc))) (by kernel_rfl) (by go_keep) (fun hHeld=>?_);refine tkg 0 ?_;refine tkg 1 ?_;refine tkg 2 ?_;refine tkg 3 ?_;refine tkg 4 ?_;refine tkg 5 ?_;refine tkg 6 ?_;refine tkg 7 ?_;refine tkg 8 ?_;refine rdy 9 (fun KK hKK=>?_);go_simp;refine hKK.out _ _ (by(try dsimp only);go_keep) (fun hHeld=>?_);clear hKK KK;try simp only[Act.put,qzg,qzh,qzi,qzs,qz0,qz1]
    try simp only[Act.put,qzg,qzh,qzi,qzs,qz0,qz1]
    refine wpAnyH_done (by kernel_rfl) (NoPanic.normal ?_) _;go_wp2;go_roundw;case rel=>exact⟨i+1,_,by omega,by go_num,HEn⟩
    case measure=>simp[intOf];omega
  ·have hlti:¬(i:Int)<(s.pn:Int):=by omega
   go_wp2;clear c0 c1 c2 c3 c4 c5 hXp hXr hlti hlt hi HS;go_loopw [10] (fun iv wr=>∃(i:Nat) (X:Sta),i≤s.rn∧iv=.int .i64 i∧Hid (Es w2.heap.size w4 w6 wr s X0 F X a)) (fun iv _=>s.rn - (intOf iv).toNat);case atStart=>exact⟨0,X,Nat.zero_le _,rfl,HE⟩
   case round =>
    clear HE;obtain⟨i,X,hi,rfl,HE⟩:=hrel;obtain⟨c0,c1,c2,c3,c4,c5⟩:=ac6 (HX.out _ _ HE.out);obtain⟨P1,P2,P3,P4,P5⟩:=HPn.out;have hS:=HE.out.sm.parts;have hXp:X.pn=s.pn:=by rw[HE.out.sm.pn];exact P1
    have hXr:X.rn=s.rn:=by rw[HE.out.sm.rn];exact P2
    have hXl:X.ln=s.ln:=by rw[hS.2.2.2.2.2.1];exact P3
    have hXg:X.gn=s.gn:=by rw[hS.2.2.2.2.2.2.2.2.1];exact P4
    have hXo:X.on=s.on:=by rw[HE.out.sm.on];exact P5
    rw[hXp]at c1;rw[hXr]at c2;rw[hXl]at c3;rw[hXg]at c4;rw[hXo]at c5;have HS:=hide hS;clear hS P1 P2 P3 P4 P5 hXl hXg hXo;by_cases hlt:i<s.rn
    ·have hlti:(i:Int)<(s.rn:Int):=by omega
     have i0:(0:Int)≤(i:Int):=by omega
     have HLa:=hide (Z.loadAt_row (P:=Tryz.prog) (ty:=55) (HAw.out _ HE.out.mt) Tryz.underlying55 rfl (by rw[HAz.out];exact Z.Tryz.sizeA));obtain⟨nb,hnb⟩:∃b,pricedB a (i:Int)=b:=⟨_,rfl⟩;have HNb:=hide hnb;have HC1:=hide (HPr.out wr (HB26.out.trans HE.out.mt.bel) (i:Int));rw[hnb]at HC1;have hBz:w2.heap.size≤wr.heap.size:=by have h1:=HB26.out.size;have h2:=HE.out.mt.size;omega
     clear hnb
     cases nb with
     | true =>
      go_wp2_with (
        first
        | ((with_reducible show wpList _ _ _ (⟨_,.load 55 (.tmp 5),_,_,_,_⟩ :: _) _ _);refine Z.lp_load (w.heap.size+1+1) 0 AA rfl HLa.out ?_)
        | (go_at_call 49;refine HC1.out.mono ?_;rintro e w7 ⟨rfl,hb7⟩;have HE7:=hide (HE.out.below hBz hb7);clear hb7)
        | fail)
      go_roundw;case rel=>exact⟨i+1,X,by omega,by go_num,HE7⟩
      case measure=>simp[intOf];omega
     | false =>
      go_upto_region 12 with (
        first
        | ((with_reducible show wpList _ _ _ (⟨_,.load 55 (.tmp 5),_,_,_,_⟩ :: _) _ _);refine Z.lp_load (w.heap.size+1+1) 0 AA rfl HLa.out ?_)
        | (go_at_call 49;refine HC1.out.mono ?_;rintro e w7 ⟨rfl,hb7⟩;have HE7:=hide (HE.out.below hBz hb7);clear hb7)
        | fail)
      clear HC1 HLa c0 c1 c2 c3 c4 c5;have HE:=hide HE7.out;clear HE7;obtain⟨wr,hwr⟩:∃W,w7=W:=⟨_,rfl⟩;rw[hwr]at HE ⊢;clear hwr;obtain⟨c0,c1,c2,c3,c4,c5⟩:=ac6 (HX.out _ _ HE.out);rw[hXr]at c2;obtain⟨p,hp⟩:∃p,X.prices[i]?=some p:=⟨_,List.getElem?_eq_getElem (by rw[HE.out.ow.rn];omega)⟩;obtain⟨q,hq⟩:∃q,F.prices[i]?=some q:=⟨_,List.getElem?_eq_getElem (by rw[HE.out.fo.rn,HNs.out.2.2.2.1,←HNs.out.2.2.1];omega)⟩;obtain⟨g,eg,hgB,⟨C,hC⟩,hf,hcl,-⟩:=HE.out.ow.setR hp;obtain⟨gf,egf,hgfB,⟨Cf,hCf⟩,-,hcf,-⟩:=HE.out.fo.setR hq;have hgl:g<w4.heap.size:=HLow.out g (Or.inr (Or.inl (by rw[←HS.out.2.2.1];exact eg)));have hxb0:=HX.out _ _ HE.out;have hfb0:=HFb.out _ HE.out.mt;have ne1:¬g=xb:=by rintro rfl;rw[hC]at hxb0;cases hxb0
      have ne2:¬g=fb:=by rintro rfl;rw[hC]at hfb0;cases hfb0
      have ne3:¬g=gf:=by omega
      obtain⟨qx,qn⟩:=q;have HEn:=hide (HE.out.price hp qx qn HNb.out eg hgl).drew;obtain⟨d0,d1,d2,d3,d4,d5⟩:=ac6 hfb0;rw[egf]at d2;rw[eg]at c2;have b0:=hcf 0 _ rfl;have b1:=hcf 1 _ rfl;rw[Nat.add_zero]at b0;have r0:=hcl 0 _ rfl;have r1:=hcl 1 _ rfl;rw[Nat.add_zero]at r0;have e0:=hf (i*2);have e1:=hf (i*2+1);have hFn:(i:Int)<(F.rn:Int):=by rw[HNs.out.2.2.2.1,←HNs.out.2.2.1];exact hlti
      clear hcl hcf hf hC hCf hp hq eg egf hxb0 hfb0 hgB hgfB;refine wp_region_noPanic ?_;refine wp_region_held_drew (S:=(fun w'=>w'.cell? ⟨xb,2,none⟩=some (.slice (some ⟨g,0,none⟩) s.rn X.rc)∧w'.cell? ⟨fb,2,none⟩=some (.slice (some ⟨gf,0,none⟩) F.rn F.rc)∧w'.cell? ⟨gf,i*2,none⟩=some (.int .i64 qx)∧w'.cell? ⟨gf,i*2+1,none⟩=some (.int .i64 qn))) (by kernel_rfl) (by go_keep) (fun hHeld=>?_);refine tkg 0 ?_;refine tkg 1 ?_;refine tkg 2 ?_;refine tkg 3 ?_;refine tkg 4 ?_;refine tkg 5 ?_;refine tkg 6 ?_;refine tkg 7 ?_;refine tkg 8 ?_;refine rdy 9 (fun KK hKK=>?_);go_simp;refine hKK.out _ _ (by(try dsimp only);go_keep) (fun hHeld=>?_);clear hKK KK;try simp only[Act.put,qzg,qzh,qzi,qzs,qz0,qz1]
      try simp only[Act.put,qzg,qzh,qzi,qzs,qz0,qz1]
      refine wpAnyH_done (by kernel_rfl) (NoPanic.normal ?_) _;go_wp2;go_roundw;case rel=>exact⟨i+1,_,by omega,by go_num,HEn⟩
      case measure=>simp[intOf];omega
    ·have hlti:¬(i:Int)<(s.rn:Int):=by omega
     go_wp2;clear c0 c1 c2 c3 c4 c5 hXp hXr hlti hlt hi HS;go_loopw [11] (fun iv wr=>∃(i:Nat) (X:Sta),i≤s.gn∧iv=.int .i64 i∧Hid (Es w2.heap.size w4 w6 wr s X0 F X a)) (fun iv _=>s.gn - (intOf iv).toNat);case atStart=>exact⟨0,X,Nat.zero_le _,rfl,HE⟩
     case round =>
      clear HE;obtain⟨i,X,hi,rfl,HE⟩:=hrel;obtain⟨c0,c1,c2,c3,c4,c5⟩:=ac6 (HX.out _ _ HE.out);obtain⟨P1,P2,P3,P4,P5⟩:=HPn.out;have hS:=HE.out.sm.parts;have hXp:X.pn=s.pn:=by rw[HE.out.sm.pn];exact P1
      have hXr:X.rn=s.rn:=by rw[HE.out.sm.rn];exact P2
      have hXl:X.ln=s.ln:=by rw[hS.2.2.2.2.2.1];exact P3
      have hXg:X.gn=s.gn:=by rw[hS.2.2.2.2.2.2.2.2.1];exact P4
      have hXo:X.on=s.on:=by rw[HE.out.sm.on];exact P5
      rw[hXp]at c1;rw[hXr]at c2;rw[hXl]at c3;rw[hXg]at c4;rw[hXo]at c5;have HS:=hide hS;clear hS P1 P2 P3 P4 P5 hXl hXg hXo;by_cases hlt:i<s.gn
      ·have hlti:(i:Int)<(s.gn:Int):=by omega
       have i0:(0:Int)≤(i:Int):=by omega
       have hgs:=HNs.out.2.2.2.2.2.1;have hls:=HNs.out.2.2.2.2.1;have hos:=HNs.out.2.2.2.2.2.2;have hlti3:(i:Int)<(s.ln:Int):=by omega
       have hlti4:(i:Int)<(s.on:Int):=by omega
       obtain⟨p,hp⟩:∃p,X.last[i]?=some p:=⟨_,List.getElem?_eq_getElem (by rw[HE.out.ow.ln,HS.out.2.2.2.2.2.1,HPn.out.2.2.1];omega)⟩;obtain⟨q,hq⟩:∃q,X.gen[i]?=some q:=⟨_,List.getElem?_eq_getElem (by rw[HE.out.ow.gn,HS.out.2.2.2.2.2.2.2.2.1,HPn.out.2.2.2.1];omega)⟩;obtain⟨r,hr⟩:∃r,X.owed[i]?=some r:=⟨_,List.getElem?_eq_getElem (by rw[HE.out.ow.on,HE.out.sm.on,HPn.out.2.2.2.2];omega)⟩;obtain⟨g,eg,hgB,⟨C,hC⟩,hf,hcl,-⟩:=HE.out.ow.setL hp;have hgl:g<w4.heap.size:=HLow.out g (Or.inr (Or.inr (Or.inl (by rw[←HS.out.2.2.2.2.1];exact eg))));have HE2:=hide (HE.out.last hp eg hgl);obtain⟨gg,egg,-,⟨Cg,hCg⟩,hfg,hcg,-⟩:=HE2.out.ow.setG (k:=i) hq;obtain⟨go,ego,-,⟨Co,hCo⟩,hfo,hco,-⟩:=HE2.out.ow.setO (k:=i) hr;have hggl:gg<w4.heap.size:=HLow.out gg (Or.inr (Or.inr (Or.inr (Or.inl (by rw[←HS.out.2.2.2.2.2.2.2.1];exact egg)))));have hgol:go<w4.heap.size:=HLow.out go (Or.inr (Or.inr (Or.inr (Or.inr (by rw[←HS.out.2.2.2.2.2.2.2.2.2.2.1];exact ego)))));have a0:=HAt.out _ (HAw.out _ HE.out.mt);have hxb0:=HX.out _ _ HE.out;have hab:=HAw.out _ HE.out.mt;have ne1:¬xb=g:=by rintro rfl;rw[hC]at hxb0;cases hxb0
       have ne1':¬g=xb:=fun e=>ne1 e.symm
       have ne4:¬w.heap.size+1+1=g:=by rintro rfl;rw[hC]at hab;cases hab
       have hE2x:=HX.out _ _ HE2.out;obtain⟨k0,k1,k2,k3,k4,k5⟩:=ac6 hE2x;have ne2:¬xb=gg:=by rintro rfl;rw[hCg]at hE2x;cases hE2x
       have ne3:¬xb=go:=by rintro rfl;rw[hCo]at hE2x;cases hE2x
       have ne5:¬gg=go:=by rintro rfl;rw[hCo]at hCg;cases hCg
       have egg':X.gp=some ⟨gg,0,none⟩:=egg;have ego':X.op=some ⟨go,0,none⟩:=ego;rw[eg]at c3;rw[egg']at c4;rw[ego']at c5;have fz:=hf i;have HT2:=hide (fun (hk:a.till≠(i:Int))=>HE2.out.till (k:=i) hq hr hk egg ego hggl hgol);obtain⟨W2,hW2⟩:∃W,wr.setCell ⟨g,i,none⟩ (.int .u64 0)=W:=⟨_,rfl⟩;have y3:W2.cell? ⟨xb,4,none⟩=some (.slice (some ⟨gg,0,none⟩) s.gn X.gc):=by rw[←hW2];have h1:(X.setLast i 0).gp=some ⟨gg,0,none⟩:=egg;have h2:(X.setLast i 0).gn=s.gn:=(by show X.gn=_;rw[HS.out.2.2.2.2.2.2.2.2.1];exact HPn.out.2.2.2.1);rw[←h1,←h2];exact k4
       have y4:W2.cell? ⟨xb,5,none⟩=some (.slice (some ⟨go,0,none⟩) s.on X.oc):=by rw[←hW2];have h1:(X.setLast i 0).op=some ⟨go,0,none⟩:=ego;have h2:(X.setLast i 0).on=s.on:=(by show X.on=_;rw[HE.out.sm.on];exact HPn.out.2.2.2.2);rw[←h1,←h2];exact k5
       have y0:=HAt.out _ (HAw.out _ HE2.out.mt);rw[hW2]at HE2 HT2 hcg hco hfg hfo y0;have fzg:=hfg i;have fzo:=hfo i;clear hfg hfo hf hC hCg hCo hE2x hab hxb0 hp hq hr eg egg ego egg' ego' k0 k1 k2 k3 k4 k5 a0 hgs hls hos;go_upto_region 17 with (fail);clear hW2 c0 c1 c2 c3 c4 c5 hcl fz;by_cases hti:(i:Int)=a.till
       ·have hti1:((i:Int) != a.till)=false:=by simp[hti]
        go_wp2;go_roundw;case rel=>exact⟨i+1,_,by omega,by go_num,HE2⟩
        case measure=>simp[intOf];omega
       ·have hti1:((i:Int) != a.till)=true:=by simp[hti]
        have HE3:=hide (HT2.out (fun e=>hti e.symm));clear HT2;go_wp2;go_roundw;case rel=>exact⟨i+1,_,by omega,by go_num,HE3⟩
        case measure=>simp[intOf];omega
      ·have hlti:¬(i:Int)<(s.gn:Int):=by omega
       have hxb0:=HX.out _ _ HE.out;have fz:=frozen_of_row wr xb 0 _ _ hxb0;have HSe:Hid ((wr.setCell ⟨xb,0,none⟩ (.int .u64 0))=wr.setRow xb ({ X with pos:=0 } : Sta).arr):=by show _=_;rw[setCell_eq_setRow _ _ _ _ _ _ _ hxb0];rfl
       have HXb:=hide hxb0;clear hxb0;go_upto_region 21 with (fail);rw[HSe.out];clear c0 c1 c2 c3 c4 c5 fz HSe;obtain⟨XB,hXB⟩:∃Y,({ X with pos:=0 } : Sta).arr=Y:=⟨_,rfl⟩;have HYz:Hid (XB.size=6):=by show _=_;rw[←hXB];rfl
       have HYn:Hid (XB.all (·.oneCell')=true):=by show _=_;rw[←hXB];simp[Sta.arr,Value.oneCell']
       have hne:xb≠w.heap.size+1+1+1:=by have h1:=HX.out _ _ HE.out;rintro rfl;have h2:=HZw.out _ HE.out.mt;have h3:=HXlt.out;omega
       have HYb:Hid ((wr.setRow xb XB).heap[xb]?=some (.cells XB 42 (0,0))):=setRow_heap _ _ _ _ _ _ HXb.out;have HLx:=hide (Z.loadAt_row (P:=Tryz.prog) (ty:=42) HYb.out Tryz.underlying42 rfl (by rw[HYz.out];exact Tryz.sizeS));have HZe:Hid ((wr.setRow xb XB).heap[w.heap.size+1+1+1]?=some (.cells qs 42 (0,0))):=by show _=_;rw[setRow_other _ _ _ _ (Ne.symm hne)];exact HZw.out _ HE.out.mt
       have HFin:Hid (StaOk ((wr.setRow xb XB).setRow (w.heap.size+1+1+1) XB) { X with pos:=0 }∧Alk s { X with pos:=0 } a∧Below w.heap.size w ((wr.setRow xb XB).setRow (w.heap.size+1+1+1) XB)):=by
        have h1:=HE.out.ow.far (W':=wr.setRow xb XB) (fun g C t hg ht=>setRow_other _ _ _ _ (by rintro rfl;rw[HXb.out]at hg;cases hg;exact not_mut rfl ht));have h2:=h1.far (W':=(wr.setRow xb XB).setRow (w.heap.size+1+1+1) XB) (fun g C t hg ht=>setRow_other _ _ _ _ (by rintro rfl;rw[HZe.out]at hg;cases hg;exact not_mut rfl ht));have h3:=h2.ok;exact⟨⟨h3.pn,h3.pools,h3.held,h3.rn,h3.prices,h3.ln,h3.last,h3.gn,h3.gen,h3.on,h3.owed⟩,HE.out.al.setPos 0,below_setRow (below_setRow (HBw.out _ HE.out.mt) (by have:=HXlt.out;omega) _) (by omega) _⟩
       have HXB:=hide hXB;rw[hXB];clear hXB hne
       go_wp2_with (
         first
         | ((with_reducible show wpList _ _ _ (⟨_,.load 42 (.tmp 7),_,_,_,_⟩ :: _) _ _);refine Z.lp_load xb 0 XB rfl HLx.out ?_)
         | ((with_reducible show wpList _ _ _ (⟨_,.store 42 (.tmp 6) _,_,_,_,_⟩ :: _) _ _);refine Z.lp_store (t:=42) (x:=.tmp 6) (some ⟨(w.heap.size+1+1+1),0,none⟩) (.agg XB) rfl rfl (Z.storeAt_row HZe.out (by rw[HYz.out];exact Tryz.sizeS) (by rw[HYz.out];rfl) HYn.out) ?_)
         | fail)
       refine bodyPost_ret (results_cell_row rfl _ _ (w.heap.size+1+1+1) 42 XB (0,0) _ rfl (setRow_heap _ _ _ _ _ _ HZe.out) Tryz.underlying42 rfl (by rw[HYz.out];exact Tryz.sizeS)) rfl ?_;exact⟨{ X with pos:=0 },by rw[HXB.out],HFin.out.1,HFin.out.2.1,HFin.out.2.2⟩
end Go.Proofs.YtiogibfhafoapaaGreat
namespace Go.Proofs.YtiogibfhafoapaaGreat.Z
open Go.RowKit Go.ChangeShapes Go.WideShapes Go.Deep
namespace Blk
theorem one_le {H:Type} (d:DataW H):1≤Rows.uptoBulk d:=by
 cases d with
 | lit l=>cases l <;> simp[Rows.uptoBulk]
 | nil=>simp[Rows.uptoBulk]
 | ptr d=>simp[Rows.uptoBulk]
 | slice elems spare=>simp[Rows.uptoBulk]
 | agg parts=>simp[Rows.uptoBulk]
 | iface t d=>simp[Rows.uptoBulk]
 | map entries=>simp[Rows.uptoBulk]
 | held h=>simp[Rows.uptoBulk]
theorem part_le {H:Type} {d:DataW H} {l:List (DataW H)} (h:d∈l):Rows.uptoBulk d≤Rows.uptoBulkAll l:=by
 induction l with
 | nil=>cases h
 | cons x r ih =>
  simp only[Rows.uptoBulkAll]
  cases List.mem_cons.1 h with
  | inl e=>subst e;omega
  | inr e=>have:=ih e;omega
theorem length_le {H:Type} (l:List (DataW H)):l.length≤Rows.uptoBulkAll l:=by
 induction l with
 | nil=>simp[Rows.uptoBulkAll]
 | cons x r ih=>have:=one_le x;simp only[Rows.uptoBulkAll,List.length_cons];omega
theorem all_sum {H:Type} (l:List (DataW H)):Rows.uptoBulkAll l=(l.map Rows.uptoBulk).sum:=by
 induction l with
 | nil=>rfl
 | cons x r ih=>simp[Rows.uptoBulkAll,ih]
theorem sum_le {α:Type} (f g:α→Nat):∀(l:List α),(∀x∈l,f x≤g x)→(l.map f).sum≤(l.map g).sum
 | [],_=>Nat.le_refl _
 | x :: r,h=>by
  have h1:=h x (List.mem_cons_self);have h2:=sum_le f g r (fun y hy=>h y (List.mem_cons_of_mem _ hy));simp only[List.map_cons,List.sum_cons];omega
end Blk
theorem addr_flat {w:World} {a:Addr} {v:Value} (h:w.cell? a=some v):∃g o,a=⟨g,o,none⟩:=by
 obtain⟨g,o,sp⟩:=a;unfold World.cell? at h
 cases sp with
 | none=>exact⟨g,o,rfl⟩
 | some x=>split at h <;> simp at h
theorem cell_lies {w:World} {p:Addr} {v:Value} (h:w.cell? p=some v):p.block<w.heap.size:=by
 unfold World.cell? at h;rcases Nat.lt_or_ge p.block w.heap.size with hl | hl
 ·exact hl
 ·rw[Array.getElem?_eq_none hl]at h;cases h
section
variable {H : Type} {enc : TypeId × Value → H} {w : World} {base : Nat} {held : Bool}
theorem slice_in {α:Type} [Inhabited α] {f:α→List Value} {sz:Nat} {t e:TypeId} (ht:Tryz.prog.underlying t=some (.slice e)) (hce:Tryz.prog.cellsOf e=sz) (hsz:0<sz) (hf:∀x,(f x).length=sz) (V:α→Prop) (g:α→Nat)
  (hopen:∀(fuel:Nat) (cs:List Value) (x:DataW H × List MemPlace),DataW.trod enc Tryz.prog w base (fun _=>true) held fuel e cs=some x→Rows.uptoBulk x.1≤1048576→∃a,cs=f a∧V a∧g a≤Rows.uptoBulk x.1)
  {fuel:Nat} {v:Value} {x:DataW H × List MemPlace} (h:DataW.trod enc Tryz.prog w base (fun _=>true) held fuel t [v]=some x) (hb:Rows.uptoBulk x.1≤1048576) :
  ∃s:Sli α,v=.slice s.p s.n s.c∧SlOk w sz f s∧(∀a∈s.xs,V a)∧(s.xs.map g).sum≤Rows.uptoBulk x.1∧s.xs.length≤Rows.uptoBulk x.1∧s.n≤s.c:=by
 rcases open_slice ht h with ⟨hcs,hx⟩ | ⟨a,len,cap,m,n,D,Pl,hcs,_,hl,hm,hmm,hx,hel⟩
 ·simp at hcs
  exact⟨⟨none,0,0,[]⟩,hcs,⟨rfl,Nat.zero_le _,Or.inl rfl⟩,fun a ha=>by simp at ha,Nat.zero_le _,Nat.zero_le _,Nat.le_refl _⟩
 ·simp at hcs hmm
  rw[hce]at hel;have hD:x.1=.slice ((List.range len).map D) ((List.range (m - len)).map fun j=>D (len+j)):=by rw[hx]
  have hbk:Rows.uptoBulk x.1=Rows.uptoBulkAll ((List.range len).map D)+Rows.uptoBulkAll ((List.range (m - len)).map fun j=>D (len+j))+1:=by rw[hD];rfl
  have hDb:∀i,i<len→Rows.uptoBulk (D i)≤1048576:=fun i hi=>by
   have:=Blk.part_le (List.mem_map.2 ⟨i,List.mem_range.2 hi,rfl⟩:D i∈(List.range len).map D);omega
  have hlen:len≤Rows.uptoBulk x.1:=by
   have:=Blk.length_le ((List.range len).map D);simp at this;omega
  obtain⟨q,hq⟩:=choose_lt (n:=len) (p:=fun i p=>w.cells? base (a.add (i*sz)) sz=some (f p)∧V p∧g p≤Rows.uptoBulk (D i)) (fun i hi=>by
   obtain⟨cs',h1,h2⟩:=hel i (by omega);obtain⟨p,rfl,hp,hg⟩:=hopen _ _ _ h2 (hDb i hi);exact⟨p,h1,hp,hg⟩)
  refine⟨⟨some a,len,cap,(List.range len).map q⟩,hcs,⟨by simp,by show len≤4194304;omega,?_⟩,fun z hz=>?_,?_,by simpa using hlen,hl⟩
  ·by_cases h0:len=0
   ·left;simp[h0]
   ·right
    have c0:=(World.cells?_some (hq 0 (by omega)).1).2.2 0 hsz;obtain⟨u,hu⟩:∃u,(f (q 0))[0]?=some u:=⟨_,List.getElem?_eq_getElem (by rw[hf];exact hsz)⟩;rw[hu]at c0
    obtain⟨gg,oo,rfl⟩:∃g o,a=⟨g,o,none⟩:=by
     obtain⟨g,o,e⟩:=addr_flat c0;exact⟨g,o,by simpa[Addr.add] using e⟩
    refine⟨gg,oo,rfl,by have:=cell_lies c0;simpa[Addr.add_mid] using this,fun i r hr j v hv=>?_⟩
    have hi:i<len:=by
     have:=(List.getElem?_eq_some_iff.1 hr).1;simpa using this
    rw[List.getElem?_map,List.getElem?_map,List.getElem?_range hi]at hr;simp at hr;subst hr
    have hj:j<sz:=by
     have:=(List.getElem?_eq_some_iff.1 hv).1;rwa [hf]at this
    have e0:=(World.cells?_some (hq i hi).1).2.2 j hj;simp only[Addr.add_mid]at e0;rw[e0,hv]
  ·obtain⟨i,hi,rfl⟩:=List.mem_map.1 hz
   exact(hq i (List.mem_range.1 hi)).2.1
  ·have h1:=Blk.sum_le (fun i=>g (q i)) (fun i=>Rows.uptoBulk (D i)) (List.range len) (fun i hi=>(hq i (List.mem_range.1 hi)).2.2)
   have h2:Rows.uptoBulkAll ((List.range len).map D)=((List.range len).map (fun i=>Rows.uptoBulk (D i))).sum:=by rw[Blk.all_sum,List.map_map];rfl
   rw[List.map_map];show ((List.range len).map (fun i=>g (q i))).sum≤_;omega
theorem cEint:Tryz.prog.cellsOf 3=1:=by kernel_rfl
theorem cEint64:Tryz.prog.cellsOf 2=1:=by kernel_rfl
theorem cEuint64:Tryz.prog.cellsOf 36=1:=by kernel_rfl
theorem cEbool:Tryz.prog.cellsOf 4=1:=by kernel_rfl
theorem cEapiLine:Tryz.prog.cellsOf 132=2:=by kernel_rfl
theorem cEapiGuard:Tryz.prog.cellsOf 73=3:=by kernel_rfl
theorem cEapiSet:Tryz.prog.cellsOf 76=3:=by kernel_rfl
theorem cEapiRight:Tryz.prog.cellsOf 52=3:=by kernel_rfl
theorem cEtilllaw1Bounds:Tryz.prog.cellsOf 111=3:=by kernel_rfl
theorem cEsapiLine:Tryz.prog.cellsOf 46=1:=by kernel_rfl
theorem cEsapiGuard:Tryz.prog.cellsOf 47=1:=by kernel_rfl
theorem cEsapiSet:Tryz.prog.cellsOf 48=1:=by kernel_rfl
theorem cEsapiRight:Tryz.prog.cellsOf 53=1:=by kernel_rfl
theorem cEstilllaw1Bounds:Tryz.prog.cellsOf 22=1:=by kernel_rfl
theorem cEsint64:Tryz.prog.cellsOf 23=1:=by kernel_rfl
theorem cEapiHead:Tryz.prog.cellsOf 45=2:=by kernel_rfl
theorem cEapiMerge:Tryz.prog.cellsOf 50=2:=by kernel_rfl
theorem cEapiAct:Tryz.prog.cellsOf 55=15:=by kernel_rfl
theorem cEtilllaw1Conf:Tryz.prog.cellsOf 25=9:=by kernel_rfl
theorem cEtilllaw9Step:Tryz.prog.cellsOf 57=20:=by kernel_rfl
theorem cEstilllaw9Step:Tryz.prog.cellsOf 26=1:=by kernel_rfl
theorem cEtilllaw9Script:Tryz.prog.cellsOf 28=10:=by kernel_rfl
theorem len2 {l:List Value} (h:l.length=2):∃v0 v1,l=[v0,v1]:=by
 match l,h with
 | [v0,v1],_=>exact⟨v0,v1,rfl⟩
theorem len3 {l:List Value} (h:l.length=3):∃v0 v1 v2,l=[v0,v1,v2]:=by
 match l,h with
 | [v0,v1,v2],_=>exact⟨v0,v1,v2,rfl⟩
theorem len9 {l:List Value} (h:l.length=9):∃v0 v1 v2 v3 v4 v5 v6 v7 v8,l=[v0,v1,v2,v3,v4,v5,v6,v7,v8]:=by
 match l,h with
 | [v0,v1,v2,v3,v4,v5,v6,v7,v8],_=>exact⟨v0,v1,v2,v3,v4,v5,v6,v7,v8,rfl⟩
theorem len10 {l:List Value} (h:l.length=10):∃v0 v1 v2 v3 v4 v5 v6 v7 v8 v9,l=[v0,v1,v2,v3,v4,v5,v6,v7,v8,v9]:=by
 match l,h with
 | [v0,v1,v2,v3,v4,v5,v6,v7,v8,v9],_=>exact⟨v0,v1,v2,v3,v4,v5,v6,v7,v8,v9,rfl⟩
theorem len15 {l:List Value} (h:l.length=15):∃v0 v1 v2 v3 v4 v5 v6 v7 v8 v9 v10 v11 v12 v13 v14,l=[v0,v1,v2,v3,v4,v5,v6,v7,v8,v9,v10,v11,v12,v13,v14]:=by
 match l,h with
 | [v0,v1,v2,v3,v4,v5,v6,v7,v8,v9,v10,v11,v12,v13,v14],_=>exact⟨v0,v1,v2,v3,v4,v5,v6,v7,v8,v9,v10,v11,v12,v13,v14,rfl⟩
theorem len20 {l:List Value} (h:l.length=20):∃v0 v1 v2 v3 v4 v5 v6 v7 v8 v9 v10 v11 v12 v13 v14 v15 v16 v17 v18 v19,l=[v0,v1,v2,v3,v4,v5,v6,v7,v8,v9,v10,v11,v12,v13,v14,v15,v16,v17,v18,v19]:=by
 match l,h with
 | [v0,v1,v2,v3,v4,v5,v6,v7,v8,v9,v10,v11,v12,v13,v14,v15,v16,v17,v18,v19],_=>exact⟨v0,v1,v2,v3,v4,v5,v6,v7,v8,v9,v10,v11,v12,v13,v14,v15,v16,v17,v18,v19,rfl⟩
set_option linter.unusedVariables false
set_option linter.unusedSimpArgs false
theorem int64_open {fuel:Nat} {cs:List Value} {x:DataW H × List MemPlace} (h:DataW.trod enc Tryz.prog w base (fun _=>true) held fuel 2 cs=some x) (hb:Rows.uptoBulk x.1≤1048576):∃a:Int,cs=(fun n:Int=>[Value.int .i64 n]) a∧True∧0≤Rows.uptoBulk x.1:=by
 obtain⟨z,g,_,_⟩:=DataW.trod_int Tryz.underlying2 h;exact⟨z,g,trivial,Nat.zero_le _⟩
theorem i64s_in {fuel:Nat} {v:Value} {x:DataW H × List MemPlace} (h:DataW.trod enc Tryz.prog w base (fun _=>true) held fuel 23 [v]=some x) (hb:Rows.uptoBulk x.1≤1048576):∃s:Sli Int,v=.slice s.p s.n s.c∧SlOk w 1 (fun n:Int=>[Value.int .i64 n]) s∧(∀a∈s.xs,(fun _=>True) a)∧(s.xs.map (fun _=>0)).sum≤Rows.uptoBulk x.1∧s.xs.length≤Rows.uptoBulk x.1∧s.n≤s.c :=
 @slice_in H enc w base held Int ⟨0⟩ _ _ _ _ Tryz.underlying23 cEint64 (by omega) (fun _=>rfl) (V:=(fun _=>True)) (g:=(fun _=>0)) (fun _ _ _ h hb=>int64_open h hb) fuel v x h hb
theorem line_open {fuel:Nat} {cs:List Value} {x:DataW H × List MemPlace} (h:DataW.trod enc Tryz.prog w base (fun _=>true) held fuel 132 cs=some x) (hb:Rows.uptoBulk x.1≤1048576):∃a:Lin,cs=linc a∧True∧0≤Rows.uptoBulk x.1:=by
 obtain⟨ys,n,_,rfl,hl,hlen,hf⟩:=DataW.trod_struct Tryz.underlying132 h;rw[cEapiLine]at hl;obtain⟨v0,v1,rfl⟩:=len2 hl;have f0:DataW.trod enc Tryz.prog w base (fun _=>true) held n 3 (([v0,v1].drop 0).take (Tryz.prog.cellsOf 3))=ys[0]?:=hf 0 _ rfl;have f1:DataW.trod enc Tryz.prog w base (fun _=>true) held n 2 (([v0,v1].drop 1).take (Tryz.prog.cellsOf 2))=ys[1]?:=hf 1 _ rfl;simp only[cEint,cEint64,List.drop_zero,List.drop_succ_cons,List.take_succ_cons,List.take_zero]at f0 f1;have hbk:Rows.uptoBulkAll (ys.map (·.1))+1≤1048576:=hb;have hy:∀i,i<2→∃y,ys[i]?=some y∧Rows.uptoBulk y.1≤Rows.uptoBulkAll (ys.map (·.1)):=fun i hi=>⟨ys[i]'(by rw[hlen];exact hi),List.getElem?_eq_getElem _,Blk.part_le (List.mem_map.2 ⟨_,List.getElem_mem _,rfl⟩)⟩
 obtain⟨y0,e0,b0⟩:=hy 0 (by omega);rw[e0]at f0;obtain⟨z0,g0,_,w0⟩:=DataW.trod_int Tryz.underlying3 f0;simp only[List.cons.injEq,and_true]at g0;subst g0;obtain⟨y1,e1,b1⟩:=hy 1 (by omega);rw[e1]at f1;obtain⟨z1,g1,_,w1⟩:=DataW.trod_int Tryz.underlying2 f1;simp only[List.cons.injEq,and_true]at g1;subst g1;have htop:Rows.uptoBulk (DataW.agg (ys.map (·.1)))=Rows.uptoBulkAll (ys.map (·.1))+1:=rfl;exact⟨⟨z0,z1⟩,rfl,trivial,Nat.zero_le _⟩
theorem guard_open {fuel:Nat} {cs:List Value} {x:DataW H × List MemPlace} (h:DataW.trod enc Tryz.prog w base (fun _=>true) held fuel 73 cs=some x) (hb:Rows.uptoBulk x.1≤1048576):∃a:Tri,cs=tric a∧True∧0≤Rows.uptoBulk x.1:=by
 obtain⟨ys,n,_,rfl,hl,hlen,hf⟩:=DataW.trod_struct Tryz.underlying73 h;rw[cEapiGuard]at hl;obtain⟨v0,v1,v2,rfl⟩:=len3 hl;have f0:DataW.trod enc Tryz.prog w base (fun _=>true) held n 3 (([v0,v1,v2].drop 0).take (Tryz.prog.cellsOf 3))=ys[0]?:=hf 0 _ rfl;have f1:DataW.trod enc Tryz.prog w base (fun _=>true) held n 3 (([v0,v1,v2].drop 1).take (Tryz.prog.cellsOf 3))=ys[1]?:=hf 1 _ rfl;have f2:DataW.trod enc Tryz.prog w base (fun _=>true) held n 2 (([v0,v1,v2].drop 2).take (Tryz.prog.cellsOf 2))=ys[2]?:=hf 2 _ rfl;simp only[cEint,cEint64,List.drop_zero,List.drop_succ_cons,List.take_succ_cons,List.take_zero]at f0 f1 f2;have hbk:Rows.uptoBulkAll (ys.map (·.1))+1≤1048576:=hb;have hy:∀i,i<3→∃y,ys[i]?=some y∧Rows.uptoBulk y.1≤Rows.uptoBulkAll (ys.map (·.1)):=fun i hi=>⟨ys[i]'(by rw[hlen];exact hi),List.getElem?_eq_getElem _,Blk.part_le (List.mem_map.2 ⟨_,List.getElem_mem _,rfl⟩)⟩
 obtain⟨y0,e0,b0⟩:=hy 0 (by omega);rw[e0]at f0;obtain⟨z0,g0,_,w0⟩:=DataW.trod_int Tryz.underlying3 f0;simp only[List.cons.injEq,and_true]at g0;subst g0;obtain⟨y1,e1,b1⟩:=hy 1 (by omega);rw[e1]at f1;obtain⟨z1,g1,_,w1⟩:=DataW.trod_int Tryz.underlying3 f1;simp only[List.cons.injEq,and_true]at g1;subst g1;obtain⟨y2,e2,b2⟩:=hy 2 (by omega);rw[e2]at f2;obtain⟨z2,g2,_,w2⟩:=DataW.trod_int Tryz.underlying2 f2;simp only[List.cons.injEq,and_true]at g2;subst g2;have htop:Rows.uptoBulk (DataW.agg (ys.map (·.1)))=Rows.uptoBulkAll (ys.map (·.1))+1:=rfl;exact⟨⟨z0,z1,z2⟩,rfl,trivial,Nat.zero_le _⟩
theorem set_open {fuel:Nat} {cs:List Value} {x:DataW H × List MemPlace} (h:DataW.trod enc Tryz.prog w base (fun _=>true) held fuel 76 cs=some x) (hb:Rows.uptoBulk x.1≤1048576):∃a:Tri,cs=tric a∧True∧0≤Rows.uptoBulk x.1:=by
 obtain⟨ys,n,_,rfl,hl,hlen,hf⟩:=DataW.trod_struct Tryz.underlying76 h;rw[cEapiSet]at hl;obtain⟨v0,v1,v2,rfl⟩:=len3 hl;have f0:DataW.trod enc Tryz.prog w base (fun _=>true) held n 3 (([v0,v1,v2].drop 0).take (Tryz.prog.cellsOf 3))=ys[0]?:=hf 0 _ rfl;have f1:DataW.trod enc Tryz.prog w base (fun _=>true) held n 3 (([v0,v1,v2].drop 1).take (Tryz.prog.cellsOf 3))=ys[1]?:=hf 1 _ rfl;have f2:DataW.trod enc Tryz.prog w base (fun _=>true) held n 2 (([v0,v1,v2].drop 2).take (Tryz.prog.cellsOf 2))=ys[2]?:=hf 2 _ rfl;simp only[cEint,cEint64,List.drop_zero,List.drop_succ_cons,List.take_succ_cons,List.take_zero]at f0 f1 f2;have hbk:Rows.uptoBulkAll (ys.map (·.1))+1≤1048576:=hb;have hy:∀i,i<3→∃y,ys[i]?=some y∧Rows.uptoBulk y.1≤Rows.uptoBulkAll (ys.map (·.1)):=fun i hi=>⟨ys[i]'(by rw[hlen];exact hi),List.getElem?_eq_getElem _,Blk.part_le (List.mem_map.2 ⟨_,List.getElem_mem _,rfl⟩)⟩
 obtain⟨y0,e0,b0⟩:=hy 0 (by omega);rw[e0]at f0;obtain⟨z0,g0,_,w0⟩:=DataW.trod_int Tryz.underlying3 f0;simp only[List.cons.injEq,and_true]at g0;subst g0;obtain⟨y1,e1,b1⟩:=hy 1 (by omega);rw[e1]at f1;obtain⟨z1,g1,_,w1⟩:=DataW.trod_int Tryz.underlying3 f1;simp only[List.cons.injEq,and_true]at g1;subst g1;obtain⟨y2,e2,b2⟩:=hy 2 (by omega);rw[e2]at f2;obtain⟨z2,g2,_,w2⟩:=DataW.trod_int Tryz.underlying2 f2;simp only[List.cons.injEq,and_true]at g2;subst g2;have htop:Rows.uptoBulk (DataW.agg (ys.map (·.1)))=Rows.uptoBulkAll (ys.map (·.1))+1:=rfl;exact⟨⟨z0,z1,z2⟩,rfl,trivial,Nat.zero_le _⟩
theorem right_open {fuel:Nat} {cs:List Value} {x:DataW H × List MemPlace} (h:DataW.trod enc Tryz.prog w base (fun _=>true) held fuel 52 cs=some x) (hb:Rows.uptoBulk x.1≤1048576):∃a:Tri,cs=tric a∧True∧0≤Rows.uptoBulk x.1:=by
 obtain⟨ys,n,_,rfl,hl,hlen,hf⟩:=DataW.trod_struct Tryz.underlying52 h;rw[cEapiRight]at hl;obtain⟨v0,v1,v2,rfl⟩:=len3 hl;have f0:DataW.trod enc Tryz.prog w base (fun _=>true) held n 3 (([v0,v1,v2].drop 0).take (Tryz.prog.cellsOf 3))=ys[0]?:=hf 0 _ rfl;have f1:DataW.trod enc Tryz.prog w base (fun _=>true) held n 3 (([v0,v1,v2].drop 1).take (Tryz.prog.cellsOf 3))=ys[1]?:=hf 1 _ rfl;have f2:DataW.trod enc Tryz.prog w base (fun _=>true) held n 2 (([v0,v1,v2].drop 2).take (Tryz.prog.cellsOf 2))=ys[2]?:=hf 2 _ rfl;simp only[cEint,cEint64,List.drop_zero,List.drop_succ_cons,List.take_succ_cons,List.take_zero]at f0 f1 f2;have hbk:Rows.uptoBulkAll (ys.map (·.1))+1≤1048576:=hb;have hy:∀i,i<3→∃y,ys[i]?=some y∧Rows.uptoBulk y.1≤Rows.uptoBulkAll (ys.map (·.1)):=fun i hi=>⟨ys[i]'(by rw[hlen];exact hi),List.getElem?_eq_getElem _,Blk.part_le (List.mem_map.2 ⟨_,List.getElem_mem _,rfl⟩)⟩
 obtain⟨y0,e0,b0⟩:=hy 0 (by omega);rw[e0]at f0;obtain⟨z0,g0,_,w0⟩:=DataW.trod_int Tryz.underlying3 f0;simp only[List.cons.injEq,and_true]at g0;subst g0;obtain⟨y1,e1,b1⟩:=hy 1 (by omega);rw[e1]at f1;obtain⟨z1,g1,_,w1⟩:=DataW.trod_int Tryz.underlying3 f1;simp only[List.cons.injEq,and_true]at g1;subst g1;obtain⟨y2,e2,b2⟩:=hy 2 (by omega);rw[e2]at f2;obtain⟨z2,g2,_,w2⟩:=DataW.trod_int Tryz.underlying2 f2;simp only[List.cons.injEq,and_true]at g2;subst g2;have htop:Rows.uptoBulk (DataW.agg (ys.map (·.1)))=Rows.uptoBulkAll (ys.map (·.1))+1:=rfl;exact⟨⟨z0,z1,z2⟩,rfl,trivial,Nat.zero_le _⟩
theorem bound_open {fuel:Nat} {cs:List Value} {x:DataW H × List MemPlace} (h:DataW.trod enc Tryz.prog w base (fun _=>true) held fuel 111 cs=some x) (hb:Rows.uptoBulk x.1≤1048576):∃a:Tri,cs=tric a∧True∧0≤Rows.uptoBulk x.1:=by
 obtain⟨ys,n,_,rfl,hl,hlen,hf⟩:=DataW.trod_struct Tryz.underlying111 h;rw[cEtilllaw1Bounds]at hl;obtain⟨v0,v1,v2,rfl⟩:=len3 hl;have f0:DataW.trod enc Tryz.prog w base (fun _=>true) held n 2 (([v0,v1,v2].drop 0).take (Tryz.prog.cellsOf 2))=ys[0]?:=hf 0 _ rfl;have f1:DataW.trod enc Tryz.prog w base (fun _=>true) held n 2 (([v0,v1,v2].drop 1).take (Tryz.prog.cellsOf 2))=ys[1]?:=hf 1 _ rfl;have f2:DataW.trod enc Tryz.prog w base (fun _=>true) held n 2 (([v0,v1,v2].drop 2).take (Tryz.prog.cellsOf 2))=ys[2]?:=hf 2 _ rfl;simp only[cEint64,List.drop_zero,List.drop_succ_cons,List.take_succ_cons,List.take_zero]at f0 f1 f2;have hbk:Rows.uptoBulkAll (ys.map (·.1))+1≤1048576:=hb;have hy:∀i,i<3→∃y,ys[i]?=some y∧Rows.uptoBulk y.1≤Rows.uptoBulkAll (ys.map (·.1)):=fun i hi=>⟨ys[i]'(by rw[hlen];exact hi),List.getElem?_eq_getElem _,Blk.part_le (List.mem_map.2 ⟨_,List.getElem_mem _,rfl⟩)⟩
 obtain⟨y0,e0,b0⟩:=hy 0 (by omega);rw[e0]at f0;obtain⟨z0,g0,_,w0⟩:=DataW.trod_int Tryz.underlying2 f0;simp only[List.cons.injEq,and_true]at g0;subst g0;obtain⟨y1,e1,b1⟩:=hy 1 (by omega);rw[e1]at f1;obtain⟨z1,g1,_,w1⟩:=DataW.trod_int Tryz.underlying2 f1;simp only[List.cons.injEq,and_true]at g1;subst g1;obtain⟨y2,e2,b2⟩:=hy 2 (by omega);rw[e2]at f2;obtain⟨z2,g2,_,w2⟩:=DataW.trod_int Tryz.underlying2 f2;simp only[List.cons.injEq,and_true]at g2;subst g2;have htop:Rows.uptoBulk (DataW.agg (ys.map (·.1)))=Rows.uptoBulkAll (ys.map (·.1))+1:=rfl;exact⟨⟨z0,z1,z2⟩,rfl,trivial,Nat.zero_le _⟩
theorem lines_in {fuel:Nat} {v:Value} {x:DataW H × List MemPlace} (h:DataW.trod enc Tryz.prog w base (fun _=>true) held fuel 46 [v]=some x) (hb:Rows.uptoBulk x.1≤1048576):∃s:Sli Lin,v=.slice s.p s.n s.c∧SlOk w 2 linc s∧(∀a∈s.xs,(fun _=>True) a)∧(s.xs.map (fun _=>0)).sum≤Rows.uptoBulk x.1∧s.xs.length≤Rows.uptoBulk x.1∧s.n≤s.c :=
 @slice_in H enc w base held Lin ⟨⟨0,0⟩⟩ _ _ _ _ Tryz.underlying46 cEapiLine (by omega) (fun _=>rfl) (V:=(fun _=>True)) (g:=(fun _=>0)) (fun _ _ _ h hb=>line_open h hb) fuel v x h hb
theorem guards_in {fuel:Nat} {v:Value} {x:DataW H × List MemPlace} (h:DataW.trod enc Tryz.prog w base (fun _=>true) held fuel 47 [v]=some x) (hb:Rows.uptoBulk x.1≤1048576):∃s:Sli Tri,v=.slice s.p s.n s.c∧SlOk w 3 tric s∧(∀a∈s.xs,(fun _=>True) a)∧(s.xs.map (fun _=>0)).sum≤Rows.uptoBulk x.1∧s.xs.length≤Rows.uptoBulk x.1∧s.n≤s.c :=
 @slice_in H enc w base held Tri ⟨⟨0,0,0⟩⟩ _ _ _ _ Tryz.underlying47 cEapiGuard (by omega) (fun _=>rfl) (V:=(fun _=>True)) (g:=(fun _=>0)) (fun _ _ _ h hb=>guard_open h hb) fuel v x h hb
theorem sets_in {fuel:Nat} {v:Value} {x:DataW H × List MemPlace} (h:DataW.trod enc Tryz.prog w base (fun _=>true) held fuel 48 [v]=some x) (hb:Rows.uptoBulk x.1≤1048576):∃s:Sli Tri,v=.slice s.p s.n s.c∧SlOk w 3 tric s∧(∀a∈s.xs,(fun _=>True) a)∧(s.xs.map (fun _=>0)).sum≤Rows.uptoBulk x.1∧s.xs.length≤Rows.uptoBulk x.1∧s.n≤s.c :=
 @slice_in H enc w base held Tri ⟨⟨0,0,0⟩⟩ _ _ _ _ Tryz.underlying48 cEapiSet (by omega) (fun _=>rfl) (V:=(fun _=>True)) (g:=(fun _=>0)) (fun _ _ _ h hb=>set_open h hb) fuel v x h hb
theorem rights_in {fuel:Nat} {v:Value} {x:DataW H × List MemPlace} (h:DataW.trod enc Tryz.prog w base (fun _=>true) held fuel 53 [v]=some x) (hb:Rows.uptoBulk x.1≤1048576):∃s:Sli Tri,v=.slice s.p s.n s.c∧SlOk w 3 tric s∧(∀a∈s.xs,(fun _=>True) a)∧(s.xs.map (fun _=>0)).sum≤Rows.uptoBulk x.1∧s.xs.length≤Rows.uptoBulk x.1∧s.n≤s.c :=
 @slice_in H enc w base held Tri ⟨⟨0,0,0⟩⟩ _ _ _ _ Tryz.underlying53 cEapiRight (by omega) (fun _=>rfl) (V:=(fun _=>True)) (g:=(fun _=>0)) (fun _ _ _ h hb=>right_open h hb) fuel v x h hb
theorem bounds_in {fuel:Nat} {v:Value} {x:DataW H × List MemPlace} (h:DataW.trod enc Tryz.prog w base (fun _=>true) held fuel 22 [v]=some x) (hb:Rows.uptoBulk x.1≤1048576):∃s:Sli Tri,v=.slice s.p s.n s.c∧SlOk w 3 tric s∧(∀a∈s.xs,(fun _=>True) a)∧(s.xs.map (fun _=>0)).sum≤Rows.uptoBulk x.1∧s.xs.length≤Rows.uptoBulk x.1∧s.n≤s.c :=
 @slice_in H enc w base held Tri ⟨⟨0,0,0⟩⟩ _ _ _ _ Tryz.underlying22 cEtilllaw1Bounds (by omega) (fun _=>rfl) (V:=(fun _=>True)) (g:=(fun _=>0)) (fun _ _ _ h hb=>bound_open h hb) fuel v x h hb
theorem head_open {fuel:Nat} {cs:List Value} {x:DataW H × List MemPlace} (h:DataW.trod enc Tryz.prog w base (fun _=>true) held fuel 45 cs=some x) (hb:Rows.uptoBulk x.1≤1048576):∃a b:Int,cs=[.int .i64 a,.int .u64 b]:=by
 obtain⟨ys,n,_,rfl,hl,hlen,hf⟩:=DataW.trod_struct Tryz.underlying45 h;rw[cEapiHead]at hl;obtain⟨v0,v1,rfl⟩:=len2 hl;have f0:DataW.trod enc Tryz.prog w base (fun _=>true) held n 3 (([v0,v1].drop 0).take (Tryz.prog.cellsOf 3))=ys[0]?:=hf 0 _ rfl;have f1:DataW.trod enc Tryz.prog w base (fun _=>true) held n 36 (([v0,v1].drop 1).take (Tryz.prog.cellsOf 36))=ys[1]?:=hf 1 _ rfl;simp only[cEint,cEuint64,List.drop_zero,List.drop_succ_cons,List.take_succ_cons,List.take_zero]at f0 f1;have hbk:Rows.uptoBulkAll (ys.map (·.1))+1≤1048576:=hb;have hy:∀i,i<2→∃y,ys[i]?=some y∧Rows.uptoBulk y.1≤Rows.uptoBulkAll (ys.map (·.1)):=fun i hi=>⟨ys[i]'(by rw[hlen];exact hi),List.getElem?_eq_getElem _,Blk.part_le (List.mem_map.2 ⟨_,List.getElem_mem _,rfl⟩)⟩
 obtain⟨y0,e0,b0⟩:=hy 0 (by omega);rw[e0]at f0;obtain⟨z0,g0,_,w0⟩:=DataW.trod_int Tryz.underlying3 f0;simp only[List.cons.injEq,and_true]at g0;subst g0;obtain⟨y1,e1,b1⟩:=hy 1 (by omega);rw[e1]at f1;obtain⟨z1,g1,_,w1⟩:=DataW.trod_int Tryz.underlying36 f1;simp only[List.cons.injEq,and_true]at g1;subst g1;have htop:Rows.uptoBulk (DataW.agg (ys.map (·.1)))=Rows.uptoBulkAll (ys.map (·.1))+1:=rfl;exact⟨z0,z1,rfl⟩
theorem merge_open {fuel:Nat} {cs:List Value} {x:DataW H × List MemPlace} (h:DataW.trod enc Tryz.prog w base (fun _=>true) held fuel 50 cs=some x) (hb:Rows.uptoBulk x.1≤1048576):∃(a:Int) (s:Sli Lin),cs=[.int .i64 a,.slice s.p s.n s.c]∧SlOk w 2 linc s:=by
 obtain⟨ys,n,_,rfl,hl,hlen,hf⟩:=DataW.trod_struct Tryz.underlying50 h;rw[cEapiMerge]at hl;obtain⟨v0,v1,rfl⟩:=len2 hl;have f0:DataW.trod enc Tryz.prog w base (fun _=>true) held n 3 (([v0,v1].drop 0).take (Tryz.prog.cellsOf 3))=ys[0]?:=hf 0 _ rfl;have f1:DataW.trod enc Tryz.prog w base (fun _=>true) held n 46 (([v0,v1].drop 1).take (Tryz.prog.cellsOf 46))=ys[1]?:=hf 1 _ rfl;simp only[cEint,cEsapiLine,List.drop_zero,List.drop_succ_cons,List.take_succ_cons,List.take_zero]at f0 f1;have hbk:Rows.uptoBulkAll (ys.map (·.1))+1≤1048576:=hb;have hy:∀i,i<2→∃y,ys[i]?=some y∧Rows.uptoBulk y.1≤Rows.uptoBulkAll (ys.map (·.1)):=fun i hi=>⟨ys[i]'(by rw[hlen];exact hi),List.getElem?_eq_getElem _,Blk.part_le (List.mem_map.2 ⟨_,List.getElem_mem _,rfl⟩)⟩
 obtain⟨y0,e0,b0⟩:=hy 0 (by omega);rw[e0]at f0;obtain⟨z0,g0,_,w0⟩:=DataW.trod_int Tryz.underlying3 f0;simp only[List.cons.injEq,and_true]at g0;subst g0;obtain⟨y1,e1,b1⟩:=hy 1 (by omega);rw[e1]at f1;obtain⟨z1,rfl,k1,V1,m1,l1,c1⟩:=lines_in f1 (by omega);have htop:Rows.uptoBulk (DataW.agg (ys.map (·.1)))=Rows.uptoBulkAll (ys.map (·.1))+1:=rfl;exact⟨z0,z1,rfl,k1⟩
theorem act_open {fuel:Nat} {cs:List Value} {x:DataW H × List MemPlace} (h:DataW.trod enc Tryz.prog w base (fun _=>true) held fuel 55 cs=some x) (hb:Rows.uptoBulk x.1≤1048576):∃a:Acd,cs=a.list∧AcdOk w a∧0≤Rows.uptoBulk x.1:=by
 obtain⟨ys,n,_,rfl,hl,hlen,hf⟩:=DataW.trod_struct Tryz.underlying55 h;rw[cEapiAct]at hl;obtain⟨v0,v1,v2,v3,v4,v5,v6,v7,v8,v9,v10,v11,v12,v13,v14,rfl⟩:=len15 hl;have f0:DataW.trod enc Tryz.prog w base (fun _=>true) held n 45 (([v0,v1,v2,v3,v4,v5,v6,v7,v8,v9,v10,v11,v12,v13,v14].drop 0).take (Tryz.prog.cellsOf 45))=ys[0]?:=hf 0 _ rfl;have f1:DataW.trod enc Tryz.prog w base (fun _=>true) held n 3 (([v0,v1,v2,v3,v4,v5,v6,v7,v8,v9,v10,v11,v12,v13,v14].drop 2).take (Tryz.prog.cellsOf 3))=ys[1]?:=hf 1 _ rfl;have f2:DataW.trod enc Tryz.prog w base (fun _=>true) held n 4 (([v0,v1,v2,v3,v4,v5,v6,v7,v8,v9,v10,v11,v12,v13,v14].drop 3).take (Tryz.prog.cellsOf 4))=ys[2]?:=hf 2 _ rfl;have f3:DataW.trod enc Tryz.prog w base (fun _=>true) held n 46 (([v0,v1,v2,v3,v4,v5,v6,v7,v8,v9,v10,v11,v12,v13,v14].drop 4).take (Tryz.prog.cellsOf 46))=ys[3]?:=hf 3 _ rfl;have f4:DataW.trod enc Tryz.prog w base (fun _=>true) held n 47 (([v0,v1,v2,v3,v4,v5,v6,v7,v8,v9,v10,v11,v12,v13,v14].drop 5).take (Tryz.prog.cellsOf 47))=ys[4]?:=hf 4 _ rfl;have f5:DataW.trod enc Tryz.prog w base (fun _=>true) held n 48 (([v0,v1,v2,v3,v4,v5,v6,v7,v8,v9,v10,v11,v12,v13,v14].drop 6).take (Tryz.prog.cellsOf 48))=ys[5]?:=hf 5 _ rfl;have f6:DataW.trod enc Tryz.prog w base (fun _=>true) held n 50 (([v0,v1,v2,v3,v4,v5,v6,v7,v8,v9,v10,v11,v12,v13,v14].drop 7).take (Tryz.prog.cellsOf 50))=ys[6]?:=hf 6 _ rfl;have f7:DataW.trod enc Tryz.prog w base (fun _=>true) held n 52 (([v0,v1,v2,v3,v4,v5,v6,v7,v8,v9,v10,v11,v12,v13,v14].drop 9).take (Tryz.prog.cellsOf 52))=ys[7]?:=hf 7 _ rfl;have f8:DataW.trod enc Tryz.prog w base (fun _=>true) held n 3 (([v0,v1,v2,v3,v4,v5,v6,v7,v8,v9,v10,v11,v12,v13,v14].drop 12).take (Tryz.prog.cellsOf 3))=ys[8]?:=hf 8 _ rfl;have f9:DataW.trod enc Tryz.prog w base (fun _=>true) held n 36 (([v0,v1,v2,v3,v4,v5,v6,v7,v8,v9,v10,v11,v12,v13,v14].drop 13).take (Tryz.prog.cellsOf 36))=ys[9]?:=hf 9 _ rfl;have f10:DataW.trod enc Tryz.prog w base (fun _=>true) held n 53 (([v0,v1,v2,v3,v4,v5,v6,v7,v8,v9,v10,v11,v12,v13,v14].drop 14).take (Tryz.prog.cellsOf 53))=ys[10]?:=hf 10 _ rfl;simp only[cEapiHead,cEapiMerge,cEapiRight,cEbool,cEint,cEsapiGuard,cEsapiLine,cEsapiRight,cEsapiSet,cEuint64,List.drop_zero,List.drop_succ_cons,List.take_succ_cons,List.take_zero]at f0 f1 f2 f3 f4 f5 f6 f7 f8 f9 f10;have hbk:Rows.uptoBulkAll (ys.map (·.1))+1≤1048576:=hb;have hy:∀i,i<11→∃y,ys[i]?=some y∧Rows.uptoBulk y.1≤Rows.uptoBulkAll (ys.map (·.1)):=fun i hi=>⟨ys[i]'(by rw[hlen];exact hi),List.getElem?_eq_getElem _,Blk.part_le (List.mem_map.2 ⟨_,List.getElem_mem _,rfl⟩)⟩
 obtain⟨y0,e0,b0⟩:=hy 0 (by omega);rw[e0]at f0;obtain⟨z0a,z0b,g0⟩:=head_open f0 (by omega);simp only[List.cons.injEq,and_true]at g0;obtain⟨rfl,rfl⟩:=g0;obtain⟨y1,e1,b1⟩:=hy 1 (by omega);rw[e1]at f1;obtain⟨z1,g1,_,w1⟩:=DataW.trod_int Tryz.underlying3 f1;simp only[List.cons.injEq,and_true]at g1;subst g1;obtain⟨y2,e2,b2⟩:=hy 2 (by omega);rw[e2]at f2;obtain⟨z2,g2,_⟩:=DataW.trod_bool Tryz.underlying4 f2;simp only[List.cons.injEq,and_true]at g2;subst g2;obtain⟨y3,e3,b3⟩:=hy 3 (by omega);rw[e3]at f3;obtain⟨z3,rfl,k3,V3,m3,l3,c3⟩:=lines_in f3 (by omega);obtain⟨y4,e4,b4⟩:=hy 4 (by omega);rw[e4]at f4;obtain⟨z4,rfl,k4,V4,m4,l4,c4⟩:=guards_in f4 (by omega);obtain⟨y5,e5,b5⟩:=hy 5 (by omega);rw[e5]at f5;obtain⟨z5,rfl,k5,V5,m5,l5,c5⟩:=sets_in f5 (by omega);obtain⟨y6,e6,b6⟩:=hy 6 (by omega);rw[e6]at f6;obtain⟨z6a,z6b,g6,k6⟩:=merge_open f6 (by omega);simp only[List.cons.injEq,and_true]at g6;obtain⟨rfl,rfl⟩:=g6;obtain⟨y7,e7,b7⟩:=hy 7 (by omega);rw[e7]at f7;obtain⟨z7,g7,_,_⟩:=right_open f7 (by omega);simp only[tric,List.cons.injEq,and_true]at g7;obtain⟨rfl,rfl,rfl⟩:=g7;obtain⟨y8,e8,b8⟩:=hy 8 (by omega);rw[e8]at f8;obtain⟨z8,g8,_,w8⟩:=DataW.trod_int Tryz.underlying3 f8;simp only[List.cons.injEq,and_true]at g8;subst g8;obtain⟨y9,e9,b9⟩:=hy 9 (by omega);rw[e9]at f9;obtain⟨z9,g9,_,w9⟩:=DataW.trod_int Tryz.underlying36 f9;simp only[List.cons.injEq,and_true]at g9;subst g9;obtain⟨y10,e10,b10⟩:=hy 10 (by omega);rw[e10]at f10;obtain⟨z10,rfl,k10,V10,m10,l10,c10⟩:=rights_in f10 (by omega);have htop:Rows.uptoBulk (DataW.agg (ys.map (·.1)))=Rows.uptoBulkAll (ys.map (·.1))+1:=rfl;exact⟨⟨z0a,z0b,z1,z2,z3,z4,z5,z6a,z6b,z7.a,z7.b,z7.n,z8,z9,z10⟩,rfl,⟨k3,k4,k5,k6,k10⟩,Nat.zero_le _⟩
theorem step_open {fuel:Nat} {cs:List Value} {x:DataW H × List MemPlace} (h:DataW.trod enc Tryz.prog w base (fun _=>true) held fuel 57 cs=some x) (hb:Rows.uptoBulk x.1≤1048576):∃a:Stp,cs=a.list∧AcdOk w a.ac∧0≤Rows.uptoBulk x.1:=by
 obtain⟨ys,n,_,rfl,hl,hlen,hf⟩:=DataW.trod_struct Tryz.underlying57 h;rw[cEtilllaw9Step]at hl;obtain⟨v0,v1,v2,v3,v4,v5,v6,v7,v8,v9,v10,v11,v12,v13,v14,v15,v16,v17,v18,v19,rfl⟩:=len20 hl;have f0:DataW.trod enc Tryz.prog w base (fun _=>true) held n 3 (([v0,v1,v2,v3,v4,v5,v6,v7,v8,v9,v10,v11,v12,v13,v14,v15,v16,v17,v18,v19].drop 0).take (Tryz.prog.cellsOf 3))=ys[0]?:=hf 0 _ rfl;have f1:DataW.trod enc Tryz.prog w base (fun _=>true) held n 55 (([v0,v1,v2,v3,v4,v5,v6,v7,v8,v9,v10,v11,v12,v13,v14,v15,v16,v17,v18,v19].drop 1).take (Tryz.prog.cellsOf 55))=ys[1]?:=hf 1 _ rfl;have f2:DataW.trod enc Tryz.prog w base (fun _=>true) held n 3 (([v0,v1,v2,v3,v4,v5,v6,v7,v8,v9,v10,v11,v12,v13,v14,v15,v16,v17,v18,v19].drop 16).take (Tryz.prog.cellsOf 3))=ys[2]?:=hf 2 _ rfl;have f3:DataW.trod enc Tryz.prog w base (fun _=>true) held n 3 (([v0,v1,v2,v3,v4,v5,v6,v7,v8,v9,v10,v11,v12,v13,v14,v15,v16,v17,v18,v19].drop 17).take (Tryz.prog.cellsOf 3))=ys[3]?:=hf 3 _ rfl;have f4:DataW.trod enc Tryz.prog w base (fun _=>true) held n 3 (([v0,v1,v2,v3,v4,v5,v6,v7,v8,v9,v10,v11,v12,v13,v14,v15,v16,v17,v18,v19].drop 18).take (Tryz.prog.cellsOf 3))=ys[4]?:=hf 4 _ rfl;have f5:DataW.trod enc Tryz.prog w base (fun _=>true) held n 2 (([v0,v1,v2,v3,v4,v5,v6,v7,v8,v9,v10,v11,v12,v13,v14,v15,v16,v17,v18,v19].drop 19).take (Tryz.prog.cellsOf 2))=ys[5]?:=hf 5 _ rfl;simp only[cEapiAct,cEint,cEint64,List.drop_zero,List.drop_succ_cons,List.take_succ_cons,List.take_zero]at f0 f1 f2 f3 f4 f5;have hbk:Rows.uptoBulkAll (ys.map (·.1))+1≤1048576:=hb;have hy:∀i,i<6→∃y,ys[i]?=some y∧Rows.uptoBulk y.1≤Rows.uptoBulkAll (ys.map (·.1)):=fun i hi=>⟨ys[i]'(by rw[hlen];exact hi),List.getElem?_eq_getElem _,Blk.part_le (List.mem_map.2 ⟨_,List.getElem_mem _,rfl⟩)⟩
 obtain⟨y0,e0,b0⟩:=hy 0 (by omega);rw[e0]at f0;obtain⟨z0,g0,_,w0⟩:=DataW.trod_int Tryz.underlying3 f0;simp only[List.cons.injEq,and_true]at g0;subst g0;obtain⟨y1,e1,b1⟩:=hy 1 (by omega);rw[e1]at f1;obtain⟨z1,g1,k1,_⟩:=act_open f1 (by omega);simp only[Acd.list,List.cons.injEq,and_true]at g1;obtain⟨rfl,rfl,rfl,rfl,rfl,rfl,rfl,rfl,rfl,rfl,rfl,rfl,rfl,rfl,rfl⟩:=g1;obtain⟨y2,e2,b2⟩:=hy 2 (by omega);rw[e2]at f2;obtain⟨z2,g2,_,w2⟩:=DataW.trod_int Tryz.underlying3 f2;simp only[List.cons.injEq,and_true]at g2;subst g2;obtain⟨y3,e3,b3⟩:=hy 3 (by omega);rw[e3]at f3;obtain⟨z3,g3,_,w3⟩:=DataW.trod_int Tryz.underlying3 f3;simp only[List.cons.injEq,and_true]at g3;subst g3;obtain⟨y4,e4,b4⟩:=hy 4 (by omega);rw[e4]at f4;obtain⟨z4,g4,_,w4⟩:=DataW.trod_int Tryz.underlying3 f4;simp only[List.cons.injEq,and_true]at g4;subst g4;obtain⟨y5,e5,b5⟩:=hy 5 (by omega);rw[e5]at f5;obtain⟨z5,g5,_,w5⟩:=DataW.trod_int Tryz.underlying2 f5;simp only[List.cons.injEq,and_true]at g5;subst g5;have htop:Rows.uptoBulk (DataW.agg (ys.map (·.1)))=Rows.uptoBulkAll (ys.map (·.1))+1:=rfl;exact⟨⟨z0,z1,z2,z3,z4,z5⟩,rfl,k1,Nat.zero_le _⟩
theorem steps_in {fuel:Nat} {v:Value} {x:DataW H × List MemPlace} (h:DataW.trod enc Tryz.prog w base (fun _=>true) held fuel 26 [v]=some x) (hb:Rows.uptoBulk x.1≤1048576):∃s:Sli Stp,v=.slice s.p s.n s.c∧SlOk w 20 Stp.list s∧(∀a∈s.xs,(fun a=>AcdOk w a.ac) a)∧(s.xs.map (fun _=>0)).sum≤Rows.uptoBulk x.1∧s.xs.length≤Rows.uptoBulk x.1∧s.n≤s.c :=
 @slice_in H enc w base held Stp ⟨⟨0,⟨0,0,0,false,⟨none,0,0,[]⟩,⟨none,0,0,[]⟩,⟨none,0,0,[]⟩,0,⟨none,0,0,[]⟩,0,0,0,0,0,⟨none,0,0,[]⟩⟩,0,0,0,0⟩⟩ _ _ _ _ Tryz.underlying26 cEtilllaw9Step (by omega) (fun _=>rfl) (V:=(fun a=>AcdOk w a.ac)) (g:=(fun _=>0)) (fun _ _ _ h hb=>step_open h hb) fuel v x h hb
theorem conf_open {fuel:Nat} {cs:List Value} {x:DataW H × List MemPlace} (h:DataW.trod enc Tryz.prog w base (fun _=>true) held fuel 25 cs=some x) (hb:Rows.uptoBulk x.1≤1048576):∃p:Cnf,cs=p.arr.toList∧SlOk w 3 tric p.ctr∧SlOk w 1 (fun n:Int=>[Value.int .i64 n]) p.prc:=by
 obtain⟨ys,n,_,rfl,hl,hlen,hf⟩:=DataW.trod_struct Tryz.underlying25 h;rw[cEtilllaw1Conf]at hl;obtain⟨v0,v1,v2,v3,v4,v5,v6,v7,v8,rfl⟩:=len9 hl;have f0:DataW.trod enc Tryz.prog w base (fun _=>true) held n 3 (([v0,v1,v2,v3,v4,v5,v6,v7,v8].drop 0).take (Tryz.prog.cellsOf 3))=ys[0]?:=hf 0 _ rfl;have f1:DataW.trod enc Tryz.prog w base (fun _=>true) held n 22 (([v0,v1,v2,v3,v4,v5,v6,v7,v8].drop 1).take (Tryz.prog.cellsOf 22))=ys[1]?:=hf 1 _ rfl;have f2:DataW.trod enc Tryz.prog w base (fun _=>true) held n 23 (([v0,v1,v2,v3,v4,v5,v6,v7,v8].drop 2).take (Tryz.prog.cellsOf 23))=ys[2]?:=hf 2 _ rfl;have f3:DataW.trod enc Tryz.prog w base (fun _=>true) held n 3 (([v0,v1,v2,v3,v4,v5,v6,v7,v8].drop 3).take (Tryz.prog.cellsOf 3))=ys[3]?:=hf 3 _ rfl;have f4:DataW.trod enc Tryz.prog w base (fun _=>true) held n 3 (([v0,v1,v2,v3,v4,v5,v6,v7,v8].drop 4).take (Tryz.prog.cellsOf 3))=ys[4]?:=hf 4 _ rfl;have f5:DataW.trod enc Tryz.prog w base (fun _=>true) held n 3 (([v0,v1,v2,v3,v4,v5,v6,v7,v8].drop 5).take (Tryz.prog.cellsOf 3))=ys[5]?:=hf 5 _ rfl;have f6:DataW.trod enc Tryz.prog w base (fun _=>true) held n 3 (([v0,v1,v2,v3,v4,v5,v6,v7,v8].drop 6).take (Tryz.prog.cellsOf 3))=ys[6]?:=hf 6 _ rfl;have f7:DataW.trod enc Tryz.prog w base (fun _=>true) held n 3 (([v0,v1,v2,v3,v4,v5,v6,v7,v8].drop 7).take (Tryz.prog.cellsOf 3))=ys[7]?:=hf 7 _ rfl;have f8:DataW.trod enc Tryz.prog w base (fun _=>true) held n 3 (([v0,v1,v2,v3,v4,v5,v6,v7,v8].drop 8).take (Tryz.prog.cellsOf 3))=ys[8]?:=hf 8 _ rfl;simp only[cEint,cEsint64,cEstilllaw1Bounds,List.drop_zero,List.drop_succ_cons,List.take_succ_cons,List.take_zero]at f0 f1 f2 f3 f4 f5 f6 f7 f8;have hbk:Rows.uptoBulkAll (ys.map (·.1))+1≤1048576:=hb;have hy:∀i,i<9→∃y,ys[i]?=some y∧Rows.uptoBulk y.1≤Rows.uptoBulkAll (ys.map (·.1)):=fun i hi=>⟨ys[i]'(by rw[hlen];exact hi),List.getElem?_eq_getElem _,Blk.part_le (List.mem_map.2 ⟨_,List.getElem_mem _,rfl⟩)⟩
 obtain⟨y0,e0,b0⟩:=hy 0 (by omega);rw[e0]at f0;obtain⟨z0,g0,_,w0⟩:=DataW.trod_int Tryz.underlying3 f0;simp only[List.cons.injEq,and_true]at g0;subst g0;obtain⟨y1,e1,b1⟩:=hy 1 (by omega);rw[e1]at f1;obtain⟨z1,rfl,k1,V1,m1,l1,c1⟩:=bounds_in f1 (by omega);obtain⟨y2,e2,b2⟩:=hy 2 (by omega);rw[e2]at f2;obtain⟨z2,rfl,k2,V2,m2,l2,c2⟩:=i64s_in f2 (by omega);obtain⟨y3,e3,b3⟩:=hy 3 (by omega);rw[e3]at f3;obtain⟨z3,g3,_,w3⟩:=DataW.trod_int Tryz.underlying3 f3;simp only[List.cons.injEq,and_true]at g3;subst g3;obtain⟨y4,e4,b4⟩:=hy 4 (by omega);rw[e4]at f4;obtain⟨z4,g4,_,w4⟩:=DataW.trod_int Tryz.underlying3 f4;simp only[List.cons.injEq,and_true]at g4;subst g4;obtain⟨y5,e5,b5⟩:=hy 5 (by omega);rw[e5]at f5;obtain⟨z5,g5,_,w5⟩:=DataW.trod_int Tryz.underlying3 f5;simp only[List.cons.injEq,and_true]at g5;subst g5;obtain⟨y6,e6,b6⟩:=hy 6 (by omega);rw[e6]at f6;obtain⟨z6,g6,_,w6⟩:=DataW.trod_int Tryz.underlying3 f6;simp only[List.cons.injEq,and_true]at g6;subst g6;obtain⟨y7,e7,b7⟩:=hy 7 (by omega);rw[e7]at f7;obtain⟨z7,g7,_,w7⟩:=DataW.trod_int Tryz.underlying3 f7;simp only[List.cons.injEq,and_true]at g7;subst g7;obtain⟨y8,e8,b8⟩:=hy 8 (by omega);rw[e8]at f8;obtain⟨z8,g8,_,w8⟩:=DataW.trod_int Tryz.underlying3 f8;simp only[List.cons.injEq,and_true]at g8;subst g8;have htop:Rows.uptoBulk (DataW.agg (ys.map (·.1)))=Rows.uptoBulkAll (ys.map (·.1))+1:=rfl;exact⟨⟨z0,z1,z2,z3,z4,z5,z6,z7,z8⟩,rfl,k1,k2⟩
def scr9 (p:Cnf) (s:Sli Stp):List Value:=[.int .i64 p.tills,.slice p.ctr.p p.ctr.n p.ctr.c,.slice p.prc.p p.prc.n p.prc.c,.int .i64 p.lease,.int .i64 p.watch,.int .i64 p.beat,.int .i64 p.window,.int .i64 p.cap,.int .i64 p.flight,.slice s.p s.n s.c]
theorem script_open {fuel:Nat} {cs:List Value} {x:DataW H × List MemPlace} (h:DataW.trod enc Tryz.prog w base (fun _=>true) held fuel 28 cs=some x) (hb:Rows.uptoBulk x.1≤1048576):∃(p:Cnf) (s:Sli Stp),cs=scr9 p s∧SlOk w 3 tric p.ctr∧SlOk w 1 (fun n:Int=>[Value.int .i64 n]) p.prc∧SlOk w 20 Stp.list s∧∀o∈s.xs,AcdOk w o.ac:=by
 obtain⟨ys,n,_,rfl,hl,hlen,hf⟩:=DataW.trod_struct Tryz.underlying28 h;rw[cEtilllaw9Script]at hl;obtain⟨v0,v1,v2,v3,v4,v5,v6,v7,v8,v9,rfl⟩:=len10 hl;have f0:DataW.trod enc Tryz.prog w base (fun _=>true) held n 25 (([v0,v1,v2,v3,v4,v5,v6,v7,v8,v9].drop 0).take (Tryz.prog.cellsOf 25))=ys[0]?:=hf 0 _ rfl;have f1:DataW.trod enc Tryz.prog w base (fun _=>true) held n 26 (([v0,v1,v2,v3,v4,v5,v6,v7,v8,v9].drop 9).take (Tryz.prog.cellsOf 26))=ys[1]?:=hf 1 _ rfl;simp only[cEstilllaw9Step,cEtilllaw1Conf,List.drop_zero,List.drop_succ_cons,List.take_succ_cons,List.take_zero]at f0 f1;have hbk:Rows.uptoBulkAll (ys.map (·.1))+1≤1048576:=hb;have hy:∀i,i<2→∃y,ys[i]?=some y∧Rows.uptoBulk y.1≤Rows.uptoBulkAll (ys.map (·.1)):=fun i hi=>⟨ys[i]'(by rw[hlen];exact hi),List.getElem?_eq_getElem _,Blk.part_le (List.mem_map.2 ⟨_,List.getElem_mem _,rfl⟩)⟩
 obtain⟨y0,e0,b0⟩:=hy 0 (by omega);rw[e0]at f0;obtain⟨z0,g0,k0a,k0b⟩:=conf_open f0 (by omega);simp only[Cnf.arr,List.cons.injEq,and_true]at g0;obtain⟨rfl,rfl,rfl,rfl,rfl,rfl,rfl,rfl,rfl⟩:=g0;obtain⟨y1,e1,b1⟩:=hy 1 (by omega);rw[e1]at f1;obtain⟨z1,rfl,k1,V1,m1,l1,c1⟩:=steps_in f1 (by omega);have htop:Rows.uptoBulk (DataW.agg (ys.map (·.1)))=Rows.uptoBulkAll (ys.map (·.1))+1:=rfl;exact⟨z0,z1,rfl,k0a,k0b,k1,V1⟩
end
end Go.Proofs.YtiogibfhafoapaaGreat.Z
