import Derived.Test.YtiogibfhafoapaaGreatDcI
import Derived.Test.YtiogibfhafoapaaGreatRwK
import Derived.Test.YtiogibfhafoapaaGreatAbZ
import Derived.Test.YtiogibfhafoapaaGreatFoI
import Derived.Test.YtiogibfhafoapaaGreatTk
set_option maxRecDepth 100000
set_option maxHeartbeats 8000000
set_option linter.unusedSimpArgs false
set_option linter.unusedVariables false
namespace Go.Proofs.YtiogibfhafoapaaGreat
open Go.RowKit
open Z (Sli QaE Acd Qad AcOwn)
structure Stp where
 do_:Int
 ac:Acd
 what:Int
 way:Int
 till:Int
 n:Int
def Stp.list (o:Stp):List Value:=.int .i64 o.do_ :: o.ac.list++[.int .i64 o.what,.int .i64 o.way,.int .i64 o.till,.int .i64 o.n]
def Stp.arr (o:Stp):Array Value:=#[.int .i64 o.do_,.int .i64 o.ac.till,.int .u64 o.ac.num,.int .i64 o.ac.kind,.bool o.ac.sure,.slice o.ac.lines.p o.ac.lines.n o.ac.lines.c,.slice o.ac.guards.p o.ac.guards.n o.ac.guards.c,.slice o.ac.sets.p o.ac.sets.n o.ac.sets.c,.int .i64 o.ac.mg,.slice o.ac.other.p o.ac.other.n o.ac.other.c,.int .i64 o.ac.ra,.int .i64 o.ac.rb,.int .i64 o.ac.rd,.int .i64 o.ac.to,.int .u64 o.ac.gen,.slice o.ac.rights.p o.ac.rights.n o.ac.rights.c,.int .i64 o.what,.int .i64 o.way,.int .i64 o.till,.int .i64 o.n]
theorem QaV (w:World) (C S O R:Array Value) (t:TypeId):∃w2,(((w.alloc (.cells C 34)).alloc (.cells S 42)).alloc (.cells O 57)).alloc (.cells R t)=w2∧Below w.heap.size w w2∧w2.heap[w.heap.size]?=some (.cells C 34 (0,0))∧w2.heap[w.heap.size+1]?=some (.cells S 42 (0,0))∧w2.heap[w.heap.size+1+1]?=some (.cells O 57 (0,0))∧w2.heap[w.heap.size+1+1+1]?=some (.cells R t (0,0))∧w2.heap.size=w.heap.size+1+1+1+1:=by
 refine⟨_,rfl,((((Below.refl _ w).alloc (Va _) _).alloc (by simp) _).alloc (by simp;omega) _).alloc (by simp;omega) _,?_,?_,?_,?_,by simp⟩
 ·rw[Vc _ _ _ (by simp only[Vm];omega),Vc _ _ _ (by simp only[Vm];omega),Vc _ _ _ (by simp)];exact hNq _ _
 ·rw[Vc _ _ _ (by simp only[Vm];omega),Vc _ _ _ (by simp)];exact VV _ _ _
 ·rw[Vc _ _ _ (by simp only[Vm];omega)]
  have h:=hNq ((w.alloc (.cells C 34)).alloc (.cells S 42)) (.cells O 57);simp only[Vm]at h;exact h
 ·have h:=hNq (((w.alloc (.cells C 34)).alloc (.cells S 42)).alloc (.cells O 57)) (.cells R t)
  simp only[Vm]at h;exact h
theorem Z.AcOwn.by {B B':Nat} {W W':World} {a:Acd} (h:AcOwn B W a) (hk:∀e sz v n xs,e≠55→W.ownsRow B e sz v n xs→W'.ownsRow B' e sz v n xs):AcOwn B' W' a :=
 ⟨⟨hk _ _ _ _ _ (by decide) h.lines.1,h.lines.2⟩,⟨hk _ _ _ _ _ (by decide) h.guards.1,h.guards.2⟩,⟨hk _ _ _ _ _ (by decide) h.sets.1,h.sets.2⟩,⟨hk _ _ _ _ _ (by decide) h.other.1,h.other.2⟩,⟨hk _ _ _ _ _ (by decide) h.rights.1,h.rights.2⟩⟩
def Qmh (s:Sta) (tills:Int) (a:Z.AcP):Z.AcP:={ a with till:=a.till % tills,num:=IntKind.u64.wrap (Qai s.last 0 (a.till % tills)+1) }
theorem QiB (w:World) (c:Cfg) (s:Sta) (hs:Qae w s) (hln:(s.ln:Int)=c.tills) (htl:1≤c.tills∧c.tills≤1000000) (o:Stp) (hok:Qad w o.ac) :
  Calls Tryz.prog 12 #[.agg (qC c),.agg (qS s),.agg o.arr] w fun e w'=>∃b:Acd,e=.returned (.agg b.arr)∧b.d=Qmh s c.tills o.ac.d∧AcOwn w.heap.size w' b∧Below w.heap.size w w':=by
 obtain⟨O,hO⟩:=exq o.arr;obtain⟨Zr,hZr⟩:=exq qa;have HZz:Hid (Zr.size=15):=by show _=_;rw[←hZr];rfl
 obtain⟨w2,hw2,hb2,hc2,hs2,ho2,hr2,hsz2⟩:=QaV w (qC c) (qS s) O Zr 55;obtain⟨HW2,HB2⟩:=Qmj hw2 hb2;have HS:=Qaa (hs.below hb2);have hsz4:w.heap.size+1+1+1<w2.heap.size:=by omega
 obtain⟨A,hA⟩:=exq o.ac.arr
 have HLA:Hid ((Instr.loadAt 55 (.pointer (some ⟨w.heap.size+1+1,1,none⟩))).run Tryz.prog w2=.ok (.agg A) w2):=by
  show _=_;rw[←hA];refine VX (P:=Tryz.prog) w2 (w.heap.size+1+1) 1 55 o.ac.list _ (fun j v hv=>?_) Tryz.underlying55 rfl Z.Tryz.sizeA;rw[cRq ho2,←hO];have hj:=(Vd.1 hv).1;have e:o.arr.toList=o.list:=rfl;rw[←Array.getElem?_toList,e];show (Value.int .i64 o.do_ :: (o.ac.list++_))[1+j]?=_;rw[Nat.add_comm,List.getElem?_cons_succ,List.getElem?_append_left hj];exact hv
 have HCp:=Qaa (Z.copyAct_any w2 o.ac (hok.below hb2) A hA);obtain⟨d0,_,_,_,_,_,_,_,_⟩:=ac9 hc2;obtain⟨_,_,_,c3,_,_⟩:=ac6 hs2;have h0:(0:Int)<c.tills:=by omega
 have hw0:0≤o.ac.till % c.tills∧o.ac.till % c.tills<c.tills:=⟨VK _ (by omega),VE _ h0⟩;obtain⟨t,ht⟩:∃t:Nat,o.ac.till % c.tills=(t:Int):=⟨(o.ac.till % c.tills).toNat,by omega⟩;rw[ht]at hw0;obtain⟨q,hq⟩:∃q,s.last[t]?=some q:=⟨_,gE (by rw[HS.out.ln];omega)⟩;have hq2:=(Qbe (z:=(0:Int)) hq).2;obtain⟨lb,lo,el,hlb,hlc⟩:=HS.out.last.get (i:=t) (r:=uc q) (by rw[Vb,hq];rfl);have e3:=hlc 0 _ rfl;rw[Nat.mul_one,Vr]at e3;rw[el]at c3;obtain⟨HQ2,HT⟩:=Qmj hq2 ht;have ht2:(t:Int)<(s.ln:Int):=by omega
 have k0:(0:Int)≤(t:Int):=by omega
 obtain⟨tills,htd⟩:=exq c.tills
 have HWi:Hid (∀W,Calls Tryz.prog 33 #[.int .i64 o.ac.till,.int .i64 c.tills] W fun e w'=>e=.returned (.int .i64 (t:Int))∧w'=W):=fun W=>by
  have h:=Z.within_any W o.ac.till c.tills (by omega) (by omega);rw[ht]at h;exact h
 have HRz:Hid (∀W,Below w2.heap.size w2 W→W.heap[w.heap.size+1+1+1]?=some (.cells Zr 55 (0,0))):=fun W hb=>(hb.block _ (Qab hr2)).trans hr2
 have HK:Hid (∀W,Below w2.heap.size w2 W→W.cell? ⟨w.heap.size,0,none⟩=some (.int .i64 c.tills)∧W.cell? ⟨w.heap.size+1,3,none⟩=some (.slice (some ⟨lb,lo,none⟩) s.ln s.lc)∧W.cell? ⟨lb,lo+t,none⟩=some (.int .u64 q)):=fun W hb=>⟨(hb.cell (p:=⟨w.heap.size,0,none⟩) (Qab hc2)).trans d0,(hb.cell (p:=⟨w.heap.size+1,3,none⟩) (Qab hs2)).trans c3,(hb.cell (p:=⟨lb,lo+t,none⟩) hlb).trans e3⟩
 obtain⟨nn,hnn⟩:=exq (IntKind.u64.wrap (q+1));obtain⟨HNn,HZe⟩:=Qmj hnn hZr;rw[hO];clear hZr hO hA hw2 hb2 hc2 hs2 ho2 hr2 hs hok hq hq2 hlc el d0 c3 e3 htd ht hw0 h0 hlb;go_enter Tryz.func12,Tryz.ntmps12;go_upto_region 1 with (fail);rw[←HZe.out]at HW2;rw[HW2.out]
 go_upto_region 2 with (
  first
  | (go_at_call 16;refine HCp.out.mono ?_;rintro e1 w5 ⟨b,rfl,hbd,hbo,hb5⟩;obtain⟨HBd,HBo,HB5⟩:=Qmk hbd hbo hb5;obtain⟨B,hB⟩:=exq b.arr;rw[hB];have HBe:=Qaa hB;have HBz:Hid (B.size=15):=(by show _=_;rw[←hB];rfl);have HBn:Hid (B.all (·.oneCell')=true):=(by show _=_;rw[←hB];exact b.ones);clear hbd hbo hb5 hB)
  | ((with_reducible refine glq 55 8 ?_);refine Z.lp_load (w.heap.size+1+1) 1 A rfl HLA.out ?_)
  | ((with_reducible refine gsq 55 7 ?_);refine Z.lp_store (t:=55) (x:=.tmp 7) (some ⟨w5.heap.size,0,none⟩) (.agg B) rfl rfl (run_storeAt_new (P:=Tryz.prog) w5 55 _ B (by rw[HBz.out];exact Z.Tryz.sizeA) (by rw[HBz.out];rfl) HBn.out) ?_)
  | fail)
 dsimp only[Act.put];have hT6:=hNq w5 (.cells B 55);have hb6:Below w5.heap.size w5 (w5.alloc (.cells B 55)):=bR.alloc (Va _) _;obtain⟨w6,hw6⟩:=exq (w5.alloc (.cells B 55));rw[hw6]at hT6 hb6 ⊢;have hab:w2.heap.size≤w5.heap.size:=HB5.out.size;have HOw6:=Qaa (HBo.out.below hb6);obtain⟨ab,hab2⟩:=exq w5.heap.size;rw[hab2]at hT6 hab ⊢;have HB26:Hid (Below w2.heap.size w2 w6):=HB5.out.trans (hb6.mono HB5.out.size);clear hw6 hab2 hb6;have bt:b.till=o.ac.till:=Vl Z.AcP.till HBd.out;have x0:w6.cell? ⟨ab,0,none⟩=some (.int .i64 o.ac.till):=by rw[cRq hT6,←HBe.out,←bt];rfl
 have fz:=VN w6 ab 0 _ _ hT6;obtain⟨d0,c3,e3⟩:=HK.out w6 HB26.out;have HT6:=Qaa hT6;clear bt hT6;go_upto_region 3 with (first | (go_at_call 33;refine(HWi.out _).mono ?_;rintro e w9 ⟨rfl,h9⟩;rw[h9];clear h9 w9) | fail);obtain⟨w7,hw7⟩:=exq (w6.setCell ⟨ab,0,none⟩ (.int .i64 (t:Int)));have HT7:Hid (w7.heap[ab]?=some (.cells (B.setIfInBounds 0 (.int .i64 (t:Int))) 55 (0,0))):=by show _=_;rw[←hw7];exact Vx _ _ _ _ _ _ HT6.out
 have HB27:Hid (Below w2.heap.size w2 w7):=by show Below _ _ _;rw[←hw7];exact HB26.out.setCell (p:=⟨ab,0,none⟩) hab _
 have HOw7:Hid (AcOwn w2.heap.size w7 b):=by show AcOwn _ _ _;rw[←hw7];exact HOw6.out.by (fun e sz v n xs he h=>Z.owns_set h HT6.out (fun e2=>he e2.symm))
 rw[hw7];clear hw7 x0 fz d0 c3 e3;obtain⟨d0,c3,e3⟩:=HK.out w7 HB27.out;have x0:w7.cell? ⟨ab,0,none⟩=some (.int .i64 (t:Int)):=by rw[cRq HT7.out,Array.getElem?_setIfInBounds_self_of_lt (by rw[HBz.out];omega)]
 have x1:∃u,w7.cell? ⟨ab,1,none⟩=some u:=⟨_,by rw[cRq HT7.out];exact Array.getElem?_eq_getElem (by rw[Array.size_setIfInBounds,HBz.out];omega)⟩;obtain⟨u1,x1⟩:=x1;have fz:=VN w7 ab 1 _ _ HT7.out;go_upto_region 4 with (fail);obtain⟨w8,hw8⟩:=exq (w7.setCell ⟨ab,1,none⟩ (.int .u64 nn));have HT8:Hid (w8.heap[ab]?=some (.cells ((B.setIfInBounds 0 (.int .i64 (t:Int))).setIfInBounds 1 (.int .u64 nn)) 55 (0,0))):=by show _=_;rw[←hw8];exact Vx _ _ _ _ _ _ HT7.out
 have HB28:Hid (Below w2.heap.size w2 w8):=by show Below _ _ _;rw[←hw8];exact HB27.out.setCell (p:=⟨ab,1,none⟩) hab _
 have HOw8:Hid (AcOwn w2.heap.size w8 b):=by show AcOwn _ _ _;rw[←hw8];exact HOw7.out.by (fun e sz v n xs he h=>Z.owns_set h HT7.out (fun e2=>he e2.symm))
 rw[hw8];clear hw8 x0 x1 fz d0 c3 e3 HT6 HT7;obtain⟨B2,hB2⟩:=exq ((B.setIfInBounds 0 (.int .i64 (t:Int))).setIfInBounds 1 (.int .u64 nn));have HB2e:Hid (B2=({ b with till:=(t:Int),num:=nn } : Acd).arr):=by show _=_;rw[←hB2,←HBe.out];rfl
 rw[hB2]at HT8;have HB2z:Hid (B2.size=15):=by show _=_;rw[HB2e.out];rfl
 have HLB:=Qaa (lr55 HT8.out (by rw[HB2z.out];exact Z.Tryz.sizeA));have HSB:=Qaa (Z.storeAt_row (P:=Tryz.prog) (c':=B2) (HRz.out w8 HB28.out) (by rw[HB2z.out];exact Z.Tryz.sizeA) (by rw[HZz.out,HB2z.out]) (by rw[HB2e.out];exact Z.Acd.ones _));have HRw:=Qaa (VB _ _ _ B2 _ _ (HRz.out w8 HB28.out));have HOE:Hid (AcOwn w.heap.size (w8.setRow (w.heap.size+1+1+1) B2) b):=HOw8.out.by (fun e sz v n xs he h=>Z.owns_le (Qas h (fun g e2=>Vz _ _ _ _ (by rintro rfl;exact Z.owns_ne h (HRz.out w8 HB28.out) (fun e3=>he e3.symm) e2.symm))) HB2.out.size);clear hB2
 go_wp2_with (
  first
  | ((with_reducible refine glq 55 7 ?_);refine Z.lp_load ab 0 B2 rfl HLB.out ?_)
  | ((with_reducible refine gsq 55 6 ?_);refine Z.lp_store (t:=55) (x:=.tmp 6) (some ⟨w.heap.size+1+1+1,0,none⟩) (.agg B2) rfl rfl HSB.out ?_)
  | fail)
 refine Vg (VF rfl _ _ (w.heap.size+1+1+1) 55 B2 (0,0) _ rfl HRw.out Tryz.underlying55 rfl (by rw[HB2z.out];exact Z.Tryz.sizeA)) rfl ?_;refine⟨{ b with till:=(t:Int),num:=nn },by rw[HB2e.out],?_,⟨HOE.out.lines,HOE.out.guards,HOE.out.sets,HOE.out.other,HOE.out.rights⟩,VA (HB2.out.trans (HB28.out.mono HB2.out.size)) (by omega) B2⟩;show ({ b.d with till:=(t:Int),num:=nn } : Z.AcP)=Qmh s c.tills o.ac.d;unfold Qmh;rw[HBd.out,show o.ac.d.till=o.ac.till from rfl,HT.out,HQ2.out,HNn.out]
end Go.Proofs.YtiogibfhafoapaaGreat
namespace Go.Proofs.YtiogibfhafoapaaGreat
open Go.RowKit
open Z (Sli QaE Acd Qad AcOwn Ctr ctc)
theorem Qac.setV {B:Nat} {W:World} {s:Sta} (h:Qac B W s) {k:Nat} {q:Lin} (hq:s.prices[k]?=some q):∃g,s.rp=some ⟨g,0,none⟩∧B≤g∧(∃C,W.heap[g]?=some (.cells C 123 (0,0)))∧(∀j,W.frozen? ⟨g,j,none⟩=false)∧(∀j v,(Qal q)[j]?=some v→W.cell? ⟨g,k*2+j,none⟩=some v) ∧
  ∀n:Int,Qac B (W.setCell ⟨g,k*2+1,none⟩ (.int .i64 n)) { s with prices:=s.prices.set k ⟨q.c,n⟩ }:=by
 obtain⟨g,e,hB,⟨C,hC⟩,hf,_⟩:=QbH h.prices (QaF (f:=Qal) (sz:=2) (fun _=>rfl) s.prices k 0 q _ hq rfl);refine⟨g,e,hB,⟨C,hC⟩,hf,fun j v hv=>?_,fun n=>?_⟩
 ·obtain⟨g',e',_,_,_,p⟩:=QbH h.prices (QaF (f:=Qal) (sz:=2) (fun _=>rfl) s.prices k j q v hq hv)
  rw[e]at e';cases e';exact p
 ·have K:∀(B' k' n':Nat) (t:TypeId) (u:Value) (ys:List Value),W.ownsRow B' t k' u n' ys→123≠t→(W.setCell ⟨g,k*2+1,none⟩ (.int .i64 n)).ownsRow B' t k' u n' ys:=fun B' k' n' t u ys hr ht=>Z.owns_set hr hC ht
  refine⟨h.pn,K _ _ _ _ _ _ h.pools (by decide),h.hlen,fun y hy=>K _ _ _ _ _ _ (h.held y hy) (by decide),h.apart,by simp only[VP];exact h.rn,?_,h.ln,K _ _ _ _ _ _ h.last (by decide),h.gn,K _ _ _ _ _ _ h.gen (by decide),h.on,K _ _ _ _ _ _ h.owed (by decide),h.lg⟩;have h0:=h.prices;rw[e]at h0;have h2:=Qgh h0 hq n;rw[←e]at h2;exact h2
def QcX (s:Sta):Prop:=∀g∈s.gen,0≤g
def QlM (w:World) (c:Cfg) (cs:List Ctr) (s:Sta) (E:Ending) (w':World):Prop :=
 ∃(A:Array Value) (b:Bool),E=.returned (.tuple #[.agg A,.bool b])∧A.size=6∧A.all (·.oneCell')=true∧(b=true→∃r:Sta,A=r.arr∧Qac w.heap.size w' r∧Qdt c cs r∧(QcX s→QcX r))∧Below w.heap.size w w'
structure Mvd (w W:World) (C S O:Array Value) (tb:Nat) (r:Sta):Prop where
 cb:W.heap[w.heap.size]?=some (.cells C 34 (0,0))
 sb:W.heap[w.heap.size+1]?=some (.cells S 42 (0,0))
 ob:W.heap[w.heap.size+1+1]?=some (.cells O 57 (0,0))
 rb:W.heap[w.heap.size+1+1+1]?=some (.cells qs 42 (0,0))
 xb:W.heap[tb]?=some (.cells (qS r) 42 (0,0))
 tlt:w.heap.size+1+1+1<tb
 own:Qac (w.heap.size+1+1+1+1) W r
 bel:Below w.heap.size w W
theorem Mvd.below {w W W':World} {C S O:Array Value} {tb:Nat} {r:Sta} (h:Mvd w W C S O tb r) (hb:Below W.heap.size W W'):Mvd w W' C S O tb r :=
 ⟨(hb.block _ (Qab h.cb)).trans h.cb,(hb.block _ (Qab h.sb)).trans h.sb,(hb.block _ (Qab h.ob)).trans h.ob,(hb.block _ (Qab h.rb)).trans h.rb,(hb.block _ (Qab h.xb)).trans h.xb,h.tlt,h.own.below hb,h.bel.trans (hb.mono h.bel.size)⟩
theorem Mvd.set {w W:World} {C S O:Array Value} {tb:Nat} {r r':Sta} (h:Mvd w W C S O tb r) {g:Nat} {G:Array Value} {t:TypeId} (hg:W.heap[g]?=some (.cells G t (0,0))) (ht:Qku t) (hB:w.heap.size+1+1+1+1≤g) (i:Nat) (v:Value) (hr:r'.arr=r.arr) (ho:Qac (w.heap.size+1+1+1+1) (W.setCell ⟨g,i,none⟩ v) r'):Mvd w (W.setCell ⟨g,i,none⟩ v) C S O tb r':=by
 have K:∀(k:Nat) (A:Array Value) (t':TypeId),W.heap[k]?=some (.cells A t' (0,0))→¬Qku t'→(W.setCell ⟨g,i,none⟩ v).heap[k]?=some (.cells A t' (0,0)):=fun k A t' hk hn=>by
  rw[Ve _ _ _ _ (by show k≠g;rintro rfl;rw[hk]at hg;cases hg;exact hn ht)];exact hk
 exact⟨K _ _ _ h.cb (Qay rfl),K _ _ _ h.sb (Qay rfl),K _ _ _ h.ob (Qay rfl),K _ _ _ h.rb (Qay rfl),by show _=some (Obj.cells r'.arr _ _);rw[hr];exact K _ _ _ h.xb (Qay rfl),h.tlt,ho,h.bel.setCell (p:=⟨g,i,none⟩) (by show w.heap.size≤g;omega) _⟩
theorem Mvd.told {w W:World} {C S O:Array Value} {tb:Nat} {r:Sta} (h:Mvd w W C S O tb r) (E:Array Value):(W.setRow (w.heap.size+1+1+1) E).heap[w.heap.size+1+1+1]?=some (.cells E 42 (0,0))∧Qac w.heap.size (W.setRow (w.heap.size+1+1+1) E) r∧Below w.heap.size w (W.setRow (w.heap.size+1+1+1) E) :=
 ⟨VB _ _ _ _ _ _ h.rb,(h.own.far (fun g C t hg ht=>Vz _ _ _ _ (by rintro rfl;rw[h.rb]at hg;cases hg;exact Qay rfl ht))).le (by omega),VA h.bel (by omega) E⟩
theorem QbJ {a b:Sta} (h:b.gen=a.gen):QcX a→QcX b:=fun hg g hm=>hg g (h ▸ hm)
theorem QjY {s:Sta} {t:Nat} {v:Int} (hv:0≤v) (h:QcX s):QcX (s.setGen t v):=fun g hm=>by
 rcases List.mem_or_eq_of_mem_set hm with h1 | h1
 ·exact h g h1
 ·rw[h1];exact hv
theorem QgG {c:Cfg} {s:Sta} {k:Nat} {P P':Pl} (h:Shp c s) (hP:s.pools[k]?=some P) (hl:P'.hl=P.hl):Shp c (s.upP k P') :=
 ⟨h.pn,h.rn,h.ln,h.gn,h.on,fun p hp=>by
  rcases Qdu hp with h1 | rfl
  ·exact h.hl p h1
  ·rw[hl];exact h.hl P (mG hP)⟩
theorem Qf5 (n:Int):0≤IntKind.u64.wrap n:=by first | (show (0:Int)≤_ % _;exact VK _ (by decide)) | (simp only[IntKind.wrap,IntKind.signed,IntKind.bits];split <;> first | omega | exact VK _ (by decide))
theorem Qbr {w:World} {c:Cfg} {cs:List Ctr} {s:Sta} (hc:Qbp w c cs) (h:Shp c s):QjI s:=by
 have h1:=hc.cl;have h2:=hc.pl;have h3:=hc.tills;exact⟨by have:=h.pn;omega,by have:=h.rn;omega,by have:=h.ln;omega,by have:=h.gn;omega,by have:=h.on;omega,fun p hp=>by have:=h.hl p hp;omega⟩
end Go.Proofs.YtiogibfhafoapaaGreat
namespace Go.Proofs.YtiogibfhafoapaaGreat
open Go.RowKit Go.Sort
open Z (Sli QaE Acd Qad AcOwn Ctr ctc)
theorem Qlh (w:World) (c:Cfg) (cs:List Ctr) (hcf:Qbp w c cs) (h1t:1≤c.tills) (hcl1:1≤c.cl) (s:Sta) (hs:Qae w s) (hsh:Shp c s) (o:Stp) (hwy:o.way % 4=0) :
  Calls Tryz.prog 47 #[.agg (qC c),.agg (qS s),.agg o.arr] w (QlM w c cs s):=by
 obtain⟨O,hO⟩:=exq o.arr;obtain⟨w2,hw2,hb2,hc2,hs2,ho2,hr2,hsz2⟩:=QaV w (qC c) (qS s) O qs 42;obtain⟨HW2,HCf,HSh⟩:=Qmk hw2 hcf hsh;have HSm:=Qaa (Qbr hcf hsh);have h0:(0:Int)<c.tills:=by omega
 have ht0:0≤o.till % c.tills∧o.till % c.tills<c.tills:=⟨VK _ (by omega),VE _ h0⟩;obtain⟨t,ht⟩:∃t:Nat,o.till % c.tills=(t:Int):=⟨(o.till % c.tills).toNat,by omega⟩;rw[ht]at ht0;have h0c:(0:Int)<(c.cl:Int):=by omega
 have hi0:0≤o.what % (c.cl:Int)∧o.what % (c.cl:Int)<(c.cl:Int):=⟨VK _ (by omega),VE _ h0c⟩;obtain⟨k,hk⟩:∃t:Nat,o.what % (c.cl:Int)=(t:Int):=⟨(o.what % (c.cl:Int)).toNat,by omega⟩;rw[hk]at hi0;have htm:=hcf.tills;have hcm:=hcf.cl
 have HWt:Hid (∀W,Calls Tryz.prog 33 #[.int .i64 o.till,.int .i64 c.tills] W fun e w'=>e=.returned (.int .i64 (t:Int))∧w'=W):=fun W=>by
  have h:=Z.within_any W (o.till) (c.tills) (by omega) (by omega);rw[ht]at h;exact h
 have HWi:Hid (∀W,Calls Tryz.prog 33 #[.int .i64 o.what,.int .i64 (c.cl:Int)] W fun e w'=>e=.returned (.int .i64 (k:Int))∧w'=W):=fun W=>by
  have h:=Z.within_any W (o.what) ((c.cl:Int)) (by omega) (by omega);rw[hk]at h;exact h
 have HWw:Hid (∀W,Calls Tryz.prog 33 #[.int .i64 o.way,.int .i64 4] W fun e w'=>e=.returned (.int .i64 0)∧w'=W):=fun W=>by
  have h:=Z.within_any W (o.way) (4) (by omega) (by omega);rw[hwy]at h;exact h
 have HCs:=Qaa (Qat w2 s (hs.below hb2) (Qbr hcf hsh))
 have HOc:Hid (∀W:World,W.heap[w.heap.size+1+1]?=some (.cells O 57 (0,0))→W.cell? ⟨w.heap.size+1+1,16,none⟩=some (.int .i64 o.what)∧W.cell? ⟨w.heap.size+1+1,17,none⟩=some (.int .i64 o.way)∧W.cell? ⟨w.heap.size+1+1,18,none⟩=some (.int .i64 o.till)∧W.cell? ⟨w.heap.size+1+1,19,none⟩=some (.int .i64 o.n)):=fun W h=>by
  refine⟨?_,?_,?_,?_⟩ <;> · rw[cRq h,←hO];rfl
 have HB2:=Qaa hb2;obtain⟨c0,c1,c2,c3,c4,c5⟩:=ac6 hs2;have HPre:Hid (∀w4 tb (r0:Sta),Below w2.heap.size w2 w4→w4.heap[tb]?=some (.cells r0.arr 42 (0,0))→w2.heap.size≤tb→Qac w2.heap.size w4 r0→Mvd w w4 (qC c) (qS s) O tb r0):=fun w4 tb r0 hb ht hlt ho=>⟨(hb.block _ (Qab hc2)).trans hc2,(hb.block _ (Qab hs2)).trans hs2,(hb.block _ (Qab ho2)).trans ho2,(hb.block _ (Qab hr2)).trans hr2,ht,by omega,by rw[←hsz2];exact ho,hb2.trans (hb.mono hb2.size)⟩
 have HSk:=Qaa (hs.below hb2);obtain⟨HT,HK⟩:=Qmj ht hk;rw[hO];clear hO hw2 hb2 hc2 hs2 ho2 hr2 hs hcf h0 h0c ht hk hwy;go_enter Tryz.func47,Tryz.ntmps47;go_upto_region 1 with (fail);rw[HW2.out];go_upto_region 2 with (first | (go_at_call 15;refine HCs.out.mono ?_;rintro e1 w3 ⟨r0,rfl,hd0,ho0,hb3⟩;obtain⟨HD0,HO0,HB3⟩:=Qmk hd0 ho0 hb3;have HSt:=Qaa (run_storeAt_new (P:=Tryz.prog) w3 42 qs r0.arr Tryz.sizeS rfl (by simp[Sta.arr,Value.oneCell']));clear hd0 ho0 hb3 c0 c1 c2 c3 c4 c5) | ((with_reducible refine gsq 42 8 ?_);refine Z.lp_store (t:=42) (x:=.tmp 8) (some ⟨w3.heap.size,0,none⟩) (.agg r0.arr) rfl rfl HSt.out ?_));have hT4:=hNq w3 (.cells r0.arr 42);have hb4:Below w3.heap.size w3 (w3.alloc (.cells r0.arr 42)):=bR.alloc (Va _) _;have HSr:Hid (Shp c r0):=Qc2 HSh.out HSk.out HO0.out HD0.out;have HGn:Hid (QcX s→QcX r0):=QbJ (Vl StP.gen HD0.out);have HM4:=Qaa (HPre.out _ _ r0 (HB3.out.trans (hb4.mono HB3.out.size)) hT4 HB3.out.size (HO0.out.below hb4));obtain⟨w4,hw4⟩:=exq (w3.alloc (.cells r0.arr 42));rw[hw4]at HM4 ⊢;obtain⟨tb,htb⟩:=exq w3.heap.size;rw[htb]at HM4 ⊢;clear hw4 htb hT4 hb4 HPre HSt;obtain⟨t0,t1,t2,t3,t4,t5⟩:=ac6 HM4.out.xb;obtain⟨d0,d1,-,-,-,-,-,-,-⟩:=ac9 HM4.out.cb;obtain⟨o0,o1,o2,o3⟩:=HOc.out w4 HM4.out.ob;go_upto_region 3 with (first | (go_at_call 33;refine(HWt.out _).mono ?_;rintro e w9 ⟨rfl,h9⟩;rw[h9];clear h9 w9) | fail);go_upto_region 4 with (first | (go_at_call 33;refine(HWi.out _).mono ?_;rintro e w9 ⟨rfl,h9⟩;rw[h9];clear h9 w9) | fail);obtain⟨P,hP⟩:∃P,r0.pools[k]?=some P:=⟨_,gE (by rw[HM4.out.own.pn];have:=HSr.out.pn;omega)⟩;obtain⟨l,hl⟩:∃l,P.hs[t]?=some l:=⟨_,gE (by rw[HM4.out.own.hlen P (mG hP)];have:=HSr.out.hl P (mG hP);omega)⟩;obtain⟨g,eg,hgB,⟨G,hG⟩,hfz,hcg,hst⟩:=HM4.out.own.setP hP;obtain⟨gh,egh,hghB,⟨Gh,hGh⟩,hfh,hch,-⟩:=HM4.out.own.setH hP hl;have p0:=hcg 0 _ rfl;have p1:=hcg 1 _ rfl;have p2:=hcg 2 _ rfl;have p3:=hcg 3 _ rfl;rw[Vr]at p0;rw[egh]at p3;rw[eg]at t1;have k0:(0:Int)≤(k:Int):=by omega
 have k1:(k:Int)<(r0.pn:Int):=by have:=HSr.out.pn;omega
 have u0:(0:Int)≤(t:Int):=by omega
 have u1:(t:Int)<(P.hl:Int):=by have:=HSr.out.hl P (mG hP);omega
 have g1:¬g=tb:=by rintro rfl;have h1:=HM4.out.xb;rw[hG]at h1;cases h1
 have g2:¬tb=g:=fun e=>g1 e.symm
 have g3:¬g=w.heap.size+1+1:=by omega
 have g4:¬w.heap.size+1+1=g:=by omega
 have j1:¬gh=tb:=by rintro rfl;have h1:=HM4.out.xb;rw[hGh]at h1;cases h1
 have j2:¬tb=gh:=fun e=>j1 e.symm
 have j3:¬gh=w.heap.size+1+1:=by omega
 have j4:¬w.heap.size+1+1=gh:=by omega
 have j5:¬gh=g:=by rintro rfl;rw[hG]at hGh;cases hGh
 have j6:¬g=gh:=fun e=>j5 e.symm
 have b1:¬g=w4.heap.size:=by have:=Qab hG;omega
 have b2:¬w4.heap.size=g:=fun e=>b1 e.symm
 have b3:¬gh=w4.heap.size:=by have:=Qab hGh;omega
 have b4:¬w4.heap.size=gh:=fun e=>b3 e.symm
 have b5:¬tb=w4.heap.size:=by have:=Qab HM4.out.xb;omega
 have b6:¬w.heap.size+1+1=w4.heap.size:=by have:=Qab HM4.out.ob;omega
 obtain⟨pv,f0,f1,php,phl,phc,phs⟩:=P;obtain⟨l0,l1⟩:=l;dsimp only at p0 p1 p2 p3 u1 egh;obtain⟨HPg,HLg,HEg,HEgh⟩:=hd4 hP hl eg egh;clear hP hl hfz hst hfh hcg hch eg egh hG hGh;go_upto_region 7 with (first | (go_at_call 33;refine(HWw.out _).mono ?_;rintro e w9 ⟨rfl,h9⟩;rw[h9];clear h9 w9) | fail);obtain⟨w5,hw5⟩:=exq (w4.alloc (.cells #[.int .i64 pv,.int .i64 f0,.int .i64 f1,.slice (some ⟨gh,0,none⟩) phl phc] 121));have HPb:Hid (w5.heap[w4.heap.size]?=some (.cells #[.int .i64 pv,.int .i64 f0,.int .i64 f1,.slice (some ⟨gh,0,none⟩) phl phc] 121 (0,0))):=by show _=_;rw[←hw5];exact hNq _ _
 have HM5:Hid (Mvd w w5 (qC c) (qS s) O tb r0):=by show Mvd _ _ _ _ _ _ _;rw[←hw5];exact HM4.out.below (bR.alloc (Va _) _)
 rw[hw5];obtain⟨pb,hpb⟩:=exq w4.heap.size;rw[hpb]at HPb b1 b2 b3 b4 b5 b6 ⊢;clear hw5 hpb p0 p1 p2 p3 t0 t1 t2 t3 t4 t5 d0 d1 o0 o1 o2 o3;obtain⟨t0,t1,t2,t3,t4,t5⟩:=ac6 HM5.out.xb;obtain⟨o0,o1,o2,o3⟩:=HOc.out w5 HM5.out.ob;obtain⟨r0b,r1b,r2b,r3b⟩:=ac4 HPb.out;obtain⟨g_,eg_,hgB_,⟨G,hG⟩,hfz,hcg,hst⟩:=HM5.out.own.setP HPg.out;obtain rfl:g=g_:=by have h1:=eg_;have h2:=HEg.out;rw[h2]at h1;cases h1;rfl
 obtain⟨gh_,egh_,hghB_,⟨Gh,hGh⟩,hfh,hch,hsth⟩:=HM5.out.own.setH HPg.out HLg.out;obtain rfl:gh=gh_:=by have h1:=egh_;have h2:=HEgh.out;dsimp only at h1;rw[h2]at h1;cases h1;rfl
 rw[HEg.out]at t1;have q0:=hch 0 _ rfl;have qz:=hfh (t*2+0);have fz:=hfz (k*4+1);have f_:=hcg 1 _ rfl;rw[Vr]at q0 qz;obtain⟨ng,hng⟩:=exq (IntKind.i64.wrap (-l0));obtain⟨v0,hv0⟩:=exq (IntKind.i64.wrap (f0 - o.n));obtain⟨v1,hv1⟩:=exq (IntKind.i64.wrap (l0+o.n));by_cases qa:f0<o.n
 ·skip
  refine Vi ?_;refine Vf (S:=(fun w'=>w'.cell? ⟨w.heap.size+1+1,19,none⟩=some (.int .i64 o.n)∧w'.cell? ⟨pb,1,none⟩=some (.int .i64 f0)∧w'.cell? ⟨pb,3,none⟩=some (.slice (some ⟨gh,0,none⟩) phl phc)∧w'.cell? ⟨gh,t*2,none⟩=some (.int .i64 l0))) (by kernel_rfl) (by go_keep) (fun hHeld=>?_);refine tkk 0 ?_;refine tkk 1 ?_;refine tkk 2 ?_;refine tkk 3 ?_;refine tkk 4 ?_;refine tkk 5 ?_;refine tkk 6 ?_;refine tkk 7 ?_;refine tku 8 ?_;refine tku 9 ?_;refine tku 10 ?_;refine tku 11 ?_;refine tku 12 ?_;refine tku 13 ?_;refine tku 14 ?_;refine tku 15 ?_;refine tku 16 ?_;refine tku 17 ?_;refine tku 18 ?_;refine rdy 19 (fun KK hKK=>?_);go_simp;refine hKK.out _ _ (by(try dsimp only);go_keep) (fun hHeld=>?_);clear hKK KK;try simp only[Act.put,qzs,qz0,qz1]
  refine Vp (by kernel_rfl) (Vj ?_) _;obtain⟨w6,hw6⟩:=exq w5.drew;have HMe:Hid (Mvd w w6 (qC c) (qS s) O tb r0):=by show Mvd _ _ _ _ _ _ _;rw[←hw6];exact HM5.out.below (bR.drew)
  rw[hw6];clear hw6 t0 t1 t2 t3 t4 t5 o0 o1 o2 o3 r0b r1b r2b r3b q0 qz fz f_ hG hGh hfz hcg hst hfh hch hsth eg_ egh_ hgB_ hghB_;have HSt8:=Qaa (Z.storeAt_row (P:=Tryz.prog) (c':=(qS s)) HMe.out.rb Tryz.sizeS rfl (by simp[Value.oneCell']));obtain⟨c0,c1,c2,c3,c4,c5⟩:=ac6 HMe.out.sb;go_wp2_with (first | ((with_reducible refine gsq 42 6 ?_);refine Z.lp_store (t:=42) (x:=.tmp 6) (some ⟨w.heap.size+1+1+1,0,none⟩) (.agg (qS s)) rfl rfl HSt8.out ?_) | fail)
  refine Vg (QaY rfl rfl (HMe.out.told _).1 Tryz.underlying42 rfl Tryz.sizeS) rfl ?_;exact⟨_,false,rfl,rfl,by simp[Value.oneCell'],fun h=>(by cases h),(HMe.out.told _).2.2⟩
 by_cases qb:o.n<ng
 ·skip
  refine Vi ?_;refine Vf (S:=(fun w'=>w'.cell? ⟨w.heap.size+1+1,19,none⟩=some (.int .i64 o.n)∧w'.cell? ⟨pb,1,none⟩=some (.int .i64 f0)∧w'.cell? ⟨pb,3,none⟩=some (.slice (some ⟨gh,0,none⟩) phl phc)∧w'.cell? ⟨gh,t*2,none⟩=some (.int .i64 l0))) (by kernel_rfl) (by go_keep) (fun hHeld=>?_);refine tkk 0 ?_;refine tkk 1 ?_;refine tkk 2 ?_;refine tkk 3 ?_;refine tkk 4 ?_;refine tkk 5 ?_;refine tkk 6 ?_;refine tkk 7 ?_;refine tkk 8 ?_;refine tkk 9 ?_;refine tkk 10 ?_;refine tkk 11 ?_;refine tkk 12 ?_;refine tkk 13 ?_;refine tkk 14 ?_;refine tkk 15 ?_;refine tkk 16 ?_;refine tkk 17 ?_;refine tkk 18 ?_;refine rdy 19 (fun KK hKK=>?_);go_simp;refine hKK.out _ _ (by(try dsimp only);go_keep) (fun hHeld=>?_);clear hKK KK;try simp only[Act.put,qzs,qz0,qz1]
  refine Vp (by kernel_rfl) (Vj ?_) _;obtain⟨w6,hw6⟩:=exq w5.drew;have HMe:Hid (Mvd w w6 (qC c) (qS s) O tb r0):=by show Mvd _ _ _ _ _ _ _;rw[←hw6];exact HM5.out.below (bR.drew)
  rw[hw6];clear hw6 t0 t1 t2 t3 t4 t5 o0 o1 o2 o3 r0b r1b r2b r3b q0 qz fz f_ hG hGh hfz hcg hst hfh hch hsth eg_ egh_ hgB_ hghB_;have HSt8:=Qaa (Z.storeAt_row (P:=Tryz.prog) (c':=(qS s)) HMe.out.rb Tryz.sizeS rfl (by simp[Value.oneCell']));obtain⟨c0,c1,c2,c3,c4,c5⟩:=ac6 HMe.out.sb;go_wp2_with (first | ((with_reducible refine gsq 42 6 ?_);refine Z.lp_store (t:=42) (x:=.tmp 6) (some ⟨w.heap.size+1+1+1,0,none⟩) (.agg (qS s)) rfl rfl HSt8.out ?_) | fail)
  refine Vg (QaY rfl rfl (HMe.out.told _).1 Tryz.underlying42 rfl Tryz.sizeS) rfl ?_;exact⟨_,false,rfl,rfl,by simp[Value.oneCell'],fun h=>(by cases h),(HMe.out.told _).2.2⟩
 refine Vi ?_;refine Vf (S:=(fun w'=>w'.cell? ⟨w.heap.size+1+1,19,none⟩=some (.int .i64 o.n)∧w'.cell? ⟨pb,1,none⟩=some (.int .i64 f0)∧w'.cell? ⟨pb,3,none⟩=some (.slice (some ⟨gh,0,none⟩) phl phc)∧w'.cell? ⟨gh,t*2,none⟩=some (.int .i64 l0))) (by kernel_rfl) (by go_keep) (fun hHeld=>?_);refine tkk 0 ?_;refine tkk 1 ?_;refine tkk 2 ?_;refine tkk 3 ?_;refine tkk 4 ?_;refine tkk 5 ?_;refine tkk 6 ?_;refine tkk 7 ?_;refine tkk 8 ?_;refine tkk 9 ?_;refine tkk 10 ?_;refine tkk 11 ?_;refine tkk 12 ?_;refine tkk 13 ?_;refine tkk 14 ?_;refine tkk 15 ?_;refine tkk 16 ?_;refine tkk 17 ?_;refine tkk 18 ?_;refine rdy 19 (fun KK hKK=>?_);go_simp;refine hKK.out _ _ (by(try dsimp only);go_keep) (fun hHeld=>?_);clear hKK KK;try simp only[Act.put,qzs,qz0,qz1]
 refine Vp (by kernel_rfl) (Vj ?_) _;go_upto_region 9 with (fail);obtain⟨w6,hw6⟩:=exq w5.drew;have HM6:Hid (Mvd w w6 (qC c) (qS s) O tb r0):=by show Mvd _ _ _ _ _ _ _;rw[←hw6];exact HM5.out.below (bR.drew)
 have HPb6:Hid (w6.heap[pb]?=some (.cells #[.int .i64 pv,.int .i64 f0,.int .i64 f1,.slice (some ⟨gh,0,none⟩) phl phc] 121 (0,0))):=by show _=_;rw[←hw6];exact HPb.out
 rw[hw6];clear hw6 qa qb t0 t1 t2 t3 t4 t5 o0 o1 o2 o3 r0b r1b r2b r3b q0 qz fz f_ hG hGh hfz hcg hst hfh hch hsth eg_ egh_ hgB_ hghB_;obtain⟨t0,t1,t2,t3,t4,t5⟩:=ac6 HM6.out.xb;obtain⟨o0,o1,o2,o3⟩:=HOc.out w6 HM6.out.ob;obtain⟨r0b,r1b,r2b,r3b⟩:=ac4 HPb6.out;obtain⟨g_,eg_,hgB_,⟨G,hG⟩,hfz,hcg,hst⟩:=HM6.out.own.setP HPg.out;obtain rfl:g=g_:=by have h1:=eg_;have h2:=HEg.out;rw[h2]at h1;cases h1;rfl
 obtain⟨gh_,egh_,hghB_,⟨Gh,hGh⟩,hfh,hch,hsth⟩:=HM6.out.own.setH HPg.out HLg.out;obtain rfl:gh=gh_:=by have h1:=egh_;have h2:=HEgh.out;dsimp only at h1;rw[h2]at h1;cases h1;rfl
 rw[HEg.out]at t1;have q0:=hch 0 _ rfl;have qz:=hfh (t*2+0);have fz:=hfz (k*4+1);have f_:=hcg 1 _ rfl;rw[Vr]at q0 qz;have HM7:Hid (Mvd w (w6.setCell ⟨g,k*4+1,none⟩ (.int .i64 v0)).drew (qC c) (qS s) O tb (r0.upP k (⟨pv,v0,f1,php,phl,phc,phs⟩:Pl))):=(HM6.out.set (r':=r0.upP k (⟨pv,v0,f1,php,phl,phc,phs⟩:Pl)) hG (Or.inl rfl) hgB_ _ _ rfl (hst 1 (⟨pv,v0,f1,php,phl,phc,phs⟩:Pl) (.int .i64 v0) (by omega) rfl rfl rfl rfl rfl)).below (bR.drew);have HPb7:Hid ((w6.setCell ⟨g,k*4+1,none⟩ (.int .i64 v0)).drew.heap[pb]?=some (.cells #[.int .i64 pv,.int .i64 f0,.int .i64 f1,.slice (some ⟨gh,0,none⟩) phl phc] 121 (0,0))):=by show (w6.setCell _ _).heap[pb]?=_;rw[Ve _ _ _ _ (by show pb≠g;exact b2)];exact HPb6.out
 have hP1:Hid ((r0.upP k (⟨pv,v0,f1,php,phl,phc,phs⟩:Pl)).pools[k]?=some (⟨pv,v0,f1,php,phl,phc,phs⟩:Pl)):=Vn (Vd.1 HPg.out).1;refine Vi ?_;refine Vf (S:=(fun w'=>w'.cell? ⟨tb,1,none⟩=some (.slice (some ⟨g,0,none⟩) r0.pn r0.pc)∧w'.cell? ⟨pb,1,none⟩=some (.int .i64 f0)∧w'.cell? ⟨w.heap.size+1+1,19,none⟩=some (.int .i64 o.n))) (by kernel_rfl) (by go_keep) (fun hHeld=>?_);refine tkk 0 ?_;refine tkk 1 ?_;refine tkk 2 ?_;refine tkk 3 ?_;refine tkk 4 ?_;refine tkk 5 ?_;refine tkk 6 ?_;refine tkk 7 ?_;refine tkk 8 ?_;refine tkk 9 ?_;refine tkk 10 ?_;refine tkk 11 ?_;refine tkk 12 ?_;refine tkk 13 ?_;refine rdy 14 (fun KK hKK=>?_);go_simp;refine hKK.out _ _ (by(try dsimp only);go_keep) (fun hHeld=>?_);clear hKK KK;try simp only[Act.put,qzs,qz0,qz1]
 refine Vp (by kernel_rfl) (Vj ?_) _;go_upto_region 10 with (fail);obtain⟨w7,hw7⟩:=exq ((w6.setCell ⟨g,k*4+1,none⟩ (.int .i64 v0)).drew);rw[hw7]at HM7 HPb7 ⊢;clear hw7 t0 t1 t2 t3 t4 t5 o0 o1 o2 o3 r0b r1b r2b r3b q0 qz fz f_ hG hGh hfz hcg hst hfh hch hsth eg_ egh_ hgB_ hghB_;obtain⟨t0,t1,t2,t3,t4,t5⟩:=ac6 HM7.out.xb;obtain⟨o0,o1,o2,o3⟩:=HOc.out w7 HM7.out.ob;obtain⟨r0b,r1b,r2b,r3b⟩:=ac4 HPb7.out;obtain⟨g_,eg_,hgB_,⟨G,hG⟩,hfz,hcg,hst⟩:=HM7.out.own.setP hP1.out;obtain rfl:g=g_:=by have h1:=eg_;have h2:=HEg.out;change r0.pp=_ at h1;rw[h2]at h1;cases h1;rfl
 obtain⟨gh_,egh_,hghB_,⟨Gh,hGh⟩,hfh,hch,hsth⟩:=HM7.out.own.setH hP1.out HLg.out;obtain rfl:gh=gh_:=by have h1:=egh_;have h2:=HEgh.out;dsimp only at h1;rw[h2]at h1;cases h1;rfl
 rw[show (r0.upP k (⟨pv,v0,f1,php,phl,phc,phs⟩:Pl)).pp=r0.pp from rfl,HEg.out]at t1;have q0:=hch 0 _ rfl;have qz:=hfh (t*2+0);have fz:=hfz (k*4+1);have f_:=hcg 1 _ rfl;rw[Vr]at q0 qz;have p3:=hcg 3 _ rfl;dsimp only at p3;rw[HEgh.out]at p3;have HM8:Hid (Mvd w (w7.setCell ⟨gh,t*2,none⟩ (.int .i64 v1)).drew (qC c) (qS s) O tb ((r0.upP k (⟨pv,v0,f1,php,phl,phc,phs⟩:Pl)).upP k ({ (⟨pv,v0,f1,php,phl,phc,phs⟩:Pl) with hs:=phs.set t ⟨v1,l1⟩ } : Pl))):=(HM7.out.set (r':=(r0.upP k (⟨pv,v0,f1,php,phl,phc,phs⟩:Pl)).upP k ({ (⟨pv,v0,f1,php,phl,phc,phs⟩:Pl) with hs:=phs.set t ⟨v1,l1⟩ } : Pl)) hGh (Or.inr (Or.inl rfl)) hghB_ _ _ rfl (hsth 0 ⟨v1,l1⟩ (.int .i64 v1) (by omega) rfl)).below (bR.drew);have HShe:Hid (Shp c ((r0.upP k (⟨pv,v0,f1,php,phl,phc,phs⟩:Pl)).upP k ({ (⟨pv,v0,f1,php,phl,phc,phs⟩:Pl) with hs:=phs.set t ⟨v1,l1⟩ } : Pl))):=QgG (QgG HSr.out HPg.out rfl) hP1.out rfl;have k1:(k:Int)<((r0.upP k (⟨pv,v0,f1,php,phl,phc,phs⟩:Pl)).pn:Int):=k1;refine Vi ?_;refine Vf (S:=(fun w'=>w'.cell? ⟨tb,1,none⟩=some (.slice (some ⟨g,0,none⟩) (r0.upP k (⟨pv,v0,f1,php,phl,phc,phs⟩:Pl)).pn (r0.upP k (⟨pv,v0,f1,php,phl,phc,phs⟩:Pl)).pc)∧w'.cell? ⟨g,k*4+3,none⟩=some (.slice (some ⟨gh,0,none⟩) phl phc)∧w'.cell? ⟨pb,3,none⟩=some (.slice (some ⟨gh,0,none⟩) phl phc)∧w'.cell? ⟨w.heap.size+1+1,19,none⟩=some (.int .i64 o.n))) (by kernel_rfl) (by go_keep) (fun hHeld=>?_);refine tkk 0 ?_;refine tkk 1 ?_;refine tkk 2 ?_;refine tkk 3 ?_;refine tkk 4 ?_;refine tkk 5 ?_;refine tkk 6 ?_;refine tkk 7 ?_;refine tkk 8 ?_;refine tkk 9 ?_;refine tkk 10 ?_;refine tkk 11 ?_;refine tkk 12 ?_;refine tkk 13 ?_;refine tkk 15 ?_;refine tkk 16 ?_;refine tkk 18 ?_;refine rdy 14 (fun KK hKK=>?_);go_simp;refine hKK.out _ _ (by(try dsimp only);go_keep) (fun hHeld=>?_);clear hKK KK;try simp only[Act.put,qzs,qz0,qz1]
 refine tkk 17 ?_;refine tkk 19 ?_;refine rdy 20 (fun KK hKK=>?_);go_simp;refine hKK.out _ _ (by(try dsimp only);go_keep) (fun hHeld=>?_);clear hKK KK;try simp only[Act.put,qzs,qz0,qz1]
 refine Vp (by kernel_rfl) (Vj ?_) _;go_upto_region 17 with (fail);obtain⟨w9,hw9⟩:=exq ((w7.setCell ⟨gh,t*2,none⟩ (.int .i64 v1)).drew);obtain⟨r2,hr2⟩:=exq ((r0.upP k (⟨pv,v0,f1,php,phl,phc,phs⟩:Pl)).upP k ({ (⟨pv,v0,f1,php,phl,phc,phs⟩:Pl) with hs:=phs.set t ⟨v1,l1⟩ } : Pl));have HGe:Hid (QcX s→QcX ((r0.upP k (⟨pv,v0,f1,php,phl,phc,phs⟩:Pl)).upP k ({ (⟨pv,v0,f1,php,phl,phc,phs⟩:Pl) with hs:=phs.set t ⟨v1,l1⟩ } : Pl))):=fun h=>QbJ rfl (HGn.out h)
 rw[hr2]at HM8 HShe HGe;rw[hw9]at HM8 ⊢;have HMe:=HM8;clear hw9 hr2 p3 t0 t1 t2 t3 t4 t5 o0 o1 o2 o3 r0b r1b r2b r3b q0 qz fz f_ hG hGh hfz hcg hst hfh hch hsth eg_ egh_ hgB_ hghB_;have HMd:Hid (Mvd w w9.drew (qC c) (qS s) O tb r2):=HMe.out.below (bR.drew);have HRt:=Qaa (Qbq w9.drew c cs r2 (HCf.out.below HMd.out.bel) HMd.out.own.ok (Qbr HCf.out HShe.out));refine Vi ?_;refine Vf (S:=(fun W=>W.heap[tb]?=some (.cells (qS r2) 42 (0,0))∧W.heap[w.heap.size]?=some (.cells (qC c) 34 (0,0)))) (by kernel_rfl) ⟨HMd.out.xb,HMd.out.cb⟩ (fun hHeld=>?_);refine VM (i:=0) (oi:=_) (v:=.agg (qS r2)) rfl (by kernel_rfl) (by kernel_rfl) (by kernel_rfl) (fun _ _ _ h=>h) (Or.inl ⟨by kernel_rfl,fun W hW=>Qap W 42 (.tmp 8) rfl (tb) (qS r2) rfl (lr42 hW.1 Tryz.sizeS)⟩) hHeld ?_;try simp only[Act.put,qzg,qzh,qzi,qzs,qz0,qz1]
 refine VM (i:=1) (oi:=_) (v:=.agg (qC c)) rfl (by kernel_rfl) (by kernel_rfl) (by kernel_rfl) (fun _ _ _ h=>h) (Or.inl ⟨by kernel_rfl,fun W hW=>Qap W 34 (.tmp 3) rfl (w.heap.size) (qC c) rfl (lr34 hW.2 Tryz.sizeC)⟩) hHeld ?_;try simp only[Act.put,qzg,qzh,qzi,qzs,qz0,qz1]
 refine VM (i:=2) (oi:=_) (v:=.agg (qS r2)) rfl (by kernel_rfl) (by kernel_rfl) (by kernel_rfl) (fun _ _ _ h=>h) (Or.inl ⟨by kernel_rfl,fun W hW=>Qap W 42 (.tmp 8) rfl (tb) (qS r2) rfl (lr42 hW.1 Tryz.sizeS)⟩) hHeld ?_;try simp only[Act.put,qzg,qzh,qzi,qzs,qz0,qz1]
 refine rdy 3 (fun KK hKK=>?_);go_simp
 (go_at_call 99;refine HRt.out.mono ?_;rintro e1 w8 ⟨⟨b,rfl,hbI⟩,hb8⟩;have HM8:Hid (Mvd w w8 (qC c) (qS s) O tb r2):=HMd.out.below hb8;have HbI:=Qaa hbI;clear hb8 hbI)
 refine hKK.out _ _ (by(try dsimp only);exact⟨HM8.out.xb,HM8.out.cb⟩) (fun hHeld=>?_);clear hKK KK;try simp only[Act.put,qzg,qzh,qzi,qzs,qz0,qz1]
 refine rdy 4 (fun KK hKK=>?_);rw[if_pos (by kernel_rfl)];refine wp_store_row 42 (.tmp 6) (.tmp 130) rfl (w.heap.size+1+1+1) (qS r2) rfl rfl 42 qs HM8.out.rb Tryz.sizeS rfl (by simp[Value.oneCell']) ?_;refine hKK.out _ _ (by(try dsimp only);exact⟨(Vz _ _ _ _ (by have:=HM8.out.tlt;omega)).trans HM8.out.xb,(Vz _ _ _ _ (by omega)).trans HM8.out.cb⟩) (fun hHeld=>?_);clear hKK KK;try simp only[Act.put,qzg,qzh,qzi,qzs,qz0,qz1]
 refine rdy 5 (fun KK hKK=>?_);go_simp;refine hKK.out _ _ (by(try dsimp only);exact⟨(Vz _ _ _ _ (by have:=HM8.out.tlt;omega)).trans HM8.out.xb,(Vz _ _ _ _ (by omega)).trans HM8.out.cb⟩) (fun hHeld=>?_);clear hKK KK;try simp only[Act.put,qzg,qzh,qzi,qzs,qz0,qz1]
 refine Vp (by kernel_rfl) (Vj ?_) _;go_wp2;refine Vg (QaY rfl rfl (HM8.out.told _).1 Tryz.underlying42 rfl Tryz.sizeS) rfl ?_;exact⟨_,b,rfl,rfl,by simp[Value.oneCell'],fun h=>⟨r2,rfl,(HM8.out.told _).2.1,HbI.out.1 h,HGe.out⟩,(HM8.out.told _).2.2⟩
end Go.Proofs.YtiogibfhafoapaaGreat
