import Derived.Laws.OwnMore
import Derived.Test.YtiogibfhafoapaaGreatZV
import Derived.Test.YtiogibfhafoapaaGreatZM
import Derived.Test.YtiogibfhafoapaaGreatRwO
import Derived.Test.YtiogibfhafoapaaGreatAbZ
import Derived.Test.YtiogibfhafoapaaGreatDcR
import Derived.Deep.RegionHeld3
import Derived.Lib.QuietBelow
import Derived.Lib.SmallJoins
set_option maxRecDepth 100000
set_option maxHeartbeats 8000000
set_option linter.unusedSimpArgs false
set_option linter.unusedVariables false
namespace Go.Proofs.YtiogibfhafoapaaGreat.Z
open Go.RowKit
theorem eqRights_any (w:World) (p q:Option Addr) (n m cap cap':Nat) (xs ys:List Tri) (hn:xs.length=n) (hm:ys.length=m) (hnl:n≤140737488355328) (hc:Cel w p 3 (xs.map tric)) (hd:Cel w q 3 (ys.map tric)) (A:Bool) (hA:A=true↔xs=ys) :
  Calls Tryz.prog 51 #[.slice p n cap,.slice q m cap'] w fun e w'=>e=.returned (.bool A)∧Below w.heap.size w w':=by
 have HC:=hide hc;have HD:=hide hd;have HA:=hide hA;clear hc hd hA;by_cases hl:n=m
 ·subst hl
  go_enter Tryz.func51,Tryz.ntmps51;go_wp2;go_loopw [5] (fun i wr=>∃j:Nat,j≤n∧i=.int .i64 j∧Hid (Below w.heap.size w wr)∧Hid (xs.take j=ys.take j)) (fun i _=>n - (intOf i).toNat);case atStart=>exact⟨0,Nat.zero_le _,rfl,Below.refl _ _,rfl⟩
  case round =>
   obtain⟨j,hj,rfl,HBr,HT⟩:=hrel;by_cases hlt:j<n
   ·have hlt':(j:Int)<(n:Int):=by omega
    have i0:(0:Int)≤(j:Int):=by omega
    obtain⟨x,hx⟩:∃x,xs[j]?=some x:=⟨_,List.getElem?_eq_getElem (by omega)⟩;obtain⟨y,hy⟩:∃y,ys[j]?=some y:=⟨_,List.getElem?_eq_getElem (by omega)⟩;obtain⟨b,o,rfl,hbl,hcl⟩:=HC.out.get (i:=j) (r:=tric x) (by simp[hx]);obtain⟨b',o',rfl,hbl',hcl'⟩:=HD.out.get (i:=j) (r:=tric y) (by simp[hy]);have f:∀i v,(tric x)[i]?=some v→wr.cell? ⟨b,o+j*3+i,none⟩=some v:=fun i v hv=>(HBr.out.cell (p:=⟨b,o+j*3+i,none⟩) hbl).trans (hcl i v hv)
    have f':∀i v,(tric y)[i]?=some v→wr.cell? ⟨b',o'+j*3+i,none⟩=some v:=fun i v hv=>(HBr.out.cell (p:=⟨b',o'+j*3+i,none⟩) hbl').trans (hcl' i v hv)
    have a0:=f 0 _ rfl;have a1:=f 1 _ rfl;have a2:=f 2 _ rfl;have b0:=f' 0 _ rfl;have b1:=f' 1 _ rfl;have b2:=f' 2 _ rfl;rw[Nat.add_zero]at a0 b0;obtain⟨xa,xb,xn⟩:=x;obtain⟨ya,yb,yn⟩:=y;simp only at a0 a1 a2 b0 b1 b2;clear f f' hcl hcl';have HBd:Hid (Below w.heap.size w wr.drew):=HBr.out.drew;by_cases he:(⟨xa,xb,xn⟩:Tri)=⟨ya,yb,yn⟩
    ·cases he
     have HT2:Hid (xs.take (j+1)=ys.take (j+1)):=by show _=_;rw[List.take_add_one,List.take_add_one,hx,hy,HT.out]
     go_upto_region 6 with (fail);go_region;go_wp2;go_roundw;case rel=>exact⟨j+1,by omega,by go_num,HBd,HT2⟩
     case measure=>simp[intOf];omega
    ·have HF:Hid (A=false):=by
      show A=false
      cases hAA:A with
      | false=>rfl
      | true=>exact(ne_at hx hy he (HA.out.1 hAA)).elim
     rcases tri_eq he with h1 | ⟨h1,h2⟩ | ⟨h1,h3,h2⟩
     ·go_upto_region 6 with (fail)
      go_region;all_goals go_wp2
      all_goals go_ret
      all_goals exact⟨retB HF.out,HBd.out⟩
     ·subst h1
      go_upto_region 6 with (fail);go_region;all_goals go_wp2
      all_goals go_ret
      all_goals exact⟨retB HF.out,HBd.out⟩
     ·subst h1
      subst h3;go_upto_region 6 with (fail);go_region;all_goals go_wp2
      all_goals go_ret
      all_goals exact⟨retB HF.out,HBd.out⟩
   ·have e1:¬(j:Int)<(n:Int):=by omega
    have HT':Hid (A=true):=HA.out.2 (by have h:=HT.out;rw[List.take_of_length_le (by omega),List.take_of_length_le (by omega)]at h;exact h);go_wp2;go_ret;exact⟨retB HT'.out,HBr.out⟩
 ·have hl':¬(n:Int)=(m:Int):=by omega
  have HF:Hid (A=false):=by
   show A=false
   cases hAA:A with
   | false=>rfl
   | true=>exact(hl (by rw[←hn,←hm,HA.out.1 hAA])).elim
  go_enter Tryz.func51,Tryz.ntmps51;go_wp2;go_ret;exact⟨retB HF.out,Below.refl _ _⟩
end Go.Proofs.YtiogibfhafoapaaGreat.Z
namespace Go.Proofs.YtiogibfhafoapaaGreat
open Go.RowKit
open Z (Sli SlOk Acd AcdOk)
structure AcWf (a:Acd):Prop where
 lines:∀x∈a.lines.xs,LinWf x
 other:∀x∈a.other.xs,LinWf x
def clampT (s:Sta) (a:Acd):Int × List Lin × List Tri :=
 if (cutT s (a.lines.xs.map triOf)).2.length+(a.sets.xs.filter s.want).length=0 then (3,[],[]) else (2,(cutT s (a.lines.xs.map triOf)).2,(a.sets.xs.filter s.want).map s.raise)
def mergeT (s:Sta) (a:Acd):Int × List Lin × List Tri :=
 if a.mg=1 then clampT s a
 else if a.mg=2 then (if s.fits a.other.xs then (2,a.other.xs,[]) else (3,[],[]))
 else if a.mg=3 then (if s.fits a.lines.xs && s.opens a.sets.xs then (2,a.lines.xs,a.sets.xs.map s.raise) else (3,[],[]))
 else (3,[],[])
def writeT (s:Sta) (a:Acd):Int × List Lin × List Tri :=
 if a.sure then (if s.keeps a.till a.lines.xs then (1,a.lines.xs,[]) else (3,[],[]))
 else if s.guards a.guards.xs && s.fits a.lines.xs && s.opens a.sets.xs then (1,a.lines.xs,a.sets.xs.map s.raise) else mergeT s a
def doneT (b:Bool):Int:=if b then 5 else 3
def judgeT (s:Sta) (a:Acd):Int × List Lin × List Tri × Int :=
 if a.kind=1 then ((writeT s a).1,(writeT s a).2.1,(writeT s a).2.2,0)
 else if a.kind=2 then (4,[],[],min a.rd (min (s.free a.ra a.rb) (wrap64 (18014398509481984 - s.held a.till a.ra a.rb))))
 else if a.kind=3 then (doneT (decide (a.rd≤s.held a.till a.ra a.rb)),[],[],0)
 else if a.kind=4 then (doneT (decide (a.rd≤s.held a.till a.ra a.rb) && decide (a.rd≤wrap64 (18014398509481984 - s.held a.to a.ra a.rb))),[],[],0)
 else if a.kind=5 then (doneT (s.owes a.till a.gen && s.hasAll a.till a.rights.xs),[],[],0)
 else (0,[],[],0)
def TwoRows (B:Nat) (w:World) (v u:Value) (L:List Lin) (S:List Tri):Prop:=w.ownsRow B 132 2 v L.length (lcells L)∧w.ownsRow B 76 3 u S.length (rcells S)
theorem two_nil (B:Nat) (w:World):TwoRows B w (.slice none 0 0) (.slice none 0 0) [] []:=⟨⟨rfl,Or.inl ⟨rfl,rfl⟩⟩,⟨rfl,Or.inl ⟨rfl,rfl⟩⟩⟩
def MgP (B:Nat) (w0:World) (r:Int × List Lin × List Tri) (e:Ending) (w:World):Prop:=∃v u,e=.returned (.tuple #[.int .i64 r.1,v,u])∧TwoRows B w v u r.2.1 r.2.2∧Below B w0 w
def JgP (B:Nat) (w0:World) (r:Int × List Lin × List Tri × Int) (e:Ending) (w:World):Prop:=∃v u,e=.returned (.tuple #[.int .i64 r.1,v,u,.int .i64 r.2.2.2])∧TwoRows B w v u r.2.1 r.2.2.1∧Below B w0 w
theorem own_form {w:World} {B n s:Nat} {e:TypeId} {v:Value} {xs:List Value} (h:w.ownsRow B e s v n xs):∃a c,v=.slice a n c:=by
 rcases h.2 with ⟨rfl,rfl⟩ | ⟨g,cap,cur,rfl,_⟩
 ·exact⟨none,0,rfl⟩
 ·exact⟨_,_,rfl⟩
theorem own_below {W W':World} {B s n:Nat} {e:TypeId} {u:Value} {xs:List Value} (hr:W.ownsRow B e s u n xs) (hb:Below W.heap.size W W'):W'.ownsRow B e s u n xs:=Z.owns_keep hr hb
theorem rcells_cel {w:World} {B n:Nat} {a:Option Addr} {c:Nat} {e:TypeId} {xs:List Tri} (h:w.ownsRow B e 3 (.slice a n c) n (rcells xs)) (hl:xs.length=n):Cel w a 3 (xs.map tric):=by
 have hf:rcells xs=Z.flat tric xs:=by
  induction xs generalizing n with
  | nil=>rfl
  | cons x xs ih=>simp[rcells,Z.flat,tric]at *
 rw[hf]at h;exact Z.cel_row (f:=tric) (sz:=3) (fun _=>rfl) h hl
theorem two_boxes (w:World) (A B:Array Value) (t u:TypeId):∃w2,(w.alloc (.cells A t)).alloc (.cells B u)=w2∧Below w.heap.size w w2∧w2.heap[w.heap.size]?=some (.cells A t (0,0))∧w2.heap[w.heap.size+1]?=some (.cells B u (0,0)):=by
 obtain⟨w2,h1,h2,h3,h4⟩:=box_two w A t u B;exact⟨w2,h1,h2,h3,h4⟩
theorem merge_1 (w:World) (s:Sta) (hs:StaOk w s) (a:Acd) (ha:AcdOk w a) (hz:AcWf a) (m1:a.mg=1) :
  Calls Tryz.prog 162 #[.agg s.arr,.agg a.arr] w (MgP w.heap.size w (mergeT s a)):=by
 obtain⟨w2,hw2,hb2,hx2,hy2⟩:=two_boxes w s.arr a.arr 42 55;have HS2:Hid (∀W,Below w2.heap.size w2 W→StaOk W s):=fun W hb=>(hs.below hb2).below hb
 have HA2:Hid (∀W,Below w2.heap.size w2 W→AcdOk W a):=fun W hb=>(ha.below hb2).below hb
 have HX2:Hid (∀W,Below w2.heap.size w2 W→W.heap[w.heap.size]?=some (.cells s.arr 42 (0,0))):=fun W hb=>(hb.block _ (ac_lt hx2)).trans hx2
 have HY2:Hid (∀W,Below w2.heap.size w2 W→W.heap[w.heap.size+1]?=some (.cells a.arr 55 (0,0))):=fun W hb=>(hb.block _ (ac_lt hy2)).trans hy2
 have HZ:=hide hz;have HW2:=hide hw2;have HB2:=hide hb2;have HE:Hid (∀W,Below w2.heap.size w2 W→Below w.heap.size w W):=fun W hb=>hb2.trans (hb.mono hb2.size)
 have HD:Hid (∀W,Below w2.heap.size w2 W→Below w2.heap.size w2 W.drew):=fun W hb=>⟨hb.os,hb.tape,hb.output,hb.size,hb.block⟩
 have HR:Hid (Below w2.heap.size w2 w2):=Below.refl _ _;have HO:Hid (∀(W W':World) (B k n:Nat) (t:TypeId) (v:Value) (xs:List Value),Below w2.heap.size w2 W→W.ownsRow W.heap.size t k v n xs→W.ownsRow w.heap.size t k v n xs):=fun W W' B k n t v xs hb h=>owns_mono h (Nat.le_trans hb2.size hb.size)
 obtain⟨c0,c1,c2,c3,c4,c5⟩:=ac6 hx2;obtain⟨k0,k1,k2,k3,k4,k5,k6,k7,k8,k9,k10,k11,k12,k13,k14⟩:=ac15 hy2
 have HCt:Hid (∀W,Below w2.heap.size w2 W→Calls Tryz.prog 199 #[.agg s.arr,.slice a.lines.p a.lines.n a.lines.c] W fun e w'=>∃va n c,e=.returned (.slice va n c)∧n=(cutT s (a.lines.xs.map triOf)).2.length∧n≤4194304∧w'.ownsRow w.heap.size 132 2 (.slice va n c) n (lcells (cutT s (a.lines.xs.map triOf)).2)∧Below w2.heap.size w2 w'):=fun W hb=>(cut_gen W s (HS2.out W hb) a.lines.p a.lines.n a.lines.c a.lines.xs (HA2.out W hb).lines.len (by have:=(HA2.out W hb).lines.most;omega) HZ.out.lines (HA2.out W hb).lines.cel).mono fun _ _ ⟨v,he,hr,h⟩=>by
  obtain⟨va,c,rfl⟩:=own_form hr;have hl:=cutT_len s (a.lines.xs.map triOf);rw[List.length_map,(HA2.out W hb).lines.len]at hl;exact⟨va,_,c,he,rfl,Nat.le_trans hl (HA2.out W hb).lines.most,owns_mono hr (Nat.le_trans HB2.out.size hb.size),hb.trans (h.mono hb.size)⟩
 have HWa:Hid (∀W,Below w2.heap.size w2 W→Calls Tryz.prog 200 #[.agg s.arr,.slice a.sets.p a.sets.n a.sets.c] W fun e w'=>∃va n c,e=.returned (.slice va n c)∧n=(a.sets.xs.filter s.want).length∧n≤4194304∧Cel w' va 3 ((a.sets.xs.filter s.want).map tric)∧Below w2.heap.size w2 w'∧Below W.heap.size W w'):=fun W hb=>(wanted_gen W s (HS2.out W hb) a.sets.p a.sets.n a.sets.c a.sets.xs (HA2.out W hb).sets.len (by have:=(HA2.out W hb).sets.most;omega) (HA2.out W hb).sets.cel).mono fun _ _ ⟨v,he,hr,h⟩=>by
  obtain⟨va,c,rfl⟩:=own_form hr;have h1:=List.length_filter_le s.want a.sets.xs;have h2:=(HA2.out W hb).sets.len;have h3:=(HA2.out W hb).sets.most;exact⟨va,_,c,he,rfl,by omega,rcells_cel hr rfl,hb.trans (h.mono hb.size),h⟩
 have HRw:Hid (∀W va n c,Below w2.heap.size w2 W→n=(a.sets.xs.filter s.want).length→n≤4194304→Cel W va 3 ((a.sets.xs.filter s.want).map tric)→Calls Tryz.prog 161 #[.agg s.arr,.slice va n c] W fun e w'=>∃ua uc,e=.returned (.slice ua n uc)∧w'.ownsRow w.heap.size 76 3 (.slice ua n uc) n (rcells ((a.sets.xs.filter s.want).map s.raise))∧Below w2.heap.size w2 w'∧Below W.heap.size W w'):=fun W va n c hb hl hn hx=>(raised_gen W s (HS2.out W hb) va n c _ hl.symm (by omega) hx).mono fun _ _ ⟨v,he,hr,h⟩=>by
  obtain⟨ua,uc,rfl⟩:=own_form hr;exact⟨ua,uc,he,owns_mono hr (Nat.le_trans HB2.out.size hb.size),hb.trans (h.mono hb.size),h⟩
 have m1':(a.mg == 1)=true:=by simp[m1]
 have HM:mergeT s a=clampT s a:=by simp[mergeT,m1]
 rw[HM];clear HM;clear hw2 hb2 hx2 hy2 hs ha hz;go_enter Tryz.func162,Tryz.ntmps162;go_upto_region 1 with (fail);rw[HW2.out];go_upto_region 3 with (fail);go_region_held3 (fun w'=>w'.cell? ⟨w.heap.size,0,none⟩=some (.int .u64 s.pos)∧w'.cell? ⟨w.heap.size,1,none⟩=some (.slice s.pp s.pn s.pc)∧w'.cell? ⟨w.heap.size,2,none⟩=some (.slice s.rp s.rn s.rc)∧w'.cell? ⟨w.heap.size,3,none⟩=some (.slice s.lp s.ln s.lc)∧w'.cell? ⟨w.heap.size,4,none⟩=some (.slice s.gp s.gn s.gc)∧w'.cell? ⟨w.heap.size,5,none⟩=some (.slice s.op s.on s.oc)∧w'.cell? ⟨w.heap.size+1,4,none⟩=some (.slice a.lines.p a.lines.n a.lines.c)∧w'.cell? ⟨w.heap.size+1,6,none⟩=some (.slice a.sets.p a.sets.n a.sets.c)) (go_keep) (first | (go_at_call 199;refine(HCt.out _ (by first | exact HR.out | exact HD.out _ HR.out)).mono ?_;rintro e wA ⟨va,na,ca,rfl,hna,hla,hra,hbA⟩;have HNa:=hide hna;have HRa:=hide hra;clear hna hra;have HwA:=hide hbA;obtain⟨cwA0,cwA1,cwA2,cwA3,cwA4,cwA5⟩:=ac6 (HX2.out _ HwA.out);obtain⟨kwA0,kwA1,kwA2,kwA3,kwA4,kwA5,kwA6,kwA7,kwA8,kwA9,kwA10,kwA11,kwA12,kwA13,kwA14⟩:=ac15 (HY2.out _ HwA.out);clear hbA) | (go_at_call 200;refine(HWa.out _ (by first | exact HwA.out | exact HD.out _ HwA.out)).mono ?_;rintro e wB ⟨vb,nb,cb,rfl,hnb,hlb,hcb,hbB,hcB⟩;have HCb:=hide hcb;have HNb:=hide hnb;have HcB:=hide hcB;clear hcb hnb hcB;have HwB:=hide hbB;obtain⟨cwB0,cwB1,cwB2,cwB3,cwB4,cwB5⟩:=ac6 (HX2.out _ HwB.out);obtain⟨kwB0,kwB1,kwB2,kwB3,kwB4,kwB5,kwB6,kwB7,kwB8,kwB9,kwB10,kwB11,kwB12,kwB13,kwB14⟩:=ac15 (HY2.out _ HwB.out);clear hbB) | (go_at_call 161;refine(HRw.out _ vb nb cb (by first | exact HwB.out | exact HD.out _ HwB.out) HNb.out hlb (by first | exact HCb.out)).mono ?_;rintro e wC ⟨vc,cc,rfl,hrc,hbC,hcC⟩;have HRc:=hide hrc;have HcC:=hide hcC;clear hrc hcC;have HwC:=hide hbC;obtain⟨cwC0,cwC1,cwC2,cwC3,cwC4,cwC5⟩:=ac6 (HX2.out _ HwC.out);obtain⟨kwC0,kwC1,kwC2,kwC3,kwC4,kwC5,kwC6,kwC7,kwC8,kwC9,kwC10,kwC11,kwC12,kwC13,kwC14⟩:=ac15 (HY2.out _ HwC.out);clear hbC) | fail);have HF:=hide (HE.out _ HwC.out);have HrA:Hid (wC.ownsRow w.heap.size 132 2 (.slice va na ca) na (lcells (cutT s (a.lines.xs.map triOf)).2)):=own_below (own_below HRa.out (by first | exact HcB.out | exact(show Below wA.heap.size wA wB from HcB.out))) HcC.out;have HrC:Hid (wC.ownsRow w.heap.size 76 3 (.slice vc nb cc) nb (rcells ((a.sets.xs.filter s.want).map s.raise))):=HRc.out;by_cases hz0:na+nb=0
 ·have q1:¬(0:Int)<(na:Int)+(nb:Int):=by omega
  have HC0:Hid (clampT s a=(3,[],[])):=by show _=_;unfold clampT;rw[←HNa.out,←HNb.out,if_pos hz0]
  clear hz0;go_wp2;refine bodyPost_ret (v:=.tuple #[.int .i64 3,.slice none 0 0,.slice none 0 0]) (by simp[results,Tryz.results162,go_sem]) rfl ?_;exact⟨_,_,by rw[HC0.out],by rw[HC0.out];exact two_nil _ _,HF.out⟩
 ·have q1:(0:Int)<(na:Int)+(nb:Int):=by omega
  have HC0:Hid (clampT s a=(2,(cutT s (a.lines.xs.map triOf)).2,(a.sets.xs.filter s.want).map s.raise)):=by show _=_;unfold clampT;rw[←HNa.out,←HNb.out,if_neg hz0]
  clear hz0;go_wp2;refine bodyPost_ret (v:=.tuple #[.int .i64 2,.slice va na ca,.slice vc nb cc]) (by simp[results,Tryz.results162,go_sem]) rfl ?_;exact⟨_,_,by rw[HC0.out],by rw[HC0.out];exact⟨by rw[←HNa.out];exact HrA.out,by rw[List.length_map,←HNb.out];exact HrC.out⟩,HF.out⟩
theorem merge_2 (w:World) (s:Sta) (hs:StaOk w s) (a:Acd) (ha:AcdOk w a) (hz:AcWf a) (m1:a.mg=2) :
  Calls Tryz.prog 162 #[.agg s.arr,.agg a.arr] w (MgP w.heap.size w (mergeT s a)):=by
 obtain⟨w2,hw2,hb2,hx2,hy2⟩:=two_boxes w s.arr a.arr 42 55;have HS2:Hid (∀W,Below w2.heap.size w2 W→StaOk W s):=fun W hb=>(hs.below hb2).below hb
 have HA2:Hid (∀W,Below w2.heap.size w2 W→AcdOk W a):=fun W hb=>(ha.below hb2).below hb
 have HX2:Hid (∀W,Below w2.heap.size w2 W→W.heap[w.heap.size]?=some (.cells s.arr 42 (0,0))):=fun W hb=>(hb.block _ (ac_lt hx2)).trans hx2
 have HY2:Hid (∀W,Below w2.heap.size w2 W→W.heap[w.heap.size+1]?=some (.cells a.arr 55 (0,0))):=fun W hb=>(hb.block _ (ac_lt hy2)).trans hy2
 have HZ:=hide hz;have HW2:=hide hw2;have HB2:=hide hb2;have HE:Hid (∀W,Below w2.heap.size w2 W→Below w.heap.size w W):=fun W hb=>hb2.trans (hb.mono hb2.size)
 have HD:Hid (∀W,Below w2.heap.size w2 W→Below w2.heap.size w2 W.drew):=fun W hb=>⟨hb.os,hb.tape,hb.output,hb.size,hb.block⟩
 have HR:Hid (Below w2.heap.size w2 w2):=Below.refl _ _;have HO:Hid (∀(W W':World) (B k n:Nat) (t:TypeId) (v:Value) (xs:List Value),Below w2.heap.size w2 W→W.ownsRow W.heap.size t k v n xs→W.ownsRow w.heap.size t k v n xs):=fun W W' B k n t v xs hb h=>owns_mono h (Nat.le_trans hb2.size hb.size)
 obtain⟨c0,c1,c2,c3,c4,c5⟩:=ac6 hx2;obtain⟨k0,k1,k2,k3,k4,k5,k6,k7,k8,k9,k10,k11,k12,k13,k14⟩:=ac15 hy2;obtain⟨bFo,hFo⟩:∃b,s.fits a.other.xs=b:=⟨_,rfl⟩;have HEFo:=hide hFo;have HFo:Hid (∀W,Below w2.heap.size w2 W→Calls Tryz.prog 54 #[.agg s.arr,.slice a.other.p a.other.n a.other.c] W fun e w'=>e=.returned (.bool bFo)∧Below w2.heap.size w2 w'):=fun W hb=>(free_all W s (HS2.out W hb) a.other.p a.other.n a.other.c a.other.xs (HA2.out W hb).other.len (by have:=(HA2.out W hb).other.most;omega) HZ.out.other (HA2.out W hb).other.cel).mono fun _ _ ⟨he,h⟩=>⟨by rw[he,←HEFo.out];try rfl,hb.trans (h.mono hb.size)⟩
 have HCo:Hid (∀W,Below w2.heap.size w2 W→Calls Tryz.prog 160 #[.slice a.other.p a.other.n a.other.c] W fun e w'=>∃v,e=.returned v∧w'.ownsRow w.heap.size 132 2 v a.other.xs.length (lcells a.other.xs)∧Below w2.heap.size w2 w'):=fun W hb=>(clone_gen W a.other.p a.other.n a.other.c a.other.xs (HA2.out W hb).other.len (by have:=(HA2.out W hb).other.most;omega) (HA2.out W hb).other.cel).mono fun _ _ ⟨v,he,hr,h⟩=>⟨v,he,by rw[(HA2.out W hb).other.len];exact owns_mono hr (Nat.le_trans HB2.out.size hb.size),hb.trans (h.mono hb.size)⟩
 have m1':(a.mg == 1)=false:=by simp[m1]
 have m2':(a.mg == 2)=true:=by simp[m1]
 have HM:Hid (mergeT s a=if bFo=true then (2,a.other.xs,[]) else (3,[],[])):=by show _=_;simp[mergeT,m1,←hFo]
 clear hw2 hb2 hx2 hy2 hs ha hz hFo m1
 cases bFo with
 | true =>
  go_enter Tryz.func162,Tryz.ntmps162;go_upto_region 1 with (fail);rw[HW2.out];go_upto_region 8 with (go_at_call 54;refine(HFo.out _ (by first | exact HR.out | exact HD.out _ HR.out)).mono ?_;rintro e w3 ⟨rfl,hbw3⟩;have Hw3:=hide hbw3;clear hbw3;obtain⟨c0,c1,c2,c3,c4,c5⟩:=ac6 (HX2.out _ Hw3.out);obtain⟨k0,k1,k2,k3,k4,k5,k6,k7,k8,k9,k10,k11,k12,k13,k14⟩:=ac15 (HY2.out _ Hw3.out));go_wp2_with (go_at_call 160;refine(HCo.out _ (by first | exact Hw3.out | exact HD.out _ Hw3.out)).mono ?_;rintro e w4 ⟨v,rfl,hr,hbw4⟩;have Hw4:=hide hbw4;clear hbw4;obtain⟨c0,c1,c2,c3,c4,c5⟩:=ac6 (HX2.out _ Hw4.out);obtain⟨k0,k1,k2,k3,k4,k5,k6,k7,k8,k9,k10,k11,k12,k13,k14⟩:=ac15 (HY2.out _ Hw4.out);have Hr:=hide hr;clear hr)
  refine bodyPost_ret (v:=.tuple #[.int .i64 2,v,.slice none 0 0]) (by simp[results,Tryz.results162,go_sem]) rfl ?_;have HM2:Hid (mergeT s a=(2,a.other.xs,[])):=by show _=_;exact HM.out.trans rfl
  exact⟨_,_,by rw[HM2.out],by rw[HM2.out];exact⟨Hr.out,(two_nil _ _).2⟩,HE.out _ Hw4.out⟩
 | false =>
  go_enter Tryz.func162,Tryz.ntmps162;go_upto_region 1 with (fail);rw[HW2.out];go_wp2_with (go_at_call 54;refine(HFo.out _ (by first | exact HR.out | exact HD.out _ HR.out)).mono ?_;rintro e w3 ⟨rfl,hbw3⟩;have Hw3:=hide hbw3;clear hbw3;obtain⟨c0,c1,c2,c3,c4,c5⟩:=ac6 (HX2.out _ Hw3.out);obtain⟨k0,k1,k2,k3,k4,k5,k6,k7,k8,k9,k10,k11,k12,k13,k14⟩:=ac15 (HY2.out _ Hw3.out))
  refine bodyPost_ret (v:=.tuple #[.int .i64 3,.slice none 0 0,.slice none 0 0]) (by simp[results,Tryz.results162,go_sem]) rfl ?_;have HM2:Hid (mergeT s a=(3,[],[])):=by show _=_;exact HM.out.trans rfl
  exact⟨_,_,by rw[HM2.out],by rw[HM2.out];exact two_nil _ _,HE.out _ Hw3.out⟩
theorem merge_3 (w:World) (s:Sta) (hs:StaOk w s) (a:Acd) (ha:AcdOk w a) (hz:AcWf a) (m1:a.mg=3) :
  Calls Tryz.prog 162 #[.agg s.arr,.agg a.arr] w (MgP w.heap.size w (mergeT s a)):=by
 obtain⟨w2,hw2,hb2,hx2,hy2⟩:=two_boxes w s.arr a.arr 42 55;have HS2:Hid (∀W,Below w2.heap.size w2 W→StaOk W s):=fun W hb=>(hs.below hb2).below hb
 have HA2:Hid (∀W,Below w2.heap.size w2 W→AcdOk W a):=fun W hb=>(ha.below hb2).below hb
 have HX2:Hid (∀W,Below w2.heap.size w2 W→W.heap[w.heap.size]?=some (.cells s.arr 42 (0,0))):=fun W hb=>(hb.block _ (ac_lt hx2)).trans hx2
 have HY2:Hid (∀W,Below w2.heap.size w2 W→W.heap[w.heap.size+1]?=some (.cells a.arr 55 (0,0))):=fun W hb=>(hb.block _ (ac_lt hy2)).trans hy2
 have HZ:=hide hz;have HW2:=hide hw2;have HB2:=hide hb2;have HE:Hid (∀W,Below w2.heap.size w2 W→Below w.heap.size w W):=fun W hb=>hb2.trans (hb.mono hb2.size)
 have HD:Hid (∀W,Below w2.heap.size w2 W→Below w2.heap.size w2 W.drew):=fun W hb=>⟨hb.os,hb.tape,hb.output,hb.size,hb.block⟩
 have HR:Hid (Below w2.heap.size w2 w2):=Below.refl _ _;have HO:Hid (∀(W W':World) (B k n:Nat) (t:TypeId) (v:Value) (xs:List Value),Below w2.heap.size w2 W→W.ownsRow W.heap.size t k v n xs→W.ownsRow w.heap.size t k v n xs):=fun W W' B k n t v xs hb h=>owns_mono h (Nat.le_trans hb2.size hb.size)
 obtain⟨c0,c1,c2,c3,c4,c5⟩:=ac6 hx2;obtain⟨k0,k1,k2,k3,k4,k5,k6,k7,k8,k9,k10,k11,k12,k13,k14⟩:=ac15 hy2;obtain⟨bFl,hFl⟩:∃b,s.fits a.lines.xs=b:=⟨_,rfl⟩;have HEFl:=hide hFl;have HFl:Hid (∀W,Below w2.heap.size w2 W→Calls Tryz.prog 54 #[.agg s.arr,.slice a.lines.p a.lines.n a.lines.c] W fun e w'=>e=.returned (.bool bFl)∧Below w2.heap.size w2 w'):=fun W hb=>(free_all W s (HS2.out W hb) a.lines.p a.lines.n a.lines.c a.lines.xs (HA2.out W hb).lines.len (by have:=(HA2.out W hb).lines.most;omega) HZ.out.lines (HA2.out W hb).lines.cel).mono fun _ _ ⟨he,h⟩=>⟨by rw[he,←HEFl.out];try rfl,hb.trans (h.mono hb.size)⟩
 obtain⟨bOp,hOp⟩:∃b,s.opens a.sets.xs=b:=⟨_,rfl⟩;have HEOp:=hide hOp;have HOp:Hid (∀W,Below w2.heap.size w2 W→Calls Tryz.prog 59 #[.agg s.arr,.slice a.sets.p a.sets.n a.sets.c] W fun e w'=>e=.returned (.bool bOp)∧Below w2.heap.size w2 w'):=fun W hb=>(open_gen W s (HS2.out W hb) a.sets.p a.sets.n a.sets.c a.sets.xs (HA2.out W hb).sets.len (by have:=(HA2.out W hb).sets.most;omega) (HA2.out W hb).sets.cel).mono fun _ _ ⟨he,h⟩=>⟨by rw[he,←HEOp.out];try rfl,hb.trans (h.mono hb.size)⟩
 have HCl:Hid (∀W,Below w2.heap.size w2 W→Calls Tryz.prog 160 #[.slice a.lines.p a.lines.n a.lines.c] W fun e w'=>∃v,e=.returned v∧w'.ownsRow w.heap.size 132 2 v a.lines.xs.length (lcells a.lines.xs)∧Below w2.heap.size w2 w'):=fun W hb=>(clone_gen W a.lines.p a.lines.n a.lines.c a.lines.xs (HA2.out W hb).lines.len (by have:=(HA2.out W hb).lines.most;omega) (HA2.out W hb).lines.cel).mono fun _ _ ⟨v,he,hr,h⟩=>⟨v,he,by rw[(HA2.out W hb).lines.len];exact owns_mono hr (Nat.le_trans HB2.out.size hb.size),hb.trans (h.mono hb.size)⟩
 have HRa:Hid (∀W,Below w2.heap.size w2 W→Calls Tryz.prog 161 #[.agg s.arr,.slice a.sets.p a.sets.n a.sets.c] W fun e w'=>∃v,e=.returned v∧w'.ownsRow w.heap.size 76 3 v (a.sets.xs.map s.raise).length (rcells (a.sets.xs.map s.raise))∧Below w2.heap.size w2 w'∧Below W.heap.size W w'):=fun W hb=>(raised_gen W s (HS2.out W hb) a.sets.p a.sets.n a.sets.c a.sets.xs (HA2.out W hb).sets.len (by have:=(HA2.out W hb).sets.most;omega) (HA2.out W hb).sets.cel).mono fun _ _ ⟨v,he,hr,h⟩=>⟨v,he,by rw[List.length_map,(HA2.out W hb).sets.len];exact owns_mono hr (Nat.le_trans HB2.out.size hb.size),hb.trans (h.mono hb.size),h⟩
 have m1':(a.mg == 1)=false:=by simp[m1]
 have m2':(a.mg == 2)=false:=by simp[m1]
 have m3':(a.mg == 3)=true:=by simp[m1]
 have HM:Hid (mergeT s a=if (bFl && bOp)=true then (2,a.lines.xs,a.sets.xs.map s.raise) else (3,[],[])):=by show _=_;simp[mergeT,m1,←hFl,←hOp]
 clear hw2 hb2 hx2 hy2 hs ha hz hFl hOp m1
 cases bFl with
 | true =>
  cases bOp with
  | true =>
   go_enter Tryz.func162,Tryz.ntmps162;go_upto_region 1 with (fail);rw[HW2.out];go_upto_region 11 with (first | (go_at_call 59;refine(HOp.out _ (by first | exact Hw3.out | exact HD.out _ Hw3.out)).mono ?_;rintro e w4 ⟨rfl,hbw4⟩;have Hw4:=hide hbw4;clear hbw4;obtain⟨c0,c1,c2,c3,c4,c5⟩:=ac6 (HX2.out _ Hw4.out);obtain⟨k0,k1,k2,k3,k4,k5,k6,k7,k8,k9,k10,k11,k12,k13,k14⟩:=ac15 (HY2.out _ Hw4.out)) | (go_at_call 54;refine(HFl.out _ (by first | exact HR.out | exact HD.out _ HR.out)).mono ?_;rintro e w3 ⟨rfl,hbw3⟩;have Hw3:=hide hbw3;clear hbw3;obtain⟨c0,c1,c2,c3,c4,c5⟩:=ac6 (HX2.out _ Hw3.out);obtain⟨k0,k1,k2,k3,k4,k5,k6,k7,k8,k9,k10,k11,k12,k13,k14⟩:=ac15 (HY2.out _ Hw3.out)));go_upto_region 11 with (fail);go_region_held3 (fun w'=>w'.cell? ⟨w.heap.size,0,none⟩=some (.int .u64 s.pos)∧w'.cell? ⟨w.heap.size,1,none⟩=some (.slice s.pp s.pn s.pc)∧w'.cell? ⟨w.heap.size,2,none⟩=some (.slice s.rp s.rn s.rc)∧w'.cell? ⟨w.heap.size,3,none⟩=some (.slice s.lp s.ln s.lc)∧w'.cell? ⟨w.heap.size,4,none⟩=some (.slice s.gp s.gn s.gc)∧w'.cell? ⟨w.heap.size,5,none⟩=some (.slice s.op s.on s.oc)∧w'.cell? ⟨w.heap.size+1,4,none⟩=some (.slice a.lines.p a.lines.n a.lines.c)∧w'.cell? ⟨w.heap.size+1,6,none⟩=some (.slice a.sets.p a.sets.n a.sets.c)) (go_keep) (first | (go_at_call 160;refine(HCl.out _ (by first | exact Hw4.out | exact HD.out _ Hw4.out)).mono ?_;rintro e wA ⟨va,rfl,hra,hbA⟩;have HRr:=hide hra;clear hra;have HwA:=hide hbA;obtain⟨cwA0,cwA1,cwA2,cwA3,cwA4,cwA5⟩:=ac6 (HX2.out _ HwA.out);obtain⟨kwA0,kwA1,kwA2,kwA3,kwA4,kwA5,kwA6,kwA7,kwA8,kwA9,kwA10,kwA11,kwA12,kwA13,kwA14⟩:=ac15 (HY2.out _ HwA.out);clear hbA) | (go_at_call 161;refine(HRa.out _ (by first | exact HwA.out | exact HD.out _ HwA.out)).mono ?_;rintro e wC ⟨vc,rfl,hrc,hbC,hcC⟩;have HRc:=hide hrc;have HcC:=hide hcC;clear hrc hcC;have HwC:=hide hbC;obtain⟨cwC0,cwC1,cwC2,cwC3,cwC4,cwC5⟩:=ac6 (HX2.out _ HwC.out);obtain⟨kwC0,kwC1,kwC2,kwC3,kwC4,kwC5,kwC6,kwC7,kwC8,kwC9,kwC10,kwC11,kwC12,kwC13,kwC14⟩:=ac15 (HY2.out _ HwC.out);clear hbC) | fail);have HrA:=hide (own_below HRr.out HcC.out);go_wp2;refine bodyPost_ret (v:=.tuple #[.int .i64 2,va,vc]) (by simp[results,Tryz.results162,go_sem]) rfl ?_;have HM2:Hid (mergeT s a=(2,a.lines.xs,a.sets.xs.map s.raise)):=by show _=_;exact HM.out.trans rfl
   exact⟨_,_,by rw[HM2.out],by rw[HM2.out];exact⟨HrA.out,HRc.out⟩,HE.out _ HwC.out⟩
  | false =>
   go_enter Tryz.func162,Tryz.ntmps162;go_upto_region 1 with (fail);rw[HW2.out];go_wp2_with (first | (go_at_call 59;refine(HOp.out _ (by first | exact Hw3.out | exact HD.out _ Hw3.out)).mono ?_;rintro e w4 ⟨rfl,hbw4⟩;have Hw4:=hide hbw4;clear hbw4;obtain⟨c0,c1,c2,c3,c4,c5⟩:=ac6 (HX2.out _ Hw4.out);obtain⟨k0,k1,k2,k3,k4,k5,k6,k7,k8,k9,k10,k11,k12,k13,k14⟩:=ac15 (HY2.out _ Hw4.out)) | (go_at_call 54;refine(HFl.out _ (by first | exact HR.out | exact HD.out _ HR.out)).mono ?_;rintro e w3 ⟨rfl,hbw3⟩;have Hw3:=hide hbw3;clear hbw3;obtain⟨c0,c1,c2,c3,c4,c5⟩:=ac6 (HX2.out _ Hw3.out);obtain⟨k0,k1,k2,k3,k4,k5,k6,k7,k8,k9,k10,k11,k12,k13,k14⟩:=ac15 (HY2.out _ Hw3.out)))
   refine bodyPost_ret (v:=.tuple #[.int .i64 3,.slice none 0 0,.slice none 0 0]) (by simp[results,Tryz.results162,go_sem]) rfl ?_;have HM2:Hid (mergeT s a=(3,[],[])):=by show _=_;exact HM.out.trans rfl
   exact⟨_,_,by rw[HM2.out],by rw[HM2.out];exact two_nil _ _,HE.out _ Hw4.out⟩
 | false =>
  go_enter Tryz.func162,Tryz.ntmps162;go_upto_region 1 with (fail);rw[HW2.out];go_wp2_with (go_at_call 54;refine(HFl.out _ (by first | exact HR.out | exact HD.out _ HR.out)).mono ?_;rintro e w3 ⟨rfl,hbw3⟩;have Hw3:=hide hbw3;clear hbw3;obtain⟨c0,c1,c2,c3,c4,c5⟩:=ac6 (HX2.out _ Hw3.out);obtain⟨k0,k1,k2,k3,k4,k5,k6,k7,k8,k9,k10,k11,k12,k13,k14⟩:=ac15 (HY2.out _ Hw3.out))
  refine bodyPost_ret (v:=.tuple #[.int .i64 3,.slice none 0 0,.slice none 0 0]) (by simp[results,Tryz.results162,go_sem]) rfl ?_;have HM2:Hid (mergeT s a=(3,[],[])):=by show _=_;exact HM.out.trans rfl
  exact⟨_,_,by rw[HM2.out],by rw[HM2.out];exact two_nil _ _,HE.out _ Hw3.out⟩
theorem merge_0 (w:World) (s:Sta) (hs:StaOk w s) (a:Acd) (ha:AcdOk w a) (hz:AcWf a) (n1:¬a.mg=1) (n2:¬a.mg=2) (n3:¬a.mg=3) :
  Calls Tryz.prog 162 #[.agg s.arr,.agg a.arr] w (MgP w.heap.size w (mergeT s a)):=by
 obtain⟨w2,hw2,hb2,hx2,hy2⟩:=two_boxes w s.arr a.arr 42 55;have HS2:Hid (∀W,Below w2.heap.size w2 W→StaOk W s):=fun W hb=>(hs.below hb2).below hb
 have HA2:Hid (∀W,Below w2.heap.size w2 W→AcdOk W a):=fun W hb=>(ha.below hb2).below hb
 have HX2:Hid (∀W,Below w2.heap.size w2 W→W.heap[w.heap.size]?=some (.cells s.arr 42 (0,0))):=fun W hb=>(hb.block _ (ac_lt hx2)).trans hx2
 have HY2:Hid (∀W,Below w2.heap.size w2 W→W.heap[w.heap.size+1]?=some (.cells a.arr 55 (0,0))):=fun W hb=>(hb.block _ (ac_lt hy2)).trans hy2
 have HZ:=hide hz;have HW2:=hide hw2;have HB2:=hide hb2;have HE:Hid (∀W,Below w2.heap.size w2 W→Below w.heap.size w W):=fun W hb=>hb2.trans (hb.mono hb2.size)
 have HD:Hid (∀W,Below w2.heap.size w2 W→Below w2.heap.size w2 W.drew):=fun W hb=>⟨hb.os,hb.tape,hb.output,hb.size,hb.block⟩
 have HR:Hid (Below w2.heap.size w2 w2):=Below.refl _ _;have HO:Hid (∀(W W':World) (B k n:Nat) (t:TypeId) (v:Value) (xs:List Value),Below w2.heap.size w2 W→W.ownsRow W.heap.size t k v n xs→W.ownsRow w.heap.size t k v n xs):=fun W W' B k n t v xs hb h=>owns_mono h (Nat.le_trans hb2.size hb.size)
 obtain⟨c0,c1,c2,c3,c4,c5⟩:=ac6 hx2;obtain⟨k0,k1,k2,k3,k4,k5,k6,k7,k8,k9,k10,k11,k12,k13,k14⟩:=ac15 hy2;have m1':(a.mg == 1)=false:=beq_eq_false_iff_ne.2 n1;have m2':(a.mg == 2)=false:=beq_eq_false_iff_ne.2 n2;have m3':(a.mg == 3)=false:=beq_eq_false_iff_ne.2 n3;have HM:Hid (mergeT s a=(3,[],[])):=by show _=_;simp[mergeT,n1,n2,n3]
 clear hw2 hb2 hx2 hy2 hs ha hz n1 n2 n3;go_enter Tryz.func162,Tryz.ntmps162;go_upto_region 1 with (fail);rw[HW2.out];go_wp2;refine bodyPost_ret (v:=.tuple #[.int .i64 3,.slice none 0 0,.slice none 0 0]) (by simp[results,Tryz.results162,go_sem]) rfl ?_;have HM2:Hid (mergeT s a=(3,[],[])):=by show _=_;exact HM.out.trans rfl
 exact⟨_,_,by rw[HM2.out],by rw[HM2.out];exact two_nil _ _,HE.out _ HR.out⟩
theorem merge_any (w:World) (s:Sta) (hs:StaOk w s) (a:Acd) (ha:AcdOk w a) (hz:AcWf a):Calls Tryz.prog 162 #[.agg s.arr,.agg a.arr] w (MgP w.heap.size w (mergeT s a)):=by
 by_cases m1:a.mg=1
 ·exact merge_1 w s hs a ha hz m1
 ·by_cases m2:a.mg=2
  ·exact merge_2 w s hs a ha hz m2
  ·by_cases m3:a.mg=3
   ·exact merge_3 w s hs a ha hz m3
   ·exact merge_0 w s hs a ha hz m1 m2 m3
theorem write_sure (w:World) (s:Sta) (hs:StaOk w s) (a:Acd) (ha:AcdOk w a) (hz:AcWf a) (hsu:a.sure=true) :
  Calls Tryz.prog 87 #[.agg s.arr,.agg a.arr] w (MgP w.heap.size w (writeT s a)):=by
 obtain⟨w2,hw2,hb2,hx2,hy2⟩:=two_boxes w s.arr a.arr 42 55;have HS2:Hid (∀W,Below w2.heap.size w2 W→StaOk W s):=fun W hb=>(hs.below hb2).below hb
 have HA2:Hid (∀W,Below w2.heap.size w2 W→AcdOk W a):=fun W hb=>(ha.below hb2).below hb
 have HX2:Hid (∀W,Below w2.heap.size w2 W→W.heap[w.heap.size]?=some (.cells s.arr 42 (0,0))):=fun W hb=>(hb.block _ (ac_lt hx2)).trans hx2
 have HY2:Hid (∀W,Below w2.heap.size w2 W→W.heap[w.heap.size+1]?=some (.cells a.arr 55 (0,0))):=fun W hb=>(hb.block _ (ac_lt hy2)).trans hy2
 have HZ:=hide hz;have HW2:=hide hw2;have HB2:=hide hb2;have HE:Hid (∀W,Below w2.heap.size w2 W→Below w.heap.size w W):=fun W hb=>hb2.trans (hb.mono hb2.size)
 have HD:Hid (∀W,Below w2.heap.size w2 W→Below w2.heap.size w2 W.drew):=fun W hb=>⟨hb.os,hb.tape,hb.output,hb.size,hb.block⟩
 have HR:Hid (Below w2.heap.size w2 w2):=Below.refl _ _;have HO:Hid (∀(W W':World) (B k n:Nat) (t:TypeId) (v:Value) (xs:List Value),Below w2.heap.size w2 W→W.ownsRow W.heap.size t k v n xs→W.ownsRow w.heap.size t k v n xs):=fun W W' B k n t v xs hb h=>owns_mono h (Nat.le_trans hb2.size hb.size)
 obtain⟨c0,c1,c2,c3,c4,c5⟩:=ac6 hx2;obtain⟨k0,k1,k2,k3,k4,k5,k6,k7,k8,k9,k10,k11,k12,k13,k14⟩:=ac15 hy2;obtain⟨bHo,hHo⟩:∃b,s.keeps a.till a.lines.xs=b:=⟨_,rfl⟩;have HEHo:=hide hHo;have HHo:Hid (∀W,Below w2.heap.size w2 W→Calls Tryz.prog 56 #[.agg s.arr,.int .i64 a.till,.slice a.lines.p a.lines.n a.lines.c] W fun e w'=>e=.returned (.bool bHo)∧Below w2.heap.size w2 w'):=fun W hb=>(holds_all W s (HS2.out W hb) a.till a.lines.p a.lines.n a.lines.c a.lines.xs (HA2.out W hb).lines.len (by have:=(HA2.out W hb).lines.most;omega) HZ.out.lines (HA2.out W hb).lines.cel).mono fun _ _ ⟨he,h⟩=>⟨by rw[he,←HEHo.out];try rfl,hb.trans (h.mono hb.size)⟩
 have HCl:Hid (∀W,Below w2.heap.size w2 W→Calls Tryz.prog 160 #[.slice a.lines.p a.lines.n a.lines.c] W fun e w'=>∃v,e=.returned v∧w'.ownsRow w.heap.size 132 2 v a.lines.xs.length (lcells a.lines.xs)∧Below w2.heap.size w2 w'):=fun W hb=>(clone_gen W a.lines.p a.lines.n a.lines.c a.lines.xs (HA2.out W hb).lines.len (by have:=(HA2.out W hb).lines.most;omega) (HA2.out W hb).lines.cel).mono fun _ _ ⟨v,he,hr,h⟩=>⟨v,he,by rw[(HA2.out W hb).lines.len];exact owns_mono hr (Nat.le_trans HB2.out.size hb.size),hb.trans (h.mono hb.size)⟩
 have HM:Hid (writeT s a=if bHo=true then (1,a.lines.xs,[]) else (3,[],[])):=by show _=_;simp[writeT,hsu,←hHo]
 clear hw2 hb2 hx2 hy2 hs ha hz hHo
 cases bHo with
 | true =>
  go_enter Tryz.func87,Tryz.ntmps87;go_upto_region 1 with (fail);rw[HW2.out];go_upto_region 2 with (go_at_call 56;refine(HHo.out _ (by first | exact HR.out | exact HD.out _ HR.out)).mono ?_;rintro e w3 ⟨rfl,hbw3⟩;have Hw3:=hide hbw3;clear hbw3;obtain⟨c0,c1,c2,c3,c4,c5⟩:=ac6 (HX2.out _ Hw3.out);obtain⟨k0,k1,k2,k3,k4,k5,k6,k7,k8,k9,k10,k11,k12,k13,k14⟩:=ac15 (HY2.out _ Hw3.out));go_wp2_with (go_at_call 160;refine(HCl.out _ (by first | exact Hw3.out | exact HD.out _ Hw3.out)).mono ?_;rintro e w4 ⟨v,rfl,hr,hbw4⟩;have Hw4:=hide hbw4;clear hbw4;obtain⟨c0,c1,c2,c3,c4,c5⟩:=ac6 (HX2.out _ Hw4.out);obtain⟨k0,k1,k2,k3,k4,k5,k6,k7,k8,k9,k10,k11,k12,k13,k14⟩:=ac15 (HY2.out _ Hw4.out);have Hr:=hide hr;clear hr)
  refine bodyPost_ret (v:=.tuple #[.int .i64 1,v,.slice none 0 0]) (by simp[results,Tryz.results87,go_sem]) rfl ?_;have HM2:Hid (writeT s a=(1,a.lines.xs,[])):=by show _=_;exact HM.out.trans rfl
  exact⟨_,_,by rw[HM2.out],by rw[HM2.out];exact⟨Hr.out,(two_nil _ _).2⟩,HE.out _ Hw4.out⟩
 | false =>
  go_enter Tryz.func87,Tryz.ntmps87;go_upto_region 1 with (fail);rw[HW2.out];go_wp2_with (go_at_call 56;refine(HHo.out _ (by first | exact HR.out | exact HD.out _ HR.out)).mono ?_;rintro e w3 ⟨rfl,hbw3⟩;have Hw3:=hide hbw3;clear hbw3;obtain⟨c0,c1,c2,c3,c4,c5⟩:=ac6 (HX2.out _ Hw3.out);obtain⟨k0,k1,k2,k3,k4,k5,k6,k7,k8,k9,k10,k11,k12,k13,k14⟩:=ac15 (HY2.out _ Hw3.out))
  refine bodyPost_ret (v:=.tuple #[.int .i64 3,.slice none 0 0,.slice none 0 0]) (by simp[results,Tryz.results87,go_sem]) rfl ?_;have HM2:Hid (writeT s a=(3,[],[])):=by show _=_;exact HM.out.trans rfl
  exact⟨_,_,by rw[HM2.out],by rw[HM2.out];exact two_nil _ _,HE.out _ Hw3.out⟩
theorem write_plain (w:World) (s:Sta) (hs:StaOk w s) (a:Acd) (ha:AcdOk w a) (hz:AcWf a) (hsu:a.sure=false) :
  Calls Tryz.prog 87 #[.agg s.arr,.agg a.arr] w (MgP w.heap.size w (writeT s a)):=by
 obtain⟨w2,hw2,hb2,hx2,hy2⟩:=two_boxes w s.arr a.arr 42 55;have HS2:Hid (∀W,Below w2.heap.size w2 W→StaOk W s):=fun W hb=>(hs.below hb2).below hb
 have HA2:Hid (∀W,Below w2.heap.size w2 W→AcdOk W a):=fun W hb=>(ha.below hb2).below hb
 have HX2:Hid (∀W,Below w2.heap.size w2 W→W.heap[w.heap.size]?=some (.cells s.arr 42 (0,0))):=fun W hb=>(hb.block _ (ac_lt hx2)).trans hx2
 have HY2:Hid (∀W,Below w2.heap.size w2 W→W.heap[w.heap.size+1]?=some (.cells a.arr 55 (0,0))):=fun W hb=>(hb.block _ (ac_lt hy2)).trans hy2
 have HZ:=hide hz;have HW2:=hide hw2;have HB2:=hide hb2;have HE:Hid (∀W,Below w2.heap.size w2 W→Below w.heap.size w W):=fun W hb=>hb2.trans (hb.mono hb2.size)
 have HD:Hid (∀W,Below w2.heap.size w2 W→Below w2.heap.size w2 W.drew):=fun W hb=>⟨hb.os,hb.tape,hb.output,hb.size,hb.block⟩
 have HR:Hid (Below w2.heap.size w2 w2):=Below.refl _ _;have HO:Hid (∀(W W':World) (B k n:Nat) (t:TypeId) (v:Value) (xs:List Value),Below w2.heap.size w2 W→W.ownsRow W.heap.size t k v n xs→W.ownsRow w.heap.size t k v n xs):=fun W W' B k n t v xs hb h=>owns_mono h (Nat.le_trans hb2.size hb.size)
 obtain⟨c0,c1,c2,c3,c4,c5⟩:=ac6 hx2;obtain⟨k0,k1,k2,k3,k4,k5,k6,k7,k8,k9,k10,k11,k12,k13,k14⟩:=ac15 hy2;obtain⟨bGd,hGd⟩:∃b,s.guards a.guards.xs=b:=⟨_,rfl⟩;have HEGd:=hide hGd;have HGd:Hid (∀W,Below w2.heap.size w2 W→Calls Tryz.prog 24 #[.agg s.arr,.slice a.guards.p a.guards.n a.guards.c] W fun e w'=>e=.returned (.bool bGd)∧Below w2.heap.size w2 w'):=fun W hb=>(guarded_gen W s (HS2.out W hb) a.guards.p a.guards.n a.guards.c a.guards.xs (HA2.out W hb).guards.len (by have:=(HA2.out W hb).guards.most;omega) (HA2.out W hb).guards.cel).mono fun _ _ ⟨he,h⟩=>⟨by rw[he,←HEGd.out];try rfl,hb.trans (h.mono hb.size)⟩
 obtain⟨bFl,hFl⟩:∃b,s.fits a.lines.xs=b:=⟨_,rfl⟩;have HEFl:=hide hFl;have HFl:Hid (∀W,Below w2.heap.size w2 W→Calls Tryz.prog 54 #[.agg s.arr,.slice a.lines.p a.lines.n a.lines.c] W fun e w'=>e=.returned (.bool bFl)∧Below w2.heap.size w2 w'):=fun W hb=>(free_all W s (HS2.out W hb) a.lines.p a.lines.n a.lines.c a.lines.xs (HA2.out W hb).lines.len (by have:=(HA2.out W hb).lines.most;omega) HZ.out.lines (HA2.out W hb).lines.cel).mono fun _ _ ⟨he,h⟩=>⟨by rw[he,←HEFl.out];try rfl,hb.trans (h.mono hb.size)⟩
 obtain⟨bOp,hOp⟩:∃b,s.opens a.sets.xs=b:=⟨_,rfl⟩;have HEOp:=hide hOp;have HOp:Hid (∀W,Below w2.heap.size w2 W→Calls Tryz.prog 59 #[.agg s.arr,.slice a.sets.p a.sets.n a.sets.c] W fun e w'=>e=.returned (.bool bOp)∧Below w2.heap.size w2 w'):=fun W hb=>(open_gen W s (HS2.out W hb) a.sets.p a.sets.n a.sets.c a.sets.xs (HA2.out W hb).sets.len (by have:=(HA2.out W hb).sets.most;omega) (HA2.out W hb).sets.cel).mono fun _ _ ⟨he,h⟩=>⟨by rw[he,←HEOp.out];try rfl,hb.trans (h.mono hb.size)⟩
 have HCl:Hid (∀W,Below w2.heap.size w2 W→Calls Tryz.prog 160 #[.slice a.lines.p a.lines.n a.lines.c] W fun e w'=>∃v,e=.returned v∧w'.ownsRow w.heap.size 132 2 v a.lines.xs.length (lcells a.lines.xs)∧Below w2.heap.size w2 w'):=fun W hb=>(clone_gen W a.lines.p a.lines.n a.lines.c a.lines.xs (HA2.out W hb).lines.len (by have:=(HA2.out W hb).lines.most;omega) (HA2.out W hb).lines.cel).mono fun _ _ ⟨v,he,hr,h⟩=>⟨v,he,by rw[(HA2.out W hb).lines.len];exact owns_mono hr (Nat.le_trans HB2.out.size hb.size),hb.trans (h.mono hb.size)⟩
 have HRa:Hid (∀W,Below w2.heap.size w2 W→Calls Tryz.prog 161 #[.agg s.arr,.slice a.sets.p a.sets.n a.sets.c] W fun e w'=>∃v,e=.returned v∧w'.ownsRow w.heap.size 76 3 v (a.sets.xs.map s.raise).length (rcells (a.sets.xs.map s.raise))∧Below w2.heap.size w2 w'∧Below W.heap.size W w'):=fun W hb=>(raised_gen W s (HS2.out W hb) a.sets.p a.sets.n a.sets.c a.sets.xs (HA2.out W hb).sets.len (by have:=(HA2.out W hb).sets.most;omega) (HA2.out W hb).sets.cel).mono fun _ _ ⟨v,he,hr,h⟩=>⟨v,he,by rw[List.length_map,(HA2.out W hb).sets.len];exact owns_mono hr (Nat.le_trans HB2.out.size hb.size),hb.trans (h.mono hb.size),h⟩
 have HMg:Hid (∀W,Below w2.heap.size w2 W→Calls Tryz.prog 162 #[.agg s.arr,.agg #[.int .i64 a.till,.int .u64 a.num,.int .i64 a.kind,.bool false,.slice a.lines.p a.lines.n a.lines.c,.slice a.guards.p a.guards.n a.guards.c,.slice a.sets.p a.sets.n a.sets.c,.int .i64 a.mg,.slice a.other.p a.other.n a.other.c,.int .i64 a.ra,.int .i64 a.rb,.int .i64 a.rd,.int .i64 a.to,.int .u64 a.gen,.slice a.rights.p a.rights.n a.rights.c]] W (fun e w'=>∃v u,e=.returned (.tuple #[.int .i64 (mergeT s a).1,v,u])∧TwoRows w.heap.size w' v u (mergeT s a).2.1 (mergeT s a).2.2∧Below w2.heap.size w2 w')):=fun W hb=>by rw[show #[.int .i64 a.till,.int .u64 a.num,.int .i64 a.kind,.bool false,.slice a.lines.p a.lines.n a.lines.c,.slice a.guards.p a.guards.n a.guards.c,.slice a.sets.p a.sets.n a.sets.c,.int .i64 a.mg,.slice a.other.p a.other.n a.other.c,.int .i64 a.ra,.int .i64 a.rb,.int .i64 a.rd,.int .i64 a.to,.int .u64 a.gen,.slice a.rights.p a.rights.n a.rights.c]=a.arr by simp only[Acd.arr,hsu]];exact(merge_any W s (HS2.out W hb) a (HA2.out W hb) HZ.out).mono fun _ _ ⟨v,u,he,⟨hr1,hr2⟩,h⟩=>⟨v,u,he,⟨owns_mono hr1 (Nat.le_trans HB2.out.size hb.size),owns_mono hr2 (Nat.le_trans HB2.out.size hb.size)⟩,hb.trans (h.mono hb.size)⟩
 obtain⟨mo,hmo⟩:∃x,(mergeT s a).1=x:=⟨_,rfl⟩;rw[hmo]at HMg;have HMo:=hide hmo;have HM:Hid (writeT s a=if (bGd && bFl && bOp)=true then (1,a.lines.xs,a.sets.xs.map s.raise) else mergeT s a):=by show _=_;simp[writeT,hsu,←hGd,←hFl,←hOp]
 clear hw2 hb2 hx2 hy2 hs ha hz hGd hFl hOp hmo
 cases bGd with
 | true =>
  cases bFl with
  | true =>
   cases bOp with
   | true =>
    go_enter Tryz.func87,Tryz.ntmps87;go_upto_region 1 with (fail);rw[HW2.out];go_upto_region 6 with (first | (go_at_call 59;refine(HOp.out _ (by first | exact Hw4.out | exact HD.out _ Hw4.out)).mono ?_;rintro e w5 ⟨rfl,hbw5⟩;have Hw5:=hide hbw5;clear hbw5;obtain⟨c0,c1,c2,c3,c4,c5⟩:=ac6 (HX2.out _ Hw5.out);obtain⟨k0,k1,k2,k3,k4,k5,k6,k7,k8,k9,k10,k11,k12,k13,k14⟩:=ac15 (HY2.out _ Hw5.out)) | (go_at_call 54;refine(HFl.out _ (by first | exact Hw3.out | exact HD.out _ Hw3.out)).mono ?_;rintro e w4 ⟨rfl,hbw4⟩;have Hw4:=hide hbw4;clear hbw4;obtain⟨c0,c1,c2,c3,c4,c5⟩:=ac6 (HX2.out _ Hw4.out);obtain⟨k0,k1,k2,k3,k4,k5,k6,k7,k8,k9,k10,k11,k12,k13,k14⟩:=ac15 (HY2.out _ Hw4.out)) | (go_at_call 24;refine(HGd.out _ (by first | exact HR.out | exact HD.out _ HR.out)).mono ?_;rintro e w3 ⟨rfl,hbw3⟩;have Hw3:=hide hbw3;clear hbw3;obtain⟨c0,c1,c2,c3,c4,c5⟩:=ac6 (HX2.out _ Hw3.out);obtain⟨k0,k1,k2,k3,k4,k5,k6,k7,k8,k9,k10,k11,k12,k13,k14⟩:=ac15 (HY2.out _ Hw3.out)));go_upto_region 6 with (fail);go_region_held3 (fun w'=>w'.cell? ⟨w.heap.size,0,none⟩=some (.int .u64 s.pos)∧w'.cell? ⟨w.heap.size,1,none⟩=some (.slice s.pp s.pn s.pc)∧w'.cell? ⟨w.heap.size,2,none⟩=some (.slice s.rp s.rn s.rc)∧w'.cell? ⟨w.heap.size,3,none⟩=some (.slice s.lp s.ln s.lc)∧w'.cell? ⟨w.heap.size,4,none⟩=some (.slice s.gp s.gn s.gc)∧w'.cell? ⟨w.heap.size,5,none⟩=some (.slice s.op s.on s.oc)∧w'.cell? ⟨w.heap.size+1,4,none⟩=some (.slice a.lines.p a.lines.n a.lines.c)∧w'.cell? ⟨w.heap.size+1,6,none⟩=some (.slice a.sets.p a.sets.n a.sets.c)) (go_keep) (first | (go_at_call 160;refine(HCl.out _ (by first | exact Hw5.out | exact HD.out _ Hw5.out)).mono ?_;rintro e wA ⟨va,rfl,hra,hbA⟩;have HRr:=hide hra;clear hra;have HwA:=hide hbA;obtain⟨cwA0,cwA1,cwA2,cwA3,cwA4,cwA5⟩:=ac6 (HX2.out _ HwA.out);obtain⟨kwA0,kwA1,kwA2,kwA3,kwA4,kwA5,kwA6,kwA7,kwA8,kwA9,kwA10,kwA11,kwA12,kwA13,kwA14⟩:=ac15 (HY2.out _ HwA.out);clear hbA) | (go_at_call 161;refine(HRa.out _ (by first | exact HwA.out | exact HD.out _ HwA.out)).mono ?_;rintro e wC ⟨vc,rfl,hrc,hbC,hcC⟩;have HRc:=hide hrc;have HcC:=hide hcC;clear hrc hcC;have HwC:=hide hbC;obtain⟨cwC0,cwC1,cwC2,cwC3,cwC4,cwC5⟩:=ac6 (HX2.out _ HwC.out);obtain⟨kwC0,kwC1,kwC2,kwC3,kwC4,kwC5,kwC6,kwC7,kwC8,kwC9,kwC10,kwC11,kwC12,kwC13,kwC14⟩:=ac15 (HY2.out _ HwC.out);clear hbC) | fail);have HrA:=hide (own_below HRr.out HcC.out);go_wp2;refine bodyPost_ret (v:=.tuple #[.int .i64 1,va,vc]) (by simp[results,Tryz.results87,go_sem]) rfl ?_;have HM2:Hid (writeT s a=(1,a.lines.xs,a.sets.xs.map s.raise)):=by show _=_;exact HM.out.trans rfl
    exact⟨_,_,by rw[HM2.out],by rw[HM2.out];exact⟨HrA.out,HRc.out⟩,HE.out _ HwC.out⟩
   | false =>
    go_enter Tryz.func87,Tryz.ntmps87;go_upto_region 1 with (fail);rw[HW2.out];go_wp2_with (first | (go_at_call 162;refine(HMg.out _ (by first | exact Hw5.out | exact HD.out _ Hw5.out)).mono ?_;rintro e w6 ⟨vm,um,rfl,hrm,hbw6⟩;have Hw6:=hide hbw6;clear hbw6;obtain⟨c0,c1,c2,c3,c4,c5⟩:=ac6 (HX2.out _ Hw6.out);obtain⟨k0,k1,k2,k3,k4,k5,k6,k7,k8,k9,k10,k11,k12,k13,k14⟩:=ac15 (HY2.out _ Hw6.out);have Hrm:=hide hrm;clear hrm) | (go_at_call 59;refine(HOp.out _ (by first | exact Hw4.out | exact HD.out _ Hw4.out)).mono ?_;rintro e w5 ⟨rfl,hbw5⟩;have Hw5:=hide hbw5;clear hbw5;obtain⟨c0,c1,c2,c3,c4,c5⟩:=ac6 (HX2.out _ Hw5.out);obtain⟨k0,k1,k2,k3,k4,k5,k6,k7,k8,k9,k10,k11,k12,k13,k14⟩:=ac15 (HY2.out _ Hw5.out)) | (go_at_call 54;refine(HFl.out _ (by first | exact Hw3.out | exact HD.out _ Hw3.out)).mono ?_;rintro e w4 ⟨rfl,hbw4⟩;have Hw4:=hide hbw4;clear hbw4;obtain⟨c0,c1,c2,c3,c4,c5⟩:=ac6 (HX2.out _ Hw4.out);obtain⟨k0,k1,k2,k3,k4,k5,k6,k7,k8,k9,k10,k11,k12,k13,k14⟩:=ac15 (HY2.out _ Hw4.out)) | (go_at_call 24;refine(HGd.out _ (by first | exact HR.out | exact HD.out _ HR.out)).mono ?_;rintro e w3 ⟨rfl,hbw3⟩;have Hw3:=hide hbw3;clear hbw3;obtain⟨c0,c1,c2,c3,c4,c5⟩:=ac6 (HX2.out _ Hw3.out);obtain⟨k0,k1,k2,k3,k4,k5,k6,k7,k8,k9,k10,k11,k12,k13,k14⟩:=ac15 (HY2.out _ Hw3.out)))
    refine bodyPost_ret (v:=.tuple #[.int .i64 mo,vm,um]) (by simp[results,Tryz.results87,go_sem]) rfl ?_;have HM2:Hid (writeT s a=mergeT s a):=by show _=_;exact HM.out.trans rfl
    exact⟨_,_,by rw[HM2.out,HMo.out],by rw[HM2.out];exact Hrm.out,HE.out _ Hw6.out⟩
  | false =>
   go_enter Tryz.func87,Tryz.ntmps87;go_upto_region 1 with (fail);rw[HW2.out];go_wp2_with (first | (go_at_call 162;refine(HMg.out _ (by first | exact Hw4.out | exact HD.out _ Hw4.out)).mono ?_;rintro e w6 ⟨vm,um,rfl,hrm,hbw6⟩;have Hw6:=hide hbw6;clear hbw6;obtain⟨c0,c1,c2,c3,c4,c5⟩:=ac6 (HX2.out _ Hw6.out);obtain⟨k0,k1,k2,k3,k4,k5,k6,k7,k8,k9,k10,k11,k12,k13,k14⟩:=ac15 (HY2.out _ Hw6.out);have Hrm:=hide hrm;clear hrm) | (go_at_call 54;refine(HFl.out _ (by first | exact Hw3.out | exact HD.out _ Hw3.out)).mono ?_;rintro e w4 ⟨rfl,hbw4⟩;have Hw4:=hide hbw4;clear hbw4;obtain⟨c0,c1,c2,c3,c4,c5⟩:=ac6 (HX2.out _ Hw4.out);obtain⟨k0,k1,k2,k3,k4,k5,k6,k7,k8,k9,k10,k11,k12,k13,k14⟩:=ac15 (HY2.out _ Hw4.out)) | (go_at_call 24;refine(HGd.out _ (by first | exact HR.out | exact HD.out _ HR.out)).mono ?_;rintro e w3 ⟨rfl,hbw3⟩;have Hw3:=hide hbw3;clear hbw3;obtain⟨c0,c1,c2,c3,c4,c5⟩:=ac6 (HX2.out _ Hw3.out);obtain⟨k0,k1,k2,k3,k4,k5,k6,k7,k8,k9,k10,k11,k12,k13,k14⟩:=ac15 (HY2.out _ Hw3.out)))
   refine bodyPost_ret (v:=.tuple #[.int .i64 mo,vm,um]) (by simp[results,Tryz.results87,go_sem]) rfl ?_;have HM2:Hid (writeT s a=mergeT s a):=by show _=_;exact HM.out.trans rfl
   exact⟨_,_,by rw[HM2.out,HMo.out],by rw[HM2.out];exact Hrm.out,HE.out _ Hw6.out⟩
 | false =>
  go_enter Tryz.func87,Tryz.ntmps87;go_upto_region 1 with (fail);rw[HW2.out];go_wp2_with (first | (go_at_call 162;refine(HMg.out _ (by first | exact Hw3.out | exact HD.out _ Hw3.out)).mono ?_;rintro e w6 ⟨vm,um,rfl,hrm,hbw6⟩;have Hw6:=hide hbw6;clear hbw6;obtain⟨c0,c1,c2,c3,c4,c5⟩:=ac6 (HX2.out _ Hw6.out);obtain⟨k0,k1,k2,k3,k4,k5,k6,k7,k8,k9,k10,k11,k12,k13,k14⟩:=ac15 (HY2.out _ Hw6.out);have Hrm:=hide hrm;clear hrm) | (go_at_call 24;refine(HGd.out _ (by first | exact HR.out | exact HD.out _ HR.out)).mono ?_;rintro e w3 ⟨rfl,hbw3⟩;have Hw3:=hide hbw3;clear hbw3;obtain⟨c0,c1,c2,c3,c4,c5⟩:=ac6 (HX2.out _ Hw3.out);obtain⟨k0,k1,k2,k3,k4,k5,k6,k7,k8,k9,k10,k11,k12,k13,k14⟩:=ac15 (HY2.out _ Hw3.out)))
  refine bodyPost_ret (v:=.tuple #[.int .i64 mo,vm,um]) (by simp[results,Tryz.results87,go_sem]) rfl ?_;have HM2:Hid (writeT s a=mergeT s a):=by show _=_;exact HM.out.trans rfl
  exact⟨_,_,by rw[HM2.out,HMo.out],by rw[HM2.out];exact Hrm.out,HE.out _ Hw6.out⟩
theorem write_any (w:World) (s:Sta) (hs:StaOk w s) (a:Acd) (ha:AcdOk w a) (hz:AcWf a):Calls Tryz.prog 87 #[.agg s.arr,.agg a.arr] w (MgP w.heap.size w (writeT s a)):=by
 cases h:a.sure
 ·exact write_plain w s hs a ha hz h
 ·exact write_sure w s hs a ha hz h
theorem doneIf_any (w:World) (b:Bool):Calls Tryz.prog 89 #[.bool b] w fun e w'=>e=.returned (.int .i64 (doneT b))∧w'=w:=by
 cases b
 ·go_enter Tryz.func89,Tryz.ntmps89
  go_wp2;go_ret;exact⟨rfl,rfl⟩
 ·go_enter Tryz.func89,Tryz.ntmps89
  go_wp2;go_ret;exact⟨rfl,rfl⟩
theorem judge_1 (w:World) (s:Sta) (hs:StaOk w s) (a:Acd) (ha:AcdOk w a) (hz:AcWf a) (hk:a.kind=1) :
  Calls Tryz.prog 42 #[.agg s.arr,.agg a.arr] w (JgP w.heap.size w (judgeT s a)):=by
 obtain⟨w2,hw2,hb2,hx2,hy2⟩:=two_boxes w s.arr a.arr 42 55;have HS2:Hid (∀W,Below w2.heap.size w2 W→StaOk W s):=fun W hb=>(hs.below hb2).below hb
 have HA2:Hid (∀W,Below w2.heap.size w2 W→AcdOk W a):=fun W hb=>(ha.below hb2).below hb
 have HX2:Hid (∀W,Below w2.heap.size w2 W→W.heap[w.heap.size]?=some (.cells s.arr 42 (0,0))):=fun W hb=>(hb.block _ (ac_lt hx2)).trans hx2
 have HY2:Hid (∀W,Below w2.heap.size w2 W→W.heap[w.heap.size+1]?=some (.cells a.arr 55 (0,0))):=fun W hb=>(hb.block _ (ac_lt hy2)).trans hy2
 have HZ:=hide hz;have HW2:=hide hw2;have HB2:=hide hb2;have HE:Hid (∀W,Below w2.heap.size w2 W→Below w.heap.size w W):=fun W hb=>hb2.trans (hb.mono hb2.size)
 have HD:Hid (∀W,Below w2.heap.size w2 W→Below w2.heap.size w2 W.drew):=fun W hb=>⟨hb.os,hb.tape,hb.output,hb.size,hb.block⟩
 have HR:Hid (Below w2.heap.size w2 w2):=Below.refl _ _;have HO:Hid (∀(W W':World) (B k n:Nat) (t:TypeId) (v:Value) (xs:List Value),Below w2.heap.size w2 W→W.ownsRow W.heap.size t k v n xs→W.ownsRow w.heap.size t k v n xs):=fun W W' B k n t v xs hb h=>owns_mono h (Nat.le_trans hb2.size hb.size)
 obtain⟨c0,c1,c2,c3,c4,c5⟩:=ac6 hx2;obtain⟨k0,k1,k2,k3,k4,k5,k6,k7,k8,k9,k10,k11,k12,k13,k14⟩:=ac15 hy2;have k1':(a.kind == 1)=true:=by simp[hk]
 have HMg:Hid (∀W,Below w2.heap.size w2 W→Calls Tryz.prog 87 #[.agg s.arr,.agg a.arr] W (fun e w'=>∃v u,e=.returned (.tuple #[.int .i64 (writeT s a).1,v,u])∧TwoRows w.heap.size w' v u (writeT s a).2.1 (writeT s a).2.2∧Below w2.heap.size w2 w')):=fun W hb=>(write_any W s (HS2.out W hb) a (HA2.out W hb) HZ.out).mono fun _ _ ⟨v,u,he,⟨hr1,hr2⟩,h⟩=>⟨v,u,he,⟨owns_mono hr1 (Nat.le_trans HB2.out.size hb.size),owns_mono hr2 (Nat.le_trans HB2.out.size hb.size)⟩,hb.trans (h.mono hb.size)⟩
 obtain⟨mo,hmo⟩:∃x,(writeT s a).1=x:=⟨_,rfl⟩;rw[hmo]at HMg;have HM:Hid (judgeT s a=(mo,(writeT s a).2.1,(writeT s a).2.2,0)):=by show _=_;simp[judgeT,hk,hmo]
 clear hw2 hb2 hx2 hy2 hs ha hz hk hmo;go_enter Tryz.func42,Tryz.ntmps42;go_upto_region 1 with (fail);rw[HW2.out];go_wp2_with (go_at_call 87;refine(HMg.out _ (by first | exact HR.out | exact HD.out _ HR.out)).mono ?_;rintro e w6 ⟨vm,um,rfl,hrm,hbw6⟩;have Hw6:=hide hbw6;clear hbw6;obtain⟨c0,c1,c2,c3,c4,c5⟩:=ac6 (HX2.out _ Hw6.out);obtain⟨k0,k1,k2,k3,k4,k5,k6,k7,k8,k9,k10,k11,k12,k13,k14⟩:=ac15 (HY2.out _ Hw6.out);have Hrm:=hide hrm;clear hrm)
 refine bodyPost_ret (v:=.tuple #[.int .i64 mo,vm,um,.int .i64 0]) (by simp[results,Tryz.results42,go_sem]) rfl ?_;exact⟨_,_,by rw[HM.out],by rw[HM.out];exact Hrm.out,HE.out _ Hw6.out⟩
theorem judge_2 (w:World) (s:Sta) (hs:StaOk w s) (a:Acd) (ha:AcdOk w a) (hz:AcWf a) (hk:a.kind=2) :
  Calls Tryz.prog 42 #[.agg s.arr,.agg a.arr] w (JgP w.heap.size w (judgeT s a)):=by
 obtain⟨w2,hw2,hb2,hx2,hy2⟩:=two_boxes w s.arr a.arr 42 55;have HS2:Hid (∀W,Below w2.heap.size w2 W→StaOk W s):=fun W hb=>(hs.below hb2).below hb
 have HA2:Hid (∀W,Below w2.heap.size w2 W→AcdOk W a):=fun W hb=>(ha.below hb2).below hb
 have HX2:Hid (∀W,Below w2.heap.size w2 W→W.heap[w.heap.size]?=some (.cells s.arr 42 (0,0))):=fun W hb=>(hb.block _ (ac_lt hx2)).trans hx2
 have HY2:Hid (∀W,Below w2.heap.size w2 W→W.heap[w.heap.size+1]?=some (.cells a.arr 55 (0,0))):=fun W hb=>(hb.block _ (ac_lt hy2)).trans hy2
 have HZ:=hide hz;have HW2:=hide hw2;have HB2:=hide hb2;have HE:Hid (∀W,Below w2.heap.size w2 W→Below w.heap.size w W):=fun W hb=>hb2.trans (hb.mono hb2.size)
 have HD:Hid (∀W,Below w2.heap.size w2 W→Below w2.heap.size w2 W.drew):=fun W hb=>⟨hb.os,hb.tape,hb.output,hb.size,hb.block⟩
 have HR:Hid (Below w2.heap.size w2 w2):=Below.refl _ _;have HO:Hid (∀(W W':World) (B k n:Nat) (t:TypeId) (v:Value) (xs:List Value),Below w2.heap.size w2 W→W.ownsRow W.heap.size t k v n xs→W.ownsRow w.heap.size t k v n xs):=fun W W' B k n t v xs hb h=>owns_mono h (Nat.le_trans hb2.size hb.size)
 obtain⟨c0,c1,c2,c3,c4,c5⟩:=ac6 hx2;obtain⟨k0,k1,k2,k3,k4,k5,k6,k7,k8,k9,k10,k11,k12,k13,k14⟩:=ac15 hy2;have k1':(a.kind == 1)=false:=by simp[hk]
 have k2':(a.kind == 2)=true:=by simp[hk]
 obtain⟨nGr,hGr⟩:∃b,min a.rd (min (s.free a.ra a.rb) (wrap64 (18014398509481984 - s.held a.till a.ra a.rb)))=b:=⟨_,rfl⟩;have HEGr:=hide hGr;have HGr:Hid (∀W,Below w2.heap.size w2 W→Calls Tryz.prog 88 #[.agg s.arr,.int .i64 a.till,.agg #[.int .i64 a.ra,.int .i64 a.rb,.int .i64 a.rd]] W fun e w'=>e=.returned (.int .i64 nGr)∧Below w2.heap.size w2 w'):=fun W hb=>(grant_gen W s (HS2.out W hb) a.till a.ra a.rb a.rd).mono fun _ _ ⟨he,h⟩=>⟨by rw[he,←HEGr.out],hb.trans (h.mono hb.size)⟩
 have HM:Hid (judgeT s a=(4,[],[],nGr)):=by show _=_;simp[judgeT,hk,hGr]
 clear hw2 hb2 hx2 hy2 hs ha hz hk hGr;go_enter Tryz.func42,Tryz.ntmps42;go_upto_region 1 with (fail);rw[HW2.out];go_wp2_with (go_at_call 88;refine(HGr.out _ (by first | exact HR.out | exact HD.out _ HR.out)).mono ?_;rintro e w3 ⟨rfl,hbw3⟩;have Hw3:=hide hbw3;clear hbw3;obtain⟨c0,c1,c2,c3,c4,c5⟩:=ac6 (HX2.out _ Hw3.out);obtain⟨k0,k1,k2,k3,k4,k5,k6,k7,k8,k9,k10,k11,k12,k13,k14⟩:=ac15 (HY2.out _ Hw3.out))
 refine bodyPost_ret (v:=.tuple #[.int .i64 4,.slice none 0 0,.slice none 0 0,.int .i64 nGr]) (by simp[results,Tryz.results42,go_sem]) rfl ?_;have HM2:Hid (judgeT s a=(4,[],[],nGr)):=by show _=_;exact HM.out.trans rfl
 exact⟨_,_,by rw[HM2.out],by rw[HM2.out];exact two_nil _ _,HE.out _ Hw3.out⟩
theorem judge_3 (w:World) (s:Sta) (hs:StaOk w s) (a:Acd) (ha:AcdOk w a) (hz:AcWf a) (hk:a.kind=3) :
  Calls Tryz.prog 42 #[.agg s.arr,.agg a.arr] w (JgP w.heap.size w (judgeT s a)):=by
 obtain⟨w2,hw2,hb2,hx2,hy2⟩:=two_boxes w s.arr a.arr 42 55;have HS2:Hid (∀W,Below w2.heap.size w2 W→StaOk W s):=fun W hb=>(hs.below hb2).below hb
 have HA2:Hid (∀W,Below w2.heap.size w2 W→AcdOk W a):=fun W hb=>(ha.below hb2).below hb
 have HX2:Hid (∀W,Below w2.heap.size w2 W→W.heap[w.heap.size]?=some (.cells s.arr 42 (0,0))):=fun W hb=>(hb.block _ (ac_lt hx2)).trans hx2
 have HY2:Hid (∀W,Below w2.heap.size w2 W→W.heap[w.heap.size+1]?=some (.cells a.arr 55 (0,0))):=fun W hb=>(hb.block _ (ac_lt hy2)).trans hy2
 have HZ:=hide hz;have HW2:=hide hw2;have HB2:=hide hb2;have HE:Hid (∀W,Below w2.heap.size w2 W→Below w.heap.size w W):=fun W hb=>hb2.trans (hb.mono hb2.size)
 have HD:Hid (∀W,Below w2.heap.size w2 W→Below w2.heap.size w2 W.drew):=fun W hb=>⟨hb.os,hb.tape,hb.output,hb.size,hb.block⟩
 have HR:Hid (Below w2.heap.size w2 w2):=Below.refl _ _;have HO:Hid (∀(W W':World) (B k n:Nat) (t:TypeId) (v:Value) (xs:List Value),Below w2.heap.size w2 W→W.ownsRow W.heap.size t k v n xs→W.ownsRow w.heap.size t k v n xs):=fun W W' B k n t v xs hb h=>owns_mono h (Nat.le_trans hb2.size hb.size)
 obtain⟨c0,c1,c2,c3,c4,c5⟩:=ac6 hx2;obtain⟨k0,k1,k2,k3,k4,k5,k6,k7,k8,k9,k10,k11,k12,k13,k14⟩:=ac15 hy2;have k1':(a.kind == 1)=false:=by simp[hk]
 have k2':(a.kind == 2)=false:=by simp[hk]
 have k3':(a.kind == 3)=true:=by simp[hk]
 obtain⟨bHs,hHs⟩:∃b,decide (a.rd≤s.held a.till a.ra a.rb)=b:=⟨_,rfl⟩;have HEHs:=hide hHs;have HHs:Hid (∀W,Below w2.heap.size w2 W→Calls Tryz.prog 90 #[.agg s.arr,.int .i64 a.till,.agg #[.int .i64 a.ra,.int .i64 a.rb,.int .i64 a.rd]] W fun e w'=>e=.returned (.bool bHs)∧Below w2.heap.size w2 w'):=fun W hb=>(has_gen W s (HS2.out W hb) a.till a.ra a.rb a.rd).mono fun _ _ ⟨he,h⟩=>⟨by rw[he,←HEHs.out];try rfl,hb.trans (h.mono hb.size)⟩
 have HDn:Hid (∀W b,Below w2.heap.size w2 W→Calls Tryz.prog 89 #[.bool b] W fun e w'=>e=.returned (.int .i64 (doneT b))∧Below w2.heap.size w2 w'):=fun W b hb=>(doneIf_any W b).mono fun _ _ ⟨he,h⟩=>⟨he,by rw[h];exact hb⟩
 have HM:Hid (judgeT s a=(doneT bHs,[],[],0)):=by show _=_;simp[judgeT,hk,hHs]
 clear hw2 hb2 hx2 hy2 hs ha hz hk hHs;go_enter Tryz.func42,Tryz.ntmps42;go_upto_region 1 with (fail);rw[HW2.out];go_wp2_with (first | (go_at_call 89;refine(HDn.out _ bHs (by first | exact Hw3.out | exact HD.out _ Hw3.out)).mono ?_;rintro e w4 ⟨rfl,hbw4⟩;have Hw4:=hide hbw4;clear hbw4) | (go_at_call 90;refine(HHs.out _ (by first | exact HR.out | exact HD.out _ HR.out)).mono ?_;rintro e w3 ⟨rfl,hbw3⟩;have Hw3:=hide hbw3;clear hbw3;obtain⟨c0,c1,c2,c3,c4,c5⟩:=ac6 (HX2.out _ Hw3.out);obtain⟨k0,k1,k2,k3,k4,k5,k6,k7,k8,k9,k10,k11,k12,k13,k14⟩:=ac15 (HY2.out _ Hw3.out)))
 refine bodyPost_ret (v:=.tuple #[.int .i64 (doneT bHs),.slice none 0 0,.slice none 0 0,.int .i64 0]) (by simp[results,Tryz.results42,go_sem]) rfl ?_;have HM2:Hid (judgeT s a=(doneT bHs,[],[],0)):=by show _=_;exact HM.out.trans rfl
 exact⟨_,_,by rw[HM2.out],by rw[HM2.out];exact two_nil _ _,HE.out _ Hw4.out⟩
theorem judge_5 (w:World) (s:Sta) (hs:StaOk w s) (a:Acd) (ha:AcdOk w a) (hz:AcWf a) (hk:a.kind=5) :
  Calls Tryz.prog 42 #[.agg s.arr,.agg a.arr] w (JgP w.heap.size w (judgeT s a)):=by
 obtain⟨w2,hw2,hb2,hx2,hy2⟩:=two_boxes w s.arr a.arr 42 55;have HS2:Hid (∀W,Below w2.heap.size w2 W→StaOk W s):=fun W hb=>(hs.below hb2).below hb
 have HA2:Hid (∀W,Below w2.heap.size w2 W→AcdOk W a):=fun W hb=>(ha.below hb2).below hb
 have HX2:Hid (∀W,Below w2.heap.size w2 W→W.heap[w.heap.size]?=some (.cells s.arr 42 (0,0))):=fun W hb=>(hb.block _ (ac_lt hx2)).trans hx2
 have HY2:Hid (∀W,Below w2.heap.size w2 W→W.heap[w.heap.size+1]?=some (.cells a.arr 55 (0,0))):=fun W hb=>(hb.block _ (ac_lt hy2)).trans hy2
 have HZ:=hide hz;have HW2:=hide hw2;have HB2:=hide hb2;have HE:Hid (∀W,Below w2.heap.size w2 W→Below w.heap.size w W):=fun W hb=>hb2.trans (hb.mono hb2.size)
 have HD:Hid (∀W,Below w2.heap.size w2 W→Below w2.heap.size w2 W.drew):=fun W hb=>⟨hb.os,hb.tape,hb.output,hb.size,hb.block⟩
 have HR:Hid (Below w2.heap.size w2 w2):=Below.refl _ _;have HO:Hid (∀(W W':World) (B k n:Nat) (t:TypeId) (v:Value) (xs:List Value),Below w2.heap.size w2 W→W.ownsRow W.heap.size t k v n xs→W.ownsRow w.heap.size t k v n xs):=fun W W' B k n t v xs hb h=>owns_mono h (Nat.le_trans hb2.size hb.size)
 obtain⟨c0,c1,c2,c3,c4,c5⟩:=ac6 hx2;obtain⟨k0,k1,k2,k3,k4,k5,k6,k7,k8,k9,k10,k11,k12,k13,k14⟩:=ac15 hy2;have k1':(a.kind == 1)=false:=by simp[hk]
 have k2':(a.kind == 2)=false:=by simp[hk]
 have k3':(a.kind == 3)=false:=by simp[hk]
 have k4':(a.kind == 4)=false:=by simp[hk]
 have k5':(a.kind == 5)=true:=by simp[hk]
 obtain⟨bOw,hOw⟩:∃b,s.owes a.till a.gen=b:=⟨_,rfl⟩;have HEOw:=hide hOw;have HOw:Hid (∀W,Below w2.heap.size w2 W→Calls Tryz.prog 93 #[.agg s.arr,.int .i64 a.till,.int .u64 a.gen] W fun e w'=>e=.returned (.bool bOw)∧Below w2.heap.size w2 w'):=fun W hb=>(owes_gen W s (HS2.out W hb) a.till a.gen).mono fun _ _ ⟨he,h⟩=>⟨by rw[he,←HEOw.out];try rfl,hb.trans (h.mono hb.size)⟩
 obtain⟨bHa,hHa⟩:∃b,s.hasAll a.till a.rights.xs=b:=⟨_,rfl⟩;have HEHa:=hide hHa;have HHa:Hid (∀W,Below w2.heap.size w2 W→Calls Tryz.prog 94 #[.agg s.arr,.int .i64 a.till,.slice a.rights.p a.rights.n a.rights.c] W fun e w'=>e=.returned (.bool bHa)∧Below w2.heap.size w2 w'):=fun W hb=>(hasAll_gen W s (HS2.out W hb) a.till a.rights.p a.rights.n a.rights.c a.rights.xs (HA2.out W hb).rights.len (by have:=(HA2.out W hb).rights.most;omega) (HA2.out W hb).rights.cel).mono fun _ _ ⟨he,h⟩=>⟨by rw[he,←HEHa.out];try rfl,hb.trans (h.mono hb.size)⟩
 have HDn:Hid (∀W b,Below w2.heap.size w2 W→Calls Tryz.prog 89 #[.bool b] W fun e w'=>e=.returned (.int .i64 (doneT b))∧Below w2.heap.size w2 w'):=fun W b hb=>(doneIf_any W b).mono fun _ _ ⟨he,h⟩=>⟨he,by rw[h];exact hb⟩
 have HM:Hid (judgeT s a=(doneT (bOw && bHa),[],[],0)):=by show _=_;simp[judgeT,hk,hOw,hHa]
 clear hw2 hb2 hx2 hy2 hs ha hz hk hOw hHa
 cases bOw with
 | true =>
  go_enter Tryz.func42,Tryz.ntmps42;go_upto_region 1 with (fail);rw[HW2.out];go_wp2_with (first | (go_at_call 89;refine(HDn.out _ bHa (by first | exact Hw4.out | exact HD.out _ Hw4.out)).mono ?_;rintro e w5 ⟨rfl,hbw5⟩;have Hw5:=hide hbw5;clear hbw5) | (go_at_call 94;refine(HHa.out _ (by first | exact Hw3.out | exact HD.out _ Hw3.out)).mono ?_;rintro e w4 ⟨rfl,hbw4⟩;have Hw4:=hide hbw4;clear hbw4;obtain⟨c0,c1,c2,c3,c4,c5⟩:=ac6 (HX2.out _ Hw4.out);obtain⟨k0,k1,k2,k3,k4,k5,k6,k7,k8,k9,k10,k11,k12,k13,k14⟩:=ac15 (HY2.out _ Hw4.out)) | (go_at_call 93;refine(HOw.out _ (by first | exact HR.out | exact HD.out _ HR.out)).mono ?_;rintro e w3 ⟨rfl,hbw3⟩;have Hw3:=hide hbw3;clear hbw3;obtain⟨c0,c1,c2,c3,c4,c5⟩:=ac6 (HX2.out _ Hw3.out);obtain⟨k0,k1,k2,k3,k4,k5,k6,k7,k8,k9,k10,k11,k12,k13,k14⟩:=ac15 (HY2.out _ Hw3.out)))
  refine bodyPost_ret (v:=.tuple #[.int .i64 (doneT bHa),.slice none 0 0,.slice none 0 0,.int .i64 0]) (by simp[results,Tryz.results42,go_sem]) rfl ?_;have HM2:Hid (judgeT s a=(doneT bHa,[],[],0)):=by show _=_;exact HM.out.trans rfl
  exact⟨_,_,by rw[HM2.out],by rw[HM2.out];exact two_nil _ _,HE.out _ Hw5.out⟩
 | false =>
  go_enter Tryz.func42,Tryz.ntmps42;go_upto_region 1 with (fail);rw[HW2.out];go_wp2_with (first | (go_at_call 89;refine(HDn.out _ false (by first | exact Hw3.out | exact HD.out _ Hw3.out)).mono ?_;rintro e w4 ⟨rfl,hbw4⟩;have Hw4:=hide hbw4;clear hbw4) | (go_at_call 93;refine(HOw.out _ (by first | exact HR.out | exact HD.out _ HR.out)).mono ?_;rintro e w3 ⟨rfl,hbw3⟩;have Hw3:=hide hbw3;clear hbw3;obtain⟨c0,c1,c2,c3,c4,c5⟩:=ac6 (HX2.out _ Hw3.out);obtain⟨k0,k1,k2,k3,k4,k5,k6,k7,k8,k9,k10,k11,k12,k13,k14⟩:=ac15 (HY2.out _ Hw3.out)))
  refine bodyPost_ret (v:=.tuple #[.int .i64 (doneT false),.slice none 0 0,.slice none 0 0,.int .i64 0]) (by simp[results,Tryz.results42,go_sem]) rfl ?_;have HM2:Hid (judgeT s a=(doneT false,[],[],0)):=by show _=_;exact HM.out.trans rfl
  exact⟨_,_,by rw[HM2.out],by rw[HM2.out];exact two_nil _ _,HE.out _ Hw4.out⟩
theorem judge_0 (w:World) (s:Sta) (hs:StaOk w s) (a:Acd) (ha:AcdOk w a) (hz:AcWf a) (n1:¬a.kind=1) (n2:¬a.kind=2) (n3:¬a.kind=3) (n4:¬a.kind=4) (n5:¬a.kind=5) :
  Calls Tryz.prog 42 #[.agg s.arr,.agg a.arr] w (JgP w.heap.size w (judgeT s a)):=by
 obtain⟨w2,hw2,hb2,hx2,hy2⟩:=two_boxes w s.arr a.arr 42 55;have HS2:Hid (∀W,Below w2.heap.size w2 W→StaOk W s):=fun W hb=>(hs.below hb2).below hb
 have HA2:Hid (∀W,Below w2.heap.size w2 W→AcdOk W a):=fun W hb=>(ha.below hb2).below hb
 have HX2:Hid (∀W,Below w2.heap.size w2 W→W.heap[w.heap.size]?=some (.cells s.arr 42 (0,0))):=fun W hb=>(hb.block _ (ac_lt hx2)).trans hx2
 have HY2:Hid (∀W,Below w2.heap.size w2 W→W.heap[w.heap.size+1]?=some (.cells a.arr 55 (0,0))):=fun W hb=>(hb.block _ (ac_lt hy2)).trans hy2
 have HZ:=hide hz;have HW2:=hide hw2;have HB2:=hide hb2;have HE:Hid (∀W,Below w2.heap.size w2 W→Below w.heap.size w W):=fun W hb=>hb2.trans (hb.mono hb2.size)
 have HD:Hid (∀W,Below w2.heap.size w2 W→Below w2.heap.size w2 W.drew):=fun W hb=>⟨hb.os,hb.tape,hb.output,hb.size,hb.block⟩
 have HR:Hid (Below w2.heap.size w2 w2):=Below.refl _ _;have HO:Hid (∀(W W':World) (B k n:Nat) (t:TypeId) (v:Value) (xs:List Value),Below w2.heap.size w2 W→W.ownsRow W.heap.size t k v n xs→W.ownsRow w.heap.size t k v n xs):=fun W W' B k n t v xs hb h=>owns_mono h (Nat.le_trans hb2.size hb.size)
 obtain⟨c0,c1,c2,c3,c4,c5⟩:=ac6 hx2;obtain⟨k0,k1,k2,k3,k4,k5,k6,k7,k8,k9,k10,k11,k12,k13,k14⟩:=ac15 hy2;have k1':(a.kind == 1)=false:=beq_eq_false_iff_ne.2 n1;have k2':(a.kind == 2)=false:=beq_eq_false_iff_ne.2 n2;have k3':(a.kind == 3)=false:=beq_eq_false_iff_ne.2 n3;have k4':(a.kind == 4)=false:=beq_eq_false_iff_ne.2 n4;have k5':(a.kind == 5)=false:=beq_eq_false_iff_ne.2 n5;have HM:Hid (judgeT s a=(0,[],[],0)):=by show _=_;simp[judgeT,n1,n2,n3,n4,n5]
 clear hw2 hb2 hx2 hy2 hs ha hz n1 n2 n3 n4 n5;go_enter Tryz.func42,Tryz.ntmps42;go_upto_region 1 with (fail);rw[HW2.out];go_wp2;refine bodyPost_ret (v:=.tuple #[.int .i64 0,.slice none 0 0,.slice none 0 0,.int .i64 0]) (by simp[results,Tryz.results42,go_sem]) rfl ?_;have HM2:Hid (judgeT s a=(0,[],[],0)):=by show _=_;exact HM.out.trans rfl
 exact⟨_,_,by rw[HM2.out],by rw[HM2.out];exact two_nil _ _,HE.out _ HR.out⟩
end Go.Proofs.YtiogibfhafoapaaGreat
namespace Go.Proofs.YtiogibfhafoapaaGreat
open Go.RowKit Go.Sort
open Z (Sli SlOk Acd AcdOk)
theorem judge_4 (w:World) (s:Sta) (hs:StaOk w s) (a:Acd) (ha:AcdOk w a) (hz:AcWf a) (hk:a.kind=4) :
  Calls Tryz.prog 42 #[.agg s.arr,.agg a.arr] w (JgP w.heap.size w (judgeT s a)):=by
 obtain⟨w2,hw2,hb2,hx2,hy2⟩:=two_boxes w s.arr a.arr 42 55;have HS2:Hid (∀W,Below w2.heap.size w2 W→StaOk W s):=fun W hb=>(hs.below hb2).below hb
 have HA2:Hid (∀W,Below w2.heap.size w2 W→AcdOk W a):=fun W hb=>(ha.below hb2).below hb
 have HX2:Hid (∀W,Below w2.heap.size w2 W→W.heap[w.heap.size]?=some (.cells s.arr 42 (0,0))):=fun W hb=>(hb.block _ (ac_lt hx2)).trans hx2
 have HY2:Hid (∀W,Below w2.heap.size w2 W→W.heap[w.heap.size+1]?=some (.cells a.arr 55 (0,0))):=fun W hb=>(hb.block _ (ac_lt hy2)).trans hy2
 have HZ:=hide hz;have HW2:=hide hw2;have HB2:=hide hb2;have HE:Hid (∀W,Below w2.heap.size w2 W→Below w.heap.size w W):=fun W hb=>hb2.trans (hb.mono hb2.size)
 have HD:Hid (∀W,Below w2.heap.size w2 W→Below w2.heap.size w2 W.drew):=fun W hb=>⟨hb.os,hb.tape,hb.output,hb.size,hb.block⟩
 have HR:Hid (Below w2.heap.size w2 w2):=Below.refl _ _;have HO:Hid (∀(W W':World) (B k n:Nat) (t:TypeId) (v:Value) (xs:List Value),Below w2.heap.size w2 W→W.ownsRow W.heap.size t k v n xs→W.ownsRow w.heap.size t k v n xs):=fun W W' B k n t v xs hb h=>owns_mono h (Nat.le_trans hb2.size hb.size)
 obtain⟨c0,c1,c2,c3,c4,c5⟩:=ac6 hx2;obtain⟨k0,k1,k2,k3,k4,k5,k6,k7,k8,k9,k10,k11,k12,k13,k14⟩:=ac15 hy2;have k1':(a.kind == 1)=false:=by simp[hk]
 have k2':(a.kind == 2)=false:=by simp[hk]
 have k3':(a.kind == 3)=false:=by simp[hk]
 have k4':(a.kind == 4)=true:=by simp[hk]
 obtain⟨bHs,hHs⟩:∃b,decide (a.rd≤s.held a.till a.ra a.rb)=b:=⟨_,rfl⟩;have HEHs:=hide hHs;have HHs:Hid (∀W,Below w2.heap.size w2 W→Calls Tryz.prog 90 #[.agg s.arr,.int .i64 a.till,.agg #[.int .i64 a.ra,.int .i64 a.rb,.int .i64 a.rd]] W fun e w'=>e=.returned (.bool bHs)∧Below w2.heap.size w2 w'):=fun W hb=>(has_gen W s (HS2.out W hb) a.till a.ra a.rb a.rd).mono fun _ _ ⟨he,h⟩=>⟨by rw[he,←HEHs.out];try rfl,hb.trans (h.mono hb.size)⟩
 obtain⟨nHr,hHr⟩:∃b,wrap64 (18014398509481984 - s.held a.to a.ra a.rb)=b:=⟨_,rfl⟩;have HEHr:=hide hHr;have HHr:Hid (∀W,Below w2.heap.size w2 W→Calls Tryz.prog 91 #[.agg s.arr,.int .i64 a.to,.agg #[.int .i64 a.ra,.int .i64 a.rb]] W fun e w'=>e=.returned (.int .i64 nHr)∧Below w2.heap.size w2 w'):=fun W hb=>(heldRoom_gen W s (HS2.out W hb) a.to a.ra a.rb).mono fun _ _ ⟨he,h⟩=>⟨by rw[he,←HEHr.out],hb.trans (h.mono hb.size)⟩
 have HDn:Hid (∀W b,Below w2.heap.size w2 W→Calls Tryz.prog 89 #[.bool b] W fun e w'=>e=.returned (.int .i64 (doneT b))∧Below w2.heap.size w2 w'):=fun W b hb=>(doneIf_any W b).mono fun _ _ ⟨he,h⟩=>⟨he,by rw[h];exact hb⟩
 have HKo:Hid (∀W,Below w2.heap.size w2 W→Calls Tryz.prog 92 #[.agg #[.int .i64 a.ra,.int .i64 a.rb,.int .i64 a.rd]] W fun e w'=>e=.returned (.agg #[.int .i64 a.ra,.int .i64 a.rb])∧Below w2.heap.size w2 w'):=fun W hb=>(kindOf_any W a.ra a.rb a.rd).mono fun _ _ ⟨he,h⟩=>⟨he,hb.trans (h.mono hb.size)⟩
 have HM:Hid (judgeT s a=(doneT (bHs && decide (a.rd≤nHr)),[],[],0)):=by show _=_;simp[judgeT,hk,hHs,hHr]
 clear hw2 hb2 hx2 hy2 hs ha hz hk hHs hHr
 cases bHs with
 | true =>
  go_enter Tryz.func42,Tryz.ntmps42;go_upto_region 1 with (fail);rw[HW2.out];go_upto_region 9 with (fail);go_region_held3 (fun w'=>w'.cell? ⟨w.heap.size,0,none⟩=some (.int .u64 s.pos)∧w'.cell? ⟨w.heap.size,1,none⟩=some (.slice s.pp s.pn s.pc)∧w'.cell? ⟨w.heap.size,2,none⟩=some (.slice s.rp s.rn s.rc)∧w'.cell? ⟨w.heap.size,3,none⟩=some (.slice s.lp s.ln s.lc)∧w'.cell? ⟨w.heap.size,4,none⟩=some (.slice s.gp s.gn s.gc)∧w'.cell? ⟨w.heap.size,5,none⟩=some (.slice s.op s.on s.oc)∧w'.cell? ⟨w.heap.size+1,0,none⟩=some (.int .i64 a.till)∧w'.cell? ⟨w.heap.size+1,9,none⟩=some (.int .i64 a.ra)∧w'.cell? ⟨w.heap.size+1,10,none⟩=some (.int .i64 a.rb)∧w'.cell? ⟨w.heap.size+1,11,none⟩=some (.int .i64 a.rd)∧w'.cell? ⟨w.heap.size+1,12,none⟩=some (.int .i64 a.to)) (go_keep) (first | (go_at_call 89;refine(HDn.out _ _ (by first | exact Hw5.out | exact HD.out _ Hw5.out)).mono ?_;rintro e w6 ⟨rfl,hbw6⟩;have Hw6:=hide hbw6;obtain⟨cw60,cw61,cw62,cw63,cw64,cw65⟩:=ac6 (HX2.out _ Hw6.out);obtain⟨kw60,kw61,kw62,kw63,kw64,kw65,kw66,kw67,kw68,kw69,kw610,kw611,kw612,kw613,kw614⟩:=ac15 (HY2.out _ Hw6.out);clear hbw6) | (go_at_call 91;refine(HHr.out _ (by first | exact Hw4.out | exact HD.out _ Hw4.out)).mono ?_;rintro e w5 ⟨rfl,hbw5⟩;have Hw5:=hide hbw5;obtain⟨cw50,cw51,cw52,cw53,cw54,cw55⟩:=ac6 (HX2.out _ Hw5.out);obtain⟨kw50,kw51,kw52,kw53,kw54,kw55,kw56,kw57,kw58,kw59,kw510,kw511,kw512,kw513,kw514⟩:=ac15 (HY2.out _ Hw5.out);clear hbw5) | (go_at_call 92;refine(HKo.out _ (by first | exact Hw3.out | exact HD.out _ Hw3.out)).mono ?_;rintro e w4 ⟨rfl,hbw4⟩;have Hw4:=hide hbw4;obtain⟨cw40,cw41,cw42,cw43,cw44,cw45⟩:=ac6 (HX2.out _ Hw4.out);obtain⟨kw40,kw41,kw42,kw43,kw44,kw45,kw46,kw47,kw48,kw49,kw410,kw411,kw412,kw413,kw414⟩:=ac15 (HY2.out _ Hw4.out);clear hbw4) | (go_at_call 90;refine(HHs.out _ (by first | exact HR.out | exact HD.out _ HR.out)).mono ?_;rintro e w3 ⟨rfl,hbw3⟩;have Hw3:=hide hbw3;obtain⟨cw30,cw31,cw32,cw33,cw34,cw35⟩:=ac6 (HX2.out _ Hw3.out);obtain⟨kw30,kw31,kw32,kw33,kw34,kw35,kw36,kw37,kw38,kw39,kw310,kw311,kw312,kw313,kw314⟩:=ac15 (HY2.out _ Hw3.out);clear hbw3) | fail);go_wp2;refine bodyPost_ret (v:=.tuple #[.int .i64 (doneT (decide (a.rd≤nHr))),.slice none 0 0,.slice none 0 0,.int .i64 0]) (by simp[results,Tryz.results42,go_sem]) rfl ?_;have HM2:Hid (judgeT s a=(doneT (decide (a.rd≤nHr)),[],[],0)):=by show _=_;exact HM.out.trans rfl
  exact⟨_,_,by rw[HM2.out],by rw[HM2.out];exact two_nil _ _,HE.out _ Hw6.out⟩
 | false =>
  go_enter Tryz.func42,Tryz.ntmps42;go_upto_region 1 with (fail);rw[HW2.out];clear c0 c1 c2 c3 c4 c5;obtain⟨c0,c1,c2,c3,c4,c5⟩:=ac6 (HX2.out _ HR.out);have hbr:∀d os,Below w2.heap.size w2 (grow (redrawn w2 d) os):=fun d os=>below_regrown w2 d os
  have HQh:=hide (fun d os=>Calls.regrown_of ((has_gen (grow (redrawn w2 d) os) s (HS2.out _ (hbr d os)) a.till a.ra a.rb a.rd).mono fun _ _ ⟨he,h⟩=>(⟨by rw[he,HEHs.out],h⟩:_=Ending.returned (.bool false)∧_)));have HQd:=hide (fun d os=>Calls.regrown_of ((doneIf_any (grow (redrawn w2 d) os) false).mono fun _ _ ⟨he,h⟩=>(⟨he,by rw[h];exact Below.refl _ _⟩:_∧Below _ _ _)));have HBr:=hide hbr;go_upto_region 9 with (fail);have r0:=cell_regrown c0;have r1:=cell_regrown c1;have r2:=cell_regrown c2;have r3:=cell_regrown c3;have r4:=cell_regrown c4;have r5:=cell_regrown c5;have q0:=cell_regrown k0;have q9:=cell_regrown k9;have q10:=cell_regrown k10;have q11:=cell_regrown k11;have q12:=cell_regrown k12;clear c0 c1 c2 c3 c4 c5 hbr;refine wp_region_quiet_below (by kernel_rfl) (by kernel_rfl) ?_;repeat (go_big_quiet_step (first | (go_at_call 90;exact HQh.out _ _) | (go_at_call 89;exact HQd.out _ _)))
  refine wpQuiet_nil ?_;intro _ hw';obtain⟨⟨dq,osq⟩,hw''⟩:=hw';have HB3:=hide (HBr.out dq osq);obtain⟨w3,hw3⟩:∃w3,grow (redrawn w2 dq) osq=w3:=⟨_,rfl⟩;rw[hw3]at HB3;have hw4:=(hw''.trans hw3).symm;subst hw4;clear hw3 hw'';go_wp2;refine bodyPost_ret (v:=.tuple #[.int .i64 (doneT false),.slice none 0 0,.slice none 0 0,.int .i64 0]) (by simp[results,Tryz.results42,go_sem]) rfl ?_;have HM2:Hid (judgeT s a=(doneT false,[],[],0)):=by show _=_;exact HM.out.trans rfl
  exact⟨_,_,by rw[HM2.out],by rw[HM2.out];exact two_nil _ _,HE.out _ HB3.out⟩
theorem judge_any (w:World) (s:Sta) (hs:StaOk w s) (a:Acd) (ha:AcdOk w a) (hz:AcWf a):Calls Tryz.prog 42 #[.agg s.arr,.agg a.arr] w (JgP w.heap.size w (judgeT s a)):=by
 by_cases h1:a.kind=1
 ·exact judge_1 w s hs a ha hz h1
 by_cases h2:a.kind=2
 ·exact judge_2 w s hs a ha hz h2
 by_cases h3:a.kind=3
 ·exact judge_3 w s hs a ha hz h3
 by_cases h4:a.kind=4
 ·exact judge_4 w s hs a ha hz h4
 by_cases h5:a.kind=5
 ·exact judge_5 w s hs a ha hz h5
 exact judge_0 w s hs a ha hz h1 h2 h3 h4 h5
end Go.Proofs.YtiogibfhafoapaaGreat
