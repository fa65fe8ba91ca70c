import Derived.Test.YtiogibfhafoapaaGreatDcI
import Derived.Deep.CutRange
import Derived.Test.YtiogibfhafoapaaGreatAbA
import Derived.Test.YtiogibfhafoapaaGreatAbZ
import Derived.Test.YtiogibfhafoapaaGreatRwK
set_option maxRecDepth 100000
set_option maxHeartbeats 8000000
set_option linter.unusedSimpArgs false
set_option linter.unusedVariables false
namespace Go.Proofs.YtiogibfhafoapaaGreat
open Go.RowKit
theorem QhO (w:World) (p q:Option Addr) (n m cap cap':Nat) (xs ys:List Tri) (hn:xs.length=n) (hm:ys.length=m) (hnl:n≤140737488355328) (hc:Cel w p 3 (xs.map Qar)) (hd:Cel w q 3 (ys.map Qar)) (A:Bool) (hA:A=true↔xs=ys) :
  Calls Tryz.prog 82 #[.slice p n cap,.slice q m cap'] w fun e w'=>e=.returned (.bool A)∧Below w.heap.size w w':=by
 obtain⟨HC,HD,HA⟩:=Qmk hc hd hA;clear hc hd hA;by_cases hl:n=m
 ·subst hl
  go_enter Tryz.func82,Tryz.ntmps82;go_wp2;go_loopw [5] (fun i wr=>∃j:Nat,j≤n∧i=.int .i64 j∧Hid (Below w.heap.size w wr)∧Hid (xs.take j=ys.take j)) (fun i _=>n - (intOf i).toNat);case atStart=>exact⟨0,Vo _,rfl,bR,rfl⟩
  case round =>
   obtain⟨j,hj,rfl,HBr,HT⟩:=hrel;by_cases hlt:j<n
   ·have hlt':(j:Int)<(n:Int):=by omega
    have i0:(0:Int)≤(j:Int):=by omega
    obtain⟨x,hx⟩:∃x,xs[j]?=some x:=⟨_,gE (by omega)⟩;obtain⟨y,hy⟩:∃y,ys[j]?=some y:=⟨_,gE (by omega)⟩;obtain⟨b,o,rfl,hbl,hcl⟩:=HC.out.get (i:=j) (r:=Qar x) (by simp[hx]);obtain⟨b',o',rfl,hbl',hcl'⟩:=HD.out.get (i:=j) (r:=Qar y) (by simp[hy]);have f:∀i v,(Qar x)[i]?=some v→wr.cell? ⟨b,o+j*3+i,none⟩=some v:=fun i v hv=>(HBr.out.cell (p:=⟨b,o+j*3+i,none⟩) hbl).trans (hcl i v hv)
    have f':∀i v,(Qar y)[i]?=some v→wr.cell? ⟨b',o'+j*3+i,none⟩=some v:=fun i v hv=>(HBr.out.cell (p:=⟨b',o'+j*3+i,none⟩) hbl').trans (hcl' i v hv)
    have a0:=f 0 _ rfl;have a1:=f 1 _ rfl;have a2:=f 2 _ rfl;have b0:=f' 0 _ rfl;have b1:=f' 1 _ rfl;have b2:=f' 2 _ rfl;rw[Vr]at a0 b0;obtain⟨xa,xb,xn⟩:=x;obtain⟨ya,yb,yn⟩:=y;simp only at a0 a1 a2 b0 b1 b2;clear f f' hcl hcl';have HBd:Hid (Below w.heap.size w wr.drew):=HBr.out.drew;by_cases he:(⟨xa,xb,xn⟩:Tri)=⟨ya,yb,yn⟩
    ·cases he
     have HT2:Hid (xs.take (j+1)=ys.take (j+1)):=by show _=_;rw[VS,VS,hx,hy,HT.out]
     go_upto_region 6 with (fail);go_region;go_wp2;go_roundw;case rel=>exact⟨j+1,by omega,by go_num,HBd,HT2⟩
     case measure=>simp[intOf];omega
    ·have HF:Hid (A=false):=by
      show A=false
      cases hAA:A with
      | false=>rfl
      | true=>exact(Qgb hx hy he (HA.out.1 hAA)).elim
     rcases Qfq he with h1 | ⟨h1,h2⟩ | ⟨h1,h3,h2⟩
     ·go_upto_region 6 with (fail)
      go_region;all_goals go_wp2
      all_goals go_ret
      all_goals exact⟨Qda HF.out,HBd.out⟩
     ·subst h1
      go_upto_region 6 with (fail);go_region;all_goals go_wp2
      all_goals go_ret
      all_goals exact⟨Qda HF.out,HBd.out⟩
     ·subst h1
      subst h3;go_upto_region 6 with (fail);go_region;all_goals go_wp2
      all_goals go_ret
      all_goals exact⟨Qda HF.out,HBd.out⟩
   ·have e1:¬(j:Int)<(n:Int):=by omega
    have HT':Hid (A=true):=HA.out.2 (by have h:=HT.out;rw[Vh (by omega),Vh (by omega)]at h;exact h);go_wp2;go_ret;exact⟨Qda HT'.out,HBr.out⟩
 ·have hl':¬(n:Int)=(m:Int):=by omega
  have HF:Hid (A=false):=by
   show A=false
   cases hAA:A with
   | false=>rfl
   | true=>exact(hl (by rw[←hn,←hm,HA.out.1 hAA])).elim
  go_enter Tryz.func82,Tryz.ntmps82;go_wp2;go_ret;exact⟨Qda HF.out,bR⟩
theorem Qg1 (w:World) (p q:Option Addr) (n m cap cap':Nat) (xs ys:List Tri) (hn:xs.length=n) (hm:ys.length=m) (hnl:n≤140737488355328) (hc:Cel w p 3 (xs.map Qar)) (hd:Cel w q 3 (ys.map Qar)) (A:Bool) (hA:A=true↔xs=ys) :
  Calls Tryz.prog 26 #[.slice p n cap,.slice q m cap'] w fun e w'=>e=.returned (.bool A)∧Below w.heap.size w w':=by
 obtain⟨HC,HD,HA⟩:=Qmk hc hd hA;clear hc hd hA;by_cases hl:n=m
 ·subst hl
  go_enter Tryz.func26,Tryz.ntmps26;go_wp2;go_loopw [5] (fun i wr=>∃j:Nat,j≤n∧i=.int .i64 j∧Hid (Below w.heap.size w wr)∧Hid (xs.take j=ys.take j)) (fun i _=>n - (intOf i).toNat);case atStart=>exact⟨0,Vo _,rfl,bR,rfl⟩
  case round =>
   obtain⟨j,hj,rfl,HBr,HT⟩:=hrel;by_cases hlt:j<n
   ·have hlt':(j:Int)<(n:Int):=by omega
    have i0:(0:Int)≤(j:Int):=by omega
    obtain⟨x,hx⟩:∃x,xs[j]?=some x:=⟨_,gE (by omega)⟩;obtain⟨y,hy⟩:∃y,ys[j]?=some y:=⟨_,gE (by omega)⟩;obtain⟨b,o,rfl,hbl,hcl⟩:=HC.out.get (i:=j) (r:=Qar x) (by simp[hx]);obtain⟨b',o',rfl,hbl',hcl'⟩:=HD.out.get (i:=j) (r:=Qar y) (by simp[hy]);have f:∀i v,(Qar x)[i]?=some v→wr.cell? ⟨b,o+j*3+i,none⟩=some v:=fun i v hv=>(HBr.out.cell (p:=⟨b,o+j*3+i,none⟩) hbl).trans (hcl i v hv)
    have f':∀i v,(Qar y)[i]?=some v→wr.cell? ⟨b',o'+j*3+i,none⟩=some v:=fun i v hv=>(HBr.out.cell (p:=⟨b',o'+j*3+i,none⟩) hbl').trans (hcl' i v hv)
    have a0:=f 0 _ rfl;have a1:=f 1 _ rfl;have a2:=f 2 _ rfl;have b0:=f' 0 _ rfl;have b1:=f' 1 _ rfl;have b2:=f' 2 _ rfl;rw[Vr]at a0 b0;obtain⟨xa,xb,xn⟩:=x;obtain⟨ya,yb,yn⟩:=y;simp only at a0 a1 a2 b0 b1 b2;clear f f' hcl hcl';have HBd:Hid (Below w.heap.size w wr.drew):=HBr.out.drew;by_cases he:(⟨xa,xb,xn⟩:Tri)=⟨ya,yb,yn⟩
    ·cases he
     have HT2:Hid (xs.take (j+1)=ys.take (j+1)):=by show _=_;rw[VS,VS,hx,hy,HT.out]
     go_upto_region 6 with (fail);go_region;go_wp2;go_roundw;case rel=>exact⟨j+1,by omega,by go_num,HBd,HT2⟩
     case measure=>simp[intOf];omega
    ·have HF:Hid (A=false):=by
      show A=false
      cases hAA:A with
      | false=>rfl
      | true=>exact(Qgb hx hy he (HA.out.1 hAA)).elim
     rcases Qfq he with h1 | ⟨h1,h2⟩ | ⟨h1,h3,h2⟩
     ·go_upto_region 6 with (fail)
      go_region;all_goals go_wp2
      all_goals go_ret
      all_goals exact⟨Qda HF.out,HBd.out⟩
     ·subst h1
      go_upto_region 6 with (fail);go_region;all_goals go_wp2
      all_goals go_ret
      all_goals exact⟨Qda HF.out,HBd.out⟩
     ·subst h1
      subst h3;go_upto_region 6 with (fail);go_region;all_goals go_wp2
      all_goals go_ret
      all_goals exact⟨Qda HF.out,HBd.out⟩
   ·have e1:¬(j:Int)<(n:Int):=by omega
    have HT':Hid (A=true):=HA.out.2 (by have h:=HT.out;rw[Vh (by omega),Vh (by omega)]at h;exact h);go_wp2;go_ret;exact⟨Qda HT'.out,HBr.out⟩
 ·have hl':¬(n:Int)=(m:Int):=by omega
  have HF:Hid (A=false):=by
   show A=false
   cases hAA:A with
   | false=>rfl
   | true=>exact(hl (by rw[←hn,←hm,HA.out.1 hAA])).elim
  go_enter Tryz.func26,Tryz.ntmps26;go_wp2;go_ret;exact⟨Qda HF.out,bR⟩
end Go.Proofs.YtiogibfhafoapaaGreat
namespace Go.Proofs.YtiogibfhafoapaaGreat
open Go.RowKit
open Z (Sli QaE Acd Qad)
theorem Qbj (p:Prop):∃b:Bool,b=true↔p:=by
 by_cases h:p
 ·exact⟨true,by simp[h]⟩
 ·exact⟨false,by simp[h]⟩
theorem Qek (w:World) (x a:Acd) (hx:Qad w x) (ha:Qad w a) (D:Bool) (hD:D=true↔x.d=a.d) :
  Calls Tryz.prog 36 #[.agg (qA x),.agg (qA a)] w fun e w'=>e=.returned (.bool D)∧Below w.heap.size w w':=by
 obtain⟨w2,hw2,hb2,hx2,hy2⟩:=QaQ w (qA x) 55 55 (qA a);obtain⟨HW2,HB2,HX2,HY2⟩:=hd4 hw2 hb2 hx2 hy2;obtain⟨b_lines,hb_lines⟩:=Qbj (x.lines.xs=a.lines.xs);have H_lines:Hid (∀W,Below w2.heap.size w2 W→Calls Tryz.prog 25 #[.slice x.lines.p x.lines.n x.lines.c,.slice a.lines.p a.lines.n a.lines.c] W fun e w'=>e=.returned (.bool b_lines)∧Below w2.heap.size w2 w'):=fun W hb=>(Qa6 W x.lines.p a.lines.p x.lines.n a.lines.n x.lines.c a.lines.c x.lines.xs a.lines.xs hx.lines.len ha.lines.len (by have:=hx.lines.most;omega) ((hx.lines.below hb2).below hb).cel ((ha.lines.below hb2).below hb).cel b_lines hb_lines).mono fun _ _ ⟨he,h⟩=>⟨he,hb.trans (h.mono hb.size)⟩
 obtain⟨b_guards,hb_guards⟩:=Qbj (x.guards.xs=a.guards.xs);have H_guards:Hid (∀W,Below w2.heap.size w2 W→Calls Tryz.prog 82 #[.slice x.guards.p x.guards.n x.guards.c,.slice a.guards.p a.guards.n a.guards.c] W fun e w'=>e=.returned (.bool b_guards)∧Below w2.heap.size w2 w'):=fun W hb=>(QhO W x.guards.p a.guards.p x.guards.n a.guards.n x.guards.c a.guards.c x.guards.xs a.guards.xs hx.guards.len ha.guards.len (by have:=hx.guards.most;omega) ((hx.guards.below hb2).below hb).cel ((ha.guards.below hb2).below hb).cel b_guards hb_guards).mono fun _ _ ⟨he,h⟩=>⟨he,hb.trans (h.mono hb.size)⟩
 obtain⟨b_sets,hb_sets⟩:=Qbj (x.sets.xs=a.sets.xs);have H_sets:Hid (∀W,Below w2.heap.size w2 W→Calls Tryz.prog 26 #[.slice x.sets.p x.sets.n x.sets.c,.slice a.sets.p a.sets.n a.sets.c] W fun e w'=>e=.returned (.bool b_sets)∧Below w2.heap.size w2 w'):=fun W hb=>(Qg1 W x.sets.p a.sets.p x.sets.n a.sets.n x.sets.c a.sets.c x.sets.xs a.sets.xs hx.sets.len ha.sets.len (by have:=hx.sets.most;omega) ((hx.sets.below hb2).below hb).cel ((ha.sets.below hb2).below hb).cel b_sets hb_sets).mono fun _ _ ⟨he,h⟩=>⟨he,hb.trans (h.mono hb.size)⟩
 obtain⟨b_other,hb_other⟩:=Qbj (x.other.xs=a.other.xs);have H_other:Hid (∀W,Below w2.heap.size w2 W→Calls Tryz.prog 25 #[.slice x.other.p x.other.n x.other.c,.slice a.other.p a.other.n a.other.c] W fun e w'=>e=.returned (.bool b_other)∧Below w2.heap.size w2 w'):=fun W hb=>(Qa6 W x.other.p a.other.p x.other.n a.other.n x.other.c a.other.c x.other.xs a.other.xs hx.other.len ha.other.len (by have:=hx.other.most;omega) ((hx.other.below hb2).below hb).cel ((ha.other.below hb2).below hb).cel b_other hb_other).mono fun _ _ ⟨he,h⟩=>⟨he,hb.trans (h.mono hb.size)⟩
 obtain⟨b_rights,hb_rights⟩:=Qbj (x.rights.xs=a.rights.xs);have H_rights:Hid (∀W,Below w2.heap.size w2 W→Calls Tryz.prog 51 #[.slice x.rights.p x.rights.n x.rights.c,.slice a.rights.p a.rights.n a.rights.c] W fun e w'=>e=.returned (.bool b_rights)∧Below w2.heap.size w2 w'):=fun W hb=>(Qdw W x.rights.p a.rights.p x.rights.n a.rights.n x.rights.c a.rights.c x.rights.xs a.rights.xs hx.rights.len ha.rights.len (by have:=hx.rights.most;omega) ((hx.rights.below hb2).below hb).cel ((ha.rights.below hb2).below hb).cel b_rights hb_rights).mono fun _ _ ⟨he,h⟩=>⟨he,hb.trans (h.mono hb.size)⟩
 obtain⟨H,hH⟩:∃b:Bool,decide (x.till=a.till∧x.num=a.num∧x.kind=a.kind∧x.sure=a.sure)=b:=⟨_,rfl⟩;obtain⟨R,hR⟩:∃b:Bool,decide (x.mg=a.mg∧(x.ra=a.ra∧x.rb=a.rb∧x.rd=a.rd)∧x.to=a.to∧x.gen=a.gen)=b:=⟨_,rfl⟩
 have HD:Hid (D=(H && R && b_lines && b_guards && b_sets && b_other && b_rights)):=by
  show D=_;rw[Bool.eq_iff_iff,hD];simp only[Z.Acd.d,Z.AcP.mk.injEq,Vs,←hH,←hR,hb_lines,hb_guards,hb_sets,hb_other,hb_rights,decide_eq_true_eq];constructor
  ·rintro ⟨e0,e1,e2,e3,e4,e5,e6,e7,e8,e9,e10,e11,e12,e13,e14⟩
   exact⟨⟨⟨⟨⟨⟨⟨e0,e1,e2,e3⟩,e7,⟨e9,e10,e11⟩,e12,e13⟩,e4⟩,e5⟩,e6⟩,e8⟩,e14⟩
  ·rintro ⟨⟨⟨⟨⟨⟨⟨e0,e1,e2,e3⟩,e7,⟨e9,e10,e11⟩,e12,e13⟩,e4⟩,e5⟩,e6⟩,e8⟩,e14⟩
   exact⟨e0,e1,e2,e3,e4,e5,e6,e7,e8,e9,e10,e11,e12,e13,e14⟩
 have HF:Hid (∀W,Below w2.heap.size w2 W→(W.cell? ⟨w.heap.size,0,none⟩=some (.int .i64 x.till)∧W.cell? ⟨w.heap.size,1,none⟩=some (.int .u64 x.num)∧W.cell? ⟨w.heap.size,2,none⟩=some (.int .i64 x.kind)∧W.cell? ⟨w.heap.size,3,none⟩=some (.bool x.sure)∧W.cell? ⟨w.heap.size,4,none⟩=some (.slice x.lines.p x.lines.n x.lines.c)∧W.cell? ⟨w.heap.size,5,none⟩=some (.slice x.guards.p x.guards.n x.guards.c)∧W.cell? ⟨w.heap.size,6,none⟩=some (.slice x.sets.p x.sets.n x.sets.c)∧W.cell? ⟨w.heap.size,7,none⟩=some (.int .i64 x.mg)∧W.cell? ⟨w.heap.size,8,none⟩=some (.slice x.other.p x.other.n x.other.c)∧W.cell? ⟨w.heap.size,9,none⟩=some (.int .i64 x.ra)∧W.cell? ⟨w.heap.size,10,none⟩=some (.int .i64 x.rb)∧W.cell? ⟨w.heap.size,11,none⟩=some (.int .i64 x.rd)∧W.cell? ⟨w.heap.size,12,none⟩=some (.int .i64 x.to)∧W.cell? ⟨w.heap.size,13,none⟩=some (.int .u64 x.gen)∧W.cell? ⟨w.heap.size,14,none⟩=some (.slice x.rights.p x.rights.n x.rights.c))∧(W.cell? ⟨w.heap.size+1,0,none⟩=some (.int .i64 a.till)∧W.cell? ⟨w.heap.size+1,1,none⟩=some (.int .u64 a.num)∧W.cell? ⟨w.heap.size+1,2,none⟩=some (.int .i64 a.kind)∧W.cell? ⟨w.heap.size+1,3,none⟩=some (.bool a.sure)∧W.cell? ⟨w.heap.size+1,4,none⟩=some (.slice a.lines.p a.lines.n a.lines.c)∧W.cell? ⟨w.heap.size+1,5,none⟩=some (.slice a.guards.p a.guards.n a.guards.c)∧W.cell? ⟨w.heap.size+1,6,none⟩=some (.slice a.sets.p a.sets.n a.sets.c)∧W.cell? ⟨w.heap.size+1,7,none⟩=some (.int .i64 a.mg)∧W.cell? ⟨w.heap.size+1,8,none⟩=some (.slice a.other.p a.other.n a.other.c)∧W.cell? ⟨w.heap.size+1,9,none⟩=some (.int .i64 a.ra)∧W.cell? ⟨w.heap.size+1,10,none⟩=some (.int .i64 a.rb)∧W.cell? ⟨w.heap.size+1,11,none⟩=some (.int .i64 a.rd)∧W.cell? ⟨w.heap.size+1,12,none⟩=some (.int .i64 a.to)∧W.cell? ⟨w.heap.size+1,13,none⟩=some (.int .u64 a.gen)∧W.cell? ⟨w.heap.size+1,14,none⟩=some (.slice a.rights.p a.rights.n a.rights.c))):=fun W hb=>⟨QaA ((hb.block _ (Qab HX2.out)).trans HX2.out),QaA ((hb.block _ (Qab HY2.out)).trans HY2.out)⟩
 have HR2:Hid (Below w2.heap.size w2 w2):=bR;obtain⟨HH,HRr⟩:=Qmj hH hR;clear hw2 hb2 hx2 hy2 hx ha hD hH hR hb_lines hb_guards hb_sets hb_other hb_rights;obtain⟨⟨x0,x1,x2,x3,x4,x5,x6,x7,x8,x9,x10,x11,x12,x13,x14⟩,y0,y1,y2,y3,y4,y5,y6,y7,y8,y9,y10,y11,y12,y13,y14⟩:=HF.out w2 HR2.out;rw[HD.out];clear HD;go_enter Tryz.func36,Tryz.ntmps36;go_upto_region 1 with (fail);rw[HW2.out];go_cut [5] from 7 to 37 (fun v w'=>v=.bool H∧w'=w2)
 case first =>
  have HHo:=HH.out;by_cases q0:x.till=a.till
  ·have p0:((x.till:Int) == a.till)=true:=by simp[q0]
   by_cases q1:x.num=a.num
   ·have p1:((x.num:Int) == a.num)=true:=by simp[q1]
    by_cases q2:x.kind=a.kind
    ·have p2:((x.kind:Int) == a.kind)=true:=by simp[q2]
     have hHv:H=(x.sure == a.sure):=by rw[←HHo];simp[q0,q1,q2];cases x.sure <;> cases a.sure <;> rfl
     clear q0 q1 q2 HHo;generalize x.sure=sx at *;generalize a.sure=sa at *;cases sx <;> cases sa
     ·(go_wp2_with fail;go_meet;exact⟨by rw[hHv] <;> rfl,rfl⟩)
     ·(go_wp2_with fail;go_meet;exact⟨by rw[hHv] <;> rfl,rfl⟩)
     ·(go_wp2_with fail;go_meet;exact⟨by rw[hHv] <;> rfl,rfl⟩)
     ·(go_wp2_with fail;go_meet;exact⟨by rw[hHv] <;> rfl,rfl⟩)
    ·have p2:((x.kind:Int) == a.kind)=false:=by simp[q2]
     have hHv:H=false:=by rw[←HHo];simp[q2]
     clear q0 q1 q2 HHo
     (go_wp2_with fail;go_meet;exact⟨by rw[hHv] <;> rfl,rfl⟩)
   ·have p1:((x.num:Int) == a.num)=false:=by simp[q1]
    have hHv:H=false:=by rw[←HHo];simp[q1]
    clear q0 q1 HHo
    (go_wp2_with fail;go_meet;exact⟨by rw[hHv] <;> rfl,rfl⟩)
  ·have p0:((x.till:Int) == a.till)=false:=by simp[q0]
   have hHv:H=false:=by rw[←HHo];simp[q0]
   clear q0 HHo
   (go_wp2_with fail;go_meet;exact⟨by rw[hHv] <;> rfl,rfl⟩)
 case rest =>
  obtain⟨rfl,hwc⟩:=hcut;rw[hwc];clear hwc wc;go_upto_region 2 with (fail);go_cut [6] from 37 to 65 (fun v w'=>v=.bool R∧w'=w2)
  case first =>
   have HRo:=HRr.out;by_cases q0:x.mg=a.mg
   ·have p0:((x.mg:Int) == a.mg)=true:=by simp[q0]
    by_cases q1:x.ra=a.ra
    ·have p1:((x.ra:Int) == a.ra)=true:=by simp[q1]
     by_cases q2:x.rb=a.rb
     ·have p2:((x.rb:Int) == a.rb)=true:=by simp[q2]
      by_cases q3:x.rd=a.rd
      ·have p3:((x.rd:Int) == a.rd)=true:=by simp[q3]
       by_cases q4:x.to=a.to
       ·have p4:((x.to:Int) == a.to)=true:=by simp[q4]
        have hHv:R=((x.gen:Int) == a.gen):=by rw[←HRo];simp[q0,q1,q2,q3,q4];rfl
        clear q0 q1 q2 q3 q4 HRo
        (go_wp2_with fail;go_meet;exact⟨by rw[hHv] <;> rfl,rfl⟩)
       ·have p4:((x.to:Int) == a.to)=false:=by simp[q4]
        have hHv:R=false:=by rw[←HRo];simp[q4]
        clear q0 q1 q2 q3 q4 HRo
        (go_wp2_with fail;go_meet;exact⟨by rw[hHv] <;> rfl,rfl⟩)
      ·have p3:((x.rd:Int) == a.rd)=false:=by simp[q3]
       have hHv:R=false:=by rw[←HRo];simp[q3]
       clear q0 q1 q2 q3 HRo
       (go_wp2_with fail;go_meet;exact⟨by rw[hHv] <;> rfl,rfl⟩)
     ·have p2:((x.rb:Int) == a.rb)=false:=by simp[q2]
      have hHv:R=false:=by rw[←HRo];simp[q2]
      clear q0 q1 q2 HRo
      (go_wp2_with fail;go_meet;exact⟨by rw[hHv] <;> rfl,rfl⟩)
    ·have p1:((x.ra:Int) == a.ra)=false:=by simp[q1]
     have hHv:R=false:=by rw[←HRo];simp[q1]
     clear q0 q1 HRo
     (go_wp2_with fail;go_meet;exact⟨by rw[hHv] <;> rfl,rfl⟩)
   ·have p0:((x.mg:Int) == a.mg)=false:=by simp[q0]
    have hHv:R=false:=by rw[←HRo];simp[q0]
    clear q0 HRo
    (go_wp2_with fail;go_meet;exact⟨by rw[hHv] <;> rfl,rfl⟩)
  case rest =>
   obtain⟨rfl,hwc⟩:=hcut;rw[hwc];clear hwc wc;go_upto_region 3 with (fail)
   cases H with
   | false =>
    go_wp2_with (first | (go_at_call_of 25 (Value.slice a.lines.p a.lines.n a.lines.c);refine(H_lines.out _ HR2.out).mono ?_;rintro e v0 ⟨rfl,hb⟩;have HB00:=Qaa hb;clear x0 x1 x2 x3 x4 x5 x6 x7 x8 x9 x10 x11 x12 x13 x14 y0 y1 y2 y3 y4 y5 y6 y7 y8 y9 y10 y11 y12 y13 y14;obtain⟨⟨x0,x1,x2,x3,x4,x5,x6,x7,x8,x9,x10,x11,x12,x13,x14⟩,y0,y1,y2,y3,y4,y5,y6,y7,y8,y9,y10,y11,y12,y13,y14⟩:=HF.out v0 hb;clear hb) | (go_at_call_of 82 (Value.slice a.guards.p a.guards.n a.guards.c);refine(H_guards.out _ HB00.out).mono ?_;rintro e v1 ⟨rfl,hb⟩;have HB11:=Qaa hb;clear x0 x1 x2 x3 x4 x5 x6 x7 x8 x9 x10 x11 x12 x13 x14 y0 y1 y2 y3 y4 y5 y6 y7 y8 y9 y10 y11 y12 y13 y14;obtain⟨⟨x0,x1,x2,x3,x4,x5,x6,x7,x8,x9,x10,x11,x12,x13,x14⟩,y0,y1,y2,y3,y4,y5,y6,y7,y8,y9,y10,y11,y12,y13,y14⟩:=HF.out v1 hb;clear hb) | (go_at_call_of 26 (Value.slice a.sets.p a.sets.n a.sets.c);refine(H_sets.out _ HB11.out).mono ?_;rintro e v2 ⟨rfl,hb⟩;have HB22:=Qaa hb;clear x0 x1 x2 x3 x4 x5 x6 x7 x8 x9 x10 x11 x12 x13 x14 y0 y1 y2 y3 y4 y5 y6 y7 y8 y9 y10 y11 y12 y13 y14;obtain⟨⟨x0,x1,x2,x3,x4,x5,x6,x7,x8,x9,x10,x11,x12,x13,x14⟩,y0,y1,y2,y3,y4,y5,y6,y7,y8,y9,y10,y11,y12,y13,y14⟩:=HF.out v2 hb;clear hb) | (go_at_call_of 25 (Value.slice a.other.p a.other.n a.other.c);refine(H_other.out _ HB22.out).mono ?_;rintro e v3 ⟨rfl,hb⟩;have HB33:=Qaa hb;clear x0 x1 x2 x3 x4 x5 x6 x7 x8 x9 x10 x11 x12 x13 x14 y0 y1 y2 y3 y4 y5 y6 y7 y8 y9 y10 y11 y12 y13 y14;obtain⟨⟨x0,x1,x2,x3,x4,x5,x6,x7,x8,x9,x10,x11,x12,x13,x14⟩,y0,y1,y2,y3,y4,y5,y6,y7,y8,y9,y10,y11,y12,y13,y14⟩:=HF.out v3 hb;clear hb) | (go_at_call_of 51 (Value.slice a.rights.p a.rights.n a.rights.c);refine(H_rights.out _ HB33.out).mono ?_;rintro e v4 ⟨rfl,hb⟩;have HB44:=Qaa hb;clear x0 x1 x2 x3 x4 x5 x6 x7 x8 x9 x10 x11 x12 x13 x14 y0 y1 y2 y3 y4 y5 y6 y7 y8 y9 y10 y11 y12 y13 y14;obtain⟨⟨x0,x1,x2,x3,x4,x5,x6,x7,x8,x9,x10,x11,x12,x13,x14⟩,y0,y1,y2,y3,y4,y5,y6,y7,y8,y9,y10,y11,y12,y13,y14⟩:=HF.out v4 hb;clear hb) | fail)
    go_ret;exact⟨rfl,HB2.out⟩
   | true =>
    cases R with
    | false =>
     go_wp2_with (first | (go_at_call_of 25 (Value.slice a.lines.p a.lines.n a.lines.c);refine(H_lines.out _ HR2.out).mono ?_;rintro e v0 ⟨rfl,hb⟩;have HB00:=Qaa hb;clear x0 x1 x2 x3 x4 x5 x6 x7 x8 x9 x10 x11 x12 x13 x14 y0 y1 y2 y3 y4 y5 y6 y7 y8 y9 y10 y11 y12 y13 y14;obtain⟨⟨x0,x1,x2,x3,x4,x5,x6,x7,x8,x9,x10,x11,x12,x13,x14⟩,y0,y1,y2,y3,y4,y5,y6,y7,y8,y9,y10,y11,y12,y13,y14⟩:=HF.out v0 hb;clear hb) | (go_at_call_of 82 (Value.slice a.guards.p a.guards.n a.guards.c);refine(H_guards.out _ HB00.out).mono ?_;rintro e v1 ⟨rfl,hb⟩;have HB11:=Qaa hb;clear x0 x1 x2 x3 x4 x5 x6 x7 x8 x9 x10 x11 x12 x13 x14 y0 y1 y2 y3 y4 y5 y6 y7 y8 y9 y10 y11 y12 y13 y14;obtain⟨⟨x0,x1,x2,x3,x4,x5,x6,x7,x8,x9,x10,x11,x12,x13,x14⟩,y0,y1,y2,y3,y4,y5,y6,y7,y8,y9,y10,y11,y12,y13,y14⟩:=HF.out v1 hb;clear hb) | (go_at_call_of 26 (Value.slice a.sets.p a.sets.n a.sets.c);refine(H_sets.out _ HB11.out).mono ?_;rintro e v2 ⟨rfl,hb⟩;have HB22:=Qaa hb;clear x0 x1 x2 x3 x4 x5 x6 x7 x8 x9 x10 x11 x12 x13 x14 y0 y1 y2 y3 y4 y5 y6 y7 y8 y9 y10 y11 y12 y13 y14;obtain⟨⟨x0,x1,x2,x3,x4,x5,x6,x7,x8,x9,x10,x11,x12,x13,x14⟩,y0,y1,y2,y3,y4,y5,y6,y7,y8,y9,y10,y11,y12,y13,y14⟩:=HF.out v2 hb;clear hb) | (go_at_call_of 25 (Value.slice a.other.p a.other.n a.other.c);refine(H_other.out _ HB22.out).mono ?_;rintro e v3 ⟨rfl,hb⟩;have HB33:=Qaa hb;clear x0 x1 x2 x3 x4 x5 x6 x7 x8 x9 x10 x11 x12 x13 x14 y0 y1 y2 y3 y4 y5 y6 y7 y8 y9 y10 y11 y12 y13 y14;obtain⟨⟨x0,x1,x2,x3,x4,x5,x6,x7,x8,x9,x10,x11,x12,x13,x14⟩,y0,y1,y2,y3,y4,y5,y6,y7,y8,y9,y10,y11,y12,y13,y14⟩:=HF.out v3 hb;clear hb) | (go_at_call_of 51 (Value.slice a.rights.p a.rights.n a.rights.c);refine(H_rights.out _ HB33.out).mono ?_;rintro e v4 ⟨rfl,hb⟩;have HB44:=Qaa hb;clear x0 x1 x2 x3 x4 x5 x6 x7 x8 x9 x10 x11 x12 x13 x14 y0 y1 y2 y3 y4 y5 y6 y7 y8 y9 y10 y11 y12 y13 y14;obtain⟨⟨x0,x1,x2,x3,x4,x5,x6,x7,x8,x9,x10,x11,x12,x13,x14⟩,y0,y1,y2,y3,y4,y5,y6,y7,y8,y9,y10,y11,y12,y13,y14⟩:=HF.out v4 hb;clear hb) | fail)
     go_ret;exact⟨rfl,HB2.out⟩
    | true =>
     cases b_lines with
     | false =>
      go_wp2_with (first | (go_at_call_of 25 (Value.slice a.lines.p a.lines.n a.lines.c);refine(H_lines.out _ HR2.out).mono ?_;rintro e v0 ⟨rfl,hb⟩;have HB00:=Qaa hb;clear x0 x1 x2 x3 x4 x5 x6 x7 x8 x9 x10 x11 x12 x13 x14 y0 y1 y2 y3 y4 y5 y6 y7 y8 y9 y10 y11 y12 y13 y14;obtain⟨⟨x0,x1,x2,x3,x4,x5,x6,x7,x8,x9,x10,x11,x12,x13,x14⟩,y0,y1,y2,y3,y4,y5,y6,y7,y8,y9,y10,y11,y12,y13,y14⟩:=HF.out v0 hb;clear hb) | (go_at_call_of 82 (Value.slice a.guards.p a.guards.n a.guards.c);refine(H_guards.out _ HB00.out).mono ?_;rintro e v1 ⟨rfl,hb⟩;have HB11:=Qaa hb;clear x0 x1 x2 x3 x4 x5 x6 x7 x8 x9 x10 x11 x12 x13 x14 y0 y1 y2 y3 y4 y5 y6 y7 y8 y9 y10 y11 y12 y13 y14;obtain⟨⟨x0,x1,x2,x3,x4,x5,x6,x7,x8,x9,x10,x11,x12,x13,x14⟩,y0,y1,y2,y3,y4,y5,y6,y7,y8,y9,y10,y11,y12,y13,y14⟩:=HF.out v1 hb;clear hb) | (go_at_call_of 26 (Value.slice a.sets.p a.sets.n a.sets.c);refine(H_sets.out _ HB11.out).mono ?_;rintro e v2 ⟨rfl,hb⟩;have HB22:=Qaa hb;clear x0 x1 x2 x3 x4 x5 x6 x7 x8 x9 x10 x11 x12 x13 x14 y0 y1 y2 y3 y4 y5 y6 y7 y8 y9 y10 y11 y12 y13 y14;obtain⟨⟨x0,x1,x2,x3,x4,x5,x6,x7,x8,x9,x10,x11,x12,x13,x14⟩,y0,y1,y2,y3,y4,y5,y6,y7,y8,y9,y10,y11,y12,y13,y14⟩:=HF.out v2 hb;clear hb) | (go_at_call_of 25 (Value.slice a.other.p a.other.n a.other.c);refine(H_other.out _ HB22.out).mono ?_;rintro e v3 ⟨rfl,hb⟩;have HB33:=Qaa hb;clear x0 x1 x2 x3 x4 x5 x6 x7 x8 x9 x10 x11 x12 x13 x14 y0 y1 y2 y3 y4 y5 y6 y7 y8 y9 y10 y11 y12 y13 y14;obtain⟨⟨x0,x1,x2,x3,x4,x5,x6,x7,x8,x9,x10,x11,x12,x13,x14⟩,y0,y1,y2,y3,y4,y5,y6,y7,y8,y9,y10,y11,y12,y13,y14⟩:=HF.out v3 hb;clear hb) | (go_at_call_of 51 (Value.slice a.rights.p a.rights.n a.rights.c);refine(H_rights.out _ HB33.out).mono ?_;rintro e v4 ⟨rfl,hb⟩;have HB44:=Qaa hb;clear x0 x1 x2 x3 x4 x5 x6 x7 x8 x9 x10 x11 x12 x13 x14 y0 y1 y2 y3 y4 y5 y6 y7 y8 y9 y10 y11 y12 y13 y14;obtain⟨⟨x0,x1,x2,x3,x4,x5,x6,x7,x8,x9,x10,x11,x12,x13,x14⟩,y0,y1,y2,y3,y4,y5,y6,y7,y8,y9,y10,y11,y12,y13,y14⟩:=HF.out v4 hb;clear hb) | fail)
      go_ret;exact⟨rfl,HB2.out.trans (HB00.out.mono HB2.out.size)⟩
     | true =>
      cases b_guards with
      | false =>
       go_wp2_with (first | (go_at_call_of 25 (Value.slice a.lines.p a.lines.n a.lines.c);refine(H_lines.out _ HR2.out).mono ?_;rintro e v0 ⟨rfl,hb⟩;have HB00:=Qaa hb;clear x0 x1 x2 x3 x4 x5 x6 x7 x8 x9 x10 x11 x12 x13 x14 y0 y1 y2 y3 y4 y5 y6 y7 y8 y9 y10 y11 y12 y13 y14;obtain⟨⟨x0,x1,x2,x3,x4,x5,x6,x7,x8,x9,x10,x11,x12,x13,x14⟩,y0,y1,y2,y3,y4,y5,y6,y7,y8,y9,y10,y11,y12,y13,y14⟩:=HF.out v0 hb;clear hb) | (go_at_call_of 82 (Value.slice a.guards.p a.guards.n a.guards.c);refine(H_guards.out _ HB00.out).mono ?_;rintro e v1 ⟨rfl,hb⟩;have HB11:=Qaa hb;clear x0 x1 x2 x3 x4 x5 x6 x7 x8 x9 x10 x11 x12 x13 x14 y0 y1 y2 y3 y4 y5 y6 y7 y8 y9 y10 y11 y12 y13 y14;obtain⟨⟨x0,x1,x2,x3,x4,x5,x6,x7,x8,x9,x10,x11,x12,x13,x14⟩,y0,y1,y2,y3,y4,y5,y6,y7,y8,y9,y10,y11,y12,y13,y14⟩:=HF.out v1 hb;clear hb) | (go_at_call_of 26 (Value.slice a.sets.p a.sets.n a.sets.c);refine(H_sets.out _ HB11.out).mono ?_;rintro e v2 ⟨rfl,hb⟩;have HB22:=Qaa hb;clear x0 x1 x2 x3 x4 x5 x6 x7 x8 x9 x10 x11 x12 x13 x14 y0 y1 y2 y3 y4 y5 y6 y7 y8 y9 y10 y11 y12 y13 y14;obtain⟨⟨x0,x1,x2,x3,x4,x5,x6,x7,x8,x9,x10,x11,x12,x13,x14⟩,y0,y1,y2,y3,y4,y5,y6,y7,y8,y9,y10,y11,y12,y13,y14⟩:=HF.out v2 hb;clear hb) | (go_at_call_of 25 (Value.slice a.other.p a.other.n a.other.c);refine(H_other.out _ HB22.out).mono ?_;rintro e v3 ⟨rfl,hb⟩;have HB33:=Qaa hb;clear x0 x1 x2 x3 x4 x5 x6 x7 x8 x9 x10 x11 x12 x13 x14 y0 y1 y2 y3 y4 y5 y6 y7 y8 y9 y10 y11 y12 y13 y14;obtain⟨⟨x0,x1,x2,x3,x4,x5,x6,x7,x8,x9,x10,x11,x12,x13,x14⟩,y0,y1,y2,y3,y4,y5,y6,y7,y8,y9,y10,y11,y12,y13,y14⟩:=HF.out v3 hb;clear hb) | (go_at_call_of 51 (Value.slice a.rights.p a.rights.n a.rights.c);refine(H_rights.out _ HB33.out).mono ?_;rintro e v4 ⟨rfl,hb⟩;have HB44:=Qaa hb;clear x0 x1 x2 x3 x4 x5 x6 x7 x8 x9 x10 x11 x12 x13 x14 y0 y1 y2 y3 y4 y5 y6 y7 y8 y9 y10 y11 y12 y13 y14;obtain⟨⟨x0,x1,x2,x3,x4,x5,x6,x7,x8,x9,x10,x11,x12,x13,x14⟩,y0,y1,y2,y3,y4,y5,y6,y7,y8,y9,y10,y11,y12,y13,y14⟩:=HF.out v4 hb;clear hb) | fail)
       go_ret;exact⟨rfl,HB2.out.trans (HB11.out.mono HB2.out.size)⟩
      | true =>
       cases b_sets with
       | false =>
        go_wp2_with (first | (go_at_call_of 25 (Value.slice a.lines.p a.lines.n a.lines.c);refine(H_lines.out _ HR2.out).mono ?_;rintro e v0 ⟨rfl,hb⟩;have HB00:=Qaa hb;clear x0 x1 x2 x3 x4 x5 x6 x7 x8 x9 x10 x11 x12 x13 x14 y0 y1 y2 y3 y4 y5 y6 y7 y8 y9 y10 y11 y12 y13 y14;obtain⟨⟨x0,x1,x2,x3,x4,x5,x6,x7,x8,x9,x10,x11,x12,x13,x14⟩,y0,y1,y2,y3,y4,y5,y6,y7,y8,y9,y10,y11,y12,y13,y14⟩:=HF.out v0 hb;clear hb) | (go_at_call_of 82 (Value.slice a.guards.p a.guards.n a.guards.c);refine(H_guards.out _ HB00.out).mono ?_;rintro e v1 ⟨rfl,hb⟩;have HB11:=Qaa hb;clear x0 x1 x2 x3 x4 x5 x6 x7 x8 x9 x10 x11 x12 x13 x14 y0 y1 y2 y3 y4 y5 y6 y7 y8 y9 y10 y11 y12 y13 y14;obtain⟨⟨x0,x1,x2,x3,x4,x5,x6,x7,x8,x9,x10,x11,x12,x13,x14⟩,y0,y1,y2,y3,y4,y5,y6,y7,y8,y9,y10,y11,y12,y13,y14⟩:=HF.out v1 hb;clear hb) | (go_at_call_of 26 (Value.slice a.sets.p a.sets.n a.sets.c);refine(H_sets.out _ HB11.out).mono ?_;rintro e v2 ⟨rfl,hb⟩;have HB22:=Qaa hb;clear x0 x1 x2 x3 x4 x5 x6 x7 x8 x9 x10 x11 x12 x13 x14 y0 y1 y2 y3 y4 y5 y6 y7 y8 y9 y10 y11 y12 y13 y14;obtain⟨⟨x0,x1,x2,x3,x4,x5,x6,x7,x8,x9,x10,x11,x12,x13,x14⟩,y0,y1,y2,y3,y4,y5,y6,y7,y8,y9,y10,y11,y12,y13,y14⟩:=HF.out v2 hb;clear hb) | (go_at_call_of 25 (Value.slice a.other.p a.other.n a.other.c);refine(H_other.out _ HB22.out).mono ?_;rintro e v3 ⟨rfl,hb⟩;have HB33:=Qaa hb;clear x0 x1 x2 x3 x4 x5 x6 x7 x8 x9 x10 x11 x12 x13 x14 y0 y1 y2 y3 y4 y5 y6 y7 y8 y9 y10 y11 y12 y13 y14;obtain⟨⟨x0,x1,x2,x3,x4,x5,x6,x7,x8,x9,x10,x11,x12,x13,x14⟩,y0,y1,y2,y3,y4,y5,y6,y7,y8,y9,y10,y11,y12,y13,y14⟩:=HF.out v3 hb;clear hb) | (go_at_call_of 51 (Value.slice a.rights.p a.rights.n a.rights.c);refine(H_rights.out _ HB33.out).mono ?_;rintro e v4 ⟨rfl,hb⟩;have HB44:=Qaa hb;clear x0 x1 x2 x3 x4 x5 x6 x7 x8 x9 x10 x11 x12 x13 x14 y0 y1 y2 y3 y4 y5 y6 y7 y8 y9 y10 y11 y12 y13 y14;obtain⟨⟨x0,x1,x2,x3,x4,x5,x6,x7,x8,x9,x10,x11,x12,x13,x14⟩,y0,y1,y2,y3,y4,y5,y6,y7,y8,y9,y10,y11,y12,y13,y14⟩:=HF.out v4 hb;clear hb) | fail)
        go_ret;exact⟨rfl,HB2.out.trans (HB22.out.mono HB2.out.size)⟩
       | true =>
        cases b_other with
        | false =>
         go_wp2_with (first | (go_at_call_of 25 (Value.slice a.lines.p a.lines.n a.lines.c);refine(H_lines.out _ HR2.out).mono ?_;rintro e v0 ⟨rfl,hb⟩;have HB00:=Qaa hb;clear x0 x1 x2 x3 x4 x5 x6 x7 x8 x9 x10 x11 x12 x13 x14 y0 y1 y2 y3 y4 y5 y6 y7 y8 y9 y10 y11 y12 y13 y14;obtain⟨⟨x0,x1,x2,x3,x4,x5,x6,x7,x8,x9,x10,x11,x12,x13,x14⟩,y0,y1,y2,y3,y4,y5,y6,y7,y8,y9,y10,y11,y12,y13,y14⟩:=HF.out v0 hb;clear hb) | (go_at_call_of 82 (Value.slice a.guards.p a.guards.n a.guards.c);refine(H_guards.out _ HB00.out).mono ?_;rintro e v1 ⟨rfl,hb⟩;have HB11:=Qaa hb;clear x0 x1 x2 x3 x4 x5 x6 x7 x8 x9 x10 x11 x12 x13 x14 y0 y1 y2 y3 y4 y5 y6 y7 y8 y9 y10 y11 y12 y13 y14;obtain⟨⟨x0,x1,x2,x3,x4,x5,x6,x7,x8,x9,x10,x11,x12,x13,x14⟩,y0,y1,y2,y3,y4,y5,y6,y7,y8,y9,y10,y11,y12,y13,y14⟩:=HF.out v1 hb;clear hb) | (go_at_call_of 26 (Value.slice a.sets.p a.sets.n a.sets.c);refine(H_sets.out _ HB11.out).mono ?_;rintro e v2 ⟨rfl,hb⟩;have HB22:=Qaa hb;clear x0 x1 x2 x3 x4 x5 x6 x7 x8 x9 x10 x11 x12 x13 x14 y0 y1 y2 y3 y4 y5 y6 y7 y8 y9 y10 y11 y12 y13 y14;obtain⟨⟨x0,x1,x2,x3,x4,x5,x6,x7,x8,x9,x10,x11,x12,x13,x14⟩,y0,y1,y2,y3,y4,y5,y6,y7,y8,y9,y10,y11,y12,y13,y14⟩:=HF.out v2 hb;clear hb) | (go_at_call_of 25 (Value.slice a.other.p a.other.n a.other.c);refine(H_other.out _ HB22.out).mono ?_;rintro e v3 ⟨rfl,hb⟩;have HB33:=Qaa hb;clear x0 x1 x2 x3 x4 x5 x6 x7 x8 x9 x10 x11 x12 x13 x14 y0 y1 y2 y3 y4 y5 y6 y7 y8 y9 y10 y11 y12 y13 y14;obtain⟨⟨x0,x1,x2,x3,x4,x5,x6,x7,x8,x9,x10,x11,x12,x13,x14⟩,y0,y1,y2,y3,y4,y5,y6,y7,y8,y9,y10,y11,y12,y13,y14⟩:=HF.out v3 hb;clear hb) | (go_at_call_of 51 (Value.slice a.rights.p a.rights.n a.rights.c);refine(H_rights.out _ HB33.out).mono ?_;rintro e v4 ⟨rfl,hb⟩;have HB44:=Qaa hb;clear x0 x1 x2 x3 x4 x5 x6 x7 x8 x9 x10 x11 x12 x13 x14 y0 y1 y2 y3 y4 y5 y6 y7 y8 y9 y10 y11 y12 y13 y14;obtain⟨⟨x0,x1,x2,x3,x4,x5,x6,x7,x8,x9,x10,x11,x12,x13,x14⟩,y0,y1,y2,y3,y4,y5,y6,y7,y8,y9,y10,y11,y12,y13,y14⟩:=HF.out v4 hb;clear hb) | fail)
         go_ret;exact⟨rfl,HB2.out.trans (HB33.out.mono HB2.out.size)⟩
        | true =>
         go_wp2_with (first | (go_at_call_of 25 (Value.slice a.lines.p a.lines.n a.lines.c);refine(H_lines.out _ HR2.out).mono ?_;rintro e v0 ⟨rfl,hb⟩;have HB00:=Qaa hb;clear x0 x1 x2 x3 x4 x5 x6 x7 x8 x9 x10 x11 x12 x13 x14 y0 y1 y2 y3 y4 y5 y6 y7 y8 y9 y10 y11 y12 y13 y14;obtain⟨⟨x0,x1,x2,x3,x4,x5,x6,x7,x8,x9,x10,x11,x12,x13,x14⟩,y0,y1,y2,y3,y4,y5,y6,y7,y8,y9,y10,y11,y12,y13,y14⟩:=HF.out v0 hb;clear hb) | (go_at_call_of 82 (Value.slice a.guards.p a.guards.n a.guards.c);refine(H_guards.out _ HB00.out).mono ?_;rintro e v1 ⟨rfl,hb⟩;have HB11:=Qaa hb;clear x0 x1 x2 x3 x4 x5 x6 x7 x8 x9 x10 x11 x12 x13 x14 y0 y1 y2 y3 y4 y5 y6 y7 y8 y9 y10 y11 y12 y13 y14;obtain⟨⟨x0,x1,x2,x3,x4,x5,x6,x7,x8,x9,x10,x11,x12,x13,x14⟩,y0,y1,y2,y3,y4,y5,y6,y7,y8,y9,y10,y11,y12,y13,y14⟩:=HF.out v1 hb;clear hb) | (go_at_call_of 26 (Value.slice a.sets.p a.sets.n a.sets.c);refine(H_sets.out _ HB11.out).mono ?_;rintro e v2 ⟨rfl,hb⟩;have HB22:=Qaa hb;clear x0 x1 x2 x3 x4 x5 x6 x7 x8 x9 x10 x11 x12 x13 x14 y0 y1 y2 y3 y4 y5 y6 y7 y8 y9 y10 y11 y12 y13 y14;obtain⟨⟨x0,x1,x2,x3,x4,x5,x6,x7,x8,x9,x10,x11,x12,x13,x14⟩,y0,y1,y2,y3,y4,y5,y6,y7,y8,y9,y10,y11,y12,y13,y14⟩:=HF.out v2 hb;clear hb) | (go_at_call_of 25 (Value.slice a.other.p a.other.n a.other.c);refine(H_other.out _ HB22.out).mono ?_;rintro e v3 ⟨rfl,hb⟩;have HB33:=Qaa hb;clear x0 x1 x2 x3 x4 x5 x6 x7 x8 x9 x10 x11 x12 x13 x14 y0 y1 y2 y3 y4 y5 y6 y7 y8 y9 y10 y11 y12 y13 y14;obtain⟨⟨x0,x1,x2,x3,x4,x5,x6,x7,x8,x9,x10,x11,x12,x13,x14⟩,y0,y1,y2,y3,y4,y5,y6,y7,y8,y9,y10,y11,y12,y13,y14⟩:=HF.out v3 hb;clear hb) | (go_at_call_of 51 (Value.slice a.rights.p a.rights.n a.rights.c);refine(H_rights.out _ HB33.out).mono ?_;rintro e v4 ⟨rfl,hb⟩;have HB44:=Qaa hb;clear x0 x1 x2 x3 x4 x5 x6 x7 x8 x9 x10 x11 x12 x13 x14 y0 y1 y2 y3 y4 y5 y6 y7 y8 y9 y10 y11 y12 y13 y14;obtain⟨⟨x0,x1,x2,x3,x4,x5,x6,x7,x8,x9,x10,x11,x12,x13,x14⟩,y0,y1,y2,y3,y4,y5,y6,y7,y8,y9,y10,y11,y12,y13,y14⟩:=HF.out v4 hb;clear hb) | fail)
         go_ret;exact⟨rfl,HB2.out.trans (HB44.out.mono HB2.out.size)⟩
end Go.Proofs.YtiogibfhafoapaaGreat
namespace Go.Proofs.YtiogibfhafoapaaGreat
open Go.RowKit
open Z (Sli QaE Acd Qad CpS)
attribute [local go_sem] Oper.semAt_some
abbrev qn:Value:=.slice none 0 0
abbrev qv {α:Type} (x:Z.Sli α):Value:=.slice x.p x.n x.c
abbrev qX (a:Acd) (k:Int) (s:Bool) (l g t:Value) (m:Int) (o:Value) (x y z u v:Int) (r:Value):Array Value:=#[.int .i64 a.till,.int .u64 a.num,.int .i64 k,.bool s,l,g,t,.int .i64 m,o,.int .i64 x,.int .i64 y,.int .i64 z,.int .i64 u,.int .u64 v,r]
abbrev qK (a:Acd) (k:Int):Array Value:=#[.int .i64 a.till,.int .u64 a.num,.int .i64 k,.bool a.sure,.slice a.lines.p a.lines.n a.lines.c,.slice a.guards.p a.guards.n a.guards.c,.slice a.sets.p a.sets.n a.sets.c,.int .i64 a.mg,.slice a.other.p a.other.n a.other.c,.int .i64 a.ra,.int .i64 a.rb,.int .i64 a.rd,.int .i64 a.to,.int .u64 a.gen,.slice a.rights.p a.rights.n a.rights.c]
def QbV (a:Acd):Acd :=
 if a.kind=1 then ⟨a.till,a.num,a.kind,a.sure,a.lines,a.guards,a.sets,a.mg,a.other,0,0,0,0,0,⟨none,0,0,[]⟩⟩
 else if a.kind=2∨a.kind=3 then ⟨a.till,a.num,a.kind,false,⟨none,0,0,[]⟩,⟨none,0,0,[]⟩,⟨none,0,0,[]⟩,0,⟨none,0,0,[]⟩,a.ra,a.rb,a.rd,0,0,⟨none,0,0,[]⟩⟩
 else if a.kind=4 then ⟨a.till,a.num,a.kind,false,⟨none,0,0,[]⟩,⟨none,0,0,[]⟩,⟨none,0,0,[]⟩,0,⟨none,0,0,[]⟩,a.ra,a.rb,a.rd,a.to,0,⟨none,0,0,[]⟩⟩
 else ⟨a.till,a.num,a.kind,false,⟨none,0,0,[]⟩,⟨none,0,0,[]⟩,⟨none,0,0,[]⟩,0,⟨none,0,0,[]⟩,0,0,0,0,a.gen,a.rights⟩
theorem Qkw {w:World} {a:Acd} (h:Qad w a):Qad w (QbV a):=by
 unfold QbV;split
 ·exact⟨h.lines,h.guards,h.sets,h.other,QaM _ _ _⟩
 ·split
  ·exact⟨QaM _ _ _,QaM _ _ _,QaM _ _ _,QaM _ _ _,QaM _ _ _⟩
  ·split
   ·exact⟨QaM _ _ _,QaM _ _ _,QaM _ _ _,QaM _ _ _,QaM _ _ _⟩
   ·exact⟨QaM _ _ _,QaM _ _ _,QaM _ _ _,QaM _ _ _,h.rights⟩
theorem QcJ (w:World) (ty:TypeId) (A Z X:Array Value):∃w3,((w.alloc (.cells A ty)).alloc (.cells Z ty)).alloc (.cells X ty)=w3∧CpS w w3 ty A Z X:=by
 refine⟨_,rfl,⟨?_,?_,?_,?_⟩⟩
 ·rw[Vc _ _ _ (by simp only[Vm];omega),Vc _ _ _ (by simp)];exact hNq _ _
 ·rw[Vc _ _ _ (by simp)];exact VV _ _ _
 ·have h:=hNq ((w.alloc (.cells A ty)).alloc (.cells Z ty)) (.cells X ty)
  simp only[Vm]at h;exact h
 ·exact(((Below.refl _ w).alloc (Va _) _).alloc (by simp) _).alloc (by simp;omega) _
theorem Qbd {w W:World} {ty:TypeId} {A Z X:Array Value} (h:CpS w W ty A Z X) (i:Nat) (v:Value):CpS w (W.setCell ⟨w.heap.size+1+1,i,none⟩ v) ty A Z (X.setIfInBounds i v) :=
 ⟨(Ve _ _ _ _ (by show w.heap.size≠w.heap.size+1+1;omega)).trans h.a,(Ve _ _ _ _ (by show w.heap.size+1≠w.heap.size+1+1;omega)).trans h.z,Vx _ _ _ _ _ _ h.x,h.bel.setCell (p:=⟨w.heap.size+1+1,i,none⟩) (by show w.heap.size≤w.heap.size+1+1;omega) _⟩
theorem QjD (w:World) (a:Acd):Calls Tryz.prog 37 #[.agg (qK a 1)] w fun e w'=>e=.returned (.agg (qX a 1 a.sure (qv a.lines) (qv a.guards) (qv a.sets) a.mg (qv a.other) 0 0 0 0 0 qn))∧Below w.heap.size w w':=by
 obtain⟨w3,hw3,hC⟩:=QcJ w 55 (qK a 1) qa (qX a 1 false qn qn qn 0 qn 0 0 0 0 0 qn);obtain⟨HW3,HC0⟩:=Qmj hw3 hC;have hA:((w.alloc (.cells (qK a 1) 55)).alloc (.cells qa 55)).heap[w.heap.size]?=some (.cells (qK a 1) 55 (0,0)):=by rw[Vc _ _ _ (by simp)];exact hNq _ _
 obtain⟨b0,b1,b2,-,-,-,-,-,-,-,-,-,-,-,-⟩:=QaA hA;clear hw3 hC hA;go_enter Tryz.func37,Tryz.ntmps37;go_upto_region 2 with (fail);rw[HW3.out];clear b0 b1 b2;obtain⟨p0,p1,p2,p3,p4,p5,p6,p7,p8,p9,p10,p11,p12,p13,p14⟩:=QaA HC0.out.a;obtain⟨q0,q1,q2,q3,q4,q5,q6,q7,q8,q9,q10,q11,q12,q13,q14⟩:=QaA HC0.out.x;have ct:=RB.bk_thaw HC0.out.x;go_upto_region 5 with (fail);obtain⟨u0,hu0⟩:=exq (w3.setCell ⟨w.heap.size+1+1,3,none⟩ (.bool a.sure));rw[hu0];have HC1:Hid (CpS w u0 55 (qK a 1) qa (qX a 1 a.sure qn qn qn 0 qn 0 0 0 0 0 qn)):=by show CpS _ _ _ _ _ _;rw[←hu0];exact Qbd (HC0.out) 3 (.bool a.sure)
 clear hu0 ct p0 p1 p2 p3 p4 p5 p6 p7 p8 p9 p10 p11 p12 p13 p14 q0 q1 q2 q3 q4 q5 q6 q7 q8 q9 q10 q11 q12 q13 q14;obtain⟨p0,p1,p2,p3,p4,p5,p6,p7,p8,p9,p10,p11,p12,p13,p14⟩:=QaA HC1.out.a;obtain⟨q0,q1,q2,q3,q4,q5,q6,q7,q8,q9,q10,q11,q12,q13,q14⟩:=QaA HC1.out.x;have ct:=RB.bk_thaw HC1.out.x;go_upto_region 6 with (fail);obtain⟨u1,hu1⟩:=exq (u0.setCell ⟨w.heap.size+1+1,4,none⟩ (.slice a.lines.p a.lines.n a.lines.c));rw[hu1];have HC2:Hid (CpS w u1 55 (qK a 1) qa (qX a 1 a.sure (qv a.lines) qn qn 0 qn 0 0 0 0 0 qn)):=by show CpS _ _ _ _ _ _;rw[←hu1];exact Qbd (HC1.out) 4 (.slice a.lines.p a.lines.n a.lines.c)
 clear hu1 ct p0 p1 p2 p3 p4 p5 p6 p7 p8 p9 p10 p11 p12 p13 p14 q0 q1 q2 q3 q4 q5 q6 q7 q8 q9 q10 q11 q12 q13 q14;obtain⟨p0,p1,p2,p3,p4,p5,p6,p7,p8,p9,p10,p11,p12,p13,p14⟩:=QaA HC2.out.a;obtain⟨q0,q1,q2,q3,q4,q5,q6,q7,q8,q9,q10,q11,q12,q13,q14⟩:=QaA HC2.out.x;have ct:=RB.bk_thaw HC2.out.x;go_upto_region 7 with (fail);obtain⟨u2,hu2⟩:=exq (u1.setCell ⟨w.heap.size+1+1,5,none⟩ (.slice a.guards.p a.guards.n a.guards.c));rw[hu2];have HC3:Hid (CpS w u2 55 (qK a 1) qa (qX a 1 a.sure (qv a.lines) (qv a.guards) qn 0 qn 0 0 0 0 0 qn)):=by show CpS _ _ _ _ _ _;rw[←hu2];exact Qbd (HC2.out) 5 (.slice a.guards.p a.guards.n a.guards.c)
 clear hu2 ct p0 p1 p2 p3 p4 p5 p6 p7 p8 p9 p10 p11 p12 p13 p14 q0 q1 q2 q3 q4 q5 q6 q7 q8 q9 q10 q11 q12 q13 q14;obtain⟨p0,p1,p2,p3,p4,p5,p6,p7,p8,p9,p10,p11,p12,p13,p14⟩:=QaA HC3.out.a;obtain⟨q0,q1,q2,q3,q4,q5,q6,q7,q8,q9,q10,q11,q12,q13,q14⟩:=QaA HC3.out.x;have ct:=RB.bk_thaw HC3.out.x;go_upto_region 8 with (fail);obtain⟨u3,hu3⟩:=exq (u2.setCell ⟨w.heap.size+1+1,6,none⟩ (.slice a.sets.p a.sets.n a.sets.c));rw[hu3];have HC4:Hid (CpS w u3 55 (qK a 1) qa (qX a 1 a.sure (qv a.lines) (qv a.guards) (qv a.sets) 0 qn 0 0 0 0 0 qn)):=by show CpS _ _ _ _ _ _;rw[←hu3];exact Qbd (HC3.out) 6 (.slice a.sets.p a.sets.n a.sets.c)
 clear hu3 ct p0 p1 p2 p3 p4 p5 p6 p7 p8 p9 p10 p11 p12 p13 p14 q0 q1 q2 q3 q4 q5 q6 q7 q8 q9 q10 q11 q12 q13 q14;obtain⟨p0,p1,p2,p3,p4,p5,p6,p7,p8,p9,p10,p11,p12,p13,p14⟩:=QaA HC4.out.a;obtain⟨q0,q1,q2,q3,q4,q5,q6,q7,q8,q9,q10,q11,q12,q13,q14⟩:=QaA HC4.out.x;have ct:=RB.bk_thaw HC4.out.x;go_upto_region 18 with (fail);obtain⟨u4,hu4⟩:=exq ((u3.setCell ⟨w.heap.size+1+1,7,none⟩ (.int .i64 a.mg)).setCell ⟨w.heap.size+1+1,8,none⟩ (.slice a.other.p a.other.n a.other.c));rw[hu4];have HC5:Hid (CpS w u4 55 (qK a 1) qa (qX a 1 a.sure (qv a.lines) (qv a.guards) (qv a.sets) a.mg (qv a.other) 0 0 0 0 0 qn)):=by show CpS _ _ _ _ _ _;rw[←hu4];exact Qbd (Qbd (HC4.out) 7 (.int .i64 a.mg)) 8 (.slice a.other.p a.other.n a.other.c)
 clear hu4 ct p0 p1 p2 p3 p4 p5 p6 p7 p8 p9 p10 p11 p12 p13 p14 q0 q1 q2 q3 q4 q5 q6 q7 q8 q9 q10 q11 q12 q13 q14;obtain⟨X,hX⟩:=exq (qX a 1 a.sure (qv a.lines) (qv a.guards) (qv a.sets) a.mg (qv a.other) 0 0 0 0 0 qn);have HXs:Hid (X.size=15):=by show _=_;rw[←hX];rfl
 have HXo:Hid (X.all (·.oneCell')=true):=by show _=_;rw[←hX];simp[Value.oneCell']
 have HL:=Qaa (lr55 HC5.out.x (by kernel_rfl));have HS:=Qaa (Z.storeAt_row (P:=Tryz.prog) (c':=X) HC5.out.z (by rw[HXs.out];exact Z.Tryz.sizeA) (by rw[HXs.out];rfl) HXo.out);have HE:Hid ((u4.setRow (w.heap.size+1) X).heap[w.heap.size+1]?=some (.cells X 55 (0,0))∧Below w.heap.size w (u4.setRow (w.heap.size+1) X)):=⟨VB _ _ _ _ _ _ HC5.out.z,VA HC5.out.bel (by omega) X⟩;rw[hX]at HL;have HXe:=Qaa hX;clear hX;go_wp2_with (first | ((with_reducible refine glq 55 3 ?_);refine Z.lp_load (w.heap.size+1+1) 0 X rfl HL.out ?_) | ((with_reducible refine gsq 55 2 ?_);refine Z.lp_store (t:=55) (x:=.tmp 2) (some ⟨w.heap.size+1,0,none⟩) (.agg X) rfl rfl HS.out ?_))
 refine Vg (VF rfl _ _ (w.heap.size+1) 55 X (0,0) _ rfl HE.out.1 Tryz.underlying55 rfl (by rw[HXs.out];exact Z.Tryz.sizeA)) rfl ?_;exact⟨by rw[HXe.out],HE.out.2⟩
theorem Qjn (w:World) (a:Acd):Calls Tryz.prog 37 #[.agg (qK a 2)] w fun e w'=>e=.returned (.agg (qX a 2 false qn qn qn 0 qn a.ra a.rb a.rd 0 0 qn))∧Below w.heap.size w w':=by
 obtain⟨w3,hw3,hC⟩:=QcJ w 55 (qK a 2) qa (qX a 2 false qn qn qn 0 qn 0 0 0 0 0 qn);obtain⟨HW3,HC0⟩:=Qmj hw3 hC;have hA:((w.alloc (.cells (qK a 2) 55)).alloc (.cells qa 55)).heap[w.heap.size]?=some (.cells (qK a 2) 55 (0,0)):=by rw[Vc _ _ _ (by simp)];exact hNq _ _
 obtain⟨b0,b1,b2,-,-,-,-,-,-,-,-,-,-,-,-⟩:=QaA hA;clear hw3 hC hA;go_enter Tryz.func37,Tryz.ntmps37;go_upto_region 2 with (fail);rw[HW3.out];clear b0 b1 b2;obtain⟨p0,p1,p2,p3,p4,p5,p6,p7,p8,p9,p10,p11,p12,p13,p14⟩:=QaA HC0.out.a;obtain⟨q0,q1,q2,q3,q4,q5,q6,q7,q8,q9,q10,q11,q12,q13,q14⟩:=QaA HC0.out.x;have ct:=RB.bk_thaw HC0.out.x;go_upto_region 18 with (fail);obtain⟨u0,hu0⟩:=exq (((w3.setCell ⟨w.heap.size+1+1,9,none⟩ (.int .i64 a.ra)).setCell ⟨w.heap.size+1+1,10,none⟩ (.int .i64 a.rb)).setCell ⟨w.heap.size+1+1,11,none⟩ (.int .i64 a.rd));rw[hu0];have HC1:Hid (CpS w u0 55 (qK a 2) qa (qX a 2 false qn qn qn 0 qn a.ra a.rb a.rd 0 0 qn)):=by show CpS _ _ _ _ _ _;rw[←hu0];exact Qbd (Qbd (Qbd (HC0.out) 9 (.int .i64 a.ra)) 10 (.int .i64 a.rb)) 11 (.int .i64 a.rd)
 clear hu0 ct p0 p1 p2 p3 p4 p5 p6 p7 p8 p9 p10 p11 p12 p13 p14 q0 q1 q2 q3 q4 q5 q6 q7 q8 q9 q10 q11 q12 q13 q14;obtain⟨X,hX⟩:=exq (qX a 2 false qn qn qn 0 qn a.ra a.rb a.rd 0 0 qn);have HXs:Hid (X.size=15):=by show _=_;rw[←hX];rfl
 have HXo:Hid (X.all (·.oneCell')=true):=by show _=_;rw[←hX];simp[Value.oneCell']
 have HL:=Qaa (lr55 HC1.out.x (by kernel_rfl));have HS:=Qaa (Z.storeAt_row (P:=Tryz.prog) (c':=X) HC1.out.z (by rw[HXs.out];exact Z.Tryz.sizeA) (by rw[HXs.out];rfl) HXo.out);have HE:Hid ((u0.setRow (w.heap.size+1) X).heap[w.heap.size+1]?=some (.cells X 55 (0,0))∧Below w.heap.size w (u0.setRow (w.heap.size+1) X)):=⟨VB _ _ _ _ _ _ HC1.out.z,VA HC1.out.bel (by omega) X⟩;rw[hX]at HL;have HXe:=Qaa hX;clear hX;go_wp2_with (first | ((with_reducible refine glq 55 3 ?_);refine Z.lp_load (w.heap.size+1+1) 0 X rfl HL.out ?_) | ((with_reducible refine gsq 55 2 ?_);refine Z.lp_store (t:=55) (x:=.tmp 2) (some ⟨w.heap.size+1,0,none⟩) (.agg X) rfl rfl HS.out ?_))
 refine Vg (VF rfl _ _ (w.heap.size+1) 55 X (0,0) _ rfl HE.out.1 Tryz.underlying55 rfl (by rw[HXs.out];exact Z.Tryz.sizeA)) rfl ?_;exact⟨by rw[HXe.out],HE.out.2⟩
theorem Qjv (w:World) (a:Acd):Calls Tryz.prog 37 #[.agg (qK a 3)] w fun e w'=>e=.returned (.agg (qX a 3 false qn qn qn 0 qn a.ra a.rb a.rd 0 0 qn))∧Below w.heap.size w w':=by
 obtain⟨w3,hw3,hC⟩:=QcJ w 55 (qK a 3) qa (qX a 3 false qn qn qn 0 qn 0 0 0 0 0 qn);obtain⟨HW3,HC0⟩:=Qmj hw3 hC;have hA:((w.alloc (.cells (qK a 3) 55)).alloc (.cells qa 55)).heap[w.heap.size]?=some (.cells (qK a 3) 55 (0,0)):=by rw[Vc _ _ _ (by simp)];exact hNq _ _
 obtain⟨b0,b1,b2,-,-,-,-,-,-,-,-,-,-,-,-⟩:=QaA hA;clear hw3 hC hA;go_enter Tryz.func37,Tryz.ntmps37;go_upto_region 2 with (fail);rw[HW3.out];clear b0 b1 b2;obtain⟨p0,p1,p2,p3,p4,p5,p6,p7,p8,p9,p10,p11,p12,p13,p14⟩:=QaA HC0.out.a;obtain⟨q0,q1,q2,q3,q4,q5,q6,q7,q8,q9,q10,q11,q12,q13,q14⟩:=QaA HC0.out.x;have ct:=RB.bk_thaw HC0.out.x;go_upto_region 18 with (fail);obtain⟨u0,hu0⟩:=exq (((w3.setCell ⟨w.heap.size+1+1,9,none⟩ (.int .i64 a.ra)).setCell ⟨w.heap.size+1+1,10,none⟩ (.int .i64 a.rb)).setCell ⟨w.heap.size+1+1,11,none⟩ (.int .i64 a.rd));rw[hu0];have HC1:Hid (CpS w u0 55 (qK a 3) qa (qX a 3 false qn qn qn 0 qn a.ra a.rb a.rd 0 0 qn)):=by show CpS _ _ _ _ _ _;rw[←hu0];exact Qbd (Qbd (Qbd (HC0.out) 9 (.int .i64 a.ra)) 10 (.int .i64 a.rb)) 11 (.int .i64 a.rd)
 clear hu0 ct p0 p1 p2 p3 p4 p5 p6 p7 p8 p9 p10 p11 p12 p13 p14 q0 q1 q2 q3 q4 q5 q6 q7 q8 q9 q10 q11 q12 q13 q14;obtain⟨X,hX⟩:=exq (qX a 3 false qn qn qn 0 qn a.ra a.rb a.rd 0 0 qn);have HXs:Hid (X.size=15):=by show _=_;rw[←hX];rfl
 have HXo:Hid (X.all (·.oneCell')=true):=by show _=_;rw[←hX];simp[Value.oneCell']
 have HL:=Qaa (lr55 HC1.out.x (by kernel_rfl));have HS:=Qaa (Z.storeAt_row (P:=Tryz.prog) (c':=X) HC1.out.z (by rw[HXs.out];exact Z.Tryz.sizeA) (by rw[HXs.out];rfl) HXo.out);have HE:Hid ((u0.setRow (w.heap.size+1) X).heap[w.heap.size+1]?=some (.cells X 55 (0,0))∧Below w.heap.size w (u0.setRow (w.heap.size+1) X)):=⟨VB _ _ _ _ _ _ HC1.out.z,VA HC1.out.bel (by omega) X⟩;rw[hX]at HL;have HXe:=Qaa hX;clear hX;go_wp2_with (first | ((with_reducible refine glq 55 3 ?_);refine Z.lp_load (w.heap.size+1+1) 0 X rfl HL.out ?_) | ((with_reducible refine gsq 55 2 ?_);refine Z.lp_store (t:=55) (x:=.tmp 2) (some ⟨w.heap.size+1,0,none⟩) (.agg X) rfl rfl HS.out ?_))
 refine Vg (VF rfl _ _ (w.heap.size+1) 55 X (0,0) _ rfl HE.out.1 Tryz.underlying55 rfl (by rw[HXs.out];exact Z.Tryz.sizeA)) rfl ?_;exact⟨by rw[HXe.out],HE.out.2⟩
theorem Qi3 (w:World) (a:Acd):Calls Tryz.prog 37 #[.agg (qK a 4)] w fun e w'=>e=.returned (.agg (qX a 4 false qn qn qn 0 qn a.ra a.rb a.rd a.to 0 qn))∧Below w.heap.size w w':=by
 obtain⟨w3,hw3,hC⟩:=QcJ w 55 (qK a 4) qa (qX a 4 false qn qn qn 0 qn 0 0 0 0 0 qn);obtain⟨HW3,HC0⟩:=Qmj hw3 hC;have hA:((w.alloc (.cells (qK a 4) 55)).alloc (.cells qa 55)).heap[w.heap.size]?=some (.cells (qK a 4) 55 (0,0)):=by rw[Vc _ _ _ (by simp)];exact hNq _ _
 obtain⟨b0,b1,b2,-,-,-,-,-,-,-,-,-,-,-,-⟩:=QaA hA;clear hw3 hC hA;go_enter Tryz.func37,Tryz.ntmps37;go_upto_region 2 with (fail);rw[HW3.out];clear b0 b1 b2;obtain⟨p0,p1,p2,p3,p4,p5,p6,p7,p8,p9,p10,p11,p12,p13,p14⟩:=QaA HC0.out.a;obtain⟨q0,q1,q2,q3,q4,q5,q6,q7,q8,q9,q10,q11,q12,q13,q14⟩:=QaA HC0.out.x;have ct:=RB.bk_thaw HC0.out.x;go_upto_region 14 with (fail);obtain⟨u0,hu0⟩:=exq (((w3.setCell ⟨w.heap.size+1+1,9,none⟩ (.int .i64 a.ra)).setCell ⟨w.heap.size+1+1,10,none⟩ (.int .i64 a.rb)).setCell ⟨w.heap.size+1+1,11,none⟩ (.int .i64 a.rd));rw[hu0];have HC1:Hid (CpS w u0 55 (qK a 4) qa (qX a 4 false qn qn qn 0 qn a.ra a.rb a.rd 0 0 qn)):=by show CpS _ _ _ _ _ _;rw[←hu0];exact Qbd (Qbd (Qbd (HC0.out) 9 (.int .i64 a.ra)) 10 (.int .i64 a.rb)) 11 (.int .i64 a.rd)
 clear hu0 ct p0 p1 p2 p3 p4 p5 p6 p7 p8 p9 p10 p11 p12 p13 p14 q0 q1 q2 q3 q4 q5 q6 q7 q8 q9 q10 q11 q12 q13 q14;obtain⟨p0,p1,p2,p3,p4,p5,p6,p7,p8,p9,p10,p11,p12,p13,p14⟩:=QaA HC1.out.a;obtain⟨q0,q1,q2,q3,q4,q5,q6,q7,q8,q9,q10,q11,q12,q13,q14⟩:=QaA HC1.out.x;have ct:=RB.bk_thaw HC1.out.x;go_upto_region 18 with (fail);obtain⟨u1,hu1⟩:=exq (u0.setCell ⟨w.heap.size+1+1,12,none⟩ (.int .i64 a.to));rw[hu1];have HC2:Hid (CpS w u1 55 (qK a 4) qa (qX a 4 false qn qn qn 0 qn a.ra a.rb a.rd a.to 0 qn)):=by show CpS _ _ _ _ _ _;rw[←hu1];exact Qbd (HC1.out) 12 (.int .i64 a.to)
 clear hu1 ct p0 p1 p2 p3 p4 p5 p6 p7 p8 p9 p10 p11 p12 p13 p14 q0 q1 q2 q3 q4 q5 q6 q7 q8 q9 q10 q11 q12 q13 q14;obtain⟨X,hX⟩:=exq (qX a 4 false qn qn qn 0 qn a.ra a.rb a.rd a.to 0 qn);have HXs:Hid (X.size=15):=by show _=_;rw[←hX];rfl
 have HXo:Hid (X.all (·.oneCell')=true):=by show _=_;rw[←hX];simp[Value.oneCell']
 have HL:=Qaa (lr55 HC2.out.x (by kernel_rfl));have HS:=Qaa (Z.storeAt_row (P:=Tryz.prog) (c':=X) HC2.out.z (by rw[HXs.out];exact Z.Tryz.sizeA) (by rw[HXs.out];rfl) HXo.out);have HE:Hid ((u1.setRow (w.heap.size+1) X).heap[w.heap.size+1]?=some (.cells X 55 (0,0))∧Below w.heap.size w (u1.setRow (w.heap.size+1) X)):=⟨VB _ _ _ _ _ _ HC2.out.z,VA HC2.out.bel (by omega) X⟩;rw[hX]at HL;have HXe:=Qaa hX;clear hX;go_wp2_with (first | ((with_reducible refine glq 55 3 ?_);refine Z.lp_load (w.heap.size+1+1) 0 X rfl HL.out ?_) | ((with_reducible refine gsq 55 2 ?_);refine Z.lp_store (t:=55) (x:=.tmp 2) (some ⟨w.heap.size+1,0,none⟩) (.agg X) rfl rfl HS.out ?_))
 refine Vg (VF rfl _ _ (w.heap.size+1) 55 X (0,0) _ rfl HE.out.1 Tryz.underlying55 rfl (by rw[HXs.out];exact Z.Tryz.sizeA)) rfl ?_;exact⟨by rw[HXe.out],HE.out.2⟩
theorem Qje (w:World) (a:Acd):Calls Tryz.prog 37 #[.agg (qK a 5)] w fun e w'=>e=.returned (.agg (qX a 5 false qn qn qn 0 qn 0 0 0 0 a.gen (qv a.rights)))∧Below w.heap.size w w':=by
 obtain⟨w3,hw3,hC⟩:=QcJ w 55 (qK a 5) qa (qX a 5 false qn qn qn 0 qn 0 0 0 0 0 qn);obtain⟨HW3,HC0⟩:=Qmj hw3 hC;have hA:((w.alloc (.cells (qK a 5) 55)).alloc (.cells qa 55)).heap[w.heap.size]?=some (.cells (qK a 5) 55 (0,0)):=by rw[Vc _ _ _ (by simp)];exact hNq _ _
 obtain⟨b0,b1,b2,-,-,-,-,-,-,-,-,-,-,-,-⟩:=QaA hA;clear hw3 hC hA;go_enter Tryz.func37,Tryz.ntmps37;go_upto_region 2 with (fail);rw[HW3.out];clear b0 b1 b2;obtain⟨p0,p1,p2,p3,p4,p5,p6,p7,p8,p9,p10,p11,p12,p13,p14⟩:=QaA HC0.out.a;obtain⟨q0,q1,q2,q3,q4,q5,q6,q7,q8,q9,q10,q11,q12,q13,q14⟩:=QaA HC0.out.x;have ct:=RB.bk_thaw HC0.out.x;go_upto_region 17 with (fail);obtain⟨u0,hu0⟩:=exq (w3.setCell ⟨w.heap.size+1+1,13,none⟩ (.int .u64 a.gen));rw[hu0];have HC1:Hid (CpS w u0 55 (qK a 5) qa (qX a 5 false qn qn qn 0 qn 0 0 0 0 a.gen qn)):=by show CpS _ _ _ _ _ _;rw[←hu0];exact Qbd (HC0.out) 13 (.int .u64 a.gen)
 clear hu0 ct p0 p1 p2 p3 p4 p5 p6 p7 p8 p9 p10 p11 p12 p13 p14 q0 q1 q2 q3 q4 q5 q6 q7 q8 q9 q10 q11 q12 q13 q14;obtain⟨p0,p1,p2,p3,p4,p5,p6,p7,p8,p9,p10,p11,p12,p13,p14⟩:=QaA HC1.out.a;obtain⟨q0,q1,q2,q3,q4,q5,q6,q7,q8,q9,q10,q11,q12,q13,q14⟩:=QaA HC1.out.x;have ct:=RB.bk_thaw HC1.out.x;go_upto_region 18 with (fail);obtain⟨u1,hu1⟩:=exq (u0.setCell ⟨w.heap.size+1+1,14,none⟩ (.slice a.rights.p a.rights.n a.rights.c));rw[hu1];have HC2:Hid (CpS w u1 55 (qK a 5) qa (qX a 5 false qn qn qn 0 qn 0 0 0 0 a.gen (qv a.rights))):=by show CpS _ _ _ _ _ _;rw[←hu1];exact Qbd (HC1.out) 14 (.slice a.rights.p a.rights.n a.rights.c)
 clear hu1 ct p0 p1 p2 p3 p4 p5 p6 p7 p8 p9 p10 p11 p12 p13 p14 q0 q1 q2 q3 q4 q5 q6 q7 q8 q9 q10 q11 q12 q13 q14;obtain⟨X,hX⟩:=exq (qX a 5 false qn qn qn 0 qn 0 0 0 0 a.gen (qv a.rights));have HXs:Hid (X.size=15):=by show _=_;rw[←hX];rfl
 have HXo:Hid (X.all (·.oneCell')=true):=by show _=_;rw[←hX];simp[Value.oneCell']
 have HL:=Qaa (lr55 HC2.out.x (by kernel_rfl));have HS:=Qaa (Z.storeAt_row (P:=Tryz.prog) (c':=X) HC2.out.z (by rw[HXs.out];exact Z.Tryz.sizeA) (by rw[HXs.out];rfl) HXo.out);have HE:Hid ((u1.setRow (w.heap.size+1) X).heap[w.heap.size+1]?=some (.cells X 55 (0,0))∧Below w.heap.size w (u1.setRow (w.heap.size+1) X)):=⟨VB _ _ _ _ _ _ HC2.out.z,VA HC2.out.bel (by omega) X⟩;rw[hX]at HL;have HXe:=Qaa hX;clear hX;go_wp2_with (first | ((with_reducible refine glq 55 3 ?_);refine Z.lp_load (w.heap.size+1+1) 0 X rfl HL.out ?_) | ((with_reducible refine gsq 55 2 ?_);refine Z.lp_store (t:=55) (x:=.tmp 2) (some ⟨w.heap.size+1,0,none⟩) (.agg X) rfl rfl HS.out ?_))
 refine Vg (VF rfl _ _ (w.heap.size+1) 55 X (0,0) _ rfl HE.out.1 Tryz.underlying55 rfl (by rw[HXs.out];exact Z.Tryz.sizeA)) rfl ?_;exact⟨by rw[HXe.out],HE.out.2⟩
theorem Qi1 (w:World) (a:Acd) (hk:1≤a.kind∧a.kind≤5):Calls Tryz.prog 37 #[.agg (qA a)] w fun e w'=>e=.returned (.agg (QbV a).arr)∧Below w.heap.size w w':=by
 have h:a.kind=1∨a.kind=2∨a.kind=3∨a.kind=4∨a.kind=5:=by omega
 rcases h with h | h | h | h | h
 ·have e:(QbV a).arr=(qX a 1 a.sure (qv a.lines) (qv a.guards) (qv a.sets) a.mg (qv a.other) 0 0 0 0 0 qn):=by unfold QbV;rw[if_pos h];simp only[Z.Acd.arr];rw[h]
  unfold qA;rw[e,h];exact QjD w a
 ·have e:(QbV a).arr=(qX a 2 false qn qn qn 0 qn a.ra a.rb a.rd 0 0 qn):=by unfold QbV;rw[if_neg (by omega),if_pos (by omega)];simp only[Z.Acd.arr];rw[h]
  unfold qA;rw[e,h];exact Qjn w a
 ·have e:(QbV a).arr=(qX a 3 false qn qn qn 0 qn a.ra a.rb a.rd 0 0 qn):=by unfold QbV;rw[if_neg (by omega),if_pos (by omega)];simp only[Z.Acd.arr];rw[h]
  unfold qA;rw[e,h];exact Qjv w a
 ·have e:(QbV a).arr=(qX a 4 false qn qn qn 0 qn a.ra a.rb a.rd a.to 0 qn):=by unfold QbV;rw[if_neg (by omega),if_neg (by omega),if_pos h];simp only[Z.Acd.arr];rw[h]
  unfold qA;rw[e,h];exact Qi3 w a
 ·have e:(QbV a).arr=(qX a 5 false qn qn qn 0 qn 0 0 0 0 a.gen (qv a.rights)):=by unfold QbV;rw[if_neg (by omega),if_neg (by omega),if_neg (by omega)];simp only[Z.Acd.arr];rw[h]
  unfold qA;rw[e,h];exact Qje w a
end Go.Proofs.YtiogibfhafoapaaGreat
namespace Go.Proofs.YtiogibfhafoapaaGreat
open Go.RowKit Go.Sort
open Z (Sli QaE Acd Qad)
def Qck (a:Acd):Prop:=(1≤a.kind∧a.kind≤5)∧a.d=(QbV a).d
def Qcm (c:Cfg) (a:Acd):Prop:=(0≤a.till∧a.till≤c.tills - 1)∧1≤a.num∧a.num≤1099511627776
def Qa8 (c:Cfg) (a:Acd):Bool :=
 if a.kind=4 then QaX c.cl 1099511627776 ⟨a.ra,a.rb,a.rd⟩ && decide (0≤a.to∧a.to≤c.tills - 1) && !decide (a.to=a.till)
 else if a.kind=5 then decide (1≤a.gen) && decide (a.gen≤1099511627776) && Qcg c.cl a.rights.xs
 else QaX c.cl 1099511627776 ⟨a.ra,a.rb,a.rd⟩
structure QcR (c:Cfg) (a:Acd) (V:Int):Prop where
 kind:¬Qck a→V=81
 head:Qck a→¬Qcm c a→V=82
 write:Qck a→Qcm c a→a.kind=1→V=QbT c.cl c.pl a
 rest:Qck a→Qcm c a→a.kind≠1→V=if Qa8 c a then 0 else 87
theorem Qb3 (w:World) (c:Cfg) (a:Acd) (hok:Qad w a) (hcl:c.cl≤4194304) (hpl:c.pl≤4194304) (htl:0≤c.tills∧c.tills≤1000000) :
  Calls Tryz.prog 13 #[c.v,.agg (qA a)] w fun e w'=>∃V,e=.returned (.int .i64 V)∧QcR c a V∧Below w.heap.size w w':=by
 obtain⟨w2,hw2,hb2,hx2,hy2⟩:=QaQ w (qC c) 34 55 (qA a);obtain⟨HW2,HB2,HX2,HY2⟩:=hd4 hw2 hb2 hx2 hy2;have HK:=Qaa (hok.below hb2);have HZ:Hid (∀W,Below w2.heap.size w2 W→(W.cell? ⟨w.heap.size,0,none⟩=some (.int .i64 c.tills)∧W.cell? ⟨w.heap.size,1,none⟩=some (.slice c.cp c.cl c.cc)∧W.cell? ⟨w.heap.size,2,none⟩=some (.slice c.pp c.pl c.pc)∧W.cell? ⟨w.heap.size,3,none⟩=some (.int .i64 c.lease)∧W.cell? ⟨w.heap.size,4,none⟩=some (.int .i64 c.watch)∧W.cell? ⟨w.heap.size,5,none⟩=some (.int .i64 c.beat)∧W.cell? ⟨w.heap.size,6,none⟩=some (.int .i64 c.window)∧W.cell? ⟨w.heap.size,7,none⟩=some (.int .i64 c.cap)∧W.cell? ⟨w.heap.size,8,none⟩=some (.int .i64 c.flight))∧(W.cell? ⟨w.heap.size+1,0,none⟩=some (.int .i64 a.till)∧W.cell? ⟨w.heap.size+1,1,none⟩=some (.int .u64 a.num)∧W.cell? ⟨w.heap.size+1,2,none⟩=some (.int .i64 a.kind)∧W.cell? ⟨w.heap.size+1,3,none⟩=some (.bool a.sure)∧W.cell? ⟨w.heap.size+1,4,none⟩=some (.slice a.lines.p a.lines.n a.lines.c)∧W.cell? ⟨w.heap.size+1,5,none⟩=some (.slice a.guards.p a.guards.n a.guards.c)∧W.cell? ⟨w.heap.size+1,6,none⟩=some (.slice a.sets.p a.sets.n a.sets.c)∧W.cell? ⟨w.heap.size+1,7,none⟩=some (.int .i64 a.mg)∧W.cell? ⟨w.heap.size+1,8,none⟩=some (.slice a.other.p a.other.n a.other.c)∧W.cell? ⟨w.heap.size+1,9,none⟩=some (.int .i64 a.ra)∧W.cell? ⟨w.heap.size+1,10,none⟩=some (.int .i64 a.rb)∧W.cell? ⟨w.heap.size+1,11,none⟩=some (.int .i64 a.rd)∧W.cell? ⟨w.heap.size+1,12,none⟩=some (.int .i64 a.to)∧W.cell? ⟨w.heap.size+1,13,none⟩=some (.int .u64 a.gen)∧W.cell? ⟨w.heap.size+1,14,none⟩=some (.slice a.rights.p a.rights.n a.rights.c))):=fun W hb=>⟨ac9 ((hb.block _ (Qab HX2.out)).trans HX2.out),QaA ((hb.block _ (Qab HY2.out)).trans HY2.out)⟩
 obtain⟨D,hD⟩:=Qbj (a.d=(QbV a).d);have HD:=Qaa hD;have HEq:Hid (∀d os,Calls Tryz.prog 36 #[.agg (qA a),.agg (QbV a).arr] (grow (redrawn w2 d) os) fun e w''=>e=.returned (.bool D)∧∃p:Regrown,w''=grow (redrawn w2 p.d) p.os):=fun d os=>Calls.regrown_of (Qek _ a (QbV a) (HK.out.below (below_regrown w2 d os)) (Qkw (HK.out.below (below_regrown w2 d os))) D HD.out)
 have HOn:Hid ((1≤a.kind∧a.kind≤5)→∀d os,Calls Tryz.prog 37 #[.agg (qA a)] (grow (redrawn w2 d) os) fun e w''=>e=.returned (.agg (QbV a).arr)∧∃p:Regrown,w''=grow (redrawn w2 p.d) p.os):=fun hk _ _=>Calls.regrown_of (Qi1 _ a hk)
 have HRt:=Qaa (fun W=>Qeu W c ⟨a.ra,a.rb,a.rd⟩ 1099511627776 hcl);have HRs:=Qaa (fun (W:World) (hb:Below w2.heap.size w2 W)=>Qgd W c a.rights.p a.rights.n a.rights.c a.rights.xs HK.out.rights.len (by have:=HK.out.rights.most;omega) hcl (HK.out.rights.below hb).cel);have HWr:=Qaa (fun (W:World) (hb:Below w2.heap.size w2 W)=>QhM W c a (HK.out.below hb) hcl hpl);have HTi:=Qaa (fun W=>Qa5 W a.till 0 (c.tills - 1));have HTo:=Qaa (fun W=>Qa5 W a.to 0 (c.tills - 1));unfold Cfg.v at HRt HRs HWr ⊢;simp only at HRt;obtain⟨OA,hOA⟩:=exq ((QbV a).arr);rw[hOA]at HEq HOn;have HR2:Hid (Below w2.heap.size w2 w2):=bR;obtain⟨⟨c0,c1,c2,c3,c4,c5,c6,c7,c8⟩,⟨a0,a1,a2,a3,a4,a5,a6,a7,a8,a9,a10,a11,a12,a13,a14⟩⟩:=HZ.out w2 HR2.out;have r_c0:=cell_regrown c0;have r_c1:=cell_regrown c1;have r_c2:=cell_regrown c2;have r_c3:=cell_regrown c3;have r_c4:=cell_regrown c4;have r_c5:=cell_regrown c5;have r_c6:=cell_regrown c6;have r_c7:=cell_regrown c7;have r_c8:=cell_regrown c8;have r_a0:=cell_regrown a0;have r_a1:=cell_regrown a1;have r_a2:=cell_regrown a2;have r_a3:=cell_regrown a3;have r_a4:=cell_regrown a4;have r_a5:=cell_regrown a5;have r_a6:=cell_regrown a6;have r_a7:=cell_regrown a7;have r_a8:=cell_regrown a8;have r_a9:=cell_regrown a9;have r_a10:=cell_regrown a10;have r_a11:=cell_regrown a11;have r_a12:=cell_regrown a12;have r_a13:=cell_regrown a13;have r_a14:=cell_regrown a14;have HEnd:=Qaa (Qa3 w2);clear hw2 hb2 hx2 hy2 hok hD hOA c0 c1 c2 c3 c4 c5 c6 c7 c8 a0 a1 a2 a3 a4 a5 a6 a7 a8 a9 a10 a11 a12 a13 a14;have HCK:Hid (∀V,¬Qck a→V=81→QcR c a V):=fun V h e=>⟨fun _=>e,fun k=>absurd k h,fun k=>absurd k h,fun k=>absurd k h⟩
 by_cases k1:a.kind<1
 ·have HV:=Qaa (HCK.out 81 (fun h=>by have:=h.1;omega) rfl)
  go_enter Tryz.func13,Tryz.ntmps13;go_upto_region 1 with (fail);rw[HW2.out];refine wp_region_quiet_below (by kernel_rfl) (by kernel_rfl) ?_;repeat (go_big_quiet_step (first | fail))
  refine VT ?_;intro w3 hw';obtain⟨⟨dq,osq⟩,hw''⟩:=hw';obtain⟨wq,hwq,hb3⟩:=HEnd.out dq osq;rw[hwq]at hw'';rw[←hw'']at hb3;have HB3:=Qaa hb3;clear hwq hb3 hw'' wq;go_wp2;go_ret;exact⟨81,rfl,HV.out,HB2.out.trans (HB3.out.mono HB2.out.size)⟩
 ·by_cases k5:5<a.kind
  ·have HV:=Qaa (HCK.out 81 (fun h=>by have:=h.1;omega) rfl)
   go_enter Tryz.func13,Tryz.ntmps13;go_upto_region 1 with (fail);rw[HW2.out];refine wp_region_quiet_below (by kernel_rfl) (by kernel_rfl) ?_;repeat (go_big_quiet_step (first | fail))
   refine VT ?_;intro w3 hw';obtain⟨⟨dq,osq⟩,hw''⟩:=hw';obtain⟨wq,hwq,hb3⟩:=HEnd.out dq osq;rw[hwq]at hw'';rw[←hw'']at hb3;have HB3:=Qaa hb3;clear hwq hb3 hw'' wq;go_wp2;go_ret;exact⟨81,rfl,HV.out,HB2.out.trans (HB3.out.mono HB2.out.size)⟩
  ·have HO1:=Qaa (HOn.out ⟨by omega,by omega⟩)
   cases hDv:D with
   | false =>
    rw[hDv]at HEq;have HV:=Qaa (HCK.out 81 (fun h=>by have:=HD.out.2 h.2;rw[hDv]at this;cases this) rfl);clear hDv;go_enter Tryz.func13,Tryz.ntmps13;go_upto_region 1 with (fail);rw[HW2.out];refine wp_region_quiet_below (by kernel_rfl) (by kernel_rfl) ?_;repeat (go_big_quiet_step (first | (go_at_call 37;exact HO1.out _ _) | (go_at_call 36;exact HEq.out _ _)))
    refine VT ?_;intro w3 hw';obtain⟨⟨dq,osq⟩,hw''⟩:=hw';obtain⟨wq,hwq,hb3⟩:=HEnd.out dq osq;rw[hwq]at hw'';rw[←hw'']at hb3;have HB3:=Qaa hb3;clear hwq hb3 hw'' wq;go_wp2;go_ret;exact⟨81,rfl,HV.out,HB2.out.trans (HB3.out.mono HB2.out.size)⟩
   | true =>
    rw[hDv]at HEq;have HKo:Hid (Qck a):=⟨⟨by omega,by omega⟩,HD.out.1 hDv⟩;clear hDv HCK;go_enter Tryz.func13,Tryz.ntmps13;go_upto_region 1 with (fail);rw[HW2.out];refine wp_region_quiet_below (by kernel_rfl) (by kernel_rfl) ?_;repeat (go_big_quiet_step (first | (go_at_call 37;exact HO1.out _ _) | (go_at_call 36;exact HEq.out _ _)))
    refine VT ?_;intro w3 hw';obtain⟨⟨dq,osq⟩,hw''⟩:=hw';obtain⟨wq,hwq,hb3⟩:=HEnd.out dq osq;rw[hwq]at hw'';rw[←hw'']at hb3;have HB3:=Qaa hb3;clear hwq hb3 hw'' wq;clear r_c0 r_c1 r_c2 r_c3 r_c4 r_c5 r_c6 r_c7 r_c8 r_a0 r_a1 r_a2 r_a3 r_a4 r_a5 r_a6 r_a7 r_a8 r_a9 r_a10 r_a11 r_a12 r_a13 r_a14;obtain⟨⟨c0,c1,c2,c3,c4,c5,c6,c7,c8⟩,⟨a0,a1,a2,a3,a4,a5,a6,a7,a8,a9,a10,a11,a12,a13,a14⟩⟩:=HZ.out w3 HB3.out;go_upto_region 3 with (fail);have HCH:Hid (¬Qcm c a→QcR c a 82):=fun h=>⟨fun k=>absurd HKo.out k,fun _ _=>rfl,fun _ k=>absurd k h,fun _ k=>absurd k h⟩
    by_cases t1:0≤a.till∧a.till≤c.tills - 1
    ·rw[Vq t1]at HTi
     by_cases n1:a.num<1
     ·have HV:=Qaa (HCH.out (fun h=>by have:=h.2;omega))
      clear t1;go_wp2_with (first | (go_at_call 38;refine(HTi.out _).mono ?_;rintro e w9 ⟨rfl,h9⟩;rw[h9];clear h9 w9) | fail)
      go_ret;exact⟨82,rfl,HV.out,HB2.out.trans (HB3.out.mono HB2.out.size)⟩
     ·by_cases n2:1099511627776<a.num
      ·have HV:=Qaa (HCH.out (fun h=>by have:=h.2;omega))
       clear t1;go_wp2_with (first | (go_at_call 38;refine(HTi.out _).mono ?_;rintro e w9 ⟨rfl,h9⟩;rw[h9];clear h9 w9) | fail)
       go_ret;exact⟨82,rfl,HV.out,HB2.out.trans (HB3.out.mono HB2.out.size)⟩
      ·have HHo:Hid (Qcm c a):=⟨t1,by omega,by omega⟩
       clear t1 HCH;go_upto_region 6 with (first | (go_at_call 38;refine(HTi.out _).mono ?_;rintro e w9 ⟨rfl,h9⟩;rw[h9];clear h9 w9) | fail);have HCR:Hid (∀b,a.kind≠1→Qa8 c a=b→QcR c a (if b then 0 else 87)):=fun b h1 hb=>⟨fun k=>absurd HKo.out k,fun _ k=>absurd HHo.out k,fun _ _ k=>absurd k h1,fun _ _ _=>by rw[hb]⟩
       by_cases q1:a.kind=1
       ·have q1':((a.kind:Int) == 1)=true:=by simp[q1]
        have HV:Hid (QcR c a (QbT c.cl c.pl a)):=⟨fun k=>absurd HKo.out k,fun _ k=>absurd HHo.out k,fun _ _ _=>rfl,fun _ _ k=>absurd q1 k⟩;clear q1;go_wp2_with (first | (go_at_call 39;refine(HWr.out w3 HB3.out).mono ?_;rintro e w4 ⟨rfl,hb⟩;have HB4:Hid (Below w2.heap.size w2 w4):=HB3.out.trans (hb.mono HB3.out.size);clear hb) | fail)
        go_ret;exact⟨_,rfl,HV.out,HB2.out.trans (HB4.out.mono HB2.out.size)⟩
       ·have q1':((a.kind:Int) == 1)=false:=by simp[q1]
        by_cases q4:a.kind=4;have e2:((a.kind:Int) == 2)=false:=by simp[q4]
        have e3:((a.kind:Int) == 3)=false:=by simp[q4]
        have e4:((a.kind:Int) == 4)=true:=by simp[q4]
        have e5:((a.kind:Int) == 5)=false:=by simp[q4]
        obtain⟨rb,hrb⟩:=exq (QaX c.cl 1099511627776 ⟨a.ra,a.rb,a.rd⟩);rw[hrb]at HRt;have hg:Qa8 c a=(rb && decide (0≤a.to∧a.to≤c.tills - 1) && !decide (a.to=a.till)):=by unfold Qa8;rw[if_pos q4,hrb]
        cases rb;have HV:=Qaa (HCR.out false q1 (by rw[hg];rfl));clear hg hrb q1 q4;rotate_left;by_cases t2:0≤a.to∧a.to≤c.tills - 1;rw[Vq t2]at HTo hg;by_cases t3:a.to=a.till;have t3':((a.to:Int) != a.till)=false:=by simp[t3]
        have HV:=Qaa (HCR.out false q1 (by rw[hg,Vq t3];rfl));clear hg hrb q1 q4 t2 t3;rotate_left;have t3':((a.to:Int) != a.till)=true:=by simp[t3]
        have HV:=Qaa (HCR.out true q1 (by rw[hg,Vk t3];rfl));clear hg hrb q1 q4 t2 t3;rotate_left;rw[Vk t2]at HTo hg;have HV:=Qaa (HCR.out false q1 (by rw[hg];rfl));clear hg hrb q1 q4 t2;rotate_left;by_cases q5:a.kind=5;have e2:((a.kind:Int) == 2)=false:=by simp[q5]
        have e3:((a.kind:Int) == 3)=false:=by simp[q5]
        have e4:((a.kind:Int) == 4)=false:=by simp[q5]
        have e5:((a.kind:Int) == 5)=true:=by simp[q5]
        obtain⟨rs,hrs⟩:=exq (Qcg c.cl a.rights.xs);rw[hrs]at HRs;have hg:Qa8 c a=(decide (1≤a.gen) && decide (a.gen≤1099511627776) && rs):=by unfold Qa8;rw[if_neg q4,if_pos q5,hrs]
        by_cases g1:1≤a.gen;by_cases g2:a.gen≤1099511627776;cases rs;have HV:=Qaa (HCR.out false q1 (by rw[hg];simp));clear hg hrs q1 q4 q5;rotate_left;have HV:=Qaa (HCR.out true q1 (by rw[hg];simp[g1,g2]));clear hg hrs q1 q4 q5;rotate_left;have HV:=Qaa (HCR.out false q1 (by rw[hg,Vk g2];simp));clear hg hrs q1 q4 q5;rotate_left;have HV:=Qaa (HCR.out false q1 (by rw[hg,Vk g1];simp));clear hg hrs q1 q4 q5;rotate_left;have e4:((a.kind:Int) == 4)=false:=by simp[q4]
        have e5:((a.kind:Int) == 5)=false:=by simp[q5]
        obtain⟨rb,hrb⟩:=exq (QaX c.cl 1099511627776 ⟨a.ra,a.rb,a.rd⟩);rw[hrb]at HRt;have HV:=Qaa (HCR.out rb q1 (by unfold Qa8;rw[if_neg q4,if_neg q5,hrb]));by_cases q2:a.kind=2;have e2:((a.kind:Int) == 2)=true:=by simp[q2]
        clear hrb q1 q4 q5 q2;cases rb;rotate_left;rotate_left;have q3:a.kind=3:=by omega
        have e2:((a.kind:Int) == 2)=false:=by simp[q2]
        have e3:((a.kind:Int) == 3)=true:=by simp[q3]
        clear hrb q1 q4 q5 q2 q3;cases rb;rotate_left
        all_goals
         go_wp2_with (first | (go_at_call 40;refine(HRt.out _).mono ?_;rintro e w4 ⟨rfl,hb⟩;have HB4:Hid (Below w2.heap.size w2 w4):=HB3.out.trans (hb.mono HB3.out.size);clear hb;clear c0 c1 c2 c3 c4 c5 c6 c7 c8 a0 a1 a2 a3 a4 a5 a6 a7 a8 a9 a10 a11 a12 a13 a14;obtain⟨⟨c0,c1,c2,c3,c4,c5,c6,c7,c8⟩,⟨a0,a1,a2,a3,a4,a5,a6,a7,a8,a9,a10,a11,a12,a13,a14⟩⟩:=HZ.out w4 HB4.out) | (go_at_call 41;refine(HRs.out _ HB3.out).mono ?_;rintro e w4 ⟨rfl,hb⟩;have HB4:Hid (Below w2.heap.size w2 w4):=HB3.out.trans (hb.mono HB3.out.size);clear hb;clear c0 c1 c2 c3 c4 c5 c6 c7 c8 a0 a1 a2 a3 a4 a5 a6 a7 a8 a9 a10 a11 a12 a13 a14;obtain⟨⟨c0,c1,c2,c3,c4,c5,c6,c7,c8⟩,⟨a0,a1,a2,a3,a4,a5,a6,a7,a8,a9,a10,a11,a12,a13,a14⟩⟩:=HZ.out w4 HB4.out) | (go_at_call 38;refine(HTo.out _).mono ?_;rintro e w9 ⟨rfl,h9⟩;rw[h9];clear h9 w9) | fail)
         go_ret;first | exact⟨_,rfl,HV.out,HB2.out.trans (HB4.out.mono HB2.out.size)⟩ | exact⟨_,rfl,HV.out,HB2.out.trans (HB3.out.mono HB2.out.size)⟩
    ·rw[Vk t1]at HTi
     have HV:=Qaa (HCH.out (fun h=>t1 h.1));clear t1;go_wp2_with (first | (go_at_call 38;refine(HTi.out _).mono ?_;rintro e w9 ⟨rfl,h9⟩;rw[h9];clear h9 w9) | fail)
     go_ret;exact⟨82,rfl,HV.out,HB2.out.trans (HB3.out.mono HB2.out.size)⟩
end Go.Proofs.YtiogibfhafoapaaGreat
namespace Go.Proofs.YtiogibfhafoapaaGreat
open Go.RowKit
open Z (Sli QaE Acd Qad)
def Sta.fits (s:Sta) (xs:List Lin):Bool:=(QaD xs).all (fun x=>decide (x.n≤s.free x.a x.b))
def Sta.keeps (s:Sta) (t:Int) (xs:List Lin):Bool:=(QaD xs).all (fun x=>decide (x.n≤s.held t x.a x.b))
def Sta.opens (s:Sta) (xs:List Tri):Bool:=xs.all (fun x=>s.isOpen x.a)
def Sta.guards (s:Sta) (xs:List Tri):Bool:=xs.all (fun x=>s.guard x.a x.b x.n)
def Sta.hasAll (s:Sta) (t:Int) (xs:List Tri):Bool:=xs.all (fun x=>decide (x.n≤s.held t x.a x.b))
def Tld.far (B:Nat) (a:Acd) (T:Tld):Prop:=(T.made.xs≠[]→∀g,T.made.p=some g→B≤g.block∨(a.lines.p=some g∧a.lines.xs≠[])∨(a.other.p=some g∧a.other.xs≠[]))∧(T.sets.xs≠[]→∀g,T.sets.p=some g→B≤g.block)
theorem Qaj (B:Nat) (a:Acd) (o n:Int):(QaJ o n).far B a:=⟨fun h=>absurd rfl h,fun h=>absurd rfl h⟩
theorem Tld.far.le {B B':Nat} {a:Acd} {T:Tld} (h:T.far B a) (hb:B'≤B):T.far B' a:=⟨fun h1 g e=>(h.1 h1 g e).imp (fun h2=>Vt hb h2) id,fun h1 g e=>Vt hb (h.2 h1 g e)⟩
structure Jb (w:World) (s:Sta) (a:Acd) (W:World):Prop where
 st:W.heap[w.heap.size]?=some (.cells s.arr 42 (0,0))
 ac:W.heap[w.heap.size+1]?=some (.cells a.arr 55 (0,0))
 tl:W.heap[w.heap.size+1+1]?=some (.cells #[.int .i64 0,.slice none 0 0,.slice none 0 0,.int .i64 0] 151 (0,0))
 bel:Below w.heap.size w W
theorem Jb.below {w W W':World} {s:Sta} {a:Acd} (h:Jb w s a W) (hb:Below W.heap.size W W'):Jb w s a W' :=
 ⟨(hb.block _ (Qab h.st)).trans h.st,(hb.block _ (Qab h.ac)).trans h.ac,(hb.block _ (Qab h.tl)).trans h.tl,h.bel.trans (hb.mono h.bel.size)⟩
theorem Qc3 (w:World) (s:Sta) (a:Acd):∃w2,((w.alloc (.cells (qS s) 42)).alloc (.cells #[.int .i64 a.till,.int .u64 a.num,.int .i64 a.kind,.bool a.sure,.slice a.lines.p a.lines.n a.lines.c,.slice a.guards.p a.guards.n a.guards.c,.slice a.sets.p a.sets.n a.sets.c,.int .i64 a.mg,.slice a.other.p a.other.n a.other.c,.int .i64 a.ra,.int .i64 a.rb,.int .i64 a.rd,.int .i64 a.to,.int .u64 a.gen,.slice a.rights.p a.rights.n a.rights.c] 55)).alloc (.cells #[.int .i64 0,.slice none 0 0,.slice none 0 0,.int .i64 0] 151)=w2∧Jb w s a w2:=by
 refine⟨_,rfl,⟨?_,?_,?_,?_⟩⟩
 ·rw[Vc _ _ _ (by simp only[Vm];omega),Vc _ _ _ (by simp)];exact hNq _ _
 ·rw[Vc _ _ _ (by simp)];exact VV _ _ _
 ·have h:=hNq ((w.alloc (.cells (qS s) 42)).alloc (.cells #[.int .i64 a.till,.int .u64 a.num,.int .i64 a.kind,.bool a.sure,.slice a.lines.p a.lines.n a.lines.c,.slice a.guards.p a.guards.n a.guards.c,.slice a.sets.p a.sets.n a.sets.c,.int .i64 a.mg,.slice a.other.p a.other.n a.other.c,.int .i64 a.ra,.int .i64 a.rb,.int .i64 a.rd,.int .i64 a.to,.int .u64 a.gen,.slice a.rights.p a.rights.n a.rights.c] 55)) (.cells #[.int .i64 0,.slice none 0 0,.slice none 0 0,.int .i64 0] 151)
  simp only[Vm]at h;exact h
 ·exact(((Below.refl _ w).alloc (Va _) _).alloc (by simp) _).alloc (by simp;omega) _
theorem Jb.cells {w W:World} {s:Sta} {a:Acd} (h:Jb w s a W):(W.cell? ⟨w.heap.size,0,none⟩=some (.int .u64 s.pos)∧W.cell? ⟨w.heap.size,1,none⟩=some (.slice s.pp s.pn s.pc)∧W.cell? ⟨w.heap.size,2,none⟩=some (.slice s.rp s.rn s.rc)∧W.cell? ⟨w.heap.size,3,none⟩=some (.slice s.lp s.ln s.lc)∧W.cell? ⟨w.heap.size,4,none⟩=some (.slice s.gp s.gn s.gc)∧W.cell? ⟨w.heap.size,5,none⟩=some (.slice s.op s.on s.oc))∧(W.cell? ⟨w.heap.size+1,0,none⟩=some (.int .i64 a.till)∧W.cell? ⟨w.heap.size+1,1,none⟩=some (.int .u64 a.num)∧W.cell? ⟨w.heap.size+1,2,none⟩=some (.int .i64 a.kind)∧W.cell? ⟨w.heap.size+1,3,none⟩=some (.bool a.sure)∧W.cell? ⟨w.heap.size+1,4,none⟩=some (.slice a.lines.p a.lines.n a.lines.c)∧W.cell? ⟨w.heap.size+1,5,none⟩=some (.slice a.guards.p a.guards.n a.guards.c)∧W.cell? ⟨w.heap.size+1,6,none⟩=some (.slice a.sets.p a.sets.n a.sets.c)∧W.cell? ⟨w.heap.size+1,7,none⟩=some (.int .i64 a.mg)∧W.cell? ⟨w.heap.size+1,8,none⟩=some (.slice a.other.p a.other.n a.other.c)∧W.cell? ⟨w.heap.size+1,9,none⟩=some (.int .i64 a.ra)∧W.cell? ⟨w.heap.size+1,10,none⟩=some (.int .i64 a.rb)∧W.cell? ⟨w.heap.size+1,11,none⟩=some (.int .i64 a.rd)∧W.cell? ⟨w.heap.size+1,12,none⟩=some (.int .i64 a.to)∧W.cell? ⟨w.heap.size+1,13,none⟩=some (.int .u64 a.gen)∧W.cell? ⟨w.heap.size+1,14,none⟩=some (.slice a.rights.p a.rights.n a.rights.c)):=⟨ac6 h.st,QaA h.ac⟩
theorem Tryz.sizeT:(Tryz.prog.info? 151).map (·.size)=some 4:=by kernel_rfl
theorem Jb.store {w W:World} {s:Sta} {a:Acd} (h:Jb w s a W) (T:Tld):(Instr.storeAt 151 (.pointer (some ⟨w.heap.size+1+1,0,none⟩)) (.agg T.arr)).run Tryz.prog W=.ok () (W.setRow (w.heap.size+1+1) T.arr)∧(W.setRow (w.heap.size+1+1) T.arr).heap[w.heap.size+1+1]?=some (.cells T.arr 151 (0,0))∧Below w.heap.size w (W.setRow (w.heap.size+1+1) T.arr)∧(QcB W T→(T.made.xs≠[]→∀g,T.made.p=some g→g.block≠w.heap.size+1+1)→(T.sets.xs≠[]→∀g,T.sets.p=some g→g.block≠w.heap.size+1+1)→QcB (W.setRow (w.heap.size+1+1) T.arr) T):=by
 refine⟨Z.storeAt_row (P:=Tryz.prog) (c':=T.arr) h.tl Tryz.sizeT rfl T.ones,VB _ _ _ _ _ _ h.tl,VA h.bel (by omega) _,fun hT h1 h2=>?_⟩
 have hk:∀(sz:Nat) (p:Option Addr) (cs:List (List Value)),Cel W p sz cs→(cs≠[]→∀g,p=some g→g.block≠w.heap.size+1+1)→Cel (W.setRow (w.heap.size+1+1) T.arr) p sz cs:=fun sz p cs hc hn=>by
  rcases hc with hc | ⟨b,o,e,hb,hc⟩
  ·exact Or.inl hc
  ·by_cases hcs:cs=[]
   ·exact Or.inl hcs
   refine Or.inr ⟨b,o,e,by simpa using hb,fun i r hr j v hv=>?_⟩;have hne:=hn hcs _ e;rw[VC (w:=W) (Vz W _ _ _ (by simpa using hne))];exact hc i r hr j v hv
 exact⟨⟨hT.made.len,hT.made.most,hk _ _ _ hT.made.cel (fun h=>h1 (fun e=>h (by rw[e];rfl)))⟩,⟨hT.sets.len,hT.sets.most,hk _ _ _ hT.sets.cel (fun h=>h2 (fun e=>h (by rw[e];rfl)))⟩⟩
theorem QbS {α:Type} {w:World} {sz:Nat} {f:α→List Value} {s:Sli α} (h:QaE w sz f s) (k:Nat) (hk:w.heap.size≤k):s.xs≠[]→∀g,s.p=some g→g.block≠k:=fun hs g e hg=>by
 rcases h.cel with hc | ⟨b,o,e2,hb,_⟩
 ·rw[List.map_eq_nil_iff]at hc;exact hs hc
 ·rw[e2]at e;cases e;simp at hg;omega
theorem Tld.far.off {w:World} {B:Nat} {a:Acd} {T:Tld} (h:T.far B a) (hok:Qad w a) (k:Nat) (hk:w.heap.size≤k) (hkB:k<B):(T.made.xs≠[]→∀g,T.made.p=some g→g.block≠k)∧(T.sets.xs≠[]→∀g,T.sets.p=some g→g.block≠k) :=
 ⟨fun h1 g e=>by
  rcases h.1 h1 g e with h2 | ⟨h2,h3⟩ | ⟨h2,h3⟩
  ·omega
  ·exact QbS hok.lines k hk h3 g h2
  ·exact QbS hok.other k hk h3 g h2,
  fun h1 g e=>by have:=h.2 h1 g e;omega⟩
theorem Qjx (w:World) (s:Sta) (hs:Qae w s) (a:Acd) (hok:Qad w a) (hwf:∀x∈a.lines.xs,Qaw x) (t:Nat) (ht:a.till=(t:Int)) (hth:RgH s t) (hr:∀x∈a.lines.xs,RgL s x) :
  Calls Tryz.prog 117 #[.agg (qS s),.agg #[.int .i64 a.till,.int .u64 a.num,.int .i64 a.kind,.bool a.sure,.slice a.lines.p a.lines.n a.lines.c,.slice a.guards.p a.guards.n a.guards.c,.slice a.sets.p a.sets.n a.sets.c,.int .i64 a.mg,.slice a.other.p a.other.n a.other.c,.int .i64 a.ra,.int .i64 a.rb,.int .i64 a.rd,.int .i64 a.to,.int .u64 a.gen,.slice a.rights.p a.rights.n a.rights.c]] w fun e w'=>∃T:Tld,e=.returned (.agg T.arr)∧T.d=(if s.keeps a.till a.lines.xs then (1,a.lines.xs,[],0) else (3,[],[],0))∧QcB w' T∧T.far w.heap.size a∧Below w.heap.size w w':=by
 obtain⟨w2,hw2,hJ⟩:=Qc3 w s a;obtain⟨HW2,HJ⟩:=Qmj hw2 hJ;obtain⟨⟨c0,c1,c2,c3,c4,c5⟩,⟨a0,a1,a2,a3,a4,a5,a6,a7,a8,a9,a10,a11,a12,a13,a14⟩⟩:=hJ.cells;have HH:=Qaa (Qgt w2 s (hs.below hJ.bel) t hth a.lines.p a.lines.n a.lines.c a.lines.xs hok.lines.len (by have:=hok.lines.most;omega) hwf (hok.lines.below hJ.bel).cel hr);have hkp:((QaD a.lines.xs).all (fun x=>decide (x.n≤s.held t x.a x.b)))=s.keeps a.till a.lines.xs:=by unfold Sta.keeps;rw[ht]
 rw[hkp]at HH;unfold Sta.arr at HH;have HLo:=Qaa hok.lines;rw[ht]at a0 HW2 HH ⊢;clear hw2 hJ hs hwf hth hr hkp
 cases hk:s.keeps t a.lines.xs with
 | false =>
  rw[hk]at HH;clear hk;go_enter Tryz.func117,Tryz.ntmps117;go_upto_region 1 with (fail);rw[HW2.out];go_upto_region 2 with (first | (go_at_call 57;refine HH.out.mono ?_;rintro e w3 ⟨rfl,hb⟩;have HJ3:=Qaa (HJ.out.below hb);clear hb) | fail);obtain⟨hS,hE,hB,hT⟩:=HJ3.out.store (QaJ 3 0);obtain⟨HS,HE,HBe⟩:=Qmk hS hE hB;have HT:=Qaa (hT (Qau _ _ _) (fun h=>absurd rfl h) (fun h=>absurd rfl h));clear hS hE hB hT;go_wp2_with (first | ((with_reducible refine gsq 151 4 ?_);refine Z.lp_store (t:=151) (x:=.tmp 4) (some ⟨w.heap.size+1+1,0,none⟩) (.agg (QaJ 3 0).arr) rfl rfl HS.out ?_) | fail)
  refine bq rfl rfl HE.out Tryz.underlying151 rfl Tryz.sizeT rfl ?_;exact⟨QaJ 3 0,rfl,rfl,HT.out,Qaj _ _ _ _,HBe.out⟩
 | true =>
  rw[hk]at HH;clear hk;go_enter Tryz.func117,Tryz.ntmps117;go_upto_region 1 with (fail);rw[HW2.out];go_upto_region 3 with (first | (go_at_call 57;refine HH.out.mono ?_;rintro e w3 ⟨rfl,hb⟩;have HJ3:=Qaa (HJ.out.below hb);clear hb) | fail);clear c0 c1 c2 c3 c4 c5 a0 a1 a2 a3 a4 a5 a6 a7 a8 a9 a10 a11 a12 a13 a14;obtain⟨⟨c0,c1,c2,c3,c4,c5⟩,⟨a0,a1,a2,a3,a4,a5,a6,a7,a8,a9,a10,a11,a12,a13,a14⟩⟩:=HJ3.out.cells;obtain⟨hS,hE,hB,hT⟩:=HJ3.out.store ⟨1,a.lines,⟨none,0,0,[]⟩,0⟩;obtain⟨HS,HE,HBe⟩:=Qmk hS hE hB;have HT:=Qaa (hT ⟨HLo.out.below HJ3.out.bel,QaM _ _ _⟩ (QbS HLo.out _ (by omega)) (fun h=>absurd rfl h));clear hS hE hB hT;go_wp2_with (first | ((with_reducible refine gsq 151 4 ?_);refine Z.lp_store (t:=151) (x:=.tmp 4) (some ⟨w.heap.size+1+1,0,none⟩) (.agg ((⟨1,a.lines,⟨none,0,0,[]⟩,0⟩:Tld)).arr) rfl rfl HS.out ?_) | fail)
  refine bq rfl rfl HE.out Tryz.underlying151 rfl Tryz.sizeT rfl ?_;exact⟨⟨1,a.lines,⟨none,0,0,[]⟩,0⟩,rfl,rfl,HT.out,⟨fun h g e=>Or.inr (Or.inl ⟨e,h⟩),fun h=>absurd rfl h⟩,HBe.out⟩
end Go.Proofs.YtiogibfhafoapaaGreat
namespace Go.Proofs.YtiogibfhafoapaaGreat
open Go.RowKit
theorem Qa9 (w:World) (n lo hi:Int):Calls Tryz.prog 169 #[.int .i64 n,.int .i64 lo,.int .i64 hi] w fun e w'=>e=.returned (.bool (decide (lo≤n∧n≤hi)))∧w'=w:=by
 by_cases h1:lo≤n
 ·by_cases h2:n≤hi
  ·rw[Vq ⟨h1,h2⟩]
   go_enter Tryz.func169,Tryz.ntmps169;go_wp2;go_ret;exact⟨rfl,rfl⟩
  ·rw[Vk (fun h=>h2 h.2)]
   go_enter Tryz.func169,Tryz.ntmps169;go_wp2;go_ret;exact⟨rfl,rfl⟩
 ·rw[Vk (fun h=>h1 h.1)]
  go_enter Tryz.func169,Tryz.ntmps169;go_wp2;go_ret;exact⟨rfl,rfl⟩
structure Shp (c:Cfg) (s:Sta):Prop where
 pn:s.pn=c.cl
 rn:s.rn=c.pl
 ln:(s.ln:Int)=c.tills
 gn:(s.gn:Int)=c.tills
 on:(s.on:Int)=c.tills
 hl:∀p∈s.pools,(p.hl:Int)=c.tills
def ShpB (c:Cfg) (s:Sta) (b:Bool):Prop:=b=true↔Shp c s
def ShpE (c:Cfg) (s:Sta) (e:Ending):Prop:=∃b:Bool,e=.returned (.bool b)∧ShpB c s b
theorem Qf0 (w:World) (c:Cfg) (s:Sta) (hs:Qae w s) (hpn:s.pn≤140737488355328) :
  Calls Tryz.prog 167 #[c.v,.agg (qS s)] w fun e w'=>ShpE c s e∧Below w.heap.size w w':=by
 unfold Cfg.v;obtain⟨w2,hw2,hb2,hx2,hy2⟩:=QaQ w (qC c) 34 42 (qS s);obtain⟨HW2,HB2,HX2,HY2⟩:=hd4 hw2 hb2 hx2 hy2;have HS:=Qaa (hs.below hb2);obtain⟨c0,c1,c2,-,-,-,-,-,-⟩:=ac9 hx2;obtain⟨s0,s1,s2,s3,s4,s5⟩:=ac6 hy2;clear hw2 hb2 hx2 hy2 hs;have bad:Hid (¬Shp c s→ShpB c s false):=fun h=>⟨fun k=>(by cases k),fun k=>absurd k h⟩
 by_cases e1:s.pn=c.cl
 ·have p1:((s.pn:Int) != (c.cl:Int))=false:=by simp[e1]
  by_cases e2:s.rn=c.pl
  ·have p2:((s.rn:Int) != (c.pl:Int))=false:=by simp[e2]
   by_cases e3:(s.ln:Int)=c.tills
   ·have p3:((s.ln:Int) != c.tills)=false:=by simp[e3]
    by_cases e4:(s.gn:Int)=c.tills
    ·have p4:((s.gn:Int) != c.tills)=false:=by simp[e4]
     by_cases e5:(s.on:Int)=c.tills
     ·have p5:((s.on:Int) != c.tills)=false:=by simp[e5]
      have HE:Hid (s.pn=c.cl∧s.rn=c.pl∧(s.ln:Int)=c.tills∧(s.gn:Int)=c.tills∧(s.on:Int)=c.tills):=⟨e1,e2,e3,e4,e5⟩;clear e1 e2 e3 e4 e5;go_enter Tryz.func167,Tryz.ntmps167;go_upto_region 1 with (fail);rw[HW2.out];go_wp2_with fail
      go_loopw [5] (fun i wr=>∃j:Nat,j≤s.pn∧i=.int .i64 j∧Hid (∀p∈s.pools.take j,(p.hl:Int)=c.tills)∧Hid (Below w2.heap.size w2 wr)) (fun i _=>s.pn - (intOf i).toNat);case atStart=>exact⟨0,Vo _,rfl,by intro p hp;simp at hp,bR⟩
      case round =>
       clear c0 c1 c2 s0 s1 s2 s3 s4 s5;obtain⟨j,hj,rfl,HA,HB⟩:=hrel;obtain⟨c0,-,-,-,-,-,-,-,-⟩:=ac9 ((HB.out.block _ (Qab HX2.out)).trans HX2.out);obtain⟨-,s1,-,-,-,-⟩:=ac6 ((HB.out.block _ (Qab HY2.out)).trans HY2.out);by_cases hlt:j<s.pn
       ·have hlt':(j:Int)<(s.pn:Int):=by omega
        have j0':(0:Int)≤(j:Int):=by omega
        obtain⟨P,hP⟩:∃P,s.pools[j]?=some P:=⟨_,gE (by rw[HS.out.pn];exact hlt)⟩;obtain⟨pb,po,ep,hpb,hpc⟩:=(HS.out.pools.below HB.out).get (i:=j) (r:=plc P) (by rw[Vb,hP];rfl);have b3:=hpc 3 _ rfl;rw[ep]at s1;have HTk:=Qaa (show s.pools.take (j+1)=s.pools.take j++[P] from take_snoc hP);have HPm:=Qaa (mG hP);have HBd:Hid (Below w2.heap.size w2 wr.drew):=HB.out.drew;obtain⟨pn,hpn'⟩:∃pn,s.pn=pn:=⟨_,rfl⟩;have HPn:=Qaa hpn';have hpb2:pn≤140737488355328:=by rw[←hpn'];exact hpn
        rw[hpn']at s1 hlt' hlt hj;obtain⟨hl,hhl⟩:=exq P.hl;rw[hhl]at b3;have HHl:=Qaa hhl;clear hpc hP ep hpn' hhl;by_cases hv:(hl:Int)=c.tills
        ·have hv':((hl:Int) != c.tills)=false:=by simp[hv]
         have HV:=Qaa hv;clear hv;go_upto_region 6 with (fail);go_region_held3 (fun w'=>w'.cell? ⟨w.heap.size,0,none⟩=some (.int .i64 c.tills)∧w'.cell? ⟨w.heap.size+1,1,none⟩=some (.slice (some ⟨pb,po,none⟩) pn s.pc)∧w'.cell? ⟨pb,po+j*4+3,none⟩=some (.slice P.hp hl P.hc)) (go_keep) (first | fail);go_wp2;go_roundw;case rel=>exact⟨j+1,by rw[HPn.out];omega,by go_num,by show ∀_,_;rw[HTk.out];intro p hp;rcases List.mem_append.1 hp with h | h;exact HA.out p h;simp at h;rw[h,HHl.out];exact HV.out,HBd⟩
         case measure=>rw[HPn.out];simp[intOf];omega
        ·have hv':((hl:Int) != c.tills)=true:=by simp[hv]
         have HV:=Qaa (bad.out (fun h=>hv (by have:=h.hl P HPm.out;rw[HHl.out]at this;exact this)));clear hv;go_upto_region 6 with (fail);go_region_held3 (fun w'=>w'.cell? ⟨w.heap.size,0,none⟩=some (.int .i64 c.tills)∧w'.cell? ⟨w.heap.size+1,1,none⟩=some (.slice (some ⟨pb,po,none⟩) pn s.pc)∧w'.cell? ⟨pb,po+j*4+3,none⟩=some (.slice P.hp hl P.hc)) (go_keep) (first | fail);go_wp2;go_ret;exact⟨⟨false,rfl,HV.out⟩,HB2.out.trans (HBd.out.mono HB2.out.size)⟩
       ·have hlt':¬(j:Int)<(s.pn:Int):=by omega
        have HV:Hid (ShpB c s true):=by
         refine⟨fun _=>?_,fun _=>rfl⟩;obtain⟨h1,h2,h3,h4,h5⟩:=HE.out;have h:=HA.out;rw[Vh (by rw[HS.out.pn];omega)]at h;exact⟨h1,h2,h3,h4,h5,h⟩
        go_wp2;go_ret;exact⟨⟨true,rfl,HV.out⟩,HB2.out.trans (HB.out.mono HB2.out.size)⟩
     ·have p5:((s.on:Int) != c.tills)=true:=by simp[e5]
      have HV:=Qaa (bad.out (fun h=>e5 h.on));clear e1 e2 e3 e4 e5;go_enter Tryz.func167,Tryz.ntmps167;go_upto_region 1 with (fail);rw[HW2.out];go_wp2_with fail
      go_ret;exact⟨⟨false,rfl,HV.out⟩,HB2.out⟩
    ·have p4:((s.gn:Int) != c.tills)=true:=by simp[e4]
     have HV:=Qaa (bad.out (fun h=>e4 h.gn));clear e1 e2 e3 e4;go_enter Tryz.func167,Tryz.ntmps167;go_upto_region 1 with (fail);rw[HW2.out];go_wp2_with fail
     go_ret;exact⟨⟨false,rfl,HV.out⟩,HB2.out⟩
   ·have p3:((s.ln:Int) != c.tills)=true:=by simp[e3]
    have HV:=Qaa (bad.out (fun h=>e3 h.ln));clear e1 e2 e3;go_enter Tryz.func167,Tryz.ntmps167;go_upto_region 1 with (fail);rw[HW2.out];go_wp2_with fail
    go_ret;exact⟨⟨false,rfl,HV.out⟩,HB2.out⟩
  ·have p2:((s.rn:Int) != (c.pl:Int))=true:=by simp;omega
   have HV:=Qaa (bad.out (fun h=>e2 h.rn));clear e1 e2;go_enter Tryz.func167,Tryz.ntmps167;go_upto_region 1 with (fail);rw[HW2.out];go_wp2_with fail
   go_ret;exact⟨⟨false,rfl,HV.out⟩,HB2.out⟩
 ·have p1:((s.pn:Int) != (c.cl:Int))=true:=by simp;omega
  have HV:=Qaa (bad.out (fun h=>e1 h.pn));clear e1;go_enter Tryz.func167,Tryz.ntmps167;go_upto_region 1 with (fail);rw[HW2.out];go_wp2_with fail
  go_ret;exact⟨⟨false,rfl,HV.out⟩,HB2.out⟩
structure QaW (f slack:Int) (l:List Int):Prop where
 f0:0≤f
 each:∀h∈l,0≤h∧h≤18014398509481984
 sum:f+l.sum=slack
structure Qa1 (lo hi:Int) (p:Pl):Prop where
 vlo:lo≤p.v
 vhi:p.v≤hi
 down:QaW p.f0 (p.v - lo) (p.hs.map (·.c))
 up:QaW p.f1 (hi - p.v) (p.hs.map (·.n))
def QlY (lo hi:Int) (p:Pl) (e:Ending):Prop:=∃b:Bool,e=.returned (.bool b)∧(b=true↔Qa1 lo hi p)
theorem QhD {l:List Int} (h:∀x∈l,(0:Int)≤x):0≤l.sum:=by
 induction l with
 | nil=>simp
 | cons x l ih =>
  have h1:=h x (VH ..);have h2:=ih (fun y hy=>h y (Vy _ hy));rw[List.sum_cons];omega
theorem QaW.pre {f slack:Int} {l:List Int} (h:QaW f slack l) (k:Nat):f+(l.take k).sum≤slack:=by
 have h1:=h.sum;have h2:l.sum=(l.take k).sum+(l.drop k).sum:=by rw[←List.sum_append,List.take_append_drop]
 have h3:=QhD (l:=l.drop k) (fun x hx=>(h.each x (List.mem_of_mem_drop hx)).1);omega
theorem QaW.free {f slack:Int} {l:List Int} (h:QaW f slack l):f≤slack:=by have:=h.pre 0;simpa using this
theorem Qjm (w:World) (nm:ByteArray) (lo hi st:Int) (p:Pl) (hp:Qmb w p) (hlo : -9007199254740992≤lo) (hhi:hi≤9007199254740992) (hl:p.hl≤140737488355328) :
  Calls Tryz.prog 168 #[.agg #[.string nm,.int .i64 lo,.int .i64 hi,.int .i64 st],.agg #[.int .i64 p.v,.int .i64 p.f0,.int .i64 p.f1,.slice p.hp p.hl p.hc]] w fun e w'=>QlY lo hi p e∧Below w.heap.size w w':=by
 obtain⟨w2,hw2,hb2,hx2,hy2⟩:=QaQ w #[.string nm,.int .i64 lo,.int .i64 hi,.int .i64 st] 115 121 #[.int .i64 p.v,.int .i64 p.f0,.int .i64 p.f1,.slice p.hp p.hl p.hc];obtain⟨HW2,HB2,HX2,HY2,HP⟩:=Qml hw2 hb2 hx2 hy2 hp;obtain⟨-,c1,c2,-⟩:=ac4 hx2;obtain⟨p0,p1,p2,p3⟩:=ac4 hy2;have HBt:=Qaa (fun W=>Qa9 W p.v lo hi);have bad:Hid (∀e,e=.returned (.bool false)→¬Qa1 lo hi p→QlY lo hi p e):=fun e he h=>⟨false,he,fun k=>(by cases k),fun k=>absurd k h⟩
 obtain⟨v,hv⟩:=exq p.v;obtain⟨n,hn⟩:=exq p.hl;obtain⟨f0,hf0⟩:=exq p.f0;obtain⟨f1,hf1⟩:=exq p.f1;obtain⟨HV,HN,HF0,HF1⟩:=hd4 hv hn hf0 hf1;rw[hv]at HW2 HY2 HBt p0 ⊢;rw[hn]at HW2 HY2 p3 hl ⊢;rw[hf0]at HW2 HY2 p1 ⊢;rw[hf1]at HW2 HY2 p2 ⊢;clear hw2 hb2 hx2 hy2 hp hv hn hf0 hf1;by_cases hb:lo≤v∧v≤hi
 ·rw[Vq hb]at HBt
  obtain⟨h1,h2⟩:=hb;obtain⟨sl0,hsl0⟩:=exq (v - lo);obtain⟨sl1,hsl1⟩:=exq (hi - v);have hs0:0≤sl0∧sl0≤18014398509481984:=by omega
  have hs1:0≤sl1∧sl1≤18014398509481984:=by omega
  have w0:IntKind.i64.wrap (v - lo)=sl0:=by rw[hsl0];simp[IntKind.wrap,IntKind.bits,IntKind.signed];omega
  have w1:IntKind.i64.wrap (hi - v)=sl1:=by rw[hsl1];simp[IntKind.wrap,IntKind.bits,IntKind.signed];omega
  obtain⟨HS0,HS1⟩:=Qmj hsl0 hsl1;have HL:=Qaa (And.intro h1 h2);have HB0:=Qaa (fun W=>Qa9 W f0 0 sl0);have HB1:=Qaa (fun W=>Qa9 W f1 0 sl1);have HBh:=Qaa (fun W h=>Qa9 W h 0 18014398509481984);have HD:Hid (Qa1 lo hi p→QaW f0 sl0 (p.hs.map (·.c))∧QaW f1 sl1 (p.hs.map (·.n))):=fun h=>⟨by have:=h.down;rw[HV.out,HS0.out,HF0.out]at this;exact this,by have:=h.up;rw[HV.out,HS1.out,HF1.out]at this;exact this⟩
  have HG:Hid (QaW f0 sl0 (p.hs.map (·.c))→QaW f1 sl1 (p.hs.map (·.n))→Qa1 lo hi p):=fun a b=>⟨by rw[HV.out];exact HL.out.1,by rw[HV.out];exact HL.out.2,by rw[HV.out,HS0.out,HF0.out];exact a,by rw[HV.out,HS1.out,HF1.out];exact b⟩
  clear h1 h2;go_enter Tryz.func168,Tryz.ntmps168;go_upto_region 1 with (fail);rw[HW2.out];go_upto_region 3 with (first | (go_at_call 169;refine(HBt.out _).mono ?_;rintro e w9 ⟨rfl,h9⟩;rw[h9];clear h9 w9) | fail);go_wp2_with fail
  go_loopw [5] (fun i wr=>∃j:Nat,j≤2∧i=.int .i64 j∧wr=w2∧Hid (1≤j→QaW f0 sl0 (p.hs.map (·.c)))∧Hid (2≤j→QaW f1 sl1 (p.hs.map (·.n)))) (fun i _=>2 - (intOf i).toNat);case atStart=>exact⟨0,by omega,rfl,rfl,fun h=>by omega,fun h=>by omega⟩
  case round =>
   obtain⟨j,hj,rfl,hwr,HW0,HW1⟩:=hrel;rw[hwr];clear hwr wr;have hj3:j=0∨j=1∨j=2:=by omega
   rcases hj3 with rfl | rfl | rfl
   ·have HWx:Hid True:=trivial
    by_cases g1:0≤f0∧f0≤sl0
    ·have HBc:=Qaa (fun W=>HB0.out W)
     rw[Vq g1]at HBc;go_upto_region 12 with (first | (go_at_call 169;refine(HBc.out _).mono ?_;rintro e w9 ⟨rfl,h9⟩;rw[h9];clear h9 w9) | fail);go_wp2_with fail
     go_loopw [7,8] (fun av iv wr=>∃(k:Nat) (al:Int),k≤n∧av=.int .i64 al∧iv=.int .i64 k∧wr=w2∧0≤al∧al≤sl0∧Hid (al=f0+((p.hs.map (·.c)).take k).sum)∧Hid (∀h∈(p.hs.map (·.c)).take k,0≤h∧h≤18014398509481984)) (fun _ i _=>n - (intOf i).toNat);case atStart=>exact⟨0,f0,by omega,rfl,rfl,rfl,g1.1,g1.2,by show _=_;simp,by intro h hh;simp at hh⟩
     case round =>
      obtain⟨k,al,hk,rfl,rfl,hwr,ha0,ha1,HAl,HEa⟩:=hrel;rw[hwr];clear hwr wr;by_cases hkn:k<n
      ·have hkn':(k:Int)<(n:Int):=by omega
       have k0':(0:Int)≤(k:Int):=by omega
       obtain⟨x,hx⟩:∃x,p.hs[k]?=some x:=⟨_,gE (by rw[HP.out.len,HN.out];exact hkn)⟩;obtain⟨hb',ho',eh,hhb,hhc⟩:=(HP.out.cel.below HB2.out).get (i:=k) (r:=Qal x) (by rw[Vb,hx];rfl);have d0:=hhc 0 _ rfl;have d1:=hhc 1 _ rfl;rw[Vr]at d0;have p3':=p3;rw[eh]at p3';have hxm:(p.hs.map (·.c))[k]?=some x.c:=by rw[Vb,hx];rfl
       have HT:=Qaa (show (p.hs.map (·.c)).take (k+1)=(p.hs.map (·.c)).take k++[x.c] from take_snoc hxm);have HXm:=Qaa (mG hxm)
       have HPre:Hid (QaW f0 sl0 (p.hs.map (·.c))→al+x.c≤sl0):=fun h=>by
        have:=h.pre (k+1);rw[HT.out,List.sum_append]at this;rw[HAl.out];simp at this;omega
       obtain⟨xv,hxv⟩:=exq x.c;rw[hxv]at HT HXm HPre;have dd:=d0;rw[hxv]at dd;clear hhc hx hxm eh p3 d0 d1 hxv;have HBx:=Qaa (fun W=>HBh.out W xv);by_cases g2:0≤xv∧xv≤18014398509481984
       ·rw[Vq g2]at HBx
        obtain⟨a2,ha2⟩:=exq (al+xv);have hwa:wrap64 (al+xv)=a2:=by rw[ha2];unfold wrap64;omega
        rw[ha2]at HPre;have HA2:=Qaa ha2;have ha2b:0≤a2:=by omega
        by_cases g3:sl0<a2
        ·have HX:=Qaa (bad.out _ rfl (fun h=>by have:=HPre.out (HD.out h).1;omega))
         clear g2 g1 ha2;go_wp2_with (first | (go_at_call 169;refine(HBx.out _).mono ?_;rintro e w9 ⟨rfl,h9⟩;rw[h9];clear h9 w9) | fail)
         go_ret;exact⟨HX.out,HB2.out⟩
        ·have HG2:=Qaa g2
         have ha2c:a2≤sl0:=by omega
         clear g2 g1 ha2;go_wp2_with (first | (go_at_call 169;refine(HBx.out _).mono ?_;rintro e w9 ⟨rfl,h9⟩;rw[h9];clear h9 w9) | fail)
         go_roundw;case rel=>exact⟨k+1,a2,by omega,by rw[hwa],by go_num,trivial,ha2b,ha2c,by show _=_;rw[HT.out,List.sum_append,←HA2.out,HAl.out];simp;omega,by show ∀_,_;rw[HT.out];intro h hh;rcases List.mem_append.1 hh with q | q;exact HEa.out h q;simp at q;rw[q];exact HG2.out⟩
         case measure=>simp[intOf];omega
       ·rw[Vk g2]at HBx
        have HX:=Qaa (bad.out _ rfl (fun h=>g2 ((HD.out h).1.each xv HXm.out)));clear g2 g1;go_wp2_with (first | (go_at_call 169;refine(HBx.out _).mono ?_;rintro e w9 ⟨rfl,h9⟩;rw[h9];clear h9 w9) | fail)
        go_ret;exact⟨HX.out,HB2.out⟩
      ·have hkn':¬(k:Int)<(n:Int):=by omega
       have HAl2:Hid (al=f0+(p.hs.map (·.c)).sum):=by have:=HAl.out;rw[Vh (by rw[VG,HP.out.len,HN.out];omega)]at this;exact this
       have HEa2:Hid (∀h∈p.hs.map (·.c),0≤h∧h≤18014398509481984):=by have:=HEa.out;rw[Vh (by rw[VG,HP.out.len,HN.out];omega)]at this;exact this
       have HG1:=Qaa g1;clear g1;by_cases g4:al=sl0
       ·have g4':((al:Int) != sl0)=false:=by simp[g4]
        have HWn:Hid (QaW f0 sl0 (p.hs.map (·.c))):=⟨HG1.out.1,HEa2.out,by rw[←HAl2.out];exact g4⟩;clear g4;go_wp2_with fail
        go_roundw;case rel=>exact⟨0+1,by omega,rfl,trivial,fun _=>HWn.out,fun h=>by omega⟩
        case measure=>simp[intOf]
       ·have g4':((al:Int) != sl0)=true:=by simp[g4]
        have HX:=Qaa (bad.out _ rfl (fun h=>g4 (by rw[HAl2.out];exact(HD.out h).1.sum)));clear g4;go_wp2_with fail
        go_ret;exact⟨HX.out,HB2.out⟩
    ·have HBc:=Qaa (fun W=>HB0.out W)
     rw[Vk g1]at HBc;have HX:=Qaa (bad.out _ rfl (fun h=>g1 ⟨(HD.out h).1.f0,(HD.out h).1.free⟩));clear g1;go_wp2_with (first | (go_at_call 169;refine(HBc.out _).mono ?_;rintro e w9 ⟨rfl,h9⟩;rw[h9];clear h9 w9) | fail)
     go_ret;exact⟨HX.out,HB2.out⟩
   ·have HWx:=Qaa (HW0.out (by omega))
    by_cases g1:0≤f1∧f1≤sl1
    ·have HBc:=Qaa (fun W=>HB1.out W)
     rw[Vq g1]at HBc;go_upto_region 12 with (first | (go_at_call 169;refine(HBc.out _).mono ?_;rintro e w9 ⟨rfl,h9⟩;rw[h9];clear h9 w9) | fail);go_wp2_with fail
     go_loopw [7,8] (fun av iv wr=>∃(k:Nat) (al:Int),k≤n∧av=.int .i64 al∧iv=.int .i64 k∧wr=w2∧0≤al∧al≤sl1∧Hid (al=f1+((p.hs.map (·.n)).take k).sum)∧Hid (∀h∈(p.hs.map (·.n)).take k,0≤h∧h≤18014398509481984)) (fun _ i _=>n - (intOf i).toNat);case atStart=>exact⟨0,f1,by omega,rfl,rfl,rfl,g1.1,g1.2,by show _=_;simp,by intro h hh;simp at hh⟩
     case round =>
      obtain⟨k,al,hk,rfl,rfl,hwr,ha0,ha1,HAl,HEa⟩:=hrel;rw[hwr];clear hwr wr;by_cases hkn:k<n
      ·have hkn':(k:Int)<(n:Int):=by omega
       have k0':(0:Int)≤(k:Int):=by omega
       obtain⟨x,hx⟩:∃x,p.hs[k]?=some x:=⟨_,gE (by rw[HP.out.len,HN.out];exact hkn)⟩;obtain⟨hb',ho',eh,hhb,hhc⟩:=(HP.out.cel.below HB2.out).get (i:=k) (r:=Qal x) (by rw[Vb,hx];rfl);have d0:=hhc 0 _ rfl;have d1:=hhc 1 _ rfl;rw[Vr]at d0;have p3':=p3;rw[eh]at p3';have hxm:(p.hs.map (·.n))[k]?=some x.n:=by rw[Vb,hx];rfl
       have HT:=Qaa (show (p.hs.map (·.n)).take (k+1)=(p.hs.map (·.n)).take k++[x.n] from take_snoc hxm);have HXm:=Qaa (mG hxm)
       have HPre:Hid (QaW f1 sl1 (p.hs.map (·.n))→al+x.n≤sl1):=fun h=>by
        have:=h.pre (k+1);rw[HT.out,List.sum_append]at this;rw[HAl.out];simp at this;omega
       obtain⟨xv,hxv⟩:=exq x.n;rw[hxv]at HT HXm HPre;have dd:=d1;rw[hxv]at dd;clear hhc hx hxm eh p3 d0 d1 hxv;have HBx:=Qaa (fun W=>HBh.out W xv);by_cases g2:0≤xv∧xv≤18014398509481984
       ·rw[Vq g2]at HBx
        obtain⟨a2,ha2⟩:=exq (al+xv);have hwa:wrap64 (al+xv)=a2:=by rw[ha2];unfold wrap64;omega
        rw[ha2]at HPre;have HA2:=Qaa ha2;have ha2b:0≤a2:=by omega
        by_cases g3:sl1<a2
        ·have HX:=Qaa (bad.out _ rfl (fun h=>by have:=HPre.out (HD.out h).2;omega))
         clear g2 g1 ha2;go_wp2_with (first | (go_at_call 169;refine(HBx.out _).mono ?_;rintro e w9 ⟨rfl,h9⟩;rw[h9];clear h9 w9) | fail)
         go_ret;exact⟨HX.out,HB2.out⟩
        ·have HG2:=Qaa g2
         have ha2c:a2≤sl1:=by omega
         clear g2 g1 ha2;go_wp2_with (first | (go_at_call 169;refine(HBx.out _).mono ?_;rintro e w9 ⟨rfl,h9⟩;rw[h9];clear h9 w9) | fail)
         go_roundw;case rel=>exact⟨k+1,a2,by omega,by rw[hwa],by go_num,trivial,ha2b,ha2c,by show _=_;rw[HT.out,List.sum_append,←HA2.out,HAl.out];simp;omega,by show ∀_,_;rw[HT.out];intro h hh;rcases List.mem_append.1 hh with q | q;exact HEa.out h q;simp at q;rw[q];exact HG2.out⟩
         case measure=>simp[intOf];omega
       ·rw[Vk g2]at HBx
        have HX:=Qaa (bad.out _ rfl (fun h=>g2 ((HD.out h).2.each xv HXm.out)));clear g2 g1;go_wp2_with (first | (go_at_call 169;refine(HBx.out _).mono ?_;rintro e w9 ⟨rfl,h9⟩;rw[h9];clear h9 w9) | fail)
        go_ret;exact⟨HX.out,HB2.out⟩
      ·have hkn':¬(k:Int)<(n:Int):=by omega
       have HAl2:Hid (al=f1+(p.hs.map (·.n)).sum):=by have:=HAl.out;rw[Vh (by rw[VG,HP.out.len,HN.out];omega)]at this;exact this
       have HEa2:Hid (∀h∈p.hs.map (·.n),0≤h∧h≤18014398509481984):=by have:=HEa.out;rw[Vh (by rw[VG,HP.out.len,HN.out];omega)]at this;exact this
       have HG1:=Qaa g1;clear g1;by_cases g4:al=sl1
       ·have g4':((al:Int) != sl1)=false:=by simp[g4]
        have HWn:Hid (QaW f1 sl1 (p.hs.map (·.n))):=⟨HG1.out.1,HEa2.out,by rw[←HAl2.out];exact g4⟩;clear g4;go_wp2_with fail
        go_roundw;case rel=>exact⟨1+1,by omega,rfl,trivial,fun _=>HWx.out,fun _=>HWn.out⟩
        case measure=>simp[intOf]
       ·have g4':((al:Int) != sl1)=true:=by simp[g4]
        have HX:=Qaa (bad.out _ rfl (fun h=>g4 (by rw[HAl2.out];exact(HD.out h).2.sum)));clear g4;go_wp2_with fail
        go_ret;exact⟨HX.out,HB2.out⟩
    ·have HBc:=Qaa (fun W=>HB1.out W)
     rw[Vk g1]at HBc;have HX:=Qaa (bad.out _ rfl (fun h=>g1 ⟨(HD.out h).2.f0,(HD.out h).2.free⟩));clear g1;go_wp2_with (first | (go_at_call 169;refine(HBc.out _).mono ?_;rintro e w9 ⟨rfl,h9⟩;rw[h9];clear h9 w9) | fail)
     go_ret;exact⟨HX.out,HB2.out⟩
   ·have HWa:=Qaa (HW0.out (by omega))
    have HWb:=Qaa (HW1.out (by omega));go_wp2;go_ret;exact⟨⟨true,rfl,fun _=>HG.out HWa.out HWb.out,fun _=>rfl⟩,HB2.out⟩
 ·rw[Vk hb]at HBt
  have HX:=Qaa (bad.out _ rfl (fun h=>hb ⟨by rw[←HV.out];exact h.vlo,by rw[←HV.out];exact h.vhi⟩));clear hb;go_enter Tryz.func168,Tryz.ntmps168;go_upto_region 1 with (fail);rw[HW2.out];go_wp2_with (first | (go_at_call 169;refine(HBt.out _).mono ?_;rintro e w9 ⟨rfl,h9⟩;rw[h9];clear h9 w9) | fail)
  go_ret;exact⟨HX.out,HB2.out⟩
end Go.Proofs.YtiogibfhafoapaaGreat
