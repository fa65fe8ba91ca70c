import Derived.Deep.Cut
import Derived.Lib.QuietBelow
import Derived.Lib.SmallJoins
import Derived.Test.YtiogibfhafoapaaGreatZD
set_option maxRecDepth 100000
set_option maxHeartbeats 8000000
set_option linter.unusedSimpArgs false
set_option linter.unusedVariables false
namespace Go.Proofs.YtiogibfhafoapaaGreat.Z
open Go.RowKit Go.Sort
theorem Qim {a b c d:Int} (h:¬((⟨a,b⟩:Lin)=⟨c,d⟩)):¬a=c∨(a=c∧¬b=d):=by
 by_cases h1:a=c
 ·refine Or.inr ⟨h1,fun h2=>h (by rw[h1,h2])⟩
 ·exact Or.inl h1
theorem Qgb {α:Type} {xs ys:List α} {j:Nat} {x y:α} (hx:xs[j]?=some x) (hy:ys[j]?=some y) (h:¬x=y):¬xs=ys:=fun e=>by
 rw[e,hy]at hx;cases hx;exact h rfl
theorem Qa6 (w:World) (p q:Option Addr) (n m cap cap':Nat) (xs ys:List Lin) (hn:xs.length=n) (hm:ys.length=m) (hnl:n≤140737488355328) (hc:Cel w p 2 (xs.map Qal)) (hd:Cel w q 2 (ys.map Qal)) (A:Bool) (hA:A=true↔xs=ys) :
  Calls Tryz.prog 25 #[.slice p n cap,.slice q m cap'] w fun e w'=>e=.returned (.bool A)∧Below w.heap.size w w':=by
 obtain⟨HC,HD,HA⟩:=Qmk hc hd hA;clear hc hd hA;by_cases hl:n=m
 ·subst hl
  go_enter Tryz.func25,Tryz.ntmps25;go_wp2;go_loopw [5] (fun i wr=>∃j:Nat,j≤n∧i=.int .i64 j∧Hid (Below w.heap.size w wr)∧Hid (xs.take j=ys.take j)) (fun i _=>n - (intOf i).toNat);case atStart=>exact⟨0,Vo _,rfl,bR,rfl⟩
  case round =>
   obtain⟨j,hj,rfl,HBr,HT⟩:=hrel;by_cases hlt:j<n
   ·have hlt':(j:Int)<(n:Int):=by omega
    have i0:(0:Int)≤(j:Int):=by omega
    obtain⟨x,hx⟩:∃x,xs[j]?=some x:=⟨_,gE (by omega)⟩;obtain⟨y,hy⟩:∃y,ys[j]?=some y:=⟨_,gE (by omega)⟩;obtain⟨b,o,rfl,hbl,hcl⟩:=HC.out.get (i:=j) (r:=Qal x) (by simp[hx]);obtain⟨b',o',rfl,hbl',hcl'⟩:=HD.out.get (i:=j) (r:=Qal y) (by simp[hy]);have f:∀i v,(Qal x)[i]?=some v→wr.cell? ⟨b,o+j*2+i,none⟩=some v:=fun i v hv=>(HBr.out.cell (p:=⟨b,o+j*2+i,none⟩) hbl).trans (hcl i v hv)
    have f':∀i v,(Qal y)[i]?=some v→wr.cell? ⟨b',o'+j*2+i,none⟩=some v:=fun i v hv=>(HBr.out.cell (p:=⟨b',o'+j*2+i,none⟩) hbl').trans (hcl' i v hv)
    have a0:=f 0 _ rfl;have a1:=f 1 _ rfl;have b0:=f' 0 _ rfl;have b1:=f' 1 _ rfl;rw[Vr]at a0 b0;obtain⟨xc,xn⟩:=x;obtain⟨yc,yn⟩:=y;simp only at a0 a1 b0 b1;clear f f' hcl hcl';have HBd:Hid (Below w.heap.size w wr.drew):=HBr.out.drew;by_cases he:(⟨xc,xn⟩:Lin)=⟨yc,yn⟩
    ·cases he
     have HT2:Hid (xs.take (j+1)=ys.take (j+1)):=by show _=_;rw[VS,VS,hx,hy,HT.out]
     go_upto_region 6 with (fail);go_region;go_wp2;go_roundw;case rel=>exact⟨j+1,by omega,by go_num,HBd,HT2⟩
     case measure=>simp[intOf];omega
    ·have HF:Hid (A=false):=by
      show A=false
      cases hAA:A with
      | false=>rfl
      | true=>exact(Qgb hx hy he (HA.out.1 hAA)).elim
     rcases Qim he with h1 | ⟨h1,h2⟩
     ·go_upto_region 6 with (fail)
      go_region;all_goals go_wp2
      all_goals go_ret
      all_goals exact⟨Qda HF.out,HBd.out⟩
     ·subst h1
      go_upto_region 6 with (fail);go_region;all_goals go_wp2
      all_goals go_ret
      all_goals exact⟨Qda HF.out,HBd.out⟩
   ·have e1:¬(j:Int)<(n:Int):=by omega
    have HT':Hid (A=true):=HA.out.2 (by have h:=HT.out;rw[Vh (by omega),Vh (by omega)]at h;exact h);go_wp2;go_ret;exact⟨Qda HT'.out,HBr.out⟩
 ·have hl':¬(n:Int)=(m:Int):=by omega
  have HF:Hid (A=false):=by
   show A=false
   cases hAA:A with
   | false=>rfl
   | true=>exact(hl (by rw[←hn,←hm,HA.out.1 hAA])).elim
  go_enter Tryz.func25,Tryz.ntmps25;go_wp2;go_ret;exact⟨Qda HF.out,bR⟩
theorem Qfq {a b c d e f:Int} (h:¬((⟨a,b,c⟩:Tri)=⟨d,e,f⟩)):¬a=d∨(a=d∧¬b=e)∨(a=d∧b=e∧¬c=f):=by
 by_cases h1:a=d
 ·by_cases h2:b=e
  ·exact Or.inr (Or.inr ⟨h1,h2,fun h3=>h (by rw[h1,h2,h3])⟩)
  ·exact Or.inr (Or.inl ⟨h1,h2⟩)
 ·exact Or.inl h1
end Go.Proofs.YtiogibfhafoapaaGreat.Z
