import Derived.Test.YtfbegfapoijbnaaGreatDcI
set_option maxRecDepth 100000
namespace Go.Proofs.YtfbegfapoijbnaaGreat
open Go.RowKit
set_option maxHeartbeats 4000000 in
theorem eqGuards_x (w:World) (p q:Option Addr) (n m cap cap':Nat) (xs ys:List Tri) (hn:xs.length=n) (hm:ys.length=m) (hnl:n≤140737488355328) (hc:Cel w p 3 (xs.map tric)) (hd:Cel w q 3 (ys.map tric)) (A:Bool) (hA:A=true↔xs=ys) :
  Calls Tryz.prog 74 #[.slice p n cap,.slice q m cap'] w fun e w'=>e=.returned (.bool A)∧Below w.heap.size w w':=by
 have HC:=hide hc
 have HD:=hide hd
 have HA:=hide hA
 clear hc hd hA
 by_cases hl:n=m
 ·subst hl
  go_enter Tryz.func74,Tryz.ntmps74
  go_wp2
  go_loopw [5] (fun i wr=>∃j:Nat,j≤n∧i=.int .i64 j∧Hid (Below w.heap.size w wr)∧Hid (xs.take j=ys.take j)) (fun i _=>n - (intOf i).toNat)
  case atStart=>exact⟨0,Nat.zero_le _,rfl,Below.refl _ _,rfl⟩
  case round =>
   obtain⟨j,hj,rfl,HBr,HT⟩:=hrel
   by_cases hlt:j<n
   ·have hlt':(j:Int)<(n:Int):=by omega
    have i0:(0:Int)≤(j:Int):=by omega
    obtain⟨x,hx⟩:∃x,xs[j]?=some x:=⟨_,List.getElem?_eq_getElem (by omega)⟩
    obtain⟨y,hy⟩:∃y,ys[j]?=some y:=⟨_,List.getElem?_eq_getElem (by omega)⟩
    obtain⟨b,o,rfl,hbl,hcl⟩:=HC.out.get (i:=j) (r:=tric x) (by simp[hx])
    obtain⟨b',o',rfl,hbl',hcl'⟩:=HD.out.get (i:=j) (r:=tric y) (by simp[hy])
    have f:∀i v,(tric x)[i]?=some v→wr.cell? ⟨b,o+j*3+i,none⟩=some v:=fun i v hv=>(HBr.out.cell (p:=⟨b,o+j*3+i,none⟩) hbl).trans (hcl i v hv)
    have f':∀i v,(tric y)[i]?=some v→wr.cell? ⟨b',o'+j*3+i,none⟩=some v:=fun i v hv=>(HBr.out.cell (p:=⟨b',o'+j*3+i,none⟩) hbl').trans (hcl' i v hv)
    have a0:=f 0 _ rfl
    have a1:=f 1 _ rfl
    have a2:=f 2 _ rfl
    have b0:=f' 0 _ rfl
    have b1:=f' 1 _ rfl
    have b2:=f' 2 _ rfl
    rw[Nat.add_zero]at a0 b0
    obtain⟨xa,xb,xn⟩:=x
    obtain⟨ya,yb,yn⟩:=y
    simp only at a0 a1 a2 b0 b1 b2
    clear f f' hcl hcl'
    have HBd:Hid (Below w.heap.size w wr.drew):=HBr.out.drew
    by_cases he:(⟨xa,xb,xn⟩:Tri)=⟨ya,yb,yn⟩
    ·cases he
     have HT2:Hid (xs.take (j+1)=ys.take (j+1)):=by show _=_;rw[List.take_add_one,List.take_add_one,hx,hy,HT.out]
     go_upto_region 6 with (fail)
     go_region
     go_wp2
     go_roundw
     case rel=>exact⟨j+1,by omega,by go_num,HBd,HT2⟩
     case measure=>simp[intOf];omega
    ·have HF:Hid (A=false):=by
      show A=false
      cases hAA:A with
      | false=>rfl
      | true=>exact(ne_at hx hy he (HA.out.1 hAA)).elim
     rcases tri_eq he with h1 | ⟨h1,h2⟩ | ⟨h1,h3,h2⟩
     ·go_upto_region 6 with (fail)
      go_region
      all_goals go_wp2
      all_goals go_ret
      all_goals exact⟨retB HF.out,HBd.out⟩
     ·subst h1
      go_upto_region 6 with (fail)
      go_region
      all_goals go_wp2
      all_goals go_ret
      all_goals exact⟨retB HF.out,HBd.out⟩
     ·subst h1
      subst h3
      go_upto_region 6 with (fail)
      go_region
      all_goals go_wp2
      all_goals go_ret
      all_goals exact⟨retB HF.out,HBd.out⟩
   ·have e1:¬(j:Int)<(n:Int):=by omega
    have HT':Hid (A=true):=HA.out.2 (by have h:=HT.out;rw[List.take_of_length_le (by omega),List.take_of_length_le (by omega)]at h;exact h)
    go_wp2
    go_ret
    exact⟨retB HT'.out,HBr.out⟩
 ·have hl':¬(n:Int)=(m:Int):=by omega
  have HF:Hid (A=false):=by
   show A=false
   cases hAA:A with
   | false=>rfl
   | true=>exact(hl (by rw[←hn,←hm,HA.out.1 hAA])).elim
  go_enter Tryz.func74,Tryz.ntmps74
  go_wp2
  go_ret
  exact⟨retB HF.out,Below.refl _ _⟩
set_option maxHeartbeats 4000000 in
theorem eqSets_x (w:World) (p q:Option Addr) (n m cap cap':Nat) (xs ys:List Tri) (hn:xs.length=n) (hm:ys.length=m) (hnl:n≤140737488355328) (hc:Cel w p 3 (xs.map tric)) (hd:Cel w q 3 (ys.map tric)) (A:Bool) (hA:A=true↔xs=ys) :
  Calls Tryz.prog 75 #[.slice p n cap,.slice q m cap'] w fun e w'=>e=.returned (.bool A)∧Below w.heap.size w w':=by
 have HC:=hide hc
 have HD:=hide hd
 have HA:=hide hA
 clear hc hd hA
 by_cases hl:n=m
 ·subst hl
  go_enter Tryz.func75,Tryz.ntmps75
  go_wp2
  go_loopw [5] (fun i wr=>∃j:Nat,j≤n∧i=.int .i64 j∧Hid (Below w.heap.size w wr)∧Hid (xs.take j=ys.take j)) (fun i _=>n - (intOf i).toNat)
  case atStart=>exact⟨0,Nat.zero_le _,rfl,Below.refl _ _,rfl⟩
  case round =>
   obtain⟨j,hj,rfl,HBr,HT⟩:=hrel
   by_cases hlt:j<n
   ·have hlt':(j:Int)<(n:Int):=by omega
    have i0:(0:Int)≤(j:Int):=by omega
    obtain⟨x,hx⟩:∃x,xs[j]?=some x:=⟨_,List.getElem?_eq_getElem (by omega)⟩
    obtain⟨y,hy⟩:∃y,ys[j]?=some y:=⟨_,List.getElem?_eq_getElem (by omega)⟩
    obtain⟨b,o,rfl,hbl,hcl⟩:=HC.out.get (i:=j) (r:=tric x) (by simp[hx])
    obtain⟨b',o',rfl,hbl',hcl'⟩:=HD.out.get (i:=j) (r:=tric y) (by simp[hy])
    have f:∀i v,(tric x)[i]?=some v→wr.cell? ⟨b,o+j*3+i,none⟩=some v:=fun i v hv=>(HBr.out.cell (p:=⟨b,o+j*3+i,none⟩) hbl).trans (hcl i v hv)
    have f':∀i v,(tric y)[i]?=some v→wr.cell? ⟨b',o'+j*3+i,none⟩=some v:=fun i v hv=>(HBr.out.cell (p:=⟨b',o'+j*3+i,none⟩) hbl').trans (hcl' i v hv)
    have a0:=f 0 _ rfl
    have a1:=f 1 _ rfl
    have a2:=f 2 _ rfl
    have b0:=f' 0 _ rfl
    have b1:=f' 1 _ rfl
    have b2:=f' 2 _ rfl
    rw[Nat.add_zero]at a0 b0
    obtain⟨xa,xb,xn⟩:=x
    obtain⟨ya,yb,yn⟩:=y
    simp only at a0 a1 a2 b0 b1 b2
    clear f f' hcl hcl'
    have HBd:Hid (Below w.heap.size w wr.drew):=HBr.out.drew
    by_cases he:(⟨xa,xb,xn⟩:Tri)=⟨ya,yb,yn⟩
    ·cases he
     have HT2:Hid (xs.take (j+1)=ys.take (j+1)):=by show _=_;rw[List.take_add_one,List.take_add_one,hx,hy,HT.out]
     go_upto_region 6 with (fail)
     go_region
     go_wp2
     go_roundw
     case rel=>exact⟨j+1,by omega,by go_num,HBd,HT2⟩
     case measure=>simp[intOf];omega
    ·have HF:Hid (A=false):=by
      show A=false
      cases hAA:A with
      | false=>rfl
      | true=>exact(ne_at hx hy he (HA.out.1 hAA)).elim
     rcases tri_eq he with h1 | ⟨h1,h2⟩ | ⟨h1,h3,h2⟩
     ·go_upto_region 6 with (fail)
      go_region
      all_goals go_wp2
      all_goals go_ret
      all_goals exact⟨retB HF.out,HBd.out⟩
     ·subst h1
      go_upto_region 6 with (fail)
      go_region
      all_goals go_wp2
      all_goals go_ret
      all_goals exact⟨retB HF.out,HBd.out⟩
     ·subst h1
      subst h3
      go_upto_region 6 with (fail)
      go_region
      all_goals go_wp2
      all_goals go_ret
      all_goals exact⟨retB HF.out,HBd.out⟩
   ·have e1:¬(j:Int)<(n:Int):=by omega
    have HT':Hid (A=true):=HA.out.2 (by have h:=HT.out;rw[List.take_of_length_le (by omega),List.take_of_length_le (by omega)]at h;exact h)
    go_wp2
    go_ret
    exact⟨retB HT'.out,HBr.out⟩
 ·have hl':¬(n:Int)=(m:Int):=by omega
  have HF:Hid (A=false):=by
   show A=false
   cases hAA:A with
   | false=>rfl
   | true=>exact(hl (by rw[←hn,←hm,HA.out.1 hAA])).elim
  go_enter Tryz.func75,Tryz.ntmps75
  go_wp2
  go_ret
  exact⟨retB HF.out,Below.refl _ _⟩
end Go.Proofs.YtfbegfapoijbnaaGreat
