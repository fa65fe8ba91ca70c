import Derived.Test.YtiogibfhafoapaaGreatJgE
import Derived.Test.YtiogibfhafoapaaGreatEfD
import Derived.Test.YtiogibfhafoapaaGreatRtC
import Derived.Test.YtiogibfhafoapaaGreatFoF
import Derived.Test.YtiogibfhafoapaaGreatDcI
import Derived.Test.YtiogibfhafoapaaGreatAbE
import Derived.Test.YtiogibfhafoapaaGreatRwK
import Derived.Test.YtiogibfhafoapaaGreatFoH
import Derived.Test.YtiogibfhafoapaaGreatFoI
import Derived.Test.YtiogibfhafoapaaGreatAbZ
import Derived.Test.YtiogibfhafoapaaGreatTk
set_option maxRecDepth 100000
set_option maxHeartbeats 8000000
set_option linter.unusedSimpArgs false
set_option linter.unusedVariables false
namespace Go.Proofs.YtiogibfhafoapaaGreat
open Go.RowKit
open Z (Sli QaE Elt Acd Qad Ctr)
theorem Qil {α:Type} {l:List α} {z x:α} {k:Nat} {i:Int} (h:i≠(k:Int)):Qai (l.set k x) z i=Qai l z i:=by
 unfold Qai;split
 ·rw[Vu,Vu,VR (by omega)]
 ·rfl
theorem Qfs {l:List Pl} (i:Int):(Qai l pl0 i).d=Qai (l.map Pl.d) pl0.d i:=by
 unfold Qai;split
 ·rw[Vu,Vu,Vb]
  cases l[i.toNat]? <;> rfl
 ·rfl
theorem QgD {s x:Sta} (h:s.d=x.d) (i:Int):(Qai s.pools pl0 i).d=(Qai x.pools pl0 i).d:=by
 have h1:s.pools.map Pl.d=x.pools.map Pl.d:=Vl StP.pools h;rw[Qfs,Qfs,h1]
theorem Qk3 {s x:Sta} (h:s.d=x.d):s.pools.length=x.pools.length:=by
 have h1:s.pools.map Pl.d=x.pools.map Pl.d:=Vl StP.pools h;have h2:=Vl List.length h1;simpa using h2
theorem Alk.of_d {s x:Sta} (h:s.d=x.d) (a:Acd):Alk s x a:=by
 have h1:s.prices=x.prices:=Vl StP.prices h;have h2:s.gen=x.gen:=Vl StP.gen h;have h3:s.owed=x.owed:=Vl StP.owed h;exact⟨Qk3 h,fun k _=>⟨Vl PlP.v (QgD h k),Vl PlP.f0 (QgD h k),Vl PlP.f1 (QgD h k),Vl PlP.hs (QgD h k)⟩,by rw[h1],fun k _=>by rw[h1],by rw[h2],by rw[h2],by rw[h3]⟩
structure Spd (s x:Sta) (t:Int):Prop where
 held:∀k,Qai (Qai s.pools pl0 k).hs ⟨0,0⟩ t=Qai (Qai x.pools pl0 k).hs ⟨0,0⟩ t
theorem Qi0 {c:Cfg} {w:World} {cs:List Ctr} {s:Sta} (hc:Qbp w c cs) (h:Shp c s):QjI s:=by
 have h1:=hc.cl;have h2:=hc.pl;have h3:=hc.tills;have h4:=h.ln;have h5:=h.gn;have h6:=h.on;exact⟨by rw[h.pn];exact h1,by rw[h.rn];exact h2,by omega,by omega,by omega,fun p hp=>by have:=h.hl p hp;omega⟩
end Go.Proofs.YtiogibfhafoapaaGreat
namespace Go.Proofs.YtiogibfhafoapaaGreat
open Go.RowKit Go.Sort
open Z (Sli QaE Acd Qad Eda QaP AcOwn)
theorem Qe9 (w:World) (c:Cfg) (s:Sta) (hs:Qae w s) (hsm:QjI s) (hpw:∀p∈s.pools,Qaw (frL p)) (hsh:Shp c s) (hcl:c.cl≤4194304) (hpl:c.pl≤4194304) (htl:0≤c.tills∧c.tills≤1000000) (e:Eda) (hok:QaP w e) :
  Calls Tryz.prog 44 #[.agg (qC c),.agg (qS s),.agg (qE e)] w (Qfp w c s e):=by
 by_cases hO:QbM s e
 ·by_cases k0:e.ac.kind=0
  ·exact Qf2 w c s hs hsm hpw hsh hcl hpl htl e hok hO k0
  ·by_cases hC:QcR c e.ac 0
   ·by_cases hN:QdY s e
    ·exact Qie w c s hs hsm hpw hsh hcl hpl htl e hok hO k0 hC hN
    ·exact Qjf w c s hs hsm hpw hsh hcl hpl htl e hok hO k0 hC hN
   ·exact Qi4 w c s hs hsm hpw hsh hcl hpl htl e hok hO k0 hC
 ·exact Qiu w c s hs hsm hpw hsh hcl hpl htl e hok hO
end Go.Proofs.YtiogibfhafoapaaGreat
namespace Go.Proofs.YtiogibfhafoapaaGreat
open Go.RowKit
open Z (Sli QaE Elt Acd Qad Ctr)
theorem QcL (w:World) (A B C:Array Value) (ta tb tc:TypeId):∃w2,((w.alloc (.cells A ta)).alloc (.cells B tb)).alloc (.cells C tc)=w2∧Below w.heap.size w w2∧w2.heap[w.heap.size]?=some (.cells A ta (0,0))∧w2.heap[w.heap.size+1]?=some (.cells B tb (0,0))∧w2.heap[w.heap.size+1+1]?=some (.cells C tc (0,0))∧w2.heap.size=w.heap.size+1+1+1:=by
 refine⟨_,rfl,(((Below.refl _ w).alloc (Va _) _).alloc (by simp) _).alloc (by simp;omega) _,?_,?_,?_,by simp⟩
 ·rw[Vc _ _ _ (by simp only[Vm];omega),Vc _ _ _ (by simp)];exact hNq _ _
 ·rw[Vc _ _ _ (by simp)];exact VV _ _ _
 ·have h:=hNq ((w.alloc (.cells A ta)).alloc (.cells B tb)) (.cells C tc)
  simp only[Vm]at h;exact h
structure Sp (B:Nat) (w4 W:World) (s X0 X:Sta) (t:Int):Prop where
 mt:Mut B w4 W
 ow:Qac B W X
 sm:Qbv X0 X
 sp:Spd s X t
end Go.Proofs.YtiogibfhafoapaaGreat
