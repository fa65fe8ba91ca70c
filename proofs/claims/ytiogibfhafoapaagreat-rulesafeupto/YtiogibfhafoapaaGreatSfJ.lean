import Derived.Test.YtiogibfhafoapaaGreatSfGf
import Derived.Test.YtiogibfhafoapaaGreatSfGs
import Derived.Test.YtiogibfhafoapaaGreatWkF
import Derived.Test.YtiogibfhafoapaaGreatBhB
set_option maxRecDepth 100000
set_option maxHeartbeats 8000000
set_option linter.unusedSimpArgs false
set_option linter.unusedVariables false
namespace Go.Proofs.YtiogibfhafoapaaGreat
open Go.RowKit
open Z (Sli QaE Elt Acd Qad Ctr ctc)
theorem QfI (w:World) (c:Cfg) (cs:List Ctr) (T:Nat) (hcf:Qbp w c cs) (hT:c.tills=(T:Int)) (s:Sta) (hs:Qae w s) (hsh:Shp c s) (a:Acd) (u:Nat) (hu:a.till=(u:Int)) (huT:u<T) (p:Option Addr) (n cap:Nat) (M:List Lin) (hn:M.length=n) (hnl:n≤4194304) (hcel:Cel w p 2 (M.map Qal)) (hA:∀r:Sta,r.d=s.d→Qcy (Qaz cs T) a.sure u r M) (hM:∀x∈M,Qc8 cs.length x) :
        Calls Tryz.prog 18 #[.agg c.arr,.agg s.arr,.agg a.arr,.slice p n cap] w fun e w'=>e=.returned (.bool true)∧Below w.heap.size w w':=by
 cases h:a.sure with
 | true=>exact QfG w c cs T hcf hT s hs hsh a u hu huT p n cap M hn hnl hcel hA hM h
 | false=>exact Qfl w c cs T hcf hT s hs hsh a u hu huT p n cap M hn hnl hcel hA hM h
end Go.Proofs.YtiogibfhafoapaaGreat
namespace Go.Proofs.YtiogibfhafoapaaGreat
open Go.RowKit
open Z (Sli QaE Acd Qad Ctr)
theorem Qgl (w:World) (s:Sta) (hs:Qae w s) (hrn:s.rn≤4194304) (a:Acd) (ha:Qad w a) (hrg:Qbt s a) (oc nv:Int) (p q:Option Addr) (n m cap cap':Nat) (L:List Lin) (Ss:List Tri) (hn:L.length=n) (hm:Ss.length=m) (hnl:n≤140737488355328) (hml:m≤140737488355328) (hc:Cel w p 2 (L.map Qal)) (hd:Cel w q 3 (Ss.map Qar)) (h:ShT s a (oc,L,Ss,nv)) :
  Calls Tryz.prog 17 #[.agg s.arr,.agg a.arr,.agg #[.int .i64 oc,.slice p n cap,.slice q m cap',.int .i64 nv]] w fun e w'=>e=.returned (.bool true)∧Below w.heap.size w w':=by
 by_cases k1:a.kind=1
 ·obtain⟨h1,h2⟩:=h.write k1
  simp only at h1 h2;subst h2;exact Qfk w s hs a ha hrn (fun x hx=>by obtain⟨k,e,hk⟩:=hrg.act.sets x hx;omega) oc p q n m cap cap' L Ss hn hm hnl hml hc hd k1 h1
 ·by_cases k2:a.kind=2
  ·obtain⟨h1,h2,h3,h4,h5,h6,h7⟩:=h.ask k2
   simp only at h1 h2 h3 h4 h5 h6 h7;subst h1 h2 h3;have e1:n=0:=by rw[←hn];rfl
   have e2:m=0:=by rw[←hm];rfl
   subst e1 e2;obtain⟨⟨k,ek,hk⟩,hq⟩:=hrg.right (by omega) (by omega);obtain⟨t,ht,hth,_,_⟩:=hrg.till;exact QhA w s hs a ha t k a.rd p q cap cap' nv k2 ht ek hq rfl hk hth h4 h5 h6 h7
  ·obtain⟨h1,h2,h3,h4⟩:=h.rest k1 k2
   simp only at h1 h2 h3 h4;subst h2 h3 h4;have e1:n=0:=by rw[←hn];rfl
   have e2:m=0:=by rw[←hm];rfl
   subst e1 e2;exact QfW w s hs a ha oc p q cap cap' k1 k2 h1
theorem Qk4 {s X:Sta} {b y:Acd} (hs:X.d=s.d) (hb:y.d=b.d):Qan X y=Qan s b:=by
 have h1:Qan X y=Qan s y:=(QhH (Alk.of_d hs.symm y)).symm;rw[h1];have e1:y.kind=b.kind:=Vl Z.AcP.kind hb;have e2:y.sure=b.sure:=Vl Z.AcP.sure hb;have e3:y.lines.xs=b.lines.xs:=Vl Z.AcP.lines hb;have e4:y.guards.xs=b.guards.xs:=Vl Z.AcP.guards hb;have e5:y.sets.xs=b.sets.xs:=Vl Z.AcP.sets hb;have e6:y.mg=b.mg:=Vl Z.AcP.mg hb;have e7:y.other.xs=b.other.xs:=Vl Z.AcP.other hb;have e8:y.till=b.till:=Vl Z.AcP.till hb;have e9:y.ra=b.ra:=Vl Z.AcP.ra hb;have e10:y.rb=b.rb:=Vl Z.AcP.rb hb;have e11:y.rd=b.rd:=Vl Z.AcP.rd hb;have e12:y.to=b.to:=Vl Z.AcP.to hb;have e13:y.gen=b.gen:=Vl Z.AcP.gen hb;have e14:y.rights.xs=b.rights.xs:=Vl Z.AcP.rights hb;unfold Qan QaR QaG QbZ;rw[e1,e2,e3,e4,e5,e6,e7,e8,e9,e10,e11,e12,e13,e14]
structure Gr (w W:World) (P D:Array Value) (cb sb:Nat) (c:Cfg) (cs:List Ctr) (T:Nat) (s:Sta):Prop extends Gs w W P D cb sb c cs s where
 rt:Qdg cs T s
theorem Gr.below {w W W':World} {P D:Array Value} {cb sb:Nat} {c:Cfg} {cs:List Ctr} {T:Nat} {s:Sta} (h:Gr w W P D cb sb c cs T s) (hb:Below W.heap.size W W'):Gr w W' P D cb sb c cs T s:=⟨h.toGs.below hb,h.rt⟩
theorem Gr.put {w W:World} {P D:Array Value} {cb sb:Nat} {c:Cfg} {cs:List Ctr} {T:Nat} {s r:Sta} (h:Gr w W P D cb sb c cs T s) (hr:StG W c r) (ho:(∃B,Qac B W r)∨r=s) (hk:Qdg cs T r):Gr w (W.setRow sb r.arr) P D cb sb c cs T r:=⟨h.toGs.put hr ho,hk⟩
structure Sfe (c:Cfg) (cs:List Ctr) (T:Nat) (s:Sta) (b:Acd) (t:Nat) (J:Int × List Lin × List Tri × Int):Prop where
 sh:ShT s b J
 all:∀r:Sta,r.d=s.d→Qcy (Qaz cs T) b.sure t r J.2.1
 made:∀x∈J.2.1,Qc8 cs.length x
theorem QlX {w:World} {c:Cfg} {cs:List Ctr} {T:Nat} {s:Sta} {b:Acd} (hr:Qdg cs T s) (hcf:Qbp w c cs) (hT:c.tills=(T:Int)) (hC:QcR c b 0) {t:Nat} (ht:b.till=(t:Int)):Sfe c cs T s b t (Qan s b):=by
 have hcl:=hcf.len;rw[Qip hr.pls hcl (by rw[hcl];exact hcf.cl) hT hC];exact⟨Qho hr.pls hcl hT hC,fun r e=>(QdX hr.pls (hr.pls.d e) (Vl StP.pools e) hcl hT ht hC).1,(QdX hr.pls hr.pls rfl hcl hT ht hC).2⟩
theorem Qju (s:Sta) (a:Acd) (n:Nat) (h1:a.lines.xs.length≤n) (h2:a.other.xs.length≤n) (h3:a.sets.xs.length≤n):(Qan s a).2.1.length≤n∧(Qan s a).2.2.1.length≤n:=by
 have hc:(QdL s (a.lines.xs.map QaL)).2.length≤n:=Vt (Qey s _) (by rw[VG];exact h1);have hf:((a.sets.xs.filter s.want).map s.raise).length≤n:=by rw[VG];exact Vt (List.length_filter_le _ _) h3
 have hm:(a.sets.xs.map s.raise).length≤n:=by rw[VG];exact h3
 unfold Qan QaR QaG QbZ;repeat' split
 all_goals first | exact⟨Vo _,Vo _⟩ | exact⟨h1,hm⟩ | exact⟨h1,Vo _⟩ | exact⟨hc,hf⟩ | exact⟨h2,Vo _⟩
theorem QgQ {W:World} {B k n m:Nat} {e:TypeId} {v:Value} {xs:List Value} (h:W.ownsRow B e k v n xs) (hn:m=n):W.ownsRow B e k v m xs:=by rw[hn];exact h
end Go.Proofs.YtiogibfhafoapaaGreat
