import Derived.Maps.OwnSet
import Derived.Maps.Range
import Derived.Test.YtiogibfhafoapaaGreatNdP
set_option maxRecDepth 100000
set_option maxHeartbeats 8000000
set_option linter.unusedSimpArgs false
set_option linter.unusedVariables false
namespace Go.Proofs.YtiogibfhafoapaaGreat
open Go.RowKit
def Qcz (k:Int × Int):Lit:=.string (keyBytes [.int .i64 k.1,.int .i64 k.2])
abbrev K64:={ k:Int × Int // (Lit.int .i64 k.1).wf=true∧(Lit.int .i64 k.2).wf=true }
abbrev R64:={ r:Tri // (Lit.int .i64 r.a).wf=true∧(Lit.int .i64 r.b).wf=true∧(Lit.int .i64 r.n).wf=true }
def R64.k (r:R64):K64:=⟨QaS r.1,r.2.1,r.2.2.1⟩
def Ql8:Prop:=∀x y:K64,Qcz x.1=Qcz y.1→x=y
def numD {H:Type} : DataW H→Int
 | .lit (.int _ c)=>c
 | _=>0
def QbN {H:Type} (D:DataW H) (k:Int × Int) (n:Int):DataW H:=D.put (Qcz k) (.lit (.int .i64 (wrap64 (numD (D.atKey (Qcz k) (.lit (.int .i64 0)))+n))))
def Qco {H:Type} (rs:List R64):DataW H:=rs.foldl (fun D r=>QbN D (QaS r.1) r.1.n) (.map [])
def QdB (rs:List R64):List Tri:=rs.foldl (fun l r=>Qby l r.1) []
theorem QfO {H:Type} (rs:List R64) (r:R64):Qco (H:=H) (rs++[r])=QbN (Qco rs) (QaS r.1) r.1.n:=by simp[Qco]
theorem QlJ (rs:List R64) (r:R64):QdB (rs++[r])=Qby (QdB rs) r.1:=by simp[QdB]
theorem Qk6 {n:Int} (h:(Lit.int .i64 n).wf=true):wrap64 n=n:=by
 simp[Lit.wf,IntKind.min,IntKind.max,IntKind.signed,IntKind.bits]at h;unfold wrap64;omega
structure Qlb {H:Type} (D:DataW H) (l:List Tri):Prop where
 isMap:Maps.IsMap D
 sorted:l.Pairwise ltT
 has:∀k:K64,Maps.has D (Qcz k.1)=true↔∃x∈l,QaS x=k.1
 at_:∀k:K64,D.atKey (Qcz k.1) (.lit (.int .i64 0))=.lit (.int .i64 (Qbs l k.1))
theorem Qfu (k:Int × Int):WideAt.IsKeyLit (Qcz k):=trivial
theorem Qlb.step {H:Type} (hI:Ql8) {D:DataW H} {l:List Tri} (h:Qlb D l) (r:R64):Qlb (QbN D (QaS r.1) r.1.n) (Qby l r.1):=by
 have hw:=Qk6 r.2.2.2;refine⟨h.isMap.put _ _,QcT _ h.sorted,fun k=>?_,fun k=>?_⟩
 ·rw[QdG]
  by_cases e:k=r.k
  ·subst e
   exact⟨fun _=>Or.inr rfl,fun _=>Maps.has_put_same h.isMap (Qfu _) _⟩
  ·have hne:Qcz k.1≠Qcz (QaS r.1):=fun e2=>e (hI k r.k e2)
   rw[QbN,Maps.has_put_other hne,h.has k];constructor
   ·exact Or.inl
   ·rintro (h1 | h1)
    ·exact h1
    ·exact(e (Subtype.ext h1)).elim
 ·rw[QfF h.sorted r.1 hw]
  by_cases e:k=r.k
  ·subst e
   have e0:(R64.k r).1=QaS r.1:=rfl;have:=h.at_ r.k;rw[e0]at this;rw[e0,if_pos rfl,QbN,Maps.atKey_put_same h.isMap (Qfu _),this];rfl
  ·have hne:Qcz k.1≠Qcz (QaS r.1):=fun e2=>e (hI k r.k e2)
   have hk:¬k.1=QaS r.1:=fun e2=>e (Subtype.ext e2)
   rw[if_neg hk,QbN,Maps.atKey_put_other hne,h.at_ k]
theorem Qkr {H:Type} : Qlb (.map []:DataW H) []:=⟨Maps.isMap_empty,List.Pairwise.nil,fun k=>by simp[Maps.has],fun k=>rfl⟩
theorem Qhc {H:Type} (hI:Ql8) (rs:List R64):Qlb (Qco rs:DataW H) (QdB rs):=by
 suffices h:∀(D:DataW H) (l:List Tri),Qlb D l→Qlb (rs.foldl (fun D r=>QbN D (QaS r.1) r.1.n) D) (rs.foldl (fun l r=>Qby l r.1) l) from h _ _ Qkr
 induction rs with
 | nil=>intro D l h;exact h
 | cons r rs ih=>intro D l h;exact ih _ _ (h.step hI r)
theorem QbI (n:Int):(Lit.int .i64 (wrap64 n)).wf=true:=wrap64_wf n
theorem Ql2 (n:Int):(Lit.int .i64 (Qam n)).wf=true:=by unfold Qam;split <;> rfl
def rOf (x:Lin) (h:(Lit.int .i64 x.c).wf=true):R64:=⟨QaL x,h,Ql2 _,QbI _⟩
def Qgv:(xs:List Lin)→(∀x∈xs,(Lit.int .i64 x.c).wf=true)→List R64
 | [],_=>[]
 | x :: xs,h=>rOf x (h x (VH ..)) :: Qgv xs (fun y hy=>h y (Vy _ hy))
theorem QeX (xs:List Lin) (h:∀x∈xs,(Lit.int .i64 x.c).wf=true):(Qgv xs h).map (·.1)=xs.map QaL:=by
 induction xs with
 | nil=>rfl
 | cons x xs ih=>simp[Qgv,ih,rOf]
theorem QiJ (rs:List R64):QdB rs=(rs.map (·.1)).foldl Qby []:=by simp[QdB]
theorem Qgx (xs:List Lin) (h:∀x∈xs,(Lit.int .i64 x.c).wf=true):QdB (Qgv xs h)=QaD xs:=by
 rw[QiJ,QeX,QaD,List.foldl_map]
def Qlr {H:Type} (D0:DataW H) (left:Lit→Bool) (ss:List K64):Prop:=ss.Nodup∧∀x:K64,x∈ss↔(Maps.has D0 (Qcz x.1)=true∧left (Qcz x.1)=false)
theorem Qlr.start {H:Type} (D0:DataW H):Qlr D0 (Maps.has D0) []:=⟨List.nodup_nil,fun x=>by cases Maps.has D0 (Qcz x.1) <;> simp⟩
theorem Qlr.step {H:Type} (hI:Ql8) {D0:DataW H} {left:Lit→Bool} {ss:List K64} (h:Qlr D0 left ss) {x:K64} {y:DataW H} (hlk:left (Qcz x.1)=true) (hat:∀zd,D0.atKey (Qcz x.1) zd=y):Qlr D0 (fun z=>left z && !z.sameKey (Qcz x.1)) (ss++[x]):=by
 have hhas:Maps.has D0 (Qcz x.1)=true:=Maps.has_true_of_atKey hat;have hnew:x ∉ ss:=fun hx=>by have:=((h.2 x).1 hx).2;rw[hlk]at this;cases this
 refine⟨List.nodup_append.2 ⟨h.1,by simp,fun a ha b hb=>by simp at hb;subst hb;exact fun e=>hnew (e ▸ ha)⟩,fun y=>?_⟩;by_cases hy:y=x
 ·subst hy
  simp[hhas,WideAt.sameKey_self (Qfu _)]
 ·have:(Qcz y.1).sameKey (Qcz x.1)=false:=Maps.sameKey_ne fun e=>hy (hI _ _ e)
  simp[h.2 y,hy,this]
end Go.Proofs.YtiogibfhafoapaaGreat
