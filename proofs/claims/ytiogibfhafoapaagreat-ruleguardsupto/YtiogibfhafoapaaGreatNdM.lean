import Derived.Maps.OwnSet
import Derived.Maps.Range
import Derived.Test.YtiogibfhafoapaaGreatNdP
set_option maxRecDepth 100000
set_option maxHeartbeats 8000000
set_option linter.unusedSimpArgs false
set_option linter.unusedVariables false
namespace Go.Proofs.YtiogibfhafoapaaGreat
open Go.RowKit
def klit (k:Int × Int):Lit:=.string (keyBytes [.int .i64 k.1,.int .i64 k.2])
abbrev K64:={ k:Int × Int // (Lit.int .i64 k.1).wf=true∧(Lit.int .i64 k.2).wf=true }
abbrev R64:={ r:Tri // (Lit.int .i64 r.a).wf=true∧(Lit.int .i64 r.b).wf=true∧(Lit.int .i64 r.n).wf=true }
def R64.k (r:R64):K64:=⟨keyT r.1,r.2.1,r.2.2.1⟩
def KInj:Prop:=∀x y:K64,klit x.1=klit y.1→x=y
def numD {H:Type} : DataW H→Int
 | .lit (.int _ c)=>c
 | _=>0
def bumpD {H:Type} (D:DataW H) (k:Int × Int) (n:Int):DataW H:=D.put (klit k) (.lit (.int .i64 (wrap64 (numD (D.atKey (klit k) (.lit (.int .i64 0)))+n))))
def tallyR {H:Type} (rs:List R64):DataW H:=rs.foldl (fun D r=>bumpD D (keyT r.1) r.1.n) (.map [])
def putsR (rs:List R64):List Tri:=rs.foldl (fun l r=>putT l r.1) []
theorem tallyR_snoc {H:Type} (rs:List R64) (r:R64):tallyR (H:=H) (rs++[r])=bumpD (tallyR rs) (keyT r.1) r.1.n:=by simp[tallyR]
theorem putsR_snoc (rs:List R64) (r:R64):putsR (rs++[r])=putT (putsR rs) r.1:=by simp[putsR]
theorem wrap_wf {n:Int} (h:(Lit.int .i64 n).wf=true):wrap64 n=n:=by
 simp[Lit.wf,IntKind.min,IntKind.max,IntKind.signed,IntKind.bits]at h;unfold wrap64;omega
structure RelD {H:Type} (D:DataW H) (l:List Tri):Prop where
 isMap:Maps.IsMap D
 sorted:l.Pairwise ltT
 has:∀k:K64,Maps.has D (klit k.1)=true↔∃x∈l,keyT x=k.1
 at_:∀k:K64,D.atKey (klit k.1) (.lit (.int .i64 0))=.lit (.int .i64 (lookT l k.1))
theorem key_ok (k:Int × Int):WideAt.IsKeyLit (klit k):=trivial
theorem RelD.step {H:Type} (hI:KInj) {D:DataW H} {l:List Tri} (h:RelD D l) (r:R64):RelD (bumpD D (keyT r.1) r.1.n) (putT l r.1):=by
 have hw:=wrap_wf r.2.2.2;refine⟨h.isMap.put _ _,putT_sorted _ h.sorted,fun k=>?_,fun k=>?_⟩
 ·rw[putT_mem]
  by_cases e:k=r.k
  ·subst e
   exact⟨fun _=>Or.inr rfl,fun _=>Maps.has_put_same h.isMap (key_ok _) _⟩
  ·have hne:klit k.1≠klit (keyT r.1):=fun e2=>e (hI k r.k e2)
   rw[bumpD,Maps.has_put_other hne,h.has k];constructor
   ·exact Or.inl
   ·rintro (h1 | h1)
    ·exact h1
    ·exact(e (Subtype.ext h1)).elim
 ·rw[putT_look h.sorted r.1 hw]
  by_cases e:k=r.k
  ·subst e
   have e0:(R64.k r).1=keyT r.1:=rfl;have:=h.at_ r.k;rw[e0]at this;rw[e0,if_pos rfl,bumpD,Maps.atKey_put_same h.isMap (key_ok _),this];rfl
  ·have hne:klit k.1≠klit (keyT r.1):=fun e2=>e (hI k r.k e2)
   have hk:¬k.1=keyT r.1:=fun e2=>e (Subtype.ext e2)
   rw[if_neg hk,bumpD,Maps.atKey_put_other hne,h.at_ k]
theorem relD_nil {H:Type} : RelD (.map []:DataW H) []:=⟨Maps.isMap_empty,List.Pairwise.nil,fun k=>by simp[Maps.has],fun k=>rfl⟩
theorem relD_all {H:Type} (hI:KInj) (rs:List R64):RelD (tallyR rs:DataW H) (putsR rs):=by
 suffices h:∀(D:DataW H) (l:List Tri),RelD D l→RelD (rs.foldl (fun D r=>bumpD D (keyT r.1) r.1.n) D) (rs.foldl (fun l r=>putT l r.1) l) from h _ _ relD_nil
 induction rs with
 | nil=>intro D l h;exact h
 | cons r rs ih=>intro D l h;exact ih _ _ (h.step hI r)
theorem wf_wrap (n:Int):(Lit.int .i64 (wrap64 n)).wf=true:=wrap64_wf n
theorem wf_way (n:Int):(Lit.int .i64 (wayOf n)).wf=true:=by unfold wayOf;split <;> rfl
def rOf (x:Lin) (h:(Lit.int .i64 x.c).wf=true):R64:=⟨triOf x,h,wf_way _,wf_wrap _⟩
def rsOf:(xs:List Lin)→(∀x∈xs,(Lit.int .i64 x.c).wf=true)→List R64
 | [],_=>[]
 | x :: xs,h=>rOf x (h x (List.mem_cons_self ..)) :: rsOf xs (fun y hy=>h y (List.mem_cons_of_mem _ hy))
theorem rsOf_val (xs:List Lin) (h:∀x∈xs,(Lit.int .i64 x.c).wf=true):(rsOf xs h).map (·.1)=xs.map triOf:=by
 induction xs with
 | nil=>rfl
 | cons x xs ih=>simp[rsOf,ih,rOf]
theorem putsR_val (rs:List R64):putsR rs=(rs.map (·.1)).foldl putT []:=by simp[putsR]
theorem putsR_of (xs:List Lin) (h:∀x∈xs,(Lit.int .i64 x.c).wf=true):putsR (rsOf xs h)=needT xs:=by
 rw[putsR_val,rsOf_val,needT,List.foldl_map]
def Coll {H:Type} (D0:DataW H) (left:Lit→Bool) (ss:List K64):Prop:=ss.Nodup∧∀x:K64,x∈ss↔(Maps.has D0 (klit x.1)=true∧left (klit x.1)=false)
theorem Coll.start {H:Type} (D0:DataW H):Coll D0 (Maps.has D0) []:=⟨List.nodup_nil,fun x=>by cases Maps.has D0 (klit x.1) <;> simp⟩
theorem Coll.step {H:Type} (hI:KInj) {D0:DataW H} {left:Lit→Bool} {ss:List K64} (h:Coll D0 left ss) {x:K64} {y:DataW H} (hlk:left (klit x.1)=true) (hat:∀zd,D0.atKey (klit x.1) zd=y):Coll D0 (fun z=>left z && !z.sameKey (klit x.1)) (ss++[x]):=by
 have hhas:Maps.has D0 (klit x.1)=true:=Maps.has_true_of_atKey hat;have hnew:x ∉ ss:=fun hx=>by have:=((h.2 x).1 hx).2;rw[hlk]at this;cases this
 refine⟨List.nodup_append.2 ⟨h.1,by simp,fun a ha b hb=>by simp at hb;subst hb;exact fun e=>hnew (e ▸ ha)⟩,fun y=>?_⟩;by_cases hy:y=x
 ·subst hy
  simp[hhas,WideAt.sameKey_self (key_ok _)]
 ·have:(klit y.1).sameKey (klit x.1)=false:=Maps.sameKey_ne fun e=>hy (hI _ _ e)
  simp[h.2 y,hy,this]
end Go.Proofs.YtiogibfhafoapaaGreat
