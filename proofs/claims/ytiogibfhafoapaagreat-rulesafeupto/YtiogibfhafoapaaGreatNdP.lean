import Derived.Maps.OwnIn
import Derived.Test.YtiogibfhafoapaaGreatAcA
set_option maxRecDepth 100000
set_option maxHeartbeats 8000000
set_option linter.unusedSimpArgs false
set_option linter.unusedVariables false
namespace Go.Proofs.YtiogibfhafoapaaGreat
open Go.RowKit
def Qam (n:Int):Int:=if n<0 then 0 else 1
def Qbh (n:Int):Int:=wrap64 (if n<0 then -n else n)
def Qby:List Tri→Tri→List Tri
 | [],r=>[r]
 | x :: l,r=>if x.a=r.a∧x.b=r.b then ⟨x.a,x.b,wrap64 (x.n+r.n)⟩ :: l else if r.a<x.a∨(r.a=x.a∧r.b<x.b) then r :: x :: l else x :: Qby l r
def QaL (x:Lin):Tri:=⟨x.c,Qam x.n,Qbh x.n⟩
def QaD (xs:List Lin):List Tri:=xs.foldl (fun l x=>Qby l (QaL x)) []
theorem QhB (xs:List Lin) (x:Lin):QaD (xs++[x])=Qby (QaD xs) (QaL x):=by simp[QaD]
def ltT (x y:Tri):Prop:=x.a<y.a∨(x.a=y.a∧x.b<y.b)
def QaS (x:Tri):Int × Int:=(x.a,x.b)
def ltK (x y:Int × Int):Prop:=x.1<y.1∨(x.1=y.1∧x.2<y.2)
def Qbs (l:List Tri) (k:Int × Int):Int:=((l.find? fun x=>decide (QaS x=k)).map (·.n)).getD 0
theorem QfV {α:Type} {p:α→Prop} {a:α} {l:List α} : (∃x,x∈a :: l∧p x)↔p a∨∃x,x∈l∧p x:=by
 constructor
 ·rintro ⟨x,hx,h⟩
  rcases List.mem_cons.1 hx with rfl | hx
  ·exact Or.inl h
  ·exact Or.inr ⟨x,hx,h⟩
 ·rintro (h | ⟨x,hx,h⟩)
  ·exact⟨a,VH ..,h⟩
  ·exact⟨x,Vy _ hx,h⟩
theorem QdG (l:List Tri) (r:Tri) (k:Int × Int):(∃x∈Qby l r,QaS x=k)↔(∃x∈l,QaS x=k)∨k=QaS r:=by
 induction l with
 | nil=>simp[Qby,eq_comm]
 | cons x l ih =>
  unfold Qby;split
  ·rename_i h
   have e:QaS x=QaS r:=by simp[QaS,h.1,h.2]
   simp only[QfV];have e2:QaS ⟨x.a,x.b,wrap64 (x.n+r.n)⟩=QaS x:=rfl;rw[e2];constructor
   ·rintro (h | h)
    ·exact Or.inl (Or.inl h)
    ·exact Or.inl (Or.inr h)
   ·rintro ((h | h) | h)
    ·exact Or.inl h
    ·exact Or.inr h
    ·exact Or.inl (by rw[h,e])
  ·split
   ·simp only[QfV]
    constructor
    ·rintro (h | h | h)
     ·exact Or.inr h.symm
     ·exact Or.inl (Or.inl h)
     ·exact Or.inl (Or.inr h)
    ·rintro ((h | h) | h)
     ·exact Or.inr (Or.inl h)
     ·exact Or.inr (Or.inr h)
     ·exact Or.inl h.symm
   ·simp only[QfV,ih]
    constructor
    ·rintro (h | h | h)
     ·exact Or.inl (Or.inl h)
     ·exact Or.inl (Or.inr h)
     ·exact Or.inr h
    ·rintro ((h | h) | h)
     ·exact Or.inl h
     ·exact Or.inr (Or.inl h)
     ·exact Or.inr (Or.inr h)
theorem Qfn {l:List Tri} {r y:Tri} (h:y∈Qby l r):(∃x∈l,QaS x=QaS y)∨QaS y=QaS r:=by
 have:=(QdG l r (QaS y)).1 ⟨y,h,rfl⟩;exact this
theorem QcT {l:List Tri} (r:Tri) (h:l.Pairwise ltT):(Qby l r).Pairwise ltT:=by
 induction l with
 | nil=>simp[Qby]
 | cons x l ih =>
  obtain⟨h1,h2⟩:=List.pairwise_cons.1 h;unfold Qby;split
  ·exact List.pairwise_cons.2 ⟨fun y hy=>h1 y hy,h2⟩
  ·split
   ·rename_i hlt
    refine List.pairwise_cons.2 ⟨fun y hy=>?_,h⟩;rcases List.mem_cons.1 hy with rfl | hy
    ·exact hlt
    ·have:=h1 y hy
     unfold ltT at *;omega
   ·rename_i hne hlt
    refine List.pairwise_cons.2 ⟨fun y hy=>?_,ih h2⟩;rcases Qfn hy with ⟨z,hz,e⟩ | e
    ·have:=h1 z hz
     simp only[QaS,Prod.mk.injEq]at e;unfold ltT at *;omega
    ·simp only[QaS,Prod.mk.injEq]at e
     unfold ltT;omega
theorem Qe4 (xs:List Lin):(QaD xs).Pairwise ltT:=by
 suffices h:∀l:List Tri,l.Pairwise ltT→(xs.foldl (fun l x=>Qby l (QaL x)) l).Pairwise ltT from h [] List.Pairwise.nil
 induction xs with
 | nil=>intro l h;exact h
 | cons x xs ih=>intro l h;exact ih _ (QcT _ h)
theorem Qh3 {l:List Tri} {k:Int × Int} (h:∀x∈l,QaS x≠k):Qbs l k=0:=by
 have:l.find? (fun x=>decide (QaS x=k))=none:=List.find?_eq_none.2 fun x hx=>by simp[h x hx]
 simp[Qbs,this]
theorem Qbi (x:Tri) (l:List Tri) (k:Int × Int):Qbs (x :: l) k=if QaS x=k then x.n else Qbs l k:=by
 unfold Qbs;rw[List.find?_cons];by_cases h:QaS x=k <;> simp[h]
theorem Qfm {l:List Tri} (hs:l.Pairwise ltT) {x:Tri} (hx:x∈l):Qbs l (QaS x)=x.n:=by
 induction l with
 | nil=>simp at hx
 | cons y l ih =>
  obtain⟨h1,h2⟩:=List.pairwise_cons.1 hs;rw[Qbi];rcases List.mem_cons.1 hx with rfl | hx
  ·simp
  ·have:=h1 x hx
   rw[if_neg,ih h2 hx];intro e;simp only[QaS,Prod.mk.injEq]at e;unfold ltT at this;omega
theorem QfF {l:List Tri} (hs:l.Pairwise ltT) (r:Tri) (hr:wrap64 r.n=r.n) (k:Int × Int):Qbs (Qby l r) k=if k=QaS r then wrap64 (Qbs l k+r.n) else Qbs l k:=by
 induction l with
 | nil =>
  have e0:Qbs [] k=0:=rfl;show Qbs [r] k=_;rw[Qbi,e0,Int.zero_add,hr];by_cases h:QaS r=k
  ·rw[if_pos h,if_pos h.symm]
  ·rw[if_neg h,if_neg (fun e=>h e.symm)]
 | cons x l ih =>
  obtain⟨h1,h2⟩:=List.pairwise_cons.1 hs;unfold Qby;split
  ·rename_i h
   have e:QaS x=QaS r:=by simp[QaS,h.1,h.2]
   rw[Qbi,Qbi];have e2:QaS ⟨x.a,x.b,wrap64 (x.n+r.n)⟩=QaS x:=rfl;rw[e2];by_cases hk:QaS x=k
   ·simp[hk,←e]
   ·have:¬k=QaS r:=fun e3=>hk (by rw[e,e3])
    simp[hk,this]
  ·rename_i hne
   split
   ·rename_i hlt
    rw[Qbi];by_cases hk:k=QaS r
    ·have hn:∀y∈x :: l,QaS y≠k:=fun y hy e=>by
      rw[hk]at e;simp only[QaS,Prod.mk.injEq]at e;rcases List.mem_cons.1 hy with rfl | hy
      ·exact hne e
      ·have:=h1 y hy
       unfold ltT at this;omega
     rw[if_pos hk.symm,if_pos hk,Qh3 hn,Int.zero_add,hr]
    ·rw[if_neg (fun e=>hk e.symm),if_neg hk]
   ·rw[Qbi,Qbi,ih h2]
    by_cases hk:QaS x=k
    ·have:¬k=QaS r:=fun e3=>hne (by have:=hk.trans e3;simpa[QaS] using this)
     simp[hk,this]
    ·simp[hk]
theorem QfM {l:List Tri} (hs:l.Pairwise ltT) {ks:List (Int × Int)} (hk:ks.Pairwise ltK) (hm:∀k,k∈ks↔∃x∈l,QaS x=k):ks.map (fun k=>(⟨k.1,k.2,Qbs l k⟩:Tri))=l:=by
 have hkl:(l.map QaS).Pairwise ltK:=List.pairwise_map.2 (hs.imp fun h=>h);have nd:∀{m:List (Int × Int)},m.Pairwise ltK→m.Nodup:=fun h=>h.imp fun {a b} h e=>by subst e;unfold ltK at h;omega
 have hp:ks.Perm (l.map QaS):=(List.perm_ext_iff_of_nodup (nd hk) (nd hkl)).2 fun k=>by rw[hm k,List.mem_map]
 have e:ks=l.map QaS:=List.Perm.eq_of_pairwise (le:=ltK) (fun a b _ _ h1 h2=>by unfold ltK at h1 h2;omega) hk hkl hp;rw[e,List.map_map]
 conv=>rhs;rw[←List.map_id l]
 refine List.map_congr_left fun x hx=>?_
 show (⟨x.a,x.b,Qbs l (QaS x)⟩:Tri)=x;rw[Qfm hs hx]
end Go.Proofs.YtiogibfhafoapaaGreat
