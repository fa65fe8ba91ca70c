import Derived.Maps.OwnIn
import Derived.Test.YtiogibfhafoapaaGreatAcA
set_option maxRecDepth 100000
set_option maxHeartbeats 8000000
set_option linter.unusedSimpArgs false
set_option linter.unusedVariables false
namespace Go.Proofs.YtiogibfhafoapaaGreat
open Go.RowKit
def wayOf (n:Int):Int:=if n<0 then 0 else 1
def amtOf (n:Int):Int:=wrap64 (if n<0 then -n else n)
def putT:List Tri→Tri→List Tri
 | [],r=>[r]
 | x :: l,r=>if x.a=r.a∧x.b=r.b then ⟨x.a,x.b,wrap64 (x.n+r.n)⟩ :: l else if r.a<x.a∨(r.a=x.a∧r.b<x.b) then r :: x :: l else x :: putT l r
def triOf (x:Lin):Tri:=⟨x.c,wayOf x.n,amtOf x.n⟩
def needT (xs:List Lin):List Tri:=xs.foldl (fun l x=>putT l (triOf x)) []
theorem needT_snoc (xs:List Lin) (x:Lin):needT (xs++[x])=putT (needT xs) (triOf x):=by simp[needT]
def ltT (x y:Tri):Prop:=x.a<y.a∨(x.a=y.a∧x.b<y.b)
def keyT (x:Tri):Int × Int:=(x.a,x.b)
def ltK (x y:Int × Int):Prop:=x.1<y.1∨(x.1=y.1∧x.2<y.2)
def lookT (l:List Tri) (k:Int × Int):Int:=((l.find? fun x=>decide (keyT x=k)).map (·.n)).getD 0
theorem ex_cons {α:Type} {p:α→Prop} {a:α} {l:List α} : (∃x,x∈a :: l∧p x)↔p a∨∃x,x∈l∧p x:=by
 constructor
 ·rintro ⟨x,hx,h⟩
  rcases List.mem_cons.1 hx with rfl | hx
  ·exact Or.inl h
  ·exact Or.inr ⟨x,hx,h⟩
 ·rintro (h | ⟨x,hx,h⟩)
  ·exact⟨a,List.mem_cons_self ..,h⟩
  ·exact⟨x,List.mem_cons_of_mem _ hx,h⟩
theorem putT_mem (l:List Tri) (r:Tri) (k:Int × Int):(∃x∈putT l r,keyT x=k)↔(∃x∈l,keyT x=k)∨k=keyT r:=by
 induction l with
 | nil=>simp[putT,eq_comm]
 | cons x l ih =>
  unfold putT;split
  ·rename_i h
   have e:keyT x=keyT r:=by simp[keyT,h.1,h.2]
   simp only[ex_cons];have e2:keyT ⟨x.a,x.b,wrap64 (x.n+r.n)⟩=keyT x:=rfl;rw[e2];constructor
   ·rintro (h | h)
    ·exact Or.inl (Or.inl h)
    ·exact Or.inl (Or.inr h)
   ·rintro ((h | h) | h)
    ·exact Or.inl h
    ·exact Or.inr h
    ·exact Or.inl (by rw[h,e])
  ·split
   ·simp only[ex_cons]
    constructor
    ·rintro (h | h | h)
     ·exact Or.inr h.symm
     ·exact Or.inl (Or.inl h)
     ·exact Or.inl (Or.inr h)
    ·rintro ((h | h) | h)
     ·exact Or.inr (Or.inl h)
     ·exact Or.inr (Or.inr h)
     ·exact Or.inl h.symm
   ·simp only[ex_cons,ih]
    constructor
    ·rintro (h | h | h)
     ·exact Or.inl (Or.inl h)
     ·exact Or.inl (Or.inr h)
     ·exact Or.inr h
    ·rintro ((h | h) | h)
     ·exact Or.inl h
     ·exact Or.inr (Or.inl h)
     ·exact Or.inr (Or.inr h)
theorem putT_from {l:List Tri} {r y:Tri} (h:y∈putT l r):(∃x∈l,keyT x=keyT y)∨keyT y=keyT r:=by
 have:=(putT_mem l r (keyT y)).1 ⟨y,h,rfl⟩;exact this
theorem putT_sorted {l:List Tri} (r:Tri) (h:l.Pairwise ltT):(putT l r).Pairwise ltT:=by
 induction l with
 | nil=>simp[putT]
 | cons x l ih =>
  obtain⟨h1,h2⟩:=List.pairwise_cons.1 h;unfold putT;split
  ·exact List.pairwise_cons.2 ⟨fun y hy=>h1 y hy,h2⟩
  ·split
   ·rename_i hlt
    refine List.pairwise_cons.2 ⟨fun y hy=>?_,h⟩;rcases List.mem_cons.1 hy with rfl | hy
    ·exact hlt
    ·have:=h1 y hy
     unfold ltT at *;omega
   ·rename_i hne hlt
    refine List.pairwise_cons.2 ⟨fun y hy=>?_,ih h2⟩;rcases putT_from hy with ⟨z,hz,e⟩ | e
    ·have:=h1 z hz
     simp only[keyT,Prod.mk.injEq]at e;unfold ltT at *;omega
    ·simp only[keyT,Prod.mk.injEq]at e
     unfold ltT;omega
theorem needT_sorted (xs:List Lin):(needT xs).Pairwise ltT:=by
 suffices h:∀l:List Tri,l.Pairwise ltT→(xs.foldl (fun l x=>putT l (triOf x)) l).Pairwise ltT from h [] List.Pairwise.nil
 induction xs with
 | nil=>intro l h;exact h
 | cons x xs ih=>intro l h;exact ih _ (putT_sorted _ h)
theorem lookT_none {l:List Tri} {k:Int × Int} (h:∀x∈l,keyT x≠k):lookT l k=0:=by
 have:l.find? (fun x=>decide (keyT x=k))=none:=List.find?_eq_none.2 fun x hx=>by simp[h x hx]
 simp[lookT,this]
theorem lookT_cons (x:Tri) (l:List Tri) (k:Int × Int):lookT (x :: l) k=if keyT x=k then x.n else lookT l k:=by
 unfold lookT;rw[List.find?_cons];by_cases h:keyT x=k <;> simp[h]
theorem lookT_mem {l:List Tri} (hs:l.Pairwise ltT) {x:Tri} (hx:x∈l):lookT l (keyT x)=x.n:=by
 induction l with
 | nil=>simp at hx
 | cons y l ih =>
  obtain⟨h1,h2⟩:=List.pairwise_cons.1 hs;rw[lookT_cons];rcases List.mem_cons.1 hx with rfl | hx
  ·simp
  ·have:=h1 x hx
   rw[if_neg,ih h2 hx];intro e;simp only[keyT,Prod.mk.injEq]at e;unfold ltT at this;omega
theorem putT_look {l:List Tri} (hs:l.Pairwise ltT) (r:Tri) (hr:wrap64 r.n=r.n) (k:Int × Int):lookT (putT l r) k=if k=keyT r then wrap64 (lookT l k+r.n) else lookT l k:=by
 induction l with
 | nil =>
  have e0:lookT [] k=0:=rfl;show lookT [r] k=_;rw[lookT_cons,e0,Int.zero_add,hr];by_cases h:keyT r=k
  ·rw[if_pos h,if_pos h.symm]
  ·rw[if_neg h,if_neg (fun e=>h e.symm)]
 | cons x l ih =>
  obtain⟨h1,h2⟩:=List.pairwise_cons.1 hs;unfold putT;split
  ·rename_i h
   have e:keyT x=keyT r:=by simp[keyT,h.1,h.2]
   rw[lookT_cons,lookT_cons];have e2:keyT ⟨x.a,x.b,wrap64 (x.n+r.n)⟩=keyT x:=rfl;rw[e2];by_cases hk:keyT x=k
   ·simp[hk,←e]
   ·have:¬k=keyT r:=fun e3=>hk (by rw[e,e3])
    simp[hk,this]
  ·rename_i hne
   split
   ·rename_i hlt
    rw[lookT_cons];by_cases hk:k=keyT r
    ·have hn:∀y∈x :: l,keyT y≠k:=fun y hy e=>by
      rw[hk]at e;simp only[keyT,Prod.mk.injEq]at e;rcases List.mem_cons.1 hy with rfl | hy
      ·exact hne e
      ·have:=h1 y hy
       unfold ltT at this;omega
     rw[if_pos hk.symm,if_pos hk,lookT_none hn,Int.zero_add,hr]
    ·rw[if_neg (fun e=>hk e.symm),if_neg hk]
   ·rw[lookT_cons,lookT_cons,ih h2]
    by_cases hk:keyT x=k
    ·have:¬k=keyT r:=fun e3=>hne (by have:=hk.trans e3;simpa[keyT] using this)
     simp[hk,this]
    ·simp[hk]
theorem sorted_look {l:List Tri} (hs:l.Pairwise ltT) {ks:List (Int × Int)} (hk:ks.Pairwise ltK) (hm:∀k,k∈ks↔∃x∈l,keyT x=k):ks.map (fun k=>(⟨k.1,k.2,lookT l k⟩:Tri))=l:=by
 have hkl:(l.map keyT).Pairwise ltK:=List.pairwise_map.2 (hs.imp fun h=>h);have nd:∀{m:List (Int × Int)},m.Pairwise ltK→m.Nodup:=fun h=>h.imp fun {a b} h e=>by subst e;unfold ltK at h;omega
 have hp:ks.Perm (l.map keyT):=(List.perm_ext_iff_of_nodup (nd hk) (nd hkl)).2 fun k=>by rw[hm k,List.mem_map]
 have e:ks=l.map keyT:=List.Perm.eq_of_pairwise (le:=ltK) (fun a b _ _ h1 h2=>by unfold ltK at h1 h2;omega) hk hkl hp;rw[e,List.map_map]
 conv=>rhs;rw[←List.map_id l]
 refine List.map_congr_left fun x hx=>?_
 show (⟨x.a,x.b,lookT l (keyT x)⟩:Tri)=x;rw[lookT_mem hs hx]
end Go.Proofs.YtiogibfhafoapaaGreat
