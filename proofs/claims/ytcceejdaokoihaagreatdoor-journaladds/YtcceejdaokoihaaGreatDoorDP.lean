import Derived.Sort.KeysCollected
import Derived.Test.YtcceejdaokoihaaGreatDoorKin
set_option maxRecDepth 100000
namespace Go.Proofs.YtcceejdaokoihaaGreatDoor
open Go.RowKit Go.Maps
abbrev Nm:=List UInt8
structure Fil where
 safe:List Nat
 units:List Int
def stepU (b:List Nat) (u:Int):List Nat:=if u<0 then b.take (-1 - u).toNat else b++[u.toNat]
def carryL (b:List Nat) (us:List Int):List Nat:=us.foldl stepU b
def uOk (b:List Nat) (u:Int):Prop:=(u<0→(-1 - u).toNat≤b.length∧-2147483648≤u)∧u<256
def okU (b:List Nat) (us:List Int):Prop:=∀k u,us[k]?=some u→uOk (carryL b (us.take k)) u
def Fil.all (f:Fil):List Nat:=carryL f.safe f.units
structure Fil.ok (f:Fil):Prop where
 small:∀x∈f.safe,x<256
 units:okU f.safe f.units
theorem carry_snoc (b:List Nat) (us:List Int) (u:Int):carryL b (us++[u])=stepU (carryL b us) u:=by simp[carryL]
theorem carry_app (b:List Nat) (us vs:List Int):carryL b (us++vs)=carryL (carryL b us) vs:=by simp[carryL]
theorem take_snoc' {α:Type} (l:List α) (k:Nat) (x:α) (h:l[k]?=some x):l.take (k+1)=l.take k++[x]:=by
 rw[List.take_add_one,h];rfl
theorem carry_small {b:List Nat} (hb:∀x∈b,x<256):∀{us:List Int},(∀u∈us,u<256)→∀x∈carryL b us,x<256:=by
 intro us
 induction us generalizing b with
 | nil=>intro _;exact hb
 | cons u us ih =>
  intro hu
  show ∀x∈carryL (stepU b u) us,x<256
  refine ih ?_ (fun v hv=>hu v (List.mem_cons_of_mem _ hv))
  intro x hx
  unfold stepU at hx
  split at hx
  ·exact hb x (List.mem_of_mem_take hx)
  ·rcases List.mem_append.1 hx with h | h
   ·exact hb x h
   ·simp at h
    have:=hu u (List.mem_cons_self ..)
    omega
theorem okU_small {b:List Nat} {us:List Int} (h:okU b us):∀u∈us,u<256:=fun u hu=>by
 obtain⟨k,hk⟩:=List.getElem?_of_mem hu
 exact(h k u hk).2
theorem okU_take {b:List Nat} {us:List Int} (h:okU b us) (n:Nat):okU b (us.take n):=fun k u hk=>by
 rw[List.getElem?_take]at hk
 split at hk
 ·rename_i hkn
  rw[List.take_take,Nat.min_eq_left (by omega)]
  exact h k u hk
 ·cases hk
theorem Fil.ok.allSmall {f:Fil} (h:f.ok):∀x∈f.all,x<256:=carry_small h.small (okU_small h.units)
theorem okU_snoc {b:List Nat} {us:List Int} {u:Int} (h:okU b us) (hu:uOk (carryL b us) u):okU b (us++[u]):=fun k v hk=>by
 by_cases e:k<us.length
 ·rw[List.getElem?_append_left e]at hk
  rw[List.take_append_of_le_length (by omega)]
  exact h k v hk
 ·have hk2:k=us.length:=by
   have:=(List.getElem?_eq_some_iff.1 hk).1
   simp at this;omega
  subst hk2
  simp at hk
  subst hk
  rw[List.take_append_of_le_length (by omega),List.take_of_length_le (by omega)]
  exact hu
theorem stepU_len (b:List Nat) (u:Int):(stepU b u).length≤b.length+1:=by
 unfold stepU;split <;> simp <;> omega
theorem carry_len (b:List Nat):∀us:List Int,(carryL b us).length≤b.length+us.length:=by
 intro us
 induction us generalizing b with
 | nil=>simp[carryL]
 | cons u us ih =>
  have:=ih (stepU b u)
  have h2:=stepU_len b u
  show (carryL (stepU b u) us).length≤_
  simp;omega
def bus (xs:List Nat):List Int:=xs.map fun (x:Nat)=>(x:Int)
theorem carry_bus (b xs:List Nat):carryL b (bus xs)=b++xs:=by
 induction xs generalizing b with
 | nil=>simp[carryL,bus]
 | cons x xs ih =>
  show carryL (stepU b (x:Int)) (bus xs)=_
  rw[ih]
  unfold stepU
  rw[if_neg (by omega)]
  simp
def Fil.add (f:Fil) (xs:List Nat):Fil:=⟨f.safe,f.units++bus xs⟩
theorem Fil.all_add (f:Fil) (xs:List Nat):(f.add xs).all=f.all++xs:=by
 unfold Fil.all Fil.add;rw[carry_app,carry_bus]
theorem okU_bus {b:List Nat} {us:List Int} (h:okU b us):∀(xs:List Nat),(∀x∈xs,x<256)→okU b (us++bus xs):=by
 intro xs
 induction xs generalizing us with
 | nil=>intro _;simpa[bus] using h
 | cons x xs ih =>
  intro hx
  have:us++bus (x :: xs)=(us++[(x:Int)])++bus xs:=by simp[bus]
  rw[this]
  exact ih (okU_snoc h ⟨fun h0=>by omega,by have:=hx x (List.mem_cons_self ..);omega⟩) (fun y hy=>hx y (List.mem_cons_of_mem _ hy))
theorem Fil.ok.add {f:Fil} (h:f.ok) {xs:List Nat} (hx:∀x∈xs,x<256):(f.add xs).ok:=⟨h.small,okU_bus h.units xs hx⟩
def Fil.cut (f:Fil) (n:Nat):Fil:=if n<f.all.length then ⟨f.safe,f.units++[-1 - (n:Int)]⟩ else f
theorem Fil.all_cut (f:Fil) (n:Nat):(f.cut n).all=f.all.take n:=by
 unfold Fil.cut
 split
 ·show carryL f.safe (f.units++[_])=_
  rw[carry_snoc]
  unfold stepU
  rw[if_pos (by omega)]
  congr 1;omega
 ·rw[List.take_of_length_le (by omega)]
theorem Fil.ok.cut {f:Fil} (h:f.ok) (n:Nat) (hn:n<2147483648):(f.cut n).ok:=by
 unfold Fil.cut
 split
 ·exact⟨h.small,okU_snoc h.units ⟨fun _=>⟨by have:(-1 - (-1 - (n:Int))).toNat=n:=by omega
                                             rw[this];show n≤f.all.length;omega,by omega⟩,by omega⟩⟩
 ·exact h
def Fil.settled (f:Fil):Fil:=⟨f.all,[]⟩
theorem Fil.all_settled (f:Fil):f.settled.all=f.all:=rfl
theorem Fil.ok.settled {f:Fil} (h:f.ok):f.settled.ok:=⟨h.allSmall,fun k u hk=>by simp[Fil.settled]at hk⟩
def Fil.left (f:Fil) (n:Nat):List Nat:=carryL f.safe (f.units.take n)
def insN (x:Nm × Nat):List (Nm × Nat)→List (Nm × Nat)
 | []=>[x]
 | y :: r=>if bytesBefore x.1 y.1 then x :: y :: r else y :: insN x r
def delN (k:Nm) (l:List (Nm × Nat)):List (Nm × Nat):=l.filter fun p=>!(p.1 == k)
def putN (k:Nm) (v:Nat) (l:List (Nm × Nat)):List (Nm × Nat):=insN (k,v) (delN k l)
def lookN (l:List (Nm × Nat)) (k:Nm):Option Nat:=(l.find? fun p=>p.1 == k).map (·.2)
structure Chg where
 frm:Nm
 to:Nm
 file:Nat
def withN (l:List (Nm × Nat)) (c:Chg):List (Nm × Nat):=if c.to=[] then delN c.frm l else putN c.to c.file (delN c.frm l)
def mapN (g:Nat→Nat) (l:List (Nm × Nat)):List (Nm × Nat):=l.map fun p=>(p.1,g p.2)
theorem mapN_ins (g:Nat→Nat) (x:Nm × Nat):∀l,mapN g (insN x l)=insN (x.1,g x.2) (mapN g l)
 | []=>rfl
 | y :: r=>by
  unfold mapN insN
  by_cases h:bytesBefore x.1 y.1=true
  ·simp[h]
  ·have ih:=mapN_ins g x r
   unfold mapN at ih
   simp[h,ih]
theorem mapN_del (g:Nat→Nat) (k:Nm) (l:List (Nm × Nat)):mapN g (delN k l)=delN k (mapN g l):=by
 unfold mapN delN;rw[List.filter_map];rfl
theorem mapN_put (g:Nat→Nat) (k:Nm) (v:Nat) (l:List (Nm × Nat)):mapN g (putN k v l)=putN k (g v) (mapN g l):=by
 unfold putN;rw[mapN_ins,mapN_del]
theorem mapN_look (g:Nat→Nat) (k:Nm) (l:List (Nm × Nat)):lookN (mapN g l) k=(lookN l k).map g:=by
 unfold lookN mapN
 rw[List.find?_map]
 simp[Option.map_map,Function.comp_def]
theorem mapN_cong {g g':Nat→Nat} {l:List (Nm × Nat)} (h:∀p∈l,g p.2=g' p.2):mapN g l=mapN g' l:=by
 unfold mapN;exact List.map_congr_left fun p hp=>by rw[h p hp]
theorem mapN_len (g:Nat→Nat) (l:List (Nm × Nat)):(mapN g l).length=l.length:=by simp[mapN]
theorem mem_ins {x y:Nm × Nat} : ∀{l:List (Nm × Nat)},y∈insN x l↔y=x∨y∈l
 | []=>by simp[insN]
 | z :: r=>by
  unfold insN
  split
  ·simp
  ·simp only[List.mem_cons,mem_ins (l:=r)]
   constructor <;> rintro (h | h | h) <;> simp[h]
theorem mem_del {k:Nm} {y:Nm × Nat} {l:List (Nm × Nat)} : y∈delN k l↔y∈l∧y.1≠k:=by simp[delN]
theorem mem_put {k:Nm} {v:Nat} {y:Nm × Nat} {l:List (Nm × Nat)} : y∈putN k v l↔y=(k,v)∨(y∈l∧y.1≠k):=by
 unfold putN;rw[mem_ins,mem_del]
theorem len_ins (x:Nm × Nat):∀l:List (Nm × Nat),(insN x l).length=l.length+1
 | []=>rfl
 | y :: r=>by unfold insN;split <;> simp[len_ins x r]
theorem len_del (k:Nm) (l:List (Nm × Nat)):(delN k l).length≤l.length:=List.length_filter_le _ _
theorem before_trans:∀{a b c:Nm},bytesBefore a b=true→bytesBefore b c=true→bytesBefore a c=true
 | [],[],_,h,_=>by simp[bytesBefore]at h
 | [],_ :: _,[],_,h=>by simp[bytesBefore]at h
 | [],_ :: _,_ :: _,_,_=>rfl
 | _ :: _,[],_,h,_=>by simp[bytesBefore]at h
 | _ :: _,_ :: _,[],_,h=>by simp[bytesBefore]at h
 | x :: a,y :: b,z :: c,h,k=>by
  simp only[bytesBefore,Bool.or_eq_true,decide_eq_true_eq,Bool.and_eq_true,beq_iff_eq]at h k ⊢
  rcases h with h | ⟨rfl,h⟩
  ·rcases k with k | ⟨rfl,k⟩
   ·exact Or.inl (UInt8.lt_trans h k)
   ·exact Or.inl h
  ·rcases k with k | ⟨rfl,k⟩
   ·exact Or.inl k
   ·exact Or.inr ⟨rfl,before_trans h k⟩
theorem before_irrefl:∀a:Nm,bytesBefore a a=false
 | []=>rfl
 | x :: a=>by simp[bytesBefore,before_irrefl a,UInt8.lt_irrefl]
theorem before_total:∀{a b:Nm},bytesBefore a b=false→a≠b→bytesBefore b a=true
 | [],[],_,h=>by simp at h
 | [],_ :: _,h,_=>by simp[bytesBefore]at h
 | _ :: _,[],_,_=>rfl
 | x :: a,y :: b,h,k=>by
  simp only[bytesBefore,Bool.or_eq_false_iff,decide_eq_false_iff_not,Bool.and_eq_false_iff,beq_eq_false_iff_ne,ne_eq]at h
  simp only[bytesBefore,Bool.or_eq_true,decide_eq_true_eq,Bool.and_eq_true,beq_iff_eq]
  obtain⟨h1,h2⟩:=h
  by_cases e:x=y
  ·subst e
   rcases h2 with h2 | h2
   ·exact absurd rfl h2
   ·exact Or.inr ⟨rfl,before_total h2 (fun e=>k (by rw[e]))⟩
  ·left
   rcases UInt8.lt_or_lt_of_ne e with h | h
   ·exact absurd h h1
   ·exact h
def Srt (l:List (Nm × Nat)):Prop:=l.Pairwise fun p q=>bytesBefore p.1 q.1=true
theorem Srt.del {l:List (Nm × Nat)} (h:Srt l) (k:Nm):Srt (delN k l):=List.Pairwise.filter _ h
theorem Srt.ins {x:Nm × Nat} : ∀{l:List (Nm × Nat)},Srt l→(∀p∈l,p.1≠x.1)→Srt (insN x l)
 | [],_,_=>by simp[insN,Srt]
 | y :: r,h,hx=>by
  unfold insN
  obtain⟨h1,h2⟩:=List.pairwise_cons.1 h
  split
  ·rename_i e
   exact List.pairwise_cons.2 ⟨fun z hz=>by
    rcases List.mem_cons.1 hz with rfl | hz
    ·exact e
    ·exact before_trans e (h1 z hz),h⟩
  ·rename_i e
   refine List.pairwise_cons.2 ⟨fun z hz=>?_,Srt.ins h2 (fun p hp=>hx p (List.mem_cons_of_mem _ hp))⟩
   rcases mem_ins.1 hz with rfl | hz
   ·exact before_total (by simpa using e) (fun e2=>hx y (List.mem_cons_self ..) e2.symm)
   ·exact h1 z hz
theorem Srt.put {l:List (Nm × Nat)} (h:Srt l) (k:Nm) (v:Nat):Srt (putN k v l) :=
 Srt.ins (h.del k) (fun _ hp=>(mem_del.1 hp).2)
theorem Srt.withN {l:List (Nm × Nat)} (h:Srt l) (c:Chg):Srt (withN l c):=by
 unfold Proofs.YtcceejdaokoihaaGreatDoor.withN
 split
 ·exact h.del _
 ·exact(h.del _).put _ _
theorem Srt.nodup {l:List (Nm × Nat)} (h:Srt l):l.Pairwise fun p q=>p.1≠q.1:=List.Pairwise.imp (fun {_ _} hb e=>by rw[e,before_irrefl]at hb;cases hb) h
theorem look_mem {l:List (Nm × Nat)} (h:Srt l) {k:Nm} {v:Nat} : lookN l k=some v↔(k,v)∈l:=by
 induction l with
 | nil=>simp[lookN]
 | cons y r ih =>
  obtain⟨h1,h2⟩:=List.pairwise_cons.1 h
  unfold lookN
  rw[List.find?_cons]
  by_cases e:y.1=k
  ·subst e
   simp only[beq_self_eq_true,Option.map_some,Option.some.injEq,List.mem_cons]
   constructor
   ·rintro rfl;exact Or.inl rfl
   ·rintro (h' | h')
    ·rw[←h']
    ·have:=h1 _ h'
     rw[before_irrefl]at this;cases this
  ·have eb:(y.1 == k)=false:=by simpa using e
   simp only[eb]
   have:=ih h2
   unfold lookN at this
   rw[this,List.mem_cons]
   constructor
   ·exact Or.inr
   ·rintro (h' | h')
    ·rw[←h']at e;exact absurd rfl e
    ·exact h'
theorem look_none {l:List (Nm × Nat)} {k:Nm} : lookN l k=none↔∀p∈l,p.1≠k:=by
 unfold lookN;simp[List.find?_eq_none]
end Go.Proofs.YtcceejdaokoihaaGreatDoor
