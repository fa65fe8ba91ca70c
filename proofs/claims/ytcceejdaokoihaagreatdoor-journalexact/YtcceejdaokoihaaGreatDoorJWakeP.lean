import Derived.Test.YtcceejdaokoihaaGreatDoorJChk
import Derived.Test.YtcceejdaokoihaaGreatDoorCMir
set_option maxRecDepth 100000
namespace Go.Proofs.YtcceejdaokoihaaGreatDoor
open Go.RowKit Go.Maps
theorem drop_app {α:Type} (a b:List α) (n:Nat) (h:a.length=n):(a++b).drop n=b:=by subst h;simp
theorem bNum_body (num:Nat) (ps:List (List Nat)) (hn:num<18446744073709551616):bNum (bodyB num ps)=(⟨num,0,0,8,0⟩,8,0):=by
 unfold bNum
 refine C.rn_of 2 0 _ 0 _ (C.fx_ok 2 8 num _ (C.beOf ps.length 4++partsB ps) rfl (by decide) (by decide) (by decide) ?_ ?_) rfl
 ·rw[List.drop_zero]
  unfold bodyB
  rw[List.append_assoc]
 ·exact hn
theorem bCnt_body (num:Nat) (ps:List (List Nat)) (hn:num<18446744073709551616) (hk:ps.length<4294967296):bCnt (bodyB num ps)=(⟨ps.length,0,0,4,0⟩,12,0):=by
 unfold bCnt
 rw[bNum_body num ps hn]
 refine C.rn_of 1 0 _ 8 _ (C.fx_ok 1 4 ps.length _ (partsB ps) rfl (by decide) (by decide) (by decide) ?_ ?_) rfl
 ·unfold bodyB
  rw[List.append_assoc,drop_app _ _ 8 (by simp[C.beOf])]
 ·exact hk
theorem take_cons_drop {α:Type} (l:List α) (j:Nat) (x:α) (h:l[j]?=some x):l=l.take j++x :: l.drop (j+1):=by
 have hj:j<l.length:=(List.getElem?_eq_some_iff.1 h).1
 have hx:l[j]=x:=(List.getElem?_eq_some_iff.1 h).2
 conv=>lhs;rw[←List.take_append_drop j l,List.drop_eq_getElem_cons hj,hx]
theorem partsB_app (a b:List (List Nat)):partsB (a++b)=partsB a++partsB b:=by simp[partsB]
theorem partsB_cons (p:List Nat) (b:List (List Nat)):partsB (p :: b)=partB p++partsB b:=by simp[partsB]
theorem body_drop (num:Nat) (ps:List (List Nat)) (j:Nat) (p:List Nat) (h:ps[j]?=some p):(bodyB num ps).drop (12+(partsB (ps.take j)).length)=partB p++partsB (ps.drop (j+1)):=by
 unfold bodyB
 have e:partsB ps=partsB (ps.take j)++(partB p++partsB (ps.drop (j+1))):=by
  conv=>lhs;rw[take_cons_drop ps j p h]
  rw[partsB_app,partsB_cons]
 rw[e,←List.append_assoc]
 exact drop_app _ _ _ (by simp[C.beOf];omega)
theorem partB_len2 (p:List Nat) (h:p.length<18446744073709551616):(partB p).length=C.vs p.length+p.length:=by
 have:=C.vs_bounds p.length h
 unfold partB
 rw[List.length_append,C.varOf_length]
 omega
theorem part_in (ps:List (List Nat)) (j:Nat) (p:List Nat) (h:ps[j]?=some p):(partsB (ps.take (j+1))).length=(partsB (ps.take j)).length+(partB p).length:=by
 rw[List.take_add_one,h]
 simp[partsB]
theorem part_fits (num:Nat) (ps:List (List Nat)) (hb:(bodyB num ps).length≤4194291) (p:List Nat) (hp:p∈ps):p.length≤4194291:=by
 have h1:(partB p).length≤(partsB ps).length:=by
  unfold partsB
  exact(List.Sublist.length_le (List.sublist_flatten_of_mem (List.mem_map_of_mem hp)))
 rw[bodyB_len]at hb
 have:p.length≤(partB p).length:=by unfold partB;rw[List.length_append];omega
 omega
theorem rText_body (num:Nat) (ps:List (List Nat)) (j:Nat) (p:List Nat) (h:ps[j]?=some p) (hb:(bodyB num ps).length≤4194291) :
  C.rText 4194291 (bodyB num ps) (12+(partsB (ps.take j)).length) 0=(⟨0,C.vs p.length,p.length,C.vs p.length+p.length,0⟩,12+(partsB (ps.take (j+1))).length,0):=by
 have hp:=part_fits num ps hb p (List.mem_of_getElem? h)
 have hr:=C.rn_of 4 4194291 (bodyB num ps) (12+(partsB (ps.take j)).length) _ (C.by_most 4194291 _ p (partsB (ps.drop (j+1))) (by omega) hp (by rw[body_drop num ps j p h];rfl)) rfl
 show C.rNext 4 4194291 _ _ _=_
 rw[hr,part_in ps j p h,partB_len2 p (by omega)]
 simp only[Nat.add_assoc]
theorem rA_body (num:Nat) (ps:List (List Nat)) (hb:(bodyB num ps).length≤4194291):∀j,j≤ps.length→rA (bodyB num ps) 12 0 j=(12+(partsB (ps.take j)).length,0)
 | 0,_=>by simp[rA,partsB]
 | j+1,hj=>by
  obtain⟨p,hp⟩:∃p,ps[j]?=some p:=⟨_,List.getElem?_eq_getElem (by omega)⟩
  rw[rA,rA_body num ps hb j (by omega),rText_body num ps j p hp hb]
theorem rP_body (num:Nat) (ps:List (List Nat)) (hb:(bodyB num ps).length≤4194291) (j:Nat) (p:List Nat) (hp:ps[j]?=some p):rP (bodyB num ps) 12 0 j=p:=by
 have hj:j<ps.length:=(List.getElem?_eq_some_iff.1 hp).1
 unfold rP
 rw[rA_body num ps hb j (by omega),rText_body num ps j p hp hb]
 show (((bodyB num ps).drop _).drop (C.vs p.length)).take p.length=p
 rw[body_drop num ps j p hp]
 have hv:=C.vs_bounds p.length (by have:=part_fits num ps hb p (List.mem_of_getElem? hp);omega)
 unfold partB
 rw[List.append_assoc,drop_app _ _ _ (by rw[C.varOf_length];omega)]
 simp
theorem readB_body (num:Nat) (ps:List (List Nat)) (h1:1≤num) (hok:recOk num ps=true):readB (bodyB num ps)=some (num,ps):=by
 unfold recOk at hok
 simp only[Bool.and_eq_true,decide_eq_true_eq]at hok
 obtain⟨⟨h2,h3⟩,hb⟩:=hok
 have e1:=bNum_body num ps (by omega)
 have e2:=bCnt_body num ps (by omega) (by omega)
 have e3:bEnd (bodyB num ps)=((bodyB num ps).length,0):=by
  unfold bEnd
  rw[e2,rA_body num ps hb _ (Nat.le_refl _),List.take_of_length_le (Nat.le_refl _),bodyB_len]
 have e4:bParts (bodyB num ps) ps.length=ps:=by
  apply List.ext_getElem?
  intro i
  unfold bParts
  rw[e2]
  by_cases hi:i<ps.length
  ·rw[List.getElem?_map,List.getElem?_range hi,List.getElem?_eq_getElem hi]
   simp only[Option.map_some]
   rw[rP_body num ps hb i ps[i] (List.getElem?_eq_getElem hi)]
  ·rw[List.getElem?_eq_none (by simp;omega),List.getElem?_eq_none (by omega)]
 unfold readB
 rw[e1,e2,e3,if_neg (by simp only;omega),e4,if_neg (by simp[C.pEnd])]
theorem framed_parts (b:List Nat):bodyOf (framedB b)=b∧tailOf (framedB b)=C.beOf (C.sumOf b) 4:=by
 unfold bodyOf tailOf
 rw[framedB_len]
 unfold framedB
 constructor
 ·rw[List.append_assoc,drop_app _ _ 9 (by rw[headB_len]),Nat.add_sub_cancel]
  simp
 ·exact drop_app _ _ _ (by rw[List.length_append,headB_len];omega)
theorem readR_rec (num:Nat) (ps:List (List Nat)) (h1:1≤num) (hok:recOk num ps=true) (hs:C.sumOf (bodyB num ps)<4294967296):readR (recB num ps)=some (num,ps):=by
 unfold readR recB
 rw[(framed_parts _).1,(framed_parts _).2,C.be_beOf,Nat.mod_eq_of_lt (by exact hs),if_neg (by simp)]
 exact readB_body num ps h1 hok
theorem bodyB_small (num:Nat) {ps:List (List Nat)} (h:∀p∈ps,∀x∈p,x<256) (hl:∀p∈ps,p.length<18446744073709551616):∀x∈bodyB num ps,x<256:=fun x hx=>by
 rcases List.mem_append.1 hx with h1 | h1
 ·rcases List.mem_append.1 h1 with h2 | h2
  ·exact be_small _ _ x h2
  ·exact be_small _ _ x h2
 ·unfold partsB at h1
  obtain⟨l,hl1,hl2⟩:=List.mem_flatten.1 h1
  obtain⟨p,hp1,hp2⟩:=List.mem_map.1 hl1
  subst hp2
  exact partB_small (h p hp1) (hl p hp1) x hl2
structure Trn (num:Nat) (ps:List (List Nat)):Prop where
 pos:1≤num
 ok:recOk num ps=true
 small:∀p∈ps,∀x∈p,x<256
theorem Trn.body {num:Nat} {ps:List (List Nat)} (h:Trn num ps):12≤(bodyB num ps).length∧(bodyB num ps).length≤4194291:=by
 have:=h.ok
 unfold recOk at this
 simp only[Bool.and_eq_true,decide_eq_true_eq]at this
 refine⟨?_,this.2⟩
 rw[bodyB_len];omega
theorem Trn.bytes {num:Nat} {ps:List (List Nat)} (h:Trn num ps):∀x∈bodyB num ps,x<256 :=
 bodyB_small num h.small (fun p hp=>by have:=part_fits num ps h.body.2 p hp;omega)
theorem Trn.read {num:Nat} {ps:List (List Nat)} (h:Trn num ps):readR (recB num ps)=some (num,ps):=readR_rec num ps h.pos h.ok (sum_lt _ h.bytes)
theorem recB_len (num:Nat) (ps:List (List Nat)):(recB num ps).length=(bodyB num ps).length+13:=by unfold recB;rw[framedB_len]
theorem rec_hdN (num:Nat) (ps:List (List Nat)) (h:(bodyB num ps).length≤4194291) (xs:List Nat):hdN (recB num ps++xs)=(bodyB num ps).length:=by
 unfold hdN recB framedB headB hd5
 simp only[List.append_assoc]
 rw[drop_app _ _ 1 (be_len _ _),List.take_append_of_le_length (by rw[be_len];omega),List.take_of_length_le (by rw[be_len];omega),C.be_beOf,Nat.mod_eq_of_lt (by rw[show (256:Nat) ^ 4=4294967296 from rfl];omega)]
theorem rec_hdOk {num:Nat} {ps:List (List Nat)} (h:Trn num ps) (xs:List Nat):hdOk (recB num ps++xs)=true:=by
 have hb:=h.body
 unfold hdOk
 rw[rec_hdN num ps hb.2 xs]
 have e:(recB num ps++xs).take 9=headB (bodyB num ps).length:=by
  unfold recB framedB
  simp only[List.append_assoc]
  rw[List.take_append_of_le_length (by rw[headB_len];omega),List.take_of_length_le (by rw[headB_len];omega)]
 rw[e]
 simp[hb.1,hb.2]
theorem goB_step (f:Nat) (xs:List Nat) (R:List (List Nat)) (last num:Nat) (ps:List (List Nat)) (h:Trn num ps) (hR:R.length=0∨num=last+1):goB (f+1) (recB num ps++xs) R last=goB f xs (R++[recB num ps]) num:=by
 have hb:=h.body
 have hl:=recB_len num ps
 have hL:(recB num ps++xs).length=(bodyB num ps).length+13+xs.length:=by rw[List.length_append,hl]
 have ht:(recB num ps++xs).take ((bodyB num ps).length+13)=recB num ps:=by
  rw[List.take_append_of_le_length (by omega),List.take_of_length_le (by omega)]
 have hd:(recB num ps++xs).drop ((bodyB num ps).length+13)=xs:=drop_app _ _ _ hl
 rw[goB]
 simp only[rec_hdN num ps hb.2 xs]
 rw[if_neg (by omega),if_neg (by omega),if_neg (by rw[rec_hdOk h xs];simp),if_neg (by omega),ht,hd,h.read]
 simp only
 rw[if_neg (by omega)]
def recsOf:Nat→List (List (List Nat))→List (List Nat)
 | _,[]=>[]
 | n,t :: l=>recB n t :: recsOf (n+1) l
def Trns:Nat→List (List (List Nat))→Prop
 | _,[]=>True
 | n,t :: l=>Trn n t∧Trns (n+1) l
theorem goB_recs:∀(l:List (List (List Nat))) (n f:Nat) (xs:List Nat) (R:List (List Nat)) (last:Nat),Trns n l→(R.length=0∨n=last+1) →
  goB (f+l.length) ((recsOf n l).flatten++xs) R last=goB f xs (R++recsOf n l) (if l=[] then last else n+l.length - 1)
 | [],n,f,xs,R,last,_,_=>by simp[recsOf]
 | t :: l,n,f,xs,R,last,h,hR=>by
  have e:(recsOf n (t :: l)).flatten++xs=recB n t++((recsOf (n+1) l).flatten++xs):=by simp[recsOf]
  rw[e,List.length_cons,←Nat.add_assoc,goB_step _ _ R last n t h.1 hR,goB_recs l (n+1) f xs _ n h.2 (Or.inr rfl)]
  have e2:R++[recB n t]++recsOf (n+1) l=R++recsOf n (t :: l):=by simp[recsOf]
  rw[e2]
  congr 1
  by_cases hl:l=[]
  ·subst hl;simp
  ·rw[if_neg hl,if_neg (by simp)];omega
theorem allOf_recs:∀(l:List (List (List Nat))) (n:Nat),Trns n l→allOf (recsOf n l)=l
 | [],_,_=>rfl
 | t :: l,n,h=>by
  show partsOf (recB n t) :: allOf (recsOf (n+1) l)=_
  rw[allOf_recs l (n+1) h.2]
  unfold partsOf
  rw[h.1.read]
def St.v (S:St) (x:Nm):Option (List Nat):=(lookN S.seen x).map fun i=>(S.file i).all
def St.u (S:St) (x:Nm):List Int:=match lookN S.seen x with
 | none=>[]
 | some i=>(S.file i).units
structure On (S:St):Prop where
 off:S.off=false
 pw:S.pOff=0
theorem On.power {S:St} (h:On S):S.power=0:=by
 unfold St.power
 rw[h.pw,if_neg (by omega)]
theorem On.stroked {S:St} (h:On S):On S.stroked:=by
 refine⟨?_,h.pw⟩
 show (S.off || decide (((S.planned+1:Nat):Int)=S.pOff))=false
 rw[h.off,h.pw]
 simp
 omega
structure One (S S':St):Prop where
 on:On S'
 room:S'.room=S.room
 pf:S'.pFrom=S.pFrom
 pt:S'.pTo=S.pTo
 st:S'.strokes=S.strokes+1
 pl:S'.planned=S.planned+1
theorem look_inj {S:St} (h:Inv S) {x y:Nm} {i:Nat} (hx:lookN S.seen x=some i) (hy:lookN S.seen y=some i):x=y:=by
 have mx:=(look_mem h.srt).1 hx
 have my:=(look_mem h.srt).1 hy
 have hp:S.seen.Pairwise fun p q=>p.2≠q.2:=List.pairwise_map.1 h.nod
 obtain⟨a,ha,ea⟩:=List.mem_iff_getElem.1 mx
 obtain⟨b,hb,eb⟩:=List.mem_iff_getElem.1 my
 rcases Nat.lt_trichotomy a b with hl | hl | hl
 ·have:=List.pairwise_iff_getElem.1 hp a b ha hb hl
  rw[ea,eb]at this
  exact absurd rfl this
 ·subst hl
  rw[ea]at eb
  cases eb;rfl
 ·have:=List.pairwise_iff_getElem.1 hp b a hb ha hl
  rw[ea,eb]at this
  exact absurd rfl this
theorem turn_v {S:St} (h:Inv S) {x:Nm} {i:Nat} (hx:lookN S.seen x=some i) (f:Fil) (y:Nm):(S.turn i f).v y=if y=x then some f.all else S.v y:=by
 unfold St.v
 show (lookN S.seen y).map (fun j=>((S.turn i f).file j).all)=_
 by_cases hy:y=x
 ·subst hy
  rw[if_pos rfl,hx]
  simp[St.turn_file (S.seen_file h hx)]
 ·rw[if_neg hy]
  cases hl:lookN S.seen y with
  | none=>rfl
  | some j =>
   have hne:j≠i:=fun e=>hy (look_inj h (e ▸ hl) hx)
   simp[St.turn_file (S.seen_file h hx),hne]
theorem turn_u {S:St} (h:Inv S) {x:Nm} {i:Nat} (hx:lookN S.seen x=some i) (f:Fil) (y:Nm):(S.turn i f).u y=if y=x then f.units else S.u y:=by
 unfold St.u
 show (match lookN S.seen y with | none=>[] | some j=>((S.turn i f).file j).units)=_
 by_cases hy:y=x
 ·subst hy
  rw[if_pos rfl,hx]
  simp[St.turn_file (S.seen_file h hx)]
 ·rw[if_neg hy]
  cases hl:lookN S.seen y with
  | none=>rfl
  | some j =>
   have hne:j≠i:=fun e=>hy (look_inj h (e ▸ hl) hx)
   simp[St.turn_file (S.seen_file h hx),hne]
theorem v_some {S:St} {x:Nm} {b:List Nat} (h:S.v x=some b):∃i,lookN S.seen x=some i∧(S.file i).all=b:=by
 unfold St.v at h
 cases hl:lookN S.seen x with
 | none=>rw[hl]at h;cases h
 | some i=>rw[hl]at h;exact⟨i,rfl,by simpa using h⟩
theorem err_view {S:St} (ho:S.off=false) {x:Nm} (hx:isNm x=true):S.err x=if S.v x=none then 42 else 0:=by
 unfold St.err
 rw[ho,hx]
 simp only[Bool.false_eq_true,if_false,if_true]
 cases hl:lookN S.seen x with
 | none=>simp[St.v,hl]
 | some i=>simp[St.v,hl]
theorem bytes_view {S:St} (ho:S.off=false) {x:Nm} (hx:isNm x=true):S.bytes x=(S.v x).getD []:=by
 unfold St.bytes
 rw[err_view ho hx]
 cases hl:S.v x with
 | none=>simp
 | some b =>
  obtain⟨i,h1,h2⟩:=v_some hl
  simp[h1,h2]
theorem sync_view {S:St} (hv:Inv S) (ho:On S) {x:Nm} (hx:isNm x=true) {b:List Nat} (hb:S.v x=some b):∃S',S.syncR x=(0,S')∧One S S'∧(∀y,S'.v y=S.v y)∧(∀y,S'.u y=if y=x then [] else S.u y)∧S'.chg=S.chg∧S'.seen=S.seen∧S'.used=S.used:=by
 obtain⟨i,hl,hf⟩:=v_some hb
 have he:S.err x=0:=by rw[err_view ho.off hx,if_neg (by rw[hb];simp)]
 have hp:=ho.power
 have hs:=ho.stroked
 have hvs:=hv.stroked
 refine⟨S.stroked.turn i (S.file i).settled,?_,⟨⟨hs.off,hs.pw⟩,rfl,rfl,rfl,rfl,rfl⟩,fun y=>?_,fun y=>?_,rfl,rfl,?_⟩
 ·unfold St.syncR
  rw[if_neg (by omega),hl,hp]
  rfl
 ·rw[turn_v hvs (x:=x) hl]
  by_cases hy:y=x
  ·subst hy
   rw[if_pos rfl,Fil.all_settled,hb,hf]
  ·rw[if_neg hy];rfl
 ·rw[turn_u hvs (x:=x) hl]
  rfl
 ·have:=used_turn hvs (x:=x) (i:=i) (f:=(S.file i).settled) hl
  rw[Fil.all_settled,used_stroked]at this
  have e:S.stroked.file i=S.file i:=rfl
  rw[e]at this
  omega
theorem names_view {S:St} (ho:On S):∃S',S.namesR=(0,S')∧One S S'∧(∀y,S'.v y=S.v y)∧(∀y,S'.u y=S.u y)∧S'.chg=[]∧S'.seen=S.seen∧S'.used=S.used:=by
 have hs:=ho.stroked
 refine⟨S.stroked.settledN,?_,⟨⟨hs.off,hs.pw⟩,rfl,rfl,rfl,rfl,rfl⟩,fun y=>rfl,fun y=>rfl,rfl,rfl,rfl⟩
 unfold St.namesR
 rw[ho.off,ho.power]
 rfl
theorem look_ins {x:Nm × Nat} : ∀{l:List (Nm × Nat)} (k:Nm),(∀p∈l,p.1≠x.1)→lookN (insN x l) k=if k=x.1 then some x.2 else lookN l k
 | [],k,_=>by
  by_cases h:k=x.1
  ·subst h;simp[insN,lookN]
  ·have:(x.1 == k)=false:=by simpa using fun e=>h e.symm
   simp[insN,lookN,this,h]
 | y :: r,k,hx=>by
  have hy:y.1≠x.1:=hx y (by simp)
  have ih:=look_ins (x:=x) (l:=r) k (fun p hp=>hx p (by simp[hp]))
  unfold insN
  split
  ·by_cases h:k=x.1
   ·subst h;simp[lookN]
   ·have:(x.1 == k)=false:=by simpa using fun e=>h e.symm
    simp[lookN,List.find?_cons,this,h]
  ·by_cases hk:y.1=k
   ·subst hk
    rw[if_neg hy]
    simp[lookN]
   ·have h2:(y.1 == k)=false:=by simpa using hk
    unfold lookN at ih ⊢
    rw[List.find?_cons,List.find?_cons,h2]
    exact ih
theorem look_del (l:List (Nm × Nat)) (x k:Nm):lookN (delN x l) k=if k=x then none else lookN l k:=by
 induction l with
 | nil=>simp[delN,lookN]
 | cons y r ih =>
  unfold delN at ih ⊢
  by_cases hy:y.1=x
  ·rw[List.filter_cons_of_neg (by simp[hy])]
   rw[ih]
   by_cases hk:k=x
   ·rw[if_pos hk,if_pos hk]
   ·rw[if_neg hk,if_neg hk]
    have h2:(y.1 == k)=false:=by rw[hy];simpa using fun e=>hk e.symm
    unfold lookN
    rw[List.find?_cons,h2]
  ·rw[List.filter_cons_of_pos (by simpa using hy)]
   by_cases hk:y.1=k
   ·subst hk
    rw[if_neg hy]
    simp[lookN]
   ·have h2:(y.1 == k)=false:=by simpa using hk
    unfold lookN at ih ⊢
    rw[List.find?_cons,List.find?_cons,h2]
    exact ih
theorem look_put (l:List (Nm × Nat)) (x:Nm) (i:Nat) (k:Nm):lookN (putN x i l) k=if k=x then some i else lookN l k:=by
 unfold putN
 rw[look_ins k (fun p hp=>(mem_del.1 hp).2),look_del]
 by_cases hk:k=x
 ·rw[if_pos hk,if_pos hk]
 ·rw[if_neg hk,if_neg hk,if_neg hk]
theorem nm_ne5 {x:Nm} (h:isNm x=true):x≠[]:=fun e=>by
 have:=(nm_len h).1
 rw[e]at this
 simp at this
theorem look_with (l:List (Nm × Nat)) (c:Chg) (hc:c.to≠[]) (k:Nm):lookN (withN l c) k=if k=c.to then some c.file else if k=c.frm then none else lookN l k:=by
 unfold withN
 rw[if_neg hc,look_put,look_del]
theorem made_file5 (S:St) (f:Fil) (j:Nat):(S.made f).file j=if j=S.files.length then f else S.file j:=by
 unfold St.file St.made
 simp only
 by_cases h:j<S.files.length
 ·rw[if_neg (by omega),List.getElem?_append_left h]
 ·by_cases h2:j=S.files.length
  ·subst h2
   simp
  ·rw[if_neg h2,List.getElem?_eq_none (by simp;omega),List.getElem?_eq_none (by omega)]
theorem app_view {S:St} (hv:Inv S) (ho:On S) {x:Nm} (hx:isNm x=true) (r:List Nat) (hr:S.v x≠none∨S.seen.length<64) :
  (S.stroked.full r.length=true∧S.appendR x r=(44,S.stroked)) ∨
  (S.stroked.full r.length=false∧∃S',S.appendR x r=(0,S')∧One S S'∧(∀y,S'.v y=if y=x then some ((S.v x).getD []++r) else S.v y)∧(∀y,y≠x→S'.u y=S.u y)∧(S.v x≠none→S'.chg=S.chg∧S'.seen.length=S.seen.length)):=by
 have hs:=ho.stroked
 have hvs:=hv.stroked
 have hp:=ho.power
 have h1:¬(isNm x=false∨(lookN S.seen x=none∧64≤S.seen.length)):=by
  rintro (h | ⟨h,h2⟩)
  ·rw[hx]at h;cases h
  ·rcases hr with hr | hr
   ·exact hr (by simp[St.v,h])
   ·omega
 cases hf:S.stroked.full r.length with
 | true =>
  refine Or.inl ⟨rfl,?_⟩
  unfold St.appendR
  rw[ho.off,if_neg (by simp),if_neg h1,hf,if_pos rfl,hp,if_pos rfl]
 | false =>
  refine Or.inr ⟨rfl,?_⟩
  cases hl:lookN S.seen x with
  | some i =>
   have hvx:S.v x=some (S.file i).all:=by simp[St.v,hl]
   refine⟨S.stroked.turn i ((S.file i).add r),?_,⟨⟨hs.off,hs.pw⟩,rfl,rfl,rfl,rfl,rfl⟩,fun y=>?_,fun y hy=>?_,fun _=>⟨rfl,rfl⟩⟩
   ·unfold St.appendR
    rw[ho.off,if_neg (by simp),if_neg h1,hf,if_neg (by simp),hl,hp]
   ·rw[turn_v hvs (x:=x) hl,hvx,Fil.all_add]
    rfl
   ·rw[turn_u hvs (x:=x) hl,if_neg hy]
    rfl
  | none =>
   have hvx:S.v x=none:=by simp[St.v,hl]
   have hlt:S.seen.length<64:=by
    rcases hr with hr | hr
    ·exact absurd hvx hr
    ·exact hr
   have hI:Inv ((S.stroked.made ⟨[],[]⟩).ren ⟨[],x,S.files.length⟩):=hv.stroked.make (S:=S.stroked) hl hx hlt
   have hlook:∀k,lookN ((S.stroked.made ⟨[],[]⟩).ren ⟨[],x,S.files.length⟩).seen k=if k=x then some S.files.length else if k=[] then none else lookN S.seen k:=fun k=>look_with S.seen ⟨[],x,S.files.length⟩ (nm_ne5 hx) k
   have hnil:lookN S.seen []=none:=look_none.2 (fun p hp e=>by
    have:=(hv.ins p hp).2
    rw[e]at this
    simp[isNm]at this)
   have hfile:∀k j,k≠x→lookN S.seen k=some j→((S.stroked.made ⟨[],[]⟩).ren ⟨[],x,S.files.length⟩).file j=S.file j:=fun k j _ hj=>by
    show (S.stroked.made ⟨[],[]⟩).file j=_
    rw[made_file5]
    have:=S.seen_file hv hj
    rw[if_neg (by show j≠S.files.length;omega)]
    rfl
   refine⟨((S.stroked.made ⟨[],[]⟩).ren ⟨[],x,S.files.length⟩).turn S.files.length ((⟨[],[]⟩:Fil).add r),?_,⟨⟨hs.off,hs.pw⟩,rfl,rfl,rfl,rfl,rfl⟩,fun y=>?_,fun y hy=>?_,fun h=>absurd hvx h⟩
   ·unfold St.appendR
    rw[ho.off,if_neg (by simp),if_neg h1,hf,if_neg (by simp),hl,hp]
   ·rw[turn_v hI (x:=x) (by rw[hlook,if_pos rfl]),Fil.all_add,hvx]
    by_cases hy:y=x
    ·rw[if_pos hy,if_pos hy];rfl
    ·rw[if_neg hy,if_neg hy]
     unfold St.v
     rw[hlook,if_neg hy]
     by_cases hn:y=[]
     ·rw[if_pos hn,hn,hnil];rfl
     ·rw[if_neg hn]
      cases hj:lookN S.seen y with
      | none=>rfl
      | some j=>simp only[Option.map_some];rw[hfile y j hy hj]
   ·rw[turn_u hI (x:=x) (by rw[hlook,if_pos rfl]),if_neg hy]
    unfold St.u
    rw[hlook,if_neg hy]
    by_cases hn:y=[]
    ·rw[if_pos hn,hn,hnil]
    ·rw[if_neg hn]
     cases hj:lookN S.seen y with
     | none=>rfl
     | some j=>simp only;rw[hfile y j hy hj]
theorem made_used {S:St} (h:Inv S) {x:Nm} (hl:lookN S.seen x=none) (hx:isNm x=true):((S.made ⟨[],[]⟩).ren ⟨[],x,S.files.length⟩).used=S.used:=by
 have hx0:x≠[]:=nm_ne5 hx
 have hne:∀p∈S.seen,p.1≠[]:=fun p hp e=>by have:=(nm_len (h.ins p hp).2).1;rw[e]at this;simp at this
 have e:withN S.seen ⟨[],x,S.files.length⟩=insN (x,S.files.length) S.seen:=by
  unfold withN putN
  rw[if_neg hx0,del_none hne,del_none (look_none.1 hl)]
 unfold St.used
 show ((withN S.seen ⟨[],x,S.files.length⟩).map fun p=>((S.made ⟨[],[]⟩).file p.2).all.length).sum=_
 rw[e,((ins_perm (x,S.files.length) S.seen).map fun p=>((S.made ⟨[],[]⟩).file p.2).all.length).sum_nat,List.map_cons,List.sum_cons,made_file5,if_pos rfl]
 have:S.seen.map (fun p=>((S.made ⟨[],[]⟩).file p.2).all.length)=S.seen.map fun p=>(S.file p.2).all.length:=List.map_congr_left fun p hp=>by
  rw[made_file5,if_neg (by have:=(h.ins p hp).1;omega)]
 rw[this]
 simp[Fil.all,carryL]
theorem app_used {S S':St} (hv:Inv S) (ho:On S) {x:Nm} (hx:isNm x=true) (r:List Nat) (hr:S.v x≠none∨S.seen.length<64) (h:S.appendR x r=(0,S')):S'.used=S.used+r.length:=by
 have hvs:=hv.stroked
 have hp:=ho.power
 have h1:¬(isNm x=false∨(lookN S.seen x=none∧64≤S.seen.length)):=by
  rintro (h | ⟨h,h2⟩)
  ·rw[hx]at h;cases h
  ·rcases hr with hr | hr
   ·exact hr (by simp[St.v,h])
   ·omega
 unfold St.appendR at h
 rw[ho.off,if_neg (by simp),if_neg h1,hp]at h
 cases hf:S.stroked.full r.length with
 | true=>rw[hf,if_pos rfl,if_pos rfl]at h;cases h
 | false =>
  rw[hf,if_neg (by simp)]at h
  cases hl:lookN S.seen x with
  | some i =>
   rw[hl]at h
   cases h
   have:=used_turn hvs (x:=x) (i:=i) (f:=(S.file i).add r) hl
   rw[Fil.all_add,List.length_append,used_stroked]at this
   have e:S.stroked.file i=S.file i:=rfl
   rw[e]at this
   omega
  | none =>
   rw[hl]at h
   cases h
   have hlt:S.seen.length<64:=by
    rcases hr with hr | hr
    ·exact absurd (show S.v x=none by simp[St.v,hl]) hr
    ·exact hr
   have hI:Inv ((S.stroked.made ⟨[],[]⟩).ren ⟨[],x,S.files.length⟩):=hv.stroked.make (S:=S.stroked) hl hx hlt
   have hlook:lookN ((S.stroked.made ⟨[],[]⟩).ren ⟨[],x,S.files.length⟩).seen x=some S.files.length:=by
    refine(look_with S.seen ⟨[],x,S.files.length⟩ (nm_ne5 hx) x).trans ?_
    rw[if_pos rfl]
   have:=used_turn hI (x:=x) (i:=S.files.length) (f:=(⟨[],[]⟩:Fil).add r) hlook
   rw[Fil.all_add,List.length_append]at this
   have e2:((S.stroked.made ⟨[],[]⟩).ren ⟨[],x,S.files.length⟩).used=S.used:=made_used hvs (x:=x) hl hx
   have e3:((S.stroked.made ⟨[],[]⟩).ren ⟨[],x,S.files.length⟩).file S.files.length=⟨[],[]⟩:=by
    show (S.stroked.made ⟨[],[]⟩).file S.files.length=_
    rw[made_file5];exact if_pos rfl
   rw[e2,e3]at this
   simp[Fil.all,carryL]at this
   simpa[Fil.all,carryL] using this
theorem runs_app {S S1:St} {J:Jr} {x:Nm} {r:List Nat} {e:Nat} (l:List Stk) (h:S.appendR x r=(e,S1)):runs S J (.app x r :: l)=if e=0 then runs S1 J l else (e,S1,J):=by simp[runs,Stk.run,h]
theorem runs_sync {S S1:St} {J:Jr} {x:Nm} {e:Nat} (l:List Stk) (h:S.syncR x=(e,S1)):runs S J (.sync x :: l)=if e=0 then runs S1 J l else (e,S1,J):=by simp[runs,Stk.run,h]
theorem runs_names {S S1:St} {J:Jr} {e:Nat} (l:List Stk) (h:S.namesR=(e,S1)):runs S J (.names :: l)=if e=0 then runs S1 J l else (e,S1,J):=by simp[runs,Stk.run,h]
structure Stl (S:St) (k:Nat):Prop where
 inv:Inv S
 sz:Sz S k
 on:On S
 chg:S.chg=[]
 un:∀x,S.u x=[]
structure Jd (S:St) (J:Jr):Prop where
 nm1:isNm J.name=true
 nm2:isNm J.second=true
 off:J.off=false
 byt:(S.v J.name).getD []=J.recs.flatten
 sec:S.v J.second=none
 nmd:J.named=true→S.v J.name≠none
structure Pls (S S':St) (n:Nat):Prop where
 room:S'.room=S.room
 pf:S'.pFrom=S.pFrom
 pt:S'.pTo=S.pTo
 st:S'.strokes=S.strokes+n
 pl:S'.planned=S.planned+n
theorem One.pls {S S':St} (h:One S S'):Pls S S' 1:=⟨h.room,h.pf,h.pt,h.st,h.pl⟩
theorem Pls.trans {S S1 S2:St} {n m:Nat} (h:Pls S S1 n) (k:Pls S1 S2 m):Pls S S2 (n+m):=⟨k.room.trans h.room,k.pf.trans h.pf,k.pt.trans h.pt,by rw[k.st,h.st];omega,by rw[k.pl,h.pl];omega⟩
theorem second_ne {J:Jr} : J.name≠J.second:=fun e=>by
 have:=congrArg List.length e
 unfold Jr.second at this
 rw[List.length_append]at this
 simp[newE]at this
theorem off_self {J:Jr} (h:J.off=false):{ J with off:=false } = J:=by cases J;simp only at h;subst h;rfl
theorem add_heal {S:St} {k:Nat} {J:Jr} (hS:Stl S k) (hJ:Jd S J) (ht:J.torn=false) (ps:List (List Nat)) (hok:recOk (J.last+1) ps=true) (hsm:∀y∈recB (J.last+1) ps,y<256) (hr:S.v J.name≠none∨S.seen.length<64) :
  (S.stroked.full (recB (J.last+1) ps).length=true∧addR S J ps=(44,S.stroked,J)∧Stl S.stroked (k+1)) ∨
  (S.stroked.full (recB (J.last+1) ps).length=false∧∃S',addR S J ps=(0,S',J.took (recB (J.last+1) ps))∧Stl S' (k+12582915)∧(∀y,S'.v y=if y=J.name then some ((S.v J.name).getD []++recB (J.last+1) ps) else S.v y)∧Pls S S' (if J.named then 2 else 3)∧S'.used=S.used+(recB (J.last+1) ps).length):=by
 have hrl:=recOk_len hok
 generalize hre:recB (J.last+1) ps=r at *
 have hadds:J.adds r=[.app J.name r,.sync J.name]++(if J.named then [] else [.names]):=by unfold Jr.adds;rw[ht];simp
 have hkeep:∀e S1 J1,runs S J (J.adds r)=(e,S1,J1)→addR S J ps=if e=0 then (0,S1,J1.took r) else (e,S1,{ J1 with off:=decide (e=45) }):=fun e S1 J1 h=>by
  unfold addR keepR
  rw[hJ.off,hok,hre,h]
  simp
 rcases app_view hS.inv hS.on hJ.nm1 r hr with ⟨hf,ha⟩ | ⟨hf,S1,ha,one1,hv1,hu1,hc1⟩
 ·refine Or.inl ⟨hf,?_,⟨hS.inv.stroked,hS.sz.stroked.mono (by omega),hS.on.stroked,hS.chg,hS.un⟩⟩
  rw[hkeep 44 S.stroked J (by rw[hadds];exact runs_app _ ha)]
  rw[if_neg (by omega)]
  have:decide ((44:Nat)=45)=false:=by decide
  rw[this,off_self hJ.off]
 ·refine Or.inr ⟨hf,?_⟩
  have g1:=step_good hS.inv hS.sz J (.app J.name r) ⟨hsm,hrl⟩
  have e1:((Stk.app J.name r).run S J).2.1=S1:=by simp[Stk.run,ha]
  rw[e1]at g1
  have hb1:S1.v J.name=some ((S.v J.name).getD []++r):=by rw[hv1,if_pos rfl]
  have w1:=app_used hS.inv hS.on hJ.nm1 r hr ha
  obtain⟨S2,hs2,one2,hv2,hu2,hc2,hse2,w2⟩:=sync_view g1.inv one1.on hJ.nm1 hb1
  have g2:=step_good g1.inv g1.sz J (.sync J.name) True.intro
  have e2:((Stk.sync J.name).run S1 J).2.1=S2:=by simp[Stk.run,hs2]
  rw[e2]at g2
  have hvw:∀y,S2.v y=if y=J.name then some ((S.v J.name).getD []++r) else S.v y:=fun y=>by rw[hv2,hv1]
  have huw:∀y,S2.u y=[]:=fun y=>by
   rw[hu2]
   by_cases hy:y=J.name
   ·rw[if_pos hy]
   ·rw[if_neg hy,hu1 y hy,hS.un]
  cases hN:J.named with
  | true =>
   have hrun:runs S J (J.adds r)=(0,S2,J):=by
    rw[hadds,hN]
    show runs S J [.app J.name r,.sync J.name]=_
    rw[runs_app _ ha,if_pos rfl,runs_sync _ hs2,if_pos rfl]
    rfl
   refine⟨S2,?_,⟨g2.inv,g2.sz.mono (by omega),one2.on,?_,huw⟩,hvw,one1.pls.trans one2.pls,w2.trans w1⟩
   ·rw[hkeep 0 S2 J hrun,if_pos rfl]
   ·rw[hc2,(hc1 (hJ.nmd hN)).1,hS.chg]
  | false =>
   obtain⟨S3,hs3,one3,hv3,hu3,hc3,_,w3⟩:=names_view one2.on
   have g3:=step_good g2.inv g2.sz J .names True.intro
   have e3:(Stk.names.run S2 J).2.1=S3:=by simp[Stk.run,hs3]
   rw[e3]at g3
   have hrun:runs S J (J.adds r)=(0,S3,J):=by
    rw[hadds,hN]
    show runs S J [.app J.name r,.sync J.name,.names]=_
    rw[runs_app _ ha,if_pos rfl,runs_sync _ hs2,if_pos rfl,runs_names _ hs3,if_pos rfl]
    rfl
   refine⟨S3,?_,⟨g3.inv,g3.sz.mono (by omega),one3.on,hc3,fun y=>by rw[hu3,huw]⟩,fun y=>by rw[hv3,hvw],(one1.pls.trans one2.pls).trans one3.pls,w3.trans (w2.trans w1)⟩
   rw[hkeep 0 S3 J hrun,if_pos rfl]
theorem Jd.added {S S':St} {J:Jr} (h:Jd S J) (r:List Nat) (hv:∀y,S'.v y=if y=J.name then some ((S.v J.name).getD []++r) else S.v y):Jd S' (J.took r) :=
 ⟨h.nm1,h.nm2,rfl,by
  show (S'.v J.name).getD []=(J.recs++[r]).flatten
  rw[hv,if_pos rfl,h.byt];simp,by
  show S'.v J.second=none
  rw[hv,if_neg (Ne.symm second_ne),h.sec],fun _=>by
  show S'.v J.name≠none
  rw[hv,if_pos rfl];simp⟩
theorem stl_crash {S:St} {k:Nat} (h:Stl S k) (ps:List Int):S.crash ps=S.image:=by
 have hsafe:S.safe=S.seen:=by have:=h.inv.fold;rw[h.chg]at this;exact this.symm
 have hleft:S.leftN ps=S.seen:=by
  unfold St.leftN
  rw[h.chg,hsafe]
  simp
 unfold St.crash St.image
 rw[hleft,h.on.off]
 simp only[Bool.false_eq_true,if_false]
 rw[List.mapIdx_eq_iff]
 intro i
 rw[List.getElem?_map]
 cases hp:S.seen[i]? with
 | none=>simp
 | some p =>
  have hm:=List.mem_of_getElem? hp
  have hl:=(look_mem h.inv.srt (k:=p.1) (v:=p.2)).2 hm
  have hu:=h.un p.1
  unfold St.u at hu
  rw[hl]at hu
  simp only at hu
  simp only[Option.map_some]
  unfold Fil.left Fil.all
  rw[hu]
  simp
theorem laid_v {S:St} (ho:S.off=false) (r:Nat) (x:Nm):(St.laid r S.image).v x=S.v x:=by
 have h1:=image_find ho x
 have h2:=image_find (S:=St.laid r S.image) rfl x
 rw[laid_image]at h2
 unfold St.v
 rw[←h1,←h2]
theorem before_nil5 {x:Nm} (h:isNm x=true):bytesBefore [] x=true:=by
 cases x with
 | nil=>have:=(nm_len h).1;simp at this
 | cons a l=>rfl
theorem chn5:∀(l:Image) (a:Nm),(∀p∈l,isNm p.1=true∧bytesBefore a p.1=true)→(l.Pairwise fun p q=>bytesBefore p.1 q.1=true)→chn a l=true
 | [],_,_,_=>rfl
 | p :: l,a,h,hp=>by
  have h1:=h p (by simp)
  have h2:=List.pairwise_cons.1 hp
  simp only[chn,Bool.and_eq_true]
  exact⟨⟨h1.1,h1.2⟩,chn5 l p.1 (fun q hq=>⟨(h q (by simp[hq])).1,h2.1 q hq⟩) h2.2⟩
theorem image_ok {S:St} (hv:Inv S) (ho:S.off=false) {r:Nat} (hr:S.used≤r):okB S.image r=true:=by
 have hi:S.image=S.seen.map fun p=>(p.1,(S.file p.2).all):=by unfold St.image;rw[ho];rfl
 unfold okB
 have h1:S.image.length≤64:=by rw[hi,List.length_map];exact hv.most
 have h2:chn [] S.image=true:=by
  rw[hi]
  refine chn5 _ [] (fun p hp=>?_) ?_
  ·obtain⟨q,hq,rfl⟩:=List.mem_map.1 hp
   exact⟨(hv.ins q hq).2,before_nil5 (hv.ins q hq).2⟩
  ·rw[List.pairwise_map]
   exact hv.srt
 have h3:sumI S.image≤r:=by
  have:=image_used ho
  unfold sumI
  omega
 rw[h2,decide_eq_true h1,decide_eq_true h3]
 rfl
theorem laid_stl {S:St} (hv:Inv S) {k:Nat} (hz:Sz S k) (ho:S.off=false) {r:Nat} (hr:S.used≤r) (hr2:r≤16777216):Stl (St.laid r S.image) 0:=by
 have hok:=image_ok hv ho hr
 have hsm:=image_small hv hz
 refine⟨laid_inv hr2 hok,laid_sz hr2 hok (fun p hp=>(hsm p hp).1),⟨rfl,rfl⟩,rfl,fun x=>?_⟩
 unfold St.u
 cases hl:lookN (St.laid r S.image).seen x with
 | none=>rfl
 | some i =>
  have hi:=(St.laid r S.image).seen_file (laid_inv hr2 hok) hl
  have hi2:i<S.image.length:=by simpa[St.laid] using hi
  show ((St.laid r S.image).file i).units=[]
  rw[laid_file r S.image (List.getElem?_eq_getElem hi2)]
def nj:Nm:=[106]
def ps1:List (List Nat):=[[97]]
def ps2:List (List Nat):=[[98],[99,100]]
theorem ok1:recOk 1 ps1=true:=by kernel_rfl
theorem ok2:recOk 2 ps2=true:=by kernel_rfl
theorem len1:(recB 1 ps1).length=27:=by rw[recB_len];kernel_rfl
theorem len2:(recB 2 ps2).length=30:=by rw[recB_len];kernel_rfl
theorem trn1:Trn 1 ps1:=⟨by omega,ok1,fun p hp x hx=>by simp[ps1]at hp;subst hp;simp at hx;omega⟩
theorem trn2:Trn 2 ps2:=⟨by omega,ok2,fun p hp x hx=>by simp[ps2]at hp;rcases hp with rfl | rfl <;> simp at hx <;> omega⟩
theorem Trn.rec_small {num:Nat} {ps:List (List Nat)} (h:Trn num ps):∀y∈recB num ps,y<256:=framedB_small h.bytes
theorem nm_j:isNm nj=true:=by kernel_rfl
theorem nm_j2:isNm (nj++newE)=true:=by kernel_rfl
def jj0:Jr:=jnew nj ([],0,false,0)
theorem new_found (r:Nat) (x:Nm) (hx:isNm x=true):(St.new r).found x=([],0,false,0):=by
 unfold St.found
 rw[bytes_view rfl hx]
 rfl
theorem new_stl {r:Nat} (hr:r≤16777216):Stl (St.new r) 0:=⟨new_inv hr,new_sz r,⟨rfl,rfl⟩,rfl,fun _=>rfl⟩
theorem new_jd (r:Nat):Jd (St.new r) jj0:=⟨nm_j,nm_j2,rfl,rfl,rfl,fun h=>by cases h⟩
def jj1:Jr:=jj0.took (recB 1 ps1)
def jj2:Jr:=jj1.took (recB 2 ps2)
theorem trns2:Trns 1 [ps1,ps2]:=⟨trn1,trn2,True.intro⟩
theorem wake_two:∃S1 S2,addR (St.new 1000) jj0 ps1=(0,S1,jj1)∧Stl S1 12582915∧addR S1 jj1 ps2=(0,S2,jj2)∧Stl S2 25165830∧Jd S2 jj2∧S2.strokes=5∧S2.used≤1000∧S2.v nj=some (recsOf 1 [ps1,ps2]).flatten:=by
 have hS:=new_stl (r:=1000) (by omega)
 have hf:(St.new 1000).stroked.full (recB 1 ps1).length=false:=by rw[len1];kernel_rfl
 have hsm:=trn1.rec_small
 rcases add_heal hS (new_jd 1000) rfl ps1 ok1 hsm (Or.inr (by show 0<64;omega)) with ⟨h,_⟩ | ⟨_,S1,h1,h2,h3,h4,h5⟩
 ·exact absurd (h.symm.trans hf) (by simp)
 ·have hJ1:Jd S1 jj1:=(new_jd 1000).added _ h3
  have hv1:S1.v nj=some (recB 1 ps1):=h3 nj
  have hu1:S1.used=27:=by
   rw[h5]
   show 0+(recB 1 ps1).length=27
   rw[len1]
  have hf2:S1.stroked.full (recB 2 ps2).length=false:=by
   unfold St.full St.fullP
   have e1:S1.stroked.pFrom=0:=h4.pf
   have e2:S1.stroked.room=1000:=h4.room
   have e3:S1.stroked.used=27:=hu1
   rw[e1,e2,e3,len2]
   rfl
  rcases add_heal h2 hJ1 rfl ps2 ok2 trn2.rec_small (Or.inl (by show S1.v nj≠none;rw[hv1];simp)) with ⟨h,_⟩ | ⟨_,S2,k1,k2,k3,k4,k5⟩
  ·exact absurd (h.symm.trans hf2) (by simp)
  ·refine⟨S1,S2,h1,h2,k1,k2,hJ1.added _ k3,?_,?_,?_⟩
   ·have:=k4.st
    have:=h4.st
    show S2.strokes=5
    rw[k4.st,h4.st]
    rfl
   ·rw[k5,hu1]
    show 27+(recB 2 ps2).length≤1000
    rw[len2];omega
   ·have:=k3 nj
    rw[show jj1.name=nj from rfl,if_pos rfl,hv1]at this
    rw[this]
    simp[recsOf]
    rfl
theorem found_recs {S:St} (ho:S.off=false) {x:Nm} (hx:isNm x=true) {l:List (List (List Nat))} (hl:Trns 1 l) (h:(S.v x).getD []=(recsOf 1 l).flatten):S.found x=(recsOf 1 l,l.length,false,0):=by
 unfold St.found
 rw[bytes_view ho hx,h]
 have hlen:l.length≤(recsOf 1 l).flatten.length:=by
  have key:∀(l:List (List (List Nat))) (n:Nat),l.length≤(recsOf n l).flatten.length:=fun l=>by
   induction l with
   | nil=>intro n;simp
   | cons t l ih =>
    intro n
    have:=ih (n+1)
    have:=recB_len n t
    simp only[recsOf,List.flatten_cons,List.length_append,List.length_cons]
    omega
  exact key l 1
 obtain⟨f,hf⟩:∃f,(recsOf 1 l).flatten.length+1=(f+1)+l.length:=⟨(recsOf 1 l).flatten.length - l.length,by omega⟩
 have:=goB_recs l 1 (f+1) [] [] 0 hl (Or.inl rfl)
 rw[List.append_nil]at this
 rw[hf,this]
 rw[goB]
 simp only[List.length_nil,if_true,List.nil_append]
 congr 1
 by_cases h0:l=[]
 ·subst h0;rfl
 ·rw[if_neg h0]
  congr 1
  omega
end Go.Proofs.YtcceejdaokoihaaGreatDoor
