import Derived.Test.YtcceejdaokoihaaGreatDoorJWakeP
import Derived.Test.YtcceejdaokoihaaGreatDoorCWrites
import Derived.Test.YtcceejdaokoihaaGreatDoorJStk2
import Derived.Test.YtcceejdaokoihaaGreatDoorCEye5
import Derived.Test.YtcceejdaokoihaaGreatDoorDocC
import Derived.Test.YtcceejdaokoihaaGreatDoorJChk
set_option maxRecDepth 100000
namespace Go.Proofs.YtcceejdaokoihaaGreatDoor
open Go.RowKit
def gA (m:Int) (xs:List Nat) (a0 f0:Nat):Nat→Nat × Nat
 | 0=>(a0,f0)
 | j+1=>(C.rText m xs (gA m xs a0 f0 j).1 (gA m xs a0 f0 j).2).2
def gP (m:Int) (xs:List Nat) (a0 f0 j:Nat):List Nat:=C.got xs (gA m xs a0 f0 j).1 (C.rText m xs (gA m xs a0 f0 j).1 (gA m xs a0 f0 j).2)
theorem rA_gA (xs:List Nat) (a0 f0:Nat):∀j,rA xs a0 f0 j=gA 4194291 xs a0 f0 j
 | 0=>rfl
 | j+1=>by rw[rA,gA,rA_gA xs a0 f0 j]
theorem rP_gP (xs:List Nat) (a0 f0 j:Nat):rP xs a0 f0 j=gP 4194291 xs a0 f0 j:=by unfold rP gP;rw[rA_gA]
theorem gA_stays (m:Int) (xs:List Nat) (a0 f0 j:Nat) (h:(gA m xs a0 f0 (j+1)).2=0):(gA m xs a0 f0 j).2=0:=by
 rcases Nat.eq_zero_or_pos (gA m xs a0 f0 j).2 with h0 | h0
 ·exact h0
 ·rw[gA,C.rt_done _ _ _ _ (by omega)]at h
  simp only at h
  omega
theorem gA_bad (m:Int) (xs:List Nat) (a0 f0:Nat) (hf:f0≠0):∀j,(gA m xs a0 f0 j).2≠0
 | 0=>hf
 | j+1=>fun h=>gA_bad m xs a0 f0 hf j (gA_stays m xs a0 f0 j h)
theorem take_cut (l:List Nat) (a b c:Nat) (h1:a≤b) (h2:b≤c):(l.drop a).take (b - a)++(l.drop b).take (c - b)=(l.drop a).take (c - a):=by
 have e:c - a=(b - a)+(c - b):=by omega
 rw[e,List.take_add,List.drop_drop,show a+(b - a)=b by omega]
theorem gA_anew (m:Int) (hm:m≤9223372036854775807) (xs:List Nat) (hs:∀x∈xs,x<256) (hl:xs.length≤140737488355328) (a0:Nat) (ha:a0≤xs.length) :
  ∀j,(gA m xs a0 0 j).2=0→a0≤(gA m xs a0 0 j).1∧(gA m xs a0 0 j).1≤xs.length∧partsB ((List.range j).map (gP m xs a0 0))=(xs.drop a0).take ((gA m xs a0 0 j).1 - a0)
 | 0,_=>by simp[gA,partsB,ha]
 | j+1,h=>by
  have h0:=gA_stays m xs a0 0 j h
  obtain⟨i1,i2,i3⟩:=gA_anew m hm xs hs hl a0 ha j h0
  have han:=C.anew_text m xs (gA m xs a0 0 j).1 hs i2 hm hl
  have eA:gA m xs a0 0 (j+1)=(C.rText m xs (gA m xs a0 0 j).1 0).2:=by rw[gA,h0]
  have eP:gP m xs a0 0 j=C.got xs (gA m xs a0 0 j).1 (C.rText m xs (gA m xs a0 0 j).1 0):=by unfold gP;rw[h0]
  rw[eA]at h
  obtain⟨k1,k2,k3⟩:=han.1 h
  rw[eA]
  refine⟨by omega,k2,?_⟩
  rw[List.range_succ,List.map_append,partsB_app,i3,List.map_singleton,eP]
  have e2:partsB [C.got xs (gA m xs a0 0 j).1 (C.rText m xs (gA m xs a0 0 j).1 0)]=C.varOf (C.got xs (gA m xs a0 0 j).1 (C.rText m xs (gA m xs a0 0 j).1 0)).length (C.vs (C.got xs (gA m xs a0 0 j).1 (C.rText m xs (gA m xs a0 0 j).1 0)).length - 1)++C.got xs (gA m xs a0 0 j).1 (C.rText m xs (gA m xs a0 0 j).1 0):=by simp[partsB,partB]
  rw[e2,k3,take_cut _ _ _ _ i1 k1]
theorem readB_one {xs:List Nat} {num:Nat} {ps:List (List Nat)} (hs:∀x∈xs,x<256) (hl:xs.length≤140737488355328) (h:readB xs=some (num,ps)) :
  bodyB num ps=xs∧1≤num∧num≤1099511627776∧ps.length≤4096:=by
 unfold readB at h
 split at h
 ·cases h
 rename_i hn
 split at h
 ·cases h
 rename_i he
 simp only[Option.some.injEq,Prod.mk.injEq]at h
 obtain⟨rfl,rfl⟩:=h
 have hn':¬(bNum xs).1.num<1∧¬1099511627776<(bNum xs).1.num∧¬4096<(bCnt xs).1.num:=by omega
 have f3:(bEnd xs).2=0∧xs.length≤(bEnd xs).1:=by
  unfold C.pEnd at he
  constructor
  ·by_cases q:(bEnd xs).2=0
   ·exact q
   ·rw[if_pos q]at he;exact absurd q (by omega)
  ·by_cases q:(bEnd xs).2=0
   ·rw[if_neg (by omega)]at he
    by_cases q2:(bEnd xs).1<xs.length
    ·rw[if_pos q2]at he;omega
    ·omega
   ·rw[if_pos q]at he;exact absurd q (by omega)
 have f2:(bCnt xs).2.2=0:=by
  by_cases q:(bCnt xs).2.2=0
  ·exact q
  ·have:=gA_bad 4194291 xs (bCnt xs).2.1 _ q (bCnt xs).1.num
   unfold bEnd at f3
   rw[rA_gA]at f3
   exact absurd f3.1 this
 have f1:(bNum xs).2.2=0:=by
  by_cases q:(bNum xs).2.2=0
  ·exact q
  ·unfold bCnt at f2
   rw[C.rn_done _ _ _ _ _ q]at f2
   exact absurd f2 q
 have a1:=C.anew_fixed 2 8 xs 0 hs (Nat.zero_le _) rfl (by omega) (by decide) (by decide) (by decide)
 obtain⟨b1,b2,b3⟩:=a1.1 f1
 have e1:(C.rNext 2 0 xs 0 0)=bNum xs:=rfl
 rw[e1]at b1 b2 b3
 have ec:bCnt xs=C.rNext 1 0 xs (bNum xs).2.1 0:=by unfold bCnt;rw[f1]
 have a2:=C.anew_fixed 1 4 xs (bNum xs).2.1 hs b2 rfl (by omega) (by decide) (by decide) (by decide)
 rw[←ec]at a2
 obtain⟨c1,c2,c3⟩:=a2.1 f2
 have eE:bEnd xs=gA 4194291 xs (bCnt xs).2.1 0 (bCnt xs).1.num:=by unfold bEnd;rw[rA_gA,f2]
 rw[eE]at f3
 obtain⟨d1,d2,d3⟩:=gA_anew 4194291 (by omega) xs hs hl (bCnt xs).2.1 c2 (bCnt xs).1.num f3.1
 have eP:bParts xs (bCnt xs).1.num=(List.range (bCnt xs).1.num).map (gP 4194291 xs (bCnt xs).2.1 0):=by
  unfold bParts
  rw[f2]
  exact List.map_congr_left (fun j _=>rP_gP _ _ _ _)
 have eL:(gA 4194291 xs (bCnt xs).2.1 0 (bCnt xs).1.num).1=xs.length:=by omega
 refine⟨?_,by omega,by omega,by rw[bParts_len];omega⟩
 unfold bodyB
 rw[bParts_len,b3,c3,eP,d3,eL]
 rw[take_cut _ _ _ _ b1 c1,take_cut _ _ _ _ (by omega) c2]
 simp
theorem cut_rec (xs:List Nat) (h:13≤xs.length):(xs.take 9++bodyOf xs)++tailOf xs=xs:=by
 unfold bodyOf tailOf
 have e1:=take_cut xs 0 9 (xs.length - 4) (by omega) (by omega)
 simp only[List.drop_zero,Nat.sub_zero]at e1
 rw[show xs.length - 13=xs.length - 4 - 9 by omega,e1]
 exact List.take_append_drop _ _
theorem readR_one {xs:List Nat} {num:Nat} {ps:List (List Nat)} (hs:∀x∈xs,x<256) (hl:xs.length≤4194304) (hh:hdOk xs=true) (hn:xs.length=hdN xs+13) (h:readR xs=some (num,ps)) :
  recB num ps=xs∧1≤num∧num≤1099511627776∧ps.length≤4096:=by
 have hb12:=hdOk_bounds hh
 unfold readR at h
 split at h
 ·cases h
 rename_i hsum
 have hbs:∀x∈bodyOf xs,x<256:=fun x hx=>hs x (List.mem_of_mem_drop (List.mem_of_mem_take hx))
 have hbl:(bodyOf xs).length=xs.length - 13:=by unfold bodyOf;rw[List.length_take,List.length_drop];omega
 obtain⟨e1,e2,e3,e4⟩:=readB_one hbs (by omega) h
 refine⟨?_,e2,e3,e4⟩
 have hts:∀x∈tailOf xs,x<256:=fun x hx=>hs x (List.mem_of_mem_drop hx)
 have htl:(tailOf xs).length=4:=by unfold tailOf;rw[List.length_drop];omega
 have hq:C.be (tailOf xs)=C.sumOf (bodyOf xs):=by omega
 have ht:=C.beOf_be (tailOf xs) hts
 rw[htl,hq]at ht
 unfold recB framedB
 rw[e1,ht,hbl]
 have hk:xs.take 9=headB (hdN xs):=by
  simp only[hdOk,Bool.and_eq_true,decide_eq_true_eq]at hh
  exact hh.2
 rw[show xs.length - 13=hdN xs by omega,←hk]
 exact cut_rec xs (by omega)
theorem rn_fix (k:Int) (s:Nat) (xs:List Nat) (a:Nat) (hk:C.width k=s) (h3:k≠3) (h4:k≠4) (h5:k≠5) (h:a+s≤xs.length):C.rNext k 0 xs a 0=(⟨C.be ((xs.drop a).take s),0,0,s,0⟩,a+s,0) :=
 C.rn_of k 0 xs a _ (by simp only[C.pFind,if_neg h3,if_neg h4,if_neg h5,hk,C.pFixed];rw[if_neg (by rw[List.length_drop];omega)]) rfl
def dNum (xs:List Nat):Nat:=C.be ((xs.drop 9).take 8)
def dCnt (xs:List Nat):Nat:=C.be ((xs.drop 17).take 4)
def dA (xs:List Nat) (j:Nat):Nat × Nat:=gA 4194304 xs 21 0 j
def dPs (xs:List Nat) (k:Nat):List (List Nat):=(List.range k).map (gP 4194304 xs 21 0)
theorem dPs_len (xs:List Nat) (k:Nat):(dPs xs k).length=k:=by simp[dPs]
theorem dPs_succ (xs:List Nat) (k:Nat):dPs xs (k+1)=dPs xs k++[gP 4194304 xs 21 0 k]:=by simp[dPs,List.range_succ]
theorem rec_drop (num:Nat) (ps:List (List Nat)) (k:Nat) (hk:k≤(bodyB num ps).length):(recB num ps).drop (9+k)=(bodyB num ps).drop k++C.beOf (C.sumOf (bodyB num ps)) 4:=by
 unfold recB framedB
 rw[←List.drop_drop,List.append_assoc,drop_app _ _ 9 (headB_len _),List.drop_append_of_le_length hk]
theorem dNum_rec (num:Nat) (ps:List (List Nat)) (hn:num<18446744073709551616):dNum (recB num ps)=num:=by
 unfold dNum
 rw[show (recB num ps).drop 9=(recB num ps).drop (9+0) from rfl,rec_drop num ps 0 (Nat.zero_le _),List.drop_zero]
 unfold bodyB
 rw[List.append_assoc,List.append_assoc,List.take_append_of_le_length (by rw[be_len];omega),List.take_of_length_le (by rw[be_len];omega),C.be_beOf]
 omega
theorem dCnt_rec (num:Nat) (ps:List (List Nat)) (hk:ps.length<4294967296):dCnt (recB num ps)=ps.length:=by
 unfold dCnt
 rw[show (17:Nat)=9+8 from rfl,rec_drop num ps 8 (by rw[bodyB_len];omega)]
 unfold bodyB
 rw[List.append_assoc,drop_app _ _ 8 (be_len _ _),List.append_assoc,List.take_append_of_le_length (by rw[be_len];omega),List.take_of_length_le (by rw[be_len];omega),C.be_beOf]
 omega
theorem gText_rec (num:Nat) (ps:List (List Nat)) (j:Nat) (p:List Nat) (h:ps[j]?=some p) (hb:(bodyB num ps).length≤4194291) :
  C.rText 4194304 (recB num ps) (21+(partsB (ps.take j)).length) 0=(⟨0,C.vs p.length,p.length,C.vs p.length+p.length,0⟩,21+(partsB (ps.take (j+1))).length,0) ∧
  (recB num ps).drop (21+(partsB (ps.take j)).length)=partB p++(partsB (ps.drop (j+1))++C.beOf (C.sumOf (bodyB num ps)) 4):=by
 have hp:=part_fits num ps hb p (List.mem_of_getElem? h)
 have hle:12+(partsB (ps.take j)).length≤(bodyB num ps).length:=by
  rw[bodyB_len];have:=partsB_le (ps:=ps) (k:=j);omega
 have hd:(recB num ps).drop (21+(partsB (ps.take j)).length)=partB p++(partsB (ps.drop (j+1))++C.beOf (C.sumOf (bodyB num ps)) 4):=by
  rw[show 21+(partsB (ps.take j)).length=9+(12+(partsB (ps.take j)).length) by omega,rec_drop num ps _ hle,body_drop num ps j p h,List.append_assoc]
 refine⟨?_,hd⟩
 have hr:=C.rn_of 4 4194304 (recB num ps) (21+(partsB (ps.take j)).length) _ (C.by_most 4194304 _ p (partsB (ps.drop (j+1))++C.beOf (C.sumOf (bodyB num ps)) 4) (by omega) (by omega) (by rw[hd];rfl)) rfl
 show C.rNext 4 4194304 _ _ _=_
 rw[hr,part_in ps j p h,partB_len2 p (by omega)]
 simp only[Nat.add_assoc]
theorem dA_rec (num:Nat) (ps:List (List Nat)) (hb:(bodyB num ps).length≤4194291):∀j,j≤ps.length→dA (recB num ps) j=(21+(partsB (ps.take j)).length,0)
 | 0,_=>by simp[dA,gA,partsB]
 | j+1,hj=>by
  obtain⟨p,hp⟩:∃p,ps[j]?=some p:=⟨_,List.getElem?_eq_getElem (by omega)⟩
  have ih:=dA_rec num ps hb j (by omega)
  unfold dA at ih ⊢
  rw[gA,ih,(gText_rec num ps j p hp hb).1]
theorem dPs_rec (num:Nat) (ps:List (List Nat)) (hb:(bodyB num ps).length≤4194291):dPs (recB num ps) ps.length=ps:=by
 apply List.ext_getElem?
 intro i
 unfold dPs
 by_cases hi:i<ps.length
 ·rw[List.getElem?_map,List.getElem?_range hi,List.getElem?_eq_getElem hi]
  simp only[Option.map_some,Option.some.injEq]
  have hp:=List.getElem?_eq_getElem hi
  have ih:=dA_rec num ps hb i (by omega)
  unfold dA at ih
  unfold gP
  obtain⟨q1,q2⟩:=gText_rec num ps i ps[i] hp hb
  rw[ih,q1]
  show (((recB num ps).drop _).drop (C.vs ps[i].length)).take ps[i].length=ps[i]
  rw[q2]
  have hv:=C.vs_bounds ps[i].length (by have:=part_fits num ps hb ps[i] (List.mem_of_getElem? hp);omega)
  unfold partB
  rw[List.append_assoc,drop_app _ _ _ (by rw[C.varOf_length];omega)]
  simp
 ·rw[List.getElem?_eq_none (by simp;omega),List.getElem?_eq_none (by omega)]
structure DGood (xs:List Nat) (i:Nat):Prop where
 f:(dA xs i).2=0
 lo:1≤dNum xs
 hi:dNum xs≤1099511627776
 few:i≤4096
 len:(recB (dNum xs) (dPs xs i)).length≤4194304
 eq:recB (dNum xs) (dPs xs i)=xs.take (recB (dNum xs) (dPs xs i)).length
theorem doc_first {xs:List Nat} (hs:∀x∈xs,x<256) (hl:xs.length≤4194304) (hh:hdOk xs=true) (hn:xs.length=hdN xs+13) (i:Nat) (hi:i≤dCnt xs) (hi2:i=dCnt xs∨(dA xs i).2≠0) :
  (∀num ps,readR xs=some (num,ps)→DGood xs i∧dNum xs=num∧dPs xs i=ps∧(recB (dNum xs) (dPs xs i)).length=xs.length) ∧
  (readR xs=none→DGood xs i→(recB (dNum xs) (dPs xs i)).length≠xs.length):=by
 constructor
 ·intro num ps hr
  obtain⟨e,h1,h2,h3⟩:=readR_one hs hl hh hn hr
  have hb:(bodyB num ps).length≤4194291:=by
   have:=recB_len num ps
   rw[e]at this
   omega
  have ec:=dCnt_rec num ps (by omega)
  have en:=dNum_rec num ps (by omega)
  rw[e]at ec en
  have ed:=dA_rec num ps hb i (by omega)
  rw[e]at ed
  have ei:i=ps.length:=by
   rcases hi2 with q | q
   ·omega
   ·rw[ed]at q;exact absurd rfl q
  have ep:=dPs_rec num ps hb
  rw[e,←ei]at ep
  rw[en,ep,e]
  refine⟨⟨by rw[ed],by omega,by omega,by omega,?_,?_⟩,rfl,rfl,rfl⟩
  ·rw[en,ep,e];exact hl
  ·rw[en,ep,e,List.take_of_length_le (Nat.le_refl _)]
 ·intro hr hg hlen
  have e:=hg.eq
  rw[hlen,List.take_of_length_le (Nat.le_refl _)]at e
  have hb:(bodyB (dNum xs) (dPs xs i)).length≤4194291:=by
   have:=recB_len (dNum xs) (dPs xs i)
   omega
  have hbs:∀x∈bodyB (dNum xs) (dPs xs i),x<256:=fun x hx=>hs x (by
   rw[←e];unfold recB framedB
   exact List.mem_append_left _ (List.mem_append_right _ hx))
  have:=readR_rec (dNum xs) (dPs xs i) hg.lo (by
   unfold recOk
   simp only[Bool.and_eq_true,decide_eq_true_eq]
   exact⟨⟨by rw[dPs_len];exact hg.few,hg.hi⟩,hb⟩) (sum_lt _ hbs)
  rw[e,hr]at this
  cases this
end Go.Proofs.YtcceejdaokoihaaGreatDoor
namespace Go.Proofs.YtcceejdaokoihaaGreatDoor.C
open Go.RowKit
theorem owns_bs {w:World} {B n k:Nat} {t:TypeId} {v:Value} {ys:List Value} (h:w.ownsRow B t 1 v n ys) (e:v.ownBlock=some k):B≤k:=by
 rcases h.2 with ⟨h1,_⟩ | ⟨g,cap,cur,h1,h2,hg,h3,_⟩
 ·rw[h1]at e;simp[Value.ownBlock]at e
 ·rw[h1]at e;simp[Value.ownBlock]at e;omega
theorem wpList_append_row {w:World} {ops:Array Oper} {rest:List Oper} {o:Oper} {a:Act} {Q:Exit→Act→World→Prop} (hgd:o.guard=none) (s x:Operand)
  (ho:o.op=.call { callee:=.builtin .append,args:=#[s,x],argTypes:=#[32,32] }) (B:Nat) (s0:Option Addr) (n c0:Nat) (ys:List Value)
  (hs:a.eval s=.slice s0 n c0) (hown:w.ownsRow B 5 1 (.slice s0 n c0) n ys) (sp:Option Addr) (m c:Nat) (xs:List Nat) (hx:a.eval x=.slice sp m c) (hm:xs.length=m) (hb:Bytes w sp xs)
  (h63:n+m≤140737488355328) (hB:B≤w.heap.size)
  (h:∀s' c' w',w'.ownsRow B 5 1 (.slice s' (n+m) c') (n+m) (ys++vals xs)→w.grownBy w' (Value.slice s0 n c0).ownBlock→wpList Tryz.prog ops Q rest (a.put o.dst (.slice s' (n+m) c')) w') :
  wpList Tryz.prog ops Q (o :: rest) a w:=by
 obtain⟨i0,hi,hz0,hz1,hz2⟩:=info_parts Tryz.info5'
 by_cases h0:m=0
 ·subst h0
  have hxs:xs=[]:=List.eq_nil_of_length_eq_zero hm
  subst hxs
  have hle:n≤c0:=by
   rcases hown.2 with ⟨h1,h2⟩ | ⟨g,cap,cur,h1,_,_,h3,_⟩
   ·cases h1;omega
   ·cases h1;exact h3
  refine wpList_append_zero hgd s x 32 ho 5 i0 Tryz.underlying32 hi s0 n c0 hle hs sp c hx ?_
  exact h _ _ w (by simpa[vals] using hown) ⟨rfl,rfl,rfl,Nat.le_refl _,fun _ _ _=>rfl⟩
 ·rcases hb.lie with h' | ⟨g,o',rfl,hg,hc⟩
  ·subst h';simp at hm;omega
  ·refine wpList_append_lies _ hgd s x 32 ho B 5 i0 (.int .u8 0) 1 1 Tryz.underlying32 hi hz0 hz1 hz2 rfl (by omega) _ n ys hs hown ⟨g,o',none⟩ m c (vals xs) hx (by rw[vals_len,hm,Nat.mul_one]) (bytes_cells hb) (vals_one xs) (by omega) (by unfold maxLen;omega) (by omega) hB _ rfl ?_
   intro g' cap w' h1 h2 _ _
   exact h _ _ w' h1 h2
structure Lr (w0 w:World) (sp:Option Addr) (n c:Nat) (ys:List Nat):Prop where
 len:ys.length=n
 own:w.ownsRow w0.heap.size 5 1 (.slice sp n c) n (vals ys)
 bel:Below w0.heap.size w0 w
 small:∀y∈ys,y<256
theorem lr_nil (w:World):Lr w w none 0 0 []:=⟨rfl,nil_owns w _,Below.refl _ _,by simp⟩
theorem Lr.app {w0 w w':World} {sp s':Option Addr} {n c c' m:Nat} {ys xs:List Nat} (h:Lr w0 w sp n c ys) (hm:xs.length=m) (hx:∀x∈xs,x<256) (ho:w'.ownsRow w0.heap.size 5 1 (.slice s' (n+m) c') (n+m) (vals ys++vals xs)) (hg:w.grownBy w' (Value.slice sp n c).ownBlock):Lr w0 w' s' (n+m) c' (ys++xs) :=
 ⟨by rw[List.length_append,h.len,hm],by rw[vals_app];exact ho,h.bel.grown hg h.bel.size (fun _ e=>owns_bs h.own e),fun y hy=>by
  rcases List.mem_append.1 hy with q | q
  ·exact h.small y q
  ·exact hx y q⟩
theorem Lr.below {w0 w w':World} {sp:Option Addr} {n c:Nat} {ys:List Nat} (h:Lr w0 w sp n c ys) (hb:Below w.heap.size w w'):Lr w0 w' sp n c ys :=
 ⟨h.len,owns_below h.own hb,h.bel.trans (hb.mono h.bel.size),h.small⟩
theorem Lr.bytes {w0 w:World} {sp:Option Addr} {n c:Nat} {ys:List Nat} (h:Lr w0 w sp n c ys):Bytes w sp ys:=by
 have hown:=h.own
 rw[←h.len]at hown
 refine⟨h.small,?_⟩
 rcases hown.2 with ⟨h1,h2⟩ | ⟨g,cap,cur,h1,h2,hg,h3,h4,h5,h6⟩
 ·left;exact List.eq_nil_of_length_eq_zero h2
 ·right
  cases h1
  refine⟨g,0,rfl,lt_of_block hg,fun j hj=>?_⟩
  have hv:(vals ys)[j]?=some (.int .u8 (ys.getD j 0:Nat)):=by
   simp only[vals,List.getElem?_map,List.getElem?_eq_getElem hj,Option.map_some,List.getD,Option.getD_some]
  rw[←h6,List.getElem?_take,if_pos (by omega)]at hv
  simp only[World.cell?,hg,Nat.zero_add]
  simpa using hv
theorem Lr.le {w0 w:World} {sp:Option Addr} {n c:Nat} {ys:List Nat} (h:Lr w0 w sp n c ys):n≤c∧(0<n→∃g,sp=some ⟨g,0,none⟩∧w0.heap.size≤g∧g<w.heap.size):=by
 rcases h.own.2 with ⟨h1,h2⟩ | ⟨g,cap,cur,h1,h2,hg,h3,h4,h5,h6⟩
 ·cases h1;exact⟨by omega,fun q=>by omega⟩
 ·cases h1;exact⟨h3,fun _=>⟨g,rfl,h2,lt_of_block hg⟩⟩
theorem made_lr (w:World) (xs:List Nat) (hs:∀x∈xs,x<256):Bytes (w.alloc (.cells (vals xs).toArray 5)) (some ⟨w.heap.size,0,none⟩) xs∧Below w.heap.size w (w.alloc (.cells (vals xs).toArray 5)) :=
 ⟨lie_row (heap_alloc_new _ _) hs (fun j hj=>by simp[vals,List.getD,List.getElem?_eq_getElem hj]),(Below.refl _ _).alloc (Nat.le_refl _) _⟩
theorem one_lr (w:World) (y:Nat) (hy:y<256):Lr w (w.alloc (.cells #[.int .u8 (y:Int)] 5)) (some ⟨w.heap.size,0,none⟩) 1 1 [y] :=
 ⟨rfl,owns_built w _,(Below.refl _ _).alloc (Nat.le_refl _) _,by simpa using hy⟩
end Go.Proofs.YtcceejdaokoihaaGreatDoor.C
namespace Go.Proofs.YtcceejdaokoihaaGreatDoor
open Go.RowKit
theorem pow_small (n:Nat):C.beOf n 1=[n % 256]:=by simp[C.beOf]
set_option maxHeartbeats 1000000 in
theorem rrec_any (w:World) (num:Nat) (hnum:num<18446744073709551616) (pp:Option Addr) (k cap:Nat) (ps:List (List Nat)) (hk:ps.length=k) (hkl:k≤4096) (hP:Pts w pp ps) (hlen:(partsB ps).length≤4194304) :
  Calls Tryz.prog 58 #[.int .u64 (num:Int),.slice pp k cap] w fun e w'=>∃sp n c,n=(recB num ps).length∧e=.returned (.slice sp n c)∧Bytes w' sp (recB num ps)∧Below w.heap.size w w':=by
 have HP:=hide hP
 have HK:=hide hk
 have HLen:=hide hlen
 clear hP hk hlen
 go_enter Tryz.func58,Tryz.ntmps58
 go_wp2_with fail
 refine(C.ref_u64 w num hnum).mono ?_
 rintro e w1 ⟨rfl,rfl⟩
 obtain⟨m1,m2⟩:=C.made_lr w (C.beOf num 8) (be_small _ _)
 have HL1:=hide ((C.lr_nil w).below m2)
 have HM1:=hide m1
 clear m1 m2
 generalize w.alloc (.cells (C.vals (C.beOf num 8)).toArray 5)=w1 at *
 go_wp2_with (at_builtin;refine C.wpList_append_row rfl (.tmp 8) (.tmp 10) rfl w.heap.size none 0 0 _ rfl HL1.out.own _ 8 8 (C.beOf num 8) rfl (be_len _ _) HM1.out (by omega) HL1.out.bel.size ?_;intro s2 c2 w2 ho2 hg2)
 have HL2:=hide (HL1.out.app (be_len _ _) (be_small _ _) ho2 hg2)
 clear ho2 hg2 HL1 HM1
 have hk32:(k:Int) % 4294967296=(k:Int):=by omega
 have HU:=hide (C.ref_u32 w2 k (by omega))
 go_wp2_with fail
 refine HU.out.mono ?_
 rintro e w3 ⟨rfl,rfl⟩
 obtain⟨m1,m2⟩:=C.made_lr w2 (C.beOf k 4) (be_small _ _)
 have HL3:=hide (HL2.out.below m2)
 have HM3:=hide m1
 clear m1 m2 HL2 HU
 generalize w2.alloc (.cells (C.vals (C.beOf k 4)).toArray 5)=w3 at *
 go_wp2_with (at_builtin;refine C.wpList_append_row rfl (.tmp 12) (.tmp 16) rfl w.heap.size _ _ _ _ rfl HL3.out.own _ 4 4 (C.beOf k 4) rfl (be_len _ _) HM3.out (by omega) HL3.out.bel.size ?_;intro s4 c4 w4 ho4 hg4)
 have HL4:Hid (C.Lr w w4 s4 12 c4 ((C.beOf num 8++C.beOf k 4)++partsB (ps.take 0))):=by
  have:=HL3.out.app (be_len _ _) (be_small _ _) ho4 hg4
  show C.Lr _ _ _ _ _ _
  simpa[partsB] using this
 clear ho4 hg4 HL3 HM3
 go_wp2
 go_loopw [5,6] (fun b i wr=>∃(j n c:Nat) (sp:Option Addr),j≤k∧i=.int .i64 (j:Int)∧b=.slice sp n c∧n=12+(partsB (ps.take j)).length∧Hid (C.Lr w wr sp n c ((C.beOf num 8++C.beOf k 4)++partsB (ps.take j)))) (fun _ i _=>k - (intOf i).toNat)
 case atStart=>exact⟨0,12,c4,s4,Nat.zero_le _,rfl,rfl,by simp[partsB],HL4⟩
 case round =>
  obtain⟨j,n,c,sp,hj,rfl,rfl,hn,HL⟩:=hrel
  clear HL4
  have hle:=partsB_le (ps:=ps) (k:=j)
  have hlt12:=HLen.out
  by_cases hlt:j<k
  ·have i1:(0:Int)≤(j:Int):=by omega
   have i2:(j:Int)<(k:Int):=by omega
   obtain⟨p,hp⟩:∃p,ps[j]?=some p:=⟨_,List.getElem?_eq_getElem (by rw[HK.out];exact hlt)⟩
   obtain⟨g,o,ap,cp,e1,hg,c0,c1⟩:=(HP.out.below HL.out.bel).at hp
   have hsm:=HP.out.small p (List.mem_of_getElem? hp)
   have HTx:=hide (C.ref_text wr ap p.length cp p rfl c1.c hsm)
   have HPi:=hide (part_in ps j p hp)
   have HTk:=hide (take_snoc' ps j p hp)
   have hpl:=partB_len2 p (by omega)
   have HPb:Hid (C.varOf p.length (C.vs p.length - 1)++p=partB p):=rfl
   rw[HPb.out]at HTx
   have hle2:=partsB_le (ps:=ps) (k:=j+1)
   have HPs:Hid (∀x∈partB p,x<256):=partB_small c1.small (by omega)
   obtain⟨q,hq⟩:∃q,C.vs p.length+p.length=q:=⟨_,rfl⟩
   rw[hq]at HTx hpl
   have HPl:=hide hpl
   have hb1:n+q≤140737488355328:=by have:=HPi.out;omega
   have HN2:Hid (n+q=12+(partsB (ps.take (j+1))).length):=by show _=_;have:=HPi.out;omega
   clear c1 hq hsm hp hpl hle hle2 hlt12 hn
   generalize p.length=pl at *
   subst e1
   go_wp2_with fail
   refine HTx.out.mono ?_
   rintro e w5 ⟨g5,c5,rfl,ho5,hb5⟩
   have HL5:=hide (HL.out.below hb5)
   have HB5:Hid (C.Bytes w5 (some ⟨g5,0,none⟩) (partB p)):=by
    have h5:C.Lr wr w5 (some ⟨g5,0,none⟩) q c5 (partB p):=⟨HPl.out,ho5,hb5,HPs.out⟩
    exact h5.bytes
   clear ho5 hb5 HTx
   go_wp2_with (at_builtin;refine C.wpList_append_row rfl (.tmp 24) (.tmp 29) rfl w.heap.size _ _ _ _ rfl HL5.out.own _ q c5 (partB p) rfl HPl.out HB5.out hb1 HL5.out.bel.size ?_;intro s6 c6 w6 ho6 hg6)
   have HL6:Hid (C.Lr w w6 s6 (n+q) c6 ((C.beOf num 8++C.beOf k 4)++partsB (ps.take (j+1)))):=by
    have:=HL5.out.app HPl.out HPs.out ho6 hg6
    show C.Lr _ _ _ _ _ _
    rw[HTk.out,partsB_snoc,←List.append_assoc]
    exact this
   clear ho6 hg6 HL5 HB5
   go_wp2
   go_roundw
   case rel=>exact⟨j+1,n+q,c6,s6,by omega,by go_num,rfl,HN2.out,HL6⟩
   case measure=>simp[intOf];omega
  ·have i2:¬(j:Int)<(k:Int):=by omega
   have ej:j=k:=by omega
   subst ej
   have HLb:Hid (C.Lr w wr sp n c (bodyB num ps)):=by
    have:=HL.out
    rw[List.take_of_length_le (by rw[HK.out];exact Nat.le_refl _)]at this
    show C.Lr _ _ _ _ _ _
    unfold bodyB
    rw[HK.out]
    exact this
   have hbl:(bodyB num ps).length=n:=HLb.out.len
   have hn2:n≤4194316:=by omega
   have HBd:=hide (HLb.out.bytes)
   have HBe:=hide (HLb.out.bel)
   have HBl:=hide hbl
   have HBs:=hide (HLb.out.small)
   have HRe:Hid (recB num ps=((([167]++C.beOf n 4)++C.beOf (C.sumOf ([167]++C.beOf n 4)) 4)++bodyB num ps)++C.beOf (C.sumOf (bodyB num ps)) 4):=by
    show _=_
    unfold recB framedB headB hd5
    rw[hbl,pow_small]
   have hs2:=sum_lt _ (HLb.out.small)
   have hs1:=sum_lt ([167]++C.beOf n 4) (fun x hx=>by
    rcases List.mem_append.1 hx with h | h
    ·simp at h;omega
    ·exact be_small _ _ x h)
   clear HL hbl hle hlt12 hn HLb hlt
   generalize bodyB num ps=body at *
   have hn32:(n:Int) % 4294967296=(n:Int):=by omega
   have H1:=hide (C.one_lr wr 167 (by omega))
   go_wp2_with fail
   generalize wr.alloc (.cells #[.int .u8 167] 5)=v1 at *
   refine(C.ref_u32 v1 n (by omega)).mono ?_
   rintro e w3 ⟨rfl,rfl⟩
   obtain⟨m1,m2⟩:=C.made_lr v1 (C.beOf n 4) (be_small _ _)
   have H2:=hide (H1.out.below m2)
   have HM2:=hide m1
   clear m1 m2 H1
   generalize v1.alloc (.cells (C.vals (C.beOf n 4)).toArray 5)=v2 at *
   go_wp2_with (at_builtin;refine C.wpList_append_row rfl (.tmp 32) (.tmp 36) rfl wr.heap.size _ _ _ _ rfl H2.out.own _ 4 4 (C.beOf n 4) rfl (be_len _ _) HM2.out (by omega) H2.out.bel.size ?_;intro s3 c3 v3 ho3 hg3)
   have H3:=hide (H2.out.app (be_len _ _) (be_small _ _) ho3 hg3)
   clear ho3 hg3 H2 HM2
   have HSm:=hide (C.refsum_any v3 s3 5 c3 ([167]++C.beOf n 4) (H3.out.len) H3.out.bytes (by omega))
   generalize hR1:C.sumOf ([167]++C.beOf n 4)=r1 at *
   generalize hX1:[167]++C.beOf n 4=x1 at *
   clear hR1 hX1
   go_wp2_with fail
   refine HSm.out.mono ?_
   rintro e w4 ⟨rfl,q4,rfl⟩
   have H4:=hide (H3.out.below (below_drewN (Below.refl _ v3) q4))
   clear H3 HSm
   generalize v3.drewN q4=v4 at *
   go_wp2_with fail
   refine(C.ref_u32 v4 r1 hs1).mono ?_
   rintro e w5 ⟨rfl,rfl⟩
   obtain⟨m1,m2⟩:=C.made_lr v4 (C.beOf r1 4) (be_small _ _)
   have H5:=hide (H4.out.below m2)
   have HM5:=hide m1
   clear m1 m2 H4
   generalize v4.alloc (.cells (C.vals (C.beOf r1 4)).toArray 5)=v5 at *
   go_wp2_with (first
    | (at_builtin;refine C.wpList_append_row rfl (.tmp 38) (.tmp 41) rfl wr.heap.size _ _ _ _ rfl H5.out.own _ 4 4 (C.beOf r1 4) rfl (be_len _ _) HM5.out (by omega) H5.out.bel.size ?_;intro s6 c6 v6 ho6 hg6;have H6:=hide (H5.out.app (be_len _ _) (be_small _ _) ho6 hg6);clear ho6 hg6 H5 HM5)
    | (at_builtin;refine C.wpList_append_row rfl (.tmp 43) (.tmp 44) rfl wr.heap.size _ _ _ _ rfl H6.out.own _ n c body rfl HBl.out (HBd.out.below H6.out.bel) (by omega) H6.out.bel.size ?_;intro s7 c7 v7 ho7 hg7;have H7:=hide (H6.out.app HBl.out HBs.out ho7 hg7);clear ho7 hg7 H6))
   have HSm:=hide (C.refsum_any v7 sp n c body HBl.out (HBd.out.below H7.out.bel) (by omega))
   generalize C.sumOf body=r2 at *
   go_wp2_with fail
   refine HSm.out.mono ?_
   rintro e w8 ⟨rfl,q8,rfl⟩
   have H8:=hide (H7.out.below (below_drewN (Below.refl _ v7) q8))
   clear H7 HSm
   generalize v7.drewN q8=v8 at *
   go_wp2_with fail
   refine(C.ref_u32 v8 r2 hs2).mono ?_
   rintro e w9 ⟨rfl,rfl⟩
   obtain⟨m1,m2⟩:=C.made_lr v8 (C.beOf r2 4) (be_small _ _)
   have H9:=hide (H8.out.below m2)
   have HM9:=hide m1
   clear m1 m2 H8
   generalize v8.alloc (.cells (C.vals (C.beOf r2 4)).toArray 5)=v9 at *
   go_wp2_with (at_builtin;refine C.wpList_append_row rfl (.tmp 46) (.tmp 49) rfl wr.heap.size _ _ _ _ rfl H9.out.own _ 4 4 (C.beOf r2 4) rfl (be_len _ _) HM9.out (by omega) H9.out.bel.size ?_;intro s10 c10 v10 ho10 hg10)
   have H10:=hide (H9.out.app (be_len _ _) (be_small _ _) ho10 hg10)
   clear ho10 hg10 H9 HM9
   go_wp2
   go_ret
   rw[HRe.out]
   exact⟨s10,_,c10,H10.out.len.symm,rfl,Bytes.of_c H10.out.bytes,HBe.out.trans (H10.out.bel.mono HBe.out.size)⟩
set_option maxHeartbeats 1000000 in
theorem rsmall_any (w:World) (pp:Option Addr) (k cap:Nat) (ps:List (List Nat)) (hk:ps.length=k) (hkl:k≤4294967296) (hP:Pts w pp ps) (hlen:(partsB ps).length≤4194304) :
  Calls Tryz.prog 111 #[.slice pp k cap] w fun e w'=>e=.returned (.bool (decide (k≤4096) && decide (25+(partsB ps).length≤4194304)))∧Below w.heap.size w w':=by
 have HP:=hide hP
 have HK:=hide hk
 have HLen:=hide hlen
 clear hP hk hlen
 obtain⟨bb,hbb⟩:∃bb,(decide (k≤4096) && decide (25+(partsB ps).length≤4194304))=bb:=⟨_,rfl⟩
 rw[hbb]
 have HBB:=hide hbb
 clear hbb
 go_enter Tryz.func111,Tryz.ntmps111
 go_wp2
 go_loopw [3,4] (fun b i wr=>∃(j n:Nat),j≤k∧i=.int .i64 (j:Int)∧b=.int .i64 (n:Int)∧n=25+(partsB (ps.take j)).length∧Hid (Below w.heap.size w wr)) (fun _ i _=>k - (intOf i).toNat)
 case atStart=>exact⟨0,25,Nat.zero_le _,rfl,rfl,by simp[partsB],hide (Below.refl _ _)⟩
 case round =>
  obtain⟨j,n,hj,rfl,rfl,hn,HB⟩:=hrel
  have hle:=partsB_le (ps:=ps) (k:=j)
  have hlt12:=HLen.out
  by_cases hlt:j<k
  ·have i1:(0:Int)≤(j:Int):=by omega
   have i2:(j:Int)<(k:Int):=by omega
   obtain⟨p,hp⟩:∃p,ps[j]?=some p:=⟨_,List.getElem?_eq_getElem (by rw[HK.out];exact hlt)⟩
   obtain⟨g,o,ap,cp,e1,hg,c0,c1⟩:=(HP.out.below HB.out).at hp
   have hsm:=HP.out.small p (List.mem_of_getElem? hp)
   have HPi:=hide (part_in ps j p hp)
   have hpl:=partB_len2 p (by omega)
   have hle2:=partsB_le (ps:=ps) (k:=j+1)
   have hq2:=HPi.out
   obtain⟨q,hq⟩:∃q,C.vs p.length=q:=⟨_,rfl⟩
   have HV:=hide (fun w=>C.ref_var_any p.length (by omega) w)
   unfold C.Vared at HV
   rw[hq]at HV hpl
   have HN2:Hid (n+p.length+q=25+(partsB (ps.take (j+1))).length):=by show _=_;omega
   have hb1:n+p.length+q≤140737488355328:=by omega
   generalize C.vals (C.varOf p.length (q - 1))=VV at *
   clear c1 hq hp hpl hle hle2 hlt12 hn hq2 HPi
   generalize p.length=pl at *
   subst e1
   have HW:=hide (show IntKind.u64.wrap (pl:Int)=(pl:Int) by rw[IntKind.wrap_u64];omega)
   have HWs:Hid (IntKind.i64.wrap (IntKind.i64.wrap ((n:Int)+(pl:Int))+(q:Int))=((n+pl+q:Nat):Int)):=by
    show _=_
    rw[IntKind.wrap_i64,IntKind.wrap_i64]
    omega
   have HP2:=hide HP.out
   clear HP
   go_wp2
   go_region_held3 (fun w'=>w'.cell? ⟨g,o+j,none⟩=some (.slice ap pl cp)) (first | assumption | go_keep)
    (first | (go_at_call 153;rw[HW.out];refine(HV.out _).mono ?_;rintro e w3 ⟨g3,k3,rfl,hown3,hb3⟩;have HB3:Hid (Below w.heap.size w w3):=HB.out.drew.trans (hb3.mono HB.out.size);have hc3:w3.cell? ⟨g,o+j,none⟩=some (.slice ap pl cp):=(hb3.cell (p:=⟨g,o+j,none⟩) hg).trans c0;clear hown3 hb3))
   go_wp2
   go_roundw
   case rel=>exact⟨j+1,n+pl+q,by omega,by go_num,by rw[HWs.out],HN2.out,HB3⟩
   case measure=>simp[intOf];omega
  ·have i2:¬(j:Int)<(k:Int):=by omega
   have ej:j=k:=by omega
   subst ej
   rw[List.take_of_length_le (by rw[HK.out];exact Nat.le_refl _)]at hn
   have HN:=hide hn
   clear hn hle hlt12
   by_cases h1:j≤4096
   ·have h1':(j:Int)≤4096:=by omega
    by_cases h2:n≤4194304
    ·have h2':(n:Int)≤4194304:=by omega
     obtain rfl:bb=true:=by rw[←HBB.out,decide_eq_true h1,←HN.out,decide_eq_true h2];rfl
     go_wp2
     go_ret
     exact⟨rfl,HB.out⟩
    ·have h2':¬(n:Int)≤4194304:=by omega
     obtain rfl:bb=false:=by rw[←HBB.out,decide_eq_true h1,←HN.out,decide_eq_false h2];rfl
     go_wp2
     go_ret
     exact⟨by first | rfl | (rw[decide_eq_false (show ¬((n:Int)≤4194304) by omega)];rfl),HB.out⟩
   ·have h1':¬(j:Int)≤4096:=by omega
    obtain rfl:bb=false:=by rw[←HBB.out,decide_eq_false h1];rfl
    go_wp2
    go_ret
    exact⟨by first | rfl | (rw[decide_eq_false (show ¬((j:Int)≤4096) by omega)];rfl),HB.out⟩
open Go.RowKit Go.Maps
structure Okd (S:St) (k:Nat):Prop where
 inv:Inv S
 sz:Sz S k
 past:Past S
 fl:S.files.length≤k+64
theorem Okd.mono {S:St} {k k':Nat} (h:Okd S k) (hk:k≤k'):Okd S k':=⟨h.inv,h.sz.mono hk,h.past,by have:=h.fl;omega⟩
theorem okd_new {r:Nat} (hr:r≤16777216):Okd (St.new r) 0:=⟨new_inv hr,new_sz r,past_new r,by simp[St.new]⟩
theorem turn_len (S:St) (i:Nat) (f:Fil):(S.turn i f).files.length=S.files.length:=by simp[St.turn]
theorem files_play (S:St) (p:Opx):(S.play p).2.files.length≤S.files.length+1:=by
 unfold St.play
 split
 ·unfold St.appendR
  split
  ·exact Nat.le_succ _
  split
  ·exact Nat.le_succ _
  split
  ·exact Nat.le_succ _
  split
  ·show (S.stroked.turn _ _).files.length≤_
   rw[turn_len];exact Nat.le_succ _
  ·show (((S.stroked.made ⟨[],[]⟩).ren _).turn _ _).files.length≤_
   rw[turn_len]
   show (S.files++[_]).length≤_
   simp
 split
 ·unfold St.cutR
  split
  ·exact Nat.le_succ _
  simp only
  split
  ·exact Nat.le_succ _
  ·show (S.stroked.turn _ _).files.length≤_
   rw[turn_len];exact Nat.le_succ _
 split
 ·unfold St.syncR
  split
  ·exact Nat.le_succ _
  simp only
  split
  ·show (S.stroked.turn _ _).files.length≤_
   rw[turn_len];exact Nat.le_succ _
  ·exact Nat.le_succ _
 split
 ·unfold St.namesR
  split
  ·exact Nat.le_succ _
  simp only
  split <;> exact Nat.le_succ _
 split
 ·unfold St.renameR
  split
  ·exact Nat.le_succ _
  split
  ·exact Nat.le_succ _
  simp only
  split <;> exact Nat.le_succ _
 split
 ·unfold St.removeR
  split <;> exact Nat.le_succ _
 ·exact Nat.le_succ _
theorem okd_play {S:St} {k:Nat} (h:Okd S k) (p:Opx) (hb:∀y∈p.b,y<256):Okd (S.play p).2 (k+p.b.length+1)∧(S.play p).2.room=S.room:=by
 have g:=good_play h.inv h.sz p hb
 have f:=files_play S p
 have:=h.fl
 exact⟨⟨g.inv,g.sz,h.past.next g.inv (nexts_play S p),by omega⟩,g.room⟩
theorem play_app (S:St) (x:Nm) (b:List Nat):S.play ⟨1,0,x,[],b⟩=S.appendR x b:=rfl
theorem app_long {S:St} (hr:S.room≤16777216) (x:Nm) {b:List Nat} (hb:16777216<b.length):(S.appendR x b).2=S∨(S.appendR x b).2=S.stroked:=by
 unfold St.appendR
 split
 ·exact Or.inl rfl
 split
 ·exact Or.inl rfl
 rw[if_pos (by
  unfold St.full
  rw[decide_eq_true (show S.stroked.room<b.length+S.stroked.used from (by show S.room<_;omega))]
  simp)]
 exact Or.inr rfl
theorem okd_app {S:St} {k:Nat} (h:Okd S k) (x:Nm) (b:List Nat) (hb:∀y∈b,y<256):Okd (S.appendR x b).2 (k+16777217)∧(S.appendR x b).2.room=S.room:=by
 by_cases hl:b.length≤16777216
 ·have g:=okd_play h ⟨1,0,x,[],b⟩ hb
  rw[play_app]at g
  refine⟨g.1.mono ?_,g.2⟩
  show k+b.length+1≤_
  omega
 ·rcases app_long h.inv.room x (b:=b) (by omega) with e | e
  ·rw[e];exact⟨h.mono (by omega),rfl⟩
  ·rw[e]
   exact⟨⟨h.inv.stroked,h.sz.stroked.mono (by omega),h.past.next h.inv.stroked (Or.inl ⟨rfl,Or.inl rfl⟩),by have:=h.fl;show S.files.length≤_;omega⟩,rfl⟩
theorem okd_cut {S:St} {k:Nat} (h:Okd S k) (x:Nm) (n:Int):Okd (S.cutR x n).2 (k+1)∧(S.cutR x n).2.room=S.room:=okd_play h ⟨2,n,x,[],[]⟩ (fun _ h=>by cases h)
theorem okd_rem {S:St} {k:Nat} (h:Okd S k) (x:Nm):Okd (S.removeR x).2 (k+1)∧(S.removeR x).2.room=S.room:=okd_play h ⟨6,0,x,[],[]⟩ (fun _ h=>by cases h)
theorem okd_plan {S:St} {k:Nat} (h:Okd S k) (a b c:Int):Okd (S.planR a b c) k∧(S.planR a b c).room=S.room:=by
 refine⟨⟨h.inv.plan a b c,?_,h.past.next (h.inv.plan a b c) ?_,?_⟩,?_⟩ <;> unfold St.planR
 ·split
  ·exact h.sz
  ·exact⟨h.sz.st,Nat.zero_le _,h.sz.ch,h.sz.fl⟩
 ·split
  ·exact nexts_self S
  ·exact Or.inl ⟨rfl,Or.inl rfl⟩
 ·split <;> exact h.fl
 ·split <;> rfl
theorem okd_step {S:St} {k:Nat} (h:Okd S k) (J:Jr) (s:Stk) (hf:s.fits):Okd (s.run S J).2.1 (k+4194305)∧(s.run S J).2.1.room=S.room:=by
 have aux:∀p:Opx,(∀y∈p.b,y<256)→p.b.length≤4194304→Okd (S.play p).2 (k+4194305)∧(S.play p).2.room=S.room:=fun p hb hl=>by
  have g:=okd_play h p hb
  exact⟨g.1.mono (by omega),g.2⟩
 cases s with
 | app x r=>exact aux ⟨1,0,x,[],r⟩ hf.1 hf.2
 | cut x n=>exact aux ⟨2,n,x,[],[]⟩ (fun _ h=>by cases h) (Nat.zero_le _)
 | sync x=>exact aux ⟨3,0,x,[],[]⟩ (fun _ h=>by cases h) (Nat.zero_le _)
 | names=>exact aux ⟨4,0,[],[],[]⟩ (fun _ h=>by cases h) (Nat.zero_le _)
 | ren x y=>exact aux ⟨5,0,x,y,[]⟩ (fun _ h=>by cases h) (Nat.zero_le _)
 | rem x=>exact aux ⟨6,0,x,[],[]⟩ (fun _ h=>by cases h) (Nat.zero_le _)
 | mend=>exact⟨h.mono (by omega),rfl⟩
 | drop=>exact⟨h.mono (by omega),rfl⟩
theorem okd_runs:∀(ss:List Stk) {S:St} {k:Nat} (J:Jr),Okd S k→(∀s∈ss,s.fits)→Okd (runs S J ss).2.1 (k+4194305*ss.length)∧(runs S J ss).2.1.room=S.room
 | [],S,k,J,h,_=>⟨h.mono (by omega),rfl⟩
 | s :: l,S,k,J,h,hf=>by
  have g:=okd_step h J s (hf s (List.mem_cons_self ..))
  unfold runs
  split
  ·have i:=okd_runs l (s.run S J).2.2 g.1 (fun t ht=>hf t (List.mem_cons_of_mem _ ht))
   refine⟨i.1.mono ?_,i.2.trans g.2⟩
   simp only[List.length_cons]
   omega
  ·refine⟨g.1.mono ?_,g.2⟩
   simp only[List.length_cons]
   omega
structure Okj (J:Jr) (k:Nat):Prop where
 nm:isNm J.name=true∧isNm (J.name++newE)=true
 last:J.last≤1099511627776
 recs:∀r∈J.recs,25≤r.length∧r.length≤4194304
 sum:goodN J≤k+16777216
theorem Okj.mono {J:Jr} {k k':Nat} (h:Okj J k) (hk:k≤k'):Okj J k':=⟨h.nm,h.last,h.recs,by have:=h.sum;omega⟩
theorem len_sum:∀(l:List (List Nat)),(∀r∈l,25≤r.length∧r.length≤4194304)→l.length≤(l.map List.length).sum
 | [],_=>Nat.le_refl _
 | a :: l,h=>by
  have:=len_sum l (fun r hr=>h r (List.mem_cons_of_mem _ hr))
  have:=(h a (List.mem_cons_self ..)).1
  simp only[List.length_cons,List.map_cons,List.sum_cons]
  omega
theorem Okj.len {J:Jr} {k:Nat} (h:Okj J k):J.recs.length≤k+16777216:=Nat.le_trans (len_sum J.recs h.recs) h.sum
theorem step_recs (S:St) (J:Jr) (s:Stk):(s.run S J).2.2.recs=J.recs∨(s.run S J).2.2.recs=[]:=by
 cases s <;> first | exact Or.inl rfl | exact Or.inr rfl
theorem runs_jr:∀(ss:List Stk) (S:St) (J:Jr),((runs S J ss).2.2.recs=J.recs∨(runs S J ss).2.2.recs=[])∧(runs S J ss).2.2.last=J.last∧(runs S J ss).2.2.name=J.name∧(runs S J ss).2.2.off=J.off∧(runs S J ss).2.2.named=J.named
 | [],S,J=>⟨Or.inl rfl,rfl,rfl,rfl,rfl⟩
 | s :: l,S,J=>by
  obtain⟨a1,a2,a3,a4,a5⟩:=step_jr S J s
  have b:=step_recs S J s
  unfold runs
  split
  ·obtain⟨c0,c1,c2,c3,c4⟩:=runs_jr l (s.run S J).2.1 (s.run S J).2.2
   refine⟨?_,c1.trans a1,c2.trans a5,c3.trans a3,c4.trans a4⟩
   rcases c0 with e | e
   ·rw[e];exact b
   ·exact Or.inr e
  ·exact⟨b,a1,a5,a3,a4⟩
theorem recB_long {num:Nat} {ps:List (List Nat)} (h:recOk num ps=true):25≤(recB num ps).length∧(recB num ps).length≤4194304:=by
 unfold recOk at h
 simp only[Bool.and_eq_true,decide_eq_true_eq]at h
 rw[recB_len]
 have:=bodyB_len num ps
 omega
theorem recB_small {num:Nat} {ps:List (List Nat)} (_h:recOk num ps=true) (hp:∀p∈ps,∀x∈p,x<256) (hl:∀p∈ps,p.length<18446744073709551616):∀y∈recB num ps,y<256:=framedB_small (bodyB_small num hp hl)
theorem recOk_lens {num:Nat} {ps:List (List Nat)} (h:recOk num ps=true):∀p∈ps,p.length<18446744073709551616:=fun p hp=>by
 unfold recOk at h
 simp only[Bool.and_eq_true,decide_eq_true_eq]at h
 have:=part_fits num ps h.2 p hp
 omega
theorem goB_facts2:∀(f:Nat) (xs:List Nat) (recs:List (List Nat)) (last:Nat),(∀r∈recs,25≤r.length∧r.length≤4194304)→last≤1099511627776 →
  (∀r∈(goB f xs recs last).1,25≤r.length∧r.length≤4194304)∧(goB f xs recs last).2.1≤1099511627776∧((goB f xs recs last).1.map List.length).sum≤(recs.map List.length).sum+xs.length∧((goB f xs recs last).2.2.2=0∨(goB f xs recs last).2.2.2=53)
 | 0,xs,recs,last,h,hl=>⟨h,hl,Nat.le_add_right _ _,Or.inl rfl⟩
 | f+1,xs,recs,last,h,hl=>by
  unfold goB
  split
  ·exact⟨h,hl,Nat.le_add_right _ _,Or.inl rfl⟩
  split
  ·exact⟨h,hl,Nat.le_add_right _ _,Or.inl rfl⟩
  split
  ·exact⟨h,hl,Nat.le_add_right _ _,Or.inr rfl⟩
  rename_i h0 h9 hok
  split
  ·exact⟨h,hl,Nat.le_add_right _ _,Or.inl rfl⟩
  rename_i hsh
  have hbd:=hdOk_bounds (xs:=xs) (by simpa using hok)
  split
  ·exact⟨h,hl,Nat.le_add_right _ _,Or.inr rfl⟩
  ·rename_i num ps hrr
   split
   ·exact⟨h,hl,Nat.le_add_right _ _,Or.inr rfl⟩
   ·have hlen:(xs.take (hdN xs+13)).length=hdN xs+13:=by rw[List.length_take];omega
    obtain⟨i1,i2,i3,i4⟩:=goB_facts2 f (xs.drop (hdN xs+13)) (recs++[xs.take (hdN xs+13)]) num (fun r hr=>by
     rcases List.mem_append.1 hr with q | q
     ·exact h r q
     ·simp at q;subst q;omega) (readR_num hrr).2
    refine⟨i1,i2,?_,i4⟩
    rw[List.length_drop,List.map_append,List.sum_append]at i3
    simp only[List.map_cons,List.map_nil,List.sum_cons,List.sum_nil,hlen]at i3
    omega
theorem okj_keep {S:St} {J:Jr} {k:Nat} (h:Okj J k) (ps:List (List Nat)) (ss:List Nat→List Stk):Okj (keepR S J ps ss).2.2 (k+4194304):=by
 unfold keepR
 split
 ·exact h.mono (by omega)
 split
 ·exact h.mono (by omega)
 rename_i hok
 have hok:recOk (J.last+1) ps=true:=by simpa using hok
 obtain⟨a0,a1,a2,a3,a4⟩:=runs_jr (ss (recB (J.last+1) ps)) S J
 have hl:=recB_long hok
 have hs:=h.sum
 have hrecs:∀r∈(runs S J (ss (recB (J.last+1) ps))).2.2.recs,25≤r.length∧r.length≤4194304:=by
  rcases a0 with e | e
  ·rw[e];exact h.recs
  ·rw[e];intro r hr;cases hr
 have hsum:((runs S J (ss (recB (J.last+1) ps))).2.2.recs.map List.length).sum≤k+16777216:=by
  rcases a0 with e | e
  ·rw[e];exact hs
  ·rw[e];simp
 split
 ·refine⟨?_,?_,fun r hr=>?_,?_⟩
  ·show isNm (runs S J (ss (recB (J.last+1) ps))).2.2.name=true∧isNm ((runs S J (ss (recB (J.last+1) ps))).2.2.name++newE)=true
   rw[a2];exact h.nm
  ·show (runs S J (ss (recB (J.last+1) ps))).2.2.last+1≤_
   rw[a1]
   unfold recOk at hok
   simp only[Bool.and_eq_true,decide_eq_true_eq]at hok
   exact hok.1.2
  ·have hr:r∈(runs S J (ss (recB (J.last+1) ps))).2.2.recs++[recB (J.last+1) ps]:=hr
   rcases List.mem_append.1 hr with q | q
   ·exact hrecs r q
   ·simp at q;subst q;exact hl
  ·show (((runs S J (ss (recB (J.last+1) ps))).2.2.recs++[recB (J.last+1) ps]).map List.length).sum≤_
   rw[List.map_append,List.sum_append]
   simp only[List.map_cons,List.map_nil,List.sum_cons,List.sum_nil]
   omega
 ·refine⟨?_,?_,hrecs,?_⟩
  ·show isNm (runs S J (ss (recB (J.last+1) ps))).2.2.name=true∧isNm ((runs S J (ss (recB (J.last+1) ps))).2.2.name++newE)=true
   rw[a2];exact h.nm
  ·show (runs S J (ss (recB (J.last+1) ps))).2.2.last≤_
   rw[a1];exact h.last
  ·show ((runs S J (ss (recB (J.last+1) ps))).2.2.recs.map List.length).sum≤_
   omega
theorem okd_keep {S:St} {J:Jr} {k:Nat} (h:Okd S k) (ps:List (List Nat)) (hp:∀p∈ps,∀x∈p,x<256) (ss:List Nat→List Stk) (hs:∀r:List Nat,(∀y∈r,y<256)→r.length≤4194304→(ss r).length≤6∧∀s∈ss r,s.fits):Okd (keepR S J ps ss).2.1 (k+25165830)∧(keepR S J ps ss).2.1.room=S.room:=by
 unfold keepR
 split
 ·exact⟨h.mono (by omega),rfl⟩
 split
 ·exact⟨h.mono (by omega),rfl⟩
 rename_i hok
 have hok:recOk (J.last+1) ps=true:=by simpa using hok
 have hl:=recB_long hok
 have hsm:∀y∈recB (J.last+1) ps,y<256:=recB_small hok hp (recOk_lens hok)
 obtain⟨f1,f2⟩:=hs _ hsm hl.2
 have g:=okd_runs (ss (recB (J.last+1) ps)) J h f2
 split
 ·exact⟨g.1.mono (by omega),g.2⟩
 ·exact⟨g.1.mono (by omega),g.2⟩
theorem okj_open {S:St} (hv:Inv S) (x:Nm) (hx:isNm x=true∧isNm (x++newE)=true) (m:Nat):Okj (jnew x (S.found x)) m:=by
 have hf:=goB_facts2 ((S.bytes x).length+1) (S.bytes x) [] 0 (by simp) (by omega)
 have hb:=bytes_le hv x
 refine⟨hx,hf.2.1,hf.1,?_⟩
 show ((S.found x).1.map List.length).sum≤_
 have:=hf.2.2.1
 simp only[List.map_nil,List.sum_nil,Nat.zero_add]at this
 have e:(S.found x).1=(goB ((S.bytes x).length+1) (S.bytes x) [] 0).1:=rfl
 rw[e]
 omega
def nmOk (x:Nm):Bool:=isNm x && isNm (x++newE)
def openE (S:St) (x:Nm):Nat:=if nmOk x=false then 50 else if S.off then 45 else (S.found x).2.2.2
set_option maxHeartbeats 1000000 in
theorem Open_name (w:World) (d:Nat) (x:Nm) (hxl:x.length≤140737488351232) (hx:nmOk x=false) :
  Calls Tryz.prog 12 #[.pointer (some ⟨d,0,none⟩),.string ⟨x.toArray⟩] w fun e w'=>e=.returned (.tuple #[.pointer none,.int .i64 50])∧Below w.heap.size w w':=by
 have HN1:=hide (jname_any w x (by omega))
 have hsa:=str_add x
 have hsz:(⟨x.toArray⟩:ByteArray).size≤140737488351232:=by simpa[ByteArray.size] using hxl
 cases hn:isNm x with
 | false =>
  rw[hn]at HN1
  clear hx hn
  generalize hs1:(⟨x.toArray⟩:ByteArray)=s1 at *
  clear hs1 hsa
  go_enter Tryz.func12,Tryz.ntmps12
  go_wp2_with fail
  refine HN1.out.mono ?_
  rintro e w1 ⟨rfl,hb1⟩
  go_wp2
  go_ret2
  exact⟨rfl,hb1⟩
 | true =>
  have hn2:isNm (x++newE)=false:=by unfold nmOk at hx;rw[hn]at hx;simpa using hx
  rw[hn]at HN1
  have HN2:=hide (fun w'=>jname_any w' (x++newE) (by rw[List.length_append];simp[newE];omega))
  rw[hn2]at HN2
  clear hx hn hn2
  generalize hs1:(⟨x.toArray⟩:ByteArray)=s1 at *
  generalize hs2:(⟨(x++newE).toArray⟩:ByteArray)=s2 at *
  clear hs1 hs2
  go_enter Tryz.func12,Tryz.ntmps12
  go_wp2_with fail
  refine HN1.out.mono ?_
  rintro e w1 ⟨rfl,hb1⟩
  have HB1:=hide hb1
  clear hb1
  go_wp2_with fail
  refine(HN2.out _).mono ?_
  rintro e w2 ⟨rfl,hb2⟩
  have HB2:=hide (HB1.out.trans (hb2.mono HB1.out.size))
  clear hb2
  go_wp2
  go_ret2
  exact⟨rfl,HB2.out⟩
set_option maxHeartbeats 1000000 in
theorem Open_off (w:World) (K:Knd) (od d:Nat) (S:St) (h:Dk w K od d S) (hv:Inv S) (k:Nat) (hz:Sz S k) (hk:k≤549755813888) (hoff:S.off=true) (x:Nm) (hx1:isNm x=true) (hx2:isNm (x++newE)=true) :
  Calls Tryz.prog 12 #[.pointer (some ⟨d,0,none⟩),.string ⟨x.toArray⟩] w fun e w'=>e=.returned (.tuple #[.pointer none,.int .i64 45])∧Below w.heap.size w w':=by
 have HD:=hide h
 have hxl:x.length≤64:=(nm_len hx1).2
 have HN1:=hide (jname_any w x (by omega))
 rw[hx1]at HN1
 have hsz:(⟨x.toArray⟩:ByteArray).size≤64:=by simpa[ByteArray.size] using hxl
 have hsa:=str_add x
 have HN2:=hide (fun w'=>jname_any w' (x++newE) (by rw[List.length_append];simp[newE];omega))
 rw[hx2]at HN2
 have he:S.err x=45:=by unfold St.err;rw[if_pos hoff]
 have hby:S.bytes x=[]:=by unfold St.bytes;rw[if_neg (by omega)]
 have HRd:=hide (fun w' K' hd'=>Read_any w' K' od d S hd' hv k hz hk x (by omega))
 rw[he,hby]at HRd
 generalize hs1:(⟨x.toArray⟩:ByteArray)=s1 at *
 generalize hs2:(⟨(x++newE).toArray⟩:ByteArray)=s2 at *
 have HS1:=hide hs1
 clear hs1 hs2 h hv hz hx1 hx2 he hby
 go_enter Tryz.func12,Tryz.ntmps12
 go_wp2_with fail
 refine HN1.out.mono ?_
 rintro e w1 ⟨rfl,hb1⟩
 go_wp2_with fail
 refine(HN2.out _).mono ?_
 rintro e w2 ⟨rfl,hb2⟩
 have hbw2:Below w.heap.size w w2:=hb1.trans (hb2.mono hb1.size)
 have hjb:(w2.alloc (.cells #[.pointer (some ⟨d,0,none⟩),.string s1,.slice none 0 0,.int .u64 0,.bool false,.bool false,.bool false] 78)).heap[w2.heap.size]?=some (.cells #[.pointer (some ⟨d,0,none⟩),.string s1,.slice none 0 0,.int .u64 0,.bool false,.bool false,.bool false] 78 (0,0)):=heap_alloc_new _ _
 have hb3:Below w.heap.size w (w2.alloc (.cells #[.pointer (some ⟨d,0,none⟩),.string s1,.slice none 0 0,.int .u64 0,.bool false,.bool false,.bool false] 78)):=hbw2.alloc hbw2.size _
 have hszb:=hbw2.size
 generalize hw3:w2.alloc (.cells #[.pointer (some ⟨d,0,none⟩),.string s1,.slice none 0 0,.int .u64 0,.bool false,.bool false,.bool false] 78)=w3 at *
 obtain⟨jb,hjbe⟩:∃jb,w2.heap.size=jb:=⟨_,rfl⟩
 rw[hjbe]at hjb hszb
 have kp3:∀p,Kp p K (newK (ext K w.heap.size (0,0)) jb (od+1,1)) w w3:=fun p=>⟨hb3.os,hb3.tape,hb3.output,hb3.size,fun c hc=>by unfold newK;rw[if_neg (by omega)];exact ext_old K _ hc,fun c hc _=>hb3.block c hc⟩
 have HJ3:Hid (Jk w3 (newK (ext K w.heap.size (0,0)) jb (od+1,1)) (od+1) d jb (jnew x ([],0,false,0))) :=
  ⟨.slice none 0 0,[],⟨by rw[hjb,←HS1.out];rfl,by simp[newK],rk_nil _ _ _ _ _,fun i r hr=>by simp[jnew]at hr⟩⟩
 have HB3:=hide hb3
 have HD3:=hide (HD.out.kept (kp3 (fun _=>False)) (fun _ h=>h))
 generalize newK (ext K w.heap.size (0,0)) jb (od+1,1)=K3 at *
 have HFi:=hide (files_any w3 K3 (od+1) d jb _ HJ3.out)
 clear hb1 hb2 hbw2 hb3 kp3 hjb hszb HN1 HN2
 go_wp2_with fail
 clear hw3 hjbe
 refine HFi.out.mono ?_
 rintro e w3' ⟨rfl,rfl⟩
 go_wp2_with fail
 refine(HRd.out _ K3 HD3.out).mono ?_
 rintro e w4 ⟨a,c,rfl,hr4,hb4⟩
 have HB4:=hide (HB3.out.trans (hb4.mono HB3.out.size))
 clear hr4 hb4
 go_wp2
 go_ret2
 exact⟨rfl,HB4.out⟩
def Opened (w:World) (K:Knd) (o d:Nat) (S:St) (x:Nm) (e:Ending) (w':World):Prop :=
 ∃K',(openE S x=0∧(∃jb,e=.returned (.tuple #[.pointer (some ⟨jb,0,none⟩),.int .i64 0])∧Jk w' K' o d jb (jnew x (S.found x)))∧Kp (Ow o) K K' w w') ∨
  (openE S x=53∧e=.returned (.tuple #[.pointer none,.int .i64 53])∧Kp (Ow o) K K' w w') ∨
  ((openE S x=50∨openE S x=45)∧e=.returned (.tuple #[.pointer none,.int .i64 (openE S x:Int)])∧Kp (fun _=>False) K K' w w')
theorem nm_two {x:Nm} (h:nmOk x=true):isNm x=true∧isNm (x++newE)=true:=by
 unfold nmOk at h
 simpa using h
theorem Open_all (w:World) (K:Knd) (od o d:Nat) (ho:o≠0) (hod:o≠od) (S:St) (h:Dk w K od d S) (hv:Inv S) (k:Nat) (hz:Sz S k) (hk:k≤549755813888) (x:Nm) (hxl:x.length≤140737488351232) (hT:C.Tab w) (hK0:K 0=(0,0)) :
  Calls Tryz.prog 12 #[.pointer (some ⟨d,0,none⟩),.string ⟨x.toArray⟩] w (Opened w K o d S x):=by
 cases hn:nmOk x with
 | false =>
  refine(Open_name w d x hxl hn).mono ?_
  rintro e w' ⟨rfl,hb⟩
  have he:openE S x=50:=by unfold openE;rw[if_pos hn]
  exact⟨ext K w.heap.size (0,0),Or.inr (Or.inr ⟨Or.inl he,by rw[he];rfl,kp_below hb _ K (0,0)⟩)⟩
 | true =>
  obtain⟨h1,h2⟩:=nm_two hn
  cases hoff:S.off with
  | true =>
   refine(Open_off w K od d S h hv k hz hk hoff x h1 h2).mono ?_
   rintro e w' ⟨rfl,hb⟩
   have he:openE S x=45:=by unfold openE;rw[if_neg (by rw[hn];simp),if_pos hoff]
   exact⟨ext K w.heap.size (0,0),Or.inr (Or.inr ⟨Or.inr he,by rw[he];rfl,kp_below hb _ K (0,0)⟩)⟩
  | false =>
   refine(Open_any w K od o d ho hod S h hv k hz hk hoff x h1 h2 hT hK0).mono ?_
   rintro e w' ⟨K',hkp,hc⟩
   have he:openE S x=(S.found x).2.2.2:=by unfold openE;rw[if_neg (by rw[hn];simp),if_neg (by rw[hoff];simp)]
   have hf:=(goB_facts2 ((S.bytes x).length+1) (S.bytes x) [] 0 (by simp) (by omega)).2.2.2
   refine⟨K',?_⟩
   rcases hc with ⟨q1,jb,rfl,q2⟩ | ⟨q1,rfl⟩
   ·exact Or.inl ⟨by rw[he];exact q1,⟨jb,rfl,q2⟩,hkp⟩
   ·have q2:(S.found x).2.2.2=53:=by
     rcases hf with e | e
     ·exact absurd e q1
     ·exact e
    exact Or.inr (Or.inl ⟨by rw[he];exact q2,by rw[q2];rfl,hkp⟩)
end Go.Proofs.YtcceejdaokoihaaGreatDoor
