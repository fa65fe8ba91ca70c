import Derived.Test.YtcceejdaokoihaaGreatDoorXH
import Derived.Test.YtcceejdaokoihaaGreatDoorXC
import Derived.Test.YtcceejdaokoihaaGreatDoorDocI
set_option maxRecDepth 100000
namespace Go.Proofs.YtcceejdaokoihaaGreatDoor
open Go.RowKit
set_option maxHeartbeats 1000000 in
theorem rsmall_few (w:World) (pp:Option Addr) (k cap:Nat) (ps:List (List Nat)) (hk:ps.length=k) (hkl:k≤4294967296) (hP:Pts w pp ps) (hlen:(partsB ps).length≤2305843009213693952) :
  Calls Tryz.prog 111 #[.slice pp k cap] w fun e w'=>e=.returned (.bool (decide (k≤4096) && decide (25+(partsB ps).length≤4194304)))∧Below w.heap.size w w':=by
 have HP:=hide hP
 have HK:=hide hk
 have HLen:=hide hlen
 clear hP hk hlen
 obtain⟨bb,hbb⟩:∃bb,(decide (k≤4096) && decide (25+(partsB ps).length≤4194304))=bb:=⟨_,rfl⟩
 rw[hbb]
 have HBB:=hide hbb
 clear hbb
 go_enter Tryz.func111,Tryz.ntmps111
 go_wp2
 go_loopw [3,4] (fun b i wr=>∃(j n:Nat),j≤k∧i=.int .i64 (j:Int)∧b=.int .i64 (n:Int)∧n=25+(partsB (ps.take j)).length∧Hid (Below w.heap.size w wr)) (fun _ i _=>k - (intOf i).toNat)
 case atStart=>exact⟨0,25,Nat.zero_le _,rfl,rfl,by simp[partsB],hide (Below.refl _ _)⟩
 case round =>
  obtain⟨j,n,hj,rfl,rfl,hn,HB⟩:=hrel
  have hle:=partsB_le (ps:=ps) (k:=j)
  have hlt12:=HLen.out
  by_cases hlt:j<k
  ·have i1:(0:Int)≤(j:Int):=by omega
   have i2:(j:Int)<(k:Int):=by omega
   obtain⟨p,hp⟩:∃p,ps[j]?=some p:=⟨_,List.getElem?_eq_getElem (by rw[HK.out];exact hlt)⟩
   obtain⟨g,o,ap,cp,e1,hg,c0,c1⟩:=(HP.out.below HB.out).at hp
   have hsm:=HP.out.small p (List.mem_of_getElem? hp)
   have HPi:=hide (part_in ps j p hp)
   have hpl:=partB_len2 p (by omega)
   have hle2:=partsB_le (ps:=ps) (k:=j+1)
   have hq2:=HPi.out
   obtain⟨q,hq⟩:∃q,C.vs p.length=q:=⟨_,rfl⟩
   have HV:=hide (fun w=>C.ref_var_any p.length (by omega) w)
   unfold C.Vared at HV
   rw[hq]at HV hpl
   have HN2:Hid (n+p.length+q=25+(partsB (ps.take (j+1))).length):=by show _=_;omega
   have hb1:n+p.length+q≤4611686018427387904:=by omega
   generalize C.vals (C.varOf p.length (q - 1))=VV at *
   clear c1 hq hp hpl hle hle2 hlt12 hn hq2 HPi
   generalize p.length=pl at *
   subst e1
   have HW:=hide (show IntKind.u64.wrap (pl:Int)=(pl:Int) by rw[IntKind.wrap_u64];omega)
   have HWs:Hid (IntKind.i64.wrap (IntKind.i64.wrap ((n:Int)+(pl:Int))+(q:Int))=((n+pl+q:Nat):Int)):=by
    show _=_
    rw[IntKind.wrap_i64,IntKind.wrap_i64]
    omega
   have HP2:=hide HP.out
   clear HP
   go_wp2
   go_region_held3 (fun w'=>w'.cell? ⟨g,o+j,none⟩=some (.slice ap pl cp)) (first | assumption | go_keep)
    (first | (go_at_call 153;rw[HW.out];refine(HV.out _).mono ?_;rintro e w3 ⟨g3,k3,rfl,hown3,hb3⟩;have HB3:Hid (Below w.heap.size w w3):=HB.out.drew.trans (hb3.mono HB.out.size);have hc3:w3.cell? ⟨g,o+j,none⟩=some (.slice ap pl cp):=(hb3.cell (p:=⟨g,o+j,none⟩) hg).trans c0;clear hown3 hb3))
   go_wp2
   go_roundw
   case rel=>exact⟨j+1,n+pl+q,by omega,by go_num,by rw[HWs.out],HN2.out,HB3⟩
   case measure=>simp[intOf];omega
  ·have i2:¬(j:Int)<(k:Int):=by omega
   have ej:j=k:=by omega
   subst ej
   rw[List.take_of_length_le (by rw[HK.out];exact Nat.le_refl _)]at hn
   have HN:=hide hn
   clear hn hle hlt12
   by_cases h1:j≤4096
   ·have h1':(j:Int)≤4096:=by omega
    by_cases h2:n≤4194304
    ·have h2':(n:Int)≤4194304:=by omega
     obtain rfl:bb=true:=by rw[←HBB.out,decide_eq_true h1,←HN.out,decide_eq_true h2];rfl
     go_wp2
     go_ret
     exact⟨rfl,HB.out⟩
    ·have h2':¬(n:Int)≤4194304:=by omega
     obtain rfl:bb=false:=by rw[←HBB.out,decide_eq_true h1,←HN.out,decide_eq_false h2];rfl
     go_wp2
     go_ret
     exact⟨by first | rfl | (rw[decide_eq_false (show ¬((n:Int)≤4194304) by omega)];rfl),HB.out⟩
   ·have h1':¬(j:Int)≤4096:=by omega
    obtain rfl:bb=false:=by rw[←HBB.out,decide_eq_false h1];rfl
    go_wp2
    go_ret
    exact⟨by first | rfl | (rw[decide_eq_false (show ¬((j:Int)≤4096) by omega)];rfl),HB.out⟩
set_option maxHeartbeats 1000000 in
theorem rsmall_many (w:World) (pp:Option Addr) (k cap:Nat) (ps:List (List Nat)) (hk:ps.length=k) (hkl:k≤140737488355328) (h4:4096<k) (hP:Pts w pp ps) :
  Calls Tryz.prog 111 #[.slice pp k cap] w fun e w'=>e=.returned (.bool false)∧Below w.heap.size w w':=by
 have HP:=hide hP
 have HK:=hide hk
 have h4':¬(k:Int)≤4096:=by omega
 have h4d:decide ((k:Int)≤4096)=false:=decide_eq_false h4'
 clear hP hk
 go_enter Tryz.func111,Tryz.ntmps111
 go_wp2
 go_loopw [3,4] (fun b i wr=>∃(j:Nat) (z:Int),j≤k∧i=.int .i64 (j:Int)∧b=.int .i64 z∧Hid (Below w.heap.size w wr)) (fun _ i _=>k - (intOf i).toNat)
 case atStart=>exact⟨0,25,Nat.zero_le _,rfl,rfl,hide (Below.refl _ _)⟩
 case round =>
  obtain⟨j,n,hj,rfl,rfl,HB⟩:=hrel
  by_cases hlt:j<k
  ·have i1:(0:Int)≤(j:Int):=by omega
   have i2:(j:Int)<(k:Int):=by omega
   obtain⟨p,hp⟩:∃p,ps[j]?=some p:=⟨_,List.getElem?_eq_getElem (by rw[HK.out];exact hlt)⟩
   obtain⟨g,o,ap,cp,e1,hg,c0,c1⟩:=(HP.out.below HB.out).at hp
   have hsm:=HP.out.small p (List.mem_of_getElem? hp)
   obtain⟨q,hq⟩:∃q,C.vs p.length=q:=⟨_,rfl⟩
   have HV:=hide (fun w=>C.ref_var_any p.length (by omega) w)
   unfold C.Vared at HV
   rw[hq]at HV
   generalize C.vals (C.varOf p.length (q - 1))=VV at *
   clear c1 hq hp
   generalize p.length=pl at *
   subst e1
   have HW:=hide (show IntKind.u64.wrap (pl:Int)=(pl:Int) by rw[IntKind.wrap_u64];omega)
   have HP2:=hide HP.out
   clear HP
   go_wp2
   go_region_held3 (fun w'=>w'.cell? ⟨g,o+j,none⟩=some (.slice ap pl cp)) (first | assumption | go_keep)
    (first | (go_at_call 153;rw[HW.out];refine(HV.out _).mono ?_;rintro e w3 ⟨g3,k3,rfl,hown3,hb3⟩;have HB3:Hid (Below w.heap.size w w3):=HB.out.drew.trans (hb3.mono HB.out.size);have hc3:w3.cell? ⟨g,o+j,none⟩=some (.slice ap pl cp):=(hb3.cell (p:=⟨g,o+j,none⟩) hg).trans c0;clear hown3 hb3))
   go_wp2
   go_roundw
   case rel=>exact⟨j+1,_,by omega,by go_num,rfl,HB3⟩
   case measure=>simp[intOf];omega
  ·have i2:¬(j:Int)<(k:Int):=by omega
   go_wp2
   go_ret
   exact⟨rfl,HB.out⟩
theorem parts_long:∀(ps:List (List Nat)),(∀p∈ps,p.length≤140737488351232)→(partsB ps).length≤ps.length*140737488355328
 | [],_=>by simp[partsB]
 | p :: l,h=>by
  have ih:=parts_long l (fun q hq=>h q (List.mem_cons_of_mem _ hq))
  have hp:=h p (List.mem_cons_self ..)
  rw[partsB_cons,List.length_append,partB_len2 p (by omega),List.length_cons,Nat.add_mul,Nat.one_mul]
  have:=C.vs_bounds p.length (by omega)
  omega
theorem rsmall_all (w:World) (pp:Option Addr) (k cap:Nat) (ps:List (List Nat)) (hk:ps.length=k) (hkl:k≤140737488355328) (hP:Pts w pp ps) :
  Calls Tryz.prog 111 #[.slice pp k cap] w fun e w'=>e=.returned (.bool (decide (k≤4096) && decide (25+(partsB ps).length≤4194304)))∧Below w.heap.size w w':=by
 by_cases h:k≤4096
 ·refine rsmall_few w pp k cap ps hk (by omega) hP ?_
  have:=parts_long ps hP.small
  rw[hk]at this
  have h2:=Nat.mul_le_mul_right 140737488355328 h
  omega
 ·rw[decide_eq_false h,Bool.false_and]
  exact rsmall_many w pp k cap ps hk hkl (by omega) hP
open Go.RowKit Go.Maps
structure PtK (w:World) (K:Knd) (k:Nat × Nat) (pp:Option Addr) (ps:List (List Nat)):Prop where
 small:∀p∈ps,p.length≤140737488351232
 lie:ps=[]∨∃g o,pp=some ⟨g,o,none⟩∧K g=k∧g<w.heap.size∧∀(j:Nat) (p:List Nat),ps[j]?=some p→∃ap cp,w.cell? ⟨g,o+j,none⟩=some (.slice ap p.length cp)∧Bytes w ap p∧(p=[]∨∃q:Addr,ap=some q∧K q.block=k∧q.block<w.heap.size)
theorem PtK.pts {w:World} {K:Knd} {k:Nat × Nat} {pp:Option Addr} {ps:List (List Nat)} (h:PtK w K k pp ps):Pts w pp ps:=by
 refine⟨h.small,h.lie.imp id ?_⟩
 rintro ⟨g,o,e,_,h3,h4⟩
 exact⟨g,o,e,h3,fun j p hp=>let ⟨ap,cp,q1,q2,_⟩:=h4 j p hp;⟨ap,cp,q1,q2⟩⟩
theorem PtK.kept {q:Nat × Nat→Prop} {w w':World} {K K':Knd} {k:Nat × Nat} {pp:Option Addr} {ps:List (List Nat)} (h:PtK w K k pp ps) (hk:Kp q K K' w w') (hq:¬q k):PtK w' K' k pp ps:=by
 refine⟨h.small,h.lie.imp id ?_⟩
 rintro ⟨g,o,e,h1,h3,h4⟩
 refine⟨g,o,e,(hk.same g h3).trans h1,Nat.lt_of_lt_of_le h3 hk.size,fun j p hp=>?_⟩
 obtain⟨ap,cp,q1,q2,q3⟩:=h4 j p hp
 refine⟨ap,cp,?_,?_,?_⟩
 ·rw[←q1];exact World.cell?_of_block (hk.block g h3 (by rw[h1];exact hq))
 ·rcases q3 with rfl | ⟨a,rfl,q4,_⟩
  ·exact nil_by _ _
  ·exact bytes_kept q2 hk.size (fun g' o' e' hg=>by cases e';exact hk.block g' hg (by rw[q4];exact hq))
 ·exact q3.imp id fun ⟨a,e1,q4,q5⟩=>⟨a,e1,(hk.same _ q5).trans q4,Nat.lt_of_lt_of_le q5 hk.size⟩
theorem PtsIn.ptk {lo hi:Nat} {w:World} {K:Knd} {k:Nat × Nat} {pp:Option Addr} {ps:List (List Nat)} (h:PtsIn lo hi w pp ps) (hh:hi≤w.heap.size) (hK:∀b,lo≤b→b<hi→K b=k):PtK w K k pp ps:=by
 refine⟨h.small,h.lie.imp id ?_⟩
 rintro ⟨g,o,e,h1,h2,h3,h4⟩
 refine⟨g,o,e,hK g h1 h2,h3,fun j p hp=>?_⟩
 obtain⟨ap,cp,q1,q2,q3⟩:=h4 j p hp
 exact⟨ap,cp,q1,q2,q3.imp id fun ⟨a,e1,q4,q5⟩=>⟨a,e1,hK _ q4 q5,Nat.lt_of_lt_of_le q5 hh⟩⟩
def rcells (d:Nat) (J:Jr) (tv:Value):Array Value:=#[.pointer (some ⟨d,0,none⟩),.string ⟨J.name.toArray⟩,tv,.int .i64 (goodN J:Int),.int .u64 ((J.last+1:Nat):Int),.bool J.torn,.bool J.named,.bool J.off,.int .i64 0]
structure Rm (w:World) (K:Knd) (o d jb:Nat) (tv:Value) (vs:List Value) (J:Jr):Prop where
 blk:w.heap[jb]?=some (.cells (rcells d J tv) 116 (0,0))
 kj:K jb=(o,1)
 row:Rk w K (o,2) 31 1 tv J.recs.length vs
 tr:∀(i:Nat) (r:List Nat),J.recs[i]?=some r→∃(pp:Option Addr) (cp:Nat),vs[i]?=some (.slice pp (partsOf r).length cp)∧PtK w K (o,3) pp (partsOf r)
def Rj (w:World) (K:Knd) (o d jb:Nat) (J:Jr):Prop:=∃tv vs,Rm w K o d jb tv vs J
theorem Rm.kept {p:Nat × Nat→Prop} {K K':Knd} {w w':World} {o d jb:Nat} {tv:Value} {vs:List Value} {J:Jr} (h:Rm w K o d jb tv vs J) (hk:Kp p K K' w w') (hp:∀k,¬p (o,k)):Rm w' K' o d jb tv vs J:=by
 have hl:=lt_of_block h.blk
 refine⟨(hk.block jb hl (by rw[h.kj];exact hp _)).trans h.blk,(hk.same jb hl).trans h.kj,h.row.kept hk (hp _),fun i r hr=>?_⟩
 obtain⟨pp,cp,h1,h2⟩:=h.tr i r hr
 exact⟨pp,cp,h1,h2.kept hk (hp _)⟩
theorem Rj.kept {p:Nat × Nat→Prop} {K K':Knd} {w w':World} {o d jb:Nat} {J:Jr} (h:Rj w K o d jb J) (hk:Kp p K K' w w') (hp:∀k,¬p (o,k)):Rj w' K' o d jb J:=by
 obtain⟨tv,vs,hm⟩:=h
 exact⟨tv,vs,hm.kept hk hp⟩
theorem blk9 {w:World} {b:Nat} {x0 x1 x2 x3 x4 x5 x6 x7 x8:Value} {t:TypeId} (h:w.heap[b]?=some (.cells #[x0,x1,x2,x3,x4,x5,x6,x7,x8] t (0,0))) :
  w.cell? ⟨b,0,none⟩=some x0∧w.cell? ⟨b,1,none⟩=some x1∧w.cell? ⟨b,2,none⟩=some x2∧w.cell? ⟨b,3,none⟩=some x3∧w.cell? ⟨b,4,none⟩=some x4∧w.cell? ⟨b,5,none⟩=some x5∧w.cell? ⟨b,6,none⟩=some x6∧w.cell? ⟨b,7,none⟩=some x7∧w.cell? ⟨b,8,none⟩=some x8∧(∀o,w.frozen? ⟨b,o,none⟩=false) :=
 ⟨by simp[World.cell?,h],by simp[World.cell?,h],by simp[World.cell?,h],by simp[World.cell?,h],by simp[World.cell?,h],by simp[World.cell?,h],by simp[World.cell?,h],by simp[World.cell?,h],by simp[World.cell?,h],fun o=>by simp[World.frozen?,h]⟩
theorem Rm.trs {w:World} {K:Knd} {o d jb:Nat} {a:Option Addr} {c:Nat} {vs:List Value} {J:Jr} (h:Rm w K o d jb (.slice a J.recs.length c) vs J):Trs w a (allOf J.recs):=by
 refine⟨fun ps hp=>?_,?_⟩
 ·unfold allOf at hp
  obtain⟨r,_,rfl⟩:=List.mem_map.1 hp
  have:=parts_few r
  omega
 ·rcases h.row.own.2 with ⟨_,e2⟩ | ⟨g,cap,cur,e1,_,hg,e3,e4,e5,e6⟩
  ·left
   unfold allOf
   rw[List.eq_nil_of_length_eq_zero e2]
   rfl
  ·cases e1
   right
   refine⟨g,0,rfl,lt_of_block hg,fun i ps hp=>?_⟩
   unfold allOf at hp
   rw[List.getElem?_map]at hp
   obtain⟨r,hr,rfl⟩:=Option.map_eq_some_iff.1 hp
   obtain⟨pp,cp,hv,hm⟩:=h.tr i r hr
   refine⟨pp,cp,?_,hm.pts⟩
   have hi:i<J.recs.length:=(List.getElem?_eq_some_iff.1 hr).1
   rw[←e6,List.getElem?_take,if_pos (by omega)]at hv
   simp only[World.cell?,hg,Nat.zero_add]
   simpa using hv
theorem Rm.turn {w w':World} {K K':Knd} {o d jb:Nat} {tv:Value} {vs:List Value} {J J':Jr} (h:Rm w K o d jb tv vs J) (hk:Kp (fun k=>k=(o,1)) K K' w w') (hb:w'.heap[jb]?=some (.cells (rcells d J' tv) 116 (0,0))) (e:J'.recs=J.recs):Rm w' K' o d jb tv vs J':=by
 refine⟨hb,(hk.same jb (lt_of_block h.blk)).trans h.kj,?_,fun i r hr=>?_⟩
 ·rw[e];exact h.row.kept hk (by simp)
 ·rw[e]at hr
  obtain⟨pp,cp,h1,h2⟩:=h.tr i r hr
  exact⟨pp,cp,h1,h2.kept hk (by simp)⟩
theorem Dr.into2 {w:World} {b:Nat} {rp:Option Addr} {i c:Nat} {ps:List (List Nat)} (h:Dr w b rp i c ps) (hs:∀p∈ps,p.length≤140737488351232):PtsIn (b+1) w.heap.size w rp ps:=by
 obtain⟨vs,h1,h2⟩:=h.row
 refine⟨hs,?_⟩
 rcases h1.2 with ⟨_,e2⟩ | ⟨g,cap,cur,e1,e2,hg,e3,e4,e5,e6⟩
 ·left;exact List.eq_nil_of_length_eq_zero (by rw[h.len];exact e2)
 ·cases e1
  right
  refine⟨g,0,rfl,by omega,lt_of_block hg,lt_of_block hg,fun j p hp=>?_⟩
  obtain⟨ap,cp,hv,q2,q3⟩:=h2 j p hp
  refine⟨ap,cp,?_,q2,?_⟩
  ·have hi:j<i:=by rw[←h.len];exact(List.getElem?_eq_some_iff.1 hp).1
   rw[←e6,List.getElem?_take,if_pos (by omega)]at hv
   simp only[World.cell?,hg,Nat.zero_add]
   simpa using hv
  ·rcases q3 with q3 | ⟨q,q3,q4,q5,_⟩
   ·exact Or.inl q3
   ·exact Or.inr ⟨q,q3,by omega,q5⟩
open Go.RowKit Go.Maps Go.WideAt Go.WideShapes
set_option maxHeartbeats 2000000 in
theorem full_big (w:World) (K:Knd) (o d:Nat) (loc:Nat→Nat) (sv nv cv:Value) (S:St) (h:Dm w K o d loc sv nv cv S) (more:Nat) (hsr:Srt S.seen) (hin:∀p∈S.seen,p.2<S.files.length) (hm:more+S.used≤281474976710656) :
  Calls Tryz.prog 77 #[.pointer (some ⟨d,0,none⟩),.int .i64 (more:Int)] w fun e w'=>e=.returned (.bool (S.full more))∧Below w.heap.size w w':=by
 have HD:=hide h
 have hb:=h.blk
 unfold dcells at hb
 have HB:=hide hb
 obtain⟨q0,q1,q2,q3,q4,q5,q6,q7,q8,q9,qf⟩:=blk10 hb
 have hbl:=lt_of_block hb
 clear hb
 have HI:=hide hin
 have HS:=hide hsr
 have HM:=hide hm
 have HU:Hid (S.used=(S.seen.map fun p=>(S.file p.2).all.length).sum):=rfl
 obtain⟨R,hR⟩:∃R,S.room=R:=⟨_,rfl⟩
 obtain⟨P,hP⟩:∃P,S.planned=P:=⟨_,rfl⟩
 obtain⟨F,hF⟩:∃F,S.pFrom=F:=⟨_,rfl⟩
 obtain⟨T,hT⟩:∃T,S.pTo=T:=⟨_,rfl⟩
 rw[hR]at q0
 rw[hP]at q8
 rw[hF]at q6
 rw[hT]at q7
 have HFull:Hid (S.full more=((decide (1≤F) && decide (F≤P) && decide ((P:Int)≤T)) || decide (R<more+S.used))):=by
  show _=_
  unfold St.full St.fullP
  rw[hR,hP,hF,hT]
 have HRm:=hide hR
 clear hin hsr hm hR hP hF hT
 have HEnd:Hid (¬(1≤F∧F≤P∧(P:Int)≤T)→S.full more=decide (R<more+S.used)):=hide (fun hn=>by
  rw[HFull.out]
  have:(decide (1≤F) && decide (F≤P) && decide ((P:Int)≤T))=false:=by
   simp only[Bool.and_eq_false_iff,decide_eq_false_iff_not]
   by_cases a:1≤F
   ·by_cases b:F≤P
    ·exact Or.inr (fun c=>hn ⟨a,b,c⟩)
    ·exact Or.inl (Or.inr b)
   ·exact Or.inl (Or.inl a)
  rw[this];simp)
 -- the ways
 rcases h.sn.mp with ⟨e,hl⟩ | ⟨b,e,ho⟩
 ·subst e
  have hl0:S.seen=[]:=by
   have:=congrArg List.length hl
   rw[mapN_len]at this
   exact List.eq_nil_of_length_eq_zero this
  have hu0:S.used=0:=by unfold St.used;rw[hl0];rfl
  have HU0:=hide hu0
  clear h hl hl0 hu0
  by_cases c1:1≤F
  ·by_cases c2:F≤(P:Int)
   ·by_cases c3:(P:Int)≤T
    ·have er:S.full more=true:=by rw[HFull.out];simp[c1,c2,c3]
     rw[er]
     go_enter Tryz.func77,Tryz.ntmps77
     go_wp2
     go_quiet (fail)
     go_wp2
     go_ret
     exact⟨rfl,below_drewN (Below.refl _ _) _⟩
    ·have er:S.full more=decide (R<more):=by rw[HEnd.out (by omega),HU0.out];rfl
     rw[er]
     have hrg:=run_range_nilMap (P:=Tryz.prog) w.drew 73 _ _ Tryz.underlying73
     go_enter Tryz.func77,Tryz.ntmps77
     go_wp2
     go_quiet (fail)
     have hrg2:=run_range_nilMap (P:=Tryz.prog) (w.drewN nq) 73 _ _ Tryz.underlying73
     have hnx:∀ty,(Instr.next (.pointer (some ⟨w.heap.size,0,none⟩)) false ty).run Tryz.prog ((w.drewN nq).alloc (.mapIter none 0 #[] 0))=_:=fun ty=>run_next_nilMap (w.drewN nq) ty 0 0 #[]
     clear hrg
     have hdd:(w.drewN nq).heap.size=w.heap.size:=rfl
     rw[hdd]at hrg2
     clear hdd
     have y0:((w.drewN nq).alloc (.mapIter none 0 #[] 0)).cell? ⟨d,0,none⟩=some (.int .i64 (R:Int)):=(World.cell?_of_block (w:=w.drewN nq) (Below.heap_alloc _ _ _ hbl)).trans q0
     go_wp2
     refine wp_loop_rounds 1 ?_
     rw[rounds_succ]
     go_wp2
     go_ret
     exact⟨by first | rfl | simp[decide_eq_decide] | (congr 2;simp;omega),(below_drewN (Below.refl _ w) nq).alloc (Nat.le_refl _) _⟩
   ·have er:S.full more=decide (R<more):=by rw[HEnd.out (by omega),HU0.out];rfl
    rw[er]
    have hrg:=run_range_nilMap (P:=Tryz.prog) w.drew 73 _ _ Tryz.underlying73
    go_enter Tryz.func77,Tryz.ntmps77
    go_wp2
    go_quiet (fail)
    have hrg2:=run_range_nilMap (P:=Tryz.prog) (w.drewN nq) 73 _ _ Tryz.underlying73
    have hnx:∀ty,(Instr.next (.pointer (some ⟨w.heap.size,0,none⟩)) false ty).run Tryz.prog ((w.drewN nq).alloc (.mapIter none 0 #[] 0))=_:=fun ty=>run_next_nilMap (w.drewN nq) ty 0 0 #[]
    clear hrg
    have hdd:(w.drewN nq).heap.size=w.heap.size:=rfl
    rw[hdd]at hrg2
    clear hdd
    have y0:((w.drewN nq).alloc (.mapIter none 0 #[] 0)).cell? ⟨d,0,none⟩=some (.int .i64 (R:Int)):=(World.cell?_of_block (w:=w.drewN nq) (Below.heap_alloc _ _ _ hbl)).trans q0
    go_wp2
    refine wp_loop_rounds 1 ?_
    rw[rounds_succ]
    go_wp2
    go_ret
    exact⟨by first | rfl | simp[decide_eq_decide] | (congr 2;simp;omega),(below_drewN (Below.refl _ w) nq).alloc (Nat.le_refl _) _⟩
  ·have er:S.full more=decide (R<more):=by rw[HEnd.out (by omega),HU0.out];rfl
   rw[er]
   have hrg:=run_range_nilMap (P:=Tryz.prog) w.drew 73 _ _ Tryz.underlying73
   go_enter Tryz.func77,Tryz.ntmps77
   go_wp2
   go_quiet (fail)
   have hrg2:=run_range_nilMap (P:=Tryz.prog) (w.drewN nq) 73 _ _ Tryz.underlying73
   have hnx:∀ty,(Instr.next (.pointer (some ⟨w.heap.size,0,none⟩)) false ty).run Tryz.prog ((w.drewN nq).alloc (.mapIter none 0 #[] 0))=_:=fun ty=>run_next_nilMap (w.drewN nq) ty 0 0 #[]
   clear hrg
   have hdd:(w.drewN nq).heap.size=w.heap.size:=rfl
   rw[hdd]at hrg2
   clear hdd
   have y0:((w.drewN nq).alloc (.mapIter none 0 #[] 0)).cell? ⟨d,0,none⟩=some (.int .i64 (R:Int)):=(World.cell?_of_block (w:=w.drewN nq) (Below.heap_alloc _ _ _ hbl)).trans q0
   go_wp2
   refine wp_loop_rounds 1 ?_
   rw[rounds_succ]
   go_wp2
   go_ret
   exact⟨by first | rfl | simp[decide_eq_decide] | (congr 2;simp;omega),(below_drewN (Below.refl _ w) nq).alloc (Nat.le_refl _) _⟩
 ·subst e
  have HO:=hide ho
  clear h ho
  by_cases c1:1≤F
  ·by_cases c2:F≤(P:Int)
   ·by_cases c3:(P:Int)≤T
    ·have er:S.full more=true:=by rw[HFull.out];simp[c1,c2,c3]
     rw[er]
     go_enter Tryz.func77,Tryz.ntmps77
     go_wp2
     go_quiet (fail)
     go_wp2
     go_ret
     exact⟨rfl,below_drewN (Below.refl _ _) _⟩
    ·have HEr:Hid (S.full more=decide (R<more+S.used)):=hide (HEnd.out (by omega))
     rw[HEr.out]
     go_enter Tryz.func77,Tryz.ntmps77
     go_wp2
     go_quiet (fail)
     have HO2:Hid ((w.drewN nq).ownsMap Tryz.prog 9 fel b (mapN loc S.seen).length (toD (mapN loc S.seen))):=HO.out
     go_wp2_with (first
      | (at_range;refine wpList_range_own _ rfl _ 73 rfl 9 89 kS Tryz.underlying73 fel b _ _ rfl HO2.out ?_;intro w0 hrg0 hg0 hs0)
      | go_in)
     try go_frame
     have HR0:=hide hrg0
     have HB0:Hid (Below w.heap.size w w0):=(below_drewN (Below.refl _ w) nq).grown hg0 (Nat.le_refl _) (fun _ e=>by cases e)
     clear hrg0 hg0 hs0
     go_loopw [1] (fun mv wr=>∃(left:Lit→Bool) (cnt m:Nat),mv=.int .i64 (m:Int)∧Hid (wr.ranges Tryz.prog 9 fel b w.heap.size (mapN loc S.seen).length (toD (mapN loc S.seen)) left cnt)∧Hid (m=more+sumL (fun i=>(S.file i).all.length) left S.seen)∧Hid (Below w.heap.size w wr)) (fun _ wr=>wr.rangeLeft b w.heap.size)
     case atStart =>
      refine⟨_,_,more,rfl,HR0,?_,HB0⟩
      show _=_
      rw[sumL_none _ _ (fun p hp=>has_seen hp)];rfl
     case round =>
      obtain⟨left,cnt,m,rfl,HR,HSum,HB2⟩:=hrel
      have hmb:m≤281474976710656:=by
       have e1:=HSum.out
       have e2:=sumL_le (fun i=>(S.file i).all.length) left S.seen
       have e3:=HM.out
       rw[HU.out]at e3
       omega
      go_wp2_with (first
       | (at_next;refine wpList_next_ranges _ rfl _ rfl 9 kS fel Go.Proofs.encStr (fun q:Option Nat=>Value.pointer (q.map fun b=>⟨b,0,none⟩)) (fun key kl hk=>by obtain⟨x,hx,_⟩:=Maps.keyOf_str Tryz.underlying9 hk;exact⟨x,hx⟩) (fun v y hv=>by rcases fel_inv hv with ⟨q,rfl,_⟩ | ⟨rfl,_⟩;exact⟨some q,rfl⟩;exact⟨none,rfl⟩) b w.heap.size _ _ _ _ rfl HR.out ?_ ?_)
       | go_in)
      ·intro hc0 hl0
       have HE:Hid (more+S.used=m):=by
        show _=_
        rw[HSum.out,sumL_all _ _ hl0];rfl
       obtain⟨s0,s1,s2,s3,s4,s5,s6,s7,s8,s9,sf⟩:=blk10 ((HB2.out.block d hbl).trans HB.out)
       rw[HRm.out]at s0
       go_wp2
       go_ret
       refine⟨?_,HB2.out⟩
       rw[HE.out]
       first | rfl | simp[decide_eq_decide] | (congr 2;simp;omega)
      ·intro x q kl yd yp w2 cnt2 hkey hlk hv hat hrg2 hlt hg2 hs2 hen
       clear hs2
       obtain⟨x',ex,rfl,_⟩:=Maps.keyOf_str Tryz.underlying9 hkey
       obtain rfl:x=x':=encStr_inj ex
       obtain⟨i,hi,rfl⟩:∃i,lookN S.seen x=some i∧q=some (loc i):=by
        have h1:=hat (.lit (.int .i64 (-2)))
        rw[toD_at,mapN_look]at h1
        cases hlo:lookN S.seen x with
        | none=>rw[hlo]at h1;rcases fel_inv hv with ⟨c,_,h2⟩ | ⟨_,h2⟩ <;> (rw[←h1]at h2;simp at h2;try omega)
        | some i =>
         rw[hlo]at h1
         refine⟨i,rfl,?_⟩
         rcases fel_inv hv with ⟨c,h3,h2⟩ | ⟨_,h2⟩
         ·rw[←h1]at h2
          simp at h2
          cases q with
          | none=>simp at h3
          | some q=>simp at h3;rw[h3];congr 1;omega
         ·rw[←h1]at h2;simp at h2
       have hmem:=(look_mem HS.out).1 hi
       have HF:=hide (HD.out.fl i _ (S.file_some (HI.out _ hmem)))
       have hll:=HF.out.lt
       obtain⟨fs,fu,hfl,_,_⟩:=HF.out.fl
       have HB3:Hid (Below w.heap.size w w2):=HB2.out.grown hg2 HB2.out.size (fun j e=>by cases e;exact Nat.le_refl _)
       obtain⟨z0,z1,z2,zf⟩:=blk3 ((HB3.out.block (loc i) hll).trans hfl.blk)
       have HS2:=hide (sumL_step (fun i=>(S.file i).all.length) hlk S.seen HS.out.nodup hmem)
       have HLe:=hide (sumL_le (fun i=>(S.file i).all.length) (fun z=>left z && !z.sameKey (.string x)) S.seen)
       have hsz2:m+(S.file i).all.length≤281474976710656:=by
        have e1:=HS2.out
        have e2:=HLe.out
        have e3:=HM.out
        have e4:=HSum.out
        rw[HU.out]at e3
        omega
       have HSum2:Hid (m+(S.file i).all.length=more+sumL (fun i=>(S.file i).all.length) (fun z=>left z && !z.sameKey (.string x)) S.seen):=by
        show _=_
        have e1:=HS2.out
        have e4:=HSum.out
        omega
       have HRn:=hide hrg2
       have HLt:=hide hlt
       clear hat hv hkey hlk hrg2 hlt hg2 hmem hfl z0 z1
       generalize (S.file i).all.length=n at *
       have hll2:=Nat.lt_of_lt_of_le hll HB3.out.size
       go_wp2
       go_roundw
       case rel =>
        first
         | exact⟨_,cnt2,m+n,by go_num,HRn,HSum2,HB3⟩
         | exact⟨_,cnt2,m+n,by omega,HRn,HSum2⟩
       case measure=>rw[HRn.out.left_eq,HR.out.left_eq];exact HLt.out
   ·have HEr:Hid (S.full more=decide (R<more+S.used)):=hide (HEnd.out (by omega))
    rw[HEr.out]
    go_enter Tryz.func77,Tryz.ntmps77
    go_wp2
    go_quiet (fail)
    have HO2:Hid ((w.drewN nq).ownsMap Tryz.prog 9 fel b (mapN loc S.seen).length (toD (mapN loc S.seen))):=HO.out
    go_wp2_with (first
     | (at_range;refine wpList_range_own _ rfl _ 73 rfl 9 89 kS Tryz.underlying73 fel b _ _ rfl HO2.out ?_;intro w0 hrg0 hg0 hs0)
     | go_in)
    try go_frame
    have HR0:=hide hrg0
    have HB0:Hid (Below w.heap.size w w0):=(below_drewN (Below.refl _ w) nq).grown hg0 (Nat.le_refl _) (fun _ e=>by cases e)
    clear hrg0 hg0 hs0
    go_loopw [1] (fun mv wr=>∃(left:Lit→Bool) (cnt m:Nat),mv=.int .i64 (m:Int)∧Hid (wr.ranges Tryz.prog 9 fel b w.heap.size (mapN loc S.seen).length (toD (mapN loc S.seen)) left cnt)∧Hid (m=more+sumL (fun i=>(S.file i).all.length) left S.seen)∧Hid (Below w.heap.size w wr)) (fun _ wr=>wr.rangeLeft b w.heap.size)
    case atStart =>
     refine⟨_,_,more,rfl,HR0,?_,HB0⟩
     show _=_
     rw[sumL_none _ _ (fun p hp=>has_seen hp)];rfl
    case round =>
     obtain⟨left,cnt,m,rfl,HR,HSum,HB2⟩:=hrel
     have hmb:m≤281474976710656:=by
      have e1:=HSum.out
      have e2:=sumL_le (fun i=>(S.file i).all.length) left S.seen
      have e3:=HM.out
      rw[HU.out]at e3
      omega
     go_wp2_with (first
      | (at_next;refine wpList_next_ranges _ rfl _ rfl 9 kS fel Go.Proofs.encStr (fun q:Option Nat=>Value.pointer (q.map fun b=>⟨b,0,none⟩)) (fun key kl hk=>by obtain⟨x,hx,_⟩:=Maps.keyOf_str Tryz.underlying9 hk;exact⟨x,hx⟩) (fun v y hv=>by rcases fel_inv hv with ⟨q,rfl,_⟩ | ⟨rfl,_⟩;exact⟨some q,rfl⟩;exact⟨none,rfl⟩) b w.heap.size _ _ _ _ rfl HR.out ?_ ?_)
      | go_in)
     ·intro hc0 hl0
      have HE:Hid (more+S.used=m):=by
       show _=_
       rw[HSum.out,sumL_all _ _ hl0];rfl
      obtain⟨s0,s1,s2,s3,s4,s5,s6,s7,s8,s9,sf⟩:=blk10 ((HB2.out.block d hbl).trans HB.out)
      rw[HRm.out]at s0
      go_wp2
      go_ret
      refine⟨?_,HB2.out⟩
      rw[HE.out]
      first | rfl | simp[decide_eq_decide] | (congr 2;simp;omega)
     ·intro x q kl yd yp w2 cnt2 hkey hlk hv hat hrg2 hlt hg2 hs2 hen
      clear hs2
      obtain⟨x',ex,rfl,_⟩:=Maps.keyOf_str Tryz.underlying9 hkey
      obtain rfl:x=x':=encStr_inj ex
      obtain⟨i,hi,rfl⟩:∃i,lookN S.seen x=some i∧q=some (loc i):=by
       have h1:=hat (.lit (.int .i64 (-2)))
       rw[toD_at,mapN_look]at h1
       cases hlo:lookN S.seen x with
       | none=>rw[hlo]at h1;rcases fel_inv hv with ⟨c,_,h2⟩ | ⟨_,h2⟩ <;> (rw[←h1]at h2;simp at h2;try omega)
       | some i =>
        rw[hlo]at h1
        refine⟨i,rfl,?_⟩
        rcases fel_inv hv with ⟨c,h3,h2⟩ | ⟨_,h2⟩
        ·rw[←h1]at h2
         simp at h2
         cases q with
         | none=>simp at h3
         | some q=>simp at h3;rw[h3];congr 1;omega
        ·rw[←h1]at h2;simp at h2
      have hmem:=(look_mem HS.out).1 hi
      have HF:=hide (HD.out.fl i _ (S.file_some (HI.out _ hmem)))
      have hll:=HF.out.lt
      obtain⟨fs,fu,hfl,_,_⟩:=HF.out.fl
      have HB3:Hid (Below w.heap.size w w2):=HB2.out.grown hg2 HB2.out.size (fun j e=>by cases e;exact Nat.le_refl _)
      obtain⟨z0,z1,z2,zf⟩:=blk3 ((HB3.out.block (loc i) hll).trans hfl.blk)
      have HS2:=hide (sumL_step (fun i=>(S.file i).all.length) hlk S.seen HS.out.nodup hmem)
      have HLe:=hide (sumL_le (fun i=>(S.file i).all.length) (fun z=>left z && !z.sameKey (.string x)) S.seen)
      have hsz2:m+(S.file i).all.length≤281474976710656:=by
       have e1:=HS2.out
       have e2:=HLe.out
       have e3:=HM.out
       have e4:=HSum.out
       rw[HU.out]at e3
       omega
      have HSum2:Hid (m+(S.file i).all.length=more+sumL (fun i=>(S.file i).all.length) (fun z=>left z && !z.sameKey (.string x)) S.seen):=by
       show _=_
       have e1:=HS2.out
       have e4:=HSum.out
       omega
      have HRn:=hide hrg2
      have HLt:=hide hlt
      clear hat hv hkey hlk hrg2 hlt hg2 hmem hfl z0 z1
      generalize (S.file i).all.length=n at *
      have hll2:=Nat.lt_of_lt_of_le hll HB3.out.size
      go_wp2
      go_roundw
      case rel =>
       first
        | exact⟨_,cnt2,m+n,by go_num,HRn,HSum2,HB3⟩
        | exact⟨_,cnt2,m+n,by omega,HRn,HSum2⟩
      case measure=>rw[HRn.out.left_eq,HR.out.left_eq];exact HLt.out
  ·have HEr:Hid (S.full more=decide (R<more+S.used)):=hide (HEnd.out (by omega))
   rw[HEr.out]
   go_enter Tryz.func77,Tryz.ntmps77
   go_wp2
   go_quiet (fail)
   have HO2:Hid ((w.drewN nq).ownsMap Tryz.prog 9 fel b (mapN loc S.seen).length (toD (mapN loc S.seen))):=HO.out
   go_wp2_with (first
    | (at_range;refine wpList_range_own _ rfl _ 73 rfl 9 89 kS Tryz.underlying73 fel b _ _ rfl HO2.out ?_;intro w0 hrg0 hg0 hs0)
    | go_in)
   try go_frame
   have HR0:=hide hrg0
   have HB0:Hid (Below w.heap.size w w0):=(below_drewN (Below.refl _ w) nq).grown hg0 (Nat.le_refl _) (fun _ e=>by cases e)
   clear hrg0 hg0 hs0
   go_loopw [1] (fun mv wr=>∃(left:Lit→Bool) (cnt m:Nat),mv=.int .i64 (m:Int)∧Hid (wr.ranges Tryz.prog 9 fel b w.heap.size (mapN loc S.seen).length (toD (mapN loc S.seen)) left cnt)∧Hid (m=more+sumL (fun i=>(S.file i).all.length) left S.seen)∧Hid (Below w.heap.size w wr)) (fun _ wr=>wr.rangeLeft b w.heap.size)
   case atStart =>
    refine⟨_,_,more,rfl,HR0,?_,HB0⟩
    show _=_
    rw[sumL_none _ _ (fun p hp=>has_seen hp)];rfl
   case round =>
    obtain⟨left,cnt,m,rfl,HR,HSum,HB2⟩:=hrel
    have hmb:m≤281474976710656:=by
     have e1:=HSum.out
     have e2:=sumL_le (fun i=>(S.file i).all.length) left S.seen
     have e3:=HM.out
     rw[HU.out]at e3
     omega
    go_wp2_with (first
     | (at_next;refine wpList_next_ranges _ rfl _ rfl 9 kS fel Go.Proofs.encStr (fun q:Option Nat=>Value.pointer (q.map fun b=>⟨b,0,none⟩)) (fun key kl hk=>by obtain⟨x,hx,_⟩:=Maps.keyOf_str Tryz.underlying9 hk;exact⟨x,hx⟩) (fun v y hv=>by rcases fel_inv hv with ⟨q,rfl,_⟩ | ⟨rfl,_⟩;exact⟨some q,rfl⟩;exact⟨none,rfl⟩) b w.heap.size _ _ _ _ rfl HR.out ?_ ?_)
     | go_in)
    ·intro hc0 hl0
     have HE:Hid (more+S.used=m):=by
      show _=_
      rw[HSum.out,sumL_all _ _ hl0];rfl
     obtain⟨s0,s1,s2,s3,s4,s5,s6,s7,s8,s9,sf⟩:=blk10 ((HB2.out.block d hbl).trans HB.out)
     rw[HRm.out]at s0
     go_wp2
     go_ret
     refine⟨?_,HB2.out⟩
     rw[HE.out]
     first | rfl | simp[decide_eq_decide] | (congr 2;simp;omega)
    ·intro x q kl yd yp w2 cnt2 hkey hlk hv hat hrg2 hlt hg2 hs2 hen
     clear hs2
     obtain⟨x',ex,rfl,_⟩:=Maps.keyOf_str Tryz.underlying9 hkey
     obtain rfl:x=x':=encStr_inj ex
     obtain⟨i,hi,rfl⟩:∃i,lookN S.seen x=some i∧q=some (loc i):=by
      have h1:=hat (.lit (.int .i64 (-2)))
      rw[toD_at,mapN_look]at h1
      cases hlo:lookN S.seen x with
      | none=>rw[hlo]at h1;rcases fel_inv hv with ⟨c,_,h2⟩ | ⟨_,h2⟩ <;> (rw[←h1]at h2;simp at h2;try omega)
      | some i =>
       rw[hlo]at h1
       refine⟨i,rfl,?_⟩
       rcases fel_inv hv with ⟨c,h3,h2⟩ | ⟨_,h2⟩
       ·rw[←h1]at h2
        simp at h2
        cases q with
        | none=>simp at h3
        | some q=>simp at h3;rw[h3];congr 1;omega
       ·rw[←h1]at h2;simp at h2
     have hmem:=(look_mem HS.out).1 hi
     have HF:=hide (HD.out.fl i _ (S.file_some (HI.out _ hmem)))
     have hll:=HF.out.lt
     obtain⟨fs,fu,hfl,_,_⟩:=HF.out.fl
     have HB3:Hid (Below w.heap.size w w2):=HB2.out.grown hg2 HB2.out.size (fun j e=>by cases e;exact Nat.le_refl _)
     obtain⟨z0,z1,z2,zf⟩:=blk3 ((HB3.out.block (loc i) hll).trans hfl.blk)
     have HS2:=hide (sumL_step (fun i=>(S.file i).all.length) hlk S.seen HS.out.nodup hmem)
     have HLe:=hide (sumL_le (fun i=>(S.file i).all.length) (fun z=>left z && !z.sameKey (.string x)) S.seen)
     have hsz2:m+(S.file i).all.length≤281474976710656:=by
      have e1:=HS2.out
      have e2:=HLe.out
      have e3:=HM.out
      have e4:=HSum.out
      rw[HU.out]at e3
      omega
     have HSum2:Hid (m+(S.file i).all.length=more+sumL (fun i=>(S.file i).all.length) (fun z=>left z && !z.sameKey (.string x)) S.seen):=by
      show _=_
      have e1:=HS2.out
      have e4:=HSum.out
      omega
     have HRn:=hide hrg2
     have HLt:=hide hlt
     clear hat hv hkey hlk hrg2 hlt hg2 hmem hfl z0 z1
     generalize (S.file i).all.length=n at *
     have hll2:=Nat.lt_of_lt_of_le hll HB3.out.size
     go_wp2
     go_roundw
     case rel =>
      first
       | exact⟨_,cnt2,m+n,by go_num,HRn,HSum2,HB3⟩
       | exact⟨_,cnt2,m+n,by omega,HRn,HSum2⟩
     case measure=>rw[HRn.out.left_eq,HR.out.left_eq];exact HLt.out
set_option maxHeartbeats 2000000 in
theorem Append_long (w:World) (K:Knd) (o d:Nat) (S:St) (h:Dk w K o d S) (k:Nat) (x:Nm) (hx:x.length≤140737488355328) (sp:Option Addr) (m cap:Nat) (xs:List Nat) (hxm:xs.length=m) (hv:Inv S) (hz:Sz S k) (hk:k≤549755813888) (hbig:16777216<m) (hml:m≤140737488355328) :
  Calls Tryz.prog 32 #[.pointer (some ⟨d,0,none⟩),.string ⟨x.toArray⟩,.slice sp m cap] w fun e w'=>∃K',e=.returned (.int .i64 ((S.appendR x xs).1:Int))∧Dk w' K' o d (S.appendR x xs).2∧Kp (Ow o) K K' w w':=by
 obtain⟨loc,sv,nv,cv,hm⟩:=h
 have HD:=hide hm
 have HFull:Hid (S.stroked.full m=true):=by
  show _=_
  unfold St.full
  rw[decide_eq_true (show S.stroked.room<m+S.stroked.used from (by show S.room<_;have:=hv.room;omega))]
  simp
 have hb:=hm.blk
 unfold dcells at hb
 obtain⟨q0,q1,q2,q3,q4,q5,q6,q7,q8,q9,qf⟩:=blk10 hb
 have HNm:=hide (fileName_any w x hx)
 have hlen:=fun ty=>hm.sn.mp.len ty
 rw[mapN_len]at hlen
 have hlk:=hm.sn.mp.look x (by unfold maxLen;omega)
 rw[mapN_look]at hlk
 have HX:=hide hxm
 by_cases ho:S.off=true
 ·have e0:S.appendR x xs=(45,S):=by unfold St.appendR;rw[if_pos ho]
  rw[e0]
  rw[ho]at q9
  clear e0 hlk hlen hm hb
  go_enter Tryz.func32,Tryz.ntmps32
  go_wp2
  go_ret
  exact⟨K,rfl,⟨loc,sv,nv,cv,HD.out⟩,Kp.refl _ _ _⟩
 have ho':S.off=false:=by simpa using ho
 rw[ho']at q9
 by_cases hn:isNm x=true
 case neg =>
  have hn':isNm x=false:=by simpa using hn
  rw[hn']at HNm
  have e0:S.appendR x xs=(41,S):=by unfold St.appendR;rw[if_neg ho,if_pos (Or.inl hn')]
  rw[e0]
  generalize (lookN S.seen x).map loc=lo at *
  clear e0 hlen hm hb
  go_enter Tryz.func32,Tryz.ntmps32
  go_wp2_with fail
  refine HNm.out.mono ?_
  rintro e w2 ⟨rfl,rfl⟩
  go_wp2
  go_ret
  exact⟨K,rfl,⟨loc,sv,nv,cv,HD.out⟩,Kp.refl _ _ _⟩
 rw[hn]at HNm
 by_cases hfull:lookN S.seen x=none∧64≤S.seen.length
 ·have e0:S.appendR x xs=(41,S):=by unfold St.appendR;rw[if_neg ho,if_pos (Or.inr hfull)]
  rw[e0]
  obtain⟨f1,f2⟩:=hfull
  rw[f1]at hlk
  simp only[Option.map_none]at hlk
  have f2':(64:Int)≤(S.seen.length:Int):=by omega
  clear e0 hm hb
  go_enter Tryz.func32,Tryz.ntmps32
  go_wp2_with fail
  refine HNm.out.mono ?_
  rintro e w2 ⟨rfl,rfl⟩
  go_wp2
  go_ret
  exact⟨K,rfl,⟨loc,sv,nv,cv,HD.out⟩,Kp.refl _ _ _⟩
 have e0:S.appendR x xs=if S.stroked.full m then (if S.power=0 then 44 else S.power,S.stroked) else
   match lookN S.seen x with
   | some i=>(S.power,S.stroked.turn i ((S.file i).add xs))
   | none=>(S.power,((S.stroked.made ⟨[],[]⟩).ren ⟨[],x,S.files.length⟩).turn S.files.length ((⟨[],[]⟩:Fil).add xs)):=by
  unfold St.appendR;rw[if_neg ho,if_neg (by rintro (h | h);rw[hn]at h;cases h;exact hfull h),hxm]
  rfl
 rw[e0]
 have HSk:=hide (stroke_any w K o d loc sv nv cv S hm (by have:=hz.st;omega) (by have:=hz.pl;omega))
 have HPw:=hide (power_or S)
 have HFu:=hide (fun (w3:World) (h3:Dm w3 K o d loc sv nv cv S.stroked)=>full_big w3 K o d loc sv nv cv S.stroked h3 m hv.srt (fun p hp=>(hv.ins p hp).1) (by have h1:=hv.used;have h2:=hv.room;rw[used_stroked];omega))
 have HN2:=hide (nm_len hn)
 clear e0 hb hm
 cases hl:lookN S.seen x with
 | some i =>
  rw[hl]at hlk
  simp only[Option.map_some]at hlk
  clear hfull hlen hl
  have hfu:=HFull.out
  simp only[hfu]at HFu
  rw[if_pos hfu]
  generalize S.power=pw at *
  have HOr:=hide (fun (w:World) (g:Nat) c0 c1=>or_any w g pw HPw.out c0 c1)
  obtain⟨rr,hrr⟩:∃rr:Nat,(if pw=0 then 44 else pw)=rr:=⟨_,rfl⟩
  simp only[hrr]at HOr ⊢
  clear hrr
  all_goals
   go_enter Tryz.func32,Tryz.ntmps32
   go_wp2_with fail
   refine HNm.out.mono ?_
   rintro e w2 ⟨rfl,rfl⟩
   go_wp2_with fail
   refine HSk.out.mono ?_
   rintro e w3 ⟨rfl,hd3,hk3⟩
   have HD3:=hide hd3
   have HK3:=hide hk3
   clear hd3 hk3
   go_wp2_with fail
   refine(HFu.out _ HD3.out).mono ?_
   rintro e w4 ⟨rfl,hb4⟩
   have HB4:=hide hb4
   clear hb4
   go_wp2_with fail
   refine(HOr.out _ w4.heap.size (by simp) (by simp)).mono ?_
   rintro e w5 ⟨rfl,rfl⟩
   go_wp2
   go_ret
   exact⟨_,rfl,⟨loc,sv,nv,cv,HD3.out.kept (kp_below (HB4.out.alloc HB4.out.size _) (fun _=>False) K (0,0)) (fun _ h=>h)⟩,(HK3.out.mono (fun k hk=>by rw[hk])).trans ((kp_below (HB4.out.alloc HB4.out.size _) (fun _=>False) K (0,0)).mono (fun k hk=>hk.elim))⟩
 | none =>
  rw[hl]at hlk
  simp only[Option.map_none]at hlk
  have hm64:¬(64:Int)≤(S.seen.length:Int):=by intro h;exact hfull ⟨hl,by omega⟩
  clear hfull hl
  have hfu:=HFull.out
  simp only[hfu]at HFu
  rw[if_pos hfu]
  generalize S.power=pw at *
  have HOr:=hide (fun (w:World) (g:Nat) c0 c1=>or_any w g pw HPw.out c0 c1)
  obtain⟨rr,hrr⟩:∃rr:Nat,(if pw=0 then 44 else pw)=rr:=⟨_,rfl⟩
  simp only[hrr]at HOr ⊢
  clear hrr
  all_goals
   go_enter Tryz.func32,Tryz.ntmps32
   go_wp2_with fail
   refine HNm.out.mono ?_
   rintro e w2 ⟨rfl,rfl⟩
   go_wp2_with fail
   refine HSk.out.mono ?_
   rintro e w3 ⟨rfl,hd3,hk3⟩
   have HD3:=hide hd3
   have HK3:=hide hk3
   clear hd3 hk3
   go_wp2_with fail
   refine(HFu.out _ HD3.out).mono ?_
   rintro e w4 ⟨rfl,hb4⟩
   have HB4:=hide hb4
   clear hb4
   go_wp2_with fail
   refine(HOr.out _ w4.heap.size (by simp) (by simp)).mono ?_
   rintro e w5 ⟨rfl,rfl⟩
   go_wp2
   go_ret
   exact⟨_,rfl,⟨loc,sv,nv,cv,HD3.out.kept (kp_below (HB4.out.alloc HB4.out.size _) (fun _=>False) K (0,0)) (fun _ h=>h)⟩,(HK3.out.mono (fun k hk=>by rw[hk])).trans ((kp_below (HB4.out.alloc HB4.out.size _) (fun _=>False) K (0,0)).mono (fun k hk=>hk.elim))⟩
theorem Append_all (w:World) (K:Knd) (o d:Nat) (S:St) (h:Dk w K o d S) (k:Nat) (x:Nm) (hx:x.length≤140737488355328) (sp:Option Addr) (m cap:Nat) (xs:List Nat) (hxm:xs.length=m) (hv:Inv S) (hz:Sz S k) (hk:k≤274877906944) (hml:m≤140737488355328) (hby:Bytes w sp xs) (hal:Alien K o sp xs) :
  Calls Tryz.prog 32 #[.pointer (some ⟨d,0,none⟩),.string ⟨x.toArray⟩,.slice sp m cap] w fun e w'=>∃K',e=.returned (.int .i64 ((S.appendR x xs).1:Int))∧Dk w' K' o d (S.appendR x xs).2∧Kp (Ow o) K K' w w':=by
 by_cases hb:m≤16777216
 ·refine Append_any w K o d S h k x hx sp m cap xs hxm ⟨hv,hz,by omega,hby,hal,?_⟩
  rcases hby.lie with e | ⟨g,q,e,hg,_⟩
  ·exact Or.inl e
  ·right
   intro g' q' e'
   rw[e]at e'
   cases e'
   exact hg
 ·exact Append_long w K o d S h k x hx sp m cap xs hxm hv hz (by omega) (by omega) hml
end Go.Proofs.YtcceejdaokoihaaGreatDoor
