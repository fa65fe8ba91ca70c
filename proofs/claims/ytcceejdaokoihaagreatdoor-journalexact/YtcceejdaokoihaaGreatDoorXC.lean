import Derived.Test.YtcceejdaokoihaaGreatDoorXH
import Derived.Test.YtcceejdaokoihaaGreatDoorJEq
set_option maxRecDepth 100000
namespace Go.Proofs.YtcceejdaokoihaaGreatDoor
open Go.RowKit
set_option maxHeartbeats 1000000 in
theorem rhead_any (w:World) (g o:Nat) (n cap:Nat) (xs:List Nat) (hn:xs.length=n) (h9:9≤n) (hcap:n≤cap) (hc2:cap≤9223372036854775807) (hx:Bytes w (some ⟨g,o,none⟩) xs) :
  Calls Tryz.prog 151 #[.slice (some ⟨g,o,none⟩) n cap] w fun e w'=>e=.returned (.tuple #[.int .i64 ((hdN xs:Int)+13),.bool (hdOk xs)])∧Below w.heap.size w w':=by
 have h9':(9:Int)≤(cap:Int):=by omega
 have hd1:hdN xs<4294967296:=by
  unfold hdN
  have:=C.be_lt ((xs.drop 1).take 4) (fun x hx'=>hx.small x (List.mem_of_mem_drop (List.mem_of_mem_take hx')))
  have h4:((xs.drop 1).take 4).length≤4:=by rw[List.length_take];omega
  have:=Nat.pow_le_pow_right (n:=256) (by omega) h4
  omega
 have HXt:Hid (Bytes w (some ⟨g,o,none⟩) (xs.take 9)):=Bytes.of_c (C.Bytes.take hx.c 9)
 have HTl:Hid ((xs.take 9).length=9):=by show _=_;rw[List.length_take];omega
 have HEy:Hid (C.Ey (w.alloc (.cells #[.slice (some ⟨g,o,none⟩) 9 cap,.int .i64 0,.int .i64 0] 226)) w.heap.size (some ⟨g,o,none⟩) cap (xs.take 9) 0 0):=by
  refine⟨by rw[HTl.out];exact heap_alloc_new _ _,(HXt.out.below ((Below.refl _ _).alloc (Nat.le_refl _) _)).c,Or.inr ⟨g,o,rfl⟩,by rw[HTl.out];omega,by rw[HTl.out];omega,hc2,Nat.zero_le _⟩
 have HB0:Hid (Below w.heap.size w (w.alloc (.cells #[.slice (some ⟨g,o,none⟩) 9 cap,.int .i64 0,.int .i64 0] 226))):=(Below.refl _ _).alloc (Nat.le_refl _) _
 have e1:C.rNext 0 0 (xs.take 9) 0 0=(⟨C.be ((xs.take 9).take 1),0,0,1,0⟩,1,0):=rn_first HTl.out
 have e2:C.rNext 1 0 (xs.take 9) 1 0=(⟨hdN xs,0,0,4,0⟩,5,0):=by
  rw[rn_second HTl.out]
  have:((xs.take 9).drop 1).take 4=(xs.drop 1).take 4:=by
   rw[List.drop_take,List.take_take]
   rfl
  rw[this]
  rfl
 have HOk:Hid (hdOk xs=(decide (12≤hdN xs) && decide (hdN xs≤4194291) && decide (xs.take 9=headB (hdN xs)))):=rfl
 have HHd:Hid (headB (hdN xs)=([167]++C.beOf (hdN xs) 4)++C.beOf (C.sumOf ([167]++C.beOf (hdN xs) 4)) 4):=by
  show _=_
  unfold headB hd5
  rw[pow_small]
 generalize hdN xs=N at *
 generalize hdOk xs=ok at *
 generalize headB N=hb at *
 have HX:=hide hx
 have HE1:=hide e1
 have HE2:=hide e2
 clear hx e1 e2
 generalize xs.take 9=ys at *
 have hs1:=sum_lt ([167]++C.beOf N 4) (fun x hx=>by
  rcases List.mem_append.1 hx with h | h
  ·simp at h;omega
  ·exact be_small _ _ x h)
 go_enter Tryz.func151,Tryz.ntmps151
 go_wp2_with fail
 generalize w.alloc (.cells #[.slice (some ⟨g,o,none⟩) 9 cap,.int .i64 0,.int .i64 0] 226)=u0 at *
 have HU:=hide (C.eu8_any u0 w.heap.size _ _ _ _ _ HEy.out)
 rw[HE1.out]at HU
 refine HU.out.mono ?_
 rintro e u1 ⟨rfl,hey1,hbt1⟩
 have HEy1:=hide hey1
 have HB1:=hide (but_below hbt1 HB0.out (Nat.le_refl _) HB0.out.size)
 clear hey1 hbt1 HU HEy HB0 HE1
 have HU:=hide (C.eu32_any u1 w.heap.size _ _ _ _ _ HEy1.out)
 rw[HE2.out]at HU
 go_wp2_with fail
 refine HU.out.mono ?_
 rintro e u2 ⟨rfl,hey2,hbt2⟩
 have HB2:=hide (but_below hbt2 HB1.out (Nat.le_refl _) HB1.out.size)
 clear hey2 hbt2 HU HEy1 HB1 HE2
 have hN32:(N:Int) % 4294967296=(N:Int):=by omega
 have H1:=hide (C.one_lr u2 167 (by omega))
 go_wp2_with fail
 generalize u2.alloc (.cells #[.int .u8 167] 5)=v1 at *
 refine(C.ref_u32 v1 N hd1).mono ?_
 rintro e w3 ⟨rfl,rfl⟩
 obtain⟨m1,m2⟩:=C.made_lr v1 (C.beOf N 4) (be_small _ _)
 have H2:=hide (H1.out.below m2)
 have HM2:=hide m1
 clear m1 m2 H1
 generalize v1.alloc (.cells (C.vals (C.beOf N 4)).toArray 5)=v2 at *
 go_wp2_with (at_builtin;refine C.wpList_append_row rfl (.tmp 17) (.tmp 20) rfl u2.heap.size _ _ _ _ rfl H2.out.own _ 4 4 (C.beOf N 4) rfl (be_len _ _) HM2.out (by omega) H2.out.bel.size ?_;intro s3 c3 v3 ho3 hg3)
 have H3:=hide (H2.out.app (be_len _ _) (be_small _ _) ho3 hg3)
 clear ho3 hg3 H2 HM2
 have HSm:=hide (C.refsum_any v3 s3 5 c3 ([167]++C.beOf N 4) (H3.out.len) H3.out.bytes (by omega))
 generalize hR1:C.sumOf ([167]++C.beOf N 4)=r1 at *
 generalize hX1:[167]++C.beOf N 4=x1 at *
 clear hR1 hX1
 go_wp2_with fail
 refine HSm.out.mono ?_
 rintro e w4 ⟨rfl,q4,rfl⟩
 have H4:=hide (H3.out.below (below_drewN (Below.refl _ v3) q4))
 clear H3 HSm
 generalize v3.drewN q4=v4 at *
 go_wp2_with fail
 refine(C.ref_u32 v4 r1 hs1).mono ?_
 rintro e w5 ⟨rfl,rfl⟩
 obtain⟨m1,m2⟩:=C.made_lr v4 (C.beOf r1 4) (be_small _ _)
 have H5:=hide (H4.out.below m2)
 have HM5:=hide m1
 clear m1 m2 H4
 generalize v4.alloc (.cells (C.vals (C.beOf r1 4)).toArray 5)=v5 at *
 go_wp2_with (at_builtin;refine C.wpList_append_row rfl (.tmp 22) (.tmp 25) rfl u2.heap.size _ _ _ _ rfl H5.out.own _ 4 4 (C.beOf r1 4) rfl (be_len _ _) HM5.out (by omega) H5.out.bel.size ?_;intro s6 c6 v6 ho6 hg6)
 have H6:=hide (H5.out.app (be_len _ _) (be_small _ _) ho6 hg6)
 rw[←HHd.out]at H6
 clear ho6 hg6 H5 HM5
 have HB6:=hide (HB2.out.trans (H6.out.bel.mono HB2.out.size))
 have HEq:=hide (C.eq_dec v6 (some ⟨g,o,none⟩) s6 9 9 cap c6 ys hb HTl.out H6.out.len (by omega) (by omega) (HXt.out.below HB6.out).c H6.out.bytes)
 go_wp2_with fail
 refine HEq.out.mono ?_
 rintro e w7 ⟨rr,rfl,hrr,q7,rfl⟩
 have HB7:=hide (below_drewN HB6.out q7)
 have hrr2:rr=decide (ys=hb):=by
  cases rr
  ·symm;rw[decide_eq_false_iff_not];intro h;have:=hrr.2 h;cases this
  ·symm;rw[decide_eq_true_iff];exact hrr.1 rfl
 rw[←hrr2]at HOk
 have HOk2:=hide HOk.out
 clear hrr hrr2 HEq HB6 H6 HOk
 generalize v6.drewN q7=v7 at *
 cases rr
 ·obtain rfl:ok=false:=by have:=HOk2.out;rw[Bool.and_false]at this;exact this
  go_wp2
  go_ret2
  exact⟨rfl,HB7.out⟩
 ·have hok:=HOk2.out
  rw[Bool.and_true]at hok
  by_cases h1:12≤N
  ·have h1':(12:Int)≤(N:Int):=by omega
   by_cases h2:N≤4194291
   ·have h2':(N:Int)≤4194291:=by omega
    rw[decide_eq_true h1,decide_eq_true h2]at hok
    obtain rfl:ok=true:=hok
    go_wp2
    go_ret2
    exact⟨rfl,HB7.out⟩
   ·have h2':¬(N:Int)≤4194291:=by omega
    rw[decide_eq_true h1,decide_eq_false h2]at hok
    obtain rfl:ok=false:=hok
    go_wp2
    go_ret2
    exact⟨by rw[decide_eq_false (show ¬((N:Int)≤4194291) by omega)];rfl,HB7.out⟩
  ·have h1':¬(12:Int)≤(N:Int):=by omega
   rw[decide_eq_false h1]at hok
   obtain rfl:ok=false:=hok
   go_wp2
   go_ret2
   exact⟨rfl,HB7.out⟩
structure PtsIn (lo hi:Nat) (w:World) (pp:Option Addr) (ps:List (List Nat)):Prop where
 small:∀p∈ps,p.length≤140737488351232
 lie:ps=[]∨∃g o,pp=some ⟨g,o,none⟩∧lo≤g∧g<hi∧g<w.heap.size∧∀(j:Nat) (p:List Nat),ps[j]?=some p→∃ap cp,w.cell? ⟨g,o+j,none⟩=some (.slice ap p.length cp)∧Bytes w ap p∧(p=[]∨∃q:Addr,ap=some q∧lo≤q.block∧q.block<hi)
theorem PtsIn.pts {lo hi:Nat} {w:World} {pp:Option Addr} {ps:List (List Nat)} (h:PtsIn lo hi w pp ps):Pts w pp ps:=by
 refine⟨h.small,h.lie.imp id ?_⟩
 rintro ⟨g,o,e,_,_,h3,h4⟩
 exact⟨g,o,e,h3,fun j p hp=>let ⟨ap,cp,q1,q2,_⟩:=h4 j p hp;⟨ap,cp,q1,q2⟩⟩
theorem nil_by (w:World) (sp:Option Addr):Bytes w sp []:=⟨by simp,Or.inl rfl⟩
theorem PtsIn.kept {lo hi:Nat} {w w':World} {pp:Option Addr} {ps:List (List Nat)} (h:PtsIn lo hi w pp ps) (hs:w.heap.size≤w'.heap.size) (hk:∀b,lo≤b→b<hi→w'.heap[b]?=w.heap[b]?):PtsIn lo hi w' pp ps:=by
 refine⟨h.small,h.lie.imp id ?_⟩
 rintro ⟨g,o,e,h1,h2,h3,h4⟩
 refine⟨g,o,e,h1,h2,by omega,fun j p hp=>?_⟩
 obtain⟨ap,cp,q1,q2,q3⟩:=h4 j p hp
 refine⟨ap,cp,?_,?_,q3⟩
 ·rw[←q1];exact World.cell?_of_block (hk g h1 h2)
 ·rcases q3 with rfl | ⟨q,rfl,q4,q5⟩
  ·exact nil_by _ _
  ·exact bytes_kept q2 hs (fun g' o' e' _=>by cases e';exact hk g' q4 q5)
structure Dr (w:World) (b:Nat) (rp:Option Addr) (i c:Nat) (ps:List (List Nat)):Prop where
 len:ps.length=i
 row:∃vs:List Value,w.ownsRow (b+1) 32 1 (.slice rp i c) i vs∧∀(j:Nat) (p:List Nat),ps[j]?=some p→∃(ap:Option Addr) (cp:Nat),vs[j]?=some (Value.slice ap p.length cp)∧Bytes w ap p∧(p=[]∨∃q:Addr,ap=some q∧b<q.block∧q.block<w.heap.size∧(Value.slice rp i c).ownBlock≠some q.block)
theorem dr_nil (w:World) (b:Nat):Dr w b none 0 0 []:=⟨rfl,[],⟨rfl,Or.inl ⟨rfl,rfl⟩⟩,fun j p hp=>by simp at hp⟩
theorem Dr.but {w w':World} {b:Nat} {rp:Option Addr} {i c:Nat} {ps:List (List Nat)} (h:Dr w b rp i c ps) (hb:C.But b w w'):Dr w' b rp i c ps:=by
 obtain⟨vs,h1,h2⟩:=h.row
 refine⟨h.len,vs,⟨h1.1,h1.2.imp id ?_⟩,fun j p hp=>?_⟩
 ·rintro ⟨g,cap,cur,e1,e2,e3,r⟩
  exact⟨g,cap,cur,e1,e2,(hb.block g (lt_of_block e3) (by omega)).trans e3,r⟩
 ·obtain⟨ap,cp,q1,q2,q3⟩:=h2 j p hp
  refine⟨ap,cp,q1,?_,?_⟩
  ·rcases q3 with rfl | ⟨q,rfl,q4,q5,q6⟩
   ·exact nil_by _ _
   ·exact bytes_kept q2 hb.size (fun g' o' e' hg=>by cases e';exact hb.block g' hg (by have:b<g':=q4;omega))
  ·rcases q3 with q3 | ⟨q,q3,q4,q5,q6⟩
   ·exact Or.inl q3
   ·exact Or.inr ⟨q,q3,q4,Nat.lt_of_lt_of_le q5 hb.size,q6⟩
theorem Dr.put {wr w5 w6:World} {b:Nat} {rp:Option Addr} {i c:Nat} {ps:List (List Nat)} {vs:List Value} (hlen:ps.length=i)
  (h1:w5.ownsRow (b+1) 32 1 (.slice rp i c) i vs) (h2:∀(j:Nat) (p:List Nat),ps[j]?=some p→∃(ap:Option Addr) (cp:Nat),vs[j]?=some (Value.slice ap p.length cp)∧Bytes w5 ap p∧(p=[]∨∃q:Addr,ap=some q∧b<q.block∧q.block<w5.heap.size∧(Value.slice rp i c).ownBlock≠some q.block))
  (hbr:b<wr.heap.size) (hrow:∀g,(Value.slice rp i c).ownBlock=some g→g<wr.heap.size) {s:Option Addr} {k:Nat} {y:List Nat} (hy:Bytes w5 s y) (hs:∀p,s=some p→wr.heap.size≤p.block) (u:Obj) {g' cap':Nat}
  (ho:w6.ownsRow (b+1) 32 1 (.slice (some ⟨g',0,none⟩) (i+1) cap') (i+1) (vs++[.slice s y.length k])) (hg:(w5.alloc u).grownBy w6 (Value.slice rp i c).ownBlock) (hat:(Value.slice rp i c).ownBlock=some g'∨g'=(w5.alloc u).heap.size) :
  Dr w6 b (some ⟨g',0,none⟩) (i+1) cap' (ps++[y]):=by
 have hsz:(w5.alloc u).heap.size=w5.heap.size+1:=by simp
 have hkeep:∀g,g<w5.heap.size→(Value.slice rp i c).ownBlock≠some g→w6.heap[g]?=w5.heap[g]?:=fun g hl hn=>(hg.block g (by omega) (fun e=>hn e.symm)).trans (Below.heap_alloc _ _ _ hl)
 have hvl:vs.length=i:=by
  have:=h1.1
  simpa using this
 have hsz6:w5.heap.size≤w6.heap.size:=by have:=hg.size;omega
 refine⟨by rw[List.length_append,hlen];rfl,_,ho,fun j p hp=>?_⟩
 by_cases hj:j<i
 ·rw[List.getElem?_append_left (by omega)]at hp
  obtain⟨ap,cp,q1,q2,q3⟩:=h2 j p hp
  refine⟨ap,cp,by rw[List.getElem?_append_left (by omega)];exact q1,?_,?_⟩
  ·rcases q3 with rfl | ⟨q,rfl,q4,q5,q6⟩
   ·exact nil_by _ _
   ·exact bytes_kept q2 hsz6 (fun g2 o2 e2 hg2=>by cases e2;exact hkeep _ q5 q6)
  ·rcases q3 with q3 | ⟨q,q3,q4,q5,q6⟩
   ·exact Or.inl q3
   ·refine Or.inr ⟨q,q3,q4,by omega,?_⟩
    rcases hat with e | e
    ·rw[e]at q6;exact q6
    ·intro e2;simp[Value.ownBlock]at e2;omega
 ·rw[List.getElem?_append_right (by omega)]at hp
  obtain⟨e0,rfl⟩:j - ps.length=0∧y=p:=by
   cases hq:j - ps.length with
   | zero=>rw[hq]at hp;simp at hp;exact⟨rfl,hp⟩
   | succ m=>rw[hq]at hp;simp at hp
  refine⟨s,k,by rw[List.getElem?_append_right (by omega),show j - vs.length=0 by omega];rfl,?_,?_⟩
  ·rcases hy.lie with h | ⟨g2,o2,e2,h3,_⟩
   ·subst h;exact nil_by _ _
   ·subst e2
    have hge:wr.heap.size≤g2:=hs _ rfl
    exact bytes_kept hy hsz6 (fun g3 o3 e3 hg3=>by cases e3;exact hkeep _ hg3 (fun e4=>by have:=hrow _ e4;omega))
  ·rcases hy.lie with h | ⟨g2,o2,e2,h3,_⟩
   ·exact Or.inl h
   ·subst e2
    have hge:wr.heap.size≤g2:=hs _ rfl
    refine Or.inr ⟨_,rfl,by show b<g2;omega,by show g2<w6.heap.size;omega,?_⟩
    intro e4
    rcases hat with e | e
    ·have:=hrow _ e
     simp[Value.ownBlock]at e4
     omega
    ·simp[Value.ownBlock]at e4
     omega
theorem Dr.into {w:World} {b:Nat} {rp:Option Addr} {i c:Nat} {ps:List (List Nat)} (h:Dr w b rp i c ps) (hs:∀p∈ps,p.length≤140737488351232):PtsIn b w.heap.size w rp ps:=by
 obtain⟨vs,h1,h2⟩:=h.row
 refine⟨hs,?_⟩
 rcases h1.2 with ⟨_,e2⟩ | ⟨g,cap,cur,e1,e2,hg,e3,e4,e5,e6⟩
 ·left;exact List.eq_nil_of_length_eq_zero (by rw[h.len];exact e2)
 ·cases e1
  right
  refine⟨g,0,rfl,by omega,lt_of_block hg,lt_of_block hg,fun j p hp=>?_⟩
  obtain⟨ap,cp,hv,q2,q3⟩:=h2 j p hp
  refine⟨ap,cp,?_,q2,?_⟩
  ·have hi:j<i:=by rw[←h.len];exact(List.getElem?_eq_some_iff.1 hp).1
   rw[←e6,List.getElem?_take,if_pos (by omega)]at hv
   simp only[World.cell?,hg,Nat.zero_add]
   simpa using hv
  ·rcases q3 with q3 | ⟨q,q3,q4,q5,_⟩
   ·exact Or.inl q3
   ·exact Or.inr ⟨q,q3,by omega,q5⟩
theorem Dr.lo {w:World} {b:Nat} {rp:Option Addr} {i c:Nat} {ps:List (List Nat)} (h:Dr w b rp i c ps) (g:Nat) (e:(Value.slice rp i c).ownBlock=some g):g<w.heap.size:=by
 obtain⟨vs,h1,_⟩:=h.row
 rcases h1.2 with ⟨q,_⟩ | ⟨g',cap,cur,q,_,hg,_⟩
 ·rw[q]at e;simp[Value.ownBlock]at e
 ·rw[q]at e;simp[Value.ownBlock]at e;subst e;exact lt_of_block hg
theorem dPs_small (xs:List Nat) (i:Nat):∀p∈dPs xs i,p.length≤xs.length:=fun p hp=>by
 unfold dPs at hp
 obtain⟨j,_,rfl⟩:=List.mem_map.1 hp
 exact got_len _ _ _
theorem be_bound (xs:List Nat) (h:∀x∈xs,x<256) (a s:Nat):C.be ((xs.drop a).take s)<256 ^ s:=by
 have:=C.be_lt ((xs.drop a).take s) (fun x hx'=>h x (List.mem_of_mem_drop (List.mem_of_mem_take hx')))
 have h4:((xs.drop a).take s).length≤s:=by rw[List.length_take];omega
 exact Nat.lt_of_lt_of_le this (Nat.pow_le_pow_right (by omega) h4)
set_option maxHeartbeats 2000000 in
theorem rfirst_any (w:World) (g o n cap:Nat) (xs:List Nat) (hn:xs.length=n) (h25:25≤n) (hnl:n≤4194304) (hcap:n≤cap) (hc2:cap≤9223372036854775807) (hx:Bytes w (some ⟨g,o,none⟩) xs) :
  Calls Tryz.prog 152 #[.slice (some ⟨g,o,none⟩) n cap] w fun e w'=>∃i,i≤dCnt xs∧(i=dCnt xs∨(dA xs i).2≠0)∧Below w.heap.size w w' ∧
   ((DGood xs i∧∃pp c,e=.returned (.tuple #[.int .u64 (dNum xs:Int),.slice pp i c,.int .i64 ((recB (dNum xs) (dPs xs i)).length:Int)])∧PtsIn w.heap.size w'.heap.size w' pp (dPs xs i)) ∨
    (¬DGood xs i∧e=.returned (.tuple #[.int .u64 0,.slice none 0 0,.int .i64 0]))):=by
 obtain⟨i0,hi,hz0,hz1,hz2⟩:=info_parts Tryz.infoRw
 have hnum:dNum xs<18446744073709551616:=be_bound xs hx.small 9 8
 have hcnt:dCnt xs<4294967296:=be_bound xs hx.small 17 4
 have HN:=hide hn
 have HX:=hide hx
 have HEy:Hid (C.Ey (w.alloc (.cells #[.slice (some ⟨g,o,none⟩) n cap,.int .i64 0,.int .i64 0] 226)) w.heap.size (some ⟨g,o,none⟩) cap xs 0 0):=by
  refine⟨by rw[hn];exact heap_alloc_new _ _,(hx.below ((Below.refl _ _).alloc (Nat.le_refl _) _)).c,Or.inr ⟨g,o,rfl⟩,by omega,by omega,hc2,Nat.zero_le _⟩
 have HB0:Hid (Below w.heap.size w (w.alloc (.cells #[.slice (some ⟨g,o,none⟩) n cap,.int .i64 0,.int .i64 0] 226))):=(Below.refl _ _).alloc (Nat.le_refl _) _
 have E1:=hide (rn_fix 0 1 xs 0 rfl (by decide) (by decide) (by decide) (by omega))
 have E2:=hide (rn_fix 1 4 xs 1 rfl (by decide) (by decide) (by decide) (by omega))
 have E3:=hide (rn_fix 1 4 xs 5 rfl (by decide) (by decide) (by decide) (by omega))
 have E4:Hid (C.rNext 2 0 xs 9 0=(⟨dNum xs,0,0,8,0⟩,17,0)):=rn_fix 2 8 xs 9 rfl (by decide) (by decide) (by decide) (by omega)
 have E5:Hid (C.rNext 1 0 xs 17 0=(⟨dCnt xs,0,0,4,0⟩,21,0)):=rn_fix 1 4 xs 17 rfl (by decide) (by decide) (by decide) (by omega)
 generalize hNum:dNum xs=num at *
 generalize hCnt:dCnt xs=cnt at *
 have HNum:=hide hNum
 clear hx hn hNum hCnt
 go_enter Tryz.func152,Tryz.ntmps152
 go_wp2_with fail
 generalize w.alloc (.cells #[.slice (some ⟨g,o,none⟩) n cap,.int .i64 0,.int .i64 0] 226)=u0 at *
 have HU:=hide (C.eu8_any u0 w.heap.size _ _ _ _ _ HEy.out)
 rw[E1.out]at HU
 refine HU.out.mono ?_
 rintro e u1 ⟨rfl,hey1,hbt1⟩
 have HEy1:=hide hey1
 have HB1:=hide (but_below hbt1 HB0.out (Nat.le_refl _) HB0.out.size)
 clear hey1 hbt1 HU HEy HB0 E1
 have HU:=hide (C.eu32_any u1 w.heap.size _ _ _ _ _ HEy1.out)
 rw[E2.out]at HU
 go_wp2_with fail
 refine HU.out.mono ?_
 rintro e u2 ⟨rfl,hey2,hbt2⟩
 have HEy2:=hide hey2
 have HB2:=hide (but_below hbt2 HB1.out (Nat.le_refl _) HB1.out.size)
 clear hey2 hbt2 HU HEy1 HB1 E2
 have HU:=hide (C.eu32_any u2 w.heap.size _ _ _ _ _ HEy2.out)
 rw[E3.out]at HU
 go_wp2_with fail
 refine HU.out.mono ?_
 rintro e u3 ⟨rfl,hey3,hbt3⟩
 have HEy3:=hide hey3
 have HB3:=hide (but_below hbt3 HB2.out (Nat.le_refl _) HB2.out.size)
 clear hey3 hbt3 HU HEy2 HB2 E3
 have HU:=hide (C.eu64_any u3 w.heap.size _ _ _ _ _ HEy3.out)
 rw[E4.out]at HU
 go_wp2_with fail
 refine HU.out.mono ?_
 rintro e u4 ⟨rfl,hey4,hbt4⟩
 have HEy4:=hide hey4
 have HB4:=hide (but_below hbt4 HB3.out (Nat.le_refl _) HB3.out.size)
 clear hey4 hbt4 HU HEy3 HB3 E4
 have HU:=hide (C.eu32_any u4 w.heap.size _ _ _ _ _ HEy4.out)
 rw[E5.out]at HU
 go_wp2_with fail
 refine HU.out.mono ?_
 rintro e u5 ⟨rfl,hey5,hbt5⟩
 have HEy5:Hid (C.Ey u5 w.heap.size (some ⟨g,o,none⟩) cap xs (dA xs 0).1 (dA xs 0).2):=hey5
 have HB5:=hide (but_below hbt5 HB4.out (Nat.le_refl _) HB4.out.size)
 clear hey5 hbt5 HU HEy4 HB4 E5
 go_wp2
 go_loopw [8,9] (fun r i wr=>∃(j c:Nat) (rp:Option Addr),j≤cnt∧i=.int .i64 (j:Int)∧r=.slice rp j c∧Hid (C.Ey wr w.heap.size (some ⟨g,o,none⟩) cap xs (dA xs j).1 (dA xs j).2)∧Hid (Below w.heap.size w wr)∧Hid (Dr wr w.heap.size rp j c (dPs xs j))) (fun _ i _=>cnt - (intOf i).toNat)
 case atStart=>exact⟨0,0,none,Nat.zero_le _,rfl,rfl,HEy5,HB5,hide (dr_nil _ _)⟩
 case round =>
  obtain⟨j,c,rp,hj,rfl,rfl,HE,HB,HD⟩:=hrel
  clear HEy5 HB5
  obtain⟨a,ha⟩:∃a,(dA xs j).1=a:=⟨_,rfl⟩
  obtain⟨f,hf⟩:∃f,(dA xs j).2=f:=⟨_,rfl⟩
  rw[ha,hf]at HE
  have HF:=hide hf
  have HA:=hide ha
  obtain⟨q0,q1,q2,qf⟩:=C.blk3 HE.out.blk
  have hbl:=HE.out.lt
  clear hf ha
  by_cases hlt:j<cnt
  ·have i2:(j:Int)<(cnt:Int):=by omega
   by_cases hf0:f=0
   ·subst hf0
    have hz:((0:Int) == 0)=true:=rfl
    have HT:=hide (C.etext_any wr w.heap.size _ _ _ _ _ 4194304 (by omega) HE.out)
    have HG:Hid (C.got xs a (C.rText 4194304 xs a 0)=gP 4194304 xs 21 0 j):=by
     show _=_
     unfold gP
     have h1:(gA 4194304 xs 21 0 j).1=a:=HA.out
     have h2:(gA 4194304 xs 21 0 j).2=0:=HF.out
     rw[h1,h2]
    have HS1:Hid ((C.rText 4194304 xs a 0).2=dA xs (j+1)):=by
     show _=gA 4194304 xs 21 0 (j+1)
     have h1:(gA 4194304 xs 21 0 j).1=a:=HA.out
     have h2:(gA 4194304 xs 21 0 j).2=0:=HF.out
     rw[gA,h1,h2]
    rw[HG.out,HS1.out]at HT
    have HPl:Hid ((gP 4194304 xs 21 0 j).length≤4194304):=by have:=got_len xs (gA 4194304 xs 21 0 j).1 (C.rText 4194304 xs (gA 4194304 xs 21 0 j).1 (gA 4194304 xs 21 0 j).2);have:=HN.out;show (C.got _ _ _).length≤_;omega
    have HDs:=hide (dPs_succ xs j)
    generalize gP 4194304 xs 21 0 j=y at *
    clear HG HS1 HF HA
    go_wp2_with fail
    refine HT.out.mono ?_
    rintro e w5 ⟨s,k,rfl,hby,hs,hey,hbut⟩
    have HY:=hide (Bytes.of_c hby)
    have HSn:=hide hs
    have HE5:=hide hey
    have HB5:=hide (but_below hbut HB.out (Nat.le_refl _) HB.out.size)
    have HD5:=hide (HD.out.but hbut)
    have HRw:=hide (HD.out.lo)
    clear hby hs hey hbut HT
    obtain⟨vs,hv1,hv2⟩:=HD5.out.row
    have HV1:=hide hv1
    have HV2:=hide hv2
    have hb5:w.heap.size+1≤w5.heap.size:=HE5.out.lt
    obtain⟨yl,hyl⟩:∃yl,y.length=yl:=⟨_,rfl⟩
    have HYl:=hide hyl
    rw[hyl]
    clear hv1 hv2 hyl q0 q1 q2 qf
    go_wp2_with (at_builtin;refine wpList_append_lies _ rfl (.tmp 37) (.tmp 40) 31 rfl (w.heap.size+1) 32 i0 (.slice none 0 0) 1 24 Tryz.underlying31 hi hz0 hz1 hz2 rfl (by omega) (.slice rp j c) j vs rfl (HV1.out.alloc _) ⟨w5.heap.size,0,none⟩ 1 1 [.slice s yl k] rfl rfl (World.news_of_block (heap_alloc_new w5 (.cells #[.slice s yl k] 32))) (by simp[Value.oneCell']) (by omega) (by unfold maxLen;omega) (by omega) (by simp;omega) _ rfl ?_;intro g' cap' w6 ho6 hg6 hat6 hlt6;have HO6:=hide ho6;have HG6:=hide hg6;have HA6:=hide hat6;clear ho6 hg6 hat6 hlt6)
    have HD6:Hid (Dr w6 w.heap.size (some ⟨g',0,none⟩) (j+1) cap' (dPs xs (j+1))):=by
     show Dr _ _ _ _ _ _
     rw[HDs.out]
     have ho:=HO6.out
     rw[←HYl.out]at ho
     exact Dr.put HD5.out.len HV1.out HV2.out hbl HRw.out HY.out HSn.out _ ho HG6.out HA6.out
    have HE6:Hid (C.Ey w6 w.heap.size (some ⟨g,o,none⟩) cap xs (dA xs (j+1)).1 (dA xs (j+1)).2):=by
     have hsz:(w5.alloc (.cells #[.slice s yl k] 32)).heap.size=w5.heap.size+1:=by simp
     have hne:∀g2,(Value.slice rp j c).ownBlock=some g2→w.heap.size+1≤g2:=fun g2 e=>C.owns_bs HV1.out e
     have hbx:Below (w.heap.size+1) w5 w6:=((Below.refl _ w5).alloc (by omega) _).grown HG6.out (by omega) (fun g2 e=>hne g2 e)
     refine⟨(hbx.block _ (by omega)).trans HE5.out.blk,?_,HE5.out.form,HE5.out.len,HE5.out.cap,HE5.out.most,HE5.out.le⟩
     have hxw:Bytes w6 (some ⟨g,o,none⟩) xs:=HX.out.below (HB5.out.trans (hbx.mono (by omega)))
     exact hxw.c
    have HB6:Hid (Below w.heap.size w w6):=(HB5.out.alloc HB5.out.size _).grown HG6.out (by simp;omega) (fun g2 e=>by have:=C.owns_bs HV1.out e;omega)
    clear HO6 HG6 HA6 HD5 HV1 HV2 HE5 HB5 HY HSn HRw
    go_wp2
    go_roundw
    case rel=>exact⟨j+1,cap',some ⟨g',0,none⟩,by omega,by go_num,rfl,HE6,HB6,HD6⟩
    case measure=>simp[intOf];omega
   ·have hz:((f:Int) == 0)=false:=by simp;omega
    have hz2:((f:Int) != 0)=true:=by simp;omega
    go_wp2
    go_ret3
    exact⟨j,hj,Or.inr (by rw[HF.out];exact hf0),HB.out,Or.inr ⟨fun h=>hf0 (by rw[←HF.out];exact h.f),rfl⟩⟩
  ·have i2:¬(j:Int)<(cnt:Int):=by omega
   have ej:Hid (j=cnt):=by show _=_;omega
   by_cases hf0:f=0
   ·subst hf0
    have hz2:((0:Int) != 0)=false:=rfl
    by_cases h1:num<1
    ·have h1':(num:Int)<1:=by omega
     go_wp2
     go_ret3
     exact⟨j,hj,Or.inl ej.out,HB.out,Or.inr ⟨fun h=>by have:=h.lo;have:=HNum.out;omega,rfl⟩⟩
    have h1':¬(num:Int)<1:=by omega
    by_cases h2:1099511627776<num
    ·have h2':(1099511627776:Int)<(num:Int):=by omega
     go_wp2
     go_ret3
     exact⟨j,hj,Or.inl ej.out,HB.out,Or.inr ⟨fun h=>by have:=h.hi;have:=HNum.out;omega,rfl⟩⟩
    have h2':¬(1099511627776:Int)<(num:Int):=by omega
    have hpl:(partsB (dPs xs j)).length≤4194304:=by
     obtain⟨_,_,e3⟩:=gA_anew 4194304 (by omega) xs HX.out.small (by have:=HN.out;omega) 21 (by have:=HN.out;omega) j HF.out
     unfold dPs
     rw[e3,List.length_take,List.length_drop]
     have:=HN.out
     omega
    have HPi:=hide (HD.out.into (fun p hp=>by have:=dPs_small xs j p hp;have:=HN.out;omega))
    have HSm:=hide (rsmall_any wr rp j c (dPs xs j) (dPs_len _ _) (by omega) HPi.out.pts hpl)
    have HRl:Hid ((recB num (dPs xs j)).length=25+(partsB (dPs xs j)).length):=by show _=_;rw[recB_len,bodyB_len];omega
    cases hsm:(decide (j≤4096) && decide (25+(partsB (dPs xs j)).length≤4194304)) with
    | false =>
     rw[hsm]at HSm
     have HBad:Hid (¬DGood xs j):=fun h=>by
      have h4:=h.few
      have h5:=h.len
      rw[HNum.out,HRl.out]at h5
      rw[decide_eq_true h4,decide_eq_true h5]at hsm
      cases hsm
     clear hsm
     go_wp2_with fail
     refine HSm.out.mono ?_
     rintro e w7 ⟨rfl,hb7⟩
     have HB7:=hide (HB.out.trans (hb7.mono HB.out.size))
     clear hb7
     go_wp2
     go_ret3
     exact⟨j,hj,Or.inl ej.out,HB7.out,Or.inr ⟨HBad.out,rfl⟩⟩
    | true =>
     rw[hsm]at HSm
     simp only[Bool.and_eq_true,decide_eq_true_eq]at hsm
     obtain⟨hs1,hs2⟩:=hsm
     go_wp2_with fail
     refine HSm.out.mono ?_
     rintro e w7 ⟨rfl,hb7⟩
     have HB7:=hide (HB.out.trans (hb7.mono HB.out.size))
     have HPi7:Hid (PtsIn w.heap.size wr.heap.size w7 rp (dPs xs j)):=HPi.out.kept hb7.size (fun b _ h=>hb7.block b h)
     have hs7:=hb7.size
     clear hb7 HSm HPi
     have HRe:=hide (rrec_any w7 num hnum rp j c (dPs xs j) (dPs_len _ _) hs1 HPi7.out.pts hpl)
     go_wp2_with fail
     refine HRe.out.mono ?_
     rintro e w8 ⟨sr,R,cr,hR,rfl,hby8,hb8⟩
     have HB8:=hide (HB7.out.trans (hb8.mono HB7.out.size))
     have HPi8:Hid (PtsIn w.heap.size w8.heap.size w8 rp (dPs xs j)):=by
      have:=HPi7.out.kept hb8.size (fun b _ h=>hb8.block b (by omega))
      have hs8:=hb8.size
      refine⟨this.small,this.lie.imp id ?_⟩
      rintro ⟨g2,o2,e,k1,k2,k3,k4⟩
      refine⟨g2,o2,e,k1,by omega,k3,fun j2 p2 hp2=>?_⟩
      obtain⟨ap,cp,x1,x2,x3⟩:=k4 j2 p2 hp2
      exact⟨ap,cp,x1,x2,x3.imp id (fun ⟨q,y1,y2,y3⟩=>⟨q,y1,y2,by omega⟩)⟩
     have HBy8:=hide hby8
     have HR:=hide hR
     have hRb:R≤4194304:=by have:=HRl.out;omega
     clear hby8 hb8 HRe hR HPi7 HB7
     by_cases hgt:n<R
     ·have hgt':(n:Int)<(R:Int):=by omega
      go_wp2
      go_ret3
      refine⟨j,hj,Or.inl ej.out,HB8.out,Or.inr ⟨fun h=>?_,rfl⟩⟩
      have h5:=congrArg List.length h.eq
      rw[HNum.out,List.length_take]at h5
      have:=HR.out
      have:=HN.out
      omega
     have hgt':¬(n:Int)<(R:Int):=by omega
     have hRc:(R:Int)≤(cap:Int):=by omega
     have HEq:=hide (C.eq_dec w8 sr (some ⟨g,o,none⟩) R R cr cap (recB num (dPs xs j)) (xs.take R) HR.out.symm (by rw[List.length_take];have:=HN.out;omega) (by omega) (by omega) HBy8.out.c ((Bytes.of_c (C.Bytes.take HX.out.c R)).below HB8.out).c)
     have HRz:(0:Int)≤(R:Int):=by omega
     go_wp2_with fail
     refine HEq.out.mono ?_
     rintro e w9 ⟨rr,rfl,hrr,q9,rfl⟩
     have HB9:=hide (below_drewN HB8.out q9)
     have HPi9:Hid (PtsIn w.heap.size (w8.drewN q9).heap.size (w8.drewN q9) rp (dPs xs j)):=HPi8.out.kept (Nat.le_refl _) (fun _ _ _=>rfl)
     have HRR:=hide hrr
     clear hrr HEq HPi8 HB8
     generalize w8.drewN q9=v9 at *
     cases rr
     ·go_wp2
      go_ret3
      refine⟨j,hj,Or.inl ej.out,HB9.out,Or.inr ⟨fun h=>?_,rfl⟩⟩
      have h5:=h.eq
      rw[HNum.out,←HR.out]at h5
      have:=HRR.out.2 h5
      cases this
     ·go_wp2
      go_ret3
      refine⟨j,hj,Or.inl ej.out,HB9.out,Or.inl ⟨⟨HF.out,by rw[HNum.out];omega,by rw[HNum.out];omega,hs1,by rw[HNum.out,←HR.out];exact hRb,?_⟩,rp,c,by rw[←HR.out];rfl,HPi9.out⟩⟩
      rw[HNum.out,←HR.out]
      exact HRR.out.1 (by trivial)
   ·have hz2:((f:Int) != 0)=true:=by simp;omega
    go_wp2
    go_ret3
    exact⟨j,hj,Or.inl ej.out,HB.out,Or.inr ⟨fun h=>hf0 (by rw[←HF.out];exact h.f),rfl⟩⟩
theorem results_tmp4 {fn:Func} {t u v x:Tmp} (h:fn.results=#[.tmp t,.tmp u,.tmp v,.tmp x]) (tmps:Array Value) (P:Program) (w:World) :
  (results fn tmps).run P w=.ok (.tuple #[tmps.getD t undef,tmps.getD u undef,tmps.getD v undef,tmps.getD x undef]) w:=by
 simp[results,h]
def how (R:List (List Nat) × Nat × Bool × Nat):Nat:=if R.2.2.2≠0 then 2 else if R.2.2.1 then 1 else 0
theorem parts_few (r:List Nat):(partsOf r).length≤4096:=(partsOf_small r).1
theorem hd_take (ys:List Nat) (S:Nat) (h:9≤S):hdN (ys.take S)=hdN ys∧hdOk (ys.take S)=hdOk ys:=by
 have e1:hdN (ys.take S)=hdN ys:=by
  unfold hdN
  rw[List.drop_take,List.take_take,Nat.min_eq_left (by omega)]
 refine⟨e1,?_⟩
 unfold hdOk
 rw[e1,List.take_take,Nat.min_eq_left h]
structure Tr2 (B:Nat) (w:World) (rp:Option Addr) (k c:Nat) (ts:List (List (List Nat))):Prop where
 len:ts.length=k
 row:∃vs:List Value,w.ownsRow B 31 1 (.slice rp k c) k vs∧∀(j:Nat) (ps:List (List Nat)),ts[j]?=some ps→∃(pp:Option Addr) (cp lo hi:Nat),vs[j]?=some (Value.slice pp ps.length cp)∧B≤lo∧PtsIn lo hi w pp ps∧hi≤w.heap.size∧∀g,(Value.slice rp k c).ownBlock=some g→g<lo∨hi≤g
theorem tr2_nil (B:Nat) (w:World):Tr2 B w none 0 0 []:=⟨rfl,[],⟨rfl,Or.inl ⟨rfl,rfl⟩⟩,fun j p hp=>by simp at hp⟩
theorem Tr2.below {B:Nat} {w w':World} {rp:Option Addr} {k c:Nat} {ts:List (List (List Nat))} (h:Tr2 B w rp k c ts) (hb:Below w.heap.size w w'):Tr2 B w' rp k c ts:=by
 obtain⟨vs,h1,h2⟩:=h.row
 refine⟨h.len,vs,C.owns_below h1 hb,fun j ps hp=>?_⟩
 obtain⟨pp,cp,lo,hi,q1,qB,q2,q3,q4⟩:=h2 j ps hp
 exact⟨pp,cp,lo,hi,q1,qB,q2.kept hb.size (fun b _ hlt=>hb.block b (by omega)),Nat.le_trans q3 hb.size,q4⟩
theorem Tr2.lt {B:Nat} {w:World} {rp:Option Addr} {k c:Nat} {ts:List (List (List Nat))} (h:Tr2 B w rp k c ts) (g:Nat) (e:(Value.slice rp k c).ownBlock=some g):g<w.heap.size:=by
 obtain⟨vs,h1,_⟩:=h.row
 rcases h1.2 with ⟨q,_⟩ | ⟨g',cap,cur,q,_,hg,_⟩
 ·rw[q]at e;simp[Value.ownBlock]at e
 ·rw[q]at e;simp[Value.ownBlock]at e;subst e;exact lt_of_block hg
theorem Tr2.put {B:Nat} {w w1 w2:World} {rp pp:Option Addr} {k c cp:Nat} {ts:List (List (List Nat))} {ps:List (List Nat)} (h:Tr2 B w rp k c ts) (hp:PtsIn w.heap.size w1.heap.size w1 pp ps) {vs:List Value}
  (h2:∀(j:Nat) (ps:List (List Nat)),ts[j]?=some ps→∃(pp:Option Addr) (cp lo hi:Nat),vs[j]?=some (Value.slice pp ps.length cp)∧B≤lo∧PtsIn lo hi w1 pp ps∧hi≤w1.heap.size∧∀g,(Value.slice rp k c).ownBlock=some g→g<lo∨hi≤g) (hvl:vs.length=k) (u:Obj) {g' cap':Nat}
  (ho:w2.ownsRow B 31 1 (.slice (some ⟨g',0,none⟩) (k+1) cap') (k+1) (vs++[.slice pp ps.length cp])) (hg:(w1.alloc u).grownBy w2 (Value.slice rp k c).ownBlock) (hat:(Value.slice rp k c).ownBlock=some g'∨g'=(w1.alloc u).heap.size) (hB:B≤w.heap.size) :
  Tr2 B w2 (some ⟨g',0,none⟩) (k+1) cap' (ts++[ps]):=by
 have hsz:(w1.alloc u).heap.size=w1.heap.size+1:=by simp
 have hkeep:∀b,b<w1.heap.size→(Value.slice rp k c).ownBlock≠some b→w2.heap[b]?=w1.heap[b]?:=fun b hl hn=>(hg.block b (by omega) (fun e=>hn e.symm)).trans (Below.heap_alloc _ _ _ hl)
 have hsz2:w1.heap.size≤w2.heap.size:=by have:=hg.size;omega
 have hnew:∀lo hi,hi≤w1.heap.size→(∀g,(Value.slice rp k c).ownBlock=some g→g<lo∨hi≤g)→∀g,(Value.slice (some ⟨g',0,none⟩) (k+1) cap').ownBlock=some g→g<lo∨hi≤g:=fun lo hi hh ho g e=>by
  simp[Value.ownBlock]at e
  rcases hat with e2 | e2
  ·exact ho g (by rw[e2,e])
  ·right;omega
 refine⟨by rw[List.length_append,h.len];rfl,_,ho,fun j qs hq=>?_⟩
 by_cases hj:j<k
 ·rw[List.getElem?_append_left (by rw[h.len];exact hj)]at hq
  obtain⟨pp',cp',lo,hi,q1,qB,q2,q3,q4⟩:=h2 j qs hq
  refine⟨pp',cp',lo,hi,by rw[List.getElem?_append_left (by omega)];exact q1,qB,q2.kept hsz2 (fun b h1 h2'=>hkeep b (by omega) (fun e=>by rcases q4 b e with x | x <;> omega)),by omega,hnew lo hi q3 q4⟩
 ·rw[List.getElem?_append_right (by rw[h.len];omega)]at hq
  obtain⟨e0,rfl⟩:j - ts.length=0∧ps=qs:=by
   cases hq2:j - ts.length with
   | zero=>rw[hq2]at hq;simp at hq;exact⟨rfl,hq⟩
   | succ m=>rw[hq2]at hq;simp at hq
  have hl:=h.len
  have hold:∀g,(Value.slice rp k c).ownBlock=some g→g<w.heap.size∨w1.heap.size≤g:=fun g e=>Or.inl (h.lt g e)
  refine⟨pp,cp,w.heap.size,w1.heap.size,by rw[List.getElem?_append_right (by omega),show j - vs.length=0 by omega];rfl,hB,hp.kept hsz2 (fun b h1 h2'=>hkeep b h2' (fun e=>by have:=h.lt b e;omega)),hsz2,hnew _ _ (Nat.le_refl _) hold⟩
theorem walk_out2 {w w':World} {rp:Option Addr} {k c last t2:Nat} {a h:Int} {recs:List (List Nat)} {t:Bool} {R:List (List Nat) × Nat × Bool × Nat} (hR:(recs,last,t,t2)=R) (hk:recs.length=k) (hh:((how (recs,last,t,t2):Nat):Int)=h) (ht:Tr2 w.heap.size w' rp k c (allOf recs)) (hb:Below w.heap.size w w') (hs:a=(((recs.map List.length).sum:Nat):Int)) :
  ∃rp' c',Ending.returned (.tuple #[.slice rp k c,.int .u64 (last:Int),.int .i64 a,.int .i64 h])=.returned (.tuple #[.slice rp' R.1.length c',.int .u64 (R.2.1:Int),.int .i64 (((R.1.map List.length).sum:Nat):Int),.int .i64 (how R:Int)])∧Tr2 w.heap.size w' rp' R.1.length c' (allOf R.1)∧Below w.heap.size w w':=by
 subst hR
 subst hk
 subst hh
 subst hs
 exact⟨rp,c,rfl,ht,hb⟩
set_option maxHeartbeats 2000000 in
theorem rwalk_at (w:World) (sp:Option Addr) (n cap:Nat) (xs:List Nat) (hn:xs.length=n) (hcap:n≤cap) (hc2:cap≤9223372036854775807) (hnl:n≤1099511627776) (hx:Bytes w sp xs) :
  Calls Tryz.prog 110 #[.slice sp n cap] w fun e w'=>∃rp c,e=.returned (.tuple #[.slice rp (goB (n+1) xs [] 0).1.length c,.int .u64 ((goB (n+1) xs [] 0).2.1:Int),.int .i64 ((((goB (n+1) xs [] 0).1.map List.length).sum:Nat):Int),.int .i64 (how (goB (n+1) xs [] 0):Int)])∧Tr2 w.heap.size w' rp (goB (n+1) xs [] 0).1.length c (allOf (goB (n+1) xs [] 0).1)∧Below w.heap.size w w':=by
 obtain⟨i0,hi,hz0,hz1,hz2⟩:=info_parts Tryz.infoRr
 obtain⟨R,hR⟩:∃R,goB (n+1) xs [] 0=R:=⟨_,rfl⟩
 rw[hR]
 have HR:=hide hR
 have HX:=hide hx
 have HN:=hide hn
 clear hR hx hn
 go_enter Tryz.func110,Tryz.ntmps110
 go_wp2
 go_loopw [6,7,8] (fun l la a wr=>∃(k c last at' f:Nat) (rp:Option Addr) (recs:List (List Nat)),l=.slice rp k c∧la=.int .u64 (last:Int)∧a=.int .i64 (at':Int)∧at'≤n∧k≤n∧Hid (recs.length=k)∧Hid (last≤1099511627776)∧Hid (Tr2 w.heap.size wr rp k c (allOf recs))∧Hid (Below w.heap.size w wr)∧Hid (n - at'<f∧goB f (xs.drop at') recs last=R)∧Hid (k≤at'∧at'=(recs.map List.length).sum)) (fun _ _ a _=>n - (intOf a).toNat)
 case atStart=>exact⟨0,0,0,0,n+1,none,[],rfl,rfl,rfl,Nat.zero_le _,Nat.zero_le _,rfl,hide (by omega),hide (tr2_nil _ w),hide (Below.refl _ _),hide ⟨by omega,by rw[List.drop_zero];exact HR.out⟩,hide ⟨Nat.zero_le _,by simp⟩⟩
 case round =>
  obtain⟨k,c,last,a,f,rp,recs,rfl,rfl,rfl,ha,hk,HK,HLa,HTr,HB,HGo,HKa⟩:=hrel
  clear HR
  obtain⟨f',rfl⟩:∃f',f=f'+1:=⟨f - 1,by have:=HGo.out.1;omega⟩
  have HG2:Hid (goB (f'+1) (xs.drop a) recs last=R):=HGo.out.2
  unfold goB at HG2
  have hg2:=HG2.out
  have hdl:(xs.drop a).length=n - a:=by rw[List.length_drop,HN.out]
  rw[hdl]at hg2
  by_cases hz:a<n
  ·have hz':(a:Int)<(n:Int):=by omega
   rw[if_neg (by omega)]at hg2
   obtain⟨g,o,rfl,HXr⟩:∃g o,sp=some ⟨g,o,none⟩∧Hid (Bytes wr (some ⟨g,o,none⟩) xs):=by
    rcases HX.out.lie with h | ⟨g,o,e,_,_⟩
    ·have:=HN.out;rw[h]at this;simp at this;omega
    ·subst e;exact⟨g,o,rfl,HX.out.below HB.out⟩
   have hac:(a:Int)≤(n:Int):=by omega
   have ha0:(0:Int)≤(a:Int):=by omega
   have hane:¬cap=a:=by omega
   have HXd:Hid (Bytes wr (some ⟨g,o+a,none⟩) (xs.drop a)):=bytes_drop HXr.out a
   have HDl:=hide hdl
   have HF:Hid (n - a<f'+1):=HGo.out.1
   have HG2:=hide hg2
   clear HGo hg2 hdl
   have HDr:Hid (∀S,xs.drop (a+S)=(xs.drop a).drop S):=fun S=>by rw[List.drop_drop]
   generalize xs.drop a=ys at *
   by_cases h9:n - a<9
   ·have h9':((n - a:Nat):Int)<9:=by omega
    have HRe:=HG2.out
    rw[if_pos h9]at HRe
    have HRe:=hide HRe
    clear HG2
    go_wp2
    (try simp only[Exit.inBlock,Exit.then])
    refine bodyPost_ret (results_tmp4 rfl _ _ _) rfl ?_
    exact walk_out2 (a:=(a:Int)) (h:=1) HRe.out HK.out rfl HTr.out HB.out (by have:=HKa.out.2;omega)
   have h9':¬((n - a:Nat):Int)<9:=by omega
   have HHd:=hide (rhead_any wr g (o+a) (n - a) (cap - a) ys HDl.out (by omega) (by omega) (by omega) HXd.out)
   cases hok:hdOk ys with
   | false =>
    have HRe:=HG2.out
    rw[if_neg h9,if_pos hok]at HRe
    have HRe:=hide HRe
    rw[hok]at HHd
    clear HG2 hok
    generalize (hdN ys:Int)+13=SS at *
    go_wp2_with fail
    refine HHd.out.mono ?_
    rintro e w1 ⟨rfl,hb1⟩
    have HTr1:=hide (HTr.out.below hb1)
    have HB1:=hide (HB.out.trans (hb1.mono HB.out.size))
    clear hb1
    go_wp2
    (try simp only[Exit.inBlock,Exit.then])
    refine bodyPost_ret (results_tmp4 rfl _ _ _) rfl ?_
    exact walk_out2 (a:=(a:Int)) (h:=2) HRe.out HK.out rfl HTr1.out HB1.out (by have:=HKa.out.2;omega)
   | true =>
    have hbd:=hdOk_bounds hok
    have hg3:=HG2.out
    rw[if_neg h9,if_neg (by rw[hok];simp)]at hg3
    rw[hok]at HHd
    obtain⟨S,hS⟩:∃S,hdN ys+13=S:=⟨_,rfl⟩
    rw[show (hdN ys:Int)+13=(S:Int) by omega]at HHd
    rw[hS]at hg3
    have hS1:25≤S∧S≤4194304:=by omega
    have HHt:=hide (hd_take ys S (by omega))
    have HOk:Hid (hdOk (ys.take S)=true):=HHt.out.2.trans hok
    have HNn:Hid (hdN (ys.take S)+13=S):=by show _=_;rw[HHt.out.1];exact hS
    have HG3:=hide hg3
    clear HG2 hg3 hok hbd hS HHt
    go_wp2_with fail
    refine HHd.out.mono ?_
    rintro e w1 ⟨rfl,hb1⟩
    have HTr1:=hide (HTr.out.below hb1)
    have HB1:=hide (HB.out.trans (hb1.mono HB.out.size))
    have HXd1:=hide (HXd.out.below hb1)
    clear hb1 HHd HTr HB HXd
    by_cases hsh:n - a<S
    ·have hsh':((n - a:Nat):Int)<(S:Int):=by omega
     have HRe:=HG3.out
     rw[if_pos hsh]at HRe
     have HRe:=hide HRe
     clear HG3
     go_wp2
     (try simp only[Exit.inBlock,Exit.then])
     refine bodyPost_ret (results_tmp4 rfl _ _ _) rfl ?_
     exact walk_out2 (a:=(a:Int)) (h:=1) HRe.out HK.out rfl HTr1.out HB1.out (by have:=HKa.out.2;omega)
    have hsh':¬((n - a:Nat):Int)<(S:Int):=by omega
    have hg3:=HG3.out
    rw[if_neg hsh]at hg3
    have hSc:(S:Int)≤((cap - a:Nat):Int):=by omega
    have hS0:(0:Int)≤(S:Int):=by omega
    have HTl:Hid ((ys.take S).length=S):=by show _=_;rw[List.length_take,HDl.out];omega
    have HXt:Hid (Bytes w1 (some ⟨g,o+a,none⟩) (ys.take S)):=Bytes.of_c (C.Bytes.take HXd1.out.c S)
    have HFi:=hide (rfirst_any w1 g (o+a) S (cap - a) (ys.take S) HTl.out hS1.1 hS1.2 (by omega) (by omega) HXt.out)
    have HDf:=hide (fun i=>doc_first HXt.out.small (by rw[HTl.out];exact hS1.2) HOk.out (by rw[HTl.out];exact HNn.out.symm) i)
    rw[HTl.out]at HDf
    cases hrr:readR (ys.take S) with
    | none =>
     rw[hrr]at hg3
     have HRe:=hide hg3
     have HNone:=hide hrr
     clear HG3 hg3 hrr
     go_wp2_with fail
     refine HFi.out.mono ?_
     rintro e w2 ⟨i,hi1,hi2,hb2,hcase⟩
     have HTr2:=hide (HTr1.out.below hb2)
     have HB2:=hide (HB1.out.trans (hb2.mono HB1.out.size))
     have HNe:=hide (((HDf.out i hi1 hi2).2) HNone.out)
     have HKa2:=HKa
     clear hb2 hi1 hi2
     rcases hcase with ⟨hg,pp,cp,rfl,_⟩ | ⟨_,rfl⟩
     ·have hne:=HNe.out hg
      generalize (recB (dNum (ys.take S)) (dPs (ys.take S) i)).length=L at *
      have hne':((L:Int) != (S:Int))=true:=by simp;omega
      have hne2:¬(L:Int)=(S:Int):=by omega
      go_wp2
      (try simp only[Exit.inBlock,Exit.then])
      refine bodyPost_ret (results_tmp4 rfl _ _ _) rfl ?_
      exact walk_out2 (a:=(a:Int)) (h:=2) HRe.out HK.out rfl HTr2.out HB2.out (by have:=HKa.out.2;omega)
     ·have hne':((0:Int) != (S:Int))=true:=by simp;omega
      have hne2:¬(0:Int)=(S:Int):=by omega
      go_wp2
      (try simp only[Exit.inBlock,Exit.then])
      refine bodyPost_ret (results_tmp4 rfl _ _ _) rfl ?_
      exact walk_out2 (a:=(a:Int)) (h:=2) HRe.out HK.out rfl HTr2.out HB2.out (by have:=HKa.out.2;omega)
    | some v =>
     obtain⟨num,ps⟩:=v
     rw[hrr]at hg3
     simp only at hg3
     have hnum:=readR_num hrr
     have HPo:Hid (partsOf (ys.take S)=ps):=by show _=_;unfold partsOf;rw[hrr]
     have HSome:=hide hrr
     have HG4:=hide hg3
     clear HG3 hg3 hrr
     go_wp2_with fail
     refine HFi.out.mono ?_
     rintro e w2 ⟨i,hi1,hi2,hb2,hcase⟩
     obtain⟨hgood,en,ep,el⟩:=(HDf.out i hi1 hi2).1 num ps HSome.out
     rcases hcase with ⟨_,pp,cp,rfl,hpt⟩ | ⟨hbad,_⟩
     rotate_left
     ·exact absurd hgood hbad
     have hil:i=ps.length:=by rw[←ep,dPs_len]
     rw[el,en,hil]
     rw[ep]at hpt
     have HTr2:=hide (HTr1.out.below hb2)
     have HB2:=hide (HB1.out.trans (hb2.mono HB1.out.size))
     have HPt:=hide hpt
     have HB12:=hide hb2
     clear hb2 hi1 hi2 hgood en ep el hpt hil HDf HFi HSome
     obtain⟨pk,hpk⟩:∃pk,ps.length=pk:=⟨_,rfl⟩
     have HPk:=hide hpk
     rw[hpk]
     clear hpk
     have hSS:((S:Int) != (S:Int))=false:=by simp
     have hla:=HLa.out
     by_cases hbadn:0<k∧num≠last+1
     ·have HRe:=HG4.out
      rw[if_pos (by rw[HK.out];exact hbadn)]at HRe
      have HRe:=hide HRe
      have hk0:(0:Int)<(k:Int):=by omega
      have hnx:((num:Int) != (last:Int)+1)=true:=by simp;omega
      clear HG4 hbadn
      go_wp2
      (try simp only[Exit.inBlock,Exit.then])
      refine bodyPost_ret (results_tmp4 rfl _ _ _) rfl ?_
      exact walk_out2 (a:=(a:Int)) (h:=2) HRe.out HK.out rfl HTr2.out HB2.out (by have:=HKa.out.2;omega)
     have HRe:=HG4.out
     rw[if_neg (by rw[HK.out];exact hbadn)]at HRe
     have HRe:=hide HRe
     obtain⟨vs,hv1,hv2⟩:=HTr2.out.row
     have HV1:=hide hv1
     have hvl:vs.length=k:=by have:=hv1.1;simpa using this
     have HV2:=hide hv2
     have HVl:=hide hvl
     clear HG4 hv1 hv2 hvl
     have hka:=HKa.out.1
     have HSm:Hid (a+S=((recs++[ys.take S]).map List.length).sum):=by show _=_;rw[List.map_append,List.sum_append,List.map_singleton,List.sum_singleton,HTl.out,←HKa.out.2]
     have HAll:Hid (allOf (recs++[ys.take S])=allOf recs++[ps]):=by show _=_;unfold allOf;rw[List.map_append,List.map_singleton,HPo.out]
     have haS:a+S≤n:=by omega
     by_cases hk0:0<k
     ·have hk0':(0:Int)<(k:Int):=by omega
      have hnx:((num:Int) != (last:Int)+1)=false:=by simp;omega
      have hnx2:(num:Int)=(last:Int)+1:=by omega
      have HNx:=hide hnx2
      clear hnx2 hbadn
      have hsz2:=HB2.out.size
      go_wp2_with (at_builtin;refine wpList_append_lies _ rfl (.tmp 70) (.tmp 72) 54 rfl w.heap.size 31 i0 (.slice none 0 0) 1 24 Tryz.underlying54 hi hz0 hz1 hz2 rfl (by omega) (.slice rp k c) k vs rfl (HV1.out.alloc _) ⟨w2.heap.size,0,none⟩ 1 1 [.slice pp pk cp] rfl rfl (World.news_of_block (heap_alloc_new w2 (.cells #[.slice pp pk cp] 31))) (by simp[Value.oneCell']) (by omega) (by unfold maxLen;omega) (by omega) (by simp;omega) _ rfl ?_;intro g' cap' w4 ho4 hg4 hat4 hlt4;have HO4:=hide ho4;have HG4:=hide hg4;have HA4:=hide hat4;clear ho4 hg4 hat4 hlt4;have HTr4:Hid (Tr2 w.heap.size w4 (some ⟨g',0,none⟩) (k+1) cap' (allOf (recs++[ys.take S]))):=(by show Tr2 _ _ _ _ _ _;rw[HAll.out];have ho:=HO4.out;rw[←HPk.out]at ho;exact Tr2.put HTr1.out HPt.out HV2.out HVl.out _ ho HG4.out HA4.out HB1.out.size);have HB4:Hid (Below w.heap.size w w4):=(HB2.out.alloc HB2.out.size _).grown HG4.out (by simp;omega) (fun _ e=>C.owns_bs HV1.out e);clear HO4 HG4 HA4)
      have HGo4:Hid (n - (a+S)<f'∧goB f' (xs.drop (a+S)) (recs++[ys.take S]) num=R):=⟨by have:=HF.out;omega,by rw[HDr.out];exact HRe.out⟩
      have HK4:Hid ((recs++[ys.take S]).length=k+1):=by show _=_;rw[List.length_append,HK.out];rfl
      go_wp2
      go_roundw
      case rel=>exact⟨k+1,cap',num,a+S,f',some ⟨g',0,none⟩,recs++[ys.take S],rfl,by go_num,by go_num,haS,by omega,HK4,hide hnum.2,HTr4,HB4,HGo4,hide ⟨by omega,HSm.out⟩⟩
      case measure=>simp[intOf];omega
     ·have hk0':¬(0:Int)<(k:Int):=by omega
      have hsz2:=HB2.out.size
      clear hbadn
      go_wp2_with (at_builtin;refine wpList_append_lies _ rfl (.tmp 70) (.tmp 72) 54 rfl w.heap.size 31 i0 (.slice none 0 0) 1 24 Tryz.underlying54 hi hz0 hz1 hz2 rfl (by omega) (.slice rp k c) k vs rfl (HV1.out.alloc _) ⟨w2.heap.size,0,none⟩ 1 1 [.slice pp pk cp] rfl rfl (World.news_of_block (heap_alloc_new w2 (.cells #[.slice pp pk cp] 31))) (by simp[Value.oneCell']) (by omega) (by unfold maxLen;omega) (by omega) (by simp;omega) _ rfl ?_;intro g' cap' w4 ho4 hg4 hat4 hlt4;have HO4:=hide ho4;have HG4:=hide hg4;have HA4:=hide hat4;clear ho4 hg4 hat4 hlt4;have HTr4:Hid (Tr2 w.heap.size w4 (some ⟨g',0,none⟩) (k+1) cap' (allOf (recs++[ys.take S]))):=(by show Tr2 _ _ _ _ _ _;rw[HAll.out];have ho:=HO4.out;rw[←HPk.out]at ho;exact Tr2.put HTr1.out HPt.out HV2.out HVl.out _ ho HG4.out HA4.out HB1.out.size);have HB4:Hid (Below w.heap.size w w4):=(HB2.out.alloc HB2.out.size _).grown HG4.out (by simp;omega) (fun _ e=>C.owns_bs HV1.out e);clear HO4 HG4 HA4)
      have HGo4:Hid (n - (a+S)<f'∧goB f' (xs.drop (a+S)) (recs++[ys.take S]) num=R):=⟨by have:=HF.out;omega,by rw[HDr.out];exact HRe.out⟩
      have HK4:Hid ((recs++[ys.take S]).length=k+1):=by show _=_;rw[List.length_append,HK.out];rfl
      go_wp2
      go_roundw
      case rel=>exact⟨k+1,cap',num,a+S,f',some ⟨g',0,none⟩,recs++[ys.take S],rfl,by go_num,by go_num,haS,by omega,HK4,hide hnum.2,HTr4,HB4,HGo4,hide ⟨by omega,HSm.out⟩⟩
      case measure=>simp[intOf];omega
  ·have hz':¬(a:Int)<(n:Int):=by omega
   have HRe:=HG2.out
   rw[hdl,if_pos (by omega)]at HRe
   have HRe:=hide HRe
   clear HG2 HGo hg2 hdl
   go_wp2
   (try simp only[Exit.inBlock,Exit.then])
   refine bodyPost_ret (results_tmp4 rfl _ _ _) rfl ?_
   exact walk_out2 (a:=(a:Int)) (h:=0) HRe.out HK.out rfl HTr.out HB.out (by have:=HKa.out.2;omega)
end Go.Proofs.YtcceejdaokoihaaGreatDoor
