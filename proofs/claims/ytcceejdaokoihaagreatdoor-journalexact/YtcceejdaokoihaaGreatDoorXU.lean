import Derived.Test.YtcceejdaokoihaaGreatDoorXT
import Derived.Test.YtcceejdaokoihaaGreatDoorJDec
import Derived.Test.YtcceejdaokoihaaGreatDoorDocLa
set_option maxRecDepth 100000
namespace Go.Proofs.YtcceejdaokoihaaGreatDoor
open Go.RowKit Go.Maps
structure Sr (w:World) (sp:Option Addr) (l:List Nm):Prop where
 lie:l=[]∨∃g,sp=some ⟨g,0,none⟩∧g<w.heap.size∧∀(j:Nat) (x:Nm),l[j]?=some x→w.cell? ⟨g,j,none⟩=some (.string ⟨x.toArray⟩)
theorem owns_sr {w:World} {B:Nat} {sp:Option Addr} {n c:Nat} {l:List Nm} (hn:l.length=n) (h:w.ownsRow B 9 1 (.slice sp n c) n (strs l)):Sr w sp l:=by
 rcases h.2 with ⟨_,e2⟩ | ⟨g,cap,cur,e1,_,hg,e3,e4,e5,e6⟩
 ·exact⟨Or.inl (List.eq_nil_of_length_eq_zero (by rw[hn];exact e2))⟩
 ·cases e1
  refine⟨Or.inr ⟨g,rfl,lt_of_block hg,fun j x hx=>?_⟩⟩
  have hj:j<n:=by rw[←hn];exact(List.getElem?_eq_some_iff.1 hx).1
  have hv:(strs l)[j]?=some (.string ⟨x.toArray⟩):=by unfold strs;rw[List.getElem?_map,hx];rfl
  rw[←e6,List.getElem?_take,if_pos (by omega)]at hv
  simp only[World.cell?,hg]
  simpa using hv
theorem Sr.below {w w':World} {sp:Option Addr} {l:List Nm} (h:Sr w sp l) (hb:Below w.heap.size w w'):Sr w' sp l :=
 ⟨h.lie.imp id fun ⟨g,e,hg,hc⟩=>⟨g,e,Nat.lt_of_lt_of_le hg hb.size,fun j x hx=>by rw[hb.cell (p:=⟨g,j,none⟩) hg];exact hc j x hx⟩⟩
theorem Sr.at {w:World} {sp:Option Addr} {l:List Nm} (h:Sr w sp l) {j:Nat} {x:Nm} (hx:l[j]?=some x):∃g,sp=some ⟨g,0,none⟩∧g<w.heap.size∧w.cell? ⟨g,j,none⟩=some (.string ⟨x.toArray⟩):=by
 rcases h.lie with e | ⟨g,e,hg,hc⟩
 ·rw[e]at hx;simp at hx
 ·exact⟨g,e,hg,hc j x hx⟩
set_option maxHeartbeats 400000 in
theorem eqstrs_same (w:World) (p1 p2:Option Addr) (k c1 c2:Nat) (l:List Nm) (hk:l.length=k) (hkl:k≤1099511627776) (h1:Sr w p1 l) (h2:Sr w p2 l) :
  Calls Tryz.prog 69 #[.slice p1 k c1,.slice p2 k c2] w fun e w'=>e=.returned (.bool true)∧∃q,w'=w.drewN q:=by
 have HA:=hide h1
 have HB:=hide h2
 have HK:=hide hk
 clear h1 h2 hk
 go_enter Tryz.func69,Tryz.ntmps69
 go_wp2
 go_loopw [5] (fun i wr=>∃j q:Nat,j≤k∧i=.int .i64 j∧Hid (wr=w.drewN q)) (fun i _=>k - (intOf i).toNat)
 case atStart=>exact⟨0,0,Nat.zero_le _,rfl,rfl⟩
 case round =>
  obtain⟨j,q,hj,rfl,HW⟩:=hrel
  by_cases hlt:j<k
  ·obtain⟨p,hp⟩:∃p,l[j]?=some p:=⟨_,List.getElem?_eq_getElem (by rw[HK.out];exact hlt)⟩
   obtain⟨g1,rfl,l1,x1⟩:=HA.out.at hp
   obtain⟨g2,rfl,l2,x2⟩:=HB.out.at hp
   have y1:wr.cell? ⟨g1,j,none⟩=some (.string ⟨p.toArray⟩):=by rw[HW.out];exact x1
   have y2:wr.cell? ⟨g2,j,none⟩=some (.string ⟨p.toArray⟩):=by rw[HW.out];exact x2
   have i1:(0:Int)≤(j:Int):=by omega
   have i2:(j:Int)<(k:Int):=by omega
   generalize (⟨p.toArray⟩:ByteArray)=s at *
   clear hp x1 x2
   go_wp2
   go_quiet (fail)
   go_wp2
   go_roundw
   case rel=>exact⟨j+1,q+nq,by omega,by go_num,by show _=_;rw[HW.out,World.drewN_drewN]⟩
   case measure=>simp[intOf];omega
  ·obtain rfl:j=k:=by omega
   go_wp2
   go_ret
   exact⟨rfl,q,HW.out⟩
theorem all_few {J:Jr} {k:Nat} (h:Okj J k):∀ps∈allOf J.recs,ps.length≤4096∧∀p∈ps,p.length≤140737488351232:=fun ps hp=>by
 unfold allOf at hp
 obtain⟨r,hr,rfl⟩:=List.mem_map.1 hp
 have h1:=partsOf_small r
 exact⟨h1.1,fun p hp2=>by have:=h1.2 p hp2;have:=h.recs r hr;omega⟩
theorem names_le {S:St} (hv:Inv S):S.names.length≤64:=by
 unfold St.names
 split
 ·simp
 ·rw[List.length_map];exact hv.most
set_option maxHeartbeats 8000000 in
theorem stell_any (w:World) (K:Knd) (c b:Nat) (X:Sd) (k:Nat) (J:Jr) (hJ:X.j=some J) (h:Sk w K c b X) (ho:Sok X k) (hk:k≤274877906000) (hT:C.Tab w) :
  Calls Tryz.prog 28 #[.pointer (some ⟨b,0,none⟩)] w fun e w'=>e=.returned (.bool true)∧Below w.heap.size w w':=by
 obtain⟨d,rd,jp,rp,hw⟩:=h
 obtain⟨jb,rb,rfl,rfl,hj,hr⟩:=hw.jk J hJ
 have hb:=hw.blk
 obtain⟨q0,q1,q2,q3,q4,q5,qf⟩:=blk6 hb
 have hbl:=lt_of_block hb
 have hjo:=ho.jok J hJ
 have hjl:=hjo.len
 have hfb:=okd_fb0 ho.ok (by omega:k≤274877906944)
 obtain⟨tv,vs,hrm⟩:=hr
 obtain⟨ar,cr,rfl,_,_⟩:=hrm.row.form
 have HTs:=hide hrm.trs
 have hrb:=hrm.blk
 unfold rcells at hrb
 obtain⟨r0,r1,r2,r3,r4,r5,r6,r7,r8,rf⟩:=blk9 hrb
 have hrl:=lt_of_block hrb
 obtain⟨fv,sv,cv,fs,htm⟩:=hw.tk
 have htb:=htm.blk
 unfold tcells at htb
 obtain⟨t0,t1,t2,t3,t4,t5,t6,t7,t8,t9,tf⟩:=blk10 htb
 have htl:=lt_of_block htb
 have HAll:=hide (fun q=>All_any (w.drewN q) K (c+2) d jb J (hj.kept ((Kp.refl (fun _=>False) K w).drewN q) (fun _ h=>h)) hjo.recs (by omega) (hT.below (below_drewN (Below.refl _ w) q) hT.pos))
 have HJ0:=hide hj
 have HD0:=hide hw.dk
 have HT0:=hide hw.tk
 have HAf:=hide (all_few hjo)
 have HIv:=hide ho.ok.inv
 have HSz:=hide ho.ok.sz
 have HFb:=hide hfb
 have hnl:=names_le ho.ok.inv
 have hla:=hjo.last
 obtain⟨L,hL⟩:∃L,J.recs.length=L:=⟨_,rfl⟩
 rw[hL]at HAll hjl r2
 have HLa:Hid ((allOf J.recs).length=L):=by show _=_;unfold allOf;rw[List.length_map];exact hL
 have HLe:=hide hL
 obtain⟨N1,hN1⟩:∃N1,J.last+1=N1:=⟨_,rfl⟩
 have HN1:=hide hN1
 rw[hN1]at r4
 have hN1b:N1≤1099511627777:=by omega
 clear hj hw hb hrm hrb htm htb hT hjo hfb ho hL hN1 hla q0 q1 r0 r1 r3 r6 r7 r8 rf t0 t1 t2 t3 t4 t6 t7 t8 t9 tf qf
 have n0:((L:Int) != (L:Int))=false:=by simp
 have n1:((N1:Int) != (N1:Int))=false:=by simp
 obtain⟨tn,htn⟩:∃tn,J.torn=tn:=⟨_,rfl⟩
 obtain⟨stk,hstk⟩:∃stk,X.S.strokes=stk:=⟨_,rfl⟩
 rw[htn]at r5
 rw[hstk]at t5
 have n2:((stk:Int) != (stk:Int))=false:=by simp
 have n3:(tn != tn)=false:=by simp
 have HTn0:=hide htn
 have HStk:=hide hstk
 clear htn hstk
 go_enter Tryz.func28,Tryz.ntmps28
 go_wp2
 simp only[List.append]
 go_region_held3 (fun w'=>w'.cell? ⟨b,2,none⟩=some (.pointer (some ⟨d,0,none⟩))∧w'.cell? ⟨b,3,none⟩=some (.pointer (some ⟨jb,0,none⟩))∧w'.cell? ⟨b,4,none⟩=some (.pointer (some ⟨rd,0,none⟩))∧w'.cell? ⟨b,5,none⟩=some (.pointer (some ⟨rb,0,none⟩))∧w'.cell? ⟨rb,2,none⟩=some (.slice ar L cr)∧w'.cell? ⟨rb,4,none⟩=some (.int .u64 (N1:Int))∧w'.cell? ⟨rb,5,none⟩=some (.bool tn)∧w'.cell? ⟨rd,5,none⟩=some (.int .i64 (stk:Int))) (first | (refine⟨?_,?_,?_,?_,?_,?_,?_,?_⟩ <;> assumption) | go_keep)
  (first
   | (go_at_call 16;refine HSk.out.mono ?_;rintro e w3 ⟨rfl,h3⟩;obtain rfl:=h3.symm;clear h3)
   | (go_at_call 66;refine HTn.out.mono ?_;rintro e w3 ⟨rfl,h3⟩;obtain rfl:=h3.symm;clear h3)
   | (go_at_call 15;refine HNx.out.mono ?_;rintro e w3 ⟨rfl,h3⟩;obtain rfl:=h3.symm;clear h3)
   | (go_at_call 14;refine HLn.out.mono ?_;rintro e w3 ⟨rfl,h3⟩;obtain rfl:=h3.symm;clear h3)
   | (go_at_call 19;refine HTv.out.mono ?_;rintro e w2 ⟨rfl,q,hq⟩;have kq:Kp (fun _=>False) K1 K1 w1 w2:=(by rw[hq];exact(Kp.refl _ K1 w1).drewN q);have HJ2:=hide (HJ1.out.kept kq (fun _ h=>h));have HD2:=hide (HD1.out.kept kq (fun _ h=>h));have HT2:=hide (HT1.out.kept kq (fun _ h=>h));have HB2:Hid (Below w.heap.size w w2):=(by show Below _ _ _;rw[hq];exact below_drewN HB1.out q);have z0:w2.cell? ⟨b,2,none⟩=some (.pointer (some ⟨d,0,none⟩)):=(by rw[hq];exact y0);have z1:w2.cell? ⟨b,3,none⟩=some (.pointer (some ⟨jb,0,none⟩)):=(by rw[hq];exact y1);have z2:w2.cell? ⟨b,4,none⟩=some (.pointer (some ⟨rd,0,none⟩)):=(by rw[hq];exact y2);have z3:w2.cell? ⟨b,5,none⟩=some (.pointer (some ⟨rb,0,none⟩)):=(by rw[hq];exact y3);have z4:w2.cell? ⟨rb,2,none⟩=some (.slice ar L cr):=(by rw[hq];exact y4);have z5:w2.cell? ⟨rb,4,none⟩=some (.int .u64 (N1:Int)):=(by rw[hq];exact y5);have z6:w2.cell? ⟨rb,5,none⟩=some (.bool tn):=(by rw[hq];exact y6);have z7:w2.cell? ⟨rd,5,none⟩=some (.int .i64 (stk:Int)):=(by rw[hq];exact y7);have hln:=jlen_any w2 K1 (c+2) d jb J HJ2.out;rw[HLe.out]at hln;have HLn:=hide hln;have hnx:=next_any w2 K1 (c+2) d jb J HJ2.out (by have:=HN1.out;omega);rw[HN1.out]at hnx;have HNx:=hide hnx;have htr:=jtorn_any w2 K1 (c+2) d jb J HJ2.out;rw[HTn0.out]at htr;have HTn:=hide htr;have hsk:=Strokes_any w2 K1 (c+1) d X.S HD2.out;rw[HStk.out]at hsk;have HSk:=hide hsk;clear hln hnx htr hsk hq kq HTv)
   | (go_at_call 20;refine(HAll.out 1).mono ?_;rintro e w1 ⟨a1,c1,rfl,ht1,hb1⟩;have HB1:=hide (below_un3 hb1);have hk1:=kp_below HB1.out (fun _=>False) K (0,0);have HJ1:=hide (HJ0.out.kept hk1 (fun _ h=>h));have HD1:=hide (HD0.out.kept hk1 (fun _ h=>h));have HT1:=hide (HT0.out.kept hk1 (fun _ h=>h));have HTv:=hide (trans_same w1 a1 ar L c1 cr (allOf J.recs) HLa.out (by omega) (ht1.trs HAf.out) (HTs.out.below HB1.out));have y0:w1.cell? ⟨b,2,none⟩=some (.pointer (some ⟨d,0,none⟩)):=(HB1.out.cell (p:=⟨b,2,none⟩) hbl).trans q2;have y1:w1.cell? ⟨b,3,none⟩=some (.pointer (some ⟨jb,0,none⟩)):=(HB1.out.cell (p:=⟨b,3,none⟩) hbl).trans q3;have y2:w1.cell? ⟨b,4,none⟩=some (.pointer (some ⟨rd,0,none⟩)):=(HB1.out.cell (p:=⟨b,4,none⟩) hbl).trans q4;have y3:w1.cell? ⟨b,5,none⟩=some (.pointer (some ⟨rb,0,none⟩)):=(HB1.out.cell (p:=⟨b,5,none⟩) hbl).trans q5;have y4:w1.cell? ⟨rb,2,none⟩=some (.slice ar L cr):=(HB1.out.cell (p:=⟨rb,2,none⟩) hrl).trans r2;have y5:w1.cell? ⟨rb,4,none⟩=some (.int .u64 (N1:Int)):=(HB1.out.cell (p:=⟨rb,4,none⟩) hrl).trans r4;have y6:w1.cell? ⟨rb,5,none⟩=some (.bool tn):=(HB1.out.cell (p:=⟨rb,5,none⟩) hrl).trans r5;have y7:w1.cell? ⟨rd,5,none⟩=some (.int .i64 (stk:Int)):=(HB1.out.cell (p:=⟨rd,5,none⟩) htl).trans t5;generalize ext K w.heap.size (0,0)=K1 at *;clear ht1 hb1 hk1 HAll)
   | fail)
 have hbl2:b<w2.heap.size:=Nat.lt_of_lt_of_le hbl HB2.out.size
 have HLi:=hide (List_any w2 K1 (c+1) d X.S HD2.out HIv.out)
 clear HJ1 HD1 HT1 HB1 y0 y1 y2 y3 y4 y5 y6 y7 HJ0 HD0 HT0 HTs q2 q3 q4 q5 r2 r4 r5 t5
 go_wp2_with fail
 obtain⟨nm,hnm⟩:∃nm,X.S.names.length=nm:=⟨_,rfl⟩
 rw[hnm]at HLi hnl
 have HNm:=hide hnm
 obtain⟨oe,hoe⟩:∃oe,X.S.offE=oe:=⟨_,rfl⟩
 rw[hoe]at HLi
 clear hnm HLn HNx HTn HSk n0 n1 n2 n3 z1 z3 z4 z5 z6 z7
 refine HLi.out.mono ?_
 rintro e w4 ⟨aL,cL,rfl,hoL,hbL⟩
 have hk4:=kp_below hbL (fun _=>False) K1 (0,0)
 have HD4:=hide (HD2.out.kept hk4 (fun _ h=>h))
 have HB4:=hide (HB2.out.trans (hbL.mono HB2.out.size))
 have HSr4:=hide (owns_sr HNm.out hoL)
 have hTl:=tlist_any w4 (ext K1 w2.heap.size (0,0)) (c+3) rd X.S (HT2.out.kept hk4 (fun _ h=>h)) HIv.out HFb.out
 rw[HNm.out,hoe]at hTl
 have HTl:=hide hTl
 have HT4:=hide (HT2.out.kept hk4 (fun _ h=>h))
 have y2:=(hbL.cell (p:=⟨b,2,none⟩) hbl2).trans z0
 have y4:=(hbL.cell (p:=⟨b,4,none⟩) hbl2).trans z2
 have hbl4:b<w4.heap.size:=Nat.lt_of_lt_of_le hbl2 hbL.size
 generalize ext K1 w2.heap.size (0,0)=K4 at *
 clear hoL hbL hk4 hTl HLi HD2 HT2 HB2 z0 z2 hoe HJ2
 go_wp2_with fail
 refine HTl.out.mono ?_
 rintro e w5 ⟨aM,cM,rfl,hlM⟩
 have hbM:=hlM.bel
 have hk5:=kp_below hbM (fun _=>False) K4 (0,0)
 have HD5:=hide (HD4.out.kept hk5 (fun _ h=>h))
 have HT5:=hide (HT4.out.kept hk5 (fun _ h=>h))
 have HB5:=hide (HB4.out.trans (hbM.mono HB4.out.size))
 have HSr5:=hide (owns_sr HNm.out hlM.own)
 have HEs:=hide (eqstrs_same w5 aL aM nm cL cM X.S.names HNm.out (by omega) (HSr4.out.below hbM) HSr5.out)
 have z2:=(hbM.cell (p:=⟨b,2,none⟩) hbl4).trans y2
 have z4:=(hbM.cell (p:=⟨b,4,none⟩) hbl4).trans y4
 have hbl5:b<w5.heap.size:=Nat.lt_of_lt_of_le hbl4 hbM.size
 generalize ext K4 w4.heap.size (0,0)=K5 at *
 have n0:((oe:Int) != (oe:Int))=false:=by simp
 clear hlM hbM hk5 HTl HD4 HT4 HB4 HSr4 y2 y4
 go_wp2_with fail
 refine HEs.out.mono ?_
 rintro e w6 ⟨rfl,q,hq⟩
 have kq:Kp (fun _=>False) K5 K5 w5 w6:=by rw[hq];exact(Kp.refl _ K5 w5).drewN q
 have HD6:=hide (HD5.out.kept kq (fun _ h=>h))
 have HT6:=hide (HT5.out.kept kq (fun _ h=>h))
 have HB6:Hid (Below w.heap.size w w6):=by show Below _ _ _;rw[hq];exact below_drewN HB5.out q
 have HSr6:Hid (Sr w6 aM X.S.names):=by show Sr _ _ _;rw[hq];exact HSr5.out.below (below_drewN (Below.refl _ w5) q)
 have y2:w6.cell? ⟨b,2,none⟩=some (.pointer (some ⟨d,0,none⟩)):=by rw[hq];exact z2
 have y4:w6.cell? ⟨b,4,none⟩=some (.pointer (some ⟨rd,0,none⟩)):=by rw[hq];exact z4
 have hbl6:b<w6.heap.size:=by rw[hq];exact hbl5
 clear hq kq HEs HD5 HT5 HB5 HSr5 z2 z4
 go_wp2
 go_loopw [7] (fun i wr=>∃(j:Nat),j≤nm∧i=.int .i64 (j:Int)∧Hid (Below w6.heap.size w6 wr)) (fun i _=>nm - (intOf i).toNat)
 case atStart=>exact⟨0,Nat.zero_le _,rfl,hide (Below.refl _ _)⟩
 case round =>
  obtain⟨j,hj,rfl,HBr⟩:=hrel
  by_cases hlt:j<nm
  ·have j1:(0:Int)≤(j:Int):=by omega
   have j2:(j:Int)<(nm:Int):=by omega
   obtain⟨x,hx⟩:∃x,X.S.names[j]?=some x:=⟨_,List.getElem?_eq_getElem (by rw[HNm.out];exact hlt)⟩
   obtain⟨g,rfl,hg,x0⟩:=(HSr6.out.below HBr.out).at hx
   have hg6:g<w6.heap.size:=by
    obtain⟨g',e',hg',_⟩:=HSr6.out.at hx
    cases e'
    exact hg'
   have hxl:x.length≤64:=by
    have hm:=List.mem_of_getElem? hx
    unfold St.names at hm
    split at hm
    ·cases hm
    ·obtain⟨p,hp,rfl⟩:=List.mem_map.1 hm
     exact(nm_len (HIv.out.ins p hp).2).2
   have hkr:=kp_below HBr.out (fun _=>False) K5 (0,0)
   have HR1:=hide (fun q=>Read_any (wr.drewN q) (ext K5 w6.heap.size (0,0)) (c+1) d X.S (dk_drew (HD6.out.kept hkr (fun _ h=>h)) q) HIv.out k HSz.out (by omega) x (by omega))
   have HTr:=hide (HT6.out.kept hkr (fun _ h=>h))
   have v2:=(HBr.out.cell (p:=⟨b,2,none⟩) hbl6).trans y2
   have v4:=(HBr.out.cell (p:=⟨b,4,none⟩) hbl6).trans y4
   have hblr:b<wr.heap.size:=Nat.lt_of_lt_of_le hbl6 HBr.out.size
   generalize ext K5 w6.heap.size (0,0)=Kr at *
   obtain⟨BL,hBL⟩:∃BL,(X.S.bytes x).length=BL:=⟨_,rfl⟩
   have hbyl:=bytes_le HIv.out x
   rw[hBL]at HR1 hbyl
   have HBL:=hide hBL
   obtain⟨ee,hee⟩:∃ee,X.S.err x=ee:=⟨_,rfl⟩
   rw[hee]at HR1
   have HEe:=hide hee
   have HSm:=hide (bytes_small HIv.out HSz.out x)
   generalize hsx:(⟨x.toArray⟩:ByteArray)=sx at *
   have HSx:=hide hsx
   clear hx hkr hBL hee hsx
   go_wp2
   go_region_held3 (fun w'=>w'.cell? ⟨b,2,none⟩=some (.pointer (some ⟨d,0,none⟩))∧w'.cell? ⟨g,j,none⟩=some (.string sx)) (first | (refine⟨?_,?_⟩ <;> assumption) | go_keep)
    (first | (go_at_call 39;refine(HR1.out 1).mono ?_;rintro e w7 ⟨a7,c7,rfl,ho7,hb7⟩;have HB7:=hide (below_un3 hb7);have HO7:=hide ho7;have p2:=(HB7.out.cell (p:=⟨b,2,none⟩) hblr).trans v2;have p4:=(HB7.out.cell (p:=⟨b,4,none⟩) hblr).trans v4;have p0:=(HB7.out.cell (p:=⟨g,j,none⟩) hg).trans x0;clear ho7 hb7) | fail)
   have hk7:=kp_below HB7.out (fun _=>False) Kr (0,0)
   have hRd:=fun q=>tread_any (w7.drewN q) (ext Kr wr.heap.size (0,0)) (c+3) rd X.S (tk_drew2 (HTr.out.kept hk7 (fun _ h=>h)) q) HIv.out HFb.out x
   rw[HBL.out,HEe.out,HSx.out]at hRd
   have HR2:=hide hRd
   have HBr7:=hide (HBr.out.trans (HB7.out.mono HBr.out.size))
   have hbl7:b<w7.heap.size:=Nat.lt_of_lt_of_le hblr HB7.out.size
   have hg7:g<w7.heap.size:=Nat.lt_of_lt_of_le hg HB7.out.size
   have HY7:=hide (owns_bytes HO7.out HSm.out)
   clear hk7 hRd HR1 v2 v4 x0
   go_wp2
   go_region_held3 (fun w'=>w'.cell? ⟨b,4,none⟩=some (.pointer (some ⟨rd,0,none⟩))∧w'.cell? ⟨g,j,none⟩=some (.string sx)) (first | (refine⟨?_,?_⟩ <;> assumption) | go_keep)
    (first | (go_at_call 63;refine(HR2.out 1).mono ?_;rintro e w8 ⟨a8,c8,rfl,hl8⟩;have HB8:=hide (below_un3 hl8.bel);have HL8:=hide hl8;have m4:=(HB8.out.cell (p:=⟨b,4,none⟩) hbl7).trans p4;have m0:=(HB8.out.cell (p:=⟨g,j,none⟩) hg7).trans p0;clear hl8) | fail)
   have HQ:=hide (eq_same w8 a7 a8 BL c7 c8 (X.S.bytes x) HBL.out (by omega) (HY7.out.below HB8.out) (Bytes.of_c HL8.out.bytes))
   have HBr8:=hide (HBr7.out.trans (HB8.out.mono HBr7.out.size))
   have k0:((ee:Int) != (ee:Int))=false:=by simp
   clear HR2 HO7 HL8 HB7 HB8 HY7 p2 p4 p0 m4 m0
   go_wp2_with fail
   refine HQ.out.mono ?_
   rintro e w9 ⟨rfl,q9,hq9⟩
   have HBr9:Hid (Below w6.heap.size w6 w9):=by show Below _ _ _;rw[hq9];exact below_drewN HBr8.out q9
   clear hq9
   go_wp2
   go_roundw
   case rel=>exact⟨j+1,by omega,by go_num,HBr9⟩
   case measure=>simp[intOf];omega
  ·have j2:¬(j:Int)<(nm:Int):=by omega
   go_wp2
   go_ret
   exact⟨rfl,HB6.out.trans (HBr.out.mono HB6.out.size)⟩
end Go.Proofs.YtcceejdaokoihaaGreatDoor
