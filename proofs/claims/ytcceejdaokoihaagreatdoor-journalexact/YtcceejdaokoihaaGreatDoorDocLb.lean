import Derived.Test.YtcceejdaokoihaaGreatDoorDocLa
set_option maxRecDepth 100000
namespace Go.Proofs.YtcceejdaokoihaaGreatDoor
open Go.RowKit Go.Maps
set_option maxHeartbeats 4000000 in
theorem tappend_there (w:World) (K:Knd) (o d:Nat) (S:St) (h:Tk w K o d S) (hv:Inv S) (hb:Fb S) (h1:S.strokes≤1099511627776) (h2:S.planned≤1099511627776) (_hfl:S.files.length≤549755813888) (x:Nm) (sp:Option Addr) (m cap:Nat) (xs:List Nat) (hm:xs.length=m) (hml:m≤549755813888) (hx:Bytes w sp xs) (ha:Alien K o sp xs) (hlk0:lookN S.seen x≠none) :
  Calls Tryz.prog 34 #[.pointer (some ⟨d,0,none⟩),.string ⟨x.toArray⟩,.slice sp m cap] w fun e w'=>∃K',e=.returned (.int .i64 ((S.appendR x xs).1:Int))∧Tk w' K' o d (S.appendR x xs).2∧Kp (Ow o) K K' w w':=by
 obtain⟨i0,hi,hz0,hz1,hz2⟩:=info_parts Tryz.infoTu
 have HF:=hide (rfind_any w K o d S h hv hb x)
 have HT:=hide h
 have HX:=hide hx
 have HA:=hide ha
 have HMl:=hide hm
 have HSe:=hide (fun w1 K1 ht=>Seen_any w1 K1 o d S ht hv hb.nm)
 have HUs:=hide (fun w1 K1 ht=>used_any w1 K1 o d S ht hv hb)
 have HR:Hid (S.appendR x xs=if S.off then (45,S) else if isNm x=false∨(lookN S.seen x=none∧64≤S.seen.length) then (41,S) else
  if S.stroked.full xs.length then (if S.power=0 then 44 else S.power,S.stroked) else
  match lookN S.seen x with
  | some i=>(S.power,S.stroked.turn i ((S.file i).add xs))
  | none=>(S.power,((S.stroked.made ⟨[],[]⟩).ren ⟨[],x,S.files.length⟩).turn S.files.length ((⟨[],[]⟩:Fil).add xs))):=rfl
 have HFn:Hid (S.fnd x=if S.err x=0 then (((lookN S.seen x).getD 0:Nat):Int) else -1):=rfl
 have hec:=err_cases S x
 have HV:=hide hv
 have HBf:=hide hb
 have hns:=hb.ns
 have hroom:=hv.room
 have hused:=hv.used
 obtain⟨R,hRe⟩:∃R,S.appendR x xs=R:=⟨_,rfl⟩
 rw[hRe]at HR
 rw[hRe]
 clear hRe
 generalize S.fnd x=F at *
 generalize S.err x=E at *
 have HLk:=hide hlk0
 clear h hv hb hx ha hm hlk0
 have hcase:(∃e0:Nat,E=e0∧(e0=45∨e0=41)∧R=(e0,S))∨(S.off=false∧isNm x=true∧((E=42∧lookN S.seen x=none)∨∃i,E=0∧lookN S.seen x=some i)):=by
  rcases hec with ⟨h1,h2⟩ | ⟨h1,h2,h3⟩ | ⟨h1,h2,h3,h4⟩ | ⟨h1,h2,⟨i,h3⟩,h4⟩
  ·exact Or.inl ⟨45,h2,Or.inl rfl,by rw[HR.out,if_pos h1]⟩
  ·exact Or.inl ⟨41,h3,Or.inr rfl,by rw[HR.out,if_neg (by rw[h1];simp),if_pos (Or.inl h2)]⟩
  ·exact Or.inr ⟨h1,h2,Or.inl ⟨h4,h3⟩⟩
  ·exact Or.inr ⟨h1,h2,Or.inr ⟨i,h4,h3⟩⟩
 clear hec
 rcases hcase with ⟨e0,rfl,he0,rfl⟩ | ⟨hoff,hnm,hcase⟩
 ·have n1:((E:Int) == 42)=false:=by simp;omega
  have n2:((E:Int) != 0)=true:=by simp;omega
  have n3:((E:Int) != 42)=true:=by simp;omega
  have n4:¬(E:Int)=42:=by omega
  have n5:¬(E:Int)=0:=by omega
  clear he0 HR HFn
  go_enter Tryz.func34,Tryz.ntmps34
  go_wp2_with fail
  refine HF.out.mono ?_
  rintro e w1 ⟨rfl,hb1⟩
  have HK1:=hide (kp_below hb1 (Ow o) K (0,0))
  have HT1:=hide (HT.out.kept (kp_below hb1 (fun _=>False) K (0,0)) (fun _ h=>h))
  clear hb1
  go_wp2
  go_ret
  first | exact⟨_,rfl,HT1.out,HK1.out⟩ | exact⟨rfl,_,HT1.out,HK1.out⟩
 ·rcases hcase with ⟨rfl,hlk⟩ | ⟨i,rfl,hlk⟩
  ·exact absurd hlk HLk.out
  ·obtain rfl:F=(i:Int):=by rw[HFn.out,hlk];rfl
   have HR2:Hid (R=if S.stroked.full xs.length then (if S.power=0 then 44 else S.power,S.stroked) else (S.power,S.stroked.turn i ((S.file i).add xs))):=by show _=_;rw[HR.out,if_neg (by rw[hoff];simp),if_neg (by rw[hnm,hlk];simp),hlk]
   clear HFn HR
   go_enter Tryz.func34,Tryz.ntmps34
   go_wp2_with fail
   refine HF.out.mono ?_
   rintro e w2 ⟨rfl,hb1⟩
   have HK2:=hide (kp_below hb1 (Ow o) K (0,0))
   have HT2:=hide (HT.out.kept (kp_below hb1 (fun _=>False) K (0,0)) (fun _ h=>h))
   generalize ext K w.heap.size (0,0)=K2 at *
   clear hb1
   obtain⟨fv2,sv2,cv2,fs2,hm2⟩:=HT2.out
   have hbl2:=hm2.blk
   unfold tcells at hbl2
   obtain⟨q0,q1,q2,q3,q4,q5,q6,q7,q8,q9,qf⟩:=blk10 hbl2
   have hdl2:=lt_of_block hbl2
   have HU:=hide (fun q=>HUs.out (w2.drewN q) K2 (HT2.out.kept ((Kp.refl (fun _=>False) K2 w2).drewN q) (fun _ h=>h)))
   have HWs:Hid (IntKind.i64.wrap ((S.used:Int)+(m:Int))=((S.used+m:Nat):Int)):=by show _=_;rw[IntKind.wrap_i64];omega
   clear hm2 hbl2
   go_upto_region 6 with (fail)
   go_cut [9] from 34 to 43 (fun s wc=>s=.bool (decide (S.used+m≤S.room))∧Hid (Below w2.heap.size w2 wc))
   case first =>
    go_region_held3 (fun w'=>w'.cell? ⟨d,0,none⟩=some (.int .i64 (S.room:Int))) (first | assumption | go_keep)
     (first | (go_at_call 82;refine(HU.out 1).mono ?_;rintro e w3 ⟨rfl,hb3⟩;have HB3:Hid (Below w2.heap.size w2 w3):=below_un hb3;have hd3:w3.cell? ⟨d,0,none⟩=some (.int .i64 (S.room:Int)):=(hb3.cell (p:=⟨d,0,none⟩) hdl2).trans q0;clear hb3))
    all_goals go_wp2
    all_goals go_meet
    all_goals exact⟨by rw[HWs.out];congr 1;apply decide_eq_decide.2;omega,HB3⟩
   case rest =>
    obtain⟨rfl,HB3⟩:=hcut
    have HT3:=hide (HT2.out.kept (kp_below HB3.out (fun _=>False) K2 (0,0)) (fun _ h=>h))
    have HK3:=hide (HK2.out.trans (kp_below HB3.out (Ow o) K2 (0,0)))
    generalize ext K2 w2.heap.size (0,0)=K3 at *
    have HSt:=hide (tstroke_any wc K3 o d S HT3.out hoff h1 h2)
    clear HB3 HT2 HK2 HU HWs q0 q1 q2 q3 q4 q5 q6 q7 q8 q9 qf
    go_wp2_with fail
    refine HSt.out.mono ?_
    rintro e w4 ⟨rfl,ht4,hk4⟩
    have HT4:=hide ht4
    have HK4:=hide (HK3.out.trans (hk4.mono (q:=Ow o) (fun k e=>by rw[e])))
    have hue:S.stroked.used=S.used:=rfl
    have hre:S.stroked.room=S.room:=rfl
    have HFi:Hid (S.stroked.files=S.files):=rfl
    have hfle:S.stroked.files.length=S.files.length:=rfl
    have HCg:Hid (S.stroked.chg=S.chg):=rfl
    generalize S.stroked=S1 at *
    obtain⟨fv4,sv4,cv4',fs4,hm4⟩:=ht4
    have hbl4:=hm4.blk
    unfold tcells at hbl4
    obtain⟨q0,q1,q2,q3,q4,q5,q6,q7,q8,q9,qf⟩:=blk10 hbl4
    have hdl4:=lt_of_block hbl4
    clear hm4 hbl4 hk4 HSt HT3 HK3
    go_upto_region 8 with (fail)
    go_cut [11] from 46 to 75 (fun s wc=>s=.bool S1.fullP∧Hid (∃q,wc=w4.drewN q))
    case first =>
     by_cases a1:(1:Int)≤S1.pFrom
     ·by_cases a2:S1.pFrom≤(S1.planned:Int)
      ·by_cases a3:(S1.planned:Int)≤S1.pTo
       ·have HFp:Hid (S1.fullP=true):=by show _=_;rw[fullP_eq,decide_eq_true a1,decide_eq_true a2,decide_eq_true a3];rfl
        go_wp2
        go_quiet (fail)
        go_wp2
        go_meet
        case rel=>exact⟨by rw[HFp.out],hide ⟨nq,rfl⟩⟩
       ·have d3:decide ((S1.planned:Int)≤S1.pTo)=false:=decide_eq_false a3
        have HFp:Hid (S1.fullP=false):=by show _=_;rw[fullP_eq,decide_eq_false a3,Bool.and_false]
        go_wp2
        go_quiet (fail)
        go_wp2
        go_meet
        case rel=>exact⟨by rw[HFp.out],hide ⟨nq,rfl⟩⟩
      ·have d2:decide (S1.pFrom≤(S1.planned:Int))=false:=decide_eq_false a2
       have HFp:Hid (S1.fullP=false):=by show _=_;rw[fullP_eq,decide_eq_false a2,Bool.and_false,Bool.false_and]
       go_wp2
       go_quiet (fail)
       go_wp2
       go_meet
       case rel=>exact⟨by rw[HFp.out],hide ⟨nq,rfl⟩⟩
     ·have d1:decide ((1:Int)≤S1.pFrom)=false:=decide_eq_false a1
      have HFp:Hid (S1.fullP=false):=by show _=_;rw[fullP_eq,decide_eq_false a1,Bool.false_and,Bool.false_and]
      go_wp2
      go_quiet (fail)
      go_wp2
      go_meet
      case rel=>exact⟨by rw[HFp.out],hide ⟨nq,rfl⟩⟩
    case rest =>
     obtain⟨rfl,HQ⟩:=hcut
     obtain⟨qd,hqd⟩:=HQ.out
     have HT5:Hid (Tk wc K3 o d S1):=by rw[hqd];exact HT4.out.kept ((Kp.refl (fun _=>False) K3 w4).drewN qd) (fun _ h=>h)
     have HK5:Hid (Kp (Ow o) K K3 w wc):=by rw[hqd];exact HK4.out.drewN qd
     have hfe:S1.full m=(S1.fullP || decide (S.room<m+S.used)):=by unfold St.full;rw[hue,hre]
     rw[HMl.out,hfe]at HR2
     clear HQ hqd HT4 HK4 q0 q1 q2 q3 q4 q5 q6 q7 q8 q9 qf hfe
     cases hfp:S1.fullP with
     | true =>
      rw[hfp,Bool.true_or,if_pos rfl]at HR2
      by_cases hpw:S.power=0
      ·obtain rfl:R=(44,S1):=by rw[HR2.out,if_pos hpw]
       have w0:((S.power:Int) != 0)=false:=by simp;omega
       have w0':(S.power:Int)=0:=by omega
       clear hpw HR2
       go_wp2
       go_ret
       first | exact⟨_,rfl,HT5.out,HK5.out⟩ | exact⟨rfl,_,HT5.out,HK5.out⟩
      ·obtain rfl:R=(S.power,S1):=by rw[HR2.out,if_neg hpw]
       have w0:((S.power:Int) != 0)=true:=by simp;omega
       have w0':¬(S.power:Int)=0:=by omega
       clear hpw HR2
       go_wp2
       go_ret
       first | exact⟨_,rfl,HT5.out,HK5.out⟩ | exact⟨rfl,_,HT5.out,HK5.out⟩
     | false =>
      by_cases hrm:S.used+m≤S.room
      ·have hrd:decide (S.used+m≤S.room)=true:=decide_eq_true hrm
       rw[hfp,Bool.false_or,decide_eq_false (show ¬S.room<m+S.used by omega),if_neg (by simp)]at HR2
       clear hfp
       have HFf:Hid (S1.files[i]?=some (S.file i)):=by
        show _=_
        have hil:=(HV.out.ins (x,i) ((look_mem HV.out.srt).1 hlk)).1
        rw[HFi.out]
        unfold St.file
        rw[List.getElem?_eq_getElem hil]
        rfl
       obtain⟨fB,hfB⟩:∃fB,S.file i=fB:=⟨_,rfl⟩
       rw[hfB]at HFf HR2
       obtain rfl:R=_:=HR2.out
       have HiB:Hid (i<S1.files.length):=(List.getElem?_eq_some_iff.1 HFf.out).1
       have HuB:Hid (fB.units.length≤549755813888):=(HBf.out.fl fB (by rw[←HFi.out];exact List.mem_of_getElem? HFf.out)).2.2
       have HStart:Hid (Tk wc K3 o d (S1.turn i (fB.add (xs.take 0)))):=by
        have e1:fB.add (xs.take 0)=fB:=by simp[Fil.add,bus]
        have e2:S1.turn i fB=S1:=by
         unfold St.turn
         have e:S1.files.set i fB=S1.files:=by
          apply List.ext_getElem?
          intro j
          by_cases e:j=i
          ·subst e
           rw[List.getElem?_set_self HiB.out]
           exact HFf.out.symm
          ·rw[List.getElem?_set_ne (fun e2=>e e2.symm)]
         rw[e]
        rw[e1,e2]
        exact HT5.out
       have HKB:=HK5
       clear hfB HT5 HK5 hrm
       go_wp2
       go_loopw [12] (fun it wr=>∃(j:Nat) (K':Knd),j≤m∧it=.int .i64 (j:Int)∧Hid (Tk wr K' o d (S1.turn i (fB.add (xs.take j))))∧Hid (Kp (Ow o) K K' w wr)) (fun it _=>m - (intOf it).toNat)
       case atStart=>exact⟨0,K3,Nat.zero_le _,rfl,HStart,HKB⟩
       case round =>
        obtain⟨j,K',hj,rfl,HTr,HKr⟩:=hrel
        clear HStart HKB
        by_cases hlt:j<m
        ·have j1:(0:Int)≤(j:Int):=by omega
         have j2:(j:Int)<(m:Int):=by omega
         obtain⟨g,q,hsp,hgl,hbc⟩:∃g q,sp=some ⟨g,q,none⟩∧g<w.heap.size∧w.cell? ⟨g,q+j,none⟩=some (.int .u8 (xs.getD j 0:Nat)):=by
          rcases HX.out.lie with e | ⟨g,q,e,hg,hc⟩
          ·have:=HMl.out;rw[e]at this;simp at this;omega
          ·exact⟨g,q,e,hg,hc j (by rw[HMl.out];exact hlt)⟩
         have hgo:(K g).1≠o:=by
          rcases HA.out with e | h
          ·have:=HMl.out;rw[e]at this;simp at this;omega
          ·exact h g q hsp
         have hgk:(K' g).1≠o:=by rw[HKr.out.same g hgl];exact hgo
         have hgr:wr.heap[g]?=w.heap[g]?:=HKr.out.block g hgl hgo
         have hglr:g<wr.heap.size:=Nat.lt_of_lt_of_le hgl HKr.out.size
         have hcb:wr.cell? ⟨g,q+j,none⟩=some (.int .u8 (xs.getD j 0:Nat)):=(World.cell?_of_block hgr).trans hbc
         have hyl:xs.getD j 0<256:=C.getD_small HX.out.small j
         have HTk:=hide (take_snoc' xs j (xs.getD j 0) (by rw[List.getD_eq_getElem?_getD,List.getElem?_eq_getElem (by rw[HMl.out];exact hlt)];rfl))
         generalize xs.getD j 0=y at *
         subst hsp
         obtain⟨S2,hS2⟩:∃S2,S1.turn i (fB.add (xs.take j))=S2:=⟨_,rfl⟩
         obtain⟨f2,hf2⟩:∃f2,fB.add (xs.take j)=f2:=⟨_,rfl⟩
         have hf2f:S2.files[i]?=some f2:=by rw[←hS2,hf2];exact List.getElem?_set_self HiB.out
         have hNx:S2.turn i ⟨f2.safe,f2.units++[(y:Int)]⟩=S1.turn i (fB.add (xs.take (j+1))):=by
          rw[←hS2,←hf2,HTk.out]
          unfold St.turn
          simp only[List.set_set]
          congr 2
          simp[Fil.add,bus]
         have hul:f2.units.length=fB.units.length+j:=by rw[←hf2];simp[Fil.add,bus,HMl.out];omega
         rw[hS2]at HTr
         obtain⟨fv,sv,cv,fs,hm⟩:=HTr.out
         have hil:i<S2.files.length:=(List.getElem?_eq_some_iff.1 hf2f).1
         obtain⟨p,hp⟩:∃p,fs[i]?=some p:=⟨_,List.getElem?_eq_getElem (by rw[hm.flen];exact hil)⟩
         obtain⟨r1,r2⟩:=hm.file i f2 p hf2f hp
         obtain⟨sv',uv'⟩:=p
         simp only at r1 r2
         obtain⟨au,cu,rfl,hcu1,hcu2⟩:=r2.form
         obtain⟨af,cf,rfl,_,_⟩:=hm.files.form
         have hbl:=hm.blk
         unfold tcells at hbl
         obtain⟨q0,q1,q2,q3,q4,q5,q6,q7,q8,q9,qf⟩:=blk10 hbl
         have hdl:=lt_of_block hbl
         have hfc:(fvs fs).length=S2.files.length*2:=by rw[←hm.flen];exact flat_len _ 2 (fun _=>rfl) _
         obtain⟨gf,e1,hkg,hgf,hcl⟩:∃g,af=some ⟨g,0,none⟩∧K' g=(o,2)∧g<wr.heap.size∧∀(j:Nat) (u:Value),(fvs fs)[j]?=some u→wr.cell? ⟨g,j,none⟩=some u:=by
          rcases rk_cells hm.files hfc with e | h
          ·rw[e]at hfc;simp at hfc;omega
          ·exact h
         subst e1
         have z1:=hcl (i*2+1) _ (by unfold fvs;rw[flat_at _ 2 (fun _=>rfl) fs i _ hp 1 (by omega)];rfl)
         have k1:(0:Int)≤(i:Int):=by omega
         have k2:(i:Int)<(S2.files.length:Int):=by omega
         have HM:=hide hm
         have HO:=hide r2.own
         have HR2k:=hide r2
         have hun:=fun w3 g' cap' ho hg hat=>hm.unit hf2f hp (y:Int) (w1:=w3) (uo:=.cells #[.bool false,.int .u8 (y:Int),.int .i64 0] 145) (g':=g') (cap':=cap') ho hg hat
         have huv:uv (y:Int)=[.bool false,.int .u8 (y:Int),.int .i64 0]:=by unfold uv;rw[if_neg (by omega)]
         rw[huv]at hun
         rw[hNx]at hun
         have HUn:=hide hun
         obtain⟨cur,hcur⟩:∃cur,wr.heap[gf]?=some (.cells cur 141 (0,0)):=by
          rcases hm.files.own.2 with ⟨e,_⟩ | ⟨g,cap,cur,e,_,hg,_⟩
          ·cases e
          ·cases e;exact⟨cur,hg⟩
         have HCur:=hide hcur
         obtain⟨nu,hnu⟩:∃nu,f2.units.length=nu:=⟨_,rfl⟩
         rw[hnu]at z1 HO HUn HR2k hul
         have hnul:nu≤1099511627776:=by have:=HuB.out;omega
         clear hul
         have hne1:¬d=gf:=fun e=>by have h1:=HM.out.kd;rw[e,hkg]at h1;exact snd_ne (by omega) h1
         have hne2:¬gf=d:=fun e=>hne1 e.symm
         have hne3:¬g=gf:=fun e=>by rw[e,hkg]at hgk;exact hgk rfl
         have hne4:¬gf=g:=fun e=>hne3 e.symm
         have HAt:Hid (∀w4:World,((wr.alloc (.cells #[.bool false,.int .u8 (y:Int),.int .i64 0] 145)).drew).grownBy w4 (Value.slice au nu cu).ownBlock→w4.cell? ⟨gf,i*2+1,none⟩=some (.slice au nu cu)∧(∀t,w4.frozen? ⟨gf,t,none⟩=false)∧w4.cell? ⟨d,2,none⟩=some (.slice (some ⟨gf,0,none⟩) S2.files.length cf)∧w4.cell? ⟨g,q+j,none⟩=some (.int .u8 (y:Int))):=fun w4 hgr=>by
          have hg4:w4.heap[gf]?=some (.cells cur 141 (0,0)):=((kp_row HR2k.out (grown_drew hgr)).block gf hgf (by rw[hkg];exact snd_ne (by omega))).trans HCur.out
          exact⟨(World.cell?_of_block (hg4.trans HCur.out.symm)).trans z1,fun t=>by simp[World.frozen?,hg4],(World.cell?_of_block ((kp_row HR2k.out (grown_drew hgr)).block d hdl (by rw[HM.out.kd];exact snd_ne (by omega)))).trans q2,(World.cell?_of_block ((kp_row HR2k.out (grown_drew hgr)).block g hglr (fun e=>hgk (by rw[e])))).trans hcb⟩
         clear hm hbl hcl hfc r1 r2 hun huv hnu hcur hp hbc hgo hgr hNx hS2 hf2 HTr
         go_wp2
         go_region_law (first | (refine step_append_lies _ (by rfl) (.tmp 131) (.tmp 137) 139 (by rfl) 0 145 i0 _ 3 16 Tryz.underlying139 hi hz0 hz1 hz2 rfl (by omega) (.slice au nu cu) nu (uvs f2.units) (by rfl) ((HO.out.alloc _).drew) ⟨wr.heap.size,0,none⟩ 1 1 [.bool false,.int .u8 (y:Int),.int .i64 0] (by rfl) rfl (World.news_of_block (heap_alloc_new wr (.cells #[.bool false,.int .u8 (y:Int),.int .i64 0] 145))) (by simp[Value.oneCell']) (by omega) (by unfold maxLen;omega) (by omega) (by omega) _ rfl ?_;intro g' cap' w4 hown4 hgrow4 hat4 hltg;obtain⟨hz4,hf4,hd4,hb4⟩:=HAt.out w4 hgrow4))
         all_goals
          obtain⟨ht3,hk3⟩:=HUn.out w4 g' cap' hown4 hgrow4 hat4
          have HT3:=hide ht3
          have HK3:=hide (HKr.out.trans hk3)
          clear ht3 hk3
          go_wp2
          go_roundw
          case rel=>exact⟨j+1,_,by omega,by go_num,HT3,HK3⟩
          case measure=>simp[intOf];omega
        ·have j2:¬(j:Int)<(m:Int):=by omega
         have HTe:Hid (Tk wr K' o d (S1.turn i (fB.add xs))):=by
          have:=HTr.out
          rw[List.take_of_length_le (by rw[HMl.out];omega)]at this
          exact this
         go_wp2
         go_ret
         first | exact⟨_,rfl,HTe.out,HKr.out⟩ | exact⟨rfl,_,HTe.out,HKr.out⟩
      ·have hrd:decide (S.used+m≤S.room)=false:=decide_eq_false hrm
       rw[hfp,Bool.false_or,decide_eq_true (show S.room<m+S.used by omega),if_pos rfl]at HR2
       clear hrm
       by_cases hpw:S.power=0
       ·obtain rfl:R=(44,S1):=by rw[HR2.out,if_pos hpw]
        have w0:((S.power:Int) != 0)=false:=by simp;omega
        have w0':(S.power:Int)=0:=by omega
        clear hpw HR2
        go_wp2
        go_ret
        first | exact⟨_,rfl,HT5.out,HK5.out⟩ | exact⟨rfl,_,HT5.out,HK5.out⟩
       ·obtain rfl:R=(S.power,S1):=by rw[HR2.out,if_neg hpw]
        have w0:((S.power:Int) != 0)=true:=by simp;omega
        have w0':¬(S.power:Int)=0:=by omega
        clear hpw HR2
        go_wp2
        go_ret
        first | exact⟨_,rfl,HT5.out,HK5.out⟩ | exact⟨rfl,_,HT5.out,HK5.out⟩
end Go.Proofs.YtcceejdaokoihaaGreatDoor
