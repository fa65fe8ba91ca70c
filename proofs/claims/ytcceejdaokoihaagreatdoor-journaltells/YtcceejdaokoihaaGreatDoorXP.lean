import Derived.Test.YtcceejdaokoihaaGreatDoorDocLb
import Derived.Test.YtcceejdaokoihaaGreatDoorDocLc
import Derived.Deep.DeepCutAuto
import Derived.Deep.CutRange
import Derived.Test.YtcceejdaokoihaaGreatDoorXH
set_option maxRecDepth 100000
namespace Go.Proofs.YtcceejdaokoihaaGreatDoor
open Go.RowKit Go.Maps
theorem tappend_any (w:World) (K:Knd) (o d:Nat) (S:St) (h:Tk w K o d S) (hv:Inv S) (hb:Fb S) (h1:S.strokes≤1099511627776) (h2:S.planned≤1099511627776) (hfl:S.files.length≤549755813888) (x:Nm) (sp:Option Addr) (m cap:Nat) (xs:List Nat) (hm:xs.length=m) (hml:m≤549755813888) (hx:Bytes w sp xs) (ha:Alien K o sp xs) :
  Calls Tryz.prog 34 #[.pointer (some ⟨d,0,none⟩),.string ⟨x.toArray⟩,.slice sp m cap] w fun e w'=>∃K',e=.returned (.int .i64 ((S.appendR x xs).1:Int))∧Tk w' K' o d (S.appendR x xs).2∧Kp (Ow o) K K' w w':=by
 by_cases e:lookN S.seen x=none
 ·exact tappend_new w K o d S h hv hb h1 h2 hfl x sp m cap xs hm hml hx ha e
 ·exact tappend_there w K o d S h hv hb h1 h2 hfl x sp m cap xs hm hml hx ha e
set_option maxHeartbeats 4000000 in
theorem tappend_long (w:World) (K:Knd) (o d:Nat) (S:St) (h:Tk w K o d S) (hv:Inv S) (hb:Fb S) (h1:S.strokes≤1099511627776) (h2:S.planned≤1099511627776) (x:Nm) (sp:Option Addr) (m cap:Nat) (xs:List Nat) (hm:xs.length=m) (hbig:16777216<m) (hml:m≤140737488355328) :
  Calls Tryz.prog 34 #[.pointer (some ⟨d,0,none⟩),.string ⟨x.toArray⟩,.slice sp m cap] w fun e w'=>∃K',e=.returned (.int .i64 ((S.appendR x xs).1:Int))∧Tk w' K' o d (S.appendR x xs).2∧Kp (Ow o) K K' w w':=by
 have HF:=hide (rfind_any w K o d S h hv hb x)
 have HT:=hide h
 have HSe:=hide (fun w1 K1 ht=>Seen_any w1 K1 o d S ht hv hb.nm)
 have HUs:=hide (fun w1 K1 ht=>used_any w1 K1 o d S ht hv hb)
 have hful:S.stroked.full xs.length=true:=by
  unfold St.full
  rw[decide_eq_true (show S.stroked.room<xs.length+S.stroked.used from (by show S.room<_;have:=hv.room;omega))]
  simp
 have HR:Hid (S.appendR x xs=if S.off then (45,S) else if isNm x=false∨(lookN S.seen x=none∧64≤S.seen.length) then (41,S) else (if S.power=0 then 44 else S.power,S.stroked)):=by
  show _=_
  unfold St.appendR
  rw[if_pos hful]
 have hec:=err_cases S x
 have hns:=hb.ns
 have hroom:=hv.room
 have hused:=hv.used
 obtain⟨R,hRe⟩:∃R,S.appendR x xs=R:=⟨_,rfl⟩
 rw[hRe]at HR
 rw[hRe]
 clear hRe hful
 have HFn:Hid (S.fnd x=if S.err x=0 then (((lookN S.seen x).getD 0:Nat):Int) else -1):=rfl
 generalize S.fnd x=F at *
 generalize S.err x=E at *
 clear h hv hb hm
 have hcase:(∃e0:Nat,E=e0∧(e0=45∨e0=41)∧R=(e0,S))∨(S.off=false∧((E=42∧64≤S.seen.length∧R=(41,S))∨((E=42∨E=0)∧((E=42→¬64≤S.seen.length))∧R=(if S.power=0 then 44 else S.power,S.stroked)))):=by
  rcases hec with ⟨h1,h2⟩ | ⟨h1,h2,h3⟩ | ⟨h1,h2,h3,h4⟩ | ⟨h1,h2,⟨i,h3⟩,h4⟩
  ·exact Or.inl ⟨45,h2,Or.inl rfl,by rw[HR.out,if_pos h1]⟩
  ·exact Or.inl ⟨41,h3,Or.inr rfl,by rw[HR.out,if_neg (by rw[h1];simp),if_pos (Or.inl h2)]⟩
  ·refine Or.inr ⟨h1,?_⟩
   by_cases h64:64≤S.seen.length
   ·exact Or.inl ⟨h4,h64,by rw[HR.out,if_neg (by rw[h1];simp),if_pos (Or.inr ⟨h3,h64⟩)]⟩
   ·exact Or.inr ⟨Or.inl h4,fun _=>h64,by rw[HR.out,if_neg (by rw[h1];simp),if_neg (by rw[h2];simp[h64])]⟩
  ·exact Or.inr ⟨h1,Or.inr ⟨Or.inr h4,fun e=>by omega,by rw[HR.out,if_neg (by rw[h1];simp),if_neg (by rw[h2,h3];simp)]⟩⟩
 clear hec HR HFn
 rcases hcase with ⟨e0,rfl,he0,rfl⟩ | ⟨hoff,hcase⟩
 ·have n1:((E:Int) == 42)=false:=by simp;omega
  have n2:((E:Int) != 0)=true:=by simp;omega
  have n3:((E:Int) != 42)=true:=by simp;omega
  have n4:¬(E:Int)=42:=by omega
  have n5:¬(E:Int)=0:=by omega
  clear he0
  go_enter Tryz.func34,Tryz.ntmps34
  go_wp2_with fail
  refine HF.out.mono ?_
  rintro e w1 ⟨rfl,hb1⟩
  have HK1:=hide (kp_below hb1 (Ow o) K (0,0))
  have HT1:=hide (HT.out.kept (kp_below hb1 (fun _=>False) K (0,0)) (fun _ h=>h))
  clear hb1
  go_wp2
  go_ret
  first | exact⟨_,rfl,HT1.out,HK1.out⟩ | exact⟨rfl,_,HT1.out,HK1.out⟩
 rcases hcase with ⟨rfl,h64,rfl⟩ | ⟨hE,hns64,hR⟩
 ·have e42:((42:Nat):Int)=42:=rfl
  rw[e42]at HF
  have g64:(64:Int)≤(S.seen.length:Int):=by omega
  go_enter Tryz.func34,Tryz.ntmps34
  go_wp2_with fail
  refine HF.out.mono ?_
  rintro e wa ⟨rfl,hb1⟩
  have HKa:=hide (kp_below hb1 (Ow o) K (0,0))
  have HTa:=hide (HT.out.kept (kp_below hb1 (fun _=>False) K (0,0)) (fun _ h=>h))
  generalize ext K w.heap.size (0,0)=Ka at *
  clear hb1
  have HSn:=hide (HSe.out wa Ka HTa.out)
  generalize S.seen.length=ns at *
  go_wp2_with fail
  refine HSn.out.mono ?_
  rintro e w2 ⟨a2,c2,rfl,hr2,hb2⟩
  have HK2:=hide (HKa.out.trans (kp_below hb2 (Ow o) Ka (o,3)))
  have HT2:=hide (HTa.out.kept (kp_below hb2 (fun _=>False) Ka (o,3)) (fun _ h=>h))
  clear hb2 hr2
  go_wp2
  go_ret
  first | exact⟨_,rfl,HT2.out,HK2.out⟩ | exact⟨rfl,_,HT2.out,HK2.out⟩
 have HRR:=hide hR
 clear hR
 have hrd:decide (S.used+m≤S.room)=false:=decide_eq_false (by omega)
 rcases hE with rfl | rfl
 all_goals
  first
   | (have e42:((42:Nat):Int)=42:=rfl
      rw[e42]at HF
      have g64:¬(64:Int)≤(S.seen.length:Int):=by have:=hns64 rfl;omega
      clear hns64 e42
      go_enter Tryz.func34,Tryz.ntmps34
      go_wp2_with fail
      refine HF.out.mono ?_
      rintro e wa ⟨rfl,hb1⟩
      have HKa:=hide (kp_below hb1 (Ow o) K (0,0))
      have HTa:=hide (HT.out.kept (kp_below hb1 (fun _=>False) K (0,0)) (fun _ h=>h))
      generalize ext K w.heap.size (0,0)=Ka at *
      clear hb1
      have HSn:=hide (HSe.out wa Ka HTa.out)
      obtain⟨ns,hns2⟩:∃ns,S.seen.length=ns:=⟨_,rfl⟩
      rw[hns2]at HSn g64
      clear hns2
      go_wp2_with fail
      refine HSn.out.mono ?_
      rintro e w2 ⟨a2,c2,rfl,hr2,hb2⟩
      have HK2:=hide (HKa.out.trans (kp_below hb2 (Ow o) Ka (o,3)))
      have HT2:=hide (HTa.out.kept (kp_below hb2 (fun _=>False) Ka (o,3)) (fun _ h=>h))
      generalize ext Ka wa.heap.size (o,3)=K2 at *
      clear hb2 hr2 HTa HKa HSn)
   | (clear hns64
      go_enter Tryz.func34,Tryz.ntmps34
      go_wp2_with fail
      refine HF.out.mono ?_
      rintro e w2 ⟨rfl,hb1⟩
      have HK2:=hide (kp_below hb1 (Ow o) K (0,0))
      have HT2:=hide (HT.out.kept (kp_below hb1 (fun _=>False) K (0,0)) (fun _ h=>h))
      generalize ext K w.heap.size (0,0)=K2 at *
      clear hb1)
  obtain⟨fv2,sv2,cv2,fs2,hm2⟩:=HT2.out
  have hbl2:=hm2.blk
  unfold tcells at hbl2
  obtain⟨q0,q1,q2,q3,q4,q5,q6,q7,q8,q9,qf⟩:=blk10 hbl2
  have hdl2:=lt_of_block hbl2
  have HU:=hide (fun q=>HUs.out (w2.drewN q) K2 (HT2.out.kept ((Kp.refl (fun _=>False) K2 w2).drewN q) (fun _ h=>h)))
  have HWs:Hid (IntKind.i64.wrap ((S.used:Int)+(m:Int))=((S.used+m:Nat):Int)):=by show _=_;rw[IntKind.wrap_i64];omega
  clear hm2 hbl2
  go_upto_region 6 with (fail)
  go_cut [9] from 34 to 43 (fun s wc=>s=.bool (decide (S.used+m≤S.room))∧Hid (Below w2.heap.size w2 wc))
  case first =>
   go_region_held3 (fun w'=>w'.cell? ⟨d,0,none⟩=some (.int .i64 (S.room:Int))) (first | assumption | go_keep)
    (first | (go_at_call 82;refine(HU.out 1).mono ?_;rintro e w3 ⟨rfl,hb3⟩;have HB3:Hid (Below w2.heap.size w2 w3):=below_un hb3;have hd3:w3.cell? ⟨d,0,none⟩=some (.int .i64 (S.room:Int)):=(hb3.cell (p:=⟨d,0,none⟩) hdl2).trans q0;clear hb3))
   all_goals go_wp2
   all_goals go_meet
   all_goals exact⟨by rw[HWs.out];congr 1;apply decide_eq_decide.2;omega,HB3⟩
  case rest =>
   obtain⟨rfl,HB3⟩:=hcut
   have HT3:=hide (HT2.out.kept (kp_below HB3.out (fun _=>False) K2 (0,0)) (fun _ h=>h))
   have HK3:=hide (HK2.out.trans (kp_below HB3.out (Ow o) K2 (0,0)))
   generalize ext K2 w2.heap.size (0,0)=K3 at *
   have HSt:=hide (tstroke_any wc K3 o d S HT3.out hoff h1 h2)
   clear HB3 HT2 HK2 HU HWs q0 q1 q2 q3 q4 q5 q6 q7 q8 q9 qf
   go_wp2_with fail
   refine HSt.out.mono ?_
   rintro e w4 ⟨rfl,ht4,hk4⟩
   have HT4:=hide ht4
   have HK4:=hide (HK3.out.trans (hk4.mono (q:=Ow o) (fun k e=>by rw[e])))
   generalize S.stroked=S1 at *
   obtain⟨fv4,sv4,cv4',fs4,hm4⟩:=ht4
   have hbl4:=hm4.blk
   unfold tcells at hbl4
   obtain⟨q0,q1,q2,q3,q4,q5,q6,q7,q8,q9,qf⟩:=blk10 hbl4
   have hdl4:=lt_of_block hbl4
   clear hm4 hbl4 hk4 HSt HT3 HK3
   go_upto_region 8 with (fail)
   go_cut [11] from 46 to 75 (fun s wc=>s=.bool S1.fullP∧Hid (∃q,wc=w4.drewN q))
   case first =>
    by_cases a1:(1:Int)≤S1.pFrom
    ·by_cases a2:S1.pFrom≤(S1.planned:Int)
     ·by_cases a3:(S1.planned:Int)≤S1.pTo
      ·have HFp:Hid (S1.fullP=true):=by show _=_;rw[fullP_eq,decide_eq_true a1,decide_eq_true a2,decide_eq_true a3];rfl
       go_wp2
       go_quiet (fail)
       go_wp2
       go_meet
       case rel=>exact⟨by rw[HFp.out],hide ⟨nq,rfl⟩⟩
      ·have d3:decide ((S1.planned:Int)≤S1.pTo)=false:=decide_eq_false a3
       have HFp:Hid (S1.fullP=false):=by show _=_;rw[fullP_eq,decide_eq_false a3,Bool.and_false]
       go_wp2
       go_quiet (fail)
       go_wp2
       go_meet
       case rel=>exact⟨by rw[HFp.out],hide ⟨nq,rfl⟩⟩
     ·have d2:decide (S1.pFrom≤(S1.planned:Int))=false:=decide_eq_false a2
      have HFp:Hid (S1.fullP=false):=by show _=_;rw[fullP_eq,decide_eq_false a2,Bool.and_false,Bool.false_and]
      go_wp2
      go_quiet (fail)
      go_wp2
      go_meet
      case rel=>exact⟨by rw[HFp.out],hide ⟨nq,rfl⟩⟩
    ·have d1:decide ((1:Int)≤S1.pFrom)=false:=decide_eq_false a1
     have HFp:Hid (S1.fullP=false):=by show _=_;rw[fullP_eq,decide_eq_false a1,Bool.false_and,Bool.false_and]
     go_wp2
     go_quiet (fail)
     go_wp2
     go_meet
     case rel=>exact⟨by rw[HFp.out],hide ⟨nq,rfl⟩⟩
   case rest =>
    obtain⟨rfl,HQ⟩:=hcut
    obtain⟨qd,hqd⟩:=HQ.out
    have HT5:Hid (Tk wc K3 o d S1):=by rw[hqd];exact HT4.out.kept ((Kp.refl (fun _=>False) K3 w4).drewN qd) (fun _ h=>h)
    have HK5:Hid (Kp (Ow o) K K3 w wc):=by rw[hqd];exact HK4.out.drewN qd
    clear HQ hqd HT4 HK4 q0 q1 q2 q3 q4 q5 q6 q7 q8 q9 qf
    generalize S1.fullP=fp at *
    by_cases hpw:S.power=0
    ·obtain rfl:R=(44,S1):=by rw[HRR.out,if_pos hpw]
     have w0:((S.power:Int) != 0)=false:=by simp;omega
     have w0':(S.power:Int)=0:=by omega
     clear hpw HRR
     cases fp
     all_goals
      go_wp2
      go_ret
      first | exact⟨_,rfl,HT5.out,HK5.out⟩ | exact⟨rfl,_,HT5.out,HK5.out⟩
    ·obtain rfl:R=(S.power,S1):=by rw[HRR.out,if_neg hpw]
     have w0:((S.power:Int) != 0)=true:=by simp;omega
     have w0':¬(S.power:Int)=0:=by omega
     clear hpw HRR
     cases fp
     all_goals
      go_wp2
      go_ret
      first | exact⟨_,rfl,HT5.out,HK5.out⟩ | exact⟨rfl,_,HT5.out,HK5.out⟩
theorem tappend_all (w:World) (K:Knd) (o d:Nat) (S:St) (h:Tk w K o d S) (hv:Inv S) (hb:Fb S) (h1:S.strokes≤1099511627776) (h2:S.planned≤1099511627776) (hfl:S.files.length≤549755813888) (x:Nm) (sp:Option Addr) (m cap:Nat) (xs:List Nat) (hm:xs.length=m) (hml:m≤140737488355328) (hx:Bytes w sp xs) (ha:Alien K o sp xs) :
  Calls Tryz.prog 34 #[.pointer (some ⟨d,0,none⟩),.string ⟨x.toArray⟩,.slice sp m cap] w fun e w'=>∃K',e=.returned (.int .i64 ((S.appendR x xs).1:Int))∧Tk w' K' o d (S.appendR x xs).2∧Kp (Ow o) K K' w w':=by
 by_cases hb2:m≤16777216
 ·exact tappend_any w K o d S h hv hb h1 h2 hfl x sp m cap xs hm (by omega) hx ha
 ·exact tappend_long w K o d S h hv hb h1 h2 x sp m cap xs hm (by omega) hml
end Go.Proofs.YtcceejdaokoihaaGreatDoor
