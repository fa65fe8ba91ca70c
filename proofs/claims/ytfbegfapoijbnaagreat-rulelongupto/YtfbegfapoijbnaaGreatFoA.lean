import Derived.Deep.CutRange
import Derived.Test.YtfbegfapoijbnaaGreatDcJ
import Derived.Test.YtfbegfapoijbnaaGreatZE
set_option maxRecDepth 100000
namespace Go.Proofs.YtfbegfapoijbnaaGreat
open Go.RowKit
open Z (Sli SlOk Acd AcdOk)
theorem bool_of (p:Prop):∃b:Bool,b=true↔p:=by
 by_cases h:p
 ·exact⟨true,by simp[h]⟩
 ·exact⟨false,by simp[h]⟩
set_option maxHeartbeats 4000000 in
theorem reqAct_any (w:World) (x a:Acd) (hx:AcdOk w x) (ha:AcdOk w a) (D:Bool) (hD:D=true↔x.d=a.d) :
  Calls Tryz.prog 49 #[.agg #[.int .i64 x.till,.int .u64 x.num,.int .i64 x.kind,.bool x.sure,.slice x.lines.p x.lines.n x.lines.c,.slice x.guards.p x.guards.n x.guards.c,.slice x.sets.p x.sets.n x.sets.c,.int .i64 x.mg,.slice x.other.p x.other.n x.other.c,.int .i64 x.ra,.int .i64 x.rb,.int .i64 x.rd,.int .i64 x.to,.int .u64 x.gen,.slice x.rights.p x.rights.n x.rights.c],.agg #[.int .i64 a.till,.int .u64 a.num,.int .i64 a.kind,.bool a.sure,.slice a.lines.p a.lines.n a.lines.c,.slice a.guards.p a.guards.n a.guards.c,.slice a.sets.p a.sets.n a.sets.c,.int .i64 a.mg,.slice a.other.p a.other.n a.other.c,.int .i64 a.ra,.int .i64 a.rb,.int .i64 a.rd,.int .i64 a.to,.int .u64 a.gen,.slice a.rights.p a.rights.n a.rights.c]] w fun e w'=>e=.returned (.bool D)∧Below w.heap.size w w':=by
 obtain⟨w2,hw2,hb2,hx2,hy2⟩:=box_two w #[.int .i64 x.till,.int .u64 x.num,.int .i64 x.kind,.bool x.sure,.slice x.lines.p x.lines.n x.lines.c,.slice x.guards.p x.guards.n x.guards.c,.slice x.sets.p x.sets.n x.sets.c,.int .i64 x.mg,.slice x.other.p x.other.n x.other.c,.int .i64 x.ra,.int .i64 x.rb,.int .i64 x.rd,.int .i64 x.to,.int .u64 x.gen,.slice x.rights.p x.rights.n x.rights.c] 56 56 #[.int .i64 a.till,.int .u64 a.num,.int .i64 a.kind,.bool a.sure,.slice a.lines.p a.lines.n a.lines.c,.slice a.guards.p a.guards.n a.guards.c,.slice a.sets.p a.sets.n a.sets.c,.int .i64 a.mg,.slice a.other.p a.other.n a.other.c,.int .i64 a.ra,.int .i64 a.rb,.int .i64 a.rd,.int .i64 a.to,.int .u64 a.gen,.slice a.rights.p a.rights.n a.rights.c]
 have HW2:=hide hw2
 have HB2:=hide hb2
 have HX2:=hide hx2
 have HY2:=hide hy2
 obtain⟨b_lines,hb_lines⟩:=bool_of (x.lines.xs=a.lines.xs)
 have H_lines:Hid (∀W,Below w2.heap.size w2 W→Calls Tryz.prog 73 #[.slice x.lines.p x.lines.n x.lines.c,.slice a.lines.p a.lines.n a.lines.c] W fun e w'=>e=.returned (.bool b_lines)∧Below w2.heap.size w2 w'):=fun W hb=>(eqLines_any W x.lines.p a.lines.p x.lines.n a.lines.n x.lines.c a.lines.c x.lines.xs a.lines.xs hx.lines.len ha.lines.len (by have:=hx.lines.most;omega) ((hx.lines.below hb2).below hb).cel ((ha.lines.below hb2).below hb).cel b_lines hb_lines).mono fun _ _ ⟨he,h⟩=>⟨he,hb.trans (h.mono hb.size)⟩
 obtain⟨b_guards,hb_guards⟩:=bool_of (x.guards.xs=a.guards.xs)
 have H_guards:Hid (∀W,Below w2.heap.size w2 W→Calls Tryz.prog 74 #[.slice x.guards.p x.guards.n x.guards.c,.slice a.guards.p a.guards.n a.guards.c] W fun e w'=>e=.returned (.bool b_guards)∧Below w2.heap.size w2 w'):=fun W hb=>(eqGuards_x W x.guards.p a.guards.p x.guards.n a.guards.n x.guards.c a.guards.c x.guards.xs a.guards.xs hx.guards.len ha.guards.len (by have:=hx.guards.most;omega) ((hx.guards.below hb2).below hb).cel ((ha.guards.below hb2).below hb).cel b_guards hb_guards).mono fun _ _ ⟨he,h⟩=>⟨he,hb.trans (h.mono hb.size)⟩
 obtain⟨b_sets,hb_sets⟩:=bool_of (x.sets.xs=a.sets.xs)
 have H_sets:Hid (∀W,Below w2.heap.size w2 W→Calls Tryz.prog 75 #[.slice x.sets.p x.sets.n x.sets.c,.slice a.sets.p a.sets.n a.sets.c] W fun e w'=>e=.returned (.bool b_sets)∧Below w2.heap.size w2 w'):=fun W hb=>(eqSets_x W x.sets.p a.sets.p x.sets.n a.sets.n x.sets.c a.sets.c x.sets.xs a.sets.xs hx.sets.len ha.sets.len (by have:=hx.sets.most;omega) ((hx.sets.below hb2).below hb).cel ((ha.sets.below hb2).below hb).cel b_sets hb_sets).mono fun _ _ ⟨he,h⟩=>⟨he,hb.trans (h.mono hb.size)⟩
 obtain⟨b_other,hb_other⟩:=bool_of (x.other.xs=a.other.xs)
 have H_other:Hid (∀W,Below w2.heap.size w2 W→Calls Tryz.prog 73 #[.slice x.other.p x.other.n x.other.c,.slice a.other.p a.other.n a.other.c] W fun e w'=>e=.returned (.bool b_other)∧Below w2.heap.size w2 w'):=fun W hb=>(eqLines_any W x.other.p a.other.p x.other.n a.other.n x.other.c a.other.c x.other.xs a.other.xs hx.other.len ha.other.len (by have:=hx.other.most;omega) ((hx.other.below hb2).below hb).cel ((ha.other.below hb2).below hb).cel b_other hb_other).mono fun _ _ ⟨he,h⟩=>⟨he,hb.trans (h.mono hb.size)⟩
 obtain⟨b_rights,hb_rights⟩:=bool_of (x.rights.xs=a.rights.xs)
 have H_rights:Hid (∀W,Below w2.heap.size w2 W→Calls Tryz.prog 14 #[.slice x.rights.p x.rights.n x.rights.c,.slice a.rights.p a.rights.n a.rights.c] W fun e w'=>e=.returned (.bool b_rights)∧Below w2.heap.size w2 w'):=fun W hb=>(eqRights_any W x.rights.p a.rights.p x.rights.n a.rights.n x.rights.c a.rights.c x.rights.xs a.rights.xs hx.rights.len ha.rights.len (by have:=hx.rights.most;omega) ((hx.rights.below hb2).below hb).cel ((ha.rights.below hb2).below hb).cel b_rights hb_rights).mono fun _ _ ⟨he,h⟩=>⟨he,hb.trans (h.mono hb.size)⟩
 obtain⟨H,hH⟩:∃b:Bool,decide (x.till=a.till∧x.num=a.num∧x.kind=a.kind∧x.sure=a.sure)=b:=⟨_,rfl⟩
 obtain⟨R,hR⟩:∃b:Bool,decide (x.mg=a.mg∧(x.ra=a.ra∧x.rb=a.rb∧x.rd=a.rd)∧x.to=a.to∧x.gen=a.gen)=b:=⟨_,rfl⟩
 have HD:Hid (D=(H && R && b_lines && b_guards && b_sets && b_other && b_rights)):=by
  show D=_
  rw[Bool.eq_iff_iff,hD]
  simp only[Z.Acd.d,Z.AcP.mk.injEq,Bool.and_eq_true,←hH,←hR,hb_lines,hb_guards,hb_sets,hb_other,hb_rights,decide_eq_true_eq]
  constructor
  ·rintro ⟨e0,e1,e2,e3,e4,e5,e6,e7,e8,e9,e10,e11,e12,e13,e14⟩
   exact⟨⟨⟨⟨⟨⟨⟨e0,e1,e2,e3⟩,e7,⟨e9,e10,e11⟩,e12,e13⟩,e4⟩,e5⟩,e6⟩,e8⟩,e14⟩
  ·rintro ⟨⟨⟨⟨⟨⟨⟨e0,e1,e2,e3⟩,e7,⟨e9,e10,e11⟩,e12,e13⟩,e4⟩,e5⟩,e6⟩,e8⟩,e14⟩
   exact⟨e0,e1,e2,e3,e4,e5,e6,e7,e8,e9,e10,e11,e12,e13,e14⟩
 have HF:Hid (∀W,Below w2.heap.size w2 W→(W.cell? ⟨w.heap.size,0,none⟩=some (.int .i64 x.till)∧W.cell? ⟨w.heap.size,1,none⟩=some (.int .u64 x.num)∧W.cell? ⟨w.heap.size,2,none⟩=some (.int .i64 x.kind)∧W.cell? ⟨w.heap.size,3,none⟩=some (.bool x.sure)∧W.cell? ⟨w.heap.size,4,none⟩=some (.slice x.lines.p x.lines.n x.lines.c)∧W.cell? ⟨w.heap.size,5,none⟩=some (.slice x.guards.p x.guards.n x.guards.c)∧W.cell? ⟨w.heap.size,6,none⟩=some (.slice x.sets.p x.sets.n x.sets.c)∧W.cell? ⟨w.heap.size,7,none⟩=some (.int .i64 x.mg)∧W.cell? ⟨w.heap.size,8,none⟩=some (.slice x.other.p x.other.n x.other.c)∧W.cell? ⟨w.heap.size,9,none⟩=some (.int .i64 x.ra)∧W.cell? ⟨w.heap.size,10,none⟩=some (.int .i64 x.rb)∧W.cell? ⟨w.heap.size,11,none⟩=some (.int .i64 x.rd)∧W.cell? ⟨w.heap.size,12,none⟩=some (.int .i64 x.to)∧W.cell? ⟨w.heap.size,13,none⟩=some (.int .u64 x.gen)∧W.cell? ⟨w.heap.size,14,none⟩=some (.slice x.rights.p x.rights.n x.rights.c))∧(W.cell? ⟨w.heap.size+1,0,none⟩=some (.int .i64 a.till)∧W.cell? ⟨w.heap.size+1,1,none⟩=some (.int .u64 a.num)∧W.cell? ⟨w.heap.size+1,2,none⟩=some (.int .i64 a.kind)∧W.cell? ⟨w.heap.size+1,3,none⟩=some (.bool a.sure)∧W.cell? ⟨w.heap.size+1,4,none⟩=some (.slice a.lines.p a.lines.n a.lines.c)∧W.cell? ⟨w.heap.size+1,5,none⟩=some (.slice a.guards.p a.guards.n a.guards.c)∧W.cell? ⟨w.heap.size+1,6,none⟩=some (.slice a.sets.p a.sets.n a.sets.c)∧W.cell? ⟨w.heap.size+1,7,none⟩=some (.int .i64 a.mg)∧W.cell? ⟨w.heap.size+1,8,none⟩=some (.slice a.other.p a.other.n a.other.c)∧W.cell? ⟨w.heap.size+1,9,none⟩=some (.int .i64 a.ra)∧W.cell? ⟨w.heap.size+1,10,none⟩=some (.int .i64 a.rb)∧W.cell? ⟨w.heap.size+1,11,none⟩=some (.int .i64 a.rd)∧W.cell? ⟨w.heap.size+1,12,none⟩=some (.int .i64 a.to)∧W.cell? ⟨w.heap.size+1,13,none⟩=some (.int .u64 a.gen)∧W.cell? ⟨w.heap.size+1,14,none⟩=some (.slice a.rights.p a.rights.n a.rights.c))):=fun W hb=>⟨ac15 ((hb.block _ (ac_lt HX2.out)).trans HX2.out),ac15 ((hb.block _ (ac_lt HY2.out)).trans HY2.out)⟩
 have HR2:Hid (Below w2.heap.size w2 w2):=Below.refl _ _
 have HH:=hide hH
 have HRr:=hide hR
 clear hw2 hb2 hx2 hy2 hx ha hD hH hR hb_lines hb_guards hb_sets hb_other hb_rights
 obtain⟨⟨x0,x1,x2,x3,x4,x5,x6,x7,x8,x9,x10,x11,x12,x13,x14⟩,y0,y1,y2,y3,y4,y5,y6,y7,y8,y9,y10,y11,y12,y13,y14⟩:=HF.out w2 HR2.out
 rw[HD.out]
 clear HD
 go_enter Tryz.func49,Tryz.ntmps49
 go_upto_region 1 with (fail)
 rw[HW2.out]
 go_cut [5] from 7 to 37 (fun v w'=>v=.bool H∧w'=w2)
 case first =>
  have HHo:=HH.out
  by_cases q0:x.till=a.till
  ·have p0:((x.till:Int) == a.till)=true:=by simp[q0]
   by_cases q1:x.num=a.num
   ·have p1:((x.num:Int) == a.num)=true:=by simp[q1]
    by_cases q2:x.kind=a.kind
    ·have p2:((x.kind:Int) == a.kind)=true:=by simp[q2]
     have hHv:H=(x.sure == a.sure):=by rw[←HHo];simp[q0,q1,q2];cases x.sure <;> cases a.sure <;> rfl
     clear q0 q1 q2 HHo
     generalize x.sure=sx at *
     generalize a.sure=sa at *
     cases sx <;> cases sa
     ·(go_wp2_with fail;go_meet;exact⟨by rw[hHv] <;> rfl,rfl⟩)
     ·(go_wp2_with fail;go_meet;exact⟨by rw[hHv] <;> rfl,rfl⟩)
     ·(go_wp2_with fail;go_meet;exact⟨by rw[hHv] <;> rfl,rfl⟩)
     ·(go_wp2_with fail;go_meet;exact⟨by rw[hHv] <;> rfl,rfl⟩)
    ·have p2:((x.kind:Int) == a.kind)=false:=by simp[q2]
     have hHv:H=false:=by rw[←HHo];simp[q2]
     clear q0 q1 q2 HHo
     (go_wp2_with fail;go_meet;exact⟨by rw[hHv] <;> rfl,rfl⟩)
   ·have p1:((x.num:Int) == a.num)=false:=by simp[q1]
    have hHv:H=false:=by rw[←HHo];simp[q1]
    clear q0 q1 HHo
    (go_wp2_with fail;go_meet;exact⟨by rw[hHv] <;> rfl,rfl⟩)
  ·have p0:((x.till:Int) == a.till)=false:=by simp[q0]
   have hHv:H=false:=by rw[←HHo];simp[q0]
   clear q0 HHo
   (go_wp2_with fail;go_meet;exact⟨by rw[hHv] <;> rfl,rfl⟩)
 case rest =>
  obtain⟨rfl,hwc⟩:=hcut
  rw[hwc]
  clear hwc wc
  go_upto_region 2 with (fail)
  go_cut [6] from 37 to 65 (fun v w'=>v=.bool R∧w'=w2)
  case first =>
   have HRo:=HRr.out
   by_cases q0:x.mg=a.mg
   ·have p0:((x.mg:Int) == a.mg)=true:=by simp[q0]
    by_cases q1:x.ra=a.ra
    ·have p1:((x.ra:Int) == a.ra)=true:=by simp[q1]
     by_cases q2:x.rb=a.rb
     ·have p2:((x.rb:Int) == a.rb)=true:=by simp[q2]
      by_cases q3:x.rd=a.rd
      ·have p3:((x.rd:Int) == a.rd)=true:=by simp[q3]
       by_cases q4:x.to=a.to
       ·have p4:((x.to:Int) == a.to)=true:=by simp[q4]
        have hHv:R=((x.gen:Int) == a.gen):=by rw[←HRo];simp[q0,q1,q2,q3,q4];rfl
        clear q0 q1 q2 q3 q4 HRo
        (go_wp2_with fail;go_meet;exact⟨by rw[hHv] <;> rfl,rfl⟩)
       ·have p4:((x.to:Int) == a.to)=false:=by simp[q4]
        have hHv:R=false:=by rw[←HRo];simp[q4]
        clear q0 q1 q2 q3 q4 HRo
        (go_wp2_with fail;go_meet;exact⟨by rw[hHv] <;> rfl,rfl⟩)
      ·have p3:((x.rd:Int) == a.rd)=false:=by simp[q3]
       have hHv:R=false:=by rw[←HRo];simp[q3]
       clear q0 q1 q2 q3 HRo
       (go_wp2_with fail;go_meet;exact⟨by rw[hHv] <;> rfl,rfl⟩)
     ·have p2:((x.rb:Int) == a.rb)=false:=by simp[q2]
      have hHv:R=false:=by rw[←HRo];simp[q2]
      clear q0 q1 q2 HRo
      (go_wp2_with fail;go_meet;exact⟨by rw[hHv] <;> rfl,rfl⟩)
    ·have p1:((x.ra:Int) == a.ra)=false:=by simp[q1]
     have hHv:R=false:=by rw[←HRo];simp[q1]
     clear q0 q1 HRo
     (go_wp2_with fail;go_meet;exact⟨by rw[hHv] <;> rfl,rfl⟩)
   ·have p0:((x.mg:Int) == a.mg)=false:=by simp[q0]
    have hHv:R=false:=by rw[←HRo];simp[q0]
    clear q0 HRo
    (go_wp2_with fail;go_meet;exact⟨by rw[hHv] <;> rfl,rfl⟩)
  case rest =>
   obtain⟨rfl,hwc⟩:=hcut
   rw[hwc]
   clear hwc wc
   go_upto_region 3 with (fail)
   cases H with
   | false =>
    go_wp2_with (first | (go_at_call_of 73 (Value.slice a.lines.p a.lines.n a.lines.c);refine(H_lines.out _ HR2.out).mono ?_;rintro e v0 ⟨rfl,hb⟩;have HB00:=hide hb;clear x0 x1 x2 x3 x4 x5 x6 x7 x8 x9 x10 x11 x12 x13 x14 y0 y1 y2 y3 y4 y5 y6 y7 y8 y9 y10 y11 y12 y13 y14;obtain⟨⟨x0,x1,x2,x3,x4,x5,x6,x7,x8,x9,x10,x11,x12,x13,x14⟩,y0,y1,y2,y3,y4,y5,y6,y7,y8,y9,y10,y11,y12,y13,y14⟩:=HF.out v0 hb;clear hb) | (go_at_call_of 74 (Value.slice a.guards.p a.guards.n a.guards.c);refine(H_guards.out _ HB00.out).mono ?_;rintro e v1 ⟨rfl,hb⟩;have HB11:=hide hb;clear x0 x1 x2 x3 x4 x5 x6 x7 x8 x9 x10 x11 x12 x13 x14 y0 y1 y2 y3 y4 y5 y6 y7 y8 y9 y10 y11 y12 y13 y14;obtain⟨⟨x0,x1,x2,x3,x4,x5,x6,x7,x8,x9,x10,x11,x12,x13,x14⟩,y0,y1,y2,y3,y4,y5,y6,y7,y8,y9,y10,y11,y12,y13,y14⟩:=HF.out v1 hb;clear hb) | (go_at_call_of 75 (Value.slice a.sets.p a.sets.n a.sets.c);refine(H_sets.out _ HB11.out).mono ?_;rintro e v2 ⟨rfl,hb⟩;have HB22:=hide hb;clear x0 x1 x2 x3 x4 x5 x6 x7 x8 x9 x10 x11 x12 x13 x14 y0 y1 y2 y3 y4 y5 y6 y7 y8 y9 y10 y11 y12 y13 y14;obtain⟨⟨x0,x1,x2,x3,x4,x5,x6,x7,x8,x9,x10,x11,x12,x13,x14⟩,y0,y1,y2,y3,y4,y5,y6,y7,y8,y9,y10,y11,y12,y13,y14⟩:=HF.out v2 hb;clear hb) | (go_at_call_of 73 (Value.slice a.other.p a.other.n a.other.c);refine(H_other.out _ HB22.out).mono ?_;rintro e v3 ⟨rfl,hb⟩;have HB33:=hide hb;clear x0 x1 x2 x3 x4 x5 x6 x7 x8 x9 x10 x11 x12 x13 x14 y0 y1 y2 y3 y4 y5 y6 y7 y8 y9 y10 y11 y12 y13 y14;obtain⟨⟨x0,x1,x2,x3,x4,x5,x6,x7,x8,x9,x10,x11,x12,x13,x14⟩,y0,y1,y2,y3,y4,y5,y6,y7,y8,y9,y10,y11,y12,y13,y14⟩:=HF.out v3 hb;clear hb) | (go_at_call_of 14 (Value.slice a.rights.p a.rights.n a.rights.c);refine(H_rights.out _ HB33.out).mono ?_;rintro e v4 ⟨rfl,hb⟩;have HB44:=hide hb;clear x0 x1 x2 x3 x4 x5 x6 x7 x8 x9 x10 x11 x12 x13 x14 y0 y1 y2 y3 y4 y5 y6 y7 y8 y9 y10 y11 y12 y13 y14;obtain⟨⟨x0,x1,x2,x3,x4,x5,x6,x7,x8,x9,x10,x11,x12,x13,x14⟩,y0,y1,y2,y3,y4,y5,y6,y7,y8,y9,y10,y11,y12,y13,y14⟩:=HF.out v4 hb;clear hb) | fail)
    go_ret
    exact⟨rfl,HB2.out⟩
   | true =>
    cases R with
    | false =>
     go_wp2_with (first | (go_at_call_of 73 (Value.slice a.lines.p a.lines.n a.lines.c);refine(H_lines.out _ HR2.out).mono ?_;rintro e v0 ⟨rfl,hb⟩;have HB00:=hide hb;clear x0 x1 x2 x3 x4 x5 x6 x7 x8 x9 x10 x11 x12 x13 x14 y0 y1 y2 y3 y4 y5 y6 y7 y8 y9 y10 y11 y12 y13 y14;obtain⟨⟨x0,x1,x2,x3,x4,x5,x6,x7,x8,x9,x10,x11,x12,x13,x14⟩,y0,y1,y2,y3,y4,y5,y6,y7,y8,y9,y10,y11,y12,y13,y14⟩:=HF.out v0 hb;clear hb) | (go_at_call_of 74 (Value.slice a.guards.p a.guards.n a.guards.c);refine(H_guards.out _ HB00.out).mono ?_;rintro e v1 ⟨rfl,hb⟩;have HB11:=hide hb;clear x0 x1 x2 x3 x4 x5 x6 x7 x8 x9 x10 x11 x12 x13 x14 y0 y1 y2 y3 y4 y5 y6 y7 y8 y9 y10 y11 y12 y13 y14;obtain⟨⟨x0,x1,x2,x3,x4,x5,x6,x7,x8,x9,x10,x11,x12,x13,x14⟩,y0,y1,y2,y3,y4,y5,y6,y7,y8,y9,y10,y11,y12,y13,y14⟩:=HF.out v1 hb;clear hb) | (go_at_call_of 75 (Value.slice a.sets.p a.sets.n a.sets.c);refine(H_sets.out _ HB11.out).mono ?_;rintro e v2 ⟨rfl,hb⟩;have HB22:=hide hb;clear x0 x1 x2 x3 x4 x5 x6 x7 x8 x9 x10 x11 x12 x13 x14 y0 y1 y2 y3 y4 y5 y6 y7 y8 y9 y10 y11 y12 y13 y14;obtain⟨⟨x0,x1,x2,x3,x4,x5,x6,x7,x8,x9,x10,x11,x12,x13,x14⟩,y0,y1,y2,y3,y4,y5,y6,y7,y8,y9,y10,y11,y12,y13,y14⟩:=HF.out v2 hb;clear hb) | (go_at_call_of 73 (Value.slice a.other.p a.other.n a.other.c);refine(H_other.out _ HB22.out).mono ?_;rintro e v3 ⟨rfl,hb⟩;have HB33:=hide hb;clear x0 x1 x2 x3 x4 x5 x6 x7 x8 x9 x10 x11 x12 x13 x14 y0 y1 y2 y3 y4 y5 y6 y7 y8 y9 y10 y11 y12 y13 y14;obtain⟨⟨x0,x1,x2,x3,x4,x5,x6,x7,x8,x9,x10,x11,x12,x13,x14⟩,y0,y1,y2,y3,y4,y5,y6,y7,y8,y9,y10,y11,y12,y13,y14⟩:=HF.out v3 hb;clear hb) | (go_at_call_of 14 (Value.slice a.rights.p a.rights.n a.rights.c);refine(H_rights.out _ HB33.out).mono ?_;rintro e v4 ⟨rfl,hb⟩;have HB44:=hide hb;clear x0 x1 x2 x3 x4 x5 x6 x7 x8 x9 x10 x11 x12 x13 x14 y0 y1 y2 y3 y4 y5 y6 y7 y8 y9 y10 y11 y12 y13 y14;obtain⟨⟨x0,x1,x2,x3,x4,x5,x6,x7,x8,x9,x10,x11,x12,x13,x14⟩,y0,y1,y2,y3,y4,y5,y6,y7,y8,y9,y10,y11,y12,y13,y14⟩:=HF.out v4 hb;clear hb) | fail)
     go_ret
     exact⟨rfl,HB2.out⟩
    | true =>
     cases b_lines with
     | false =>
      go_wp2_with (first | (go_at_call_of 73 (Value.slice a.lines.p a.lines.n a.lines.c);refine(H_lines.out _ HR2.out).mono ?_;rintro e v0 ⟨rfl,hb⟩;have HB00:=hide hb;clear x0 x1 x2 x3 x4 x5 x6 x7 x8 x9 x10 x11 x12 x13 x14 y0 y1 y2 y3 y4 y5 y6 y7 y8 y9 y10 y11 y12 y13 y14;obtain⟨⟨x0,x1,x2,x3,x4,x5,x6,x7,x8,x9,x10,x11,x12,x13,x14⟩,y0,y1,y2,y3,y4,y5,y6,y7,y8,y9,y10,y11,y12,y13,y14⟩:=HF.out v0 hb;clear hb) | (go_at_call_of 74 (Value.slice a.guards.p a.guards.n a.guards.c);refine(H_guards.out _ HB00.out).mono ?_;rintro e v1 ⟨rfl,hb⟩;have HB11:=hide hb;clear x0 x1 x2 x3 x4 x5 x6 x7 x8 x9 x10 x11 x12 x13 x14 y0 y1 y2 y3 y4 y5 y6 y7 y8 y9 y10 y11 y12 y13 y14;obtain⟨⟨x0,x1,x2,x3,x4,x5,x6,x7,x8,x9,x10,x11,x12,x13,x14⟩,y0,y1,y2,y3,y4,y5,y6,y7,y8,y9,y10,y11,y12,y13,y14⟩:=HF.out v1 hb;clear hb) | (go_at_call_of 75 (Value.slice a.sets.p a.sets.n a.sets.c);refine(H_sets.out _ HB11.out).mono ?_;rintro e v2 ⟨rfl,hb⟩;have HB22:=hide hb;clear x0 x1 x2 x3 x4 x5 x6 x7 x8 x9 x10 x11 x12 x13 x14 y0 y1 y2 y3 y4 y5 y6 y7 y8 y9 y10 y11 y12 y13 y14;obtain⟨⟨x0,x1,x2,x3,x4,x5,x6,x7,x8,x9,x10,x11,x12,x13,x14⟩,y0,y1,y2,y3,y4,y5,y6,y7,y8,y9,y10,y11,y12,y13,y14⟩:=HF.out v2 hb;clear hb) | (go_at_call_of 73 (Value.slice a.other.p a.other.n a.other.c);refine(H_other.out _ HB22.out).mono ?_;rintro e v3 ⟨rfl,hb⟩;have HB33:=hide hb;clear x0 x1 x2 x3 x4 x5 x6 x7 x8 x9 x10 x11 x12 x13 x14 y0 y1 y2 y3 y4 y5 y6 y7 y8 y9 y10 y11 y12 y13 y14;obtain⟨⟨x0,x1,x2,x3,x4,x5,x6,x7,x8,x9,x10,x11,x12,x13,x14⟩,y0,y1,y2,y3,y4,y5,y6,y7,y8,y9,y10,y11,y12,y13,y14⟩:=HF.out v3 hb;clear hb) | (go_at_call_of 14 (Value.slice a.rights.p a.rights.n a.rights.c);refine(H_rights.out _ HB33.out).mono ?_;rintro e v4 ⟨rfl,hb⟩;have HB44:=hide hb;clear x0 x1 x2 x3 x4 x5 x6 x7 x8 x9 x10 x11 x12 x13 x14 y0 y1 y2 y3 y4 y5 y6 y7 y8 y9 y10 y11 y12 y13 y14;obtain⟨⟨x0,x1,x2,x3,x4,x5,x6,x7,x8,x9,x10,x11,x12,x13,x14⟩,y0,y1,y2,y3,y4,y5,y6,y7,y8,y9,y10,y11,y12,y13,y14⟩:=HF.out v4 hb;clear hb) | fail)
      go_ret
      exact⟨rfl,HB2.out.trans (HB00.out.mono HB2.out.size)⟩
     | true =>
      cases b_guards with
      | false =>
       go_wp2_with (first | (go_at_call_of 73 (Value.slice a.lines.p a.lines.n a.lines.c);refine(H_lines.out _ HR2.out).mono ?_;rintro e v0 ⟨rfl,hb⟩;have HB00:=hide hb;clear x0 x1 x2 x3 x4 x5 x6 x7 x8 x9 x10 x11 x12 x13 x14 y0 y1 y2 y3 y4 y5 y6 y7 y8 y9 y10 y11 y12 y13 y14;obtain⟨⟨x0,x1,x2,x3,x4,x5,x6,x7,x8,x9,x10,x11,x12,x13,x14⟩,y0,y1,y2,y3,y4,y5,y6,y7,y8,y9,y10,y11,y12,y13,y14⟩:=HF.out v0 hb;clear hb) | (go_at_call_of 74 (Value.slice a.guards.p a.guards.n a.guards.c);refine(H_guards.out _ HB00.out).mono ?_;rintro e v1 ⟨rfl,hb⟩;have HB11:=hide hb;clear x0 x1 x2 x3 x4 x5 x6 x7 x8 x9 x10 x11 x12 x13 x14 y0 y1 y2 y3 y4 y5 y6 y7 y8 y9 y10 y11 y12 y13 y14;obtain⟨⟨x0,x1,x2,x3,x4,x5,x6,x7,x8,x9,x10,x11,x12,x13,x14⟩,y0,y1,y2,y3,y4,y5,y6,y7,y8,y9,y10,y11,y12,y13,y14⟩:=HF.out v1 hb;clear hb) | (go_at_call_of 75 (Value.slice a.sets.p a.sets.n a.sets.c);refine(H_sets.out _ HB11.out).mono ?_;rintro e v2 ⟨rfl,hb⟩;have HB22:=hide hb;clear x0 x1 x2 x3 x4 x5 x6 x7 x8 x9 x10 x11 x12 x13 x14 y0 y1 y2 y3 y4 y5 y6 y7 y8 y9 y10 y11 y12 y13 y14;obtain⟨⟨x0,x1,x2,x3,x4,x5,x6,x7,x8,x9,x10,x11,x12,x13,x14⟩,y0,y1,y2,y3,y4,y5,y6,y7,y8,y9,y10,y11,y12,y13,y14⟩:=HF.out v2 hb;clear hb) | (go_at_call_of 73 (Value.slice a.other.p a.other.n a.other.c);refine(H_other.out _ HB22.out).mono ?_;rintro e v3 ⟨rfl,hb⟩;have HB33:=hide hb;clear x0 x1 x2 x3 x4 x5 x6 x7 x8 x9 x10 x11 x12 x13 x14 y0 y1 y2 y3 y4 y5 y6 y7 y8 y9 y10 y11 y12 y13 y14;obtain⟨⟨x0,x1,x2,x3,x4,x5,x6,x7,x8,x9,x10,x11,x12,x13,x14⟩,y0,y1,y2,y3,y4,y5,y6,y7,y8,y9,y10,y11,y12,y13,y14⟩:=HF.out v3 hb;clear hb) | (go_at_call_of 14 (Value.slice a.rights.p a.rights.n a.rights.c);refine(H_rights.out _ HB33.out).mono ?_;rintro e v4 ⟨rfl,hb⟩;have HB44:=hide hb;clear x0 x1 x2 x3 x4 x5 x6 x7 x8 x9 x10 x11 x12 x13 x14 y0 y1 y2 y3 y4 y5 y6 y7 y8 y9 y10 y11 y12 y13 y14;obtain⟨⟨x0,x1,x2,x3,x4,x5,x6,x7,x8,x9,x10,x11,x12,x13,x14⟩,y0,y1,y2,y3,y4,y5,y6,y7,y8,y9,y10,y11,y12,y13,y14⟩:=HF.out v4 hb;clear hb) | fail)
       go_ret
       exact⟨rfl,HB2.out.trans (HB11.out.mono HB2.out.size)⟩
      | true =>
       cases b_sets with
       | false =>
        go_wp2_with (first | (go_at_call_of 73 (Value.slice a.lines.p a.lines.n a.lines.c);refine(H_lines.out _ HR2.out).mono ?_;rintro e v0 ⟨rfl,hb⟩;have HB00:=hide hb;clear x0 x1 x2 x3 x4 x5 x6 x7 x8 x9 x10 x11 x12 x13 x14 y0 y1 y2 y3 y4 y5 y6 y7 y8 y9 y10 y11 y12 y13 y14;obtain⟨⟨x0,x1,x2,x3,x4,x5,x6,x7,x8,x9,x10,x11,x12,x13,x14⟩,y0,y1,y2,y3,y4,y5,y6,y7,y8,y9,y10,y11,y12,y13,y14⟩:=HF.out v0 hb;clear hb) | (go_at_call_of 74 (Value.slice a.guards.p a.guards.n a.guards.c);refine(H_guards.out _ HB00.out).mono ?_;rintro e v1 ⟨rfl,hb⟩;have HB11:=hide hb;clear x0 x1 x2 x3 x4 x5 x6 x7 x8 x9 x10 x11 x12 x13 x14 y0 y1 y2 y3 y4 y5 y6 y7 y8 y9 y10 y11 y12 y13 y14;obtain⟨⟨x0,x1,x2,x3,x4,x5,x6,x7,x8,x9,x10,x11,x12,x13,x14⟩,y0,y1,y2,y3,y4,y5,y6,y7,y8,y9,y10,y11,y12,y13,y14⟩:=HF.out v1 hb;clear hb) | (go_at_call_of 75 (Value.slice a.sets.p a.sets.n a.sets.c);refine(H_sets.out _ HB11.out).mono ?_;rintro e v2 ⟨rfl,hb⟩;have HB22:=hide hb;clear x0 x1 x2 x3 x4 x5 x6 x7 x8 x9 x10 x11 x12 x13 x14 y0 y1 y2 y3 y4 y5 y6 y7 y8 y9 y10 y11 y12 y13 y14;obtain⟨⟨x0,x1,x2,x3,x4,x5,x6,x7,x8,x9,x10,x11,x12,x13,x14⟩,y0,y1,y2,y3,y4,y5,y6,y7,y8,y9,y10,y11,y12,y13,y14⟩:=HF.out v2 hb;clear hb) | (go_at_call_of 73 (Value.slice a.other.p a.other.n a.other.c);refine(H_other.out _ HB22.out).mono ?_;rintro e v3 ⟨rfl,hb⟩;have HB33:=hide hb;clear x0 x1 x2 x3 x4 x5 x6 x7 x8 x9 x10 x11 x12 x13 x14 y0 y1 y2 y3 y4 y5 y6 y7 y8 y9 y10 y11 y12 y13 y14;obtain⟨⟨x0,x1,x2,x3,x4,x5,x6,x7,x8,x9,x10,x11,x12,x13,x14⟩,y0,y1,y2,y3,y4,y5,y6,y7,y8,y9,y10,y11,y12,y13,y14⟩:=HF.out v3 hb;clear hb) | (go_at_call_of 14 (Value.slice a.rights.p a.rights.n a.rights.c);refine(H_rights.out _ HB33.out).mono ?_;rintro e v4 ⟨rfl,hb⟩;have HB44:=hide hb;clear x0 x1 x2 x3 x4 x5 x6 x7 x8 x9 x10 x11 x12 x13 x14 y0 y1 y2 y3 y4 y5 y6 y7 y8 y9 y10 y11 y12 y13 y14;obtain⟨⟨x0,x1,x2,x3,x4,x5,x6,x7,x8,x9,x10,x11,x12,x13,x14⟩,y0,y1,y2,y3,y4,y5,y6,y7,y8,y9,y10,y11,y12,y13,y14⟩:=HF.out v4 hb;clear hb) | fail)
        go_ret
        exact⟨rfl,HB2.out.trans (HB22.out.mono HB2.out.size)⟩
       | true =>
        cases b_other with
        | false =>
         go_wp2_with (first | (go_at_call_of 73 (Value.slice a.lines.p a.lines.n a.lines.c);refine(H_lines.out _ HR2.out).mono ?_;rintro e v0 ⟨rfl,hb⟩;have HB00:=hide hb;clear x0 x1 x2 x3 x4 x5 x6 x7 x8 x9 x10 x11 x12 x13 x14 y0 y1 y2 y3 y4 y5 y6 y7 y8 y9 y10 y11 y12 y13 y14;obtain⟨⟨x0,x1,x2,x3,x4,x5,x6,x7,x8,x9,x10,x11,x12,x13,x14⟩,y0,y1,y2,y3,y4,y5,y6,y7,y8,y9,y10,y11,y12,y13,y14⟩:=HF.out v0 hb;clear hb) | (go_at_call_of 74 (Value.slice a.guards.p a.guards.n a.guards.c);refine(H_guards.out _ HB00.out).mono ?_;rintro e v1 ⟨rfl,hb⟩;have HB11:=hide hb;clear x0 x1 x2 x3 x4 x5 x6 x7 x8 x9 x10 x11 x12 x13 x14 y0 y1 y2 y3 y4 y5 y6 y7 y8 y9 y10 y11 y12 y13 y14;obtain⟨⟨x0,x1,x2,x3,x4,x5,x6,x7,x8,x9,x10,x11,x12,x13,x14⟩,y0,y1,y2,y3,y4,y5,y6,y7,y8,y9,y10,y11,y12,y13,y14⟩:=HF.out v1 hb;clear hb) | (go_at_call_of 75 (Value.slice a.sets.p a.sets.n a.sets.c);refine(H_sets.out _ HB11.out).mono ?_;rintro e v2 ⟨rfl,hb⟩;have HB22:=hide hb;clear x0 x1 x2 x3 x4 x5 x6 x7 x8 x9 x10 x11 x12 x13 x14 y0 y1 y2 y3 y4 y5 y6 y7 y8 y9 y10 y11 y12 y13 y14;obtain⟨⟨x0,x1,x2,x3,x4,x5,x6,x7,x8,x9,x10,x11,x12,x13,x14⟩,y0,y1,y2,y3,y4,y5,y6,y7,y8,y9,y10,y11,y12,y13,y14⟩:=HF.out v2 hb;clear hb) | (go_at_call_of 73 (Value.slice a.other.p a.other.n a.other.c);refine(H_other.out _ HB22.out).mono ?_;rintro e v3 ⟨rfl,hb⟩;have HB33:=hide hb;clear x0 x1 x2 x3 x4 x5 x6 x7 x8 x9 x10 x11 x12 x13 x14 y0 y1 y2 y3 y4 y5 y6 y7 y8 y9 y10 y11 y12 y13 y14;obtain⟨⟨x0,x1,x2,x3,x4,x5,x6,x7,x8,x9,x10,x11,x12,x13,x14⟩,y0,y1,y2,y3,y4,y5,y6,y7,y8,y9,y10,y11,y12,y13,y14⟩:=HF.out v3 hb;clear hb) | (go_at_call_of 14 (Value.slice a.rights.p a.rights.n a.rights.c);refine(H_rights.out _ HB33.out).mono ?_;rintro e v4 ⟨rfl,hb⟩;have HB44:=hide hb;clear x0 x1 x2 x3 x4 x5 x6 x7 x8 x9 x10 x11 x12 x13 x14 y0 y1 y2 y3 y4 y5 y6 y7 y8 y9 y10 y11 y12 y13 y14;obtain⟨⟨x0,x1,x2,x3,x4,x5,x6,x7,x8,x9,x10,x11,x12,x13,x14⟩,y0,y1,y2,y3,y4,y5,y6,y7,y8,y9,y10,y11,y12,y13,y14⟩:=HF.out v4 hb;clear hb) | fail)
         go_ret
         exact⟨rfl,HB2.out.trans (HB33.out.mono HB2.out.size)⟩
        | true =>
         go_wp2_with (first | (go_at_call_of 73 (Value.slice a.lines.p a.lines.n a.lines.c);refine(H_lines.out _ HR2.out).mono ?_;rintro e v0 ⟨rfl,hb⟩;have HB00:=hide hb;clear x0 x1 x2 x3 x4 x5 x6 x7 x8 x9 x10 x11 x12 x13 x14 y0 y1 y2 y3 y4 y5 y6 y7 y8 y9 y10 y11 y12 y13 y14;obtain⟨⟨x0,x1,x2,x3,x4,x5,x6,x7,x8,x9,x10,x11,x12,x13,x14⟩,y0,y1,y2,y3,y4,y5,y6,y7,y8,y9,y10,y11,y12,y13,y14⟩:=HF.out v0 hb;clear hb) | (go_at_call_of 74 (Value.slice a.guards.p a.guards.n a.guards.c);refine(H_guards.out _ HB00.out).mono ?_;rintro e v1 ⟨rfl,hb⟩;have HB11:=hide hb;clear x0 x1 x2 x3 x4 x5 x6 x7 x8 x9 x10 x11 x12 x13 x14 y0 y1 y2 y3 y4 y5 y6 y7 y8 y9 y10 y11 y12 y13 y14;obtain⟨⟨x0,x1,x2,x3,x4,x5,x6,x7,x8,x9,x10,x11,x12,x13,x14⟩,y0,y1,y2,y3,y4,y5,y6,y7,y8,y9,y10,y11,y12,y13,y14⟩:=HF.out v1 hb;clear hb) | (go_at_call_of 75 (Value.slice a.sets.p a.sets.n a.sets.c);refine(H_sets.out _ HB11.out).mono ?_;rintro e v2 ⟨rfl,hb⟩;have HB22:=hide hb;clear x0 x1 x2 x3 x4 x5 x6 x7 x8 x9 x10 x11 x12 x13 x14 y0 y1 y2 y3 y4 y5 y6 y7 y8 y9 y10 y11 y12 y13 y14;obtain⟨⟨x0,x1,x2,x3,x4,x5,x6,x7,x8,x9,x10,x11,x12,x13,x14⟩,y0,y1,y2,y3,y4,y5,y6,y7,y8,y9,y10,y11,y12,y13,y14⟩:=HF.out v2 hb;clear hb) | (go_at_call_of 73 (Value.slice a.other.p a.other.n a.other.c);refine(H_other.out _ HB22.out).mono ?_;rintro e v3 ⟨rfl,hb⟩;have HB33:=hide hb;clear x0 x1 x2 x3 x4 x5 x6 x7 x8 x9 x10 x11 x12 x13 x14 y0 y1 y2 y3 y4 y5 y6 y7 y8 y9 y10 y11 y12 y13 y14;obtain⟨⟨x0,x1,x2,x3,x4,x5,x6,x7,x8,x9,x10,x11,x12,x13,x14⟩,y0,y1,y2,y3,y4,y5,y6,y7,y8,y9,y10,y11,y12,y13,y14⟩:=HF.out v3 hb;clear hb) | (go_at_call_of 14 (Value.slice a.rights.p a.rights.n a.rights.c);refine(H_rights.out _ HB33.out).mono ?_;rintro e v4 ⟨rfl,hb⟩;have HB44:=hide hb;clear x0 x1 x2 x3 x4 x5 x6 x7 x8 x9 x10 x11 x12 x13 x14 y0 y1 y2 y3 y4 y5 y6 y7 y8 y9 y10 y11 y12 y13 y14;obtain⟨⟨x0,x1,x2,x3,x4,x5,x6,x7,x8,x9,x10,x11,x12,x13,x14⟩,y0,y1,y2,y3,y4,y5,y6,y7,y8,y9,y10,y11,y12,y13,y14⟩:=HF.out v4 hb;clear hb) | fail)
         go_ret
         exact⟨rfl,HB2.out.trans (HB44.out.mono HB2.out.size)⟩
end Go.Proofs.YtfbegfapoijbnaaGreat
namespace Go.Proofs.YtfbegfapoijbnaaGreat
open Go.RowKit
open Z (Sli SlOk Acd AcdOk Eda EdaOk)
def Z.Eda.dd (e:Eda):Int × Z.AcP × Int × List Lin × List Tri × Int × Int × Int:=(e.po,e.ac.d,e.oc,e.made.xs,e.sets.xs,e.n,e.fe,e.ge)
set_option maxHeartbeats 4000000 in
theorem reqEntry_any (w:World) (x y:Eda) (hx:EdaOk w x) (hy:EdaOk w y) (D:Bool) (hD:D=true↔x.dd=y.dd) :
  Calls Tryz.prog 56 #[.agg #[.int .u64 x.po,.int .i64 x.ac.till,.int .u64 x.ac.num,.int .i64 x.ac.kind,.bool x.ac.sure,.slice x.ac.lines.p x.ac.lines.n x.ac.lines.c,.slice x.ac.guards.p x.ac.guards.n x.ac.guards.c,.slice x.ac.sets.p x.ac.sets.n x.ac.sets.c,.int .i64 x.ac.mg,.slice x.ac.other.p x.ac.other.n x.ac.other.c,.int .i64 x.ac.ra,.int .i64 x.ac.rb,.int .i64 x.ac.rd,.int .i64 x.ac.to,.int .u64 x.ac.gen,.slice x.ac.rights.p x.ac.rights.n x.ac.rights.c,.int .i64 x.oc,.slice x.made.p x.made.n x.made.c,.slice x.sets.p x.sets.n x.sets.c,.int .i64 x.n,.int .i64 x.fe,.int .u64 x.ge],.agg #[.int .u64 y.po,.int .i64 y.ac.till,.int .u64 y.ac.num,.int .i64 y.ac.kind,.bool y.ac.sure,.slice y.ac.lines.p y.ac.lines.n y.ac.lines.c,.slice y.ac.guards.p y.ac.guards.n y.ac.guards.c,.slice y.ac.sets.p y.ac.sets.n y.ac.sets.c,.int .i64 y.ac.mg,.slice y.ac.other.p y.ac.other.n y.ac.other.c,.int .i64 y.ac.ra,.int .i64 y.ac.rb,.int .i64 y.ac.rd,.int .i64 y.ac.to,.int .u64 y.ac.gen,.slice y.ac.rights.p y.ac.rights.n y.ac.rights.c,.int .i64 y.oc,.slice y.made.p y.made.n y.made.c,.slice y.sets.p y.sets.n y.sets.c,.int .i64 y.n,.int .i64 y.fe,.int .u64 y.ge]] w fun e w'=>e=.returned (.bool D)∧Below w.heap.size w w':=by
 obtain⟨w2,hw2,hb2,hx2,hy2⟩:=box_two w #[.int .u64 x.po,.int .i64 x.ac.till,.int .u64 x.ac.num,.int .i64 x.ac.kind,.bool x.ac.sure,.slice x.ac.lines.p x.ac.lines.n x.ac.lines.c,.slice x.ac.guards.p x.ac.guards.n x.ac.guards.c,.slice x.ac.sets.p x.ac.sets.n x.ac.sets.c,.int .i64 x.ac.mg,.slice x.ac.other.p x.ac.other.n x.ac.other.c,.int .i64 x.ac.ra,.int .i64 x.ac.rb,.int .i64 x.ac.rd,.int .i64 x.ac.to,.int .u64 x.ac.gen,.slice x.ac.rights.p x.ac.rights.n x.ac.rights.c,.int .i64 x.oc,.slice x.made.p x.made.n x.made.c,.slice x.sets.p x.sets.n x.sets.c,.int .i64 x.n,.int .i64 x.fe,.int .u64 x.ge] 89 89 #[.int .u64 y.po,.int .i64 y.ac.till,.int .u64 y.ac.num,.int .i64 y.ac.kind,.bool y.ac.sure,.slice y.ac.lines.p y.ac.lines.n y.ac.lines.c,.slice y.ac.guards.p y.ac.guards.n y.ac.guards.c,.slice y.ac.sets.p y.ac.sets.n y.ac.sets.c,.int .i64 y.ac.mg,.slice y.ac.other.p y.ac.other.n y.ac.other.c,.int .i64 y.ac.ra,.int .i64 y.ac.rb,.int .i64 y.ac.rd,.int .i64 y.ac.to,.int .u64 y.ac.gen,.slice y.ac.rights.p y.ac.rights.n y.ac.rights.c,.int .i64 y.oc,.slice y.made.p y.made.n y.made.c,.slice y.sets.p y.sets.n y.sets.c,.int .i64 y.n,.int .i64 y.fe,.int .u64 y.ge]
 have HW2:=hide hw2
 have HB2:=hide hb2
 have HF:Hid (∀W,Below w2.heap.size w2 W→(W.cell? ⟨w.heap.size,0,none⟩=some (.int .u64 x.po)∧W.cell? ⟨w.heap.size,1,none⟩=some (.int .i64 x.ac.till)∧W.cell? ⟨w.heap.size,2,none⟩=some (.int .u64 x.ac.num)∧W.cell? ⟨w.heap.size,3,none⟩=some (.int .i64 x.ac.kind)∧W.cell? ⟨w.heap.size,4,none⟩=some (.bool x.ac.sure)∧W.cell? ⟨w.heap.size,5,none⟩=some (.slice x.ac.lines.p x.ac.lines.n x.ac.lines.c)∧W.cell? ⟨w.heap.size,6,none⟩=some (.slice x.ac.guards.p x.ac.guards.n x.ac.guards.c)∧W.cell? ⟨w.heap.size,7,none⟩=some (.slice x.ac.sets.p x.ac.sets.n x.ac.sets.c)∧W.cell? ⟨w.heap.size,8,none⟩=some (.int .i64 x.ac.mg)∧W.cell? ⟨w.heap.size,9,none⟩=some (.slice x.ac.other.p x.ac.other.n x.ac.other.c)∧W.cell? ⟨w.heap.size,10,none⟩=some (.int .i64 x.ac.ra)∧W.cell? ⟨w.heap.size,11,none⟩=some (.int .i64 x.ac.rb)∧W.cell? ⟨w.heap.size,12,none⟩=some (.int .i64 x.ac.rd)∧W.cell? ⟨w.heap.size,13,none⟩=some (.int .i64 x.ac.to)∧W.cell? ⟨w.heap.size,14,none⟩=some (.int .u64 x.ac.gen)∧W.cell? ⟨w.heap.size,15,none⟩=some (.slice x.ac.rights.p x.ac.rights.n x.ac.rights.c)∧W.cell? ⟨w.heap.size,16,none⟩=some (.int .i64 x.oc)∧W.cell? ⟨w.heap.size,17,none⟩=some (.slice x.made.p x.made.n x.made.c)∧W.cell? ⟨w.heap.size,18,none⟩=some (.slice x.sets.p x.sets.n x.sets.c)∧W.cell? ⟨w.heap.size,19,none⟩=some (.int .i64 x.n)∧W.cell? ⟨w.heap.size,20,none⟩=some (.int .i64 x.fe)∧W.cell? ⟨w.heap.size,21,none⟩=some (.int .u64 x.ge))∧(W.cell? ⟨w.heap.size+1,0,none⟩=some (.int .u64 y.po)∧W.cell? ⟨w.heap.size+1,1,none⟩=some (.int .i64 y.ac.till)∧W.cell? ⟨w.heap.size+1,2,none⟩=some (.int .u64 y.ac.num)∧W.cell? ⟨w.heap.size+1,3,none⟩=some (.int .i64 y.ac.kind)∧W.cell? ⟨w.heap.size+1,4,none⟩=some (.bool y.ac.sure)∧W.cell? ⟨w.heap.size+1,5,none⟩=some (.slice y.ac.lines.p y.ac.lines.n y.ac.lines.c)∧W.cell? ⟨w.heap.size+1,6,none⟩=some (.slice y.ac.guards.p y.ac.guards.n y.ac.guards.c)∧W.cell? ⟨w.heap.size+1,7,none⟩=some (.slice y.ac.sets.p y.ac.sets.n y.ac.sets.c)∧W.cell? ⟨w.heap.size+1,8,none⟩=some (.int .i64 y.ac.mg)∧W.cell? ⟨w.heap.size+1,9,none⟩=some (.slice y.ac.other.p y.ac.other.n y.ac.other.c)∧W.cell? ⟨w.heap.size+1,10,none⟩=some (.int .i64 y.ac.ra)∧W.cell? ⟨w.heap.size+1,11,none⟩=some (.int .i64 y.ac.rb)∧W.cell? ⟨w.heap.size+1,12,none⟩=some (.int .i64 y.ac.rd)∧W.cell? ⟨w.heap.size+1,13,none⟩=some (.int .i64 y.ac.to)∧W.cell? ⟨w.heap.size+1,14,none⟩=some (.int .u64 y.ac.gen)∧W.cell? ⟨w.heap.size+1,15,none⟩=some (.slice y.ac.rights.p y.ac.rights.n y.ac.rights.c)∧W.cell? ⟨w.heap.size+1,16,none⟩=some (.int .i64 y.oc)∧W.cell? ⟨w.heap.size+1,17,none⟩=some (.slice y.made.p y.made.n y.made.c)∧W.cell? ⟨w.heap.size+1,18,none⟩=some (.slice y.sets.p y.sets.n y.sets.c)∧W.cell? ⟨w.heap.size+1,19,none⟩=some (.int .i64 y.n)∧W.cell? ⟨w.heap.size+1,20,none⟩=some (.int .i64 y.fe)∧W.cell? ⟨w.heap.size+1,21,none⟩=some (.int .u64 y.ge))):=fun W hb=>by
  have h1:=(hb.block _ (ac_lt hx2)).trans hx2
  have h2:=(hb.block _ (ac_lt hy2)).trans hy2
  exact⟨⟨by rw[cell_of_row _ _ _ _ _ _ h1];rfl,by rw[cell_of_row _ _ _ _ _ _ h1];rfl,by rw[cell_of_row _ _ _ _ _ _ h1];rfl,by rw[cell_of_row _ _ _ _ _ _ h1];rfl,by rw[cell_of_row _ _ _ _ _ _ h1];rfl,by rw[cell_of_row _ _ _ _ _ _ h1];rfl,by rw[cell_of_row _ _ _ _ _ _ h1];rfl,by rw[cell_of_row _ _ _ _ _ _ h1];rfl,by rw[cell_of_row _ _ _ _ _ _ h1];rfl,by rw[cell_of_row _ _ _ _ _ _ h1];rfl,by rw[cell_of_row _ _ _ _ _ _ h1];rfl,by rw[cell_of_row _ _ _ _ _ _ h1];rfl,by rw[cell_of_row _ _ _ _ _ _ h1];rfl,by rw[cell_of_row _ _ _ _ _ _ h1];rfl,by rw[cell_of_row _ _ _ _ _ _ h1];rfl,by rw[cell_of_row _ _ _ _ _ _ h1];rfl,by rw[cell_of_row _ _ _ _ _ _ h1];rfl,by rw[cell_of_row _ _ _ _ _ _ h1];rfl,by rw[cell_of_row _ _ _ _ _ _ h1];rfl,by rw[cell_of_row _ _ _ _ _ _ h1];rfl,by rw[cell_of_row _ _ _ _ _ _ h1];rfl,by rw[cell_of_row _ _ _ _ _ _ h1];rfl⟩,⟨by rw[cell_of_row _ _ _ _ _ _ h2];rfl,by rw[cell_of_row _ _ _ _ _ _ h2];rfl,by rw[cell_of_row _ _ _ _ _ _ h2];rfl,by rw[cell_of_row _ _ _ _ _ _ h2];rfl,by rw[cell_of_row _ _ _ _ _ _ h2];rfl,by rw[cell_of_row _ _ _ _ _ _ h2];rfl,by rw[cell_of_row _ _ _ _ _ _ h2];rfl,by rw[cell_of_row _ _ _ _ _ _ h2];rfl,by rw[cell_of_row _ _ _ _ _ _ h2];rfl,by rw[cell_of_row _ _ _ _ _ _ h2];rfl,by rw[cell_of_row _ _ _ _ _ _ h2];rfl,by rw[cell_of_row _ _ _ _ _ _ h2];rfl,by rw[cell_of_row _ _ _ _ _ _ h2];rfl,by rw[cell_of_row _ _ _ _ _ _ h2];rfl,by rw[cell_of_row _ _ _ _ _ _ h2];rfl,by rw[cell_of_row _ _ _ _ _ _ h2];rfl,by rw[cell_of_row _ _ _ _ _ _ h2];rfl,by rw[cell_of_row _ _ _ _ _ _ h2];rfl,by rw[cell_of_row _ _ _ _ _ _ h2];rfl,by rw[cell_of_row _ _ _ _ _ _ h2];rfl,by rw[cell_of_row _ _ _ _ _ _ h2];rfl,by rw[cell_of_row _ _ _ _ _ _ h2];rfl⟩⟩
 obtain⟨ba,hba⟩:=bool_of (x.ac.d=y.ac.d)
 obtain⟨bm,hbm⟩:=bool_of (x.made.xs=y.made.xs)
 obtain⟨bs,hbs⟩:=bool_of (x.sets.xs=y.sets.xs)
 have HAc:Hid (∀W,Below w2.heap.size w2 W→Calls Tryz.prog 49 #[.agg #[.int .i64 x.ac.till,.int .u64 x.ac.num,.int .i64 x.ac.kind,.bool x.ac.sure,.slice x.ac.lines.p x.ac.lines.n x.ac.lines.c,.slice x.ac.guards.p x.ac.guards.n x.ac.guards.c,.slice x.ac.sets.p x.ac.sets.n x.ac.sets.c,.int .i64 x.ac.mg,.slice x.ac.other.p x.ac.other.n x.ac.other.c,.int .i64 x.ac.ra,.int .i64 x.ac.rb,.int .i64 x.ac.rd,.int .i64 x.ac.to,.int .u64 x.ac.gen,.slice x.ac.rights.p x.ac.rights.n x.ac.rights.c],.agg #[.int .i64 y.ac.till,.int .u64 y.ac.num,.int .i64 y.ac.kind,.bool y.ac.sure,.slice y.ac.lines.p y.ac.lines.n y.ac.lines.c,.slice y.ac.guards.p y.ac.guards.n y.ac.guards.c,.slice y.ac.sets.p y.ac.sets.n y.ac.sets.c,.int .i64 y.ac.mg,.slice y.ac.other.p y.ac.other.n y.ac.other.c,.int .i64 y.ac.ra,.int .i64 y.ac.rb,.int .i64 y.ac.rd,.int .i64 y.ac.to,.int .u64 y.ac.gen,.slice y.ac.rights.p y.ac.rights.n y.ac.rights.c]] W fun e w'=>e=.returned (.bool ba)∧Below w2.heap.size w2 w'):=fun W hb=>(reqAct_any W x.ac y.ac ((hx.ac.below hb2).below hb) ((hy.ac.below hb2).below hb) ba hba).mono fun _ _ ⟨he,h⟩=>⟨he,hb.trans (h.mono hb.size)⟩
 have HMa:Hid (∀W,Below w2.heap.size w2 W→Calls Tryz.prog 73 #[.slice x.made.p x.made.n x.made.c,.slice y.made.p y.made.n y.made.c] W fun e w'=>e=.returned (.bool bm)∧Below w2.heap.size w2 w'):=fun W hb=>(eqLines_any W x.made.p y.made.p x.made.n y.made.n x.made.c y.made.c x.made.xs y.made.xs hx.made.len hy.made.len (by have:=hx.made.most;omega) ((hx.made.below hb2).below hb).cel ((hy.made.below hb2).below hb).cel bm hbm).mono fun _ _ ⟨he,h⟩=>⟨he,hb.trans (h.mono hb.size)⟩
 have HSe:Hid (∀W,Below w2.heap.size w2 W→Calls Tryz.prog 75 #[.slice x.sets.p x.sets.n x.sets.c,.slice y.sets.p y.sets.n y.sets.c] W fun e w'=>e=.returned (.bool bs)∧Below w2.heap.size w2 w'):=fun W hb=>(eqSets_x W x.sets.p y.sets.p x.sets.n y.sets.n x.sets.c y.sets.c x.sets.xs y.sets.xs hx.sets.len hy.sets.len (by have:=hx.sets.most;omega) ((hx.sets.below hb2).below hb).cel ((hy.sets.below hb2).below hb).cel bs hbs).mono fun _ _ ⟨he,h⟩=>⟨he,hb.trans (h.mono hb.size)⟩
 obtain⟨R,hR⟩:∃b:Bool,decide (x.po=y.po∧x.oc=y.oc∧x.n=y.n∧x.fe=y.fe∧x.ge=y.ge)=b:=⟨_,rfl⟩
 have HD:Hid (D=(R && ba && bm && bs)):=by
  show D=_
  rw[Bool.eq_iff_iff,hD]
  simp only[Eda.dd,Prod.mk.injEq,Bool.and_eq_true,←hR,hba,hbm,hbs,decide_eq_true_eq]
  constructor
  ·rintro ⟨e0,e1,e2,e3,e4,e5,e6,e7⟩
   exact⟨⟨⟨⟨e0,e2,e5,e6,e7⟩,e1⟩,e3⟩,e4⟩
  ·rintro ⟨⟨⟨⟨e0,e2,e5,e6,e7⟩,e1⟩,e3⟩,e4⟩
   exact⟨e0,e1,e2,e3,e4,e5,e6,e7⟩
 rw[HD.out]
 have HR2:Hid (Below w2.heap.size w2 w2):=Below.refl _ _
 have HRo:=hide hR
 obtain⟨⟨x0,x1,x2,x3,x4,x5,x6,x7,x8,x9,x10,x11,x12,x13,x14,x15,x16,x17,x18,x19,x20,x21⟩,⟨y0,y1,y2,y3,y4,y5,y6,y7,y8,y9,y10,y11,y12,y13,y14,y15,y16,y17,y18,y19,y20,y21⟩⟩:=HF.out w2 HR2.out
 clear hw2 hb2 hx2 hy2 hx hy hba hbm hbs hR HD hD
 go_enter Tryz.func56,Tryz.ntmps56
 go_upto_region 1 with (fail)
 rw[HW2.out]
 go_cut [5] from 6 to 38 (fun s5 wc=>s5=.bool R∧wc=w2)
 case first =>
  by_cases q0:x.po=y.po
  ·have p0:((x.po:Int) == y.po)=true:=by simp[q0]
   by_cases q1:x.oc=y.oc
   ·have p1:((x.oc:Int) == y.oc)=true:=by simp[q1]
    by_cases q2:x.n=y.n
    ·have p2:((x.n:Int) == y.n)=true:=by simp[q2]
     by_cases q3:x.fe=y.fe
     ·have p3:((x.fe:Int) == y.fe)=true:=by simp[q3]
      by_cases q4:x.ge=y.ge
      ·have p4:((x.ge:Int) == y.ge)=true:=by simp[q4]
       have hHv:R=true:=by rw[←HRo.out];simp[q0,q1,q2,q3,q4]
       clear q0 q1 q2 q3 q4
       go_wp2_with fail
       go_meet
       exact⟨by rw[hHv],rfl⟩
      ·have p4:((x.ge:Int) == y.ge)=false:=by simp[q4]
       have hHv:R=false:=by rw[←HRo.out];simp[q4]
       clear q0 q1 q2 q3 q4
       go_wp2_with fail
       go_meet
       exact⟨by rw[hHv],rfl⟩
     ·have p3:((x.fe:Int) == y.fe)=false:=by simp[q3]
      have hHv:R=false:=by rw[←HRo.out];simp[q3]
      clear q0 q1 q2 q3
      go_wp2_with fail
      go_meet
      exact⟨by rw[hHv],rfl⟩
    ·have p2:((x.n:Int) == y.n)=false:=by simp[q2]
     have hHv:R=false:=by rw[←HRo.out];simp[q2]
     clear q0 q1 q2
     go_wp2_with fail
     go_meet
     exact⟨by rw[hHv],rfl⟩
   ·have p1:((x.oc:Int) == y.oc)=false:=by simp[q1]
    have hHv:R=false:=by rw[←HRo.out];simp[q1]
    clear q0 q1
    go_wp2_with fail
    go_meet
    exact⟨by rw[hHv],rfl⟩
  ·have p0:((x.po:Int) == y.po)=false:=by simp[q0]
   have hHv:R=false:=by rw[←HRo.out];simp[q0]
   clear q0
   go_wp2_with fail
   go_meet
   exact⟨by rw[hHv],rfl⟩
 case rest =>
  obtain⟨rfl,hwc⟩:=hcut
  rw[hwc]
  clear hwc wc
  cases R with
  | false =>
   go_wp2_with (first | (go_at_call 75;refine(HSe.out _ HBv2.out).mono ?_;rintro e v3 ⟨rfl,hb⟩;have HBv3:=hide hb;clear x0 x1 x2 x3 x4 x5 x6 x7 x8 x9 x10 x11 x12 x13 x14 x15 x16 x17 x18 x19 x20 x21 y0 y1 y2 y3 y4 y5 y6 y7 y8 y9 y10 y11 y12 y13 y14 y15 y16 y17 y18 y19 y20 y21;obtain⟨⟨x0,x1,x2,x3,x4,x5,x6,x7,x8,x9,x10,x11,x12,x13,x14,x15,x16,x17,x18,x19,x20,x21⟩,⟨y0,y1,y2,y3,y4,y5,y6,y7,y8,y9,y10,y11,y12,y13,y14,y15,y16,y17,y18,y19,y20,y21⟩⟩:=HF.out v3 hb;clear hb) | (go_at_call 73;refine(HMa.out _ HBv1.out).mono ?_;rintro e v2 ⟨rfl,hb⟩;have HBv2:=hide hb;clear x0 x1 x2 x3 x4 x5 x6 x7 x8 x9 x10 x11 x12 x13 x14 x15 x16 x17 x18 x19 x20 x21 y0 y1 y2 y3 y4 y5 y6 y7 y8 y9 y10 y11 y12 y13 y14 y15 y16 y17 y18 y19 y20 y21;obtain⟨⟨x0,x1,x2,x3,x4,x5,x6,x7,x8,x9,x10,x11,x12,x13,x14,x15,x16,x17,x18,x19,x20,x21⟩,⟨y0,y1,y2,y3,y4,y5,y6,y7,y8,y9,y10,y11,y12,y13,y14,y15,y16,y17,y18,y19,y20,y21⟩⟩:=HF.out v2 hb;clear hb) | (go_at_call 49;refine(HAc.out _ HR2.out).mono ?_;rintro e v1 ⟨rfl,hb⟩;have HBv1:=hide hb;clear x0 x1 x2 x3 x4 x5 x6 x7 x8 x9 x10 x11 x12 x13 x14 x15 x16 x17 x18 x19 x20 x21 y0 y1 y2 y3 y4 y5 y6 y7 y8 y9 y10 y11 y12 y13 y14 y15 y16 y17 y18 y19 y20 y21;obtain⟨⟨x0,x1,x2,x3,x4,x5,x6,x7,x8,x9,x10,x11,x12,x13,x14,x15,x16,x17,x18,x19,x20,x21⟩,⟨y0,y1,y2,y3,y4,y5,y6,y7,y8,y9,y10,y11,y12,y13,y14,y15,y16,y17,y18,y19,y20,y21⟩⟩:=HF.out v1 hb;clear hb) | fail)
   go_ret
   exact⟨rfl,HB2.out⟩
  | true =>
   cases ba with
   | false =>
    go_wp2_with (first | (go_at_call 75;refine(HSe.out _ HBv2.out).mono ?_;rintro e v3 ⟨rfl,hb⟩;have HBv3:=hide hb;clear x0 x1 x2 x3 x4 x5 x6 x7 x8 x9 x10 x11 x12 x13 x14 x15 x16 x17 x18 x19 x20 x21 y0 y1 y2 y3 y4 y5 y6 y7 y8 y9 y10 y11 y12 y13 y14 y15 y16 y17 y18 y19 y20 y21;obtain⟨⟨x0,x1,x2,x3,x4,x5,x6,x7,x8,x9,x10,x11,x12,x13,x14,x15,x16,x17,x18,x19,x20,x21⟩,⟨y0,y1,y2,y3,y4,y5,y6,y7,y8,y9,y10,y11,y12,y13,y14,y15,y16,y17,y18,y19,y20,y21⟩⟩:=HF.out v3 hb;clear hb) | (go_at_call 73;refine(HMa.out _ HBv1.out).mono ?_;rintro e v2 ⟨rfl,hb⟩;have HBv2:=hide hb;clear x0 x1 x2 x3 x4 x5 x6 x7 x8 x9 x10 x11 x12 x13 x14 x15 x16 x17 x18 x19 x20 x21 y0 y1 y2 y3 y4 y5 y6 y7 y8 y9 y10 y11 y12 y13 y14 y15 y16 y17 y18 y19 y20 y21;obtain⟨⟨x0,x1,x2,x3,x4,x5,x6,x7,x8,x9,x10,x11,x12,x13,x14,x15,x16,x17,x18,x19,x20,x21⟩,⟨y0,y1,y2,y3,y4,y5,y6,y7,y8,y9,y10,y11,y12,y13,y14,y15,y16,y17,y18,y19,y20,y21⟩⟩:=HF.out v2 hb;clear hb) | (go_at_call 49;refine(HAc.out _ HR2.out).mono ?_;rintro e v1 ⟨rfl,hb⟩;have HBv1:=hide hb;clear x0 x1 x2 x3 x4 x5 x6 x7 x8 x9 x10 x11 x12 x13 x14 x15 x16 x17 x18 x19 x20 x21 y0 y1 y2 y3 y4 y5 y6 y7 y8 y9 y10 y11 y12 y13 y14 y15 y16 y17 y18 y19 y20 y21;obtain⟨⟨x0,x1,x2,x3,x4,x5,x6,x7,x8,x9,x10,x11,x12,x13,x14,x15,x16,x17,x18,x19,x20,x21⟩,⟨y0,y1,y2,y3,y4,y5,y6,y7,y8,y9,y10,y11,y12,y13,y14,y15,y16,y17,y18,y19,y20,y21⟩⟩:=HF.out v1 hb;clear hb) | fail)
    go_ret
    exact⟨rfl,HB2.out.trans (HBv1.out.mono HB2.out.size)⟩
   | true =>
    cases bm with
    | false =>
     go_wp2_with (first | (go_at_call 75;refine(HSe.out _ HBv2.out).mono ?_;rintro e v3 ⟨rfl,hb⟩;have HBv3:=hide hb;clear x0 x1 x2 x3 x4 x5 x6 x7 x8 x9 x10 x11 x12 x13 x14 x15 x16 x17 x18 x19 x20 x21 y0 y1 y2 y3 y4 y5 y6 y7 y8 y9 y10 y11 y12 y13 y14 y15 y16 y17 y18 y19 y20 y21;obtain⟨⟨x0,x1,x2,x3,x4,x5,x6,x7,x8,x9,x10,x11,x12,x13,x14,x15,x16,x17,x18,x19,x20,x21⟩,⟨y0,y1,y2,y3,y4,y5,y6,y7,y8,y9,y10,y11,y12,y13,y14,y15,y16,y17,y18,y19,y20,y21⟩⟩:=HF.out v3 hb;clear hb) | (go_at_call 73;refine(HMa.out _ HBv1.out).mono ?_;rintro e v2 ⟨rfl,hb⟩;have HBv2:=hide hb;clear x0 x1 x2 x3 x4 x5 x6 x7 x8 x9 x10 x11 x12 x13 x14 x15 x16 x17 x18 x19 x20 x21 y0 y1 y2 y3 y4 y5 y6 y7 y8 y9 y10 y11 y12 y13 y14 y15 y16 y17 y18 y19 y20 y21;obtain⟨⟨x0,x1,x2,x3,x4,x5,x6,x7,x8,x9,x10,x11,x12,x13,x14,x15,x16,x17,x18,x19,x20,x21⟩,⟨y0,y1,y2,y3,y4,y5,y6,y7,y8,y9,y10,y11,y12,y13,y14,y15,y16,y17,y18,y19,y20,y21⟩⟩:=HF.out v2 hb;clear hb) | (go_at_call 49;refine(HAc.out _ HR2.out).mono ?_;rintro e v1 ⟨rfl,hb⟩;have HBv1:=hide hb;clear x0 x1 x2 x3 x4 x5 x6 x7 x8 x9 x10 x11 x12 x13 x14 x15 x16 x17 x18 x19 x20 x21 y0 y1 y2 y3 y4 y5 y6 y7 y8 y9 y10 y11 y12 y13 y14 y15 y16 y17 y18 y19 y20 y21;obtain⟨⟨x0,x1,x2,x3,x4,x5,x6,x7,x8,x9,x10,x11,x12,x13,x14,x15,x16,x17,x18,x19,x20,x21⟩,⟨y0,y1,y2,y3,y4,y5,y6,y7,y8,y9,y10,y11,y12,y13,y14,y15,y16,y17,y18,y19,y20,y21⟩⟩:=HF.out v1 hb;clear hb) | fail)
     go_ret
     exact⟨rfl,HB2.out.trans (HBv2.out.mono HB2.out.size)⟩
    | true =>
     go_wp2_with (first | (go_at_call 75;refine(HSe.out _ HBv2.out).mono ?_;rintro e v3 ⟨rfl,hb⟩;have HBv3:=hide hb;clear x0 x1 x2 x3 x4 x5 x6 x7 x8 x9 x10 x11 x12 x13 x14 x15 x16 x17 x18 x19 x20 x21 y0 y1 y2 y3 y4 y5 y6 y7 y8 y9 y10 y11 y12 y13 y14 y15 y16 y17 y18 y19 y20 y21;obtain⟨⟨x0,x1,x2,x3,x4,x5,x6,x7,x8,x9,x10,x11,x12,x13,x14,x15,x16,x17,x18,x19,x20,x21⟩,⟨y0,y1,y2,y3,y4,y5,y6,y7,y8,y9,y10,y11,y12,y13,y14,y15,y16,y17,y18,y19,y20,y21⟩⟩:=HF.out v3 hb;clear hb) | (go_at_call 73;refine(HMa.out _ HBv1.out).mono ?_;rintro e v2 ⟨rfl,hb⟩;have HBv2:=hide hb;clear x0 x1 x2 x3 x4 x5 x6 x7 x8 x9 x10 x11 x12 x13 x14 x15 x16 x17 x18 x19 x20 x21 y0 y1 y2 y3 y4 y5 y6 y7 y8 y9 y10 y11 y12 y13 y14 y15 y16 y17 y18 y19 y20 y21;obtain⟨⟨x0,x1,x2,x3,x4,x5,x6,x7,x8,x9,x10,x11,x12,x13,x14,x15,x16,x17,x18,x19,x20,x21⟩,⟨y0,y1,y2,y3,y4,y5,y6,y7,y8,y9,y10,y11,y12,y13,y14,y15,y16,y17,y18,y19,y20,y21⟩⟩:=HF.out v2 hb;clear hb) | (go_at_call 49;refine(HAc.out _ HR2.out).mono ?_;rintro e v1 ⟨rfl,hb⟩;have HBv1:=hide hb;clear x0 x1 x2 x3 x4 x5 x6 x7 x8 x9 x10 x11 x12 x13 x14 x15 x16 x17 x18 x19 x20 x21 y0 y1 y2 y3 y4 y5 y6 y7 y8 y9 y10 y11 y12 y13 y14 y15 y16 y17 y18 y19 y20 y21;obtain⟨⟨x0,x1,x2,x3,x4,x5,x6,x7,x8,x9,x10,x11,x12,x13,x14,x15,x16,x17,x18,x19,x20,x21⟩,⟨y0,y1,y2,y3,y4,y5,y6,y7,y8,y9,y10,y11,y12,y13,y14,y15,y16,y17,y18,y19,y20,y21⟩⟩:=HF.out v1 hb;clear hb) | fail)
     go_ret
     exact⟨by simp,HB2.out.trans (HBv3.out.mono HB2.out.size)⟩
end Go.Proofs.YtfbegfapoijbnaaGreat
