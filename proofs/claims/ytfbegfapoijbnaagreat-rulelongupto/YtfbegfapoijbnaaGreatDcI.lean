import Derived.Test.YtfbegfapoijbnaaGreatDcH
import Derived.Test.YtfbegfapoijbnaaGreatZM
set_option maxRecDepth 100000
namespace Go.Proofs.YtfbegfapoijbnaaGreat
open Go.RowKit Go.Sort
open Z (Sli SlOk Acd AcdOk)
def mergeOk (cn:Nat) (a:Acd):Bool :=
 (if a.mg=0∨a.mg=1∨a.mg=3 then decide (a.other.xs.length=0) else if a.mg=2 then !decide (a.other.xs.length=0) && linesOk cn a.other.xs else false) &&
 (!a.sure || (decide (a.mg=0) && decide (a.guards.xs.length=0) && decide (a.sets.xs.length=0)))
def writeChk (cn pn:Nat) (a:Acd):Int :=
 if (!linesOk cn a.lines.xs || decide (a.lines.xs.length+a.sets.xs.length=0))=true then 83
 else if (!guardsOk cn pn a.guards.xs)=true then 84
 else if (!setsOk pn (-1) (if a.mg=1 then 1099511627776 else -1) a.sets.xs)=true then 85
 else if (!mergeOk cn a)=true then 86
 else 0
set_option maxHeartbeats 4000000 in
theorem rmerge_any (w:World) (c:Cfg) (a:Acd) (hok:AcdOk w a) (hcl:c.cl≤4194304) (A:Bool) (hA:mergeOk c.cl a=A) :
  Calls Tryz.prog 79 #[c.v,.agg #[.int .i64 a.till,.int .u64 a.num,.int .i64 a.kind,.bool a.sure,.slice a.lines.p a.lines.n a.lines.c,.slice a.guards.p a.guards.n a.guards.c,.slice a.sets.p a.sets.n a.sets.c,.int .i64 a.mg,.slice a.other.p a.other.n a.other.c,.int .i64 a.ra,.int .i64 a.rb,.int .i64 a.rd,.int .i64 a.to,.int .u64 a.gen,.slice a.rights.p a.rights.n a.rights.c]] w fun e w'=>e=.returned (.bool A)∧Below w.heap.size w w':=by
 unfold Cfg.v
 obtain⟨w2,hw2,hb2,hx2,hy2⟩:=box_two w #[.int .i64 c.tills,.slice c.cp c.cl c.cc,.slice c.pp c.pl c.pc,.int .i64 c.lease,.int .i64 c.watch,.int .i64 c.beat,.int .i64 c.window,.int .i64 c.cap,.int .i64 c.flight] 37 56 #[.int .i64 a.till,.int .u64 a.num,.int .i64 a.kind,.bool a.sure,.slice a.lines.p a.lines.n a.lines.c,.slice a.guards.p a.guards.n a.guards.c,.slice a.sets.p a.sets.n a.sets.c,.int .i64 a.mg,.slice a.other.p a.other.n a.other.c,.int .i64 a.ra,.int .i64 a.rb,.int .i64 a.rd,.int .i64 a.to,.int .u64 a.gen,.slice a.rights.p a.rights.n a.rights.c]
 have HW2:=hide hw2
 have HB2:=hide hb2
 have HY2:=hide hy2
 obtain⟨c0,c1,c2,c3,c4,c5,c6,c7,c8⟩:=ac9 hx2
 obtain⟨-,-,-,a3,-,a5,a6,a7,a8,-,-,-,-,-,-⟩:=ac15 hy2
 have HLo:=hide (fun (W:World) (hb:Below w2.heap.size w2 W)=>rlines_any W c a.other.p a.other.n a.other.c a.other.xs hok.other.len hcl ((hok.other.cel.below hb2).below hb))
 unfold Cfg.v at HLo
 have HOn:=hide hok.other.len
 have HGn:=hide hok.guards.len
 have HSn:=hide hok.sets.len
 have HR2:Hid (Below w2.heap.size w2 w2):=Below.refl _ _
 have HA:=hide hA
 obtain⟨lo,hlo⟩:∃lo,linesOk c.cl a.other.xs=lo:=⟨_,rfl⟩
 rw[hlo]at HLo
 have HM:Hid (A=((if a.mg=0∨a.mg=1∨a.mg=3 then decide (a.other.n=0) else if a.mg=2 then !decide (a.other.n=0) && lo else false) && (!a.sure || (decide (a.mg=0) && decide (a.guards.n=0) && decide (a.sets.n=0))))):=by
  show _=_
  rw[←hA,←hlo,←HOn.out,←HGn.out,←HSn.out]
  rfl
 obtain⟨on,hon⟩:∃on,a.other.n=on:=⟨_,rfl⟩
 obtain⟨gn,hgn⟩:∃gn,a.guards.n=gn:=⟨_,rfl⟩
 obtain⟨sn,hsn⟩:∃sn,a.sets.n=sn:=⟨_,rfl⟩
 obtain⟨mg,hmg⟩:∃mg,a.mg=mg:=⟨_,rfl⟩
 obtain⟨su,hsu⟩:∃su,a.sure=su:=⟨_,rfl⟩
 rw[hon]at HY2 HM a8 HLo HW2 ⊢
 rw[hgn]at HY2 HM a5 HW2 ⊢
 rw[hsn]at HY2 HM a6 HW2 ⊢
 rw[hmg]at HY2 HM a7 HW2 ⊢
 rw[hsu]at HY2 HM a3 HW2 ⊢
 clear hw2 hb2 hx2 hy2 hok hon hgn hsn hmg hsu hlo hA HOn HGn HSn HA
 by_cases m0:mg=0
 ·subst m0
  by_cases o0:on=0
  ·subst o0
   cases su with
   | false =>
    have hA:A=true:=by rw[HM.out];simp
    rw[hA]
    clear HM hA
    go_enter Tryz.func79,Tryz.ntmps79
    go_upto_region 1 with (fail)
    rw[HW2.out]
    go_wp2_with (first | (go_at_call 76;refine(HLo.out w2 HR2.out).mono ?_;rintro e w3 ⟨rfl,hb⟩;have HB3:=hide hb;obtain⟨-,-,-,a3,-,a5,a6,a7,a8,-,-,-,-,-,-⟩:=ac15 ((hb.block _ (ac_lt HY2.out)).trans HY2.out);clear hb) | fail)
    go_ret
    first | exact⟨rfl,HB2.out⟩ | exact⟨rfl,HB2.out.trans (HB3.out.mono HB2.out.size)⟩
   | true =>
    by_cases g0:gn=0
    ·subst g0
     have hA:A=decide (sn=0):=by rw[HM.out];simp
     by_cases s0:sn=0
     ·subst s0
      rw[decide_eq_true rfl]at hA
      rw[hA]
      clear HM hA
      go_enter Tryz.func79,Tryz.ntmps79
      go_upto_region 1 with (fail)
      rw[HW2.out]
      go_wp2_with (first | (go_at_call 76;refine(HLo.out w2 HR2.out).mono ?_;rintro e w3 ⟨rfl,hb⟩;have HB3:=hide hb;obtain⟨-,-,-,a3,-,a5,a6,a7,a8,-,-,-,-,-,-⟩:=ac15 ((hb.block _ (ac_lt HY2.out)).trans HY2.out);clear hb) | fail)
      go_ret
      first | exact⟨rfl,HB2.out⟩ | exact⟨rfl,HB2.out.trans (HB3.out.mono HB2.out.size)⟩
     ·rw[decide_eq_false s0]at hA
      have s0':((sn:Int) == 0)=false:=by simp;omega
      have s0'':¬(sn:Int)=0:=by omega
      rw[hA]
      clear HM hA
      go_enter Tryz.func79,Tryz.ntmps79
      go_upto_region 1 with (fail)
      rw[HW2.out]
      go_wp2_with (first | (go_at_call 76;refine(HLo.out w2 HR2.out).mono ?_;rintro e w3 ⟨rfl,hb⟩;have HB3:=hide hb;obtain⟨-,-,-,a3,-,a5,a6,a7,a8,-,-,-,-,-,-⟩:=ac15 ((hb.block _ (ac_lt HY2.out)).trans HY2.out);clear hb) | fail)
      go_ret
      first | exact⟨rfl,HB2.out⟩ | exact⟨rfl,HB2.out.trans (HB3.out.mono HB2.out.size)⟩
    ·have hA:A=false:=by rw[HM.out];simp[g0]
     have g0':((gn:Int) == 0)=false:=by simp;omega
     have g0'':¬(gn:Int)=0:=by omega
     rw[hA]
     clear HM hA
     go_enter Tryz.func79,Tryz.ntmps79
     go_upto_region 1 with (fail)
     rw[HW2.out]
     go_wp2_with (first | (go_at_call 76;refine(HLo.out w2 HR2.out).mono ?_;rintro e w3 ⟨rfl,hb⟩;have HB3:=hide hb;obtain⟨-,-,-,a3,-,a5,a6,a7,a8,-,-,-,-,-,-⟩:=ac15 ((hb.block _ (ac_lt HY2.out)).trans HY2.out);clear hb) | fail)
     go_ret
     first | exact⟨rfl,HB2.out⟩ | exact⟨rfl,HB2.out.trans (HB3.out.mono HB2.out.size)⟩
  ·have hA:A=false:=by rw[HM.out];simp[o0]
   have o0':(0:Int)<(on:Int):=by omega
   rw[hA]
   clear HM hA
   go_enter Tryz.func79,Tryz.ntmps79
   go_upto_region 1 with (fail)
   rw[HW2.out]
   go_wp2_with (first | (go_at_call 76;refine(HLo.out w2 HR2.out).mono ?_;rintro e w3 ⟨rfl,hb⟩;have HB3:=hide hb;obtain⟨-,-,-,a3,-,a5,a6,a7,a8,-,-,-,-,-,-⟩:=ac15 ((hb.block _ (ac_lt HY2.out)).trans HY2.out);clear hb) | fail)
   go_ret
   first | exact⟨rfl,HB2.out⟩ | exact⟨rfl,HB2.out.trans (HB3.out.mono HB2.out.size)⟩
 ·have m0':((mg:Int) == 0)=false:=by simp[m0]
  by_cases m1:mg=1
  ·subst m1
   by_cases o0:on=0
   ·subst o0
    have hA:A = !su:=by rw[HM.out];simp
    cases su with
    | false =>
     rw[hA]
     clear HM hA
     go_enter Tryz.func79,Tryz.ntmps79
     go_upto_region 1 with (fail)
     rw[HW2.out]
     go_wp2_with (first | (go_at_call 76;refine(HLo.out w2 HR2.out).mono ?_;rintro e w3 ⟨rfl,hb⟩;have HB3:=hide hb;obtain⟨-,-,-,a3,-,a5,a6,a7,a8,-,-,-,-,-,-⟩:=ac15 ((hb.block _ (ac_lt HY2.out)).trans HY2.out);clear hb) | fail)
     go_ret
     first | exact⟨rfl,HB2.out⟩ | exact⟨rfl,HB2.out.trans (HB3.out.mono HB2.out.size)⟩
    | true =>
     rw[hA]
     clear HM hA
     go_enter Tryz.func79,Tryz.ntmps79
     go_upto_region 1 with (fail)
     rw[HW2.out]
     go_wp2_with (first | (go_at_call 76;refine(HLo.out w2 HR2.out).mono ?_;rintro e w3 ⟨rfl,hb⟩;have HB3:=hide hb;obtain⟨-,-,-,a3,-,a5,a6,a7,a8,-,-,-,-,-,-⟩:=ac15 ((hb.block _ (ac_lt HY2.out)).trans HY2.out);clear hb) | fail)
     go_ret
     first | exact⟨rfl,HB2.out⟩ | exact⟨rfl,HB2.out.trans (HB3.out.mono HB2.out.size)⟩
   ·have hA:A=false:=by rw[HM.out];simp[o0]
    have o0':(0:Int)<(on:Int):=by omega
    rw[hA]
    clear HM hA
    go_enter Tryz.func79,Tryz.ntmps79
    go_upto_region 1 with (fail)
    rw[HW2.out]
    go_wp2_with (first | (go_at_call 76;refine(HLo.out w2 HR2.out).mono ?_;rintro e w3 ⟨rfl,hb⟩;have HB3:=hide hb;obtain⟨-,-,-,a3,-,a5,a6,a7,a8,-,-,-,-,-,-⟩:=ac15 ((hb.block _ (ac_lt HY2.out)).trans HY2.out);clear hb) | fail)
    go_ret
    first | exact⟨rfl,HB2.out⟩ | exact⟨rfl,HB2.out.trans (HB3.out.mono HB2.out.size)⟩
  ·have m1':((mg:Int) == 1)=false:=by simp[m1]
   by_cases m3:mg=3
   ·subst m3
    by_cases o0:on=0
    ·subst o0
     have hA:A = !su:=by rw[HM.out];simp
     cases su with
     | false =>
      rw[hA]
      clear HM hA
      go_enter Tryz.func79,Tryz.ntmps79
      go_upto_region 1 with (fail)
      rw[HW2.out]
      go_wp2_with (first | (go_at_call 76;refine(HLo.out w2 HR2.out).mono ?_;rintro e w3 ⟨rfl,hb⟩;have HB3:=hide hb;obtain⟨-,-,-,a3,-,a5,a6,a7,a8,-,-,-,-,-,-⟩:=ac15 ((hb.block _ (ac_lt HY2.out)).trans HY2.out);clear hb) | fail)
      go_ret
      first | exact⟨rfl,HB2.out⟩ | exact⟨rfl,HB2.out.trans (HB3.out.mono HB2.out.size)⟩
     | true =>
      rw[hA]
      clear HM hA
      go_enter Tryz.func79,Tryz.ntmps79
      go_upto_region 1 with (fail)
      rw[HW2.out]
      go_wp2_with (first | (go_at_call 76;refine(HLo.out w2 HR2.out).mono ?_;rintro e w3 ⟨rfl,hb⟩;have HB3:=hide hb;obtain⟨-,-,-,a3,-,a5,a6,a7,a8,-,-,-,-,-,-⟩:=ac15 ((hb.block _ (ac_lt HY2.out)).trans HY2.out);clear hb) | fail)
      go_ret
      first | exact⟨rfl,HB2.out⟩ | exact⟨rfl,HB2.out.trans (HB3.out.mono HB2.out.size)⟩
    ·have hA:A=false:=by rw[HM.out];simp[o0]
     have o0':(0:Int)<(on:Int):=by omega
     rw[hA]
     clear HM hA
     go_enter Tryz.func79,Tryz.ntmps79
     go_upto_region 1 with (fail)
     rw[HW2.out]
     go_wp2_with (first | (go_at_call 76;refine(HLo.out w2 HR2.out).mono ?_;rintro e w3 ⟨rfl,hb⟩;have HB3:=hide hb;obtain⟨-,-,-,a3,-,a5,a6,a7,a8,-,-,-,-,-,-⟩:=ac15 ((hb.block _ (ac_lt HY2.out)).trans HY2.out);clear hb) | fail)
     go_ret
     first | exact⟨rfl,HB2.out⟩ | exact⟨rfl,HB2.out.trans (HB3.out.mono HB2.out.size)⟩
   ·have m3':((mg:Int) == 3)=false:=by simp[m3]
    by_cases m2:mg=2
    ·subst m2
     by_cases o0:on=0
     ·subst o0
      have hA:A=false:=by rw[HM.out];simp
      rw[hA]
      clear HM hA
      go_enter Tryz.func79,Tryz.ntmps79
      go_upto_region 1 with (fail)
      rw[HW2.out]
      go_wp2_with (first | (go_at_call 76;refine(HLo.out w2 HR2.out).mono ?_;rintro e w3 ⟨rfl,hb⟩;have HB3:=hide hb;obtain⟨-,-,-,a3,-,a5,a6,a7,a8,-,-,-,-,-,-⟩:=ac15 ((hb.block _ (ac_lt HY2.out)).trans HY2.out);clear hb) | fail)
      go_ret
      first | exact⟨rfl,HB2.out⟩ | exact⟨rfl,HB2.out.trans (HB3.out.mono HB2.out.size)⟩
     ·have o0':((on:Int) == 0)=false:=by simp;omega
      have o0'':¬(on:Int)=0:=by omega
      have hA:A=(lo && !su):=by rw[HM.out];simp[o0]
      cases lo with
      | false =>
       rw[hA]
       clear HM hA
       go_enter Tryz.func79,Tryz.ntmps79
       go_upto_region 1 with (fail)
       rw[HW2.out]
       go_wp2_with (first | (go_at_call 76;refine(HLo.out w2 HR2.out).mono ?_;rintro e w3 ⟨rfl,hb⟩;have HB3:=hide hb;obtain⟨-,-,-,a3,-,a5,a6,a7,a8,-,-,-,-,-,-⟩:=ac15 ((hb.block _ (ac_lt HY2.out)).trans HY2.out);clear hb) | fail)
       go_ret
       first | exact⟨rfl,HB2.out⟩ | exact⟨rfl,HB2.out.trans (HB3.out.mono HB2.out.size)⟩
      | true =>
       cases su with
       | false =>
        rw[hA]
        clear HM hA
        go_enter Tryz.func79,Tryz.ntmps79
        go_upto_region 1 with (fail)
        rw[HW2.out]
        go_wp2_with (first | (go_at_call 76;refine(HLo.out w2 HR2.out).mono ?_;rintro e w3 ⟨rfl,hb⟩;have HB3:=hide hb;obtain⟨-,-,-,a3,-,a5,a6,a7,a8,-,-,-,-,-,-⟩:=ac15 ((hb.block _ (ac_lt HY2.out)).trans HY2.out);clear hb) | fail)
        go_ret
        first | exact⟨rfl,HB2.out⟩ | exact⟨rfl,HB2.out.trans (HB3.out.mono HB2.out.size)⟩
       | true =>
        rw[hA]
        clear HM hA
        go_enter Tryz.func79,Tryz.ntmps79
        go_upto_region 1 with (fail)
        rw[HW2.out]
        go_wp2_with (first | (go_at_call 76;refine(HLo.out w2 HR2.out).mono ?_;rintro e w3 ⟨rfl,hb⟩;have HB3:=hide hb;obtain⟨-,-,-,a3,-,a5,a6,a7,a8,-,-,-,-,-,-⟩:=ac15 ((hb.block _ (ac_lt HY2.out)).trans HY2.out);clear hb) | fail)
        go_ret
        first | exact⟨rfl,HB2.out⟩ | exact⟨rfl,HB2.out.trans (HB3.out.mono HB2.out.size)⟩
    ·have m2':((mg:Int) == 2)=false:=by simp[m2]
     have hA:A=false:=by rw[HM.out];simp[m0,m1,m2,m3]
     rw[hA]
     clear HM hA
     go_enter Tryz.func79,Tryz.ntmps79
     go_upto_region 1 with (fail)
     rw[HW2.out]
     go_wp2_with (first | (go_at_call 76;refine(HLo.out w2 HR2.out).mono ?_;rintro e w3 ⟨rfl,hb⟩;have HB3:=hide hb;obtain⟨-,-,-,a3,-,a5,a6,a7,a8,-,-,-,-,-,-⟩:=ac15 ((hb.block _ (ac_lt HY2.out)).trans HY2.out);clear hb) | fail)
     go_ret
     first | exact⟨rfl,HB2.out⟩ | exact⟨rfl,HB2.out.trans (HB3.out.mono HB2.out.size)⟩
set_option maxHeartbeats 4000000 in
theorem rwrite_any (w:World) (c:Cfg) (a:Acd) (hok:AcdOk w a) (hcl:c.cl≤4194304) (hpl:c.pl≤4194304) :
  Calls Tryz.prog 52 #[c.v,.agg #[.int .i64 a.till,.int .u64 a.num,.int .i64 a.kind,.bool a.sure,.slice a.lines.p a.lines.n a.lines.c,.slice a.guards.p a.guards.n a.guards.c,.slice a.sets.p a.sets.n a.sets.c,.int .i64 a.mg,.slice a.other.p a.other.n a.other.c,.int .i64 a.ra,.int .i64 a.rb,.int .i64 a.rd,.int .i64 a.to,.int .u64 a.gen,.slice a.rights.p a.rights.n a.rights.c]] w fun e w'=>e=.returned (.int .i64 (writeChk c.cl c.pl a))∧Below w.heap.size w w':=by
 obtain⟨w2,hw2,hb2,hx2,hy2⟩:=box_two w #[.int .i64 c.tills,.slice c.cp c.cl c.cc,.slice c.pp c.pl c.pc,.int .i64 c.lease,.int .i64 c.watch,.int .i64 c.beat,.int .i64 c.window,.int .i64 c.cap,.int .i64 c.flight] 37 56 #[.int .i64 a.till,.int .u64 a.num,.int .i64 a.kind,.bool a.sure,.slice a.lines.p a.lines.n a.lines.c,.slice a.guards.p a.guards.n a.guards.c,.slice a.sets.p a.sets.n a.sets.c,.int .i64 a.mg,.slice a.other.p a.other.n a.other.c,.int .i64 a.ra,.int .i64 a.rb,.int .i64 a.rd,.int .i64 a.to,.int .u64 a.gen,.slice a.rights.p a.rights.n a.rights.c]
 have HW2:=hide hw2
 have HB2:=hide hb2
 have HX2:=hide hx2
 have HY2:=hide hy2
 have HLi:=hide (fun (W:World) (hb:Below w2.heap.size w2 W)=>rlines_any W c a.lines.p a.lines.n a.lines.c a.lines.xs hok.lines.len hcl ((hok.lines.cel.below hb2).below hb))
 have HGu:=hide (fun (W:World) (hb:Below w2.heap.size w2 W)=>rguards_any W c a.guards.p a.guards.n a.guards.c a.guards.xs hok.guards.len hcl hpl ((hok.guards.cel.below hb2).below hb))
 have HSe:=hide (fun (W:World) (hb:Below w2.heap.size w2 W) (hi:Int)=>rsettings_any W c a.sets.p a.sets.n a.sets.c a.sets.xs (-1) hi hok.sets.len hpl ((hok.sets.cel.below hb2).below hb))
 have HMe:=hide (fun (W:World) (hb:Below w2.heap.size w2 W)=>rmerge_any W c a ((hok.below hb2).below hb) hcl _ rfl)
 unfold Cfg.v at HLi HGu HSe HMe ⊢
 obtain⟨li,hli⟩:∃b,linesOk c.cl a.lines.xs=b:=⟨_,rfl⟩
 obtain⟨gu,hgu⟩:∃b,guardsOk c.cl c.pl a.guards.xs=b:=⟨_,rfl⟩
 obtain⟨me,hme⟩:∃b,mergeOk c.cl a=b:=⟨_,rfl⟩
 have hln:a.lines.n≤4194304:=hok.lines.most
 have hsn:a.sets.n≤4194304:=hok.sets.most
 have HV:Hid (writeChk c.cl c.pl a=if (!li || decide (a.lines.n+a.sets.n=0))=true then 83 else if (!gu)=true then 84 else if (!setsOk c.pl (-1) (if a.mg=1 then 1099511627776 else -1) a.sets.xs)=true then 85 else if (!me)=true then 86 else 0):=by
  show _=_
  rw[←hli,←hgu,←hme,←hok.lines.len,←hok.sets.len]
  rfl
 rw[hli]at HLi
 rw[hgu]at HGu
 rw[hme]at HMe
 obtain⟨V,hV⟩:∃V,writeChk c.cl c.pl a=V:=⟨_,rfl⟩
 rw[hV]at HV ⊢
 have HZ:Hid (∀W,Below w2.heap.size w2 W→(W.cell? ⟨w.heap.size,0,none⟩=some (.int .i64 c.tills)∧W.cell? ⟨w.heap.size,1,none⟩=some (.slice c.cp c.cl c.cc)∧W.cell? ⟨w.heap.size,2,none⟩=some (.slice c.pp c.pl c.pc)∧W.cell? ⟨w.heap.size,3,none⟩=some (.int .i64 c.lease)∧W.cell? ⟨w.heap.size,4,none⟩=some (.int .i64 c.watch)∧W.cell? ⟨w.heap.size,5,none⟩=some (.int .i64 c.beat)∧W.cell? ⟨w.heap.size,6,none⟩=some (.int .i64 c.window)∧W.cell? ⟨w.heap.size,7,none⟩=some (.int .i64 c.cap)∧W.cell? ⟨w.heap.size,8,none⟩=some (.int .i64 c.flight))∧(W.cell? ⟨w.heap.size+1,0,none⟩=some (.int .i64 a.till)∧W.cell? ⟨w.heap.size+1,1,none⟩=some (.int .u64 a.num)∧W.cell? ⟨w.heap.size+1,2,none⟩=some (.int .i64 a.kind)∧W.cell? ⟨w.heap.size+1,3,none⟩=some (.bool a.sure)∧W.cell? ⟨w.heap.size+1,4,none⟩=some (.slice a.lines.p a.lines.n a.lines.c)∧W.cell? ⟨w.heap.size+1,5,none⟩=some (.slice a.guards.p a.guards.n a.guards.c)∧W.cell? ⟨w.heap.size+1,6,none⟩=some (.slice a.sets.p a.sets.n a.sets.c)∧W.cell? ⟨w.heap.size+1,7,none⟩=some (.int .i64 a.mg)∧W.cell? ⟨w.heap.size+1,8,none⟩=some (.slice a.other.p a.other.n a.other.c)∧W.cell? ⟨w.heap.size+1,9,none⟩=some (.int .i64 a.ra)∧W.cell? ⟨w.heap.size+1,10,none⟩=some (.int .i64 a.rb)∧W.cell? ⟨w.heap.size+1,11,none⟩=some (.int .i64 a.rd)∧W.cell? ⟨w.heap.size+1,12,none⟩=some (.int .i64 a.to)∧W.cell? ⟨w.heap.size+1,13,none⟩=some (.int .u64 a.gen)∧W.cell? ⟨w.heap.size+1,14,none⟩=some (.slice a.rights.p a.rights.n a.rights.c))):=fun W hb=>⟨ac9 ((hb.block _ (ac_lt HX2.out)).trans HX2.out),ac15 ((hb.block _ (ac_lt HY2.out)).trans HY2.out)⟩
 have HR2:Hid (Below w2.heap.size w2 w2):=Below.refl _ _
 clear hw2 hb2 hx2 hy2 hok hli hgu hme hV
 obtain⟨⟨c0,c1,c2,c3,c4,c5,c6,c7,c8⟩,⟨a0,a1,a2,a3,a4,a5,a6,a7,a8,a9,a10,a11,a12,a13,a14⟩⟩:=HZ.out w2 HR2.out
 by_cases hmg:a.mg=1
 ·rw[if_pos hmg]at HV
  obtain⟨se,hse⟩:∃b,setsOk c.pl (-1) 1099511627776 a.sets.xs=b:=⟨_,rfl⟩
  have HS1:=hide (fun W hb=>HSe.out W hb 1099511627776)
  rw[hse]at HV HS1
  have hmg':((a.mg:Int) == 1)=true:=by simp[hmg]
  clear HSe hse hmg
  obtain⟨v0,hv0⟩:∃v0,v0=w2:=⟨_,rfl⟩
  rw[←hv0]at c0 c1 c2 c3 c4 c5 c6 c7 c8 a0 a1 a2 a3 a4 a5 a6 a7 a8 a9 a10 a11 a12 a13 a14
  have HBv0:Hid (Below w2.heap.size w2 v0):=by rw[hv0];exact HR2
  cases li with
  | false =>
   have hVv:V=83:=by rw[HV.out];simp
   go_enter Tryz.func52,Tryz.ntmps52
   go_upto_region 1 with (fail)
   rw[HW2.out,←hv0]
   clear hv0
   go_wp2_with (first | (go_at_call 79;refine(HMe.out v3 HBv3.out).mono ?_;rintro e v4 ⟨rfl,hb⟩;have HBv4:Hid (Below w2.heap.size w2 v4):=HBv3.out.trans (hb.mono HBv3.out.size);clear hb;clear c0 c1 c2 c3 c4 c5 c6 c7 c8 a0 a1 a2 a3 a4 a5 a6 a7 a8 a9 a10 a11 a12 a13 a14;obtain⟨⟨c0,c1,c2,c3,c4,c5,c6,c7,c8⟩,⟨a0,a1,a2,a3,a4,a5,a6,a7,a8,a9,a10,a11,a12,a13,a14⟩⟩:=HZ.out v4 HBv4.out) | (go_at_call 78;refine(HS1.out v2 HBv2.out).mono ?_;rintro e v3 ⟨rfl,hb⟩;have HBv3:Hid (Below w2.heap.size w2 v3):=HBv2.out.trans (hb.mono HBv2.out.size);clear hb;clear c0 c1 c2 c3 c4 c5 c6 c7 c8 a0 a1 a2 a3 a4 a5 a6 a7 a8 a9 a10 a11 a12 a13 a14;obtain⟨⟨c0,c1,c2,c3,c4,c5,c6,c7,c8⟩,⟨a0,a1,a2,a3,a4,a5,a6,a7,a8,a9,a10,a11,a12,a13,a14⟩⟩:=HZ.out v3 HBv3.out) | (go_at_call 77;refine(HGu.out v1 HBv1.out).mono ?_;rintro e v2 ⟨rfl,hb⟩;have HBv2:Hid (Below w2.heap.size w2 v2):=HBv1.out.trans (hb.mono HBv1.out.size);clear hb;clear c0 c1 c2 c3 c4 c5 c6 c7 c8 a0 a1 a2 a3 a4 a5 a6 a7 a8 a9 a10 a11 a12 a13 a14;obtain⟨⟨c0,c1,c2,c3,c4,c5,c6,c7,c8⟩,⟨a0,a1,a2,a3,a4,a5,a6,a7,a8,a9,a10,a11,a12,a13,a14⟩⟩:=HZ.out v2 HBv2.out) | (go_at_call 76;refine(HLi.out v0 HBv0.out).mono ?_;rintro e v1 ⟨rfl,hb⟩;have HBv1:Hid (Below w2.heap.size w2 v1):=HBv0.out.trans (hb.mono HBv0.out.size);clear hb;clear c0 c1 c2 c3 c4 c5 c6 c7 c8 a0 a1 a2 a3 a4 a5 a6 a7 a8 a9 a10 a11 a12 a13 a14;obtain⟨⟨c0,c1,c2,c3,c4,c5,c6,c7,c8⟩,⟨a0,a1,a2,a3,a4,a5,a6,a7,a8,a9,a10,a11,a12,a13,a14⟩⟩:=HZ.out v1 HBv1.out) | fail)
   go_ret
   rw[hVv]
   exact⟨rfl,HB2.out.trans (HBv1.out.mono HB2.out.size)⟩
  | true =>
   by_cases z0:a.lines.n+a.sets.n=0
   ·have hVv:V=83:=by rw[HV.out];simp[z0]
    have z1:((a.lines.n:Int)+(a.sets.n:Int) == 0)=true:=by simp;omega
    have z2:(a.lines.n:Int)+(a.sets.n:Int)=0:=by omega
    clear z0
    go_enter Tryz.func52,Tryz.ntmps52
    go_upto_region 1 with (fail)
    rw[HW2.out,←hv0]
    clear hv0
    go_wp2_with (first | (go_at_call 79;refine(HMe.out v3 HBv3.out).mono ?_;rintro e v4 ⟨rfl,hb⟩;have HBv4:Hid (Below w2.heap.size w2 v4):=HBv3.out.trans (hb.mono HBv3.out.size);clear hb;clear c0 c1 c2 c3 c4 c5 c6 c7 c8 a0 a1 a2 a3 a4 a5 a6 a7 a8 a9 a10 a11 a12 a13 a14;obtain⟨⟨c0,c1,c2,c3,c4,c5,c6,c7,c8⟩,⟨a0,a1,a2,a3,a4,a5,a6,a7,a8,a9,a10,a11,a12,a13,a14⟩⟩:=HZ.out v4 HBv4.out) | (go_at_call 78;refine(HS1.out v2 HBv2.out).mono ?_;rintro e v3 ⟨rfl,hb⟩;have HBv3:Hid (Below w2.heap.size w2 v3):=HBv2.out.trans (hb.mono HBv2.out.size);clear hb;clear c0 c1 c2 c3 c4 c5 c6 c7 c8 a0 a1 a2 a3 a4 a5 a6 a7 a8 a9 a10 a11 a12 a13 a14;obtain⟨⟨c0,c1,c2,c3,c4,c5,c6,c7,c8⟩,⟨a0,a1,a2,a3,a4,a5,a6,a7,a8,a9,a10,a11,a12,a13,a14⟩⟩:=HZ.out v3 HBv3.out) | (go_at_call 77;refine(HGu.out v1 HBv1.out).mono ?_;rintro e v2 ⟨rfl,hb⟩;have HBv2:Hid (Below w2.heap.size w2 v2):=HBv1.out.trans (hb.mono HBv1.out.size);clear hb;clear c0 c1 c2 c3 c4 c5 c6 c7 c8 a0 a1 a2 a3 a4 a5 a6 a7 a8 a9 a10 a11 a12 a13 a14;obtain⟨⟨c0,c1,c2,c3,c4,c5,c6,c7,c8⟩,⟨a0,a1,a2,a3,a4,a5,a6,a7,a8,a9,a10,a11,a12,a13,a14⟩⟩:=HZ.out v2 HBv2.out) | (go_at_call 76;refine(HLi.out v0 HBv0.out).mono ?_;rintro e v1 ⟨rfl,hb⟩;have HBv1:Hid (Below w2.heap.size w2 v1):=HBv0.out.trans (hb.mono HBv0.out.size);clear hb;clear c0 c1 c2 c3 c4 c5 c6 c7 c8 a0 a1 a2 a3 a4 a5 a6 a7 a8 a9 a10 a11 a12 a13 a14;obtain⟨⟨c0,c1,c2,c3,c4,c5,c6,c7,c8⟩,⟨a0,a1,a2,a3,a4,a5,a6,a7,a8,a9,a10,a11,a12,a13,a14⟩⟩:=HZ.out v1 HBv1.out) | fail)
    go_ret
    rw[hVv]
    exact⟨rfl,HB2.out.trans (HBv1.out.mono HB2.out.size)⟩
   ·have z1:((a.lines.n:Int)+(a.sets.n:Int) == 0)=false:=by simp;omega
    have z2:¬(a.lines.n:Int)+(a.sets.n:Int)=0:=by omega
    have HV2:Hid (V=if (!gu)=true then 84 else if (!se)=true then 85 else if (!me)=true then 86 else 0):=by show _=_;rw[HV.out,decide_eq_false z0];rfl
    clear HV z0
    cases gu with
    | false =>
     have hVv:V=84:=HV2.out
     go_enter Tryz.func52,Tryz.ntmps52
     go_upto_region 1 with (fail)
     rw[HW2.out,←hv0]
     clear hv0
     go_wp2_with (first | (go_at_call 79;refine(HMe.out v3 HBv3.out).mono ?_;rintro e v4 ⟨rfl,hb⟩;have HBv4:Hid (Below w2.heap.size w2 v4):=HBv3.out.trans (hb.mono HBv3.out.size);clear hb;clear c0 c1 c2 c3 c4 c5 c6 c7 c8 a0 a1 a2 a3 a4 a5 a6 a7 a8 a9 a10 a11 a12 a13 a14;obtain⟨⟨c0,c1,c2,c3,c4,c5,c6,c7,c8⟩,⟨a0,a1,a2,a3,a4,a5,a6,a7,a8,a9,a10,a11,a12,a13,a14⟩⟩:=HZ.out v4 HBv4.out) | (go_at_call 78;refine(HS1.out v2 HBv2.out).mono ?_;rintro e v3 ⟨rfl,hb⟩;have HBv3:Hid (Below w2.heap.size w2 v3):=HBv2.out.trans (hb.mono HBv2.out.size);clear hb;clear c0 c1 c2 c3 c4 c5 c6 c7 c8 a0 a1 a2 a3 a4 a5 a6 a7 a8 a9 a10 a11 a12 a13 a14;obtain⟨⟨c0,c1,c2,c3,c4,c5,c6,c7,c8⟩,⟨a0,a1,a2,a3,a4,a5,a6,a7,a8,a9,a10,a11,a12,a13,a14⟩⟩:=HZ.out v3 HBv3.out) | (go_at_call 77;refine(HGu.out v1 HBv1.out).mono ?_;rintro e v2 ⟨rfl,hb⟩;have HBv2:Hid (Below w2.heap.size w2 v2):=HBv1.out.trans (hb.mono HBv1.out.size);clear hb;clear c0 c1 c2 c3 c4 c5 c6 c7 c8 a0 a1 a2 a3 a4 a5 a6 a7 a8 a9 a10 a11 a12 a13 a14;obtain⟨⟨c0,c1,c2,c3,c4,c5,c6,c7,c8⟩,⟨a0,a1,a2,a3,a4,a5,a6,a7,a8,a9,a10,a11,a12,a13,a14⟩⟩:=HZ.out v2 HBv2.out) | (go_at_call 76;refine(HLi.out v0 HBv0.out).mono ?_;rintro e v1 ⟨rfl,hb⟩;have HBv1:Hid (Below w2.heap.size w2 v1):=HBv0.out.trans (hb.mono HBv0.out.size);clear hb;clear c0 c1 c2 c3 c4 c5 c6 c7 c8 a0 a1 a2 a3 a4 a5 a6 a7 a8 a9 a10 a11 a12 a13 a14;obtain⟨⟨c0,c1,c2,c3,c4,c5,c6,c7,c8⟩,⟨a0,a1,a2,a3,a4,a5,a6,a7,a8,a9,a10,a11,a12,a13,a14⟩⟩:=HZ.out v1 HBv1.out) | fail)
     go_ret
     rw[hVv]
     exact⟨rfl,HB2.out.trans (HBv2.out.mono HB2.out.size)⟩
    | true =>
     cases se with
     | false =>
      have hVv:V=85:=HV2.out
      go_enter Tryz.func52,Tryz.ntmps52
      go_upto_region 1 with (fail)
      rw[HW2.out,←hv0]
      clear hv0
      go_wp2_with (first | (go_at_call 79;refine(HMe.out v3 HBv3.out).mono ?_;rintro e v4 ⟨rfl,hb⟩;have HBv4:Hid (Below w2.heap.size w2 v4):=HBv3.out.trans (hb.mono HBv3.out.size);clear hb;clear c0 c1 c2 c3 c4 c5 c6 c7 c8 a0 a1 a2 a3 a4 a5 a6 a7 a8 a9 a10 a11 a12 a13 a14;obtain⟨⟨c0,c1,c2,c3,c4,c5,c6,c7,c8⟩,⟨a0,a1,a2,a3,a4,a5,a6,a7,a8,a9,a10,a11,a12,a13,a14⟩⟩:=HZ.out v4 HBv4.out) | (go_at_call 78;refine(HS1.out v2 HBv2.out).mono ?_;rintro e v3 ⟨rfl,hb⟩;have HBv3:Hid (Below w2.heap.size w2 v3):=HBv2.out.trans (hb.mono HBv2.out.size);clear hb;clear c0 c1 c2 c3 c4 c5 c6 c7 c8 a0 a1 a2 a3 a4 a5 a6 a7 a8 a9 a10 a11 a12 a13 a14;obtain⟨⟨c0,c1,c2,c3,c4,c5,c6,c7,c8⟩,⟨a0,a1,a2,a3,a4,a5,a6,a7,a8,a9,a10,a11,a12,a13,a14⟩⟩:=HZ.out v3 HBv3.out) | (go_at_call 77;refine(HGu.out v1 HBv1.out).mono ?_;rintro e v2 ⟨rfl,hb⟩;have HBv2:Hid (Below w2.heap.size w2 v2):=HBv1.out.trans (hb.mono HBv1.out.size);clear hb;clear c0 c1 c2 c3 c4 c5 c6 c7 c8 a0 a1 a2 a3 a4 a5 a6 a7 a8 a9 a10 a11 a12 a13 a14;obtain⟨⟨c0,c1,c2,c3,c4,c5,c6,c7,c8⟩,⟨a0,a1,a2,a3,a4,a5,a6,a7,a8,a9,a10,a11,a12,a13,a14⟩⟩:=HZ.out v2 HBv2.out) | (go_at_call 76;refine(HLi.out v0 HBv0.out).mono ?_;rintro e v1 ⟨rfl,hb⟩;have HBv1:Hid (Below w2.heap.size w2 v1):=HBv0.out.trans (hb.mono HBv0.out.size);clear hb;clear c0 c1 c2 c3 c4 c5 c6 c7 c8 a0 a1 a2 a3 a4 a5 a6 a7 a8 a9 a10 a11 a12 a13 a14;obtain⟨⟨c0,c1,c2,c3,c4,c5,c6,c7,c8⟩,⟨a0,a1,a2,a3,a4,a5,a6,a7,a8,a9,a10,a11,a12,a13,a14⟩⟩:=HZ.out v1 HBv1.out) | fail)
      go_ret
      rw[hVv]
      exact⟨rfl,HB2.out.trans (HBv3.out.mono HB2.out.size)⟩
     | true =>
      cases me with
      | false =>
       have hVv:V=86:=HV2.out
       go_enter Tryz.func52,Tryz.ntmps52
       go_upto_region 1 with (fail)
       rw[HW2.out,←hv0]
       clear hv0
       go_wp2_with (first | (go_at_call 79;refine(HMe.out v3 HBv3.out).mono ?_;rintro e v4 ⟨rfl,hb⟩;have HBv4:Hid (Below w2.heap.size w2 v4):=HBv3.out.trans (hb.mono HBv3.out.size);clear hb;clear c0 c1 c2 c3 c4 c5 c6 c7 c8 a0 a1 a2 a3 a4 a5 a6 a7 a8 a9 a10 a11 a12 a13 a14;obtain⟨⟨c0,c1,c2,c3,c4,c5,c6,c7,c8⟩,⟨a0,a1,a2,a3,a4,a5,a6,a7,a8,a9,a10,a11,a12,a13,a14⟩⟩:=HZ.out v4 HBv4.out) | (go_at_call 78;refine(HS1.out v2 HBv2.out).mono ?_;rintro e v3 ⟨rfl,hb⟩;have HBv3:Hid (Below w2.heap.size w2 v3):=HBv2.out.trans (hb.mono HBv2.out.size);clear hb;clear c0 c1 c2 c3 c4 c5 c6 c7 c8 a0 a1 a2 a3 a4 a5 a6 a7 a8 a9 a10 a11 a12 a13 a14;obtain⟨⟨c0,c1,c2,c3,c4,c5,c6,c7,c8⟩,⟨a0,a1,a2,a3,a4,a5,a6,a7,a8,a9,a10,a11,a12,a13,a14⟩⟩:=HZ.out v3 HBv3.out) | (go_at_call 77;refine(HGu.out v1 HBv1.out).mono ?_;rintro e v2 ⟨rfl,hb⟩;have HBv2:Hid (Below w2.heap.size w2 v2):=HBv1.out.trans (hb.mono HBv1.out.size);clear hb;clear c0 c1 c2 c3 c4 c5 c6 c7 c8 a0 a1 a2 a3 a4 a5 a6 a7 a8 a9 a10 a11 a12 a13 a14;obtain⟨⟨c0,c1,c2,c3,c4,c5,c6,c7,c8⟩,⟨a0,a1,a2,a3,a4,a5,a6,a7,a8,a9,a10,a11,a12,a13,a14⟩⟩:=HZ.out v2 HBv2.out) | (go_at_call 76;refine(HLi.out v0 HBv0.out).mono ?_;rintro e v1 ⟨rfl,hb⟩;have HBv1:Hid (Below w2.heap.size w2 v1):=HBv0.out.trans (hb.mono HBv0.out.size);clear hb;clear c0 c1 c2 c3 c4 c5 c6 c7 c8 a0 a1 a2 a3 a4 a5 a6 a7 a8 a9 a10 a11 a12 a13 a14;obtain⟨⟨c0,c1,c2,c3,c4,c5,c6,c7,c8⟩,⟨a0,a1,a2,a3,a4,a5,a6,a7,a8,a9,a10,a11,a12,a13,a14⟩⟩:=HZ.out v1 HBv1.out) | fail)
       go_ret
       rw[hVv]
       exact⟨rfl,HB2.out.trans (HBv4.out.mono HB2.out.size)⟩
      | true =>
       have hVv:V=0:=HV2.out
       go_enter Tryz.func52,Tryz.ntmps52
       go_upto_region 1 with (fail)
       rw[HW2.out,←hv0]
       clear hv0
       go_wp2_with (first | (go_at_call 79;refine(HMe.out v3 HBv3.out).mono ?_;rintro e v4 ⟨rfl,hb⟩;have HBv4:Hid (Below w2.heap.size w2 v4):=HBv3.out.trans (hb.mono HBv3.out.size);clear hb;clear c0 c1 c2 c3 c4 c5 c6 c7 c8 a0 a1 a2 a3 a4 a5 a6 a7 a8 a9 a10 a11 a12 a13 a14;obtain⟨⟨c0,c1,c2,c3,c4,c5,c6,c7,c8⟩,⟨a0,a1,a2,a3,a4,a5,a6,a7,a8,a9,a10,a11,a12,a13,a14⟩⟩:=HZ.out v4 HBv4.out) | (go_at_call 78;refine(HS1.out v2 HBv2.out).mono ?_;rintro e v3 ⟨rfl,hb⟩;have HBv3:Hid (Below w2.heap.size w2 v3):=HBv2.out.trans (hb.mono HBv2.out.size);clear hb;clear c0 c1 c2 c3 c4 c5 c6 c7 c8 a0 a1 a2 a3 a4 a5 a6 a7 a8 a9 a10 a11 a12 a13 a14;obtain⟨⟨c0,c1,c2,c3,c4,c5,c6,c7,c8⟩,⟨a0,a1,a2,a3,a4,a5,a6,a7,a8,a9,a10,a11,a12,a13,a14⟩⟩:=HZ.out v3 HBv3.out) | (go_at_call 77;refine(HGu.out v1 HBv1.out).mono ?_;rintro e v2 ⟨rfl,hb⟩;have HBv2:Hid (Below w2.heap.size w2 v2):=HBv1.out.trans (hb.mono HBv1.out.size);clear hb;clear c0 c1 c2 c3 c4 c5 c6 c7 c8 a0 a1 a2 a3 a4 a5 a6 a7 a8 a9 a10 a11 a12 a13 a14;obtain⟨⟨c0,c1,c2,c3,c4,c5,c6,c7,c8⟩,⟨a0,a1,a2,a3,a4,a5,a6,a7,a8,a9,a10,a11,a12,a13,a14⟩⟩:=HZ.out v2 HBv2.out) | (go_at_call 76;refine(HLi.out v0 HBv0.out).mono ?_;rintro e v1 ⟨rfl,hb⟩;have HBv1:Hid (Below w2.heap.size w2 v1):=HBv0.out.trans (hb.mono HBv0.out.size);clear hb;clear c0 c1 c2 c3 c4 c5 c6 c7 c8 a0 a1 a2 a3 a4 a5 a6 a7 a8 a9 a10 a11 a12 a13 a14;obtain⟨⟨c0,c1,c2,c3,c4,c5,c6,c7,c8⟩,⟨a0,a1,a2,a3,a4,a5,a6,a7,a8,a9,a10,a11,a12,a13,a14⟩⟩:=HZ.out v1 HBv1.out) | fail)
       go_ret
       rw[hVv]
       exact⟨rfl,HB2.out.trans (HBv4.out.mono HB2.out.size)⟩
 ·rw[if_neg hmg]at HV
  obtain⟨se,hse⟩:∃b,setsOk c.pl (-1) (-1) a.sets.xs=b:=⟨_,rfl⟩
  have HS1:=hide (fun W hb=>HSe.out W hb (-1))
  rw[hse]at HV HS1
  have hmg':((a.mg:Int) == 1)=false:=by simp[hmg]
  clear HSe hse
  obtain⟨v0,hv0⟩:∃v0,v0=w2:=⟨_,rfl⟩
  rw[←hv0]at c0 c1 c2 c3 c4 c5 c6 c7 c8 a0 a1 a2 a3 a4 a5 a6 a7 a8 a9 a10 a11 a12 a13 a14
  have HBv0:Hid (Below w2.heap.size w2 v0):=by rw[hv0];exact HR2
  cases li with
  | false =>
   have hVv:V=83:=by rw[HV.out];simp
   go_enter Tryz.func52,Tryz.ntmps52
   go_upto_region 1 with (fail)
   rw[HW2.out,←hv0]
   clear hv0
   go_wp2_with (first | (go_at_call 79;refine(HMe.out v3 HBv3.out).mono ?_;rintro e v4 ⟨rfl,hb⟩;have HBv4:Hid (Below w2.heap.size w2 v4):=HBv3.out.trans (hb.mono HBv3.out.size);clear hb;clear c0 c1 c2 c3 c4 c5 c6 c7 c8 a0 a1 a2 a3 a4 a5 a6 a7 a8 a9 a10 a11 a12 a13 a14;obtain⟨⟨c0,c1,c2,c3,c4,c5,c6,c7,c8⟩,⟨a0,a1,a2,a3,a4,a5,a6,a7,a8,a9,a10,a11,a12,a13,a14⟩⟩:=HZ.out v4 HBv4.out) | (go_at_call 78;refine(HS1.out v2 HBv2.out).mono ?_;rintro e v3 ⟨rfl,hb⟩;have HBv3:Hid (Below w2.heap.size w2 v3):=HBv2.out.trans (hb.mono HBv2.out.size);clear hb;clear c0 c1 c2 c3 c4 c5 c6 c7 c8 a0 a1 a2 a3 a4 a5 a6 a7 a8 a9 a10 a11 a12 a13 a14;obtain⟨⟨c0,c1,c2,c3,c4,c5,c6,c7,c8⟩,⟨a0,a1,a2,a3,a4,a5,a6,a7,a8,a9,a10,a11,a12,a13,a14⟩⟩:=HZ.out v3 HBv3.out) | (go_at_call 77;refine(HGu.out v1 HBv1.out).mono ?_;rintro e v2 ⟨rfl,hb⟩;have HBv2:Hid (Below w2.heap.size w2 v2):=HBv1.out.trans (hb.mono HBv1.out.size);clear hb;clear c0 c1 c2 c3 c4 c5 c6 c7 c8 a0 a1 a2 a3 a4 a5 a6 a7 a8 a9 a10 a11 a12 a13 a14;obtain⟨⟨c0,c1,c2,c3,c4,c5,c6,c7,c8⟩,⟨a0,a1,a2,a3,a4,a5,a6,a7,a8,a9,a10,a11,a12,a13,a14⟩⟩:=HZ.out v2 HBv2.out) | (go_at_call 76;refine(HLi.out v0 HBv0.out).mono ?_;rintro e v1 ⟨rfl,hb⟩;have HBv1:Hid (Below w2.heap.size w2 v1):=HBv0.out.trans (hb.mono HBv0.out.size);clear hb;clear c0 c1 c2 c3 c4 c5 c6 c7 c8 a0 a1 a2 a3 a4 a5 a6 a7 a8 a9 a10 a11 a12 a13 a14;obtain⟨⟨c0,c1,c2,c3,c4,c5,c6,c7,c8⟩,⟨a0,a1,a2,a3,a4,a5,a6,a7,a8,a9,a10,a11,a12,a13,a14⟩⟩:=HZ.out v1 HBv1.out) | fail)
   go_ret
   rw[hVv]
   exact⟨rfl,HB2.out.trans (HBv1.out.mono HB2.out.size)⟩
  | true =>
   by_cases z0:a.lines.n+a.sets.n=0
   ·have hVv:V=83:=by rw[HV.out];simp[z0]
    have z1:((a.lines.n:Int)+(a.sets.n:Int) == 0)=true:=by simp;omega
    have z2:(a.lines.n:Int)+(a.sets.n:Int)=0:=by omega
    clear z0
    go_enter Tryz.func52,Tryz.ntmps52
    go_upto_region 1 with (fail)
    rw[HW2.out,←hv0]
    clear hv0
    go_wp2_with (first | (go_at_call 79;refine(HMe.out v3 HBv3.out).mono ?_;rintro e v4 ⟨rfl,hb⟩;have HBv4:Hid (Below w2.heap.size w2 v4):=HBv3.out.trans (hb.mono HBv3.out.size);clear hb;clear c0 c1 c2 c3 c4 c5 c6 c7 c8 a0 a1 a2 a3 a4 a5 a6 a7 a8 a9 a10 a11 a12 a13 a14;obtain⟨⟨c0,c1,c2,c3,c4,c5,c6,c7,c8⟩,⟨a0,a1,a2,a3,a4,a5,a6,a7,a8,a9,a10,a11,a12,a13,a14⟩⟩:=HZ.out v4 HBv4.out) | (go_at_call 78;refine(HS1.out v2 HBv2.out).mono ?_;rintro e v3 ⟨rfl,hb⟩;have HBv3:Hid (Below w2.heap.size w2 v3):=HBv2.out.trans (hb.mono HBv2.out.size);clear hb;clear c0 c1 c2 c3 c4 c5 c6 c7 c8 a0 a1 a2 a3 a4 a5 a6 a7 a8 a9 a10 a11 a12 a13 a14;obtain⟨⟨c0,c1,c2,c3,c4,c5,c6,c7,c8⟩,⟨a0,a1,a2,a3,a4,a5,a6,a7,a8,a9,a10,a11,a12,a13,a14⟩⟩:=HZ.out v3 HBv3.out) | (go_at_call 77;refine(HGu.out v1 HBv1.out).mono ?_;rintro e v2 ⟨rfl,hb⟩;have HBv2:Hid (Below w2.heap.size w2 v2):=HBv1.out.trans (hb.mono HBv1.out.size);clear hb;clear c0 c1 c2 c3 c4 c5 c6 c7 c8 a0 a1 a2 a3 a4 a5 a6 a7 a8 a9 a10 a11 a12 a13 a14;obtain⟨⟨c0,c1,c2,c3,c4,c5,c6,c7,c8⟩,⟨a0,a1,a2,a3,a4,a5,a6,a7,a8,a9,a10,a11,a12,a13,a14⟩⟩:=HZ.out v2 HBv2.out) | (go_at_call 76;refine(HLi.out v0 HBv0.out).mono ?_;rintro e v1 ⟨rfl,hb⟩;have HBv1:Hid (Below w2.heap.size w2 v1):=HBv0.out.trans (hb.mono HBv0.out.size);clear hb;clear c0 c1 c2 c3 c4 c5 c6 c7 c8 a0 a1 a2 a3 a4 a5 a6 a7 a8 a9 a10 a11 a12 a13 a14;obtain⟨⟨c0,c1,c2,c3,c4,c5,c6,c7,c8⟩,⟨a0,a1,a2,a3,a4,a5,a6,a7,a8,a9,a10,a11,a12,a13,a14⟩⟩:=HZ.out v1 HBv1.out) | fail)
    go_ret
    rw[hVv]
    exact⟨rfl,HB2.out.trans (HBv1.out.mono HB2.out.size)⟩
   ·have z1:((a.lines.n:Int)+(a.sets.n:Int) == 0)=false:=by simp;omega
    have z2:¬(a.lines.n:Int)+(a.sets.n:Int)=0:=by omega
    have HV2:Hid (V=if (!gu)=true then 84 else if (!se)=true then 85 else if (!me)=true then 86 else 0):=by show _=_;rw[HV.out,decide_eq_false z0];rfl
    clear HV z0
    cases gu with
    | false =>
     have hVv:V=84:=HV2.out
     go_enter Tryz.func52,Tryz.ntmps52
     go_upto_region 1 with (fail)
     rw[HW2.out,←hv0]
     clear hv0
     go_wp2_with (first | (go_at_call 79;refine(HMe.out v3 HBv3.out).mono ?_;rintro e v4 ⟨rfl,hb⟩;have HBv4:Hid (Below w2.heap.size w2 v4):=HBv3.out.trans (hb.mono HBv3.out.size);clear hb;clear c0 c1 c2 c3 c4 c5 c6 c7 c8 a0 a1 a2 a3 a4 a5 a6 a7 a8 a9 a10 a11 a12 a13 a14;obtain⟨⟨c0,c1,c2,c3,c4,c5,c6,c7,c8⟩,⟨a0,a1,a2,a3,a4,a5,a6,a7,a8,a9,a10,a11,a12,a13,a14⟩⟩:=HZ.out v4 HBv4.out) | (go_at_call 78;refine(HS1.out v2 HBv2.out).mono ?_;rintro e v3 ⟨rfl,hb⟩;have HBv3:Hid (Below w2.heap.size w2 v3):=HBv2.out.trans (hb.mono HBv2.out.size);clear hb;clear c0 c1 c2 c3 c4 c5 c6 c7 c8 a0 a1 a2 a3 a4 a5 a6 a7 a8 a9 a10 a11 a12 a13 a14;obtain⟨⟨c0,c1,c2,c3,c4,c5,c6,c7,c8⟩,⟨a0,a1,a2,a3,a4,a5,a6,a7,a8,a9,a10,a11,a12,a13,a14⟩⟩:=HZ.out v3 HBv3.out) | (go_at_call 77;refine(HGu.out v1 HBv1.out).mono ?_;rintro e v2 ⟨rfl,hb⟩;have HBv2:Hid (Below w2.heap.size w2 v2):=HBv1.out.trans (hb.mono HBv1.out.size);clear hb;clear c0 c1 c2 c3 c4 c5 c6 c7 c8 a0 a1 a2 a3 a4 a5 a6 a7 a8 a9 a10 a11 a12 a13 a14;obtain⟨⟨c0,c1,c2,c3,c4,c5,c6,c7,c8⟩,⟨a0,a1,a2,a3,a4,a5,a6,a7,a8,a9,a10,a11,a12,a13,a14⟩⟩:=HZ.out v2 HBv2.out) | (go_at_call 76;refine(HLi.out v0 HBv0.out).mono ?_;rintro e v1 ⟨rfl,hb⟩;have HBv1:Hid (Below w2.heap.size w2 v1):=HBv0.out.trans (hb.mono HBv0.out.size);clear hb;clear c0 c1 c2 c3 c4 c5 c6 c7 c8 a0 a1 a2 a3 a4 a5 a6 a7 a8 a9 a10 a11 a12 a13 a14;obtain⟨⟨c0,c1,c2,c3,c4,c5,c6,c7,c8⟩,⟨a0,a1,a2,a3,a4,a5,a6,a7,a8,a9,a10,a11,a12,a13,a14⟩⟩:=HZ.out v1 HBv1.out) | fail)
     go_ret
     rw[hVv]
     exact⟨rfl,HB2.out.trans (HBv2.out.mono HB2.out.size)⟩
    | true =>
     cases se with
     | false =>
      have hVv:V=85:=HV2.out
      go_enter Tryz.func52,Tryz.ntmps52
      go_upto_region 1 with (fail)
      rw[HW2.out,←hv0]
      clear hv0
      go_wp2_with (first | (go_at_call 79;refine(HMe.out v3 HBv3.out).mono ?_;rintro e v4 ⟨rfl,hb⟩;have HBv4:Hid (Below w2.heap.size w2 v4):=HBv3.out.trans (hb.mono HBv3.out.size);clear hb;clear c0 c1 c2 c3 c4 c5 c6 c7 c8 a0 a1 a2 a3 a4 a5 a6 a7 a8 a9 a10 a11 a12 a13 a14;obtain⟨⟨c0,c1,c2,c3,c4,c5,c6,c7,c8⟩,⟨a0,a1,a2,a3,a4,a5,a6,a7,a8,a9,a10,a11,a12,a13,a14⟩⟩:=HZ.out v4 HBv4.out) | (go_at_call 78;refine(HS1.out v2 HBv2.out).mono ?_;rintro e v3 ⟨rfl,hb⟩;have HBv3:Hid (Below w2.heap.size w2 v3):=HBv2.out.trans (hb.mono HBv2.out.size);clear hb;clear c0 c1 c2 c3 c4 c5 c6 c7 c8 a0 a1 a2 a3 a4 a5 a6 a7 a8 a9 a10 a11 a12 a13 a14;obtain⟨⟨c0,c1,c2,c3,c4,c5,c6,c7,c8⟩,⟨a0,a1,a2,a3,a4,a5,a6,a7,a8,a9,a10,a11,a12,a13,a14⟩⟩:=HZ.out v3 HBv3.out) | (go_at_call 77;refine(HGu.out v1 HBv1.out).mono ?_;rintro e v2 ⟨rfl,hb⟩;have HBv2:Hid (Below w2.heap.size w2 v2):=HBv1.out.trans (hb.mono HBv1.out.size);clear hb;clear c0 c1 c2 c3 c4 c5 c6 c7 c8 a0 a1 a2 a3 a4 a5 a6 a7 a8 a9 a10 a11 a12 a13 a14;obtain⟨⟨c0,c1,c2,c3,c4,c5,c6,c7,c8⟩,⟨a0,a1,a2,a3,a4,a5,a6,a7,a8,a9,a10,a11,a12,a13,a14⟩⟩:=HZ.out v2 HBv2.out) | (go_at_call 76;refine(HLi.out v0 HBv0.out).mono ?_;rintro e v1 ⟨rfl,hb⟩;have HBv1:Hid (Below w2.heap.size w2 v1):=HBv0.out.trans (hb.mono HBv0.out.size);clear hb;clear c0 c1 c2 c3 c4 c5 c6 c7 c8 a0 a1 a2 a3 a4 a5 a6 a7 a8 a9 a10 a11 a12 a13 a14;obtain⟨⟨c0,c1,c2,c3,c4,c5,c6,c7,c8⟩,⟨a0,a1,a2,a3,a4,a5,a6,a7,a8,a9,a10,a11,a12,a13,a14⟩⟩:=HZ.out v1 HBv1.out) | fail)
      go_ret
      rw[hVv]
      exact⟨rfl,HB2.out.trans (HBv3.out.mono HB2.out.size)⟩
     | true =>
      cases me with
      | false =>
       have hVv:V=86:=HV2.out
       go_enter Tryz.func52,Tryz.ntmps52
       go_upto_region 1 with (fail)
       rw[HW2.out,←hv0]
       clear hv0
       go_wp2_with (first | (go_at_call 79;refine(HMe.out v3 HBv3.out).mono ?_;rintro e v4 ⟨rfl,hb⟩;have HBv4:Hid (Below w2.heap.size w2 v4):=HBv3.out.trans (hb.mono HBv3.out.size);clear hb;clear c0 c1 c2 c3 c4 c5 c6 c7 c8 a0 a1 a2 a3 a4 a5 a6 a7 a8 a9 a10 a11 a12 a13 a14;obtain⟨⟨c0,c1,c2,c3,c4,c5,c6,c7,c8⟩,⟨a0,a1,a2,a3,a4,a5,a6,a7,a8,a9,a10,a11,a12,a13,a14⟩⟩:=HZ.out v4 HBv4.out) | (go_at_call 78;refine(HS1.out v2 HBv2.out).mono ?_;rintro e v3 ⟨rfl,hb⟩;have HBv3:Hid (Below w2.heap.size w2 v3):=HBv2.out.trans (hb.mono HBv2.out.size);clear hb;clear c0 c1 c2 c3 c4 c5 c6 c7 c8 a0 a1 a2 a3 a4 a5 a6 a7 a8 a9 a10 a11 a12 a13 a14;obtain⟨⟨c0,c1,c2,c3,c4,c5,c6,c7,c8⟩,⟨a0,a1,a2,a3,a4,a5,a6,a7,a8,a9,a10,a11,a12,a13,a14⟩⟩:=HZ.out v3 HBv3.out) | (go_at_call 77;refine(HGu.out v1 HBv1.out).mono ?_;rintro e v2 ⟨rfl,hb⟩;have HBv2:Hid (Below w2.heap.size w2 v2):=HBv1.out.trans (hb.mono HBv1.out.size);clear hb;clear c0 c1 c2 c3 c4 c5 c6 c7 c8 a0 a1 a2 a3 a4 a5 a6 a7 a8 a9 a10 a11 a12 a13 a14;obtain⟨⟨c0,c1,c2,c3,c4,c5,c6,c7,c8⟩,⟨a0,a1,a2,a3,a4,a5,a6,a7,a8,a9,a10,a11,a12,a13,a14⟩⟩:=HZ.out v2 HBv2.out) | (go_at_call 76;refine(HLi.out v0 HBv0.out).mono ?_;rintro e v1 ⟨rfl,hb⟩;have HBv1:Hid (Below w2.heap.size w2 v1):=HBv0.out.trans (hb.mono HBv0.out.size);clear hb;clear c0 c1 c2 c3 c4 c5 c6 c7 c8 a0 a1 a2 a3 a4 a5 a6 a7 a8 a9 a10 a11 a12 a13 a14;obtain⟨⟨c0,c1,c2,c3,c4,c5,c6,c7,c8⟩,⟨a0,a1,a2,a3,a4,a5,a6,a7,a8,a9,a10,a11,a12,a13,a14⟩⟩:=HZ.out v1 HBv1.out) | fail)
       go_ret
       rw[hVv]
       exact⟨rfl,HB2.out.trans (HBv4.out.mono HB2.out.size)⟩
      | true =>
       have hVv:V=0:=HV2.out
       go_enter Tryz.func52,Tryz.ntmps52
       go_upto_region 1 with (fail)
       rw[HW2.out,←hv0]
       clear hv0
       go_wp2_with (first | (go_at_call 79;refine(HMe.out v3 HBv3.out).mono ?_;rintro e v4 ⟨rfl,hb⟩;have HBv4:Hid (Below w2.heap.size w2 v4):=HBv3.out.trans (hb.mono HBv3.out.size);clear hb;clear c0 c1 c2 c3 c4 c5 c6 c7 c8 a0 a1 a2 a3 a4 a5 a6 a7 a8 a9 a10 a11 a12 a13 a14;obtain⟨⟨c0,c1,c2,c3,c4,c5,c6,c7,c8⟩,⟨a0,a1,a2,a3,a4,a5,a6,a7,a8,a9,a10,a11,a12,a13,a14⟩⟩:=HZ.out v4 HBv4.out) | (go_at_call 78;refine(HS1.out v2 HBv2.out).mono ?_;rintro e v3 ⟨rfl,hb⟩;have HBv3:Hid (Below w2.heap.size w2 v3):=HBv2.out.trans (hb.mono HBv2.out.size);clear hb;clear c0 c1 c2 c3 c4 c5 c6 c7 c8 a0 a1 a2 a3 a4 a5 a6 a7 a8 a9 a10 a11 a12 a13 a14;obtain⟨⟨c0,c1,c2,c3,c4,c5,c6,c7,c8⟩,⟨a0,a1,a2,a3,a4,a5,a6,a7,a8,a9,a10,a11,a12,a13,a14⟩⟩:=HZ.out v3 HBv3.out) | (go_at_call 77;refine(HGu.out v1 HBv1.out).mono ?_;rintro e v2 ⟨rfl,hb⟩;have HBv2:Hid (Below w2.heap.size w2 v2):=HBv1.out.trans (hb.mono HBv1.out.size);clear hb;clear c0 c1 c2 c3 c4 c5 c6 c7 c8 a0 a1 a2 a3 a4 a5 a6 a7 a8 a9 a10 a11 a12 a13 a14;obtain⟨⟨c0,c1,c2,c3,c4,c5,c6,c7,c8⟩,⟨a0,a1,a2,a3,a4,a5,a6,a7,a8,a9,a10,a11,a12,a13,a14⟩⟩:=HZ.out v2 HBv2.out) | (go_at_call 76;refine(HLi.out v0 HBv0.out).mono ?_;rintro e v1 ⟨rfl,hb⟩;have HBv1:Hid (Below w2.heap.size w2 v1):=HBv0.out.trans (hb.mono HBv0.out.size);clear hb;clear c0 c1 c2 c3 c4 c5 c6 c7 c8 a0 a1 a2 a3 a4 a5 a6 a7 a8 a9 a10 a11 a12 a13 a14;obtain⟨⟨c0,c1,c2,c3,c4,c5,c6,c7,c8⟩,⟨a0,a1,a2,a3,a4,a5,a6,a7,a8,a9,a10,a11,a12,a13,a14⟩⟩:=HZ.out v1 HBv1.out) | fail)
       go_ret
       rw[hVv]
       exact⟨rfl,HB2.out.trans (HBv4.out.mono HB2.out.size)⟩
end Go.Proofs.YtfbegfapoijbnaaGreat
