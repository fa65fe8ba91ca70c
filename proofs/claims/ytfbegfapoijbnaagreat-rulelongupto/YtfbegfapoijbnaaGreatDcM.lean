import Derived.Test.YtfbegfapoijbnaaGreatDcL
set_option maxRecDepth 100000
namespace Go.Proofs.YtfbegfapoijbnaaGreat
open Go.RowKit Go.Sort
open Z (Sli SlOk Acd AcdOk)
def KindOk (a:Acd):Prop:=(1≤a.kind∧a.kind≤5)∧a.d=(onlyA a).d
def HeadOk (c:Cfg) (a:Acd):Prop:=(0≤a.till∧a.till≤c.tills - 1)∧1≤a.num∧a.num≤1099511627776
def goodOk (c:Cfg) (a:Acd):Bool :=
 if a.kind=4 then rightOk c.cl 1099511627776 ⟨a.ra,a.rb,a.rd⟩ && decide (0≤a.to∧a.to≤c.tills - 1) && !decide (a.to=a.till)
 else if a.kind=5 then decide (1≤a.gen) && decide (a.gen≤1099511627776) && rightsOk c.cl a.rights.xs
 else rightOk c.cl 1099511627776 ⟨a.ra,a.rb,a.rd⟩
structure ChkV (c:Cfg) (a:Acd) (V:Int):Prop where
 kind:¬KindOk a→V=81
 head:KindOk a→¬HeadOk c a→V=82
 write:KindOk a→HeadOk c a→a.kind=1→V=writeChk c.cl c.pl a
 rest:KindOk a→HeadOk c a→a.kind≠1→V=if goodOk c a then 0 else 87
set_option maxHeartbeats 4000000 in
theorem rcheck_any (w:World) (c:Cfg) (a:Acd) (hok:AcdOk w a) (hcl:c.cl≤4194304) (hpl:c.pl≤4194304) (htl:0≤c.tills∧c.tills≤1000000) :
  Calls Tryz.prog 25 #[c.v,.agg #[.int .i64 a.till,.int .u64 a.num,.int .i64 a.kind,.bool a.sure,.slice a.lines.p a.lines.n a.lines.c,.slice a.guards.p a.guards.n a.guards.c,.slice a.sets.p a.sets.n a.sets.c,.int .i64 a.mg,.slice a.other.p a.other.n a.other.c,.int .i64 a.ra,.int .i64 a.rb,.int .i64 a.rd,.int .i64 a.to,.int .u64 a.gen,.slice a.rights.p a.rights.n a.rights.c]] w fun e w'=>∃V,e=.returned (.int .i64 V)∧ChkV c a V∧Below w.heap.size w w':=by
 obtain⟨w2,hw2,hb2,hx2,hy2⟩:=box_two w #[.int .i64 c.tills,.slice c.cp c.cl c.cc,.slice c.pp c.pl c.pc,.int .i64 c.lease,.int .i64 c.watch,.int .i64 c.beat,.int .i64 c.window,.int .i64 c.cap,.int .i64 c.flight] 37 56 #[.int .i64 a.till,.int .u64 a.num,.int .i64 a.kind,.bool a.sure,.slice a.lines.p a.lines.n a.lines.c,.slice a.guards.p a.guards.n a.guards.c,.slice a.sets.p a.sets.n a.sets.c,.int .i64 a.mg,.slice a.other.p a.other.n a.other.c,.int .i64 a.ra,.int .i64 a.rb,.int .i64 a.rd,.int .i64 a.to,.int .u64 a.gen,.slice a.rights.p a.rights.n a.rights.c]
 have HW2:=hide hw2
 have HB2:=hide hb2
 have HX2:=hide hx2
 have HY2:=hide hy2
 have HK:=hide (hok.below hb2)
 have HZ:Hid (∀W,Below w2.heap.size w2 W→(W.cell? ⟨w.heap.size,0,none⟩=some (.int .i64 c.tills)∧W.cell? ⟨w.heap.size,1,none⟩=some (.slice c.cp c.cl c.cc)∧W.cell? ⟨w.heap.size,2,none⟩=some (.slice c.pp c.pl c.pc)∧W.cell? ⟨w.heap.size,3,none⟩=some (.int .i64 c.lease)∧W.cell? ⟨w.heap.size,4,none⟩=some (.int .i64 c.watch)∧W.cell? ⟨w.heap.size,5,none⟩=some (.int .i64 c.beat)∧W.cell? ⟨w.heap.size,6,none⟩=some (.int .i64 c.window)∧W.cell? ⟨w.heap.size,7,none⟩=some (.int .i64 c.cap)∧W.cell? ⟨w.heap.size,8,none⟩=some (.int .i64 c.flight))∧(W.cell? ⟨w.heap.size+1,0,none⟩=some (.int .i64 a.till)∧W.cell? ⟨w.heap.size+1,1,none⟩=some (.int .u64 a.num)∧W.cell? ⟨w.heap.size+1,2,none⟩=some (.int .i64 a.kind)∧W.cell? ⟨w.heap.size+1,3,none⟩=some (.bool a.sure)∧W.cell? ⟨w.heap.size+1,4,none⟩=some (.slice a.lines.p a.lines.n a.lines.c)∧W.cell? ⟨w.heap.size+1,5,none⟩=some (.slice a.guards.p a.guards.n a.guards.c)∧W.cell? ⟨w.heap.size+1,6,none⟩=some (.slice a.sets.p a.sets.n a.sets.c)∧W.cell? ⟨w.heap.size+1,7,none⟩=some (.int .i64 a.mg)∧W.cell? ⟨w.heap.size+1,8,none⟩=some (.slice a.other.p a.other.n a.other.c)∧W.cell? ⟨w.heap.size+1,9,none⟩=some (.int .i64 a.ra)∧W.cell? ⟨w.heap.size+1,10,none⟩=some (.int .i64 a.rb)∧W.cell? ⟨w.heap.size+1,11,none⟩=some (.int .i64 a.rd)∧W.cell? ⟨w.heap.size+1,12,none⟩=some (.int .i64 a.to)∧W.cell? ⟨w.heap.size+1,13,none⟩=some (.int .u64 a.gen)∧W.cell? ⟨w.heap.size+1,14,none⟩=some (.slice a.rights.p a.rights.n a.rights.c))):=fun W hb=>⟨ac9 ((hb.block _ (ac_lt HX2.out)).trans HX2.out),ac15 ((hb.block _ (ac_lt HY2.out)).trans HY2.out)⟩
 obtain⟨D,hD⟩:=bool_of (a.d=(onlyA a).d)
 have HD:=hide hD
 have HEq:Hid (∀d os,Calls Tryz.prog 49 #[.agg #[.int .i64 a.till,.int .u64 a.num,.int .i64 a.kind,.bool a.sure,.slice a.lines.p a.lines.n a.lines.c,.slice a.guards.p a.guards.n a.guards.c,.slice a.sets.p a.sets.n a.sets.c,.int .i64 a.mg,.slice a.other.p a.other.n a.other.c,.int .i64 a.ra,.int .i64 a.rb,.int .i64 a.rd,.int .i64 a.to,.int .u64 a.gen,.slice a.rights.p a.rights.n a.rights.c],.agg (onlyA a).arr] (grow (redrawn w2 d) os) fun e w''=>e=.returned (.bool D)∧∃p:Regrown,w''=grow (redrawn w2 p.d) p.os):=fun d os=>Calls.regrown_of (reqAct_any _ a (onlyA a) (HK.out.below (below_regrown w2 d os)) (onlyA_ok (HK.out.below (below_regrown w2 d os))) D HD.out)
 have HOn:Hid ((1≤a.kind∧a.kind≤5)→∀d os,Calls Tryz.prog 50 #[.agg #[.int .i64 a.till,.int .u64 a.num,.int .i64 a.kind,.bool a.sure,.slice a.lines.p a.lines.n a.lines.c,.slice a.guards.p a.guards.n a.guards.c,.slice a.sets.p a.sets.n a.sets.c,.int .i64 a.mg,.slice a.other.p a.other.n a.other.c,.int .i64 a.ra,.int .i64 a.rb,.int .i64 a.rd,.int .i64 a.to,.int .u64 a.gen,.slice a.rights.p a.rights.n a.rights.c]] (grow (redrawn w2 d) os) fun e w''=>e=.returned (.agg (onlyA a).arr)∧∃p:Regrown,w''=grow (redrawn w2 p.d) p.os):=fun hk _ _=>Calls.regrown_of (ronly_any _ a hk)
 have HRt:=hide (fun W=>rright_any W c ⟨a.ra,a.rb,a.rd⟩ 1099511627776 hcl)
 have HRs:=hide (fun (W:World) (hb:Below w2.heap.size w2 W)=>rrights_any W c a.rights.p a.rights.n a.rights.c a.rights.xs HK.out.rights.len (by have:=HK.out.rights.most;omega) hcl (HK.out.rights.below hb).cel)
 have HWr:=hide (fun (W:World) (hb:Below w2.heap.size w2 W)=>rwrite_any W c a (HK.out.below hb) hcl hpl)
 have HTi:=hide (fun W=>rwithin_any W a.till 0 (c.tills - 1))
 have HTo:=hide (fun W=>rwithin_any W a.to 0 (c.tills - 1))
 unfold Cfg.v at HRt HRs HWr ⊢
 simp only at HRt
 obtain⟨OA,hOA⟩:∃OA,(onlyA a).arr=OA:=⟨_,rfl⟩
 rw[hOA]at HEq HOn
 have HR2:Hid (Below w2.heap.size w2 w2):=Below.refl _ _
 obtain⟨⟨c0,c1,c2,c3,c4,c5,c6,c7,c8⟩,⟨a0,a1,a2,a3,a4,a5,a6,a7,a8,a9,a10,a11,a12,a13,a14⟩⟩:=HZ.out w2 HR2.out
 have r_c0:=cell_regrown c0
 have r_c1:=cell_regrown c1
 have r_c2:=cell_regrown c2
 have r_c3:=cell_regrown c3
 have r_c4:=cell_regrown c4
 have r_c5:=cell_regrown c5
 have r_c6:=cell_regrown c6
 have r_c7:=cell_regrown c7
 have r_c8:=cell_regrown c8
 have r_a0:=cell_regrown a0
 have r_a1:=cell_regrown a1
 have r_a2:=cell_regrown a2
 have r_a3:=cell_regrown a3
 have r_a4:=cell_regrown a4
 have r_a5:=cell_regrown a5
 have r_a6:=cell_regrown a6
 have r_a7:=cell_regrown a7
 have r_a8:=cell_regrown a8
 have r_a9:=cell_regrown a9
 have r_a10:=cell_regrown a10
 have r_a11:=cell_regrown a11
 have r_a12:=cell_regrown a12
 have r_a13:=cell_regrown a13
 have r_a14:=cell_regrown a14
 have HEnd:=hide (regrown_end w2)
 clear hw2 hb2 hx2 hy2 hok hD hOA c0 c1 c2 c3 c4 c5 c6 c7 c8 a0 a1 a2 a3 a4 a5 a6 a7 a8 a9 a10 a11 a12 a13 a14
 have HCK:Hid (∀V,¬KindOk a→V=81→ChkV c a V):=fun V h e=>⟨fun _=>e,fun k=>absurd k h,fun k=>absurd k h,fun k=>absurd k h⟩
 by_cases k1:a.kind<1
 ·have HV:=hide (HCK.out 81 (fun h=>by have:=h.1;omega) rfl)
  go_enter Tryz.func25,Tryz.ntmps25
  go_upto_region 1 with (fail)
  rw[HW2.out]
  refine wp_region_quiet_below (by kernel_rfl) (by kernel_rfl) ?_
  repeat (go_big_quiet_step (first | fail))
  refine wpQuiet_nil ?_
  intro w3 hw'
  obtain⟨⟨dq,osq⟩,hw''⟩:=hw'
  obtain⟨wq,hwq,hb3⟩:=HEnd.out dq osq
  rw[hwq]at hw''
  rw[←hw'']at hb3
  have HB3:=hide hb3
  clear hwq hb3 hw'' wq
  go_wp2
  go_ret
  exact⟨81,rfl,HV.out,HB2.out.trans (HB3.out.mono HB2.out.size)⟩
 ·by_cases k5:5<a.kind
  ·have HV:=hide (HCK.out 81 (fun h=>by have:=h.1;omega) rfl)
   go_enter Tryz.func25,Tryz.ntmps25
   go_upto_region 1 with (fail)
   rw[HW2.out]
   refine wp_region_quiet_below (by kernel_rfl) (by kernel_rfl) ?_
   repeat (go_big_quiet_step (first | fail))
   refine wpQuiet_nil ?_
   intro w3 hw'
   obtain⟨⟨dq,osq⟩,hw''⟩:=hw'
   obtain⟨wq,hwq,hb3⟩:=HEnd.out dq osq
   rw[hwq]at hw''
   rw[←hw'']at hb3
   have HB3:=hide hb3
   clear hwq hb3 hw'' wq
   go_wp2
   go_ret
   exact⟨81,rfl,HV.out,HB2.out.trans (HB3.out.mono HB2.out.size)⟩
  ·have HO1:=hide (HOn.out ⟨by omega,by omega⟩)
   cases hDv:D with
   | false =>
    rw[hDv]at HEq
    have HV:=hide (HCK.out 81 (fun h=>by have:=HD.out.2 h.2;rw[hDv]at this;cases this) rfl)
    clear hDv
    go_enter Tryz.func25,Tryz.ntmps25
    go_upto_region 1 with (fail)
    rw[HW2.out]
    refine wp_region_quiet_below (by kernel_rfl) (by kernel_rfl) ?_
    repeat (go_big_quiet_step (first | (go_at_call 50;exact HO1.out _ _) | (go_at_call 49;exact HEq.out _ _)))
    refine wpQuiet_nil ?_
    intro w3 hw'
    obtain⟨⟨dq,osq⟩,hw''⟩:=hw'
    obtain⟨wq,hwq,hb3⟩:=HEnd.out dq osq
    rw[hwq]at hw''
    rw[←hw'']at hb3
    have HB3:=hide hb3
    clear hwq hb3 hw'' wq
    go_wp2
    go_ret
    exact⟨81,rfl,HV.out,HB2.out.trans (HB3.out.mono HB2.out.size)⟩
   | true =>
    rw[hDv]at HEq
    have HKo:Hid (KindOk a):=⟨⟨by omega,by omega⟩,HD.out.1 hDv⟩
    clear hDv HCK
    go_enter Tryz.func25,Tryz.ntmps25
    go_upto_region 1 with (fail)
    rw[HW2.out]
    refine wp_region_quiet_below (by kernel_rfl) (by kernel_rfl) ?_
    repeat (go_big_quiet_step (first | (go_at_call 50;exact HO1.out _ _) | (go_at_call 49;exact HEq.out _ _)))
    refine wpQuiet_nil ?_
    intro w3 hw'
    obtain⟨⟨dq,osq⟩,hw''⟩:=hw'
    obtain⟨wq,hwq,hb3⟩:=HEnd.out dq osq
    rw[hwq]at hw''
    rw[←hw'']at hb3
    have HB3:=hide hb3
    clear hwq hb3 hw'' wq
    clear r_c0 r_c1 r_c2 r_c3 r_c4 r_c5 r_c6 r_c7 r_c8 r_a0 r_a1 r_a2 r_a3 r_a4 r_a5 r_a6 r_a7 r_a8 r_a9 r_a10 r_a11 r_a12 r_a13 r_a14
    obtain⟨⟨c0,c1,c2,c3,c4,c5,c6,c7,c8⟩,⟨a0,a1,a2,a3,a4,a5,a6,a7,a8,a9,a10,a11,a12,a13,a14⟩⟩:=HZ.out w3 HB3.out
    go_upto_region 3 with (fail)
    have HCH:Hid (¬HeadOk c a→ChkV c a 82):=fun h=>⟨fun k=>absurd HKo.out k,fun _ _=>rfl,fun _ k=>absurd k h,fun _ k=>absurd k h⟩
    by_cases t1:0≤a.till∧a.till≤c.tills - 1
    ·rw[decide_eq_true t1]at HTi
     by_cases n1:a.num<1
     ·have HV:=hide (HCH.out (fun h=>by have:=h.2;omega))
      clear t1
      go_wp2_with (first | (go_at_call 51;refine(HTi.out _).mono ?_;rintro e w9 ⟨rfl,h9⟩;rw[h9];clear h9 w9) | fail)
      go_ret
      exact⟨82,rfl,HV.out,HB2.out.trans (HB3.out.mono HB2.out.size)⟩
     ·by_cases n2:1099511627776<a.num
      ·have HV:=hide (HCH.out (fun h=>by have:=h.2;omega))
       clear t1
       go_wp2_with (first | (go_at_call 51;refine(HTi.out _).mono ?_;rintro e w9 ⟨rfl,h9⟩;rw[h9];clear h9 w9) | fail)
       go_ret
       exact⟨82,rfl,HV.out,HB2.out.trans (HB3.out.mono HB2.out.size)⟩
      ·have HHo:Hid (HeadOk c a):=⟨t1,by omega,by omega⟩
       clear t1 HCH
       go_upto_region 6 with (first | (go_at_call 51;refine(HTi.out _).mono ?_;rintro e w9 ⟨rfl,h9⟩;rw[h9];clear h9 w9) | fail)
       have HCR:Hid (∀b,a.kind≠1→goodOk c a=b→ChkV c a (if b then 0 else 87)):=fun b h1 hb=>⟨fun k=>absurd HKo.out k,fun _ k=>absurd HHo.out k,fun _ _ k=>absurd k h1,fun _ _ _=>by rw[hb]⟩
       by_cases q1:a.kind=1
       ·have q1':((a.kind:Int) == 1)=true:=by simp[q1]
        have HV:Hid (ChkV c a (writeChk c.cl c.pl a)):=⟨fun k=>absurd HKo.out k,fun _ k=>absurd HHo.out k,fun _ _ _=>rfl,fun _ _ k=>absurd q1 k⟩
        clear q1
        go_wp2_with (first | (go_at_call 52;refine(HWr.out w3 HB3.out).mono ?_;rintro e w4 ⟨rfl,hb⟩;have HB4:Hid (Below w2.heap.size w2 w4):=HB3.out.trans (hb.mono HB3.out.size);clear hb) | fail)
        go_ret
        exact⟨_,rfl,HV.out,HB2.out.trans (HB4.out.mono HB2.out.size)⟩
       ·have q1':((a.kind:Int) == 1)=false:=by simp[q1]
        by_cases q4:a.kind=4
        ·have e2:((a.kind:Int) == 2)=false:=by simp[q4]
         have e3:((a.kind:Int) == 3)=false:=by simp[q4]
         have e4:((a.kind:Int) == 4)=true:=by simp[q4]
         have e5:((a.kind:Int) == 5)=false:=by simp[q4]
         obtain⟨rb,hrb⟩:∃b,rightOk c.cl 1099511627776 ⟨a.ra,a.rb,a.rd⟩=b:=⟨_,rfl⟩
         rw[hrb]at HRt
         have hg:goodOk c a=(rb && decide (0≤a.to∧a.to≤c.tills - 1) && !decide (a.to=a.till)):=by unfold goodOk;rw[if_pos q4,hrb]
         cases rb with
         | false =>
          have HV:=hide (HCR.out false q1 (by rw[hg];rfl))
          clear hg hrb q1 q4
          go_wp2_with (first | (go_at_call 53;refine(HRt.out _).mono ?_;rintro e w4 ⟨rfl,hb⟩;have HB4:Hid (Below w2.heap.size w2 w4):=HB3.out.trans (hb.mono HB3.out.size);clear hb;clear c0 c1 c2 c3 c4 c5 c6 c7 c8 a0 a1 a2 a3 a4 a5 a6 a7 a8 a9 a10 a11 a12 a13 a14;obtain⟨⟨c0,c1,c2,c3,c4,c5,c6,c7,c8⟩,⟨a0,a1,a2,a3,a4,a5,a6,a7,a8,a9,a10,a11,a12,a13,a14⟩⟩:=HZ.out w4 HB4.out) | (go_at_call 54;refine(HRs.out _ HB3.out).mono ?_;rintro e w4 ⟨rfl,hb⟩;have HB4:Hid (Below w2.heap.size w2 w4):=HB3.out.trans (hb.mono HB3.out.size);clear hb;clear c0 c1 c2 c3 c4 c5 c6 c7 c8 a0 a1 a2 a3 a4 a5 a6 a7 a8 a9 a10 a11 a12 a13 a14;obtain⟨⟨c0,c1,c2,c3,c4,c5,c6,c7,c8⟩,⟨a0,a1,a2,a3,a4,a5,a6,a7,a8,a9,a10,a11,a12,a13,a14⟩⟩:=HZ.out w4 HB4.out) | (go_at_call 51;refine(HTo.out _).mono ?_;rintro e w9 ⟨rfl,h9⟩;rw[h9];clear h9 w9) | fail)
          go_ret
          first | exact⟨_,rfl,HV.out,HB2.out.trans (HB4.out.mono HB2.out.size)⟩ | exact⟨_,rfl,HV.out,HB2.out.trans (HB3.out.mono HB2.out.size)⟩
         | true =>
          by_cases t2:0≤a.to∧a.to≤c.tills - 1
          ·rw[decide_eq_true t2]at HTo hg
           by_cases t3:a.to=a.till
           ·have t3':((a.to:Int) != a.till)=false:=by simp[t3]
            have HV:=hide (HCR.out false q1 (by rw[hg,decide_eq_true t3];rfl))
            clear hg hrb q1 q4 t2 t3
            go_wp2_with (first | (go_at_call 53;refine(HRt.out _).mono ?_;rintro e w4 ⟨rfl,hb⟩;have HB4:Hid (Below w2.heap.size w2 w4):=HB3.out.trans (hb.mono HB3.out.size);clear hb;clear c0 c1 c2 c3 c4 c5 c6 c7 c8 a0 a1 a2 a3 a4 a5 a6 a7 a8 a9 a10 a11 a12 a13 a14;obtain⟨⟨c0,c1,c2,c3,c4,c5,c6,c7,c8⟩,⟨a0,a1,a2,a3,a4,a5,a6,a7,a8,a9,a10,a11,a12,a13,a14⟩⟩:=HZ.out w4 HB4.out) | (go_at_call 54;refine(HRs.out _ HB3.out).mono ?_;rintro e w4 ⟨rfl,hb⟩;have HB4:Hid (Below w2.heap.size w2 w4):=HB3.out.trans (hb.mono HB3.out.size);clear hb;clear c0 c1 c2 c3 c4 c5 c6 c7 c8 a0 a1 a2 a3 a4 a5 a6 a7 a8 a9 a10 a11 a12 a13 a14;obtain⟨⟨c0,c1,c2,c3,c4,c5,c6,c7,c8⟩,⟨a0,a1,a2,a3,a4,a5,a6,a7,a8,a9,a10,a11,a12,a13,a14⟩⟩:=HZ.out w4 HB4.out) | (go_at_call 51;refine(HTo.out _).mono ?_;rintro e w9 ⟨rfl,h9⟩;rw[h9];clear h9 w9) | fail)
            go_ret
            first | exact⟨_,rfl,HV.out,HB2.out.trans (HB4.out.mono HB2.out.size)⟩ | exact⟨_,rfl,HV.out,HB2.out.trans (HB3.out.mono HB2.out.size)⟩
           ·have t3':((a.to:Int) != a.till)=true:=by simp[t3]
            have HV:=hide (HCR.out true q1 (by rw[hg,decide_eq_false t3];rfl))
            clear hg hrb q1 q4 t2 t3
            go_wp2_with (first | (go_at_call 53;refine(HRt.out _).mono ?_;rintro e w4 ⟨rfl,hb⟩;have HB4:Hid (Below w2.heap.size w2 w4):=HB3.out.trans (hb.mono HB3.out.size);clear hb;clear c0 c1 c2 c3 c4 c5 c6 c7 c8 a0 a1 a2 a3 a4 a5 a6 a7 a8 a9 a10 a11 a12 a13 a14;obtain⟨⟨c0,c1,c2,c3,c4,c5,c6,c7,c8⟩,⟨a0,a1,a2,a3,a4,a5,a6,a7,a8,a9,a10,a11,a12,a13,a14⟩⟩:=HZ.out w4 HB4.out) | (go_at_call 54;refine(HRs.out _ HB3.out).mono ?_;rintro e w4 ⟨rfl,hb⟩;have HB4:Hid (Below w2.heap.size w2 w4):=HB3.out.trans (hb.mono HB3.out.size);clear hb;clear c0 c1 c2 c3 c4 c5 c6 c7 c8 a0 a1 a2 a3 a4 a5 a6 a7 a8 a9 a10 a11 a12 a13 a14;obtain⟨⟨c0,c1,c2,c3,c4,c5,c6,c7,c8⟩,⟨a0,a1,a2,a3,a4,a5,a6,a7,a8,a9,a10,a11,a12,a13,a14⟩⟩:=HZ.out w4 HB4.out) | (go_at_call 51;refine(HTo.out _).mono ?_;rintro e w9 ⟨rfl,h9⟩;rw[h9];clear h9 w9) | fail)
            go_ret
            first | exact⟨_,rfl,HV.out,HB2.out.trans (HB4.out.mono HB2.out.size)⟩ | exact⟨_,rfl,HV.out,HB2.out.trans (HB3.out.mono HB2.out.size)⟩
          ·rw[decide_eq_false t2]at HTo hg
           have HV:=hide (HCR.out false q1 (by rw[hg];rfl))
           clear hg hrb q1 q4 t2
           go_wp2_with (first | (go_at_call 53;refine(HRt.out _).mono ?_;rintro e w4 ⟨rfl,hb⟩;have HB4:Hid (Below w2.heap.size w2 w4):=HB3.out.trans (hb.mono HB3.out.size);clear hb;clear c0 c1 c2 c3 c4 c5 c6 c7 c8 a0 a1 a2 a3 a4 a5 a6 a7 a8 a9 a10 a11 a12 a13 a14;obtain⟨⟨c0,c1,c2,c3,c4,c5,c6,c7,c8⟩,⟨a0,a1,a2,a3,a4,a5,a6,a7,a8,a9,a10,a11,a12,a13,a14⟩⟩:=HZ.out w4 HB4.out) | (go_at_call 54;refine(HRs.out _ HB3.out).mono ?_;rintro e w4 ⟨rfl,hb⟩;have HB4:Hid (Below w2.heap.size w2 w4):=HB3.out.trans (hb.mono HB3.out.size);clear hb;clear c0 c1 c2 c3 c4 c5 c6 c7 c8 a0 a1 a2 a3 a4 a5 a6 a7 a8 a9 a10 a11 a12 a13 a14;obtain⟨⟨c0,c1,c2,c3,c4,c5,c6,c7,c8⟩,⟨a0,a1,a2,a3,a4,a5,a6,a7,a8,a9,a10,a11,a12,a13,a14⟩⟩:=HZ.out w4 HB4.out) | (go_at_call 51;refine(HTo.out _).mono ?_;rintro e w9 ⟨rfl,h9⟩;rw[h9];clear h9 w9) | fail)
           go_ret
           first | exact⟨_,rfl,HV.out,HB2.out.trans (HB4.out.mono HB2.out.size)⟩ | exact⟨_,rfl,HV.out,HB2.out.trans (HB3.out.mono HB2.out.size)⟩
        ·by_cases q5:a.kind=5
         ·have e2:((a.kind:Int) == 2)=false:=by simp[q5]
          have e3:((a.kind:Int) == 3)=false:=by simp[q5]
          have e4:((a.kind:Int) == 4)=false:=by simp[q5]
          have e5:((a.kind:Int) == 5)=true:=by simp[q5]
          obtain⟨rs,hrs⟩:∃b,rightsOk c.cl a.rights.xs=b:=⟨_,rfl⟩
          rw[hrs]at HRs
          have hg:goodOk c a=(decide (1≤a.gen) && decide (a.gen≤1099511627776) && rs):=by unfold goodOk;rw[if_neg q4,if_pos q5,hrs]
          by_cases g1:1≤a.gen
          ·by_cases g2:a.gen≤1099511627776
           ·cases rs with
            | false =>
             have HV:=hide (HCR.out false q1 (by rw[hg];simp))
             clear hg hrs q1 q4 q5
             go_wp2_with (first | (go_at_call 53;refine(HRt.out _).mono ?_;rintro e w4 ⟨rfl,hb⟩;have HB4:Hid (Below w2.heap.size w2 w4):=HB3.out.trans (hb.mono HB3.out.size);clear hb;clear c0 c1 c2 c3 c4 c5 c6 c7 c8 a0 a1 a2 a3 a4 a5 a6 a7 a8 a9 a10 a11 a12 a13 a14;obtain⟨⟨c0,c1,c2,c3,c4,c5,c6,c7,c8⟩,⟨a0,a1,a2,a3,a4,a5,a6,a7,a8,a9,a10,a11,a12,a13,a14⟩⟩:=HZ.out w4 HB4.out) | (go_at_call 54;refine(HRs.out _ HB3.out).mono ?_;rintro e w4 ⟨rfl,hb⟩;have HB4:Hid (Below w2.heap.size w2 w4):=HB3.out.trans (hb.mono HB3.out.size);clear hb;clear c0 c1 c2 c3 c4 c5 c6 c7 c8 a0 a1 a2 a3 a4 a5 a6 a7 a8 a9 a10 a11 a12 a13 a14;obtain⟨⟨c0,c1,c2,c3,c4,c5,c6,c7,c8⟩,⟨a0,a1,a2,a3,a4,a5,a6,a7,a8,a9,a10,a11,a12,a13,a14⟩⟩:=HZ.out w4 HB4.out) | (go_at_call 51;refine(HTo.out _).mono ?_;rintro e w9 ⟨rfl,h9⟩;rw[h9];clear h9 w9) | fail)
             go_ret
             first | exact⟨_,rfl,HV.out,HB2.out.trans (HB4.out.mono HB2.out.size)⟩ | exact⟨_,rfl,HV.out,HB2.out.trans (HB3.out.mono HB2.out.size)⟩
            | true =>
             have HV:=hide (HCR.out true q1 (by rw[hg];simp[g1,g2]))
             clear hg hrs q1 q4 q5
             go_wp2_with (first | (go_at_call 53;refine(HRt.out _).mono ?_;rintro e w4 ⟨rfl,hb⟩;have HB4:Hid (Below w2.heap.size w2 w4):=HB3.out.trans (hb.mono HB3.out.size);clear hb;clear c0 c1 c2 c3 c4 c5 c6 c7 c8 a0 a1 a2 a3 a4 a5 a6 a7 a8 a9 a10 a11 a12 a13 a14;obtain⟨⟨c0,c1,c2,c3,c4,c5,c6,c7,c8⟩,⟨a0,a1,a2,a3,a4,a5,a6,a7,a8,a9,a10,a11,a12,a13,a14⟩⟩:=HZ.out w4 HB4.out) | (go_at_call 54;refine(HRs.out _ HB3.out).mono ?_;rintro e w4 ⟨rfl,hb⟩;have HB4:Hid (Below w2.heap.size w2 w4):=HB3.out.trans (hb.mono HB3.out.size);clear hb;clear c0 c1 c2 c3 c4 c5 c6 c7 c8 a0 a1 a2 a3 a4 a5 a6 a7 a8 a9 a10 a11 a12 a13 a14;obtain⟨⟨c0,c1,c2,c3,c4,c5,c6,c7,c8⟩,⟨a0,a1,a2,a3,a4,a5,a6,a7,a8,a9,a10,a11,a12,a13,a14⟩⟩:=HZ.out w4 HB4.out) | (go_at_call 51;refine(HTo.out _).mono ?_;rintro e w9 ⟨rfl,h9⟩;rw[h9];clear h9 w9) | fail)
             go_ret
             first | exact⟨_,rfl,HV.out,HB2.out.trans (HB4.out.mono HB2.out.size)⟩ | exact⟨_,rfl,HV.out,HB2.out.trans (HB3.out.mono HB2.out.size)⟩
           ·have HV:=hide (HCR.out false q1 (by rw[hg,decide_eq_false g2];simp))
            clear hg hrs q1 q4 q5
            go_wp2_with (first | (go_at_call 53;refine(HRt.out _).mono ?_;rintro e w4 ⟨rfl,hb⟩;have HB4:Hid (Below w2.heap.size w2 w4):=HB3.out.trans (hb.mono HB3.out.size);clear hb;clear c0 c1 c2 c3 c4 c5 c6 c7 c8 a0 a1 a2 a3 a4 a5 a6 a7 a8 a9 a10 a11 a12 a13 a14;obtain⟨⟨c0,c1,c2,c3,c4,c5,c6,c7,c8⟩,⟨a0,a1,a2,a3,a4,a5,a6,a7,a8,a9,a10,a11,a12,a13,a14⟩⟩:=HZ.out w4 HB4.out) | (go_at_call 54;refine(HRs.out _ HB3.out).mono ?_;rintro e w4 ⟨rfl,hb⟩;have HB4:Hid (Below w2.heap.size w2 w4):=HB3.out.trans (hb.mono HB3.out.size);clear hb;clear c0 c1 c2 c3 c4 c5 c6 c7 c8 a0 a1 a2 a3 a4 a5 a6 a7 a8 a9 a10 a11 a12 a13 a14;obtain⟨⟨c0,c1,c2,c3,c4,c5,c6,c7,c8⟩,⟨a0,a1,a2,a3,a4,a5,a6,a7,a8,a9,a10,a11,a12,a13,a14⟩⟩:=HZ.out w4 HB4.out) | (go_at_call 51;refine(HTo.out _).mono ?_;rintro e w9 ⟨rfl,h9⟩;rw[h9];clear h9 w9) | fail)
            go_ret
            first | exact⟨_,rfl,HV.out,HB2.out.trans (HB4.out.mono HB2.out.size)⟩ | exact⟨_,rfl,HV.out,HB2.out.trans (HB3.out.mono HB2.out.size)⟩
          ·have HV:=hide (HCR.out false q1 (by rw[hg,decide_eq_false g1];simp))
           clear hg hrs q1 q4 q5
           go_wp2_with (first | (go_at_call 53;refine(HRt.out _).mono ?_;rintro e w4 ⟨rfl,hb⟩;have HB4:Hid (Below w2.heap.size w2 w4):=HB3.out.trans (hb.mono HB3.out.size);clear hb;clear c0 c1 c2 c3 c4 c5 c6 c7 c8 a0 a1 a2 a3 a4 a5 a6 a7 a8 a9 a10 a11 a12 a13 a14;obtain⟨⟨c0,c1,c2,c3,c4,c5,c6,c7,c8⟩,⟨a0,a1,a2,a3,a4,a5,a6,a7,a8,a9,a10,a11,a12,a13,a14⟩⟩:=HZ.out w4 HB4.out) | (go_at_call 54;refine(HRs.out _ HB3.out).mono ?_;rintro e w4 ⟨rfl,hb⟩;have HB4:Hid (Below w2.heap.size w2 w4):=HB3.out.trans (hb.mono HB3.out.size);clear hb;clear c0 c1 c2 c3 c4 c5 c6 c7 c8 a0 a1 a2 a3 a4 a5 a6 a7 a8 a9 a10 a11 a12 a13 a14;obtain⟨⟨c0,c1,c2,c3,c4,c5,c6,c7,c8⟩,⟨a0,a1,a2,a3,a4,a5,a6,a7,a8,a9,a10,a11,a12,a13,a14⟩⟩:=HZ.out w4 HB4.out) | (go_at_call 51;refine(HTo.out _).mono ?_;rintro e w9 ⟨rfl,h9⟩;rw[h9];clear h9 w9) | fail)
           go_ret
           first | exact⟨_,rfl,HV.out,HB2.out.trans (HB4.out.mono HB2.out.size)⟩ | exact⟨_,rfl,HV.out,HB2.out.trans (HB3.out.mono HB2.out.size)⟩
         ·have e4:((a.kind:Int) == 4)=false:=by simp[q4]
          have e5:((a.kind:Int) == 5)=false:=by simp[q5]
          obtain⟨rb,hrb⟩:∃b,rightOk c.cl 1099511627776 ⟨a.ra,a.rb,a.rd⟩=b:=⟨_,rfl⟩
          rw[hrb]at HRt
          have HV:=hide (HCR.out rb q1 (by unfold goodOk;rw[if_neg q4,if_neg q5,hrb]))
          by_cases q2:a.kind=2
          ·have e2:((a.kind:Int) == 2)=true:=by simp[q2]
           clear hrb q1 q4 q5 q2
           cases rb with
           | false =>
            go_wp2_with (first | (go_at_call 53;refine(HRt.out _).mono ?_;rintro e w4 ⟨rfl,hb⟩;have HB4:Hid (Below w2.heap.size w2 w4):=HB3.out.trans (hb.mono HB3.out.size);clear hb;clear c0 c1 c2 c3 c4 c5 c6 c7 c8 a0 a1 a2 a3 a4 a5 a6 a7 a8 a9 a10 a11 a12 a13 a14;obtain⟨⟨c0,c1,c2,c3,c4,c5,c6,c7,c8⟩,⟨a0,a1,a2,a3,a4,a5,a6,a7,a8,a9,a10,a11,a12,a13,a14⟩⟩:=HZ.out w4 HB4.out) | (go_at_call 54;refine(HRs.out _ HB3.out).mono ?_;rintro e w4 ⟨rfl,hb⟩;have HB4:Hid (Below w2.heap.size w2 w4):=HB3.out.trans (hb.mono HB3.out.size);clear hb;clear c0 c1 c2 c3 c4 c5 c6 c7 c8 a0 a1 a2 a3 a4 a5 a6 a7 a8 a9 a10 a11 a12 a13 a14;obtain⟨⟨c0,c1,c2,c3,c4,c5,c6,c7,c8⟩,⟨a0,a1,a2,a3,a4,a5,a6,a7,a8,a9,a10,a11,a12,a13,a14⟩⟩:=HZ.out w4 HB4.out) | (go_at_call 51;refine(HTo.out _).mono ?_;rintro e w9 ⟨rfl,h9⟩;rw[h9];clear h9 w9) | fail)
            go_ret
            first | exact⟨_,rfl,HV.out,HB2.out.trans (HB4.out.mono HB2.out.size)⟩ | exact⟨_,rfl,HV.out,HB2.out.trans (HB3.out.mono HB2.out.size)⟩
           | true =>
            go_wp2_with (first | (go_at_call 53;refine(HRt.out _).mono ?_;rintro e w4 ⟨rfl,hb⟩;have HB4:Hid (Below w2.heap.size w2 w4):=HB3.out.trans (hb.mono HB3.out.size);clear hb;clear c0 c1 c2 c3 c4 c5 c6 c7 c8 a0 a1 a2 a3 a4 a5 a6 a7 a8 a9 a10 a11 a12 a13 a14;obtain⟨⟨c0,c1,c2,c3,c4,c5,c6,c7,c8⟩,⟨a0,a1,a2,a3,a4,a5,a6,a7,a8,a9,a10,a11,a12,a13,a14⟩⟩:=HZ.out w4 HB4.out) | (go_at_call 54;refine(HRs.out _ HB3.out).mono ?_;rintro e w4 ⟨rfl,hb⟩;have HB4:Hid (Below w2.heap.size w2 w4):=HB3.out.trans (hb.mono HB3.out.size);clear hb;clear c0 c1 c2 c3 c4 c5 c6 c7 c8 a0 a1 a2 a3 a4 a5 a6 a7 a8 a9 a10 a11 a12 a13 a14;obtain⟨⟨c0,c1,c2,c3,c4,c5,c6,c7,c8⟩,⟨a0,a1,a2,a3,a4,a5,a6,a7,a8,a9,a10,a11,a12,a13,a14⟩⟩:=HZ.out w4 HB4.out) | (go_at_call 51;refine(HTo.out _).mono ?_;rintro e w9 ⟨rfl,h9⟩;rw[h9];clear h9 w9) | fail)
            go_ret
            first | exact⟨_,rfl,HV.out,HB2.out.trans (HB4.out.mono HB2.out.size)⟩ | exact⟨_,rfl,HV.out,HB2.out.trans (HB3.out.mono HB2.out.size)⟩
          ·have q3:a.kind=3:=by omega
           have e2:((a.kind:Int) == 2)=false:=by simp[q2]
           have e3:((a.kind:Int) == 3)=true:=by simp[q3]
           clear hrb q1 q4 q5 q2 q3
           cases rb with
           | false =>
            go_wp2_with (first | (go_at_call 53;refine(HRt.out _).mono ?_;rintro e w4 ⟨rfl,hb⟩;have HB4:Hid (Below w2.heap.size w2 w4):=HB3.out.trans (hb.mono HB3.out.size);clear hb;clear c0 c1 c2 c3 c4 c5 c6 c7 c8 a0 a1 a2 a3 a4 a5 a6 a7 a8 a9 a10 a11 a12 a13 a14;obtain⟨⟨c0,c1,c2,c3,c4,c5,c6,c7,c8⟩,⟨a0,a1,a2,a3,a4,a5,a6,a7,a8,a9,a10,a11,a12,a13,a14⟩⟩:=HZ.out w4 HB4.out) | (go_at_call 54;refine(HRs.out _ HB3.out).mono ?_;rintro e w4 ⟨rfl,hb⟩;have HB4:Hid (Below w2.heap.size w2 w4):=HB3.out.trans (hb.mono HB3.out.size);clear hb;clear c0 c1 c2 c3 c4 c5 c6 c7 c8 a0 a1 a2 a3 a4 a5 a6 a7 a8 a9 a10 a11 a12 a13 a14;obtain⟨⟨c0,c1,c2,c3,c4,c5,c6,c7,c8⟩,⟨a0,a1,a2,a3,a4,a5,a6,a7,a8,a9,a10,a11,a12,a13,a14⟩⟩:=HZ.out w4 HB4.out) | (go_at_call 51;refine(HTo.out _).mono ?_;rintro e w9 ⟨rfl,h9⟩;rw[h9];clear h9 w9) | fail)
            go_ret
            first | exact⟨_,rfl,HV.out,HB2.out.trans (HB4.out.mono HB2.out.size)⟩ | exact⟨_,rfl,HV.out,HB2.out.trans (HB3.out.mono HB2.out.size)⟩
           | true =>
            go_wp2_with (first | (go_at_call 53;refine(HRt.out _).mono ?_;rintro e w4 ⟨rfl,hb⟩;have HB4:Hid (Below w2.heap.size w2 w4):=HB3.out.trans (hb.mono HB3.out.size);clear hb;clear c0 c1 c2 c3 c4 c5 c6 c7 c8 a0 a1 a2 a3 a4 a5 a6 a7 a8 a9 a10 a11 a12 a13 a14;obtain⟨⟨c0,c1,c2,c3,c4,c5,c6,c7,c8⟩,⟨a0,a1,a2,a3,a4,a5,a6,a7,a8,a9,a10,a11,a12,a13,a14⟩⟩:=HZ.out w4 HB4.out) | (go_at_call 54;refine(HRs.out _ HB3.out).mono ?_;rintro e w4 ⟨rfl,hb⟩;have HB4:Hid (Below w2.heap.size w2 w4):=HB3.out.trans (hb.mono HB3.out.size);clear hb;clear c0 c1 c2 c3 c4 c5 c6 c7 c8 a0 a1 a2 a3 a4 a5 a6 a7 a8 a9 a10 a11 a12 a13 a14;obtain⟨⟨c0,c1,c2,c3,c4,c5,c6,c7,c8⟩,⟨a0,a1,a2,a3,a4,a5,a6,a7,a8,a9,a10,a11,a12,a13,a14⟩⟩:=HZ.out w4 HB4.out) | (go_at_call 51;refine(HTo.out _).mono ?_;rintro e w9 ⟨rfl,h9⟩;rw[h9];clear h9 w9) | fail)
            go_ret
            first | exact⟨_,rfl,HV.out,HB2.out.trans (HB4.out.mono HB2.out.size)⟩ | exact⟨_,rfl,HV.out,HB2.out.trans (HB3.out.mono HB2.out.size)⟩
    ·rw[decide_eq_false t1]at HTi
     have HV:=hide (HCH.out (fun h=>t1 h.1))
     clear t1
     go_wp2_with (first | (go_at_call 51;refine(HTi.out _).mono ?_;rintro e w9 ⟨rfl,h9⟩;rw[h9];clear h9 w9) | fail)
     go_ret
     exact⟨82,rfl,HV.out,HB2.out.trans (HB3.out.mono HB2.out.size)⟩
end Go.Proofs.YtfbegfapoijbnaaGreat
