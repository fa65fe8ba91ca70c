import Derived.Test.YtfbegfapoijbnaaGreatFoA
set_option maxRecDepth 100000
namespace Go.Proofs.YtfbegfapoijbnaaGreat
open Go.RowKit
open Z (Sli SlOk Acd AcdOk CpS)
attribute [local go_sem] Oper.semAt_some
def onlyA (a:Acd):Acd :=
 if a.kind=1 then ⟨a.till,a.num,a.kind,a.sure,a.lines,a.guards,a.sets,a.mg,a.other,0,0,0,0,0,⟨none,0,0,[]⟩⟩
 else if a.kind=2∨a.kind=3 then ⟨a.till,a.num,a.kind,false,⟨none,0,0,[]⟩,⟨none,0,0,[]⟩,⟨none,0,0,[]⟩,0,⟨none,0,0,[]⟩,a.ra,a.rb,a.rd,0,0,⟨none,0,0,[]⟩⟩
 else if a.kind=4 then ⟨a.till,a.num,a.kind,false,⟨none,0,0,[]⟩,⟨none,0,0,[]⟩,⟨none,0,0,[]⟩,0,⟨none,0,0,[]⟩,a.ra,a.rb,a.rd,a.to,0,⟨none,0,0,[]⟩⟩
 else ⟨a.till,a.num,a.kind,false,⟨none,0,0,[]⟩,⟨none,0,0,[]⟩,⟨none,0,0,[]⟩,0,⟨none,0,0,[]⟩,0,0,0,0,a.gen,a.rights⟩
theorem onlyA_ok {w:World} {a:Acd} (h:AcdOk w a):AcdOk w (onlyA a):=by
 unfold onlyA
 split
 ·exact⟨h.lines,h.guards,h.sets,h.other,sl_nil _ _ _⟩
 ·split
  ·exact⟨sl_nil _ _ _,sl_nil _ _ _,sl_nil _ _ _,sl_nil _ _ _,sl_nil _ _ _⟩
  ·split
   ·exact⟨sl_nil _ _ _,sl_nil _ _ _,sl_nil _ _ _,sl_nil _ _ _,sl_nil _ _ _⟩
   ·exact⟨sl_nil _ _ _,sl_nil _ _ _,sl_nil _ _ _,sl_nil _ _ _,h.rights⟩
theorem on_boxes (w:World) (ty:TypeId) (A Z X:Array Value):∃w3,((w.alloc (.cells A ty)).alloc (.cells Z ty)).alloc (.cells X ty)=w3∧CpS w w3 ty A Z X:=by
 refine⟨_,rfl,⟨?_,?_,?_,?_⟩⟩
 ·rw[Below.heap_alloc _ _ _ (by simp only[World.size_alloc];omega),Below.heap_alloc _ _ _ (by simp)];exact heap_alloc_new _ _
 ·rw[Below.heap_alloc _ _ _ (by simp)];exact heap_alloc2_new _ _ _
 ·have h:=heap_alloc_new ((w.alloc (.cells A ty)).alloc (.cells Z ty)) (.cells X ty)
  simp only[World.size_alloc]at h
  exact h
 ·exact(((Below.refl _ w).alloc (Nat.le_refl _) _).alloc (by simp) _).alloc (by simp;omega) _
theorem cp_set {w W:World} {ty:TypeId} {A Z X:Array Value} (h:CpS w W ty A Z X) (i:Nat) (v:Value):CpS w (W.setCell ⟨w.heap.size+1+1,i,none⟩ v) ty A Z (X.setIfInBounds i v) :=
 ⟨(heap_setCell_other _ _ _ _ (by show w.heap.size≠w.heap.size+1+1;omega)).trans h.a,(heap_setCell_other _ _ _ _ (by show w.heap.size+1≠w.heap.size+1+1;omega)).trans h.z,heap_setCell_same _ _ _ _ _ _ h.x,h.bel.setCell (p:=⟨w.heap.size+1+1,i,none⟩) (by show w.heap.size≤w.heap.size+1+1;omega) _⟩
set_option maxHeartbeats 4000000 in
theorem only1_any (w:World) (a:Acd):Calls Tryz.prog 50 #[.agg #[.int .i64 a.till,.int .u64 a.num,.int .i64 1,.bool a.sure,.slice a.lines.p a.lines.n a.lines.c,.slice a.guards.p a.guards.n a.guards.c,.slice a.sets.p a.sets.n a.sets.c,.int .i64 a.mg,.slice a.other.p a.other.n a.other.c,.int .i64 a.ra,.int .i64 a.rb,.int .i64 a.rd,.int .i64 a.to,.int .u64 a.gen,.slice a.rights.p a.rights.n a.rights.c]] w fun e w'=>e=.returned (.agg #[.int .i64 a.till,.int .u64 a.num,.int .i64 1,.bool a.sure,.slice a.lines.p a.lines.n a.lines.c,.slice a.guards.p a.guards.n a.guards.c,.slice a.sets.p a.sets.n a.sets.c,.int .i64 a.mg,.slice a.other.p a.other.n a.other.c,.int .i64 0,.int .i64 0,.int .i64 0,.int .i64 0,.int .u64 0,.slice none 0 0])∧Below w.heap.size w w':=by
 obtain⟨w3,hw3,hC⟩:=on_boxes w 56 #[.int .i64 a.till,.int .u64 a.num,.int .i64 1,.bool a.sure,.slice a.lines.p a.lines.n a.lines.c,.slice a.guards.p a.guards.n a.guards.c,.slice a.sets.p a.sets.n a.sets.c,.int .i64 a.mg,.slice a.other.p a.other.n a.other.c,.int .i64 a.ra,.int .i64 a.rb,.int .i64 a.rd,.int .i64 a.to,.int .u64 a.gen,.slice a.rights.p a.rights.n a.rights.c] #[.int .i64 0,.int .u64 0,.int .i64 0,.bool false,.slice none 0 0,.slice none 0 0,.slice none 0 0,.int .i64 0,.slice none 0 0,.int .i64 0,.int .i64 0,.int .i64 0,.int .i64 0,.int .u64 0,.slice none 0 0] #[.int .i64 a.till,.int .u64 a.num,.int .i64 1,.bool false,.slice none 0 0,.slice none 0 0,.slice none 0 0,.int .i64 0,.slice none 0 0,.int .i64 0,.int .i64 0,.int .i64 0,.int .i64 0,.int .u64 0,.slice none 0 0]
 have HW3:=hide hw3
 have HC0:=hide hC
 have hA:((w.alloc (.cells #[.int .i64 a.till,.int .u64 a.num,.int .i64 1,.bool a.sure,.slice a.lines.p a.lines.n a.lines.c,.slice a.guards.p a.guards.n a.guards.c,.slice a.sets.p a.sets.n a.sets.c,.int .i64 a.mg,.slice a.other.p a.other.n a.other.c,.int .i64 a.ra,.int .i64 a.rb,.int .i64 a.rd,.int .i64 a.to,.int .u64 a.gen,.slice a.rights.p a.rights.n a.rights.c] 56)).alloc (.cells #[.int .i64 0,.int .u64 0,.int .i64 0,.bool false,.slice none 0 0,.slice none 0 0,.slice none 0 0,.int .i64 0,.slice none 0 0,.int .i64 0,.int .i64 0,.int .i64 0,.int .i64 0,.int .u64 0,.slice none 0 0] 56)).heap[w.heap.size]?=some (.cells #[.int .i64 a.till,.int .u64 a.num,.int .i64 1,.bool a.sure,.slice a.lines.p a.lines.n a.lines.c,.slice a.guards.p a.guards.n a.guards.c,.slice a.sets.p a.sets.n a.sets.c,.int .i64 a.mg,.slice a.other.p a.other.n a.other.c,.int .i64 a.ra,.int .i64 a.rb,.int .i64 a.rd,.int .i64 a.to,.int .u64 a.gen,.slice a.rights.p a.rights.n a.rights.c] 56 (0,0)):=by rw[Below.heap_alloc _ _ _ (by simp)];exact heap_alloc_new _ _
 obtain⟨b0,b1,b2,-,-,-,-,-,-,-,-,-,-,-,-⟩:=ac15 hA
 clear hw3 hC hA
 go_enter Tryz.func50,Tryz.ntmps50
 go_upto_region 2 with (fail)
 rw[HW3.out]
 clear b0 b1 b2
 obtain⟨p0,p1,p2,p3,p4,p5,p6,p7,p8,p9,p10,p11,p12,p13,p14⟩:=ac15 HC0.out.a
 obtain⟨q0,q1,q2,q3,q4,q5,q6,q7,q8,q9,q10,q11,q12,q13,q14⟩:=ac15 HC0.out.x
 have ct:=RB.bk_thaw HC0.out.x
 go_upto_region 5 with (fail)
 obtain⟨u0,hu0⟩:∃u,(w3.setCell ⟨w.heap.size+1+1,3,none⟩ (.bool a.sure))=u:=⟨_,rfl⟩
 rw[hu0]
 have HC1:Hid (CpS w u0 56 #[.int .i64 a.till,.int .u64 a.num,.int .i64 1,.bool a.sure,.slice a.lines.p a.lines.n a.lines.c,.slice a.guards.p a.guards.n a.guards.c,.slice a.sets.p a.sets.n a.sets.c,.int .i64 a.mg,.slice a.other.p a.other.n a.other.c,.int .i64 a.ra,.int .i64 a.rb,.int .i64 a.rd,.int .i64 a.to,.int .u64 a.gen,.slice a.rights.p a.rights.n a.rights.c] #[.int .i64 0,.int .u64 0,.int .i64 0,.bool false,.slice none 0 0,.slice none 0 0,.slice none 0 0,.int .i64 0,.slice none 0 0,.int .i64 0,.int .i64 0,.int .i64 0,.int .i64 0,.int .u64 0,.slice none 0 0] #[.int .i64 a.till,.int .u64 a.num,.int .i64 1,.bool a.sure,.slice none 0 0,.slice none 0 0,.slice none 0 0,.int .i64 0,.slice none 0 0,.int .i64 0,.int .i64 0,.int .i64 0,.int .i64 0,.int .u64 0,.slice none 0 0]):=by show CpS _ _ _ _ _ _;rw[←hu0];exact cp_set (HC0.out) 3 (.bool a.sure)
 clear hu0 ct p0 p1 p2 p3 p4 p5 p6 p7 p8 p9 p10 p11 p12 p13 p14 q0 q1 q2 q3 q4 q5 q6 q7 q8 q9 q10 q11 q12 q13 q14
 obtain⟨p0,p1,p2,p3,p4,p5,p6,p7,p8,p9,p10,p11,p12,p13,p14⟩:=ac15 HC1.out.a
 obtain⟨q0,q1,q2,q3,q4,q5,q6,q7,q8,q9,q10,q11,q12,q13,q14⟩:=ac15 HC1.out.x
 have ct:=RB.bk_thaw HC1.out.x
 go_upto_region 6 with (fail)
 obtain⟨u1,hu1⟩:∃u,(u0.setCell ⟨w.heap.size+1+1,4,none⟩ (.slice a.lines.p a.lines.n a.lines.c))=u:=⟨_,rfl⟩
 rw[hu1]
 have HC2:Hid (CpS w u1 56 #[.int .i64 a.till,.int .u64 a.num,.int .i64 1,.bool a.sure,.slice a.lines.p a.lines.n a.lines.c,.slice a.guards.p a.guards.n a.guards.c,.slice a.sets.p a.sets.n a.sets.c,.int .i64 a.mg,.slice a.other.p a.other.n a.other.c,.int .i64 a.ra,.int .i64 a.rb,.int .i64 a.rd,.int .i64 a.to,.int .u64 a.gen,.slice a.rights.p a.rights.n a.rights.c] #[.int .i64 0,.int .u64 0,.int .i64 0,.bool false,.slice none 0 0,.slice none 0 0,.slice none 0 0,.int .i64 0,.slice none 0 0,.int .i64 0,.int .i64 0,.int .i64 0,.int .i64 0,.int .u64 0,.slice none 0 0] #[.int .i64 a.till,.int .u64 a.num,.int .i64 1,.bool a.sure,.slice a.lines.p a.lines.n a.lines.c,.slice none 0 0,.slice none 0 0,.int .i64 0,.slice none 0 0,.int .i64 0,.int .i64 0,.int .i64 0,.int .i64 0,.int .u64 0,.slice none 0 0]):=by show CpS _ _ _ _ _ _;rw[←hu1];exact cp_set (HC1.out) 4 (.slice a.lines.p a.lines.n a.lines.c)
 clear hu1 ct p0 p1 p2 p3 p4 p5 p6 p7 p8 p9 p10 p11 p12 p13 p14 q0 q1 q2 q3 q4 q5 q6 q7 q8 q9 q10 q11 q12 q13 q14
 obtain⟨p0,p1,p2,p3,p4,p5,p6,p7,p8,p9,p10,p11,p12,p13,p14⟩:=ac15 HC2.out.a
 obtain⟨q0,q1,q2,q3,q4,q5,q6,q7,q8,q9,q10,q11,q12,q13,q14⟩:=ac15 HC2.out.x
 have ct:=RB.bk_thaw HC2.out.x
 go_upto_region 7 with (fail)
 obtain⟨u2,hu2⟩:∃u,(u1.setCell ⟨w.heap.size+1+1,5,none⟩ (.slice a.guards.p a.guards.n a.guards.c))=u:=⟨_,rfl⟩
 rw[hu2]
 have HC3:Hid (CpS w u2 56 #[.int .i64 a.till,.int .u64 a.num,.int .i64 1,.bool a.sure,.slice a.lines.p a.lines.n a.lines.c,.slice a.guards.p a.guards.n a.guards.c,.slice a.sets.p a.sets.n a.sets.c,.int .i64 a.mg,.slice a.other.p a.other.n a.other.c,.int .i64 a.ra,.int .i64 a.rb,.int .i64 a.rd,.int .i64 a.to,.int .u64 a.gen,.slice a.rights.p a.rights.n a.rights.c] #[.int .i64 0,.int .u64 0,.int .i64 0,.bool false,.slice none 0 0,.slice none 0 0,.slice none 0 0,.int .i64 0,.slice none 0 0,.int .i64 0,.int .i64 0,.int .i64 0,.int .i64 0,.int .u64 0,.slice none 0 0] #[.int .i64 a.till,.int .u64 a.num,.int .i64 1,.bool a.sure,.slice a.lines.p a.lines.n a.lines.c,.slice a.guards.p a.guards.n a.guards.c,.slice none 0 0,.int .i64 0,.slice none 0 0,.int .i64 0,.int .i64 0,.int .i64 0,.int .i64 0,.int .u64 0,.slice none 0 0]):=by show CpS _ _ _ _ _ _;rw[←hu2];exact cp_set (HC2.out) 5 (.slice a.guards.p a.guards.n a.guards.c)
 clear hu2 ct p0 p1 p2 p3 p4 p5 p6 p7 p8 p9 p10 p11 p12 p13 p14 q0 q1 q2 q3 q4 q5 q6 q7 q8 q9 q10 q11 q12 q13 q14
 obtain⟨p0,p1,p2,p3,p4,p5,p6,p7,p8,p9,p10,p11,p12,p13,p14⟩:=ac15 HC3.out.a
 obtain⟨q0,q1,q2,q3,q4,q5,q6,q7,q8,q9,q10,q11,q12,q13,q14⟩:=ac15 HC3.out.x
 have ct:=RB.bk_thaw HC3.out.x
 go_upto_region 8 with (fail)
 obtain⟨u3,hu3⟩:∃u,(u2.setCell ⟨w.heap.size+1+1,6,none⟩ (.slice a.sets.p a.sets.n a.sets.c))=u:=⟨_,rfl⟩
 rw[hu3]
 have HC4:Hid (CpS w u3 56 #[.int .i64 a.till,.int .u64 a.num,.int .i64 1,.bool a.sure,.slice a.lines.p a.lines.n a.lines.c,.slice a.guards.p a.guards.n a.guards.c,.slice a.sets.p a.sets.n a.sets.c,.int .i64 a.mg,.slice a.other.p a.other.n a.other.c,.int .i64 a.ra,.int .i64 a.rb,.int .i64 a.rd,.int .i64 a.to,.int .u64 a.gen,.slice a.rights.p a.rights.n a.rights.c] #[.int .i64 0,.int .u64 0,.int .i64 0,.bool false,.slice none 0 0,.slice none 0 0,.slice none 0 0,.int .i64 0,.slice none 0 0,.int .i64 0,.int .i64 0,.int .i64 0,.int .i64 0,.int .u64 0,.slice none 0 0] #[.int .i64 a.till,.int .u64 a.num,.int .i64 1,.bool a.sure,.slice a.lines.p a.lines.n a.lines.c,.slice a.guards.p a.guards.n a.guards.c,.slice a.sets.p a.sets.n a.sets.c,.int .i64 0,.slice none 0 0,.int .i64 0,.int .i64 0,.int .i64 0,.int .i64 0,.int .u64 0,.slice none 0 0]):=by show CpS _ _ _ _ _ _;rw[←hu3];exact cp_set (HC3.out) 6 (.slice a.sets.p a.sets.n a.sets.c)
 clear hu3 ct p0 p1 p2 p3 p4 p5 p6 p7 p8 p9 p10 p11 p12 p13 p14 q0 q1 q2 q3 q4 q5 q6 q7 q8 q9 q10 q11 q12 q13 q14
 obtain⟨p0,p1,p2,p3,p4,p5,p6,p7,p8,p9,p10,p11,p12,p13,p14⟩:=ac15 HC4.out.a
 obtain⟨q0,q1,q2,q3,q4,q5,q6,q7,q8,q9,q10,q11,q12,q13,q14⟩:=ac15 HC4.out.x
 have ct:=RB.bk_thaw HC4.out.x
 go_upto_region 18 with (fail)
 obtain⟨u4,hu4⟩:∃u,((u3.setCell ⟨w.heap.size+1+1,7,none⟩ (.int .i64 a.mg)).setCell ⟨w.heap.size+1+1,8,none⟩ (.slice a.other.p a.other.n a.other.c))=u:=⟨_,rfl⟩
 rw[hu4]
 have HC5:Hid (CpS w u4 56 #[.int .i64 a.till,.int .u64 a.num,.int .i64 1,.bool a.sure,.slice a.lines.p a.lines.n a.lines.c,.slice a.guards.p a.guards.n a.guards.c,.slice a.sets.p a.sets.n a.sets.c,.int .i64 a.mg,.slice a.other.p a.other.n a.other.c,.int .i64 a.ra,.int .i64 a.rb,.int .i64 a.rd,.int .i64 a.to,.int .u64 a.gen,.slice a.rights.p a.rights.n a.rights.c] #[.int .i64 0,.int .u64 0,.int .i64 0,.bool false,.slice none 0 0,.slice none 0 0,.slice none 0 0,.int .i64 0,.slice none 0 0,.int .i64 0,.int .i64 0,.int .i64 0,.int .i64 0,.int .u64 0,.slice none 0 0] #[.int .i64 a.till,.int .u64 a.num,.int .i64 1,.bool a.sure,.slice a.lines.p a.lines.n a.lines.c,.slice a.guards.p a.guards.n a.guards.c,.slice a.sets.p a.sets.n a.sets.c,.int .i64 a.mg,.slice a.other.p a.other.n a.other.c,.int .i64 0,.int .i64 0,.int .i64 0,.int .i64 0,.int .u64 0,.slice none 0 0]):=by show CpS _ _ _ _ _ _;rw[←hu4];exact cp_set (cp_set (HC4.out) 7 (.int .i64 a.mg)) 8 (.slice a.other.p a.other.n a.other.c)
 clear hu4 ct p0 p1 p2 p3 p4 p5 p6 p7 p8 p9 p10 p11 p12 p13 p14 q0 q1 q2 q3 q4 q5 q6 q7 q8 q9 q10 q11 q12 q13 q14
 obtain⟨X,hX⟩:∃X:Array Value,#[.int .i64 a.till,.int .u64 a.num,.int .i64 1,.bool a.sure,.slice a.lines.p a.lines.n a.lines.c,.slice a.guards.p a.guards.n a.guards.c,.slice a.sets.p a.sets.n a.sets.c,.int .i64 a.mg,.slice a.other.p a.other.n a.other.c,.int .i64 0,.int .i64 0,.int .i64 0,.int .i64 0,.int .u64 0,.slice none 0 0]=X:=⟨_,rfl⟩
 have HXs:Hid (X.size=15):=by show _=_;rw[←hX];rfl
 have HXo:Hid (X.all (·.oneCell')=true):=by show _=_;rw[←hX];simp[Value.oneCell']
 have HL:=hide (Z.loadAt_row (P:=Tryz.prog) (ty:=56) HC5.out.x Tryz.underlying56 rfl (by kernel_rfl))
 have HS:=hide (Z.storeAt_row (P:=Tryz.prog) (c':=X) HC5.out.z (by rw[HXs.out];exact Z.Tryz.sizeA) (by rw[HXs.out];rfl) HXo.out)
 have HE:Hid ((u4.setRow (w.heap.size+1) X).heap[w.heap.size+1]?=some (.cells X 56 (0,0))∧Below w.heap.size w (u4.setRow (w.heap.size+1) X)):=⟨setRow_heap _ _ _ _ _ _ HC5.out.z,below_setRow HC5.out.bel (by omega) X⟩
 rw[hX]at HL
 have HXe:=hide hX
 clear hX
 go_wp2_with (first | ((with_reducible show wpList _ _ _ (⟨_,.load 56 (.tmp 3),_,_,_,_⟩ :: _) _ _);refine Z.lp_load (w.heap.size+1+1) 0 X rfl HL.out ?_) | ((with_reducible show wpList _ _ _ (⟨_,.store 56 (.tmp 2) _,_,_,_,_⟩ :: _) _ _);refine Z.lp_store (t:=56) (x:=.tmp 2) (some ⟨w.heap.size+1,0,none⟩) (.agg X) rfl rfl HS.out ?_))
 refine bodyPost_ret (results_cell_row rfl _ _ (w.heap.size+1) 56 X (0,0) _ rfl HE.out.1 Tryz.underlying56 rfl (by rw[HXs.out];exact Z.Tryz.sizeA)) rfl ?_
 exact⟨by rw[HXe.out],HE.out.2⟩
set_option maxHeartbeats 4000000 in
theorem only2_any (w:World) (a:Acd):Calls Tryz.prog 50 #[.agg #[.int .i64 a.till,.int .u64 a.num,.int .i64 2,.bool a.sure,.slice a.lines.p a.lines.n a.lines.c,.slice a.guards.p a.guards.n a.guards.c,.slice a.sets.p a.sets.n a.sets.c,.int .i64 a.mg,.slice a.other.p a.other.n a.other.c,.int .i64 a.ra,.int .i64 a.rb,.int .i64 a.rd,.int .i64 a.to,.int .u64 a.gen,.slice a.rights.p a.rights.n a.rights.c]] w fun e w'=>e=.returned (.agg #[.int .i64 a.till,.int .u64 a.num,.int .i64 2,.bool false,.slice none 0 0,.slice none 0 0,.slice none 0 0,.int .i64 0,.slice none 0 0,.int .i64 a.ra,.int .i64 a.rb,.int .i64 a.rd,.int .i64 0,.int .u64 0,.slice none 0 0])∧Below w.heap.size w w':=by
 obtain⟨w3,hw3,hC⟩:=on_boxes w 56 #[.int .i64 a.till,.int .u64 a.num,.int .i64 2,.bool a.sure,.slice a.lines.p a.lines.n a.lines.c,.slice a.guards.p a.guards.n a.guards.c,.slice a.sets.p a.sets.n a.sets.c,.int .i64 a.mg,.slice a.other.p a.other.n a.other.c,.int .i64 a.ra,.int .i64 a.rb,.int .i64 a.rd,.int .i64 a.to,.int .u64 a.gen,.slice a.rights.p a.rights.n a.rights.c] #[.int .i64 0,.int .u64 0,.int .i64 0,.bool false,.slice none 0 0,.slice none 0 0,.slice none 0 0,.int .i64 0,.slice none 0 0,.int .i64 0,.int .i64 0,.int .i64 0,.int .i64 0,.int .u64 0,.slice none 0 0] #[.int .i64 a.till,.int .u64 a.num,.int .i64 2,.bool false,.slice none 0 0,.slice none 0 0,.slice none 0 0,.int .i64 0,.slice none 0 0,.int .i64 0,.int .i64 0,.int .i64 0,.int .i64 0,.int .u64 0,.slice none 0 0]
 have HW3:=hide hw3
 have HC0:=hide hC
 have hA:((w.alloc (.cells #[.int .i64 a.till,.int .u64 a.num,.int .i64 2,.bool a.sure,.slice a.lines.p a.lines.n a.lines.c,.slice a.guards.p a.guards.n a.guards.c,.slice a.sets.p a.sets.n a.sets.c,.int .i64 a.mg,.slice a.other.p a.other.n a.other.c,.int .i64 a.ra,.int .i64 a.rb,.int .i64 a.rd,.int .i64 a.to,.int .u64 a.gen,.slice a.rights.p a.rights.n a.rights.c] 56)).alloc (.cells #[.int .i64 0,.int .u64 0,.int .i64 0,.bool false,.slice none 0 0,.slice none 0 0,.slice none 0 0,.int .i64 0,.slice none 0 0,.int .i64 0,.int .i64 0,.int .i64 0,.int .i64 0,.int .u64 0,.slice none 0 0] 56)).heap[w.heap.size]?=some (.cells #[.int .i64 a.till,.int .u64 a.num,.int .i64 2,.bool a.sure,.slice a.lines.p a.lines.n a.lines.c,.slice a.guards.p a.guards.n a.guards.c,.slice a.sets.p a.sets.n a.sets.c,.int .i64 a.mg,.slice a.other.p a.other.n a.other.c,.int .i64 a.ra,.int .i64 a.rb,.int .i64 a.rd,.int .i64 a.to,.int .u64 a.gen,.slice a.rights.p a.rights.n a.rights.c] 56 (0,0)):=by rw[Below.heap_alloc _ _ _ (by simp)];exact heap_alloc_new _ _
 obtain⟨b0,b1,b2,-,-,-,-,-,-,-,-,-,-,-,-⟩:=ac15 hA
 clear hw3 hC hA
 go_enter Tryz.func50,Tryz.ntmps50
 go_upto_region 2 with (fail)
 rw[HW3.out]
 clear b0 b1 b2
 obtain⟨p0,p1,p2,p3,p4,p5,p6,p7,p8,p9,p10,p11,p12,p13,p14⟩:=ac15 HC0.out.a
 obtain⟨q0,q1,q2,q3,q4,q5,q6,q7,q8,q9,q10,q11,q12,q13,q14⟩:=ac15 HC0.out.x
 have ct:=RB.bk_thaw HC0.out.x
 go_upto_region 18 with (fail)
 obtain⟨u0,hu0⟩:∃u,(((w3.setCell ⟨w.heap.size+1+1,9,none⟩ (.int .i64 a.ra)).setCell ⟨w.heap.size+1+1,10,none⟩ (.int .i64 a.rb)).setCell ⟨w.heap.size+1+1,11,none⟩ (.int .i64 a.rd))=u:=⟨_,rfl⟩
 rw[hu0]
 have HC1:Hid (CpS w u0 56 #[.int .i64 a.till,.int .u64 a.num,.int .i64 2,.bool a.sure,.slice a.lines.p a.lines.n a.lines.c,.slice a.guards.p a.guards.n a.guards.c,.slice a.sets.p a.sets.n a.sets.c,.int .i64 a.mg,.slice a.other.p a.other.n a.other.c,.int .i64 a.ra,.int .i64 a.rb,.int .i64 a.rd,.int .i64 a.to,.int .u64 a.gen,.slice a.rights.p a.rights.n a.rights.c] #[.int .i64 0,.int .u64 0,.int .i64 0,.bool false,.slice none 0 0,.slice none 0 0,.slice none 0 0,.int .i64 0,.slice none 0 0,.int .i64 0,.int .i64 0,.int .i64 0,.int .i64 0,.int .u64 0,.slice none 0 0] #[.int .i64 a.till,.int .u64 a.num,.int .i64 2,.bool false,.slice none 0 0,.slice none 0 0,.slice none 0 0,.int .i64 0,.slice none 0 0,.int .i64 a.ra,.int .i64 a.rb,.int .i64 a.rd,.int .i64 0,.int .u64 0,.slice none 0 0]):=by show CpS _ _ _ _ _ _;rw[←hu0];exact cp_set (cp_set (cp_set (HC0.out) 9 (.int .i64 a.ra)) 10 (.int .i64 a.rb)) 11 (.int .i64 a.rd)
 clear hu0 ct p0 p1 p2 p3 p4 p5 p6 p7 p8 p9 p10 p11 p12 p13 p14 q0 q1 q2 q3 q4 q5 q6 q7 q8 q9 q10 q11 q12 q13 q14
 obtain⟨X,hX⟩:∃X:Array Value,#[.int .i64 a.till,.int .u64 a.num,.int .i64 2,.bool false,.slice none 0 0,.slice none 0 0,.slice none 0 0,.int .i64 0,.slice none 0 0,.int .i64 a.ra,.int .i64 a.rb,.int .i64 a.rd,.int .i64 0,.int .u64 0,.slice none 0 0]=X:=⟨_,rfl⟩
 have HXs:Hid (X.size=15):=by show _=_;rw[←hX];rfl
 have HXo:Hid (X.all (·.oneCell')=true):=by show _=_;rw[←hX];simp[Value.oneCell']
 have HL:=hide (Z.loadAt_row (P:=Tryz.prog) (ty:=56) HC1.out.x Tryz.underlying56 rfl (by kernel_rfl))
 have HS:=hide (Z.storeAt_row (P:=Tryz.prog) (c':=X) HC1.out.z (by rw[HXs.out];exact Z.Tryz.sizeA) (by rw[HXs.out];rfl) HXo.out)
 have HE:Hid ((u0.setRow (w.heap.size+1) X).heap[w.heap.size+1]?=some (.cells X 56 (0,0))∧Below w.heap.size w (u0.setRow (w.heap.size+1) X)):=⟨setRow_heap _ _ _ _ _ _ HC1.out.z,below_setRow HC1.out.bel (by omega) X⟩
 rw[hX]at HL
 have HXe:=hide hX
 clear hX
 go_wp2_with (first | ((with_reducible show wpList _ _ _ (⟨_,.load 56 (.tmp 3),_,_,_,_⟩ :: _) _ _);refine Z.lp_load (w.heap.size+1+1) 0 X rfl HL.out ?_) | ((with_reducible show wpList _ _ _ (⟨_,.store 56 (.tmp 2) _,_,_,_,_⟩ :: _) _ _);refine Z.lp_store (t:=56) (x:=.tmp 2) (some ⟨w.heap.size+1,0,none⟩) (.agg X) rfl rfl HS.out ?_))
 refine bodyPost_ret (results_cell_row rfl _ _ (w.heap.size+1) 56 X (0,0) _ rfl HE.out.1 Tryz.underlying56 rfl (by rw[HXs.out];exact Z.Tryz.sizeA)) rfl ?_
 exact⟨by rw[HXe.out],HE.out.2⟩
set_option maxHeartbeats 4000000 in
theorem only3_any (w:World) (a:Acd):Calls Tryz.prog 50 #[.agg #[.int .i64 a.till,.int .u64 a.num,.int .i64 3,.bool a.sure,.slice a.lines.p a.lines.n a.lines.c,.slice a.guards.p a.guards.n a.guards.c,.slice a.sets.p a.sets.n a.sets.c,.int .i64 a.mg,.slice a.other.p a.other.n a.other.c,.int .i64 a.ra,.int .i64 a.rb,.int .i64 a.rd,.int .i64 a.to,.int .u64 a.gen,.slice a.rights.p a.rights.n a.rights.c]] w fun e w'=>e=.returned (.agg #[.int .i64 a.till,.int .u64 a.num,.int .i64 3,.bool false,.slice none 0 0,.slice none 0 0,.slice none 0 0,.int .i64 0,.slice none 0 0,.int .i64 a.ra,.int .i64 a.rb,.int .i64 a.rd,.int .i64 0,.int .u64 0,.slice none 0 0])∧Below w.heap.size w w':=by
 obtain⟨w3,hw3,hC⟩:=on_boxes w 56 #[.int .i64 a.till,.int .u64 a.num,.int .i64 3,.bool a.sure,.slice a.lines.p a.lines.n a.lines.c,.slice a.guards.p a.guards.n a.guards.c,.slice a.sets.p a.sets.n a.sets.c,.int .i64 a.mg,.slice a.other.p a.other.n a.other.c,.int .i64 a.ra,.int .i64 a.rb,.int .i64 a.rd,.int .i64 a.to,.int .u64 a.gen,.slice a.rights.p a.rights.n a.rights.c] #[.int .i64 0,.int .u64 0,.int .i64 0,.bool false,.slice none 0 0,.slice none 0 0,.slice none 0 0,.int .i64 0,.slice none 0 0,.int .i64 0,.int .i64 0,.int .i64 0,.int .i64 0,.int .u64 0,.slice none 0 0] #[.int .i64 a.till,.int .u64 a.num,.int .i64 3,.bool false,.slice none 0 0,.slice none 0 0,.slice none 0 0,.int .i64 0,.slice none 0 0,.int .i64 0,.int .i64 0,.int .i64 0,.int .i64 0,.int .u64 0,.slice none 0 0]
 have HW3:=hide hw3
 have HC0:=hide hC
 have hA:((w.alloc (.cells #[.int .i64 a.till,.int .u64 a.num,.int .i64 3,.bool a.sure,.slice a.lines.p a.lines.n a.lines.c,.slice a.guards.p a.guards.n a.guards.c,.slice a.sets.p a.sets.n a.sets.c,.int .i64 a.mg,.slice a.other.p a.other.n a.other.c,.int .i64 a.ra,.int .i64 a.rb,.int .i64 a.rd,.int .i64 a.to,.int .u64 a.gen,.slice a.rights.p a.rights.n a.rights.c] 56)).alloc (.cells #[.int .i64 0,.int .u64 0,.int .i64 0,.bool false,.slice none 0 0,.slice none 0 0,.slice none 0 0,.int .i64 0,.slice none 0 0,.int .i64 0,.int .i64 0,.int .i64 0,.int .i64 0,.int .u64 0,.slice none 0 0] 56)).heap[w.heap.size]?=some (.cells #[.int .i64 a.till,.int .u64 a.num,.int .i64 3,.bool a.sure,.slice a.lines.p a.lines.n a.lines.c,.slice a.guards.p a.guards.n a.guards.c,.slice a.sets.p a.sets.n a.sets.c,.int .i64 a.mg,.slice a.other.p a.other.n a.other.c,.int .i64 a.ra,.int .i64 a.rb,.int .i64 a.rd,.int .i64 a.to,.int .u64 a.gen,.slice a.rights.p a.rights.n a.rights.c] 56 (0,0)):=by rw[Below.heap_alloc _ _ _ (by simp)];exact heap_alloc_new _ _
 obtain⟨b0,b1,b2,-,-,-,-,-,-,-,-,-,-,-,-⟩:=ac15 hA
 clear hw3 hC hA
 go_enter Tryz.func50,Tryz.ntmps50
 go_upto_region 2 with (fail)
 rw[HW3.out]
 clear b0 b1 b2
 obtain⟨p0,p1,p2,p3,p4,p5,p6,p7,p8,p9,p10,p11,p12,p13,p14⟩:=ac15 HC0.out.a
 obtain⟨q0,q1,q2,q3,q4,q5,q6,q7,q8,q9,q10,q11,q12,q13,q14⟩:=ac15 HC0.out.x
 have ct:=RB.bk_thaw HC0.out.x
 go_upto_region 18 with (fail)
 obtain⟨u0,hu0⟩:∃u,(((w3.setCell ⟨w.heap.size+1+1,9,none⟩ (.int .i64 a.ra)).setCell ⟨w.heap.size+1+1,10,none⟩ (.int .i64 a.rb)).setCell ⟨w.heap.size+1+1,11,none⟩ (.int .i64 a.rd))=u:=⟨_,rfl⟩
 rw[hu0]
 have HC1:Hid (CpS w u0 56 #[.int .i64 a.till,.int .u64 a.num,.int .i64 3,.bool a.sure,.slice a.lines.p a.lines.n a.lines.c,.slice a.guards.p a.guards.n a.guards.c,.slice a.sets.p a.sets.n a.sets.c,.int .i64 a.mg,.slice a.other.p a.other.n a.other.c,.int .i64 a.ra,.int .i64 a.rb,.int .i64 a.rd,.int .i64 a.to,.int .u64 a.gen,.slice a.rights.p a.rights.n a.rights.c] #[.int .i64 0,.int .u64 0,.int .i64 0,.bool false,.slice none 0 0,.slice none 0 0,.slice none 0 0,.int .i64 0,.slice none 0 0,.int .i64 0,.int .i64 0,.int .i64 0,.int .i64 0,.int .u64 0,.slice none 0 0] #[.int .i64 a.till,.int .u64 a.num,.int .i64 3,.bool false,.slice none 0 0,.slice none 0 0,.slice none 0 0,.int .i64 0,.slice none 0 0,.int .i64 a.ra,.int .i64 a.rb,.int .i64 a.rd,.int .i64 0,.int .u64 0,.slice none 0 0]):=by show CpS _ _ _ _ _ _;rw[←hu0];exact cp_set (cp_set (cp_set (HC0.out) 9 (.int .i64 a.ra)) 10 (.int .i64 a.rb)) 11 (.int .i64 a.rd)
 clear hu0 ct p0 p1 p2 p3 p4 p5 p6 p7 p8 p9 p10 p11 p12 p13 p14 q0 q1 q2 q3 q4 q5 q6 q7 q8 q9 q10 q11 q12 q13 q14
 obtain⟨X,hX⟩:∃X:Array Value,#[.int .i64 a.till,.int .u64 a.num,.int .i64 3,.bool false,.slice none 0 0,.slice none 0 0,.slice none 0 0,.int .i64 0,.slice none 0 0,.int .i64 a.ra,.int .i64 a.rb,.int .i64 a.rd,.int .i64 0,.int .u64 0,.slice none 0 0]=X:=⟨_,rfl⟩
 have HXs:Hid (X.size=15):=by show _=_;rw[←hX];rfl
 have HXo:Hid (X.all (·.oneCell')=true):=by show _=_;rw[←hX];simp[Value.oneCell']
 have HL:=hide (Z.loadAt_row (P:=Tryz.prog) (ty:=56) HC1.out.x Tryz.underlying56 rfl (by kernel_rfl))
 have HS:=hide (Z.storeAt_row (P:=Tryz.prog) (c':=X) HC1.out.z (by rw[HXs.out];exact Z.Tryz.sizeA) (by rw[HXs.out];rfl) HXo.out)
 have HE:Hid ((u0.setRow (w.heap.size+1) X).heap[w.heap.size+1]?=some (.cells X 56 (0,0))∧Below w.heap.size w (u0.setRow (w.heap.size+1) X)):=⟨setRow_heap _ _ _ _ _ _ HC1.out.z,below_setRow HC1.out.bel (by omega) X⟩
 rw[hX]at HL
 have HXe:=hide hX
 clear hX
 go_wp2_with (first | ((with_reducible show wpList _ _ _ (⟨_,.load 56 (.tmp 3),_,_,_,_⟩ :: _) _ _);refine Z.lp_load (w.heap.size+1+1) 0 X rfl HL.out ?_) | ((with_reducible show wpList _ _ _ (⟨_,.store 56 (.tmp 2) _,_,_,_,_⟩ :: _) _ _);refine Z.lp_store (t:=56) (x:=.tmp 2) (some ⟨w.heap.size+1,0,none⟩) (.agg X) rfl rfl HS.out ?_))
 refine bodyPost_ret (results_cell_row rfl _ _ (w.heap.size+1) 56 X (0,0) _ rfl HE.out.1 Tryz.underlying56 rfl (by rw[HXs.out];exact Z.Tryz.sizeA)) rfl ?_
 exact⟨by rw[HXe.out],HE.out.2⟩
set_option maxHeartbeats 4000000 in
theorem only4_any (w:World) (a:Acd):Calls Tryz.prog 50 #[.agg #[.int .i64 a.till,.int .u64 a.num,.int .i64 4,.bool a.sure,.slice a.lines.p a.lines.n a.lines.c,.slice a.guards.p a.guards.n a.guards.c,.slice a.sets.p a.sets.n a.sets.c,.int .i64 a.mg,.slice a.other.p a.other.n a.other.c,.int .i64 a.ra,.int .i64 a.rb,.int .i64 a.rd,.int .i64 a.to,.int .u64 a.gen,.slice a.rights.p a.rights.n a.rights.c]] w fun e w'=>e=.returned (.agg #[.int .i64 a.till,.int .u64 a.num,.int .i64 4,.bool false,.slice none 0 0,.slice none 0 0,.slice none 0 0,.int .i64 0,.slice none 0 0,.int .i64 a.ra,.int .i64 a.rb,.int .i64 a.rd,.int .i64 a.to,.int .u64 0,.slice none 0 0])∧Below w.heap.size w w':=by
 obtain⟨w3,hw3,hC⟩:=on_boxes w 56 #[.int .i64 a.till,.int .u64 a.num,.int .i64 4,.bool a.sure,.slice a.lines.p a.lines.n a.lines.c,.slice a.guards.p a.guards.n a.guards.c,.slice a.sets.p a.sets.n a.sets.c,.int .i64 a.mg,.slice a.other.p a.other.n a.other.c,.int .i64 a.ra,.int .i64 a.rb,.int .i64 a.rd,.int .i64 a.to,.int .u64 a.gen,.slice a.rights.p a.rights.n a.rights.c] #[.int .i64 0,.int .u64 0,.int .i64 0,.bool false,.slice none 0 0,.slice none 0 0,.slice none 0 0,.int .i64 0,.slice none 0 0,.int .i64 0,.int .i64 0,.int .i64 0,.int .i64 0,.int .u64 0,.slice none 0 0] #[.int .i64 a.till,.int .u64 a.num,.int .i64 4,.bool false,.slice none 0 0,.slice none 0 0,.slice none 0 0,.int .i64 0,.slice none 0 0,.int .i64 0,.int .i64 0,.int .i64 0,.int .i64 0,.int .u64 0,.slice none 0 0]
 have HW3:=hide hw3
 have HC0:=hide hC
 have hA:((w.alloc (.cells #[.int .i64 a.till,.int .u64 a.num,.int .i64 4,.bool a.sure,.slice a.lines.p a.lines.n a.lines.c,.slice a.guards.p a.guards.n a.guards.c,.slice a.sets.p a.sets.n a.sets.c,.int .i64 a.mg,.slice a.other.p a.other.n a.other.c,.int .i64 a.ra,.int .i64 a.rb,.int .i64 a.rd,.int .i64 a.to,.int .u64 a.gen,.slice a.rights.p a.rights.n a.rights.c] 56)).alloc (.cells #[.int .i64 0,.int .u64 0,.int .i64 0,.bool false,.slice none 0 0,.slice none 0 0,.slice none 0 0,.int .i64 0,.slice none 0 0,.int .i64 0,.int .i64 0,.int .i64 0,.int .i64 0,.int .u64 0,.slice none 0 0] 56)).heap[w.heap.size]?=some (.cells #[.int .i64 a.till,.int .u64 a.num,.int .i64 4,.bool a.sure,.slice a.lines.p a.lines.n a.lines.c,.slice a.guards.p a.guards.n a.guards.c,.slice a.sets.p a.sets.n a.sets.c,.int .i64 a.mg,.slice a.other.p a.other.n a.other.c,.int .i64 a.ra,.int .i64 a.rb,.int .i64 a.rd,.int .i64 a.to,.int .u64 a.gen,.slice a.rights.p a.rights.n a.rights.c] 56 (0,0)):=by rw[Below.heap_alloc _ _ _ (by simp)];exact heap_alloc_new _ _
 obtain⟨b0,b1,b2,-,-,-,-,-,-,-,-,-,-,-,-⟩:=ac15 hA
 clear hw3 hC hA
 go_enter Tryz.func50,Tryz.ntmps50
 go_upto_region 2 with (fail)
 rw[HW3.out]
 clear b0 b1 b2
 obtain⟨p0,p1,p2,p3,p4,p5,p6,p7,p8,p9,p10,p11,p12,p13,p14⟩:=ac15 HC0.out.a
 obtain⟨q0,q1,q2,q3,q4,q5,q6,q7,q8,q9,q10,q11,q12,q13,q14⟩:=ac15 HC0.out.x
 have ct:=RB.bk_thaw HC0.out.x
 go_upto_region 14 with (fail)
 obtain⟨u0,hu0⟩:∃u,(((w3.setCell ⟨w.heap.size+1+1,9,none⟩ (.int .i64 a.ra)).setCell ⟨w.heap.size+1+1,10,none⟩ (.int .i64 a.rb)).setCell ⟨w.heap.size+1+1,11,none⟩ (.int .i64 a.rd))=u:=⟨_,rfl⟩
 rw[hu0]
 have HC1:Hid (CpS w u0 56 #[.int .i64 a.till,.int .u64 a.num,.int .i64 4,.bool a.sure,.slice a.lines.p a.lines.n a.lines.c,.slice a.guards.p a.guards.n a.guards.c,.slice a.sets.p a.sets.n a.sets.c,.int .i64 a.mg,.slice a.other.p a.other.n a.other.c,.int .i64 a.ra,.int .i64 a.rb,.int .i64 a.rd,.int .i64 a.to,.int .u64 a.gen,.slice a.rights.p a.rights.n a.rights.c] #[.int .i64 0,.int .u64 0,.int .i64 0,.bool false,.slice none 0 0,.slice none 0 0,.slice none 0 0,.int .i64 0,.slice none 0 0,.int .i64 0,.int .i64 0,.int .i64 0,.int .i64 0,.int .u64 0,.slice none 0 0] #[.int .i64 a.till,.int .u64 a.num,.int .i64 4,.bool false,.slice none 0 0,.slice none 0 0,.slice none 0 0,.int .i64 0,.slice none 0 0,.int .i64 a.ra,.int .i64 a.rb,.int .i64 a.rd,.int .i64 0,.int .u64 0,.slice none 0 0]):=by show CpS _ _ _ _ _ _;rw[←hu0];exact cp_set (cp_set (cp_set (HC0.out) 9 (.int .i64 a.ra)) 10 (.int .i64 a.rb)) 11 (.int .i64 a.rd)
 clear hu0 ct p0 p1 p2 p3 p4 p5 p6 p7 p8 p9 p10 p11 p12 p13 p14 q0 q1 q2 q3 q4 q5 q6 q7 q8 q9 q10 q11 q12 q13 q14
 obtain⟨p0,p1,p2,p3,p4,p5,p6,p7,p8,p9,p10,p11,p12,p13,p14⟩:=ac15 HC1.out.a
 obtain⟨q0,q1,q2,q3,q4,q5,q6,q7,q8,q9,q10,q11,q12,q13,q14⟩:=ac15 HC1.out.x
 have ct:=RB.bk_thaw HC1.out.x
 go_upto_region 18 with (fail)
 obtain⟨u1,hu1⟩:∃u,(u0.setCell ⟨w.heap.size+1+1,12,none⟩ (.int .i64 a.to))=u:=⟨_,rfl⟩
 rw[hu1]
 have HC2:Hid (CpS w u1 56 #[.int .i64 a.till,.int .u64 a.num,.int .i64 4,.bool a.sure,.slice a.lines.p a.lines.n a.lines.c,.slice a.guards.p a.guards.n a.guards.c,.slice a.sets.p a.sets.n a.sets.c,.int .i64 a.mg,.slice a.other.p a.other.n a.other.c,.int .i64 a.ra,.int .i64 a.rb,.int .i64 a.rd,.int .i64 a.to,.int .u64 a.gen,.slice a.rights.p a.rights.n a.rights.c] #[.int .i64 0,.int .u64 0,.int .i64 0,.bool false,.slice none 0 0,.slice none 0 0,.slice none 0 0,.int .i64 0,.slice none 0 0,.int .i64 0,.int .i64 0,.int .i64 0,.int .i64 0,.int .u64 0,.slice none 0 0] #[.int .i64 a.till,.int .u64 a.num,.int .i64 4,.bool false,.slice none 0 0,.slice none 0 0,.slice none 0 0,.int .i64 0,.slice none 0 0,.int .i64 a.ra,.int .i64 a.rb,.int .i64 a.rd,.int .i64 a.to,.int .u64 0,.slice none 0 0]):=by show CpS _ _ _ _ _ _;rw[←hu1];exact cp_set (HC1.out) 12 (.int .i64 a.to)
 clear hu1 ct p0 p1 p2 p3 p4 p5 p6 p7 p8 p9 p10 p11 p12 p13 p14 q0 q1 q2 q3 q4 q5 q6 q7 q8 q9 q10 q11 q12 q13 q14
 obtain⟨X,hX⟩:∃X:Array Value,#[.int .i64 a.till,.int .u64 a.num,.int .i64 4,.bool false,.slice none 0 0,.slice none 0 0,.slice none 0 0,.int .i64 0,.slice none 0 0,.int .i64 a.ra,.int .i64 a.rb,.int .i64 a.rd,.int .i64 a.to,.int .u64 0,.slice none 0 0]=X:=⟨_,rfl⟩
 have HXs:Hid (X.size=15):=by show _=_;rw[←hX];rfl
 have HXo:Hid (X.all (·.oneCell')=true):=by show _=_;rw[←hX];simp[Value.oneCell']
 have HL:=hide (Z.loadAt_row (P:=Tryz.prog) (ty:=56) HC2.out.x Tryz.underlying56 rfl (by kernel_rfl))
 have HS:=hide (Z.storeAt_row (P:=Tryz.prog) (c':=X) HC2.out.z (by rw[HXs.out];exact Z.Tryz.sizeA) (by rw[HXs.out];rfl) HXo.out)
 have HE:Hid ((u1.setRow (w.heap.size+1) X).heap[w.heap.size+1]?=some (.cells X 56 (0,0))∧Below w.heap.size w (u1.setRow (w.heap.size+1) X)):=⟨setRow_heap _ _ _ _ _ _ HC2.out.z,below_setRow HC2.out.bel (by omega) X⟩
 rw[hX]at HL
 have HXe:=hide hX
 clear hX
 go_wp2_with (first | ((with_reducible show wpList _ _ _ (⟨_,.load 56 (.tmp 3),_,_,_,_⟩ :: _) _ _);refine Z.lp_load (w.heap.size+1+1) 0 X rfl HL.out ?_) | ((with_reducible show wpList _ _ _ (⟨_,.store 56 (.tmp 2) _,_,_,_,_⟩ :: _) _ _);refine Z.lp_store (t:=56) (x:=.tmp 2) (some ⟨w.heap.size+1,0,none⟩) (.agg X) rfl rfl HS.out ?_))
 refine bodyPost_ret (results_cell_row rfl _ _ (w.heap.size+1) 56 X (0,0) _ rfl HE.out.1 Tryz.underlying56 rfl (by rw[HXs.out];exact Z.Tryz.sizeA)) rfl ?_
 exact⟨by rw[HXe.out],HE.out.2⟩
set_option maxHeartbeats 4000000 in
theorem only5_any (w:World) (a:Acd):Calls Tryz.prog 50 #[.agg #[.int .i64 a.till,.int .u64 a.num,.int .i64 5,.bool a.sure,.slice a.lines.p a.lines.n a.lines.c,.slice a.guards.p a.guards.n a.guards.c,.slice a.sets.p a.sets.n a.sets.c,.int .i64 a.mg,.slice a.other.p a.other.n a.other.c,.int .i64 a.ra,.int .i64 a.rb,.int .i64 a.rd,.int .i64 a.to,.int .u64 a.gen,.slice a.rights.p a.rights.n a.rights.c]] w fun e w'=>e=.returned (.agg #[.int .i64 a.till,.int .u64 a.num,.int .i64 5,.bool false,.slice none 0 0,.slice none 0 0,.slice none 0 0,.int .i64 0,.slice none 0 0,.int .i64 0,.int .i64 0,.int .i64 0,.int .i64 0,.int .u64 a.gen,.slice a.rights.p a.rights.n a.rights.c])∧Below w.heap.size w w':=by
 obtain⟨w3,hw3,hC⟩:=on_boxes w 56 #[.int .i64 a.till,.int .u64 a.num,.int .i64 5,.bool a.sure,.slice a.lines.p a.lines.n a.lines.c,.slice a.guards.p a.guards.n a.guards.c,.slice a.sets.p a.sets.n a.sets.c,.int .i64 a.mg,.slice a.other.p a.other.n a.other.c,.int .i64 a.ra,.int .i64 a.rb,.int .i64 a.rd,.int .i64 a.to,.int .u64 a.gen,.slice a.rights.p a.rights.n a.rights.c] #[.int .i64 0,.int .u64 0,.int .i64 0,.bool false,.slice none 0 0,.slice none 0 0,.slice none 0 0,.int .i64 0,.slice none 0 0,.int .i64 0,.int .i64 0,.int .i64 0,.int .i64 0,.int .u64 0,.slice none 0 0] #[.int .i64 a.till,.int .u64 a.num,.int .i64 5,.bool false,.slice none 0 0,.slice none 0 0,.slice none 0 0,.int .i64 0,.slice none 0 0,.int .i64 0,.int .i64 0,.int .i64 0,.int .i64 0,.int .u64 0,.slice none 0 0]
 have HW3:=hide hw3
 have HC0:=hide hC
 have hA:((w.alloc (.cells #[.int .i64 a.till,.int .u64 a.num,.int .i64 5,.bool a.sure,.slice a.lines.p a.lines.n a.lines.c,.slice a.guards.p a.guards.n a.guards.c,.slice a.sets.p a.sets.n a.sets.c,.int .i64 a.mg,.slice a.other.p a.other.n a.other.c,.int .i64 a.ra,.int .i64 a.rb,.int .i64 a.rd,.int .i64 a.to,.int .u64 a.gen,.slice a.rights.p a.rights.n a.rights.c] 56)).alloc (.cells #[.int .i64 0,.int .u64 0,.int .i64 0,.bool false,.slice none 0 0,.slice none 0 0,.slice none 0 0,.int .i64 0,.slice none 0 0,.int .i64 0,.int .i64 0,.int .i64 0,.int .i64 0,.int .u64 0,.slice none 0 0] 56)).heap[w.heap.size]?=some (.cells #[.int .i64 a.till,.int .u64 a.num,.int .i64 5,.bool a.sure,.slice a.lines.p a.lines.n a.lines.c,.slice a.guards.p a.guards.n a.guards.c,.slice a.sets.p a.sets.n a.sets.c,.int .i64 a.mg,.slice a.other.p a.other.n a.other.c,.int .i64 a.ra,.int .i64 a.rb,.int .i64 a.rd,.int .i64 a.to,.int .u64 a.gen,.slice a.rights.p a.rights.n a.rights.c] 56 (0,0)):=by rw[Below.heap_alloc _ _ _ (by simp)];exact heap_alloc_new _ _
 obtain⟨b0,b1,b2,-,-,-,-,-,-,-,-,-,-,-,-⟩:=ac15 hA
 clear hw3 hC hA
 go_enter Tryz.func50,Tryz.ntmps50
 go_upto_region 2 with (fail)
 rw[HW3.out]
 clear b0 b1 b2
 obtain⟨p0,p1,p2,p3,p4,p5,p6,p7,p8,p9,p10,p11,p12,p13,p14⟩:=ac15 HC0.out.a
 obtain⟨q0,q1,q2,q3,q4,q5,q6,q7,q8,q9,q10,q11,q12,q13,q14⟩:=ac15 HC0.out.x
 have ct:=RB.bk_thaw HC0.out.x
 go_upto_region 17 with (fail)
 obtain⟨u0,hu0⟩:∃u,(w3.setCell ⟨w.heap.size+1+1,13,none⟩ (.int .u64 a.gen))=u:=⟨_,rfl⟩
 rw[hu0]
 have HC1:Hid (CpS w u0 56 #[.int .i64 a.till,.int .u64 a.num,.int .i64 5,.bool a.sure,.slice a.lines.p a.lines.n a.lines.c,.slice a.guards.p a.guards.n a.guards.c,.slice a.sets.p a.sets.n a.sets.c,.int .i64 a.mg,.slice a.other.p a.other.n a.other.c,.int .i64 a.ra,.int .i64 a.rb,.int .i64 a.rd,.int .i64 a.to,.int .u64 a.gen,.slice a.rights.p a.rights.n a.rights.c] #[.int .i64 0,.int .u64 0,.int .i64 0,.bool false,.slice none 0 0,.slice none 0 0,.slice none 0 0,.int .i64 0,.slice none 0 0,.int .i64 0,.int .i64 0,.int .i64 0,.int .i64 0,.int .u64 0,.slice none 0 0] #[.int .i64 a.till,.int .u64 a.num,.int .i64 5,.bool false,.slice none 0 0,.slice none 0 0,.slice none 0 0,.int .i64 0,.slice none 0 0,.int .i64 0,.int .i64 0,.int .i64 0,.int .i64 0,.int .u64 a.gen,.slice none 0 0]):=by show CpS _ _ _ _ _ _;rw[←hu0];exact cp_set (HC0.out) 13 (.int .u64 a.gen)
 clear hu0 ct p0 p1 p2 p3 p4 p5 p6 p7 p8 p9 p10 p11 p12 p13 p14 q0 q1 q2 q3 q4 q5 q6 q7 q8 q9 q10 q11 q12 q13 q14
 obtain⟨p0,p1,p2,p3,p4,p5,p6,p7,p8,p9,p10,p11,p12,p13,p14⟩:=ac15 HC1.out.a
 obtain⟨q0,q1,q2,q3,q4,q5,q6,q7,q8,q9,q10,q11,q12,q13,q14⟩:=ac15 HC1.out.x
 have ct:=RB.bk_thaw HC1.out.x
 go_upto_region 18 with (fail)
 obtain⟨u1,hu1⟩:∃u,(u0.setCell ⟨w.heap.size+1+1,14,none⟩ (.slice a.rights.p a.rights.n a.rights.c))=u:=⟨_,rfl⟩
 rw[hu1]
 have HC2:Hid (CpS w u1 56 #[.int .i64 a.till,.int .u64 a.num,.int .i64 5,.bool a.sure,.slice a.lines.p a.lines.n a.lines.c,.slice a.guards.p a.guards.n a.guards.c,.slice a.sets.p a.sets.n a.sets.c,.int .i64 a.mg,.slice a.other.p a.other.n a.other.c,.int .i64 a.ra,.int .i64 a.rb,.int .i64 a.rd,.int .i64 a.to,.int .u64 a.gen,.slice a.rights.p a.rights.n a.rights.c] #[.int .i64 0,.int .u64 0,.int .i64 0,.bool false,.slice none 0 0,.slice none 0 0,.slice none 0 0,.int .i64 0,.slice none 0 0,.int .i64 0,.int .i64 0,.int .i64 0,.int .i64 0,.int .u64 0,.slice none 0 0] #[.int .i64 a.till,.int .u64 a.num,.int .i64 5,.bool false,.slice none 0 0,.slice none 0 0,.slice none 0 0,.int .i64 0,.slice none 0 0,.int .i64 0,.int .i64 0,.int .i64 0,.int .i64 0,.int .u64 a.gen,.slice a.rights.p a.rights.n a.rights.c]):=by show CpS _ _ _ _ _ _;rw[←hu1];exact cp_set (HC1.out) 14 (.slice a.rights.p a.rights.n a.rights.c)
 clear hu1 ct p0 p1 p2 p3 p4 p5 p6 p7 p8 p9 p10 p11 p12 p13 p14 q0 q1 q2 q3 q4 q5 q6 q7 q8 q9 q10 q11 q12 q13 q14
 obtain⟨X,hX⟩:∃X:Array Value,#[.int .i64 a.till,.int .u64 a.num,.int .i64 5,.bool false,.slice none 0 0,.slice none 0 0,.slice none 0 0,.int .i64 0,.slice none 0 0,.int .i64 0,.int .i64 0,.int .i64 0,.int .i64 0,.int .u64 a.gen,.slice a.rights.p a.rights.n a.rights.c]=X:=⟨_,rfl⟩
 have HXs:Hid (X.size=15):=by show _=_;rw[←hX];rfl
 have HXo:Hid (X.all (·.oneCell')=true):=by show _=_;rw[←hX];simp[Value.oneCell']
 have HL:=hide (Z.loadAt_row (P:=Tryz.prog) (ty:=56) HC2.out.x Tryz.underlying56 rfl (by kernel_rfl))
 have HS:=hide (Z.storeAt_row (P:=Tryz.prog) (c':=X) HC2.out.z (by rw[HXs.out];exact Z.Tryz.sizeA) (by rw[HXs.out];rfl) HXo.out)
 have HE:Hid ((u1.setRow (w.heap.size+1) X).heap[w.heap.size+1]?=some (.cells X 56 (0,0))∧Below w.heap.size w (u1.setRow (w.heap.size+1) X)):=⟨setRow_heap _ _ _ _ _ _ HC2.out.z,below_setRow HC2.out.bel (by omega) X⟩
 rw[hX]at HL
 have HXe:=hide hX
 clear hX
 go_wp2_with (first | ((with_reducible show wpList _ _ _ (⟨_,.load 56 (.tmp 3),_,_,_,_⟩ :: _) _ _);refine Z.lp_load (w.heap.size+1+1) 0 X rfl HL.out ?_) | ((with_reducible show wpList _ _ _ (⟨_,.store 56 (.tmp 2) _,_,_,_,_⟩ :: _) _ _);refine Z.lp_store (t:=56) (x:=.tmp 2) (some ⟨w.heap.size+1,0,none⟩) (.agg X) rfl rfl HS.out ?_))
 refine bodyPost_ret (results_cell_row rfl _ _ (w.heap.size+1) 56 X (0,0) _ rfl HE.out.1 Tryz.underlying56 rfl (by rw[HXs.out];exact Z.Tryz.sizeA)) rfl ?_
 exact⟨by rw[HXe.out],HE.out.2⟩
theorem ronly_any (w:World) (a:Acd) (hk:1≤a.kind∧a.kind≤5):Calls Tryz.prog 50 #[.agg #[.int .i64 a.till,.int .u64 a.num,.int .i64 a.kind,.bool a.sure,.slice a.lines.p a.lines.n a.lines.c,.slice a.guards.p a.guards.n a.guards.c,.slice a.sets.p a.sets.n a.sets.c,.int .i64 a.mg,.slice a.other.p a.other.n a.other.c,.int .i64 a.ra,.int .i64 a.rb,.int .i64 a.rd,.int .i64 a.to,.int .u64 a.gen,.slice a.rights.p a.rights.n a.rights.c]] w fun e w'=>e=.returned (.agg (onlyA a).arr)∧Below w.heap.size w w':=by
 have h:a.kind=1∨a.kind=2∨a.kind=3∨a.kind=4∨a.kind=5:=by omega
 rcases h with h | h | h | h | h
 ·have e:(onlyA a).arr=#[.int .i64 a.till,.int .u64 a.num,.int .i64 1,.bool a.sure,.slice a.lines.p a.lines.n a.lines.c,.slice a.guards.p a.guards.n a.guards.c,.slice a.sets.p a.sets.n a.sets.c,.int .i64 a.mg,.slice a.other.p a.other.n a.other.c,.int .i64 0,.int .i64 0,.int .i64 0,.int .i64 0,.int .u64 0,.slice none 0 0]:=by unfold onlyA;rw[if_pos h];simp only[Z.Acd.arr];rw[h]
  rw[e,h];exact only1_any w a
 ·have e:(onlyA a).arr=#[.int .i64 a.till,.int .u64 a.num,.int .i64 2,.bool false,.slice none 0 0,.slice none 0 0,.slice none 0 0,.int .i64 0,.slice none 0 0,.int .i64 a.ra,.int .i64 a.rb,.int .i64 a.rd,.int .i64 0,.int .u64 0,.slice none 0 0]:=by unfold onlyA;rw[if_neg (by omega),if_pos (by omega)];simp only[Z.Acd.arr];rw[h]
  rw[e,h];exact only2_any w a
 ·have e:(onlyA a).arr=#[.int .i64 a.till,.int .u64 a.num,.int .i64 3,.bool false,.slice none 0 0,.slice none 0 0,.slice none 0 0,.int .i64 0,.slice none 0 0,.int .i64 a.ra,.int .i64 a.rb,.int .i64 a.rd,.int .i64 0,.int .u64 0,.slice none 0 0]:=by unfold onlyA;rw[if_neg (by omega),if_pos (by omega)];simp only[Z.Acd.arr];rw[h]
  rw[e,h];exact only3_any w a
 ·have e:(onlyA a).arr=#[.int .i64 a.till,.int .u64 a.num,.int .i64 4,.bool false,.slice none 0 0,.slice none 0 0,.slice none 0 0,.int .i64 0,.slice none 0 0,.int .i64 a.ra,.int .i64 a.rb,.int .i64 a.rd,.int .i64 a.to,.int .u64 0,.slice none 0 0]:=by unfold onlyA;rw[if_neg (by omega),if_neg (by omega),if_pos h];simp only[Z.Acd.arr];rw[h]
  rw[e,h];exact only4_any w a
 ·have e:(onlyA a).arr=#[.int .i64 a.till,.int .u64 a.num,.int .i64 5,.bool false,.slice none 0 0,.slice none 0 0,.slice none 0 0,.int .i64 0,.slice none 0 0,.int .i64 0,.int .i64 0,.int .i64 0,.int .i64 0,.int .u64 a.gen,.slice a.rights.p a.rights.n a.rights.c]:=by unfold onlyA;rw[if_neg (by omega),if_neg (by omega),if_neg (by omega)];simp only[Z.Acd.arr];rw[h]
  rw[e,h];exact only5_any w a
end Go.Proofs.YtfbegfapoijbnaaGreat
