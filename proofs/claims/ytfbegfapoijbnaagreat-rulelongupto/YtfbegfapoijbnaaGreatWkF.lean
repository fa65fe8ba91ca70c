import Derived.Lib.SliceRun
import Derived.Test.YtfbegfapoijbnaaGreatWkC
set_option maxRecDepth 100000
namespace Go.Proofs.YtfbegfapoijbnaaGreat
open Go.RowKit
set_option maxHeartbeats 1000000 in
theorem Holds_one (w:World) (P H A B C g:Nat) (a:Int) (ha:a=1∨a=2) (hs:Sok w P H) (hg:w.heap[g]?=some (.cells #[.int .i64 0,.int .i64 (-a)] 96 (0,0))) (R:Bool) (hR:R=decide (a=1)) :
  Calls Tryz.prog 12 #[.agg #[.int .u64 0,.slice (some ⟨P,0,none⟩) 1 1,.slice none 0 0,.slice (some ⟨A,0,none⟩) 1 1,.slice (some ⟨B,0,none⟩) 1 1,.slice (some ⟨C,0,none⟩) 1 1],.int .i64 0,.slice (some ⟨g,0,none⟩) 1 1] w fun e w'=>e=.returned (.bool R)∧Below w.heap.size w w':=by
 obtain⟨w2,hw2⟩:∃w2,(w.alloc (.cells #[.int .u64 0,.slice (some ⟨P,0,none⟩) 1 1,.slice none 0 0,.slice (some ⟨A,0,none⟩) 1 1,.slice (some ⟨B,0,none⟩) 1 1,.slice (some ⟨C,0,none⟩) 1 1] 45)).alloc (.cells #[.int .i64 0] 3)=w2:=⟨_,rfl⟩
 have hb2:Below w.heap.size w w2:=by rw[←hw2];exact((Below.refl _ _).alloc (Nat.le_refl _) _).alloc (by simp) _
 have hx2:w2.heap[w.heap.size]?=some (.cells #[.int .u64 0,.slice (some ⟨P,0,none⟩) 1 1,.slice none 0 0,.slice (some ⟨A,0,none⟩) 1 1,.slice (some ⟨B,0,none⟩) 1 1,.slice (some ⟨C,0,none⟩) 1 1] 45 (0,0)):=by rw[←hw2];exact(Below.heap_alloc _ _ _ (by simp)).trans (heap_alloc_new _ _)
 have hk2:w2.heap[w.heap.size+1]?=some (.cells #[.int .i64 0] 3 (0,0)):=by rw[←hw2];have h:=heap_alloc_new (w.alloc (.cells #[.int .u64 0,.slice (some ⟨P,0,none⟩) 1 1,.slice none 0 0,.slice (some ⟨A,0,none⟩) 1 1,.slice (some ⟨B,0,none⟩) 1 1,.slice (some ⟨C,0,none⟩) 1 1] 45)) (.cells #[.int .i64 0] 3);rw[World.size_alloc]at h;exact h
 have HAf:=hide (afford_any w2 P H A B C w.heap.size (w.heap.size+1) g a ha (hs.below hb2 (Nat.le_refl _)) hx2 hk2 ((hb2.block g (ac_lt hg)).trans hg) R hR)
 have HW2:=hide hw2
 have HB2:=hide hb2
 clear hw2 hb2 hx2 hk2 hs hg hR ha
 go_enter Tryz.func12,Tryz.ntmps12
 go_upto_region 1 with (fail)
 rw[HW2.out]
 go_wp2_with (go_at_call 31;refine HAf.out.mono ?_;rintro e w3 ⟨rfl,hb3⟩;have HB3:=hide hb3;clear hb3)
 go_ret
 exact⟨rfl,HB2.out.trans (HB3.out.mono HB2.out.size)⟩
set_option maxHeartbeats 1000000 in
theorem clone_one (w:World) (g:Nat) (a:Int) (hg:w.heap[g]?=some (.cells #[.int .i64 0,.int .i64 a] 96 (0,0))) :
  Calls Tryz.prog 111 #[.slice (some ⟨g,0,none⟩) 1 1] w fun e w'=>∃q c,e=.returned (.slice (some ⟨q,0,none⟩) 1 c)∧w.heap.size≤q∧q<w'.heap.size∧w'.cell? ⟨q,1,none⟩=some (.int .i64 a)∧Below w.heap.size w w':=by
 have HE:Hid ((w.alloc (.cells #[] 96)).ownsRow w.heap.size 96 2 (.slice (some ⟨w.heap.size,0,none⟩) 0 0) 0 []):=⟨rfl,Or.inr ⟨w.heap.size,0,#[],rfl,Nat.le_refl _,heap_alloc_new _ _,Nat.le_refl _,by unfold maxLen;omega,rfl,rfl⟩⟩
 obtain⟨l0,l1⟩:=ac2 ((Below.heap_alloc w (.cells #[] 96) g (ac_lt hg)).trans hg)
 have HC:Hid (Cel (w.alloc (.cells #[] 96)) (some ⟨g,0,none⟩) 2 ([(⟨0,a⟩:Lin)].map linc)):=Or.inr ⟨g,0,rfl,by have:=ac_lt hg;simp;omega,fun i r hr j v hv=>by
  cases i with
  | succ i=>simp at hr
  | zero =>
   simp at hr
   subst hr
   match j,hv with
   | 0,hv=>simp[linc]at hv;subst hv;exact l0
   | 1,hv=>simp[linc]at hv;subst hv;exact l1
   | j+2,hv=>simp[linc]at hv⟩
 have q22:∀(w:World) (a:Option Addr) (n c n' c':Nat),(binOp .eql 29 (.slice a n c) (.slice none n' c')).run Tryz.prog w=.ok (.bool a.isNone) w:=fun w a n c n' c'=>Lib.run_eql_slice_nil w _ _ a n c n' c' Tryz.underlying29
 clear hg l0 l1
 go_enter Tryz.func111,Tryz.ntmps111
 go_wp2_with (at_builtin;refine wpList_append_lines rfl (.tmp 5) (.tmp 6) rfl w.heap.size _ 0 0 [] rfl HE.out _ 1 1 [⟨0,a⟩] rfl rfl HC.out (by omega) (by simp) ?_;intro q c w2 hown2 hgrow2;have HO2:=hide hown2;have HB2:Hid (Below w.heap.size w w2):=((Below.refl _ w).alloc (Nat.le_refl _) _).grown hgrow2 (by simp) (fun k e=>by cases e;exact Nat.le_refl _);clear hown2 hgrow2)
 go_ret
 obtain⟨q',e,hq,hc⟩:=row_cell HO2.out (i:=1) (u:=.int .i64 a) rfl
 cases e
 exact⟨_,_,rfl,(owns_le2 HO2.out).2.1,hq,hc,HB2.out⟩
def Mv (n0:Nat) (w:World) (a:Int) (o:Int) (v:Value):Prop:=(a=1∧o=1∧∃q c,v=.slice (some ⟨q,0,none⟩) 1 c∧n0≤q∧q<w.heap.size∧w.cell? ⟨q,1,none⟩=some (.int .i64 (-1)))∨(a=2∧o=3∧v=.slice none 0 0)
theorem Mv.low {w:World} {n0 n1:Nat} {a o:Int} {v:Value} (h:Mv n0 w a o v) (hn:n1≤n0):Mv n1 w a o v :=
 h.imp (fun ⟨e,f,q,c,e1,h0,r⟩=>⟨e,f,q,c,e1,Nat.le_trans hn h0,r⟩) id
set_option maxHeartbeats 2000000 in
theorem judgeWrite_one (w:World) (P H A B C g:Nat) (a:Int) (ha:a=1∨a=2) (hs:Sok w P H) (hg:w.heap[g]?=some (.cells #[.int .i64 0,.int .i64 (-a)] 96 (0,0))) :
  Calls Tryz.prog 92 #[.agg #[.int .u64 0,.slice (some ⟨P,0,none⟩) 1 1,.slice none 0 0,.slice (some ⟨A,0,none⟩) 1 1,.slice (some ⟨B,0,none⟩) 1 1,.slice (some ⟨C,0,none⟩) 1 1],.agg #[.int .i64 0,.int .u64 1,.int .i64 1,.bool true,.slice (some ⟨g,0,none⟩) 1 1,.slice none 0 0,.slice none 0 0,.int .i64 0,.slice none 0 0,.int .i64 0,.int .i64 0,.int .i64 0,.int .i64 0,.int .u64 0,.slice none 0 0]] w fun e w'=>∃o v,e=.returned (.tuple #[.int .i64 o,v,.slice none 0 0])∧Mv w.heap.size w' a o v∧Below w.heap.size w w':=by
 obtain⟨w2,hw2⟩:∃w2,(w.alloc (.cells #[.int .u64 0,.slice (some ⟨P,0,none⟩) 1 1,.slice none 0 0,.slice (some ⟨A,0,none⟩) 1 1,.slice (some ⟨B,0,none⟩) 1 1,.slice (some ⟨C,0,none⟩) 1 1] 45)).alloc (.cells #[.int .i64 0,.int .u64 1,.int .i64 1,.bool true,.slice (some ⟨g,0,none⟩) 1 1,.slice none 0 0,.slice none 0 0,.int .i64 0,.slice none 0 0,.int .i64 0,.int .i64 0,.int .i64 0,.int .i64 0,.int .u64 0,.slice none 0 0] 56)=w2:=⟨_,rfl⟩
 have hb2:Below w.heap.size w w2:=by rw[←hw2];exact((Below.refl _ _).alloc (Nat.le_refl _) _).alloc (by simp) _
 have hx2:w2.heap[w.heap.size]?=some (.cells #[.int .u64 0,.slice (some ⟨P,0,none⟩) 1 1,.slice none 0 0,.slice (some ⟨A,0,none⟩) 1 1,.slice (some ⟨B,0,none⟩) 1 1,.slice (some ⟨C,0,none⟩) 1 1] 45 (0,0)):=by rw[←hw2];exact(Below.heap_alloc _ _ _ (by simp)).trans (heap_alloc_new _ _)
 have ha2:w2.heap[w.heap.size+1]?=some (.cells #[.int .i64 0,.int .u64 1,.int .i64 1,.bool true,.slice (some ⟨g,0,none⟩) 1 1,.slice none 0 0,.slice none 0 0,.int .i64 0,.slice none 0 0,.int .i64 0,.int .i64 0,.int .i64 0,.int .i64 0,.int .u64 0,.slice none 0 0] 56 (0,0)):=by rw[←hw2];have h:=heap_alloc_new (w.alloc (.cells #[.int .u64 0,.slice (some ⟨P,0,none⟩) 1 1,.slice none 0 0,.slice (some ⟨A,0,none⟩) 1 1,.slice (some ⟨B,0,none⟩) 1 1,.slice (some ⟨C,0,none⟩) 1 1] 45)) (.cells #[.int .i64 0,.int .u64 1,.int .i64 1,.bool true,.slice (some ⟨g,0,none⟩) 1 1,.slice none 0 0,.slice none 0 0,.int .i64 0,.slice none 0 0,.int .i64 0,.int .i64 0,.int .i64 0,.int .i64 0,.int .u64 0,.slice none 0 0] 56);rw[World.size_alloc]at h;exact h
 have hs2:=hs.below hb2 (Nat.le_refl _)
 have hg2:=(hb2.block g (ac_lt hg)).trans hg
 obtain⟨c0,c1,c2,c3,c4,c5⟩:=ac6 hx2
 obtain⟨k0,k1,k2,k3,k4,k5,k6,k7,k8,k9,k10,k11,k12,k13,k14⟩:=ac15 ha2
 have HW2:=hide hw2
 have HB2:=hide hb2
 have HA2:=hide ha2
 have HS2:=hide hs2
 have HG2:=hide hg2
 clear hw2 hb2 hx2 ha2 hs2 hs hg hg2
 rcases ha with rfl | rfl
 ·have HHo:=hide (Holds_one w2 P H A B C g 1 (Or.inl rfl) HS2.out HG2.out true rfl)
  go_enter Tryz.func92,Tryz.ntmps92
  go_upto_region 1 with (fail)
  rw[HW2.out]
  go_upto_region 2 with (go_at_call 12;refine HHo.out.mono ?_;rintro e w3 ⟨rfl,hb3⟩;have HB3:=hide hb3;clear hb3)
  obtain⟨k0,k1,k2,k3,k4,k5,k6,k7,k8,k9,k10,k11,k12,k13,k14⟩:=ac15 ((HB3.out.block _ (ac_lt HA2.out)).trans HA2.out)
  have HCl:=hide (clone_one w3 g (-1) ((HB3.out.block g (ac_lt HG2.out)).trans HG2.out))
  go_wp2_with (go_at_call 111;refine HCl.out.mono ?_;rintro e w4 ⟨q,c,rfl,hq0,hq,hc,hb4⟩;have HQ:=hide hq;have HQ0:=hide hq0;clear hq0;have HC4:=hide hc;have HB4:=hide hb4;clear hq hc hb4)
  refine bodyPost_ret (v:=.tuple #[.int .i64 1,.slice (some ⟨q,0,none⟩) 1 c,.slice none 0 0]) (by simp[results,Tryz.results92,go_sem]) rfl ?_
  exact⟨1,_,rfl,Or.inl ⟨rfl,rfl,q,c,rfl,Nat.le_trans (Nat.le_trans HB2.out.size HB3.out.size) HQ0.out,HQ.out,HC4.out⟩,HB2.out.trans ((HB3.out.trans (HB4.out.mono HB3.out.size)).mono HB2.out.size)⟩
 ·have HHo:=hide (Holds_one w2 P H A B C g 2 (Or.inr rfl) HS2.out HG2.out false rfl)
  go_enter Tryz.func92,Tryz.ntmps92
  go_upto_region 1 with (fail)
  rw[HW2.out]
  go_upto_region 3 with (go_at_call 12;refine HHo.out.mono ?_;rintro e w3 ⟨rfl,hb3⟩;have HB3:=hide hb3;clear hb3)
  obtain⟨k0,k1,k2,k3,k4,k5,k6,k7,k8,k9,k10,k11,k12,k13,k14⟩:=ac15 ((HB3.out.block _ (ac_lt HA2.out)).trans HA2.out)
  go_wp2
  refine bodyPost_ret (v:=.tuple #[.int .i64 3,.slice none 0 0,.slice none 0 0]) (by simp[results,Tryz.results92,go_sem]) rfl ?_
  exact⟨3,_,rfl,Or.inr ⟨rfl,rfl,rfl⟩,HB2.out.trans (HB3.out.mono HB2.out.size)⟩
set_option maxHeartbeats 2000000 in
theorem Judge_one (w:World) (P H A B C g:Nat) (a:Int) (ha:a=1∨a=2) (hs:Sok w P H) (hg:w.heap[g]?=some (.cells #[.int .i64 0,.int .i64 (-a)] 96 (0,0))) :
  Calls Tryz.prog 72 #[.agg #[.int .u64 0,.slice (some ⟨P,0,none⟩) 1 1,.slice none 0 0,.slice (some ⟨A,0,none⟩) 1 1,.slice (some ⟨B,0,none⟩) 1 1,.slice (some ⟨C,0,none⟩) 1 1],.agg #[.int .i64 0,.int .u64 1,.int .i64 1,.bool true,.slice (some ⟨g,0,none⟩) 1 1,.slice none 0 0,.slice none 0 0,.int .i64 0,.slice none 0 0,.int .i64 0,.int .i64 0,.int .i64 0,.int .i64 0,.int .u64 0,.slice none 0 0]] w fun e w'=>∃o v,e=.returned (.tuple #[.int .i64 o,v,.slice none 0 0,.int .i64 0])∧Mv w.heap.size w' a o v∧Below w.heap.size w w':=by
 obtain⟨w2,hw2⟩:∃w2,(w.alloc (.cells #[.int .u64 0,.slice (some ⟨P,0,none⟩) 1 1,.slice none 0 0,.slice (some ⟨A,0,none⟩) 1 1,.slice (some ⟨B,0,none⟩) 1 1,.slice (some ⟨C,0,none⟩) 1 1] 45)).alloc (.cells #[.int .i64 0,.int .u64 1,.int .i64 1,.bool true,.slice (some ⟨g,0,none⟩) 1 1,.slice none 0 0,.slice none 0 0,.int .i64 0,.slice none 0 0,.int .i64 0,.int .i64 0,.int .i64 0,.int .i64 0,.int .u64 0,.slice none 0 0] 56)=w2:=⟨_,rfl⟩
 have hb2:Below w.heap.size w w2:=by rw[←hw2];exact((Below.refl _ _).alloc (Nat.le_refl _) _).alloc (by simp) _
 have hx2:w2.heap[w.heap.size]?=some (.cells #[.int .u64 0,.slice (some ⟨P,0,none⟩) 1 1,.slice none 0 0,.slice (some ⟨A,0,none⟩) 1 1,.slice (some ⟨B,0,none⟩) 1 1,.slice (some ⟨C,0,none⟩) 1 1] 45 (0,0)):=by rw[←hw2];exact(Below.heap_alloc _ _ _ (by simp)).trans (heap_alloc_new _ _)
 have ha2:w2.heap[w.heap.size+1]?=some (.cells #[.int .i64 0,.int .u64 1,.int .i64 1,.bool true,.slice (some ⟨g,0,none⟩) 1 1,.slice none 0 0,.slice none 0 0,.int .i64 0,.slice none 0 0,.int .i64 0,.int .i64 0,.int .i64 0,.int .i64 0,.int .u64 0,.slice none 0 0] 56 (0,0)):=by rw[←hw2];have h:=heap_alloc_new (w.alloc (.cells #[.int .u64 0,.slice (some ⟨P,0,none⟩) 1 1,.slice none 0 0,.slice (some ⟨A,0,none⟩) 1 1,.slice (some ⟨B,0,none⟩) 1 1,.slice (some ⟨C,0,none⟩) 1 1] 45)) (.cells #[.int .i64 0,.int .u64 1,.int .i64 1,.bool true,.slice (some ⟨g,0,none⟩) 1 1,.slice none 0 0,.slice none 0 0,.int .i64 0,.slice none 0 0,.int .i64 0,.int .i64 0,.int .i64 0,.int .i64 0,.int .u64 0,.slice none 0 0] 56);rw[World.size_alloc]at h;exact h
 have hs2:=hs.below hb2 (Nat.le_refl _)
 have hg2:=(hb2.block g (ac_lt hg)).trans hg
 obtain⟨c0,c1,c2,c3,c4,c5⟩:=ac6 hx2
 obtain⟨k0,k1,k2,k3,k4,k5,k6,k7,k8,k9,k10,k11,k12,k13,k14⟩:=ac15 ha2
 have HW2:=hide hw2
 have HB2:=hide hb2
 have HA2:=hide ha2
 have HS2:=hide hs2
 have HG2:=hide hg2
 clear hw2 hb2 hx2 ha2 hs2 hs hg hg2
 have HJ:=hide (judgeWrite_one w2 P H A B C g a ha HS2.out HG2.out)
 go_enter Tryz.func72,Tryz.ntmps72
 go_upto_region 1 with (fail)
 rw[HW2.out]
 go_wp2_with (go_at_call 92;refine HJ.out.mono ?_;rintro e w3 ⟨o,v,rfl,hm,hb3⟩;have HM:=hide hm;have HB3:=hide hb3;clear hm hb3)
 refine bodyPost_ret (v:=.tuple #[.int .i64 o,v,.slice none 0 0,.int .i64 0]) (by simp[results,Tryz.results72,go_sem]) rfl ?_
 exact⟨o,v,rfl,HM.out.low HB2.out.size,HB2.out.trans (HB3.out.mono HB2.out.size)⟩
end Go.Proofs.YtfbegfapoijbnaaGreat
namespace Go.Proofs.YtfbegfapoijbnaaGreat
open Go.RowKit
set_option maxHeartbeats 2000000 in
theorem judge_one (w:World) (P H A B C g:Nat) (a:Int) (ha:a=1∨a=2) (hs:Sok w P H) (hg:w.heap[g]?=some (.cells #[.int .i64 0,.int .i64 (-a)] 96 (0,0))) :
  Calls Tryz.prog 47 #[.agg #[.int .u64 0,.slice (some ⟨P,0,none⟩) 1 1,.slice none 0 0,.slice (some ⟨A,0,none⟩) 1 1,.slice (some ⟨B,0,none⟩) 1 1,.slice (some ⟨C,0,none⟩) 1 1],.agg #[.int .i64 0,.int .u64 1,.int .i64 1,.bool true,.slice (some ⟨g,0,none⟩) 1 1,.slice none 0 0,.slice none 0 0,.int .i64 0,.slice none 0 0,.int .i64 0,.int .i64 0,.int .i64 0,.int .i64 0,.int .u64 0,.slice none 0 0]] w fun e w'=>∃o v,e=.returned (.agg #[.int .i64 o,v,.slice none 0 0,.int .i64 0])∧Mv w.heap.size w' a o v∧Below w.heap.size w w':=by
 obtain⟨w1,hw1⟩:∃w1,(w.alloc (.cells #[.int .u64 0,.slice (some ⟨P,0,none⟩) 1 1,.slice none 0 0,.slice (some ⟨A,0,none⟩) 1 1,.slice (some ⟨B,0,none⟩) 1 1,.slice (some ⟨C,0,none⟩) 1 1] 45)).alloc (.cells #[.int .i64 0,.int .u64 1,.int .i64 1,.bool true,.slice (some ⟨g,0,none⟩) 1 1,.slice none 0 0,.slice none 0 0,.int .i64 0,.slice none 0 0,.int .i64 0,.int .i64 0,.int .i64 0,.int .i64 0,.int .u64 0,.slice none 0 0] 56)=w1:=⟨_,rfl⟩
 have hb1:Below w.heap.size w w1:=by rw[←hw1];exact((Below.refl _ _).alloc (Nat.le_refl _) _).alloc (by simp) _
 have hz1:w1.heap.size=w.heap.size+1+1:=by rw[←hw1];simp
 have hx1:w1.heap[w.heap.size]?=some (.cells #[.int .u64 0,.slice (some ⟨P,0,none⟩) 1 1,.slice none 0 0,.slice (some ⟨A,0,none⟩) 1 1,.slice (some ⟨B,0,none⟩) 1 1,.slice (some ⟨C,0,none⟩) 1 1] 45 (0,0)):=by rw[←hw1];exact(Below.heap_alloc _ _ _ (by simp)).trans (heap_alloc_new _ _)
 have ha1:w1.heap[w.heap.size+1]?=some (.cells #[.int .i64 0,.int .u64 1,.int .i64 1,.bool true,.slice (some ⟨g,0,none⟩) 1 1,.slice none 0 0,.slice none 0 0,.int .i64 0,.slice none 0 0,.int .i64 0,.int .i64 0,.int .i64 0,.int .i64 0,.int .u64 0,.slice none 0 0] 56 (0,0)):=by rw[←hw1];have h:=heap_alloc_new (w.alloc (.cells #[.int .u64 0,.slice (some ⟨P,0,none⟩) 1 1,.slice none 0 0,.slice (some ⟨A,0,none⟩) 1 1,.slice (some ⟨B,0,none⟩) 1 1,.slice (some ⟨C,0,none⟩) 1 1] 45)) (.cells #[.int .i64 0,.int .u64 1,.int .i64 1,.bool true,.slice (some ⟨g,0,none⟩) 1 1,.slice none 0 0,.slice none 0 0,.int .i64 0,.slice none 0 0,.int .i64 0,.int .i64 0,.int .i64 0,.int .i64 0,.int .u64 0,.slice none 0 0] 56);rw[World.size_alloc]at h;exact h
 obtain⟨w2,hw2⟩:∃w2,w1.alloc (.cells #[.int .i64 0,.slice none 0 0,.slice none 0 0,.int .i64 0] 125)=w2:=⟨_,rfl⟩
 have hb12:Below w1.heap.size w1 w2:=by rw[←hw2];exact(Below.refl _ _).alloc (Nat.le_refl _) _
 have ht2:w2.heap[w.heap.size+1+1]?=some (.cells #[.int .i64 0,.slice none 0 0,.slice none 0 0,.int .i64 0] 125 (0,0)):=by rw[←hw2,←hz1];exact heap_alloc_new _ _
 have hb2:Below w.heap.size w w2:=hb1.trans (hb12.mono hb1.size)
 obtain⟨c0,c1,c2,c3,c4,c5⟩:=ac6 ((hb12.block _ (ac_lt hx1)).trans hx1)
 obtain⟨k0,k1,k2,k3,k4,k5,k6,k7,k8,k9,k10,k11,k12,k13,k14⟩:=ac15 ((hb12.block _ (ac_lt ha1)).trans ha1)
 have HJ:=hide (Judge_one w2 P H A B C g a ha (hs.below hb2 (Nat.le_refl _)) ((hb2.block g (ac_lt hg)).trans hg))
 have HW:Hid (((w.alloc (.cells #[.int .u64 0,.slice (some ⟨P,0,none⟩) 1 1,.slice none 0 0,.slice (some ⟨A,0,none⟩) 1 1,.slice (some ⟨B,0,none⟩) 1 1,.slice (some ⟨C,0,none⟩) 1 1] 45)).alloc (.cells #[.int .i64 0,.int .u64 1,.int .i64 1,.bool true,.slice (some ⟨g,0,none⟩) 1 1,.slice none 0 0,.slice none 0 0,.int .i64 0,.slice none 0 0,.int .i64 0,.int .i64 0,.int .i64 0,.int .i64 0,.int .u64 0,.slice none 0 0] 56)).alloc (.cells #[.int .i64 0,.slice none 0 0,.slice none 0 0,.int .i64 0] 125)=w2):=by show _=_;rw[hw1];exact hw2
 have HB2:=hide hb2
 have HT2:=hide ht2
 clear hw1 hb1 hz1 hx1 ha1 hw2 hb12 ht2 hb2 hs hg ha
 go_enter Tryz.func47,Tryz.ntmps47
 go_upto_region 1 with (fail)
 rw[HW.out]
 go_upto_region 2 with (go_at_call 72;refine HJ.out.mono ?_;rintro e w3 ⟨o,v,rfl,hm,hb3⟩;have HM:=hide hm;have HB3:=hide hb3;clear hm hb3)
 have ht3:=(HB3.out.block _ (ac_lt HT2.out)).trans HT2.out
 obtain⟨d0,d1,d2,d3⟩:=ac4 ht3
 have cf:=RB.bk_thaw ht3
 have HT3:=hide ht3
 have HB:=hide (HB2.out.trans (HB3.out.mono HB2.out.size))
 clear ht3
 rcases HM.out with ⟨e1,e2,q,c,rfl,hq0,hq,hc⟩ | ⟨e1,e2,rfl⟩
 ·have HQ:=hide hq
  have HQ0:=hide hq0
  have HC:=hide hc
  have HE:=hide (And.intro e1 e2)
  clear hq hq0 hc e1 e2
  go_wp2
  have HBf:Hid (Below w.heap.size w ((((w3.setCell ⟨w.heap.size+1+1,0,none⟩ (.int .i64 o)).setCell ⟨w.heap.size+1+1,1,none⟩ (.slice (some ⟨q,0,none⟩) 1 c)).setCell ⟨w.heap.size+1+1,2,none⟩ (.slice none 0 0)).setCell ⟨w.heap.size+1+1,3,none⟩ (.int .i64 0))):=(((HB.out.setCell (p:=⟨w.heap.size+1+1,0,none⟩) (by show w.heap.size≤w.heap.size+1+1;omega) _).setCell (p:=⟨w.heap.size+1+1,1,none⟩) (by show w.heap.size≤w.heap.size+1+1;omega) _).setCell (p:=⟨w.heap.size+1+1,2,none⟩) (by show w.heap.size≤w.heap.size+1+1;omega) _).setCell (p:=⟨w.heap.size+1+1,3,none⟩) (by show w.heap.size≤w.heap.size+1+1;omega) _
  refine bodyPost_ret (results_cell_row rfl _ _ (w.heap.size+1+1) 125 #[.int .i64 o,.slice (some ⟨q,0,none⟩) 1 c,.slice none 0 0,.int .i64 0] (0,0) _ rfl (by rw[RB.block_set (RB.block_set (RB.block_set (RB.block_set HT3.out _) _) _) _];rfl) Tryz.underlying125 rfl (by kernel_rfl)) rfl ?_
  have hne:q≠w.heap.size+1+1:=by have h1:=HQ0.out;have h2:=ac_lt HT2.out;omega
  refine⟨o,_,rfl,Or.inl ⟨HE.out.1,HE.out.2,q,c,rfl,Nat.le_trans HB2.out.size HQ0.out,by simp only[World.size_setCell];exact HQ.out,?_⟩,HBf.out⟩
  have hh:((((w3.setCell ⟨w.heap.size+1+1,0,none⟩ (.int .i64 o)).setCell ⟨w.heap.size+1+1,1,none⟩ (.slice (some ⟨q,0,none⟩) 1 c)).setCell ⟨w.heap.size+1+1,2,none⟩ (.slice none 0 0)).setCell ⟨w.heap.size+1+1,3,none⟩ (.int .i64 0)).heap[q]?=w3.heap[q]?:=by
   rw[Below.heap_setCell _ _ _ _ hne,Below.heap_setCell _ _ _ _ hne,Below.heap_setCell _ _ _ _ hne,Below.heap_setCell _ _ _ _ hne]
  have h:=HC.out
  unfold World.cell? at h ⊢
  simp only[hh]
  exact h
 ·have HE:=hide (And.intro e1 e2)
  clear e1 e2
  go_wp2
  have HBf:Hid (Below w.heap.size w ((((w3.setCell ⟨w.heap.size+1+1,0,none⟩ (.int .i64 o)).setCell ⟨w.heap.size+1+1,1,none⟩ (.slice none 0 0)).setCell ⟨w.heap.size+1+1,2,none⟩ (.slice none 0 0)).setCell ⟨w.heap.size+1+1,3,none⟩ (.int .i64 0))):=(((HB.out.setCell (p:=⟨w.heap.size+1+1,0,none⟩) (by show w.heap.size≤w.heap.size+1+1;omega) _).setCell (p:=⟨w.heap.size+1+1,1,none⟩) (by show w.heap.size≤w.heap.size+1+1;omega) _).setCell (p:=⟨w.heap.size+1+1,2,none⟩) (by show w.heap.size≤w.heap.size+1+1;omega) _).setCell (p:=⟨w.heap.size+1+1,3,none⟩) (by show w.heap.size≤w.heap.size+1+1;omega) _
  refine bodyPost_ret (results_cell_row rfl _ _ (w.heap.size+1+1) 125 #[.int .i64 o,.slice none 0 0,.slice none 0 0,.int .i64 0] (0,0) _ rfl (by rw[RB.block_set (RB.block_set (RB.block_set (RB.block_set HT3.out _) _) _) _];rfl) Tryz.underlying125 rfl (by kernel_rfl)) rfl ?_
  exact⟨o,_,rfl,Or.inr ⟨HE.out.1,HE.out.2,rfl⟩,HBf.out⟩
end Go.Proofs.YtfbegfapoijbnaaGreat
namespace Go.Proofs.YtfbegfapoijbnaaGreat
open Go.RowKit
set_option maxHeartbeats 2000000 in
theorem wakes_any (w:World) :
  Calls Tryz.prog 21 #[] w fun e w'=>e=.returned (.bool true)∧Below w.heap.size w w':=by
 obtain⟨n,hn⟩:∃n,w.heap.size=n:=⟨_,rfl⟩
 obtain⟨w1,hw1⟩:∃w1,w.alloc (.cells #[.int .i64 1,.int .i64 0] 78)=w1:=⟨_,rfl⟩
 have z1:w1.heap.size=n+1:=by rw[←hw1];simp[hn]
 have b1:Below n w w1:=by rw[←hw1];exact(Below.refl _ _).alloc (by omega) _
 have x1:w1.heap[n]?=some (.cells #[.int .i64 1,.int .i64 0] 78 (0,0)):=by rw[←hw1,←hn];exact heap_alloc_new _ _
 obtain⟨w2,hw2⟩:∃w2,w1.alloc (.cells #[.int .i64 6,.int .i64 5,.int .i64 4,.slice (some ⟨n,0,none⟩) 1 1] 81)=w2:=⟨_,rfl⟩
 have z2:w2.heap.size=n+1+1:=by rw[←hw2];simp[z1]
 have b2:Below (n+1) w1 w2:=by rw[←hw2];exact(Below.refl _ _).alloc (by omega) _
 have x2:w2.heap[n+1]?=some (.cells #[.int .i64 6,.int .i64 5,.int .i64 4,.slice (some ⟨n,0,none⟩) 1 1] 81 (0,0)):=by rw[←hw2,←z1];exact heap_alloc_new _ _
 have s2:Sok w2 (n+1) n:=⟨x2,(b2.block n (by omega)).trans x1⟩
 obtain⟨w5,hw5⟩:∃w5,((w2.alloc (.cells #[.int .u64 0] 39)).alloc (.cells #[.int .u64 0] 39)).alloc (.cells #[.bool false] 4)=w5:=⟨_,rfl⟩
 have z5:w5.heap.size=n+1+1+1+1+1:=by rw[←hw5];simp[z2]
 have b5:Below (n+1+1) w2 w5:=by rw[←hw5];exact(((Below.refl _ _).alloc (by omega) _).alloc (by simp;omega) _).alloc (by simp;omega) _
 have s5:Sok w5 (n+1) n:=s2.below b5 (by omega)
 obtain⟨w6,hw6⟩:∃w6,w5.alloc (.cells #[.int .u64 0,.slice (some ⟨n+1,0,none⟩) 1 1,.slice none 0 0,.slice (some ⟨n+1+1,0,none⟩) 1 1,.slice (some ⟨n+1+1+1,0,none⟩) 1 1,.slice (some ⟨n+1+1+1+1,0,none⟩) 1 1] 45)=w6:=⟨_,rfl⟩
 have z6:w6.heap.size=n+1+1+1+1+1+1:=by rw[←hw6];simp[z5]
 have b6:Below (n+1+1+1+1+1) w5 w6:=by rw[←hw6];exact(Below.refl _ _).alloc (by omega) _
 have x6:w6.heap[n+1+1+1+1+1]?=some (.cells #[.int .u64 0,.slice (some ⟨n+1,0,none⟩) 1 1,.slice none 0 0,.slice (some ⟨n+1+1,0,none⟩) 1 1,.slice (some ⟨n+1+1+1,0,none⟩) 1 1,.slice (some ⟨n+1+1+1+1,0,none⟩) 1 1] 45 (0,0)):=by rw[←hw6,←z5];exact heap_alloc_new _ _
 have s6:Sok w6 (n+1) n:=s5.below b6 (by omega)
 obtain⟨w7,hw7⟩:∃w7,w6.alloc (.cells #[.int .i64 0,.int .i64 (-1)] 96)=w7:=⟨_,rfl⟩
 have z7:w7.heap.size=n+1+1+1+1+1+1+1:=by rw[←hw7];simp[z6]
 have b7:Below (n+1+1+1+1+1+1) w6 w7:=by rw[←hw7];exact(Below.refl _ _).alloc (by omega) _
 have x7:w7.heap[n+1+1+1+1+1+1]?=some (.cells #[.int .i64 0,.int .i64 (-1)] 96 (0,0)):=by rw[←hw7,←z6];exact heap_alloc_new _ _
 obtain⟨w8,hw8⟩:∃w8,w7.alloc (.cells #[.int .i64 0,.int .u64 1,.int .i64 1,.bool true,.slice (some ⟨n+1+1+1+1+1+1,0,none⟩) 1 1,.slice none 0 0,.slice none 0 0,.int .i64 0,.slice none 0 0,.int .i64 0,.int .i64 0,.int .i64 0,.int .i64 0,.int .u64 0,.slice none 0 0] 56)=w8:=⟨_,rfl⟩
 have z8:w8.heap.size=n+1+1+1+1+1+1+1+1:=by rw[←hw8];simp[z7]
 have b8:Below (n+1+1+1+1+1+1+1) w7 w8:=by rw[←hw8];exact(Below.refl _ _).alloc (by omega) _
 have x8:w8.heap[n+1+1+1+1+1+1+1]?=some (.cells #[.int .i64 0,.int .u64 1,.int .i64 1,.bool true,.slice (some ⟨n+1+1+1+1+1+1,0,none⟩) 1 1,.slice none 0 0,.slice none 0 0,.int .i64 0,.slice none 0 0,.int .i64 0,.int .i64 0,.int .i64 0,.int .i64 0,.int .u64 0,.slice none 0 0] 56 (0,0)):=by rw[←hw8,←z7];exact heap_alloc_new _ _
 have y8:w8.heap[n+1+1+1+1+1+1]?=some (.cells #[.int .i64 0,.int .i64 (-1)] 96 (0,0)):=(b8.block _ (by omega)).trans x7
 have t8:w8.heap[n+1+1+1+1+1]?=some (.cells #[.int .u64 0,.slice (some ⟨n+1,0,none⟩) 1 1,.slice none 0 0,.slice (some ⟨n+1+1,0,none⟩) 1 1,.slice (some ⟨n+1+1+1,0,none⟩) 1 1,.slice (some ⟨n+1+1+1+1,0,none⟩) 1 1] 45 (0,0)):=(b8.block _ (by omega)).trans ((b7.block _ (by omega)).trans x6)
 have s8:Sok w8 (n+1) n:=(s6.below b7 (by omega)).below b8 (by omega)
 have B8:Below n w w8:=b1.trans ((b2.mono (by omega)).trans ((b5.mono (by omega)).trans ((b6.mono (by omega)).trans ((b7.mono (by omega)).trans (b8.mono (by omega))))))
 have HN:=hide hn
 have HW6:Hid ((((((w.alloc (.cells #[.int .i64 1,.int .i64 0] 78)).alloc (.cells #[.int .i64 6,.int .i64 5,.int .i64 4,.slice (some ⟨n,0,none⟩) 1 1] 81)).alloc (.cells #[.int .u64 0] 39)).alloc (.cells #[.int .u64 0] 39)).alloc (.cells #[.bool false] 4)).alloc (.cells #[.int .u64 0,.slice (some ⟨n+1,0,none⟩) 1 1,.slice none 0 0,.slice (some ⟨n+1+1,0,none⟩) 1 1,.slice (some ⟨n+1+1+1,0,none⟩) 1 1,.slice (some ⟨n+1+1+1+1,0,none⟩) 1 1] 45)=w6):=by show _=_;rw[hw1,hw2,hw5,hw6]
 have HW8:Hid ((w6.alloc (.cells #[.int .i64 0,.int .i64 (-1)] 96)).alloc (.cells #[.int .i64 0,.int .u64 1,.int .i64 1,.bool true,.slice (some ⟨n+1+1+1+1+1+1,0,none⟩) 1 1,.slice none 0 0,.slice none 0 0,.int .i64 0,.slice none 0 0,.int .i64 0,.int .i64 0,.int .i64 0,.int .i64 0,.int .u64 0,.slice none 0 0] 56)=w8):=by show _=_;rw[hw7,hw8]
 have HZ6:=hide z6
 have HZ8:=hide z8
 have HX8:=hide x8
 have HT8:=hide t8
 have HS8:=hide s8
 have HB8:=hide B8
 obtain⟨c0,c1,c2,c3,c4,c5⟩:=ac6 t8
 obtain⟨k0,k1,k2,k3,k4,k5,k6,k7,k8,k9,k10,k11,k12,k13,k14⟩:=ac15 x8
 have HJ:=hide (judge_one w8 (n+1) n (n+1+1) (n+1+1+1) (n+1+1+1+1) (n+1+1+1+1+1+1) 1 (Or.inl rfl) s8 y8)
 clear hw1 z1 b1 x1 hw2 z2 b2 x2 s2 hw5 z5 b5 s5 hw6 z6 b6 x6 s6 hw7 z7 b7 x7 hw8 z8 b8 x8 y8 t8 s8 B8 hn
 go_enter Tryz.func21,Tryz.ntmps21
 go_upto_region 2 with (fail)
 rw[HN.out]
 rw[HW6.out]
 go_upto_region 3 with (fail)
 rw[HZ6.out]
 rw[HW8.out]
 clear HW6 HW8 HZ6
 go_upto_region 4 with (go_at_call 47;refine HJ.out.mono ?_;rintro e w9 ⟨o,v,rfl,hm,hb9⟩;obtain⟨-,rfl,q,c,rfl,hq0,hq,hc⟩ | ⟨h,-⟩:=hm;rotate_left;exact absurd h (by decide);have HQ:=hide (And.intro hq0 (And.intro hq hc));have HB9:=hide hb9;clear hq0 hq hc hb9)
 obtain⟨w10,hw10⟩:∃w10,w9.alloc (.cells #[.int .i64 1,.slice (some ⟨q,0,none⟩) 1 c,.slice none 0 0,.int .i64 0] 125)=w10:=⟨_,rfl⟩
 rw[hw10]
 obtain⟨T,hT⟩:∃T,w9.heap.size=T:=⟨_,rfl⟩
 rw[hT]
 have z10:w10.heap.size=T+1:=by rw[←hw10];simp[hT]
 have b10:Below T w9 w10:=by rw[←hw10];exact(Below.refl _ _).alloc (by omega) _
 have x10:w10.heap[T]?=some (.cells #[.int .i64 1,.slice (some ⟨q,0,none⟩) 1 c,.slice none 0 0,.int .i64 0] 125 (0,0)):=by rw[←hw10,←hT];exact heap_alloc_new _ _
 have g9:n+1+1+1+1+1+1+1+1≤T:=by have h1:=HB9.out.size;have h2:=HZ8.out;omega
 have b810:Below (n+1+1+1+1+1+1+1+1) w8 w10:=by have h:=HB9.out;rw[HZ8.out]at h;exact h.trans (b10.mono g9)
 have xa10:=(b810.block (n+1+1+1+1+1+1+1) (by omega)).trans HX8.out
 have xs10:=(b810.block (n+1+1+1+1+1) (by omega)).trans HT8.out
 have s10:Sok w10 (n+1) n:=HS8.out.below b810 (by have h:=HZ8.out;omega)
 have q10:w10.cell? ⟨q,1,none⟩=some (.int .i64 (-1)):=by
  have h:=HQ.out.2.2
  have e:=b10.block q (by have h:=HQ.out.2.1;omega)
  unfold World.cell? at h ⊢
  simp only[e]
  exact h
 obtain⟨w11,hw11⟩:∃w11,w10.alloc (.cells #[.int .i64 0,.int .i64 (-2)] 96)=w11:=⟨_,rfl⟩
 have z11:w11.heap.size=T+1+1:=by rw[←hw11];simp[z10]
 have b11:Below (T+1) w10 w11:=by rw[←hw11];exact(Below.refl _ _).alloc (by omega) _
 have x11:w11.heap[T+1]?=some (.cells #[.int .i64 0,.int .i64 (-2)] 96 (0,0)):=by rw[←hw11,←z10];exact heap_alloc_new _ _
 have xa11:=(b11.block (n+1+1+1+1+1+1+1) (by omega)).trans xa10
 obtain⟨w12,hw12⟩:∃w12,w11.setCell ⟨n+1+1+1+1+1+1+1,4,none⟩ (.slice (some ⟨T+1,0,none⟩) 1 1)=w12:=⟨_,rfl⟩
 have xa12:w12.heap[n+1+1+1+1+1+1+1]?=some (.cells #[.int .i64 0,.int .u64 1,.int .i64 1,.bool true,.slice (some ⟨T+1,0,none⟩) 1 1,.slice none 0 0,.slice none 0 0,.int .i64 0,.slice none 0 0,.int .i64 0,.int .i64 0,.int .i64 0,.int .i64 0,.int .u64 0,.slice none 0 0] 56 (0,0)):=by rw[←hw12];exact RB.block_set xa11 _
 have u12:∀k,k≠n+1+1+1+1+1+1+1→w12.heap[k]?=w11.heap[k]?:=fun k hk=>by rw[←hw12];exact Below.heap_setCell _ _ _ _ hk
 have z12:w12.heap.size=T+1+1:=by rw[←hw12];simp[z11]
 have x12:w12.heap[T+1]?=some (.cells #[.int .i64 0,.int .i64 (-2)] 96 (0,0)):=(u12 _ (by omega)).trans x11
 have xs12:=(u12 (n+1+1+1+1+1) (by omega)).trans ((b11.block _ (by omega)).trans xs10)
 have xt12:=(u12 T (by omega)).trans ((b11.block _ (by omega)).trans x10)
 have s12:Sok w12 (n+1) n:=by
  have h:=s10.below b11 (by omega)
  exact⟨(u12 _ (by omega)).trans h.pool,(u12 _ (by omega)).trans h.held⟩
 have q12:w12.cell? ⟨q,1,none⟩=some (.int .i64 (-1))∧q<T:=by
  have hq1:=HQ.out.2.1
  refine⟨?_,by omega⟩
  have hq2:=HQ.out.1
  have e:=(u12 q (by have h:=HZ8.out;omega)).trans (b11.block q (by omega))
  have h:=q10
  unfold World.cell? at h ⊢
  simp only[e]
  exact h
 have B12:Below n w w12:=by
  rw[←hw12]
  exact(HB8.out.trans ((b810.mono (by omega)).trans (b11.mono (by omega)))).setCell (by show n≤n+1+1+1+1+1+1+1;omega) _
 have HW12:Hid ((w10.alloc (.cells #[.int .i64 0,.int .i64 (-2)] 96)).setCell ⟨n+1+1+1+1+1+1+1,4,none⟩ (.slice (some ⟨T+1,0,none⟩) 1 1)=w12):=by show _=_;rw[hw11,hw12]
 have HZ10:=hide z10
 have HS12:=hide s12
 have HXT:=hide xt12
 have HQ12:=hide q12
 have HB12:=hide B12
 have HZ12:=hide z12
 obtain⟨c0,c1,c2,c3,c4,c5⟩:=ac6 xs12
 obtain⟨d0,d1,d2,d3,d4,d5,d6,d7,d8,d9,d10,d11,d12,d13,d14⟩:=ac15 xa12
 have ct:=RB.bk_thaw xa11
 have ca:=(ac15 xa11).2.2.2.2.1
 rw[←hw11]at ct ca
 have HJ2:=hide (judge_one w12 (n+1) n (n+1+1) (n+1+1+1) (n+1+1+1+1) (T+1) 2 (Or.inr rfl) s12 x12)
 clear hw10 hT b10 x10 g9 b810 xa10 xs10 s10 q10 hw11 z11 b11 x11 xa11 hw12 xa12 u12 z12 x12 xs12 xt12 s12 q12 B12 HJ HX8 HT8 HS8 HB8 HQ HB9 k0 k1 k2 k3 k4 k5 k6 k7 k8 k9 k10 k11 k12 k13 k14 z10
 go_upto_region 5 with (fail)
 rw[HZ10.out,HW12.out]
 clear HW12 HZ10 ct ca
 go_upto_region 6 with (go_at_call 47;refine HJ2.out.mono ?_;rintro e w13 ⟨o,v,rfl,hm,hb13⟩;obtain⟨h,-⟩ | ⟨-,rfl,rfl⟩:=hm;exact absurd h (by decide);have HB13:=hide hb13;clear hb13)
 obtain⟨w14,hw14⟩:∃w14,w13.alloc (.cells #[.int .i64 3,.slice none 0 0,.slice none 0 0,.int .i64 0] 125)=w14:=⟨_,rfl⟩
 rw[hw14]
 have b14:Below (T+1+1) w12 w14:=by have h:=HB13.out;rw[HZ12.out]at h;rw[←hw14];exact h.alloc (by rw[←HZ12.out];exact HB13.out.size) _
 have x14:w14.heap[w13.heap.size]?=some (.cells #[.int .i64 3,.slice none 0 0,.slice none 0 0,.int .i64 0] 125 (0,0)):=by rw[←hw14];exact heap_alloc_new _ _
 have xt14:=(b14.block T (by omega)).trans HXT.out
 have q14:w14.cell? ⟨q,1,none⟩=some (.int .i64 (-1)):=by
  have h:=HQ12.out.1
  have e:=b14.block q (by have h:=HQ12.out.2;omega)
  unfold World.cell? at h ⊢
  simp only[e]
  exact h
 have HB14:=hide (HB12.out.trans (b14.mono (by have h:=HB12.out.size;rw[HZ12.out,HN.out]at h;omega)))
 obtain⟨m0,m1,m2,m3⟩:=ac4 xt14
 obtain⟨n0,n1,n2,n3⟩:=ac4 x14
 clear hw14 b14 x14 xt14 HJ2 HXT HQ12 HB12 HB13 HS12 HZ12 HZ8 c0 c1 c2 c3 c4 c5 d0 d1 d2 d3 d4 d5 d6 d7 d8 d9 d10 d11 d12 d13 d14
 go_wp2
 go_ret
 rw[HN.out]
 exact⟨rfl,HB14.out⟩
end Go.Proofs.YtfbegfapoijbnaaGreat
