import Derived.Lib.MinMax
import Derived.Test.YtiogibfhafoapaaGreatRwK
import Derived.Test.YtiogibfhafoapaaGreatWkE
set_option maxRecDepth 100000
set_option maxHeartbeats 8000000
set_option linter.unusedSimpArgs false
set_option linter.unusedVariables false
namespace Go.Proofs.YtiogibfhafoapaaGreat
open Go.RowKit
theorem Qky (w:World) (a b:Int) :
  Calls Tryz.prog 207 #[.int .i64 a,.int .i64 b] w fun e w'=>e=.returned (.int .i64 (max (min a (max b 0)) (wrap64 (-(max b 0)))))∧w'=w:=by
 go_enter Tryz.func207,Tryz.ntmps207;go_upto_region 2 with (fail);generalize hq:max b 0=q;have HQ:=Qaa hq;clear hq;go_wp2;go_ret;rw[HQ.out];exact⟨rfl,rfl⟩
theorem QjC (w:World) (a b:Int) :
  Calls Tryz.prog 208 #[.agg #[.int .i64 a,.int .i64 b]] w fun e w'=>e=.returned (.agg #[.int .i64 a,.int .i64 (wrap64 (1 - b))])∧Below w.heap.size w w':=by
 obtain⟨w2,hw2,hb2,hx2,hk2⟩:=QaQ w #[.int .i64 a,.int .i64 b] 175 175 #[.int .i64 0,.int .i64 0];obtain⟨c0,c1⟩:=ac2 hx2;have ct:=RB.bk_thaw hx2;obtain⟨w3,hw3⟩:=exq (w2.setCell ⟨w.heap.size,1,none⟩ (.int .i64 (wrap64 (1 - b))));have hx3:w3.heap[w.heap.size]?=some (.cells #[.int .i64 a,.int .i64 (wrap64 (1 - b))] 175 (0,0)):=by rw[←hw3];exact RB.block_set hx2 _
 have hk3:w3.heap[w.heap.size+1]?=some (.cells #[.int .i64 0,.int .i64 0] 175 (0,0)):=by rw[←hw3];exact(Below.heap_setCell _ _ _ _ (by show w.heap.size+1≠w.heap.size;omega)).trans hk2
 have HB3:Hid (Below w.heap.size w w3):=by show Below _ _ _;rw[←hw3];exact hb2.setCell (p:=⟨w.heap.size,1,none⟩) (Va _) _
 obtain⟨HX3,HK3,HW2,HW3⟩:=hd4 hx3 hk3 hw2 hw3;clear hw2 hb2 hx2 hk2 hw3 hx3 hk3;go_enter Tryz.func208,Tryz.ntmps208;go_upto_region 1 with (fail);rw[HW2.out];go_upto_region 2 with (fail);rw[HW3.out];clear c0 c1 ct;obtain⟨c0,c1⟩:=ac2 HX3.out;obtain⟨d0,d1⟩:=ac2 HK3.out;have ct:=RB.bk_thaw HK3.out;go_wp2;refine Vg (VF rfl _ _ (w.heap.size+1) 175 #[.int .i64 a,.int .i64 (wrap64 (1 - b))] (0,0) _ rfl (by rw[RB.block_set (RB.block_set HK3.out _) _];rfl) Tryz.underlying175 rfl (by kernel_rfl)) rfl ?_;exact⟨rfl,(HB3.out.setCell (p:=⟨w.heap.size+1,0,none⟩) (by show w.heap.size≤w.heap.size+1;omega) _).setCell (p:=⟨w.heap.size+1,1,none⟩) (by show w.heap.size≤w.heap.size+1;omega) _⟩
theorem Qjd (w:World) (a b n:Int) :
  Calls Tryz.prog 209 #[.agg #[.int .i64 a,.int .i64 b],.int .i64 n] w fun e w'=>e=.returned (.agg #[.int .i64 a,.int .i64 (if b=0 then wrap64 (-n) else n)])∧Below w.heap.size w w':=by
 obtain⟨w2,hw2,hb2,hx2,hk2⟩:=QaQ w #[.int .i64 a,.int .i64 b] 175 132 #[.int .i64 0,.int .i64 0];obtain⟨c0,c1⟩:=ac2 hx2;obtain⟨d0,d1⟩:=ac2 hk2;have ct:=RB.bk_thaw hk2;obtain⟨HB2,HK2,HW2⟩:=Qmk hb2 hk2 hw2;clear hw2 hb2 hx2 hk2;by_cases hb:b=0
 ·subst hb
  rw[if_pos rfl];go_enter Tryz.func209,Tryz.ntmps209;go_upto_region 1 with (fail);rw[HW2.out];go_wp2;refine Vg (VF rfl _ _ (w.heap.size+1) 132 #[.int .i64 a,.int .i64 (wrap64 (-n))] (0,0) _ rfl (by rw[RB.block_set (RB.block_set HK2.out _) _];rfl) Tryz.underlying132 rfl (by kernel_rfl)) rfl ?_;exact⟨rfl,(HB2.out.setCell (p:=⟨w.heap.size+1,0,none⟩) (by show w.heap.size≤w.heap.size+1;omega) _).setCell (p:=⟨w.heap.size+1,1,none⟩) (by show w.heap.size≤w.heap.size+1;omega) _⟩
 ·rw[if_neg hb]
  go_enter Tryz.func209,Tryz.ntmps209;go_upto_region 1 with (fail);rw[HW2.out];go_wp2;refine Vg (VF rfl _ _ (w.heap.size+1) 132 #[.int .i64 a,.int .i64 n] (0,0) _ rfl (by rw[RB.block_set (RB.block_set HK2.out _) _];rfl) Tryz.underlying132 rfl (by kernel_rfl)) rfl ?_;exact⟨rfl,(HB2.out.setCell (p:=⟨w.heap.size+1,0,none⟩) (by show w.heap.size≤w.heap.size+1;omega) _).setCell (p:=⟨w.heap.size+1,1,none⟩) (by show w.heap.size≤w.heap.size+1;omega) _⟩
theorem Qc9 (w:World) (p:Option Addr) (n c:Nat) (xs:List Lin) (hn:xs.length=n) (hnl:n≤1099511627776) (hx:Cel w p 2 (xs.map Qal)) :
  Calls Tryz.prog 160 #[.slice p n c] w fun e w'=>∃v,e=.returned v∧w'.ownsRow w.heap.size 132 2 v n (QaI xs)∧Below w.heap.size w w':=by
 have q22:∀(w:World) (a:Option Addr) (n c n' c':Nat),(binOp .eql 46 (.slice a n c) (.slice none n' c')).run Tryz.prog w=.ok (.bool a.isNone) w:=fun w a n c n' c'=>Lib.run_eql_slice_nil w _ _ a n c n' c' Tryz.underlying46
 cases p with
 | none =>
  have hxs:xs=[]:=by
   rcases hx with h | ⟨b,o,e,_⟩
   ·simpa using h
   ·cases e
  subst hxs;have hn0:n=0:=hn.symm;subst hn0;clear hn hx;go_enter Tryz.func160,Tryz.ntmps160;go_wp2;go_ret;exact⟨_,rfl,VQ _ _ _ _,bR⟩
 | some a =>
  have HE:Hid ((w.alloc (.cells #[] 132)).ownsRow w.heap.size 132 2 (.slice (some ⟨w.heap.size,0,none⟩) 0 0) 0 []):=⟨rfl,Or.inr ⟨w.heap.size,0,#[],rfl,Va _,hNq _ _,Va _,by unfold maxLen;omega,rfl,rfl⟩⟩;have HC:=Qaa (hx.below ((Below.refl _ w).alloc (Va _) (.cells #[] 132)));have HN:=Qaa hn;clear hx hn;go_enter Tryz.func160,Tryz.ntmps160;go_wp2_with (at_builtin;refine QbG rfl (.tmp 5) (.tmp 6) rfl w.heap.size _ 0 0 [] rfl HE.out _ n c xs rfl HN.out HC.out (by omega) (by simp) ?_;intro q c w2 hown2 hgrow2;have HO2:=Qaa hown2;have HB2:Hid (Below w.heap.size w w2):=((Below.refl _ w).alloc (Va _) _).grown hgrow2 (by simp) (fun k e=>by cases e;exact Va _);clear hown2 hgrow2)
  go_ret;have h:=HO2.out;rw[Nat.zero_add,VU]at h;first | exact⟨_,rfl,h,HB2.out⟩ | (rw[Nat.zero_add];exact⟨_,rfl,h,HB2.out⟩)
end Go.Proofs.YtiogibfhafoapaaGreat
