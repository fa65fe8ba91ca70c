import Derived.Test.YtiogibfhafoapaaGreatNdE
import Derived.Sort.MapsRangeIn
import Derived.RegionIn
set_option maxRecDepth 100000
set_option maxHeartbeats 8000000
set_option linter.unusedSimpArgs false
set_option linter.unusedVariables false
namespace Go.Proofs.YtiogibfhafoapaaGreat
open Go.RowKit Go.Shelf
attribute [local go_sem] Oper.semAt_some
theorem grown_drew {W W':World} {r:Option Nat} (h:W.grownBy W' r):W.grownBy W'.drew r:=⟨h.os,h.tape,h.output,h.size,h.block⟩
theorem take_snoc {α:Type} {xs:List α} {k:Nat} {x:α} (h:xs[k]?=some x):xs.take (k+1)=xs.take k++[x]:=by rw[List.take_add_one,h];rfl
theorem each1_in (n:Nat) (hn:2≤n) (l Bs n₀:Nat) (p:Option Addr) (len cap:Nat) (xs:List Lin) (hlen:xs.length=len) (hreach:len≤8796093022208) (hxs:∀x∈xs,LinWf x) (hxc:∀x∈xs,(Lit.int .i64 x.c).wf=true) (J Jx:List R64→World→Prop)
  (hY:∀pre x W,J pre W→pre.length<len→YieldAt Fence.wide (n - 1) Tryz.prog l (encR x) W fun e W' =>
   (e=.returned (.bool true)∧J (pre++[x]) W'∧Below n₀ W W')∨(e=.returned (.bool false)∧Jx (pre++[x]) W'))
  (W:World) (hJ:AbidesFrom W.heap.size J) (hn0:n₀≤W.heap.size) (hBs:W.cell? ⟨Bs,0,none⟩=some (.slice p len cap)) (hL:Lins n₀ W p xs) (h0:J [] W) :
  CallsIn Fence.wide n Tryz.prog 170 #[.func (.yield l) #[] #[],.pointer (some ⟨Bs,0,none⟩)] W fun e W'=>(∃v,e=.returned v) ∧
   ((∃ys,ys=rsOf xs hxc∧J ys W')∨(∃pre,pre <+: rsOf xs hxc∧Jx pre W')):=by
 have h1:1≤n:=by omega
 have hmx:Tryz.prog.follows .mixedOrders=true:=by kernel_rfl
 have HL:=hide hL;have HX:=hide hxs;clear hL hxs;refine callsIn_of_wp Tryz.func170 rfl trivial ?_ rfl;simp only[Tryz.ntmps170,List.size_toArray,List.length_cons,List.length_nil,Nat.reduceAdd,Nat.reduceSub,Array.replicate_succ,Array.replicate_zero,List.push_toArray,List.append_toArray,List.nil_append,List.cons_append]
 gi_wp2
 gi_loopw [8] (fun i wr=>∃k:Nat,k≤len∧i=.int .i64 k∧J ((rsOf xs hxc).take k) wr∧Below n₀ W wr∧W.heap.size≤wr.heap.size)
  (fun i _=>len - (intOf i).toNat)
 case atStart=>exact⟨0,Nat.zero_le _,rfl,h0,Below.refl _ _,Nat.le_refl _⟩
 case round =>
  obtain⟨k,hk,rfl,hJs,hnx,hsz⟩:=hrel;by_cases hlt:k<len
  ·obtain⟨x,hx⟩:∃x,xs[k]?=some x:=⟨_,List.getElem?_eq_getElem (by omega)⟩
   obtain⟨hxw,hr⟩:=rsOf_get xs hxc k x hx;obtain⟨b,o,rfl,hb,hcl⟩:=(HL.out.below hnx).resolve_left (by intro e;rw[e]at hx;simp at hx);obtain⟨a0,a1⟩:=hcl k x hx;have hwf:=HX.out x (List.mem_of_getElem? hx);have hlt':(k:Int)<(len:Int):=by omega
   obtain⟨xc,xn⟩:=x;simp only at a0 a1;have HAm:=hide (fun W'=>callsIn_wide (n:=n - 1).2 (amount_any xn hwf.2 W'));have HC:=hide (amt_conv xn hwf.2);obtain⟨w2,hw2⟩:∃w2,wr.alloc (.cells #[.int .i64 xc,.int .i64 xn] 132)=w2:=⟨_,rfl⟩;have hg2:wr.grownBy w2.drew none:=by rw[←hw2];exact grown_drew (World.grownBy_alloc wr _ none)
   have hJ2:J ((rsOf xs hxc).take k) w2.drew:=hJ _ wr _ none hJs hg2 (fun r e=>by cases e);obtain⟨fn,tmps,assign,body,hy,hR⟩:=hY _ (rOf ⟨xc,xn⟩ hxw) w2.drew hJ2 (by rw[List.length_take];omega);have c0:w2.cell? ⟨wr.heap.size,0,none⟩=some (.int .i64 xc):=by rw[←hw2];simp
   have c1:w2.cell? ⟨wr.heap.size,1,none⟩=some (.int .i64 xn):=by rw[←hw2];simp
   have HW2:=hide hw2
   have HR:Hid (RoundIn Fence.wide (n - 1) Tryz.prog l fn tmps assign body w2.drew fun e W'=>∃g:Bool,e=.returned (.bool g)∧Hid ((g=true∧J ((rsOf xs hxc).take k++[rOf ⟨xc,xn⟩ hxw]) W'∧Below n₀ w2.drew W')∨(g=false∧Jx ((rsOf xs hxc).take k++[rOf ⟨xc,xn⟩ hxw]) W'))) :=
    hR.mono fun e W' h=>h.elim (fun h=>⟨true,h.1,.inl ⟨rfl,h.2⟩⟩) (fun h=>⟨false,h.1,.inr ⟨rfl,h.2⟩⟩)
   have HXk:=hide hx
   have HBd:Hid (Below n₀ W w2.drew):=by
    have h:Below n₀ W w2:=by rw[←hw2];exact hnx.alloc (Nat.le_trans hn0 hsz) _
    exact h.drew
   have HSd:Hid (W.heap.size≤w2.drew.heap.size):=by
    have h:W.heap.size≤w2.heap.size:=by rw[←hw2];simp;omega
    exact h
   clear hw2 hg2 hcl hx hR;simp only[encR,rOf,triOf,keyT,kv]at hy;have HT:=hide (take_snoc hr);clear hr;by_cases hneg:xn<0
   ·have e0:wayOf xn=0:=by simp[wayOf,hneg]
    rw[e0,←HC.out]at hy
    gi_wp2
    rw[HW2.out]
    gi_region_with_o (first | (refine⟨trivial,?_⟩;gi_at_call 171;refine(HAm.out _).mono ?_;rintro e w' ⟨rfl,rfl⟩) | (refine HR.out.mono ?_;rintro e w3 ⟨g,rfl,HG⟩))
    all_goals (
     rcases HG.out with ⟨rfl,hJ3,hB3⟩ | ⟨rfl,hJx3⟩
     ·clear HG
      gi_wp2
      go_roundw;case rel=>exact⟨k+1,by omega,by go_num,by rw[HT.out];exact hJ3,HBd.out.trans hB3,Nat.le_trans HSd.out hB3.size⟩
      case measure=>simp[intOf];omega
     ·clear HG
      gi_wp2
      refine bodyPost_ret (results_none rfl _ _ _) rfl ?_;exact⟨⟨_,rfl⟩,.inr ⟨_,by rw[←HT.out];exact List.take_prefix _ _,hJx3⟩⟩)
   ·have e0:wayOf xn=1:=by simp[wayOf,hneg]
    rw[e0,←HC.out]at hy
    gi_wp2
    rw[HW2.out]
    gi_region_with_o (first | (refine⟨trivial,?_⟩;gi_at_call 171;refine(HAm.out _).mono ?_;rintro e w' ⟨rfl,rfl⟩) | (refine HR.out.mono ?_;rintro e w3 ⟨g,rfl,HG⟩))
    all_goals (
     rcases HG.out with ⟨rfl,hJ3,hB3⟩ | ⟨rfl,hJx3⟩
     ·clear HG
      gi_wp2
      go_roundw;case rel=>exact⟨k+1,by omega,by go_num,by rw[HT.out];exact hJ3,HBd.out.trans hB3,Nat.le_trans HSd.out hB3.size⟩
      case measure=>simp[intOf];omega
     ·clear HG
      gi_wp2
      refine bodyPost_ret (results_none rfl _ _ _) rfl ?_;exact⟨⟨_,rfl⟩,.inr ⟨_,by rw[←HT.out];exact List.take_prefix _ _,hJx3⟩⟩)
  ·obtain rfl:k=len:=by omega
   gi_wp2
   go_end0;exact⟨⟨_,rfl⟩,.inl ⟨_,by rw[List.take_of_length_le (by rw[rsOf_len];omega)],hJs⟩⟩
attribute [local go_sem] Oper.semAt_some
theorem each_in (n:Nat) (p:Option Addr) (len cap:Nat) (w:World) :
  CallsIn Fence.wide n Tryz.prog 102 #[.slice p len cap] w fun e w'=>e=.returned (.func (.func 170) #[] #[.pointer (some ⟨w.heap.size,0,none⟩)])∧w'=w.alloc (.cells #[.slice p len cap] 46):=by
 refine callsIn_of_wp Tryz.func102 rfl trivial ?_ rfl;simp only[Tryz.ntmps102,List.size_toArray,List.length_cons,List.length_nil,Nat.reduceAdd,Nat.reduceSub,Array.replicate_succ,Array.replicate_zero,List.push_toArray,List.append_toArray,List.nil_append,List.cons_append]
 gi_wp2
 go_ret;exact⟨rfl,rfl⟩
theorem each_stops (n:Nat) (hn:2≤n) (Bs n₀:Nat) (p:Option Addr) (len cap:Nat) (xs:List Lin) (hlen:xs.length=len) (hreach:len≤8796093022208) (hxs:∀x∈xs,LinWf x) (hxc:∀x∈xs,(Lit.int .i64 x.c).wf=true) (w:World) (hBl:Bs<w.heap.size) (hn0:n₀≤w.heap.size)
  (hBs:w.cell? ⟨Bs,0,none⟩=some (.slice p len cap)) (hL:Lins n₀ w p xs) :
  SeqStopsK Fence.wide n Tryz.prog 170 #[.pointer (some ⟨Bs,0,none⟩)] encR (Below n₀) (fun ys=>ys=rsOf xs hxc) (fun pre=>pre <+: rsOf xs hxc) len w:=fun l J Jx W hW hJ _ hY h0 =>
 each1_in n hn l Bs n₀ p len cap xs hlen hreach hxs hxc J Jx hY W hJ (Nat.le_trans hn0 hW.size) ((hW.cell (p:=⟨Bs,0,none⟩) hBl).trans hBs) (hL.below (hW.mono hn0)) h0
theorem keys1_in {H:Type} (n:Nat) (hn:1≤n) (l Bm b nn:Nat) (D0:DataW H) (J Jx:List K64→World→Prop)
  (hY:∀pre x W,J pre W→pre.length<Maps.size D0→YieldAt Fence.wide (n - 1) Tryz.prog l #[kv x.1] W fun e W' =>
   (e=.returned (.bool true)∧J (pre++[x]) W'∧KeepsWalks W W')∨(e=.returned (.bool false)∧Jx (pre++[x]) W'))
  (W:World) (hJ:AbidesFrom W.heap.size J) (hm:W.cell? ⟨Bm,0,none⟩=some (.map (some b))) (hown:W.ownsMap Tryz.prog 175 (plainElem (H:=H) Tryz.prog 2) b nn D0) (h0:J [] W) :
  CallsIn Fence.wide n Tryz.prog 174 #[.func (.yield l) #[] #[],.pointer (some ⟨Bm,0,none⟩)] W fun e W'=>(∃v,e=.returned v) ∧
   ((∃ss:List K64,(ss.Nodup∧∀x:K64,x∈ss↔Maps.has D0 (klit x.1)=true)∧J ss W')∨(∃pre:List K64,True∧Jx pre W')):=by
 refine callsIn_of_wp Tryz.func174 rfl trivial ?_ rfl;simp only[Tryz.ntmps174,List.size_toArray,List.length_cons,List.length_nil,Nat.reduceAdd,Nat.reduceSub,Array.replicate_succ,Array.replicate_zero,List.push_toArray,List.append_toArray,List.nil_append,List.cons_append]
 gi_wp2_with (first
  | (gi_at_range;refine wpListIn_range_own _ rfl _ 187 rfl 175 2 kind_keyed Tryz.underlying187 _ b nn _ rfl hown ?_;intro w0 hrg0 hg0 hs0)
  | gi_in)
 go_frame
 gi_loopw [3] (fun _ wr=>∃(left:Lit→Bool) (cnt:Nat) (ss:List K64),wr.ranges Tryz.prog 175 (plainElem (H:=H) Tryz.prog 2) b W.heap.size nn D0 left cnt∧ss.length+cnt≤Maps.size D0∧Coll D0 left ss∧J ss wr)
  (fun _ wr=>wr.rangeLeft b W.heap.size)
 case atStart =>
  exact⟨_,_,[],hrg0,by simp,Coll.start D0,hJ [] W w0 none h0 hg0 (fun r e=>by cases e)⟩
 case round =>
  obtain⟨left,cnt,ss,hrg,hcs,hC,hJs⟩:=hrel
  gi_wp2_with (first
   | (gi_at_next;refine wpListIn_next_ranges _ rfl _ rfl 175 kind_keyed (plainElem (H:=H) Tryz.prog 2) (fun x:K64=>kv x.1) id (fun key kl hk=>by obtain⟨x,hx,_⟩:=kind_inv hk;exact⟨x,hx⟩) (fun v _ _=>⟨v,rfl⟩) b W.heap.size nn _ _ _ rfl hrg ?_ ?_)
   | gi_in)
  ·intro hc0 hl0
   gi_wp2
   go_end0;exact⟨⟨_,rfl⟩,.inl ⟨ss,⟨hC.1,fun x=>by rw[hC.2 x,hl0];simp⟩,hJs⟩⟩
  ·intro x1 x2 hx1 hx2 c kl yd yp w2 cnt2 hkey hlk hv hat hrg2 hlt hg2 hs2 hen
   obtain⟨x,hxe⟩:∃x:K64,x=⟨(x1,x2),hx1,hx2⟩:=⟨_,rfl⟩;obtain rfl:x1=x.1.1:=by rw[hxe]
   obtain rfl:x2=x.1.2:=by rw[hxe]
   clear hxe;obtain⟨x',ex,rfl⟩:=kind_inv hkey;obtain rfl:x=x':=Subtype.ext (kv_inj ex);have hJ2:J ss w2:=hJ ss wr w2 (some W.heap.size) hJs hg2 (fun r e=>by cases e;exact⟨Nat.le_refl _,hrg.iter_walk⟩);obtain⟨w3,hw3⟩:∃w3,w2.alloc (.cells #[.int .i64 x.1.1,.int .i64 x.1.2] 175)=w3:=⟨_,rfl⟩;have hJ3:J ss w3:=by rw[←hw3];exact hJ ss w2 _ none hJ2 (World.grownBy_alloc w2 _ none) (fun r e=>by cases e)
   have hk2:KeepsWalks w2 w3:=by rw[←hw3];exact KeepsWalks.alloc _ _
   obtain⟨fn,tmps,assign,body,hy,hR⟩:=hY ss x w3 hJ3 (by omega);have c0:w3.cell? ⟨w2.heap.size,0,none⟩=some (.int .i64 x.1.1):=by rw[←hw3];simp
   have c1:w3.cell? ⟨w2.heap.size,1,none⟩=some (.int .i64 x.1.2):=by rw[←hw3];simp
   have HW3:=hide hw3;clear hs2 hw3;simp only[kv]at hy hen;have hC2:=hC.step kinj hlk hat
   gi_wp2
   rw[HW3.out,hy]
   gi_wp2
   refine hR.mono ?_;rintro e W3 (⟨rfl,hJ4,hk4⟩ | ⟨rfl,hJx4⟩)
   ·gi_wp2
    have hrg3:=hrg2.of_walks (hk2.trans hk4);go_roundw;case rel=>exact⟨_,cnt2,ss++[x],hrg3,by simp;omega,hC2,hJ4⟩
    case measure=>rw[hrg3.left_eq,hrg.left_eq];exact hlt
   ·gi_wp2
    refine bodyPost_ret (results_none rfl _ _ _) rfl ?_;exact⟨⟨_,rfl⟩,.inr ⟨ss++[x],trivial,hJx4⟩⟩
theorem keys_in (n:Nat) (mb:Option Nat) (w:World) :
  CallsIn Fence.wide n Tryz.prog 104 #[.map mb] w fun e w'=>e=.returned (.func (.func 174) #[] #[.pointer (some ⟨w.heap.size,0,none⟩)])∧w'=w.alloc (.cells #[.map mb] 187):=by
 refine callsIn_of_wp Tryz.func104 rfl trivial ?_ rfl;simp only[Tryz.ntmps104,List.size_toArray,List.length_cons,List.length_nil,Nat.reduceAdd,Nat.reduceSub,Array.replicate_succ,Array.replicate_zero,List.push_toArray,List.append_toArray,List.nil_append,List.cons_append]
 gi_wp2
 go_ret;exact⟨rfl,rfl⟩
theorem keys_stops {H:Type} (n:Nat) (hn:1≤n) (Bm b nn:Nat) (D0:DataW H) (w:World) (hBm:Bm<w.heap.size)
  (hm:w.cell? ⟨Bm,0,none⟩=some (.map (some b))) (hown:w.ownsMap Tryz.prog 175 (plainElem (H:=H) Tryz.prog 2) b nn D0) :
  SeqStopsK Fence.wide n Tryz.prog 174 #[.pointer (some ⟨Bm,0,none⟩)] (fun x:K64=>#[kv x.1]) KeepsWalks (fun ss=>ss.Nodup∧∀x:K64,x∈ss↔Maps.has D0 (klit x.1)=true) (fun _=>True) (Maps.size D0) w:=fun l J Jx W hW hJ _ hY h0=>by
 have hown':W.ownsMap Tryz.prog 175 (plainElem (H:=H) Tryz.prog 2) b nn D0:=by
  have hbl:=hown.lt;obtain⟨es,clock,hb,Ft,hs,hD⟩:=hown;exact⟨es,clock,(hW.block b hbl).trans hb,Ft,hs,hD⟩
 exact keys1_in n hn l Bm b nn D0 J Jx hY W hJ ((hW.cell (p:=⟨Bm,0,none⟩) hBm).trans hm) hown' h0
end Go.Proofs.YtiogibfhafoapaaGreat
