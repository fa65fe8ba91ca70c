import Derived.Sort.MapsRangeIn
import Derived.RegionIn
import Derived.Test.YtiogibfhafoapaaGreatNdF
set_option maxRecDepth 100000
set_option maxHeartbeats 8000000
set_option linter.unusedSimpArgs false
set_option linter.unusedVariables false
namespace Go.Proofs.YtiogibfhafoapaaGreat
open Go.RowKit Go.Shelf
attribute [local go_sem] Oper.semAt_some
theorem Qiy (n:Nat) (p:Option Addr) (len cap:Nat) (w:World) :
  CallsIn Fence.wide n Tryz.prog 102 #[.slice p len cap] w fun e w'=>e=.returned (.func (.func 170) #[] #[.pointer (some ⟨w.heap.size,0,none⟩)])∧w'=w.alloc (.cells #[.slice p len cap] 46):=by
 refine callsIn_of_wp Tryz.func102 rfl trivial ?_ rfl;simp only[Tryz.ntmps102,List.size_toArray,VO,List.length_nil,Nat.reduceAdd,Nat.reduceSub,Array.replicate_succ,Array.replicate_zero,List.push_toArray,List.append_toArray,VU,List.cons_append]
 gi_wp2
 go_ret;exact⟨rfl,rfl⟩
theorem Qer (n:Nat) (hn:2≤n) (Bs n₀:Nat) (p:Option Addr) (len cap:Nat) (xs:List Lin) (hlen:xs.length=len) (hreach:len≤8796093022208) (hxs:∀x∈xs,Qaw x) (hxc:∀x∈xs,(Lit.int .i64 x.c).wf=true) (w:World) (hBl:Bs<w.heap.size) (hn0:n₀≤w.heap.size)
  (hBs:w.cell? ⟨Bs,0,none⟩=some (.slice p len cap)) (hL:QjH n₀ w p xs) :
  SeqStopsK Fence.wide n Tryz.prog 170 #[.pointer (some ⟨Bs,0,none⟩)] QlW (Below n₀) (fun ys=>ys=Qgv xs hxc) (fun pre=>pre <+: Qgv xs hxc) len w:=fun l J Jx W hW hJ _ hY h0 =>
 Qj7 n hn l Bs n₀ p len cap xs hlen hreach hxs hxc J Jx hY W hJ (Vt hn0 hW.size) ((hW.cell (p:=⟨Bs,0,none⟩) hBl).trans hBs) (hL.below (hW.mono hn0)) h0
theorem QkH {H:Type} (n:Nat) (hn:1≤n) (l Bm b nn:Nat) (D0:DataW H) (J Jx:List K64→World→Prop)
  (hY:∀pre x W,J pre W→pre.length<Maps.size D0→YieldAt Fence.wide (n - 1) Tryz.prog l #[kv x.1] W fun e W' =>
   (e=.returned (.bool true)∧J (pre++[x]) W'∧KeepsWalks W W')∨(e=.returned (.bool false)∧Jx (pre++[x]) W'))
  (W:World) (hJ:AbidesFrom W.heap.size J) (hm:W.cell? ⟨Bm,0,none⟩=some (.map (some b))) (hown:W.ownsMap Tryz.prog 175 (plainElem (H:=H) Tryz.prog 2) b nn D0) (h0:J [] W) :
  CallsIn Fence.wide n Tryz.prog 174 #[.func (.yield l) #[] #[],.pointer (some ⟨Bm,0,none⟩)] W fun e W'=>(∃v,e=.returned v) ∧
   ((∃ss:List K64,(ss.Nodup∧∀x:K64,x∈ss↔Maps.has D0 (Qcz x.1)=true)∧J ss W')∨(∃pre:List K64,True∧Jx pre W')):=by
 refine callsIn_of_wp Tryz.func174 rfl trivial ?_ rfl;simp only[Tryz.ntmps174,List.size_toArray,VO,List.length_nil,Nat.reduceAdd,Nat.reduceSub,Array.replicate_succ,Array.replicate_zero,List.push_toArray,List.append_toArray,VU,List.cons_append]
 gi_wp2_with (first
  | (gi_at_range;refine wpListIn_range_own _ rfl _ 187 rfl 175 2 QaU Tryz.underlying187 _ b nn _ rfl hown ?_;intro w0 hrg0 hg0 hs0)
  | gi_in)
 go_frame
 gi_loopw [3] (fun _ wr=>∃(left:Lit→Bool) (cnt:Nat) (ss:List K64),wr.ranges Tryz.prog 175 (plainElem (H:=H) Tryz.prog 2) b W.heap.size nn D0 left cnt∧ss.length+cnt≤Maps.size D0∧Qlr D0 left ss∧J ss wr)
  (fun _ wr=>wr.rangeLeft b W.heap.size)
 case atStart =>
  exact⟨_,_,[],hrg0,by simp,Qlr.start D0,hJ [] W w0 none h0 hg0 (fun r e=>by cases e)⟩
 case round =>
  obtain⟨left,cnt,ss,hrg,hcs,hC,hJs⟩:=hrel
  gi_wp2_with (first
   | (gi_at_next;refine wpListIn_next_ranges _ rfl _ rfl 175 QaU (plainElem (H:=H) Tryz.prog 2) (fun x:K64=>kv x.1) id (fun key kl hk=>by obtain⟨x,hx,_⟩:=QgP hk;exact⟨x,hx⟩) (fun v _ _=>⟨v,rfl⟩) b W.heap.size nn _ _ _ rfl hrg ?_ ?_)
   | gi_in)
  ·intro hc0 hl0
   gi_wp2
   go_end0;exact⟨⟨_,rfl⟩,.inl ⟨ss,⟨hC.1,fun x=>by rw[hC.2 x,hl0];simp⟩,hJs⟩⟩
  ·intro x1 x2 hx1 hx2 c kl yd yp w2 cnt2 hkey hlk hv hat hrg2 hlt hg2 hs2 hen
   obtain⟨x,hxe⟩:∃x:K64,x=⟨(x1,x2),hx1,hx2⟩:=⟨_,rfl⟩;obtain rfl:x1=x.1.1:=by rw[hxe]
   obtain rfl:x2=x.1.2:=by rw[hxe]
   clear hxe;obtain⟨x',ex,rfl⟩:=QgP hkey;obtain rfl:x=x':=Subtype.ext (QkS ex);have hJ2:J ss w2:=hJ ss wr w2 (some W.heap.size) hJs hg2 (fun r e=>by cases e;exact⟨Va _,hrg.iter_walk⟩);obtain⟨w3,hw3⟩:=exq (w2.alloc (.cells #[.int .i64 x.1.1,.int .i64 x.1.2] 175));have hJ3:J ss w3:=by rw[←hw3];exact hJ ss w2 _ none hJ2 (World.grownBy_alloc w2 _ none) (fun r e=>by cases e)
   have hk2:KeepsWalks w2 w3:=by rw[←hw3];exact KeepsWalks.alloc _ _
   obtain⟨fn,tmps,assign,body,hy,hR⟩:=hY ss x w3 hJ3 (by omega);have c0:w3.cell? ⟨w2.heap.size,0,none⟩=some (.int .i64 x.1.1):=by rw[←hw3];simp
   have c1:w3.cell? ⟨w2.heap.size,1,none⟩=some (.int .i64 x.1.2):=by rw[←hw3];simp
   have HW3:=Qaa hw3;clear hs2 hw3;simp only[kv]at hy hen;have hC2:=hC.step Qme hlk hat
   gi_wp2
   rw[HW3.out,hy]
   gi_wp2
   refine hR.mono ?_;rintro e W3 (⟨rfl,hJ4,hk4⟩ | ⟨rfl,hJx4⟩)
   ·gi_wp2
    have hrg3:=hrg2.of_walks (hk2.trans hk4);go_roundw;case rel=>exact⟨_,cnt2,ss++[x],hrg3,by simp;omega,hC2,hJ4⟩
    case measure=>rw[hrg3.left_eq,hrg.left_eq];exact hlt
   ·gi_wp2
    refine Vg (results_none rfl _ _ _) rfl ?_;exact⟨⟨_,rfl⟩,.inr ⟨ss++[x],trivial,hJx4⟩⟩
theorem Qlo (n:Nat) (mb:Option Nat) (w:World) :
  CallsIn Fence.wide n Tryz.prog 104 #[.map mb] w fun e w'=>e=.returned (.func (.func 174) #[] #[.pointer (some ⟨w.heap.size,0,none⟩)])∧w'=w.alloc (.cells #[.map mb] 187):=by
 refine callsIn_of_wp Tryz.func104 rfl trivial ?_ rfl;simp only[Tryz.ntmps104,List.size_toArray,VO,List.length_nil,Nat.reduceAdd,Nat.reduceSub,Array.replicate_succ,Array.replicate_zero,List.push_toArray,List.append_toArray,VU,List.cons_append]
 gi_wp2
 go_ret;exact⟨rfl,rfl⟩
theorem Qhd {H:Type} (n:Nat) (hn:1≤n) (Bm b nn:Nat) (D0:DataW H) (w:World) (hBm:Bm<w.heap.size)
  (hm:w.cell? ⟨Bm,0,none⟩=some (.map (some b))) (hown:w.ownsMap Tryz.prog 175 (plainElem (H:=H) Tryz.prog 2) b nn D0) :
  SeqStopsK Fence.wide n Tryz.prog 174 #[.pointer (some ⟨Bm,0,none⟩)] (fun x:K64=>#[kv x.1]) KeepsWalks (fun ss=>ss.Nodup∧∀x:K64,x∈ss↔Maps.has D0 (Qcz x.1)=true) (fun _=>True) (Maps.size D0) w:=fun l J Jx W hW hJ _ hY h0=>by
 have hown':W.ownsMap Tryz.prog 175 (plainElem (H:=H) Tryz.prog 2) b nn D0:=by
  have hbl:=hown.lt;obtain⟨es,clock,hb,Ft,hs,hD⟩:=hown;exact⟨es,clock,(hW.block b hbl).trans hb,Ft,hs,hD⟩
 exact QkH n hn l Bm b nn D0 J Jx hY W hJ ((hW.cell (p:=⟨Bm,0,none⟩) hBm).trans hm) hown' h0
end Go.Proofs.YtiogibfhafoapaaGreat
