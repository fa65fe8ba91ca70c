import Derived.RangeFuncNested
import Derived.RangeFuncBound
import Derived.RangeFuncCalls
import Derived.RangeFuncLeaves
import Derived.Shelf.Abstract
import Derived.Shelf.RegionOpen
import Derived.OwnWalkIn
import Derived.TacticsInMore
import Derived.LoopNIn
import Derived.LoopIn
import Derived.Test.YtfbegfapoijbnaaGreatNdK
set_option maxRecDepth 100000
namespace Go.Proofs.YtfbegfapoijbnaaGreat
open Go.RowKit Go.Shelf
attribute [local go_sem] Oper.semAt_some
def amtU (n:Int):Int:=if n<0 then -n else n
set_option maxHeartbeats 400000 in
theorem amount_any (n:Int) (hw:(Lit.int .i64 n).wf=true) (w:World) :
  Calls Tryz.prog 65 #[.int .i64 n] w fun e w'=>e=.returned (.int .u64 (amtU n))∧w'=w:=by
 simp[Lit.wf,IntKind.min,IntKind.max,IntKind.signed,IntKind.bits]at hw
 by_cases h:n<0
 ·have HA:Hid (amtU n = -n):=by show amtU n = -n;simp[amtU,h]
  go_enter Tryz.func65,Tryz.ntmps65
  go_wp2
  go_ret
  refine⟨?_,rfl⟩
  rw[HA.out]
  simp[IntKind.wrap,IntKind.bits,IntKind.signed]
  omega
 ·have HA:Hid (amtU n=n):=by show amtU n=n;simp[amtU,h]
  go_enter Tryz.func65,Tryz.ntmps65
  go_wp2
  go_ret
  refine⟨?_,rfl⟩
  rw[HA.out]
  rfl
theorem amt_conv (n:Int) (hw:(Lit.int .i64 n).wf=true):IntKind.i64.wrap (amtU n)=amtOf n:=by
 simp[Lit.wf,IntKind.min,IntKind.max,IntKind.signed,IntKind.bits]at hw
 unfold amtOf amtU wrap64
 split <;> (simp[IntKind.wrap,IntKind.bits,IntKind.signed];omega)
def Lins (n₀:Nat) (W:World) (p:Option Addr) (xs:List Lin):Prop :=
 xs=[]∨∃b o,p=some ⟨b,o,none⟩∧b<n₀∧∀(i:Nat) (x:Lin),xs[i]?=some x→W.cell? ⟨b,o+i*2,none⟩=some (.int .i64 x.c)∧W.cell? ⟨b,o+i*2+1,none⟩=some (.int .i64 x.n)
theorem Lins.below {n₀:Nat} {A B:World} {p:Option Addr} {xs:List Lin} (h:Lins n₀ A p xs) (hb:Below n₀ A B):Lins n₀ B p xs :=
 h.imp id fun ⟨b,o,e,hl,hc⟩=>⟨b,o,e,hl,fun i x hx=>⟨(hb.cell (p:=⟨b,o+i*2,none⟩) hl).trans (hc i x hx).1,(hb.cell (p:=⟨b,o+i*2+1,none⟩) hl).trans (hc i x hx).2⟩⟩
def LinWf (x:Lin):Prop:=(Lit.int .i64 x.c).wf=true∧(Lit.int .i64 x.n).wf=true
theorem rsOf_get (xs:List Lin) (h:∀x∈xs,(Lit.int .i64 x.c).wf=true):∀(i:Nat) (x:Lin),xs[i]?=some x→∃hx,(rsOf xs h)[i]?=some (rOf x hx):=by
 induction xs with
 | nil=>intro i x hx;simp at hx
 | cons y xs ih =>
  intro i x hx
  cases i with
  | zero=>simp at hx;subst hx;exact⟨_,rfl⟩
  | succ i=>exact ih (fun z hz=>h z (List.mem_cons_of_mem _ hz)) i x (by simpa using hx)
theorem rsOf_len (xs:List Lin) (h:∀x∈xs,(Lit.int .i64 x.c).wf=true):(rsOf xs h).length=xs.length:=by
 have:=congrArg List.length (rsOf_val xs h)
 simpa using this
def encR (r:R64):Array Value:=#[kv (keyT r.1),.int .i64 r.1.n]
end Go.Proofs.YtfbegfapoijbnaaGreat
namespace Go.Proofs.YtfbegfapoijbnaaGreat
open Go.RowKit Go.Shelf
attribute [local go_sem] Oper.semAt_some
theorem grown_drew {W W':World} {r:Option Nat} (h:W.grownBy W' r):W.grownBy W'.drew r:=⟨h.os,h.tape,h.output,h.size,h.block⟩
theorem take_snoc {α:Type} {xs:List α} {k:Nat} {x:α} (h:xs[k]?=some x):xs.take (k+1)=xs.take k++[x]:=by rw[List.take_add_one,h];rfl
set_option maxHeartbeats 2000000 in
theorem each1_in (n:Nat) (hn:2≤n) (l Bs n₀:Nat) (p:Option Addr) (len cap:Nat) (xs:List Lin) (hlen:xs.length=len) (hreach:len≤8796093022208) (hxs:∀x∈xs,LinWf x) (hxc:∀x∈xs,(Lit.int .i64 x.c).wf=true) (J Jx:List R64→World→Prop)
  (hY:∀pre x W,J pre W→pre.length<len→YieldAt Fence.wide (n - 1) Tryz.prog l (encR x) W fun e W' =>
   (e=.returned (.bool true)∧J (pre++[x]) W'∧Below n₀ W W')∨(e=.returned (.bool false)∧Jx (pre++[x]) W'))
  (W:World) (hJ:AbidesFrom W.heap.size J) (hn0:n₀≤W.heap.size) (hBs:W.cell? ⟨Bs,0,none⟩=some (.slice p len cap)) (hL:Lins n₀ W p xs) (h0:J [] W) :
  CallsIn Fence.wide n Tryz.prog 64 #[.func (.yield l) #[] #[],.pointer (some ⟨Bs,0,none⟩)] W fun e W'=>(∃v,e=.returned v) ∧
   ((∃ys,ys=rsOf xs hxc∧J ys W')∨(∃pre,pre <+: rsOf xs hxc∧Jx pre W')):=by
 have h1:1≤n:=by omega
 have hmx:Tryz.prog.follows .mixedOrders=true:=by kernel_rfl
 have HL:=hide hL
 have HX:=hide hxs
 clear hL hxs
 refine callsIn_of_wp Tryz.func64 rfl trivial ?_ rfl
 simp only[Tryz.ntmps64,List.size_toArray,List.length_cons,List.length_nil,Nat.reduceAdd,Nat.reduceSub,Array.replicate_succ,Array.replicate_zero,List.push_toArray,List.append_toArray,List.nil_append,List.cons_append]
 gi_wp2
 gi_loopw [8] (fun i wr=>∃k:Nat,k≤len∧i=.int .i64 k∧J ((rsOf xs hxc).take k) wr∧Below n₀ W wr∧W.heap.size≤wr.heap.size)
  (fun i _=>len - (intOf i).toNat)
 case atStart=>exact⟨0,Nat.zero_le _,rfl,h0,Below.refl _ _,Nat.le_refl _⟩
 case round =>
  obtain⟨k,hk,rfl,hJs,hnx,hsz⟩:=hrel
  by_cases hlt:k<len
  ·obtain⟨x,hx⟩:∃x,xs[k]?=some x:=⟨_,List.getElem?_eq_getElem (by omega)⟩
   obtain⟨hxw,hr⟩:=rsOf_get xs hxc k x hx
   obtain⟨b,o,rfl,hb,hcl⟩:=(HL.out.below hnx).resolve_left (by intro e;rw[e]at hx;simp at hx)
   obtain⟨a0,a1⟩:=hcl k x hx
   have hwf:=HX.out x (List.mem_of_getElem? hx)
   have hlt':(k:Int)<(len:Int):=by omega
   obtain⟨xc,xn⟩:=x
   simp only at a0 a1
   have HAm:=hide (fun W'=>callsIn_wide (n:=n - 1).2 (amount_any xn hwf.2 W'))
   have HC:=hide (amt_conv xn hwf.2)
   obtain⟨w2,hw2⟩:∃w2,wr.alloc (.cells #[.int .i64 xc,.int .i64 xn] 96)=w2:=⟨_,rfl⟩
   have hg2:wr.grownBy w2.drew none:=by rw[←hw2];exact grown_drew (World.grownBy_alloc wr _ none)
   have hJ2:J ((rsOf xs hxc).take k) w2.drew:=hJ _ wr _ none hJs hg2 (fun r e=>by cases e)
   obtain⟨fn,tmps,assign,body,hy,hR⟩:=hY _ (rOf ⟨xc,xn⟩ hxw) w2.drew hJ2 (by rw[List.length_take];omega)
   have c0:w2.cell? ⟨wr.heap.size,0,none⟩=some (.int .i64 xc):=by rw[←hw2];simp
   have c1:w2.cell? ⟨wr.heap.size,1,none⟩=some (.int .i64 xn):=by rw[←hw2];simp
   have HW2:=hide hw2
   have HR:Hid (RoundIn Fence.wide (n - 1) Tryz.prog l fn tmps assign body w2.drew fun e W'=>∃g:Bool,e=.returned (.bool g)∧Hid ((g=true∧J ((rsOf xs hxc).take k++[rOf ⟨xc,xn⟩ hxw]) W'∧Below n₀ w2.drew W')∨(g=false∧Jx ((rsOf xs hxc).take k++[rOf ⟨xc,xn⟩ hxw]) W'))) :=
    hR.mono fun e W' h=>h.elim (fun h=>⟨true,h.1,.inl ⟨rfl,h.2⟩⟩) (fun h=>⟨false,h.1,.inr ⟨rfl,h.2⟩⟩)
   have HXk:=hide hx
   have HBd:Hid (Below n₀ W w2.drew):=by
    have h:Below n₀ W w2:=by rw[←hw2];exact hnx.alloc (Nat.le_trans hn0 hsz) _
    exact h.drew
   have HSd:Hid (W.heap.size≤w2.drew.heap.size):=by
    have h:W.heap.size≤w2.heap.size:=by rw[←hw2];simp;omega
    exact h
   clear hw2 hg2 hcl hx hR
   simp only[encR,rOf,triOf,keyT,kv]at hy
   have HT:=hide (take_snoc hr)
   clear hr
   by_cases hneg:xn<0
   ·have e0:wayOf xn=0:=by simp[wayOf,hneg]
    rw[e0,←HC.out]at hy
    gi_wp2
    rw[HW2.out]
    gi_region_with_o (first | (refine⟨trivial,?_⟩;gi_at_call 65;refine(HAm.out _).mono ?_;rintro e w' ⟨rfl,rfl⟩) | (refine HR.out.mono ?_;rintro e w3 ⟨g,rfl,HG⟩))
    all_goals (
     rcases HG.out with ⟨rfl,hJ3,hB3⟩ | ⟨rfl,hJx3⟩
     ·clear HG
      gi_wp2
      go_roundw
      case rel=>exact⟨k+1,by omega,by go_num,by rw[HT.out];exact hJ3,HBd.out.trans hB3,Nat.le_trans HSd.out hB3.size⟩
      case measure=>simp[intOf];omega
     ·clear HG
      gi_wp2
      refine bodyPost_ret (results_none rfl _ _ _) rfl ?_
      exact⟨⟨_,rfl⟩,.inr ⟨_,by rw[←HT.out];exact List.take_prefix _ _,hJx3⟩⟩)
   ·have e0:wayOf xn=1:=by simp[wayOf,hneg]
    rw[e0,←HC.out]at hy
    gi_wp2
    rw[HW2.out]
    gi_region_with_o (first | (refine⟨trivial,?_⟩;gi_at_call 65;refine(HAm.out _).mono ?_;rintro e w' ⟨rfl,rfl⟩) | (refine HR.out.mono ?_;rintro e w3 ⟨g,rfl,HG⟩))
    all_goals (
     rcases HG.out with ⟨rfl,hJ3,hB3⟩ | ⟨rfl,hJx3⟩
     ·clear HG
      gi_wp2
      go_roundw
      case rel=>exact⟨k+1,by omega,by go_num,by rw[HT.out];exact hJ3,HBd.out.trans hB3,Nat.le_trans HSd.out hB3.size⟩
      case measure=>simp[intOf];omega
     ·clear HG
      gi_wp2
      refine bodyPost_ret (results_none rfl _ _ _) rfl ?_
      exact⟨⟨_,rfl⟩,.inr ⟨_,by rw[←HT.out];exact List.take_prefix _ _,hJx3⟩⟩)
  ·obtain rfl:k=len:=by omega
   gi_wp2
   go_end0
   exact⟨⟨_,rfl⟩,.inl ⟨_,by rw[List.take_of_length_le (by rw[rsOf_len];omega)],hJs⟩⟩
end Go.Proofs.YtfbegfapoijbnaaGreat
