import Derived.DeepKeys4
import Derived.Test.YtiogibfhafoapaaGreatNdM
import Derived.RangeFuncNested
import Derived.RangeFuncBound
import Derived.RangeFuncCalls
import Derived.RangeFuncLeaves
import Derived.Shelf.Abstract
import Derived.Shelf.RegionOpen
import Derived.OwnWalkIn
import Derived.TacticsInMore
import Derived.LoopNIn
import Derived.LoopIn
set_option maxRecDepth 100000
set_option maxHeartbeats 8000000
set_option linter.unusedSimpArgs false
set_option linter.unusedVariables false
namespace Go.Proofs.YtiogibfhafoapaaGreat
open Go.RowKit
def kv (k:Int × Int):Value:=.agg #[.int .i64 k.1,.int .i64 k.2]
section
variable {P : Program} {k i : TypeId} {f0 f1 : Field}
theorem QgT (hi:P.underlying i=some (.int .i64)) {c:Int} (d:Nat):P.keyLits (d+1) i [.int .i64 c]=if (Lit.int .i64 c).wf=true then some [.int .i64 c] else none:=by
 simp[Program.keyLits,hi]
theorem Qdz (hi:P.underlying i=some (.int .i64)) {cs:List Value} {l:List Lit} (d:Nat) (h:P.keyLits (d+1) i cs=some l):∃c,cs=[.int .i64 c]∧l=[.int .i64 c]∧(Lit.int .i64 c).wf=true:=by
 unfold Program.keyLits at h;rw[hi]at h;split at h <;> simp_all
theorem QgR (hk : P.underlying k = some (.struct #[f0, f1])) (hc : P.cellsOf k = 2) (hci : P.cellsOf i = 1) (h0 : f0.type = i ∧ f0.offset = 0 ∧ (f0.name != "_") = true) (h1 : f1.type = i ∧ f1.offset = 1 ∧ (f1.name != "_") = true) (d : Nat) (cs : List Value) :
  P.keyLits (d+1) k cs=if cs.length=2 then ((P.keyLits d i (cs.take 1)).bind fun a=>(P.keyLits d i ((cs.drop 1).take 1)).map fun b=>a++b) else none:=by
 conv=>lhs;unfold Program.keyLits
 rw[hk];simp only[hc];by_cases h:cs.length=2
 ·simp only[h,true_and,if_true]
  rw[if_pos (by simp[h0.2.2,h1.2.2])];simp only[List.mapM_cons,List.mapM_nil,h0.1,h0.2.1,h1.1,h1.2.1,hci,List.drop_zero]
  cases P.keyLits d i (cs.take 1) with
  | none=>rfl
  | some a =>
   cases P.keyLits d i ((cs.drop 1).take 1) with
   | none=>rfl
   | some b=>simp
 ·simp[h]
theorem Ql4 (hi : P.underlying i = some (.int .i64)) (hk : P.underlying k = some (.struct #[f0, f1])) (hc : P.cellsOf k = 2) (hci : P.cellsOf i = 1) (h0 : f0.type = i ∧ f0.offset = 0 ∧ (f0.name != "_") = true) (h1 : f1.type = i ∧ f1.offset = 1 ∧ (f1.name != "_") = true) (ht : P.keyType k = true) (hr : k < P.types.size) (x : K64) :
  keyOf P k (kv x.1)=some (Qcz x.1):=by
 obtain⟨m,hm⟩:∃m,P.types.size=m+1:=⟨P.types.size - 1,(Nat.succ_pred_eq_of_pos (Nat.lt_of_le_of_lt (Vo k) hr)).symm⟩;unfold keyOf;rw[hk];simp only[ht,Bool.true_and];rw[if_pos (by simp[kv,Value.formed,hk,hc]),hm];have e:(kv x.1).cells.toList=[.int .i64 x.1.1,.int .i64 x.1.2]:=rfl;rw[e,QgR hk hc hci h0 h1,if_pos (show [Value.int IntKind.i64 x.1.1,Value.int IntKind.i64 x.1.2].length=2 from rfl)];simp only[List.take_succ_cons,List.take_zero,List.drop_succ_cons,List.drop_zero];rw[QgT hi,QgT hi,if_pos x.2.1,if_pos x.2.2];rfl
theorem Qlp (hi : P.underlying i = some (.int .i64)) (hk : P.underlying k = some (.struct #[f0, f1])) (hc : P.cellsOf k = 2) (hci : P.cellsOf i = 1) (h0 : f0.type = i ∧ f0.offset = 0 ∧ (f0.name != "_") = true) (h1 : f1.type = i ∧ f1.offset = 1 ∧ (f1.name != "_") = true) (hr : k < P.types.size) {v : Value} {l : Lit} (h : keyOf P k v = some l) :
  ∃x:K64,v=kv x.1∧l=Qcz x.1:=by
 obtain⟨m,hm⟩:∃m,P.types.size=m+1:=⟨P.types.size - 1,(Nat.succ_pred_eq_of_pos (Nat.lt_of_le_of_lt (Vo k) hr)).symm⟩;obtain⟨xs,L,rfl,hl,rfl⟩:=keyOf_top (P:=P) (k:=k) (by rw[hk]) h;rw[hm,QgR hk hc hci h0 h1]at hl;split at hl
 ·rename_i h2
  obtain⟨ys⟩:=xs
  match ys,h2 with
  | [a,b],_ =>
   simp only[List.take_succ_cons,List.take_zero,List.drop_succ_cons,List.drop_zero]at hl
   cases ha:P.keyLits (m+1) i [a] with
   | none=>simp[ha]at hl
   | some la =>
    cases hb:P.keyLits (m+1) i [b] with
    | none=>simp[ha,hb]at hl
    | some lb =>
     obtain⟨c,e1,e2,w1⟩:=Qdz hi m ha;obtain⟨c',e3,e4,w2⟩:=Qdz hi m hb;simp only[Vw,and_true]at e1 e3;simp[ha,hb]at hl;subst e1 e3 e2 e4;exact⟨⟨(c,c'),w1,w2⟩,rfl,by rw[←hl];rfl⟩
 ·cases hl
end
theorem Qgq:(match Tryz.prog.underlying 175 with | some (.array _ _) | some (.struct _)=>true | _=>false)=true:=by kernel_rfl
theorem QeG:175<Tryz.prog.types.size:=of_decide_eq_true (by kernel_rfl)
theorem Qj6:laidOutB Tryz.prog=true:=by kernel_rfl
theorem Qi7:Tryz.prog.keyTypeAt 2 175=true:=by kernel_rfl
theorem QbR:WideMaps.KeyLaw Tryz.prog 175:=deep_law_laid Qj6 (m:=2) (Nat.le_of_ble_eq_true rfl) QeG Qi7 Qgq
theorem QaU:Maps.Keyed Tryz.prog 175:=Maps.Keyed.of_law QbR
theorem Qi8:Tryz.prog.keyType 175=true:=by kernel_rfl
theorem Qew:Tryz.prog.cellsOf 175=2:=by kernel_rfl
theorem Qe7:Tryz.prog.cellsOf 3=1:=by kernel_rfl
theorem Qcb (x:K64):keyOf Tryz.prog 175 (kv x.1)=some (Qcz x.1):=Ql4 Tryz.underlying3 Tryz.underlying175 Qew Qe7 ⟨rfl,rfl,rfl⟩ ⟨rfl,rfl,rfl⟩ Qi8 QeG x
theorem QgP {v:Value} {l:Lit} (h:keyOf Tryz.prog 175 v=some l):∃x:K64,v=kv x.1∧l=Qcz x.1:=Qlp Tryz.underlying3 Tryz.underlying175 Qew Qe7 ⟨rfl,rfl,rfl⟩ ⟨rfl,rfl,rfl⟩ QeG h
theorem QkS {x y:Int × Int} (h:kv x=kv y):x=y:=by
 simp[kv]at h;exact Prod.ext h.1 h.2
theorem Qme:Ql8:=fun x y e=>by
 have h1:=Qcb x;have h2:=Qcb y;rw[e]at h1;exact Subtype.ext (QkS (QaU.inj h1 h2))
end Go.Proofs.YtiogibfhafoapaaGreat
namespace Go.Proofs.YtiogibfhafoapaaGreat
open Go.RowKit Go.Shelf
attribute [local go_sem] Oper.semAt_some
def QdD (n:Int):Int:=if n<0 then -n else n
theorem QhK (n:Int) (hw:(Lit.int .i64 n).wf=true) (w:World) :
  Calls Tryz.prog 171 #[.int .i64 n] w fun e w'=>e=.returned (.int .u64 (QdD n))∧w'=w:=by
 simp[Lit.wf,IntKind.min,IntKind.max,IntKind.signed,IntKind.bits]at hw;by_cases h:n<0
 ·have HA:Hid (QdD n = -n):=by show QdD n = -n;simp[QdD,h]
  go_enter Tryz.func171,Tryz.ntmps171;go_wp2;go_ret;refine⟨?_,rfl⟩;rw[HA.out];simp[IntKind.wrap,IntKind.bits,IntKind.signed];omega
 ·have HA:Hid (QdD n=n):=by show QdD n=n;simp[QdD,h]
  go_enter Tryz.func171,Tryz.ntmps171;go_wp2;go_ret;refine⟨?_,rfl⟩;rw[HA.out];rfl
theorem QdH (n:Int) (hw:(Lit.int .i64 n).wf=true):IntKind.i64.wrap (QdD n)=Qbh n:=by
 simp[Lit.wf,IntKind.min,IntKind.max,IntKind.signed,IntKind.bits]at hw;unfold Qbh QdD wrap64;split <;> (simp[IntKind.wrap,IntKind.bits,IntKind.signed];omega)
def QjH (n₀:Nat) (W:World) (p:Option Addr) (xs:List Lin):Prop :=
 xs=[]∨∃b o,p=some ⟨b,o,none⟩∧b<n₀∧∀(i:Nat) (x:Lin),xs[i]?=some x→W.cell? ⟨b,o+i*2,none⟩=some (.int .i64 x.c)∧W.cell? ⟨b,o+i*2+1,none⟩=some (.int .i64 x.n)
theorem QjH.below {n₀:Nat} {A B:World} {p:Option Addr} {xs:List Lin} (h:QjH n₀ A p xs) (hb:Below n₀ A B):QjH n₀ B p xs :=
 h.imp id fun ⟨b,o,e,hl,hc⟩=>⟨b,o,e,hl,fun i x hx=>⟨(hb.cell (p:=⟨b,o+i*2,none⟩) hl).trans (hc i x hx).1,(hb.cell (p:=⟨b,o+i*2+1,none⟩) hl).trans (hc i x hx).2⟩⟩
def Qaw (x:Lin):Prop:=(Lit.int .i64 x.c).wf=true∧(Lit.int .i64 x.n).wf=true
theorem Qkb (xs:List Lin) (h:∀x∈xs,(Lit.int .i64 x.c).wf=true):∀(i:Nat) (x:Lin),xs[i]?=some x→∃hx,(Qgv xs h)[i]?=some (rOf x hx):=by
 induction xs with
 | nil=>intro i x hx;simp at hx
 | cons y xs ih =>
  intro i x hx
  cases i with
  | zero=>simp at hx;subst hx;exact⟨_,rfl⟩
  | succ i=>exact ih (fun z hz=>h z (Vy _ hz)) i x (by simpa using hx)
theorem QgE (xs:List Lin) (h:∀x∈xs,(Lit.int .i64 x.c).wf=true):(Qgv xs h).length=xs.length:=by
 have:=Vl List.length (QeX xs h);simpa using this
def QlW (r:R64):Array Value:=#[kv (QaS r.1),.int .i64 r.1.n]
attribute [local go_sem] Oper.semAt_some
theorem Qec {W W':World} {r:Option Nat} (h:W.grownBy W' r):W.grownBy W'.drew r:=⟨h.os,h.tape,h.output,h.size,h.block⟩
theorem take_snoc {α:Type} {xs:List α} {k:Nat} {x:α} (h:xs[k]?=some x):xs.take (k+1)=xs.take k++[x]:=by rw[VS,h];rfl
theorem Qj7 (n:Nat) (hn:2≤n) (l Bs n₀:Nat) (p:Option Addr) (len cap:Nat) (xs:List Lin) (hlen:xs.length=len) (hreach:len≤8796093022208) (hxs:∀x∈xs,Qaw x) (hxc:∀x∈xs,(Lit.int .i64 x.c).wf=true) (J Jx:List R64→World→Prop)
  (hY:∀pre x W,J pre W→pre.length<len→YieldAt Fence.wide (n - 1) Tryz.prog l (QlW x) W fun e W' =>
   (e=.returned (.bool true)∧J (pre++[x]) W'∧Below n₀ W W')∨(e=.returned (.bool false)∧Jx (pre++[x]) W'))
  (W:World) (hJ:AbidesFrom W.heap.size J) (hn0:n₀≤W.heap.size) (hBs:W.cell? ⟨Bs,0,none⟩=some (.slice p len cap)) (hL:QjH n₀ W p xs) (h0:J [] W) :
  CallsIn Fence.wide n Tryz.prog 170 #[.func (.yield l) #[] #[],.pointer (some ⟨Bs,0,none⟩)] W fun e W'=>(∃v,e=.returned v) ∧
   ((∃ys,ys=Qgv xs hxc∧J ys W')∨(∃pre,pre <+: Qgv xs hxc∧Jx pre W')):=by
 have h1:1≤n:=by omega
 have hmx:Tryz.prog.follows .mixedOrders=true:=by kernel_rfl
 obtain⟨HL,HX⟩:=Qmj hL hxs;clear hL hxs;refine callsIn_of_wp Tryz.func170 rfl trivial ?_ rfl;simp only[Tryz.ntmps170,List.size_toArray,VO,List.length_nil,Nat.reduceAdd,Nat.reduceSub,Array.replicate_succ,Array.replicate_zero,List.push_toArray,List.append_toArray,VU,List.cons_append]
 gi_wp2
 gi_loopw [8] (fun i wr=>∃k:Nat,k≤len∧i=.int .i64 k∧J ((Qgv xs hxc).take k) wr∧Below n₀ W wr∧W.heap.size≤wr.heap.size)
  (fun i _=>len - (intOf i).toNat)
 case atStart=>exact⟨0,Vo _,rfl,h0,bR,Va _⟩
 case round =>
  obtain⟨k,hk,rfl,hJs,hnx,hsz⟩:=hrel;by_cases hlt:k<len
  ·obtain⟨x,hx⟩:∃x,xs[k]?=some x:=⟨_,gE (by omega)⟩
   obtain⟨hxw,hr⟩:=Qkb xs hxc k x hx;obtain⟨b,o,rfl,hb,hcl⟩:=(HL.out.below hnx).resolve_left (by intro e;rw[e]at hx;simp at hx);obtain⟨a0,a1⟩:=hcl k x hx;have hwf:=HX.out x (mG hx);have hlt':(k:Int)<(len:Int):=by omega
   obtain⟨xc,xn⟩:=x;simp only at a0 a1;have HAm:=Qaa (fun W'=>callsIn_wide (n:=n - 1).2 (QhK xn hwf.2 W'));have HC:=Qaa (QdH xn hwf.2);obtain⟨w2,hw2⟩:=exq (wr.alloc (.cells #[.int .i64 xc,.int .i64 xn] 132));have hg2:wr.grownBy w2.drew none:=by rw[←hw2];exact Qec (World.grownBy_alloc wr _ none)
   have hJ2:J ((Qgv xs hxc).take k) w2.drew:=hJ _ wr _ none hJs hg2 (fun r e=>by cases e);obtain⟨fn,tmps,assign,body,hy,hR⟩:=hY _ (rOf ⟨xc,xn⟩ hxw) w2.drew hJ2 (by rw[List.length_take];omega);have c0:w2.cell? ⟨wr.heap.size,0,none⟩=some (.int .i64 xc):=by rw[←hw2];simp
   have c1:w2.cell? ⟨wr.heap.size,1,none⟩=some (.int .i64 xn):=by rw[←hw2];simp
   have HW2:=Qaa hw2
   have HR:Hid (RoundIn Fence.wide (n - 1) Tryz.prog l fn tmps assign body w2.drew fun e W'=>∃g:Bool,e=.returned (.bool g)∧Hid ((g=true∧J ((Qgv xs hxc).take k++[rOf ⟨xc,xn⟩ hxw]) W'∧Below n₀ w2.drew W')∨(g=false∧Jx ((Qgv xs hxc).take k++[rOf ⟨xc,xn⟩ hxw]) W'))) :=
    hR.mono fun e W' h=>h.elim (fun h=>⟨true,h.1,.inl ⟨rfl,h.2⟩⟩) (fun h=>⟨false,h.1,.inr ⟨rfl,h.2⟩⟩)
   have HXk:=Qaa hx
   have HBd:Hid (Below n₀ W w2.drew):=by
    have h:Below n₀ W w2:=by rw[←hw2];exact hnx.alloc (Vt hn0 hsz) _
    exact h.drew
   have HSd:Hid (W.heap.size≤w2.drew.heap.size):=by
    have h:W.heap.size≤w2.heap.size:=by rw[←hw2];simp;omega
    exact h
   clear hw2 hg2 hcl hx hR;simp only[QlW,rOf,QaL,QaS,kv]at hy;have HT:=Qaa (take_snoc hr);clear hr;by_cases hneg:xn<0
   ·have e0:Qam xn=0:=by simp[Qam,hneg]
    rw[e0,←HC.out]at hy
    gi_wp2
    rw[HW2.out]
    gi_region_with_o (first | (refine⟨trivial,?_⟩;gi_at_call 171;refine(HAm.out _).mono ?_;rintro e w' ⟨rfl,rfl⟩) | (refine HR.out.mono ?_;rintro e w3 ⟨g,rfl,HG⟩))
    all_goals (
     rcases HG.out with ⟨rfl,hJ3,hB3⟩ | ⟨rfl,hJx3⟩
     ·clear HG
      gi_wp2
      go_roundw;case rel=>exact⟨k+1,by omega,by go_num,by rw[HT.out];exact hJ3,HBd.out.trans hB3,Vt HSd.out hB3.size⟩
      case measure=>simp[intOf];omega
     ·clear HG
      gi_wp2
      refine Vg (results_none rfl _ _ _) rfl ?_;exact⟨⟨_,rfl⟩,.inr ⟨_,by rw[←HT.out];exact List.take_prefix _ _,hJx3⟩⟩)
   ·have e0:Qam xn=1:=by simp[Qam,hneg]
    rw[e0,←HC.out]at hy
    gi_wp2
    rw[HW2.out]
    gi_region_with_o (first | (refine⟨trivial,?_⟩;gi_at_call 171;refine(HAm.out _).mono ?_;rintro e w' ⟨rfl,rfl⟩) | (refine HR.out.mono ?_;rintro e w3 ⟨g,rfl,HG⟩))
    all_goals (
     rcases HG.out with ⟨rfl,hJ3,hB3⟩ | ⟨rfl,hJx3⟩
     ·clear HG
      gi_wp2
      go_roundw;case rel=>exact⟨k+1,by omega,by go_num,by rw[HT.out];exact hJ3,HBd.out.trans hB3,Vt HSd.out hB3.size⟩
      case measure=>simp[intOf];omega
     ·clear HG
      gi_wp2
      refine Vg (results_none rfl _ _ _) rfl ?_;exact⟨⟨_,rfl⟩,.inr ⟨_,by rw[←HT.out];exact List.take_prefix _ _,hJx3⟩⟩)
  ·obtain rfl:k=len:=by omega
   gi_wp2
   go_end0;exact⟨⟨_,rfl⟩,.inl ⟨_,by rw[Vh (by rw[QgE];omega)],hJs⟩⟩
end Go.Proofs.YtiogibfhafoapaaGreat
