import Derived.DeepKeys4
import Derived.Test.YtiogibfhafoapaaGreatNdM
import Derived.RangeFuncNested
import Derived.RangeFuncBound
import Derived.RangeFuncCalls
import Derived.RangeFuncLeaves
import Derived.Shelf.Abstract
import Derived.Shelf.RegionOpen
import Derived.OwnWalkIn
import Derived.TacticsInMore
import Derived.LoopNIn
import Derived.LoopIn
set_option maxRecDepth 100000
set_option maxHeartbeats 8000000
set_option linter.unusedSimpArgs false
set_option linter.unusedVariables false
namespace Go.Proofs.YtiogibfhafoapaaGreat
open Go.RowKit
def kv (k:Int × Int):Value:=.agg #[.int .i64 k.1,.int .i64 k.2]
section
variable {P : Program} {k i : TypeId} {f0 f1 : Field}
theorem lits_int (hi:P.underlying i=some (.int .i64)) {c:Int} (d:Nat):P.keyLits (d+1) i [.int .i64 c]=if (Lit.int .i64 c).wf=true then some [.int .i64 c] else none:=by
 simp[Program.keyLits,hi]
theorem lits_int_inv (hi:P.underlying i=some (.int .i64)) {cs:List Value} {l:List Lit} (d:Nat) (h:P.keyLits (d+1) i cs=some l):∃c,cs=[.int .i64 c]∧l=[.int .i64 c]∧(Lit.int .i64 c).wf=true:=by
 unfold Program.keyLits at h;rw[hi]at h;split at h <;> simp_all
theorem lits_two (hk : P.underlying k = some (.struct #[f0, f1])) (hc : P.cellsOf k = 2) (hci : P.cellsOf i = 1) (h0 : f0.type = i ∧ f0.offset = 0 ∧ (f0.name != "_") = true) (h1 : f1.type = i ∧ f1.offset = 1 ∧ (f1.name != "_") = true) (d : Nat) (cs : List Value) :
  P.keyLits (d+1) k cs=if cs.length=2 then ((P.keyLits d i (cs.take 1)).bind fun a=>(P.keyLits d i ((cs.drop 1).take 1)).map fun b=>a++b) else none:=by
 conv=>lhs;unfold Program.keyLits
 rw[hk];simp only[hc];by_cases h:cs.length=2
 ·simp only[h,true_and,if_true]
  rw[if_pos (by simp[h0.2.2,h1.2.2])];simp only[List.mapM_cons,List.mapM_nil,h0.1,h0.2.1,h1.1,h1.2.1,hci,List.drop_zero]
  cases P.keyLits d i (cs.take 1) with
  | none=>rfl
  | some a =>
   cases P.keyLits d i ((cs.drop 1).take 1) with
   | none=>rfl
   | some b=>simp
 ·simp[h]
theorem key_mk (hi : P.underlying i = some (.int .i64)) (hk : P.underlying k = some (.struct #[f0, f1])) (hc : P.cellsOf k = 2) (hci : P.cellsOf i = 1) (h0 : f0.type = i ∧ f0.offset = 0 ∧ (f0.name != "_") = true) (h1 : f1.type = i ∧ f1.offset = 1 ∧ (f1.name != "_") = true) (ht : P.keyType k = true) (hr : k < P.types.size) (x : K64) :
  keyOf P k (kv x.1)=some (klit x.1):=by
 obtain⟨m,hm⟩:∃m,P.types.size=m+1:=⟨P.types.size - 1,(Nat.succ_pred_eq_of_pos (Nat.lt_of_le_of_lt (Nat.zero_le k) hr)).symm⟩;unfold keyOf;rw[hk];simp only[ht,Bool.true_and];rw[if_pos (by simp[kv,Value.formed,hk,hc]),hm];have e:(kv x.1).cells.toList=[.int .i64 x.1.1,.int .i64 x.1.2]:=rfl;rw[e,lits_two hk hc hci h0 h1,if_pos (show [Value.int IntKind.i64 x.1.1,Value.int IntKind.i64 x.1.2].length=2 from rfl)];simp only[List.take_succ_cons,List.take_zero,List.drop_succ_cons,List.drop_zero];rw[lits_int hi,lits_int hi,if_pos x.2.1,if_pos x.2.2];rfl
theorem key_inv (hi : P.underlying i = some (.int .i64)) (hk : P.underlying k = some (.struct #[f0, f1])) (hc : P.cellsOf k = 2) (hci : P.cellsOf i = 1) (h0 : f0.type = i ∧ f0.offset = 0 ∧ (f0.name != "_") = true) (h1 : f1.type = i ∧ f1.offset = 1 ∧ (f1.name != "_") = true) (hr : k < P.types.size) {v : Value} {l : Lit} (h : keyOf P k v = some l) :
  ∃x:K64,v=kv x.1∧l=klit x.1:=by
 obtain⟨m,hm⟩:∃m,P.types.size=m+1:=⟨P.types.size - 1,(Nat.succ_pred_eq_of_pos (Nat.lt_of_le_of_lt (Nat.zero_le k) hr)).symm⟩;obtain⟨xs,L,rfl,hl,rfl⟩:=keyOf_top (P:=P) (k:=k) (by rw[hk]) h;rw[hm,lits_two hk hc hci h0 h1]at hl;split at hl
 ·rename_i h2
  obtain⟨ys⟩:=xs
  match ys,h2 with
  | [a,b],_ =>
   simp only[List.take_succ_cons,List.take_zero,List.drop_succ_cons,List.drop_zero]at hl
   cases ha:P.keyLits (m+1) i [a] with
   | none=>simp[ha]at hl
   | some la =>
    cases hb:P.keyLits (m+1) i [b] with
    | none=>simp[ha,hb]at hl
    | some lb =>
     obtain⟨c,e1,e2,w1⟩:=lits_int_inv hi m ha;obtain⟨c',e3,e4,w2⟩:=lits_int_inv hi m hb;simp only[List.cons.injEq,and_true]at e1 e3;simp[ha,hb]at hl;subst e1 e3 e2 e4;exact⟨⟨(c,c'),w1,w2⟩,rfl,by rw[←hl];rfl⟩
 ·cases hl
end
theorem kind_struct:(match Tryz.prog.underlying 175 with | some (.array _ _) | some (.struct _)=>true | _=>false)=true:=by kernel_rfl
theorem kind_row:175<Tryz.prog.types.size:=of_decide_eq_true (by kernel_rfl)
theorem laid_out:laidOutB Tryz.prog=true:=by kernel_rfl
theorem kind_keys:Tryz.prog.keyTypeAt 2 175=true:=by kernel_rfl
theorem kind_law:WideMaps.KeyLaw Tryz.prog 175:=deep_law_laid laid_out (m:=2) (Nat.le_of_ble_eq_true rfl) kind_row kind_keys kind_struct
theorem kind_keyed:Maps.Keyed Tryz.prog 175:=Maps.Keyed.of_law kind_law
theorem kind_type:Tryz.prog.keyType 175=true:=by kernel_rfl
theorem kind_cells:Tryz.prog.cellsOf 175=2:=by kernel_rfl
theorem int_cells:Tryz.prog.cellsOf 3=1:=by kernel_rfl
theorem kind_mk (x:K64):keyOf Tryz.prog 175 (kv x.1)=some (klit x.1):=key_mk Tryz.underlying3 Tryz.underlying175 kind_cells int_cells ⟨rfl,rfl,rfl⟩ ⟨rfl,rfl,rfl⟩ kind_type kind_row x
theorem kind_inv {v:Value} {l:Lit} (h:keyOf Tryz.prog 175 v=some l):∃x:K64,v=kv x.1∧l=klit x.1:=key_inv Tryz.underlying3 Tryz.underlying175 kind_cells int_cells ⟨rfl,rfl,rfl⟩ ⟨rfl,rfl,rfl⟩ kind_row h
theorem kv_inj {x y:Int × Int} (h:kv x=kv y):x=y:=by
 simp[kv]at h;exact Prod.ext h.1 h.2
theorem kinj:KInj:=fun x y e=>by
 have h1:=kind_mk x;have h2:=kind_mk y;rw[e]at h1;exact Subtype.ext (kv_inj (kind_keyed.inj h1 h2))
end Go.Proofs.YtiogibfhafoapaaGreat
namespace Go.Proofs.YtiogibfhafoapaaGreat
open Go.RowKit Go.Shelf
attribute [local go_sem] Oper.semAt_some
def amtU (n:Int):Int:=if n<0 then -n else n
theorem amount_any (n:Int) (hw:(Lit.int .i64 n).wf=true) (w:World) :
  Calls Tryz.prog 171 #[.int .i64 n] w fun e w'=>e=.returned (.int .u64 (amtU n))∧w'=w:=by
 simp[Lit.wf,IntKind.min,IntKind.max,IntKind.signed,IntKind.bits]at hw;by_cases h:n<0
 ·have HA:Hid (amtU n = -n):=by show amtU n = -n;simp[amtU,h]
  go_enter Tryz.func171,Tryz.ntmps171;go_wp2;go_ret;refine⟨?_,rfl⟩;rw[HA.out];simp[IntKind.wrap,IntKind.bits,IntKind.signed];omega
 ·have HA:Hid (amtU n=n):=by show amtU n=n;simp[amtU,h]
  go_enter Tryz.func171,Tryz.ntmps171;go_wp2;go_ret;refine⟨?_,rfl⟩;rw[HA.out];rfl
theorem amt_conv (n:Int) (hw:(Lit.int .i64 n).wf=true):IntKind.i64.wrap (amtU n)=amtOf n:=by
 simp[Lit.wf,IntKind.min,IntKind.max,IntKind.signed,IntKind.bits]at hw;unfold amtOf amtU wrap64;split <;> (simp[IntKind.wrap,IntKind.bits,IntKind.signed];omega)
def Lins (n₀:Nat) (W:World) (p:Option Addr) (xs:List Lin):Prop :=
 xs=[]∨∃b o,p=some ⟨b,o,none⟩∧b<n₀∧∀(i:Nat) (x:Lin),xs[i]?=some x→W.cell? ⟨b,o+i*2,none⟩=some (.int .i64 x.c)∧W.cell? ⟨b,o+i*2+1,none⟩=some (.int .i64 x.n)
theorem Lins.below {n₀:Nat} {A B:World} {p:Option Addr} {xs:List Lin} (h:Lins n₀ A p xs) (hb:Below n₀ A B):Lins n₀ B p xs :=
 h.imp id fun ⟨b,o,e,hl,hc⟩=>⟨b,o,e,hl,fun i x hx=>⟨(hb.cell (p:=⟨b,o+i*2,none⟩) hl).trans (hc i x hx).1,(hb.cell (p:=⟨b,o+i*2+1,none⟩) hl).trans (hc i x hx).2⟩⟩
def LinWf (x:Lin):Prop:=(Lit.int .i64 x.c).wf=true∧(Lit.int .i64 x.n).wf=true
theorem rsOf_get (xs:List Lin) (h:∀x∈xs,(Lit.int .i64 x.c).wf=true):∀(i:Nat) (x:Lin),xs[i]?=some x→∃hx,(rsOf xs h)[i]?=some (rOf x hx):=by
 induction xs with
 | nil=>intro i x hx;simp at hx
 | cons y xs ih =>
  intro i x hx
  cases i with
  | zero=>simp at hx;subst hx;exact⟨_,rfl⟩
  | succ i=>exact ih (fun z hz=>h z (List.mem_cons_of_mem _ hz)) i x (by simpa using hx)
theorem rsOf_len (xs:List Lin) (h:∀x∈xs,(Lit.int .i64 x.c).wf=true):(rsOf xs h).length=xs.length:=by
 have:=congrArg List.length (rsOf_val xs h);simpa using this
def encR (r:R64):Array Value:=#[kv (keyT r.1),.int .i64 r.1.n]
end Go.Proofs.YtiogibfhafoapaaGreat
