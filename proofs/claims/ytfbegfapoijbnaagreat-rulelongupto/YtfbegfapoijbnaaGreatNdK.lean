import Derived.DeepKeys4
import Derived.Test.YtfbegfapoijbnaaGreatNdM
set_option maxRecDepth 100000
namespace Go.Proofs.YtfbegfapoijbnaaGreat
open Go.RowKit
def kv (k:Int × Int):Value:=.agg #[.int .i64 k.1,.int .i64 k.2]
section
variable {P : Program} {k i : TypeId} {f0 f1 : Field}
theorem lits_int (hi:P.underlying i=some (.int .i64)) {c:Int} (d:Nat):P.keyLits (d+1) i [.int .i64 c]=if (Lit.int .i64 c).wf=true then some [.int .i64 c] else none:=by
 simp[Program.keyLits,hi]
theorem lits_int_inv (hi:P.underlying i=some (.int .i64)) {cs:List Value} {l:List Lit} (d:Nat) (h:P.keyLits (d+1) i cs=some l):∃c,cs=[.int .i64 c]∧l=[.int .i64 c]∧(Lit.int .i64 c).wf=true:=by
 unfold Program.keyLits at h
 rw[hi]at h
 split at h <;> simp_all
theorem lits_two (hk : P.underlying k = some (.struct #[f0, f1])) (hc : P.cellsOf k = 2) (hci : P.cellsOf i = 1) (h0 : f0.type = i ∧ f0.offset = 0 ∧ (f0.name != "_") = true) (h1 : f1.type = i ∧ f1.offset = 1 ∧ (f1.name != "_") = true) (d : Nat) (cs : List Value) :
  P.keyLits (d+1) k cs=if cs.length=2 then ((P.keyLits d i (cs.take 1)).bind fun a=>(P.keyLits d i ((cs.drop 1).take 1)).map fun b=>a++b) else none:=by
 conv=>lhs;unfold Program.keyLits
 rw[hk]
 simp only[hc]
 by_cases h:cs.length=2
 ·simp only[h,true_and,if_true]
  rw[if_pos (by simp[h0.2.2,h1.2.2])]
  simp only[List.mapM_cons,List.mapM_nil,h0.1,h0.2.1,h1.1,h1.2.1,hci,List.drop_zero]
  cases P.keyLits d i (cs.take 1) with
  | none=>rfl
  | some a =>
   cases P.keyLits d i ((cs.drop 1).take 1) with
   | none=>rfl
   | some b=>simp
 ·simp[h]
theorem key_mk (hi : P.underlying i = some (.int .i64)) (hk : P.underlying k = some (.struct #[f0, f1])) (hc : P.cellsOf k = 2) (hci : P.cellsOf i = 1) (h0 : f0.type = i ∧ f0.offset = 0 ∧ (f0.name != "_") = true) (h1 : f1.type = i ∧ f1.offset = 1 ∧ (f1.name != "_") = true) (ht : P.keyType k = true) (hr : k < P.types.size) (x : K64) :
  keyOf P k (kv x.1)=some (klit x.1):=by
 obtain⟨m,hm⟩:∃m,P.types.size=m+1:=⟨P.types.size - 1,(Nat.succ_pred_eq_of_pos (Nat.lt_of_le_of_lt (Nat.zero_le k) hr)).symm⟩
 unfold keyOf
 rw[hk]
 simp only[ht,Bool.true_and]
 rw[if_pos (by simp[kv,Value.formed,hk,hc]),hm]
 have e:(kv x.1).cells.toList=[.int .i64 x.1.1,.int .i64 x.1.2]:=rfl
 rw[e,lits_two hk hc hci h0 h1,if_pos (show [Value.int IntKind.i64 x.1.1,Value.int IntKind.i64 x.1.2].length=2 from rfl)]
 simp only[List.take_succ_cons,List.take_zero,List.drop_succ_cons,List.drop_zero]
 rw[lits_int hi,lits_int hi,if_pos x.2.1,if_pos x.2.2]
 rfl
theorem key_inv (hi : P.underlying i = some (.int .i64)) (hk : P.underlying k = some (.struct #[f0, f1])) (hc : P.cellsOf k = 2) (hci : P.cellsOf i = 1) (h0 : f0.type = i ∧ f0.offset = 0 ∧ (f0.name != "_") = true) (h1 : f1.type = i ∧ f1.offset = 1 ∧ (f1.name != "_") = true) (hr : k < P.types.size) {v : Value} {l : Lit} (h : keyOf P k v = some l) :
  ∃x:K64,v=kv x.1∧l=klit x.1:=by
 obtain⟨m,hm⟩:∃m,P.types.size=m+1:=⟨P.types.size - 1,(Nat.succ_pred_eq_of_pos (Nat.lt_of_le_of_lt (Nat.zero_le k) hr)).symm⟩
 obtain⟨xs,L,rfl,hl,rfl⟩:=keyOf_top (P:=P) (k:=k) (by rw[hk]) h
 rw[hm,lits_two hk hc hci h0 h1]at hl
 split at hl
 ·rename_i h2
  obtain⟨ys⟩:=xs
  match ys,h2 with
  | [a,b],_ =>
   simp only[List.take_succ_cons,List.take_zero,List.drop_succ_cons,List.drop_zero]at hl
   cases ha:P.keyLits (m+1) i [a] with
   | none=>simp[ha]at hl
   | some la =>
    cases hb:P.keyLits (m+1) i [b] with
    | none=>simp[ha,hb]at hl
    | some lb =>
     obtain⟨c,e1,e2,w1⟩:=lits_int_inv hi m ha
     obtain⟨c',e3,e4,w2⟩:=lits_int_inv hi m hb
     simp only[List.cons.injEq,and_true]at e1 e3
     simp[ha,hb]at hl
     subst e1 e3 e2 e4
     exact⟨⟨(c,c'),w1,w2⟩,rfl,by rw[←hl];rfl⟩
 ·cases hl
end
theorem kind_struct:(match Tryz.prog.underlying 104 with | some (.array _ _) | some (.struct _)=>true | _=>false)=true:=by kernel_rfl
theorem kind_row:104<Tryz.prog.types.size:=of_decide_eq_true (by kernel_rfl)
theorem laid_out:laidOutB Tryz.prog=true:=by kernel_rfl
theorem kind_keys:Tryz.prog.keyTypeAt 2 104=true:=by kernel_rfl
theorem kind_law:WideMaps.KeyLaw Tryz.prog 104:=deep_law_laid laid_out (m:=2) (Nat.le_of_ble_eq_true rfl) kind_row kind_keys kind_struct
theorem kind_keyed:Maps.Keyed Tryz.prog 104:=Maps.Keyed.of_law kind_law
theorem kind_type:Tryz.prog.keyType 104=true:=by kernel_rfl
theorem kind_cells:Tryz.prog.cellsOf 104=2:=by kernel_rfl
theorem int_cells:Tryz.prog.cellsOf 3=1:=by kernel_rfl
theorem kind_mk (x:K64):keyOf Tryz.prog 104 (kv x.1)=some (klit x.1):=key_mk Tryz.underlying3 Tryz.underlying104 kind_cells int_cells ⟨rfl,rfl,rfl⟩ ⟨rfl,rfl,rfl⟩ kind_type kind_row x
theorem kind_inv {v:Value} {l:Lit} (h:keyOf Tryz.prog 104 v=some l):∃x:K64,v=kv x.1∧l=klit x.1:=key_inv Tryz.underlying3 Tryz.underlying104 kind_cells int_cells ⟨rfl,rfl,rfl⟩ ⟨rfl,rfl,rfl⟩ kind_row h
theorem kv_inj {x y:Int × Int} (h:kv x=kv y):x=y:=by
 simp[kv]at h
 exact Prod.ext h.1 h.2
theorem kinj:KInj:=fun x y e=>by
 have h1:=kind_mk x
 have h2:=kind_mk y
 rw[e]at h1
 exact Subtype.ext (kv_inj (kind_keyed.inj h1 h2))
end Go.Proofs.YtfbegfapoijbnaaGreat
