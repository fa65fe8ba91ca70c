import Derived.Laws.OwnMore
import Derived.Test.YtiogibfhafoapaaGreatDcR
import Derived.Test.YtiogibfhafoapaaGreatRwK
import Derived.Test.YtiogibfhafoapaaGreatAbA
set_option maxRecDepth 100000
set_option maxHeartbeats 8000000
set_option linter.unusedSimpArgs false
set_option linter.unusedVariables false
namespace Go.Proofs.YtiogibfhafoapaaGreat
open Go.RowKit
open Z (Sli QaE Acd Qad)
theorem QbC {α:Type} {f:α→List Value} {sz:Nat} (hf:∀x,(f x).length=sz):∀(xs:List α) (i j:Nat) (x x':α) (u:Value),xs[i]?=some x→j<sz→f x'=(f x).set j u→(Z.flat f xs).set (i*sz+j) u=Z.flat f (xs.set i x')
 | [],i,j,x,x',u,h,_,_=>by simp at h
 | y :: xs,0,j,x,x',u,h,hj,e=>by
  simp at h;subst h;have e1:Z.flat f (y :: xs)=f y++Z.flat f xs:=rfl;rw[Nat.zero_mul,Nat.zero_add,e1,List.set_append_left _ _ (by rw[hf];exact hj),←e];rfl
 | y :: xs,i+1,j,x,x',u,h,hj,e=>by
  have e1:Z.flat f (y :: xs)=f y++Z.flat f xs:=rfl;rw[e1,List.set_append_right _ _ (by rw[hf,Nat.add_mul];omega),hf,Nat.add_mul];rw[show i*sz+1*sz+j - sz=i*sz+j by omega,QbC hf xs i j x x' u (by simpa using h) hj e];rfl
theorem Qbm {w:World} {B g n c k s:Nat} {t:TypeId} {xs:List Value} (h:w.ownsRow B t s (.slice (some ⟨g,0,none⟩) n c) n xs) (a:Value):(w.setCell ⟨g,k,none⟩ a).ownsRow B t s (.slice (some ⟨g,0,none⟩) n c) n (xs.set k a):=by
 rcases h.2 with ⟨h1,_⟩ | ⟨g',cap,cur,h1,h2,hg,h3,h4,h5,ht⟩
 ·cases h1
 ·cases h1
  refine⟨by rw[VP];exact h.1,Or.inr ⟨g,c,cur.setIfInBounds k a,rfl,h2,Vx _ _ _ _ _ _ hg,h3,h4,by simpa using h5,?_⟩⟩;rw[←ht];simp[List.take_set,Array.toList_setIfInBounds]
theorem QaF {α:Type} {f:α→List Value} {sz:Nat} (hf:∀x,(f x).length=sz):∀(xs:List α) (i j:Nat) (x:α) (v:Value),xs[i]?=some x→(f x)[j]?=some v→(Z.flat f xs)[i*sz+j]?=some v
 | [],i,j,x,v,h,_=>by simp at h
 | y :: xs,0,j,x,v,h,hv=>by
  simp at h;subst h;show ((f y)++Z.flat f xs)[0*sz+j]?=_;rw[Nat.zero_mul,Nat.zero_add,List.getElem?_append_left ((Vd.1 hv).1)];exact hv
 | y :: xs,i+1,j,x,v,h,hv=>by
  show ((f y)++Z.flat f xs)[(i+1)*sz+j]?=_;rw[List.getElem?_append_right (by rw[hf,Nat.succ_mul];omega),hf,Nat.succ_mul,show i*sz+sz+j - sz=i*sz+j by omega];exact QaF hf xs i j x v (by simpa using h) hv
theorem QcG {w:World} {B g n c k:Nat} {t:TypeId} {F:List Lin} {x:Lin} (h:w.ownsRow B t 2 (.slice (some ⟨g,0,none⟩) n c) n (Z.flat Qal F)) (hx:F[k]?=some x):w.cell? ⟨g,k*2,none⟩=some (.int .i64 x.c)∧w.cell? ⟨g,k*2+1,none⟩=some (.int .i64 x.n)∧(∀j,w.frozen? ⟨g,j,none⟩=false):=by
 obtain⟨_,e0,_,q0⟩:=row_cell h (QaF (f:=Qal) (sz:=2) (fun _=>rfl) F k 0 x _ hx rfl);cases e0;obtain⟨_,e1,_,q1⟩:=row_cell h (QaF (f:=Qal) (sz:=2) (fun _=>rfl) F k 1 x _ hx rfl);cases e1;refine⟨by simpa using q0,q1,fun j=>?_⟩;rcases h.2 with ⟨h1,_⟩ | ⟨g',cap,cur,h1,_,hg',_⟩
 ·cases h1
 ·cases h1;simp[World.frozen?,hg']
theorem Qjg {w:World} {B g n c k:Nat} {t:TypeId} {F:List Lin} {x:Lin} (h:w.ownsRow B t 2 (.slice (some ⟨g,0,none⟩) n c) n (Z.flat Qal F)) (hx:F[k]?=some x) (v:Int):(w.setCell ⟨g,k*2,none⟩ (.int .i64 v)).ownsRow B t 2 (.slice (some ⟨g,0,none⟩) n c) n (Z.flat Qal (F.set k ⟨v,x.n⟩)):=by
 have h1:=Qbm (k:=k*2) h (.int .i64 v);have h2:=QbC (f:=Qal) (sz:=2) (fun _=>rfl) F k 0 x ⟨v,x.n⟩ (.int .i64 v) hx (by omega) rfl;rw[Vr]at h2;rw[h2]at h1;exact h1
theorem Qgh {w:World} {B g n c k:Nat} {t:TypeId} {F:List Lin} {x:Lin} (h:w.ownsRow B t 2 (.slice (some ⟨g,0,none⟩) n c) n (Z.flat Qal F)) (hx:F[k]?=some x) (v:Int):(w.setCell ⟨g,k*2+1,none⟩ (.int .i64 v)).ownsRow B t 2 (.slice (some ⟨g,0,none⟩) n c) n (Z.flat Qal (F.set k ⟨x.c,v⟩)):=by
 have h1:=Qbm (k:=k*2+1) h (.int .i64 v);rw[QbC (f:=Qal) (sz:=2) (fun _=>rfl) F k 1 x ⟨x.c,v⟩ (.int .i64 v) hx (by omega) rfl]at h1;exact h1
def QfJ (n f:Int):Int:=if f<0 then 0 else if QdD n≤f then n else if n<0 then -f else f
theorem QgU (w:World) (n f:Int) (hn:(Lit.int .i64 n).wf=true) (hf:(Lit.int .i64 f).wf=true):Calls Tryz.prog 205 #[.int .i64 n,.int .i64 f] w fun e w'=>e=.returned (.int .i64 (QfJ n f))∧w'=w:=by
 have HAm:=Qaa (fun W=>QdK n hn W)
 have hfb : -9223372036854775808≤f∧f≤9223372036854775807:=by
  simp[Lit.wf,IntKind.min,IntKind.max,IntKind.signed,IntKind.bits]at hf;omega
 by_cases h1:f<0
 ·have hv:QfJ n f=0:=by unfold QfJ;rw[if_pos h1]
  rw[hv];go_enter Tryz.func205,Tryz.ntmps205;go_wp2;go_ret;exact⟨rfl,rfl⟩
 ·have hw:IntKind.u64.wrap f=f:=by simp[IntKind.wrap,IntKind.bits,IntKind.signed];omega
  have HAu:Hid (QfJ n f=if QdD n≤f then n else if n<0 then -f else f):=by show _=_;unfold QfJ;rw[if_neg h1]
  rw[HAu.out];clear HAu hn hf;generalize QdD n=m at *;by_cases h2:m≤f
  ·rw[if_pos h2]
   go_enter Tryz.func205,Tryz.ntmps205;go_wp2_with (first | (go_at_call 107;refine(HAm.out _).mono ?_;rintro e w3 ⟨rfl,h9⟩;rw[h9];clear h9 w3) | fail)
   go_ret;exact⟨rfl,rfl⟩
  ·rw[if_neg h2]
   by_cases h3:n<0
   ·rw[if_pos h3]
    have hw2:IntKind.i64.wrap (-f) = -f:=by simp[IntKind.wrap,IntKind.bits,IntKind.signed];omega
    go_enter Tryz.func205,Tryz.ntmps205;go_wp2_with (first | (go_at_call 107;refine(HAm.out _).mono ?_;rintro e w3 ⟨rfl,h9⟩;rw[h9];clear h9 w3) | fail)
    go_ret;exact⟨rfl,rfl⟩
   ·rw[if_neg h3]
    go_enter Tryz.func205,Tryz.ntmps205;go_wp2_with (first | (go_at_call 107;refine(HAm.out _).mono ?_;rintro e w3 ⟨rfl,h9⟩;rw[h9];clear h9 w3) | fail)
    go_ret;exact⟨rfl,rfl⟩
end Go.Proofs.YtiogibfhafoapaaGreat
namespace Go.Proofs.YtiogibfhafoapaaGreat
open Go.RowKit
open Z (Eda)
abbrev qE (e:Eda):Array Value:=#[.int .u64 e.po,.int .i64 e.ac.till,.int .u64 e.ac.num,.int .i64 e.ac.kind,.bool e.ac.sure,.slice e.ac.lines.p e.ac.lines.n e.ac.lines.c,.slice e.ac.guards.p e.ac.guards.n e.ac.guards.c,.slice e.ac.sets.p e.ac.sets.n e.ac.sets.c,.int .i64 e.ac.mg,.slice e.ac.other.p e.ac.other.n e.ac.other.c,.int .i64 e.ac.ra,.int .i64 e.ac.rb,.int .i64 e.ac.rd,.int .i64 e.ac.to,.int .u64 e.ac.gen,.slice e.ac.rights.p e.ac.rights.n e.ac.rights.c,.int .i64 e.oc,.slice e.made.p e.made.n e.made.c,.slice e.sets.p e.sets.n e.sets.c,.int .i64 e.n,.int .i64 e.fe,.int .u64 e.ge]
end Go.Proofs.YtiogibfhafoapaaGreat
