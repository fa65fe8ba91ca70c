import Derived.Deep.Cut
import Derived.Lib.ConvBytes
import Derived.Lib.SmallJoins
import Derived.Laws.BytesArg
import Derived.Test.YtiogibfhafoapaaGreatZE
set_option maxRecDepth 100000
set_option maxHeartbeats 8000000
set_option linter.unusedSimpArgs false
set_option linter.unusedVariables false
namespace Go.Proofs.YtiogibfhafoapaaGreat.Z
open Go.RowKit
theorem tmod_of (n m:Int):n.tmod m=if 0≤n then n % m else -((-n) % m):=by
 by_cases h:0≤n
 ·rw[if_pos h,Int.tmod_eq_emod_of_nonneg h]
 ·rw[if_neg h]
  have e:n = -(-n):=by omega
  rw[e,Int.neg_tmod,Int.tmod_eq_emod_of_nonneg (by omega)];simp
theorem neg_emod (n m:Int) (hm:0<m):(-n) % m=0∧n % m=0∨(0<(-n) % m∧n % m=m - (-n) % m):=by
 have h1:=Int.emod_lt_of_pos (-n) hm;have h2:=Int.emod_nonneg (-n) (by omega:m≠0);have h3:=Int.emod_lt_of_pos n hm;have h4:=Int.emod_nonneg n (by omega:m≠0);have h5:=Int.emod_add_mul_ediv n m;have h6:=Int.emod_add_mul_ediv (-n) m
 have h7:n % m+(-n) % m=m*(-(n / m) - (-n) / m):=by
  rw[Int.mul_sub,Int.mul_neg];omega
 obtain⟨q,hq⟩:∃q,-(n / m) - (-n) / m=q:=⟨_,rfl⟩;rw[hq]at h7
 have hq0:0≤q:=by
  rcases Int.lt_or_le q 0 with h | h
  ·have:m*q≤m*(-1):=Int.mul_le_mul_of_nonneg_left (by omega) (by omega)
   omega
  ·exact h
 have hq1:q<2:=by
  rcases Int.lt_or_le q 2 with h | h
  ·exact h
  ·have:m*2≤m*q:=Int.mul_le_mul_of_nonneg_left h (by omega)
   omega
 have:q=0∨q=1:=by omega
 rcases this with rfl | rfl
 ·left;omega
 ·right
  rw[Int.mul_one]at h7;omega
theorem tmod_facts (n m:Int) (hm:0<m):(n.tmod m<0→n.tmod m+m=n % m)∧(¬n.tmod m<0→n.tmod m=n % m)∧-m<n.tmod m:=by
 have e:=tmod_of n m;have h1:=Int.emod_lt_of_pos (-n) hm;have h2:=Int.emod_nonneg (-n) (by omega:m≠0);have h3:=Int.emod_lt_of_pos n hm;have h4:=Int.emod_nonneg n (by omega:m≠0);have h5:=neg_emod n m hm;split at e <;> omega
theorem ret_int {a b:Int} (h:a=b):Ending.returned (.int .i64 a)=.returned (.int .i64 b):=by rw[h]
theorem within_any (w:World) (n m:Int) (h0:0<m) (hm:m≤4611686018427387904) :
  Calls Tryz.prog 33 #[.int .i64 n,.int .i64 m] w fun e w'=>e=.returned (.int .i64 (n % m))∧w'=w:=by
 obtain⟨h1,h2,h3⟩:=tmod_facts n m h0;have H1:=hide h1;have H2:=hide h2;clear h1 h2;by_cases h:n.tmod m<0
 ·go_enter Tryz.func33,Tryz.ntmps33
  go_wp2;go_ret;exact⟨ret_int (H1.out h),rfl⟩
 ·go_enter Tryz.func33,Tryz.ntmps33
  go_wp2;go_ret;exact⟨ret_int (H2.out h),rfl⟩
theorem into64_any (w:World) (n m:Int) (h0:0<m) (hm:m≤4611686018427387904) :
  Calls Tryz.prog 34 #[.int .i64 n,.int .i64 m] w fun e w'=>e=.returned (.int .i64 (n % m))∧w'=w:=by
 obtain⟨h1,h2,h3⟩:=tmod_facts n m h0;have H1:=hide h1;have H2:=hide h2;clear h1 h2;by_cases h:n.tmod m<0
 ·go_enter Tryz.func34,Tryz.ntmps34
  go_wp2;go_ret;exact⟨ret_int (H1.out h),rfl⟩
 ·go_enter Tryz.func34,Tryz.ntmps34
  go_wp2;go_ret;exact⟨ret_int (H2.out h),rfl⟩
def nameT (a i:Nat):ByteArray:=strOfNums [(a:Int),97+(i:Int) / 8,97+(i:Int) % 8]
theorem name_any (w:World) (a:Nat) (i:Nat) (hi:i<64) :
  Calls Tryz.prog 35 #[.int .u8 a,.int .i64 i] w fun e w'=>e=.returned (.string (nameT a i))∧Below w.heap.size w w':=by
 have hcv:=run_convert_bytes_arg (P:=Tryz.prog) (w.alloc (.cells #[.int .u8 (a:Int),.int .u8 (97+(i:Int) / 8),.int .u8 (97+(i:Int) % 8)] 5)) 163 5 Tryz.underlying163 Tryz.underlying5 w.heap.size 0 3 3 [(a:Int),97+(i:Int) / 8,97+(i:Int) % 8] rfl (fun j hj=>by
  rw[cell_of_row _ _ _ _ _ _ (heap_alloc_new w (.cells #[.int .u8 (a:Int),.int .u8 (97+(i:Int) / 8),.int .u8 (97+(i:Int) % 8)] 5))]
  match j,hj with
  | 0,_=>rfl
  | 1,_=>rfl
  | 2,_=>rfl) 9 Tryz.underlying9
 go_enter Tryz.func35,Tryz.ntmps35;go_wp2;go_ret;exact⟨rfl,(Below.refl _ w).alloc (Nat.le_refl _) _⟩
end Go.Proofs.YtiogibfhafoapaaGreat.Z
namespace Go.Proofs.YtiogibfhafoapaaGreat.Z
open Go.RowKit
structure Cnf where
 tills:Int
 ctr:Sli Tri
 prc:Sli Int
 lease:Int
 watch:Int
 beat:Int
 window:Int
 cap:Int
 flight:Int
def Cnf.arr (p:Cnf):Array Value:=#[.int .i64 p.tills,.slice p.ctr.p p.ctr.n p.ctr.c,.slice p.prc.p p.prc.n p.prc.c,.int .i64 p.lease,.int .i64 p.watch,.int .i64 p.beat,.int .i64 p.window,.int .i64 p.cap,.int .i64 p.flight]
structure Ctr where
 name:ByteArray
 lo:Int
 hi:Int
 st:Int
def ctc (c:Ctr):List Value:=[.string c.name,.int .i64 c.lo,.int .i64 c.hi,.int .i64 c.st]
theorem elt_ctr:Elt ctc 4 40 31 115:=⟨fun _=>rfl,fun x u hu=>by simp[ctc]at hu;rcases hu with rfl | rfl | rfl | rfl <;> rfl,by omega,Tryz.underlying31,by
 obtain⟨i,h⟩:=info_parts (show (Tryz.prog.info? 115).map (fun i=>(i.zero,i.size,i.bytes))=some (some (.agg #[.string ⟨#[]⟩,.int .i64 0,.int .i64 0,.int .i64 0]),4,40) by kernel_rfl);exact⟨i,_,h.1,h.2.1,h.2.2.1,h.2.2.2,rfl⟩,by omega⟩
def loT (x:Tri):Int:=x.a % 18014398509481985 - 9007199254740992
def hiT (x:Tri):Int:=loT x+x.b % (9007199254740992 - loT x+1)
theorem lo_facts (x:Tri) : -9007199254740992≤loT x∧loT x≤9007199254740992:=by
 have h1:=Int.emod_lt_of_pos x.a (show (0:Int)<18014398509481985 by omega);have h2:=Int.emod_nonneg x.a (show (18014398509481985:Int)≠0 by omega);unfold loT;omega
theorem hi_facts (x:Tri):loT x≤hiT x∧hiT x≤9007199254740992:=by
 have h0:=lo_facts x;have h1:=Int.emod_lt_of_pos x.b (show (0:Int)<9007199254740992 - loT x+1 by omega);have h2:=Int.emod_nonneg x.b (show (9007199254740992 - loT x+1:Int)≠0 by omega);unfold hiT;omega
end Go.Proofs.YtiogibfhafoapaaGreat.Z
