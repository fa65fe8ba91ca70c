import Derived.Test.YtiogibfhafoapaaGreatAbE
import Derived.Test.YtiogibfhafoapaaGreatDcS
set_option maxRecDepth 100000
set_option maxHeartbeats 8000000
set_option linter.unusedSimpArgs false
set_option linter.unusedVariables false
namespace Go.Proofs.YtiogibfhafoapaaGreat
open Go.RowKit
open Z (Sli QaE Elt)
theorem QgB:Elt plc 4 48 37 121:=⟨fun _=>rfl,fun x u hu=>by simp[plc]at hu;rcases hu with rfl | rfl | rfl | rfl <;> rfl,by omega,Tryz.underlying37,by
 obtain⟨i,h⟩:=info_parts (show (Tryz.prog.info? 121).map (fun i=>(i.zero,i.size,i.bytes))=some (some (.agg #[.int .i64 0,.int .i64 0,.int .i64 0,.slice none 0 0]),4,48) by kernel_rfl);exact⟨i,_,h.1,h.2.1,h.2.2.1,h.2.2.2,rfl⟩,by omega⟩
theorem QiD:Elt Qal 2 16 119 118:=⟨fun _=>rfl,fun x u hu=>by simp[Qal]at hu;rcases hu with rfl | rfl <;> rfl,by omega,Tryz.underlying119,by
 obtain⟨i,h⟩:=info_parts (show (Tryz.prog.info? 118).map (fun i=>(i.zero,i.size,i.bytes))=some (some (.agg #[.int .i64 0,.int .i64 0]),2,16) by kernel_rfl);exact⟨i,_,h.1,h.2.1,h.2.2.1,h.2.2.2,rfl⟩,by omega⟩
theorem Qdn:Elt Qal 2 16 38 123:=⟨fun _=>rfl,fun x u hu=>by simp[Qal]at hu;rcases hu with rfl | rfl <;> rfl,by omega,Tryz.underlying38,by
 obtain⟨i,h⟩:=info_parts (show (Tryz.prog.info? 123).map (fun i=>(i.zero,i.size,i.bytes))=some (some (.agg #[.int .i64 0,.int .i64 0]),2,16) by kernel_rfl);exact⟨i,_,h.1,h.2.1,h.2.2.1,h.2.2.2,rfl⟩,by omega⟩
theorem QeC:Elt uc 1 8 39 36:=⟨fun _=>rfl,fun x u hu=>by simp[uc]at hu;subst hu;rfl,by omega,Tryz.underlying39,by
 obtain⟨i,h⟩:=info_parts (show (Tryz.prog.info? 36).map (fun i=>(i.zero,i.size,i.bytes))=some (some (.int .u64 0),1,8) by kernel_rfl);exact⟨i,_,h.1,h.2.1,h.2.2.1,h.2.2.2,rfl⟩,by omega⟩
theorem QgK:Elt QdE 1 1 40 4:=⟨fun _=>rfl,fun x u hu=>by simp[QdE]at hu;subst hu;rfl,by omega,Tryz.underlying40,by
 obtain⟨i,h⟩:=info_parts (show (Tryz.prog.info? 4).map (fun i=>(i.zero,i.size,i.bytes))=some (some (.bool false),1,1) by kernel_rfl);exact⟨i,_,h.1,h.2.1,h.2.2.1,h.2.2.2,rfl⟩,by omega⟩
structure PlP where
 v:Int
 f0:Int
 f1:Int
 hs:List Lin
structure StP where
 pos:Int
 pools:List PlP
 prices:List Lin
 last:List Int
 gen:List Int
 owed:List Bool
def Pl.d (x:Pl):PlP:=⟨x.v,x.f0,x.f1,x.hs⟩
def Sta.d (s:Sta):StP:=⟨s.pos,s.pools.map Pl.d,s.prices,s.last,s.gen,s.owed⟩
def Pl.hv (x:Pl):Value:=.slice x.hp x.hl x.hc
structure Qac (B:Nat) (w:World) (s:Sta):Prop where
 pn:s.pools.length=s.pn
 pools:w.ownsRow B 121 4 (.slice s.pp s.pn s.pc) s.pn (Z.flat plc s.pools)
 hlen:∀x∈s.pools,x.hs.length=x.hl
 held:∀x∈s.pools,w.ownsRow B 118 2 x.hv x.hl (Z.flat Qal x.hs)
 apart:∀(i j:Nat) (x y:Pl),s.pools[i]?=some x→s.pools[j]?=some y→i≠j→∀g,x.hv.ownBlock=some g→y.hv.ownBlock≠some g
 rn:s.prices.length=s.rn
 prices:w.ownsRow B 123 2 (.slice s.rp s.rn s.rc) s.rn (Z.flat Qal s.prices)
 ln:s.last.length=s.ln
 last:w.ownsRow B 36 1 (.slice s.lp s.ln s.lc) s.ln (Z.flat uc s.last)
 gn:s.gen.length=s.gn
 gen:w.ownsRow B 36 1 (.slice s.gp s.gn s.gc) s.gn (Z.flat uc s.gen)
 on:s.owed.length=s.on
 owed:w.ownsRow B 4 1 (.slice s.op s.on s.oc) s.on (Z.flat QdE s.owed)
 lg:∀g,(Value.slice s.lp s.ln s.lc).ownBlock=some g→(Value.slice s.gp s.gn s.gc).ownBlock≠some g
theorem Qac.ok {B:Nat} {w:World} {s:Sta} (h:Qac B w s):Qae w s :=
 ⟨h.pn,Z.cel_row (f:=plc) (sz:=4) (fun _=>rfl) h.pools h.pn,fun x hx=>⟨h.hlen x hx,Z.cel_row (f:=Qal) (sz:=2) (fun _=>rfl) (h.held x hx) (h.hlen x hx)⟩,h.rn,Z.cel_row (f:=Qal) (sz:=2) (fun _=>rfl) h.prices h.rn,h.ln,Z.cel_row (f:=uc) (sz:=1) (fun _=>rfl) h.last h.ln,h.gn,Z.cel_row (f:=uc) (sz:=1) (fun _=>rfl) h.gen h.gn,h.on,Z.cel_row (f:=QdE) (sz:=1) (fun _=>rfl) h.owed h.on⟩
theorem Qac.by {B B':Nat} {w w':World} {s:Sta} (h:Qac B w s) (hk:∀e' sz' v n xs,w.ownsRow B e' sz' v n xs→w'.ownsRow B' e' sz' v n xs):Qac B' w' s :=
 ⟨h.pn,hk _ _ _ _ _ h.pools,h.hlen,fun x hx=>hk _ _ _ _ _ (h.held x hx),h.apart,h.rn,hk _ _ _ _ _ h.prices,h.ln,hk _ _ _ _ _ h.last,h.gn,hk _ _ _ _ _ h.gen,h.on,hk _ _ _ _ _ h.owed,h.lg⟩
theorem Qac.below {B:Nat} {w w':World} {s:Sta} (h:Qac B w s) (hb:Below w.heap.size w w'):Qac B w' s:=h.by (fun _ _ _ _ _ hr=>Z.owns_keep hr hb)
theorem Qac.le {B B':Nat} {w:World} {s:Sta} (h:Qac B w s) (hb:B'≤B):Qac B' w s:=h.by (fun _ _ _ _ _ hr=>Z.owns_le hr hb)
def frL (p:Pl):Lin:=⟨p.f0,p.f1⟩
def frW (f:Lin) (n:Int):Int:=if n<0 then f.c else f.n
def Qd8 (f:Lin) (n k:Int):Lin:=if n<0 then ⟨wrap64 (f.c - k),wrap64 (f.n+k)⟩ else ⟨wrap64 (f.c+k),wrap64 (f.n - k)⟩
def Qcp (F:List Lin) (x:Lin):Int:=QfJ x.n (frW (F.getD x.c.toNat ⟨0,0⟩) x.n)
def Qax (p:List Lin × List Lin) (x:Lin):List Lin × List Lin :=
 if Qcp p.1 x=0 then p else (p.1.set x.c.toNat (Qd8 (p.1.getD x.c.toNat ⟨0,0⟩) x.n (Qbh (Qcp p.1 x))),p.2++[⟨x.c,Qcp p.1 x⟩])
def QaC (s:Sta) (xs:List Lin):List Lin × List Lin:=xs.foldl Qax (s.pools.map frL,[])
def Qbo (s:Sta) (xs:List Lin) (qs:List Tri):Int × List Lin × List Tri × Int :=
 if (QaC s xs).2.length=0∧(qs.filter s.want).length=0 then (3,[],[],0) else (2,(QaC s xs).2,(qs.filter s.want).map s.raise,0)
theorem QfR (s:Sta) (xs:List Lin) (x:Lin):QaC s (xs++[x])=Qax (QaC s xs) x:=by simp[QaC]
theorem QhT (p:List Lin × List Lin) (x:Lin):(Qax p x).1.length=p.1.length∧(Qax p x).2.length≤p.2.length+1:=by
 unfold Qax;split
 ·exact⟨rfl,by omega⟩
 ·exact⟨by simp,by simp⟩
theorem Qht (xs:List Lin):∀p:List Lin × List Lin,(xs.foldl Qax p).1.length=p.1.length∧(xs.foldl Qax p).2.length≤p.2.length+xs.length:=by
 induction xs with
 | nil=>intro p;exact⟨rfl,by simp⟩
 | cons x xs ih =>
  intro p;obtain⟨h1,h2⟩:=ih (Qax p x);obtain⟨h3,h4⟩:=QhT p x;exact⟨by simp only[VI];rw[h1,h3],by simp only[VI,VO];omega⟩
theorem Qhp (s:Sta) (xs:List Lin):(QaC s xs).1.length=s.pools.length∧(QaC s xs).2.length≤xs.length:=by
 obtain⟨h1,h2⟩:=Qht xs (s.pools.map frL,[]);exact⟨by unfold QaC;rw[h1];simp,by unfold QaC;simpa using h2⟩
theorem Qaq (n:Int):IntKind.i64.wrap n=wrap64 n:=by simp[IntKind.wrap,IntKind.bits,IntKind.signed,wrap64];split <;> omega
theorem Qc6 (n:Int):(Lit.int .i64 (wrap64 n)).wf=true:=QbI n
theorem Qb5 {n:Int} (h1 : -9223372036854775808≤n) (h2:n≤9223372036854775807):(Lit.int .i64 n).wf=true:=by
 simp[Lit.wf,IntKind.min,IntKind.max,IntKind.signed,IntKind.bits];omega
theorem Qft {n:Int} (h:(Lit.int .i64 n).wf=true) : -9223372036854775808≤n∧n≤9223372036854775807:=by
 simp[Lit.wf,IntKind.min,IntKind.max,IntKind.signed,IntKind.bits]at h;omega
theorem Qf7 {n f:Int} (hn:(Lit.int .i64 n).wf=true) (hf:(Lit.int .i64 f).wf=true):(Lit.int .i64 (QfJ n f)).wf=true:=by
 have h1:=Qft hn;have h2:=Qft hf;unfold QfJ;split
 ·exact Qb5 (by omega) (by omega)
 ·split
  ·exact hn
  ·split
   ·exact Qb5 (by omega) (by omega)
   ·exact hf
theorem Qli (f:Lin) (n k:Int):Qaw (Qd8 f n k):=by
 unfold Qd8;split
 ·exact⟨Qc6 _,Qc6 _⟩
 ·exact⟨Qc6 _,Qc6 _⟩
theorem Qe1 {p:List Lin × List Lin} (x:Lin) (h:∀f∈p.1,Qaw f):∀f∈(Qax p x).1,Qaw f:=by
 unfold Qax;split
 ·exact h
 ·intro f hf
  rcases List.mem_or_eq_of_mem_set hf with h1 | h1
  ·exact h f h1
  ·rw[h1];exact Qli _ _ _
theorem Qjr {s:Sta} (hw:∀p∈s.pools,Qaw (frL p)) (xs:List Lin):∀f∈(QaC s xs).1,Qaw f:=by
 unfold QaC
 have:∀p:List Lin × List Lin,(∀f∈p.1,Qaw f)→∀f∈(xs.foldl Qax p).1,Qaw f:=by
  induction xs with
  | nil=>intro p h;exact h
  | cons x xs ih=>intro p h;exact ih _ (Qe1 x h)
 exact this _ (fun f hf=>by obtain⟨p,hp,rfl⟩:=List.mem_map.1 hf;exact hw p hp)
theorem QfY (xs:List Lin):QaI xs=Z.flat Qal xs:=by
 induction xs with
 | nil=>rfl
 | cons x xs ih=>show _ :: _ :: _=_;rw[show Z.flat Qal (x :: xs)=Qal x++Z.flat Qal xs from rfl,←ih];rfl
theorem Qci (xs:List Tri):Qav xs=Z.flat Qar xs:=by
 induction xs with
 | nil=>rfl
 | cons x xs ih=>rw[show Z.flat Qar (x :: xs)=Qar x++Z.flat Qar xs from rfl,←ih];rfl
theorem Qks (n:Nat):Z.flat Qal (List.replicate n ⟨0,0⟩)=List.replicate (n*2) (.int .i64 0):=by
 induction n with
 | zero=>rfl
 | succ n ih=>rw[List.replicate_succ,show Z.flat Qal (⟨0,0⟩ :: List.replicate n ⟨0,0⟩)=Qal ⟨0,0⟩++Z.flat Qal (List.replicate n ⟨0,0⟩) from rfl,ih,show (n+1)*2=n*2+1+1 by omega,List.replicate_succ,List.replicate_succ];rfl
def QdV (s:Sta) (j:Nat):List Lin:=(s.pools.take j).map frL++List.replicate (s.pn - j) ⟨0,0⟩
theorem QiC {s:Sta} (h:s.pools.length=s.pn) {j:Nat} {P:Pl} (hP:s.pools[j]?=some P):(QdV s j).set j (frL P)=QdV s (j+1)∧(QdV s j)[j]?=some ⟨0,0⟩:=by
 have hj:j<s.pn:=by rw[←h];exact(Vd.1 hP).1
 have hl:((s.pools.take j).map frL).length=j:=by simp;omega
 have e:s.pn - j=(s.pn - (j+1))+1:=by omega
 unfold QdV;refine⟨?_,?_⟩
 ·rw[List.set_append_right _ _ (by omega),hl,Nat.sub_self,e,List.replicate_succ,List.set_cons_zero,Z.take_snoc hP,List.map_append,List.append_assoc]
  rfl
 ·rw[List.getElem?_append_right (by omega),hl,Nat.sub_self,e,List.replicate_succ]
  rfl
end Go.Proofs.YtiogibfhafoapaaGreat
