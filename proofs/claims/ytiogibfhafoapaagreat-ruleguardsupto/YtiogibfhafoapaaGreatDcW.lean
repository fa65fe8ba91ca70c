import Derived.Test.YtiogibfhafoapaaGreatDcO
import Derived.Test.YtiogibfhafoapaaGreatDcS
set_option maxRecDepth 100000
set_option maxHeartbeats 8000000
set_option linter.unusedSimpArgs false
set_option linter.unusedVariables false
namespace Go.Proofs.YtiogibfhafoapaaGreat
open Go.RowKit
open Z (Sli SlOk Elt)
theorem elt_pool:Elt plc 4 48 37 121:=⟨fun _=>rfl,fun x u hu=>by simp[plc]at hu;rcases hu with rfl | rfl | rfl | rfl <;> rfl,by omega,Tryz.underlying37,by
 obtain⟨i,h⟩:=info_parts (show (Tryz.prog.info? 121).map (fun i=>(i.zero,i.size,i.bytes))=some (some (.agg #[.int .i64 0,.int .i64 0,.int .i64 0,.slice none 0 0]),4,48) by kernel_rfl);exact⟨i,_,h.1,h.2.1,h.2.2.1,h.2.2.2,rfl⟩,by omega⟩
theorem elt_two:Elt linc 2 16 119 118:=⟨fun _=>rfl,fun x u hu=>by simp[linc]at hu;rcases hu with rfl | rfl <;> rfl,by omega,Tryz.underlying119,by
 obtain⟨i,h⟩:=info_parts (show (Tryz.prog.info? 118).map (fun i=>(i.zero,i.size,i.bytes))=some (some (.agg #[.int .i64 0,.int .i64 0]),2,16) by kernel_rfl);exact⟨i,_,h.1,h.2.1,h.2.2.1,h.2.2.2,rfl⟩,by omega⟩
theorem elt_priced:Elt linc 2 16 38 123:=⟨fun _=>rfl,fun x u hu=>by simp[linc]at hu;rcases hu with rfl | rfl <;> rfl,by omega,Tryz.underlying38,by
 obtain⟨i,h⟩:=info_parts (show (Tryz.prog.info? 123).map (fun i=>(i.zero,i.size,i.bytes))=some (some (.agg #[.int .i64 0,.int .i64 0]),2,16) by kernel_rfl);exact⟨i,_,h.1,h.2.1,h.2.2.1,h.2.2.2,rfl⟩,by omega⟩
theorem elt_u64:Elt uc 1 8 39 36:=⟨fun _=>rfl,fun x u hu=>by simp[uc]at hu;subst hu;rfl,by omega,Tryz.underlying39,by
 obtain⟨i,h⟩:=info_parts (show (Tryz.prog.info? 36).map (fun i=>(i.zero,i.size,i.bytes))=some (some (.int .u64 0),1,8) by kernel_rfl);exact⟨i,_,h.1,h.2.1,h.2.2.1,h.2.2.2,rfl⟩,by omega⟩
theorem elt_flag:Elt boolc 1 1 40 4:=⟨fun _=>rfl,fun x u hu=>by simp[boolc]at hu;subst hu;rfl,by omega,Tryz.underlying40,by
 obtain⟨i,h⟩:=info_parts (show (Tryz.prog.info? 4).map (fun i=>(i.zero,i.size,i.bytes))=some (some (.bool false),1,1) by kernel_rfl);exact⟨i,_,h.1,h.2.1,h.2.2.1,h.2.2.2,rfl⟩,by omega⟩
structure PlP where
 v:Int
 f0:Int
 f1:Int
 hs:List Lin
structure StP where
 pos:Int
 pools:List PlP
 prices:List Lin
 last:List Int
 gen:List Int
 owed:List Bool
def Pl.d (x:Pl):PlP:=⟨x.v,x.f0,x.f1,x.hs⟩
def Sta.d (s:Sta):StP:=⟨s.pos,s.pools.map Pl.d,s.prices,s.last,s.gen,s.owed⟩
def Pl.hv (x:Pl):Value:=.slice x.hp x.hl x.hc
structure StaOw (B:Nat) (w:World) (s:Sta):Prop where
 pn:s.pools.length=s.pn
 pools:w.ownsRow B 121 4 (.slice s.pp s.pn s.pc) s.pn (Z.flat plc s.pools)
 hlen:∀x∈s.pools,x.hs.length=x.hl
 held:∀x∈s.pools,w.ownsRow B 118 2 x.hv x.hl (Z.flat linc x.hs)
 apart:∀(i j:Nat) (x y:Pl),s.pools[i]?=some x→s.pools[j]?=some y→i≠j→∀g,x.hv.ownBlock=some g→y.hv.ownBlock≠some g
 rn:s.prices.length=s.rn
 prices:w.ownsRow B 123 2 (.slice s.rp s.rn s.rc) s.rn (Z.flat linc s.prices)
 ln:s.last.length=s.ln
 last:w.ownsRow B 36 1 (.slice s.lp s.ln s.lc) s.ln (Z.flat uc s.last)
 gn:s.gen.length=s.gn
 gen:w.ownsRow B 36 1 (.slice s.gp s.gn s.gc) s.gn (Z.flat uc s.gen)
 on:s.owed.length=s.on
 owed:w.ownsRow B 4 1 (.slice s.op s.on s.oc) s.on (Z.flat boolc s.owed)
 lg:∀g,(Value.slice s.lp s.ln s.lc).ownBlock=some g→(Value.slice s.gp s.gn s.gc).ownBlock≠some g
theorem StaOw.ok {B:Nat} {w:World} {s:Sta} (h:StaOw B w s):StaOk w s :=
 ⟨h.pn,Z.cel_row (f:=plc) (sz:=4) (fun _=>rfl) h.pools h.pn,fun x hx=>⟨h.hlen x hx,Z.cel_row (f:=linc) (sz:=2) (fun _=>rfl) (h.held x hx) (h.hlen x hx)⟩,h.rn,Z.cel_row (f:=linc) (sz:=2) (fun _=>rfl) h.prices h.rn,h.ln,Z.cel_row (f:=uc) (sz:=1) (fun _=>rfl) h.last h.ln,h.gn,Z.cel_row (f:=uc) (sz:=1) (fun _=>rfl) h.gen h.gn,h.on,Z.cel_row (f:=boolc) (sz:=1) (fun _=>rfl) h.owed h.on⟩
theorem StaOw.by {B B':Nat} {w w':World} {s:Sta} (h:StaOw B w s) (hk:∀e' sz' v n xs,w.ownsRow B e' sz' v n xs→w'.ownsRow B' e' sz' v n xs):StaOw B' w' s :=
 ⟨h.pn,hk _ _ _ _ _ h.pools,h.hlen,fun x hx=>hk _ _ _ _ _ (h.held x hx),h.apart,h.rn,hk _ _ _ _ _ h.prices,h.ln,hk _ _ _ _ _ h.last,h.gn,hk _ _ _ _ _ h.gen,h.on,hk _ _ _ _ _ h.owed,h.lg⟩
theorem StaOw.below {B:Nat} {w w':World} {s:Sta} (h:StaOw B w s) (hb:Below w.heap.size w w'):StaOw B w' s:=h.by (fun _ _ _ _ _ hr=>Z.owns_keep hr hb)
theorem StaOw.le {B B':Nat} {w:World} {s:Sta} (h:StaOw B w s) (hb:B'≤B):StaOw B' w s:=h.by (fun _ _ _ _ _ hr=>Z.owns_le hr hb)
def frL (p:Pl):Lin:=⟨p.f0,p.f1⟩
def frW (f:Lin) (n:Int):Int:=if n<0 then f.c else f.n
def frMv (f:Lin) (n k:Int):Lin:=if n<0 then ⟨wrap64 (f.c - k),wrap64 (f.n+k)⟩ else ⟨wrap64 (f.c+k),wrap64 (f.n - k)⟩
def clCut (F:List Lin) (x:Lin):Int:=cutR x.n (frW (F.getD x.c.toNat ⟨0,0⟩) x.n)
def clStep (p:List Lin × List Lin) (x:Lin):List Lin × List Lin :=
 if clCut p.1 x=0 then p else (p.1.set x.c.toNat (frMv (p.1.getD x.c.toNat ⟨0,0⟩) x.n (amtOf (clCut p.1 x))),p.2++[⟨x.c,clCut p.1 x⟩])
def clampF (s:Sta) (xs:List Lin):List Lin × List Lin:=xs.foldl clStep (s.pools.map frL,[])
def clampD (s:Sta) (xs:List Lin) (qs:List Tri):Int × List Lin × List Tri × Int :=
 if (clampF s xs).2.length=0∧(qs.filter s.want).length=0 then (3,[],[],0) else (2,(clampF s xs).2,(qs.filter s.want).map s.raise,0)
theorem clampF_snoc (s:Sta) (xs:List Lin) (x:Lin):clampF s (xs++[x])=clStep (clampF s xs) x:=by simp[clampF]
theorem clStep_len (p:List Lin × List Lin) (x:Lin):(clStep p x).1.length=p.1.length∧(clStep p x).2.length≤p.2.length+1:=by
 unfold clStep;split
 ·exact⟨rfl,by omega⟩
 ·exact⟨by simp,by simp⟩
theorem clFold_len (xs:List Lin):∀p:List Lin × List Lin,(xs.foldl clStep p).1.length=p.1.length∧(xs.foldl clStep p).2.length≤p.2.length+xs.length:=by
 induction xs with
 | nil=>intro p;exact⟨rfl,by simp⟩
 | cons x xs ih =>
  intro p;obtain⟨h1,h2⟩:=ih (clStep p x);obtain⟨h3,h4⟩:=clStep_len p x;exact⟨by simp only[List.foldl_cons];rw[h1,h3],by simp only[List.foldl_cons,List.length_cons];omega⟩
theorem clampF_len (s:Sta) (xs:List Lin):(clampF s xs).1.length=s.pools.length∧(clampF s xs).2.length≤xs.length:=by
 obtain⟨h1,h2⟩:=clFold_len xs (s.pools.map frL,[]);exact⟨by unfold clampF;rw[h1];simp,by unfold clampF;simpa using h2⟩
theorem wrap_i64 (n:Int):IntKind.i64.wrap n=wrap64 n:=by simp[IntKind.wrap,IntKind.bits,IntKind.signed,wrap64];split <;> omega
theorem wf_wrap64 (n:Int):(Lit.int .i64 (wrap64 n)).wf=true:=wf_wrap n
theorem wf_of_rng {n:Int} (h1 : -9223372036854775808≤n) (h2:n≤9223372036854775807):(Lit.int .i64 n).wf=true:=by
 simp[Lit.wf,IntKind.min,IntKind.max,IntKind.signed,IntKind.bits];omega
theorem rng_of_wf {n:Int} (h:(Lit.int .i64 n).wf=true) : -9223372036854775808≤n∧n≤9223372036854775807:=by
 simp[Lit.wf,IntKind.min,IntKind.max,IntKind.signed,IntKind.bits]at h;omega
theorem cutR_wf {n f:Int} (hn:(Lit.int .i64 n).wf=true) (hf:(Lit.int .i64 f).wf=true):(Lit.int .i64 (cutR n f)).wf=true:=by
 have h1:=rng_of_wf hn;have h2:=rng_of_wf hf;unfold cutR;split
 ·exact wf_of_rng (by omega) (by omega)
 ·split
  ·exact hn
  ·split
   ·exact wf_of_rng (by omega) (by omega)
   ·exact hf
theorem frMv_wf (f:Lin) (n k:Int):LinWf (frMv f n k):=by
 unfold frMv;split
 ·exact⟨wf_wrap64 _,wf_wrap64 _⟩
 ·exact⟨wf_wrap64 _,wf_wrap64 _⟩
theorem clStep_wf {p:List Lin × List Lin} (x:Lin) (h:∀f∈p.1,LinWf f):∀f∈(clStep p x).1,LinWf f:=by
 unfold clStep;split
 ·exact h
 ·intro f hf
  rcases List.mem_or_eq_of_mem_set hf with h1 | h1
  ·exact h f h1
  ·rw[h1];exact frMv_wf _ _ _
theorem clampF_wf {s:Sta} (hw:∀p∈s.pools,LinWf (frL p)) (xs:List Lin):∀f∈(clampF s xs).1,LinWf f:=by
 unfold clampF
 have:∀p:List Lin × List Lin,(∀f∈p.1,LinWf f)→∀f∈(xs.foldl clStep p).1,LinWf f:=by
  induction xs with
  | nil=>intro p h;exact h
  | cons x xs ih=>intro p h;exact ih _ (clStep_wf x h)
 exact this _ (fun f hf=>by obtain⟨p,hp,rfl⟩:=List.mem_map.1 hf;exact hw p hp)
theorem lcells_flat (xs:List Lin):lcells xs=Z.flat linc xs:=by
 induction xs with
 | nil=>rfl
 | cons x xs ih=>show _ :: _ :: _=_;rw[show Z.flat linc (x :: xs)=linc x++Z.flat linc xs from rfl,←ih];rfl
theorem rcells_flat (xs:List Tri):rcells xs=Z.flat tric xs:=by
 induction xs with
 | nil=>rfl
 | cons x xs ih=>rw[show Z.flat tric (x :: xs)=tric x++Z.flat tric xs from rfl,←ih];rfl
theorem flat_rep (n:Nat):Z.flat linc (List.replicate n ⟨0,0⟩)=List.replicate (n*2) (.int .i64 0):=by
 induction n with
 | zero=>rfl
 | succ n ih=>rw[List.replicate_succ,show Z.flat linc (⟨0,0⟩ :: List.replicate n ⟨0,0⟩)=linc ⟨0,0⟩++Z.flat linc (List.replicate n ⟨0,0⟩) from rfl,ih,show (n+1)*2=n*2+1+1 by omega,List.replicate_succ,List.replicate_succ];rfl
def frRow (s:Sta) (j:Nat):List Lin:=(s.pools.take j).map frL++List.replicate (s.pn - j) ⟨0,0⟩
theorem frRow_set {s:Sta} (h:s.pools.length=s.pn) {j:Nat} {P:Pl} (hP:s.pools[j]?=some P):(frRow s j).set j (frL P)=frRow s (j+1)∧(frRow s j)[j]?=some ⟨0,0⟩:=by
 have hj:j<s.pn:=by rw[←h];exact(List.getElem?_eq_some_iff.1 hP).1
 have hl:((s.pools.take j).map frL).length=j:=by simp;omega
 have e:s.pn - j=(s.pn - (j+1))+1:=by omega
 unfold frRow;refine⟨?_,?_⟩
 ·rw[List.set_append_right _ _ (by omega),hl,Nat.sub_self,e,List.replicate_succ,List.set_cons_zero,Z.take_snoc hP,List.map_append,List.append_assoc]
  rfl
 ·rw[List.getElem?_append_right (by omega),hl,Nat.sub_self,e,List.replicate_succ]
  rfl
end Go.Proofs.YtiogibfhafoapaaGreat
