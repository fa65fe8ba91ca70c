import Derived.Deep.AppendLies
import Derived.Test.YtiogibfhafoapaaGreatAbZ
import Derived.Test.YtiogibfhafoapaaGreatFoF
import Derived.Test.YtiogibfhafoapaaGreatCfB
import Derived.Test.YtiogibfhafoapaaGreatDcI
import Derived.Test.YtiogibfhafoapaaGreatRwK
import Derived.Test.YtiogibfhafoapaaGreatTk
import Derived.Test.YtiogibfhafoapaaGreatDcS
set_option maxRecDepth 100000
set_option maxHeartbeats 8000000
set_option linter.unusedSimpArgs false
set_option linter.unusedVariables false
namespace Go.Proofs.YtiogibfhafoapaaGreat
open Go.RowKit
open Z (Sli QaE Elt Ctr ctc QeZ)
theorem app1 {α:Type} {f:α→List Value} {sz by_:Nat} {t e:TypeId} (E:Elt f sz by_ t e) (W:World) (B n:Nat) (a:Option Addr) (c:Nat) (xs:List α) (x:α) (X:Array Value) (hX:X.toList=f x) (hr:W.ownsRow B e sz (.slice a n c) n (Z.flat f xs)) (hn:n≤4194304) (hB:B≤W.heap.size) (ty:TypeId) :
  ∃g d w7,(Builtin.append_ #[t,t] ty #[.slice a n c,.slice (some ⟨W.heap.size,0,none⟩) 1 1]).run Tryz.prog (W.alloc (.cells X e))=.ok (.slice (some ⟨g,0,none⟩) (n+1) d) w7 ∧
   w7.ownsRow B e sz (.slice (some ⟨g,0,none⟩) (n+1) d) (n+1) (Z.flat f (xs++[x]))∧((Value.slice a n c).ownBlock=some g∨W.heap.size<g) ∧
   (∀k,k<W.heap.size→(Value.slice a n c).ownBlock≠some k→w7.heap[k]?=W.heap[k]?)∧(∀w0:World,Below w0.heap.size w0 W→w0.heap.size≤B→Below w0.heap.size w0 w7)∧W.heap.size≤w7.heap.size:=by
 obtain⟨i,z,hi,hz0,hz1,hz2,hz3⟩:=E.info;have hA:Below W.heap.size W (W.alloc (.cells X e)):=(Below.refl _ W).alloc (Va _) _;have hr1:=Z.owns_keep hr hA;have hc1:Cel (W.alloc (.cells X e)) (some ⟨W.heap.size,0,none⟩) sz ([x].map f):=Z.cel_one hX;have hsm:=E.small;obtain⟨g,d,w7,hrun,hown,hg,hat,hlt⟩:=run_append_lies (P:=Tryz.prog) (W.alloc (.cells X e)) t ty B e i z sz by_ E.ht hi hz0 hz1 hz2 hz3 E.pos (.slice a n c) n (Z.flat f xs) hr1 ⟨W.heap.size,0,none⟩ 1 1 (Z.flat f [x]) (by rw[Z.flat_len E.len];rfl) (Z.cel_cells E.len E.pos rfl hc1) (E.ones [x]) (by omega) (by unfold maxLen;omega) (by have:=Nat.mul_le_mul (show n+1≤4194305 by omega) hsm;omega) (by have:=hA.size;omega) _ rfl;refine⟨g,d,w7,hrun,by rw[Z.flat_app];exact hown,?_,fun k hk hne=>(hg.block k (VL hk hA.size) (fun h=>hne h.symm)).trans (hA.block k hk),fun w0 hb h0=>?_,Vt hA.size hg.size⟩
 ·rcases hat with h | h
  ·exact Or.inl h
  ·right
   have h2:(W.alloc (.cells X e)).heap.size=W.heap.size+1:=by simp
   rcases Nat.lt_or_ge W.heap.size g with h3 | h3
   ·exact h3
   ·omega
 ·exact(hb.trans (hA.mono hb.size)).grown hg (by have:=hb.size;have:=hA.size;omega) (fun k hk=>Vt h0 (Z.owns_base hr k hk))
theorem Qcr {W w7:World} {B sz n:Nat} {t:TypeId} {v:Value} {ys:List Value} {B' sz' n':Nat} {t':TypeId} {v':Value} {ys':List Value} (h:W.ownsRow B t sz v n ys) (keep:∀k,k<W.heap.size→v.ownBlock≠some k→w7.heap[k]?=W.heap[k]?) (h':W.ownsRow B' t' sz' v' n' ys') (hne:t≠t'):w7.ownsRow B' t' sz' v' n' ys' :=
 Qas h' (fun g e=>keep g (Qds h' e) (fun e2=>by
  rcases Z.owns_two h h' hne with e1 | e1
  ·rw[e1]at e2;cases e2
  ·exact e1 (e2.trans e.symm)))
theorem QaB {W w7:World} {B sz n:Nat} {t:TypeId} {v:Value} {ys:List Value} (h:W.ownsRow B t sz v n ys) (keep:∀k,k<W.heap.size→v.ownBlock≠some k→w7.heap[k]?=W.heap[k]?) {k:Nat} {C:Array Value} {t':TypeId} (hk:W.heap[k]?=some (.cells C t' (0,0))) (hne:t'≠t):w7.heap[k]?=some (.cells C t' (0,0)) :=
 (keep k (Qab hk) (fun e=>Z.owns_ne h hk hne e.symm)).trans hk
structure Fs (w W:World) (A:Array Value) (S:Sta):Prop where
 a:W.heap[w.heap.size]?=some (.cells A 34 (0,0))
 z:W.heap[w.heap.size+1]?=some (.cells qs 42 (0,0))
 x:W.heap[w.heap.size+1+1]?=some (.cells S.arr 42 (0,0))
 own:Qac w.heap.size W S
 bel:Below w.heap.size w W
theorem Fs.below {w W W':World} {A:Array Value} {S:Sta} (h:Fs w W A S) (hb:Below W.heap.size W W'):Fs w W' A S :=
 ⟨(hb.block _ (Qab h.a)).trans h.a,(hb.block _ (Qab h.z)).trans h.z,(hb.block _ (Qab h.x)).trans h.x,h.own.below hb,h.bel.trans (hb.mono h.bel.size)⟩
theorem Fs.set {w W:World} {A:Array Value} {S S':Sta} (ha:W.heap[w.heap.size]?=some (.cells A 34 (0,0))) (hz:W.heap[w.heap.size+1]?=some (.cells qs 42 (0,0))) (hx:W.heap[w.heap.size+1+1]?=some (.cells S.arr 42 (0,0))) (ho:Qac w.heap.size W S') (hb:Below w.heap.size w W) (i:Nat) (v:Value) (hu:∃u,S.arr[i]?=some u) (he:S'.arr=S.arr.setIfInBounds i v) :
  (∃u,W.cell? ⟨w.heap.size+1+1,i,none⟩=some u)∧W.frozen? ⟨w.heap.size+1+1,i,none⟩=false∧Fs w (W.setCell ⟨w.heap.size+1+1,i,none⟩ v) A S':=by
 obtain⟨u,hu⟩:=hu;refine⟨⟨u,by rw[cRq hx];exact hu⟩,VN _ _ _ _ _ hx,?_,?_,?_,?_,?_⟩
 ·rw[Ve _ _ _ _ (by show w.heap.size≠w.heap.size+1+1;omega)];exact ha
 ·rw[Ve _ _ _ _ (by show w.heap.size+1≠w.heap.size+1+1;omega)];exact hz
 ·rw[he];exact Vx _ _ _ _ _ _ hx
 ·exact ho.far (fun g C t hg ht=>Ve _ _ _ _ (by rintro rfl;rw[hx]at hg;cases hg;exact Qay rfl ht))
 ·exact hb.setCell (p:=⟨w.heap.size+1+1,i,none⟩) (by show w.heap.size≤w.heap.size+1+1;omega) _
theorem Qg3 {α:Type} {l:List α} {x y:α} (h:y∈l++[x]):y∈l∨y=x:=by simpa using h
theorem Qf6 {α:Type} {l:List α} {x y:α} {i:Nat} (h:(l++[x])[i]?=some y):(i<l.length∧l[i]?=some y)∨(i=l.length∧y=x):=by
 rcases Nat.lt_or_ge i l.length with hi | hi
 ·rw[List.getElem?_append_left hi]at h
  exact Or.inl ⟨hi,h⟩
 ·rw[List.getElem?_append_right hi]at h
  have hi2:=(Vd.1 h).1;simp at hi2;obtain rfl:i=l.length:=by omega
  simp at h;exact Or.inr ⟨rfl,h.symm⟩
theorem Fs.pool {w W:World} {A:Array Value} {S:Sta} (h:Fs w W A S) (P:Pl) (hP:W.ownsRow w.heap.size 118 2 P.hv P.hl (Z.flat Qal P.hs)) (hl:P.hs.length=P.hl) (hap:∀x∈S.pools,∀g,x.hv.ownBlock=some g→P.hv.ownBlock≠some g) (hn:S.pn≤4194304) :
  ∃p d w7,(Builtin.append_ #[37,37] 37 #[.slice S.pp S.pn S.pc,.slice (some ⟨W.heap.size,0,none⟩) 1 1]).run Tryz.prog (W.alloc (.cells #[.int .i64 P.v,.int .i64 P.f0,.int .i64 P.f1,.slice P.hp P.hl P.hc] 121))=.ok (.slice p (S.pn+1) d) w7 ∧
   (∃u,w7.cell? ⟨w.heap.size+1+1,1,none⟩=some u)∧w7.frozen? ⟨w.heap.size+1+1,1,none⟩=false∧Fs w (w7.setCell ⟨w.heap.size+1+1,1,none⟩ (.slice p (S.pn+1) d)) A { S with pp:=p,pn:=S.pn+1,pc:=d,pools:=S.pools++[P] }:=by
 obtain⟨g,d,w7,hr,ho,hat,hk,hb,hsz⟩:=app1 QgB W w.heap.size S.pn S.pp S.pc S.pools P #[.int .i64 P.v,.int .i64 P.f0,.int .i64 P.f1,.slice P.hp P.hl P.hc] rfl h.own.pools hn h.bel.size 37;have R:∀{B' sz' n':Nat} {t':TypeId} {v':Value} {ys':List Value},W.ownsRow B' t' sz' v' n' ys'→121≠t'→w7.ownsRow B' t' sz' v' n' ys':=fun h' hne=>Qcr h.own.pools hk h' hne
 have ho':Qac w.heap.size w7 { S with pp:=some ⟨g,0,none⟩,pn:=S.pn+1,pc:=d,pools:=S.pools++[P] }:=by
  refine⟨by simp[h.own.pn],ho,fun x hx=>?_,fun x hx=>?_,fun i j x y hx hy hij k e1 e2=>?_,h.own.rn,R h.own.prices (by decide),h.own.ln,R h.own.last (by decide),h.own.gn,R h.own.gen (by decide),h.own.on,R h.own.owed (by decide),h.own.lg⟩
  ·rcases Qg3 hx with hx | rfl
   ·exact h.own.hlen x hx
   ·exact hl
  ·rcases Qg3 hx with hx | rfl
   ·exact R (h.own.held x hx) (by decide)
   ·exact R hP (by decide)
  ·rcases Qf6 hx with ⟨h1,h2⟩ | ⟨h1,rfl⟩
   ·rcases Qf6 hy with ⟨h3,h4⟩ | ⟨h3,rfl⟩
    ·exact h.own.apart i j x y h2 h4 hij k e1 e2
    ·exact hap x (mG h2) k e1 e2
   ·rcases Qf6 hy with ⟨h3,h4⟩ | ⟨h3,rfl⟩
    ·exact hap y (mG h4) k e2 e1
    ·omega
 obtain⟨s1,s2,s3⟩:=Fs.set (QaB h.own.pools hk h.a (by decide)) (QaB h.own.pools hk h.z (by decide)) (QaB h.own.pools hk h.x (by decide)) ho' (hb w h.bel (Va _)) 1 (.slice (some ⟨g,0,none⟩) (S.pn+1) d) ⟨_,rfl⟩ rfl;exact⟨_,d,w7,hr,s1,s2,s3⟩
theorem Fs.price {w W:World} {A:Array Value} {S:Sta} (h:Fs w W A S) (q:Lin) (hn:S.rn≤4194304) :
  ∃p d w7,(Builtin.append_ #[38,38] 38 #[.slice S.rp S.rn S.rc,.slice (some ⟨W.heap.size,0,none⟩) 1 1]).run Tryz.prog (W.alloc (.cells #[.int .i64 q.c,.int .i64 q.n] 123))=.ok (.slice p (S.rn+1) d) w7 ∧
   (∃u,w7.cell? ⟨w.heap.size+1+1,2,none⟩=some u)∧w7.frozen? ⟨w.heap.size+1+1,2,none⟩=false∧(∀(k:Nat) (C:Array Value) (t':TypeId),W.heap[k]?=some (.cells C t' (0,0))→t'≠123→w7.heap[k]?=some (.cells C t' (0,0)))∧Below w.heap.size w w7∧Fs w (w7.setCell ⟨w.heap.size+1+1,2,none⟩ (.slice p (S.rn+1) d)) A { S with rp:=p,rn:=S.rn+1,rc:=d,prices:=S.prices++[q] }:=by
 obtain⟨g,d,w7,hr,ho,hat,hk,hb,hsz⟩:=app1 Qdn W w.heap.size S.rn S.rp S.rc S.prices q #[.int .i64 q.c,.int .i64 q.n] rfl h.own.prices hn h.bel.size 38;have R:∀{B' sz' n':Nat} {t':TypeId} {v':Value} {ys':List Value},W.ownsRow B' t' sz' v' n' ys'→123≠t'→w7.ownsRow B' t' sz' v' n' ys':=fun h' hne=>Qcr h.own.prices hk h' hne
 have ho':Qac w.heap.size w7 { S with rp:=some ⟨g,0,none⟩,rn:=S.rn+1,rc:=d,prices:=S.prices++[q] } :=
  ⟨h.own.pn,R h.own.pools (by decide),h.own.hlen,fun x hx=>R (h.own.held x hx) (by decide),h.own.apart,by simp[h.own.rn],ho,h.own.ln,R h.own.last (by decide),h.own.gn,R h.own.gen (by decide),h.own.on,R h.own.owed (by decide),h.own.lg⟩
 obtain⟨s1,s2,s3⟩:=Fs.set (QaB h.own.prices hk h.a (by decide)) (QaB h.own.prices hk h.z (by decide)) (QaB h.own.prices hk h.x (by decide)) ho' (hb w h.bel (Va _)) 2 (.slice (some ⟨g,0,none⟩) (S.rn+1) d) ⟨_,rfl⟩ rfl;exact⟨_,d,w7,hr,s1,s2,fun k C t' hc ht=>QaB h.own.prices hk hc ht,hb w h.bel (Va _),s3⟩
theorem Fs.last {w W:World} {A:Array Value} {S:Sta} (h:Fs w W A S) (hn:S.ln≤4194304) :
  ∃p d w7,(Builtin.append_ #[39,39] 39 #[.slice S.lp S.ln S.lc,.slice (some ⟨W.heap.size,0,none⟩) 1 1]).run Tryz.prog (W.alloc (.cells #[.int .u64 0] 36))=.ok (.slice p (S.ln+1) d) w7 ∧
   (∃u,w7.cell? ⟨w.heap.size+1+1,3,none⟩=some u)∧w7.frozen? ⟨w.heap.size+1+1,3,none⟩=false∧Fs w (w7.setCell ⟨w.heap.size+1+1,3,none⟩ (.slice p (S.ln+1) d)) A { S with lp:=p,ln:=S.ln+1,lc:=d,last:=S.last++[0] }:=by
 obtain⟨g,d,w7,hr,ho,hat,hk,hb,hsz⟩:=app1 QeC W w.heap.size S.ln S.lp S.lc S.last 0 #[.int .u64 0] rfl h.own.last hn h.bel.size 39;have R:∀{B' sz' n':Nat} {t':TypeId} {v':Value} {ys':List Value},W.ownsRow B' t' sz' v' n' ys'→36≠t'→w7.ownsRow B' t' sz' v' n' ys':=fun h' hne=>Qcr h.own.last hk h' hne
 have hgen:w7.ownsRow w.heap.size 36 1 (.slice S.gp S.gn S.gc) S.gn (Z.flat uc S.gen):=Qas h.own.gen (fun k e=>hk k (Qds h.own.gen e) (fun e2=>h.own.lg k e2 e))
 have ho':Qac w.heap.size w7 { S with lp:=some ⟨g,0,none⟩,ln:=S.ln+1,lc:=d,last:=S.last++[0] } :=
  ⟨h.own.pn,R h.own.pools (by decide),h.own.hlen,fun x hx=>R (h.own.held x hx) (by decide),h.own.apart,h.own.rn,R h.own.prices (by decide),by simp[h.own.ln],ho,h.own.gn,hgen,h.own.on,R h.own.owed (by decide),fun k e1 e2=>by
   have e3:g=k:=by simpa[Value.ownBlock] using e1
   subst e3;rcases hat with e4 | e4
   ·exact h.own.lg _ e4 e2
   ·have:=Qds h.own.gen e2;omega⟩
 obtain⟨s1,s2,s3⟩:=Fs.set (QaB h.own.last hk h.a (by decide)) (QaB h.own.last hk h.z (by decide)) (QaB h.own.last hk h.x (by decide)) ho' (hb w h.bel (Va _)) 3 (.slice (some ⟨g,0,none⟩) (S.ln+1) d) ⟨_,rfl⟩ rfl;exact⟨_,d,w7,hr,s1,s2,s3⟩
theorem Fs.gen {w W:World} {A:Array Value} {S:Sta} (h:Fs w W A S) (hn:S.gn≤4194304) :
  ∃p d w7,(Builtin.append_ #[39,39] 39 #[.slice S.gp S.gn S.gc,.slice (some ⟨W.heap.size,0,none⟩) 1 1]).run Tryz.prog (W.alloc (.cells #[.int .u64 0] 36))=.ok (.slice p (S.gn+1) d) w7 ∧
   (∃u,w7.cell? ⟨w.heap.size+1+1,4,none⟩=some u)∧w7.frozen? ⟨w.heap.size+1+1,4,none⟩=false∧Fs w (w7.setCell ⟨w.heap.size+1+1,4,none⟩ (.slice p (S.gn+1) d)) A { S with gp:=p,gn:=S.gn+1,gc:=d,gen:=S.gen++[0] }:=by
 obtain⟨g,d,w7,hr,ho,hat,hk,hb,hsz⟩:=app1 QeC W w.heap.size S.gn S.gp S.gc S.gen 0 #[.int .u64 0] rfl h.own.gen hn h.bel.size 39;have R:∀{B' sz' n':Nat} {t':TypeId} {v':Value} {ys':List Value},W.ownsRow B' t' sz' v' n' ys'→36≠t'→w7.ownsRow B' t' sz' v' n' ys':=fun h' hne=>Qcr h.own.gen hk h' hne
 have hlast:w7.ownsRow w.heap.size 36 1 (.slice S.lp S.ln S.lc) S.ln (Z.flat uc S.last):=Qas h.own.last (fun k e=>hk k (Qds h.own.last e) (fun e2=>h.own.lg k e e2))
 have ho':Qac w.heap.size w7 { S with gp:=some ⟨g,0,none⟩,gn:=S.gn+1,gc:=d,gen:=S.gen++[0] } :=
  ⟨h.own.pn,R h.own.pools (by decide),h.own.hlen,fun x hx=>R (h.own.held x hx) (by decide),h.own.apart,h.own.rn,R h.own.prices (by decide),h.own.ln,hlast,by simp[h.own.gn],ho,h.own.on,R h.own.owed (by decide),fun k e1 e2=>by
   have e3:g=k:=by simpa[Value.ownBlock] using e2
   subst e3;rcases hat with e4 | e4
   ·exact h.own.lg _ e1 e4
   ·have:=Qds h.own.last e1;omega⟩
 obtain⟨s1,s2,s3⟩:=Fs.set (QaB h.own.gen hk h.a (by decide)) (QaB h.own.gen hk h.z (by decide)) (QaB h.own.gen hk h.x (by decide)) ho' (hb w h.bel (Va _)) 4 (.slice (some ⟨g,0,none⟩) (S.gn+1) d) ⟨_,rfl⟩ rfl;exact⟨_,d,w7,hr,s1,s2,s3⟩
theorem Fs.owed {w W:World} {A:Array Value} {S:Sta} (h:Fs w W A S) (hn:S.on≤4194304) :
  ∃p d w7,(Builtin.append_ #[40,40] 40 #[.slice S.op S.on S.oc,.slice (some ⟨W.heap.size,0,none⟩) 1 1]).run Tryz.prog (W.alloc (.cells #[.bool false] 4))=.ok (.slice p (S.on+1) d) w7 ∧
   (∃u,w7.cell? ⟨w.heap.size+1+1,5,none⟩=some u)∧w7.frozen? ⟨w.heap.size+1+1,5,none⟩=false∧Fs w (w7.setCell ⟨w.heap.size+1+1,5,none⟩ (.slice p (S.on+1) d)) A { S with op:=p,on:=S.on+1,oc:=d,owed:=S.owed++[false] }:=by
 obtain⟨g,d,w7,hr,ho,hat,hk,hb,hsz⟩:=app1 QgK W w.heap.size S.on S.op S.oc S.owed false #[.bool false] rfl h.own.owed hn h.bel.size 40;have R:∀{B' sz' n':Nat} {t':TypeId} {v':Value} {ys':List Value},W.ownsRow B' t' sz' v' n' ys'→4≠t'→w7.ownsRow B' t' sz' v' n' ys':=fun h' hne=>Qcr h.own.owed hk h' hne
 have ho':Qac w.heap.size w7 { S with op:=some ⟨g,0,none⟩,on:=S.on+1,oc:=d,owed:=S.owed++[false] } :=
  ⟨h.own.pn,R h.own.pools (by decide),h.own.hlen,fun x hx=>R (h.own.held x hx) (by decide),h.own.apart,h.own.rn,R h.own.prices (by decide),h.own.ln,R h.own.last (by decide),h.own.gn,R h.own.gen (by decide),by simp[h.own.on],ho,h.own.lg⟩
 obtain⟨s1,s2,s3⟩:=Fs.set (QaB h.own.owed hk h.a (by decide)) (QaB h.own.owed hk h.z (by decide)) (QaB h.own.owed hk h.x (by decide)) ho' (hb w h.bel (Va _)) 5 (.slice (some ⟨g,0,none⟩) (S.on+1) d) ⟨_,rfl⟩ rfl;exact⟨_,d,w7,hr,s1,s2,s3⟩
structure Inn (W W':World) (v f0 f1:Int) (t:Nat) (hp:Option Addr) (hc:Nat):Prop where
 box:W'.heap[W.heap.size+1]?=some (.cells #[.int .i64 v,.int .i64 f0,.int .i64 f1,.slice hp t hc] 121 (0,0))
 row:W'.ownsRow (W.heap.size+1+1) 118 2 (.slice hp t hc) t (Z.flat Qal (List.replicate t (⟨0,0⟩:Lin)))
 bel:Below W.heap.size W W'
theorem Inn.more {W W':World} {v f0 f1:Int} {t:Nat} {hp:Option Addr} {hc:Nat} (h:Inn W W' v f0 f1 t hp hc) (hn:t≤4194304) :
  ∃p d w7,(Builtin.append_ #[119,119] 119 #[.slice hp t hc,.slice (some ⟨W'.heap.size,0,none⟩) 1 1]).run Tryz.prog (W'.alloc (.cells #[.int .i64 0,.int .i64 0] 118))=.ok (.slice p (t+1) d) w7 ∧
   (∃u,w7.cell? ⟨W.heap.size+1,3,none⟩=some u)∧w7.frozen? ⟨W.heap.size+1,3,none⟩=false∧Inn W (w7.setCell ⟨W.heap.size+1,3,none⟩ (.slice p (t+1) d)) v f0 f1 (t+1) p d:=by
 have hlt:=Qab h.box;obtain⟨g,d,w7,hr,ho,hat,hk,hb,hsz⟩:=app1 QiD W' (W.heap.size+1+1) t hp hc (List.replicate t (⟨0,0⟩:Lin)) ⟨0,0⟩ #[.int .i64 0,.int .i64 0] rfl h.row hn (by omega) 119;have hbx:=QaB h.row hk h.box (by decide);refine⟨_,d,w7,hr,⟨_,by rw[cRq hbx];rfl⟩,VN _ _ _ _ _ hbx,Vx _ _ _ _ _ _ hbx,?_,(hb W h.bel (by omega)).setCell (p:=⟨W.heap.size+1,3,none⟩) (by show W.heap.size≤W.heap.size+1;omega) _⟩;rw[List.replicate_succ'];exact Z.owns_set ho hbx (by decide)
end Go.Proofs.YtiogibfhafoapaaGreat
namespace Go.Proofs.YtiogibfhafoapaaGreat
open Go.RowKit
open Z (Sli QaE Elt Ctr ctc QeZ Qh4 QjU)
def Qgc (T:Nat) (x:Ctr):PlP:=⟨x.st,x.st - x.lo,x.hi - x.st,List.replicate T ⟨0,0⟩⟩
def Qkz (q:ByteArray × Int):Lin:=⟨q.2,0⟩
def QfB (T k m j:Nat) (cs:List Ctr) (ps:List (ByteArray × Int)):StP:=⟨0,(cs.take k).map (Qgc T),(ps.take m).map Qkz,List.replicate j 0,List.replicate j 0,List.replicate j false⟩
theorem QcP (w:World) (A S R:Array Value):∃w2,((w.alloc (.cells A 34)).alloc (.cells S 42)).alloc (.cells R 42)=w2∧Below w.heap.size w w2∧w2.heap[w.heap.size]?=some (.cells A 34 (0,0))∧w2.heap[w.heap.size+1]?=some (.cells S 42 (0,0))∧w2.heap[w.heap.size+1+1]?=some (.cells R 42 (0,0))∧w2.heap.size=w.heap.size+1+1+1:=by
 refine⟨_,rfl,(((Below.refl _ w).alloc (Va _) _).alloc (by simp) _).alloc (by simp;omega) _,?_,?_,?_,by simp⟩
 ·rw[Vc _ _ _ (by simp only[Vm];omega),Vc _ _ _ (by simp)];exact hNq _ _
 ·rw[Vc _ _ _ (by simp only[Vm];omega)];exact VV _ _ _
 ·have h:=hNq ((w.alloc (.cells A 34)).alloc (.cells S 42)) (.cells R 42)
  simp only[Vm]at h;exact h
theorem QgW {α β:Type} {l:List α} {f:α→β} {k:Nat} {x:α} (h:l[k]?=some x):(l.take (k+1)).map f=(l.take k).map f++[f x]:=by rw[take_snoc h,List.map_append];rfl
theorem QhZ (w:World) (c:Cfg) (cs:List Ctr) (ps:List (ByteArray × Int)) (hcl:c.cl≤64) (hpl:c.pl≤64) (T:Nat) (htl:c.tills=(T:Int)) (hT:T≤1000000) (hc1:cs.length=c.cl) (hc2:Cel w c.cp 4 (cs.map ctc)) (hcb:∀x∈cs,Qh4 x) (hp1:ps.length=c.pl) (hp2:Cel w c.pp 2 (ps.map QeZ)) :
  Calls Tryz.prog 11 #[.agg (qC c)] w fun e w'=>∃S:Sta,e=.returned (.agg S.arr)∧S.d=QfB T c.cl c.pl T cs ps∧Qac w.heap.size w' S∧Below w.heap.size w w':=by
 obtain⟨A,hA⟩:=exq (qC c);obtain⟨w3,hw3,hb3,ha3,hz3,hx3,hsz3⟩:=QcP w A qs qs;have HW3:=Qaa hw3
 have HAc:Hid (∀W S,Fs w W A S→W.cell? ⟨w.heap.size,0,none⟩=some (.int .i64 T)∧W.cell? ⟨w.heap.size,1,none⟩=some (.slice c.cp c.cl c.cc)∧W.cell? ⟨w.heap.size,2,none⟩=some (.slice c.pp c.pl c.pc)):=fun W S h=>by
  refine⟨?_,?_,?_⟩
  ·rw[cRq h.a,←hA,←htl];rfl
  ·rw[cRq h.a,←hA];rfl
  ·rw[cRq h.a,←hA];rfl
 have HI:Hid (∃S:Sta,Fs w w3 A S∧S.d=QfB T 0 0 0 cs ps∧S.pn=0):=⟨QbU,⟨ha3,hz3,hx3,Qcw _ _,hb3⟩,rfl,rfl⟩;obtain⟨HC2,HP2,HC1,HP1,HCb⟩:=Qml hc2 hp2 hc1 hp1 hcb;rw[hA];clear hA hw3 hb3 ha3 hz3 hx3 hsz3 hc1 hc2 hp1 hp2 htl hcb;go_enter Tryz.func11,Tryz.ntmps11;go_upto_region 2 with (fail);rw[HW3.out];go_wp2;go_loopw [4] (fun i wr=>∃k:Nat,k≤c.cl∧i=.int .i64 k∧Hid (∃S:Sta,Fs w wr A S∧S.d=QfB T k 0 0 cs ps∧S.pn=k)) (fun i _=>c.cl - (intOf i).toNat);case atStart=>exact⟨0,Vo _,rfl,HI⟩
 case round =>
  clear HI;obtain⟨k,hk,rfl,HI⟩:=hrel;obtain⟨S,F,hd,hpn⟩:=HI.out;obtain⟨a0,a1,a2⟩:=HAc.out wr S F;by_cases hlt:k<c.cl
  ·have hlt':(k:Int)<(c.cl:Int):=by omega
   have k0':(0:Int)≤(k:Int):=by omega
   obtain⟨x,hx⟩:∃x,cs[k]?=some x:=⟨_,gE (by rw[HC1.out];exact hlt)⟩;obtain⟨b,o,eb,hbl,hc⟩:=(HC2.out.below F.bel).get (i:=k) (r:=ctc x) (by rw[Vb,hx];rfl);have x0:=hc 0 _ rfl;have x1:=hc 1 _ rfl;have x2:=hc 2 _ rfl;have x3:=hc 3 _ rfl;rw[Vr]at x0;rw[eb]at a1;obtain⟨xn,lo,hi,st⟩:=x;obtain⟨m1,m2,m3,m4⟩:=HCb.out _ (mG hx);dsimp only at x0 x1 x2 x3 m1 m2 m3 m4;obtain⟨HX,HF,HD,HPn⟩:=hd4 hx F hd hpn;have v1:wrap64 (st - lo)=st - lo:=Z.w64_id (by omega);have v2:wrap64 (hi - st)=hi - st:=Z.w64_id (by omega);clear hc hx F hd hpn HI eb;go_upto_region 10 with (fail);obtain⟨w5,hw5⟩:=exq ((wr.alloc (.cells #[.string xn,.int .i64 lo,.int .i64 hi,.int .i64 st] 115)).alloc (.cells #[.int .i64 st,.int .i64 (st - lo),.int .i64 (hi - st),.slice none 0 0] 121))
   have HI5:Hid (∃hp hc,Inn wr w5 st (st - lo) (hi - st) 0 hp hc):=by
    refine⟨none,0,?_,VQ _ _ _ _,?_⟩
    ·rw[←hw5];exact VV _ _ _
    ·rw[←hw5];exact((Below.refl _ wr).alloc (Va _) _).alloc (by simp) _
   rw[hw5];clear hw5 a0 a1 a2 x0 x1 x2 x3;go_wp2;go_loopw [7] (fun i wq=>∃t:Nat,t≤T∧i=.int .i64 t∧Hid (∃hp hc,Inn wr wq st (st - lo) (hi - st) t hp hc)) (fun i _=>T - (intOf i).toNat);case atStart=>exact⟨0,Vo _,rfl,HI5⟩
   case round =>
    clear HI5;obtain⟨t,htT,rfl,HIn⟩:=hrel;obtain⟨hp,hc,hI⟩:=HIn.out;obtain⟨a0,a1,a2⟩:=HAc.out _ S (HF.out.below hI.bel);obtain⟨b0,b1,b2,b3⟩:=ac4 hI.box;by_cases htl:t<T
    ·have htl':(t:Int)<(T:Int):=by omega
     obtain⟨p,d,w7,hr,⟨u,hu⟩,hf,hI2⟩:=hI.more (by omega);obtain⟨HR,HI2⟩:=Qmj hr hI2;clear hr hI2 hI HIn;go_wp2_with (at_builtin;refine Z.lp_append (.slice hp t hc) (.slice (some ⟨wr.heap.size,0,none⟩) 1 1) rfl rfl ⟨_,w7,HR.out,?_⟩)
     go_roundw;case rel=>exact⟨t+1,by omega,by go_num,⟨_,_,HI2.out⟩⟩
     case measure=>simp[intOf];omega
    ·have htl':¬(t:Int)<(T:Int):=by omega
     obtain rfl:t=T:=by omega
     have hF:=HF.out.below hI.bel;obtain⟨-,s1,-,-,-,-⟩:=ac6 (show wr.heap[w.heap.size+1+1]?=some (.cells (qS S) 42 (0,0)) from hF.x)
     obtain⟨p,d,w7,hr,⟨u,hu⟩,hf,hF2⟩:=hF.pool ⟨st,st - lo,hi - st,hp,t,hc,List.replicate t ⟨0,0⟩⟩ (Z.owns_le hI.row (by have:=HF.out.bel.size;omega)) (by simp) (fun x hx g e1 e2=>by
      have q1:=RB.owns_lt (HF.out.own.held x hx) g e1;have q2:=Z.owns_base hI.row g e2;omega) (by have:=HPn.out;omega)
     have hd2:({ S with pp:=p,pn:=S.pn+1,pc:=d,pools:=S.pools++[⟨st,st - lo,hi - st,hp,t,hc,List.replicate t ⟨0,0⟩⟩] } : Sta).d=QfB t (k+1) 0 0 cs ps:=by
      have h:=HD.out;unfold QfB Sta.d at h ⊢;simp only[StP.mk.injEq]at h ⊢;exact⟨h.1,by rw[List.map_append,h.2.1,QgW HX.out];rfl,h.2.2.1,h.2.2.2.1,h.2.2.2.2.1,h.2.2.2.2.2⟩
     obtain⟨HR,HF2,HD2⟩:=Qmk hr hF2 hd2;clear hr hF2 hd2 hF hI HIn a1 a2;go_wp2_with (at_builtin;refine Z.lp_append (.slice S.pp S.pn S.pc) (.slice (some ⟨wr.heap.size,0,none⟩) 1 1) rfl rfl ⟨_,w7,HR.out,?_⟩)
     go_roundw;case rel=>exact⟨k+1,by omega,by go_num,⟨_,HF2.out,HD2.out,by show S.pn+1=k+1;rw[HPn.out]⟩⟩
     case measure=>simp[intOf];omega
  ·have hlt':¬(k:Int)<(c.cl:Int):=by omega
   obtain rfl:k=c.cl:=by omega
   have HI2:Hid (∃S:Sta,Fs w wr A S∧S.d=QfB T c.cl 0 0 cs ps):=⟨S,F,hd⟩;clear F hd hpn HI a0 a2;go_wp2;go_loopw [8] (fun i wr=>∃k:Nat,k≤c.pl∧i=.int .i64 k∧Hid (∃S:Sta,Fs w wr A S∧S.d=QfB T c.cl k 0 cs ps)) (fun i _=>c.pl - (intOf i).toNat);case atStart=>exact⟨0,Vo _,rfl,HI2⟩
   case round =>
    clear HI2 a1;obtain⟨k,hk,rfl,HI⟩:=hrel;obtain⟨S,F,hd⟩:=HI.out;obtain⟨a0,a1,a2⟩:=HAc.out wr S F;by_cases hlt:k<c.pl
    ·have hlt2:(k:Int)<(c.pl:Int):=by omega
     have k0':(0:Int)≤(k:Int):=by omega
     obtain⟨x,hx⟩:∃x,ps[k]?=some x:=⟨_,gE (by rw[HP1.out];exact hlt)⟩;obtain⟨b,o,eb,hbl,hc⟩:=(HP2.out.below F.bel).get (i:=k) (r:=QeZ x) (by rw[Vb,hx];rfl);have x1:=hc 1 _ rfl;rw[eb]at a2
     have hrn:S.rn=k:=by
      rw[←F.own.rn];have h:=Vl StP.prices hd;have h2:S.prices=(ps.take k).map Qkz:=h;rw[h2,VG,List.length_take,HP1.out];omega
     obtain⟨xn,st⟩:=x;dsimp only at x1;have F0:Fs w wr.drew A S:=F.below (bR.drew);obtain⟨p,d,w7,hr,⟨u,hu⟩,hf,hK,hB7,hF2⟩:=F0.price ⟨st,0⟩ (by omega);obtain⟨-,-,s2,-,-,-⟩:=ac6 (show wr.drew.heap[w.heap.size+1+1]?=some (.cells (qS S) 42 (0,0)) from F0.x);have hA:Below wr.drew.heap.size wr.drew (wr.drew.alloc (.cells #[.int .i64 st,.int .i64 0] 123)):=bR.alloc (Va _) _;obtain⟨-,-,s2',-,-,-⟩:=ac6 (show (wr.drew.alloc (.cells #[.int .i64 st,.int .i64 0] 123)).heap[w.heap.size+1+1]?=some (.cells (qS S) 42 (0,0)) from (F0.below hA).x);have s2'':(wr.alloc (.cells #[.int .i64 st,.int .i64 0] 123)).cell? ⟨w.heap.size+1+1,2,none⟩=some (.slice S.rp S.rn S.rc):=s2'
     have hd2:({ S with rp:=p,rn:=S.rn+1,rc:=d,prices:=S.prices++[⟨st,0⟩] } : Sta).d=QfB T c.cl (k+1) 0 cs ps:=by
      have h:=hd;unfold QfB Sta.d at h ⊢;simp only[StP.mk.injEq]at h ⊢;exact⟨h.1,h.2.1,by rw[h.2.2.1,QgW hx];rfl,h.2.2.2.1,h.2.2.2.2.1,h.2.2.2.2.2⟩
     have HSd:Hid (∀W,Below w.heap.size w W→W.heap[w.heap.size]?=wr.heap[w.heap.size]?→(W.cell? ⟨w.heap.size,2,none⟩=some (.slice (some ⟨b,o,none⟩) c.pl c.pc)∧W.cell? ⟨b,o+k*2+1,none⟩=some (.int .i64 st))):=fun W hb hh=>by
      have hbl0:b<w.heap.size:=by
       obtain⟨b',o',eb',hbl',_⟩:=HP2.out.get (i:=k) (r:=QeZ (xn,st)) (by rw[Vb,hx];rfl);rw[eb]at eb';cases eb';exact hbl'
      obtain⟨b',o',eb',hbl',hc'⟩:=(HP2.out.below hb).get (i:=k) (r:=QeZ (xn,st)) (by rw[Vb,hx];rfl);rw[eb]at eb';cases eb';exact⟨by rw[VC (w:=wr) hh];exact a2,hc' 1 _ rfl⟩
     have HS0:=HSd.out wr.drew F0.bel rfl;have HSa:Hid ((wr.drew.alloc (.cells #[.int .i64 st,.int .i64 0] 123)).cell? ⟨w.heap.size,2,none⟩=some (.slice (some ⟨b,o,none⟩) c.pl c.pc)∧(wr.drew.alloc (.cells #[.int .i64 st,.int .i64 0] 123)).cell? ⟨b,o+k*2+1,none⟩=some (.int .i64 st)):=HSd.out _ (F0.below hA).bel (hA.block _ (Qab F.a));have HS7:Hid (w7.cell? ⟨w.heap.size,2,none⟩=some (.slice (some ⟨b,o,none⟩) c.pl c.pc)∧w7.cell? ⟨b,o+k*2+1,none⟩=some (.int .i64 st)):=HSd.out _ hB7 ((hK _ _ _ F0.a (by decide)).trans F.a.symm);have HS8:Hid ((w7.setCell ⟨w.heap.size+1+1,2,none⟩ (.slice p (S.rn+1) d)).cell? ⟨w.heap.size,2,none⟩=some (.slice (some ⟨b,o,none⟩) c.pl c.pc)∧(w7.setCell ⟨w.heap.size+1+1,2,none⟩ (.slice p (S.rn+1) d)).cell? ⟨b,o+k*2+1,none⟩=some (.int .i64 st)):=HSd.out _ hF2.bel (hF2.a.trans F.a.symm);obtain⟨HR,HF2,HD2⟩:=Qmk hr hF2 hd2;have HInf:Hid (∃i z,Tryz.prog.info? 123=some i∧i.zero=some z∧i.size=2):=by obtain⟨i,z,q1,q2,q3,_,_⟩:=Qdn.info;exact⟨i,z,q1,q2,q3⟩
     clear hr hF2 hd2 hd HI hx hc eb hrn hbl x1 hK hB7 hA F0 F a0 a1;go_upto_region 18 with (fail);refine Vi ?_;refine Vf (S:=fun W=>W.cell? ⟨w.heap.size,2,none⟩=some (.slice (some ⟨b,o,none⟩) c.pl c.pc)∧W.cell? ⟨b,o+k*2+1,none⟩=some (.int .i64 st)) (by kernel_rfl) HS0 (fun hHeld=>?_);refine tkg 0 (hy:=by(intro w hSw;obtain⟨q1,q2⟩:=hSw;go_simp;try with_reducible rfl)) ?_;refine tkg 2 (hy:=by(intro w hSw;obtain⟨q1,q2⟩:=hSw;go_simp;try with_reducible rfl)) ?_;refine tkg 3 (hy:=by(intro w hSw;obtain⟨q1,q2⟩:=hSw;go_simp;try with_reducible rfl)) ?_;refine tkg 4 (hy:=by(intro w hSw;obtain⟨q1,q2⟩:=hSw;go_simp;try with_reducible rfl)) ?_;refine tkg 5 (hy:=by(intro w hSw;obtain⟨q1,q2⟩:=hSw;go_simp;try with_reducible rfl)) ?_;refine tkg 6 (hy:=by(intro w hSw;obtain⟨q1,q2⟩:=hSw;go_simp;try with_reducible rfl)) ?_;refine tkg 7 (hy:=by(intro w hSw;obtain⟨q1,q2⟩:=hSw;go_simp;try with_reducible rfl)) ?_;refine tkg 8 (hy:=by(intro w hSw;obtain⟨q1,q2⟩:=hSw;go_simp;try with_reducible rfl)) ?_;refine VW (rs:=[1,9]) (by kernel_rfl) (by simp) ?_;refine AllReadyH.cons (o:=_) rfl (fun KK hKK=>?_) (AllReadyH.cons (o:=_) rfl (fun KK hKK=>?_) AllReadyH.nil)
     ·go_simp
      refine hKK.out _ _ (by(try dsimp only);exact HS0) (fun hHeld=>?_);clear hKK KK;try simp only[Act.put,qzg,qzh,qzi,qzs,qz0,qz1]
      refine rdy 9 (fun KK hKK=>?_);refine Qao (by kernel_rfl) ?_;refine Z.wp_build_one 38 123 (.tmp 72) rfl #[.int .i64 st,.int .i64 0] rfl 2 (by omega) (by omega) Tryz.underlying38 HInf.out rfl ?_;refine hKK.out _ _ (by(try dsimp only);exact HSa.out) (fun hHeld=>?_);clear hKK KK;try simp only[Act.put,qzg,qzh,qzi,qzs,qz0,qz1]
      refine rdy 10 (fun KK hKK=>?_);refine Qao (by kernel_rfl) ?_;refine QaO (.tmp 65) (.tmp 73) 38 38 rfl (.slice S.rp S.rn S.rc) (.slice (some ⟨wr.heap.size,0,none⟩) 1 1) (.slice p (S.rn+1) d) w7 rfl rfl HR.out ?_;refine hKK.out _ _ (by(try dsimp only);exact HS7.out) (fun hHeld=>?_);clear hKK KK;try simp only[Act.put,qzg,qzh,qzi,qzs,qz0,qz1]
      refine tkg 11 (hy:=by(intro w hSw;obtain⟨q1,q2⟩:=hSw;go_simp;try with_reducible rfl)) ?_;refine rdy 12 (fun KK hKK=>?_);go_simp;refine hKK.out _ _ (by(try dsimp only);exact HS8.out) (fun hHeld=>?_);clear hKK KK;try simp only[Act.put,qzg,qzh,qzi,qzs,qz0,qz1]
      refine Vp (by kernel_rfl) (Vj ?_) _;go_wp2;go_roundw;case rel=>exact⟨k+1,by omega,by go_num,⟨_,HF2.out,HD2.out⟩⟩
      case measure=>simp[intOf];omega
     ·refine Qao (by kernel_rfl) ?_
      refine Z.wp_build_one 38 123 (.tmp 72) rfl #[.int .i64 st,.int .i64 0] rfl 2 (by omega) (by omega) Tryz.underlying38 HInf.out rfl ?_;refine hKK.out _ _ (by(try dsimp only);exact HSa.out) (fun hHeld=>?_);clear hKK KK;try simp only[Act.put,qzg,qzh,qzi,qzs,qz0,qz1]
      refine rdy 1 (fun KK hKK=>?_);go_simp;refine hKK.out _ _ (by(try dsimp only);exact HSa.out) (fun hHeld=>?_);clear hKK KK;try simp only[Act.put,qzg,qzh,qzi,qzs,qz0,qz1]
      refine rdy 10 (fun KK hKK=>?_);refine Qao (by kernel_rfl) ?_;refine QaO (.tmp 65) (.tmp 73) 38 38 rfl (.slice S.rp S.rn S.rc) (.slice (some ⟨wr.heap.size,0,none⟩) 1 1) (.slice p (S.rn+1) d) w7 rfl rfl HR.out ?_;refine hKK.out _ _ (by(try dsimp only);exact HS7.out) (fun hHeld=>?_);clear hKK KK;try simp only[Act.put,qzg,qzh,qzi,qzs,qz0,qz1]
      refine tkg 11 (hy:=by(intro w hSw;obtain⟨q1,q2⟩:=hSw;go_simp;try with_reducible rfl)) ?_;refine rdy 12 (fun KK hKK=>?_);go_simp;refine hKK.out _ _ (by(try dsimp only);exact HS8.out) (fun hHeld=>?_);clear hKK KK;try simp only[Act.put,qzg,qzh,qzi,qzs,qz0,qz1]
      refine Vp (by kernel_rfl) (Vj ?_) _;go_wp2;go_roundw;case rel=>exact⟨k+1,by omega,by go_num,⟨_,HF2.out,HD2.out⟩⟩
      case measure=>simp[intOf];omega
    ·have hlt2:¬(k:Int)<(c.pl:Int):=by omega
     obtain rfl:k=c.pl:=by omega
     have HI3:Hid (∃S:Sta,Fs w wr A S∧S.d=QfB T c.cl c.pl 0 cs ps):=⟨S,F,hd⟩;clear F hd HI a0 a1;go_wp2;go_loopw [9] (fun i wr=>∃k:Nat,k≤T∧i=.int .i64 k∧Hid (∃S:Sta,Fs w wr A S∧S.d=QfB T c.cl c.pl k cs ps)) (fun i _=>T - (intOf i).toNat);case atStart=>exact⟨0,Vo _,rfl,HI3⟩
     case round =>
      clear HI3 a2;obtain⟨k,hk,rfl,HI⟩:=hrel;obtain⟨S,F,hd⟩:=HI.out;obtain⟨a0,a1,a2⟩:=HAc.out wr S F;by_cases hlt:k<T
      ·have hlt3:(k:Int)<(T:Int):=by omega
       have hln:S.ln=k:=by
        rw[←F.own.ln];have h:S.last=List.replicate k 0:=Vl StP.last hd;rw[h,List.length_replicate]
       have hgn:S.gn=k:=by
        rw[←F.own.gn];have h:S.gen=List.replicate k 0:=Vl StP.gen hd;rw[h,List.length_replicate]
       have hon:S.on=k:=by
        rw[←F.own.on];have h:S.owed=List.replicate k false:=Vl StP.owed hd;rw[h,List.length_replicate]
       obtain⟨p1,d1,v1,hr1,⟨u1,hu1⟩,hf1,hF1⟩:=F.last (by omega);obtain⟨W1,hW1⟩:=exq (v1.setCell ⟨w.heap.size+1+1,3,none⟩ (.slice p1 (S.ln+1) d1));rw[hW1]at hF1;obtain⟨p2,d2,v2,hr2,⟨u2,hu2⟩,hf2,hF2⟩:=hF1.gen (show S.gn≤4194304 by omega);obtain⟨W2,hW2⟩:=exq (v2.setCell ⟨w.heap.size+1+1,4,none⟩ (.slice p2 (S.gn+1) d2));simp only at hr2 hF2;rw[hW2]at hF2;obtain⟨p3,d3,v3,hr3,⟨u3,hu3⟩,hf3,hF3⟩:=hF2.owed (show S.on≤4194304 by omega);simp only at hr3 hF3;obtain⟨-,-,-,s3,-,-⟩:=ac6 (show wr.heap[w.heap.size+1+1]?=some (.cells (qS S) 42 (0,0)) from F.x);obtain⟨-,-,-,-,s4,-⟩:=ac6 (show W1.heap[w.heap.size+1+1]?=some (.cells #[.int .u64 S.pos,.slice S.pp S.pn S.pc,.slice S.rp S.rn S.rc,.slice p1 (S.ln+1) d1,.slice S.gp S.gn S.gc,.slice S.op S.on S.oc] 42 (0,0)) from hF1.x);obtain⟨-,-,-,-,-,s5⟩:=ac6 (show W2.heap[w.heap.size+1+1]?=some (.cells #[.int .u64 S.pos,.slice S.pp S.pn S.pc,.slice S.rp S.rn S.rc,.slice p1 (S.ln+1) d1,.slice p2 (S.gn+1) d2,.slice S.op S.on S.oc] 42 (0,0)) from hF2.x)
       have HD3:Hid (QfB T c.cl c.pl (k+1) cs ps=({ S with lp:=p1,ln:=S.ln+1,lc:=d1,last:=S.last++[0],gp:=p2,gn:=S.gn+1,gc:=d2,gen:=S.gen++[0],op:=p3,on:=S.on+1,oc:=d3,owed:=S.owed++[false] } : Sta).d):=by
        show _=_;have h:=hd;unfold QfB Sta.d at h ⊢;simp only[StP.mk.injEq]at h ⊢;obtain⟨h1,h2,h3,h4,h5,h6⟩:=h;refine⟨h1.symm,h2.symm,h3.symm,?_,?_,?_⟩
        ·rw[h4,List.replicate_succ']
        ·rw[h5,List.replicate_succ']
        ·rw[h6,List.replicate_succ']
       obtain⟨HR1,HR2,HR3,HW1,HW2',HF3⟩:=hd6 hr1 hr2 hr3 hW1 hW2 hF3;clear hr1 hr2 hr3 hW1 hW2 hF1 hF2 hF3 F hd HI hln hgn hon a1 a2;go_upto_region 23 with (at_builtin;refine Z.lp_append (.slice S.lp S.ln S.lc) (.slice (some ⟨wr.heap.size,0,none⟩) 1 1) rfl rfl ⟨_,v1,HR1.out,?_⟩);rw[HW1.out];clear a0 s3 hu1 hf1;go_upto_region 24 with (at_builtin;refine Z.lp_append (.slice S.gp S.gn S.gc) (.slice (some ⟨W1.heap.size,0,none⟩) 1 1) rfl rfl ⟨_,v2,HR2.out,?_⟩);rw[HW2'.out];clear s4 hu2 hf2;go_wp2_with (at_builtin;refine Z.lp_append (.slice S.op S.on S.oc) (.slice (some ⟨W2.heap.size,0,none⟩) 1 1) rfl rfl ⟨_,v3,HR3.out,?_⟩)
       go_roundw;case rel=>exact⟨k+1,by omega,by go_num,⟨_,HF3.out,HD3.out.symm⟩⟩
       case measure=>simp[intOf];omega
      ·have hlt3:¬(k:Int)<(T:Int):=by omega
       obtain rfl:k=T:=by omega
       obtain⟨SA,hSA⟩:=exq S.arr;have HX:Hid (wr.heap[w.heap.size+1+1]?=some (.cells SA 42 (0,0))):=by show _=_;rw[←hSA];exact F.x
       have hz:SA.size=6:=by rw[←hSA];rfl
       have HL:=Qaa (lr42 HX.out (by rw[hz];exact Tryz.sizeS));have HSt:=Qaa (Z.storeAt_row (P:=Tryz.prog) (c':=SA) F.z (by rw[hz];exact Tryz.sizeS) (by rw[hz];rfl) (by rw[←hSA];simp[Sta.arr,Value.oneCell']));have HRw:=Qaa (VB _ _ _ SA _ _ F.z);have HOw:Hid (Qac w.heap.size (wr.setRow (w.heap.size+1) SA) S):=F.own.far (fun g C t hg ht=>Vz _ _ _ _ (by rintro rfl;rw[F.z]at hg;cases hg;exact Qay rfl ht));have HBe:Hid (Below w.heap.size w (wr.setRow (w.heap.size+1) SA)):=VA F.bel (by omega) SA;obtain⟨HZs,HSA,HD⟩:=Qmk hz hSA hd;clear hz hSA hd F HI a1 a2
       go_wp2_with (
        first
        | ((with_reducible refine glq 42 3 ?_);refine Z.lp_load (w.heap.size+1+1) 0 SA rfl HL.out ?_)
        | ((with_reducible refine gsq 42 2 ?_);refine Z.lp_store (t:=42) (x:=.tmp 2) (some ⟨w.heap.size+1,0,none⟩) (.agg SA) rfl rfl HSt.out ?_)
        | fail)
       refine Vg (VF rfl _ _ (w.heap.size+1) 42 SA (0,0) _ rfl HRw.out Tryz.underlying42 rfl (by rw[HZs.out];exact Tryz.sizeS)) rfl ?_;exact⟨S,by rw[HSA.out],HD.out,HOw.out,HBe.out⟩
end Go.Proofs.YtiogibfhafoapaaGreat
namespace Go.Proofs.YtiogibfhafoapaaGreat
open Go.RowKit
open Z (Sli QaE Acd Qad Eda QaP Ctr)
theorem Qih:∀(l:List Int) (t:Nat) (x v:Int),l[t]?=some x→(l.set t v).sum=l.sum - x+v
 | [],t,x,v,h=>by simp at h
 | y :: l,0,x,v,h=>by
  simp at h;subst h;simp only[List.set_cons_zero,List.sum_cons];omega
 | y :: l,t+1,x,v,h=>by
  have:=Qih l t x v (by simpa using h);simp only[List.set_cons_succ,List.sum_cons];omega
theorem QkO:∀(l:List Int),(∀h∈l,0≤h)→0≤l.sum∧∀h∈l,h≤l.sum
 | [],_=>⟨by simp,fun _ h=>by cases h⟩
 | y :: l,hl=>by
  obtain⟨h1,h2⟩:=QkO l (fun h hh=>hl h (Vy _ hh));have hy:=hl y (VH ..);simp only[List.sum_cons];refine⟨by omega,fun h hh=>?_⟩;rcases List.mem_cons.1 hh with rfl | hh
  ·omega
  ·have:=h2 h hh;omega
theorem QaW.bound {f s:Int} {l:List Int} (h:QaW f s l):f≤s∧0≤s∧∀x∈l,0≤x∧f+x≤s:=by
 obtain⟨h1,h2⟩:=QkO l (fun x hx=>(h.each x hx).1);have h3:=h.sum;have h4:=h.f0;exact⟨by omega,by omega,fun x hx=>⟨(h.each x hx).1,by have:=h2 x hx;omega⟩⟩
theorem QaW.chg {f s f' s':Int} {l:List Int} (h:QaW f s l) (h0:0≤f') (e:f' - f=s' - s):QaW f' s' l:=⟨h0,h.each,by have:=h.sum;omega⟩
theorem QaW.set {f s f' s' x x':Int} {l:List Int} {t:Nat} (h:QaW f s l) (hx:l[t]?=some x) (h0:0≤f') (h1:0≤x') (h2:x'≤18014398509481984) (e:f'+x'=f+x+(s' - s)):QaW f' s' (l.set t x') :=
 ⟨h0,fun y hy=>by
  rcases List.mem_or_eq_of_mem_set hy with hy | rfl
  ·exact h.each y hy
  ·exact⟨h1,h2⟩,by rw[Qih l t x x' hx];have:=h.sum;omega⟩
def QbY (n:Int):Int:=if n<0 then -n else n
def avP (P:Pl) (sure:Bool) (t:Nat) (w:Int):Int :=
 if w=0 then (if sure=true then (P.hs[t]?.getD ⟨0,0⟩).c else P.f0) else (if sure=true then (P.hs[t]?.getD ⟨0,0⟩).n else P.f1)
structure PoolB (lo hi:Int) (P:Pl):Prop where
 v : -9007199254740992≤P.v∧P.v≤9007199254740992
 f0:0≤P.f0∧P.f0≤18014398509481984
 f1:0≤P.f1∧P.f1≤18014398509481984
 hs:∀q∈P.hs,(0≤q.c∧q.c≤18014398509481984)∧0≤q.n∧q.n≤18014398509481984
theorem Qa1.b {lo hi:Int} {P:Pl} (h:Qa1 lo hi P) (h1 : -9007199254740992≤lo) (h2:hi≤9007199254740992):PoolB lo hi P:=by
 have a1:=h.vlo;have a2:=h.vhi;have b1:=h.down.bound;have b2:=h.up.bound;have c1:=h.down.f0;have c2:=h.up.f0;exact⟨by omega,by omega,by omega,fun q hq=>⟨h.down.each q.c (List.mem_map.2 ⟨q,hq,rfl⟩),h.up.each q.n (List.mem_map.2 ⟨q,hq,rfl⟩)⟩⟩
theorem QcD {xs:List Lin} {t:Nat} (x:Lin):(xs.set t x).map (·.c)=(xs.map (·.c)).set t x.c∧(xs.set t x).map (·.n)=(xs.map (·.n)).set t x.n:=by
 rw[List.map_set,List.map_set];exact⟨rfl,rfl⟩
theorem QdO {lo hi:Int} {P:Pl} (h:Qa1 lo hi P) (h1 : -9007199254740992≤lo) (h2:hi≤9007199254740992) {n:Int} (hn : -1099511627776≤n∧n≤1099511627776) {sure:Bool} {t:Nat} (ht:t<P.hs.length) (ha:QbY n≤avP P sure t (Qam n)) :
  Qa1 lo hi (P.line n sure t)∧(P.line n sure t).hs.length=P.hs.length∧avP (P.line n sure t) sure t (Qam n)=avP P sure t (Qam n) - QbY n∧avP P sure t (1 - Qam n)≤avP (P.line n sure t) sure t (1 - Qam n)∧frL (P.line n false t)=Qd8 (frL P) n (QbY n):=by
 have hb:=h.b h1 h2;obtain⟨q,hq⟩:∃q,P.hs[t]?=some q:=⟨_,gE ht⟩;have hqb:=hb.hs q (mG hq);obtain⟨v1,v2⟩:=hb.v;obtain⟨f1,f2⟩:=hb.f0;obtain⟨g1,g2⟩:=hb.f1;obtain⟨⟨q1,q2⟩,q3,q4⟩:=hqb;have hqc:(P.hs.map (·.c))[t]?=some q.c:=by rw[Vb,hq];rfl
 have hqn:(P.hs.map (·.n))[t]?=some q.n:=by rw[Vb,hq];rfl
 have hd:=h.down;have hu:=h.up;have wv:wrap64 (P.v+n)=P.v+n:=Z.w64_id (by omega);by_cases hneg:n<0
 ·have hw:Qam n=0:=by unfold Qam;rw[if_pos hneg]
  have hm:QbY n = -n:=by unfold QbY;rw[if_pos hneg]
  have wn:wrap64 (-n) = -n:=Z.w64_id (by omega);have wf1:wrap64 (P.f1 + -n)=P.f1 + -n:=Z.w64_id (by omega);have hfr:frL (P.line n false t)=Qd8 (frL P) n (QbY n):=by unfold Pl.line frL Qd8;rw[if_pos hneg,if_pos hneg,wn,hm];rfl
  rw[hm]at hfr;rw[hw,hm]at ha;rw[hw,hm];refine⟨?_,?_,?_,?_,hfr⟩;all_goals clear hfr hw hm
  all_goals cases sure
  all_goals simp only[avP,Pl.line,hq,hneg,if_true,Bool.false_eq_true,if_false,wn,wv,wf1,Option.getD_some,VP]at ha ⊢
  ·have wf0:wrap64 (P.f0 - -n)=P.f0+n:=by rw[Z.w64_id (by omega)];omega
   rw[wf0];have hd':QaW (P.f0+n) (P.v+n - lo) (P.hs.map (·.c)):=hd.chg (by omega) (by omega);have hu':QaW (P.f1 + -n) (hi - (P.v+n)) (P.hs.map (·.n)):=hu.chg (by omega) (by omega);exact⟨by have:=hd'.bound;show lo≤P.v+n;omega,by have:=hu'.bound;show P.v+n≤hi;omega,hd',hu'⟩
  ·have wq:wrap64 (q.c - -n)=q.c+n:=by rw[Z.w64_id (by omega)];omega
   rw[wq];have hd':QaW P.f0 (P.v+n - lo) ((P.hs.map (·.c)).set t (q.c+n)):=hd.set hqc f1 (by omega) (by omega) (by omega);have hu':QaW (P.f1 + -n) (hi - (P.v+n)) ((P.hs.map (·.n)).set t q.n):=hu.set hqn (by omega) q3 q4 (by omega);refine⟨by have:=hd'.bound;show lo≤P.v+n;omega,by have:=hu'.bound;show P.v+n≤hi;omega,?_,?_⟩
   ·rw[(QcD _).1];exact hd'
   ·rw[(QcD _).2];exact hu'
  ·exact Z.w64_id (by omega)
  ·rw[Vn ht];exact Z.w64_id (by omega)
  ·show P.f1≤P.f1 + -n;omega
  ·rw[Vn ht];exact Int.le_refl _
 ·have hw:Qam n=1:=by unfold Qam;rw[if_neg hneg]
  have hm:QbY n=n:=by unfold QbY;rw[if_neg hneg]
  have wf0:wrap64 (P.f0+n)=P.f0+n:=Z.w64_id (by omega);have hfr:frL (P.line n false t)=Qd8 (frL P) n (QbY n):=by unfold Pl.line frL Qd8;rw[if_neg hneg,if_neg hneg,hm];rfl
  rw[hm]at hfr;rw[hw,hm]at ha;rw[hw,hm];refine⟨?_,?_,?_,?_,hfr⟩;all_goals clear hfr hw hm
  all_goals cases sure
  all_goals simp only[avP,Pl.line,hq,hneg,if_true,Bool.false_eq_true,if_false,wv,wf0,Option.getD_some,VP,show ¬((1:Int)=0) by omega,show (1:Int) - 1=0 by omega]at ha ⊢
  ·have wf1:wrap64 (P.f1 - n)=P.f1 - n:=Z.w64_id (by omega)
   rw[wf1];have hd':QaW (P.f0+n) (P.v+n - lo) (P.hs.map (·.c)):=hd.chg (by omega) (by omega);have hu':QaW (P.f1 - n) (hi - (P.v+n)) (P.hs.map (·.n)):=hu.chg (by omega) (by omega);exact⟨by have:=hd'.bound;show lo≤P.v+n;omega,by have:=hu'.bound;show P.v+n≤hi;omega,hd',hu'⟩
  ·have wq:wrap64 (q.n - n)=q.n - n:=Z.w64_id (by omega)
   rw[wq];have hd':QaW (P.f0+n) (P.v+n - lo) ((P.hs.map (·.c)).set t q.c):=hd.set hqc (by omega) q1 q2 (by omega);have hu':QaW P.f1 (hi - (P.v+n)) ((P.hs.map (·.n)).set t (q.n - n)):=hu.set hqn g1 (by omega) (by omega) (by omega);refine⟨by have:=hd'.bound;show lo≤P.v+n;omega,by have:=hu'.bound;show P.v+n≤hi;omega,?_,?_⟩
   ·rw[(QcD _).1];exact hd'
   ·rw[(QcD _).2];exact hu'
  ·exact Z.w64_id (by omega)
  ·rw[Vn ht];show wrap64 (q.n - n)=_;exact Z.w64_id (by omega)
  ·show P.f0≤P.f0+n;omega
  ·rw[Vn ht];exact Int.le_refl _
theorem Qkh {lo hi:Int} {P:Pl} (h:Qa1 lo hi P) (h1 : -9007199254740992≤lo) (h2:hi≤9007199254740992) {n w:Int} (hw:w=0∨w=1) {t:Nat} (ht:t<P.hs.length) (ha:n≤avP P false t w) (hb2 : -n≤avP P true t w) :
  Qa1 lo hi (P.shift t w n)∧(P.shift t w n).hs.length=P.hs.length∧avP (P.shift t w n) false t w=avP P false t w - n∧avP (P.shift t w n) true t w=avP P true t w+n∧(∀b w',w'≠w→(w'=0∨w'=1)→avP (P.shift t w n) b t w'=avP P b t w')∧∀u,u≠t→∀b w',b=true→avP (P.shift t w n) b u w'=avP P b u w':=by
 have hb:=h.b h1 h2;obtain⟨q,hq⟩:∃q,P.hs[t]?=some q:=⟨_,gE ht⟩;have hqb:=hb.hs q (mG hq);obtain⟨f1,f2⟩:=hb.f0;obtain⟨g1,g2⟩:=hb.f1;obtain⟨⟨q1,q2⟩,q3,q4⟩:=hqb;have hqc:(P.hs.map (·.c))[t]?=some q.c:=by rw[Vb,hq];rfl
 have hqn:(P.hs.map (·.n))[t]?=some q.n:=by rw[Vb,hq];rfl
 have hd:=h.down;have hu:=h.up;have v1:=hb.v;have x1:=h.vlo;have x2:=h.vhi;have y1:=(hd.bound.2.2 q.c (mG hqc)).2;have y2:=(hu.bound.2.2 q.n (mG hqn)).2;rcases hw with rfl | rfl
 ·simp only[avP,hq,if_true,Bool.false_eq_true,if_false,Option.getD_some]at ha hb2
  have e0:wrap64 (P.f0 - n)=P.f0 - n:=Z.w64_id (by omega);have e1:wrap64 (q.c+n)=q.c+n:=Z.w64_id (by omega);have es:P.shift t 0 n={ P with f0:=P.f0 - n,hs:=P.hs.set t ⟨q.c+n,q.n⟩ }:=by unfold Pl.shift;rw[if_pos rfl,hq];simp only[Option.getD_some];rw[e0,e1]
  rw[es];have hd':QaW (P.f0 - n) (P.v - lo) ((P.hs.map (·.c)).set t (q.c+n)):=hd.set hqc (by omega) (by omega) (by omega) (by omega);have hu':QaW P.f1 (hi - P.v) ((P.hs.map (·.n)).set t q.n):=hu.set hqn g1 q3 q4 (by omega);refine⟨⟨h.vlo,h.vhi,by rw[(QcD _).1];exact hd',by rw[(QcD _).2];exact hu'⟩,by simp,by simp[avP],by simp[avP,Vn ht,hq],fun b w' hw' h01=>?_,fun u hu b w' hb'=>?_⟩
  ·obtain rfl:w'=1:=by omega
   cases b <;> simp[avP,Vn ht,hq]
  ·subst hb'
   simp[avP,VR (Ne.symm hu)]
 ·simp only[avP,hq,if_true,Bool.false_eq_true,if_false,Option.getD_some,show ¬((1:Int)=0) by omega]at ha hb2
  have e0:wrap64 (P.f1 - n)=P.f1 - n:=Z.w64_id (by omega);have e1:wrap64 (q.n+n)=q.n+n:=Z.w64_id (by omega);have es:P.shift t 1 n={ P with f1:=P.f1 - n,hs:=P.hs.set t ⟨q.c,q.n+n⟩ }:=by unfold Pl.shift;rw[if_neg (by omega),hq];simp only[Option.getD_some];rw[e0,e1]
  rw[es];have hd':QaW P.f0 (P.v - lo) ((P.hs.map (·.c)).set t q.c):=hd.set hqc f1 q1 q2 (by omega);have hu':QaW (P.f1 - n) (hi - P.v) ((P.hs.map (·.n)).set t (q.n+n)):=hu.set hqn (by omega) (by omega) (by omega) (by omega);refine⟨⟨h.vlo,h.vhi,by rw[(QcD _).1];exact hd',by rw[(QcD _).2];exact hu'⟩,by simp,by simp[avP],by simp[avP,Vn ht,hq],fun b w' hw' h01=>?_,fun u hu b w' hb'=>?_⟩
  ·obtain rfl:w'=0:=by omega
   cases b <;> simp[avP,Vn ht,hq]
  ·subst hb'
   simp[avP,VR (Ne.symm hu)]
structure Qaz (cs:List Ctr) (T:Nat) (s:Sta):Prop where
 len:s.pools.length=cs.length
 each:∀(i:Nat) (x:Ctr) (p:Pl),cs[i]?=some x→s.pools[i]?=some p→Qa1 x.lo x.hi p
 hl:∀p∈s.pools,p.hs.length=T
 bnd:∀x∈cs,-9007199254740992≤x.lo∧x.hi≤9007199254740992
theorem Qaz.at {cs:List Ctr} {T:Nat} {s:Sta} (h:Qaz cs T s) {k:Nat} {P:Pl} (hP:s.pools[k]?=some P):∃x,cs[k]?=some x∧Qa1 x.lo x.hi P∧-9007199254740992≤x.lo∧x.hi≤9007199254740992∧P.hs.length=T:=by
 have hk:=(Vd.1 hP).1;obtain⟨x,hx⟩:∃x,cs[k]?=some x:=⟨_,gE (by rw[←h.len];exact hk)⟩;obtain⟨b1,b2⟩:=h.bnd x (mG hx);exact⟨x,hx,h.each k x P hx hP,b1,b2,h.hl P (mG hP)⟩
theorem Qaz.up {cs:List Ctr} {T:Nat} {s:Sta} (h:Qaz cs T s) {k:Nat} {P P':Pl} (hP:s.pools[k]?=some P) (hok:∀x,cs[k]?=some x→Qa1 x.lo x.hi P') (hl:P'.hs.length=T):Qaz cs T (s.upP k P') :=
 ⟨by show (s.pools.set k P').length=_;rw[VP];exact h.len,fun i x p hx hp=>by
  rcases Qcs hP hp with ⟨_,h1⟩ | ⟨rfl,rfl⟩
  ·exact h.each i x p hx h1
  ·exact hok x hx,fun p hp=>by
  rcases Qdu hp with h1 | rfl
  ·exact h.hl p h1
  ·exact hl,h.bnd⟩
theorem QiP (n:Int):0≤QbY n:=by unfold QbY;split <;> omega
def ndS (xs:List Lin) (k w:Int):Int:=(xs.map (fun x=>if x.c=k∧Qam x.n=w then QbY x.n else 0)).sum
theorem Qbx (x:Lin) (xs:List Lin) (k w:Int):ndS (x :: xs) k w=(if x.c=k∧Qam x.n=w then QbY x.n else 0)+ndS xs k w:=rfl
theorem QkP (xs:List Lin) (k w:Int):0≤ndS xs k w:=by
 induction xs with
 | nil=>exact Int.le_refl _
 | cons x xs ih=>rw[Qbx];have:=QiP x.n;split <;> omega
theorem QgF {cs:List Ctr} {T:Nat} (sure:Bool) (t:Nat) (ht:t<T):∀(xs:List Lin) (s:Sta),Qaz cs T s→(∀x∈xs,(∃k:Nat,x.c=(k:Int)∧k<s.pools.length)∧-1099511627776≤x.n∧x.n≤1099511627776) →
  (∀(k:Nat) (P:Pl) (w:Int),(w=0∨w=1)→s.pools[k]?=some P→ndS xs k w≤avP P sure t w)→Qaz cs T (xs.foldl (fun s x=>s.lineAt x sure t) s)
 | [],s,h,_,_=>h
 | x :: xs,s,h,hx,hn=>by
  obtain⟨⟨k,ek,hk⟩,x1,x2⟩:=hx x (VH ..);obtain⟨P,hP⟩:∃P,s.pools[k]?=some P:=⟨_,gE hk⟩;obtain⟨y,hy,hPo,b1,b2,hPl⟩:=h.at hP;have hw:=Qkf x.n;have h0:=QkP xs k (Qam x.n);have h1:=hn k P (Qam x.n) hw hP;rw[Qbx,if_pos ⟨ek,rfl⟩]at h1;obtain⟨g1,g2,g3,g4,_⟩:=QdO hPo b1 b2 (n:=x.n) ⟨x1,x2⟩ (sure:=sure) (t:=t) (by omega) (by omega)
  have e:s.lineAt x sure t=s.upP k (P.line x.n sure t):=by
   unfold Sta.lineAt;rw[ek,Vv,Vu,hP];rfl
  rw[VI,e];refine QgF sure t ht xs _ (h.up hP (fun z hz=>?_) (by rw[g2];exact hPl)) (fun z hz=>?_) (fun k' P' w hw' hP'=>?_)
  ·rw[hy]at hz;cases hz;exact g1
  ·obtain⟨⟨k2,e2,l2⟩,z1⟩:=hx z (Vy _ hz)
   exact⟨⟨k2,e2,by show k2<(s.pools.set k _).length;rw[VP];exact l2⟩,z1⟩
  ·rcases Qcs hP hP' with ⟨n1,h2⟩ | ⟨rfl,rfl⟩
   ·have h3:=hn k' P' w hw' h2
    rw[Qbx,if_neg (by rintro ⟨q,_⟩;rw[ek]at q;omega)]at h3;omega
   ·have h3:=hn k' P w hw' hP
    rw[Qbx]at h3;by_cases q:Qam x.n=w
    ·subst q
     rw[if_pos ⟨ek,rfl⟩]at h3;omega
    ·rw[if_neg (fun z=>q z.2)]at h3
     have e2:w=1 - Qam x.n:=by omega
     subst e2;omega
theorem Qik (xs:List Lin):∀(l:List Tri),l.Pairwise ltT→∀(k w m:Int),0≤Qbs l (k,w)→0≤m→(∀x∈xs,QbY x.n≤m)→Qbs l (k,w)+(xs.length:Int)*m≤9223372036854775807 →
  Qbs (xs.foldl (fun l x=>Qby l (QaL x)) l) (k,w)=Qbs l (k,w)+ndS xs k w:=by
 induction xs with
 | nil=>intro l _ k w m _ _ _ _;simp[ndS]
 | cons x xs ih =>
  intro l hl k w m h0 hm hx hb;have ha:=hx x (VH ..);have hn:=QiP x.n;have e:((x :: xs).length:Int)*m=(xs.length:Int)*m+m:=by rw[VO];push_cast;rw[Int.add_mul,Int.one_mul]
  rw[e]at hb;have hp:0≤(xs.length:Int)*m:=Int.mul_nonneg (by omega) hm;have ht:(QaL x).n=QbY x.n:=by show Qbh x.n=_;unfold Qbh QbY;exact Z.w64_id (by unfold QbY at ha hn;split at ha <;> simp_all <;> omega)
  have hw:wrap64 (QaL x).n=(QaL x).n:=by rw[ht];exact Z.w64_id (by omega)
  have hk:Qbs (Qby l (QaL x)) (k,w)=Qbs l (k,w)+(if x.c=k∧Qam x.n=w then QbY x.n else 0):=by
   rw[QfF hl (QaL x) hw]
   have ek:((k,w)=QaS (QaL x))↔(x.c=k∧Qam x.n=w):=by
    show ((k,w)=(x.c,Qam x.n))↔_;rw[Prod.mk.injEq];exact⟨fun q=>⟨q.1.symm,q.2.symm⟩,fun q=>⟨q.1.symm,q.2.symm⟩⟩
   by_cases q:x.c=k∧Qam x.n=w
   ·rw[if_pos (ek.2 q),if_pos q,ht];exact Z.w64_id (by omega)
   ·rw[if_neg (fun z=>q (ek.1 z)),if_neg q];omega
  rw[VI,ih _ (QcT _ hl) k w m (by rw[hk];split <;> omega) hm (fun y hy=>hx y (Vy _ hy)) (by rw[hk];split <;> omega),hk,Qbx];omega
theorem Qh7 (xs:List Lin) (hx:∀x∈xs,-1099511627776≤x.n∧x.n≤1099511627776) (hl:xs.length≤1024) (k w:Int):Qbs (QaD xs) (k,w)=ndS xs k w:=by
 have h:=Qik xs [] List.Pairwise.nil k w 1099511627776 (Int.le_refl _) (by omega) (fun x h=>by have:=hx x h;unfold QbY;split <;> omega) (by
  show (0:Int)+_≤_;have:(xs.length:Int)*1099511627776≤1024*1099511627776:=Int.mul_le_mul_of_nonneg_right (by omega) (by omega);omega)
 have e0:Qbs [] (k,w)=0:=rfl;rw[e0,Int.zero_add]at h;exact h
theorem QkD {xs:List Lin} {k w:Int} (h:∀x∈xs,¬(x.c=k∧Qam x.n=w)):ndS xs k w=0:=by
 induction xs with
 | nil=>rfl
 | cons x xs ih=>rw[Qbx,if_neg (h x (VH ..)),ih (fun y hy=>h y (Vy _ hy))];rfl
theorem Qjs {xs:List Lin} {x:Lin} (hx:x∈xs):∃r∈QaD xs,QaS r=(x.c,Qam x.n):=by
 have h:∀(l:List Tri),(∃r∈xs.foldl (fun l x=>Qby l (QaL x)) l,QaS r=(x.c,Qam x.n)):=by
  induction xs with
  | nil=>cases hx
  | cons y ys ih =>
   intro l;rw[VI];rcases List.mem_cons.1 hx with rfl | hy
   ·have h0:∃r∈Qby l (QaL x),QaS r=(x.c,Qam x.n):=(QdG l (QaL x) _).2 (Or.inr rfl)
    generalize Qby l (QaL x)=l' at h0;clear ih hx
    induction ys generalizing l' with
    | nil=>exact h0
    | cons z zs ih2=>rw[VI];exact ih2 _ ((QdG l' (QaL z) _).2 (Or.inl h0))
   ·exact ih hy _
 exact h []
theorem QgI {xs:List Lin} {q:Int→Int→Int} (hx:∀x∈xs,-1099511627776≤x.n∧x.n≤1099511627776) (hl:xs.length≤1024) (h:(QaD xs).all (fun r=>decide (r.n≤q r.a r.b))=true) (k w:Int) (h0:0≤q k w):ndS xs k w≤q k w:=by
 by_cases hz:∀x∈xs,¬(x.c=k∧Qam x.n=w)
 ·rw[QkD hz];exact h0
 ·obtain⟨x,hxm,hk⟩:∃x,x∈xs∧(x.c=k∧Qam x.n=w):=by
   apply Classical.byContradiction;intro hc;exact hz (fun x h1 h2=>hc ⟨x,h1,h2⟩)
  obtain⟨r,hr,er⟩:=Qjs hxm;rw[hk.1,hk.2]at er;have h1:=List.all_eq_true.1 h r hr;have h2:r.n≤q r.a r.b:=of_decide_eq_true h1;have h3:=Qfm (Qe4 xs) hr;rw[er,Qh7 xs hx hl]at h3;have ea:r.a=k:=Vl Prod.fst er;have eb:r.b=w:=Vl Prod.snd er;rw[ea,eb]at h2;omega
theorem QeQ {cs:List Ctr} {T:Nat} (t:Nat) (ht:t<T):∀(xs:List Lin) (s:Sta) (M:List Lin),Qaz cs T s→(∀x∈xs,(∃k:Nat,x.c=(k:Int)∧k<s.pools.length)∧-1099511627776≤x.n∧x.n≤1099511627776) →
  ∃M',(xs.foldl Qax (s.pools.map frL,M)).2=M++M'∧Qaz cs T (M'.foldl (fun s x=>s.lineAt x false t) s)
 | [],s,M,h,_=>⟨[],by simp,h⟩
 | x :: xs,s,M,h,hx=>by
  obtain⟨⟨k,ek,hk⟩,x1,x2⟩:=hx x (VH ..);obtain⟨P,hP⟩:∃P,s.pools[k]?=some P:=⟨_,gE hk⟩;obtain⟨y,hy,hPo,b1,b2,hPl⟩:=h.at hP;have hb:=hPo.b b1 b2;have hg:(s.pools.map frL).getD x.c.toNat ⟨0,0⟩=frL P:=by rw[ek,Vv,Vu,Vb,hP];rfl
  have hxs:∀z∈xs,(∃k:Nat,z.c=(k:Int)∧k<s.pools.length)∧-1099511627776≤z.n∧z.n≤1099511627776:=fun z hz=>hx z (Vy _ hz)
  rw[VI];by_cases h0:Qcp (s.pools.map frL) x=0
  ·have e:Qax (s.pools.map frL,M) x=(s.pools.map frL,M):=by unfold Qax;rw[if_pos h0]
   rw[e];exact QeQ t ht xs s M h hxs
  ·obtain⟨n,hn⟩:=exq (Qcp (s.pools.map frL) x)
   have hn':=hn;unfold Qcp at hn';rw[hg]at hn'
   have ha:QbY n≤avP P false t (Qam n)∧(n<0↔x.n<0)∧-1099511627776≤n∧n≤1099511627776:=by
    obtain⟨f1,f2⟩:=hb.f0;obtain⟨g1,g2⟩:=hb.f1;rw[hn]at h0;unfold QfJ frW frL QdD at hn';simp only at hn';by_cases hneg:x.n<0
    ·simp only[hneg,if_true]at hn'
     rw[if_neg (by omega)]at hn';have hn0:n<0:=by split at hn' <;> omega
     have hn1 : -n≤P.f0∧x.n≤n:=by split at hn' <;> omega
     have hw:Qam n=0:=by unfold Qam;rw[if_pos hn0]
     rw[hw];refine⟨?_,⟨fun _=>hneg,fun _=>hn0⟩,by omega,by omega⟩;unfold QbY avP;simp only[hn0,if_true,Bool.false_eq_true,if_false];omega
    ·simp only[hneg,if_false]at hn'
     rw[if_neg (by omega)]at hn';have hn0:¬n<0:=by split at hn' <;> omega
     have hn1:n≤P.f1∧n≤x.n:=by split at hn' <;> omega
     have hw:Qam n=1:=by unfold Qam;rw[if_neg hn0]
     rw[hw];refine⟨?_,⟨fun z=>absurd z hn0,fun z=>absurd z hneg⟩,by omega,by omega⟩;unfold QbY avP;simp only[hn0,if_false,Bool.false_eq_true,show ¬((1:Int)=0) by omega];omega
   obtain⟨a1,a2,a3,a4⟩:=ha;obtain⟨g1,g2,g3,g4,g5⟩:=QdO hPo b1 b2 (n:=n) ⟨a3,a4⟩ (sure:=false) (t:=t) (by omega) a1;have ha2:Qbh n=QbY n:=by unfold Qbh;exact Z.w64_id (by split <;> omega)
   have hmv:Qd8 (frL P) x.n (Qbh n)=frL (P.line n false t):=by
    rw[g5,ha2];unfold Qd8;by_cases q:n<0
    ·rw[if_pos q,if_pos (a2.1 q)]
    ·rw[if_neg q,if_neg (fun z=>q (a2.2 z))]
   have e:Qax (s.pools.map frL,M) x=((s.upP k (P.line n false t)).pools.map frL,M++[⟨x.c,n⟩]):=by
    unfold Qax;simp only;rw[if_neg h0,hn,hg,hmv,ek,Vv];show (_,_)=((s.pools.set k _).map frL,_);rw[List.map_set]
   have e1:s.lineAt ⟨x.c,n⟩ false t=s.upP k (P.line n false t):=by
    unfold Sta.lineAt;simp only;rw[ek,Vv,Vu,hP];rfl
   rw[e]
   obtain⟨M',h1,h2⟩:=QeQ t ht xs (s.upP k (P.line n false t)) (M++[⟨x.c,n⟩]) (h.up hP (fun z hz=>by rw[hy]at hz;cases hz;exact g1) (by rw[g2];exact hPl)) (fun z hz=>by
    obtain⟨⟨k2,e2,l2⟩,z1⟩:=hxs z hz;exact⟨⟨k2,e2,by show k2<(s.pools.set k _).length;rw[VP];exact l2⟩,z1⟩)
   refine⟨⟨x.c,n⟩ :: M',by rw[h1,List.append_assoc];rfl,?_⟩;rw[VI,e1];exact h2
theorem QgO (sure:Bool) (t:Nat):∀(xs:List Lin) (s:Sta),(xs.foldl (fun s x=>s.lineAt x sure t) s).prices=s.prices∧(xs.foldl (fun s x=>s.lineAt x sure t) s).last=s.last∧(xs.foldl (fun s x=>s.lineAt x sure t) s).gen=s.gen∧(xs.foldl (fun s x=>s.lineAt x sure t) s).owed=s.owed∧(xs.foldl (fun s x=>s.lineAt x sure t) s).pos=s.pos
 | [],s=>⟨rfl,rfl,rfl,rfl,rfl⟩
 | x :: xs,s=>by rw[VI];exact QgO sure t xs (s.lineAt x sure t)
theorem Qjj:∀(xs:List Tri) (s:Sta),(xs.foldl Sta.setPr s).pools=s.pools∧(xs.foldl Sta.setPr s).last=s.last∧(xs.foldl Sta.setPr s).gen=s.gen∧(xs.foldl Sta.setPr s).owed=s.owed∧(xs.foldl Sta.setPr s).pos=s.pos
 | [],s=>⟨rfl,rfl,rfl,rfl,rfl⟩
 | x :: xs,s=>by rw[VI];exact Qjj xs (s.setPr x)
theorem QiW:∀(xs:List Tri) (s:Sta),(∀q∈s.prices,Qbz q)→(∀x∈xs,(0≤x.n∧x.n≤1099511627776)∧0≤x.b∧x.b≤1099511627776)→∀q∈(xs.foldl Sta.setPr s).prices,Qbz q
 | [],s,h,_=>h
 | x :: xs,s,h,hx=>by
  rw[VI];refine QiW xs (s.setPr x) (fun q hq=>?_) (fun y hy=>hx y (Vy _ hy));rcases List.mem_or_eq_of_mem_set hq with h1 | h1
  ·exact h q h1
  ·rw[h1];exact hx x (VH ..)
theorem Qaz.shiftAt {cs:List Ctr} {T:Nat} {s:Sta} (h:Qaz cs T s) {k t:Nat} (ht:t<T) {c w n:Int} (hc:c=(k:Int)) (hw:w=0∨w=1) {P:Pl} (hP:s.pools[k]?=some P) (h1:n≤avP P false t w) (h2 : -n≤avP P true t w) :
  Qaz cs T (s.shiftAt t c w n)∧s.shiftAt t c w n=s.upP k (P.shift t w n)∧avP (P.shift t w n) false t w=avP P false t w - n∧avP (P.shift t w n) true t w=avP P true t w+n∧(∀b w',w'≠w→(w'=0∨w'=1)→avP (P.shift t w n) b t w'=avP P b t w')∧∀u,u≠t→∀w',avP (P.shift t w n) true u w'=avP P true u w':=by
 obtain⟨y,hy,hPo,b1,b2,hPl⟩:=h.at hP;obtain⟨g1,g2,g3,g4,g5,g6⟩:=Qkh hPo b1 b2 hw (t:=t) (by omega) h1 h2
 have e:s.shiftAt t c w n=s.upP k (P.shift t w n):=by
  unfold Sta.shiftAt;rw[hc,Vv,Vu,hP];rfl
 exact⟨by rw[e];exact h.up hP (fun z hz=>by rw[hy]at hz;cases hz;exact g1) (by rw[g2];exact hPl),e,g3,g4,g5,fun u hu w'=>g6 u hu true w' rfl⟩
end Go.Proofs.YtiogibfhafoapaaGreat
