import Derived.Deep.RegionHeld3
import Derived.Test.YtiogibfhafoapaaGreatAbA
import Derived.Test.YtiogibfhafoapaaGreatRwK
import Derived.Test.YtiogibfhafoapaaGreatTk
import Derived.Test.YtiogibfhafoapaaGreatDcW
import Derived.Deep.CutRange
set_option maxRecDepth 100000
set_option maxHeartbeats 8000000
set_option linter.unusedSimpArgs false
set_option linter.unusedVariables false
namespace Go.Proofs.YtiogibfhafoapaaGreat
open Go.RowKit
open Z (Sli QaE Acd Qad Elt)
theorem Qkv (z:Value) (n:Nat):madeCells #[z,z] n=(List.replicate n z).toArray:=by
 apply Array.ext
 ·simp[madeCells]
 ·intro i h1 h2
  simp only[madeCells,Array.getElem_map,Array.getElem_range,List.size_toArray,VO,List.length_nil,List.getElem_toArray,List.getElem_replicate];rcases Nat.mod_two_eq_zero_or_one i with e | e
  ·show #[z,z][i % 2]! = z;rw[e];rfl
  ·show #[z,z][i % 2]! = z;rw[e];rfl
theorem Jb.set {w W:World} {s:Sta} {a:Acd} (h:Jb w s a W) {g:Nat} (hg:w.heap.size+1+1<g) (i:Nat) (v:Value):Jb w s a (W.setCell ⟨g,i,none⟩ v):=by
 refine⟨?_,?_,?_,h.bel.setCell (p:=⟨g,i,none⟩) (by show w.heap.size≤g;omega) _⟩
 ·rw[Ve _ _ _ _ (by show w.heap.size≠g;omega)];exact h.st
 ·rw[Ve _ _ _ _ (by show w.heap.size+1≠g;omega)];exact h.ac
 ·rw[Ve _ _ _ _ (by show w.heap.size+1+1≠g;omega)];exact h.tl
structure Clb (w:World) (s:Sta) (a:Acd) (W:World) (F:List Lin):Prop where
 jb:Jb w s a W
 row:W.ownsRow (w.heap.size+1+1+1) 118 2 (.slice (some ⟨w.heap.size+1+1+1,0,none⟩) s.pn s.pn) s.pn (Z.flat Qal F)
theorem Clb.below {w W W':World} {s:Sta} {a:Acd} {F:List Lin} (h:Clb w s a W F) (hb:Below W.heap.size W W'):Clb w s a W' F:=⟨h.jb.below hb,Z.owns_keep h.row hb⟩
theorem Clb.set0 {w W:World} {s:Sta} {a:Acd} {F:List Lin} (h:Clb w s a W F) {k:Nat} {x:Lin} (hx:F[k]?=some x) (v:Int):Clb w s a (W.setCell ⟨w.heap.size+1+1+1,k*2,none⟩ (.int .i64 v)) (F.set k ⟨v,x.n⟩):=⟨h.jb.set (by omega) _ _,Qjg h.row hx v⟩
theorem Clb.set1 {w W:World} {s:Sta} {a:Acd} {F:List Lin} (h:Clb w s a W F) {k:Nat} {x:Lin} (hx:F[k]?=some x) (v:Int):Clb w s a (W.setCell ⟨w.heap.size+1+1+1,k*2+1,none⟩ (.int .i64 v)) (F.set k ⟨x.c,v⟩):=⟨h.jb.set (by omega) _ _,Qgh h.row hx v⟩
theorem QdJ {α:Type} {F:List α} {k:Nat} {x:α} (hx:F[k]?=some x) (y:α):(F.set k y)[k]?=some y:=by rw[Vn (Vd.1 hx).1]
structure Clt (w:World) (s:Sta) (a:Acd) (W:World) (F:List Lin) (tb:Nat) (M:List Lin) (va:Option Addr) (ml ca:Nat):Prop where
 cb:Clb w s a W F
 hi:w.heap.size+1+1+1<tb
 box:W.heap[tb]?=some (.cells #[.int .i64 0,.slice va ml ca,.slice none 0 0,.int .i64 0] 151 (0,0))
 len:M.length=ml
 made:W.ownsRow (w.heap.size+1+1+1) 132 2 (.slice va ml ca) ml (Z.flat Qal M)
theorem Clt.below {w W W':World} {s:Sta} {a:Acd} {F M:List Lin} {tb ml ca:Nat} {va:Option Addr} (h:Clt w s a W F tb M va ml ca) (hb:Below W.heap.size W W'):Clt w s a W' F tb M va ml ca :=
 ⟨h.cb.below hb,h.hi,(hb.block _ (Qab h.box)).trans h.box,h.len,Z.owns_keep h.made hb⟩
theorem Clb.blk {w W:World} {s:Sta} {a:Acd} {F:List Lin} (h:Clb w s a W F):∃C,W.heap[w.heap.size+1+1+1]?=some (.cells C 118 (0,0)):=by
 rcases h.row.2 with ⟨h1,_⟩ | ⟨g',cap,cur,h1,_,hg',_⟩
 ·cases h1
 ·cases h1;exact⟨_,hg'⟩
theorem Clt.set0 {w W:World} {s:Sta} {a:Acd} {F M:List Lin} {tb ml ca:Nat} {va:Option Addr} (h:Clt w s a W F tb M va ml ca) {k:Nat} {x:Lin} (hx:F[k]?=some x) (v:Int):Clt w s a (W.setCell ⟨w.heap.size+1+1+1,k*2,none⟩ (.int .i64 v)) (F.set k ⟨v,x.n⟩) tb M va ml ca:=by
 obtain⟨C,hC⟩:=h.cb.blk;exact⟨h.cb.set0 hx v,h.hi,by rw[Ve _ _ _ _ (by show tb≠w.heap.size+1+1+1;have:=h.hi;omega)];exact h.box,h.len,Z.owns_set h.made hC (by decide)⟩
theorem Clt.set1 {w W:World} {s:Sta} {a:Acd} {F M:List Lin} {tb ml ca:Nat} {va:Option Addr} (h:Clt w s a W F tb M va ml ca) {k:Nat} {x:Lin} (hx:F[k]?=some x) (v:Int):Clt w s a (W.setCell ⟨w.heap.size+1+1+1,k*2+1,none⟩ (.int .i64 v)) (F.set k ⟨x.c,v⟩) tb M va ml ca:=by
 obtain⟨C,hC⟩:=h.cb.blk;exact⟨h.cb.set1 hx v,h.hi,by rw[Ve _ _ _ _ (by show tb≠w.heap.size+1+1+1;have:=h.hi;omega)];exact h.box,h.len,Z.owns_set h.made hC (by decide)⟩
theorem Clt.app {w W:World} {s:Sta} {a:Acd} {F M:List Lin} {tb ml ca:Nat} {va:Option Addr} (h:Clt w s a W F tb M va ml ca) (x:Lin) (hm:ml≤4194304) :
  ∃(p:Option Addr) (d:Nat) (w7:World),(Builtin.append_ #[46,46] 46 #[.slice va ml ca,.slice (some ⟨W.heap.size,0,none⟩) 1 1]).run Tryz.prog (W.alloc (.cells #[.int .i64 x.c,.int .i64 x.n] 132))=.ok (.slice p (ml+1) d) w7 ∧
   (∃u,w7.cell? ⟨tb,1,none⟩=some u)∧w7.frozen? ⟨tb,1,none⟩=false∧Clt w s a (w7.setCell ⟨tb,1,none⟩ (.slice p (ml+1) d)) F tb (M++[x]) p (ml+1) d:=by
 obtain⟨C,hC⟩:=h.cb.blk;have hsz:=Qab h.box;have hsz2:w.heap.size+1+1+1<W.heap.size:=by have:=h.hi;omega
 have hA:Below W.heap.size W (W.alloc (.cells #[.int .i64 x.c,.int .i64 x.n] 132)):=bR.alloc (Va _) _
 have hx1:Cel (W.alloc (.cells #[.int .i64 x.c,.int .i64 x.n] 132)) (some ⟨W.heap.size,0,none⟩) 2 ([x].map Qal):=by
  refine Or.inr ⟨_,0,rfl,by simp,fun i r hr j v hv=>?_⟩
  match i,hr with
  | 0,hr =>
   simp at hr;subst hr;rw[cRq (hNq _ _)];simpa[Qal] using hv
 obtain⟨v',w7,hr,ho,hg,_⟩:=Z.elt_line.run_append (W.alloc (.cells #[.int .i64 x.c,.int .i64 x.n] 132)) 46 (w.heap.size+1+1+1) ml (.slice va ml ca) _ (Z.owns_keep h.made hA) (some ⟨W.heap.size,0,none⟩) 1 1 [x] rfl hx1 (by omega) (by have:=hA.size;omega);obtain⟨p,d,rfl,_⟩:=Z.slice_form ho
 have K:∀(k:Nat) (A:Array Value) (t:TypeId),W.heap[k]?=some (.cells A t (0,0))→t≠132→w7.heap[k]?=some (.cells A t (0,0)):=fun k A t hk ht=>by
  have hk':(W.alloc (.cells #[.int .i64 x.c,.int .i64 x.n] 132)).heap[k]?=some (.cells A t (0,0)):=(hA.block _ (Qab hk)).trans hk;exact(hg.block k (Qab hk') (Z.owns_ne (Z.owns_keep h.made hA) hk' ht)).trans hk'
 have htb:=K _ _ _ h.box (by decide);have hsz7:w.heap.size+1+1+1≤(W.alloc (.cells #[.int .i64 x.c,.int .i64 x.n] 132)).heap.size:=by have:=hA.size;omega
 have hb7:Below w.heap.size w w7:=(h.cb.jb.bel.trans (hA.mono h.cb.jb.bel.size)).grown hg (by omega) (fun k e=>by have:=Z.owns_base h.made k e;omega);refine⟨p,d,w7,hr,⟨_,cRq htb⟩,VN _ _ _ _ _ htb,⟨⟨⟨?_,?_,?_,hb7.setCell (p:=⟨tb,1,none⟩) (by show w.heap.size≤tb;have:=h.hi;omega) _⟩,?_⟩,h.hi,?_,by rw[VJ,h.len];rfl,?_⟩⟩
 ·rw[Ve _ _ _ _ (by show w.heap.size≠tb;have:=h.hi;omega)];exact K _ _ _ h.cb.jb.st (by decide)
 ·rw[Ve _ _ _ _ (by show w.heap.size+1≠tb;have:=h.hi;omega)];exact K _ _ _ h.cb.jb.ac (by decide)
 ·rw[Ve _ _ _ _ (by show w.heap.size+1+1≠tb;have:=h.hi;omega)];exact K _ _ _ h.cb.jb.tl (by decide)
 ·refine Qas h.cb.row (fun g e=>?_)
  have e':w.heap.size+1+1+1=g:=by simpa[Value.ownBlock] using e
  subst e';rw[Ve _ _ _ _ (by show w.heap.size+1+1+1≠tb;have:=h.hi;omega),K _ _ _ hC (by decide),hC]
 ·have:=Vx w7 tb 1 _ _ (.slice p (ml+1) d) htb
  exact this
 ·rw[Z.flat_snoc]
  have:=Z.owns_set (u:=.slice p (ml+1) d) (i:=1) ho htb (by decide);exact this
theorem Qg4 (w:World) (x y z:Int) (t:TypeId):Cel (w.alloc (.cells #[.int .i64 x,.int .i64 y,.int .i64 z] t)) (some ⟨w.heap.size,0,none⟩) 3 ([(⟨x,y,z⟩:Tri)].map Qar):=by
 refine Or.inr ⟨_,0,rfl,by simp,fun i r hr j v hv=>?_⟩
 match i,hr with
 | 0,hr =>
  simp at hr;subst hr;rw[cRq (hNq _ _)];simpa[Qar] using hv
theorem Qf9 {W:World} {B n k:Nat} {t:TypeId} {v:Value} {xs:List Value} (h:W.ownsRow B t k v n xs) {g:Nat} (e:v.ownBlock=some g):∃C,W.heap[g]?=some (.cells C t (0,0)):=by
 rcases h.2 with ⟨h1,_⟩ | ⟨g',cap,cur,h1,_,hg',_⟩
 ·rw[h1]at e;simp[Value.ownBlock]at e
 ·rw[h1]at e;simp[Value.ownBlock]at e;subst e;exact⟨_,hg'⟩
theorem Clt.grown {w W W1 W2:World} {s:Sta} {a:Acd} {F M:List Lin} {tb ml ca B n:Nat} {va:Option Addr} {v:Value} {xs:List Value} (h:Clt w s a W F tb M va ml ca) (hA:Below W.heap.size W W1) (ho:W1.ownsRow B 76 3 v n xs) (hB:w.heap.size≤B) (hg:W1.grownBy W2 v.ownBlock):Clt w s a W2 F tb M va ml ca:=by
 have h1:=h.below hA;have K:∀(k:Nat) (A:Array Value) (t:TypeId),W1.heap[k]?=some (.cells A t (0,0))→t≠76→W2.heap[k]?=some (.cells A t (0,0)):=fun k A t hk ht=>(hg.block k (Qab hk) (Z.owns_ne ho hk ht)).trans hk
 have R:∀(B' k n':Nat) (t:TypeId) (u:Value) (ys:List Value),W1.ownsRow B' t k u n' ys→t≠76→W2.ownsRow B' t k u n' ys:=fun B' k n' t u ys hr ht=>Qas hr (fun g e=>by obtain⟨C,hC⟩:=Qf9 hr e;rw[K _ _ _ hC ht,hC])
 exact⟨⟨⟨K _ _ _ h1.cb.jb.st (by decide),K _ _ _ h1.cb.jb.ac (by decide),K _ _ _ h1.cb.jb.tl (by decide),h1.cb.jb.bel.grown hg (h1.cb.jb.bel.size) (fun k e=>by have:=Z.owns_base ho k e;omega)⟩,R _ _ _ _ _ _ h1.cb.row (by decide)⟩,h1.hi,K _ _ _ h1.box (by decide),h1.len,R _ _ _ _ _ _ h1.made (by decide)⟩
structure Clu (w:World) (s:Sta) (a:Acd) (W:World) (tb:Nat) (o:Int) (M:List Lin) (va:Option Addr) (ml ca:Nat) (Q:List Tri) (q:Option Addr) (ql qc:Nat):Prop where
 jb:Jb w s a W
 hi:w.heap.size+1+1+1<tb
 box:W.heap[tb]?=some (.cells #[.int .i64 o,.slice va ml ca,.slice q ql qc,.int .i64 0] 151 (0,0))
 len:M.length=ml
 made:W.ownsRow (w.heap.size+1+1+1) 132 2 (.slice va ml ca) ml (Z.flat Qal M)
 qlen:Q.length=ql
 sets:W.ownsRow (w.heap.size+1+1+1) 76 3 (.slice q ql qc) ql (Z.flat Qar Q)
theorem Clt.told {w W:World} {s:Sta} {a:Acd} {F M:List Lin} {tb ml ca:Nat} {va:Option Addr} (h:Clt w s a W F tb M va ml ca) {Q:List Tri} {q:Option Addr} {ql qc:Nat} (hl:Q.length=ql) (ho:W.ownsRow (w.heap.size+1+1+1) 76 3 (.slice q ql qc) ql (Z.flat Qar Q)):Clu w s a (W.setCell ⟨tb,2,none⟩ (.slice q ql qc)) tb 0 M va ml ca Q q ql qc:=by
 have hb:=Vx W tb 2 _ _ (.slice q ql qc) h.box;exact⟨h.cb.jb.set (by have:=h.hi;omega) _ _,h.hi,hb,h.len,Z.owns_set h.made h.box (by decide),hl,Z.owns_set ho h.box (by decide)⟩
theorem Clu.out {w W:World} {s:Sta} {a:Acd} {M:List Lin} {tb ml ca:Nat} {va:Option Addr} {Q:List Tri} {q:Option Addr} {ql qc:Nat} {o:Int} (h:Clu w s a W tb o M va ml ca Q q ql qc) (o':Int):Clu w s a (W.setCell ⟨tb,0,none⟩ (.int .i64 o')) tb o' M va ml ca Q q ql qc:=by
 have hb:=Vx W tb 0 _ _ (.int .i64 o') h.box;exact⟨h.jb.set (by have:=h.hi;omega) _ _,h.hi,hb,h.len,Z.owns_set h.made h.box (by decide),h.qlen,Z.owns_set h.sets h.box (by decide)⟩
theorem Clu.end_ {w W:World} {s:Sta} {a:Acd} {M:List Lin} {tb ml ca:Nat} {va:Option Addr} {Q:List Tri} {q:Option Addr} {ql qc:Nat} {o:Int} (h:Clu w s a W tb o M va ml ca Q q ql qc) (hm:ml≤4194304) (hq:ql≤4194304) :
  (Instr.loadAt 151 (.pointer (some ⟨tb,0,none⟩))).run Tryz.prog W=.ok (.agg (⟨o,⟨va,ml,ca,M⟩,⟨q,ql,qc,Q⟩,0⟩:Tld).arr) W ∧
  (Instr.storeAt 151 (.pointer (some ⟨w.heap.size+1+1,0,none⟩)) (.agg (⟨o,⟨va,ml,ca,M⟩,⟨q,ql,qc,Q⟩,0⟩:Tld).arr)).run Tryz.prog W=.ok () (W.setRow (w.heap.size+1+1) (⟨o,⟨va,ml,ca,M⟩,⟨q,ql,qc,Q⟩,0⟩:Tld).arr) ∧
  (W.setRow (w.heap.size+1+1) (⟨o,⟨va,ml,ca,M⟩,⟨q,ql,qc,Q⟩,0⟩:Tld).arr).heap[w.heap.size+1+1]?=some (.cells (⟨o,⟨va,ml,ca,M⟩,⟨q,ql,qc,Q⟩,0⟩:Tld).arr 151 (0,0)) ∧
  QcB (W.setRow (w.heap.size+1+1) (⟨o,⟨va,ml,ca,M⟩,⟨q,ql,qc,Q⟩,0⟩:Tld).arr) ⟨o,⟨va,ml,ca,M⟩,⟨q,ql,qc,Q⟩,0⟩∧(⟨o,⟨va,ml,ca,M⟩,⟨q,ql,qc,Q⟩,0⟩:Tld).far w.heap.size a∧Below w.heap.size w (W.setRow (w.heap.size+1+1) (⟨o,⟨va,ml,ca,M⟩,⟨q,ql,qc,Q⟩,0⟩:Tld).arr):=by
 obtain⟨h1,h2,h3,h4⟩:=h.jb.store ⟨o,⟨va,ml,ca,M⟩,⟨q,ql,qc,Q⟩,0⟩
 have far:∀{t:TypeId} {k n c:Nat} {p:Option Addr} {xs:List Value},W.ownsRow (w.heap.size+1+1+1) t k (.slice p n c) n xs→∀g,p=some g→g.block≠w.heap.size+1+1:=fun {t k n c p xs} hr g e hgb=>by
  have:=Z.owns_base hr g.block (by rw[e];rfl);omega
 have hi:∀{t:TypeId} {k n c:Nat} {p:Option Addr} {xs:List Value},W.ownsRow (w.heap.size+1+1+1) t k (.slice p n c) n xs→∀g,p=some g→w.heap.size≤g.block:=fun {t k n c p xs} hr g e=>by
  have:=Z.owns_base hr g.block (by rw[e];rfl);omega
 refine⟨Z.loadAt_row h.box Tryz.underlying151 rfl Tryz.sizeT,h1,h2,h4 ⟨⟨h.len,hm,Z.cel_row (f:=Qal) (sz:=2) (fun _=>rfl) h.made h.len⟩,⟨h.qlen,hq,Z.cel_row (f:=Qar) (sz:=3) (fun _=>rfl) h.sets h.qlen⟩⟩ (fun _=>far h.made) (fun _=>far h.sets),⟨fun _ g e=>Or.inl (hi h.made g e),fun _ g e=>hi h.sets g e⟩,h3⟩
theorem Qhj (w:World) (s:Sta) (hs:Qae w s) (hpm:s.pn≤4194304) (hpw:∀p∈s.pools,Qaw (frL p)) (a:Acd) (hok:Qad w a) (hwf:∀x∈a.lines.xs,Qaw x) (hrl:∀x∈a.lines.xs,RgL s x) (hrp:∀x∈a.sets.xs,RgP s x) :
  Calls Tryz.prog 180 #[.agg (qS s),.agg (qA a)] w fun e w'=>∃T:Tld,e=.returned (.agg T.arr)∧T.d=Qbo s a.lines.xs a.sets.xs∧QcB w' T∧T.far w.heap.size a∧Below w.heap.size w w':=by
 obtain⟨w2,hw2,hJ⟩:=Qc3 w s a;have hz2:w2.heap.size=w.heap.size+1+1+1:=by rw[←hw2];simp
 obtain⟨i0,hi,hz0,hz1,hzb⟩:=info_parts (show (Tryz.prog.info? 118).map (fun i=>(i.zero,i.size,i.bytes))=some (some (.agg #[.int .i64 0,.int .i64 0]),2,16) by kernel_rfl);obtain⟨w3,hmk,hown3,hgr3⟩:=run_makeSlice_full (P:=Tryz.prog) w2 w2.heap.size 119 118 i0 (.agg #[.int .i64 0,.int .i64 0]) 2 Tryz.underlying119 hi hz0 hz1 .i64 .i64 s.pn (by omega) (by rw[hzb];omega) (by unfold maxLen;omega) (Va _);have hb3:Below w2.heap.size w2 w3:=bR.grown hgr3 (Va _) (fun k e=>by cases e)
 have HC3:Hid (Clb w s a w3 (QdV s 0)):=by
  refine⟨hJ.below hb3,?_⟩;rw[←hz2]
  have e:(madeCells (Value.agg #[.int .i64 0,.int .i64 0]).cells (s.pn*2)).toList=Z.flat Qal (QdV s 0):=by
   rw[show (Value.agg #[.int .i64 0,.int .i64 0]).cells=#[.int .i64 0,.int .i64 0] from rfl,Qkv];unfold QdV;rw[List.take_zero,List.map_nil,VU,Nat.sub_zero,Qks]
  rw[←e];exact hown3
 obtain⟨HW2,HMk,HS,HOk,HWf,HRl,HRp,HPw,HJ⟩:=hd9 hw2 hmk hs hok hwf hrl hrp hpw hJ;obtain⟨⟨c0,c1,c2,c3,c4,c5⟩,⟨a0,a1,a2,a3,a4,a5,a6,a7,a8,a9,a10,a11,a12,a13,a14⟩⟩:=hJ.cells;clear hok hwf hrl hrp hpw hw2 hJ hs hmk hown3 hgr3 hb3 hi hz0 hz1 hzb;go_enter Tryz.func180,Tryz.ntmps180;go_upto_region 1 with (fail);rw[HW2.out];have hmk:=HMk.out;go_wp2_with fail
 clear hmk c0 c1 c2 c3 c4 c5 a0 a1 a2 a3 a4 a5 a6 a7 a8 a9 a10 a11 a12 a13 a14;go_loopw [6] (fun i wr=>∃j:Nat,j≤s.pn∧i=.int .i64 j∧Hid (Clb w s a wr (QdV s j))) (fun i _=>s.pn - (intOf i).toNat);case atStart=>exact⟨0,Vo _,rfl,HC3⟩
 case round =>
  obtain⟨j,hj,rfl,HC⟩:=hrel;obtain⟨⟨c0,c1,c2,c3,c4,c5⟩,⟨a0,a1,a2,a3,a4,a5,a6,a7,a8,a9,a10,a11,a12,a13,a14⟩⟩:=HC.out.jb.cells;by_cases hlt:j<s.pn
  ·have hlt':(j:Int)<(s.pn:Int):=by omega
   have j0':(0:Int)≤(j:Int):=by omega
   obtain⟨P,hP⟩:∃P,s.pools[j]?=some P:=⟨_,gE (by rw[HS.out.pn];exact hlt)⟩;obtain⟨pb,po,ep,hpb0,hpc⟩:=HS.out.pools.get (i:=j) (r:=plc P) (by rw[Vb,hP];rfl);obtain⟨f1,f2⟩:=QiC HS.out.pn hP;obtain⟨r0,r1,rf⟩:=QcG HC.out.row f2;have b1:=(HC.out.jb.bel.cell (p:=⟨pb,po+j*4+1,none⟩) hpb0).trans (hpc 1 _ rfl);have b2:=(HC.out.jb.bel.cell (p:=⟨pb,po+j*4+2,none⟩) hpb0).trans (hpc 2 _ rfl);rw[ep]at c1;have rf0:=rf (j*2);have rf1:=rf (j*2+1)
   have HNx:Hid (Clb w s a ((wr.setCell ⟨w.heap.size+1+1+1,j*2,none⟩ (.int .i64 P.f0)).setCell ⟨w.heap.size+1+1+1,j*2+1,none⟩ (.int .i64 P.f1)) (QdV s (j+1))):=by
    have h:=(HC.out.set0 f2 P.f0).set1 (QdJ f2 _) P.f1;rw[List.set_set]at h;rw[←f1];exact h
   clear hpc rf f1 f2;go_wp2;go_roundw;case rel=>exact⟨j+1,by omega,by go_num,HNx⟩
   case measure=>simp[intOf];omega
  ·have hlt':¬(j:Int)<(s.pn:Int):=by omega
   obtain rfl:j=s.pn:=by omega
   have hfr:QdV s s.pn=s.pools.map frL:=by unfold QdV;rw[Vh (by rw[HS.out.pn];omega),Nat.sub_self];simp
   have HC4:Hid (Clt w s a (wr.alloc (.cells #[.int .i64 0,.slice none 0 0,.slice none 0 0,.int .i64 0] 151)) (QaC s (a.lines.xs.take 0)).1 wr.heap.size (QaC s (a.lines.xs.take 0)).2 none 0 0):=by
    have hal:Below wr.heap.size wr (wr.alloc (.cells #[.int .i64 0,.slice none 0 0,.slice none 0 0,.int .i64 0] 151)):=bR.alloc (Va _) _;have h:=HC.out;rw[hfr]at h;obtain⟨C,hC⟩:=h.blk;exact⟨h.below hal,Qab hC,hNq _ _,rfl,VQ _ _ _ _⟩
   obtain⟨tb,htb⟩:=exq wr.heap.size;obtain⟨w5,hw5⟩:=exq (wr.alloc (.cells #[.int .i64 0,.slice none 0 0,.slice none 0 0,.int .i64 0] 151));have HW5:=Qaa hw5;rw[hw5,htb]at HC4;have HTb:=Qaa htb;clear hw5 htb;go_upto_region 7 with (fail);rw[HW5.out,HTb.out];go_wp2_with fail
   clear c0 c1 c2 c3 c4 c5 a0 a1 a2 a3 a4 a5 a6 a7 a8 a9 a10 a11 a12 a13 a14 HTb HC HW5 hfr;have hlm:=HOk.out.lines.most;go_loopw [8] (fun i wr=>∃(j ml:Nat) (va:Option Addr) (ca:Nat),j≤a.lines.n∧i=.int .i64 j∧ml≤j∧Hid (Clt w s a wr (QaC s (a.lines.xs.take j)).1 tb (QaC s (a.lines.xs.take j)).2 va ml ca)) (fun i _=>a.lines.n - (intOf i).toNat);case atStart=>exact⟨0,0,none,0,Vo _,rfl,Va _,HC4⟩
   case round =>
    obtain⟨j,ml,va,ca,hj,rfl,hml,HC⟩:=hrel;obtain⟨⟨c0,c1,c2,c3,c4,c5⟩,⟨a0,a1,a2,a3,a4,a5,a6,a7,a8,a9,a10,a11,a12,a13,a14⟩⟩:=HC.out.cb.jb.cells;by_cases hlt:j<a.lines.n
    ·have hlt':(j:Int)<(a.lines.n:Int):=by omega
     have j0':(0:Int)≤(j:Int):=by omega
     obtain⟨x,hx⟩:∃x,a.lines.xs[j]?=some x:=⟨_,gE (by rw[HOk.out.lines.len];exact hlt)⟩;obtain⟨b,o,eb,hbl,hcl⟩:=HOk.out.lines.cel.get (i:=j) (r:=Qal x) (by rw[Vb,hx];rfl);have hxw:=HWf.out x (mG hx);obtain⟨k,hxk,hkn⟩:=HRl.out x (mG hx);have HTk:Hid (QaC s (a.lines.xs.take (j+1))=Qax (QaC s (a.lines.xs.take j)) x):=by show _=_;rw[Z.take_snoc hx];exact QfR _ _ _
     have hFw:=Qjr HPw.out (a.lines.xs.take j);have hFl:=(Qhp s (a.lines.xs.take j)).1;generalize QaC s (a.lines.xs.take j)=FM at HC HTk hFw hFl;obtain⟨F,M⟩:=FM;simp only at HC hFw hFl;obtain⟨f,hf⟩:∃f,F[k]?=some f:=⟨_,gE (by rw[hFl,HS.out.pn];exact hkn)⟩;have hfw:=hFw f (mG hf);have HF:=Qaa hf;obtain⟨xc,xn⟩:=x;simp only at hxk;subst hxk;have hgd:F.getD (k:Int).toNat ⟨0,0⟩=f:=by rw[Vv,Vu,hf];rfl
     have k1:(k:Int)<(s.pn:Int):=by omega
     have k0:(0:Int)≤(k:Int):=by omega
     have l0:=(HC.out.cb.jb.bel.cell (p:=⟨b,o+j*2,none⟩) hbl).trans (hcl 0 _ rfl);have l1:=(HC.out.cb.jb.bel.cell (p:=⟨b,o+j*2+1,none⟩) hbl).trans (hcl 1 _ rfl);rw[eb]at a4;have HLn:Hid (∀W,Below w.heap.size w W→W.cell? ⟨b,o+j*2,none⟩=some (.int .i64 k)∧W.cell? ⟨b,o+j*2+1,none⟩=some (.int .i64 xn)):=fun W hb=>⟨(hb.cell (p:=⟨b,o+j*2,none⟩) hbl).trans (hcl 0 _ rfl),(hb.cell (p:=⟨b,o+j*2+1,none⟩) hbl).trans (hcl 1 _ rfl)⟩
     obtain⟨r0,r1,rf⟩:=QcG HC.out.cb.row hf;obtain⟨fc,fn⟩:=f;obtain⟨hf0,hf1⟩:=hfw;simp only at r0 r1 hf0 hf1;have hbw:=Qab HC.out.box;clear hcl hx hFw hFl rf hf eb;have HCd:Hid (Clt w s a wr.drew F tb M va ml ca):=HC.out.below ((Below.refl _ wr).drew);by_cases hn:xn<0
     ·have hwy:Qam xn=0:=by simp[Qam,hn]
      have hcu:Qcp F ⟨(k:Int),xn⟩=QfJ xn fc:=by unfold Qcp frW;simp only[hgd];rw[if_pos hn]
      have hmv:∀y,Qd8 (F.getD k ⟨0,0⟩) xn y=⟨wrap64 (fc - y),wrap64 (fn+y)⟩:=fun y=>by rw[Vv]at hgd;rw[hgd];unfold Qd8;rw[if_pos hn]
      have HWy:=Qaa (fun W=>Qgs xn W);rw[hwy]at HWy;have HCu:=Qaa (fun W=>QgU W xn fc hxw.2 hf0);have hyw:=Qf7 hxw.2 hf0;generalize QfJ xn fc=y at HCu hcu hyw;by_cases hy:y=0
      ·have HNx:Hid (QaC s (a.lines.xs.take (j+1))=(F,M)):=by show _=_;rw[HTk.out];unfold Qax;rw[if_pos (by rw[hcu];exact hy)]
       subst hy;clear hcu hmv hgd hwy hf0 hf1 hyw hxw hbw;go_upto_region 12 with (first | (go_at_call 106;refine(HWy.out _).mono ?_;rintro e w3 ⟨rfl,h9⟩;rw[h9];clear h9 w3) | fail);go_region_held3 (fun w'=>w'.cell? ⟨w.heap.size+1,4,none⟩=some (.slice (some ⟨b,o,none⟩) a.lines.n a.lines.c)∧w'.cell? ⟨b,o+j*2+1,none⟩=some (.int .i64 xn)∧w'.cell? ⟨w.heap.size+1+1+1,k*2,none⟩=some (.int .i64 fc)) (go_keep) (first | (go_at_call 205;refine(HCu.out _).mono ?_;rintro e w3 ⟨rfl,rfl⟩) | fail);go_wp2;go_roundw;case rel=>exact⟨j+1,ml,va,ca,by omega,by go_num,by omega,by rw[HNx.out];exact HCd⟩
       case measure=>simp[intOf];omega
      ·have HAm:=Qaa (fun W=>QdK y hyw W)
       have hcv:=QdH y hyw;have HNx:Hid (QaC s (a.lines.xs.take (j+1))=(F.set k ⟨wrap64 (fc - Qbh y),wrap64 (fn+Qbh y)⟩,M++[⟨(k:Int),y⟩])):=by show _=_;rw[HTk.out];unfold Qax;rw[if_neg (by rw[hcu];exact hy)];simp only[hcu,hmv,Vv]
       generalize QdD y=yu at HAm hcv;generalize Qbh y=ya at hcv HNx;obtain⟨v0,hv0⟩:=exq (wrap64 (fc - ya));obtain⟨v1,hv1⟩:=exq (wrap64 (fn+ya));rw[hv0,hv1]at HNx;have hu0:IntKind.i64.wrap (fc - ya)=v0:=by rw[←hv0];exact Qaq _
       have hu1:IntKind.i64.wrap (fn+ya)=v1:=by rw[←hv1];exact Qaq _
       clear hcu hmv hgd hwy hf0 hf1 hyw hxw hbw hv0 hv1;go_upto_region 12 with (first | (go_at_call 106;refine(HWy.out _).mono ?_;rintro e w3 ⟨rfl,h9⟩;rw[h9];clear h9 w3) | fail);go_region_held3 (fun w'=>w'.cell? ⟨w.heap.size+1,4,none⟩=some (.slice (some ⟨b,o,none⟩) a.lines.n a.lines.c)∧w'.cell? ⟨b,o+j*2+1,none⟩=some (.int .i64 xn)∧w'.cell? ⟨w.heap.size+1+1+1,k*2,none⟩=some (.int .i64 fc)) (go_keep) (first | (go_at_call 205;refine(HCu.out _).mono ?_;rintro e w3 ⟨rfl,rfl⟩) | fail);go_upto_region 15 with (first | (go_at_call 107;refine(HAm.out _).mono ?_;rintro e w3 ⟨rfl,h9⟩;rw[h9];clear h9 w3) | fail);obtain⟨w4,hw4⟩:=exq wr.drew;rw[hw4]at HCd ⊢;clear hw4 r0 r1 l0 l1 c0 c1 c2 c3 c4 c5 a0 a1 a2 a3 a4 a5 a6 a7 a8 a9 a10 a11 a12 a13 a14;obtain⟨r0,r1,rf⟩:=QcG HCd.out.cb.row HF.out;simp only at r0 r1;have rf0:=rf (k*2);have rf1:=rf (k*2+1);refine Vi ?_;refine Vf (S:=fun _=>True) (by kernel_rfl) (by trivial) (fun hHeld=>?_);refine tkk 0 (hS:=trivial) ?_;refine tkk 1 (hS:=trivial) ?_;refine tkk 2 (hS:=trivial) ?_;refine tkk 3 (hS:=trivial) ?_;refine tkk 4 (hS:=trivial) ?_;refine tkk 5 (hS:=trivial) ?_;refine tkk 6 (hS:=trivial) ?_;refine tkk 7 (hS:=trivial) ?_;refine tkk 9 (hS:=trivial) ?_;refine tkk 11 (hS:=trivial) ?_;refine rdy 8 (fun KK hKK=>?_);go_simp;refine hKK.out _ _ (by trivial) (fun hHeld=>?_);clear hKK KK;try simp only[Act.put,qzs,qz0,qz1]
       refine tkk 10 (hS:=trivial) ?_;refine tkk 12 (hS:=trivial) ?_;refine rdy 13 (fun KK hKK=>?_);go_simp;refine hKK.out _ _ (by trivial) (fun hHeld=>?_);clear hKK KK;try simp only[Act.put,qzs,qz0,qz1]
       refine Vp (by kernel_rfl) (Vj ?_) _;go_upto_region 16 with (fail);obtain⟨w5,hw5⟩:=exq (w4.setCell ⟨w.heap.size+1+1+1,k*2,none⟩ (.int .i64 v0));have HC5:Hid (Clt w s a w5.drew (F.set k ⟨v0,fn⟩) tb M va ml ca):=by show Clt _ _ _ _ _ _ _ _ _ _;rw[←hw5];exact(HCd.out.set0 HF.out v0).below (bR.drew)
       rw[hw5];clear hw5 r0 r1 rf rf0 rf1;obtain⟨w6,hw6⟩:=exq w5.drew;rw[hw6]at HC5 ⊢;clear hw6;have HF5:=Qaa (QdJ HF.out ⟨v0,fn⟩);have hw1:IntKind.i64.wrap 1=1:=by decide
       have hw0:IntKind.i64.wrap 0=0:=by decide
       obtain⟨r0,r1,rf⟩:=QcG HC5.out.cb.row HF5.out;simp only at r0 r1;have rf0:=rf (k*2);have rf1:=rf (k*2+1);refine Vi ?_;refine Vf (S:=fun _=>True) (by kernel_rfl) (by trivial) (fun hHeld=>?_);refine tkk 0 (hS:=trivial) ?_;refine tkk 1 (hS:=trivial) ?_;refine tkk 2 (hS:=trivial) ?_;refine tkk 3 (hS:=trivial) ?_;refine tkk 4 (hS:=trivial) ?_;refine tkk 5 (hS:=trivial) ?_;refine tkk 6 (hS:=trivial) ?_;refine tkk 7 (hS:=trivial) ?_;refine tkk 8 (hS:=trivial) ?_;refine tkk 9 (hS:=trivial) ?_;refine tkk 11 (hS:=trivial) ?_;refine tkk 13 (hS:=trivial) ?_;refine rdy 10 (fun KK hKK=>?_);go_simp;refine hKK.out _ _ (by trivial) (fun hHeld=>?_);clear hKK KK;try simp only[Act.put,qzs,qz0,qz1]
       refine tkk 12 (hS:=trivial) ?_;refine tkk 14 (hS:=trivial) ?_;refine rdy 15 (fun KK hKK=>?_);go_simp;refine hKK.out _ _ (by trivial) (fun hHeld=>?_);clear hKK KK;try simp only[Act.put,qzs,qz0,qz1]
       refine Vp (by kernel_rfl) (Vj ?_) _;go_upto_region 17 with (fail);obtain⟨w8,hw8⟩:=exq (w6.setCell ⟨w.heap.size+1+1+1,k*2+1,none⟩ (.int .i64 v1));have HC8:Hid (Clt w s a w8.drew (F.set k ⟨v0,v1⟩) tb M va ml ca):=by show Clt _ _ _ _ _ _ _ _ _ _;rw[←hw8];have h:=(HC5.out.set1 HF5.out v1).below (bR.drew);rw[List.set_set]at h;exact h
       rw[hw8];clear hw8 r0 r1 rf rf0 rf1;obtain⟨w9,hw9⟩:=exq w8.drew;rw[hw9]at HC8 ⊢;clear hw9;obtain⟨p7,d7,w7,hr7,⟨u7,hu7⟩,hf7,hC7⟩:=HC8.out.app ⟨(k:Int),y⟩ (by omega);obtain⟨HR7,HC7⟩:=Qmj hr7 hC7;have t1:w9.cell? ⟨tb,1,none⟩=some (.slice va ml ca):=by rw[cRq HC8.out.box];rfl
       clear hr7 hC7;go_wp2_with (at_builtin;refine Z.lp_append (.slice va ml ca) (.slice (some ⟨w9.heap.size,0,none⟩) 1 1) rfl rfl ⟨_,w7,HR7.out,?_⟩)
       go_roundw;case rel=>exact⟨j+1,ml+1,p7,d7,by omega,by go_num,by omega,by rw[HNx.out];exact HC7⟩
       case measure=>simp[intOf];omega
     ·have hwy:Qam xn=1:=by simp[Qam,hn]
      have hcu:Qcp F ⟨(k:Int),xn⟩=QfJ xn fn:=by unfold Qcp frW;simp only[hgd];rw[if_neg hn]
      have hmv:∀y,Qd8 (F.getD k ⟨0,0⟩) xn y=⟨wrap64 (fc+y),wrap64 (fn - y)⟩:=fun y=>by rw[Vv]at hgd;rw[hgd];unfold Qd8;rw[if_neg hn]
      have HWy:=Qaa (fun W=>Qgs xn W);rw[hwy]at HWy;have HCu:=Qaa (fun W=>QgU W xn fn hxw.2 hf1);have hyw:=Qf7 hxw.2 hf1;generalize QfJ xn fn=y at HCu hcu hyw;by_cases hy:y=0
      ·have HNx:Hid (QaC s (a.lines.xs.take (j+1))=(F,M)):=by show _=_;rw[HTk.out];unfold Qax;rw[if_pos (by rw[hcu];exact hy)]
       subst hy;clear hcu hmv hgd hwy hf0 hf1 hyw hxw hbw;go_upto_region 12 with (first | (go_at_call 106;refine(HWy.out _).mono ?_;rintro e w3 ⟨rfl,h9⟩;rw[h9];clear h9 w3) | fail);go_region_held3 (fun w'=>w'.cell? ⟨w.heap.size+1,4,none⟩=some (.slice (some ⟨b,o,none⟩) a.lines.n a.lines.c)∧w'.cell? ⟨b,o+j*2+1,none⟩=some (.int .i64 xn)∧w'.cell? ⟨w.heap.size+1+1+1,k*2+1,none⟩=some (.int .i64 fn)) (go_keep) (first | (go_at_call 205;refine(HCu.out _).mono ?_;rintro e w3 ⟨rfl,rfl⟩) | fail);go_wp2;go_roundw;case rel=>exact⟨j+1,ml,va,ca,by omega,by go_num,by omega,by rw[HNx.out];exact HCd⟩
       case measure=>simp[intOf];omega
      ·have HAm:=Qaa (fun W=>QdK y hyw W)
       have hcv:=QdH y hyw;have HNx:Hid (QaC s (a.lines.xs.take (j+1))=(F.set k ⟨wrap64 (fc+Qbh y),wrap64 (fn - Qbh y)⟩,M++[⟨(k:Int),y⟩])):=by show _=_;rw[HTk.out];unfold Qax;rw[if_neg (by rw[hcu];exact hy)];simp only[hcu,hmv,Vv]
       generalize QdD y=yu at HAm hcv;generalize Qbh y=ya at hcv HNx;obtain⟨v0,hv0⟩:=exq (wrap64 (fc+ya));obtain⟨v1,hv1⟩:=exq (wrap64 (fn - ya));rw[hv0,hv1]at HNx;have hu0:IntKind.i64.wrap (fc+ya)=v0:=by rw[←hv0];exact Qaq _
       have hu1:IntKind.i64.wrap (fn - ya)=v1:=by rw[←hv1];exact Qaq _
       clear hcu hmv hgd hwy hf0 hf1 hyw hxw hbw hv0 hv1;go_upto_region 12 with (first | (go_at_call 106;refine(HWy.out _).mono ?_;rintro e w3 ⟨rfl,h9⟩;rw[h9];clear h9 w3) | fail);go_region_held3 (fun w'=>w'.cell? ⟨w.heap.size+1,4,none⟩=some (.slice (some ⟨b,o,none⟩) a.lines.n a.lines.c)∧w'.cell? ⟨b,o+j*2+1,none⟩=some (.int .i64 xn)∧w'.cell? ⟨w.heap.size+1+1+1,k*2+1,none⟩=some (.int .i64 fn)) (go_keep) (first | (go_at_call 205;refine(HCu.out _).mono ?_;rintro e w3 ⟨rfl,rfl⟩) | fail);go_upto_region 15 with (first | (go_at_call 107;refine(HAm.out _).mono ?_;rintro e w3 ⟨rfl,h9⟩;rw[h9];clear h9 w3) | fail);obtain⟨w4,hw4⟩:=exq wr.drew;rw[hw4]at HCd ⊢;clear hw4 r0 r1 l0 l1 c0 c1 c2 c3 c4 c5 a0 a1 a2 a3 a4 a5 a6 a7 a8 a9 a10 a11 a12 a13 a14;obtain⟨r0,r1,rf⟩:=QcG HCd.out.cb.row HF.out;simp only at r0 r1;have rf0:=rf (k*2);have rf1:=rf (k*2+1);refine Vi ?_;refine Vf (S:=fun _=>True) (by kernel_rfl) (by trivial) (fun hHeld=>?_);refine tkk 0 (hS:=trivial) ?_;refine tkk 1 (hS:=trivial) ?_;refine tkk 2 (hS:=trivial) ?_;refine tkk 3 (hS:=trivial) ?_;refine tkk 4 (hS:=trivial) ?_;refine tkk 5 (hS:=trivial) ?_;refine tkk 6 (hS:=trivial) ?_;refine tkk 7 (hS:=trivial) ?_;refine tkk 9 (hS:=trivial) ?_;refine tkk 11 (hS:=trivial) ?_;refine rdy 8 (fun KK hKK=>?_);go_simp;refine hKK.out _ _ (by trivial) (fun hHeld=>?_);clear hKK KK;try simp only[Act.put,qzs,qz0,qz1]
       refine tkk 10 (hS:=trivial) ?_;refine tkk 12 (hS:=trivial) ?_;refine rdy 13 (fun KK hKK=>?_);go_simp;refine hKK.out _ _ (by trivial) (fun hHeld=>?_);clear hKK KK;try simp only[Act.put,qzs,qz0,qz1]
       refine Vp (by kernel_rfl) (Vj ?_) _;go_upto_region 16 with (fail);obtain⟨w5,hw5⟩:=exq (w4.setCell ⟨w.heap.size+1+1+1,k*2+1,none⟩ (.int .i64 v1));have HC5:Hid (Clt w s a w5.drew (F.set k ⟨fc,v1⟩) tb M va ml ca):=by show Clt _ _ _ _ _ _ _ _ _ _;rw[←hw5];exact(HCd.out.set1 HF.out v1).below (bR.drew)
       rw[hw5];clear hw5 r0 r1 rf rf0 rf1;obtain⟨w6,hw6⟩:=exq w5.drew;rw[hw6]at HC5 ⊢;clear hw6;have HF5:=Qaa (QdJ HF.out ⟨fc,v1⟩);have hw1:IntKind.i64.wrap 1=1:=by decide
       have hw0:IntKind.i64.wrap 0=0:=by decide
       obtain⟨r0,r1,rf⟩:=QcG HC5.out.cb.row HF5.out;simp only at r0 r1;have rf0:=rf (k*2);have rf1:=rf (k*2+1);refine Vi ?_;refine Vf (S:=fun _=>True) (by kernel_rfl) (by trivial) (fun hHeld=>?_);refine tkk 0 (hS:=trivial) ?_;refine tkk 1 (hS:=trivial) ?_;refine tkk 2 (hS:=trivial) ?_;refine tkk 3 (hS:=trivial) ?_;refine tkk 4 (hS:=trivial) ?_;refine tkk 5 (hS:=trivial) ?_;refine tkk 6 (hS:=trivial) ?_;refine tkk 7 (hS:=trivial) ?_;refine tkk 8 (hS:=trivial) ?_;refine tkk 9 (hS:=trivial) ?_;refine tkk 11 (hS:=trivial) ?_;refine tkk 13 (hS:=trivial) ?_;refine rdy 10 (fun KK hKK=>?_);go_simp;refine hKK.out _ _ (by trivial) (fun hHeld=>?_);clear hKK KK;try simp only[Act.put,qzs,qz0,qz1]
       refine tkk 12 (hS:=trivial) ?_;refine tkk 14 (hS:=trivial) ?_;refine rdy 15 (fun KK hKK=>?_);go_simp;refine hKK.out _ _ (by trivial) (fun hHeld=>?_);clear hKK KK;try simp only[Act.put,qzs,qz0,qz1]
       refine Vp (by kernel_rfl) (Vj ?_) _;go_upto_region 17 with (fail);obtain⟨w8,hw8⟩:=exq (w6.setCell ⟨w.heap.size+1+1+1,k*2,none⟩ (.int .i64 v0));have HC8:Hid (Clt w s a w8.drew (F.set k ⟨v0,v1⟩) tb M va ml ca):=by show Clt _ _ _ _ _ _ _ _ _ _;rw[←hw8];have h:=(HC5.out.set0 HF5.out v0).below (bR.drew);rw[List.set_set]at h;exact h
       rw[hw8];clear hw8 r0 r1 rf rf0 rf1;obtain⟨w9,hw9⟩:=exq w8.drew;rw[hw9]at HC8 ⊢;clear hw9;obtain⟨p7,d7,w7,hr7,⟨u7,hu7⟩,hf7,hC7⟩:=HC8.out.app ⟨(k:Int),y⟩ (by omega);obtain⟨HR7,HC7⟩:=Qmj hr7 hC7;have t1:w9.cell? ⟨tb,1,none⟩=some (.slice va ml ca):=by rw[cRq HC8.out.box];rfl
       clear hr7 hC7;go_wp2_with (at_builtin;refine Z.lp_append (.slice va ml ca) (.slice (some ⟨w9.heap.size,0,none⟩) 1 1) rfl rfl ⟨_,w7,HR7.out,?_⟩)
       go_roundw;case rel=>exact⟨j+1,ml+1,p7,d7,by omega,by go_num,by omega,by rw[HNx.out];exact HC7⟩
       case measure=>simp[intOf];omega
    ·have hlt':¬(j:Int)<(a.lines.n:Int):=by omega
     obtain rfl:j=a.lines.n:=by omega
     have HFd:Hid (QaC s (a.lines.xs.take a.lines.n)=QaC s a.lines.xs):=by show _=_;rw[Vh (by rw[HOk.out.lines.len];omega)]
     rw[HFd.out]at HC;generalize hFM:QaC s a.lines.xs=FM at HC;have HFM:=Qaa hFM;obtain⟨F,M⟩:=FM;simp only at HC;have hsm:=HOk.out.sets.most;have hml2:ml≤4194304:=by omega
     have HNil:Hid (wr.ownsRow (w.heap.size+1+1+1) 76 3 (.slice none 0 0) 0 (Z.flat Qar [])):=VQ _ _ _ _;clear hFM HFd hlt hj hlm hml;go_wp2_with fail
     clear c0 c1 c2 c3 c4 c5 a0 a1 a2 a3 a4 a5 a6 a7 a8 a9 a10 a11 a12 a13 a14 hlt';go_loopw [13,14] (fun ov i wr=>∃(j:Nat) (q:Option Addr) (ql qc:Nat),j≤a.sets.n∧i=.int .i64 j∧ql≤j∧ov=.slice q ql qc∧Hid (((a.sets.xs.take j).filter s.want).length=ql)∧Hid (wr.ownsRow (w.heap.size+1+1+1) 76 3 (.slice q ql qc) ql (Z.flat Qar ((a.sets.xs.take j).filter s.want)))∧Hid (Clt w s a wr F tb M va ml ca)) (fun _ i _=>a.sets.n - (intOf i).toNat);case atStart=>exact⟨0,none,0,0,Vo _,rfl,Va _,rfl,rfl,HNil,HC⟩
     case round =>
      clear HNil HC;obtain⟨j,q,ql,qc,hj,rfl,hql,rfl,HQl,HO,HC⟩:=hrel;obtain⟨⟨c0,c1,c2,c3,c4,c5⟩,⟨a0,a1,a2,a3,a4,a5,a6,a7,a8,a9,a10,a11,a12,a13,a14⟩⟩:=HC.out.cb.jb.cells;by_cases hlt:j<a.sets.n
      ·have hlt':(j:Int)<(a.sets.n:Int):=by omega
       have j0':(0:Int)≤(j:Int):=by omega
       obtain⟨x,hx⟩:∃x,a.sets.xs[j]?=some x:=⟨_,gE (by rw[HOk.out.sets.len];exact hlt)⟩;obtain⟨b,o,eb,hbl,hcl⟩:=HOk.out.sets.cel.get (i:=j) (r:=Qar x) (by rw[Vb,hx];rfl);have HTk:=Qaa (show (a.sets.xs.take (j+1)).filter s.want=(a.sets.xs.take j).filter s.want++(if s.want x then [x] else []) by rw[Z.take_snoc hx,List.filter_append];simp[List.filter_cons]);obtain⟨k,hxk,hkn⟩:=HRp.out x (mG hx);obtain⟨xa,xb,xd⟩:=x;simp only at hxk;subst hxk;obtain⟨P,hP⟩:∃P,s.prices[k]?=some P:=⟨_,gE (by rw[HS.out.rn];exact hkn)⟩;obtain⟨pb,po,ep,hpb,hpc⟩:=HS.out.prices.get (i:=k) (r:=Qal P) (by rw[Vb,hP];rfl);have hV:s.want ⟨k,xb,xd⟩=(decide (P.n<1099511627776) && (decide (xb = -1) || decide (xb=P.n))):=by unfold Sta.want Sta.isOpen;simp only;rw[(Qbe (z:=(⟨0,0⟩:Lin)) hP).1,(Qbe (z:=(⟨0,0⟩:Lin)) hP).2];rfl
       obtain⟨rn,hrn⟩:=exq s.rn;obtain⟨pv,hpv⟩:=exq P.n;rw[hpv]at hV;have k1:(k:Int)<(rn:Int):=by omega
       have k0:(0:Int)≤(k:Int):=by omega
       have HZ:Hid (∀W,Below w.heap.size w W→W.cell? ⟨b,o+j*3,none⟩=some (.int .i64 k)∧W.cell? ⟨b,o+j*3+1,none⟩=some (.int .i64 xb)∧W.cell? ⟨b,o+j*3+2,none⟩=some (.int .i64 xd)∧W.cell? ⟨pb,po+k*2+1,none⟩=some (.int .i64 pv)):=fun W hb=>by
        refine⟨(hb.cell (p:=⟨b,o+j*3,none⟩) hbl).trans (hcl 0 _ rfl),(hb.cell (p:=⟨b,o+j*3+1,none⟩) hbl).trans (hcl 1 _ rfl),(hb.cell (p:=⟨b,o+j*3+2,none⟩) hbl).trans (hcl 2 _ rfl),?_⟩;rw[←hpv];exact(hb.cell (p:=⟨pb,po+k*2+1,none⟩) hpb).trans (hpc 1 _ rfl)
       obtain⟨z0,z1,z2,z3⟩:=HZ.out wr HC.out.cb.jb.bel;have HA6:Hid (∀W,Jb w s a W→W.cell? ⟨w.heap.size+1,6,none⟩=some (.slice (some ⟨b,o,none⟩) a.sets.n a.sets.c)):=fun W h=>by have h6:=h.cells.2.2.2.2.2.2.2.1;rw[eb]at h6;exact h6
       rw[hrn,ep]at c2;rw[eb]at a6;clear hcl hx hpc hP hpv eb ep hkn hrn;have HCd:Hid (Clt w s a wr.drew F tb M va ml ca):=HC.out.below ((Below.refl _ wr).drew);have HOd:Hid (wr.drew.ownsRow (w.heap.size+1+1+1) 76 3 (.slice q ql qc) ql (Z.flat Qar ((a.sets.xs.take j).filter s.want))):=Z.owns_keep HO.out ((Below.refl _ wr).drew);by_cases b1:xb = -1
       ·have b1':(xb == -1)=true:=by simp[b1]
        by_cases g1:pv<1099511627776
        ·skip
         have HNx:Hid ((a.sets.xs.take (j+1)).filter s.want=(a.sets.xs.take j).filter s.want++[⟨k,xb,xd⟩]):=by show _=_;rw[HTk.out,hV,if_pos (by simp[b1,g1])]
         clear hV b1;go_upto_region 22 with (fail);go_region_held3 (fun w'=>w'.cell? ⟨w.heap.size,2,none⟩=some (.slice (some ⟨pb,po,none⟩) rn s.rc)∧w'.cell? ⟨w.heap.size+1,6,none⟩=some (.slice (some ⟨b,o,none⟩) a.sets.n a.sets.c)∧w'.cell? ⟨b,o+j*3,none⟩=some (.int .i64 k)∧w'.cell? ⟨pb,po+k*2+1,none⟩=some (.int .i64 pv)) (go_keep) (first | fail);go_upto_region 24 with (fail);obtain⟨w4,hw4⟩:=exq wr.drew;rw[hw4]at HCd HOd ⊢;clear hw4 z0 z1 z2 z3 c0 c1 c2 c3 c4 c5 a0 a1 a2 a3 a4 a5 a6 a7 a8 a9 a10 a11 a12 a13 a14;have hA:Below w4.heap.size w4 (w4.alloc (.cells #[.int .i64 k,.int .i64 xb,.int .i64 xd] 76)):=bR.alloc (Va _) _;have hx1:Cel (w4.alloc (.cells #[.int .i64 k,.int .i64 xb,.int .i64 xd] 76)) (some ⟨w4.heap.size,0,none⟩) 3 ([(⟨k,xb,xd⟩:Tri)].map Qar):=Qg4 _ _ _ _ _;obtain⟨v7,w7,hr7,ho7,hg7,_⟩:=Z.elt_set.run_append (w4.alloc (.cells #[.int .i64 k,.int .i64 xb,.int .i64 xd] 76)) 48 (w.heap.size+1+1+1) ql (.slice q ql qc) _ (Z.owns_keep HOd.out hA) (some ⟨w4.heap.size,0,none⟩) 1 1 [(⟨k,xb,xd⟩:Tri)] rfl hx1 (by omega) (by have:=hA.size;have:=Qab HCd.out.box;have:=HCd.out.hi;omega);obtain⟨q7,d7,rfl,_⟩:=Z.slice_form ho7;have HC7:=Qaa (HCd.out.grown hA (Z.owns_keep HOd.out hA) (by omega) hg7);obtain⟨HR7,HO7,HQ7⟩:=Qmk hr7 ho7 HQl.out;obtain⟨z0,z1,z2,z3⟩:=HZ.out w4 HCd.out.cb.jb.bel;have a6:=HA6.out _ HCd.out.cb.jb;clear hr7 ho7 hg7 hx1 hA;go_wp2_with (at_builtin;refine Z.lp_append (.slice q ql qc) (.slice (some ⟨w4.heap.size,0,none⟩) 1 1) rfl rfl ⟨_,w7,HR7.out,?_⟩)
         go_roundw;case rel=>exact⟨j+1,q7,ql+1,d7,by omega,by go_num,by omega,rfl,by rw[HNx.out,VJ,HQl.out];rfl,by rw[HNx.out,Z.flat_app];exact HO7,HC7⟩
         case measure=>simp[intOf];omega
        ·skip
         have HNx:Hid ((a.sets.xs.take (j+1)).filter s.want=(a.sets.xs.take j).filter s.want):=by show _=_;rw[HTk.out,hV,if_neg (by simp[b1,g1]),List.append_nil]
         clear hV b1;go_upto_region 22 with (fail);go_region_held3 (fun w'=>w'.cell? ⟨w.heap.size,2,none⟩=some (.slice (some ⟨pb,po,none⟩) rn s.rc)∧w'.cell? ⟨w.heap.size+1,6,none⟩=some (.slice (some ⟨b,o,none⟩) a.sets.n a.sets.c)∧w'.cell? ⟨b,o+j*3,none⟩=some (.int .i64 k)∧w'.cell? ⟨pb,po+k*2+1,none⟩=some (.int .i64 pv)) (go_keep) (first | fail);go_wp2;go_roundw;case rel=>exact⟨j+1,q,ql,qc,by omega,by go_num,by omega,rfl,by rw[HNx.out];exact HQl,by rw[HNx.out];exact HOd,HCd⟩
         case measure=>simp[intOf];omega
       ·have b1':(xb == -1)=false:=by simp[b1]
        by_cases b2:xb=pv
        ·have b2':(xb == pv)=true:=by simp[b2]
         by_cases g1:pv<1099511627776
         ·skip
          have HNx:Hid ((a.sets.xs.take (j+1)).filter s.want=(a.sets.xs.take j).filter s.want++[⟨k,xb,xd⟩]):=by show _=_;rw[HTk.out,hV,if_pos (by simp[b2,g1])]
          clear hV b1 b2;go_upto_region 22 with (fail);go_region_held3 (fun w'=>w'.cell? ⟨w.heap.size,2,none⟩=some (.slice (some ⟨pb,po,none⟩) rn s.rc)∧w'.cell? ⟨w.heap.size+1,6,none⟩=some (.slice (some ⟨b,o,none⟩) a.sets.n a.sets.c)∧w'.cell? ⟨b,o+j*3,none⟩=some (.int .i64 k)∧w'.cell? ⟨pb,po+k*2+1,none⟩=some (.int .i64 pv)) (go_keep) (first | fail);go_upto_region 24 with (fail);obtain⟨w4,hw4⟩:=exq wr.drew;rw[hw4]at HCd HOd ⊢;clear hw4 z0 z1 z2 z3 c0 c1 c2 c3 c4 c5 a0 a1 a2 a3 a4 a5 a6 a7 a8 a9 a10 a11 a12 a13 a14;have hA:Below w4.heap.size w4 (w4.alloc (.cells #[.int .i64 k,.int .i64 xb,.int .i64 xd] 76)):=bR.alloc (Va _) _;have hx1:Cel (w4.alloc (.cells #[.int .i64 k,.int .i64 xb,.int .i64 xd] 76)) (some ⟨w4.heap.size,0,none⟩) 3 ([(⟨k,xb,xd⟩:Tri)].map Qar):=Qg4 _ _ _ _ _;obtain⟨v7,w7,hr7,ho7,hg7,_⟩:=Z.elt_set.run_append (w4.alloc (.cells #[.int .i64 k,.int .i64 xb,.int .i64 xd] 76)) 48 (w.heap.size+1+1+1) ql (.slice q ql qc) _ (Z.owns_keep HOd.out hA) (some ⟨w4.heap.size,0,none⟩) 1 1 [(⟨k,xb,xd⟩:Tri)] rfl hx1 (by omega) (by have:=hA.size;have:=Qab HCd.out.box;have:=HCd.out.hi;omega);obtain⟨q7,d7,rfl,_⟩:=Z.slice_form ho7;have HC7:=Qaa (HCd.out.grown hA (Z.owns_keep HOd.out hA) (by omega) hg7);obtain⟨HR7,HO7,HQ7⟩:=Qmk hr7 ho7 HQl.out;obtain⟨z0,z1,z2,z3⟩:=HZ.out w4 HCd.out.cb.jb.bel;have a6:=HA6.out _ HCd.out.cb.jb;clear hr7 ho7 hg7 hx1 hA;go_wp2_with (at_builtin;refine Z.lp_append (.slice q ql qc) (.slice (some ⟨w4.heap.size,0,none⟩) 1 1) rfl rfl ⟨_,w7,HR7.out,?_⟩)
          go_roundw;case rel=>exact⟨j+1,q7,ql+1,d7,by omega,by go_num,by omega,rfl,by rw[HNx.out,VJ,HQl.out];rfl,by rw[HNx.out,Z.flat_app];exact HO7,HC7⟩
          case measure=>simp[intOf];omega
         ·skip
          have HNx:Hid ((a.sets.xs.take (j+1)).filter s.want=(a.sets.xs.take j).filter s.want):=by show _=_;rw[HTk.out,hV,if_neg (by simp[b2,g1]),List.append_nil]
          clear hV b1 b2;go_upto_region 22 with (fail);go_region_held3 (fun w'=>w'.cell? ⟨w.heap.size,2,none⟩=some (.slice (some ⟨pb,po,none⟩) rn s.rc)∧w'.cell? ⟨w.heap.size+1,6,none⟩=some (.slice (some ⟨b,o,none⟩) a.sets.n a.sets.c)∧w'.cell? ⟨b,o+j*3,none⟩=some (.int .i64 k)∧w'.cell? ⟨pb,po+k*2+1,none⟩=some (.int .i64 pv)) (go_keep) (first | fail);go_wp2;go_roundw;case rel=>exact⟨j+1,q,ql,qc,by omega,by go_num,by omega,rfl,by rw[HNx.out];exact HQl,by rw[HNx.out];exact HOd,HCd⟩
          case measure=>simp[intOf];omega
        ·have b2':(xb == pv)=false:=by simp[b2]
         have HNx:Hid ((a.sets.xs.take (j+1)).filter s.want=(a.sets.xs.take j).filter s.want):=by show _=_;rw[HTk.out,hV,if_neg (by simp[b1,b2]),List.append_nil]
         clear hV b1 b2;go_upto_region 22 with (fail);go_region_held3 (fun w'=>w'.cell? ⟨w.heap.size,2,none⟩=some (.slice (some ⟨pb,po,none⟩) rn s.rc)∧w'.cell? ⟨w.heap.size+1,6,none⟩=some (.slice (some ⟨b,o,none⟩) a.sets.n a.sets.c)∧w'.cell? ⟨b,o+j*3,none⟩=some (.int .i64 k)∧w'.cell? ⟨pb,po+k*2+1,none⟩=some (.int .i64 pv)) (go_keep) (first | fail);go_wp2;go_roundw;case rel=>exact⟨j+1,q,ql,qc,by omega,by go_num,by omega,rfl,by rw[HNx.out];exact HQl,by rw[HNx.out];exact HOd,HCd⟩
         case measure=>simp[intOf];omega
      ·have hlt':¬(j:Int)<(a.sets.n:Int):=by omega
       obtain rfl:j=a.sets.n:=by omega
       have HQe:Hid ((a.sets.xs.take a.sets.n).filter s.want=a.sets.xs.filter s.want):=by show _=_;rw[Vh (by rw[HOk.out.sets.len];omega)]
       rw[HQe.out]at HQl HO;have HSu:Hid (∀x∈a.sets.xs.filter s.want,RgP s x):=fun x hx=>HRp.out x (List.mem_filter.1 hx).1
       have HCD:Hid (Qbo s a.lines.xs a.sets.xs=if M.length=0∧ql=0 then (3,[],[],0) else (2,M,(a.sets.xs.filter s.want).map s.raise,0)):=by show _=_;unfold Qbo;rw[HFM.out,HQl.out]
       have HMd:=Qaa (Qfv wr s (HS.out.below HC.out.cb.jb.bel) q ql qc (a.sets.xs.filter s.want) HQl.out (by omega) (Z.cel_row (f:=Qar) (sz:=3) (fun _=>rfl) HO.out HQl.out) HSu.out);unfold Sta.arr at HMd;have hMl:M.length=ml:=HC.out.len;rw[hMl]at HCD;clear HQe hlt hj hMl;go_upto_region 26 with (first | (go_at_call 179;refine HMd.out.mono ?_;rintro e w4 ⟨v4,rfl,ho4,hb4⟩;obtain⟨q4,d4,rfl⟩:=slice_form ho4;have HC4:=Qaa (HC.out.below hb4);have HO4:=Qaa (Z.owns_le (base':=w.heap.size+1+1+1) ho4 (by have:=Qab HC.out.box;have:=HC.out.hi;omega));have t2:w4.cell? ⟨tb,2,none⟩=some (.slice none 0 0):=(by rw[cRq HC4.out.box];rfl);have tf:=VN w4 tb 2 _ _ HC4.out.box;clear ho4 hb4) | fail);have HU:=Qaa (HC4.out.told (ql:=ql) (Q:=(a.sets.xs.filter s.want).map s.raise) (by rw[VG];exact HQl.out) (by rw[←Qci];exact HO4.out));obtain⟨y1,hy1⟩:=exq (w4.setCell ⟨tb,2,none⟩ (.slice q4 ql d4));rw[hy1]at HU ⊢;clear hy1 HC4 HO4 HC HO HMd;have t0:y1.cell? ⟨tb,0,none⟩=some (.int .i64 0):=by rw[cRq HU.out.box];rfl
       have tf0:=VN y1 tb 0 _ _ HU.out.box;clear t2 tf;go_upto_region 27 with (fail);have HU2:=Qaa (HU.out.out 2);obtain⟨y2,hy2⟩:=exq (y1.setCell ⟨tb,0,none⟩ (.int .i64 2));rw[hy2]at HU2 ⊢;clear hy2 t0 tf0 HU;have t0:y2.cell? ⟨tb,0,none⟩=some (.int .i64 2):=by rw[cRq HU2.out.box];rfl
       have t1:y2.cell? ⟨tb,1,none⟩=some (.slice va ml ca):=by rw[cRq HU2.out.box];rfl
       have t2:y2.cell? ⟨tb,2,none⟩=some (.slice q4 ql d4):=by rw[cRq HU2.out.box];rfl
       have tf0:=VN y2 tb 0 _ _ HU2.out.box;by_cases e0:ml=0∧ql=0
       ·have HE0:=Qaa e0
        obtain⟨e1,e2⟩:=e0;have e1':((ml:Int) == 0)=true:=by simp[e1]
        have e2':((ql:Int) == 0)=true:=by simp[e2]
        have HMz:Hid (M=[]):=List.eq_nil_of_length_eq_zero (by rw[HU2.out.len];exact e1);have HQz:Hid ((a.sets.xs.filter s.want).map s.raise=[]):=List.eq_nil_of_length_eq_zero (by rw[VG,HQl.out];exact e2);clear e1 e2;go_upto_region 29 with (fail);have HU3:=Qaa (HU2.out.out 3);obtain⟨y3,hy3⟩:=exq (y2.setCell ⟨tb,0,none⟩ (.int .i64 3));rw[hy3]at HU3 ⊢;clear hy3;obtain⟨hL,hSt,hBx,hTk,hFa,hBl⟩:=HU3.out.end_ hml2 (by omega);obtain⟨HL,HSt,HBx,HTk,HBl,HFa⟩:=hd6 hL hSt hBx hTk hBl hFa;clear hL hSt hBx hTk hFa hBl t0 t1 t2 tf0;go_wp2_with (first | ((with_reducible refine glq 151 7 ?_);refine Z.lp_load tb 0 (⟨3,⟨va,ml,ca,M⟩,⟨q4,ql,d4,(a.sets.xs.filter s.want).map s.raise⟩,0⟩:Tld).arr rfl HL.out ?_) | ((with_reducible refine gsq 151 4 ?_);refine Z.lp_store (t:=151) (x:=.tmp 4) (some ⟨w.heap.size+1+1,0,none⟩) (.agg (⟨3,⟨va,ml,ca,M⟩,⟨q4,ql,d4,(a.sets.xs.filter s.want).map s.raise⟩,0⟩:Tld).arr) rfl rfl HSt.out ?_))
        refine bq rfl rfl HBx.out Tryz.underlying151 rfl Tryz.sizeT rfl ?_;exact⟨(⟨3,⟨va,ml,ca,M⟩,⟨q4,ql,d4,(a.sets.xs.filter s.want).map s.raise⟩,0⟩:Tld),rfl,by rw[HCD.out,if_pos HE0.out];unfold Tld.d;simp only;rw[HMz.out,HQz.out],HTk.out,HFa.out,HBl.out⟩
       ·have HE0:=Qaa e0
        by_cases e1:ml=0
        ·have e2:¬ql=0:=fun h=>e0 ⟨e1,h⟩
         have e1':((ml:Int) == 0)=true:=by simp[e1]
         have e2':((ql:Int) == 0)=false:=by simp[e2]
         clear e0 e1 e2;go_upto_region 29 with (fail);obtain⟨hL,hSt,hBx,hTk,hFa,hBl⟩:=HU2.out.end_ hml2 (by omega);obtain⟨HL,HSt,HBx,HTk,HBl,HFa⟩:=hd6 hL hSt hBx hTk hBl hFa;clear hL hSt hBx hTk hFa hBl t0 t1 t2 tf0;go_wp2_with (first | ((with_reducible refine glq 151 7 ?_);refine Z.lp_load tb 0 (⟨2,⟨va,ml,ca,M⟩,⟨q4,ql,d4,(a.sets.xs.filter s.want).map s.raise⟩,0⟩:Tld).arr rfl HL.out ?_) | ((with_reducible refine gsq 151 4 ?_);refine Z.lp_store (t:=151) (x:=.tmp 4) (some ⟨w.heap.size+1+1,0,none⟩) (.agg (⟨2,⟨va,ml,ca,M⟩,⟨q4,ql,d4,(a.sets.xs.filter s.want).map s.raise⟩,0⟩:Tld).arr) rfl rfl HSt.out ?_))
         refine bq rfl rfl HBx.out Tryz.underlying151 rfl Tryz.sizeT rfl ?_;exact⟨(⟨2,⟨va,ml,ca,M⟩,⟨q4,ql,d4,(a.sets.xs.filter s.want).map s.raise⟩,0⟩:Tld),rfl,by rw[HCD.out,if_neg HE0.out];rfl,HTk.out,HFa.out,HBl.out⟩
        ·have e1':((ml:Int) == 0)=false:=by simp[e1]
         clear e0 e1;go_upto_region 29 with (fail);obtain⟨hL,hSt,hBx,hTk,hFa,hBl⟩:=HU2.out.end_ hml2 (by omega);obtain⟨HL,HSt,HBx,HTk,HBl,HFa⟩:=hd6 hL hSt hBx hTk hBl hFa;clear hL hSt hBx hTk hFa hBl t0 t1 t2 tf0;go_wp2_with (first | ((with_reducible refine glq 151 7 ?_);refine Z.lp_load tb 0 (⟨2,⟨va,ml,ca,M⟩,⟨q4,ql,d4,(a.sets.xs.filter s.want).map s.raise⟩,0⟩:Tld).arr rfl HL.out ?_) | ((with_reducible refine gsq 151 4 ?_);refine Z.lp_store (t:=151) (x:=.tmp 4) (some ⟨w.heap.size+1+1,0,none⟩) (.agg (⟨2,⟨va,ml,ca,M⟩,⟨q4,ql,d4,(a.sets.xs.filter s.want).map s.raise⟩,0⟩:Tld).arr) rfl rfl HSt.out ?_))
         refine bq rfl rfl HBx.out Tryz.underlying151 rfl Tryz.sizeT rfl ?_;exact⟨(⟨2,⟨va,ml,ca,M⟩,⟨q4,ql,d4,(a.sets.xs.filter s.want).map s.raise⟩,0⟩:Tld),rfl,by rw[HCD.out,if_neg HE0.out];rfl,HTk.out,HFa.out,HBl.out⟩
structure Qk8 (s:Sta) (a:Acd):Prop where
 lwf:∀x∈a.lines.xs,Qaw x
 lines:∀x∈a.lines.xs,RgL s x
 guards:∀x∈a.guards.xs,RgG s x
 sets:∀x∈a.sets.xs,RgP s x
 owf:∀x∈a.other.xs,Qaw x
 other:∀x∈a.other.xs,RgL s x
def Qbw (s:Sta) (a:Acd):Int × List Lin × List Tri × Int :=
 if (s.guards a.guards.xs && (s.fits a.lines.xs && s.opens a.sets.xs))=true then (1,a.lines.xs,a.sets.xs.map s.raise,0)
 else if a.mg=1 then Qbo s a.lines.xs a.sets.xs
 else if a.mg=2 then (if s.fits a.other.xs=true then (2,a.other.xs,[],0) else (3,[],[],0))
 else if a.mg=3 then (if (s.fits a.lines.xs && s.opens a.sets.xs)=true then (2,a.lines.xs,a.sets.xs.map s.raise,0) else (3,[],[],0))
 else (3,[],[],0)
theorem QcK {w W:World} {s:Sta} {a:Acd} (h:Jb w s a W):W.cell? ⟨w.heap.size+1+1,0,none⟩=some (.int .i64 0)∧W.cell? ⟨w.heap.size+1+1,1,none⟩=some (.slice none 0 0)∧W.cell? ⟨w.heap.size+1+1,2,none⟩=some (.slice none 0 0)∧W.cell? ⟨w.heap.size+1+1,3,none⟩=some (.int .i64 0):=⟨by rw[cRq h.tl];rfl,by rw[cRq h.tl];rfl,by rw[cRq h.tl];rfl,by rw[cRq h.tl];rfl⟩
theorem QaN {W:World} {b:Nat} {t:TypeId} {x0 x1 x2 x3:Value} (h:W.heap[b]?=some (.cells #[x0,x1,x2,x3] t (0,0))) (y0 y1 y2 y3:Value):(((W.setCell ⟨b,0,none⟩ y0).setCell ⟨b,1,none⟩ y1).setCell ⟨b,2,none⟩ y2).setCell ⟨b,3,none⟩ y3=W.setRow b #[y0,y1,y2,y3]:=by
 rw[setCell_eq_setRow _ _ _ _ _ _ _ h,setCell_eq_setRow _ _ _ _ _ _ _ (VB _ _ _ _ _ _ h),setRow_setRow,setCell_eq_setRow _ _ _ _ _ _ _ (VB _ _ _ _ _ _ h),setRow_setRow,setCell_eq_setRow _ _ _ _ _ _ _ (VB _ _ _ _ _ _ h),setRow_setRow];rfl
theorem QkR {B:Nat} {w:World} {q:Option Addr} {n c k:Nat} {t:TypeId} {α:Type} {f:α→List Value} {xs:List α} (hf:∀x,(f x).length=k) (h:w.ownsRow B t k (.slice q n c) n (Z.flat f xs)) (hl:xs.length=n) (hn:n≤4194304):QaE w k f ⟨q,n,c,xs⟩:=⟨hl,hn,Z.cel_row hf h hl⟩
theorem Qhq (w:World) (s:Sta) (hs:Qae w s) (hpm:s.pn≤4194304) (hpw:∀p∈s.pools,Qaw (frL p)) (a:Acd) (hok:Qad w a) (hrg:Qk8 s a) :
  Calls Tryz.prog 118 #[.agg (qS s),.agg (qA a)] w fun e w'=>∃T:Tld,e=.returned (.agg T.arr)∧T.d=Qbw s a∧QcB w' T∧T.far w.heap.size a∧Below w.heap.size w w':=by
 obtain⟨w2,hw2,hJ⟩:=Qc3 w s a;obtain⟨HW2,HJ⟩:=Qmj hw2 hJ;obtain⟨⟨c0,c1,c2,c3,c4,c5⟩,⟨a0,a1,a2,a3,a4,a5,a6,a7,a8,a9,a10,a11,a12,a13,a14⟩⟩:=hJ.cells;have HFl:=Qaa (fun (W:World) (hb:Below w.heap.size w W)=>Qfh W s (hs.below hb) a.lines.p a.lines.n a.lines.c a.lines.xs hok.lines.len (by have:=hok.lines.most;omega) hrg.lwf (hok.lines.below hb).cel hrg.lines);unfold Sta.arr at HFl;have HFo:=Qaa (fun (W:World) (hb:Below w.heap.size w W)=>Qfh W s (hs.below hb) a.other.p a.other.n a.other.c a.other.xs hok.other.len (by have:=hok.other.most;omega) hrg.owf (hok.other.below hb).cel hrg.other);unfold Sta.arr at HFo;have HOp:=Qaa (fun (W:World) (hb:Below w.heap.size w W)=>Qjy W s (hs.below hb) a.sets.p a.sets.n a.sets.c a.sets.xs hok.sets.len (by have:=hok.sets.most;omega) (hok.sets.below hb).cel hrg.sets);unfold Sta.arr at HOp;have HGu:=Qaa (fun (W:World) (hb:Below w.heap.size w W)=>Qfi W s (hs.below hb) a.guards.p a.guards.n a.guards.c a.guards.xs hok.guards.len (by have:=hok.guards.most;omega) (hok.guards.below hb).cel hrg.guards);unfold Sta.arr at HGu;have HMd:=Qaa (fun (W:World) (hb:Below w.heap.size w W)=>Qfv W s (hs.below hb) a.sets.p a.sets.n a.sets.c a.sets.xs hok.sets.len (by have:=hok.sets.most;omega) (hok.sets.below hb).cel hrg.sets);unfold Sta.arr at HMd;have HCm:=Qaa (fun (W:World) (hb:Below w.heap.size w W)=>Qhj W s (hs.below hb) hpm hpw a (hok.below hb) hrg.lwf hrg.lines hrg.sets);obtain⟨bl,hbl⟩:=exq (s.fits a.lines.xs);obtain⟨bo,hbo⟩:=exq (s.opens a.sets.xs);obtain⟨bg,hbg⟩:=exq (s.guards a.guards.xs);obtain⟨bx,hbx⟩:=exq (s.fits a.other.xs);have HFl:Hid (∀W,Below w.heap.size w W→Calls Tryz.prog 55 #[.agg (qS s),.slice a.lines.p a.lines.n a.lines.c] W fun e w'=>e=.returned (.bool bl)∧Below W.heap.size W w'):=fun W hb=>by have h:=HFl.out W hb;rw[show ((QaD a.lines.xs).all fun x=>decide (x.n≤s.free x.a x.b))=bl from hbl]at h;exact h
 have HFo:Hid (∀W,Below w.heap.size w W→Calls Tryz.prog 55 #[.agg (qS s),.slice a.other.p a.other.n a.other.c] W fun e w'=>e=.returned (.bool bx)∧Below W.heap.size W w'):=fun W hb=>by have h:=HFo.out W hb;rw[show ((QaD a.other.xs).all fun x=>decide (x.n≤s.free x.a x.b))=bx from hbx]at h;exact h
 have HOp:Hid (∀W,Below w.heap.size w W→Calls Tryz.prog 60 #[.agg (qS s),.slice a.sets.p a.sets.n a.sets.c] W fun e w'=>e=.returned (.bool bo)∧Below W.heap.size W w'):=fun W hb=>by have h:=HOp.out W hb;rw[show (a.sets.xs.all fun x=>s.isOpen x.a)=bo from hbo]at h;exact h
 have HGu:Hid (∀W,Below w.heap.size w W→Calls Tryz.prog 58 #[.agg (qS s),.slice a.guards.p a.guards.n a.guards.c] W fun e w'=>e=.returned (.bool bg)∧Below W.heap.size W w'):=fun W hb=>by have h:=HGu.out W hb;rw[show (a.guards.xs.all fun x=>s.guard x.a x.b x.n)=bg from hbg]at h;exact h
 have HD:Hid (Qbw s a=if (bg && (bl && bo))=true then (1,a.lines.xs,a.sets.xs.map s.raise,0) else if a.mg=1 then Qbo s a.lines.xs a.sets.xs else if a.mg=2 then (if bx=true then (2,a.other.xs,[],0) else (3,[],[],0)) else if a.mg=3 then (if (bl && bo)=true then (2,a.lines.xs,a.sets.xs.map s.raise,0) else (3,[],[],0)) else (3,[],[],0)):=by show _=_;unfold Qbw;rw[hbl,hbo,hbg,hbx]
 have HOk:=Qaa hok;clear hw2 hJ hs hok hrg hpw hbl hbo hbg hbx;go_enter Tryz.func118,Tryz.ntmps118;go_upto_region 1 with (fail);rw[HW2.out];obtain⟨fr,hfr⟩:=exq (bl && bo);have HFr:=Qaa hfr;rw[hfr]at HD;go_cut [5] from 6 to 15 (fun s5 wc=>s5=.bool fr∧Hid (Jb w s a wc))
 case first =>
  cases bl with
  | false =>
   have hf:fr=false:=by rw[←hfr];rfl
   subst hf;clear hfr;go_wp2_with (first | (go_at_call 55;refine(HFl.out _ HJ.out.bel).mono ?_;rintro e w3 ⟨rfl,hbw3⟩;have HJw3:=Qaa (HJ.out.below hbw3);clear c0 c1 c2 c3 c4 c5 a0 a1 a2 a3 a4 a5 a6 a7 a8 a9 a10 a11 a12 a13 a14 hbw3;obtain⟨⟨c0,c1,c2,c3,c4,c5⟩,⟨a0,a1,a2,a3,a4,a5,a6,a7,a8,a9,a10,a11,a12,a13,a14⟩⟩:=HJw3.out.cells) | fail)
   go_meet;exact⟨rfl,HJw3⟩
  | true =>
   cases bo with
   | false =>
    have hf:fr=false:=by rw[←hfr];rfl
    subst hf;clear hfr;go_wp2_with (first | (go_at_call 60;refine(HOp.out _ HJw3.out.bel).mono ?_;rintro e w4 ⟨rfl,hbw4⟩;have HJw4:=Qaa (HJw3.out.below hbw4);clear c0 c1 c2 c3 c4 c5 a0 a1 a2 a3 a4 a5 a6 a7 a8 a9 a10 a11 a12 a13 a14 hbw4;obtain⟨⟨c0,c1,c2,c3,c4,c5⟩,⟨a0,a1,a2,a3,a4,a5,a6,a7,a8,a9,a10,a11,a12,a13,a14⟩⟩:=HJw4.out.cells) | (go_at_call 55;refine(HFl.out _ HJ.out.bel).mono ?_;rintro e w3 ⟨rfl,hbw3⟩;have HJw3:=Qaa (HJ.out.below hbw3);clear c0 c1 c2 c3 c4 c5 a0 a1 a2 a3 a4 a5 a6 a7 a8 a9 a10 a11 a12 a13 a14 hbw3;obtain⟨⟨c0,c1,c2,c3,c4,c5⟩,⟨a0,a1,a2,a3,a4,a5,a6,a7,a8,a9,a10,a11,a12,a13,a14⟩⟩:=HJw3.out.cells) | fail)
    go_meet;exact⟨rfl,HJw4⟩
   | true =>
    have hf:fr=true:=by rw[←hfr];rfl
    subst hf;clear hfr;go_wp2_with (first | (go_at_call 60;refine(HOp.out _ HJw3.out.bel).mono ?_;rintro e w4 ⟨rfl,hbw4⟩;have HJw4:=Qaa (HJw3.out.below hbw4);clear c0 c1 c2 c3 c4 c5 a0 a1 a2 a3 a4 a5 a6 a7 a8 a9 a10 a11 a12 a13 a14 hbw4;obtain⟨⟨c0,c1,c2,c3,c4,c5⟩,⟨a0,a1,a2,a3,a4,a5,a6,a7,a8,a9,a10,a11,a12,a13,a14⟩⟩:=HJw4.out.cells) | (go_at_call 55;refine(HFl.out _ HJ.out.bel).mono ?_;rintro e w3 ⟨rfl,hbw3⟩;have HJw3:=Qaa (HJ.out.below hbw3);clear c0 c1 c2 c3 c4 c5 a0 a1 a2 a3 a4 a5 a6 a7 a8 a9 a10 a11 a12 a13 a14 hbw3;obtain⟨⟨c0,c1,c2,c3,c4,c5⟩,⟨a0,a1,a2,a3,a4,a5,a6,a7,a8,a9,a10,a11,a12,a13,a14⟩⟩:=HJw3.out.cells) | fail)
    go_meet;exact⟨rfl,HJw4⟩
 case rest =>
  obtain⟨rfl,HJc⟩:=hcut;clear c0 c1 c2 c3 c4 c5 a0 a1 a2 a3 a4 a5 a6 a7 a8 a9 a10 a11 a12 a13 a14 HW2 HJ hfr;obtain⟨⟨c0,c1,c2,c3,c4,c5⟩,⟨a0,a1,a2,a3,a4,a5,a6,a7,a8,a9,a10,a11,a12,a13,a14⟩⟩:=HJc.out.cells
  cases bg with
  | true =>
   cases fr with
   | true =>
    go_upto_region 3 with (first | (go_at_call 58;refine(HGu.out _ HJc.out.bel).mono ?_;rintro e w5 ⟨rfl,hbw5⟩;have HJw5:=Qaa (HJc.out.below hbw5);clear c0 c1 c2 c3 c4 c5 a0 a1 a2 a3 a4 a5 a6 a7 a8 a9 a10 a11 a12 a13 a14 hbw5;obtain⟨⟨c0,c1,c2,c3,c4,c5⟩,⟨a0,a1,a2,a3,a4,a5,a6,a7,a8,a9,a10,a11,a12,a13,a14⟩⟩:=HJw5.out.cells) | fail);have hq1:¬w.heap.size+1+1=w.heap.size:=by omega
    have HJd:Hid (Jb w s a w5.drew):=HJw5.out.below ((Below.refl _ w5).drew);go_region_held3 (fun w'=>w'.cell? ⟨w.heap.size,0,none⟩=some (.int .u64 s.pos)∧w'.cell? ⟨w.heap.size,1,none⟩=some (.slice s.pp s.pn s.pc)∧w'.cell? ⟨w.heap.size,2,none⟩=some (.slice s.rp s.rn s.rc)∧w'.cell? ⟨w.heap.size,3,none⟩=some (.slice s.lp s.ln s.lc)∧w'.cell? ⟨w.heap.size,4,none⟩=some (.slice s.gp s.gn s.gc)∧w'.cell? ⟨w.heap.size,5,none⟩=some (.slice s.op s.on s.oc)∧w'.cell? ⟨w.heap.size+1,4,none⟩=some (.slice a.lines.p a.lines.n a.lines.c)∧w'.cell? ⟨w.heap.size+1,6,none⟩=some (.slice a.sets.p a.sets.n a.sets.c)) (go_keep) (first | (go_at_call 179;refine(HMd.out _ HJd.out.bel).mono ?_;rintro e w9 ⟨v9,rfl,ho9,hb9⟩;obtain⟨q9,d9,rfl⟩:=slice_form ho9;obtain⟨HO9,HB9⟩:=Qmj ho9 hb9;have HJ9:=Qaa (HJd.out.below hb9);clear c0 c1 c2 c3 c4 c5 a0 a1 a2 a3 a4 a5 a6 a7 a8 a9 a10 a11 a12 a13 a14 ho9 hb9;obtain⟨⟨c0,c1,c2,c3,c4,c5⟩,⟨a0,a1,a2,a3,a4,a5,a6,a7,a8,a9,a10,a11,a12,a13,a14⟩⟩:=HJ9.out.cells;obtain⟨x0,x1,x2,x3⟩:=QcK HJ9.out;have ct:=RB.bk_thaw HJ9.out.tl) | fail);rw[QaN HJ9.out.tl];clear ct x0 x1 x2 x3 c0 c1 c2 c3 c4 c5 a0 a1 a2 a3 a4 a5 a6 a7 a8 a9 a10 a11 a12 a13 a14 hq1;have HSl:Hid (QaE w9 3 Qar ⟨q9,a.sets.n,d9,a.sets.xs.map s.raise⟩):=QkR (fun _=>rfl) (by rw[←Qci];exact HO9.out) (by rw[VG];exact HOk.out.sets.len) HOk.out.sets.most;have HHi:Hid (∀g,q9=some g→w.heap.size+1+1<g.block):=fun g e=>by have h1:=Z.owns_base HO9.out g.block (by rw[e];rfl);have h2:=Qab HJd.out.tl;omega
    obtain⟨_,hE,hB,hT⟩:=HJ9.out.store (⟨1,a.lines,⟨q9,a.sets.n,d9,a.sets.xs.map s.raise⟩,0⟩:Tld);obtain⟨HE,HBe⟩:=Qmj hE hB;have HT:=Qaa (hT ⟨HOk.out.lines.below HJ9.out.bel,HSl.out⟩ (QbS HOk.out.lines _ (by omega)) (fun _ g e=>by have:=HHi.out g e;omega));clear hE hB hT;go_wp2;refine bq rfl rfl HE.out Tryz.underlying151 rfl Tryz.sizeT rfl ?_;exact⟨(⟨1,a.lines,⟨q9,a.sets.n,d9,a.sets.xs.map s.raise⟩,0⟩:Tld),rfl,by rw[HD.out];rfl,HT.out,⟨fun h g e=>Or.inr (Or.inl ⟨e,h⟩),fun _ g e=>by have:=HHi.out g e;omega⟩,HBe.out⟩
   | false =>
    go_upto_region 4 with (first | (go_at_call 58;refine(HGu.out _ HJc.out.bel).mono ?_;rintro e w5 ⟨rfl,hbw5⟩;have HJw5:=Qaa (HJc.out.below hbw5);clear c0 c1 c2 c3 c4 c5 a0 a1 a2 a3 a4 a5 a6 a7 a8 a9 a10 a11 a12 a13 a14 hbw5;obtain⟨⟨c0,c1,c2,c3,c4,c5⟩,⟨a0,a1,a2,a3,a4,a5,a6,a7,a8,a9,a10,a11,a12,a13,a14⟩⟩:=HJw5.out.cells) | fail);have HD2:Hid (Qbw s a=if a.mg=1 then Qbo s a.lines.xs a.sets.xs else if a.mg=2 then (if bx=true then (2,a.other.xs,[],0) else (3,[],[],0)) else if a.mg=3 then (if false=true then (2,a.lines.xs,a.sets.xs.map s.raise,0) else (3,[],[],0)) else (3,[],[],0)):=by show _=_;rw[HD.out];simp
    by_cases m1:a.mg=1
    ·have m1':(a.mg == 1)=true:=by simp[m1]
     have HD3:=Qaa (HD2.out.trans (if_pos m1));clear m1;go_wp2_with (first | (go_at_call 180;refine(HCm.out _ HJw5.out.bel).mono ?_;rintro e w6 ⟨T,rfl,hTd,hTk,hFa,hb6⟩;have HJ6:=Qaa (HJw5.out.below hb6);obtain⟨hf1,hf2⟩:=hFa.off HOk.out (w.heap.size+1+1) (by omega) (Qab HJw5.out.tl);obtain⟨hS,hE,hB,hT⟩:=HJ6.out.store T;obtain⟨HS,HE,HBe⟩:=Qmk hS hE hB;have HT:=Qaa (hT hTk hf1 hf2);have HTd:=Qaa hTd;have HFa:=Qaa (hFa.le (show w.heap.size≤w5.heap.size from HJw5.out.bel.size));clear hS hE hB hT hTk hf1 hf2 hTd hFa hb6) | ((with_reducible refine gsq 151 4 ?_);refine Z.lp_store (t:=151) (x:=.tmp 4) (some ⟨w.heap.size+1+1,0,none⟩) (.agg T.arr) rfl rfl HS.out ?_) | fail)
     refine bq rfl rfl HE.out Tryz.underlying151 rfl Tryz.sizeT rfl ?_;exact⟨T,rfl,by rw[HTd.out,HD3.out],HT.out,HFa.out,HBe.out⟩
    by_cases m2:a.mg=2
    ·have m1':(a.mg == 1)=false:=by simp[m1]
     have m2':(a.mg == 2)=true:=by simp[m2]
     have HD3:=Qaa ((HD2.out.trans (if_neg m1)).trans (if_pos m2));clear m1 m2
     cases bx with
     | true =>
      go_wp2_with (first | (go_at_call 55;refine(HFo.out _ HJw5.out.bel).mono ?_;rintro e w6 ⟨rfl,hb6⟩;have HJ6:=Qaa (HJw5.out.below hb6);clear c0 c1 c2 c3 c4 c5 a0 a1 a2 a3 a4 a5 a6 a7 a8 a9 a10 a11 a12 a13 a14 hb6;obtain⟨⟨c0,c1,c2,c3,c4,c5⟩,⟨a0,a1,a2,a3,a4,a5,a6,a7,a8,a9,a10,a11,a12,a13,a14⟩⟩:=HJ6.out.cells;obtain⟨hS,hE,hB,hT⟩:=HJ6.out.store (⟨2,a.other,⟨none,0,0,[]⟩,0⟩:Tld);obtain⟨HS,HE,HBe⟩:=Qmk hS hE hB;have HT:=Qaa (hT ⟨HOk.out.other.below HJ6.out.bel,QaM _ _ _⟩ (QbS HOk.out.other _ (by omega)) (fun h=>absurd rfl h));clear hS hE hB hT) | ((with_reducible refine gsq 151 4 ?_);refine Z.lp_store (t:=151) (x:=.tmp 4) (some ⟨w.heap.size+1+1,0,none⟩) (.agg (⟨2,a.other,⟨none,0,0,[]⟩,0⟩:Tld).arr) rfl rfl HS.out ?_) | fail)
      refine bq rfl rfl HE.out Tryz.underlying151 rfl Tryz.sizeT rfl ?_;exact⟨(⟨2,a.other,⟨none,0,0,[]⟩,0⟩:Tld),rfl,by rw[HD3.out];rfl,HT.out,⟨fun h g e=>Or.inr (Or.inr ⟨e,h⟩),fun h=>absurd rfl h⟩,HBe.out⟩
     | false =>
      go_wp2_with (first | (go_at_call 55;refine(HFo.out _ HJw5.out.bel).mono ?_;rintro e w6 ⟨rfl,hb6⟩;have HJ6:=Qaa (HJw5.out.below hb6);clear c0 c1 c2 c3 c4 c5 a0 a1 a2 a3 a4 a5 a6 a7 a8 a9 a10 a11 a12 a13 a14 hb6;obtain⟨⟨c0,c1,c2,c3,c4,c5⟩,⟨a0,a1,a2,a3,a4,a5,a6,a7,a8,a9,a10,a11,a12,a13,a14⟩⟩:=HJ6.out.cells;obtain⟨hS,hE,hB,hT⟩:=HJ6.out.store (QaJ 3 0);obtain⟨HS,HE,HBe⟩:=Qmk hS hE hB;have HT:=Qaa (hT (Qau _ _ _) (fun h=>absurd rfl h) (fun h=>absurd rfl h));clear hS hE hB hT) | ((with_reducible refine gsq 151 4 ?_);refine Z.lp_store (t:=151) (x:=.tmp 4) (some ⟨w.heap.size+1+1,0,none⟩) (.agg (QaJ 3 0).arr) rfl rfl HS.out ?_) | fail)
      refine bq rfl rfl HE.out Tryz.underlying151 rfl Tryz.sizeT rfl ?_;exact⟨(QaJ 3 0),rfl,by rw[HD3.out];rfl,HT.out,Qaj _ _ _ _,HBe.out⟩
    by_cases m3:a.mg=3
    ·have m1':(a.mg == 1)=false:=by simp[m1]
     have m2':(a.mg == 2)=false:=by simp[m2]
     have m3':(a.mg == 3)=true:=by simp[m3]
     have HD3:=Qaa (((HD2.out.trans (if_neg m1)).trans (if_neg m2)).trans (if_pos m3));clear m1 m2 m3;obtain⟨hS,hE,hB,hT⟩:=HJw5.out.store (QaJ 3 0);obtain⟨HS,HE,HBe⟩:=Qmk hS hE hB;have HT:=Qaa (hT (Qau _ _ _) (fun h=>absurd rfl h) (fun h=>absurd rfl h));clear hS hE hB hT;go_wp2_with (first | ((with_reducible refine gsq 151 4 ?_);refine Z.lp_store (t:=151) (x:=.tmp 4) (some ⟨w.heap.size+1+1,0,none⟩) (.agg (QaJ 3 0).arr) rfl rfl HS.out ?_) | fail)
     refine bq rfl rfl HE.out Tryz.underlying151 rfl Tryz.sizeT rfl ?_;exact⟨(QaJ 3 0),rfl,by rw[HD3.out];rfl,HT.out,Qaj _ _ _ _,HBe.out⟩
    have m1':(a.mg == 1)=false:=by simp[m1]
    have m2':(a.mg == 2)=false:=by simp[m2]
    have m3':(a.mg == 3)=false:=by simp[m3]
    have HD3:=Qaa (((HD2.out.trans (if_neg m1)).trans (if_neg m2)).trans (if_neg m3));clear m1 m2 m3;obtain⟨hS,hE,hB,hT⟩:=HJw5.out.store (QaJ 3 0);obtain⟨HS,HE,HBe⟩:=Qmk hS hE hB;have HT:=Qaa (hT (Qau _ _ _) (fun h=>absurd rfl h) (fun h=>absurd rfl h));clear hS hE hB hT;go_wp2_with (first | ((with_reducible refine gsq 151 4 ?_);refine Z.lp_store (t:=151) (x:=.tmp 4) (some ⟨w.heap.size+1+1,0,none⟩) (.agg (QaJ 3 0).arr) rfl rfl HS.out ?_) | fail)
    refine bq rfl rfl HE.out Tryz.underlying151 rfl Tryz.sizeT rfl ?_;exact⟨(QaJ 3 0),rfl,by rw[HD3.out];rfl,HT.out,Qaj _ _ _ _,HBe.out⟩
  | false =>
   cases fr with
   | true =>
    go_upto_region 4 with (first | (go_at_call 58;refine(HGu.out _ HJc.out.bel).mono ?_;rintro e w5 ⟨rfl,hbw5⟩;have HJw5:=Qaa (HJc.out.below hbw5);clear c0 c1 c2 c3 c4 c5 a0 a1 a2 a3 a4 a5 a6 a7 a8 a9 a10 a11 a12 a13 a14 hbw5;obtain⟨⟨c0,c1,c2,c3,c4,c5⟩,⟨a0,a1,a2,a3,a4,a5,a6,a7,a8,a9,a10,a11,a12,a13,a14⟩⟩:=HJw5.out.cells) | fail);have HD2:Hid (Qbw s a=if a.mg=1 then Qbo s a.lines.xs a.sets.xs else if a.mg=2 then (if bx=true then (2,a.other.xs,[],0) else (3,[],[],0)) else if a.mg=3 then (if true=true then (2,a.lines.xs,a.sets.xs.map s.raise,0) else (3,[],[],0)) else (3,[],[],0)):=by show _=_;rw[HD.out];simp
    by_cases m1:a.mg=1
    ·have m1':(a.mg == 1)=true:=by simp[m1]
     have HD3:=Qaa (HD2.out.trans (if_pos m1));clear m1;go_wp2_with (first | (go_at_call 180;refine(HCm.out _ HJw5.out.bel).mono ?_;rintro e w6 ⟨T,rfl,hTd,hTk,hFa,hb6⟩;have HJ6:=Qaa (HJw5.out.below hb6);obtain⟨hf1,hf2⟩:=hFa.off HOk.out (w.heap.size+1+1) (by omega) (Qab HJw5.out.tl);obtain⟨hS,hE,hB,hT⟩:=HJ6.out.store T;obtain⟨HS,HE,HBe⟩:=Qmk hS hE hB;have HT:=Qaa (hT hTk hf1 hf2);have HTd:=Qaa hTd;have HFa:=Qaa (hFa.le (show w.heap.size≤w5.heap.size from HJw5.out.bel.size));clear hS hE hB hT hTk hf1 hf2 hTd hFa hb6) | ((with_reducible refine gsq 151 4 ?_);refine Z.lp_store (t:=151) (x:=.tmp 4) (some ⟨w.heap.size+1+1,0,none⟩) (.agg T.arr) rfl rfl HS.out ?_) | fail)
     refine bq rfl rfl HE.out Tryz.underlying151 rfl Tryz.sizeT rfl ?_;exact⟨T,rfl,by rw[HTd.out,HD3.out],HT.out,HFa.out,HBe.out⟩
    by_cases m2:a.mg=2
    ·have m1':(a.mg == 1)=false:=by simp[m1]
     have m2':(a.mg == 2)=true:=by simp[m2]
     have HD3:=Qaa ((HD2.out.trans (if_neg m1)).trans (if_pos m2));clear m1 m2
     cases bx with
     | true =>
      go_wp2_with (first | (go_at_call 55;refine(HFo.out _ HJw5.out.bel).mono ?_;rintro e w6 ⟨rfl,hb6⟩;have HJ6:=Qaa (HJw5.out.below hb6);clear c0 c1 c2 c3 c4 c5 a0 a1 a2 a3 a4 a5 a6 a7 a8 a9 a10 a11 a12 a13 a14 hb6;obtain⟨⟨c0,c1,c2,c3,c4,c5⟩,⟨a0,a1,a2,a3,a4,a5,a6,a7,a8,a9,a10,a11,a12,a13,a14⟩⟩:=HJ6.out.cells;obtain⟨hS,hE,hB,hT⟩:=HJ6.out.store (⟨2,a.other,⟨none,0,0,[]⟩,0⟩:Tld);obtain⟨HS,HE,HBe⟩:=Qmk hS hE hB;have HT:=Qaa (hT ⟨HOk.out.other.below HJ6.out.bel,QaM _ _ _⟩ (QbS HOk.out.other _ (by omega)) (fun h=>absurd rfl h));clear hS hE hB hT) | ((with_reducible refine gsq 151 4 ?_);refine Z.lp_store (t:=151) (x:=.tmp 4) (some ⟨w.heap.size+1+1,0,none⟩) (.agg (⟨2,a.other,⟨none,0,0,[]⟩,0⟩:Tld).arr) rfl rfl HS.out ?_) | fail)
      refine bq rfl rfl HE.out Tryz.underlying151 rfl Tryz.sizeT rfl ?_;exact⟨(⟨2,a.other,⟨none,0,0,[]⟩,0⟩:Tld),rfl,by rw[HD3.out];rfl,HT.out,⟨fun h g e=>Or.inr (Or.inr ⟨e,h⟩),fun h=>absurd rfl h⟩,HBe.out⟩
     | false =>
      go_wp2_with (first | (go_at_call 55;refine(HFo.out _ HJw5.out.bel).mono ?_;rintro e w6 ⟨rfl,hb6⟩;have HJ6:=Qaa (HJw5.out.below hb6);clear c0 c1 c2 c3 c4 c5 a0 a1 a2 a3 a4 a5 a6 a7 a8 a9 a10 a11 a12 a13 a14 hb6;obtain⟨⟨c0,c1,c2,c3,c4,c5⟩,⟨a0,a1,a2,a3,a4,a5,a6,a7,a8,a9,a10,a11,a12,a13,a14⟩⟩:=HJ6.out.cells;obtain⟨hS,hE,hB,hT⟩:=HJ6.out.store (QaJ 3 0);obtain⟨HS,HE,HBe⟩:=Qmk hS hE hB;have HT:=Qaa (hT (Qau _ _ _) (fun h=>absurd rfl h) (fun h=>absurd rfl h));clear hS hE hB hT) | ((with_reducible refine gsq 151 4 ?_);refine Z.lp_store (t:=151) (x:=.tmp 4) (some ⟨w.heap.size+1+1,0,none⟩) (.agg (QaJ 3 0).arr) rfl rfl HS.out ?_) | fail)
      refine bq rfl rfl HE.out Tryz.underlying151 rfl Tryz.sizeT rfl ?_;exact⟨(QaJ 3 0),rfl,by rw[HD3.out];rfl,HT.out,Qaj _ _ _ _,HBe.out⟩
    by_cases m3:a.mg=3
    ·have m1':(a.mg == 1)=false:=by simp[m1]
     have m2':(a.mg == 2)=false:=by simp[m2]
     have m3':(a.mg == 3)=true:=by simp[m3]
     have HD3:=Qaa (((HD2.out.trans (if_neg m1)).trans (if_neg m2)).trans (if_pos m3));clear m1 m2 m3;go_upto_region 12 with (fail);have hq1:¬w.heap.size+1+1=w.heap.size:=by omega
     have HJd:Hid (Jb w s a w5.drew):=HJw5.out.below ((Below.refl _ w5).drew);go_region_held3 (fun w'=>w'.cell? ⟨w.heap.size,0,none⟩=some (.int .u64 s.pos)∧w'.cell? ⟨w.heap.size,1,none⟩=some (.slice s.pp s.pn s.pc)∧w'.cell? ⟨w.heap.size,2,none⟩=some (.slice s.rp s.rn s.rc)∧w'.cell? ⟨w.heap.size,3,none⟩=some (.slice s.lp s.ln s.lc)∧w'.cell? ⟨w.heap.size,4,none⟩=some (.slice s.gp s.gn s.gc)∧w'.cell? ⟨w.heap.size,5,none⟩=some (.slice s.op s.on s.oc)∧w'.cell? ⟨w.heap.size+1,4,none⟩=some (.slice a.lines.p a.lines.n a.lines.c)∧w'.cell? ⟨w.heap.size+1,6,none⟩=some (.slice a.sets.p a.sets.n a.sets.c)) (go_keep) (first | (go_at_call 179;refine(HMd.out _ HJd.out.bel).mono ?_;rintro e w9 ⟨v9,rfl,ho9,hb9⟩;obtain⟨q9,d9,rfl⟩:=slice_form ho9;obtain⟨HO9,HB9⟩:=Qmj ho9 hb9;have HJ9:=Qaa (HJd.out.below hb9);clear c0 c1 c2 c3 c4 c5 a0 a1 a2 a3 a4 a5 a6 a7 a8 a9 a10 a11 a12 a13 a14 ho9 hb9;obtain⟨⟨c0,c1,c2,c3,c4,c5⟩,⟨a0,a1,a2,a3,a4,a5,a6,a7,a8,a9,a10,a11,a12,a13,a14⟩⟩:=HJ9.out.cells;obtain⟨x0,x1,x2,x3⟩:=QcK HJ9.out;have ct:=RB.bk_thaw HJ9.out.tl) | fail);rw[QaN HJ9.out.tl];clear ct x0 x1 x2 x3 c0 c1 c2 c3 c4 c5 a0 a1 a2 a3 a4 a5 a6 a7 a8 a9 a10 a11 a12 a13 a14 hq1;have HSl:Hid (QaE w9 3 Qar ⟨q9,a.sets.n,d9,a.sets.xs.map s.raise⟩):=QkR (fun _=>rfl) (by rw[←Qci];exact HO9.out) (by rw[VG];exact HOk.out.sets.len) HOk.out.sets.most;have HHi:Hid (∀g,q9=some g→w.heap.size+1+1<g.block):=fun g e=>by have h1:=Z.owns_base HO9.out g.block (by rw[e];rfl);have h2:=Qab HJd.out.tl;omega
     obtain⟨_,hE,hB,hT⟩:=HJ9.out.store (⟨2,a.lines,⟨q9,a.sets.n,d9,a.sets.xs.map s.raise⟩,0⟩:Tld);obtain⟨HE,HBe⟩:=Qmj hE hB;have HT:=Qaa (hT ⟨HOk.out.lines.below HJ9.out.bel,HSl.out⟩ (QbS HOk.out.lines _ (by omega)) (fun _ g e=>by have:=HHi.out g e;omega));clear hE hB hT;go_wp2;refine bq rfl rfl HE.out Tryz.underlying151 rfl Tryz.sizeT rfl ?_;exact⟨(⟨2,a.lines,⟨q9,a.sets.n,d9,a.sets.xs.map s.raise⟩,0⟩:Tld),rfl,by rw[HD3.out];rfl,HT.out,⟨fun h g e=>Or.inr (Or.inl ⟨e,h⟩),fun _ g e=>by have:=HHi.out g e;omega⟩,HBe.out⟩
    have m1':(a.mg == 1)=false:=by simp[m1]
    have m2':(a.mg == 2)=false:=by simp[m2]
    have m3':(a.mg == 3)=false:=by simp[m3]
    have HD3:=Qaa (((HD2.out.trans (if_neg m1)).trans (if_neg m2)).trans (if_neg m3));clear m1 m2 m3;obtain⟨hS,hE,hB,hT⟩:=HJw5.out.store (QaJ 3 0);obtain⟨HS,HE,HBe⟩:=Qmk hS hE hB;have HT:=Qaa (hT (Qau _ _ _) (fun h=>absurd rfl h) (fun h=>absurd rfl h));clear hS hE hB hT;go_wp2_with (first | ((with_reducible refine gsq 151 4 ?_);refine Z.lp_store (t:=151) (x:=.tmp 4) (some ⟨w.heap.size+1+1,0,none⟩) (.agg (QaJ 3 0).arr) rfl rfl HS.out ?_) | fail)
    refine bq rfl rfl HE.out Tryz.underlying151 rfl Tryz.sizeT rfl ?_;exact⟨(QaJ 3 0),rfl,by rw[HD3.out];rfl,HT.out,Qaj _ _ _ _,HBe.out⟩
   | false =>
    go_upto_region 4 with (first | (go_at_call 58;refine(HGu.out _ HJc.out.bel).mono ?_;rintro e w5 ⟨rfl,hbw5⟩;have HJw5:=Qaa (HJc.out.below hbw5);clear c0 c1 c2 c3 c4 c5 a0 a1 a2 a3 a4 a5 a6 a7 a8 a9 a10 a11 a12 a13 a14 hbw5;obtain⟨⟨c0,c1,c2,c3,c4,c5⟩,⟨a0,a1,a2,a3,a4,a5,a6,a7,a8,a9,a10,a11,a12,a13,a14⟩⟩:=HJw5.out.cells) | fail);have HD2:Hid (Qbw s a=if a.mg=1 then Qbo s a.lines.xs a.sets.xs else if a.mg=2 then (if bx=true then (2,a.other.xs,[],0) else (3,[],[],0)) else if a.mg=3 then (if false=true then (2,a.lines.xs,a.sets.xs.map s.raise,0) else (3,[],[],0)) else (3,[],[],0)):=by show _=_;rw[HD.out];simp
    by_cases m1:a.mg=1
    ·have m1':(a.mg == 1)=true:=by simp[m1]
     have HD3:=Qaa (HD2.out.trans (if_pos m1));clear m1;go_wp2_with (first | (go_at_call 180;refine(HCm.out _ HJw5.out.bel).mono ?_;rintro e w6 ⟨T,rfl,hTd,hTk,hFa,hb6⟩;have HJ6:=Qaa (HJw5.out.below hb6);obtain⟨hf1,hf2⟩:=hFa.off HOk.out (w.heap.size+1+1) (by omega) (Qab HJw5.out.tl);obtain⟨hS,hE,hB,hT⟩:=HJ6.out.store T;obtain⟨HS,HE,HBe⟩:=Qmk hS hE hB;have HT:=Qaa (hT hTk hf1 hf2);have HTd:=Qaa hTd;have HFa:=Qaa (hFa.le (show w.heap.size≤w5.heap.size from HJw5.out.bel.size));clear hS hE hB hT hTk hf1 hf2 hTd hFa hb6) | ((with_reducible refine gsq 151 4 ?_);refine Z.lp_store (t:=151) (x:=.tmp 4) (some ⟨w.heap.size+1+1,0,none⟩) (.agg T.arr) rfl rfl HS.out ?_) | fail)
     refine bq rfl rfl HE.out Tryz.underlying151 rfl Tryz.sizeT rfl ?_;exact⟨T,rfl,by rw[HTd.out,HD3.out],HT.out,HFa.out,HBe.out⟩
    by_cases m2:a.mg=2
    ·have m1':(a.mg == 1)=false:=by simp[m1]
     have m2':(a.mg == 2)=true:=by simp[m2]
     have HD3:=Qaa ((HD2.out.trans (if_neg m1)).trans (if_pos m2));clear m1 m2
     cases bx with
     | true =>
      go_wp2_with (first | (go_at_call 55;refine(HFo.out _ HJw5.out.bel).mono ?_;rintro e w6 ⟨rfl,hb6⟩;have HJ6:=Qaa (HJw5.out.below hb6);clear c0 c1 c2 c3 c4 c5 a0 a1 a2 a3 a4 a5 a6 a7 a8 a9 a10 a11 a12 a13 a14 hb6;obtain⟨⟨c0,c1,c2,c3,c4,c5⟩,⟨a0,a1,a2,a3,a4,a5,a6,a7,a8,a9,a10,a11,a12,a13,a14⟩⟩:=HJ6.out.cells;obtain⟨hS,hE,hB,hT⟩:=HJ6.out.store (⟨2,a.other,⟨none,0,0,[]⟩,0⟩:Tld);obtain⟨HS,HE,HBe⟩:=Qmk hS hE hB;have HT:=Qaa (hT ⟨HOk.out.other.below HJ6.out.bel,QaM _ _ _⟩ (QbS HOk.out.other _ (by omega)) (fun h=>absurd rfl h));clear hS hE hB hT) | ((with_reducible refine gsq 151 4 ?_);refine Z.lp_store (t:=151) (x:=.tmp 4) (some ⟨w.heap.size+1+1,0,none⟩) (.agg (⟨2,a.other,⟨none,0,0,[]⟩,0⟩:Tld).arr) rfl rfl HS.out ?_) | fail)
      refine bq rfl rfl HE.out Tryz.underlying151 rfl Tryz.sizeT rfl ?_;exact⟨(⟨2,a.other,⟨none,0,0,[]⟩,0⟩:Tld),rfl,by rw[HD3.out];rfl,HT.out,⟨fun h g e=>Or.inr (Or.inr ⟨e,h⟩),fun h=>absurd rfl h⟩,HBe.out⟩
     | false =>
      go_wp2_with (first | (go_at_call 55;refine(HFo.out _ HJw5.out.bel).mono ?_;rintro e w6 ⟨rfl,hb6⟩;have HJ6:=Qaa (HJw5.out.below hb6);clear c0 c1 c2 c3 c4 c5 a0 a1 a2 a3 a4 a5 a6 a7 a8 a9 a10 a11 a12 a13 a14 hb6;obtain⟨⟨c0,c1,c2,c3,c4,c5⟩,⟨a0,a1,a2,a3,a4,a5,a6,a7,a8,a9,a10,a11,a12,a13,a14⟩⟩:=HJ6.out.cells;obtain⟨hS,hE,hB,hT⟩:=HJ6.out.store (QaJ 3 0);obtain⟨HS,HE,HBe⟩:=Qmk hS hE hB;have HT:=Qaa (hT (Qau _ _ _) (fun h=>absurd rfl h) (fun h=>absurd rfl h));clear hS hE hB hT) | ((with_reducible refine gsq 151 4 ?_);refine Z.lp_store (t:=151) (x:=.tmp 4) (some ⟨w.heap.size+1+1,0,none⟩) (.agg (QaJ 3 0).arr) rfl rfl HS.out ?_) | fail)
      refine bq rfl rfl HE.out Tryz.underlying151 rfl Tryz.sizeT rfl ?_;exact⟨(QaJ 3 0),rfl,by rw[HD3.out];rfl,HT.out,Qaj _ _ _ _,HBe.out⟩
    by_cases m3:a.mg=3
    ·have m1':(a.mg == 1)=false:=by simp[m1]
     have m2':(a.mg == 2)=false:=by simp[m2]
     have m3':(a.mg == 3)=true:=by simp[m3]
     have HD3:=Qaa (((HD2.out.trans (if_neg m1)).trans (if_neg m2)).trans (if_pos m3));clear m1 m2 m3;obtain⟨hS,hE,hB,hT⟩:=HJw5.out.store (QaJ 3 0);obtain⟨HS,HE,HBe⟩:=Qmk hS hE hB;have HT:=Qaa (hT (Qau _ _ _) (fun h=>absurd rfl h) (fun h=>absurd rfl h));clear hS hE hB hT;go_wp2_with (first | ((with_reducible refine gsq 151 4 ?_);refine Z.lp_store (t:=151) (x:=.tmp 4) (some ⟨w.heap.size+1+1,0,none⟩) (.agg (QaJ 3 0).arr) rfl rfl HS.out ?_) | fail)
     refine bq rfl rfl HE.out Tryz.underlying151 rfl Tryz.sizeT rfl ?_;exact⟨(QaJ 3 0),rfl,by rw[HD3.out];rfl,HT.out,Qaj _ _ _ _,HBe.out⟩
    have m1':(a.mg == 1)=false:=by simp[m1]
    have m2':(a.mg == 2)=false:=by simp[m2]
    have m3':(a.mg == 3)=false:=by simp[m3]
    have HD3:=Qaa (((HD2.out.trans (if_neg m1)).trans (if_neg m2)).trans (if_neg m3));clear m1 m2 m3;obtain⟨hS,hE,hB,hT⟩:=HJw5.out.store (QaJ 3 0);obtain⟨HS,HE,HBe⟩:=Qmk hS hE hB;have HT:=Qaa (hT (Qau _ _ _) (fun h=>absurd rfl h) (fun h=>absurd rfl h));clear hS hE hB hT;go_wp2_with (first | ((with_reducible refine gsq 151 4 ?_);refine Z.lp_store (t:=151) (x:=.tmp 4) (some ⟨w.heap.size+1+1,0,none⟩) (.agg (QaJ 3 0).arr) rfl rfl HS.out ?_) | fail)
    refine bq rfl rfl HE.out Tryz.underlying151 rfl Tryz.sizeT rfl ?_;exact⟨(QaJ 3 0),rfl,by rw[HD3.out];rfl,HT.out,Qaj _ _ _ _,HBe.out⟩
structure Qbt (s:Sta) (a:Acd):Prop where
 act:Qk8 s a
 kind:1≤a.kind∧a.kind≤5
 till:∃t:Nat,a.till=(t:Int)∧RgH s t∧t<s.gn∧t<s.on
 right:2≤a.kind→a.kind≤4→RgT s ⟨a.ra,a.rb,a.rd⟩
 dest:a.kind=4→∃t:Nat,a.to=(t:Int)∧RgH s t
 rights:a.kind=5→∀x∈a.rights.xs,RgT s x
def QbA (b:Bool):Int:=if b then 5 else 3
def Qaf (s:Sta) (a:Acd):Int × List Lin × List Tri × Int :=
 if a.kind=1 then (if a.sure=true then (if s.keeps a.till a.lines.xs then (1,a.lines.xs,[],0) else (3,[],[],0)) else Qbw s a)
 else if a.kind=2 then (4,[],[],min a.rd (min (s.free a.ra a.rb) (wrap64 (18014398509481984 - s.held a.till a.ra a.rb))))
 else if a.kind=3 then (QbA (decide (a.rd≤s.held a.till a.ra a.rb)),[],[],0)
 else if a.kind=4 then (QbA (decide (a.rd≤s.held a.till a.ra a.rb) && decide (s.held a.to a.ra a.rb≤wrap64 (18014398509481984 - a.rd))),[],[],0)
 else (QbA (s.owes a.till a.gen && s.hasAll a.till a.rights.xs),[],[],0)
theorem Qbl (w:World) (b:Bool):Calls Tryz.prog 119 #[.bool b] w fun e w'=>e=.returned (.agg #[.int .i64 (QbA b),.slice none 0 0,.slice none 0 0,.int .i64 0])∧Below w.heap.size w w':=(QjE w b).mono (fun _ _ ⟨h1,h2⟩=>⟨by rw[h1];cases b <;> rfl,h2⟩)
structure PlAt (w:World) (s:Sta) (k t:Nat) (P:Pl) (l:Lin) (pb po hb ho:Nat):Prop where
 at_:s.pools[k]?=some P
 pair:P.hs[t]?=some l
 pp:s.pp=some ⟨pb,po,none⟩
 hp:P.hp=some ⟨hb,ho,none⟩
 kn:(k:Int)<(s.pn:Int)
 tn:(t:Int)<(P.hl:Int)
 pl:pb<w.heap.size
 hl:hb<w.heap.size
 cells:∀W,Below w.heap.size w W→W.cell? ⟨pb,po+k*4,none⟩=some (.int .i64 P.v)∧W.cell? ⟨pb,po+k*4+1,none⟩=some (.int .i64 P.f0)∧W.cell? ⟨pb,po+k*4+2,none⟩=some (.int .i64 P.f1)∧W.cell? ⟨pb,po+k*4+3,none⟩=some (.slice (some ⟨hb,ho,none⟩) P.hl P.hc)∧W.cell? ⟨hb,ho+t*2,none⟩=some (.int .i64 l.c)∧W.cell? ⟨hb,ho+t*2+1,none⟩=some (.int .i64 l.n)
theorem Qgk {w:World} {s:Sta} (hs:Qae w s) {k t:Nat} (hk:k<s.pn) (ht:RgH s t):∃P l pb po hb ho,PlAt w s k t P l pb po hb ho:=by
 obtain⟨P,hP⟩:∃P,s.pools[k]?=some P:=⟨_,gE (by rw[hs.pn];exact hk)⟩;have hm:=mG hP;have hPk:=hs.held P hm;have hth:=ht P hm;obtain⟨l,hl⟩:∃l,P.hs[t]?=some l:=⟨_,gE (by rw[hPk.len];exact hth)⟩;obtain⟨pb,po,ep,hpb,hpc⟩:=hs.pools.get (i:=k) (r:=plc P) (by rw[Vb,hP];rfl);obtain⟨hb,ho,eh,hhb,hhc⟩:=hPk.cel.get (i:=t) (r:=Qal l) (by rw[Vb,hl];rfl);refine⟨P,l,pb,po,hb,ho,hP,hl,ep,eh,by omega,by omega,hpb,hhb,fun W hW=>⟨?_,?_,?_,?_,?_,?_⟩⟩
 ·exact(hW.cell (p:=⟨pb,po+k*4,none⟩) hpb).trans (hpc 0 _ rfl)
 ·exact(hW.cell (p:=⟨pb,po+k*4+1,none⟩) hpb).trans (hpc 1 _ rfl)
 ·exact(hW.cell (p:=⟨pb,po+k*4+2,none⟩) hpb).trans (hpc 2 _ rfl)
 ·rw[←eh];exact(hW.cell (p:=⟨pb,po+k*4+3,none⟩) hpb).trans (hpc 3 _ rfl)
 ·exact(hW.cell (p:=⟨hb,ho+t*2,none⟩) hhb).trans (hhc 0 _ rfl)
 ·exact(hW.cell (p:=⟨hb,ho+t*2+1,none⟩) hhb).trans (hhc 1 _ rfl)
theorem Qkx (w:World) (s:Sta) (hs:Qae w s) (hpm:s.pn≤4194304) (hpw:∀p∈s.pools,Qaw (frL p)) (a:Acd) (hok:Qad w a) (hrg:Qbt s a) (hk1:a.kind=1) :
  Calls Tryz.prog 62 #[.agg (qS s),.agg (qA a)] w fun e w'=>∃T:Tld,e=.returned (.agg T.arr)∧T.d=Qaf s a∧QcB w' T∧T.far w.heap.size a∧Below w.heap.size w w':=by
 obtain⟨w2,hw2,hJ⟩:=Qc3 w s a;obtain⟨HW2,HJ,HOk⟩:=Qmk hw2 hJ hok;obtain⟨t,ht,hth,htg,hto⟩:=hrg.till;have HSu:=Qaa (Qjx w2 s (hs.below hJ.bel) a (hok.below hJ.bel) hrg.act.lwf t ht hth hrg.act.lines);have HOt:=Qaa (Qhq w2 s (hs.below hJ.bel) hpm hpw a (hok.below hJ.bel) hrg.act);obtain⟨⟨c0,c1,c2,c3,c4,c5⟩,⟨a0,a1,a2,a3,a4,a5,a6,a7,a8,a9,a10,a11,a12,a13,a14⟩⟩:=hJ.cells;have e1:(a.kind == 1)=true:=by simp[hk1]
 have e2:(a.kind == 2)=false:=by simp[hk1]
 have e3:(a.kind == 3)=false:=by simp[hk1]
 have e4:(a.kind == 4)=false:=by simp[hk1]
 have HD:Hid (Qaf s a=if a.sure=true then (if s.keeps a.till a.lines.xs then (1,a.lines.xs,[],0) else (3,[],[],0)) else Qbw s a):=by show _=_;unfold Qaf;rw[if_pos hk1]
 clear hw2 hJ hs hok hrg hpw hth htg hto ht hk1;obtain⟨sv,hsv⟩:=exq a.sure;have HSv:=Qaa hsv;simp only[qA]at HOt;rw[hsv]at a3 HSu HOt;clear hsv
 cases sv with
 | true =>
  go_enter Tryz.func62,Tryz.ntmps62;go_upto_region 1 with (fail);rw[HW2.out];go_wp2_with (first | (go_at_call 117;refine HSu.out.mono ?_;rintro e w6 ⟨T,rfl,hTd,hTk,hFa,hb6⟩;have HJ6:=Qaa (HJ.out.below hb6);obtain⟨hf1,hf2⟩:=hFa.off HOk.out (w.heap.size+1+1) (by omega) (Qab HJ.out.tl);obtain⟨hS,hE,hB,hT⟩:=HJ6.out.store T;obtain⟨HS,HE,HBe⟩:=Qmk hS hE hB;have HT:=Qaa (hT hTk hf1 hf2);have HTd:=Qaa hTd;have HFa:=Qaa (hFa.le (show w.heap.size≤w2.heap.size from HJ.out.bel.size));clear hS hE hB hT hTk hf1 hf2 hTd hFa hb6) | ((with_reducible refine gsq 151 4 ?_);refine Z.lp_store (t:=151) (x:=.tmp 4) (some ⟨w.heap.size+1+1,0,none⟩) (.agg T.arr) rfl rfl HS.out ?_) | fail)
  refine bq rfl rfl HE.out Tryz.underlying151 rfl Tryz.sizeT rfl ?_;exact⟨T,rfl,by rw[HTd.out,HD.out,if_pos HSv.out],HT.out,HFa.out,HBe.out⟩
 | false =>
  go_enter Tryz.func62,Tryz.ntmps62;go_upto_region 1 with (fail);rw[HW2.out];go_wp2_with (first | (go_at_call 118;refine HOt.out.mono ?_;rintro e w6 ⟨T,rfl,hTd,hTk,hFa,hb6⟩;have HJ6:=Qaa (HJ.out.below hb6);obtain⟨hf1,hf2⟩:=hFa.off HOk.out (w.heap.size+1+1) (by omega) (Qab HJ.out.tl);obtain⟨hS,hE,hB,hT⟩:=HJ6.out.store T;obtain⟨HS,HE,HBe⟩:=Qmk hS hE hB;have HT:=Qaa (hT hTk hf1 hf2);have HTd:=Qaa hTd;have HFa:=Qaa (hFa.le (show w.heap.size≤w2.heap.size from HJ.out.bel.size));clear hS hE hB hT hTk hf1 hf2 hTd hFa hb6) | ((with_reducible refine gsq 151 4 ?_);refine Z.lp_store (t:=151) (x:=.tmp 4) (some ⟨w.heap.size+1+1,0,none⟩) (.agg T.arr) rfl rfl HS.out ?_) | fail)
  refine bq rfl rfl HE.out Tryz.underlying151 rfl Tryz.sizeT rfl ?_;exact⟨T,rfl,by rw[HTd.out,HD.out,if_neg (by rw[HSv.out];simp)],HT.out,HFa.out,HBe.out⟩
theorem QjO (w:World) (s:Sta) (hs:Qae w s) (_hpm:s.pn≤4194304) (_hpw:∀p∈s.pools,Qaw (frL p)) (a:Acd) (_hok:Qad w a) (hrg:Qbt s a) (hk1:a.kind=2) :
  Calls Tryz.prog 62 #[.agg (qS s),.agg (qA a)] w fun e w'=>∃T:Tld,e=.returned (.agg T.arr)∧T.d=Qaf s a∧QcB w' T∧T.far w.heap.size a∧Below w.heap.size w w':=by
 have e1:(a.kind == 1)=false:=by simp[hk1]
 have e2:(a.kind == 2)=true:=by simp[hk1]
 have e3:(a.kind == 3)=false:=by simp[hk1]
 have e4:(a.kind == 4)=false:=by simp[hk1]
 obtain⟨w2,hw2,hJ⟩:=Qc3 w s a;obtain⟨HW2,HJ⟩:=Qmj hw2 hJ;obtain⟨t,ht,hth,-,-⟩:=hrg.till;obtain⟨⟨k,hka,hkn⟩,hq⟩:=hrg.right (by omega) (by omega);simp only at hka hq;obtain⟨P,l,pb,po,hb,ho,hPA⟩:=Qgk hs hkn hth;obtain⟨v0,v1⟩:=Qd2 hPA.at_;obtain⟨u0,u1⟩:=QcQ hPA.at_ hPA.pair;have HZ:=Qaa hPA.cells;have k1:=hPA.kn;have t1:=hPA.tn;have k0:(0:Int)≤(k:Int):=by omega
 have t0:(0:Int)≤(t:Int):=by omega
 have HD:Hid (Qaf s a=(4,[],[],min a.rd (min (s.free k a.rb) (wrap64 (18014398509481984 - s.held t k a.rb))))):=by show _=_;unfold Qaf;rw[if_neg (by omega),if_pos hk1,ht,hka]
 obtain⟨rd,hrd⟩:=exq a.rd;rw[hrd]at HD
 have HJa:Hid (∀W,Jb w s a W→W.cell? ⟨w.heap.size,1,none⟩=some (.slice (some ⟨pb,po,none⟩) s.pn s.pc)∧W.cell? ⟨w.heap.size+1,0,none⟩=some (.int .i64 t)∧W.cell? ⟨w.heap.size+1,9,none⟩=some (.int .i64 k)∧W.cell? ⟨w.heap.size+1,10,none⟩=some (.int .i64 a.rb)∧W.cell? ⟨w.heap.size+1,11,none⟩=some (.int .i64 rd)∧W.cell? ⟨w.heap.size+1,2,none⟩=some (.int .i64 a.kind)):=fun W hW=>by
  obtain⟨⟨c0,c1,c2,c3,c4,c5⟩,⟨a0,a1,a2,a3,a4,a5,a6,a7,a8,a9,a10,a11,a12,a13,a14⟩⟩:=hW.cells;rw[hPA.pp]at c1;rw[ht]at a0;rw[hka]at a9;rw[hrd]at a11;exact⟨c1,a0,a9,a10,a11,a2⟩
 obtain⟨rb,hrb⟩:=exq a.rb;rw[hrb]at HD HJa hq;obtain⟨hl,hhl⟩:=exq P.hl;obtain⟨hc,hhc⟩:=exq P.hc;obtain⟨pv,hpv⟩:=exq P.v;obtain⟨f0,hf0⟩:=exq P.f0;obtain⟨f1,hf1⟩:=exq P.f1;obtain⟨lc,hlc⟩:=exq l.c;obtain⟨ln,hln⟩:=exq l.n;rw[hhl,hhc,hpv,hf0,hf1,hlc,hln]at HZ;rw[hhl]at t1;rw[hf0]at v0;rw[hf1]at v1;rw[hlc]at u0;rw[hln]at u1;obtain⟨w3,hw3,hb3,hx3⟩:=Qag w2 #[.int .i64 pv,.int .i64 f0,.int .i64 f1,.slice (some ⟨hb,ho,none⟩) hl hc] 121;have HW3:=Qaa hw3;have HJ3:=Qaa (hJ.below hb3);have HX3:=Qaa hx3;obtain⟨c1,a0,a9,a10,a11,a2⟩:=HJa.out w2 hJ;obtain⟨z0,z1,z2,z3,z4,z5⟩:=HZ.out w2 hJ.bel;clear hw2 hJ hs _hok hrg _hpw hth ht hka hkn hPA hrd hrb hhl hhc hpv hf0 hf1 hlc hln hw3 hb3 hx3 hk1;rcases hq with rfl | rfl
 ·rw[v0,u0]at HD
  obtain⟨rm,hrm⟩:=exq (wrap64 (18014398509481984 - lc));have hrw:IntKind.i64.wrap (18014398509481984 - lc)=rm:=by rw[←hrm];exact Qaq _
  rw[hrm]at HD;clear hrm v0 v1 u0 u1;go_enter Tryz.func62,Tryz.ntmps62;go_upto_region 1 with (fail);rw[HW2.out];go_upto_region 8 with (fail);rw[HW3.out];clear c1 a0 a9 a10 a11 a2 z0 z1 z2 z3 z4 z5;obtain⟨c1,a0,a9,a10,a11,a2⟩:=HJa.out w3 HJ3.out;obtain⟨z0,z1,z2,z3,z4,z5⟩:=HZ.out w3 HJ3.out.bel;have p1:w3.cell? ⟨w2.heap.size,1,none⟩=some (.int .i64 f0):=by rw[cRq HX3.out];rfl
  have p2:w3.cell? ⟨w2.heap.size,2,none⟩=some (.int .i64 f1):=by rw[cRq HX3.out];rfl
  have p3:w3.cell? ⟨w2.heap.size,3,none⟩=some (.slice (some ⟨hb,ho,none⟩) hl hc):=by rw[cRq HX3.out];rfl
  have HJd:Hid (Jb w s a w3.drew):=HJ3.out.below ((Below.refl _ w3).drew);by_cases q1:f0<rd
  ·skip
   go_upto_region 11 with (fail);go_region_held3 (fun w'=>w'.cell? ⟨w2.heap.size,3,none⟩=some (.slice (some ⟨hb,ho,none⟩) hl hc)∧w'.cell? ⟨w.heap.size+1,0,none⟩=some (.int .i64 t)∧w'.cell? ⟨w.heap.size+1,10,none⟩=some (.int .i64 0)∧w'.cell? ⟨hb,ho+t*2,none⟩=some (.int .i64 lc)) (go_keep) (first | fail);by_cases q2:rm<f0
   ·obtain⟨hS,hE,hB,hT⟩:=HJd.out.store (QaJ 4 rm)
    obtain⟨HS,HE,HBe⟩:=Qmk hS hE hB;have HT:=Qaa (hT (Qau _ _ _) (fun h=>absurd rfl h) (fun h=>absurd rfl h));clear hS hE hB hT;go_wp2_with (first | ((with_reducible refine gsq 151 4 ?_);refine Z.lp_store (t:=151) (x:=.tmp 4) (some ⟨w.heap.size+1+1,0,none⟩) (.agg (QaJ 4 rm).arr) rfl rfl HS.out ?_) | fail)
    refine bq rfl rfl HE.out Tryz.underlying151 rfl Tryz.sizeT rfl ?_;exact⟨(QaJ 4 rm),rfl,by rw[HD.out];unfold Tld.d QaJ;simp only;congr 3;omega,HT.out,Qaj _ _ _ _,HBe.out⟩
   ·obtain⟨hS,hE,hB,hT⟩:=HJd.out.store (QaJ 4 f0)
    obtain⟨HS,HE,HBe⟩:=Qmk hS hE hB;have HT:=Qaa (hT (Qau _ _ _) (fun h=>absurd rfl h) (fun h=>absurd rfl h));clear hS hE hB hT;go_wp2_with (first | ((with_reducible refine gsq 151 4 ?_);refine Z.lp_store (t:=151) (x:=.tmp 4) (some ⟨w.heap.size+1+1,0,none⟩) (.agg (QaJ 4 f0).arr) rfl rfl HS.out ?_) | fail)
    refine bq rfl rfl HE.out Tryz.underlying151 rfl Tryz.sizeT rfl ?_;exact⟨(QaJ 4 f0),rfl,by rw[HD.out];unfold Tld.d QaJ;simp only;congr 3;omega,HT.out,Qaj _ _ _ _,HBe.out⟩
  ·skip
   go_upto_region 11 with (fail);go_region_held3 (fun w'=>w'.cell? ⟨w2.heap.size,3,none⟩=some (.slice (some ⟨hb,ho,none⟩) hl hc)∧w'.cell? ⟨w.heap.size+1,0,none⟩=some (.int .i64 t)∧w'.cell? ⟨w.heap.size+1,10,none⟩=some (.int .i64 0)∧w'.cell? ⟨hb,ho+t*2,none⟩=some (.int .i64 lc)) (go_keep) (first | fail);by_cases q2:rm<rd
   ·obtain⟨hS,hE,hB,hT⟩:=HJd.out.store (QaJ 4 rm)
    obtain⟨HS,HE,HBe⟩:=Qmk hS hE hB;have HT:=Qaa (hT (Qau _ _ _) (fun h=>absurd rfl h) (fun h=>absurd rfl h));clear hS hE hB hT;go_wp2_with (first | ((with_reducible refine gsq 151 4 ?_);refine Z.lp_store (t:=151) (x:=.tmp 4) (some ⟨w.heap.size+1+1,0,none⟩) (.agg (QaJ 4 rm).arr) rfl rfl HS.out ?_) | fail)
    refine bq rfl rfl HE.out Tryz.underlying151 rfl Tryz.sizeT rfl ?_;exact⟨(QaJ 4 rm),rfl,by rw[HD.out];unfold Tld.d QaJ;simp only;congr 3;omega,HT.out,Qaj _ _ _ _,HBe.out⟩
   ·obtain⟨hS,hE,hB,hT⟩:=HJd.out.store (QaJ 4 rd)
    obtain⟨HS,HE,HBe⟩:=Qmk hS hE hB;have HT:=Qaa (hT (Qau _ _ _) (fun h=>absurd rfl h) (fun h=>absurd rfl h));clear hS hE hB hT;go_wp2_with (first | ((with_reducible refine gsq 151 4 ?_);refine Z.lp_store (t:=151) (x:=.tmp 4) (some ⟨w.heap.size+1+1,0,none⟩) (.agg (QaJ 4 rd).arr) rfl rfl HS.out ?_) | fail)
    refine bq rfl rfl HE.out Tryz.underlying151 rfl Tryz.sizeT rfl ?_;exact⟨(QaJ 4 rd),rfl,by rw[HD.out];unfold Tld.d QaJ;simp only;congr 3;omega,HT.out,Qaj _ _ _ _,HBe.out⟩
 ·rw[v1,u1]at HD
  obtain⟨rm,hrm⟩:=exq (wrap64 (18014398509481984 - ln));have hrw:IntKind.i64.wrap (18014398509481984 - ln)=rm:=by rw[←hrm];exact Qaq _
  rw[hrm]at HD;clear hrm v0 v1 u0 u1;go_enter Tryz.func62,Tryz.ntmps62;go_upto_region 1 with (fail);rw[HW2.out];go_upto_region 8 with (fail);rw[HW3.out];clear c1 a0 a9 a10 a11 a2 z0 z1 z2 z3 z4 z5;obtain⟨c1,a0,a9,a10,a11,a2⟩:=HJa.out w3 HJ3.out;obtain⟨z0,z1,z2,z3,z4,z5⟩:=HZ.out w3 HJ3.out.bel;have p1:w3.cell? ⟨w2.heap.size,1,none⟩=some (.int .i64 f0):=by rw[cRq HX3.out];rfl
  have p2:w3.cell? ⟨w2.heap.size,2,none⟩=some (.int .i64 f1):=by rw[cRq HX3.out];rfl
  have p3:w3.cell? ⟨w2.heap.size,3,none⟩=some (.slice (some ⟨hb,ho,none⟩) hl hc):=by rw[cRq HX3.out];rfl
  have HJd:Hid (Jb w s a w3.drew):=HJ3.out.below ((Below.refl _ w3).drew);by_cases q1:f1<rd
  ·skip
   go_upto_region 11 with (fail);go_region_held3 (fun w'=>w'.cell? ⟨w2.heap.size,3,none⟩=some (.slice (some ⟨hb,ho,none⟩) hl hc)∧w'.cell? ⟨w.heap.size+1,0,none⟩=some (.int .i64 t)∧w'.cell? ⟨w.heap.size+1,10,none⟩=some (.int .i64 1)∧w'.cell? ⟨hb,ho+t*2+1,none⟩=some (.int .i64 ln)) (go_keep) (first | fail);by_cases q2:rm<f1
   ·obtain⟨hS,hE,hB,hT⟩:=HJd.out.store (QaJ 4 rm)
    obtain⟨HS,HE,HBe⟩:=Qmk hS hE hB;have HT:=Qaa (hT (Qau _ _ _) (fun h=>absurd rfl h) (fun h=>absurd rfl h));clear hS hE hB hT;go_wp2_with (first | ((with_reducible refine gsq 151 4 ?_);refine Z.lp_store (t:=151) (x:=.tmp 4) (some ⟨w.heap.size+1+1,0,none⟩) (.agg (QaJ 4 rm).arr) rfl rfl HS.out ?_) | fail)
    refine bq rfl rfl HE.out Tryz.underlying151 rfl Tryz.sizeT rfl ?_;exact⟨(QaJ 4 rm),rfl,by rw[HD.out];unfold Tld.d QaJ;simp only;congr 3;omega,HT.out,Qaj _ _ _ _,HBe.out⟩
   ·obtain⟨hS,hE,hB,hT⟩:=HJd.out.store (QaJ 4 f1)
    obtain⟨HS,HE,HBe⟩:=Qmk hS hE hB;have HT:=Qaa (hT (Qau _ _ _) (fun h=>absurd rfl h) (fun h=>absurd rfl h));clear hS hE hB hT;go_wp2_with (first | ((with_reducible refine gsq 151 4 ?_);refine Z.lp_store (t:=151) (x:=.tmp 4) (some ⟨w.heap.size+1+1,0,none⟩) (.agg (QaJ 4 f1).arr) rfl rfl HS.out ?_) | fail)
    refine bq rfl rfl HE.out Tryz.underlying151 rfl Tryz.sizeT rfl ?_;exact⟨(QaJ 4 f1),rfl,by rw[HD.out];unfold Tld.d QaJ;simp only;congr 3;omega,HT.out,Qaj _ _ _ _,HBe.out⟩
  ·skip
   go_upto_region 11 with (fail);go_region_held3 (fun w'=>w'.cell? ⟨w2.heap.size,3,none⟩=some (.slice (some ⟨hb,ho,none⟩) hl hc)∧w'.cell? ⟨w.heap.size+1,0,none⟩=some (.int .i64 t)∧w'.cell? ⟨w.heap.size+1,10,none⟩=some (.int .i64 1)∧w'.cell? ⟨hb,ho+t*2+1,none⟩=some (.int .i64 ln)) (go_keep) (first | fail);by_cases q2:rm<rd
   ·obtain⟨hS,hE,hB,hT⟩:=HJd.out.store (QaJ 4 rm)
    obtain⟨HS,HE,HBe⟩:=Qmk hS hE hB;have HT:=Qaa (hT (Qau _ _ _) (fun h=>absurd rfl h) (fun h=>absurd rfl h));clear hS hE hB hT;go_wp2_with (first | ((with_reducible refine gsq 151 4 ?_);refine Z.lp_store (t:=151) (x:=.tmp 4) (some ⟨w.heap.size+1+1,0,none⟩) (.agg (QaJ 4 rm).arr) rfl rfl HS.out ?_) | fail)
    refine bq rfl rfl HE.out Tryz.underlying151 rfl Tryz.sizeT rfl ?_;exact⟨(QaJ 4 rm),rfl,by rw[HD.out];unfold Tld.d QaJ;simp only;congr 3;omega,HT.out,Qaj _ _ _ _,HBe.out⟩
   ·obtain⟨hS,hE,hB,hT⟩:=HJd.out.store (QaJ 4 rd)
    obtain⟨HS,HE,HBe⟩:=Qmk hS hE hB;have HT:=Qaa (hT (Qau _ _ _) (fun h=>absurd rfl h) (fun h=>absurd rfl h));clear hS hE hB hT;go_wp2_with (first | ((with_reducible refine gsq 151 4 ?_);refine Z.lp_store (t:=151) (x:=.tmp 4) (some ⟨w.heap.size+1+1,0,none⟩) (.agg (QaJ 4 rd).arr) rfl rfl HS.out ?_) | fail)
    refine bq rfl rfl HE.out Tryz.underlying151 rfl Tryz.sizeT rfl ?_;exact⟨(QaJ 4 rd),rfl,by rw[HD.out];unfold Tld.d QaJ;simp only;congr 3;omega,HT.out,Qaj _ _ _ _,HBe.out⟩
end Go.Proofs.YtiogibfhafoapaaGreat
