import Derived.Test.YtfbegfapoijbnaaGreatDcM
import Derived.Laws.OwnMore
import Derived.Test.YtfbegfapoijbnaaGreatRwJ
set_option maxRecDepth 100000
namespace Go.Proofs.YtfbegfapoijbnaaGreat
open Go.RowKit
open Z (Sli SlOk Acd AcdOk)
def Sta.fits (s:Sta) (xs:List Lin):Bool:=(needT xs).all (fun x=>decide (x.n≤s.free x.a x.b))
def Sta.keeps (s:Sta) (t:Int) (xs:List Lin):Bool:=(needT xs).all (fun x=>decide (x.n≤s.held t x.a x.b))
def Sta.opens (s:Sta) (xs:List Tri):Bool:=xs.all (fun x=>s.isOpen x.a)
def Sta.guards (s:Sta) (xs:List Tri):Bool:=xs.all (fun x=>s.guard x.a x.b x.n)
def Sta.hasAll (s:Sta) (t:Int) (xs:List Tri):Bool:=xs.all (fun x=>decide (x.n≤s.held t x.a x.b))
def Tld.far (B:Nat) (a:Acd) (T:Tld):Prop:=(T.made.xs≠[]→∀g,T.made.p=some g→B≤g.block∨(a.lines.p=some g∧a.lines.xs≠[])∨(a.other.p=some g∧a.other.xs≠[]))∧(T.sets.xs≠[]→∀g,T.sets.p=some g→B≤g.block)
theorem tld0_far (B:Nat) (a:Acd) (o n:Int):(tld0 o n).far B a:=⟨fun h=>absurd rfl h,fun h=>absurd rfl h⟩
theorem Tld.far.le {B B':Nat} {a:Acd} {T:Tld} (h:T.far B a) (hb:B'≤B):T.far B' a:=⟨fun h1 g e=>(h.1 h1 g e).imp (fun h2=>Nat.le_trans hb h2) id,fun h1 g e=>Nat.le_trans hb (h.2 h1 g e)⟩
structure Jb (w:World) (s:Sta) (a:Acd) (W:World):Prop where
 st:W.heap[w.heap.size]?=some (.cells s.arr 45 (0,0))
 ac:W.heap[w.heap.size+1]?=some (.cells a.arr 56 (0,0))
 tl:W.heap[w.heap.size+1+1]?=some (.cells #[.int .i64 0,.slice none 0 0,.slice none 0 0,.int .i64 0] 137 (0,0))
 bel:Below w.heap.size w W
theorem Jb.below {w W W':World} {s:Sta} {a:Acd} (h:Jb w s a W) (hb:Below W.heap.size W W'):Jb w s a W' :=
 ⟨(hb.block _ (ac_lt h.st)).trans h.st,(hb.block _ (ac_lt h.ac)).trans h.ac,(hb.block _ (ac_lt h.tl)).trans h.tl,h.bel.trans (hb.mono h.bel.size)⟩
theorem jb_new (w:World) (s:Sta) (a:Acd):∃w2,((w.alloc (.cells #[.int .u64 s.pos,.slice s.pp s.pn s.pc,.slice s.rp s.rn s.rc,.slice s.lp s.ln s.lc,.slice s.gp s.gn s.gc,.slice s.op s.on s.oc] 45)).alloc (.cells #[.int .i64 a.till,.int .u64 a.num,.int .i64 a.kind,.bool a.sure,.slice a.lines.p a.lines.n a.lines.c,.slice a.guards.p a.guards.n a.guards.c,.slice a.sets.p a.sets.n a.sets.c,.int .i64 a.mg,.slice a.other.p a.other.n a.other.c,.int .i64 a.ra,.int .i64 a.rb,.int .i64 a.rd,.int .i64 a.to,.int .u64 a.gen,.slice a.rights.p a.rights.n a.rights.c] 56)).alloc (.cells #[.int .i64 0,.slice none 0 0,.slice none 0 0,.int .i64 0] 137)=w2∧Jb w s a w2:=by
 refine⟨_,rfl,⟨?_,?_,?_,?_⟩⟩
 ·rw[Below.heap_alloc _ _ _ (by simp only[World.size_alloc];omega),Below.heap_alloc _ _ _ (by simp)];exact heap_alloc_new _ _
 ·rw[Below.heap_alloc _ _ _ (by simp)];exact heap_alloc2_new _ _ _
 ·have h:=heap_alloc_new ((w.alloc (.cells #[.int .u64 s.pos,.slice s.pp s.pn s.pc,.slice s.rp s.rn s.rc,.slice s.lp s.ln s.lc,.slice s.gp s.gn s.gc,.slice s.op s.on s.oc] 45)).alloc (.cells #[.int .i64 a.till,.int .u64 a.num,.int .i64 a.kind,.bool a.sure,.slice a.lines.p a.lines.n a.lines.c,.slice a.guards.p a.guards.n a.guards.c,.slice a.sets.p a.sets.n a.sets.c,.int .i64 a.mg,.slice a.other.p a.other.n a.other.c,.int .i64 a.ra,.int .i64 a.rb,.int .i64 a.rd,.int .i64 a.to,.int .u64 a.gen,.slice a.rights.p a.rights.n a.rights.c] 56)) (.cells #[.int .i64 0,.slice none 0 0,.slice none 0 0,.int .i64 0] 137)
  simp only[World.size_alloc]at h
  exact h
 ·exact(((Below.refl _ w).alloc (Nat.le_refl _) _).alloc (by simp) _).alloc (by simp;omega) _
theorem Jb.cells {w W:World} {s:Sta} {a:Acd} (h:Jb w s a W):(W.cell? ⟨w.heap.size,0,none⟩=some (.int .u64 s.pos)∧W.cell? ⟨w.heap.size,1,none⟩=some (.slice s.pp s.pn s.pc)∧W.cell? ⟨w.heap.size,2,none⟩=some (.slice s.rp s.rn s.rc)∧W.cell? ⟨w.heap.size,3,none⟩=some (.slice s.lp s.ln s.lc)∧W.cell? ⟨w.heap.size,4,none⟩=some (.slice s.gp s.gn s.gc)∧W.cell? ⟨w.heap.size,5,none⟩=some (.slice s.op s.on s.oc))∧(W.cell? ⟨w.heap.size+1,0,none⟩=some (.int .i64 a.till)∧W.cell? ⟨w.heap.size+1,1,none⟩=some (.int .u64 a.num)∧W.cell? ⟨w.heap.size+1,2,none⟩=some (.int .i64 a.kind)∧W.cell? ⟨w.heap.size+1,3,none⟩=some (.bool a.sure)∧W.cell? ⟨w.heap.size+1,4,none⟩=some (.slice a.lines.p a.lines.n a.lines.c)∧W.cell? ⟨w.heap.size+1,5,none⟩=some (.slice a.guards.p a.guards.n a.guards.c)∧W.cell? ⟨w.heap.size+1,6,none⟩=some (.slice a.sets.p a.sets.n a.sets.c)∧W.cell? ⟨w.heap.size+1,7,none⟩=some (.int .i64 a.mg)∧W.cell? ⟨w.heap.size+1,8,none⟩=some (.slice a.other.p a.other.n a.other.c)∧W.cell? ⟨w.heap.size+1,9,none⟩=some (.int .i64 a.ra)∧W.cell? ⟨w.heap.size+1,10,none⟩=some (.int .i64 a.rb)∧W.cell? ⟨w.heap.size+1,11,none⟩=some (.int .i64 a.rd)∧W.cell? ⟨w.heap.size+1,12,none⟩=some (.int .i64 a.to)∧W.cell? ⟨w.heap.size+1,13,none⟩=some (.int .u64 a.gen)∧W.cell? ⟨w.heap.size+1,14,none⟩=some (.slice a.rights.p a.rights.n a.rights.c)):=⟨ac6 h.st,ac15 h.ac⟩
theorem Tryz.sizeT:(Tryz.prog.info? 137).map (·.size)=some 4:=by kernel_rfl
theorem Jb.store {w W:World} {s:Sta} {a:Acd} (h:Jb w s a W) (T:Tld):(Instr.storeAt 137 (.pointer (some ⟨w.heap.size+1+1,0,none⟩)) (.agg T.arr)).run Tryz.prog W=.ok () (W.setRow (w.heap.size+1+1) T.arr)∧(W.setRow (w.heap.size+1+1) T.arr).heap[w.heap.size+1+1]?=some (.cells T.arr 137 (0,0))∧Below w.heap.size w (W.setRow (w.heap.size+1+1) T.arr)∧(TldOk W T→(T.made.xs≠[]→∀g,T.made.p=some g→g.block≠w.heap.size+1+1)→(T.sets.xs≠[]→∀g,T.sets.p=some g→g.block≠w.heap.size+1+1)→TldOk (W.setRow (w.heap.size+1+1) T.arr) T):=by
 refine⟨Z.storeAt_row (P:=Tryz.prog) (c':=T.arr) h.tl Tryz.sizeT rfl T.ones,setRow_heap _ _ _ _ _ _ h.tl,below_setRow h.bel (by omega) _,fun hT h1 h2=>?_⟩
 have hk:∀(sz:Nat) (p:Option Addr) (cs:List (List Value)),Cel W p sz cs→(cs≠[]→∀g,p=some g→g.block≠w.heap.size+1+1)→Cel (W.setRow (w.heap.size+1+1) T.arr) p sz cs:=fun sz p cs hc hn=>by
  rcases hc with hc | ⟨b,o,e,hb,hc⟩
  ·exact Or.inl hc
  ·by_cases hcs:cs=[]
   ·exact Or.inl hcs
   refine Or.inr ⟨b,o,e,by simpa using hb,fun i r hr j v hv=>?_⟩
   have hne:=hn hcs _ e
   rw[World.cell?_of_block (w:=W) (setRow_other W _ _ _ (by simpa using hne))]
   exact hc i r hr j v hv
 exact⟨⟨hT.made.len,hT.made.most,hk _ _ _ hT.made.cel (fun h=>h1 (fun e=>h (by rw[e];rfl)))⟩,⟨hT.sets.len,hT.sets.most,hk _ _ _ hT.sets.cel (fun h=>h2 (fun e=>h (by rw[e];rfl)))⟩⟩
theorem slok_off {α:Type} {w:World} {sz:Nat} {f:α→List Value} {s:Sli α} (h:SlOk w sz f s) (k:Nat) (hk:w.heap.size≤k):s.xs≠[]→∀g,s.p=some g→g.block≠k:=fun hs g e hg=>by
 rcases h.cel with hc | ⟨b,o,e2,hb,_⟩
 ·rw[List.map_eq_nil_iff]at hc;exact hs hc
 ·rw[e2]at e;cases e;simp at hg;omega
theorem Tld.far.off {w:World} {B:Nat} {a:Acd} {T:Tld} (h:T.far B a) (hok:AcdOk w a) (k:Nat) (hk:w.heap.size≤k) (hkB:k<B):(T.made.xs≠[]→∀g,T.made.p=some g→g.block≠k)∧(T.sets.xs≠[]→∀g,T.sets.p=some g→g.block≠k) :=
 ⟨fun h1 g e=>by
  rcases h.1 h1 g e with h2 | ⟨h2,h3⟩ | ⟨h2,h3⟩
  ·omega
  ·exact slok_off hok.lines k hk h3 g h2
  ·exact slok_off hok.other k hk h3 g h2,
  fun h1 g e=>by have:=h.2 h1 g e;omega⟩
set_option maxHeartbeats 4000000 in
theorem rsure_any (w:World) (s:Sta) (hs:StaOk w s) (a:Acd) (hok:AcdOk w a) (hwf:∀x∈a.lines.xs,LinWf x) (t:Nat) (ht:a.till=(t:Int)) (hth:RgH s t) (hr:∀x∈a.lines.xs,RgL s x) :
  Calls Tryz.prog 82 #[.agg #[.int .u64 s.pos,.slice s.pp s.pn s.pc,.slice s.rp s.rn s.rc,.slice s.lp s.ln s.lc,.slice s.gp s.gn s.gc,.slice s.op s.on s.oc],.agg #[.int .i64 a.till,.int .u64 a.num,.int .i64 a.kind,.bool a.sure,.slice a.lines.p a.lines.n a.lines.c,.slice a.guards.p a.guards.n a.guards.c,.slice a.sets.p a.sets.n a.sets.c,.int .i64 a.mg,.slice a.other.p a.other.n a.other.c,.int .i64 a.ra,.int .i64 a.rb,.int .i64 a.rd,.int .i64 a.to,.int .u64 a.gen,.slice a.rights.p a.rights.n a.rights.c]] w fun e w'=>∃T:Tld,e=.returned (.agg T.arr)∧T.d=(if s.keeps a.till a.lines.xs then (1,a.lines.xs,[],0) else (3,[],[],0))∧TldOk w' T∧T.far w.heap.size a∧Below w.heap.size w w':=by
 obtain⟨w2,hw2,hJ⟩:=jb_new w s a
 have HW2:=hide hw2
 have HJ:=hide hJ
 obtain⟨⟨c0,c1,c2,c3,c4,c5⟩,⟨a0,a1,a2,a3,a4,a5,a6,a7,a8,a9,a10,a11,a12,a13,a14⟩⟩:=hJ.cells
 have HH:=hide (rholdsL_any w2 s (hs.below hJ.bel) t hth a.lines.p a.lines.n a.lines.c a.lines.xs hok.lines.len (by have:=hok.lines.most;omega) hwf (hok.lines.below hJ.bel).cel hr)
 have hkp:((needT a.lines.xs).all (fun x=>decide (x.n≤s.held t x.a x.b)))=s.keeps a.till a.lines.xs:=by unfold Sta.keeps;rw[ht]
 rw[hkp]at HH
 unfold Sta.arr at HH
 have HLo:=hide hok.lines
 rw[ht]at a0 HW2 HH ⊢
 clear hw2 hJ hs hwf hth hr hkp
 cases hk:s.keeps t a.lines.xs with
 | false =>
  rw[hk]at HH
  clear hk
  go_enter Tryz.func82,Tryz.ntmps82
  go_upto_region 1 with (fail)
  rw[HW2.out]
  go_upto_region 2 with (first | (go_at_call 13;refine HH.out.mono ?_;rintro e w3 ⟨rfl,hb⟩;have HJ3:=hide (HJ.out.below hb);clear hb) | fail)
  obtain⟨hS,hE,hB,hT⟩:=HJ3.out.store (tld0 3 0)
  have HS:=hide hS
  have HE:=hide hE
  have HBe:=hide hB
  have HT:=hide (hT (tld0_ok _ _ _) (fun h=>absurd rfl h) (fun h=>absurd rfl h))
  clear hS hE hB hT
  go_wp2_with (first | ((with_reducible show wpList _ _ _ (⟨_,.store 137 (.tmp 4) _,_,_,_,_⟩ :: _) _ _);refine Z.lp_store (t:=137) (x:=.tmp 4) (some ⟨w.heap.size+1+1,0,none⟩) (.agg (tld0 3 0).arr) rfl rfl HS.out ?_) | fail)
  refine bodyPost_ret (results_cell_row rfl _ _ (w.heap.size+1+1) 137 _ (0,0) _ rfl HE.out Tryz.underlying137 rfl Tryz.sizeT) rfl ?_
  exact⟨tld0 3 0,rfl,rfl,HT.out,tld0_far _ _ _ _,HBe.out⟩
 | true =>
  rw[hk]at HH
  clear hk
  go_enter Tryz.func82,Tryz.ntmps82
  go_upto_region 1 with (fail)
  rw[HW2.out]
  go_upto_region 3 with (first | (go_at_call 13;refine HH.out.mono ?_;rintro e w3 ⟨rfl,hb⟩;have HJ3:=hide (HJ.out.below hb);clear hb) | fail)
  clear c0 c1 c2 c3 c4 c5 a0 a1 a2 a3 a4 a5 a6 a7 a8 a9 a10 a11 a12 a13 a14
  obtain⟨⟨c0,c1,c2,c3,c4,c5⟩,⟨a0,a1,a2,a3,a4,a5,a6,a7,a8,a9,a10,a11,a12,a13,a14⟩⟩:=HJ3.out.cells
  obtain⟨hS,hE,hB,hT⟩:=HJ3.out.store ⟨1,a.lines,⟨none,0,0,[]⟩,0⟩
  have HS:=hide hS
  have HE:=hide hE
  have HBe:=hide hB
  have HT:=hide (hT ⟨HLo.out.below HJ3.out.bel,sl_nil _ _ _⟩ (slok_off HLo.out _ (by omega)) (fun h=>absurd rfl h))
  clear hS hE hB hT
  go_wp2_with (first | ((with_reducible show wpList _ _ _ (⟨_,.store 137 (.tmp 4) _,_,_,_,_⟩ :: _) _ _);refine Z.lp_store (t:=137) (x:=.tmp 4) (some ⟨w.heap.size+1+1,0,none⟩) (.agg ((⟨1,a.lines,⟨none,0,0,[]⟩,0⟩:Tld)).arr) rfl rfl HS.out ?_) | fail)
  refine bodyPost_ret (results_cell_row rfl _ _ (w.heap.size+1+1) 137 _ (0,0) _ rfl HE.out Tryz.underlying137 rfl Tryz.sizeT) rfl ?_
  exact⟨⟨1,a.lines,⟨none,0,0,[]⟩,0⟩,rfl,rfl,HT.out,⟨fun h g e=>Or.inr (Or.inl ⟨e,h⟩),fun h=>absurd rfl h⟩,HBe.out⟩
end Go.Proofs.YtfbegfapoijbnaaGreat
namespace Go.Proofs.YtfbegfapoijbnaaGreat
open Go.RowKit
open Z (Sli SlOk Acd AcdOk)
theorem flat_set {α:Type} {f:α→List Value} {sz:Nat} (hf:∀x,(f x).length=sz):∀(xs:List α) (i j:Nat) (x x':α) (u:Value),xs[i]?=some x→j<sz→f x'=(f x).set j u→(Z.flat f xs).set (i*sz+j) u=Z.flat f (xs.set i x')
 | [],i,j,x,x',u,h,_,_=>by simp at h
 | y :: xs,0,j,x,x',u,h,hj,e=>by
  simp at h
  subst h
  have e1:Z.flat f (y :: xs)=f y++Z.flat f xs:=rfl
  rw[Nat.zero_mul,Nat.zero_add,e1,List.set_append_left _ _ (by rw[hf];exact hj),←e]
  rfl
 | y :: xs,i+1,j,x,x',u,h,hj,e=>by
  have e1:Z.flat f (y :: xs)=f y++Z.flat f xs:=rfl
  rw[e1,List.set_append_right _ _ (by rw[hf,Nat.add_mul];omega),hf,Nat.add_mul]
  rw[show i*sz+1*sz+j - sz=i*sz+j by omega,flat_set hf xs i j x x' u (by simpa using h) hj e]
  rfl
theorem owns_setg {w:World} {B g n c k s:Nat} {t:TypeId} {xs:List Value} (h:w.ownsRow B t s (.slice (some ⟨g,0,none⟩) n c) n xs) (a:Value):(w.setCell ⟨g,k,none⟩ a).ownsRow B t s (.slice (some ⟨g,0,none⟩) n c) n (xs.set k a):=by
 rcases h.2 with ⟨h1,_⟩ | ⟨g',cap,cur,h1,h2,hg,h3,h4,h5,ht⟩
 ·cases h1
 ·cases h1
  refine⟨by rw[List.length_set];exact h.1,Or.inr ⟨g,c,cur.setIfInBounds k a,rfl,h2,heap_setCell_same _ _ _ _ _ _ hg,h3,h4,by simpa using h5,?_⟩⟩
  rw[←ht]
  simp[List.take_set,Array.toList_setIfInBounds]
theorem flat_get {α:Type} {f:α→List Value} {sz:Nat} (hf:∀x,(f x).length=sz):∀(xs:List α) (i j:Nat) (x:α) (v:Value),xs[i]?=some x→(f x)[j]?=some v→(Z.flat f xs)[i*sz+j]?=some v
 | [],i,j,x,v,h,_=>by simp at h
 | y :: xs,0,j,x,v,h,hv=>by
  simp at h
  subst h
  show ((f y)++Z.flat f xs)[0*sz+j]?=_
  rw[Nat.zero_mul,Nat.zero_add,List.getElem?_append_left ((List.getElem?_eq_some_iff.1 hv).1)]
  exact hv
 | y :: xs,i+1,j,x,v,h,hv=>by
  show ((f y)++Z.flat f xs)[(i+1)*sz+j]?=_
  rw[List.getElem?_append_right (by rw[hf,Nat.succ_mul];omega),hf,Nat.succ_mul,show i*sz+sz+j - sz=i*sz+j by omega]
  exact flat_get hf xs i j x v (by simpa using h) hv
theorem pr_cells {w:World} {B g n c k:Nat} {t:TypeId} {F:List Lin} {x:Lin} (h:w.ownsRow B t 2 (.slice (some ⟨g,0,none⟩) n c) n (Z.flat linc F)) (hx:F[k]?=some x):w.cell? ⟨g,k*2,none⟩=some (.int .i64 x.c)∧w.cell? ⟨g,k*2+1,none⟩=some (.int .i64 x.n)∧(∀j,w.frozen? ⟨g,j,none⟩=false):=by
 obtain⟨_,e0,_,q0⟩:=row_cell h (flat_get (f:=linc) (sz:=2) (fun _=>rfl) F k 0 x _ hx rfl)
 cases e0
 obtain⟨_,e1,_,q1⟩:=row_cell h (flat_get (f:=linc) (sz:=2) (fun _=>rfl) F k 1 x _ hx rfl)
 cases e1
 refine⟨by simpa using q0,q1,fun j=>?_⟩
 rcases h.2 with ⟨h1,_⟩ | ⟨g',cap,cur,h1,_,hg',_⟩
 ·cases h1
 ·cases h1;simp[World.frozen?,hg']
theorem pr_set0 {w:World} {B g n c k:Nat} {t:TypeId} {F:List Lin} {x:Lin} (h:w.ownsRow B t 2 (.slice (some ⟨g,0,none⟩) n c) n (Z.flat linc F)) (hx:F[k]?=some x) (v:Int):(w.setCell ⟨g,k*2,none⟩ (.int .i64 v)).ownsRow B t 2 (.slice (some ⟨g,0,none⟩) n c) n (Z.flat linc (F.set k ⟨v,x.n⟩)):=by
 have h1:=owns_setg (k:=k*2) h (.int .i64 v)
 have h2:=flat_set (f:=linc) (sz:=2) (fun _=>rfl) F k 0 x ⟨v,x.n⟩ (.int .i64 v) hx (by omega) rfl
 rw[Nat.add_zero]at h2
 rw[h2]at h1
 exact h1
theorem pr_set1 {w:World} {B g n c k:Nat} {t:TypeId} {F:List Lin} {x:Lin} (h:w.ownsRow B t 2 (.slice (some ⟨g,0,none⟩) n c) n (Z.flat linc F)) (hx:F[k]?=some x) (v:Int):(w.setCell ⟨g,k*2+1,none⟩ (.int .i64 v)).ownsRow B t 2 (.slice (some ⟨g,0,none⟩) n c) n (Z.flat linc (F.set k ⟨x.c,v⟩)):=by
 have h1:=owns_setg (k:=k*2+1) h (.int .i64 v)
 rw[flat_set (f:=linc) (sz:=2) (fun _=>rfl) F k 1 x ⟨x.c,v⟩ (.int .i64 v) hx (by omega) rfl]at h1
 exact h1
def cutR (n f:Int):Int:=if f<0 then 0 else if amtU n≤f then n else if n<0 then -f else f
set_option maxHeartbeats 4000000 in
theorem rcut_any (w:World) (n f:Int) (hn:(Lit.int .i64 n).wf=true) (hf:(Lit.int .i64 f).wf=true):Calls Tryz.prog 116 #[.int .i64 n,.int .i64 f] w fun e w'=>e=.returned (.int .i64 (cutR n f))∧w'=w:=by
 have HAm:=hide (fun W=>amt3_any n hn W)
 have hfb : -9223372036854775808≤f∧f≤9223372036854775807:=by
  simp[Lit.wf,IntKind.min,IntKind.max,IntKind.signed,IntKind.bits]at hf
  omega
 by_cases h1:f<0
 ·have hv:cutR n f=0:=by unfold cutR;rw[if_pos h1]
  rw[hv]
  go_enter Tryz.func116,Tryz.ntmps116
  go_wp2
  go_ret
  exact⟨rfl,rfl⟩
 ·have hw:IntKind.u64.wrap f=f:=by simp[IntKind.wrap,IntKind.bits,IntKind.signed];omega
  have HAu:Hid (cutR n f=if amtU n≤f then n else if n<0 then -f else f):=by show _=_;unfold cutR;rw[if_neg h1]
  rw[HAu.out]
  clear HAu hn hf
  generalize amtU n=m at *
  by_cases h2:m≤f
  ·rw[if_pos h2]
   go_enter Tryz.func116,Tryz.ntmps116
   go_wp2_with (first | (go_at_call 42;refine(HAm.out _).mono ?_;rintro e w3 ⟨rfl,h9⟩;rw[h9];clear h9 w3) | fail)
   go_ret
   exact⟨rfl,rfl⟩
  ·rw[if_neg h2]
   by_cases h3:n<0
   ·rw[if_pos h3]
    have hw2:IntKind.i64.wrap (-f) = -f:=by simp[IntKind.wrap,IntKind.bits,IntKind.signed];omega
    go_enter Tryz.func116,Tryz.ntmps116
    go_wp2_with (first | (go_at_call 42;refine(HAm.out _).mono ?_;rintro e w3 ⟨rfl,h9⟩;rw[h9];clear h9 w3) | fail)
    go_ret
    exact⟨rfl,rfl⟩
   ·rw[if_neg h3]
    go_enter Tryz.func116,Tryz.ntmps116
    go_wp2_with (first | (go_at_call 42;refine(HAm.out _).mono ?_;rintro e w3 ⟨rfl,h9⟩;rw[h9];clear h9 w3) | fail)
    go_ret
    exact⟨rfl,rfl⟩
end Go.Proofs.YtfbegfapoijbnaaGreat
namespace Go.Proofs.YtfbegfapoijbnaaGreat
open Go.RowKit
set_option maxHeartbeats 4000000 in
theorem rbetween_any (w:World) (n lo hi:Int):Calls Tryz.prog 87 #[.int .i64 n,.int .i64 lo,.int .i64 hi] w fun e w'=>e=.returned (.bool (decide (lo≤n∧n≤hi)))∧w'=w:=by
 by_cases h1:lo≤n
 ·by_cases h2:n≤hi
  ·rw[decide_eq_true ⟨h1,h2⟩]
   go_enter Tryz.func87,Tryz.ntmps87
   go_wp2
   go_ret
   exact⟨rfl,rfl⟩
  ·rw[decide_eq_false (fun h=>h2 h.2)]
   go_enter Tryz.func87,Tryz.ntmps87
   go_wp2
   go_ret
   exact⟨rfl,rfl⟩
 ·rw[decide_eq_false (fun h=>h1 h.1)]
  go_enter Tryz.func87,Tryz.ntmps87
  go_wp2
  go_ret
  exact⟨rfl,rfl⟩
structure Shp (c:Cfg) (s:Sta):Prop where
 pn:s.pn=c.cl
 rn:s.rn=c.pl
 ln:(s.ln:Int)=c.tills
 gn:(s.gn:Int)=c.tills
 on:(s.on:Int)=c.tills
 hl:∀p∈s.pools,(p.hl:Int)=c.tills
def ShpB (c:Cfg) (s:Sta) (b:Bool):Prop:=b=true↔Shp c s
def ShpE (c:Cfg) (s:Sta) (e:Ending):Prop:=∃b:Bool,e=.returned (.bool b)∧ShpB c s b
set_option maxHeartbeats 4000000 in
theorem rshaped_any (w:World) (c:Cfg) (s:Sta) (hs:StaOk w s) (hpn:s.pn≤140737488355328) :
  Calls Tryz.prog 85 #[c.v,.agg #[.int .u64 s.pos,.slice s.pp s.pn s.pc,.slice s.rp s.rn s.rc,.slice s.lp s.ln s.lc,.slice s.gp s.gn s.gc,.slice s.op s.on s.oc]] w fun e w'=>ShpE c s e∧Below w.heap.size w w':=by
 unfold Cfg.v
 obtain⟨w2,hw2,hb2,hx2,hy2⟩:=box_two w #[.int .i64 c.tills,.slice c.cp c.cl c.cc,.slice c.pp c.pl c.pc,.int .i64 c.lease,.int .i64 c.watch,.int .i64 c.beat,.int .i64 c.window,.int .i64 c.cap,.int .i64 c.flight] 37 45 #[.int .u64 s.pos,.slice s.pp s.pn s.pc,.slice s.rp s.rn s.rc,.slice s.lp s.ln s.lc,.slice s.gp s.gn s.gc,.slice s.op s.on s.oc]
 have HW2:=hide hw2
 have HB2:=hide hb2
 have HX2:=hide hx2
 have HY2:=hide hy2
 have HS:=hide (hs.below hb2)
 obtain⟨c0,c1,c2,-,-,-,-,-,-⟩:=ac9 hx2
 obtain⟨s0,s1,s2,s3,s4,s5⟩:=ac6 hy2
 clear hw2 hb2 hx2 hy2 hs
 have bad:Hid (¬Shp c s→ShpB c s false):=fun h=>⟨fun k=>(by cases k),fun k=>absurd k h⟩
 by_cases e1:s.pn=c.cl
 ·have p1:((s.pn:Int) != (c.cl:Int))=false:=by simp[e1]
  by_cases e2:s.rn=c.pl
  ·have p2:((s.rn:Int) != (c.pl:Int))=false:=by simp[e2]
   by_cases e3:(s.ln:Int)=c.tills
   ·have p3:((s.ln:Int) != c.tills)=false:=by simp[e3]
    by_cases e4:(s.gn:Int)=c.tills
    ·have p4:((s.gn:Int) != c.tills)=false:=by simp[e4]
     by_cases e5:(s.on:Int)=c.tills
     ·have p5:((s.on:Int) != c.tills)=false:=by simp[e5]
      have HE:Hid (s.pn=c.cl∧s.rn=c.pl∧(s.ln:Int)=c.tills∧(s.gn:Int)=c.tills∧(s.on:Int)=c.tills):=⟨e1,e2,e3,e4,e5⟩
      clear e1 e2 e3 e4 e5
      go_enter Tryz.func85,Tryz.ntmps85
      go_upto_region 1 with (fail)
      rw[HW2.out]
      go_wp2_with fail
      go_loopw [5] (fun i wr=>∃j:Nat,j≤s.pn∧i=.int .i64 j∧Hid (∀p∈s.pools.take j,(p.hl:Int)=c.tills)∧Hid (Below w2.heap.size w2 wr)) (fun i _=>s.pn - (intOf i).toNat)
      case atStart=>exact⟨0,Nat.zero_le _,rfl,by intro p hp;simp at hp,Below.refl _ _⟩
      case round =>
       clear c0 c1 c2 s0 s1 s2 s3 s4 s5
       obtain⟨j,hj,rfl,HA,HB⟩:=hrel
       obtain⟨c0,-,-,-,-,-,-,-,-⟩:=ac9 ((HB.out.block _ (ac_lt HX2.out)).trans HX2.out)
       obtain⟨-,s1,-,-,-,-⟩:=ac6 ((HB.out.block _ (ac_lt HY2.out)).trans HY2.out)
       by_cases hlt:j<s.pn
       ·have hlt':(j:Int)<(s.pn:Int):=by omega
        have j0':(0:Int)≤(j:Int):=by omega
        obtain⟨P,hP⟩:∃P,s.pools[j]?=some P:=⟨_,List.getElem?_eq_getElem (by rw[HS.out.pn];exact hlt)⟩
        obtain⟨pb,po,ep,hpb,hpc⟩:=(HS.out.pools.below HB.out).get (i:=j) (r:=plc P) (by rw[List.getElem?_map,hP];rfl)
        have b3:=hpc 3 _ rfl
        rw[ep]at s1
        have HTk:=hide (show s.pools.take (j+1)=s.pools.take j++[P] from take_snoc hP)
        have HPm:=hide (List.mem_of_getElem? hP)
        have HBd:Hid (Below w2.heap.size w2 wr.drew):=HB.out.drew
        obtain⟨pn,hpn'⟩:∃pn,s.pn=pn:=⟨_,rfl⟩
        have HPn:=hide hpn'
        have hpb2:pn≤140737488355328:=by rw[←hpn'];exact hpn
        rw[hpn']at s1 hlt' hlt hj
        obtain⟨hl,hhl⟩:∃hl,P.hl=hl:=⟨_,rfl⟩
        rw[hhl]at b3
        have HHl:=hide hhl
        clear hpc hP ep hpn' hhl
        by_cases hv:(hl:Int)=c.tills
        ·have hv':((hl:Int) != c.tills)=false:=by simp[hv]
         have HV:=hide hv
         clear hv
         go_upto_region 6 with (fail)
         go_region_held3 (fun w'=>w'.cell? ⟨w.heap.size,0,none⟩=some (.int .i64 c.tills)∧w'.cell? ⟨w.heap.size+1,1,none⟩=some (.slice (some ⟨pb,po,none⟩) pn s.pc)∧w'.cell? ⟨pb,po+j*4+3,none⟩=some (.slice P.hp hl P.hc)) (go_keep) (first | fail)
         go_wp2
         go_roundw
         case rel=>exact⟨j+1,by rw[HPn.out];omega,by go_num,by show ∀_,_;rw[HTk.out];intro p hp;rcases List.mem_append.1 hp with h | h;exact HA.out p h;simp at h;rw[h,HHl.out];exact HV.out,HBd⟩
         case measure=>rw[HPn.out];simp[intOf];omega
        ·have hv':((hl:Int) != c.tills)=true:=by simp[hv]
         have HV:=hide (bad.out (fun h=>hv (by have:=h.hl P HPm.out;rw[HHl.out]at this;exact this)))
         clear hv
         go_upto_region 6 with (fail)
         go_region_held3 (fun w'=>w'.cell? ⟨w.heap.size,0,none⟩=some (.int .i64 c.tills)∧w'.cell? ⟨w.heap.size+1,1,none⟩=some (.slice (some ⟨pb,po,none⟩) pn s.pc)∧w'.cell? ⟨pb,po+j*4+3,none⟩=some (.slice P.hp hl P.hc)) (go_keep) (first | fail)
         go_wp2
         go_ret
         exact⟨⟨false,rfl,HV.out⟩,HB2.out.trans (HBd.out.mono HB2.out.size)⟩
       ·have hlt':¬(j:Int)<(s.pn:Int):=by omega
        have HV:Hid (ShpB c s true):=by
         refine⟨fun _=>?_,fun _=>rfl⟩
         obtain⟨h1,h2,h3,h4,h5⟩:=HE.out
         have h:=HA.out
         rw[List.take_of_length_le (by rw[HS.out.pn];omega)]at h
         exact⟨h1,h2,h3,h4,h5,h⟩
        go_wp2
        go_ret
        exact⟨⟨true,rfl,HV.out⟩,HB2.out.trans (HB.out.mono HB2.out.size)⟩
     ·have p5:((s.on:Int) != c.tills)=true:=by simp[e5]
      have HV:=hide (bad.out (fun h=>e5 h.on))
      clear e1 e2 e3 e4 e5
      go_enter Tryz.func85,Tryz.ntmps85
      go_upto_region 1 with (fail)
      rw[HW2.out]
      go_wp2_with fail
      go_ret
      exact⟨⟨false,rfl,HV.out⟩,HB2.out⟩
    ·have p4:((s.gn:Int) != c.tills)=true:=by simp[e4]
     have HV:=hide (bad.out (fun h=>e4 h.gn))
     clear e1 e2 e3 e4
     go_enter Tryz.func85,Tryz.ntmps85
     go_upto_region 1 with (fail)
     rw[HW2.out]
     go_wp2_with fail
     go_ret
     exact⟨⟨false,rfl,HV.out⟩,HB2.out⟩
   ·have p3:((s.ln:Int) != c.tills)=true:=by simp[e3]
    have HV:=hide (bad.out (fun h=>e3 h.ln))
    clear e1 e2 e3
    go_enter Tryz.func85,Tryz.ntmps85
    go_upto_region 1 with (fail)
    rw[HW2.out]
    go_wp2_with fail
    go_ret
    exact⟨⟨false,rfl,HV.out⟩,HB2.out⟩
  ·have p2:((s.rn:Int) != (c.pl:Int))=true:=by simp;omega
   have HV:=hide (bad.out (fun h=>e2 h.rn))
   clear e1 e2
   go_enter Tryz.func85,Tryz.ntmps85
   go_upto_region 1 with (fail)
   rw[HW2.out]
   go_wp2_with fail
   go_ret
   exact⟨⟨false,rfl,HV.out⟩,HB2.out⟩
 ·have p1:((s.pn:Int) != (c.cl:Int))=true:=by simp;omega
  have HV:=hide (bad.out (fun h=>e1 h.pn))
  clear e1
  go_enter Tryz.func85,Tryz.ntmps85
  go_upto_region 1 with (fail)
  rw[HW2.out]
  go_wp2_with fail
  go_ret
  exact⟨⟨false,rfl,HV.out⟩,HB2.out⟩
end Go.Proofs.YtfbegfapoijbnaaGreat
namespace Go.Proofs.YtfbegfapoijbnaaGreat
open Go.RowKit
structure WayOk (f slack:Int) (l:List Int):Prop where
 f0:0≤f
 each:∀h∈l,0≤h∧h≤18014398509481984
 sum:f+l.sum=slack
structure PoolOk (lo hi:Int) (p:Pl):Prop where
 vlo:lo≤p.v
 vhi:p.v≤hi
 down:WayOk p.f0 (p.v - lo) (p.hs.map (·.c))
 up:WayOk p.f1 (hi - p.v) (p.hs.map (·.n))
def PoolE (lo hi:Int) (p:Pl) (e:Ending):Prop:=∃b:Bool,e=.returned (.bool b)∧(b=true↔PoolOk lo hi p)
theorem sum_nonneg {l:List Int} (h:∀x∈l,(0:Int)≤x):0≤l.sum:=by
 induction l with
 | nil=>simp
 | cons x l ih =>
  have h1:=h x (List.mem_cons_self ..)
  have h2:=ih (fun y hy=>h y (List.mem_cons_of_mem _ hy))
  rw[List.sum_cons]
  omega
theorem WayOk.pre {f slack:Int} {l:List Int} (h:WayOk f slack l) (k:Nat):f+(l.take k).sum≤slack:=by
 have h1:=h.sum
 have h2:l.sum=(l.take k).sum+(l.drop k).sum:=by rw[←List.sum_append,List.take_append_drop]
 have h3:=sum_nonneg (l:=l.drop k) (fun x hx=>(h.each x (List.mem_of_mem_drop hx)).1)
 omega
theorem WayOk.free {f slack:Int} {l:List Int} (h:WayOk f slack l):f≤slack:=by have:=h.pre 0;simpa using this
set_option maxHeartbeats 4000000 in
theorem rpool_any (w:World) (nm:ByteArray) (lo hi st:Int) (p:Pl) (hp:PlOk w p) (hlo : -9007199254740992≤lo) (hhi:hi≤9007199254740992) (hl:p.hl≤140737488355328) :
  Calls Tryz.prog 86 #[.agg #[.string nm,.int .i64 lo,.int .i64 hi,.int .i64 st],.agg #[.int .i64 p.v,.int .i64 p.f0,.int .i64 p.f1,.slice p.hp p.hl p.hc]] w fun e w'=>PoolE lo hi p e∧Below w.heap.size w w':=by
 obtain⟨w2,hw2,hb2,hx2,hy2⟩:=box_two w #[.string nm,.int .i64 lo,.int .i64 hi,.int .i64 st] 75 81 #[.int .i64 p.v,.int .i64 p.f0,.int .i64 p.f1,.slice p.hp p.hl p.hc]
 have HW2:=hide hw2
 have HB2:=hide hb2
 have HX2:=hide hx2
 have HY2:=hide hy2
 have HP:=hide hp
 obtain⟨-,c1,c2,-⟩:=ac4 hx2
 obtain⟨p0,p1,p2,p3⟩:=ac4 hy2
 have HBt:=hide (fun W=>rbetween_any W p.v lo hi)
 have bad:Hid (∀e,e=.returned (.bool false)→¬PoolOk lo hi p→PoolE lo hi p e):=fun e he h=>⟨false,he,fun k=>(by cases k),fun k=>absurd k h⟩
 obtain⟨v,hv⟩:∃v,p.v=v:=⟨_,rfl⟩
 obtain⟨n,hn⟩:∃n,p.hl=n:=⟨_,rfl⟩
 obtain⟨f0,hf0⟩:∃f0,p.f0=f0:=⟨_,rfl⟩
 obtain⟨f1,hf1⟩:∃f1,p.f1=f1:=⟨_,rfl⟩
 have HV:=hide hv
 have HN:=hide hn
 have HF0:=hide hf0
 have HF1:=hide hf1
 rw[hv]at HW2 HY2 HBt p0 ⊢
 rw[hn]at HW2 HY2 p3 hl ⊢
 rw[hf0]at HW2 HY2 p1 ⊢
 rw[hf1]at HW2 HY2 p2 ⊢
 clear hw2 hb2 hx2 hy2 hp hv hn hf0 hf1
 by_cases hb:lo≤v∧v≤hi
 ·rw[decide_eq_true hb]at HBt
  obtain⟨h1,h2⟩:=hb
  obtain⟨sl0,hsl0⟩:∃x,v - lo=x:=⟨_,rfl⟩
  obtain⟨sl1,hsl1⟩:∃x,hi - v=x:=⟨_,rfl⟩
  have hs0:0≤sl0∧sl0≤18014398509481984:=by omega
  have hs1:0≤sl1∧sl1≤18014398509481984:=by omega
  have w0:IntKind.i64.wrap (v - lo)=sl0:=by rw[hsl0];simp[IntKind.wrap,IntKind.bits,IntKind.signed];omega
  have w1:IntKind.i64.wrap (hi - v)=sl1:=by rw[hsl1];simp[IntKind.wrap,IntKind.bits,IntKind.signed];omega
  have HS0:=hide hsl0
  have HS1:=hide hsl1
  have HL:=hide (And.intro h1 h2)
  have HB0:=hide (fun W=>rbetween_any W f0 0 sl0)
  have HB1:=hide (fun W=>rbetween_any W f1 0 sl1)
  have HBh:=hide (fun W h=>rbetween_any W h 0 18014398509481984)
  have HD:Hid (PoolOk lo hi p→WayOk f0 sl0 (p.hs.map (·.c))∧WayOk f1 sl1 (p.hs.map (·.n))):=fun h=>⟨by have:=h.down;rw[HV.out,HS0.out,HF0.out]at this;exact this,by have:=h.up;rw[HV.out,HS1.out,HF1.out]at this;exact this⟩
  have HG:Hid (WayOk f0 sl0 (p.hs.map (·.c))→WayOk f1 sl1 (p.hs.map (·.n))→PoolOk lo hi p):=fun a b=>⟨by rw[HV.out];exact HL.out.1,by rw[HV.out];exact HL.out.2,by rw[HV.out,HS0.out,HF0.out];exact a,by rw[HV.out,HS1.out,HF1.out];exact b⟩
  clear h1 h2
  go_enter Tryz.func86,Tryz.ntmps86
  go_upto_region 1 with (fail)
  rw[HW2.out]
  go_upto_region 3 with (first | (go_at_call 87;refine(HBt.out _).mono ?_;rintro e w9 ⟨rfl,h9⟩;rw[h9];clear h9 w9) | fail)
  go_wp2_with fail
  go_loopw [5] (fun i wr=>∃j:Nat,j≤2∧i=.int .i64 j∧wr=w2∧Hid (1≤j→WayOk f0 sl0 (p.hs.map (·.c)))∧Hid (2≤j→WayOk f1 sl1 (p.hs.map (·.n)))) (fun i _=>2 - (intOf i).toNat)
  case atStart=>exact⟨0,by omega,rfl,rfl,fun h=>by omega,fun h=>by omega⟩
  case round =>
   obtain⟨j,hj,rfl,hwr,HW0,HW1⟩:=hrel
   rw[hwr]
   clear hwr wr
   have hj3:j=0∨j=1∨j=2:=by omega
   rcases hj3 with rfl | rfl | rfl
   ·have HWx:Hid True:=trivial
    by_cases g1:0≤f0∧f0≤sl0
    ·have HBc:=hide (fun W=>HB0.out W)
     rw[decide_eq_true g1]at HBc
     go_upto_region 12 with (first | (go_at_call 87;refine(HBc.out _).mono ?_;rintro e w9 ⟨rfl,h9⟩;rw[h9];clear h9 w9) | fail)
     go_wp2_with fail
     go_loopw [7,8] (fun av iv wr=>∃(k:Nat) (al:Int),k≤n∧av=.int .i64 al∧iv=.int .i64 k∧wr=w2∧0≤al∧al≤sl0∧Hid (al=f0+((p.hs.map (·.c)).take k).sum)∧Hid (∀h∈(p.hs.map (·.c)).take k,0≤h∧h≤18014398509481984)) (fun _ i _=>n - (intOf i).toNat)
     case atStart=>exact⟨0,f0,by omega,rfl,rfl,rfl,g1.1,g1.2,by show _=_;simp,by intro h hh;simp at hh⟩
     case round =>
      obtain⟨k,al,hk,rfl,rfl,hwr,ha0,ha1,HAl,HEa⟩:=hrel
      rw[hwr]
      clear hwr wr
      by_cases hkn:k<n
      ·have hkn':(k:Int)<(n:Int):=by omega
       have k0':(0:Int)≤(k:Int):=by omega
       obtain⟨x,hx⟩:∃x,p.hs[k]?=some x:=⟨_,List.getElem?_eq_getElem (by rw[HP.out.len,HN.out];exact hkn)⟩
       obtain⟨hb',ho',eh,hhb,hhc⟩:=(HP.out.cel.below HB2.out).get (i:=k) (r:=linc x) (by rw[List.getElem?_map,hx];rfl)
       have d0:=hhc 0 _ rfl
       have d1:=hhc 1 _ rfl
       rw[Nat.add_zero]at d0
       have p3':=p3
       rw[eh]at p3'
       have hxm:(p.hs.map (·.c))[k]?=some x.c:=by rw[List.getElem?_map,hx];rfl
       have HT:=hide (show (p.hs.map (·.c)).take (k+1)=(p.hs.map (·.c)).take k++[x.c] from take_snoc hxm)
       have HXm:=hide (List.mem_of_getElem? hxm)
       have HPre:Hid (WayOk f0 sl0 (p.hs.map (·.c))→al+x.c≤sl0):=fun h=>by
        have:=h.pre (k+1)
        rw[HT.out,List.sum_append]at this
        rw[HAl.out]
        simp at this
        omega
       obtain⟨xv,hxv⟩:∃xv,x.c=xv:=⟨_,rfl⟩
       rw[hxv]at HT HXm HPre
       have dd:=d0
       rw[hxv]at dd
       clear hhc hx hxm eh p3 d0 d1 hxv
       have HBx:=hide (fun W=>HBh.out W xv)
       by_cases g2:0≤xv∧xv≤18014398509481984
       ·rw[decide_eq_true g2]at HBx
        obtain⟨a2,ha2⟩:∃a2,al+xv=a2:=⟨_,rfl⟩
        have hwa:wrap64 (al+xv)=a2:=by rw[ha2];unfold wrap64;omega
        rw[ha2]at HPre
        have HA2:=hide ha2
        have ha2b:0≤a2:=by omega
        by_cases g3:sl0<a2
        ·have HX:=hide (bad.out _ rfl (fun h=>by have:=HPre.out (HD.out h).1;omega))
         clear g2 g1 ha2
         go_wp2_with (first | (go_at_call 87;refine(HBx.out _).mono ?_;rintro e w9 ⟨rfl,h9⟩;rw[h9];clear h9 w9) | fail)
         go_ret
         exact⟨HX.out,HB2.out⟩
        ·have HG2:=hide g2
         have ha2c:a2≤sl0:=by omega
         clear g2 g1 ha2
         go_wp2_with (first | (go_at_call 87;refine(HBx.out _).mono ?_;rintro e w9 ⟨rfl,h9⟩;rw[h9];clear h9 w9) | fail)
         go_roundw
         case rel=>exact⟨k+1,a2,by omega,by rw[hwa],by go_num,trivial,ha2b,ha2c,by show _=_;rw[HT.out,List.sum_append,←HA2.out,HAl.out];simp;omega,by show ∀_,_;rw[HT.out];intro h hh;rcases List.mem_append.1 hh with q | q;exact HEa.out h q;simp at q;rw[q];exact HG2.out⟩
         case measure=>simp[intOf];omega
       ·rw[decide_eq_false g2]at HBx
        have HX:=hide (bad.out _ rfl (fun h=>g2 ((HD.out h).1.each xv HXm.out)))
        clear g2 g1
        go_wp2_with (first | (go_at_call 87;refine(HBx.out _).mono ?_;rintro e w9 ⟨rfl,h9⟩;rw[h9];clear h9 w9) | fail)
        go_ret
        exact⟨HX.out,HB2.out⟩
      ·have hkn':¬(k:Int)<(n:Int):=by omega
       have HAl2:Hid (al=f0+(p.hs.map (·.c)).sum):=by have:=HAl.out;rw[List.take_of_length_le (by rw[List.length_map,HP.out.len,HN.out];omega)]at this;exact this
       have HEa2:Hid (∀h∈p.hs.map (·.c),0≤h∧h≤18014398509481984):=by have:=HEa.out;rw[List.take_of_length_le (by rw[List.length_map,HP.out.len,HN.out];omega)]at this;exact this
       have HG1:=hide g1
       clear g1
       by_cases g4:al=sl0
       ·have g4':((al:Int) != sl0)=false:=by simp[g4]
        have HWn:Hid (WayOk f0 sl0 (p.hs.map (·.c))):=⟨HG1.out.1,HEa2.out,by rw[←HAl2.out];exact g4⟩
        clear g4
        go_wp2_with fail
        go_roundw
        case rel=>exact⟨0+1,by omega,rfl,trivial,fun _=>HWn.out,fun h=>by omega⟩
        case measure=>simp[intOf]
       ·have g4':((al:Int) != sl0)=true:=by simp[g4]
        have HX:=hide (bad.out _ rfl (fun h=>g4 (by rw[HAl2.out];exact(HD.out h).1.sum)))
        clear g4
        go_wp2_with fail
        go_ret
        exact⟨HX.out,HB2.out⟩
    ·have HBc:=hide (fun W=>HB0.out W)
     rw[decide_eq_false g1]at HBc
     have HX:=hide (bad.out _ rfl (fun h=>g1 ⟨(HD.out h).1.f0,(HD.out h).1.free⟩))
     clear g1
     go_wp2_with (first | (go_at_call 87;refine(HBc.out _).mono ?_;rintro e w9 ⟨rfl,h9⟩;rw[h9];clear h9 w9) | fail)
     go_ret
     exact⟨HX.out,HB2.out⟩
   ·have HWx:=hide (HW0.out (by omega))
    by_cases g1:0≤f1∧f1≤sl1
    ·have HBc:=hide (fun W=>HB1.out W)
     rw[decide_eq_true g1]at HBc
     go_upto_region 12 with (first | (go_at_call 87;refine(HBc.out _).mono ?_;rintro e w9 ⟨rfl,h9⟩;rw[h9];clear h9 w9) | fail)
     go_wp2_with fail
     go_loopw [7,8] (fun av iv wr=>∃(k:Nat) (al:Int),k≤n∧av=.int .i64 al∧iv=.int .i64 k∧wr=w2∧0≤al∧al≤sl1∧Hid (al=f1+((p.hs.map (·.n)).take k).sum)∧Hid (∀h∈(p.hs.map (·.n)).take k,0≤h∧h≤18014398509481984)) (fun _ i _=>n - (intOf i).toNat)
     case atStart=>exact⟨0,f1,by omega,rfl,rfl,rfl,g1.1,g1.2,by show _=_;simp,by intro h hh;simp at hh⟩
     case round =>
      obtain⟨k,al,hk,rfl,rfl,hwr,ha0,ha1,HAl,HEa⟩:=hrel
      rw[hwr]
      clear hwr wr
      by_cases hkn:k<n
      ·have hkn':(k:Int)<(n:Int):=by omega
       have k0':(0:Int)≤(k:Int):=by omega
       obtain⟨x,hx⟩:∃x,p.hs[k]?=some x:=⟨_,List.getElem?_eq_getElem (by rw[HP.out.len,HN.out];exact hkn)⟩
       obtain⟨hb',ho',eh,hhb,hhc⟩:=(HP.out.cel.below HB2.out).get (i:=k) (r:=linc x) (by rw[List.getElem?_map,hx];rfl)
       have d0:=hhc 0 _ rfl
       have d1:=hhc 1 _ rfl
       rw[Nat.add_zero]at d0
       have p3':=p3
       rw[eh]at p3'
       have hxm:(p.hs.map (·.n))[k]?=some x.n:=by rw[List.getElem?_map,hx];rfl
       have HT:=hide (show (p.hs.map (·.n)).take (k+1)=(p.hs.map (·.n)).take k++[x.n] from take_snoc hxm)
       have HXm:=hide (List.mem_of_getElem? hxm)
       have HPre:Hid (WayOk f1 sl1 (p.hs.map (·.n))→al+x.n≤sl1):=fun h=>by
        have:=h.pre (k+1)
        rw[HT.out,List.sum_append]at this
        rw[HAl.out]
        simp at this
        omega
       obtain⟨xv,hxv⟩:∃xv,x.n=xv:=⟨_,rfl⟩
       rw[hxv]at HT HXm HPre
       have dd:=d1
       rw[hxv]at dd
       clear hhc hx hxm eh p3 d0 d1 hxv
       have HBx:=hide (fun W=>HBh.out W xv)
       by_cases g2:0≤xv∧xv≤18014398509481984
       ·rw[decide_eq_true g2]at HBx
        obtain⟨a2,ha2⟩:∃a2,al+xv=a2:=⟨_,rfl⟩
        have hwa:wrap64 (al+xv)=a2:=by rw[ha2];unfold wrap64;omega
        rw[ha2]at HPre
        have HA2:=hide ha2
        have ha2b:0≤a2:=by omega
        by_cases g3:sl1<a2
        ·have HX:=hide (bad.out _ rfl (fun h=>by have:=HPre.out (HD.out h).2;omega))
         clear g2 g1 ha2
         go_wp2_with (first | (go_at_call 87;refine(HBx.out _).mono ?_;rintro e w9 ⟨rfl,h9⟩;rw[h9];clear h9 w9) | fail)
         go_ret
         exact⟨HX.out,HB2.out⟩
        ·have HG2:=hide g2
         have ha2c:a2≤sl1:=by omega
         clear g2 g1 ha2
         go_wp2_with (first | (go_at_call 87;refine(HBx.out _).mono ?_;rintro e w9 ⟨rfl,h9⟩;rw[h9];clear h9 w9) | fail)
         go_roundw
         case rel=>exact⟨k+1,a2,by omega,by rw[hwa],by go_num,trivial,ha2b,ha2c,by show _=_;rw[HT.out,List.sum_append,←HA2.out,HAl.out];simp;omega,by show ∀_,_;rw[HT.out];intro h hh;rcases List.mem_append.1 hh with q | q;exact HEa.out h q;simp at q;rw[q];exact HG2.out⟩
         case measure=>simp[intOf];omega
       ·rw[decide_eq_false g2]at HBx
        have HX:=hide (bad.out _ rfl (fun h=>g2 ((HD.out h).2.each xv HXm.out)))
        clear g2 g1
        go_wp2_with (first | (go_at_call 87;refine(HBx.out _).mono ?_;rintro e w9 ⟨rfl,h9⟩;rw[h9];clear h9 w9) | fail)
        go_ret
        exact⟨HX.out,HB2.out⟩
      ·have hkn':¬(k:Int)<(n:Int):=by omega
       have HAl2:Hid (al=f1+(p.hs.map (·.n)).sum):=by have:=HAl.out;rw[List.take_of_length_le (by rw[List.length_map,HP.out.len,HN.out];omega)]at this;exact this
       have HEa2:Hid (∀h∈p.hs.map (·.n),0≤h∧h≤18014398509481984):=by have:=HEa.out;rw[List.take_of_length_le (by rw[List.length_map,HP.out.len,HN.out];omega)]at this;exact this
       have HG1:=hide g1
       clear g1
       by_cases g4:al=sl1
       ·have g4':((al:Int) != sl1)=false:=by simp[g4]
        have HWn:Hid (WayOk f1 sl1 (p.hs.map (·.n))):=⟨HG1.out.1,HEa2.out,by rw[←HAl2.out];exact g4⟩
        clear g4
        go_wp2_with fail
        go_roundw
        case rel=>exact⟨1+1,by omega,rfl,trivial,fun _=>HWx.out,fun _=>HWn.out⟩
        case measure=>simp[intOf]
       ·have g4':((al:Int) != sl1)=true:=by simp[g4]
        have HX:=hide (bad.out _ rfl (fun h=>g4 (by rw[HAl2.out];exact(HD.out h).2.sum)))
        clear g4
        go_wp2_with fail
        go_ret
        exact⟨HX.out,HB2.out⟩
    ·have HBc:=hide (fun W=>HB1.out W)
     rw[decide_eq_false g1]at HBc
     have HX:=hide (bad.out _ rfl (fun h=>g1 ⟨(HD.out h).2.f0,(HD.out h).2.free⟩))
     clear g1
     go_wp2_with (first | (go_at_call 87;refine(HBc.out _).mono ?_;rintro e w9 ⟨rfl,h9⟩;rw[h9];clear h9 w9) | fail)
     go_ret
     exact⟨HX.out,HB2.out⟩
   ·have HWa:=hide (HW0.out (by omega))
    have HWb:=hide (HW1.out (by omega))
    go_wp2
    go_ret
    exact⟨⟨true,rfl,fun _=>HG.out HWa.out HWb.out,fun _=>rfl⟩,HB2.out⟩
 ·rw[decide_eq_false hb]at HBt
  have HX:=hide (bad.out _ rfl (fun h=>hb ⟨by rw[←HV.out];exact h.vlo,by rw[←HV.out];exact h.vhi⟩))
  clear hb
  go_enter Tryz.func86,Tryz.ntmps86
  go_upto_region 1 with (fail)
  rw[HW2.out]
  go_wp2_with (first | (go_at_call 87;refine(HBt.out _).mono ?_;rintro e w9 ⟨rfl,h9⟩;rw[h9];clear h9 w9) | fail)
  go_ret
  exact⟨HX.out,HB2.out⟩
end Go.Proofs.YtfbegfapoijbnaaGreat
