import Derived.Laws.CopyOwn
import Derived.Test.YtfbegfapoijbnaaGreatZXc
import Derived.Test.YtfbegfapoijbnaaGreatZEx
import Derived.Test.YtfbegfapoijbnaaGreatAppB0
import Derived.Test.YtfbegfapoijbnaaGreatRbA
set_option maxRecDepth 100000
namespace Go.Proofs.YtfbegfapoijbnaaGreat
def Cfg.arr (c:Cfg):Array Value:=#[.int .i64 c.tills,.slice c.cp c.cl c.cc,.slice c.pp c.pl c.pc,.int .i64 c.lease,.int .i64 c.watch,.int .i64 c.beat,.int .i64 c.window,.int .i64 c.cap,.int .i64 c.flight]
end Go.Proofs.YtfbegfapoijbnaaGreat
namespace Go.Proofs.YtfbegfapoijbnaaGreat.Z
open Go.RowKit
theorem wp_one {P:Program} {c:Code} {Q:Exit→Act→World→Prop} {a:Act} {w:World} {A:Act} {W:World} (reg:c.wp P (fun e a' w'=>e=.normal∧a'=A∧w'=W) a w) (cont:Q .normal A W):c.wp P Q a w :=
 Code.wp_mono (fun e a' w' ⟨e1,e2,e3⟩=>by rw[e1,e2,e3];exact cont) reg
theorem below_grown {w0 w w':World} {n s:Nat} {t:TypeId} {v:Value} {ys:List Value} (hb:Below w0.heap.size w0 w) (ho:w.ownsRow w0.heap.size t s v n ys) (hg:w.grownBy w' v.ownBlock):Below w0.heap.size w0 w':=hb.grown hg hb.size (fun k e=>owns_base ho k e)
theorem cel_one {w:World} {A:Array Value} {l:List Value} {sz:Nat} {t:TypeId} (h:A.toList=l):Cel (w.alloc (.cells A t)) (some ⟨w.heap.size,0,none⟩) sz [l]:=by
 refine Or.inr ⟨_,0,rfl,by simp,fun i r hr j v hv=>?_⟩
 cases i with
 | zero =>
  simp at hr
  subst hr
  rw[cell_of_row _ _ _ _ _ _ (heap_alloc_new w (.cells A t)),←h]at *
  simpa using hv
 | succ i=>simp at hr
theorem i64_wrap (n:Int):IntKind.i64.wrap n=wrap64 n:=by simp[IntKind.wrap,IntKind.bits,IntKind.signed,wrap64];split <;> omega
theorem w64_id {n:Int} (h : -9223372036854775808≤n∧n≤9223372036854775807):wrap64 n=n:=by unfold wrap64;omega
def prc2 (x:ByteArray × Int):List Value:=[.string x.1,.int .i64 x.2]
theorem elt_price:Elt prc2 2 24 35 77:=⟨fun _=>rfl,fun x u hu=>by simp[prc2]at hu;rcases hu with rfl | rfl <;> rfl,by omega,Tryz.underlying35,by
 obtain⟨i,h⟩:=info_parts (show (Tryz.prog.info? 77).map (fun i=>(i.zero,i.size,i.bytes))=some (some (.agg #[.string ⟨#[]⟩,.int .i64 0]),2,24) by kernel_rfl)
 exact⟨i,_,h.1,h.2.1,h.2.2.1,h.2.2.2,rfl⟩,by omega⟩
def CtrB (x:Ctr):Prop:=-9007199254740992≤x.lo∧x.lo≤x.st∧x.st≤x.hi∧x.hi≤9007199254740992
def PrcB (x:ByteArray × Int):Prop:=0≤x.2∧x.2≤1099511627776
def RowC (w W:World) (p:Option Addr) (n c:Nat):Prop:=∃cs:List Ctr,W.ownsRow w.heap.size 75 4 (.slice p n c) n (flat ctc cs)∧cs.length=n∧∀x∈cs,CtrB x
def RowP (w W:World) (p:Option Addr) (n c:Nat):Prop:=∃ps:List (ByteArray × Int),W.ownsRow w.heap.size 77 2 (.slice p n c) n (flat prc2 ps)∧ps.length=n∧∀x∈ps,PrcB x
theorem RowC.nil (w W:World):RowC w W none 0 0:=⟨[],World.ownsRow_nil _ _ _ _,rfl,fun _ h=>by cases h⟩
theorem RowP.nil (w W:World):RowP w W none 0 0:=⟨[],World.ownsRow_nil _ _ _ _,rfl,fun _ h=>by cases h⟩
theorem RowC.by {w W W':World} {p:Option Addr} {n c:Nat} (h:RowC w W p n c) (hk:∀ys,W.ownsRow w.heap.size 75 4 (.slice p n c) n ys→W'.ownsRow w.heap.size 75 4 (.slice p n c) n ys):RowC w W' p n c:=by
 obtain⟨cs,h1,h2,h3⟩:=h
 exact⟨cs,hk _ h1,h2,h3⟩
theorem RowP.by {w W W':World} {p:Option Addr} {n c:Nat} (h:RowP w W p n c) (hk:∀ys,W.ownsRow w.heap.size 77 2 (.slice p n c) n ys→W'.ownsRow w.heap.size 77 2 (.slice p n c) n ys):RowP w W' p n c:=by
 obtain⟨cs,h1,h2,h3⟩:=h
 exact⟨cs,hk _ h1,h2,h3⟩
structure Cg (w W:World) (A:Array Value) (c:Cfg):Prop where
 conf:W.heap[w.heap.size]?=some (.cells A 25 (0,0))
 res:W.heap[w.heap.size+1]?=some (.cells #[.int .i64 0,.slice none 0 0,.slice none 0 0,.int .i64 0,.int .i64 0,.int .i64 0,.int .i64 0,.int .i64 0,.int .i64 0] 37 (0,0))
 cfg:W.heap[w.heap.size+1+1]?=some (.cells c.arr 37 (0,0))
 rowc:RowC w W c.cp c.cl c.cc
 rowp:RowP w W c.pp c.pl c.pc
 bel:Below w.heap.size w W
 tl:∃z:Int,A[0]?=some (.int .i64 z)∧c.tills=IntKind.i64.wrap (1+z % 8)
theorem Cg.below {w W W':World} {A:Array Value} {c:Cfg} (h:Cg w W A c) (hb:Below W.heap.size W W'):Cg w W' A c:=by
 exact⟨(hb.block _ (lt_of_block h.conf)).trans h.conf,(hb.block _ (lt_of_block h.res)).trans h.res,(hb.block _ (lt_of_block h.cfg)).trans h.cfg,h.rowc.by (fun _ hy=>owns_keep hy hb),h.rowp.by (fun _ hz=>owns_keep hz hb),h.bel.trans (hb.mono h.bel.size),h.tl⟩
theorem Cg.set {w W:World} {A:Array Value} {c:Cfg} (h:Cg w W A c) (i:Nat) (v:Value) (c':Cfg) (hc:c'.arr=c.arr.setIfInBounds i v) (ht:c'.tills=c.tills) (h1:RowC w W c'.cp c'.cl c'.cc) (h2:RowP w W c'.pp c'.pl c'.pc):Cg w (W.setCell ⟨w.heap.size+1+1,i,none⟩ v) A c':=by
 refine⟨(heap_setCell_other _ _ _ _ (by show w.heap.size≠w.heap.size+1+1;omega)).trans h.conf,(heap_setCell_other _ _ _ _ (by show w.heap.size+1≠w.heap.size+1+1;omega)).trans h.res,?_,h1.by (fun ys hy=>owns_same hy (fun g hg=>heap_setCell_other _ _ _ _ ?_)),h2.by (fun zs hz=>owns_same hz (fun g hg=>heap_setCell_other _ _ _ _ ?_)),h.bel.setCell (p:=⟨w.heap.size+1+1,i,none⟩) (by show w.heap.size≤w.heap.size+1+1;omega) _,by rw[ht];exact h.tl⟩
 ·rw[hc];exact heap_setCell_same _ _ _ _ _ _ h.cfg
 ·rintro rfl
  exact owns_ne hy h.cfg (by decide) hg.symm
 ·rintro rfl
  exact owns_ne hz h.cfg (by decide) hg.symm
theorem Cg.cell {w W:World} {A:Array Value} {c:Cfg} (h:Cg w W A c) {i:Nat} {v:Value} (hv:c.arr[i]?=some v):W.cell? ⟨w.heap.size+1+1,i,none⟩=some v:=by rw[cell_of_row _ _ _ _ _ _ h.cfg];exact hv
theorem Cg.free {w W:World} {A:Array Value} {c:Cfg} (h:Cg w W A c) (i:Nat):W.frozen? ⟨w.heap.size+1+1,i,none⟩=false:=frozen_of_row _ _ _ _ _ h.cfg
theorem Cg.putc {w W W1:World} {A:Array Value} {c:Cfg} (h:Cg w W A c) (hb:Below W.heap.size W W1) (hl:c.cl≤64) (x:Ctr) (hx:CtrB x) (tt:TypeId) :
  ∃a' c' w3,(Builtin.append_ #[34,34] tt #[.slice c.cp c.cl c.cc,.slice (some ⟨W1.heap.size,0,none⟩) 1 1]).run Tryz.prog (W1.alloc (.cells #[.string x.name,.int .i64 x.lo,.int .i64 x.hi,.int .i64 x.st] 75))=.ok (.slice a' (c.cl+1) c') w3 ∧
   w3.cell? ⟨w.heap.size+1+1,1,none⟩=some (.slice c.cp c.cl c.cc)∧w3.frozen? ⟨w.heap.size+1+1,1,none⟩=false∧(∀g,g<W.heap.size→(∀cur fr,W.heap[g]?≠some (.cells cur 75 fr))→w3.heap[g]?=W.heap[g]?) ∧
   Cg w (w3.setCell ⟨w.heap.size+1+1,1,none⟩ (.slice a' (c.cl+1) c')) A { c with cp:=a',cl:=c.cl+1,cc:=c' }:=by
 obtain⟨w2,hw2⟩:∃w2,W1.alloc (.cells #[.string x.name,.int .i64 x.lo,.int .i64 x.hi,.int .i64 x.st] 75)=w2:=⟨_,rfl⟩
 have hcel:Cel w2 (some ⟨W1.heap.size,0,none⟩) 4 ([x].map ctc):=by rw[←hw2];exact cel_one rfl
 have hb2:Below W.heap.size W w2:=by rw[←hw2];exact hb.alloc hb.size _
 rw[hw2]
 have h2:=h.below hb2
 obtain⟨cs,hy,hyl,hyb⟩:=h2.rowc
 obtain⟨zs,hz,hzl,hzb⟩:=h2.rowp
 obtain⟨v',w3,hr,ho,hg,_⟩:=elt_ctr.run_append w2 tt w.heap.size c.cl (.slice c.cp c.cl c.cc) (flat ctc cs) hy (some ⟨W1.heap.size,0,none⟩) 1 1 [x] rfl hcel (by omega) h2.bel.size
 obtain⟨a',c',rfl,_⟩:=slice_form ho
 have k3:∀(g:Nat) (C:Array Value) (t:TypeId) (fr:Nat × Nat),w2.heap[g]?=some (.cells C t fr)→t≠75→w3.heap[g]?=w2.heap[g]?:=fun g C t fr e ht=>hg.block g (lt_of_block e) (owns_ne hy e ht)
 have r0:=(k3 _ _ _ _ h2.conf (by decide)).trans h2.conf
 have r1:=(k3 _ _ _ _ h2.res (by decide)).trans h2.res
 have r2:=(k3 _ _ _ _ h2.cfg (by decide)).trans h2.cfg
 have rp:w3.ownsRow w.heap.size 77 2 (.slice c.pp c.pl c.pc) c.pl (flat prc2 zs):=owns_grown hz hg (fun g e e'=>by
  rcases owns_two hy hz (by decide) with e1 | e1
  ·rw[e1]at e';cases e'
  ·exact e1 (by rw[←e',e]))
 refine⟨a',c',w3,hr,by rw[cell_of_row _ _ _ _ _ _ r2];rfl,frozen_of_row _ _ _ _ _ r2,fun g hg1 hg2=>?_,?_⟩
 ·have e1:=hb2.block g hg1
  refine(hg.block g (Nat.lt_of_lt_of_le hg1 hb2.size) ?_).trans e1
  intro e2
  rcases hy.2 with ⟨h4,_⟩ | ⟨g',cap,cur,h4,_,h5,_⟩
  ·rw[h4]at e2;simp[Value.ownBlock]at e2
  ·rw[h4]at e2
   simp[Value.ownBlock]at e2
   subst e2
   rw[e1]at h5
   exact hg2 _ _ h5
 ·refine⟨(heap_setCell_other _ _ _ _ (by show w.heap.size≠w.heap.size+1+1;omega)).trans r0,(heap_setCell_other _ _ _ _ (by show w.heap.size+1≠w.heap.size+1+1;omega)).trans r1,heap_setCell_same _ _ _ _ _ _ r2,⟨cs++[x],by rw[show flat ctc (cs++[x])=flat ctc cs++flat ctc [x] by simp[flat]];exact owns_same ho (fun g hg=>heap_setCell_other _ _ _ _ (by rintro rfl;exact owns_ne ho r2 (by decide) hg.symm)),by simp[hyl],fun y hy=>by rcases List.mem_append.1 hy with h | h;exact hyb y h;simp at h;rw[h];exact hx⟩,⟨zs,owns_same rp (fun g hg=>heap_setCell_other _ _ _ _ (by rintro rfl;exact owns_ne rp r2 (by decide) hg.symm)),hzl,hzb⟩,(below_grown h2.bel hy hg).setCell (p:=⟨w.heap.size+1+1,1,none⟩) (by show w.heap.size≤w.heap.size+1+1;omega) _,h.tl⟩
theorem Cg.putp {w W W1:World} {A:Array Value} {c:Cfg} (h:Cg w W A c) (hb:Below W.heap.size W W1) (hl:c.pl≤64) (x:ByteArray × Int) (hx:PrcB x) (tt:TypeId) :
  ∃a' c' w3,(Builtin.append_ #[35,35] tt #[.slice c.pp c.pl c.pc,.slice (some ⟨W1.heap.size,0,none⟩) 1 1]).run Tryz.prog (W1.alloc (.cells #[.string x.1,.int .i64 x.2] 77))=.ok (.slice a' (c.pl+1) c') w3 ∧
   w3.cell? ⟨w.heap.size+1+1,2,none⟩=some (.slice c.pp c.pl c.pc)∧w3.frozen? ⟨w.heap.size+1+1,2,none⟩=false∧(∀g,g<W.heap.size→(∀cur fr,W.heap[g]?≠some (.cells cur 77 fr))→w3.heap[g]?=W.heap[g]?) ∧
   Cg w (w3.setCell ⟨w.heap.size+1+1,2,none⟩ (.slice a' (c.pl+1) c')) A { c with pp:=a',pl:=c.pl+1,pc:=c' }:=by
 obtain⟨w2,hw2⟩:∃w2,W1.alloc (.cells #[.string x.1,.int .i64 x.2] 77)=w2:=⟨_,rfl⟩
 have hcel:Cel w2 (some ⟨W1.heap.size,0,none⟩) 2 ([x].map prc2):=by rw[←hw2];exact cel_one rfl
 have hb2:Below W.heap.size W w2:=by rw[←hw2];exact hb.alloc hb.size _
 rw[hw2]
 have h2:=h.below hb2
 obtain⟨cs,hy,hyl,hyb⟩:=h2.rowc
 obtain⟨zs,hz,hzl,hzb⟩:=h2.rowp
 obtain⟨v',w3,hr,ho,hg,_⟩:=elt_price.run_append w2 tt w.heap.size c.pl (.slice c.pp c.pl c.pc) (flat prc2 zs) hz (some ⟨W1.heap.size,0,none⟩) 1 1 [x] rfl hcel (by omega) h2.bel.size
 obtain⟨a',c',rfl,_⟩:=slice_form ho
 have k3:∀(g:Nat) (C:Array Value) (t:TypeId) (fr:Nat × Nat),w2.heap[g]?=some (.cells C t fr)→t≠77→w3.heap[g]?=w2.heap[g]?:=fun g C t fr e ht=>hg.block g (lt_of_block e) (owns_ne hz e ht)
 have r0:=(k3 _ _ _ _ h2.conf (by decide)).trans h2.conf
 have r1:=(k3 _ _ _ _ h2.res (by decide)).trans h2.res
 have r2:=(k3 _ _ _ _ h2.cfg (by decide)).trans h2.cfg
 have rc:w3.ownsRow w.heap.size 75 4 (.slice c.cp c.cl c.cc) c.cl (flat ctc cs):=owns_grown hy hg (fun g e e'=>by
  rcases owns_two hz hy (by decide) with e1 | e1
  ·rw[e1]at e';cases e'
  ·exact e1 (by rw[←e',e]))
 refine⟨a',c',w3,hr,by rw[cell_of_row _ _ _ _ _ _ r2];rfl,frozen_of_row _ _ _ _ _ r2,fun g hg1 hg2=>?_,?_⟩
 ·have e1:=hb2.block g hg1
  refine(hg.block g (Nat.lt_of_lt_of_le hg1 hb2.size) ?_).trans e1
  intro e2
  rcases hz.2 with ⟨h4,_⟩ | ⟨g',cap,cur,h4,_,h5,_⟩
  ·rw[h4]at e2;simp[Value.ownBlock]at e2
  ·rw[h4]at e2
   simp[Value.ownBlock]at e2
   subst e2
   rw[e1]at h5
   exact hg2 _ _ h5
 ·refine⟨(heap_setCell_other _ _ _ _ (by show w.heap.size≠w.heap.size+1+1;omega)).trans r0,(heap_setCell_other _ _ _ _ (by show w.heap.size+1≠w.heap.size+1+1;omega)).trans r1,heap_setCell_same _ _ _ _ _ _ r2,⟨cs,owns_same rc (fun g hg=>heap_setCell_other _ _ _ _ (by rintro rfl;exact owns_ne rc r2 (by decide) hg.symm)),hyl,hyb⟩,⟨zs++[x],by rw[show flat prc2 (zs++[x])=flat prc2 zs++flat prc2 [x] by simp[flat]];exact owns_same ho (fun g hg=>heap_setCell_other _ _ _ _ (by rintro rfl;exact owns_ne ho r2 (by decide) hg.symm)),by simp[hzl],fun y hy=>by rcases List.mem_append.1 hy with h | h;exact hzb y h;simp at h;rw[h];exact hx⟩,(below_grown h2.bel hz hg).setCell (p:=⟨w.heap.size+1+1,2,none⟩) (by show w.heap.size≤w.heap.size+1+1;omega) _,h.tl⟩
theorem Cg.done {w W:World} {A:Array Value} {c:Cfg} (h:Cg w W A c) (E:Array Value):(∃cs:List Ctr,cs.length=c.cl∧Cel (W.setRow (w.heap.size+1) E) c.cp 4 (cs.map ctc)∧∀x∈cs,CtrB x)∧(∃ps:List (ByteArray × Int),ps.length=c.pl∧Cel (W.setRow (w.heap.size+1) E) c.pp 2 (ps.map prc2)∧∀x∈ps,PrcB x):=by
 obtain⟨cs,h1,h2,h3⟩:=h.rowc
 obtain⟨ps,h4,h5,h6⟩:=h.rowp
 exact⟨⟨cs,h2,cel_row (f:=ctc) (sz:=4) (fun _=>rfl) (owns_same h1 (fun g hg=>setRow_other _ _ _ _ (by rintro rfl;exact owns_ne h1 h.res (by decide) hg.symm))) h2,h3⟩,⟨ps,h5,cel_row (f:=prc2) (sz:=2) (fun _=>rfl) (owns_same h4 (fun g hg=>setRow_other _ _ _ _ (by rintro rfl;exact owns_ne h4 h.res (by decide) hg.symm))) h5,h6⟩⟩
def CfgMade (w':World) (p:Cnf) (c:Cfg):Prop:=c.tills=1+p.tills % 8∧c.pl≤64∧(∃cs:List Ctr,cs.length=c.cl∧Cel w' c.cp 4 (cs.map ctc)∧∀x∈cs,CtrB x)∧(∃ps:List (ByteArray × Int),ps.length=c.pl∧Cel w' c.pp 2 (ps.map prc2)∧∀x∈ps,PrcB x)
theorem Cg.made {w W:World} {A:Array Value} {c:Cfg} {p:Cnf} (h:Cg w W A c) (hA:p.arr=A) (hp:c.pl≤64):CfgMade (W.setRow (w.heap.size+1) c.arr) p c:=by
 refine⟨?_,hp,(h.done c.arr).1,(h.done c.arr).2⟩
 obtain⟨z,z1,z2⟩:=h.tl
 rw[←hA]at z1
 have z3:p.tills=z:=by simpa[Cnf.arr] using z1
 have z4:=Int.emod_nonneg z (show (8:Int)≠0 by omega)
 have z5:=Int.emod_lt_of_pos z (show (0:Int)<8 by omega)
 rw[z2,z3,i64_wrap,w64_id (by omega)]
end Go.Proofs.YtfbegfapoijbnaaGreat.Z
