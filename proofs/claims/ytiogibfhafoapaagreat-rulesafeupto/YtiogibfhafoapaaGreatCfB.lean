import Derived.Laws.CopyOwn
import Derived.Test.YtiogibfhafoapaaGreatZXc
import Derived.Test.YtiogibfhafoapaaGreatZEx
import Derived.Test.YtiogibfhafoapaaGreatAppB0
import Derived.Test.YtiogibfhafoapaaGreatRbA
import Derived.Deep.CutRange
import Derived.Test.YtiogibfhafoapaaGreatTk
set_option maxRecDepth 100000
set_option maxHeartbeats 8000000
set_option linter.unusedSimpArgs false
set_option linter.unusedVariables false
namespace Go.Proofs.YtiogibfhafoapaaGreat
def Cfg.arr (c:Cfg):Array Value:=#[.int .i64 c.tills,.slice c.cp c.cl c.cc,.slice c.pp c.pl c.pc,.int .i64 c.lease,.int .i64 c.watch,.int .i64 c.beat,.int .i64 c.window,.int .i64 c.cap,.int .i64 c.flight]
end Go.Proofs.YtiogibfhafoapaaGreat
namespace Go.Proofs.YtiogibfhafoapaaGreat.Z
open Go.RowKit
theorem Ql3 {P:Program} {c:Code} {Q:Exit→Act→World→Prop} {a:Act} {w:World} {A:Act} {W:World} (reg:c.wp P (fun e a' w'=>e=.normal∧a'=A∧w'=W) a w) (cont:Q .normal A W):c.wp P Q a w :=
 Code.wp_mono (fun e a' w' ⟨e1,e2,e3⟩=>by rw[e1,e2,e3];exact cont) reg
theorem Qd3 {w0 w w':World} {n s:Nat} {t:TypeId} {v:Value} {ys:List Value} (hb:Below w0.heap.size w0 w) (ho:w.ownsRow w0.heap.size t s v n ys) (hg:w.grownBy w' v.ownBlock):Below w0.heap.size w0 w':=hb.grown hg hb.size (fun k e=>owns_base ho k e)
theorem cel_one {w:World} {A:Array Value} {l:List Value} {sz:Nat} {t:TypeId} (h:A.toList=l):Cel (w.alloc (.cells A t)) (some ⟨w.heap.size,0,none⟩) sz [l]:=by
 refine Or.inr ⟨_,0,rfl,by simp,fun i r hr j v hv=>?_⟩
 cases i with
 | zero =>
  simp at hr;subst hr;rw[cRq (hNq w (.cells A t)),←h]at *;simpa using hv
 | succ i=>simp at hr
theorem Qb8 (n:Int):IntKind.i64.wrap n=wrap64 n:=by simp[IntKind.wrap,IntKind.bits,IntKind.signed,wrap64];split <;> omega
theorem w64_id {n:Int} (h : -9223372036854775808≤n∧n≤9223372036854775807):wrap64 n=n:=by unfold wrap64;omega
def QeZ (x:ByteArray × Int):List Value:=[.string x.1,.int .i64 x.2]
theorem Qfb:Elt QeZ 2 24 32 117:=⟨fun _=>rfl,fun x u hu=>by simp[QeZ]at hu;rcases hu with rfl | rfl <;> rfl,by omega,Tryz.underlying32,by
 obtain⟨i,h⟩:=info_parts (show (Tryz.prog.info? 117).map (fun i=>(i.zero,i.size,i.bytes))=some (some (.agg #[.string ⟨#[]⟩,.int .i64 0]),2,24) by kernel_rfl);exact⟨i,_,h.1,h.2.1,h.2.2.1,h.2.2.2,rfl⟩,by omega⟩
def Qh4 (x:Ctr):Prop:=-9007199254740992≤x.lo∧x.lo≤x.st∧x.st≤x.hi∧x.hi≤9007199254740992
def QjU (x:ByteArray × Int):Prop:=0≤x.2∧x.2≤1099511627776
def QjG (w W:World) (p:Option Addr) (n c:Nat):Prop:=∃cs:List Ctr,W.ownsRow w.heap.size 115 4 (.slice p n c) n (flat ctc cs)∧cs.length=n∧∀x∈cs,Qh4 x
def QjJ (w W:World) (p:Option Addr) (n c:Nat):Prop:=∃ps:List (ByteArray × Int),W.ownsRow w.heap.size 117 2 (.slice p n c) n (flat QeZ ps)∧ps.length=n∧∀x∈ps,QjU x
theorem QjG.nil (w W:World):QjG w W none 0 0:=⟨[],VQ _ _ _ _,rfl,fun _ h=>by cases h⟩
theorem QjJ.nil (w W:World):QjJ w W none 0 0:=⟨[],VQ _ _ _ _,rfl,fun _ h=>by cases h⟩
theorem QjG.by {w W W':World} {p:Option Addr} {n c:Nat} (h:QjG w W p n c) (hk:∀ys,W.ownsRow w.heap.size 115 4 (.slice p n c) n ys→W'.ownsRow w.heap.size 115 4 (.slice p n c) n ys):QjG w W' p n c:=by
 obtain⟨cs,h1,h2,h3⟩:=h;exact⟨cs,hk _ h1,h2,h3⟩
theorem QjJ.by {w W W':World} {p:Option Addr} {n c:Nat} (h:QjJ w W p n c) (hk:∀ys,W.ownsRow w.heap.size 117 2 (.slice p n c) n ys→W'.ownsRow w.heap.size 117 2 (.slice p n c) n ys):QjJ w W' p n c:=by
 obtain⟨cs,h1,h2,h3⟩:=h;exact⟨cs,hk _ h1,h2,h3⟩
structure Cg (w W:World) (A:Array Value) (c:Cfg):Prop where
 conf:W.heap[w.heap.size]?=some (.cells A 25 (0,0))
 res:W.heap[w.heap.size+1]?=some (.cells #[.int .i64 0,.slice none 0 0,.slice none 0 0,.int .i64 0,.int .i64 0,.int .i64 0,.int .i64 0,.int .i64 0,.int .i64 0] 34 (0,0))
 cfg:W.heap[w.heap.size+1+1]?=some (.cells c.arr 34 (0,0))
 rowc:QjG w W c.cp c.cl c.cc
 rowp:QjJ w W c.pp c.pl c.pc
 bel:Below w.heap.size w W
 tl:∃z:Int,A[0]?=some (.int .i64 z)∧c.tills=IntKind.i64.wrap (1+z % 8)
theorem Cg.below {w W W':World} {A:Array Value} {c:Cfg} (h:Cg w W A c) (hb:Below W.heap.size W W'):Cg w W' A c:=by
 exact⟨(hb.block _ (lt_of_block h.conf)).trans h.conf,(hb.block _ (lt_of_block h.res)).trans h.res,(hb.block _ (lt_of_block h.cfg)).trans h.cfg,h.rowc.by (fun _ hy=>owns_keep hy hb),h.rowp.by (fun _ hz=>owns_keep hz hb),h.bel.trans (hb.mono h.bel.size),h.tl⟩
theorem Cg.set {w W:World} {A:Array Value} {c:Cfg} (h:Cg w W A c) (i:Nat) (v:Value) (c':Cfg) (hc:c'.arr=c.arr.setIfInBounds i v) (ht:c'.tills=c.tills) (h1:QjG w W c'.cp c'.cl c'.cc) (h2:QjJ w W c'.pp c'.pl c'.pc):Cg w (W.setCell ⟨w.heap.size+1+1,i,none⟩ v) A c':=by
 refine⟨(Ve _ _ _ _ (by show w.heap.size≠w.heap.size+1+1;omega)).trans h.conf,(Ve _ _ _ _ (by show w.heap.size+1≠w.heap.size+1+1;omega)).trans h.res,?_,h1.by (fun ys hy=>Qas hy (fun g hg=>Ve _ _ _ _ ?_)),h2.by (fun zs hz=>Qas hz (fun g hg=>Ve _ _ _ _ ?_)),h.bel.setCell (p:=⟨w.heap.size+1+1,i,none⟩) (by show w.heap.size≤w.heap.size+1+1;omega) _,by rw[ht];exact h.tl⟩
 ·rw[hc];exact Vx _ _ _ _ _ _ h.cfg
 ·rintro rfl
  exact owns_ne hy h.cfg (by decide) hg.symm
 ·rintro rfl
  exact owns_ne hz h.cfg (by decide) hg.symm
theorem Cg.cell {w W:World} {A:Array Value} {c:Cfg} (h:Cg w W A c) {i:Nat} {v:Value} (hv:c.arr[i]?=some v):W.cell? ⟨w.heap.size+1+1,i,none⟩=some v:=by rw[cRq h.cfg];exact hv
theorem Cg.free {w W:World} {A:Array Value} {c:Cfg} (h:Cg w W A c) (i:Nat):W.frozen? ⟨w.heap.size+1+1,i,none⟩=false:=VN _ _ _ _ _ h.cfg
theorem Cg.putc {w W W1:World} {A:Array Value} {c:Cfg} (h:Cg w W A c) (hb:Below W.heap.size W W1) (hl:c.cl≤64) (x:Ctr) (hx:Qh4 x) (tt:TypeId) :
  ∃a' c' w3,(Builtin.append_ #[31,31] tt #[.slice c.cp c.cl c.cc,.slice (some ⟨W1.heap.size,0,none⟩) 1 1]).run Tryz.prog (W1.alloc (.cells #[.string x.name,.int .i64 x.lo,.int .i64 x.hi,.int .i64 x.st] 115))=.ok (.slice a' (c.cl+1) c') w3 ∧
   w3.cell? ⟨w.heap.size+1+1,1,none⟩=some (.slice c.cp c.cl c.cc)∧w3.frozen? ⟨w.heap.size+1+1,1,none⟩=false∧(∀g,g<W.heap.size→(∀cur fr,W.heap[g]?≠some (.cells cur 115 fr))→w3.heap[g]?=W.heap[g]?) ∧
   Cg w (w3.setCell ⟨w.heap.size+1+1,1,none⟩ (.slice a' (c.cl+1) c')) A { c with cp:=a',cl:=c.cl+1,cc:=c' }:=by
 obtain⟨w2,hw2⟩:=exq (W1.alloc (.cells #[.string x.name,.int .i64 x.lo,.int .i64 x.hi,.int .i64 x.st] 115));have hcel:Cel w2 (some ⟨W1.heap.size,0,none⟩) 4 ([x].map ctc):=by rw[←hw2];exact cel_one rfl
 have hb2:Below W.heap.size W w2:=by rw[←hw2];exact hb.alloc hb.size _
 rw[hw2];have h2:=h.below hb2;obtain⟨cs,hy,hyl,hyb⟩:=h2.rowc;obtain⟨zs,hz,hzl,hzb⟩:=h2.rowp;obtain⟨v',w3,hr,ho,hg,_⟩:=QiZ.run_append w2 tt w.heap.size c.cl (.slice c.cp c.cl c.cc) (flat ctc cs) hy (some ⟨W1.heap.size,0,none⟩) 1 1 [x] rfl hcel (by omega) h2.bel.size;obtain⟨a',c',rfl,_⟩:=slice_form ho;have k3:∀(g:Nat) (C:Array Value) (t:TypeId) (fr:Nat × Nat),w2.heap[g]?=some (.cells C t fr)→t≠115→w3.heap[g]?=w2.heap[g]?:=fun g C t fr e ht=>hg.block g (lt_of_block e) (owns_ne hy e ht)
 have r0:=(k3 _ _ _ _ h2.conf (by decide)).trans h2.conf;have r1:=(k3 _ _ _ _ h2.res (by decide)).trans h2.res;have r2:=(k3 _ _ _ _ h2.cfg (by decide)).trans h2.cfg
 have rp:w3.ownsRow w.heap.size 117 2 (.slice c.pp c.pl c.pc) c.pl (flat QeZ zs):=owns_grown hz hg (fun g e e'=>by
  rcases owns_two hy hz (by decide) with e1 | e1
  ·rw[e1]at e';cases e'
  ·exact e1 (by rw[←e',e]))
 refine⟨a',c',w3,hr,by rw[cRq r2];rfl,VN _ _ _ _ _ r2,fun g hg1 hg2=>?_,?_⟩
 ·have e1:=hb2.block g hg1
  refine(hg.block g (VL hg1 hb2.size) ?_).trans e1;intro e2;rcases hy.2 with ⟨h4,_⟩ | ⟨g',cap,cur,h4,_,h5,_⟩
  ·rw[h4]at e2;simp[Value.ownBlock]at e2
  ·rw[h4]at e2
   simp[Value.ownBlock]at e2;subst e2;rw[e1]at h5;exact hg2 _ _ h5
 ·refine⟨(Ve _ _ _ _ (by show w.heap.size≠w.heap.size+1+1;omega)).trans r0,(Ve _ _ _ _ (by show w.heap.size+1≠w.heap.size+1+1;omega)).trans r1,Vx _ _ _ _ _ _ r2,⟨cs++[x],by rw[show flat ctc (cs++[x])=flat ctc cs++flat ctc [x] by simp[flat]];exact Qas ho (fun g hg=>Ve _ _ _ _ (by rintro rfl;exact owns_ne ho r2 (by decide) hg.symm)),by simp[hyl],fun y hy=>by rcases List.mem_append.1 hy with h | h;exact hyb y h;simp at h;rw[h];exact hx⟩,⟨zs,Qas rp (fun g hg=>Ve _ _ _ _ (by rintro rfl;exact owns_ne rp r2 (by decide) hg.symm)),hzl,hzb⟩,(Qd3 h2.bel hy hg).setCell (p:=⟨w.heap.size+1+1,1,none⟩) (by show w.heap.size≤w.heap.size+1+1;omega) _,h.tl⟩
theorem Cg.putp {w W W1:World} {A:Array Value} {c:Cfg} (h:Cg w W A c) (hb:Below W.heap.size W W1) (hl:c.pl≤64) (x:ByteArray × Int) (hx:QjU x) (tt:TypeId) :
  ∃a' c' w3,(Builtin.append_ #[32,32] tt #[.slice c.pp c.pl c.pc,.slice (some ⟨W1.heap.size,0,none⟩) 1 1]).run Tryz.prog (W1.alloc (.cells #[.string x.1,.int .i64 x.2] 117))=.ok (.slice a' (c.pl+1) c') w3 ∧
   w3.cell? ⟨w.heap.size+1+1,2,none⟩=some (.slice c.pp c.pl c.pc)∧w3.frozen? ⟨w.heap.size+1+1,2,none⟩=false∧(∀g,g<W.heap.size→(∀cur fr,W.heap[g]?≠some (.cells cur 117 fr))→w3.heap[g]?=W.heap[g]?) ∧
   Cg w (w3.setCell ⟨w.heap.size+1+1,2,none⟩ (.slice a' (c.pl+1) c')) A { c with pp:=a',pl:=c.pl+1,pc:=c' }:=by
 obtain⟨w2,hw2⟩:=exq (W1.alloc (.cells #[.string x.1,.int .i64 x.2] 117));have hcel:Cel w2 (some ⟨W1.heap.size,0,none⟩) 2 ([x].map QeZ):=by rw[←hw2];exact cel_one rfl
 have hb2:Below W.heap.size W w2:=by rw[←hw2];exact hb.alloc hb.size _
 rw[hw2];have h2:=h.below hb2;obtain⟨cs,hy,hyl,hyb⟩:=h2.rowc;obtain⟨zs,hz,hzl,hzb⟩:=h2.rowp;obtain⟨v',w3,hr,ho,hg,_⟩:=Qfb.run_append w2 tt w.heap.size c.pl (.slice c.pp c.pl c.pc) (flat QeZ zs) hz (some ⟨W1.heap.size,0,none⟩) 1 1 [x] rfl hcel (by omega) h2.bel.size;obtain⟨a',c',rfl,_⟩:=slice_form ho;have k3:∀(g:Nat) (C:Array Value) (t:TypeId) (fr:Nat × Nat),w2.heap[g]?=some (.cells C t fr)→t≠117→w3.heap[g]?=w2.heap[g]?:=fun g C t fr e ht=>hg.block g (lt_of_block e) (owns_ne hz e ht)
 have r0:=(k3 _ _ _ _ h2.conf (by decide)).trans h2.conf;have r1:=(k3 _ _ _ _ h2.res (by decide)).trans h2.res;have r2:=(k3 _ _ _ _ h2.cfg (by decide)).trans h2.cfg
 have rc:w3.ownsRow w.heap.size 115 4 (.slice c.cp c.cl c.cc) c.cl (flat ctc cs):=owns_grown hy hg (fun g e e'=>by
  rcases owns_two hz hy (by decide) with e1 | e1
  ·rw[e1]at e';cases e'
  ·exact e1 (by rw[←e',e]))
 refine⟨a',c',w3,hr,by rw[cRq r2];rfl,VN _ _ _ _ _ r2,fun g hg1 hg2=>?_,?_⟩
 ·have e1:=hb2.block g hg1
  refine(hg.block g (VL hg1 hb2.size) ?_).trans e1;intro e2;rcases hz.2 with ⟨h4,_⟩ | ⟨g',cap,cur,h4,_,h5,_⟩
  ·rw[h4]at e2;simp[Value.ownBlock]at e2
  ·rw[h4]at e2
   simp[Value.ownBlock]at e2;subst e2;rw[e1]at h5;exact hg2 _ _ h5
 ·refine⟨(Ve _ _ _ _ (by show w.heap.size≠w.heap.size+1+1;omega)).trans r0,(Ve _ _ _ _ (by show w.heap.size+1≠w.heap.size+1+1;omega)).trans r1,Vx _ _ _ _ _ _ r2,⟨cs,Qas rc (fun g hg=>Ve _ _ _ _ (by rintro rfl;exact owns_ne rc r2 (by decide) hg.symm)),hyl,hyb⟩,⟨zs++[x],by rw[show flat QeZ (zs++[x])=flat QeZ zs++flat QeZ [x] by simp[flat]];exact Qas ho (fun g hg=>Ve _ _ _ _ (by rintro rfl;exact owns_ne ho r2 (by decide) hg.symm)),by simp[hzl],fun y hy=>by rcases List.mem_append.1 hy with h | h;exact hzb y h;simp at h;rw[h];exact hx⟩,(Qd3 h2.bel hz hg).setCell (p:=⟨w.heap.size+1+1,2,none⟩) (by show w.heap.size≤w.heap.size+1+1;omega) _,h.tl⟩
theorem Cg.done {w W:World} {A:Array Value} {c:Cfg} (h:Cg w W A c) (E:Array Value):(∃cs:List Ctr,cs.length=c.cl∧Cel (W.setRow (w.heap.size+1) E) c.cp 4 (cs.map ctc)∧∀x∈cs,Qh4 x)∧(∃ps:List (ByteArray × Int),ps.length=c.pl∧Cel (W.setRow (w.heap.size+1) E) c.pp 2 (ps.map QeZ)∧∀x∈ps,QjU x):=by
 obtain⟨cs,h1,h2,h3⟩:=h.rowc;obtain⟨ps,h4,h5,h6⟩:=h.rowp;exact⟨⟨cs,h2,cel_row (f:=ctc) (sz:=4) (fun _=>rfl) (Qas h1 (fun g hg=>Vz _ _ _ _ (by rintro rfl;exact owns_ne h1 h.res (by decide) hg.symm))) h2,h3⟩,⟨ps,h5,cel_row (f:=QeZ) (sz:=2) (fun _=>rfl) (Qas h4 (fun g hg=>Vz _ _ _ _ (by rintro rfl;exact owns_ne h4 h.res (by decide) hg.symm))) h5,h6⟩⟩
def QfZ (w':World) (p:Cnf) (c:Cfg):Prop:=c.tills=1+p.tills % 8∧c.pl≤64∧(∃cs:List Ctr,cs.length=c.cl∧Cel w' c.cp 4 (cs.map ctc)∧∀x∈cs,Qh4 x)∧(∃ps:List (ByteArray × Int),ps.length=c.pl∧Cel w' c.pp 2 (ps.map QeZ)∧∀x∈ps,QjU x)
theorem Cg.made {w W:World} {A:Array Value} {c:Cfg} {p:Cnf} (h:Cg w W A c) (hA:p.arr=A) (hp:c.pl≤64):QfZ (W.setRow (w.heap.size+1) c.arr) p c:=by
 refine⟨?_,hp,(h.done c.arr).1,(h.done c.arr).2⟩;obtain⟨z,z1,z2⟩:=h.tl;rw[←hA]at z1;have z3:p.tills=z:=by simpa[Cnf.arr] using z1
 have z4:=VK z (show (8:Int)≠0 by omega);have z5:=VE z (show (0:Int)<8 by omega);rw[z2,z3,Qb8,w64_id (by omega)]
end Go.Proofs.YtiogibfhafoapaaGreat.Z
namespace Go.Proofs.YtiogibfhafoapaaGreat.Z
open Go.RowKit
theorem cfg_ones (c:Cfg):c.arr.all (·.oneCell')=true:=by simp[Cfg.arr,Value.oneCell']
theorem sizeC:(Tryz.prog.info? 34).map (·.size)=some 9:=by kernel_rfl
theorem QbQ:∃i z,Tryz.prog.info? 115=some i∧i.zero=some z∧i.size=4:=by
 obtain⟨i,z,h1,h2,h3,_,_⟩:=QiZ.info;exact⟨i,z,h1,h2,h3⟩
theorem QcF:∃i z,Tryz.prog.info? 117=some i∧i.zero=some z∧i.size=2:=by
 obtain⟨i,z,h1,h2,h3,_,_⟩:=Qfb.info;exact⟨i,z,h1,h2,h3⟩
theorem Qj0 {w W:World} {t:TypeId} {E:Array Value} {sz:Nat} (hE:E.size=sz) (hb:w.heap.size≤W.heap.size):(W.alloc (.cells E t)).ownsRow w.heap.size t sz (.slice (some ⟨W.heap.size,0,none⟩) 1 1) 1 E.toList :=
 ⟨by simp[hE],Or.inr ⟨_,1,E,rfl,hb,hNq _ _,Va _,by unfold maxLen;omega,by omega,by rw[Nat.one_mul,←hE];exact Vh (by simp)⟩⟩
theorem config_any (w:World) (p:Cnf) (hc:QaE w 3 Qar p.ctr) (hp:QaE w 1 (fun n:Int=>[Value.int .i64 n]) p.prc) (A:Array Value) (hA:p.arr=A) :
  Calls Tryz.prog 10 #[.agg A] w fun e w'=>∃c:Cfg,e=.returned c.v∧1≤c.cl∧c.cl≤64∧(p.ctr.n=0→c.cl=1)∧QfZ w' p c∧Below w.heap.size w w':=by
 have hb0:(0:Int)≤p.beat % 1020:=VK _ (by omega);have hb1:p.beat % 1020<1020:=VE _ (by omega);obtain⟨w2,hw2⟩:=exq ((w.alloc (.cells A 25)).alloc (.cells #[.int .i64 0,.slice none 0 0,.slice none 0 0,.int .i64 0,.int .i64 0,.int .i64 0,.int .i64 0,.int .i64 0,.int .i64 0] 34));have hk0:w2.heap[w.heap.size]?=some (.cells A 25 (0,0)):=by rw[←hw2];exact heap_alloc2_old _ _ _
 have hk1:w2.heap[w.heap.size+1]?=some (.cells #[.int .i64 0,.slice none 0 0,.slice none 0 0,.int .i64 0,.int .i64 0,.int .i64 0,.int .i64 0,.int .i64 0,.int .i64 0] 34 (0,0)):=by rw[←hw2];exact VV _ _ _
 have hs2:w2.heap.size=w.heap.size+1+1:=by rw[←hw2];simp
 have HB2:Hid (Below w.heap.size w w2):=by show Below _ _ _;rw[←hw2];exact((Below.refl _ w).alloc (Va _) _).alloc (by simp) _
 have c0:w2.cell? ⟨w.heap.size,0,none⟩=some (.int .i64 p.tills):=by rw[cRq hk0,←hA];rfl
 have c3:w2.cell? ⟨w.heap.size,3,none⟩=some (.int .i64 p.lease):=by rw[cRq hk0,←hA];rfl
 have c5:w2.cell? ⟨w.heap.size,5,none⟩=some (.int .i64 p.beat):=by rw[cRq hk0,←hA];rfl
 have c6:w2.cell? ⟨w.heap.size,6,none⟩=some (.int .i64 p.window):=by rw[cRq hk0,←hA];rfl
 have c7:w2.cell? ⟨w.heap.size,7,none⟩=some (.int .i64 p.cap):=by rw[cRq hk0,←hA];rfl
 have c8:w2.cell? ⟨w.heap.size,8,none⟩=some (.int .i64 p.flight):=by rw[cRq hk0,←hA];rfl
 obtain⟨HK0,HK1,HA,HC,HP,HW2,HS2⟩:=hd7 hk0 hk1 hA hc hp hw2 hs2;have hlt0:¬w.heap.size=w2.heap.size:=by omega
 clear hk0 hk1 hA hc hp hw2 hs2;go_enter Tryz.func10,Tryz.ntmps10;go_upto_region 1 with (fail);rw[HW2.out];apply Ql3
 case reg =>
  refine Vi ?_;go_region_held3 (fun w'=>w'.cell? ⟨w.heap.size,0,none⟩=some (.int .i64 p.tills)∧w'.cell? ⟨w.heap.size,3,none⟩=some (.int .i64 p.lease)∧w'.cell? ⟨w.heap.size,5,none⟩=some (.int .i64 p.beat)∧w'.cell? ⟨w.heap.size,6,none⟩=some (.int .i64 p.window)∧w'.cell? ⟨w.heap.size,7,none⟩=some (.int .i64 p.cap)∧w'.cell? ⟨w.heap.size,8,none⟩=some (.int .i64 p.flight)) (go_keep) (first | (go_at_call 33;refine(within_any _ _ _ (by omega) (by omega)).mono ?_;rintro e w' ⟨rfl,rfl⟩) | fail);all_goals exact Vj ⟨rfl,rfl,rfl⟩
 case cont =>
  have hb3:1≤IntKind.i64.wrap (1+p.beat % 1020)∧IntKind.i64.wrap (1+p.beat % 1020)≤1020:=by rw[Qb8,w64_id (by omega)];omega
  have HS2e:Hid (w2.heap.size=w.heap.size+1+1):=HS2;obtain⟨W3,hW3⟩:=exq ((w2.alloc (.cells #[.int .i64 (IntKind.i64.wrap (1+p.tills % 8)),.slice none 0 0,.slice none 0 0,.int .i64 (IntKind.i64.wrap (1+p.lease % 1024)),.int .i64 0,.int .i64 (IntKind.i64.wrap (1+p.beat % 1020)),.int .i64 (IntKind.i64.wrap (1+p.window % 16)),.int .i64 (IntKind.i64.wrap (1+p.cap % 64)),.int .i64 (IntKind.i64.wrap (1+p.flight % 8192))] 34)).drew)
  have HG3:Hid (Cg w W3 A (⟨IntKind.i64.wrap (1+p.tills % 8),none,0,0,none,0,0,IntKind.i64.wrap (1+p.lease % 1024),0,IntKind.i64.wrap (1+p.beat % 1020),IntKind.i64.wrap (1+p.window % 16),IntKind.i64.wrap (1+p.cap % 64),IntKind.i64.wrap (1+p.flight % 8192)⟩:Cfg)):=by
   show Cg _ _ _ _;rw[←hW3];refine⟨(Vc _ _ _ (lt_of_block HK0.out)).trans HK0.out,(Vc _ _ _ (lt_of_block HK1.out)).trans HK1.out,?_,QjG.nil _ _,QjJ.nil _ _,(HB2.out.alloc HB2.out.size _).drew,p.tills,by rw[←HA.out];rfl,rfl⟩;rw[←HS2e.out];exact hNq _ _
  have hA4:A[4]?=some (.int .i64 p.watch):=by rw[←HA.out];rfl
  have hA1:A[1]?=some (.slice p.ctr.p p.ctr.n p.ctr.c):=by rw[←HA.out];rfl
  have hA2:A[2]?=some (.slice p.prc.p p.prc.n p.prc.c):=by rw[←HA.out];rfl
  rw[hW3,HS2e.out];obtain⟨bt,hbt⟩:=exq (IntKind.i64.wrap (1+p.beat % 1020));have HG3':=HG3;rw[hbt]at HG3 hb3;have d5:W3.cell? ⟨w.heap.size+1+1,5,none⟩=some (.int .i64 bt):=HG3.out.cell rfl;have d4:W3.cell? ⟨w.heap.size,4,none⟩=some (.int .i64 p.watch):=by rw[cRq HG3.out.conf];exact hA4
  have hw1:IntKind.i64.wrap (1021 - bt)=1021 - bt:=by rw[Qb8,w64_id (by omega)]
  have e4:∃u,W3.cell? ⟨w.heap.size+1+1,4,none⟩=some u:=⟨_,HG3.out.cell (i:=4) rfl⟩;have f4:=HG3.out.free 4;have HG4:Hid (∀v:Int,∃c:Cfg,Cg w (W3.setCell ⟨w.heap.size+1+1,4,none⟩ (.int .i64 v)).drew A c∧c.cl=0∧c.pl=0):=fun v=>⟨{ (⟨IntKind.i64.wrap (1+p.tills % 8),none,0,0,none,0,0,IntKind.i64.wrap (1+p.lease % 1024),0,bt,IntKind.i64.wrap (1+p.window % 16),IntKind.i64.wrap (1+p.cap % 64),IntKind.i64.wrap (1+p.flight % 8192)⟩:Cfg) with watch:=v },(Cg.set HG3.out 4 (.int .i64 v) { (⟨IntKind.i64.wrap (1+p.tills % 8),none,0,0,none,0,0,IntKind.i64.wrap (1+p.lease % 1024),0,bt,IntKind.i64.wrap (1+p.window % 16),IntKind.i64.wrap (1+p.cap % 64),IntKind.i64.wrap (1+p.flight % 8192)⟩:Cfg) with watch:=v } rfl rfl (QjG.nil _ _) (QjJ.nil _ _)).below (bR.drew),rfl,rfl⟩
  have HKp:Hid (∀v:Int,(W3.setCell ⟨w.heap.size+1+1,4,none⟩ (.int .i64 v)).cell? ⟨w.heap.size+1+1,5,none⟩=some (.int .i64 bt)∧(W3.setCell ⟨w.heap.size+1+1,4,none⟩ (.int .i64 v)).cell? ⟨w.heap.size,4,none⟩=some (.int .i64 p.watch)):=fun v=>by
   have h:=Cg.set HG3.out 4 (.int .i64 v) { (⟨IntKind.i64.wrap (1+p.tills % 8),none,0,0,none,0,0,IntKind.i64.wrap (1+p.lease % 1024),0,bt,IntKind.i64.wrap (1+p.window % 16),IntKind.i64.wrap (1+p.cap % 64),IntKind.i64.wrap (1+p.flight % 8192)⟩:Cfg) with watch:=v } rfl rfl (QjG.nil _ _) (QjJ.nil _ _);exact⟨h.cell rfl,by rw[cRq h.conf];exact hA4⟩
  clear hW3 c0 c3 c5 c6 c7 c8 hA4 HG3 HG3' HK0 HK1 HB2 hb0 hb1;obtain⟨u4,e4⟩:=e4;have hlt9:¬w.heap.size=w.heap.size+1+1:=by omega
  go_upto_region 2 with (fail);go_region_held3 (fun w'=>w'.cell? ⟨w.heap.size+1+1,5,none⟩=some (.int .i64 bt)∧w'.cell? ⟨w.heap.size,4,none⟩=some (.int .i64 p.watch)) (first | exact HKp.out _ | go_keep) (first | (go_at_call 33;refine(within_any _ _ _ (by omega) (by omega)).mono ?_;rintro e w' ⟨rfl,rfl⟩) | fail);obtain⟨W4,hW4⟩:=exq ((W3.setCell ⟨w.heap.size+1+1,4,none⟩ (.int .i64 (IntKind.i64.wrap (IntKind.i64.wrap (bt+4)+p.watch % (1021 - bt))))).drew);have HI0:=Qaa (HG4.out (IntKind.i64.wrap (IntKind.i64.wrap (bt+4)+p.watch % (1021 - bt))));rw[hW4]at HI0 ⊢;clear hW4 HG4 d5 d4 e4 f4 hw1 hb3 HKp HW2 HS2 HS2e hlt0 hlt9 hbt;obtain⟨ps,hps⟩:=exq p.prc;obtain⟨cs,hcs⟩:=exq p.ctr;rw[hps]at hA2 HP;rw[hcs]at hA1 HC;obtain⟨cp,n,cc,xs⟩:=cs;obtain⟨pp,m,pc,ys⟩:=ps;have hxl:xs.length=n:=HC.out.len;have hyl:ys.length=m:=HP.out.len;have hnm:n≤4194304:=HC.out.most;have hmm:m≤4194304:=HP.out.most;simp only at hA1 hA2;have Hn:Hid (p.ctr.n=n):=by show _=_;rw[hcs]
  obtain⟨HCc,HPc⟩:=Qmj HC.out.cel HP.out.cel;simp only at HCc HPc;clear HC HP hps hcs;go_wp2;go_loopw [4] (fun i wr=>∃k:Nat,k≤n∧k≤64∧i=.int .i64 k∧Hid (∃c:Cfg,Cg w wr A c∧c.cl=k∧c.pl=0)) (fun i _=>n - (intOf i).toNat);case atStart=>exact⟨0,Vo _,Vo _,rfl,HI0⟩
  case round =>
   clear HI0;obtain⟨k,hk,hk64,rfl,HI⟩:=hrel;obtain⟨c,G,hcl,hpl⟩:=HI.out;have d1:wr.cell? ⟨w.heap.size,1,none⟩=some (.slice cp n cc):=by rw[cRq G.conf];exact hA1
   obtain⟨B,hB⟩:∃B:Bool,B=(decide (k<n) && decide (k<64)):=⟨_,rfl⟩;go_upto_region 4 with (fail);go_cut [53] from 45 to 53 (fun tv wc=>tv=.bool B∧Hid (wc=wr))
   case first =>
    by_cases h1:k<n
    ·have h1i:(k:Int)<(n:Int):=by omega
     by_cases h2:k<64
     ·have h2i:(k:Int)<64:=by omega
      have hBt:B=true:=by rw[hB];simp[h1,h2]
      clear hB;go_wp2;go_meet;case rel=>exact⟨by rw[hBt],rfl⟩
     ·have h2i:¬(k:Int)<64:=by omega
      have hBt:B=false:=by rw[hB];simp[h2]
      clear hB;go_wp2;go_meet;case rel=>exact⟨by rw[hBt],rfl⟩
    ·have h1i:¬(k:Int)<(n:Int):=by omega
     have hBt:B=false:=by rw[hB];simp[h1]
     clear hB;go_wp2;go_meet;case rel=>exact⟨by rw[hBt],rfl⟩
   case rest =>
    obtain⟨rfl,hwc⟩:=hcut;rw[show wc=wr from hwc.out];clear hwc wc;by_cases hgo:k<n∧k<64
    ·obtain⟨hlt,hlt6⟩:=hgo
     have hlt':(k:Int)<(n:Int):=by omega
     have hlt6':(k:Int)<64:=by omega
     have hBt:B=true:=by rw[hB];simp[hlt,hlt6]
     subst hBt;clear hB;obtain⟨x,hx⟩:∃x,xs[k]?=some x:=⟨_,gE (by omega)⟩;obtain⟨b,o,e,hb,hc⟩:=HCc.out.get (i:=k) (r:=Qar x) (by simp[hx]);subst e;have x0:wr.cell? ⟨b,o+k*3,none⟩=some (.int .i64 x.a):=(G.bel.cell (p:=⟨b,o+k*3,none⟩) hb).trans (hc 0 _ rfl);have x1:wr.cell? ⟨b,o+k*3+1,none⟩=some (.int .i64 x.b):=(G.bel.cell (p:=⟨b,o+k*3+1,none⟩) hb).trans (hc 1 _ rfl);have x2:wr.cell? ⟨b,o+k*3+2,none⟩=some (.int .i64 x.n):=(G.bel.cell (p:=⟨b,o+k*3+2,none⟩) hb).trans (hc 2 _ rfl);obtain⟨l1,l2⟩:=Qg5 x;obtain⟨l3,l4⟩:=QkI x;obtain⟨lo,hlo⟩:=exq (loT x);obtain⟨hi,hhi⟩:=exq (hiT x);have ev1:x.a % 18014398509481985 - 9007199254740992=lo:=hlo;have ev4:lo+x.b % (9007199254740992 - lo+1)=hi:=by rw[←hhi];unfold hiT;rw[hlo]
     rw[hlo]at l1 l2 l3;rw[hhi]at l3 l4;obtain⟨Ev1,Ev4⟩:=Qmj ev1 ev4;clear ev1 ev4;have HG:=Qaa G;clear hc hx G HI hlo hhi
     go_upto_region 8 with (
      first
      | (go_at_call 34;refine(Qa7 _ _ _ (by omega) (by omega)).mono ?_;rintro e w' ⟨rfl,rfl⟩)
      | fail)
     rw[Ev1.out]
     go_upto_region 9 with (
      first
      | (go_at_call 34;refine(Qa7 _ _ _ (by omega) (by omega)).mono ?_;rintro e w' ⟨rfl,rfl⟩)
      | fail)
     rw[Ev4.out,show wrap64 hi=hi from w64_id (by omega)];obtain⟨W5,hW5⟩:=exq (wr.alloc (.cells #[.int .i64 x.a,.int .i64 x.b,.int .i64 x.n] 111));have hb5:W5.heap[wr.heap.size]?=some (.cells #[.int .i64 x.a,.int .i64 x.b,.int .i64 x.n] 111 (0,0)):=by rw[←hW5];exact hNq _ _
     have HG5:Hid (Cg w W5.drew A c):=by
      show Cg _ _ _ _;rw[←hW5];exact HG.out.below (((Below.refl _ wr).alloc (Va _) _).drew)
     have hS0:W5.drew.cell? ⟨wr.heap.size,2,none⟩=some (.int .i64 x.n):=by rw[cRq (show W5.drew.heap[wr.heap.size]?=_ from hb5)];rfl
     have hltS:wr.heap.size<W5.drew.heap.size:=lt_of_block (show W5.drew.heap[wr.heap.size]?=_ from hb5)
     have hSty:∀cur fr,W5.drew.heap[wr.heap.size]?≠some (.cells cur 115 fr):=fun cur fr e=>by
      rw[show W5.drew.heap[wr.heap.size]?=_ from hb5]at e;simp at e
     have hSne:wr.heap.size≠w.heap.size+1+1:=by have:=lt_of_block HG.out.cfg;omega
     have q0:W5.drew.cell? ⟨w.heap.size+1+1,1,none⟩=some (.slice c.cp c.cl c.cc):=HG5.out.cell rfl;have ev5:IntKind.i64.wrap (hi - lo)=hi - lo:=by rw[Qb8];exact w64_id (by omega)
     have ev6:IntKind.i64.wrap (hi - lo+1)=hi - lo+1:=by rw[Qb8];exact w64_id (by omega)
     have i1:0<hi - lo+1:=by omega
     have i2:hi - lo+1≤4611686018427387904:=by omega
     have HNm:=Qaa (QgJ W5.drew 99 k hlt6)
     have HCb:Hid (Qh4 ⟨Qcf 99 k,lo,hi,IntKind.i64.wrap (lo+x.n % (hi - lo+1))⟩):=by
      have m1:0≤x.n % (hi - lo+1):=VK _ (by omega);have m2:x.n % (hi - lo+1)<hi - lo+1:=VE _ i1;refine⟨l1,?_,?_,l4⟩
      ·show lo≤IntKind.i64.wrap _
       rw[Qb8,w64_id (by omega)];omega
      ·show IntKind.i64.wrap _≤hi
       rw[Qb8,w64_id (by omega)];omega
     obtain⟨Hcl,Hpl⟩:=Qmj hcl hpl;rw[hW5];clear hcl hpl hW5 hb5 x0 x1 x2 d1 HG Ev1 Ev4;refine Vi ?_;refine Vf (S:=fun w'=>w'.cell? ⟨wr.heap.size,2,none⟩=some (.int .i64 x.n)) (by kernel_rfl) hS0 (fun hHeld=>?_);refine tkg 0 ?_;refine tkg 2 ?_;refine tkg 4 ?_;refine tkg 5 ?_;refine tkg 6 ?_;refine tkg 7 ?_;refine tkg 8 ?_;refine tkg 9 ?_;refine tkg 10 ?_;refine tkg 11 ?_;refine tkg 12 ?_;refine VW (rs:=[1,3]) (by kernel_rfl) (by simp) ?_;refine AllReadyH.cons (o:=_) rfl (fun KK hKK=>?_) (AllReadyH.cons (o:=_) rfl (fun KK hKK=>?_) AllReadyH.nil)
     ·go_simp
      refine hKK.out _ _ (hS0) (fun hHeld=>?_);clear hKK KK;try simp only[qzg,qzh,qzi,Act.put,qzs,qz0,qz1]
      refine rdy 3 (fun KK hKK=>?_);go_simp
      (go_at_call 35;refine HNm.out.mono ?_;rintro e w4 ⟨rfl,hB4⟩)
      dsimp only;have hS4:=(hB4.cell (p:=⟨wr.heap.size,2,none⟩) hltS).trans hS0;have G4:=HG5.out.below hB4;have q4:w4.cell? ⟨w.heap.size+1+1,1,none⟩=some (.slice c.cp c.cl c.cc):=G4.cell rfl;have hB5:Below w4.heap.size w4 (w4.alloc (.cells #[.string (Qcf 99 k),.int .i64 lo,.int .i64 hi,.int .i64 (IntKind.i64.wrap (lo+x.n % (hi - lo+1)))] 115)):=(Below.refl _ w4).alloc (Va _) _;have hS5:=(hB5.cell (p:=⟨wr.heap.size,2,none⟩) (VL hltS hB4.size)).trans hS4;have q5:=(G4.below hB5).cell (i:=1) (v:=(.slice c.cp c.cl c.cc)) rfl;obtain⟨a6,c6,w6,hrun,hc6,hf6,hk6,G6⟩:=HG5.out.putc hB4 (by have:=Hcl.out;omega) ⟨Qcf 99 k,lo,hi,IntKind.i64.wrap (lo+x.n % (hi - lo+1))⟩ HCb.out 31;dsimp only at hrun;have hS6:w6.cell? ⟨wr.heap.size,2,none⟩=some (.int .i64 x.n):=by rw[VC (w:=W5.drew) (hk6 _ hltS hSty)];exact hS0
      have hS7:(w6.setCell ⟨w.heap.size+1+1,1,none⟩ (.slice a6 (c.cl+1) c6)).cell? ⟨wr.heap.size,2,none⟩=some (.int .i64 x.n):=by rw[VC (w:=w6) (Ve _ _ _ _ hSne)];exact hS6
      have HG6:=Qaa G6;clear G4 G6 hk6;refine hKK.out _ _ (hS4) (fun hHeld=>?_);clear hKK KK;try simp only[qzg,qzh,qzi,Act.put,qzs,qz0,qz1]
      refine rdy 13 (fun KK hKK=>?_);go_simp
      (go_at_call 34;refine(Qa7 _ _ _ (by assumption) (by assumption)).mono ?_;rintro e w9 ⟨rfl,h9⟩;rw[h9];clear h9 w9)
      dsimp only;refine hKK.out _ _ (hS4) (fun hHeld=>?_);clear hKK KK;try simp only[qzg,qzh,qzi,Act.put,qzs,qz0,qz1]
      refine tkg 14 ?_;refine tkg 15 ?_;refine rdy 16 (fun KK hKK=>?_);refine Qao (by kernel_rfl) ?_;refine wp_build_one 31 115 (.tmp 88) rfl #[.string (Qcf 99 k),.int .i64 lo,.int .i64 hi,.int .i64 (IntKind.i64.wrap (lo+x.n % (hi - lo+1)))] rfl 4 (by omega) (by omega) Tryz.underlying31 QbQ rfl ?_;refine hKK.out _ _ (hS5) (fun hHeld=>?_);clear hKK KK;try simp only[qzg,qzh,qzi,Act.put,qzs,qz0,qz1]
      refine rdy 17 (fun KK hKK=>?_);refine Qao (by kernel_rfl) ?_;refine QaO (.tmp 74) (.tmp 89) 31 31 rfl (.slice c.cp c.cl c.cc) (.slice (some ⟨w4.heap.size,0,none⟩) 1 1) (.slice a6 (c.cl+1) c6) w6 rfl rfl hrun ?_;refine hKK.out _ _ (hS6) (fun hHeld=>?_);clear hKK KK;try simp only[qzg,qzh,qzi,Act.put,qzs,qz0,qz1]
      refine tkg 18 ?_;refine rdy 19 (fun KK hKK=>?_);go_simp;refine hKK.out _ _ (hS7) (fun hHeld=>?_);clear hKK KK;try simp only[qzg,qzh,qzi,Act.put,qzs,qz0,qz1]
      refine Vp (by kernel_rfl) (Vj ?_) _;obtain⟨W7,hW7⟩:=exq (w6.setCell ⟨w.heap.size+1+1,1,none⟩ (.slice a6 (c.cl+1) c6));rw[hW7]at HG6 ⊢;clear hS0 hS4 hS5 hS6 hS7 hHeld q4 q5 hc6 hf6 hrun hW7;clear ev5 ev6 i1 i2 l1 l2 l3 l4;go_wp2;go_roundw;case rel=>exact⟨k+1,by omega,by omega,by go_num,_,HG6.out,by show c.cl+1=k+1;rw[Hcl.out],Hpl.out⟩
      simp[intOf];omega
     ·go_simp
      (go_at_call 35;refine HNm.out.mono ?_;rintro e w4 ⟨rfl,hB4⟩)
      dsimp only;have hS4:=(hB4.cell (p:=⟨wr.heap.size,2,none⟩) hltS).trans hS0;have G4:=HG5.out.below hB4;have q4:w4.cell? ⟨w.heap.size+1+1,1,none⟩=some (.slice c.cp c.cl c.cc):=G4.cell rfl;have hB5:Below w4.heap.size w4 (w4.alloc (.cells #[.string (Qcf 99 k),.int .i64 lo,.int .i64 hi,.int .i64 (IntKind.i64.wrap (lo+x.n % (hi - lo+1)))] 115)):=(Below.refl _ w4).alloc (Va _) _;have hS5:=(hB5.cell (p:=⟨wr.heap.size,2,none⟩) (VL hltS hB4.size)).trans hS4;have q5:=(G4.below hB5).cell (i:=1) (v:=(.slice c.cp c.cl c.cc)) rfl;obtain⟨a6,c6,w6,hrun,hc6,hf6,hk6,G6⟩:=HG5.out.putc hB4 (by have:=Hcl.out;omega) ⟨Qcf 99 k,lo,hi,IntKind.i64.wrap (lo+x.n % (hi - lo+1))⟩ HCb.out 31;dsimp only at hrun;have hS6:w6.cell? ⟨wr.heap.size,2,none⟩=some (.int .i64 x.n):=by rw[VC (w:=W5.drew) (hk6 _ hltS hSty)];exact hS0
      have hS7:(w6.setCell ⟨w.heap.size+1+1,1,none⟩ (.slice a6 (c.cl+1) c6)).cell? ⟨wr.heap.size,2,none⟩=some (.int .i64 x.n):=by rw[VC (w:=w6) (Ve _ _ _ _ hSne)];exact hS6
      have HG6:=Qaa G6;clear G4 G6 hk6;refine hKK.out _ _ (hS4) (fun hHeld=>?_);clear hKK KK;try simp only[qzg,qzh,qzi,Act.put,qzs,qz0,qz1]
      refine VW (rs:=[1,13]) (by kernel_rfl) (by simp) ?_;refine AllReadyH.cons (o:=_) rfl (fun KK hKK=>?_) (AllReadyH.cons (o:=_) rfl (fun KK hKK=>?_) AllReadyH.nil)
      ·go_simp
       refine hKK.out _ _ (hS4) (fun hHeld=>?_);clear hKK KK;try simp only[qzg,qzh,qzi,Act.put,qzs,qz0,qz1]
       refine rdy 13 (fun KK hKK=>?_);go_simp
       (go_at_call 34;refine(Qa7 _ _ _ (by assumption) (by assumption)).mono ?_;rintro e w9 ⟨rfl,h9⟩;rw[h9];clear h9 w9)
       dsimp only;refine hKK.out _ _ (hS4) (fun hHeld=>?_);clear hKK KK;try simp only[qzg,qzh,qzi,Act.put,qzs,qz0,qz1]
       refine tkg 14 ?_;refine tkg 15 ?_;refine rdy 16 (fun KK hKK=>?_);refine Qao (by kernel_rfl) ?_;refine wp_build_one 31 115 (.tmp 88) rfl #[.string (Qcf 99 k),.int .i64 lo,.int .i64 hi,.int .i64 (IntKind.i64.wrap (lo+x.n % (hi - lo+1)))] rfl 4 (by omega) (by omega) Tryz.underlying31 QbQ rfl ?_;refine hKK.out _ _ (hS5) (fun hHeld=>?_);clear hKK KK;try simp only[qzg,qzh,qzi,Act.put,qzs,qz0,qz1]
       refine rdy 17 (fun KK hKK=>?_);refine Qao (by kernel_rfl) ?_;refine QaO (.tmp 74) (.tmp 89) 31 31 rfl (.slice c.cp c.cl c.cc) (.slice (some ⟨w4.heap.size,0,none⟩) 1 1) (.slice a6 (c.cl+1) c6) w6 rfl rfl hrun ?_;refine hKK.out _ _ (hS6) (fun hHeld=>?_);clear hKK KK;try simp only[qzg,qzh,qzi,Act.put,qzs,qz0,qz1]
       refine tkg 18 ?_;refine rdy 19 (fun KK hKK=>?_);go_simp;refine hKK.out _ _ (hS7) (fun hHeld=>?_);clear hKK KK;try simp only[qzg,qzh,qzi,Act.put,qzs,qz0,qz1]
       refine Vp (by kernel_rfl) (Vj ?_) _;obtain⟨W7,hW7⟩:=exq (w6.setCell ⟨w.heap.size+1+1,1,none⟩ (.slice a6 (c.cl+1) c6));rw[hW7]at HG6 ⊢;clear hS0 hS4 hS5 hS6 hS7 hHeld q4 q5 hc6 hf6 hrun hW7;clear ev5 ev6 i1 i2 l1 l2 l3 l4;go_wp2;go_roundw;case rel=>exact⟨k+1,by omega,by omega,by go_num,_,HG6.out,by show c.cl+1=k+1;rw[Hcl.out],Hpl.out⟩
       simp[intOf];omega
      ·go_simp
       (go_at_call 34;refine(Qa7 _ _ _ (by assumption) (by assumption)).mono ?_;rintro e w9 ⟨rfl,h9⟩;rw[h9];clear h9 w9)
       dsimp only;refine hKK.out _ _ (hS4) (fun hHeld=>?_);clear hKK KK;try simp only[qzg,qzh,qzi,Act.put,qzs,qz0,qz1]
       refine tkg 14 ?_;refine tkg 15 ?_;refine VW (rs:=[1,16]) (by kernel_rfl) (by simp) ?_;refine AllReadyH.cons (o:=_) rfl (fun KK hKK=>?_) (AllReadyH.cons (o:=_) rfl (fun KK hKK=>?_) AllReadyH.nil)
       ·go_simp
        refine hKK.out _ _ (hS4) (fun hHeld=>?_);clear hKK KK;try simp only[qzg,qzh,qzi,Act.put,qzs,qz0,qz1]
        refine rdy 16 (fun KK hKK=>?_);refine Qao (by kernel_rfl) ?_;refine wp_build_one 31 115 (.tmp 88) rfl #[.string (Qcf 99 k),.int .i64 lo,.int .i64 hi,.int .i64 (IntKind.i64.wrap (lo+x.n % (hi - lo+1)))] rfl 4 (by omega) (by omega) Tryz.underlying31 QbQ rfl ?_;refine hKK.out _ _ (hS5) (fun hHeld=>?_);clear hKK KK;try simp only[qzg,qzh,qzi,Act.put,qzs,qz0,qz1]
        refine rdy 17 (fun KK hKK=>?_);refine Qao (by kernel_rfl) ?_;refine QaO (.tmp 74) (.tmp 89) 31 31 rfl (.slice c.cp c.cl c.cc) (.slice (some ⟨w4.heap.size,0,none⟩) 1 1) (.slice a6 (c.cl+1) c6) w6 rfl rfl hrun ?_;refine hKK.out _ _ (hS6) (fun hHeld=>?_);clear hKK KK;try simp only[qzg,qzh,qzi,Act.put,qzs,qz0,qz1]
        refine tkg 18 ?_;refine rdy 19 (fun KK hKK=>?_);go_simp;refine hKK.out _ _ (hS7) (fun hHeld=>?_);clear hKK KK;try simp only[qzg,qzh,qzi,Act.put,qzs,qz0,qz1]
        refine Vp (by kernel_rfl) (Vj ?_) _;obtain⟨W7,hW7⟩:=exq (w6.setCell ⟨w.heap.size+1+1,1,none⟩ (.slice a6 (c.cl+1) c6));rw[hW7]at HG6 ⊢;clear hS0 hS4 hS5 hS6 hS7 hHeld q4 q5 hc6 hf6 hrun hW7;clear ev5 ev6 i1 i2 l1 l2 l3 l4;go_wp2;go_roundw;case rel=>exact⟨k+1,by omega,by omega,by go_num,_,HG6.out,by show c.cl+1=k+1;rw[Hcl.out],Hpl.out⟩
        simp[intOf];omega
       ·refine Qao (by kernel_rfl) ?_
        refine wp_build_one 31 115 (.tmp 88) rfl #[.string (Qcf 99 k),.int .i64 lo,.int .i64 hi,.int .i64 (IntKind.i64.wrap (lo+x.n % (hi - lo+1)))] rfl 4 (by omega) (by omega) Tryz.underlying31 QbQ rfl ?_;refine hKK.out _ _ (hS5) (fun hHeld=>?_);clear hKK KK;try simp only[qzg,qzh,qzi,Act.put,qzs,qz0,qz1]
        refine rdy 1 (fun KK hKK=>?_);go_simp;refine hKK.out _ _ (hS5) (fun hHeld=>?_);clear hKK KK;try simp only[qzg,qzh,qzi,Act.put,qzs,qz0,qz1]
        refine rdy 17 (fun KK hKK=>?_);refine Qao (by kernel_rfl) ?_;refine QaO (.tmp 74) (.tmp 89) 31 31 rfl (.slice c.cp c.cl c.cc) (.slice (some ⟨w4.heap.size,0,none⟩) 1 1) (.slice a6 (c.cl+1) c6) w6 rfl rfl hrun ?_;refine hKK.out _ _ (hS6) (fun hHeld=>?_);clear hKK KK;try simp only[qzg,qzh,qzi,Act.put,qzs,qz0,qz1]
        refine tkg 18 ?_;refine rdy 19 (fun KK hKK=>?_);go_simp;refine hKK.out _ _ (hS7) (fun hHeld=>?_);clear hKK KK;try simp only[qzg,qzh,qzi,Act.put,qzs,qz0,qz1]
        refine Vp (by kernel_rfl) (Vj ?_) _;obtain⟨W7,hW7⟩:=exq (w6.setCell ⟨w.heap.size+1+1,1,none⟩ (.slice a6 (c.cl+1) c6));rw[hW7]at HG6 ⊢;clear hS0 hS4 hS5 hS6 hS7 hHeld q4 q5 hc6 hf6 hrun hW7;clear ev5 ev6 i1 i2 l1 l2 l3 l4;go_wp2;go_roundw;case rel=>exact⟨k+1,by omega,by omega,by go_num,_,HG6.out,by show c.cl+1=k+1;rw[Hcl.out],Hpl.out⟩
        simp[intOf];omega
    ·have hBt:B=false:=by
      rw[hB];by_cases h1:k<n
      ·have h2:¬k<64:=fun h=>hgo ⟨h1,h⟩
       simp[h2]
      ·simp[h1]
     subst hBt;clear hB;have Hgo:=hgo;have q1:wr.cell? ⟨w.heap.size+1+1,1,none⟩=some (.slice c.cp c.cl c.cc):=G.cell rfl;go_upto_if 95 with (fail);go_cut [] from 92 to 98 (fun wc=>Hid (∃c:Cfg,Cg w wc A c∧1≤c.cl∧c.cl≤64∧(n=0→c.cl=1)∧c.pl=0))
     case first =>
      by_cases hk0:k=0
      ·have hz':(c.cl:Int)=0:=by omega
       have f1:=G.free 1;have f1':(wr.alloc (.cells #[.string ⟨#[116,101,97]⟩,.int .i64 0,.int .i64 10,.int .i64 4] 115)).frozen? ⟨w.heap.size+1+1,1,none⟩=false:=(G.below ((Below.refl _ wr).alloc (Va _) _)).free 1;have q1':(wr.alloc (.cells #[.string ⟨#[116,101,97]⟩,.int .i64 0,.int .i64 10,.int .i64 4] 115)).cell? ⟨w.heap.size+1+1,1,none⟩=some (.slice c.cp c.cl c.cc):=(G.below ((Below.refl _ wr).alloc (Va _) _)).cell rfl
       have HI1:Hid (∃c:Cfg,Cg w ((wr.alloc (.cells #[.string ⟨#[116,101,97]⟩,.int .i64 0,.int .i64 10,.int .i64 4] 115)).setCell ⟨w.heap.size+1+1,1,none⟩ (.slice (some ⟨wr.heap.size,0,none⟩) 1 1)) A c∧1≤c.cl∧c.cl≤64∧(n=0→c.cl=1)∧c.pl=0):=by
        have G1:=G.below ((Below.refl _ wr).alloc (Va _) (.cells #[.string ⟨#[116,101,97]⟩,.int .i64 0,.int .i64 10,.int .i64 4] 115));exact⟨{ c with cp:=some ⟨wr.heap.size,0,none⟩,cl:=1,cc:=1 },G1.set 1 (.slice (some ⟨wr.heap.size,0,none⟩) 1 1) _ rfl rfl ⟨[⟨⟨#[116,101,97]⟩,0,10,4⟩],Qj0 rfl G.bel.size,rfl,fun y hy=>by simp at hy;subst hy;exact⟨by show (-9007199254740992:Int)≤0;omega,by show (0:Int)≤4;omega,by show (4:Int)≤10;omega,by show (10:Int)≤9007199254740992;omega⟩⟩ G1.rowp,Va _,by show 1≤64;omega,fun _=>rfl,hpl⟩
       clear G hcl hpl HI;go_wp2;go_meet;case rel=>exact HI1
      ·have hz':¬(c.cl:Int)=0:=by omega
       have HI1:Hid (∃c:Cfg,Cg w wr A c∧1≤c.cl∧c.cl≤64∧(n=0→c.cl=1)∧c.pl=0):=⟨c,G,by omega,by omega,fun h=>by omega,hpl⟩;clear G hcl hpl HI;go_wp2;go_meet;case rel=>exact HI1
     case rest =>
      have HI1:=hcut;clear hcut Hgo hgo q1 d1 G hcl hpl HI;clear c;generalize wc=wz at HI1 ⊢;clear wc wr;go_wp2;go_loopw [8] (fun i wr=>∃q:Nat,q≤m∧q≤64∧i=.int .i64 q∧Hid (∃c:Cfg,Cg w wr A c∧1≤c.cl∧c.cl≤64∧(n=0→c.cl=1)∧c.pl=q)) (fun i _=>m - (intOf i).toNat);case atStart=>exact⟨0,Vo _,Vo _,rfl,HI1⟩
      case round =>
       clear HI1;obtain⟨q,hq,hq64,rfl,HI⟩:=hrel;obtain⟨c,G,hcl1,hcl2,hcl3,hpl⟩:=HI.out;have d2:wr.cell? ⟨w.heap.size,2,none⟩=some (.slice pp m pc):=by rw[cRq G.conf];exact hA2
       by_cases hgo2:q<m∧q<64
       ·obtain⟨hqm,hq6⟩:=hgo2
        have hqm':(q:Int)<(m:Int):=by omega
        have hq6':(q:Int)<64:=by omega
        have hq0':(0:Int)≤(q:Int):=by omega
        obtain⟨y,hy⟩:∃y,ys[q]?=some y:=⟨_,gE (by omega)⟩;obtain⟨b,o,e,hb,hc⟩:=HPc.out.get (i:=q) (r:=[.int .i64 y]) (by simp[hy]);subst e;have hcy:=hc 0 _ rfl;rw[show o+q*1+0=o+q by omega]at hcy;go_upto_region 15 with (fail);have HG5:Hid (Cg w wr.drew A c):=G.below ((Below.refl _ wr).drew);have hS0:wr.drew.cell? ⟨w.heap.size,2,none⟩=some (.slice (some ⟨b,o,none⟩) m pc)∧wr.drew.cell? ⟨b,o+q,none⟩=some (.int .i64 y):=⟨d2,(HG5.out.bel.cell (p:=⟨b,o+q,none⟩) hb).trans hcy⟩;have hltA:w.heap.size<wr.drew.heap.size:=lt_of_block HG5.out.conf;have hltB:b<wr.drew.heap.size:=VL hb HG5.out.bel.size;have q0:wr.drew.cell? ⟨w.heap.size+1+1,2,none⟩=some (.slice c.pp c.pl c.pc):=HG5.out.cell rfl;have i1:(0:Int)<1099511627777:=by omega
        have i2:(1099511627777:Int)≤4611686018427387904:=by omega
        have HNm:=Qaa (QgJ wr.drew 112 q hq6);have HPb:Hid (QjU (Qcf 112 q,y % 1099511627777)):=⟨VK _ (by omega),by have h:=VE y (show (0:Int)<1099511627777 by omega);show y % 1099511627777≤1099511627776;omega⟩;have Hcl:=Qaa hpl;have Hc3:=Qaa (And.intro hcl1 (And.intro hcl2 hcl3));have hA2':A[2]?=some (.slice (some ⟨b,o,none⟩) m pc):=hA2;clear hc hy G HI hpl hcl1 hcl2 hcl3;refine Vi ?_;refine Vf (S:=fun w'=>w'.cell? ⟨w.heap.size,2,none⟩=some (.slice (some ⟨b,o,none⟩) m pc)∧w'.cell? ⟨b,o+q,none⟩=some (.int .i64 y)) (by kernel_rfl) hS0 (fun hHeld=>?_);refine tkg 0 ?_;refine tkg 2 ?_;refine tkg 4 ?_;refine tkg 5 ?_;refine tkg 6 ?_;refine tkg 7 ?_;refine tkg 8 ?_;refine VW (rs:=[1,3]) (by kernel_rfl) (by simp) ?_;refine AllReadyH.cons (o:=_) rfl (fun KK hKK=>?_) (AllReadyH.cons (o:=_) rfl (fun KK hKK=>?_) AllReadyH.nil)
        ·go_simp
         refine hKK.out _ _ (hS0) (fun hHeld=>?_);clear hKK KK;try simp only[qzg,qzh,qzi,Act.put,qzs,qz0,qz1]
         refine rdy 3 (fun KK hKK=>?_);go_simp
         (go_at_call 35;refine HNm.out.mono ?_;rintro e w4 ⟨rfl,hB4⟩)
         dsimp only;have hS4:=And.intro ((hB4.cell (p:=⟨w.heap.size,2,none⟩) hltA).trans hS0.1) ((hB4.cell (p:=⟨b,o+q,none⟩) hltB).trans hS0.2);have G4:=HG5.out.below hB4;have q4:w4.cell? ⟨w.heap.size+1+1,2,none⟩=some (.slice c.pp c.pl c.pc):=G4.cell rfl;have hB5:Below w4.heap.size w4 (w4.alloc (.cells #[.string (Qcf 112 q),.int .i64 (y % 1099511627777)] 117)):=(Below.refl _ w4).alloc (Va _) _;have hS5:=And.intro ((hB5.cell (p:=⟨w.heap.size,2,none⟩) (VL hltA hB4.size)).trans hS4.1) ((hB5.cell (p:=⟨b,o+q,none⟩) (VL hltB hB4.size)).trans hS4.2);have q5:=(G4.below hB5).cell (i:=2) (v:=(.slice c.pp c.pl c.pc)) rfl;obtain⟨a6,c6,w6,hrun,hc6,hf6,hk6,G6⟩:=HG5.out.putp hB4 (by have:=Hcl.out;omega) (Qcf 112 q,y % 1099511627777) HPb.out 32;dsimp only at hrun;have hS7:(fun w'=>w'.cell? ⟨w.heap.size,2,none⟩=some (.slice (some ⟨b,o,none⟩) m pc)∧w'.cell? ⟨b,o+q,none⟩=some (.int .i64 y)) (w6.setCell ⟨w.heap.size+1+1,2,none⟩ (.slice a6 (c.pl+1) c6)):=⟨by rw[cRq G6.conf];exact hA2',(G6.bel.cell (p:=⟨b,o+q,none⟩) hb).trans hcy⟩;have hS6:(fun w'=>w'.cell? ⟨w.heap.size,2,none⟩=some (.slice (some ⟨b,o,none⟩) m pc)∧w'.cell? ⟨b,o+q,none⟩=some (.int .i64 y)) w6:=⟨by rw[←VC (w:=w6) (w':=(w6.setCell ⟨w.heap.size+1+1,2,none⟩ (.slice a6 (c.pl+1) c6))) (Ve _ _ _ _ (by show w.heap.size≠w.heap.size+1+1;omega))];exact hS7.1,by rw[←VC (w:=w6) (w':=(w6.setCell ⟨w.heap.size+1+1,2,none⟩ (.slice a6 (c.pl+1) c6))) (Ve _ _ _ _ (by show b≠w.heap.size+1+1;omega))];exact hS7.2⟩;have HG6:=Qaa G6;clear G4 G6 hk6;refine hKK.out _ _ (hS4) (fun hHeld=>?_);clear hKK KK;try simp only[qzg,qzh,qzi,Act.put,qzs,qz0,qz1]
         refine rdy 9 (fun KK hKK=>?_);go_simp
         (go_at_call 34;refine(Qa7 _ _ _ (by assumption) (by assumption)).mono ?_;rintro e w9 ⟨rfl,h9⟩;rw[h9];clear h9 w9)
         dsimp only;refine hKK.out _ _ (hS4) (fun hHeld=>?_);clear hKK KK;try simp only[qzg,qzh,qzi,Act.put,qzs,qz0,qz1]
         refine tkg 10 ?_;refine rdy 11 (fun KK hKK=>?_);refine Qao (by kernel_rfl) ?_;refine wp_build_one 32 117 (.tmp 120) rfl #[.string (Qcf 112 q),.int .i64 (y % 1099511627777)] rfl 2 (by omega) (by omega) Tryz.underlying32 QcF rfl ?_;refine hKK.out _ _ (hS5) (fun hHeld=>?_);clear hKK KK;try simp only[qzg,qzh,qzi,Act.put,qzs,qz0,qz1]
         refine rdy 12 (fun KK hKK=>?_);refine Qao (by kernel_rfl) ?_;refine QaO (.tmp 111) (.tmp 121) 32 32 rfl (.slice c.pp c.pl c.pc) (.slice (some ⟨w4.heap.size,0,none⟩) 1 1) (.slice a6 (c.pl+1) c6) w6 rfl rfl hrun ?_;refine hKK.out _ _ (hS6) (fun hHeld=>?_);clear hKK KK;try simp only[qzg,qzh,qzi,Act.put,qzs,qz0,qz1]
         refine tkg 13 ?_;refine rdy 14 (fun KK hKK=>?_);go_simp;refine hKK.out _ _ (hS7) (fun hHeld=>?_);clear hKK KK;try simp only[qzg,qzh,qzi,Act.put,qzs,qz0,qz1]
         refine Vp (by kernel_rfl) (Vj ?_) _;obtain⟨W7,hW7⟩:=exq (w6.setCell ⟨w.heap.size+1+1,2,none⟩ (.slice a6 (c.pl+1) c6));rw[hW7]at HG6 ⊢;clear hS0 hS4 hS5 hS6 hS7 hHeld q4 q5 hc6 hf6 hrun hW7;clear i1 i2;go_wp2;go_roundw;case rel=>exact⟨q+1,by omega,by omega,by go_num,_,HG6.out,Hc3.out.1,Hc3.out.2.1,Hc3.out.2.2,by show c.pl+1=q+1;rw[Hcl.out]⟩
         simp[intOf];omega
        ·go_simp
         (go_at_call 35;refine HNm.out.mono ?_;rintro e w4 ⟨rfl,hB4⟩)
         dsimp only;have hS4:=And.intro ((hB4.cell (p:=⟨w.heap.size,2,none⟩) hltA).trans hS0.1) ((hB4.cell (p:=⟨b,o+q,none⟩) hltB).trans hS0.2);have G4:=HG5.out.below hB4;have q4:w4.cell? ⟨w.heap.size+1+1,2,none⟩=some (.slice c.pp c.pl c.pc):=G4.cell rfl;have hB5:Below w4.heap.size w4 (w4.alloc (.cells #[.string (Qcf 112 q),.int .i64 (y % 1099511627777)] 117)):=(Below.refl _ w4).alloc (Va _) _;have hS5:=And.intro ((hB5.cell (p:=⟨w.heap.size,2,none⟩) (VL hltA hB4.size)).trans hS4.1) ((hB5.cell (p:=⟨b,o+q,none⟩) (VL hltB hB4.size)).trans hS4.2);have q5:=(G4.below hB5).cell (i:=2) (v:=(.slice c.pp c.pl c.pc)) rfl;obtain⟨a6,c6,w6,hrun,hc6,hf6,hk6,G6⟩:=HG5.out.putp hB4 (by have:=Hcl.out;omega) (Qcf 112 q,y % 1099511627777) HPb.out 32;dsimp only at hrun;have hS7:(fun w'=>w'.cell? ⟨w.heap.size,2,none⟩=some (.slice (some ⟨b,o,none⟩) m pc)∧w'.cell? ⟨b,o+q,none⟩=some (.int .i64 y)) (w6.setCell ⟨w.heap.size+1+1,2,none⟩ (.slice a6 (c.pl+1) c6)):=⟨by rw[cRq G6.conf];exact hA2',(G6.bel.cell (p:=⟨b,o+q,none⟩) hb).trans hcy⟩;have hS6:(fun w'=>w'.cell? ⟨w.heap.size,2,none⟩=some (.slice (some ⟨b,o,none⟩) m pc)∧w'.cell? ⟨b,o+q,none⟩=some (.int .i64 y)) w6:=⟨by rw[←VC (w:=w6) (w':=(w6.setCell ⟨w.heap.size+1+1,2,none⟩ (.slice a6 (c.pl+1) c6))) (Ve _ _ _ _ (by show w.heap.size≠w.heap.size+1+1;omega))];exact hS7.1,by rw[←VC (w:=w6) (w':=(w6.setCell ⟨w.heap.size+1+1,2,none⟩ (.slice a6 (c.pl+1) c6))) (Ve _ _ _ _ (by show b≠w.heap.size+1+1;omega))];exact hS7.2⟩;have HG6:=Qaa G6;clear G4 G6 hk6;refine hKK.out _ _ (hS4) (fun hHeld=>?_);clear hKK KK;try simp only[qzg,qzh,qzi,Act.put,qzs,qz0,qz1]
         refine VW (rs:=[1,9]) (by kernel_rfl) (by simp) ?_;refine AllReadyH.cons (o:=_) rfl (fun KK hKK=>?_) (AllReadyH.cons (o:=_) rfl (fun KK hKK=>?_) AllReadyH.nil)
         ·go_simp
          refine hKK.out _ _ (hS4) (fun hHeld=>?_);clear hKK KK;try simp only[qzg,qzh,qzi,Act.put,qzs,qz0,qz1]
          refine rdy 9 (fun KK hKK=>?_);go_simp
          (go_at_call 34;refine(Qa7 _ _ _ (by assumption) (by assumption)).mono ?_;rintro e w9 ⟨rfl,h9⟩;rw[h9];clear h9 w9)
          dsimp only;refine hKK.out _ _ (hS4) (fun hHeld=>?_);clear hKK KK;try simp only[qzg,qzh,qzi,Act.put,qzs,qz0,qz1]
          refine tkg 10 ?_;refine rdy 11 (fun KK hKK=>?_);refine Qao (by kernel_rfl) ?_;refine wp_build_one 32 117 (.tmp 120) rfl #[.string (Qcf 112 q),.int .i64 (y % 1099511627777)] rfl 2 (by omega) (by omega) Tryz.underlying32 QcF rfl ?_;refine hKK.out _ _ (hS5) (fun hHeld=>?_);clear hKK KK;try simp only[qzg,qzh,qzi,Act.put,qzs,qz0,qz1]
          refine rdy 12 (fun KK hKK=>?_);refine Qao (by kernel_rfl) ?_;refine QaO (.tmp 111) (.tmp 121) 32 32 rfl (.slice c.pp c.pl c.pc) (.slice (some ⟨w4.heap.size,0,none⟩) 1 1) (.slice a6 (c.pl+1) c6) w6 rfl rfl hrun ?_;refine hKK.out _ _ (hS6) (fun hHeld=>?_);clear hKK KK;try simp only[qzg,qzh,qzi,Act.put,qzs,qz0,qz1]
          refine tkg 13 ?_;refine rdy 14 (fun KK hKK=>?_);go_simp;refine hKK.out _ _ (hS7) (fun hHeld=>?_);clear hKK KK;try simp only[qzg,qzh,qzi,Act.put,qzs,qz0,qz1]
          refine Vp (by kernel_rfl) (Vj ?_) _;obtain⟨W7,hW7⟩:=exq (w6.setCell ⟨w.heap.size+1+1,2,none⟩ (.slice a6 (c.pl+1) c6));rw[hW7]at HG6 ⊢;clear hS0 hS4 hS5 hS6 hS7 hHeld q4 q5 hc6 hf6 hrun hW7;clear i1 i2;go_wp2;go_roundw;case rel=>exact⟨q+1,by omega,by omega,by go_num,_,HG6.out,Hc3.out.1,Hc3.out.2.1,Hc3.out.2.2,by show c.pl+1=q+1;rw[Hcl.out]⟩
          simp[intOf];omega
         ·go_simp
          (go_at_call 34;refine(Qa7 _ _ _ (by assumption) (by assumption)).mono ?_;rintro e w9 ⟨rfl,h9⟩;rw[h9];clear h9 w9)
          dsimp only;refine hKK.out _ _ (hS4) (fun hHeld=>?_);clear hKK KK;try simp only[qzg,qzh,qzi,Act.put,qzs,qz0,qz1]
          refine tkg 10 ?_;refine VW (rs:=[1,11]) (by kernel_rfl) (by simp) ?_;refine AllReadyH.cons (o:=_) rfl (fun KK hKK=>?_) (AllReadyH.cons (o:=_) rfl (fun KK hKK=>?_) AllReadyH.nil)
          ·go_simp
           refine hKK.out _ _ (hS4) (fun hHeld=>?_);clear hKK KK;try simp only[qzg,qzh,qzi,Act.put,qzs,qz0,qz1]
           refine rdy 11 (fun KK hKK=>?_);refine Qao (by kernel_rfl) ?_;refine wp_build_one 32 117 (.tmp 120) rfl #[.string (Qcf 112 q),.int .i64 (y % 1099511627777)] rfl 2 (by omega) (by omega) Tryz.underlying32 QcF rfl ?_;refine hKK.out _ _ (hS5) (fun hHeld=>?_);clear hKK KK;try simp only[qzg,qzh,qzi,Act.put,qzs,qz0,qz1]
           refine rdy 12 (fun KK hKK=>?_);refine Qao (by kernel_rfl) ?_;refine QaO (.tmp 111) (.tmp 121) 32 32 rfl (.slice c.pp c.pl c.pc) (.slice (some ⟨w4.heap.size,0,none⟩) 1 1) (.slice a6 (c.pl+1) c6) w6 rfl rfl hrun ?_;refine hKK.out _ _ (hS6) (fun hHeld=>?_);clear hKK KK;try simp only[qzg,qzh,qzi,Act.put,qzs,qz0,qz1]
           refine tkg 13 ?_;refine rdy 14 (fun KK hKK=>?_);go_simp;refine hKK.out _ _ (hS7) (fun hHeld=>?_);clear hKK KK;try simp only[qzg,qzh,qzi,Act.put,qzs,qz0,qz1]
           refine Vp (by kernel_rfl) (Vj ?_) _;obtain⟨W7,hW7⟩:=exq (w6.setCell ⟨w.heap.size+1+1,2,none⟩ (.slice a6 (c.pl+1) c6));rw[hW7]at HG6 ⊢;clear hS0 hS4 hS5 hS6 hS7 hHeld q4 q5 hc6 hf6 hrun hW7;clear i1 i2;go_wp2;go_roundw;case rel=>exact⟨q+1,by omega,by omega,by go_num,_,HG6.out,Hc3.out.1,Hc3.out.2.1,Hc3.out.2.2,by show c.pl+1=q+1;rw[Hcl.out]⟩
           simp[intOf];omega
          ·refine Qao (by kernel_rfl) ?_
           refine wp_build_one 32 117 (.tmp 120) rfl #[.string (Qcf 112 q),.int .i64 (y % 1099511627777)] rfl 2 (by omega) (by omega) Tryz.underlying32 QcF rfl ?_;refine hKK.out _ _ (hS5) (fun hHeld=>?_);clear hKK KK;try simp only[qzg,qzh,qzi,Act.put,qzs,qz0,qz1]
           refine rdy 1 (fun KK hKK=>?_);go_simp;refine hKK.out _ _ (hS5) (fun hHeld=>?_);clear hKK KK;try simp only[qzg,qzh,qzi,Act.put,qzs,qz0,qz1]
           refine rdy 12 (fun KK hKK=>?_);refine Qao (by kernel_rfl) ?_;refine QaO (.tmp 111) (.tmp 121) 32 32 rfl (.slice c.pp c.pl c.pc) (.slice (some ⟨w4.heap.size,0,none⟩) 1 1) (.slice a6 (c.pl+1) c6) w6 rfl rfl hrun ?_;refine hKK.out _ _ (hS6) (fun hHeld=>?_);clear hKK KK;try simp only[qzg,qzh,qzi,Act.put,qzs,qz0,qz1]
           refine tkg 13 ?_;refine rdy 14 (fun KK hKK=>?_);go_simp;refine hKK.out _ _ (hS7) (fun hHeld=>?_);clear hKK KK;try simp only[qzg,qzh,qzi,Act.put,qzs,qz0,qz1]
           refine Vp (by kernel_rfl) (Vj ?_) _;obtain⟨W7,hW7⟩:=exq (w6.setCell ⟨w.heap.size+1+1,2,none⟩ (.slice a6 (c.pl+1) c6));rw[hW7]at HG6 ⊢;clear hS0 hS4 hS5 hS6 hS7 hHeld q4 q5 hc6 hf6 hrun hW7;clear i1 i2;go_wp2;go_roundw;case rel=>exact⟨q+1,by omega,by omega,by go_num,_,HG6.out,Hc3.out.1,Hc3.out.2.1,Hc3.out.2.2,by show c.pl+1=q+1;rw[Hcl.out]⟩
           simp[intOf];omega
       ·have HLX:=Qaa (lr34 G.cfg sizeC)
        have HSX:=Qaa (storeAt_row (P:=Tryz.prog) (c':=c.arr) G.res sizeC rfl (cfg_ones c));have HGe:=Qaa G;have HGp:Hid (c.pl≤64):=by show _≤_;omega
        have HGf:=Qaa (And.intro hcl1 (And.intro hcl2 hcl3));clear G hcl1 hcl2 hcl3 HI;by_cases hqm:q<m
        ·have hqm':(q:Int)<(m:Int):=by omega
         have hq6':¬(q:Int)<64:=by omega
         go_wp2_with (
          first
          | ((with_reducible refine glq 34 3 ?_);refine lp_load (w.heap.size+1+1) 0 c.arr rfl HLX.out ?_)
          | ((with_reducible refine gsq 34 2 ?_);refine lp_store (t:=34) (x:=.tmp 2) (some ⟨w.heap.size+1,0,none⟩) (.agg c.arr) rfl rfl HSX.out ?_))
         refine bq rfl rfl (VB _ _ _ _ _ _ HGe.out.res) Tryz.underlying34 rfl sizeC rfl ?_;exact⟨c,rfl,HGf.out.1,HGf.out.2.1,fun h=>HGf.out.2.2 (by rw[←Hn.out];exact h),HGe.out.made HA.out HGp.out,VA HGe.out.bel (by omega) c.arr⟩
        ·have hqm':¬(q:Int)<(m:Int):=by omega
         go_wp2_with (
          first
          | ((with_reducible refine glq 34 3 ?_);refine lp_load (w.heap.size+1+1) 0 c.arr rfl HLX.out ?_)
          | ((with_reducible refine gsq 34 2 ?_);refine lp_store (t:=34) (x:=.tmp 2) (some ⟨w.heap.size+1,0,none⟩) (.agg c.arr) rfl rfl HSX.out ?_))
         refine bq rfl rfl (VB _ _ _ _ _ _ HGe.out.res) Tryz.underlying34 rfl sizeC rfl ?_;exact⟨c,rfl,HGf.out.1,HGf.out.2.1,fun h=>HGf.out.2.2 (by rw[←Hn.out];exact h),HGe.out.made HA.out HGp.out,VA HGe.out.bel (by omega) c.arr⟩
end Go.Proofs.YtiogibfhafoapaaGreat.Z
