import Derived.Laws.ResultCell
import Derived.Test.YtiogibfhafoapaaGreatRbA
set_option maxRecDepth 100000
set_option maxHeartbeats 8000000
set_option linter.unusedSimpArgs false
set_option linter.unusedVariables false
namespace Go.Proofs.YtiogibfhafoapaaGreat
open Go.RowKit
theorem QcE {fn:Func} {p u:Tmp} {ty:TypeId} (h:fn.results=#[.cell p ty,.tmp u]) (tmps:Array Value) (w:World) (g:Nat) (cs:Array Value)
  (hp:tmps.getD p undef=.pointer (some ⟨g,0,none⟩)) (hl:(loadVar ty ⟨g,0,none⟩).run Tryz.prog w=.ok (.agg cs) w) :
  (results fn tmps).run Tryz.prog w=.ok (.tuple #[.agg cs,tmps.getD u undef]) w:=by
 rw[results_cell_tmp h,hp];simp[asAddr,hl]
theorem ac4 {w:World} {b:Nat} {x0 x1 x2 x3:Value} {t:TypeId} (h:w.heap[b]?=some (.cells #[x0,x1,x2,x3] t (0,0))) :
  w.cell? ⟨b,0,none⟩=some x0∧w.cell? ⟨b,1,none⟩=some x1∧w.cell? ⟨b,2,none⟩=some x2∧w.cell? ⟨b,3,none⟩=some x3 :=
 ⟨by simp[World.cell?,h],by simp[World.cell?,h],by simp[World.cell?,h],by simp[World.cell?,h]⟩
theorem QhU (w:World) (P:Nat) (i0 i1 i2:Int) (s:Option Addr) (l c:Nat) (h:w.heap[P]?=some (.cells #[.int .i64 i0,.int .i64 i1,.int .i64 i2,.slice s l c] 121 (0,0))) :
  Calls Tryz.prog 101 #[.slice (some ⟨P,0,none⟩) 1 1,.int .i64 0] w fun e w'=>e=.returned (.tuple #[.agg #[.int .i64 i0,.int .i64 i1,.int .i64 i2,.slice s l c],.bool true])∧Below w.heap.size w w':=by
 have hlt:=Qab h;obtain⟨w1,hw1⟩:=exq (w.alloc (.cells #[.int .i64 0,.int .i64 0,.int .i64 0,.slice none 0 0] 121));have hB:Below w.heap.size w w1:=by rw[←hw1];exact bR.alloc (Va _) _
 have hb:w1.heap[w.heap.size]?=some (.cells #[.int .i64 0,.int .i64 0,.int .i64 0,.slice none 0 0] 121 (0,0)):=by rw[←hw1];exact hNq _ _
 obtain⟨c0,c1,c2,c3⟩:=ac4 ((hB.block P hlt).trans h);obtain⟨d0,d1,d2,d3⟩:=ac4 hb;have cf:=RB.bk_thaw hb;obtain⟨HB,HW1,HBb⟩:=Qmk hB hw1 hb;clear hB hw1 hb h;go_enter Tryz.func101,Tryz.ntmps101;go_upto_region 1 with (fail);rw[HW1.out];go_wp2;refine Vg (QcE rfl _ _ w.heap.size #[.int .i64 i0,.int .i64 i1,.int .i64 i2,.slice s l c] rfl (run_loadVar_row _ _ 121 _ #[.int .i64 i0,.int .i64 i1,.int .i64 i2,.slice s l c] (0,0) _ (by rw[RB.block_set (RB.block_set (RB.block_set (RB.block_set HBb.out _) _) _) _];rfl) Tryz.underlying121 rfl (by kernel_rfl))) rfl ?_;exact⟨rfl,(((HB.out.setCell (p:=⟨w.heap.size,0,none⟩) (Va _) _).setCell (p:=⟨w.heap.size,1,none⟩) (Va _) _).setCell (p:=⟨w.heap.size,2,none⟩) (Va _) _).setCell (p:=⟨w.heap.size,3,none⟩) (Va _) _⟩
theorem QhS (w:World) (P:Nat) (i0 i1:Int) (h:w.heap[P]?=some (.cells #[.int .i64 i0,.int .i64 i1] 118 (0,0))) :
  Calls Tryz.prog 178 #[.slice (some ⟨P,0,none⟩) 1 1,.int .i64 0] w fun e w'=>e=.returned (.tuple #[.agg #[.int .i64 i0,.int .i64 i1],.bool true])∧Below w.heap.size w w':=by
 have hlt:=Qab h;obtain⟨w1,hw1⟩:=exq (w.alloc (.cells #[.int .i64 0,.int .i64 0] 118));have hB:Below w.heap.size w w1:=by rw[←hw1];exact bR.alloc (Va _) _
 have hb:w1.heap[w.heap.size]?=some (.cells #[.int .i64 0,.int .i64 0] 118 (0,0)):=by rw[←hw1];exact hNq _ _
 obtain⟨c0,c1⟩:=ac2 ((hB.block P hlt).trans h);obtain⟨d0,d1⟩:=ac2 hb;have cf:=RB.bk_thaw hb;obtain⟨HB,HW1,HBb⟩:=Qmk hB hw1 hb;clear hB hw1 hb h;go_enter Tryz.func178,Tryz.ntmps178;go_upto_region 1 with (fail);rw[HW1.out];go_wp2;refine Vg (QcE rfl _ _ w.heap.size #[.int .i64 i0,.int .i64 i1] rfl (run_loadVar_row _ _ 118 _ #[.int .i64 i0,.int .i64 i1] (0,0) _ (by rw[RB.block_set (RB.block_set HBb.out _) _];rfl) Tryz.underlying118 rfl (by kernel_rfl))) rfl ?_;exact⟨rfl,(HB.out.setCell (p:=⟨w.heap.size,0,none⟩) (Va _) _).setCell (p:=⟨w.heap.size,1,none⟩) (Va _) _⟩
theorem Qfg (w:World) (P:Nat) (i0 i1:Int) (h:w.heap[P]?=some (.cells #[.int .i64 i0,.int .i64 i1] 118 (0,0))) :
  Calls Tryz.prog 177 #[.slice (some ⟨P,0,none⟩) 2 2,.int .i64 0] w fun e w'=>e=.returned (.tuple #[.int .i64 i0,.bool true])∧w'=w:=by
 obtain⟨c0,c1⟩:=ac2 h;clear h;go_enter Tryz.func177,Tryz.ntmps177;go_wp2;refine Vg (v:=.tuple #[.int .i64 i0,.bool true]) (by simp[results,Tryz.results177,go_sem]) rfl ?_;exact⟨rfl,rfl⟩
structure Pl where
 v:Int
 f0:Int
 f1:Int
 hp:Option Addr
 hl:Nat
 hc:Nat
 hs:List Lin
def plc (x:Pl):List Value:=[.int .i64 x.v,.int .i64 x.f0,.int .i64 x.f1,.slice x.hp x.hl x.hc]
def pl0:Pl:=⟨0,0,0,none,0,0,[]⟩
def Qba {α:Type} (l:List α) (i:Int):Bool:=decide (0≤i∧i<l.length)
def Qai {α:Type} (l:List α) (z:α) (i:Int):α:=if 0≤i then l.getD i.toNat z else z
theorem Qbe {α:Type} {l:List α} {z x:α} {k:Nat} (h:l[k]?=some x):Qba l (k:Int)=true∧Qai l z (k:Int)=x:=by
 have hk:=(Vd.1 h).1;constructor
 ·simp[Qba];omega
 ·simp[Qai,h]
theorem Qcj {α:Type} {l:List α} {z:α} {i:Int} (h:i<0∨(l.length:Int)≤i):Qba l i=false∧Qai l z i=z:=by
 constructor
 ·simp[Qba];omega
 ·unfold Qai
  split
  ·rcases h with h | h
   ·omega
   ·simp[List.getElem?_eq_none (show l.length≤i.toNat by omega)]
  ·rfl
theorem Qdv {α:Type} (l:List α) (n:Nat) (hn:l.length=n) (i:Int):(i<0)∨(¬i<0∧(n:Int)≤i)∨(∃(k:Nat) (x:α),i=(k:Int)∧k<n∧l[k]?=some x):=by
 by_cases h:i<0
 ·exact Or.inl h
 ·by_cases h2:(n:Int)≤i
  ·exact Or.inr (Or.inl ⟨h,h2⟩)
  ·refine Or.inr (Or.inr ⟨i.toNat,l[i.toNat]'(by omega),by omega,by omega,gE _⟩)
theorem Qde (w:World) (p:Option Addr) (n c:Nat) (ps:List Pl) (hn:ps.length=n) (hc:Cel w p 4 (ps.map plc)) (i:Int) :
  Calls Tryz.prog 101 #[.slice p n c,.int .i64 i] w fun e w'=>e=.returned (.tuple #[.agg (plc (Qai ps pl0 i)).toArray,.bool (Qba ps i)])∧Below w.heap.size w w':=by
 obtain⟨w1,hw1⟩:=exq (w.alloc (.cells #[.int .i64 0,.int .i64 0,.int .i64 0,.slice none 0 0] 121));have hB:Below w.heap.size w w1:=by rw[←hw1];exact bR.alloc (Va _) _
 have hb:w1.heap[w.heap.size]?=some (.cells #[.int .i64 0,.int .i64 0,.int .i64 0,.slice none 0 0] 121 (0,0)):=by rw[←hw1];exact hNq _ _
 obtain⟨w2,hw2⟩:=exq (w1.alloc (.cells #[.int .i64 0,.int .i64 0,.int .i64 0,.slice none 0 0] 121));have HB2:Hid (Below w.heap.size w w2):=by show Below _ _ _;rw[←hw2];exact hB.alloc hB.size _
 have hbc:w2.heap[w.heap.size]?=some (.cells #[.int .i64 0,.int .i64 0,.int .i64 0,.slice none 0 0] 121 (0,0)):=by rw[←hw2];exact(Vc _ _ _ (Qab hb)).trans hb
 have HG:=Qaa (ac4 (show w2.heap[w1.heap.size]?=some (.cells #[.int .i64 0,.int .i64 0,.int .i64 0,.slice none 0 0] 121 (0,0)) by rw[←hw2];exact hNq _ _));have HD:=Qaa (ac4 hbc);obtain⟨HBc,HW2⟩:=Qmj hbc hw2;obtain⟨d0,d1,d2,d3⟩:=ac4 hb;have cf:=RB.bk_thaw hb;obtain⟨HB,HW1,HBb⟩:=Qmk hB hw1 hb;have HC:=Qaa (hc.below hB);have HN:=Qaa hn;clear hbc hw2;rcases Qdv ps n hn i with h | ⟨h,h2⟩ | ⟨k,x,rfl,hk,hx⟩
 ·skip
  obtain⟨e1,e2⟩:=Qcj (l:=ps) (z:=pl0) (i:=i) (Or.inl h);have HE:=Qaa (And.intro e1 e2);clear e1 e2 hB hw1 hb hc hn;go_enter Tryz.func101,Tryz.ntmps101;go_upto_region 1 with (fail);rw[HW1.out];clear d0 d1 d2 d3 cf;go_upto_region 3 with (fail);rw[HW2.out];have cf:=RB.bk_thaw HBc.out;obtain⟨d0,d1,d2,d3⟩:=HD.out;obtain⟨g0,g1,g2,g3⟩:=HG.out;go_wp2;refine Vg (QcE rfl _ _ w.heap.size #[.int .i64 0,.int .i64 0,.int .i64 0,.slice none 0 0] rfl (run_loadVar_row _ _ 121 _ #[.int .i64 0,.int .i64 0,.int .i64 0,.slice none 0 0] (0,0) _ (by rw[RB.block_set (RB.block_set (RB.block_set (RB.block_set HBc.out _) _) _) _];rfl) Tryz.underlying121 rfl (by kernel_rfl))) rfl ?_;rw[HE.out.1,HE.out.2];exact⟨rfl,(((HB2.out.setCell (p:=⟨w.heap.size,0,none⟩) (Va _) _).setCell (p:=⟨w.heap.size,1,none⟩) (Va _) _).setCell (p:=⟨w.heap.size,2,none⟩) (Va _) _).setCell (p:=⟨w.heap.size,3,none⟩) (Va _) _⟩
 ·skip
  obtain⟨e1,e2⟩:=Qcj (l:=ps) (z:=pl0) (i:=i) (Or.inr (by rw[hn];exact h2));have HE:=Qaa (And.intro e1 e2);clear e1 e2 hB hw1 hb hc hn;go_enter Tryz.func101,Tryz.ntmps101;go_upto_region 1 with (fail);rw[HW1.out];clear d0 d1 d2 d3 cf;go_upto_region 3 with (fail);rw[HW2.out];have cf:=RB.bk_thaw HBc.out;obtain⟨d0,d1,d2,d3⟩:=HD.out;obtain⟨g0,g1,g2,g3⟩:=HG.out;go_wp2;refine Vg (QcE rfl _ _ w.heap.size #[.int .i64 0,.int .i64 0,.int .i64 0,.slice none 0 0] rfl (run_loadVar_row _ _ 121 _ #[.int .i64 0,.int .i64 0,.int .i64 0,.slice none 0 0] (0,0) _ (by rw[RB.block_set (RB.block_set (RB.block_set (RB.block_set HBc.out _) _) _) _];rfl) Tryz.underlying121 rfl (by kernel_rfl))) rfl ?_;rw[HE.out.1,HE.out.2];exact⟨rfl,(((HB2.out.setCell (p:=⟨w.heap.size,0,none⟩) (Va _) _).setCell (p:=⟨w.heap.size,1,none⟩) (Va _) _).setCell (p:=⟨w.heap.size,2,none⟩) (Va _) _).setCell (p:=⟨w.heap.size,3,none⟩) (Va _) _⟩
 ·obtain⟨e1,e2⟩:=Qbe (z:=pl0) hx
  have HE:=Qaa (And.intro e1 e2);obtain⟨b,o,rfl,hbl,hcl⟩:=HC.out.get (i:=k) (r:=plc x) (by rw[Vb,hx];rfl);obtain⟨xv,x0,x1,xp,xl,xc,xs⟩:=x;have c0:=hcl 0 _ rfl;have c1:=hcl 1 _ rfl;have c2:=hcl 2 _ rfl;have c3:=hcl 3 _ rfl;rw[Vr]at c0;have hk':(k:Int)<(n:Int):=by omega
  have k0':¬(k:Int)<0:=by omega
  clear e1 e2 hB hw1 hb hc hn hcl hx HW2 HBc HD HG HB2;go_enter Tryz.func101,Tryz.ntmps101;go_upto_region 1 with (fail);rw[HW1.out];go_wp2;refine Vg (QcE rfl _ _ w.heap.size #[.int .i64 xv,.int .i64 x0,.int .i64 x1,.slice xp xl xc] rfl (run_loadVar_row _ _ 121 _ #[.int .i64 xv,.int .i64 x0,.int .i64 x1,.slice xp xl xc] (0,0) _ (by rw[RB.block_set (RB.block_set (RB.block_set (RB.block_set HBb.out _) _) _) _];rfl) Tryz.underlying121 rfl (by kernel_rfl))) rfl ?_;rw[HE.out.1,HE.out.2];exact⟨rfl,(((HB.out.setCell (p:=⟨w.heap.size,0,none⟩) (Va _) _).setCell (p:=⟨w.heap.size,1,none⟩) (Va _) _).setCell (p:=⟨w.heap.size,2,none⟩) (Va _) _).setCell (p:=⟨w.heap.size,3,none⟩) (Va _) _⟩
theorem Qh1 (w:World) (p:Option Addr) (n c:Nat) (ps:List Lin) (hn:ps.length=n) (hc:Cel w p 2 (ps.map Qal)) (i:Int) :
  Calls Tryz.prog 178 #[.slice p n c,.int .i64 i] w fun e w'=>e=.returned (.tuple #[.agg (Qal (Qai ps ⟨0,0⟩ i)).toArray,.bool (Qba ps i)])∧Below w.heap.size w w':=by
 obtain⟨w1,hw1⟩:=exq (w.alloc (.cells #[.int .i64 0,.int .i64 0] 118));have hB:Below w.heap.size w w1:=by rw[←hw1];exact bR.alloc (Va _) _
 have hb:w1.heap[w.heap.size]?=some (.cells #[.int .i64 0,.int .i64 0] 118 (0,0)):=by rw[←hw1];exact hNq _ _
 obtain⟨w2,hw2⟩:=exq (w1.alloc (.cells #[.int .i64 0,.int .i64 0] 118));have HB2:Hid (Below w.heap.size w w2):=by show Below _ _ _;rw[←hw2];exact hB.alloc hB.size _
 have hbc:w2.heap[w.heap.size]?=some (.cells #[.int .i64 0,.int .i64 0] 118 (0,0)):=by rw[←hw2];exact(Vc _ _ _ (Qab hb)).trans hb
 have HG:=Qaa (ac2 (show w2.heap[w1.heap.size]?=some (.cells #[.int .i64 0,.int .i64 0] 118 (0,0)) by rw[←hw2];exact hNq _ _));have HD:=Qaa (ac2 hbc);obtain⟨HBc,HW2⟩:=Qmj hbc hw2;obtain⟨d0,d1⟩:=ac2 hb;have cf:=RB.bk_thaw hb;obtain⟨HB,HW1,HBb⟩:=Qmk hB hw1 hb;have HC:=Qaa (hc.below hB);have HN:=Qaa hn;clear hbc hw2;rcases Qdv ps n hn i with h | ⟨h,h2⟩ | ⟨k,x,rfl,hk,hx⟩
 ·skip
  obtain⟨e1,e2⟩:=Qcj (l:=ps) (z:=⟨0,0⟩) (i:=i) (Or.inl h);have HE:=Qaa (And.intro e1 e2);clear e1 e2 hB hw1 hb hc hn;go_enter Tryz.func178,Tryz.ntmps178;go_upto_region 1 with (fail);rw[HW1.out];clear d0 d1 cf;go_upto_region 3 with (fail);rw[HW2.out];have cf:=RB.bk_thaw HBc.out;obtain⟨d0,d1⟩:=HD.out;obtain⟨g0,g1⟩:=HG.out;go_wp2;refine Vg (QcE rfl _ _ w.heap.size #[.int .i64 0,.int .i64 0] rfl (run_loadVar_row _ _ 118 _ #[.int .i64 0,.int .i64 0] (0,0) _ (by rw[RB.block_set (RB.block_set HBc.out _) _];rfl) Tryz.underlying118 rfl (by kernel_rfl))) rfl ?_;rw[HE.out.1,HE.out.2];exact⟨rfl,(HB2.out.setCell (p:=⟨w.heap.size,0,none⟩) (Va _) _).setCell (p:=⟨w.heap.size,1,none⟩) (Va _) _⟩
 ·skip
  obtain⟨e1,e2⟩:=Qcj (l:=ps) (z:=⟨0,0⟩) (i:=i) (Or.inr (by rw[hn];exact h2));have HE:=Qaa (And.intro e1 e2);clear e1 e2 hB hw1 hb hc hn;go_enter Tryz.func178,Tryz.ntmps178;go_upto_region 1 with (fail);rw[HW1.out];clear d0 d1 cf;go_upto_region 3 with (fail);rw[HW2.out];have cf:=RB.bk_thaw HBc.out;obtain⟨d0,d1⟩:=HD.out;obtain⟨g0,g1⟩:=HG.out;go_wp2;refine Vg (QcE rfl _ _ w.heap.size #[.int .i64 0,.int .i64 0] rfl (run_loadVar_row _ _ 118 _ #[.int .i64 0,.int .i64 0] (0,0) _ (by rw[RB.block_set (RB.block_set HBc.out _) _];rfl) Tryz.underlying118 rfl (by kernel_rfl))) rfl ?_;rw[HE.out.1,HE.out.2];exact⟨rfl,(HB2.out.setCell (p:=⟨w.heap.size,0,none⟩) (Va _) _).setCell (p:=⟨w.heap.size,1,none⟩) (Va _) _⟩
 ·obtain⟨e1,e2⟩:=Qbe (z:=⟨0,0⟩) hx
  have HE:=Qaa (And.intro e1 e2);obtain⟨b,o,rfl,hbl,hcl⟩:=HC.out.get (i:=k) (r:=Qal x) (by rw[Vb,hx];rfl);obtain⟨xc,xn⟩:=x;have c0:=hcl 0 _ rfl;have c1:=hcl 1 _ rfl;rw[Vr]at c0;have hk':(k:Int)<(n:Int):=by omega
  have k0':¬(k:Int)<0:=by omega
  clear e1 e2 hB hw1 hb hc hn hcl hx HW2 HBc HD HG HB2;go_enter Tryz.func178,Tryz.ntmps178;go_upto_region 1 with (fail);rw[HW1.out];go_wp2;refine Vg (QcE rfl _ _ w.heap.size #[.int .i64 xc,.int .i64 xn] rfl (run_loadVar_row _ _ 118 _ #[.int .i64 xc,.int .i64 xn] (0,0) _ (by rw[RB.block_set (RB.block_set HBb.out _) _];rfl) Tryz.underlying118 rfl (by kernel_rfl))) rfl ?_;rw[HE.out.1,HE.out.2];exact⟨rfl,(HB.out.setCell (p:=⟨w.heap.size,0,none⟩) (Va _) _).setCell (p:=⟨w.heap.size,1,none⟩) (Va _) _⟩
theorem Qb6 (w:World) (p:Option Addr) (n c:Nat) (ps:List Lin) (hn:ps.length=n) (hc:Cel w p 2 (ps.map Qal)) (i:Int) :
  Calls Tryz.prog 100 #[.slice p n c,.int .i64 i] w fun e w'=>e=.returned (.tuple #[.agg (Qal (Qai ps ⟨0,0⟩ i)).toArray,.bool (Qba ps i)])∧Below w.heap.size w w':=by
 obtain⟨w1,hw1⟩:=exq (w.alloc (.cells #[.int .i64 0,.int .i64 0] 123));have hB:Below w.heap.size w w1:=by rw[←hw1];exact bR.alloc (Va _) _
 have hb:w1.heap[w.heap.size]?=some (.cells #[.int .i64 0,.int .i64 0] 123 (0,0)):=by rw[←hw1];exact hNq _ _
 obtain⟨w2,hw2⟩:=exq (w1.alloc (.cells #[.int .i64 0,.int .i64 0] 123));have HB2:Hid (Below w.heap.size w w2):=by show Below _ _ _;rw[←hw2];exact hB.alloc hB.size _
 have hbc:w2.heap[w.heap.size]?=some (.cells #[.int .i64 0,.int .i64 0] 123 (0,0)):=by rw[←hw2];exact(Vc _ _ _ (Qab hb)).trans hb
 have HG:=Qaa (ac2 (show w2.heap[w1.heap.size]?=some (.cells #[.int .i64 0,.int .i64 0] 123 (0,0)) by rw[←hw2];exact hNq _ _));have HD:=Qaa (ac2 hbc);obtain⟨HBc,HW2⟩:=Qmj hbc hw2;obtain⟨d0,d1⟩:=ac2 hb;have cf:=RB.bk_thaw hb;obtain⟨HB,HW1,HBb⟩:=Qmk hB hw1 hb;have HC:=Qaa (hc.below hB);have HN:=Qaa hn;clear hbc hw2;rcases Qdv ps n hn i with h | ⟨h,h2⟩ | ⟨k,x,rfl,hk,hx⟩
 ·skip
  obtain⟨e1,e2⟩:=Qcj (l:=ps) (z:=⟨0,0⟩) (i:=i) (Or.inl h);have HE:=Qaa (And.intro e1 e2);clear e1 e2 hB hw1 hb hc hn;go_enter Tryz.func100,Tryz.ntmps100;go_upto_region 1 with (fail);rw[HW1.out];clear d0 d1 cf;go_upto_region 3 with (fail);rw[HW2.out];have cf:=RB.bk_thaw HBc.out;obtain⟨d0,d1⟩:=HD.out;obtain⟨g0,g1⟩:=HG.out;go_wp2;refine Vg (QcE rfl _ _ w.heap.size #[.int .i64 0,.int .i64 0] rfl (run_loadVar_row _ _ 123 _ #[.int .i64 0,.int .i64 0] (0,0) _ (by rw[RB.block_set (RB.block_set HBc.out _) _];rfl) Tryz.underlying123 rfl (by kernel_rfl))) rfl ?_;rw[HE.out.1,HE.out.2];exact⟨rfl,(HB2.out.setCell (p:=⟨w.heap.size,0,none⟩) (Va _) _).setCell (p:=⟨w.heap.size,1,none⟩) (Va _) _⟩
 ·skip
  obtain⟨e1,e2⟩:=Qcj (l:=ps) (z:=⟨0,0⟩) (i:=i) (Or.inr (by rw[hn];exact h2));have HE:=Qaa (And.intro e1 e2);clear e1 e2 hB hw1 hb hc hn;go_enter Tryz.func100,Tryz.ntmps100;go_upto_region 1 with (fail);rw[HW1.out];clear d0 d1 cf;go_upto_region 3 with (fail);rw[HW2.out];have cf:=RB.bk_thaw HBc.out;obtain⟨d0,d1⟩:=HD.out;obtain⟨g0,g1⟩:=HG.out;go_wp2;refine Vg (QcE rfl _ _ w.heap.size #[.int .i64 0,.int .i64 0] rfl (run_loadVar_row _ _ 123 _ #[.int .i64 0,.int .i64 0] (0,0) _ (by rw[RB.block_set (RB.block_set HBc.out _) _];rfl) Tryz.underlying123 rfl (by kernel_rfl))) rfl ?_;rw[HE.out.1,HE.out.2];exact⟨rfl,(HB2.out.setCell (p:=⟨w.heap.size,0,none⟩) (Va _) _).setCell (p:=⟨w.heap.size,1,none⟩) (Va _) _⟩
 ·obtain⟨e1,e2⟩:=Qbe (z:=⟨0,0⟩) hx
  have HE:=Qaa (And.intro e1 e2);obtain⟨b,o,rfl,hbl,hcl⟩:=HC.out.get (i:=k) (r:=Qal x) (by rw[Vb,hx];rfl);obtain⟨xc,xn⟩:=x;have c0:=hcl 0 _ rfl;have c1:=hcl 1 _ rfl;rw[Vr]at c0;have hk':(k:Int)<(n:Int):=by omega
  have k0':¬(k:Int)<0:=by omega
  clear e1 e2 hB hw1 hb hc hn hcl hx HW2 HBc HD HG HB2;go_enter Tryz.func100,Tryz.ntmps100;go_upto_region 1 with (fail);rw[HW1.out];go_wp2;refine Vg (QcE rfl _ _ w.heap.size #[.int .i64 xc,.int .i64 xn] rfl (run_loadVar_row _ _ 123 _ #[.int .i64 xc,.int .i64 xn] (0,0) _ (by rw[RB.block_set (RB.block_set HBb.out _) _];rfl) Tryz.underlying123 rfl (by kernel_rfl))) rfl ?_;rw[HE.out.1,HE.out.2];exact⟨rfl,(HB.out.setCell (p:=⟨w.heap.size,0,none⟩) (Va _) _).setCell (p:=⟨w.heap.size,1,none⟩) (Va _) _⟩
def Sv (P A B C:Nat):Value:=.agg #[.int .u64 0,.slice (some ⟨P,0,none⟩) 1 1,.slice none 0 0,.slice (some ⟨A,0,none⟩) 1 1,.slice (some ⟨B,0,none⟩) 1 1,.slice (some ⟨C,0,none⟩) 1 1]
structure Sok (w:World) (P H:Nat):Prop where
 pool:w.heap[P]?=some (.cells #[.int .i64 6,.int .i64 5,.int .i64 4,.slice (some ⟨H,0,none⟩) 1 1] 121 (0,0))
 held:w.heap[H]?=some (.cells #[.int .i64 1,.int .i64 0] 118 (0,0))
theorem Sok.below {w w':World} {P H:Nat} (h:Sok w P H) {n:Nat} (hb:Below n w w') (hn:w.heap.size≤n):Sok w' P H :=
 ⟨(hb.block P (VL (Qab h.pool) hn)).trans h.pool,(hb.block H (VL (Qab h.held) hn)).trans h.held⟩
theorem ac6 {w:World} {b:Nat} {x0 x1 x2 x3 x4 x5:Value} {t:TypeId} (h:w.heap[b]?=some (.cells #[x0,x1,x2,x3,x4,x5] t (0,0))) :
  w.cell? ⟨b,0,none⟩=some x0∧w.cell? ⟨b,1,none⟩=some x1∧w.cell? ⟨b,2,none⟩=some x2∧w.cell? ⟨b,3,none⟩=some x3∧w.cell? ⟨b,4,none⟩=some x4∧w.cell? ⟨b,5,none⟩=some x5 :=
 ⟨by simp[World.cell?,h],by simp[World.cell?,h],by simp[World.cell?,h],by simp[World.cell?,h],by simp[World.cell?,h],by simp[World.cell?,h]⟩
theorem QjT (w:World) (P H A B C:Nat) (hs:Sok w P H) :
  Calls Tryz.prog 113 #[Sv P A B C,.int .i64 0,.agg #[.int .i64 0,.int .i64 0]] w fun e w'=>e=.returned (.int .i64 1)∧Below w.heap.size w w':=by
 unfold Sv;obtain⟨w2,hw2⟩:=exq ((w.alloc (.cells #[.int .u64 0,.slice (some ⟨P,0,none⟩) 1 1,.slice none 0 0,.slice (some ⟨A,0,none⟩) 1 1,.slice (some ⟨B,0,none⟩) 1 1,.slice (some ⟨C,0,none⟩) 1 1] 42)).alloc (.cells #[.int .i64 0,.int .i64 0] 175));have hb2:Below w.heap.size w w2:=by rw[←hw2];exact(bR.alloc (Va _) _).alloc (by simp) _
 have hx2:w2.heap[w.heap.size]?=some (.cells #[.int .u64 0,.slice (some ⟨P,0,none⟩) 1 1,.slice none 0 0,.slice (some ⟨A,0,none⟩) 1 1,.slice (some ⟨B,0,none⟩) 1 1,.slice (some ⟨C,0,none⟩) 1 1] 42 (0,0)):=by rw[←hw2];exact(Vc _ _ _ (by simp)).trans (hNq _ _)
 have hk2:w2.heap[w.heap.size+1]?=some (.cells #[.int .i64 0,.int .i64 0] 175 (0,0)):=by rw[←hw2];have h:=hNq (w.alloc (.cells #[.int .u64 0,.slice (some ⟨P,0,none⟩) 1 1,.slice none 0 0,.slice (some ⟨A,0,none⟩) 1 1,.slice (some ⟨B,0,none⟩) 1 1,.slice (some ⟨C,0,none⟩) 1 1] 42)) (.cells #[.int .i64 0,.int .i64 0] 175);rw[Vm]at h;exact h
 have hs2:=hs.below hb2 (Va _);obtain⟨c0,c1,c2,c3,c4,c5⟩:=ac6 hx2;obtain⟨k0,k1⟩:=ac2 hk2;obtain⟨HW2,HB2,HK2,HS2⟩:=hd4 hw2 hb2 hk2 hs2;have HAp:=Qaa (QhU w2 P 6 5 4 (some ⟨H,0,none⟩) 1 1 hs2.pool);clear hw2 hb2 hx2 hk2 hs2 hs;go_enter Tryz.func113,Tryz.ntmps113;go_upto_region 1 with (fail);rw[HW2.out];go_upto_region 2 with (go_at_call 101;refine HAp.out.mono ?_;rintro e w3 ⟨rfl,hb3⟩;have HB3:=Qaa hb3;clear hb3);obtain⟨w4,hw4⟩:=exq (w3.alloc (.cells #[.int .i64 6,.int .i64 5,.int .i64 4,.slice (some ⟨H,0,none⟩) 1 1] 121));have hb4:Below w2.heap.size w2 w4:=by rw[←hw4];exact HB3.out.alloc HB3.out.size _
 have hp4:w4.heap[w3.heap.size]?=some (.cells #[.int .i64 6,.int .i64 5,.int .i64 4,.slice (some ⟨H,0,none⟩) 1 1] 121 (0,0)):=by rw[←hw4];exact hNq _ _
 rw[hw4];obtain⟨p0,p1,p2,p3⟩:=ac4 hp4;have HS4:=Qaa (HS2.out.below hb4 (Va _));have HK4:=Qaa ((hb4.block _ (Qab HK2.out)).trans HK2.out);have HAw:=Qaa (QhS w4 H 1 0 HS4.out.held);have HB4:=Qaa (HB2.out.trans (hb4.mono HB2.out.size));clear hw4 hb4 hp4 c0 c1 c2 c3 c4 c5 k0 k1;go_upto_region 3 with (go_at_call 178;refine HAw.out.mono ?_;rintro e w5 ⟨rfl,hb5⟩;have HB5:=Qaa hb5;clear hb5);obtain⟨w6,hw6⟩:=exq (w5.alloc (.cells #[.int .i64 1,.int .i64 0] 118));have hb6:Below w4.heap.size w4 w6:=by rw[←hw6];exact HB5.out.alloc HB5.out.size _
 have hp6:w6.heap[w5.heap.size]?=some (.cells #[.int .i64 1,.int .i64 0] 118 (0,0)):=by rw[←hw6];exact hNq _ _
 rw[hw6];obtain⟨k0,k1⟩:=ac2 ((hb6.block _ (Qab HK4.out)).trans HK4.out);have HAi:=Qaa (Qfg w6 w5.heap.size 1 0 hp6);have HAd:=Qaa (Qfg w6.drew w5.heap.size 1 0 hp6);have HB6:=Qaa (HB4.out.trans (hb6.mono HB4.out.size));clear hw6 hb6 hp6 p0 p1 p2 p3;go_region_held3 (fun w'=>w'.cell? ⟨w.heap.size+1,0,none⟩=some (.int .i64 0)∧w'.cell? ⟨w.heap.size+1,1,none⟩=some (.int .i64 0)) (go_keep) (first | (go_at_call 177;refine HAd.out.mono ?_;rintro e w7 ⟨rfl,rfl⟩) | (go_at_call 177;refine HAi.out.mono ?_;rintro e w7 ⟨rfl,rfl⟩) | fail);all_goals go_wp2
 all_goals go_ret
 all_goals first | exact⟨rfl,HB6.out⟩ | exact⟨rfl,HB6.out.drew⟩
theorem QbD (w:World) (a b n:Int) :
  Calls Tryz.prog 92 #[.agg #[.int .i64 a,.int .i64 b,.int .i64 n]] w fun e w'=>e=.returned (.agg #[.int .i64 a,.int .i64 b])∧Below w.heap.size w w':=by
 go_enter Tryz.func92,Tryz.ntmps92;go_wp2;refine Vg (VF rfl _ _ (w.heap.size+1) 175 #[.int .i64 a,.int .i64 b] (0,0) _ rfl ?_ Tryz.underlying175 rfl (by kernel_rfl)) rfl ?_
 ·have h:=hNq (w.alloc (.cells #[.int .i64 a,.int .i64 b,.int .i64 n] 52)) (.cells #[.int .i64 a,.int .i64 b] 175)
  rw[Vm]at h;exact h
 ·exact⟨rfl,(bR.alloc (Va _) _).alloc (by simp) _⟩
def SvC (P A B C:Nat):Array Value:=#[.int .u64 0,.slice (some ⟨P,0,none⟩) 1 1,.slice none 0 0,.slice (some ⟨A,0,none⟩) 1 1,.slice (some ⟨B,0,none⟩) 1 1,.slice (some ⟨C,0,none⟩) 1 1]
theorem QhL (w:World) (P H A B C S T:Nat) (hs:Sok w P H) (hS:w.heap[S]?=some (.cells (SvC P A B C) 42 (0,0))) (hT:w.heap[T]?=some (.cells #[.int .i64 0] 3 (0,0))) :
  Calls Tryz.prog 112 #[.agg #[.int .i64 0,.int .i64 0],.pointer (some ⟨S,0,none⟩),.pointer (some ⟨T,0,none⟩)] w fun e w'=>e=.returned (.int .i64 1)∧Below w.heap.size w w':=by
 obtain⟨w2,hw2⟩:=exq (w.alloc (.cells #[.int .i64 0,.int .i64 0] 175));have hb2:Below w.heap.size w w2:=by rw[←hw2];exact bR.alloc (Va _) _
 have hk2:w2.heap[w.heap.size]?=some (.cells #[.int .i64 0,.int .i64 0] 175 (0,0)):=by rw[←hw2];exact hNq _ _
 unfold SvC at hS;obtain⟨c0,c1,c2,c3,c4,c5⟩:=ac6 ((hb2.block S (Qab hS)).trans hS);obtain⟨k0,k1⟩:=ac2 hk2;have t0:w2.cell? ⟨T,0,none⟩=some (.int .i64 0):=by simp[World.cell?,(hb2.block T (Qab hT)).trans hT]
 have HH:=Qaa (QjT w2 P H A B C (hs.below hb2 (Va _)));obtain⟨HW2,HB2⟩:=Qmj hw2 hb2;clear hw2 hb2 hk2 hS hT hs;unfold Sv at HH;go_enter Tryz.func112,Tryz.ntmps112;go_upto_region 1 with (fail);rw[HW2.out];go_wp2_with (go_at_call 113;refine HH.out.mono ?_;rintro e w3 ⟨rfl,hb3⟩;have HB3:=Qaa hb3;clear hb3)
 go_ret;exact⟨rfl,HB2.out.trans (HB3.out.mono HB2.out.size)⟩
theorem QkJ (a:Int) (h:a=1∨a=2):QaD [⟨0,-a⟩]=[⟨0,0,a⟩]:=by
 rcases h with rfl | rfl <;> simp[QaD,Qby,QaL,Qam,Qbh,wrap64]
theorem QhJ (w:World) (P H A B C S T g:Nat) (a:Int) (ha:a=1∨a=2) (hs:Sok w P H) (hS:w.heap[S]?=some (.cells (SvC P A B C) 42 (0,0))) (hT:w.heap[T]?=some (.cells #[.int .i64 0] 3 (0,0))) (hg:w.heap[g]?=some (.cells #[.int .i64 0,.int .i64 (-a)] 132 (0,0))) (R:Bool) (hR:R=decide (a=1)) :
  Calls Tryz.prog 109 #[.slice (some ⟨g,0,none⟩) 1 1,.func (.func 112) #[] #[.pointer (some ⟨S,0,none⟩),.pointer (some ⟨T,0,none⟩)]] w fun e w'=>e=.returned (.bool R)∧Below w.heap.size w w':=by
 obtain⟨l0,l1⟩:=ac2 hg
 have hL:QjH w.heap.size w (some ⟨g,0,none⟩) [⟨0,-a⟩]:=Or.inr ⟨g,0,rfl,Qab hg,fun i x hx=>by
  cases i with
  | zero=>simp at hx;subst hx;exact⟨l0,l1⟩
  | succ i=>simp at hx⟩
 have hN:=QdQ w (some ⟨g,0,none⟩) 1 1 [⟨0,-a⟩] rfl (by omega) (fun x hx=>by simp at hx;subst hx;rcases ha with rfl | rfl <;> exact⟨rfl,rfl⟩) hL;rw[QkJ a ha]at hN;obtain⟨HN,HSk,HSb,HTb,HRv⟩:=Qml hN hs hS hT hR;clear hN hs hS hT hg hL l0 l1 hR;go_enter Tryz.func109,Tryz.ntmps109;go_wp2_with (go_at_call 52;refine HN.out.mono ?_;rintro e w1 ⟨v,rfl,hr1,hb1⟩;obtain⟨va,vc,rfl⟩:=slice_form hr1;obtain⟨HR1,HB1⟩:=Qmj hr1 hb1;clear hr1 hb1)
 refine VY 2 ?_;rw[rounds_succ];obtain⟨q,rfl,hql,q0⟩:=row_cell HR1.out (i:=0) (u:=.int .i64 0) rfl;obtain⟨_,e1,_,q1⟩:=row_cell HR1.out (i:=1) (u:=.int .i64 0) rfl;cases e1;obtain⟨_,e2,_,q2⟩:=row_cell HR1.out (i:=2) (u:=.int .i64 a) rfl;cases e2;obtain⟨w2,hw2⟩:=exq (w1.alloc (.cells #[.int .i64 0,.int .i64 0,.int .i64 a] 52));have hb2:Below w.heap.size w w2:=by rw[←hw2];exact HB1.out.alloc HB1.out.size _
 have hx2:w2.heap[w1.heap.size]?=some (.cells #[.int .i64 0,.int .i64 0,.int .i64 a] 52 (0,0)):=by rw[←hw2];exact hNq _ _
 obtain⟨x0,x1,x2⟩:=ac3 hx2;obtain⟨HX2,HB2,HW2⟩:=Qmk hx2 hb2 hw2;have HKo:=Qaa (fun W=>QbD W 0 0 a);have HHo:=Qaa (fun (W:World) (hb:Below w.heap.size w W)=>QhL W P H A B C S T (HSk.out.below hb (Va _)) ((hb.block S (Qab HSb.out)).trans HSb.out) ((hb.block T (Qab HTb.out)).trans HTb.out));clear hw2 hb2 hx2;go_upto_region 4 with (fail);rw[HW2.out];go_region_held3 (fun w'=>w'.cell? ⟨w1.heap.size,0,none⟩=some (.int .i64 0)∧w'.cell? ⟨w1.heap.size,1,none⟩=some (.int .i64 0)∧w'.cell? ⟨w1.heap.size,2,none⟩=some (.int .i64 a)) (go_keep) (first | (go_at_call 112;refine(HHo.out _ HB3.out).mono ?_;rintro e w4 ⟨rfl,hb4⟩;have hx4:w4.heap[w1.heap.size]?=_:=(hb4.block _ (Qab HX3.out)).trans HX3.out;obtain⟨y0,y1,y2⟩:=ac3 hx4;have HX4:=Qaa hx4;have HB4:Hid (Below w.heap.size w w4):=HB3.out.trans (hb4.mono HB3.out.size);clear hb4 hx4) | (go_at_call 92;refine(HKo.out _).mono ?_;rintro e w3 ⟨rfl,hb3'⟩;have hb3:Below w2.heap.size w2 w3:=⟨hb3'.os,hb3'.tape,hb3'.output,hb3'.size,hb3'.block⟩;clear hb3';have hx3:w3.heap[w1.heap.size]?=_:=(hb3.block _ (Qab HX2.out)).trans HX2.out;obtain⟨y0,y1,y2⟩:=ac3 hx3;have HX3:=Qaa hx3;have HB3:Hid (Below w.heap.size w w3):=HB2.out.trans (hb3.mono HB2.out.size);clear hb3 hx3) | fail);rcases ha with rfl | rfl
 ·go_wp2
  rw[rounds_succ];go_wp2;go_ret;exact⟨by rw[HRv.out];rfl,HB4.out⟩
 ·go_wp2
  go_ret;exact⟨by rw[HRv.out];rfl,HB4.out⟩
def QlU (x:Int):List Value:=[.int .i64 x]
theorem Qc4 (w:World) (p:Option Addr) (n c:Nat) (ps:List Int) (hn:ps.length=n) (hc:Cel w p 1 (ps.map QlU)) (i:Int) :
  Calls Tryz.prog 177 #[.slice p n c,.int .i64 i] w fun e w'=>e=.returned (.tuple #[.int .i64 (Qai ps 0 i),.bool (Qba ps i)])∧w'=w:=by
 obtain⟨HC,HN⟩:=Qmj hc hn;rcases Qdv ps n hn i with h | ⟨h,h2⟩ | ⟨k,x,rfl,hk,hx⟩
 ·obtain⟨e1,e2⟩:=Qcj (l:=ps) (z:=0) (i:=i) (Or.inl h)
  rw[e1,e2];clear e1 e2 hc hn;go_enter Tryz.func177,Tryz.ntmps177;go_wp2;refine Vg (v:=.tuple #[.int .i64 0,.bool false]) (by simp[results,Tryz.results177,go_sem]) rfl ?_;exact⟨rfl,rfl⟩
 ·obtain⟨e1,e2⟩:=Qcj (l:=ps) (z:=0) (i:=i) (Or.inr (by rw[hn];exact h2))
  rw[e1,e2];clear e1 e2 hc hn;go_enter Tryz.func177,Tryz.ntmps177;go_wp2;refine Vg (v:=.tuple #[.int .i64 0,.bool false]) (by simp[results,Tryz.results177,go_sem]) rfl ?_;exact⟨rfl,rfl⟩
 ·obtain⟨e1,e2⟩:=Qbe (z:=0) hx
  rw[e1,e2];obtain⟨b,o,rfl,hbl,hcl⟩:=HC.out.get (i:=k) (r:=QlU x) (by rw[Vb,hx];rfl);have c0:=hcl 0 _ rfl;rw[Vr,Nat.mul_one]at c0;have hk':(k:Int)<(n:Int):=by omega
  have k0':¬(k:Int)<0:=by omega
  clear e1 e2 hc hn hcl hx;go_enter Tryz.func177,Tryz.ntmps177;go_wp2;refine Vg (v:=.tuple #[.int .i64 x,.bool true]) (by simp[results,Tryz.results177,go_sem]) rfl ?_;exact⟨rfl,rfl⟩
structure Sta where
 pos:Int
 pp:Option Addr
 pn:Nat
 pc:Nat
 rp:Option Addr
 rn:Nat
 rc:Nat
 lp:Option Addr
 ln:Nat
 lc:Nat
 gp:Option Addr
 gn:Nat
 gc:Nat
 op:Option Addr
 on:Nat
 oc:Nat
 pools:List Pl
 prices:List Lin
 last:List Int
 gen:List Int
 owed:List Bool
def Sta.arr (s:Sta):Array Value:=#[.int .u64 s.pos,.slice s.pp s.pn s.pc,.slice s.rp s.rn s.rc,.slice s.lp s.ln s.lc,.slice s.gp s.gn s.gc,.slice s.op s.on s.oc]
def uc (x:Int):List Value:=[.int .u64 x]
def QdE (x:Bool):List Value:=[.bool x]
structure Qmb (w:World) (x:Pl):Prop where
 len:x.hs.length=x.hl
 cel:Cel w x.hp 2 (x.hs.map Qal)
structure Qae (w:World) (s:Sta):Prop where
 pn:s.pools.length=s.pn
 pools:Cel w s.pp 4 (s.pools.map plc)
 held:∀x∈s.pools,Qmb w x
 rn:s.prices.length=s.rn
 prices:Cel w s.rp 2 (s.prices.map Qal)
 ln:s.last.length=s.ln
 last:Cel w s.lp 1 (s.last.map uc)
 gn:s.gen.length=s.gn
 gen:Cel w s.gp 1 (s.gen.map uc)
 on:s.owed.length=s.on
 owed:Cel w s.op 1 (s.owed.map QdE)
theorem Qae.below {w w':World} {s:Sta} (h:Qae w s) (hb:Below w.heap.size w w'):Qae w' s :=
 ⟨h.pn,h.pools.below hb,fun x hx=>⟨(h.held x hx).len,(h.held x hx).cel.below hb⟩,h.rn,h.prices.below hb,h.ln,h.last.below hb,h.gn,h.gen.below hb,h.on,h.owed.below hb⟩
theorem QiS {α:Type} (l:List α) (z:α) (i:Int):Qai l z i∈l∨Qai l z i=z:=by
 unfold Qai;split
 ·cases h:l[i.toNat]? with
  | none=>right;simp[List.getD,h]
  | some x=>left;simp[List.getD,h];exact mG h
 ·exact Or.inr rfl
theorem Qae.at {w:World} {s:Sta} (h:Qae w s) (i:Int):Qmb w (Qai s.pools pl0 i):=by
 rcases QiS s.pools pl0 i with e | e
 ·exact h.held _ e
 ·rw[e];exact⟨rfl,Or.inl rfl⟩
def Sta.free (s:Sta) (c w:Int):Int:=Qai [(Qai s.pools pl0 c).f0,(Qai s.pools pl0 c).f1] 0 w
def Sta.held (s:Sta) (t c w:Int):Int:=Qai [(Qai (Qai s.pools pl0 c).hs ⟨0,0⟩ t).c,(Qai (Qai s.pools pl0 c).hs ⟨0,0⟩ t).n] 0 w
theorem QeR {w:World} {b o:Nat} {x y:Int} (hb:b<w.heap.size) (h0:w.cell? ⟨b,o,none⟩=some (.int .i64 x)) (h1:w.cell? ⟨b,o+1,none⟩=some (.int .i64 y)):Cel w (some ⟨b,o,none⟩) 1 ([x,y].map QlU):=by
 refine Or.inr ⟨b,o,rfl,hb,fun i r hr j v hv=>?_⟩
 match i,hr with
 | 0,hr =>
  cases hr
  match j,hv with
  | 0,hv=>cases hv;exact h0
  | j+1,hv=>simp[QlU]at hv
 | 1,hr =>
  cases hr
  match j,hv with
  | 0,hv=>cases hv;exact h1
  | j+1,hv=>simp[QlU]at hv
 | i+2,hr=>simp at hr
theorem QeT (w:World) (s:Sta) (hs:Qae w s) (t kc kw:Int) :
  Calls Tryz.prog 113 #[.agg s.arr,.int .i64 t,.agg #[.int .i64 kc,.int .i64 kw]] w fun e w'=>e=.returned (.int .i64 (s.held t kc kw))∧Below w.heap.size w w':=by
 obtain⟨w2,hw2⟩:=exq ((w.alloc (.cells s.arr 42)).alloc (.cells #[.int .i64 kc,.int .i64 kw] 175));have hb2:Below w.heap.size w w2:=by rw[←hw2];exact(bR.alloc (Va _) _).alloc (by simp) _
 have hx2:w2.heap[w.heap.size]?=some (.cells s.arr 42 (0,0)):=by rw[←hw2];exact(Vc _ _ _ (by simp)).trans (hNq _ _)
 have hk2:w2.heap[w.heap.size+1]?=some (.cells #[.int .i64 kc,.int .i64 kw] 175 (0,0)):=by rw[←hw2];have h:=hNq (w.alloc (.cells s.arr 42)) (.cells #[.int .i64 kc,.int .i64 kw] 175);rw[Vm]at h;exact h
 have hs2:=hs.below hb2;obtain⟨c0,c1,c2,c3,c4,c5⟩:=ac6 hx2;obtain⟨k0,k1⟩:=ac2 hk2;obtain⟨HW2,HB2,HK2⟩:=Qmk hw2 hb2 hk2;have HAp:=Qaa (Qde w2 s.pp s.pn s.pc s.pools hs2.pn hs2.pools kc);have HPl:=Qaa (hs2.at kc);obtain⟨x,hx⟩:=exq (Qai s.pools pl0 kc);obtain⟨hb',hhb⟩:∃q,Qba s.pools kc=q:=⟨_,rfl⟩;rw[hx,hhb]at HAp;rw[hx]at HPl;obtain⟨y,hy⟩:=exq (Qai x.hs (⟨0,0⟩:Lin) t);obtain⟨hq,hhq⟩:=exq (Qba x.hs t);have HR:s.held t kc kw=Qai [y.c,y.n] 0 kw:=by unfold Sta.held;rw[hx,hy]
 rw[HR];obtain⟨xv,x0,x1,xp,xl,xc,xs⟩:=x;obtain⟨y0,y1⟩:=y;obtain⟨HY,HQ⟩:=Qmj hy hhq;dsimp only at HY HQ;clear HR hy hhq;dsimp only[plc]at HAp;clear hw2 hb2 hx2 hk2 hs2 hs hx hhb;go_enter Tryz.func113,Tryz.ntmps113;go_upto_region 1 with (fail);rw[HW2.out];go_upto_region 2 with (go_at_call 101;refine HAp.out.mono ?_;rintro e w3 ⟨rfl,hb3⟩;have HB3:=Qaa hb3;clear hb3);obtain⟨w4,hw4⟩:=exq (w3.alloc (.cells #[.int .i64 xv,.int .i64 x0,.int .i64 x1,.slice xp xl xc] 121));have hb4:Below w2.heap.size w2 w4:=by rw[←hw4];exact HB3.out.alloc HB3.out.size _
 have hp4:w4.heap[w3.heap.size]?=some (.cells #[.int .i64 xv,.int .i64 x0,.int .i64 x1,.slice xp xl xc] 121 (0,0)):=by rw[←hw4];exact hNq _ _
 rw[show w3.alloc (.cells #[.int .i64 xv,.int .i64 x0,.int .i64 x1,.slice xp xl xc] 121)=w4 from hw4];obtain⟨p0,p1,p2,p3⟩:=ac4 hp4;have HK4:=Qaa ((hb4.block _ (Qab HK2.out)).trans HK2.out);have HAw:=Qaa (Qh1 w4 xp xl xc xs HPl.out.len (HPl.out.cel.below hb4) t);have HB4:=Qaa (HB2.out.trans (hb4.mono HB2.out.size));rw[HY.out,HQ.out]at HAw;dsimp only[Qal]at HAw;clear hw4 hb4 hp4 c0 c1 c2 c3 c4 c5 k0 k1;go_upto_region 3 with (go_at_call 178;refine HAw.out.mono ?_;rintro e w5 ⟨rfl,hb5⟩;have HB5:=Qaa hb5;clear hb5);obtain⟨w6,hw6⟩:=exq (w5.alloc (.cells #[.int .i64 y0,.int .i64 y1] 118));have hb6:Below w4.heap.size w4 w6:=by rw[←hw6];exact HB5.out.alloc HB5.out.size _
 have hp6:w6.heap[w5.heap.size]?=some (.cells #[.int .i64 y0,.int .i64 y1] 118 (0,0)):=by rw[←hw6];exact hNq _ _
 rw[show w5.alloc (.cells #[.int .i64 y0,.int .i64 y1] 118)=w6 from hw6];obtain⟨k0,k1⟩:=ac2 ((hb6.block _ (Qab HK4.out)).trans HK4.out);obtain⟨z0,z1⟩:=ac2 hp6;have HAi:=Qaa (Qc4 w6 (some ⟨w5.heap.size,0,none⟩) 2 2 [y0,y1] rfl (QeR (Qab hp6) z0 (by rw[Nat.zero_add];exact z1)) kw);have HAd:=Qaa (Qc4 w6.drew (some ⟨w5.heap.size,0,none⟩) 2 2 [y0,y1] rfl (QeR (Qab hp6) z0 (by rw[Nat.zero_add];exact z1)) kw);have HB6:=Qaa (HB4.out.trans (hb6.mono HB4.out.size));clear hw6 hb6 hp6 p0 p1 p2 p3 z0 z1;go_region_held3 (fun w'=>w'.cell? ⟨w.heap.size+1,0,none⟩=some (.int .i64 kc)∧w'.cell? ⟨w.heap.size+1,1,none⟩=some (.int .i64 kw)) (go_keep) (first | (go_at_call 177;refine HAd.out.mono ?_;rintro e w7 ⟨rfl,rfl⟩) | (go_at_call 177;refine HAi.out.mono ?_;rintro e w7 ⟨rfl,rfl⟩) | fail);all_goals go_wp2
 all_goals go_ret
 all_goals first | exact⟨rfl,HB6.out⟩ | exact⟨rfl,HB6.out.drew⟩
abbrev qS (s:Sta):Array Value:=#[.int .u64 s.pos,.slice s.pp s.pn s.pc,.slice s.rp s.rn s.rc,.slice s.lp s.ln s.lc,.slice s.gp s.gn s.gc,.slice s.op s.on s.oc]
theorem QaQ (w:World) (A:Array Value) (t1 t2:TypeId) (B:Array Value):∃w2,(w.alloc (.cells A t1)).alloc (.cells B t2)=w2∧Below w.heap.size w w2∧w2.heap[w.heap.size]?=some (.cells A t1 (0,0))∧w2.heap[w.heap.size+1]?=some (.cells B t2 (0,0)) :=
 ⟨_,rfl,(bR.alloc (Va _) _).alloc (by simp) _,(Vc _ _ _ (by simp)).trans (hNq _ _),by have h:=hNq (w.alloc (.cells A t1)) (.cells B t2);rw[Vm]at h;exact h⟩
theorem QeW (w:World) (s:Sta) (hs:Qae w s) (kc kw:Int) :
  Calls Tryz.prog 111 #[.agg s.arr,.agg #[.int .i64 kc,.int .i64 kw]] w fun e w'=>e=.returned (.int .i64 (s.free kc kw))∧Below w.heap.size w w':=by
 obtain⟨w2,hw2,hb2,hx2,hk2⟩:=QaQ w s.arr 42 175 #[.int .i64 kc,.int .i64 kw];have hs2:=hs.below hb2;obtain⟨c0,c1,c2,c3,c4,c5⟩:=ac6 hx2;obtain⟨k0,k1⟩:=ac2 hk2;obtain⟨HW2,HB2,HK2⟩:=Qmk hw2 hb2 hk2;have HAp:=Qaa (Qde w2 s.pp s.pn s.pc s.pools hs2.pn hs2.pools kc);obtain⟨x,hx⟩:=exq (Qai s.pools pl0 kc);obtain⟨hb',hhb⟩:∃q,Qba s.pools kc=q:=⟨_,rfl⟩;rw[hx,hhb]at HAp;have HR:s.free kc kw=Qai [x.f0,x.f1] 0 kw:=by unfold Sta.free;rw[hx]
 rw[HR];obtain⟨xv,x0,x1,xp,xl,xc,xs⟩:=x;dsimp only[plc]at HAp;clear hw2 hb2 hx2 hk2 hs2 hs hx hhb HR;go_enter Tryz.func111,Tryz.ntmps111;go_upto_region 1 with (fail);rw[HW2.out];go_upto_region 2 with (go_at_call 101;refine HAp.out.mono ?_;rintro e w3 ⟨rfl,hb3⟩;have HB3:=Qaa hb3;clear hb3);obtain⟨w4,hw4⟩:=exq (w3.alloc (.cells #[.int .i64 xv,.int .i64 x0,.int .i64 x1,.slice xp xl xc] 121));have hb4:Below w2.heap.size w2 w4:=by rw[←hw4];exact HB3.out.alloc HB3.out.size _
 have hp4:w4.heap[w3.heap.size]?=some (.cells #[.int .i64 xv,.int .i64 x0,.int .i64 x1,.slice xp xl xc] 121 (0,0)):=by rw[←hw4];exact hNq _ _
 rw[show w3.alloc (.cells #[.int .i64 xv,.int .i64 x0,.int .i64 x1,.slice xp xl xc] 121)=w4 from hw4];obtain⟨p0,p1,p2,p3⟩:=ac4 hp4;obtain⟨k0',k1'⟩:=ac2 ((hb4.block _ (Qab HK2.out)).trans HK2.out);have HAi:=Qaa (Qc4 w4 (some ⟨w3.heap.size,1,none⟩) 2 2 [x0,x1] rfl (QeR (Qab hp4) p1 p2) kw);have HAd:=Qaa (Qc4 w4.drew (some ⟨w3.heap.size,1,none⟩) 2 2 [x0,x1] rfl (QeR (Qab hp4) p1 p2) kw);have HB4:=Qaa (HB2.out.trans (hb4.mono HB2.out.size));clear hw4 hb4 hp4 c0 c1 c2 c3 c4 c5 k0 k1;go_region_held3 (fun w'=>w'.cell? ⟨w.heap.size+1,0,none⟩=some (.int .i64 kc)∧w'.cell? ⟨w.heap.size+1,1,none⟩=some (.int .i64 kw)) (go_keep) (first | (go_at_call 177;refine HAd.out.mono ?_;rintro e w7 ⟨rfl,rfl⟩) | (go_at_call 177;refine HAi.out.mono ?_;rintro e w7 ⟨rfl,rfl⟩) | fail);all_goals go_wp2
 all_goals go_ret
 all_goals first | exact⟨rfl,HB4.out⟩ | exact⟨rfl,HB4.out.drew⟩
theorem Qdy (w:World) (s:Sta) (hs:Qae w s) (t kc kw:Int) :
  Calls Tryz.prog 91 #[.agg s.arr,.int .i64 t,.agg #[.int .i64 kc,.int .i64 kw]] w fun e w'=>e=.returned (.int .i64 (wrap64 (18014398509481984 - s.held t kc kw)))∧Below w.heap.size w w':=by
 obtain⟨w2,hw2,hb2,hx2,hk2⟩:=QaQ w s.arr 42 175 #[.int .i64 kc,.int .i64 kw];obtain⟨c0,c1,c2,c3,c4,c5⟩:=ac6 hx2;obtain⟨k0,k1⟩:=ac2 hk2;have HH:=Qaa (QeT w2 s (hs.below hb2) t kc kw);obtain⟨HW2,HB2⟩:=Qmj hw2 hb2;generalize s.held t kc kw=q at HH ⊢;clear hw2 hb2 hx2 hk2 hs;go_enter Tryz.func91,Tryz.ntmps91;go_upto_region 1 with (fail);rw[HW2.out];go_wp2_with (go_at_call 113;refine HH.out.mono ?_;rintro e w3 ⟨rfl,hb3⟩;have HB3:=Qaa (HB2.out.trans (hb3.mono HB2.out.size));clear hb3)
 go_ret;exact⟨rfl,HB3.out⟩
theorem QeL (w:World) (s:Sta) (hs:Qae w s) (t a b n:Int) :
  Calls Tryz.prog 90 #[.agg s.arr,.int .i64 t,.agg #[.int .i64 a,.int .i64 b,.int .i64 n]] w fun e w'=>e=.returned (.bool (decide (n≤s.held t a b)))∧Below w.heap.size w w':=by
 obtain⟨w2,hw2,hb2,hx2,hk2⟩:=QaQ w s.arr 42 52 #[.int .i64 a,.int .i64 b,.int .i64 n];obtain⟨c0,c1,c2,c3,c4,c5⟩:=ac6 hx2;obtain⟨k0,k1,k2⟩:=ac3 hk2;have HKo:=Qaa (fun W=>QbD W a b n);have HHo:=Qaa (fun (W:World) (hb:Below w.heap.size w W)=>QeT W s (hs.below hb) t a b);obtain⟨HW2,HB2,HX2,HK2⟩:=hd4 hw2 hb2 hx2 hk2;generalize s.held t a b=q at HHo ⊢;clear hw2 hb2 hx2 hk2 hs;go_enter Tryz.func90,Tryz.ntmps90;go_upto_region 1 with (fail);rw[HW2.out];go_region_held3 (fun w'=>w'.cell? ⟨w.heap.size,0,none⟩=some (.int .u64 s.pos)∧w'.cell? ⟨w.heap.size,1,none⟩=some (.slice s.pp s.pn s.pc)∧w'.cell? ⟨w.heap.size,2,none⟩=some (.slice s.rp s.rn s.rc)∧w'.cell? ⟨w.heap.size,3,none⟩=some (.slice s.lp s.ln s.lc)∧w'.cell? ⟨w.heap.size,4,none⟩=some (.slice s.gp s.gn s.gc)∧w'.cell? ⟨w.heap.size,5,none⟩=some (.slice s.op s.on s.oc)∧w'.cell? ⟨w.heap.size+1,0,none⟩=some (.int .i64 a)∧w'.cell? ⟨w.heap.size+1,1,none⟩=some (.int .i64 b)∧w'.cell? ⟨w.heap.size+1,2,none⟩=some (.int .i64 n)) (go_keep) (first | (go_at_call 113;refine(HHo.out _ HB3.out).mono ?_;rintro e w4 ⟨rfl,hb4⟩;obtain⟨d0,d1,d2,d3,d4,d5⟩:=ac6 ((hb4.block _ (Qab HX3.out)).trans HX3.out);obtain⟨y0,y1,y2⟩:=ac3 ((hb4.block _ (Qab HK3.out)).trans HK3.out);have HB4:Hid (Below w.heap.size w w4):=HB3.out.trans (hb4.mono HB3.out.size);clear hb4) | (go_at_call 92;refine(HKo.out _).mono ?_;rintro e w3 ⟨rfl,hb3'⟩;have hb3:Below w2.heap.size w2 w3:=⟨hb3'.os,hb3'.tape,hb3'.output,hb3'.size,hb3'.block⟩;clear hb3';have HX3:=Qaa ((hb3.block _ (Qab HX2.out)).trans HX2.out);have HK3:=Qaa ((hb3.block _ (Qab HK2.out)).trans HK2.out);obtain⟨d0,d1,d2,d3,d4,d5⟩:=ac6 HX3.out;obtain⟨y0,y1,y2⟩:=ac3 HK3.out;have HB3:Hid (Below w.heap.size w w3):=HB2.out.trans (hb3.mono HB2.out.size);clear hb3) | fail);all_goals go_wp2
 all_goals go_ret
 all_goals first | exact⟨rfl,HB4.out⟩ | exact⟨rfl,HB4.out.drew⟩
theorem Qag (w:World) (A:Array Value) (t:TypeId):∃w2,w.alloc (.cells A t)=w2∧Below w.heap.size w w2∧w2.heap[w.heap.size]?=some (.cells A t (0,0)):=⟨_,rfl,bR.alloc (Va _) _,hNq _ _⟩
def Sta.isOpen (s:Sta) (p:Int):Bool:=Qba s.prices p && decide ((Qai s.prices ⟨0,0⟩ p).n<1099511627776)
theorem Qes (w:World) (s:Sta) (hs:Qae w s) (p:Int) :
  Calls Tryz.prog 116 #[.agg s.arr,.int .i64 p] w fun e w'=>e=.returned (.bool (s.isOpen p))∧Below w.heap.size w w':=by
 obtain⟨w2,hw2,hb2,hx2⟩:=Qag w s.arr 42;have hs2:=hs.below hb2;obtain⟨c0,c1,c2,c3,c4,c5⟩:=ac6 hx2;have HAp:=Qaa (Qb6 w2 s.rp s.rn s.rc s.prices hs2.rn hs2.prices p);obtain⟨HW2,HB2⟩:=Qmj hw2 hb2;unfold Sta.isOpen;generalize Qai s.prices ⟨0,0⟩ p=x at HAp ⊢;generalize Qba s.prices p=hq at HAp ⊢;obtain⟨x0,x1⟩:=x;dsimp only[Qal]at HAp ⊢;clear hw2 hb2 hx2 hs2 hs;cases hq
 ·go_enter Tryz.func116,Tryz.ntmps116
  go_upto_region 1 with (fail);rw[HW2.out];go_upto_region 2 with (go_at_call 100;refine HAp.out.mono ?_;rintro e w3 ⟨rfl,hb3⟩;have HB3:=Qaa hb3;clear hb3);obtain⟨w4,hw4,hb4,hx4⟩:=Qag w3 #[.int .i64 x0,.int .i64 x1] 123;have HB4:=Qaa (HB2.out.trans ((HB3.out.trans (hb4.mono HB3.out.size)).mono HB2.out.size));rw[show w3.alloc (.cells #[.int .i64 x0,.int .i64 x1] 123)=w4 from hw4];obtain⟨p0,p1⟩:=ac2 hx4;clear hw4 hb4 hx4 c0 c1 c2 c3 c4 c5;go_wp2;go_ret;exact⟨rfl,HB4.out⟩
 ·go_enter Tryz.func116,Tryz.ntmps116
  go_upto_region 1 with (fail);rw[HW2.out];go_upto_region 2 with (go_at_call 100;refine HAp.out.mono ?_;rintro e w3 ⟨rfl,hb3⟩;have HB3:=Qaa hb3;clear hb3);obtain⟨w4,hw4,hb4,hx4⟩:=Qag w3 #[.int .i64 x0,.int .i64 x1] 123;have HB4:=Qaa (HB2.out.trans ((HB3.out.trans (hb4.mono HB3.out.size)).mono HB2.out.size));rw[show w3.alloc (.cells #[.int .i64 x0,.int .i64 x1] 123)=w4 from hw4];obtain⟨p0,p1⟩:=ac2 hx4;clear hw4 hb4 hx4 c0 c1 c2 c3 c4 c5;go_wp2;go_ret;exact⟨rfl,HB4.out⟩
theorem QgH (w:World) (s:Sta) (hs:Qae w s) (p:Option Addr) (n c:Nat) (xs:List Tri) (hn:xs.length=n) (hnl:n≤140737488355328) (hx:Cel w p 3 (xs.map Qar)) :
  Calls Tryz.prog 59 #[.agg s.arr,.slice p n c] w fun e w'=>e=.returned (.bool (xs.all (fun x=>s.isOpen x.a)))∧Below w.heap.size w w':=by
 obtain⟨w2,hw2,hb2,hx2⟩:=Qag w s.arr 42;have HS:=Qaa (hs.below hb2);have HX:=Qaa (hx.below hb2);obtain⟨HN,HW2,HB2,HX2⟩:=hd4 hn hw2 hb2 hx2;have HC:=Qaa (fun (W:World) (hb:Below w2.heap.size w2 W) (a b d:Int)=>Qes W s (HS.out.below hb) a);clear hw2 hb2 hx2 hs hx hn;obtain⟨f,hf⟩:∃f:Tri→Bool,(fun x=>s.isOpen x.a)=f:=⟨_,rfl⟩;have HF:Hid (∀a b d,s.isOpen a=f ⟨a,b,d⟩):=fun a b d=>by rw[←hf]
 rw[hf];clear hf;go_enter Tryz.func59,Tryz.ntmps59;go_upto_region 1 with (fail);rw[HW2.out];go_wp2_with fail
 go_loopw [9] (fun i wr=>∃j:Nat,j≤n∧i=.int .i64 j∧Hid ((xs.take j).all f=true)∧Hid (Below w2.heap.size w2 wr)) (fun i _=>n - (intOf i).toNat);case atStart=>exact⟨0,Vo _,rfl,rfl,bR⟩
 case round =>
  obtain⟨j,hj,rfl,HA,HB⟩:=hrel;by_cases hlt:j<n
  ·have hlt':(j:Int)<(n:Int):=by omega
   have j0':(0:Int)≤(j:Int):=by omega
   obtain⟨x,hx⟩:∃x,xs[j]?=some x:=⟨_,gE (by rw[HN.out];exact hlt)⟩;obtain⟨b,o,rfl,hbl,hcl⟩:=(HX.out.below HB.out).get (i:=j) (r:=Qar x) (by rw[Vb,hx];rfl);obtain⟨xa,xb,xd⟩:=x;have a0:=hcl 0 _ rfl;have a1:=hcl 1 _ rfl;have a2:=hcl 2 _ rfl;rw[Vr]at a0;have HT:=Qaa (show (xs.take (j+1)).all f=((xs.take j).all f && f ⟨xa,xb,xd⟩) by rw[take_snoc hx,List.all_append];simp);have HI:=Qaa (show f ⟨xa,xb,xd⟩=false→xs.all f=false from fun h=>by rw[List.all_eq_false];exact⟨_,mG hx,by simp[h]⟩);obtain⟨w6,hw6,hb6,hx6⟩:=Qag wr #[.int .i64 xa,.int .i64 xb,.int .i64 xd] 76;have HB6:=Qaa (HB.out.trans (hb6.mono HB.out.size));obtain⟨y0,y1,y2⟩:=ac3 hx6;obtain⟨c0,c1,c2,c3,c4,c5⟩:=ac6 ((HB6.out.block _ (Qab HX2.out)).trans HX2.out);have HQ:=Qaa (HC.out w6 HB6.out xa xb xd);rw[HF.out xa xb xd]at HQ;have HW6:=Qaa hw6;clear hx hcl hw6 hb6 hx6;go_upto_region 4 with (fail);rw[HW6.out]
   cases hv:f ⟨xa,xb,xd⟩ with
   | true =>
    rw[hv]at HQ;go_wp2_with (go_at_call 116;refine HQ.out.mono ?_;rintro e w7 ⟨rfl,hb7⟩;have HB7:=Qaa (HB6.out.trans (hb7.mono HB6.out.size));clear hb7)
    go_roundw;case rel=>exact⟨j+1,by omega,by go_num,by show _=_;rw[HT.out,HA.out,hv];rfl,HB7⟩
    case measure=>simp[intOf];omega
   | false =>
    rw[hv]at HQ;have HV:=HI.out hv;clear hv;go_wp2_with (go_at_call 116;refine HQ.out.mono ?_;rintro e w7 ⟨rfl,hb7⟩;have HB7:=Qaa (HB6.out.trans (hb7.mono HB6.out.size));clear hb7)
    go_ret;try rw[HV]
    exact⟨rfl,HB2.out.trans (HB7.out.mono HB2.out.size)⟩
  ·have hlt':¬(j:Int)<(n:Int):=by omega
   have HV:xs.all f=true:=by have h:=HA.out;rw[Vh (by rw[HN.out];omega)]at h;exact h
   go_wp2;go_ret;try rw[HV]
   exact⟨rfl,HB2.out.trans (HB.out.mono HB2.out.size)⟩
theorem Qhe (w:World) (s:Sta) (hs:Qae w s) (t:Int) (p:Option Addr) (n c:Nat) (xs:List Tri) (hn:xs.length=n) (hnl:n≤140737488355328) (hx:Cel w p 3 (xs.map Qar)) :
  Calls Tryz.prog 94 #[.agg s.arr,.int .i64 t,.slice p n c] w fun e w'=>e=.returned (.bool (xs.all (fun x=>decide (x.n≤s.held t x.a x.b))))∧Below w.heap.size w w':=by
 obtain⟨w2,hw2,hb2,hx2⟩:=Qag w s.arr 42;have HS:=Qaa (hs.below hb2);have HX:=Qaa (hx.below hb2);obtain⟨HN,HW2,HB2,HX2⟩:=hd4 hn hw2 hb2 hx2;have HC:=Qaa (fun (W:World) (hb:Below w2.heap.size w2 W) (a b d:Int)=>QeL W s (HS.out.below hb) t a b d);clear hw2 hb2 hx2 hs hx hn;obtain⟨f,hf⟩:∃f:Tri→Bool,(fun x=>decide (x.n≤s.held t x.a x.b))=f:=⟨_,rfl⟩;have HF:Hid (∀a b d,decide (d≤s.held t a b)=f ⟨a,b,d⟩):=fun a b d=>by rw[←hf]
 rw[hf];clear hf;go_enter Tryz.func94,Tryz.ntmps94;go_upto_region 1 with (fail);rw[HW2.out];go_wp2_with fail
 go_loopw [11] (fun i wr=>∃j:Nat,j≤n∧i=.int .i64 j∧Hid ((xs.take j).all f=true)∧Hid (Below w2.heap.size w2 wr)) (fun i _=>n - (intOf i).toNat);case atStart=>exact⟨0,Vo _,rfl,rfl,bR⟩
 case round =>
  obtain⟨j,hj,rfl,HA,HB⟩:=hrel;by_cases hlt:j<n
  ·have hlt':(j:Int)<(n:Int):=by omega
   have j0':(0:Int)≤(j:Int):=by omega
   obtain⟨x,hx⟩:∃x,xs[j]?=some x:=⟨_,gE (by rw[HN.out];exact hlt)⟩;obtain⟨b,o,rfl,hbl,hcl⟩:=(HX.out.below HB.out).get (i:=j) (r:=Qar x) (by rw[Vb,hx];rfl);obtain⟨xa,xb,xd⟩:=x;have a0:=hcl 0 _ rfl;have a1:=hcl 1 _ rfl;have a2:=hcl 2 _ rfl;rw[Vr]at a0;have HT:=Qaa (show (xs.take (j+1)).all f=((xs.take j).all f && f ⟨xa,xb,xd⟩) by rw[take_snoc hx,List.all_append];simp);have HI:=Qaa (show f ⟨xa,xb,xd⟩=false→xs.all f=false from fun h=>by rw[List.all_eq_false];exact⟨_,mG hx,by simp[h]⟩);obtain⟨w6,hw6,hb6,hx6⟩:=Qag wr #[.int .i64 xa,.int .i64 xb,.int .i64 xd] 52;have HB6:=Qaa (HB.out.trans (hb6.mono HB.out.size));obtain⟨y0,y1,y2⟩:=ac3 hx6;obtain⟨c0,c1,c2,c3,c4,c5⟩:=ac6 ((HB6.out.block _ (Qab HX2.out)).trans HX2.out);have HQ:=Qaa (HC.out w6 HB6.out xa xb xd);rw[HF.out xa xb xd]at HQ;have HW6:=Qaa hw6;clear hx hcl hw6 hb6 hx6;go_upto_region 4 with (fail);rw[HW6.out]
   cases hv:f ⟨xa,xb,xd⟩ with
   | true =>
    rw[hv]at HQ;go_wp2_with (go_at_call 90;refine HQ.out.mono ?_;rintro e w7 ⟨rfl,hb7⟩;have HB7:=Qaa (HB6.out.trans (hb7.mono HB6.out.size));clear hb7)
    go_roundw;case rel=>exact⟨j+1,by omega,by go_num,by show _=_;rw[HT.out,HA.out,hv];rfl,HB7⟩
    case measure=>simp[intOf];omega
   | false =>
    rw[hv]at HQ;have HV:=HI.out hv;clear hv;go_wp2_with (go_at_call 90;refine HQ.out.mono ?_;rintro e w7 ⟨rfl,hb7⟩;have HB7:=Qaa (HB6.out.trans (hb7.mono HB6.out.size));clear hb7)
    go_ret;try rw[HV]
    exact⟨rfl,HB2.out.trans (HB7.out.mono HB2.out.size)⟩
  ·have hlt':¬(j:Int)<(n:Int):=by omega
   have HV:xs.all f=true:=by have h:=HA.out;rw[Vh (by rw[HN.out];omega)]at h;exact h
   go_wp2;go_ret;try rw[HV]
   exact⟨rfl,HB2.out.trans (HB.out.mono HB2.out.size)⟩
def Sta.guard (s:Sta) (k what n:Int):Bool :=
 if k=4 then Qba s.prices what && decide ((Qai s.prices ⟨0,0⟩ what).n=n)
 else if k=1 then Qba s.pools what && decide (n≤(Qai s.pools pl0 what).v)
 else if k=2 then Qba s.pools what && decide ((Qai s.pools pl0 what).v≤n)
 else if k=3 then Qba s.pools what && decide ((Qai s.pools pl0 what).v=n)
 else false
theorem Qit (w:World) (s:Sta) (hs:Qae w s) (k what n:Int) :
  Calls Tryz.prog 50 #[.agg s.arr,.agg #[.int .i64 k,.int .i64 what,.int .i64 n]] w fun e w'=>e=.returned (.bool (s.guard k what n))∧Below w.heap.size w w':=by
 obtain⟨w2,hw2,hb2,hx2,hk2⟩:=QaQ w s.arr 42 73 #[.int .i64 k,.int .i64 what,.int .i64 n];have hs2:=hs.below hb2;obtain⟨c0,c1,c2,c3,c4,c5⟩:=ac6 hx2;obtain⟨k0,k1,k2⟩:=ac3 hk2;have HAr:=Qaa (Qb6 w2 s.rp s.rn s.rc s.prices hs2.rn hs2.prices what);have HAp:=Qaa (Qde w2 s.pp s.pn s.pc s.pools hs2.pn hs2.pools what);obtain⟨HW2,HB2,HK2⟩:=Qmk hw2 hb2 hk2;unfold Sta.guard;generalize Qai s.prices ⟨0,0⟩ what=x at HAr ⊢;generalize Qba s.prices what=hq at HAr ⊢;generalize Qai s.pools pl0 what=y at HAp ⊢;generalize Qba s.pools what=hr at HAp ⊢;obtain⟨x0,x1⟩:=x;obtain⟨yv,y0,y1,yp,yl,yc,ys⟩:=y;dsimp only[Qal,plc]at HAr HAp ⊢;clear hw2 hb2 hx2 hk2 hs2 hs;by_cases g4:k=4
 ·subst g4
  rw[if_pos rfl];clear HAp;cases hq
  all_goals (
   go_enter Tryz.func50,Tryz.ntmps50;go_upto_region 1 with (fail);rw[HW2.out];go_upto_region 3 with (go_at_call 100;refine HAr.out.mono ?_;rintro e w3 ⟨rfl,hb3⟩;have HB3:=Qaa hb3;clear hb3);obtain⟨w4,hw4,hb4,hx4⟩:=Qag w3 #[.int .i64 x0,.int .i64 x1] 123;have hb24:=HB3.out.trans (hb4.mono HB3.out.size);have HB4:=Qaa (HB2.out.trans (hb24.mono HB2.out.size));rw[show w3.alloc (.cells #[.int .i64 x0,.int .i64 x1] 123)=w4 from hw4];obtain⟨p0,p1⟩:=ac2 hx4;obtain⟨l0,l1,l2⟩:=ac3 ((hb24.block _ (Qab HK2.out)).trans HK2.out);clear hw4 hb4 hx4 hb24 c0 c1 c2 c3 c4 c5 k0 k1 k2;go_wp2;go_ret;first | exact⟨rfl,HB4.out⟩ | exact⟨by simp,HB4.out⟩)
 ·rw[if_neg g4]
  clear HAr;by_cases g1:k=1
  ·subst g1
   rw[if_pos rfl];cases hr
   all_goals (
    go_enter Tryz.func50,Tryz.ntmps50;go_upto_region 1 with (fail);rw[HW2.out];go_upto_region 5 with (go_at_call 101;refine HAp.out.mono ?_;rintro e w3 ⟨rfl,hb3⟩;have HB3:=Qaa hb3;clear hb3);obtain⟨w4,hw4,hb4,hx4⟩:=Qag w3 #[.int .i64 yv,.int .i64 y0,.int .i64 y1,.slice yp yl yc] 121;have hb24:=HB3.out.trans (hb4.mono HB3.out.size);have HB4:=Qaa (HB2.out.trans (hb24.mono HB2.out.size));rw[show w3.alloc (.cells #[.int .i64 yv,.int .i64 y0,.int .i64 y1,.slice yp yl yc] 121)=w4 from hw4];obtain⟨p0,p1,p2,p3⟩:=ac4 hx4;obtain⟨l0,l1,l2⟩:=ac3 ((hb24.block _ (Qab HK2.out)).trans HK2.out);clear hw4 hb4 hx4 hb24 c0 c1 c2 c3 c4 c5 k0 k1 k2;go_wp2;go_ret;first | exact⟨rfl,HB4.out⟩ | exact⟨by simp,HB4.out⟩)
  ·rw[if_neg g1]
   by_cases g2:k=2
   ·subst g2
    rw[if_pos rfl];cases hr
    all_goals (
     go_enter Tryz.func50,Tryz.ntmps50;go_upto_region 1 with (fail);rw[HW2.out];go_upto_region 5 with (go_at_call 101;refine HAp.out.mono ?_;rintro e w3 ⟨rfl,hb3⟩;have HB3:=Qaa hb3;clear hb3);obtain⟨w4,hw4,hb4,hx4⟩:=Qag w3 #[.int .i64 yv,.int .i64 y0,.int .i64 y1,.slice yp yl yc] 121;have hb24:=HB3.out.trans (hb4.mono HB3.out.size);have HB4:=Qaa (HB2.out.trans (hb24.mono HB2.out.size));rw[show w3.alloc (.cells #[.int .i64 yv,.int .i64 y0,.int .i64 y1,.slice yp yl yc] 121)=w4 from hw4];obtain⟨p0,p1,p2,p3⟩:=ac4 hx4;obtain⟨l0,l1,l2⟩:=ac3 ((hb24.block _ (Qab HK2.out)).trans HK2.out);clear hw4 hb4 hx4 hb24 c0 c1 c2 c3 c4 c5 k0 k1 k2;go_wp2;go_ret;first | exact⟨rfl,HB4.out⟩ | exact⟨by simp,HB4.out⟩)
   ·rw[if_neg g2]
    by_cases g3:k=3
    ·subst g3
     rw[if_pos rfl];cases hr
     all_goals (
      go_enter Tryz.func50,Tryz.ntmps50;go_upto_region 1 with (fail);rw[HW2.out];go_upto_region 5 with (go_at_call 101;refine HAp.out.mono ?_;rintro e w3 ⟨rfl,hb3⟩;have HB3:=Qaa hb3;clear hb3);obtain⟨w4,hw4,hb4,hx4⟩:=Qag w3 #[.int .i64 yv,.int .i64 y0,.int .i64 y1,.slice yp yl yc] 121;have hb24:=HB3.out.trans (hb4.mono HB3.out.size);have HB4:=Qaa (HB2.out.trans (hb24.mono HB2.out.size));rw[show w3.alloc (.cells #[.int .i64 yv,.int .i64 y0,.int .i64 y1,.slice yp yl yc] 121)=w4 from hw4];obtain⟨p0,p1,p2,p3⟩:=ac4 hx4;obtain⟨l0,l1,l2⟩:=ac3 ((hb24.block _ (Qab HK2.out)).trans HK2.out);clear hw4 hb4 hx4 hb24 c0 c1 c2 c3 c4 c5 k0 k1 k2;go_wp2;go_ret;first | exact⟨rfl,HB4.out⟩ | exact⟨by simp,HB4.out⟩)
    ·rw[if_neg g3]
     all_goals (
      go_enter Tryz.func50,Tryz.ntmps50;go_upto_region 1 with (fail);rw[HW2.out];go_upto_region 5 with (go_at_call 101;refine HAp.out.mono ?_;rintro e w3 ⟨rfl,hb3⟩;have HB3:=Qaa hb3;clear hb3);obtain⟨w4,hw4,hb4,hx4⟩:=Qag w3 #[.int .i64 yv,.int .i64 y0,.int .i64 y1,.slice yp yl yc] 121;have hb24:=HB3.out.trans (hb4.mono HB3.out.size);have HB4:=Qaa (HB2.out.trans (hb24.mono HB2.out.size));rw[show w3.alloc (.cells #[.int .i64 yv,.int .i64 y0,.int .i64 y1,.slice yp yl yc] 121)=w4 from hw4];obtain⟨p0,p1,p2,p3⟩:=ac4 hx4;obtain⟨l0,l1,l2⟩:=ac3 ((hb24.block _ (Qab HK2.out)).trans HK2.out);clear hw4 hb4 hx4 hb24 c0 c1 c2 c3 c4 c5 k0 k1 k2;go_wp2;go_ret;first | exact⟨rfl,HB4.out⟩ | exact⟨by simp,HB4.out⟩)
theorem QfS (w:World) (s:Sta) (hs:Qae w s) (p:Option Addr) (n c:Nat) (xs:List Tri) (hn:xs.length=n) (hnl:n≤140737488355328) (hx:Cel w p 3 (xs.map Qar)) :
  Calls Tryz.prog 24 #[.agg s.arr,.slice p n c] w fun e w'=>e=.returned (.bool (xs.all (fun x=>s.guard x.a x.b x.n)))∧Below w.heap.size w w':=by
 obtain⟨w2,hw2,hb2,hx2⟩:=Qag w s.arr 42;have HS:=Qaa (hs.below hb2);have HX:=Qaa (hx.below hb2);obtain⟨HN,HW2,HB2,HX2⟩:=hd4 hn hw2 hb2 hx2;have HC:=Qaa (fun (W:World) (hb:Below w2.heap.size w2 W) (a b d:Int)=>Qit W s (HS.out.below hb) a b d);clear hw2 hb2 hx2 hs hx hn;obtain⟨f,hf⟩:∃f:Tri→Bool,(fun x=>s.guard x.a x.b x.n)=f:=⟨_,rfl⟩;have HF:Hid (∀a b d,s.guard a b d=f ⟨a,b,d⟩):=fun a b d=>by rw[←hf]
 rw[hf];clear hf;go_enter Tryz.func24,Tryz.ntmps24;go_upto_region 1 with (fail);rw[HW2.out];go_wp2_with fail
 go_loopw [9] (fun i wr=>∃j:Nat,j≤n∧i=.int .i64 j∧Hid ((xs.take j).all f=true)∧Hid (Below w2.heap.size w2 wr)) (fun i _=>n - (intOf i).toNat);case atStart=>exact⟨0,Vo _,rfl,rfl,bR⟩
 case round =>
  obtain⟨j,hj,rfl,HA,HB⟩:=hrel;by_cases hlt:j<n
  ·have hlt':(j:Int)<(n:Int):=by omega
   have j0':(0:Int)≤(j:Int):=by omega
   obtain⟨x,hx⟩:∃x,xs[j]?=some x:=⟨_,gE (by rw[HN.out];exact hlt)⟩;obtain⟨b,o,rfl,hbl,hcl⟩:=(HX.out.below HB.out).get (i:=j) (r:=Qar x) (by rw[Vb,hx];rfl);obtain⟨xa,xb,xd⟩:=x;have a0:=hcl 0 _ rfl;have a1:=hcl 1 _ rfl;have a2:=hcl 2 _ rfl;rw[Vr]at a0;have HT:=Qaa (show (xs.take (j+1)).all f=((xs.take j).all f && f ⟨xa,xb,xd⟩) by rw[take_snoc hx,List.all_append];simp);have HI:=Qaa (show f ⟨xa,xb,xd⟩=false→xs.all f=false from fun h=>by rw[List.all_eq_false];exact⟨_,mG hx,by simp[h]⟩);obtain⟨w6,hw6,hb6,hx6⟩:=Qag wr #[.int .i64 xa,.int .i64 xb,.int .i64 xd] 73;have HB6:=Qaa (HB.out.trans (hb6.mono HB.out.size));obtain⟨y0,y1,y2⟩:=ac3 hx6;obtain⟨c0,c1,c2,c3,c4,c5⟩:=ac6 ((HB6.out.block _ (Qab HX2.out)).trans HX2.out);have HQ:=Qaa (HC.out w6 HB6.out xa xb xd);rw[HF.out xa xb xd]at HQ;have HW6:=Qaa hw6;clear hx hcl hw6 hb6 hx6;go_upto_region 4 with (fail);rw[HW6.out]
   cases hv:f ⟨xa,xb,xd⟩ with
   | true =>
    rw[hv]at HQ;go_wp2_with (go_at_call 50;refine HQ.out.mono ?_;rintro e w7 ⟨rfl,hb7⟩;have HB7:=Qaa (HB6.out.trans (hb7.mono HB6.out.size));clear hb7)
    go_roundw;case rel=>exact⟨j+1,by omega,by go_num,by show _=_;rw[HT.out,HA.out,hv];rfl,HB7⟩
    case measure=>simp[intOf];omega
   | false =>
    rw[hv]at HQ;have HV:=HI.out hv;clear hv;go_wp2_with (go_at_call 50;refine HQ.out.mono ?_;rintro e w7 ⟨rfl,hb7⟩;have HB7:=Qaa (HB6.out.trans (hb7.mono HB6.out.size));clear hb7)
    go_ret;try rw[HV]
    exact⟨rfl,HB2.out.trans (HB7.out.mono HB2.out.size)⟩
  ·have hlt':¬(j:Int)<(n:Int):=by omega
   have HV:xs.all f=true:=by have h:=HA.out;rw[Vh (by rw[HN.out];omega)]at h;exact h
   go_wp2;go_ret;try rw[HV]
   exact⟨rfl,HB2.out.trans (HB.out.mono HB2.out.size)⟩
theorem QhW (w:World) (p:Option Addr) (n c:Nat) (ps:List Int) (hn:ps.length=n) (hc:Cel w p 1 (ps.map uc)) (i:Int) :
  Calls Tryz.prog 163 #[.slice p n c,.int .i64 i] w fun e w'=>e=.returned (.tuple #[.int .u64 (Qai ps 0 i),.bool (Qba ps i)])∧w'=w:=by
 obtain⟨HC,HN⟩:=Qmj hc hn;rcases Qdv ps n hn i with h | ⟨h,h2⟩ | ⟨k,x,rfl,hk,hx⟩
 ·obtain⟨e1,e2⟩:=Qcj (l:=ps) (z:=0) (i:=i) (Or.inl h)
  rw[e1,e2];clear e1 e2 hc hn;go_enter Tryz.func163,Tryz.ntmps163;go_wp2;refine Vg (v:=.tuple #[.int .u64 0,.bool false]) (by simp[results,Tryz.results163,go_sem]) rfl ?_;exact⟨rfl,rfl⟩
 ·obtain⟨e1,e2⟩:=Qcj (l:=ps) (z:=0) (i:=i) (Or.inr (by rw[hn];exact h2))
  rw[e1,e2];clear e1 e2 hc hn;go_enter Tryz.func163,Tryz.ntmps163;go_wp2;refine Vg (v:=.tuple #[.int .u64 0,.bool false]) (by simp[results,Tryz.results163,go_sem]) rfl ?_;exact⟨rfl,rfl⟩
 ·obtain⟨e1,e2⟩:=Qbe (z:=0) hx
  rw[e1,e2];obtain⟨b,o,rfl,hbl,hcl⟩:=HC.out.get (i:=k) (r:=uc x) (by rw[Vb,hx];rfl);have c0:=hcl 0 _ rfl;rw[Vr,Nat.mul_one]at c0;have hk':(k:Int)<(n:Int):=by omega
  have k0':¬(k:Int)<0:=by omega
  clear e1 e2 hc hn hcl hx;go_enter Tryz.func163,Tryz.ntmps163;go_wp2;refine Vg (v:=.tuple #[.int .u64 x,.bool true]) (by simp[results,Tryz.results163,go_sem]) rfl ?_;exact⟨rfl,rfl⟩
theorem Qhz (w:World) (p:Option Addr) (n c:Nat) (ps:List Bool) (hn:ps.length=n) (hc:Cel w p 1 (ps.map QdE)) (i:Int) :
  Calls Tryz.prog 164 #[.slice p n c,.int .i64 i] w fun e w'=>e=.returned (.tuple #[.bool (Qai ps false i),.bool (Qba ps i)])∧w'=w:=by
 obtain⟨HC,HN⟩:=Qmj hc hn;rcases Qdv ps n hn i with h | ⟨h,h2⟩ | ⟨k,x,rfl,hk,hx⟩
 ·obtain⟨e1,e2⟩:=Qcj (l:=ps) (z:=false) (i:=i) (Or.inl h)
  rw[e1,e2];clear e1 e2 hc hn;go_enter Tryz.func164,Tryz.ntmps164;go_wp2;refine Vg (v:=.tuple #[.bool false,.bool false]) (by simp[results,Tryz.results164,go_sem]) rfl ?_;exact⟨rfl,rfl⟩
 ·obtain⟨e1,e2⟩:=Qcj (l:=ps) (z:=false) (i:=i) (Or.inr (by rw[hn];exact h2))
  rw[e1,e2];clear e1 e2 hc hn;go_enter Tryz.func164,Tryz.ntmps164;go_wp2;refine Vg (v:=.tuple #[.bool false,.bool false]) (by simp[results,Tryz.results164,go_sem]) rfl ?_;exact⟨rfl,rfl⟩
 ·obtain⟨e1,e2⟩:=Qbe (z:=false) hx
  rw[e1,e2];obtain⟨b,o,rfl,hbl,hcl⟩:=HC.out.get (i:=k) (r:=QdE x) (by rw[Vb,hx];rfl);have c0:=hcl 0 _ rfl;rw[Vr,Nat.mul_one]at c0;have hk':(k:Int)<(n:Int):=by omega
  have k0':¬(k:Int)<0:=by omega
  clear e1 e2 hc hn hcl hx;go_enter Tryz.func164,Tryz.ntmps164;go_wp2;refine Vg (v:=.tuple #[.bool x,.bool true]) (by simp[results,Tryz.results164,go_sem]) rfl ?_;exact⟨rfl,rfl⟩
def Sta.owes (s:Sta) (t g:Int):Bool:=Qba s.gen t && decide (Qai s.gen 0 t=g) && Qai s.owed false t
theorem QkB (w:World) (s:Sta) (hs:Qae w s) (t g:Int) :
  Calls Tryz.prog 93 #[.agg s.arr,.int .i64 t,.int .u64 g] w fun e w'=>e=.returned (.bool (s.owes t g))∧Below w.heap.size w w':=by
 obtain⟨w2,hw2,hb2,hx2⟩:=Qag w s.arr 42;have hs2:=hs.below hb2;obtain⟨c0,c1,c2,c3,c4,c5⟩:=ac6 hx2;have HAg:=Qaa (QhW w2 s.gp s.gn s.gc s.gen hs2.gn hs2.gen t);have HAo:=Qaa (Qhz w2 s.op s.on s.oc s.owed hs2.on hs2.owed t);obtain⟨HW2,HB2⟩:=Qmj hw2 hb2;unfold Sta.owes;generalize Qai s.gen 0 t=x at HAg ⊢;generalize Qba s.gen t=hq at HAg ⊢;generalize Qai s.owed false t=y at HAo ⊢;generalize Qba s.owed t=hr at HAo ⊢;clear hw2 hb2 hx2 hs2 hs;by_cases hx:x=g
 ·subst hx
  rw[Vq rfl];cases hq <;> cases y
  all_goals (
   go_enter Tryz.func93,Tryz.ntmps93;go_upto_region 1 with (fail);rw[HW2.out];go_wp2_with (first | (go_at_call 163;refine HAg.out.mono ?_;rintro e w3 ⟨rfl,rfl⟩) | (go_at_call 164;refine HAo.out.mono ?_;rintro e w3 ⟨rfl,rfl⟩) | fail)
   go_ret;exact⟨rfl,HB2.out⟩)
 ·rw[Vk hx]
  cases hq <;> cases y
  all_goals (
   go_enter Tryz.func93,Tryz.ntmps93;go_upto_region 1 with (fail);rw[HW2.out];go_wp2_with (first | (go_at_call 163;refine HAg.out.mono ?_;rintro e w3 ⟨rfl,rfl⟩) | (go_at_call 164;refine HAo.out.mono ?_;rintro e w3 ⟨rfl,rfl⟩) | fail)
   go_ret;exact⟨rfl,HB2.out⟩)
theorem QiG (w:World) (s:Sta) (hs:Qae w s) (S:Nat) (a b:Int) (hS:w.heap[S]?=some (.cells s.arr 42 (0,0))) :
  Calls Tryz.prog 110 #[.agg #[.int .i64 a,.int .i64 b],.pointer (some ⟨S,0,none⟩)] w fun e w'=>e=.returned (.int .i64 (s.free a b))∧Below w.heap.size w w':=by
 obtain⟨w2,hw2,hb2,hk2⟩:=Qag w #[.int .i64 a,.int .i64 b] 175;obtain⟨c0,c1,c2,c3,c4,c5⟩:=ac6 ((hb2.block S (Qab hS)).trans hS);obtain⟨k0,k1⟩:=ac2 hk2;have HH:=Qaa (QeW w2 s (hs.below hb2) a b);obtain⟨HW2,HB2⟩:=Qmj hw2 hb2;generalize s.free a b=q at HH ⊢;clear hw2 hb2 hk2 hS hs;go_enter Tryz.func110,Tryz.ntmps110;go_upto_region 1 with (fail);rw[HW2.out];go_wp2_with (go_at_call 111;refine HH.out.mono ?_;rintro e w3 ⟨rfl,hb3⟩;have HB3:=Qaa (HB2.out.trans (hb3.mono HB2.out.size));clear hb3)
 go_ret;exact⟨rfl,HB3.out⟩
theorem Qi9 (w:World) (s:Sta) (hs:Qae w s) (S:Nat) (hS:w.heap[S]?=some (.cells s.arr 42 (0,0))) (p:Option Addr) (n c:Nat) (xs:List Lin) (hn:xs.length=n) (hnl:n≤1099511627776) (hwf:∀x∈xs,Qaw x) (hx:Cel w p 2 (xs.map Qal)) :
  Calls Tryz.prog 109 #[.slice p n c,.func (.func 110) #[] #[.pointer (some ⟨S,0,none⟩)]] w fun e w'=>e=.returned (.bool ((QaD xs).all (fun x=>decide (x.n≤s.free x.a x.b))))∧Below w.heap.size w w':=by
 have HN:=Qaa (QdQ w p n c xs hn hnl hwf (QcZ hx));obtain⟨ys,hys⟩:=exq (QaD xs);have hyl:ys.length≤1099511627776:=by rw[←hys];exact Vt (Qcx xs) (by omega)
 rw[hys]at HN ⊢;obtain⟨HSt,HS⟩:=Qmj hs hS;skip;have HKo:=Qaa (fun W a b n=>QbD W a b n);have HHo:=Qaa (fun (W:World) (hb:Below w.heap.size w W) (a b:Int)=>QiG W s (hs.below hb) S a b ((hb.block S (Qab hS)).trans hS));obtain⟨f,hf⟩:∃f:Tri→Bool,(fun x:Tri=>decide (x.n≤s.free x.a x.b))=f:=⟨_,rfl⟩;have HF:Hid (∀x:Tri,decide (x.n≤s.free x.a x.b)=f x):=fun x=>by rw[←hf]
 rw[hf];clear hf hs hS hx hwf hn hys;go_enter Tryz.func109,Tryz.ntmps109;go_wp2_with (go_at_call 52;refine HN.out.mono ?_;rintro e w1 ⟨v,rfl,hr1,hb1⟩;obtain⟨va,vc,rfl⟩:=slice_form hr1;obtain⟨HR1,HB1⟩:=Qmj hr1 hb1;clear hr1 hb1)
 go_loopw [10] (fun i wr=>∃j:Nat,j≤ys.length∧i=.int .i64 j∧Hid ((ys.take j).all f=true)∧Hid (Below w1.heap.size w1 wr)) (fun i _=>ys.length - (intOf i).toNat);case atStart=>exact⟨0,Vo _,rfl,rfl,bR⟩
 case round =>
  obtain⟨j,hj,rfl,HA,HB⟩:=hrel;by_cases hlt:j<ys.length
  ·have hlt':(j:Int)<(ys.length:Int):=by omega
   have j0':(0:Int)≤(j:Int):=by omega
   obtain⟨x,hx⟩:∃x,ys[j]?=some x:=⟨_,gE hlt⟩;obtain⟨b,o,rfl,hbl,hcl⟩:=((cel_row HR1.out).below HB.out).get (i:=j) (r:=Qar x) (by rw[Vb,hx];rfl);have HT1:=Qaa (show (ys.take (j+1)).all f=((ys.take j).all f && f x) by rw[take_snoc hx,List.all_append];simp);have HI:=Qaa (show f x=false→ys.all f=false from fun h=>by rw[List.all_eq_false];exact⟨_,mG hx,by simp[h]⟩);have HFx:=HF.out x;obtain⟨xa,xb,xd⟩:=x;dsimp only at HFx;have a0:=hcl 0 _ rfl;have a1:=hcl 1 _ rfl;have a2:=hcl 2 _ rfl;rw[Vr]at a0;obtain⟨w2,hw2,hb2',hx2⟩:=Qag wr #[.int .i64 xa,.int .i64 xb,.int .i64 xd] 52;have HB12:=Qaa (HB.out.trans (hb2'.mono HB.out.size));have HB2:=Qaa (HB1.out.trans (HB12.out.mono HB1.out.size));obtain⟨y0,y1,y2⟩:=ac3 hx2;obtain⟨HX2,HW2⟩:=Qmj hx2 hw2;have HHx:=Qaa (fun W hb=>HHo.out W hb xa xb);generalize s.free xa xb=q at HHx HFx;clear hx hcl hw2 hb2' hx2;go_upto_region 4 with (fail);rw[HW2.out];go_region_held3 (fun w'=>w'.cell? ⟨wr.heap.size,0,none⟩=some (.int .i64 xa)∧w'.cell? ⟨wr.heap.size,1,none⟩=some (.int .i64 xb)∧w'.cell? ⟨wr.heap.size,2,none⟩=some (.int .i64 xd)) (go_keep) (first | (go_at_call 110;refine(HHx.out _ HB3.out).mono ?_;rintro e w4 ⟨rfl,hb4⟩;obtain⟨z0,z1,z2⟩:=ac3 ((hb4.block _ (Qab HX3.out)).trans HX3.out);have HB4:Hid (Below w1.heap.size w1 w4):=HB13.out.trans (hb4.mono HB13.out.size);clear hb4) | (go_at_call 92;refine(HKo.out _ xa xb xd).mono ?_;rintro e w3 ⟨rfl,hb3'⟩;have hb3:Below w2.heap.size w2 w3:=⟨hb3'.os,hb3'.tape,hb3'.output,hb3'.size,hb3'.block⟩;clear hb3';have HX3:=Qaa ((hb3.block _ (Qab HX2.out)).trans HX2.out);obtain⟨z0,z1,z2⟩:=ac3 HX3.out;have HB3:Hid (Below w.heap.size w w3):=HB2.out.trans (hb3.mono HB2.out.size);have HB13:Hid (Below w1.heap.size w1 w3):=HB12.out.trans (hb3.mono HB12.out.size);clear hb3) | fail);by_cases hq:xd≤q
   ·have hq':¬q<xd:=by omega
    rw[Vq hq]at HFx;go_wp2;go_roundw;case rel=>exact⟨j+1,by omega,by go_num,by show _=_;rw[HT1.out,HA.out,←HFx];rfl,by first | exact HB4 | exact HB4.out.drew⟩
    case measure=>simp[intOf];omega
   ·have hq':q<xd:=by omega
    rw[Vk hq]at HFx;have HV:=HI.out HFx.symm;clear HFx;go_wp2;go_ret;try rw[HV]
    first | exact⟨rfl,HB1.out.trans (HB4.out.mono HB1.out.size)⟩ | exact⟨rfl,(HB1.out.trans (HB4.out.mono HB1.out.size)).drew⟩
  ·have hlt':¬(j:Int)<(ys.length:Int):=by omega
   have HV:ys.all f=true:=by have h:=HA.out;rw[Vh (by omega)]at h;exact h
   go_wp2;go_ret;try rw[HV]
   exact⟨rfl,HB1.out.trans (HB.out.mono HB1.out.size)⟩
theorem Qhw (w:World) (s:Sta) (hs:Qae w s) (t:Int) (S:Nat) (T:Nat) (a b:Int) (hS:w.heap[S]?=some (.cells s.arr 42 (0,0))) (hT:w.heap[T]?=some (.cells #[.int .i64 t] 3 (0,0))) :
  Calls Tryz.prog 112 #[.agg #[.int .i64 a,.int .i64 b],.pointer (some ⟨S,0,none⟩),.pointer (some ⟨T,0,none⟩)] w fun e w'=>e=.returned (.int .i64 (s.held t a b))∧Below w.heap.size w w':=by
 obtain⟨w2,hw2,hb2,hk2⟩:=Qag w #[.int .i64 a,.int .i64 b] 175;obtain⟨c0,c1,c2,c3,c4,c5⟩:=ac6 ((hb2.block S (Qab hS)).trans hS);obtain⟨k0,k1⟩:=ac2 hk2;have t0:w2.cell? ⟨T,0,none⟩=some (.int .i64 t):=by simp[World.cell?,(hb2.block T (Qab hT)).trans hT]
 have HH:=Qaa (QeT w2 s (hs.below hb2) t a b);obtain⟨HW2,HB2⟩:=Qmj hw2 hb2;generalize s.held t a b=q at HH ⊢;clear hw2 hb2 hk2 hS hT hs;go_enter Tryz.func112,Tryz.ntmps112;go_upto_region 1 with (fail);rw[HW2.out];go_wp2_with (go_at_call 113;refine HH.out.mono ?_;rintro e w3 ⟨rfl,hb3⟩;have HB3:=Qaa (HB2.out.trans (hb3.mono HB2.out.size));clear hb3)
 go_ret;exact⟨rfl,HB3.out⟩
theorem Qhx (w:World) (s:Sta) (hs:Qae w s) (t:Int) (S:Nat) (T:Nat) (hS:w.heap[S]?=some (.cells s.arr 42 (0,0))) (hT:w.heap[T]?=some (.cells #[.int .i64 t] 3 (0,0))) (p:Option Addr) (n c:Nat) (xs:List Lin) (hn:xs.length=n) (hnl:n≤1099511627776) (hwf:∀x∈xs,Qaw x) (hx:Cel w p 2 (xs.map Qal)) :
  Calls Tryz.prog 109 #[.slice p n c,.func (.func 112) #[] #[.pointer (some ⟨S,0,none⟩),.pointer (some ⟨T,0,none⟩)]] w fun e w'=>e=.returned (.bool ((QaD xs).all (fun x=>decide (x.n≤s.held t x.a x.b))))∧Below w.heap.size w w':=by
 have HN:=Qaa (QdQ w p n c xs hn hnl hwf (QcZ hx));obtain⟨ys,hys⟩:=exq (QaD xs);have hyl:ys.length≤1099511627776:=by rw[←hys];exact Vt (Qcx xs) (by omega)
 rw[hys]at HN ⊢;obtain⟨HSt,HS,HT⟩:=Qmk hs hS hT;have HKo:=Qaa (fun W a b n=>QbD W a b n);have HHo:=Qaa (fun (W:World) (hb:Below w.heap.size w W) (a b:Int)=>Qhw W s (hs.below hb) t S T a b ((hb.block S (Qab hS)).trans hS) ((hb.block T (Qab hT)).trans hT));obtain⟨f,hf⟩:∃f:Tri→Bool,(fun x:Tri=>decide (x.n≤s.held t x.a x.b))=f:=⟨_,rfl⟩;have HF:Hid (∀x:Tri,decide (x.n≤s.held t x.a x.b)=f x):=fun x=>by rw[←hf]
 rw[hf];clear hf hs hS hT hx hwf hn hys;go_enter Tryz.func109,Tryz.ntmps109;go_wp2_with (go_at_call 52;refine HN.out.mono ?_;rintro e w1 ⟨v,rfl,hr1,hb1⟩;obtain⟨va,vc,rfl⟩:=slice_form hr1;obtain⟨HR1,HB1⟩:=Qmj hr1 hb1;clear hr1 hb1)
 go_loopw [10] (fun i wr=>∃j:Nat,j≤ys.length∧i=.int .i64 j∧Hid ((ys.take j).all f=true)∧Hid (Below w1.heap.size w1 wr)) (fun i _=>ys.length - (intOf i).toNat);case atStart=>exact⟨0,Vo _,rfl,rfl,bR⟩
 case round =>
  obtain⟨j,hj,rfl,HA,HB⟩:=hrel;by_cases hlt:j<ys.length
  ·have hlt':(j:Int)<(ys.length:Int):=by omega
   have j0':(0:Int)≤(j:Int):=by omega
   obtain⟨x,hx⟩:∃x,ys[j]?=some x:=⟨_,gE hlt⟩;obtain⟨b,o,rfl,hbl,hcl⟩:=((cel_row HR1.out).below HB.out).get (i:=j) (r:=Qar x) (by rw[Vb,hx];rfl);have HT1:=Qaa (show (ys.take (j+1)).all f=((ys.take j).all f && f x) by rw[take_snoc hx,List.all_append];simp);have HI:=Qaa (show f x=false→ys.all f=false from fun h=>by rw[List.all_eq_false];exact⟨_,mG hx,by simp[h]⟩);have HFx:=HF.out x;obtain⟨xa,xb,xd⟩:=x;dsimp only at HFx;have a0:=hcl 0 _ rfl;have a1:=hcl 1 _ rfl;have a2:=hcl 2 _ rfl;rw[Vr]at a0;obtain⟨w2,hw2,hb2',hx2⟩:=Qag wr #[.int .i64 xa,.int .i64 xb,.int .i64 xd] 52;have HB12:=Qaa (HB.out.trans (hb2'.mono HB.out.size));have HB2:=Qaa (HB1.out.trans (HB12.out.mono HB1.out.size));obtain⟨y0,y1,y2⟩:=ac3 hx2;obtain⟨HX2,HW2⟩:=Qmj hx2 hw2;have HHx:=Qaa (fun W hb=>HHo.out W hb xa xb);generalize s.held t xa xb=q at HHx HFx;clear hx hcl hw2 hb2' hx2;go_upto_region 4 with (fail);rw[HW2.out];go_region_held3 (fun w'=>w'.cell? ⟨wr.heap.size,0,none⟩=some (.int .i64 xa)∧w'.cell? ⟨wr.heap.size,1,none⟩=some (.int .i64 xb)∧w'.cell? ⟨wr.heap.size,2,none⟩=some (.int .i64 xd)) (go_keep) (first | (go_at_call 112;refine(HHx.out _ HB3.out).mono ?_;rintro e w4 ⟨rfl,hb4⟩;obtain⟨z0,z1,z2⟩:=ac3 ((hb4.block _ (Qab HX3.out)).trans HX3.out);have HB4:Hid (Below w1.heap.size w1 w4):=HB13.out.trans (hb4.mono HB13.out.size);clear hb4) | (go_at_call 92;refine(HKo.out _ xa xb xd).mono ?_;rintro e w3 ⟨rfl,hb3'⟩;have hb3:Below w2.heap.size w2 w3:=⟨hb3'.os,hb3'.tape,hb3'.output,hb3'.size,hb3'.block⟩;clear hb3';have HX3:=Qaa ((hb3.block _ (Qab HX2.out)).trans HX2.out);obtain⟨z0,z1,z2⟩:=ac3 HX3.out;have HB3:Hid (Below w.heap.size w w3):=HB2.out.trans (hb3.mono HB2.out.size);have HB13:Hid (Below w1.heap.size w1 w3):=HB12.out.trans (hb3.mono HB12.out.size);clear hb3) | fail);by_cases hq:xd≤q
   ·have hq':¬q<xd:=by omega
    rw[Vq hq]at HFx;go_wp2;go_roundw;case rel=>exact⟨j+1,by omega,by go_num,by show _=_;rw[HT1.out,HA.out,←HFx];rfl,by first | exact HB4 | exact HB4.out.drew⟩
    case measure=>simp[intOf];omega
   ·have hq':q<xd:=by omega
    rw[Vk hq]at HFx;have HV:=HI.out HFx.symm;clear HFx;go_wp2;go_ret;try rw[HV]
    first | exact⟨rfl,HB1.out.trans (HB4.out.mono HB1.out.size)⟩ | exact⟨rfl,(HB1.out.trans (HB4.out.mono HB1.out.size)).drew⟩
  ·have hlt':¬(j:Int)<(ys.length:Int):=by omega
   have HV:ys.all f=true:=by have h:=HA.out;rw[Vh (by omega)]at h;exact h
   go_wp2;go_ret;try rw[HV]
   exact⟨rfl,HB1.out.trans (HB.out.mono HB1.out.size)⟩
theorem QeE (w:World) (s:Sta) (hs:Qae w s) (p:Option Addr) (n c:Nat) (xs:List Lin) (hn:xs.length=n) (hnl:n≤1099511627776) (hwf:∀x∈xs,Qaw x) (hx:Cel w p 2 (xs.map Qal)) :
  Calls Tryz.prog 54 #[.agg s.arr,.slice p n c] w fun e w'=>e=.returned (.bool ((QaD xs).all (fun x=>decide (x.n≤s.free x.a x.b))))∧Below w.heap.size w w':=by
 obtain⟨w2,hw2,hb2,hx2⟩:=Qag w s.arr 42;have HH:=Qaa (Qi9 w2 s (hs.below hb2) w.heap.size hx2 p n c xs hn hnl hwf (hx.below hb2));obtain⟨HW2,HB2⟩:=Qmj hw2 hb2;generalize (QaD xs).all (fun x=>decide (x.n≤s.free x.a x.b))=q at HH ⊢;clear hw2 hb2 hx2 hs hx hwf;go_enter Tryz.func54,Tryz.ntmps54;go_upto_region 1 with (fail);rw[HW2.out];go_wp2_with (go_at_call 109;refine HH.out.mono ?_;rintro e w3 ⟨rfl,hb3⟩;have HB3:=Qaa (HB2.out.trans (hb3.mono HB2.out.size));clear hb3)
 go_ret;exact⟨rfl,HB3.out⟩
theorem Qjk (w:World) (s:Sta) (hs:Qae w s) (t:Int) (p:Option Addr) (n c:Nat) (xs:List Lin) (hn:xs.length=n) (hnl:n≤1099511627776) (hwf:∀x∈xs,Qaw x) (hx:Cel w p 2 (xs.map Qal)) :
  Calls Tryz.prog 56 #[.agg s.arr,.int .i64 t,.slice p n c] w fun e w'=>e=.returned (.bool ((QaD xs).all (fun x=>decide (x.n≤s.held t x.a x.b))))∧Below w.heap.size w w':=by
 obtain⟨w2,hw2,hb2,hx2,ht2⟩:=QaQ w s.arr 42 3 #[.int .i64 t];have HH:=Qaa (Qhx w2 s (hs.below hb2) t w.heap.size (w.heap.size+1) hx2 ht2 p n c xs hn hnl hwf (hx.below hb2));obtain⟨HW2,HB2⟩:=Qmj hw2 hb2;generalize (QaD xs).all (fun x=>decide (x.n≤s.held t x.a x.b))=q at HH ⊢;clear hw2 hb2 hx2 ht2 hs hx hwf;go_enter Tryz.func56,Tryz.ntmps56;go_upto_region 1 with (fail);rw[HW2.out];go_wp2_with (go_at_call 109;refine HH.out.mono ?_;rintro e w3 ⟨rfl,hb3⟩;have HB3:=Qaa (HB2.out.trans (hb3.mono HB2.out.size));clear hb3)
 go_ret;exact⟨rfl,HB3.out⟩
theorem QdN:(Tryz.prog.info? 76).map (fun i=>(i.zero,i.size,i.bytes))=some (some (.agg #[.int .i64 0,.int .i64 0,.int .i64 0]),3,24):=by kernel_rfl
def Sta.raise (s:Sta) (x:Tri):Tri:=⟨x.a,wrap64 ((Qai s.prices ⟨0,0⟩ x.a).n+1),x.n⟩
theorem Qdi (w:World) (s:Sta) (hs:Qae w s) (p:Option Addr) (n c:Nat) (xs:List Tri) (hn:xs.length=n) (hnl:n≤1099511627776) (hx:Cel w p 3 (xs.map Qar)) :
  Calls Tryz.prog 161 #[.agg s.arr,.slice p n c] w fun e w'=>∃v,e=.returned v∧w'.ownsRow w.heap.size 76 3 v n (Qav (xs.map s.raise))∧Below w.heap.size w w':=by
 obtain⟨i0,hi,hz0,hz1,hz2⟩:=info_parts QdN;obtain⟨w2,hw2,hb2,hx2⟩:=Qag w s.arr 42;have HS:=Qaa (hs.below hb2);have HX:=Qaa (hx.below hb2);obtain⟨HN,HW2,HB2,HX2⟩:=hd4 hn hw2 hb2 hx2;have hsz:w.heap.size<w2.heap.size:=Qab hx2;clear hw2 hb2 hx2 hs hx hn;go_enter Tryz.func161,Tryz.ntmps161;go_upto_region 1 with (fail);rw[HW2.out];go_wp2_with fail
 go_loopw [5,12] (fun ov i wr=>∃j:Nat,j≤n∧i=.int .i64 j∧Hid (wr.ownsRow w2.heap.size 76 3 ov j (Qav ((xs.take j).map s.raise)))∧Hid (Below w2.heap.size w2 wr)) (fun _ i _=>n - (intOf i).toNat);case atStart=>exact⟨0,Vo _,rfl,VQ _ _ _ _,bR⟩
 case round =>
  obtain⟨j,hj,rfl,HR,HB⟩:=hrel;obtain⟨oa,oc,rfl⟩:=slice_form HR.out;by_cases hlt:j<n
  ·have hlt':(j:Int)<(n:Int):=by omega
   have j0':(0:Int)≤(j:Int):=by omega
   obtain⟨x,hx⟩:∃x,xs[j]?=some x:=⟨_,gE (by rw[HN.out];exact hlt)⟩;obtain⟨b,o,rfl,hbl,hcl⟩:=(HX.out.below HB.out).get (i:=j) (r:=Qar x) (by rw[Vb,hx];rfl);have HT:=Qaa (show (xs.take (j+1)).map s.raise=(xs.take j).map s.raise++[s.raise x] by rw[take_snoc hx];simp);obtain⟨xa,xb,xd⟩:=x;have a0:=hcl 0 _ rfl;have a1:=hcl 1 _ rfl;have a2:=hcl 2 _ rfl;rw[Vr]at a0;obtain⟨w6,hw6,hb6,hx6⟩:=Qag wr #[.int .i64 xa,.int .i64 xb,.int .i64 xd] 76;have HB6:=Qaa (HB.out.trans (hb6.mono HB.out.size));have HR6:=Qaa (RB.owns_kept' HR.out (fun g e=>hb6.block g (RB.owns_lt HR.out g e)));have HNe:Hid ((Value.slice oa j oc).ownBlock≠some wr.heap.size):=fun e=>by have:=RB.owns_lt HR.out _ e;omega
   obtain⟨y0,y1,y2⟩:=ac3 hx6;obtain⟨c0,c1,c2,c3,c4,c5⟩:=ac6 ((HB6.out.block _ (Qab HX2.out)).trans HX2.out);have hs6:=HS.out.below HB6.out;have HAp:=Qaa (Qb6 w6 s.rp s.rn s.rc s.prices hs6.rn hs6.prices xa);have HV:Hid (s.raise ⟨xa,xb,xd⟩=⟨xa,wrap64 ((Qai s.prices ⟨0,0⟩ xa).n+1),xd⟩):=rfl;generalize Qai s.prices ⟨0,0⟩ xa=q at HAp HV;generalize Qba s.prices xa=hq at HAp;obtain⟨q0,q1⟩:=q;dsimp only[Qal]at HAp HV;obtain⟨HW6,HX6⟩:=Qmj hw6 hx6;clear hx hcl hw6 hb6 hx6 hs6;go_upto_region 5 with (fail);rw[HW6.out];go_upto_region 6 with (go_at_call 100;refine HAp.out.mono ?_;rintro e w7 ⟨rfl,hb7⟩;have HB7:=Qaa hb7;clear hb7);obtain⟨w8,hw8,hb8,hx8⟩:=Qag w7 #[.int .i64 q0,.int .i64 q1] 123;have hb68:=HB7.out.trans (hb8.mono HB7.out.size);rw[show w7.alloc (.cells #[.int .i64 q0,.int .i64 q1] 123)=w8 from hw8];have HB8:=Qaa (HB6.out.trans (hb68.mono HB6.out.size));have HR8:=Qaa (RB.owns_kept' HR6.out (fun g e=>hb68.block g (RB.owns_lt HR6.out g e)));obtain⟨p0,p1⟩:=ac2 hx8;have hx68:=(hb68.block _ (Qab HX6.out)).trans HX6.out;obtain⟨z0,z1,z2⟩:=ac3 hx68;have ct:=RB.bk_thaw hx68;obtain⟨w9,hw9⟩:=exq (w8.setCell ⟨wr.heap.size,1,none⟩ (.int .i64 (wrap64 (q1+1))));have hx9:w9.heap[wr.heap.size]?=some (.cells #[.int .i64 xa,.int .i64 (wrap64 (q1+1)),.int .i64 xd] 76 (0,0)):=by rw[←hw9];exact RB.block_set hx68 _
   have HB9:Hid (Below w2.heap.size w2 w9):=by show Below _ _ _;rw[←hw9];exact HB8.out.setCell (p:=⟨wr.heap.size,1,none⟩) (HB.out.size) _
   have HR9:Hid (w9.ownsRow w2.heap.size 76 3 (.slice oa j oc) j (Qav ((xs.take j).map s.raise))):=by
    show World.ownsRow _ _ _ _ _ _ _;rw[←hw9];exact RB.owns_kept' HR8.out (fun g e=>Below.heap_setCell _ _ _ _ (fun e'=>HNe.out (by rw[e,e'])))
   obtain⟨HW9,HX9⟩:=Qmj hw9 hx9;clear hw8 hb8 hx8 hb68 hx68 hw9 hx9 HR HR6 c0 c1 c2 c3 c4 c5 y0 y1 y2 a0 a1 a2;go_upto_region 7 with (fail);rw[HW9.out];clear z0 z1 z2 ct p0 p1;obtain⟨u0,u1,u2⟩:=ac3 HX9.out;go_wp2_with (at_builtin;refine wpList_append_lies _ rfl (.tmp 28) (.tmp 30) 48 rfl w2.heap.size 76 i0 (.agg #[.int .i64 0,.int .i64 0,.int .i64 0]) 3 24 Tryz.underlying48 hi hz0 hz1 hz2 rfl (by omega) _ _ _ rfl (HR9.out.alloc _) ⟨w9.heap.size,0,none⟩ 1 1 [.int .i64 xa,.int .i64 (wrap64 (q1+1)),.int .i64 xd] rfl rfl (Qa0 _ _ _ _ _) (by simp[Value.oneCell']) (by omega) (by unfold maxLen;omega) (by omega) (by have:=HB9.out.size;simp;omega) _ rfl ?_;intro g1 c1 w3 hown3 hgrow3 hat3 hlt3;have HO3:=Qaa hown3;have HB3:Hid (Below w2.heap.size w2 w3):=(HB9.out.alloc HB9.out.size _).grown hgrow3 (by have:=HB9.out.size;simp;omega) (fun k e=>RB.owns_low HR9.out k e);clear hown3 hgrow3 hat3 hlt3)
   go_roundw;case rel=>exact⟨j+1,by omega,by go_num,by rw[HT.out,HV.out,Qbf];exact HO3,HB3⟩
   case measure=>simp[intOf];omega
  ·have hlt':¬(j:Int)<(n:Int):=by omega
   obtain rfl:j=n:=by omega
   have HRe:Hid (wr.ownsRow w2.heap.size 76 3 (.slice oa j oc) j (Qav (xs.map s.raise))):=by
    have h:=HR.out;rw[Vh (by rw[HN.out];omega)]at h;exact h
   go_wp2;go_ret;exact⟨_,rfl,Qah HRe.out (by omega),HB2.out.trans (HB.out.mono HB2.out.size)⟩
def Sta.want (s:Sta) (x:Tri):Bool:=s.isOpen x.a && (decide (x.b = -1) || decide (x.b=(Qai s.prices ⟨0,0⟩ x.a).n))
theorem QhY (w:World) (s:Sta) (hs:Qae w s) (p:Option Addr) (n c:Nat) (xs:List Tri) (hn:xs.length=n) (hnl:n≤1099511627776) (hx:Cel w p 3 (xs.map Qar)) :
  Calls Tryz.prog 200 #[.agg s.arr,.slice p n c] w fun e w'=>∃v,e=.returned v∧w'.ownsRow w.heap.size 76 3 v (xs.filter s.want).length (Qav (xs.filter s.want))∧Below w.heap.size w w':=by
 obtain⟨i0,hi,hz0,hz1,hz2⟩:=info_parts QdN;obtain⟨w2,hw2,hb2,hx2⟩:=Qag w s.arr 42;have HS:=Qaa (hs.below hb2);have HX:=Qaa (hx.below hb2);obtain⟨HN,HW2,HB2,HX2⟩:=hd4 hn hw2 hb2 hx2;have hsz:w.heap.size<w2.heap.size:=Qab hx2;clear hw2 hb2 hx2 hs hx hn;go_enter Tryz.func200,Tryz.ntmps200;go_upto_region 1 with (fail);rw[HW2.out];go_wp2_with fail
 go_loopw [5,12] (fun ov i wr=>∃j:Nat,j≤n∧i=.int .i64 j∧Hid (wr.ownsRow w2.heap.size 76 3 ov ((xs.take j).filter s.want).length (Qav ((xs.take j).filter s.want)))∧Hid (Below w2.heap.size w2 wr)) (fun _ i _=>n - (intOf i).toNat);case atStart=>exact⟨0,Vo _,rfl,VQ _ _ _ _,bR⟩
 case round =>
  obtain⟨j,hj,rfl,HR,HB⟩:=hrel;obtain⟨oa,oc,rfl⟩:=slice_form HR.out;obtain⟨ml,hmm⟩:=exq (((xs.take j).filter s.want).length);have HMm:=Qaa hmm;rw[hmm]at HR ⊢;by_cases hlt:j<n
  ·have hlt':(j:Int)<(n:Int):=by omega
   have j0':(0:Int)≤(j:Int):=by omega
   obtain⟨x,hx⟩:∃x,xs[j]?=some x:=⟨_,gE (by rw[HN.out];exact hlt)⟩;obtain⟨b,o,rfl,hbl,hcl⟩:=(HX.out.below HB.out).get (i:=j) (r:=Qar x) (by rw[Vb,hx];rfl);have HT:=Qaa (show (xs.take (j+1)).filter s.want=(xs.take j).filter s.want++(if s.want x then [x] else []) by rw[take_snoc hx,List.filter_append];simp[List.filter_cons]);have hml:((xs.take j).filter s.want).length≤j:=Vt (List.length_filter_le _ _) (by rw[List.length_take];omega);obtain⟨xa,xb,xd⟩:=x;have a0:=hcl 0 _ rfl;have a1:=hcl 1 _ rfl;have a2:=hcl 2 _ rfl;rw[Vr]at a0;obtain⟨w6,hw6,hb6,hx6⟩:=Qag wr #[.int .i64 xa,.int .i64 xb,.int .i64 xd] 76;have HB6:=Qaa (HB.out.trans (hb6.mono HB.out.size));have HR6:=Qaa (RB.owns_kept' HR.out (fun g e=>hb6.block g (RB.owns_lt HR.out g e)));have HNe:Hid ((Value.slice oa ml oc).ownBlock≠some wr.heap.size):=fun e=>by have:=RB.owns_lt HR.out _ e;omega
   obtain⟨y0,y1,y2⟩:=ac3 hx6;obtain⟨c0,c1,c2,c3,c4,c5⟩:=ac6 ((HB6.out.block _ (Qab HX2.out)).trans HX2.out);have hs6:=HS.out.below HB6.out;have HAp:=Qaa (Qb6 w6 s.rp s.rn s.rc s.prices hs6.rn hs6.prices xa);have HV:Hid (s.want ⟨xa,xb,xd⟩=(s.isOpen xa && (decide (xb = -1) || decide (xb=(Qai s.prices ⟨0,0⟩ xa).n)))):=rfl;have HIo:=Qaa (fun (W:World) (hb:Below w2.heap.size w2 W)=>Qes W s (HS.out.below hb) xa);rw[hmm]at hml;clear hmm;generalize s.isOpen xa=iso at HIo HV;generalize Qai s.prices ⟨0,0⟩ xa=q at HAp HV;generalize Qba s.prices xa=hq at HAp;obtain⟨q0,q1⟩:=q;dsimp only[Qal]at HAp HV;obtain⟨HW6,HX6⟩:=Qmj hw6 hx6;clear hx hcl hw6 hb6 hx6 hs6;go_upto_region 5 with (fail);rw[HW6.out];go_upto_region 6 with (go_at_call 100;refine HAp.out.mono ?_;rintro e w7 ⟨rfl,hb7⟩;have HB7:=Qaa hb7;clear hb7);obtain⟨w8,hw8,hb8,hx8⟩:=Qag w7 #[.int .i64 q0,.int .i64 q1] 123;have hb68:=HB7.out.trans (hb8.mono HB7.out.size);rw[show w7.alloc (.cells #[.int .i64 q0,.int .i64 q1] 123)=w8 from hw8];have HB8:=Qaa (HB6.out.trans (hb68.mono HB6.out.size));have HR8:=Qaa (RB.owns_kept' HR6.out (fun g e=>hb68.block g (RB.owns_lt HR6.out g e)));obtain⟨p0,p1⟩:=ac2 hx8;have hx68:=(hb68.block _ (Qab HX6.out)).trans HX6.out;obtain⟨z0,z1,z2⟩:=ac3 hx68;have ct:=RB.bk_thaw hx68;obtain⟨HX68,HX8⟩:=Qmj hx68 hx8;obtain⟨c0,c1,c2,c3,c4,c5⟩:=ac6 ((HB8.out.block _ (Qab HX2.out)).trans HX2.out);clear hw8 hb8 hx8 hb68 hx68 HR HR6 y0 y1 y2 a0 a1 a2 ct HNe
   cases iso with
   | false =>
    have HVf:¬s.want ⟨xa,xb,xd⟩=true:=by rw[HV.out];simp
    go_wp2_with (first | (go_at_call 116;refine(HIo.out w8 HB8.out).mono ?_;rintro e w9 ⟨rfl,hb9⟩;have HB9:=Qaa (HB8.out.trans (hb9.mono HB8.out.size));have HR9:=Qaa (RB.owns_kept' HR8.out (fun g e=>hb9.block g (RB.owns_lt HR8.out g e)));obtain⟨u0,u1,u2⟩:=ac3 ((hb9.block _ (Qab HX68.out)).trans HX68.out);obtain⟨v0,v1⟩:=ac2 ((hb9.block _ (Qab HX8.out)).trans HX8.out);clear hb9) | fail)
    go_roundw;case rel=>exact⟨j+1,by omega,by go_num,by rw[HT.out,if_neg HVf,List.append_nil,HMm.out];exact HR9,HB9⟩
    case measure=>simp[intOf];omega
   | true =>
    by_cases b1:xb = -1
    ·have HVt:s.want ⟨xa,xb,xd⟩=true:=by rw[HV.out];simp[b1]
     subst b1;go_wp2_with (first | (at_builtin;refine wpList_append_lies _ rfl (.tmp 40) (.tmp 42) 48 rfl w2.heap.size 76 i0 (.agg #[.int .i64 0,.int .i64 0,.int .i64 0]) 3 24 Tryz.underlying48 hi hz0 hz1 hz2 rfl (by omega) _ _ _ rfl (HR9.out.alloc _) ⟨w9.heap.size,0,none⟩ 1 1 [.int .i64 xa,.int .i64 (-1),.int .i64 xd] rfl rfl (Qa0 _ _ _ _ _) (by simp[Value.oneCell']) (by omega) (by unfold maxLen;omega) (by omega) (by have:=HB9.out.size;simp;omega) _ rfl ?_;intro g1 c1 w3 hown3 hgrow3 hat3 hlt3;have HO3:=Qaa hown3;have HB3:Hid (Below w2.heap.size w2 w3):=(HB9.out.alloc HB9.out.size _).grown hgrow3 (by have:=HB9.out.size;simp;omega) (fun k e=>RB.owns_low HR9.out k e);clear hown3 hgrow3 hat3 hlt3) | (go_at_call 116;refine(HIo.out w8 HB8.out).mono ?_;rintro e w9 ⟨rfl,hb9⟩;have HB9:=Qaa (HB8.out.trans (hb9.mono HB8.out.size));have HR9:=Qaa (RB.owns_kept' HR8.out (fun g e=>hb9.block g (RB.owns_lt HR8.out g e)));obtain⟨u0,u1,u2⟩:=ac3 ((hb9.block _ (Qab HX68.out)).trans HX68.out);obtain⟨v0,v1⟩:=ac2 ((hb9.block _ (Qab HX8.out)).trans HX8.out);clear hb9) | fail)
     go_roundw;case rel=>exact⟨j+1,by omega,by go_num,by rw[HT.out,if_pos HVt,VJ,HMm.out,Qbf];exact HO3,HB3⟩
     case measure=>simp[intOf];omega
    ·by_cases b2:xb=q1
     ·have HVt:s.want ⟨xa,xb,xd⟩=true:=by rw[HV.out];simp[b2]
      subst b2;go_wp2_with (first | (at_builtin;refine wpList_append_lies _ rfl (.tmp 40) (.tmp 42) 48 rfl w2.heap.size 76 i0 (.agg #[.int .i64 0,.int .i64 0,.int .i64 0]) 3 24 Tryz.underlying48 hi hz0 hz1 hz2 rfl (by omega) _ _ _ rfl (HR9.out.alloc _) ⟨w9.heap.size,0,none⟩ 1 1 [.int .i64 xa,.int .i64 xb,.int .i64 xd] rfl rfl (Qa0 _ _ _ _ _) (by simp[Value.oneCell']) (by omega) (by unfold maxLen;omega) (by omega) (by have:=HB9.out.size;simp;omega) _ rfl ?_;intro g1 c1 w3 hown3 hgrow3 hat3 hlt3;have HO3:=Qaa hown3;have HB3:Hid (Below w2.heap.size w2 w3):=(HB9.out.alloc HB9.out.size _).grown hgrow3 (by have:=HB9.out.size;simp;omega) (fun k e=>RB.owns_low HR9.out k e);clear hown3 hgrow3 hat3 hlt3) | (go_at_call 116;refine(HIo.out w8 HB8.out).mono ?_;rintro e w9 ⟨rfl,hb9⟩;have HB9:=Qaa (HB8.out.trans (hb9.mono HB8.out.size));have HR9:=Qaa (RB.owns_kept' HR8.out (fun g e=>hb9.block g (RB.owns_lt HR8.out g e)));obtain⟨u0,u1,u2⟩:=ac3 ((hb9.block _ (Qab HX68.out)).trans HX68.out);obtain⟨v0,v1⟩:=ac2 ((hb9.block _ (Qab HX8.out)).trans HX8.out);clear hb9) | fail)
      go_roundw;case rel=>exact⟨j+1,by omega,by go_num,by rw[HT.out,if_pos HVt,VJ,HMm.out,Qbf];exact HO3,HB3⟩
      case measure=>simp[intOf];omega
     ·have HVf:¬s.want ⟨xa,xb,xd⟩=true:=by rw[HV.out];simp[b1,b2]
      have b3:(xb == -1 || xb == q1)=false:=by simp[b1,b2]
      go_wp2_with (first | (go_at_call 116;refine(HIo.out w8 HB8.out).mono ?_;rintro e w9 ⟨rfl,hb9⟩;have HB9:=Qaa (HB8.out.trans (hb9.mono HB8.out.size));have HR9:=Qaa (RB.owns_kept' HR8.out (fun g e=>hb9.block g (RB.owns_lt HR8.out g e)));obtain⟨u0,u1,u2⟩:=ac3 ((hb9.block _ (Qab HX68.out)).trans HX68.out);obtain⟨v0,v1⟩:=ac2 ((hb9.block _ (Qab HX8.out)).trans HX8.out);clear hb9) | fail)
      go_roundw;case rel=>exact⟨j+1,by omega,by go_num,by rw[HT.out,if_neg HVf,List.append_nil,HMm.out];exact HR9,HB9⟩
      case measure=>simp[intOf];omega
  ·have hlt':¬(j:Int)<(n:Int):=by omega
   obtain rfl:j=n:=by omega
   have HRe:Hid (wr.ownsRow w2.heap.size 76 3 (.slice oa ml oc) (xs.filter s.want).length (Qav (xs.filter s.want))):=by
    have h:=HR.out;rw[←HMm.out,Vh (by rw[HN.out];omega)]at h;rw[←HMm.out,Vh (by rw[HN.out];omega)];exact h
   go_wp2;go_ret;exact⟨_,rfl,Qah HRe.out (by omega),HB2.out.trans (HB.out.mono HB2.out.size)⟩
@[local go_sem high]
theorem Qmd {P : Program} (w : World) (ts : Array TypeId) (t : TypeId) (k k' k'' : IntKind) (x y z : Int) :
    (Builtin.min_ ts t #[.int k x, .int k' y, .int k'' z]).run P w = .ok (.int k (min (min x y) z)) w := by
  have e : ∀ x y : Int, (if y < x then y else x) = min x y := fun x y => by
    rw [Int.min_def]
    split <;> split <;> omega
  simp [Builtin.min_, Builtin.min2, e]
theorem Qiz (w:World) (s:Sta) (hs:Qae w s) (t a b n:Int) :
  Calls Tryz.prog 88 #[.agg s.arr,.int .i64 t,.agg #[.int .i64 a,.int .i64 b,.int .i64 n]] w fun e w'=>e=.returned (.int .i64 (min n (min (s.free a b) (wrap64 (18014398509481984 - s.held t a b)))))∧Below w.heap.size w w':=by
 obtain⟨w2,hw2,hb2,hx2,hk2⟩:=QaQ w s.arr 42 52 #[.int .i64 a,.int .i64 b,.int .i64 n];obtain⟨c0,c1,c2,c3,c4,c5⟩:=ac6 hx2;obtain⟨k0,k1,k2⟩:=ac3 hk2;have HKo:=Qaa (QbD w2 a b n);have HFr:=Qaa (fun (W:World) (hb:Below w.heap.size w W)=>QeW W s (hs.below hb) a b);have HRo:=Qaa (fun (W:World) (hb:Below w.heap.size w W)=>Qdy W s (hs.below hb) t a b);obtain⟨HW2,HB2,HX2,HK2⟩:=hd4 hw2 hb2 hx2 hk2;generalize s.free a b=qf at HFr ⊢;generalize wrap64 (18014398509481984 - s.held t a b)=qr at HRo ⊢;clear hw2 hb2 hx2 hk2 hs;go_enter Tryz.func88,Tryz.ntmps88;go_upto_region 1 with (fail);rw[HW2.out];go_upto_region 2 with (go_at_call 92;refine HKo.out.mono ?_;rintro e w3 ⟨rfl,hb3⟩;have HB3:=Qaa hb3;clear hb3);obtain⟨w4,hw4,hb4,hx4⟩:=Qag w3 #[.int .i64 a,.int .i64 b] 175;have hb24:=HB3.out.trans (hb4.mono HB3.out.size);rw[show w3.alloc (.cells #[.int .i64 a,.int .i64 b] 175)=w4 from hw4];have HX4:=Qaa ((hb24.block _ (Qab HX2.out)).trans HX2.out);have HK4:=Qaa ((hb24.block _ (Qab HK2.out)).trans HK2.out);have HQ4:=Qaa hx4;have HB4:=Qaa (HB2.out.trans (hb24.mono HB2.out.size));clear c0 c1 c2 c3 c4 c5 k0 k1 k2 hw4 hb4 hx4 hb24;obtain⟨c0,c1,c2,c3,c4,c5⟩:=ac6 HX4.out;obtain⟨k0,k1,k2⟩:=ac3 HK4.out;obtain⟨l0,l1⟩:=ac2 HQ4.out;go_region_held3 (fun w'=>w'.cell? ⟨w.heap.size,0,none⟩=some (.int .u64 s.pos)∧w'.cell? ⟨w.heap.size,1,none⟩=some (.slice s.pp s.pn s.pc)∧w'.cell? ⟨w.heap.size,2,none⟩=some (.slice s.rp s.rn s.rc)∧w'.cell? ⟨w.heap.size,3,none⟩=some (.slice s.lp s.ln s.lc)∧w'.cell? ⟨w.heap.size,4,none⟩=some (.slice s.gp s.gn s.gc)∧w'.cell? ⟨w.heap.size,5,none⟩=some (.slice s.op s.on s.oc)∧w'.cell? ⟨w.heap.size+1,0,none⟩=some (.int .i64 a)∧w'.cell? ⟨w.heap.size+1,1,none⟩=some (.int .i64 b)∧w'.cell? ⟨w.heap.size+1,2,none⟩=some (.int .i64 n)∧w'.cell? ⟨w3.heap.size,0,none⟩=some (.int .i64 a)∧w'.cell? ⟨w3.heap.size,1,none⟩=some (.int .i64 b)) (go_keep) (first | (go_at_call 91;refine(HRo.out _ HB5.out).mono ?_;rintro e w6 ⟨rfl,hb6⟩;obtain⟨d0,d1,d2,d3,d4,d5⟩:=ac6 ((hb6.block _ (Qab HX5.out)).trans HX5.out);obtain⟨e0,e1,e2⟩:=ac3 ((hb6.block _ (Qab HK5.out)).trans HK5.out);obtain⟨f0,f1⟩:=ac2 ((hb6.block _ (Qab HQ5.out)).trans HQ5.out);have HB6:Hid (Below w.heap.size w w6):=HB5.out.trans (hb6.mono HB5.out.size);clear hb6) | (go_at_call 111;refine(HFr.out _ (by first | exact HB4.out | exact HB4.out.drew)).mono ?_;rintro e w5 ⟨rfl,hb5'⟩;have hb5:Below w4.heap.size w4 w5:=⟨hb5'.os,hb5'.tape,hb5'.output,hb5'.size,hb5'.block⟩;clear hb5';have HX5:=Qaa ((hb5.block _ (Qab HX4.out)).trans HX4.out);have HK5:=Qaa ((hb5.block _ (Qab HK4.out)).trans HK4.out);have HQ5:=Qaa ((hb5.block _ (Qab HQ4.out)).trans HQ4.out);obtain⟨d0,d1,d2,d3,d4,d5⟩:=ac6 HX5.out;obtain⟨e0,e1,e2⟩:=ac3 HK5.out;obtain⟨f0,f1⟩:=ac2 HQ5.out;have HB5:Hid (Below w.heap.size w w5):=HB4.out.trans (hb5.mono HB4.out.size);clear hb5) | fail);all_goals go_wp2
 all_goals go_ret
 all_goals first | exact⟨rfl,HB6.out⟩ | exact⟨rfl,HB6.out.drew⟩
end Go.Proofs.YtiogibfhafoapaaGreat
