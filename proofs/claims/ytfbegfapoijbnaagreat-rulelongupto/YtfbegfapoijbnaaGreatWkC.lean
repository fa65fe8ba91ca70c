import Derived.Laws.ResultCell
import Derived.Test.YtfbegfapoijbnaaGreatRbA
import Derived.Test.YtfbegfapoijbnaaGreatNdV
set_option maxRecDepth 100000
namespace Go.Proofs.YtfbegfapoijbnaaGreat
open Go.RowKit
theorem res_ct {fn:Func} {p u:Tmp} {ty:TypeId} (h:fn.results=#[.cell p ty,.tmp u]) (tmps:Array Value) (w:World) (g:Nat) (cs:Array Value)
  (hp:tmps.getD p undef=.pointer (some ⟨g,0,none⟩)) (hl:(loadVar ty ⟨g,0,none⟩).run Tryz.prog w=.ok (.agg cs) w) :
  (results fn tmps).run Tryz.prog w=.ok (.tuple #[.agg cs,tmps.getD u undef]) w:=by
 rw[results_cell_tmp h,hp]
 simp[asAddr,hl]
theorem ac4 {w:World} {b:Nat} {x0 x1 x2 x3:Value} {t:TypeId} (h:w.heap[b]?=some (.cells #[x0,x1,x2,x3] t (0,0))) :
  w.cell? ⟨b,0,none⟩=some x0∧w.cell? ⟨b,1,none⟩=some x1∧w.cell? ⟨b,2,none⟩=some x2∧w.cell? ⟨b,3,none⟩=some x3 :=
 ⟨by simp[World.cell?,h],by simp[World.cell?,h],by simp[World.cell?,h],by simp[World.cell?,h]⟩
set_option maxHeartbeats 1000000 in
theorem atPool_any (w:World) (P:Nat) (i0 i1 i2:Int) (s:Option Addr) (l c:Nat) (h:w.heap[P]?=some (.cells #[.int .i64 i0,.int .i64 i1,.int .i64 i2,.slice s l c] 81 (0,0))) :
  Calls Tryz.prog 61 #[.slice (some ⟨P,0,none⟩) 1 1,.int .i64 0] w fun e w'=>e=.returned (.tuple #[.agg #[.int .i64 i0,.int .i64 i1,.int .i64 i2,.slice s l c],.bool true])∧Below w.heap.size w w':=by
 have hlt:=ac_lt h
 obtain⟨w1,hw1⟩:∃w1,w.alloc (.cells #[.int .i64 0,.int .i64 0,.int .i64 0,.slice none 0 0] 81)=w1:=⟨_,rfl⟩
 have hB:Below w.heap.size w w1:=by rw[←hw1];exact(Below.refl _ _).alloc (Nat.le_refl _) _
 have hb:w1.heap[w.heap.size]?=some (.cells #[.int .i64 0,.int .i64 0,.int .i64 0,.slice none 0 0] 81 (0,0)):=by rw[←hw1];exact heap_alloc_new _ _
 obtain⟨c0,c1,c2,c3⟩:=ac4 ((hB.block P hlt).trans h)
 obtain⟨d0,d1,d2,d3⟩:=ac4 hb
 have cf:=RB.bk_thaw hb
 have HB:=hide hB
 have HW1:=hide hw1
 have HBb:=hide hb
 clear hB hw1 hb h
 go_enter Tryz.func61,Tryz.ntmps61
 go_upto_region 1 with (fail)
 rw[HW1.out]
 go_wp2
 refine bodyPost_ret (res_ct rfl _ _ w.heap.size #[.int .i64 i0,.int .i64 i1,.int .i64 i2,.slice s l c] rfl (run_loadVar_row _ _ 81 _ #[.int .i64 i0,.int .i64 i1,.int .i64 i2,.slice s l c] (0,0) _ (by rw[RB.block_set (RB.block_set (RB.block_set (RB.block_set HBb.out _) _) _) _];rfl) Tryz.underlying81 rfl (by kernel_rfl))) rfl ?_
 exact⟨rfl,(((HB.out.setCell (p:=⟨w.heap.size,0,none⟩) (Nat.le_refl _) _).setCell (p:=⟨w.heap.size,1,none⟩) (Nat.le_refl _) _).setCell (p:=⟨w.heap.size,2,none⟩) (Nat.le_refl _) _).setCell (p:=⟨w.heap.size,3,none⟩) (Nat.le_refl _) _⟩
set_option maxHeartbeats 1000000 in
theorem atWays_any (w:World) (P:Nat) (i0 i1:Int) (h:w.heap[P]?=some (.cells #[.int .i64 i0,.int .i64 i1] 78 (0,0))) :
  Calls Tryz.prog 63 #[.slice (some ⟨P,0,none⟩) 1 1,.int .i64 0] w fun e w'=>e=.returned (.tuple #[.agg #[.int .i64 i0,.int .i64 i1],.bool true])∧Below w.heap.size w w':=by
 have hlt:=ac_lt h
 obtain⟨w1,hw1⟩:∃w1,w.alloc (.cells #[.int .i64 0,.int .i64 0] 78)=w1:=⟨_,rfl⟩
 have hB:Below w.heap.size w w1:=by rw[←hw1];exact(Below.refl _ _).alloc (Nat.le_refl _) _
 have hb:w1.heap[w.heap.size]?=some (.cells #[.int .i64 0,.int .i64 0] 78 (0,0)):=by rw[←hw1];exact heap_alloc_new _ _
 obtain⟨c0,c1⟩:=ac2 ((hB.block P hlt).trans h)
 obtain⟨d0,d1⟩:=ac2 hb
 have cf:=RB.bk_thaw hb
 have HB:=hide hB
 have HW1:=hide hw1
 have HBb:=hide hb
 clear hB hw1 hb h
 go_enter Tryz.func63,Tryz.ntmps63
 go_upto_region 1 with (fail)
 rw[HW1.out]
 go_wp2
 refine bodyPost_ret (res_ct rfl _ _ w.heap.size #[.int .i64 i0,.int .i64 i1] rfl (run_loadVar_row _ _ 78 _ #[.int .i64 i0,.int .i64 i1] (0,0) _ (by rw[RB.block_set (RB.block_set HBb.out _) _];rfl) Tryz.underlying78 rfl (by kernel_rfl))) rfl ?_
 exact⟨rfl,(HB.out.setCell (p:=⟨w.heap.size,0,none⟩) (Nat.le_refl _) _).setCell (p:=⟨w.heap.size,1,none⟩) (Nat.le_refl _) _⟩
set_option maxHeartbeats 1000000 in
theorem atInt_any (w:World) (P:Nat) (i0 i1:Int) (h:w.heap[P]?=some (.cells #[.int .i64 i0,.int .i64 i1] 78 (0,0))) :
  Calls Tryz.prog 62 #[.slice (some ⟨P,0,none⟩) 2 2,.int .i64 0] w fun e w'=>e=.returned (.tuple #[.int .i64 i0,.bool true])∧w'=w:=by
 obtain⟨c0,c1⟩:=ac2 h
 clear h
 go_enter Tryz.func62,Tryz.ntmps62
 go_wp2
 refine bodyPost_ret (v:=.tuple #[.int .i64 i0,.bool true]) (by simp[results,Tryz.results62,go_sem]) rfl ?_
 exact⟨rfl,rfl⟩
end Go.Proofs.YtfbegfapoijbnaaGreat
namespace Go.Proofs.YtfbegfapoijbnaaGreat
open Go.RowKit
structure Pl where
 v:Int
 f0:Int
 f1:Int
 hp:Option Addr
 hl:Nat
 hc:Nat
 hs:List Lin
def plc (x:Pl):List Value:=[.int .i64 x.v,.int .i64 x.f0,.int .i64 x.f1,.slice x.hp x.hl x.hc]
def pl0:Pl:=⟨0,0,0,none,0,0,[]⟩
def hasAt {α:Type} (l:List α) (i:Int):Bool:=decide (0≤i∧i<l.length)
def getAt {α:Type} (l:List α) (z:α) (i:Int):α:=if 0≤i then l.getD i.toNat z else z
theorem at_in {α:Type} {l:List α} {z x:α} {k:Nat} (h:l[k]?=some x):hasAt l (k:Int)=true∧getAt l z (k:Int)=x:=by
 have hk:=(List.getElem?_eq_some_iff.1 h).1
 constructor
 ·simp[hasAt];omega
 ·simp[getAt,h]
theorem at_out {α:Type} {l:List α} {z:α} {i:Int} (h:i<0∨(l.length:Int)≤i):hasAt l i=false∧getAt l z i=z:=by
 constructor
 ·simp[hasAt];omega
 ·unfold getAt
  split
  ·rcases h with h | h
   ·omega
   ·simp[List.getElem?_eq_none (show l.length≤i.toNat by omega)]
  ·rfl
theorem at_case {α:Type} (l:List α) (n:Nat) (hn:l.length=n) (i:Int):(i<0)∨(¬i<0∧(n:Int)≤i)∨(∃(k:Nat) (x:α),i=(k:Int)∧k<n∧l[k]?=some x):=by
 by_cases h:i<0
 ·exact Or.inl h
 ·by_cases h2:(n:Int)≤i
  ·exact Or.inr (Or.inl ⟨h,h2⟩)
  ·refine Or.inr (Or.inr ⟨i.toNat,l[i.toNat]'(by omega),by omega,by omega,List.getElem?_eq_getElem _⟩)
set_option maxHeartbeats 1000000 in
theorem atPool_gen (w:World) (p:Option Addr) (n c:Nat) (ps:List Pl) (hn:ps.length=n) (hc:Cel w p 4 (ps.map plc)) (i:Int) :
  Calls Tryz.prog 61 #[.slice p n c,.int .i64 i] w fun e w'=>e=.returned (.tuple #[.agg (plc (getAt ps pl0 i)).toArray,.bool (hasAt ps i)])∧Below w.heap.size w w':=by
 obtain⟨w1,hw1⟩:∃w1,w.alloc (.cells #[.int .i64 0,.int .i64 0,.int .i64 0,.slice none 0 0] 81)=w1:=⟨_,rfl⟩
 have hB:Below w.heap.size w w1:=by rw[←hw1];exact(Below.refl _ _).alloc (Nat.le_refl _) _
 have hb:w1.heap[w.heap.size]?=some (.cells #[.int .i64 0,.int .i64 0,.int .i64 0,.slice none 0 0] 81 (0,0)):=by rw[←hw1];exact heap_alloc_new _ _
 obtain⟨w2,hw2⟩:∃w2,w1.alloc (.cells #[.int .i64 0,.int .i64 0,.int .i64 0,.slice none 0 0] 81)=w2:=⟨_,rfl⟩
 have HB2:Hid (Below w.heap.size w w2):=by show Below _ _ _;rw[←hw2];exact hB.alloc hB.size _
 have hbc:w2.heap[w.heap.size]?=some (.cells #[.int .i64 0,.int .i64 0,.int .i64 0,.slice none 0 0] 81 (0,0)):=by rw[←hw2];exact(Below.heap_alloc _ _ _ (ac_lt hb)).trans hb
 have HG:=hide (ac4 (show w2.heap[w1.heap.size]?=some (.cells #[.int .i64 0,.int .i64 0,.int .i64 0,.slice none 0 0] 81 (0,0)) by rw[←hw2];exact heap_alloc_new _ _))
 have HD:=hide (ac4 hbc)
 have HBc:=hide hbc
 have HW2:=hide hw2
 obtain⟨d0,d1,d2,d3⟩:=ac4 hb
 have cf:=RB.bk_thaw hb
 have HB:=hide hB
 have HW1:=hide hw1
 have HBb:=hide hb
 have HC:=hide (hc.below hB)
 have HN:=hide hn
 clear hbc hw2
 rcases at_case ps n hn i with h | ⟨h,h2⟩ | ⟨k,x,rfl,hk,hx⟩
 ·skip
  obtain⟨e1,e2⟩:=at_out (l:=ps) (z:=pl0) (i:=i) (Or.inl h)
  have HE:=hide (And.intro e1 e2)
  clear e1 e2 hB hw1 hb hc hn
  go_enter Tryz.func61,Tryz.ntmps61
  go_upto_region 1 with (fail)
  rw[HW1.out]
  clear d0 d1 d2 d3 cf
  go_upto_region 3 with (fail)
  rw[HW2.out]
  have cf:=RB.bk_thaw HBc.out
  obtain⟨d0,d1,d2,d3⟩:=HD.out
  obtain⟨g0,g1,g2,g3⟩:=HG.out
  go_wp2
  refine bodyPost_ret (res_ct rfl _ _ w.heap.size #[.int .i64 0,.int .i64 0,.int .i64 0,.slice none 0 0] rfl (run_loadVar_row _ _ 81 _ #[.int .i64 0,.int .i64 0,.int .i64 0,.slice none 0 0] (0,0) _ (by rw[RB.block_set (RB.block_set (RB.block_set (RB.block_set HBc.out _) _) _) _];rfl) Tryz.underlying81 rfl (by kernel_rfl))) rfl ?_
  rw[HE.out.1,HE.out.2]
  exact⟨rfl,(((HB2.out.setCell (p:=⟨w.heap.size,0,none⟩) (Nat.le_refl _) _).setCell (p:=⟨w.heap.size,1,none⟩) (Nat.le_refl _) _).setCell (p:=⟨w.heap.size,2,none⟩) (Nat.le_refl _) _).setCell (p:=⟨w.heap.size,3,none⟩) (Nat.le_refl _) _⟩
 ·skip
  obtain⟨e1,e2⟩:=at_out (l:=ps) (z:=pl0) (i:=i) (Or.inr (by rw[hn];exact h2))
  have HE:=hide (And.intro e1 e2)
  clear e1 e2 hB hw1 hb hc hn
  go_enter Tryz.func61,Tryz.ntmps61
  go_upto_region 1 with (fail)
  rw[HW1.out]
  clear d0 d1 d2 d3 cf
  go_upto_region 3 with (fail)
  rw[HW2.out]
  have cf:=RB.bk_thaw HBc.out
  obtain⟨d0,d1,d2,d3⟩:=HD.out
  obtain⟨g0,g1,g2,g3⟩:=HG.out
  go_wp2
  refine bodyPost_ret (res_ct rfl _ _ w.heap.size #[.int .i64 0,.int .i64 0,.int .i64 0,.slice none 0 0] rfl (run_loadVar_row _ _ 81 _ #[.int .i64 0,.int .i64 0,.int .i64 0,.slice none 0 0] (0,0) _ (by rw[RB.block_set (RB.block_set (RB.block_set (RB.block_set HBc.out _) _) _) _];rfl) Tryz.underlying81 rfl (by kernel_rfl))) rfl ?_
  rw[HE.out.1,HE.out.2]
  exact⟨rfl,(((HB2.out.setCell (p:=⟨w.heap.size,0,none⟩) (Nat.le_refl _) _).setCell (p:=⟨w.heap.size,1,none⟩) (Nat.le_refl _) _).setCell (p:=⟨w.heap.size,2,none⟩) (Nat.le_refl _) _).setCell (p:=⟨w.heap.size,3,none⟩) (Nat.le_refl _) _⟩
 ·obtain⟨e1,e2⟩:=at_in (z:=pl0) hx
  have HE:=hide (And.intro e1 e2)
  obtain⟨b,o,rfl,hbl,hcl⟩:=HC.out.get (i:=k) (r:=plc x) (by rw[List.getElem?_map,hx];rfl)
  obtain⟨xv,x0,x1,xp,xl,xc,xs⟩:=x
  have c0:=hcl 0 _ rfl
  have c1:=hcl 1 _ rfl
  have c2:=hcl 2 _ rfl
  have c3:=hcl 3 _ rfl
  rw[Nat.add_zero]at c0
  have hk':(k:Int)<(n:Int):=by omega
  have k0':¬(k:Int)<0:=by omega
  clear e1 e2 hB hw1 hb hc hn hcl hx HW2 HBc HD HG HB2
  go_enter Tryz.func61,Tryz.ntmps61
  go_upto_region 1 with (fail)
  rw[HW1.out]
  go_wp2
  refine bodyPost_ret (res_ct rfl _ _ w.heap.size #[.int .i64 xv,.int .i64 x0,.int .i64 x1,.slice xp xl xc] rfl (run_loadVar_row _ _ 81 _ #[.int .i64 xv,.int .i64 x0,.int .i64 x1,.slice xp xl xc] (0,0) _ (by rw[RB.block_set (RB.block_set (RB.block_set (RB.block_set HBb.out _) _) _) _];rfl) Tryz.underlying81 rfl (by kernel_rfl))) rfl ?_
  rw[HE.out.1,HE.out.2]
  exact⟨rfl,(((HB.out.setCell (p:=⟨w.heap.size,0,none⟩) (Nat.le_refl _) _).setCell (p:=⟨w.heap.size,1,none⟩) (Nat.le_refl _) _).setCell (p:=⟨w.heap.size,2,none⟩) (Nat.le_refl _) _).setCell (p:=⟨w.heap.size,3,none⟩) (Nat.le_refl _) _⟩
set_option maxHeartbeats 1000000 in
theorem atWays_gen (w:World) (p:Option Addr) (n c:Nat) (ps:List Lin) (hn:ps.length=n) (hc:Cel w p 2 (ps.map linc)) (i:Int) :
  Calls Tryz.prog 63 #[.slice p n c,.int .i64 i] w fun e w'=>e=.returned (.tuple #[.agg (linc (getAt ps ⟨0,0⟩ i)).toArray,.bool (hasAt ps i)])∧Below w.heap.size w w':=by
 obtain⟨w1,hw1⟩:∃w1,w.alloc (.cells #[.int .i64 0,.int .i64 0] 78)=w1:=⟨_,rfl⟩
 have hB:Below w.heap.size w w1:=by rw[←hw1];exact(Below.refl _ _).alloc (Nat.le_refl _) _
 have hb:w1.heap[w.heap.size]?=some (.cells #[.int .i64 0,.int .i64 0] 78 (0,0)):=by rw[←hw1];exact heap_alloc_new _ _
 obtain⟨w2,hw2⟩:∃w2,w1.alloc (.cells #[.int .i64 0,.int .i64 0] 78)=w2:=⟨_,rfl⟩
 have HB2:Hid (Below w.heap.size w w2):=by show Below _ _ _;rw[←hw2];exact hB.alloc hB.size _
 have hbc:w2.heap[w.heap.size]?=some (.cells #[.int .i64 0,.int .i64 0] 78 (0,0)):=by rw[←hw2];exact(Below.heap_alloc _ _ _ (ac_lt hb)).trans hb
 have HG:=hide (ac2 (show w2.heap[w1.heap.size]?=some (.cells #[.int .i64 0,.int .i64 0] 78 (0,0)) by rw[←hw2];exact heap_alloc_new _ _))
 have HD:=hide (ac2 hbc)
 have HBc:=hide hbc
 have HW2:=hide hw2
 obtain⟨d0,d1⟩:=ac2 hb
 have cf:=RB.bk_thaw hb
 have HB:=hide hB
 have HW1:=hide hw1
 have HBb:=hide hb
 have HC:=hide (hc.below hB)
 have HN:=hide hn
 clear hbc hw2
 rcases at_case ps n hn i with h | ⟨h,h2⟩ | ⟨k,x,rfl,hk,hx⟩
 ·skip
  obtain⟨e1,e2⟩:=at_out (l:=ps) (z:=⟨0,0⟩) (i:=i) (Or.inl h)
  have HE:=hide (And.intro e1 e2)
  clear e1 e2 hB hw1 hb hc hn
  go_enter Tryz.func63,Tryz.ntmps63
  go_upto_region 1 with (fail)
  rw[HW1.out]
  clear d0 d1 cf
  go_upto_region 3 with (fail)
  rw[HW2.out]
  have cf:=RB.bk_thaw HBc.out
  obtain⟨d0,d1⟩:=HD.out
  obtain⟨g0,g1⟩:=HG.out
  go_wp2
  refine bodyPost_ret (res_ct rfl _ _ w.heap.size #[.int .i64 0,.int .i64 0] rfl (run_loadVar_row _ _ 78 _ #[.int .i64 0,.int .i64 0] (0,0) _ (by rw[RB.block_set (RB.block_set HBc.out _) _];rfl) Tryz.underlying78 rfl (by kernel_rfl))) rfl ?_
  rw[HE.out.1,HE.out.2]
  exact⟨rfl,(HB2.out.setCell (p:=⟨w.heap.size,0,none⟩) (Nat.le_refl _) _).setCell (p:=⟨w.heap.size,1,none⟩) (Nat.le_refl _) _⟩
 ·skip
  obtain⟨e1,e2⟩:=at_out (l:=ps) (z:=⟨0,0⟩) (i:=i) (Or.inr (by rw[hn];exact h2))
  have HE:=hide (And.intro e1 e2)
  clear e1 e2 hB hw1 hb hc hn
  go_enter Tryz.func63,Tryz.ntmps63
  go_upto_region 1 with (fail)
  rw[HW1.out]
  clear d0 d1 cf
  go_upto_region 3 with (fail)
  rw[HW2.out]
  have cf:=RB.bk_thaw HBc.out
  obtain⟨d0,d1⟩:=HD.out
  obtain⟨g0,g1⟩:=HG.out
  go_wp2
  refine bodyPost_ret (res_ct rfl _ _ w.heap.size #[.int .i64 0,.int .i64 0] rfl (run_loadVar_row _ _ 78 _ #[.int .i64 0,.int .i64 0] (0,0) _ (by rw[RB.block_set (RB.block_set HBc.out _) _];rfl) Tryz.underlying78 rfl (by kernel_rfl))) rfl ?_
  rw[HE.out.1,HE.out.2]
  exact⟨rfl,(HB2.out.setCell (p:=⟨w.heap.size,0,none⟩) (Nat.le_refl _) _).setCell (p:=⟨w.heap.size,1,none⟩) (Nat.le_refl _) _⟩
 ·obtain⟨e1,e2⟩:=at_in (z:=⟨0,0⟩) hx
  have HE:=hide (And.intro e1 e2)
  obtain⟨b,o,rfl,hbl,hcl⟩:=HC.out.get (i:=k) (r:=linc x) (by rw[List.getElem?_map,hx];rfl)
  obtain⟨xc,xn⟩:=x
  have c0:=hcl 0 _ rfl
  have c1:=hcl 1 _ rfl
  rw[Nat.add_zero]at c0
  have hk':(k:Int)<(n:Int):=by omega
  have k0':¬(k:Int)<0:=by omega
  clear e1 e2 hB hw1 hb hc hn hcl hx HW2 HBc HD HG HB2
  go_enter Tryz.func63,Tryz.ntmps63
  go_upto_region 1 with (fail)
  rw[HW1.out]
  go_wp2
  refine bodyPost_ret (res_ct rfl _ _ w.heap.size #[.int .i64 xc,.int .i64 xn] rfl (run_loadVar_row _ _ 78 _ #[.int .i64 xc,.int .i64 xn] (0,0) _ (by rw[RB.block_set (RB.block_set HBb.out _) _];rfl) Tryz.underlying78 rfl (by kernel_rfl))) rfl ?_
  rw[HE.out.1,HE.out.2]
  exact⟨rfl,(HB.out.setCell (p:=⟨w.heap.size,0,none⟩) (Nat.le_refl _) _).setCell (p:=⟨w.heap.size,1,none⟩) (Nat.le_refl _) _⟩
set_option maxHeartbeats 1000000 in
theorem atPrice_gen (w:World) (p:Option Addr) (n c:Nat) (ps:List Lin) (hn:ps.length=n) (hc:Cel w p 2 (ps.map linc)) (i:Int) :
  Calls Tryz.prog 71 #[.slice p n c,.int .i64 i] w fun e w'=>e=.returned (.tuple #[.agg (linc (getAt ps ⟨0,0⟩ i)).toArray,.bool (hasAt ps i)])∧Below w.heap.size w w':=by
 obtain⟨w1,hw1⟩:∃w1,w.alloc (.cells #[.int .i64 0,.int .i64 0] 83)=w1:=⟨_,rfl⟩
 have hB:Below w.heap.size w w1:=by rw[←hw1];exact(Below.refl _ _).alloc (Nat.le_refl _) _
 have hb:w1.heap[w.heap.size]?=some (.cells #[.int .i64 0,.int .i64 0] 83 (0,0)):=by rw[←hw1];exact heap_alloc_new _ _
 obtain⟨w2,hw2⟩:∃w2,w1.alloc (.cells #[.int .i64 0,.int .i64 0] 83)=w2:=⟨_,rfl⟩
 have HB2:Hid (Below w.heap.size w w2):=by show Below _ _ _;rw[←hw2];exact hB.alloc hB.size _
 have hbc:w2.heap[w.heap.size]?=some (.cells #[.int .i64 0,.int .i64 0] 83 (0,0)):=by rw[←hw2];exact(Below.heap_alloc _ _ _ (ac_lt hb)).trans hb
 have HG:=hide (ac2 (show w2.heap[w1.heap.size]?=some (.cells #[.int .i64 0,.int .i64 0] 83 (0,0)) by rw[←hw2];exact heap_alloc_new _ _))
 have HD:=hide (ac2 hbc)
 have HBc:=hide hbc
 have HW2:=hide hw2
 obtain⟨d0,d1⟩:=ac2 hb
 have cf:=RB.bk_thaw hb
 have HB:=hide hB
 have HW1:=hide hw1
 have HBb:=hide hb
 have HC:=hide (hc.below hB)
 have HN:=hide hn
 clear hbc hw2
 rcases at_case ps n hn i with h | ⟨h,h2⟩ | ⟨k,x,rfl,hk,hx⟩
 ·skip
  obtain⟨e1,e2⟩:=at_out (l:=ps) (z:=⟨0,0⟩) (i:=i) (Or.inl h)
  have HE:=hide (And.intro e1 e2)
  clear e1 e2 hB hw1 hb hc hn
  go_enter Tryz.func71,Tryz.ntmps71
  go_upto_region 1 with (fail)
  rw[HW1.out]
  clear d0 d1 cf
  go_upto_region 3 with (fail)
  rw[HW2.out]
  have cf:=RB.bk_thaw HBc.out
  obtain⟨d0,d1⟩:=HD.out
  obtain⟨g0,g1⟩:=HG.out
  go_wp2
  refine bodyPost_ret (res_ct rfl _ _ w.heap.size #[.int .i64 0,.int .i64 0] rfl (run_loadVar_row _ _ 83 _ #[.int .i64 0,.int .i64 0] (0,0) _ (by rw[RB.block_set (RB.block_set HBc.out _) _];rfl) Tryz.underlying83 rfl (by kernel_rfl))) rfl ?_
  rw[HE.out.1,HE.out.2]
  exact⟨rfl,(HB2.out.setCell (p:=⟨w.heap.size,0,none⟩) (Nat.le_refl _) _).setCell (p:=⟨w.heap.size,1,none⟩) (Nat.le_refl _) _⟩
 ·skip
  obtain⟨e1,e2⟩:=at_out (l:=ps) (z:=⟨0,0⟩) (i:=i) (Or.inr (by rw[hn];exact h2))
  have HE:=hide (And.intro e1 e2)
  clear e1 e2 hB hw1 hb hc hn
  go_enter Tryz.func71,Tryz.ntmps71
  go_upto_region 1 with (fail)
  rw[HW1.out]
  clear d0 d1 cf
  go_upto_region 3 with (fail)
  rw[HW2.out]
  have cf:=RB.bk_thaw HBc.out
  obtain⟨d0,d1⟩:=HD.out
  obtain⟨g0,g1⟩:=HG.out
  go_wp2
  refine bodyPost_ret (res_ct rfl _ _ w.heap.size #[.int .i64 0,.int .i64 0] rfl (run_loadVar_row _ _ 83 _ #[.int .i64 0,.int .i64 0] (0,0) _ (by rw[RB.block_set (RB.block_set HBc.out _) _];rfl) Tryz.underlying83 rfl (by kernel_rfl))) rfl ?_
  rw[HE.out.1,HE.out.2]
  exact⟨rfl,(HB2.out.setCell (p:=⟨w.heap.size,0,none⟩) (Nat.le_refl _) _).setCell (p:=⟨w.heap.size,1,none⟩) (Nat.le_refl _) _⟩
 ·obtain⟨e1,e2⟩:=at_in (z:=⟨0,0⟩) hx
  have HE:=hide (And.intro e1 e2)
  obtain⟨b,o,rfl,hbl,hcl⟩:=HC.out.get (i:=k) (r:=linc x) (by rw[List.getElem?_map,hx];rfl)
  obtain⟨xc,xn⟩:=x
  have c0:=hcl 0 _ rfl
  have c1:=hcl 1 _ rfl
  rw[Nat.add_zero]at c0
  have hk':(k:Int)<(n:Int):=by omega
  have k0':¬(k:Int)<0:=by omega
  clear e1 e2 hB hw1 hb hc hn hcl hx HW2 HBc HD HG HB2
  go_enter Tryz.func71,Tryz.ntmps71
  go_upto_region 1 with (fail)
  rw[HW1.out]
  go_wp2
  refine bodyPost_ret (res_ct rfl _ _ w.heap.size #[.int .i64 xc,.int .i64 xn] rfl (run_loadVar_row _ _ 83 _ #[.int .i64 xc,.int .i64 xn] (0,0) _ (by rw[RB.block_set (RB.block_set HBb.out _) _];rfl) Tryz.underlying83 rfl (by kernel_rfl))) rfl ?_
  rw[HE.out.1,HE.out.2]
  exact⟨rfl,(HB.out.setCell (p:=⟨w.heap.size,0,none⟩) (Nat.le_refl _) _).setCell (p:=⟨w.heap.size,1,none⟩) (Nat.le_refl _) _⟩
end Go.Proofs.YtfbegfapoijbnaaGreat
namespace Go.Proofs.YtfbegfapoijbnaaGreat
open Go.RowKit
def Sv (P A B C:Nat):Value:=.agg #[.int .u64 0,.slice (some ⟨P,0,none⟩) 1 1,.slice none 0 0,.slice (some ⟨A,0,none⟩) 1 1,.slice (some ⟨B,0,none⟩) 1 1,.slice (some ⟨C,0,none⟩) 1 1]
structure Sok (w:World) (P H:Nat):Prop where
 pool:w.heap[P]?=some (.cells #[.int .i64 6,.int .i64 5,.int .i64 4,.slice (some ⟨H,0,none⟩) 1 1] 81 (0,0))
 held:w.heap[H]?=some (.cells #[.int .i64 1,.int .i64 0] 78 (0,0))
theorem Sok.below {w w':World} {P H:Nat} (h:Sok w P H) {n:Nat} (hb:Below n w w') (hn:w.heap.size≤n):Sok w' P H :=
 ⟨(hb.block P (Nat.lt_of_lt_of_le (ac_lt h.pool) hn)).trans h.pool,(hb.block H (Nat.lt_of_lt_of_le (ac_lt h.held) hn)).trans h.held⟩
theorem ac6 {w:World} {b:Nat} {x0 x1 x2 x3 x4 x5:Value} {t:TypeId} (h:w.heap[b]?=some (.cells #[x0,x1,x2,x3,x4,x5] t (0,0))) :
  w.cell? ⟨b,0,none⟩=some x0∧w.cell? ⟨b,1,none⟩=some x1∧w.cell? ⟨b,2,none⟩=some x2∧w.cell? ⟨b,3,none⟩=some x3∧w.cell? ⟨b,4,none⟩=some x4∧w.cell? ⟨b,5,none⟩=some x5 :=
 ⟨by simp[World.cell?,h],by simp[World.cell?,h],by simp[World.cell?,h],by simp[World.cell?,h],by simp[World.cell?,h],by simp[World.cell?,h]⟩
set_option maxHeartbeats 2000000 in
theorem held_one (w:World) (P H A B C:Nat) (hs:Sok w P H) :
  Calls Tryz.prog 35 #[Sv P A B C,.int .i64 0,.agg #[.int .i64 0,.int .i64 0]] w fun e w'=>e=.returned (.int .i64 1)∧Below w.heap.size w w':=by
 unfold Sv
 obtain⟨w2,hw2⟩:∃w2,(w.alloc (.cells #[.int .u64 0,.slice (some ⟨P,0,none⟩) 1 1,.slice none 0 0,.slice (some ⟨A,0,none⟩) 1 1,.slice (some ⟨B,0,none⟩) 1 1,.slice (some ⟨C,0,none⟩) 1 1] 45)).alloc (.cells #[.int .i64 0,.int .i64 0] 104)=w2:=⟨_,rfl⟩
 have hb2:Below w.heap.size w w2:=by rw[←hw2];exact((Below.refl _ _).alloc (Nat.le_refl _) _).alloc (by simp) _
 have hx2:w2.heap[w.heap.size]?=some (.cells #[.int .u64 0,.slice (some ⟨P,0,none⟩) 1 1,.slice none 0 0,.slice (some ⟨A,0,none⟩) 1 1,.slice (some ⟨B,0,none⟩) 1 1,.slice (some ⟨C,0,none⟩) 1 1] 45 (0,0)):=by rw[←hw2];exact(Below.heap_alloc _ _ _ (by simp)).trans (heap_alloc_new _ _)
 have hk2:w2.heap[w.heap.size+1]?=some (.cells #[.int .i64 0,.int .i64 0] 104 (0,0)):=by rw[←hw2];have h:=heap_alloc_new (w.alloc (.cells #[.int .u64 0,.slice (some ⟨P,0,none⟩) 1 1,.slice none 0 0,.slice (some ⟨A,0,none⟩) 1 1,.slice (some ⟨B,0,none⟩) 1 1,.slice (some ⟨C,0,none⟩) 1 1] 45)) (.cells #[.int .i64 0,.int .i64 0] 104);rw[World.size_alloc]at h;exact h
 have hs2:=hs.below hb2 (Nat.le_refl _)
 obtain⟨c0,c1,c2,c3,c4,c5⟩:=ac6 hx2
 obtain⟨k0,k1⟩:=ac2 hk2
 have HW2:=hide hw2
 have HB2:=hide hb2
 have HK2:=hide hk2
 have HS2:=hide hs2
 have HAp:=hide (atPool_any w2 P 6 5 4 (some ⟨H,0,none⟩) 1 1 hs2.pool)
 clear hw2 hb2 hx2 hk2 hs2 hs
 go_enter Tryz.func35,Tryz.ntmps35
 go_upto_region 1 with (fail)
 rw[HW2.out]
 go_upto_region 2 with (go_at_call 61;refine HAp.out.mono ?_;rintro e w3 ⟨rfl,hb3⟩;have HB3:=hide hb3;clear hb3)
 obtain⟨w4,hw4⟩:∃w4,w3.alloc (.cells #[.int .i64 6,.int .i64 5,.int .i64 4,.slice (some ⟨H,0,none⟩) 1 1] 81)=w4:=⟨_,rfl⟩
 have hb4:Below w2.heap.size w2 w4:=by rw[←hw4];exact HB3.out.alloc HB3.out.size _
 have hp4:w4.heap[w3.heap.size]?=some (.cells #[.int .i64 6,.int .i64 5,.int .i64 4,.slice (some ⟨H,0,none⟩) 1 1] 81 (0,0)):=by rw[←hw4];exact heap_alloc_new _ _
 rw[hw4]
 obtain⟨p0,p1,p2,p3⟩:=ac4 hp4
 have HS4:=hide (HS2.out.below hb4 (Nat.le_refl _))
 have HK4:=hide ((hb4.block _ (ac_lt HK2.out)).trans HK2.out)
 have HAw:=hide (atWays_any w4 H 1 0 HS4.out.held)
 have HB4:=hide (HB2.out.trans (hb4.mono HB2.out.size))
 clear hw4 hb4 hp4 c0 c1 c2 c3 c4 c5 k0 k1
 go_upto_region 3 with (go_at_call 63;refine HAw.out.mono ?_;rintro e w5 ⟨rfl,hb5⟩;have HB5:=hide hb5;clear hb5)
 obtain⟨w6,hw6⟩:∃w6,w5.alloc (.cells #[.int .i64 1,.int .i64 0] 78)=w6:=⟨_,rfl⟩
 have hb6:Below w4.heap.size w4 w6:=by rw[←hw6];exact HB5.out.alloc HB5.out.size _
 have hp6:w6.heap[w5.heap.size]?=some (.cells #[.int .i64 1,.int .i64 0] 78 (0,0)):=by rw[←hw6];exact heap_alloc_new _ _
 rw[hw6]
 obtain⟨k0,k1⟩:=ac2 ((hb6.block _ (ac_lt HK4.out)).trans HK4.out)
 have HAi:=hide (atInt_any w6 w5.heap.size 1 0 hp6)
 have HAd:=hide (atInt_any w6.drew w5.heap.size 1 0 hp6)
 have HB6:=hide (HB4.out.trans (hb6.mono HB4.out.size))
 clear hw6 hb6 hp6 p0 p1 p2 p3
 go_region_held3 (fun w'=>w'.cell? ⟨w.heap.size+1,0,none⟩=some (.int .i64 0)∧w'.cell? ⟨w.heap.size+1,1,none⟩=some (.int .i64 0)) (go_keep) (first | (go_at_call 62;refine HAd.out.mono ?_;rintro e w7 ⟨rfl,rfl⟩) | (go_at_call 62;refine HAi.out.mono ?_;rintro e w7 ⟨rfl,rfl⟩) | fail)
 all_goals go_wp2
 all_goals go_ret
 all_goals first | exact⟨rfl,HB6.out⟩ | exact⟨rfl,HB6.out.drew⟩
end Go.Proofs.YtfbegfapoijbnaaGreat
namespace Go.Proofs.YtfbegfapoijbnaaGreat
open Go.RowKit
set_option maxHeartbeats 1000000 in
theorem kindOf_any (w:World) (a b n:Int) :
  Calls Tryz.prog 60 #[.agg #[.int .i64 a,.int .i64 b,.int .i64 n]] w fun e w'=>e=.returned (.agg #[.int .i64 a,.int .i64 b])∧Below w.heap.size w w':=by
 go_enter Tryz.func60,Tryz.ntmps60
 go_wp2
 refine bodyPost_ret (results_cell_row rfl _ _ (w.heap.size+1) 104 #[.int .i64 a,.int .i64 b] (0,0) _ rfl ?_ Tryz.underlying104 rfl (by kernel_rfl)) rfl ?_
 ·have h:=heap_alloc_new (w.alloc (.cells #[.int .i64 a,.int .i64 b,.int .i64 n] 53)) (.cells #[.int .i64 a,.int .i64 b] 104)
  rw[World.size_alloc]at h
  exact h
 ·exact⟨rfl,((Below.refl _ _).alloc (Nat.le_refl _) _).alloc (by simp) _⟩
def SvC (P A B C:Nat):Array Value:=#[.int .u64 0,.slice (some ⟨P,0,none⟩) 1 1,.slice none 0 0,.slice (some ⟨A,0,none⟩) 1 1,.slice (some ⟨B,0,none⟩) 1 1,.slice (some ⟨C,0,none⟩) 1 1]
set_option maxHeartbeats 1000000 in
theorem holds1_any (w:World) (P H A B C S T:Nat) (hs:Sok w P H) (hS:w.heap[S]?=some (.cells (SvC P A B C) 45 (0,0))) (hT:w.heap[T]?=some (.cells #[.int .i64 0] 3 (0,0))) :
  Calls Tryz.prog 34 #[.agg #[.int .i64 0,.int .i64 0],.pointer (some ⟨S,0,none⟩),.pointer (some ⟨T,0,none⟩)] w fun e w'=>e=.returned (.int .i64 1)∧Below w.heap.size w w':=by
 obtain⟨w2,hw2⟩:∃w2,w.alloc (.cells #[.int .i64 0,.int .i64 0] 104)=w2:=⟨_,rfl⟩
 have hb2:Below w.heap.size w w2:=by rw[←hw2];exact(Below.refl _ _).alloc (Nat.le_refl _) _
 have hk2:w2.heap[w.heap.size]?=some (.cells #[.int .i64 0,.int .i64 0] 104 (0,0)):=by rw[←hw2];exact heap_alloc_new _ _
 unfold SvC at hS
 obtain⟨c0,c1,c2,c3,c4,c5⟩:=ac6 ((hb2.block S (ac_lt hS)).trans hS)
 obtain⟨k0,k1⟩:=ac2 hk2
 have t0:w2.cell? ⟨T,0,none⟩=some (.int .i64 0):=by simp[World.cell?,(hb2.block T (ac_lt hT)).trans hT]
 have HH:=hide (held_one w2 P H A B C (hs.below hb2 (Nat.le_refl _)))
 have HW2:=hide hw2
 have HB2:=hide hb2
 clear hw2 hb2 hk2 hS hT hs
 unfold Sv at HH
 go_enter Tryz.func34,Tryz.ntmps34
 go_upto_region 1 with (fail)
 rw[HW2.out]
 go_wp2_with (go_at_call 35;refine HH.out.mono ?_;rintro e w3 ⟨rfl,hb3⟩;have HB3:=hide hb3;clear hb3)
 go_ret
 exact⟨rfl,HB2.out.trans (HB3.out.mono HB2.out.size)⟩
theorem need_one (a:Int) (h:a=1∨a=2):needT [⟨0,-a⟩]=[⟨0,0,a⟩]:=by
 rcases h with rfl | rfl <;> simp[needT,putT,triOf,wayOf,amtOf,wrap64]
set_option maxHeartbeats 2000000 in
theorem afford_any (w:World) (P H A B C S T g:Nat) (a:Int) (ha:a=1∨a=2) (hs:Sok w P H) (hS:w.heap[S]?=some (.cells (SvC P A B C) 45 (0,0))) (hT:w.heap[T]?=some (.cells #[.int .i64 0] 3 (0,0))) (hg:w.heap[g]?=some (.cells #[.int .i64 0,.int .i64 (-a)] 96 (0,0))) (R:Bool) (hR:R=decide (a=1)) :
  Calls Tryz.prog 31 #[.slice (some ⟨g,0,none⟩) 1 1,.func (.func 34) #[] #[.pointer (some ⟨S,0,none⟩),.pointer (some ⟨T,0,none⟩)]] w fun e w'=>e=.returned (.bool R)∧Below w.heap.size w w':=by
 obtain⟨l0,l1⟩:=ac2 hg
 have hL:Lins w.heap.size w (some ⟨g,0,none⟩) [⟨0,-a⟩]:=Or.inr ⟨g,0,rfl,ac_lt hg,fun i x hx=>by
  cases i with
  | zero=>simp at hx;subst hx;exact⟨l0,l1⟩
  | succ i=>simp at hx⟩
 have hN:=needs_any w (some ⟨g,0,none⟩) 1 1 [⟨0,-a⟩] rfl (by omega) (fun x hx=>by simp at hx;subst hx;rcases ha with rfl | rfl <;> exact⟨rfl,rfl⟩) hL
 rw[need_one a ha]at hN
 have HN:=hide hN
 have HSk:=hide hs
 have HSb:=hide hS
 have HTb:=hide hT
 have HRv:=hide hR
 clear hN hs hS hT hg hL l0 l1 hR
 go_enter Tryz.func31,Tryz.ntmps31
 go_wp2_with (go_at_call 15;refine HN.out.mono ?_;rintro e w1 ⟨v,rfl,hr1,hb1⟩;obtain⟨va,vc,rfl⟩:=slice_form hr1;have HR1:=hide hr1;have HB1:=hide hb1;clear hr1 hb1)
 refine wp_loop_rounds 2 ?_
 rw[rounds_succ]
 obtain⟨q,rfl,hql,q0⟩:=row_cell HR1.out (i:=0) (u:=.int .i64 0) rfl
 obtain⟨_,e1,_,q1⟩:=row_cell HR1.out (i:=1) (u:=.int .i64 0) rfl
 cases e1
 obtain⟨_,e2,_,q2⟩:=row_cell HR1.out (i:=2) (u:=.int .i64 a) rfl
 cases e2
 obtain⟨w2,hw2⟩:∃w2,w1.alloc (.cells #[.int .i64 0,.int .i64 0,.int .i64 a] 53)=w2:=⟨_,rfl⟩
 have hb2:Below w.heap.size w w2:=by rw[←hw2];exact HB1.out.alloc HB1.out.size _
 have hx2:w2.heap[w1.heap.size]?=some (.cells #[.int .i64 0,.int .i64 0,.int .i64 a] 53 (0,0)):=by rw[←hw2];exact heap_alloc_new _ _
 obtain⟨x0,x1,x2⟩:=ac3 hx2
 have HX2:=hide hx2
 have HB2:=hide hb2
 have HW2:=hide hw2
 have HKo:=hide (fun W=>kindOf_any W 0 0 a)
 have HHo:=hide (fun (W:World) (hb:Below w.heap.size w W)=>holds1_any W P H A B C S T (HSk.out.below hb (Nat.le_refl _)) ((hb.block S (ac_lt HSb.out)).trans HSb.out) ((hb.block T (ac_lt HTb.out)).trans HTb.out))
 clear hw2 hb2 hx2
 go_upto_region 4 with (fail)
 rw[HW2.out]
 go_region_held3 (fun w'=>w'.cell? ⟨w1.heap.size,0,none⟩=some (.int .i64 0)∧w'.cell? ⟨w1.heap.size,1,none⟩=some (.int .i64 0)∧w'.cell? ⟨w1.heap.size,2,none⟩=some (.int .i64 a)) (go_keep) (first | (go_at_call 34;refine(HHo.out _ HB3.out).mono ?_;rintro e w4 ⟨rfl,hb4⟩;have hx4:w4.heap[w1.heap.size]?=_:=(hb4.block _ (ac_lt HX3.out)).trans HX3.out;obtain⟨y0,y1,y2⟩:=ac3 hx4;have HX4:=hide hx4;have HB4:Hid (Below w.heap.size w w4):=HB3.out.trans (hb4.mono HB3.out.size);clear hb4 hx4) | (go_at_call 60;refine(HKo.out _).mono ?_;rintro e w3 ⟨rfl,hb3'⟩;have hb3:Below w2.heap.size w2 w3:=⟨hb3'.os,hb3'.tape,hb3'.output,hb3'.size,hb3'.block⟩;clear hb3';have hx3:w3.heap[w1.heap.size]?=_:=(hb3.block _ (ac_lt HX2.out)).trans HX2.out;obtain⟨y0,y1,y2⟩:=ac3 hx3;have HX3:=hide hx3;have HB3:Hid (Below w.heap.size w w3):=HB2.out.trans (hb3.mono HB2.out.size);clear hb3 hx3) | fail)
 rcases ha with rfl | rfl
 ·go_wp2
  rw[rounds_succ]
  go_wp2
  go_ret
  exact⟨by rw[HRv.out];rfl,HB4.out⟩
 ·go_wp2
  go_ret
  exact⟨by rw[HRv.out];rfl,HB4.out⟩
end Go.Proofs.YtfbegfapoijbnaaGreat
