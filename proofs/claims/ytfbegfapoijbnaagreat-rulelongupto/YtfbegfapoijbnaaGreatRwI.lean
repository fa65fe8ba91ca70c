import Derived.Test.YtfbegfapoijbnaaGreatWkC
set_option maxRecDepth 100000
namespace Go.Proofs.YtfbegfapoijbnaaGreat
open Go.RowKit
def intc (x:Int):List Value:=[.int .i64 x]
set_option maxHeartbeats 1000000 in
theorem atInt_gen (w:World) (p:Option Addr) (n c:Nat) (ps:List Int) (hn:ps.length=n) (hc:Cel w p 1 (ps.map intc)) (i:Int) :
  Calls Tryz.prog 62 #[.slice p n c,.int .i64 i] w fun e w'=>e=.returned (.tuple #[.int .i64 (getAt ps 0 i),.bool (hasAt ps i)])∧w'=w:=by
 have HC:=hide hc
 have HN:=hide hn
 rcases at_case ps n hn i with h | ⟨h,h2⟩ | ⟨k,x,rfl,hk,hx⟩
 ·obtain⟨e1,e2⟩:=at_out (l:=ps) (z:=0) (i:=i) (Or.inl h)
  rw[e1,e2]
  clear e1 e2 hc hn
  go_enter Tryz.func62,Tryz.ntmps62
  go_wp2
  refine bodyPost_ret (v:=.tuple #[.int .i64 0,.bool false]) (by simp[results,Tryz.results62,go_sem]) rfl ?_
  exact⟨rfl,rfl⟩
 ·obtain⟨e1,e2⟩:=at_out (l:=ps) (z:=0) (i:=i) (Or.inr (by rw[hn];exact h2))
  rw[e1,e2]
  clear e1 e2 hc hn
  go_enter Tryz.func62,Tryz.ntmps62
  go_wp2
  refine bodyPost_ret (v:=.tuple #[.int .i64 0,.bool false]) (by simp[results,Tryz.results62,go_sem]) rfl ?_
  exact⟨rfl,rfl⟩
 ·obtain⟨e1,e2⟩:=at_in (z:=0) hx
  rw[e1,e2]
  obtain⟨b,o,rfl,hbl,hcl⟩:=HC.out.get (i:=k) (r:=intc x) (by rw[List.getElem?_map,hx];rfl)
  have c0:=hcl 0 _ rfl
  rw[Nat.add_zero,Nat.mul_one]at c0
  have hk':(k:Int)<(n:Int):=by omega
  have k0':¬(k:Int)<0:=by omega
  clear e1 e2 hc hn hcl hx
  go_enter Tryz.func62,Tryz.ntmps62
  go_wp2
  refine bodyPost_ret (v:=.tuple #[.int .i64 x,.bool true]) (by simp[results,Tryz.results62,go_sem]) rfl ?_
  exact⟨rfl,rfl⟩
structure Sta where
 pos:Int
 pp:Option Addr
 pn:Nat
 pc:Nat
 rp:Option Addr
 rn:Nat
 rc:Nat
 lp:Option Addr
 ln:Nat
 lc:Nat
 gp:Option Addr
 gn:Nat
 gc:Nat
 op:Option Addr
 on:Nat
 oc:Nat
 pools:List Pl
 prices:List Lin
 last:List Int
 gen:List Int
 owed:List Bool
def Sta.arr (s:Sta):Array Value:=#[.int .u64 s.pos,.slice s.pp s.pn s.pc,.slice s.rp s.rn s.rc,.slice s.lp s.ln s.lc,.slice s.gp s.gn s.gc,.slice s.op s.on s.oc]
def uc (x:Int):List Value:=[.int .u64 x]
def boolc (x:Bool):List Value:=[.bool x]
structure PlOk (w:World) (x:Pl):Prop where
 len:x.hs.length=x.hl
 cel:Cel w x.hp 2 (x.hs.map linc)
structure StaOk (w:World) (s:Sta):Prop where
 pn:s.pools.length=s.pn
 pools:Cel w s.pp 4 (s.pools.map plc)
 held:∀x∈s.pools,PlOk w x
 rn:s.prices.length=s.rn
 prices:Cel w s.rp 2 (s.prices.map linc)
 ln:s.last.length=s.ln
 last:Cel w s.lp 1 (s.last.map uc)
 gn:s.gen.length=s.gn
 gen:Cel w s.gp 1 (s.gen.map uc)
 on:s.owed.length=s.on
 owed:Cel w s.op 1 (s.owed.map boolc)
theorem StaOk.below {w w':World} {s:Sta} (h:StaOk w s) (hb:Below w.heap.size w w'):StaOk w' s :=
 ⟨h.pn,h.pools.below hb,fun x hx=>⟨(h.held x hx).len,(h.held x hx).cel.below hb⟩,h.rn,h.prices.below hb,h.ln,h.last.below hb,h.gn,h.gen.below hb,h.on,h.owed.below hb⟩
theorem getAt_mem {α:Type} (l:List α) (z:α) (i:Int):getAt l z i∈l∨getAt l z i=z:=by
 unfold getAt
 split
 ·cases h:l[i.toNat]? with
  | none=>right;simp[List.getD,h]
  | some x=>left;simp[List.getD,h];exact List.mem_of_getElem? h
 ·exact Or.inr rfl
theorem StaOk.at {w:World} {s:Sta} (h:StaOk w s) (i:Int):PlOk w (getAt s.pools pl0 i):=by
 rcases getAt_mem s.pools pl0 i with e | e
 ·exact h.held _ e
 ·rw[e];exact⟨rfl,Or.inl rfl⟩
def Sta.free (s:Sta) (c w:Int):Int:=getAt [(getAt s.pools pl0 c).f0,(getAt s.pools pl0 c).f1] 0 w
def Sta.held (s:Sta) (t c w:Int):Int:=getAt [(getAt (getAt s.pools pl0 c).hs ⟨0,0⟩ t).c,(getAt (getAt s.pools pl0 c).hs ⟨0,0⟩ t).n] 0 w
theorem cel_two {w:World} {b o:Nat} {x y:Int} (hb:b<w.heap.size) (h0:w.cell? ⟨b,o,none⟩=some (.int .i64 x)) (h1:w.cell? ⟨b,o+1,none⟩=some (.int .i64 y)):Cel w (some ⟨b,o,none⟩) 1 ([x,y].map intc):=by
 refine Or.inr ⟨b,o,rfl,hb,fun i r hr j v hv=>?_⟩
 match i,hr with
 | 0,hr =>
  cases hr
  match j,hv with
  | 0,hv=>cases hv;exact h0
  | j+1,hv=>simp[intc]at hv
 | 1,hr =>
  cases hr
  match j,hv with
  | 0,hv=>cases hv;exact h1
  | j+1,hv=>simp[intc]at hv
 | i+2,hr=>simp at hr
set_option maxHeartbeats 2000000 in
theorem held_gen (w:World) (s:Sta) (hs:StaOk w s) (t kc kw:Int) :
  Calls Tryz.prog 35 #[.agg s.arr,.int .i64 t,.agg #[.int .i64 kc,.int .i64 kw]] w fun e w'=>e=.returned (.int .i64 (s.held t kc kw))∧Below w.heap.size w w':=by
 obtain⟨w2,hw2⟩:∃w2,(w.alloc (.cells s.arr 45)).alloc (.cells #[.int .i64 kc,.int .i64 kw] 104)=w2:=⟨_,rfl⟩
 have hb2:Below w.heap.size w w2:=by rw[←hw2];exact((Below.refl _ _).alloc (Nat.le_refl _) _).alloc (by simp) _
 have hx2:w2.heap[w.heap.size]?=some (.cells s.arr 45 (0,0)):=by rw[←hw2];exact(Below.heap_alloc _ _ _ (by simp)).trans (heap_alloc_new _ _)
 have hk2:w2.heap[w.heap.size+1]?=some (.cells #[.int .i64 kc,.int .i64 kw] 104 (0,0)):=by rw[←hw2];have h:=heap_alloc_new (w.alloc (.cells s.arr 45)) (.cells #[.int .i64 kc,.int .i64 kw] 104);rw[World.size_alloc]at h;exact h
 have hs2:=hs.below hb2
 obtain⟨c0,c1,c2,c3,c4,c5⟩:=ac6 hx2
 obtain⟨k0,k1⟩:=ac2 hk2
 have HW2:=hide hw2
 have HB2:=hide hb2
 have HK2:=hide hk2
 have HAp:=hide (atPool_gen w2 s.pp s.pn s.pc s.pools hs2.pn hs2.pools kc)
 have HPl:=hide (hs2.at kc)
 obtain⟨x,hx⟩:∃x,getAt s.pools pl0 kc=x:=⟨_,rfl⟩
 obtain⟨hb',hhb⟩:∃q,hasAt s.pools kc=q:=⟨_,rfl⟩
 rw[hx,hhb]at HAp
 rw[hx]at HPl
 obtain⟨y,hy⟩:∃y,getAt x.hs (⟨0,0⟩:Lin) t=y:=⟨_,rfl⟩
 obtain⟨hq,hhq⟩:∃q,hasAt x.hs t=q:=⟨_,rfl⟩
 have HR:s.held t kc kw=getAt [y.c,y.n] 0 kw:=by unfold Sta.held;rw[hx,hy]
 rw[HR]
 obtain⟨xv,x0,x1,xp,xl,xc,xs⟩:=x
 obtain⟨y0,y1⟩:=y
 have HY:=hide hy
 have HQ:=hide hhq
 dsimp only at HY HQ
 clear HR hy hhq
 dsimp only[plc]at HAp
 clear hw2 hb2 hx2 hk2 hs2 hs hx hhb
 go_enter Tryz.func35,Tryz.ntmps35
 go_upto_region 1 with (fail)
 rw[HW2.out]
 go_upto_region 2 with (go_at_call 61;refine HAp.out.mono ?_;rintro e w3 ⟨rfl,hb3⟩;have HB3:=hide hb3;clear hb3)
 obtain⟨w4,hw4⟩:∃w4,w3.alloc (.cells #[.int .i64 xv,.int .i64 x0,.int .i64 x1,.slice xp xl xc] 81)=w4:=⟨_,rfl⟩
 have hb4:Below w2.heap.size w2 w4:=by rw[←hw4];exact HB3.out.alloc HB3.out.size _
 have hp4:w4.heap[w3.heap.size]?=some (.cells #[.int .i64 xv,.int .i64 x0,.int .i64 x1,.slice xp xl xc] 81 (0,0)):=by rw[←hw4];exact heap_alloc_new _ _
 rw[show w3.alloc (.cells #[.int .i64 xv,.int .i64 x0,.int .i64 x1,.slice xp xl xc] 81)=w4 from hw4]
 obtain⟨p0,p1,p2,p3⟩:=ac4 hp4
 have HK4:=hide ((hb4.block _ (ac_lt HK2.out)).trans HK2.out)
 have HAw:=hide (atWays_gen w4 xp xl xc xs HPl.out.len (HPl.out.cel.below hb4) t)
 have HB4:=hide (HB2.out.trans (hb4.mono HB2.out.size))
 rw[HY.out,HQ.out]at HAw
 dsimp only[linc]at HAw
 clear hw4 hb4 hp4 c0 c1 c2 c3 c4 c5 k0 k1
 go_upto_region 3 with (go_at_call 63;refine HAw.out.mono ?_;rintro e w5 ⟨rfl,hb5⟩;have HB5:=hide hb5;clear hb5)
 obtain⟨w6,hw6⟩:∃w6,w5.alloc (.cells #[.int .i64 y0,.int .i64 y1] 78)=w6:=⟨_,rfl⟩
 have hb6:Below w4.heap.size w4 w6:=by rw[←hw6];exact HB5.out.alloc HB5.out.size _
 have hp6:w6.heap[w5.heap.size]?=some (.cells #[.int .i64 y0,.int .i64 y1] 78 (0,0)):=by rw[←hw6];exact heap_alloc_new _ _
 rw[show w5.alloc (.cells #[.int .i64 y0,.int .i64 y1] 78)=w6 from hw6]
 obtain⟨k0,k1⟩:=ac2 ((hb6.block _ (ac_lt HK4.out)).trans HK4.out)
 obtain⟨z0,z1⟩:=ac2 hp6
 have HAi:=hide (atInt_gen w6 (some ⟨w5.heap.size,0,none⟩) 2 2 [y0,y1] rfl (cel_two (ac_lt hp6) z0 (by rw[Nat.zero_add];exact z1)) kw)
 have HAd:=hide (atInt_gen w6.drew (some ⟨w5.heap.size,0,none⟩) 2 2 [y0,y1] rfl (cel_two (ac_lt hp6) z0 (by rw[Nat.zero_add];exact z1)) kw)
 have HB6:=hide (HB4.out.trans (hb6.mono HB4.out.size))
 clear hw6 hb6 hp6 p0 p1 p2 p3 z0 z1
 go_region_held3 (fun w'=>w'.cell? ⟨w.heap.size+1,0,none⟩=some (.int .i64 kc)∧w'.cell? ⟨w.heap.size+1,1,none⟩=some (.int .i64 kw)) (go_keep) (first | (go_at_call 62;refine HAd.out.mono ?_;rintro e w7 ⟨rfl,rfl⟩) | (go_at_call 62;refine HAi.out.mono ?_;rintro e w7 ⟨rfl,rfl⟩) | fail)
 all_goals go_wp2
 all_goals go_ret
 all_goals first | exact⟨rfl,HB6.out⟩ | exact⟨rfl,HB6.out.drew⟩
end Go.Proofs.YtfbegfapoijbnaaGreat
namespace Go.Proofs.YtfbegfapoijbnaaGreat
open Go.RowKit
theorem box_two (w:World) (A:Array Value) (t1 t2:TypeId) (B:Array Value):∃w2,(w.alloc (.cells A t1)).alloc (.cells B t2)=w2∧Below w.heap.size w w2∧w2.heap[w.heap.size]?=some (.cells A t1 (0,0))∧w2.heap[w.heap.size+1]?=some (.cells B t2 (0,0)) :=
 ⟨_,rfl,((Below.refl _ _).alloc (Nat.le_refl _) _).alloc (by simp) _,(Below.heap_alloc _ _ _ (by simp)).trans (heap_alloc_new _ _),by have h:=heap_alloc_new (w.alloc (.cells A t1)) (.cells B t2);rw[World.size_alloc]at h;exact h⟩
set_option maxHeartbeats 2000000 in
theorem free_gen (w:World) (s:Sta) (hs:StaOk w s) (kc kw:Int) :
  Calls Tryz.prog 33 #[.agg s.arr,.agg #[.int .i64 kc,.int .i64 kw]] w fun e w'=>e=.returned (.int .i64 (s.free kc kw))∧Below w.heap.size w w':=by
 obtain⟨w2,hw2,hb2,hx2,hk2⟩:=box_two w s.arr 45 104 #[.int .i64 kc,.int .i64 kw]
 have hs2:=hs.below hb2
 obtain⟨c0,c1,c2,c3,c4,c5⟩:=ac6 hx2
 obtain⟨k0,k1⟩:=ac2 hk2
 have HW2:=hide hw2
 have HB2:=hide hb2
 have HK2:=hide hk2
 have HAp:=hide (atPool_gen w2 s.pp s.pn s.pc s.pools hs2.pn hs2.pools kc)
 obtain⟨x,hx⟩:∃x,getAt s.pools pl0 kc=x:=⟨_,rfl⟩
 obtain⟨hb',hhb⟩:∃q,hasAt s.pools kc=q:=⟨_,rfl⟩
 rw[hx,hhb]at HAp
 have HR:s.free kc kw=getAt [x.f0,x.f1] 0 kw:=by unfold Sta.free;rw[hx]
 rw[HR]
 obtain⟨xv,x0,x1,xp,xl,xc,xs⟩:=x
 dsimp only[plc]at HAp
 clear hw2 hb2 hx2 hk2 hs2 hs hx hhb HR
 go_enter Tryz.func33,Tryz.ntmps33
 go_upto_region 1 with (fail)
 rw[HW2.out]
 go_upto_region 2 with (go_at_call 61;refine HAp.out.mono ?_;rintro e w3 ⟨rfl,hb3⟩;have HB3:=hide hb3;clear hb3)
 obtain⟨w4,hw4⟩:∃w4,w3.alloc (.cells #[.int .i64 xv,.int .i64 x0,.int .i64 x1,.slice xp xl xc] 81)=w4:=⟨_,rfl⟩
 have hb4:Below w2.heap.size w2 w4:=by rw[←hw4];exact HB3.out.alloc HB3.out.size _
 have hp4:w4.heap[w3.heap.size]?=some (.cells #[.int .i64 xv,.int .i64 x0,.int .i64 x1,.slice xp xl xc] 81 (0,0)):=by rw[←hw4];exact heap_alloc_new _ _
 rw[show w3.alloc (.cells #[.int .i64 xv,.int .i64 x0,.int .i64 x1,.slice xp xl xc] 81)=w4 from hw4]
 obtain⟨p0,p1,p2,p3⟩:=ac4 hp4
 obtain⟨k0',k1'⟩:=ac2 ((hb4.block _ (ac_lt HK2.out)).trans HK2.out)
 have HAi:=hide (atInt_gen w4 (some ⟨w3.heap.size,1,none⟩) 2 2 [x0,x1] rfl (cel_two (ac_lt hp4) p1 p2) kw)
 have HAd:=hide (atInt_gen w4.drew (some ⟨w3.heap.size,1,none⟩) 2 2 [x0,x1] rfl (cel_two (ac_lt hp4) p1 p2) kw)
 have HB4:=hide (HB2.out.trans (hb4.mono HB2.out.size))
 clear hw4 hb4 hp4 c0 c1 c2 c3 c4 c5 k0 k1
 go_region_held3 (fun w'=>w'.cell? ⟨w.heap.size+1,0,none⟩=some (.int .i64 kc)∧w'.cell? ⟨w.heap.size+1,1,none⟩=some (.int .i64 kw)) (go_keep) (first | (go_at_call 62;refine HAd.out.mono ?_;rintro e w7 ⟨rfl,rfl⟩) | (go_at_call 62;refine HAi.out.mono ?_;rintro e w7 ⟨rfl,rfl⟩) | fail)
 all_goals go_wp2
 all_goals go_ret
 all_goals first | exact⟨rfl,HB4.out⟩ | exact⟨rfl,HB4.out.drew⟩
end Go.Proofs.YtfbegfapoijbnaaGreat
namespace Go.Proofs.YtfbegfapoijbnaaGreat
open Go.RowKit
theorem box_one (w:World) (A:Array Value) (t:TypeId):∃w2,w.alloc (.cells A t)=w2∧Below w.heap.size w w2∧w2.heap[w.heap.size]?=some (.cells A t (0,0)):=⟨_,rfl,(Below.refl _ _).alloc (Nat.le_refl _) _,heap_alloc_new _ _⟩
def Sta.isOpen (s:Sta) (p:Int):Bool:=hasAt s.prices p && decide ((getAt s.prices ⟨0,0⟩ p).n<1099511627776)
set_option maxHeartbeats 2000000 in
theorem isOpen_gen (w:World) (s:Sta) (hs:StaOk w s) (p:Int) :
  Calls Tryz.prog 46 #[.agg s.arr,.int .i64 p] w fun e w'=>e=.returned (.bool (s.isOpen p))∧Below w.heap.size w w':=by
 obtain⟨w2,hw2,hb2,hx2⟩:=box_one w s.arr 45
 have hs2:=hs.below hb2
 obtain⟨c0,c1,c2,c3,c4,c5⟩:=ac6 hx2
 have HAp:=hide (atPrice_gen w2 s.rp s.rn s.rc s.prices hs2.rn hs2.prices p)
 have HW2:=hide hw2
 have HB2:=hide hb2
 unfold Sta.isOpen
 generalize getAt s.prices ⟨0,0⟩ p=x at HAp ⊢
 generalize hasAt s.prices p=hq at HAp ⊢
 obtain⟨x0,x1⟩:=x
 dsimp only[linc]at HAp ⊢
 clear hw2 hb2 hx2 hs2 hs
 cases hq
 ·go_enter Tryz.func46,Tryz.ntmps46
  go_upto_region 1 with (fail)
  rw[HW2.out]
  go_upto_region 2 with (go_at_call 71;refine HAp.out.mono ?_;rintro e w3 ⟨rfl,hb3⟩;have HB3:=hide hb3;clear hb3)
  obtain⟨w4,hw4,hb4,hx4⟩:=box_one w3 #[.int .i64 x0,.int .i64 x1] 83
  have HB4:=hide (HB2.out.trans ((HB3.out.trans (hb4.mono HB3.out.size)).mono HB2.out.size))
  rw[show w3.alloc (.cells #[.int .i64 x0,.int .i64 x1] 83)=w4 from hw4]
  obtain⟨p0,p1⟩:=ac2 hx4
  clear hw4 hb4 hx4 c0 c1 c2 c3 c4 c5
  go_wp2
  go_ret
  exact⟨rfl,HB4.out⟩
 ·go_enter Tryz.func46,Tryz.ntmps46
  go_upto_region 1 with (fail)
  rw[HW2.out]
  go_upto_region 2 with (go_at_call 71;refine HAp.out.mono ?_;rintro e w3 ⟨rfl,hb3⟩;have HB3:=hide hb3;clear hb3)
  obtain⟨w4,hw4,hb4,hx4⟩:=box_one w3 #[.int .i64 x0,.int .i64 x1] 83
  have HB4:=hide (HB2.out.trans ((HB3.out.trans (hb4.mono HB3.out.size)).mono HB2.out.size))
  rw[show w3.alloc (.cells #[.int .i64 x0,.int .i64 x1] 83)=w4 from hw4]
  obtain⟨p0,p1⟩:=ac2 hx4
  clear hw4 hb4 hx4 c0 c1 c2 c3 c4 c5
  go_wp2
  go_ret
  exact⟨rfl,HB4.out⟩
end Go.Proofs.YtfbegfapoijbnaaGreat
namespace Go.Proofs.YtfbegfapoijbnaaGreat
open Go.RowKit
set_option maxHeartbeats 2000000 in
theorem open_gen (w:World) (s:Sta) (hs:StaOk w s) (p:Option Addr) (n c:Nat) (xs:List Tri) (hn:xs.length=n) (hnl:n≤140737488355328) (hx:Cel w p 3 (xs.map tric)) :
  Calls Tryz.prog 19 #[.agg s.arr,.slice p n c] w fun e w'=>e=.returned (.bool (xs.all (fun x=>s.isOpen x.a)))∧Below w.heap.size w w':=by
 obtain⟨w2,hw2,hb2,hx2⟩:=box_one w s.arr 45
 have HS:=hide (hs.below hb2)
 have HX:=hide (hx.below hb2)
 have HN:=hide hn
 have HW2:=hide hw2
 have HB2:=hide hb2
 have HX2:=hide hx2
 have HC:=hide (fun (W:World) (hb:Below w2.heap.size w2 W) (a b d:Int)=>isOpen_gen W s (HS.out.below hb) a)
 clear hw2 hb2 hx2 hs hx hn
 obtain⟨f,hf⟩:∃f:Tri→Bool,(fun x=>s.isOpen x.a)=f:=⟨_,rfl⟩
 have HF:Hid (∀a b d,s.isOpen a=f ⟨a,b,d⟩):=fun a b d=>by rw[←hf]
 rw[hf]
 clear hf
 go_enter Tryz.func19,Tryz.ntmps19
 go_upto_region 1 with (fail)
 rw[HW2.out]
 go_wp2_with fail
 go_loopw [9] (fun i wr=>∃j:Nat,j≤n∧i=.int .i64 j∧Hid ((xs.take j).all f=true)∧Hid (Below w2.heap.size w2 wr)) (fun i _=>n - (intOf i).toNat)
 case atStart=>exact⟨0,Nat.zero_le _,rfl,rfl,Below.refl _ _⟩
 case round =>
  obtain⟨j,hj,rfl,HA,HB⟩:=hrel
  by_cases hlt:j<n
  ·have hlt':(j:Int)<(n:Int):=by omega
   have j0':(0:Int)≤(j:Int):=by omega
   obtain⟨x,hx⟩:∃x,xs[j]?=some x:=⟨_,List.getElem?_eq_getElem (by rw[HN.out];exact hlt)⟩
   obtain⟨b,o,rfl,hbl,hcl⟩:=(HX.out.below HB.out).get (i:=j) (r:=tric x) (by rw[List.getElem?_map,hx];rfl)
   obtain⟨xa,xb,xd⟩:=x
   have a0:=hcl 0 _ rfl
   have a1:=hcl 1 _ rfl
   have a2:=hcl 2 _ rfl
   rw[Nat.add_zero]at a0
   have HT:=hide (show (xs.take (j+1)).all f=((xs.take j).all f && f ⟨xa,xb,xd⟩) by rw[take_snoc hx,List.all_append];simp)
   have HI:=hide (show f ⟨xa,xb,xd⟩=false→xs.all f=false from fun h=>by rw[List.all_eq_false];exact⟨_,List.mem_of_getElem? hx,by simp[h]⟩)
   obtain⟨w6,hw6,hb6,hx6⟩:=box_one wr #[.int .i64 xa,.int .i64 xb,.int .i64 xd] 101
   have HB6:=hide (HB.out.trans (hb6.mono HB.out.size))
   obtain⟨y0,y1,y2⟩:=ac3 hx6
   obtain⟨c0,c1,c2,c3,c4,c5⟩:=ac6 ((HB6.out.block _ (ac_lt HX2.out)).trans HX2.out)
   have HQ:=hide (HC.out w6 HB6.out xa xb xd)
   rw[HF.out xa xb xd]at HQ
   have HW6:=hide hw6
   clear hx hcl hw6 hb6 hx6
   go_upto_region 4 with (fail)
   rw[HW6.out]
   cases hv:f ⟨xa,xb,xd⟩ with
   | true =>
    rw[hv]at HQ
    go_wp2_with (go_at_call 46;refine HQ.out.mono ?_;rintro e w7 ⟨rfl,hb7⟩;have HB7:=hide (HB6.out.trans (hb7.mono HB6.out.size));clear hb7)
    go_roundw
    case rel=>exact⟨j+1,by omega,by go_num,by show _=_;rw[HT.out,HA.out,hv];rfl,HB7⟩
    case measure=>simp[intOf];omega
   | false =>
    rw[hv]at HQ
    have HV:=HI.out hv
    clear hv
    go_wp2_with (go_at_call 46;refine HQ.out.mono ?_;rintro e w7 ⟨rfl,hb7⟩;have HB7:=hide (HB6.out.trans (hb7.mono HB6.out.size));clear hb7)
    go_ret
    try rw[HV]
    exact⟨rfl,HB2.out.trans (HB7.out.mono HB2.out.size)⟩
  ·have hlt':¬(j:Int)<(n:Int):=by omega
   have HV:xs.all f=true:=by have h:=HA.out;rw[List.take_of_length_le (by rw[HN.out];omega)]at h;exact h
   go_wp2
   go_ret
   try rw[HV]
   exact⟨rfl,HB2.out.trans (HB.out.mono HB2.out.size)⟩
end Go.Proofs.YtfbegfapoijbnaaGreat
namespace Go.Proofs.YtfbegfapoijbnaaGreat
open Go.RowKit
def Sta.guard (s:Sta) (k what n:Int):Bool :=
 if k=4 then hasAt s.prices what && decide ((getAt s.prices ⟨0,0⟩ what).n=n)
 else if k=1 then hasAt s.pools what && decide (n≤(getAt s.pools pl0 what).v)
 else if k=2 then hasAt s.pools what && decide ((getAt s.pools pl0 what).v≤n)
 else if k=3 then hasAt s.pools what && decide ((getAt s.pools pl0 what).v=n)
 else false
set_option maxHeartbeats 2000000 in
theorem guard_gen (w:World) (s:Sta) (hs:StaOk w s) (k what n:Int) :
  Calls Tryz.prog 44 #[.agg s.arr,.agg #[.int .i64 k,.int .i64 what,.int .i64 n]] w fun e w'=>e=.returned (.bool (s.guard k what n))∧Below w.heap.size w w':=by
 obtain⟨w2,hw2,hb2,hx2,hk2⟩:=box_two w s.arr 45 99 #[.int .i64 k,.int .i64 what,.int .i64 n]
 have hs2:=hs.below hb2
 obtain⟨c0,c1,c2,c3,c4,c5⟩:=ac6 hx2
 obtain⟨k0,k1,k2⟩:=ac3 hk2
 have HAr:=hide (atPrice_gen w2 s.rp s.rn s.rc s.prices hs2.rn hs2.prices what)
 have HAp:=hide (atPool_gen w2 s.pp s.pn s.pc s.pools hs2.pn hs2.pools what)
 have HW2:=hide hw2
 have HB2:=hide hb2
 have HK2:=hide hk2
 unfold Sta.guard
 generalize getAt s.prices ⟨0,0⟩ what=x at HAr ⊢
 generalize hasAt s.prices what=hq at HAr ⊢
 generalize getAt s.pools pl0 what=y at HAp ⊢
 generalize hasAt s.pools what=hr at HAp ⊢
 obtain⟨x0,x1⟩:=x
 obtain⟨yv,y0,y1,yp,yl,yc,ys⟩:=y
 dsimp only[linc,plc]at HAr HAp ⊢
 clear hw2 hb2 hx2 hk2 hs2 hs
 by_cases g4:k=4
 ·subst g4
  rw[if_pos rfl]
  clear HAp
  cases hq
  all_goals (
   go_enter Tryz.func44,Tryz.ntmps44
   go_upto_region 1 with (fail)
   rw[HW2.out]
   go_upto_region 3 with (go_at_call 71;refine HAr.out.mono ?_;rintro e w3 ⟨rfl,hb3⟩;have HB3:=hide hb3;clear hb3)
   obtain⟨w4,hw4,hb4,hx4⟩:=box_one w3 #[.int .i64 x0,.int .i64 x1] 83
   have hb24:=HB3.out.trans (hb4.mono HB3.out.size)
   have HB4:=hide (HB2.out.trans (hb24.mono HB2.out.size))
   rw[show w3.alloc (.cells #[.int .i64 x0,.int .i64 x1] 83)=w4 from hw4]
   obtain⟨p0,p1⟩:=ac2 hx4
   obtain⟨l0,l1,l2⟩:=ac3 ((hb24.block _ (ac_lt HK2.out)).trans HK2.out)
   clear hw4 hb4 hx4 hb24 c0 c1 c2 c3 c4 c5 k0 k1 k2
   go_wp2
   go_ret
   first | exact⟨rfl,HB4.out⟩ | exact⟨by simp,HB4.out⟩)
 ·rw[if_neg g4]
  clear HAr
  by_cases g1:k=1
  ·subst g1
   rw[if_pos rfl]
   cases hr
   all_goals (
    go_enter Tryz.func44,Tryz.ntmps44
    go_upto_region 1 with (fail)
    rw[HW2.out]
    go_upto_region 5 with (go_at_call 61;refine HAp.out.mono ?_;rintro e w3 ⟨rfl,hb3⟩;have HB3:=hide hb3;clear hb3)
    obtain⟨w4,hw4,hb4,hx4⟩:=box_one w3 #[.int .i64 yv,.int .i64 y0,.int .i64 y1,.slice yp yl yc] 81
    have hb24:=HB3.out.trans (hb4.mono HB3.out.size)
    have HB4:=hide (HB2.out.trans (hb24.mono HB2.out.size))
    rw[show w3.alloc (.cells #[.int .i64 yv,.int .i64 y0,.int .i64 y1,.slice yp yl yc] 81)=w4 from hw4]
    obtain⟨p0,p1,p2,p3⟩:=ac4 hx4
    obtain⟨l0,l1,l2⟩:=ac3 ((hb24.block _ (ac_lt HK2.out)).trans HK2.out)
    clear hw4 hb4 hx4 hb24 c0 c1 c2 c3 c4 c5 k0 k1 k2
    go_wp2
    go_ret
    first | exact⟨rfl,HB4.out⟩ | exact⟨by simp,HB4.out⟩)
  ·rw[if_neg g1]
   by_cases g2:k=2
   ·subst g2
    rw[if_pos rfl]
    cases hr
    all_goals (
     go_enter Tryz.func44,Tryz.ntmps44
     go_upto_region 1 with (fail)
     rw[HW2.out]
     go_upto_region 5 with (go_at_call 61;refine HAp.out.mono ?_;rintro e w3 ⟨rfl,hb3⟩;have HB3:=hide hb3;clear hb3)
     obtain⟨w4,hw4,hb4,hx4⟩:=box_one w3 #[.int .i64 yv,.int .i64 y0,.int .i64 y1,.slice yp yl yc] 81
     have hb24:=HB3.out.trans (hb4.mono HB3.out.size)
     have HB4:=hide (HB2.out.trans (hb24.mono HB2.out.size))
     rw[show w3.alloc (.cells #[.int .i64 yv,.int .i64 y0,.int .i64 y1,.slice yp yl yc] 81)=w4 from hw4]
     obtain⟨p0,p1,p2,p3⟩:=ac4 hx4
     obtain⟨l0,l1,l2⟩:=ac3 ((hb24.block _ (ac_lt HK2.out)).trans HK2.out)
     clear hw4 hb4 hx4 hb24 c0 c1 c2 c3 c4 c5 k0 k1 k2
     go_wp2
     go_ret
     first | exact⟨rfl,HB4.out⟩ | exact⟨by simp,HB4.out⟩)
   ·rw[if_neg g2]
    by_cases g3:k=3
    ·subst g3
     rw[if_pos rfl]
     cases hr
     all_goals (
      go_enter Tryz.func44,Tryz.ntmps44
      go_upto_region 1 with (fail)
      rw[HW2.out]
      go_upto_region 5 with (go_at_call 61;refine HAp.out.mono ?_;rintro e w3 ⟨rfl,hb3⟩;have HB3:=hide hb3;clear hb3)
      obtain⟨w4,hw4,hb4,hx4⟩:=box_one w3 #[.int .i64 yv,.int .i64 y0,.int .i64 y1,.slice yp yl yc] 81
      have hb24:=HB3.out.trans (hb4.mono HB3.out.size)
      have HB4:=hide (HB2.out.trans (hb24.mono HB2.out.size))
      rw[show w3.alloc (.cells #[.int .i64 yv,.int .i64 y0,.int .i64 y1,.slice yp yl yc] 81)=w4 from hw4]
      obtain⟨p0,p1,p2,p3⟩:=ac4 hx4
      obtain⟨l0,l1,l2⟩:=ac3 ((hb24.block _ (ac_lt HK2.out)).trans HK2.out)
      clear hw4 hb4 hx4 hb24 c0 c1 c2 c3 c4 c5 k0 k1 k2
      go_wp2
      go_ret
      first | exact⟨rfl,HB4.out⟩ | exact⟨by simp,HB4.out⟩)
    ·rw[if_neg g3]
     all_goals (
      go_enter Tryz.func44,Tryz.ntmps44
      go_upto_region 1 with (fail)
      rw[HW2.out]
      go_upto_region 5 with (go_at_call 61;refine HAp.out.mono ?_;rintro e w3 ⟨rfl,hb3⟩;have HB3:=hide hb3;clear hb3)
      obtain⟨w4,hw4,hb4,hx4⟩:=box_one w3 #[.int .i64 yv,.int .i64 y0,.int .i64 y1,.slice yp yl yc] 81
      have hb24:=HB3.out.trans (hb4.mono HB3.out.size)
      have HB4:=hide (HB2.out.trans (hb24.mono HB2.out.size))
      rw[show w3.alloc (.cells #[.int .i64 yv,.int .i64 y0,.int .i64 y1,.slice yp yl yc] 81)=w4 from hw4]
      obtain⟨p0,p1,p2,p3⟩:=ac4 hx4
      obtain⟨l0,l1,l2⟩:=ac3 ((hb24.block _ (ac_lt HK2.out)).trans HK2.out)
      clear hw4 hb4 hx4 hb24 c0 c1 c2 c3 c4 c5 k0 k1 k2
      go_wp2
      go_ret
      first | exact⟨rfl,HB4.out⟩ | exact⟨by simp,HB4.out⟩)
set_option maxHeartbeats 2000000 in
theorem guarded_gen (w:World) (s:Sta) (hs:StaOk w s) (p:Option Addr) (n c:Nat) (xs:List Tri) (hn:xs.length=n) (hnl:n≤140737488355328) (hx:Cel w p 3 (xs.map tric)) :
  Calls Tryz.prog 17 #[.agg s.arr,.slice p n c] w fun e w'=>e=.returned (.bool (xs.all (fun x=>s.guard x.a x.b x.n)))∧Below w.heap.size w w':=by
 obtain⟨w2,hw2,hb2,hx2⟩:=box_one w s.arr 45
 have HS:=hide (hs.below hb2)
 have HX:=hide (hx.below hb2)
 have HN:=hide hn
 have HW2:=hide hw2
 have HB2:=hide hb2
 have HX2:=hide hx2
 have HC:=hide (fun (W:World) (hb:Below w2.heap.size w2 W) (a b d:Int)=>guard_gen W s (HS.out.below hb) a b d)
 clear hw2 hb2 hx2 hs hx hn
 obtain⟨f,hf⟩:∃f:Tri→Bool,(fun x=>s.guard x.a x.b x.n)=f:=⟨_,rfl⟩
 have HF:Hid (∀a b d,s.guard a b d=f ⟨a,b,d⟩):=fun a b d=>by rw[←hf]
 rw[hf]
 clear hf
 go_enter Tryz.func17,Tryz.ntmps17
 go_upto_region 1 with (fail)
 rw[HW2.out]
 go_wp2_with fail
 go_loopw [9] (fun i wr=>∃j:Nat,j≤n∧i=.int .i64 j∧Hid ((xs.take j).all f=true)∧Hid (Below w2.heap.size w2 wr)) (fun i _=>n - (intOf i).toNat)
 case atStart=>exact⟨0,Nat.zero_le _,rfl,rfl,Below.refl _ _⟩
 case round =>
  obtain⟨j,hj,rfl,HA,HB⟩:=hrel
  by_cases hlt:j<n
  ·have hlt':(j:Int)<(n:Int):=by omega
   have j0':(0:Int)≤(j:Int):=by omega
   obtain⟨x,hx⟩:∃x,xs[j]?=some x:=⟨_,List.getElem?_eq_getElem (by rw[HN.out];exact hlt)⟩
   obtain⟨b,o,rfl,hbl,hcl⟩:=(HX.out.below HB.out).get (i:=j) (r:=tric x) (by rw[List.getElem?_map,hx];rfl)
   obtain⟨xa,xb,xd⟩:=x
   have a0:=hcl 0 _ rfl
   have a1:=hcl 1 _ rfl
   have a2:=hcl 2 _ rfl
   rw[Nat.add_zero]at a0
   have HT:=hide (show (xs.take (j+1)).all f=((xs.take j).all f && f ⟨xa,xb,xd⟩) by rw[take_snoc hx,List.all_append];simp)
   have HI:=hide (show f ⟨xa,xb,xd⟩=false→xs.all f=false from fun h=>by rw[List.all_eq_false];exact⟨_,List.mem_of_getElem? hx,by simp[h]⟩)
   obtain⟨w6,hw6,hb6,hx6⟩:=box_one wr #[.int .i64 xa,.int .i64 xb,.int .i64 xd] 99
   have HB6:=hide (HB.out.trans (hb6.mono HB.out.size))
   obtain⟨y0,y1,y2⟩:=ac3 hx6
   obtain⟨c0,c1,c2,c3,c4,c5⟩:=ac6 ((HB6.out.block _ (ac_lt HX2.out)).trans HX2.out)
   have HQ:=hide (HC.out w6 HB6.out xa xb xd)
   rw[HF.out xa xb xd]at HQ
   have HW6:=hide hw6
   clear hx hcl hw6 hb6 hx6
   go_upto_region 4 with (fail)
   rw[HW6.out]
   cases hv:f ⟨xa,xb,xd⟩ with
   | true =>
    rw[hv]at HQ
    go_wp2_with (go_at_call 44;refine HQ.out.mono ?_;rintro e w7 ⟨rfl,hb7⟩;have HB7:=hide (HB6.out.trans (hb7.mono HB6.out.size));clear hb7)
    go_roundw
    case rel=>exact⟨j+1,by omega,by go_num,by show _=_;rw[HT.out,HA.out,hv];rfl,HB7⟩
    case measure=>simp[intOf];omega
   | false =>
    rw[hv]at HQ
    have HV:=HI.out hv
    clear hv
    go_wp2_with (go_at_call 44;refine HQ.out.mono ?_;rintro e w7 ⟨rfl,hb7⟩;have HB7:=hide (HB6.out.trans (hb7.mono HB6.out.size));clear hb7)
    go_ret
    try rw[HV]
    exact⟨rfl,HB2.out.trans (HB7.out.mono HB2.out.size)⟩
  ·have hlt':¬(j:Int)<(n:Int):=by omega
   have HV:xs.all f=true:=by have h:=HA.out;rw[List.take_of_length_le (by rw[HN.out];omega)]at h;exact h
   go_wp2
   go_ret
   try rw[HV]
   exact⟨rfl,HB2.out.trans (HB.out.mono HB2.out.size)⟩
end Go.Proofs.YtfbegfapoijbnaaGreat
namespace Go.Proofs.YtfbegfapoijbnaaGreat
open Go.RowKit
def Sta.owes (s:Sta) (t g:Int):Bool:=hasAt s.gen t && decide (getAt s.gen 0 t=g) && getAt s.owed false t
end Go.Proofs.YtfbegfapoijbnaaGreat
namespace Go.Proofs.YtfbegfapoijbnaaGreat
open Go.RowKit
set_option maxHeartbeats 2000000 in
theorem free1_gen (w:World) (s:Sta) (hs:StaOk w s) (S:Nat) (a b:Int) (hS:w.heap[S]?=some (.cells s.arr 45 (0,0))) :
  Calls Tryz.prog 32 #[.agg #[.int .i64 a,.int .i64 b],.pointer (some ⟨S,0,none⟩)] w fun e w'=>e=.returned (.int .i64 (s.free a b))∧Below w.heap.size w w':=by
 obtain⟨w2,hw2,hb2,hk2⟩:=box_one w #[.int .i64 a,.int .i64 b] 104
 obtain⟨c0,c1,c2,c3,c4,c5⟩:=ac6 ((hb2.block S (ac_lt hS)).trans hS)
 obtain⟨k0,k1⟩:=ac2 hk2
 have HH:=hide (free_gen w2 s (hs.below hb2) a b)
 have HW2:=hide hw2
 have HB2:=hide hb2
 generalize s.free a b=q at HH ⊢
 clear hw2 hb2 hk2 hS hs
 go_enter Tryz.func32,Tryz.ntmps32
 go_upto_region 1 with (fail)
 rw[HW2.out]
 go_wp2_with (go_at_call 33;refine HH.out.mono ?_;rintro e w3 ⟨rfl,hb3⟩;have HB3:=hide (HB2.out.trans (hb3.mono HB2.out.size));clear hb3)
 go_ret
 exact⟨rfl,HB3.out⟩
set_option maxHeartbeats 2000000 in
theorem freeA_gen (w:World) (s:Sta) (hs:StaOk w s) (S:Nat) (hS:w.heap[S]?=some (.cells s.arr 45 (0,0))) (p:Option Addr) (n c:Nat) (xs:List Lin) (hn:xs.length=n) (hnl:n≤1099511627776) (hwf:∀x∈xs,LinWf x) (hx:Cel w p 2 (xs.map linc)) :
  Calls Tryz.prog 31 #[.slice p n c,.func (.func 32) #[] #[.pointer (some ⟨S,0,none⟩)]] w fun e w'=>e=.returned (.bool ((needT xs).all (fun x=>decide (x.n≤s.free x.a x.b))))∧Below w.heap.size w w':=by
 have HN:=hide (needs_any w p n c xs hn hnl hwf (cel_lins hx))
 obtain⟨ys,hys⟩:∃ys,needT xs=ys:=⟨_,rfl⟩
 have hyl:ys.length≤1099511627776:=by rw[←hys];exact Nat.le_trans (needT_len xs) (by omega)
 rw[hys]at HN ⊢
 have HSt:=hide hs
 have HS:=hide hS
 skip
 have HKo:=hide (fun W a b n=>kindOf_any W a b n)
 have HHo:=hide (fun (W:World) (hb:Below w.heap.size w W) (a b:Int)=>free1_gen W s (hs.below hb) S a b ((hb.block S (ac_lt hS)).trans hS))
 obtain⟨f,hf⟩:∃f:Tri→Bool,(fun x:Tri=>decide (x.n≤s.free x.a x.b))=f:=⟨_,rfl⟩
 have HF:Hid (∀x:Tri,decide (x.n≤s.free x.a x.b)=f x):=fun x=>by rw[←hf]
 rw[hf]
 clear hf hs hS hx hwf hn hys
 go_enter Tryz.func31,Tryz.ntmps31
 go_wp2_with (go_at_call 15;refine HN.out.mono ?_;rintro e w1 ⟨v,rfl,hr1,hb1⟩;obtain⟨va,vc,rfl⟩:=slice_form hr1;have HR1:=hide hr1;have HB1:=hide hb1;clear hr1 hb1)
 go_loopw [10] (fun i wr=>∃j:Nat,j≤ys.length∧i=.int .i64 j∧Hid ((ys.take j).all f=true)∧Hid (Below w1.heap.size w1 wr)) (fun i _=>ys.length - (intOf i).toNat)
 case atStart=>exact⟨0,Nat.zero_le _,rfl,rfl,Below.refl _ _⟩
 case round =>
  obtain⟨j,hj,rfl,HA,HB⟩:=hrel
  by_cases hlt:j<ys.length
  ·have hlt':(j:Int)<(ys.length:Int):=by omega
   have j0':(0:Int)≤(j:Int):=by omega
   obtain⟨x,hx⟩:∃x,ys[j]?=some x:=⟨_,List.getElem?_eq_getElem hlt⟩
   obtain⟨b,o,rfl,hbl,hcl⟩:=((cel_row HR1.out).below HB.out).get (i:=j) (r:=tric x) (by rw[List.getElem?_map,hx];rfl)
   have HT1:=hide (show (ys.take (j+1)).all f=((ys.take j).all f && f x) by rw[take_snoc hx,List.all_append];simp)
   have HI:=hide (show f x=false→ys.all f=false from fun h=>by rw[List.all_eq_false];exact⟨_,List.mem_of_getElem? hx,by simp[h]⟩)
   have HFx:=HF.out x
   obtain⟨xa,xb,xd⟩:=x
   dsimp only at HFx
   have a0:=hcl 0 _ rfl
   have a1:=hcl 1 _ rfl
   have a2:=hcl 2 _ rfl
   rw[Nat.add_zero]at a0
   obtain⟨w2,hw2,hb2',hx2⟩:=box_one wr #[.int .i64 xa,.int .i64 xb,.int .i64 xd] 53
   have HB12:=hide (HB.out.trans (hb2'.mono HB.out.size))
   have HB2:=hide (HB1.out.trans (HB12.out.mono HB1.out.size))
   obtain⟨y0,y1,y2⟩:=ac3 hx2
   have HX2:=hide hx2
   have HW2:=hide hw2
   have HHx:=hide (fun W hb=>HHo.out W hb xa xb)
   generalize s.free xa xb=q at HHx HFx
   clear hx hcl hw2 hb2' hx2
   go_upto_region 4 with (fail)
   rw[HW2.out]
   go_region_held3 (fun w'=>w'.cell? ⟨wr.heap.size,0,none⟩=some (.int .i64 xa)∧w'.cell? ⟨wr.heap.size,1,none⟩=some (.int .i64 xb)∧w'.cell? ⟨wr.heap.size,2,none⟩=some (.int .i64 xd)) (go_keep) (first | (go_at_call 32;refine(HHx.out _ HB3.out).mono ?_;rintro e w4 ⟨rfl,hb4⟩;obtain⟨z0,z1,z2⟩:=ac3 ((hb4.block _ (ac_lt HX3.out)).trans HX3.out);have HB4:Hid (Below w1.heap.size w1 w4):=HB13.out.trans (hb4.mono HB13.out.size);clear hb4) | (go_at_call 60;refine(HKo.out _ xa xb xd).mono ?_;rintro e w3 ⟨rfl,hb3'⟩;have hb3:Below w2.heap.size w2 w3:=⟨hb3'.os,hb3'.tape,hb3'.output,hb3'.size,hb3'.block⟩;clear hb3';have HX3:=hide ((hb3.block _ (ac_lt HX2.out)).trans HX2.out);obtain⟨z0,z1,z2⟩:=ac3 HX3.out;have HB3:Hid (Below w.heap.size w w3):=HB2.out.trans (hb3.mono HB2.out.size);have HB13:Hid (Below w1.heap.size w1 w3):=HB12.out.trans (hb3.mono HB12.out.size);clear hb3) | fail)
   by_cases hq:xd≤q
   ·have hq':¬q<xd:=by omega
    rw[decide_eq_true hq]at HFx
    go_wp2
    go_roundw
    case rel=>exact⟨j+1,by omega,by go_num,by show _=_;rw[HT1.out,HA.out,←HFx];rfl,by first | exact HB4 | exact HB4.out.drew⟩
    case measure=>simp[intOf];omega
   ·have hq':q<xd:=by omega
    rw[decide_eq_false hq]at HFx
    have HV:=HI.out HFx.symm
    clear HFx
    go_wp2
    go_ret
    try rw[HV]
    first | exact⟨rfl,HB1.out.trans (HB4.out.mono HB1.out.size)⟩ | exact⟨rfl,(HB1.out.trans (HB4.out.mono HB1.out.size)).drew⟩
  ·have hlt':¬(j:Int)<(ys.length:Int):=by omega
   have HV:ys.all f=true:=by have h:=HA.out;rw[List.take_of_length_le (by omega)]at h;exact h
   go_wp2
   go_ret
   try rw[HV]
   exact⟨rfl,HB1.out.trans (HB.out.mono HB1.out.size)⟩
set_option maxHeartbeats 2000000 in
theorem holds1_gen (w:World) (s:Sta) (hs:StaOk w s) (t:Int) (S:Nat) (T:Nat) (a b:Int) (hS:w.heap[S]?=some (.cells s.arr 45 (0,0))) (hT:w.heap[T]?=some (.cells #[.int .i64 t] 3 (0,0))) :
  Calls Tryz.prog 34 #[.agg #[.int .i64 a,.int .i64 b],.pointer (some ⟨S,0,none⟩),.pointer (some ⟨T,0,none⟩)] w fun e w'=>e=.returned (.int .i64 (s.held t a b))∧Below w.heap.size w w':=by
 obtain⟨w2,hw2,hb2,hk2⟩:=box_one w #[.int .i64 a,.int .i64 b] 104
 obtain⟨c0,c1,c2,c3,c4,c5⟩:=ac6 ((hb2.block S (ac_lt hS)).trans hS)
 obtain⟨k0,k1⟩:=ac2 hk2
 have t0:w2.cell? ⟨T,0,none⟩=some (.int .i64 t):=by simp[World.cell?,(hb2.block T (ac_lt hT)).trans hT]
 have HH:=hide (held_gen w2 s (hs.below hb2) t a b)
 have HW2:=hide hw2
 have HB2:=hide hb2
 generalize s.held t a b=q at HH ⊢
 clear hw2 hb2 hk2 hS hT hs
 go_enter Tryz.func34,Tryz.ntmps34
 go_upto_region 1 with (fail)
 rw[HW2.out]
 go_wp2_with (go_at_call 35;refine HH.out.mono ?_;rintro e w3 ⟨rfl,hb3⟩;have HB3:=hide (HB2.out.trans (hb3.mono HB2.out.size));clear hb3)
 go_ret
 exact⟨rfl,HB3.out⟩
set_option maxHeartbeats 2000000 in
theorem holdsA_gen (w:World) (s:Sta) (hs:StaOk w s) (t:Int) (S:Nat) (T:Nat) (hS:w.heap[S]?=some (.cells s.arr 45 (0,0))) (hT:w.heap[T]?=some (.cells #[.int .i64 t] 3 (0,0))) (p:Option Addr) (n c:Nat) (xs:List Lin) (hn:xs.length=n) (hnl:n≤1099511627776) (hwf:∀x∈xs,LinWf x) (hx:Cel w p 2 (xs.map linc)) :
  Calls Tryz.prog 31 #[.slice p n c,.func (.func 34) #[] #[.pointer (some ⟨S,0,none⟩),.pointer (some ⟨T,0,none⟩)]] w fun e w'=>e=.returned (.bool ((needT xs).all (fun x=>decide (x.n≤s.held t x.a x.b))))∧Below w.heap.size w w':=by
 have HN:=hide (needs_any w p n c xs hn hnl hwf (cel_lins hx))
 obtain⟨ys,hys⟩:∃ys,needT xs=ys:=⟨_,rfl⟩
 have hyl:ys.length≤1099511627776:=by rw[←hys];exact Nat.le_trans (needT_len xs) (by omega)
 rw[hys]at HN ⊢
 have HSt:=hide hs
 have HS:=hide hS
 have HT:=hide hT
 have HKo:=hide (fun W a b n=>kindOf_any W a b n)
 have HHo:=hide (fun (W:World) (hb:Below w.heap.size w W) (a b:Int)=>holds1_gen W s (hs.below hb) t S T a b ((hb.block S (ac_lt hS)).trans hS) ((hb.block T (ac_lt hT)).trans hT))
 obtain⟨f,hf⟩:∃f:Tri→Bool,(fun x:Tri=>decide (x.n≤s.held t x.a x.b))=f:=⟨_,rfl⟩
 have HF:Hid (∀x:Tri,decide (x.n≤s.held t x.a x.b)=f x):=fun x=>by rw[←hf]
 rw[hf]
 clear hf hs hS hT hx hwf hn hys
 go_enter Tryz.func31,Tryz.ntmps31
 go_wp2_with (go_at_call 15;refine HN.out.mono ?_;rintro e w1 ⟨v,rfl,hr1,hb1⟩;obtain⟨va,vc,rfl⟩:=slice_form hr1;have HR1:=hide hr1;have HB1:=hide hb1;clear hr1 hb1)
 go_loopw [10] (fun i wr=>∃j:Nat,j≤ys.length∧i=.int .i64 j∧Hid ((ys.take j).all f=true)∧Hid (Below w1.heap.size w1 wr)) (fun i _=>ys.length - (intOf i).toNat)
 case atStart=>exact⟨0,Nat.zero_le _,rfl,rfl,Below.refl _ _⟩
 case round =>
  obtain⟨j,hj,rfl,HA,HB⟩:=hrel
  by_cases hlt:j<ys.length
  ·have hlt':(j:Int)<(ys.length:Int):=by omega
   have j0':(0:Int)≤(j:Int):=by omega
   obtain⟨x,hx⟩:∃x,ys[j]?=some x:=⟨_,List.getElem?_eq_getElem hlt⟩
   obtain⟨b,o,rfl,hbl,hcl⟩:=((cel_row HR1.out).below HB.out).get (i:=j) (r:=tric x) (by rw[List.getElem?_map,hx];rfl)
   have HT1:=hide (show (ys.take (j+1)).all f=((ys.take j).all f && f x) by rw[take_snoc hx,List.all_append];simp)
   have HI:=hide (show f x=false→ys.all f=false from fun h=>by rw[List.all_eq_false];exact⟨_,List.mem_of_getElem? hx,by simp[h]⟩)
   have HFx:=HF.out x
   obtain⟨xa,xb,xd⟩:=x
   dsimp only at HFx
   have a0:=hcl 0 _ rfl
   have a1:=hcl 1 _ rfl
   have a2:=hcl 2 _ rfl
   rw[Nat.add_zero]at a0
   obtain⟨w2,hw2,hb2',hx2⟩:=box_one wr #[.int .i64 xa,.int .i64 xb,.int .i64 xd] 53
   have HB12:=hide (HB.out.trans (hb2'.mono HB.out.size))
   have HB2:=hide (HB1.out.trans (HB12.out.mono HB1.out.size))
   obtain⟨y0,y1,y2⟩:=ac3 hx2
   have HX2:=hide hx2
   have HW2:=hide hw2
   have HHx:=hide (fun W hb=>HHo.out W hb xa xb)
   generalize s.held t xa xb=q at HHx HFx
   clear hx hcl hw2 hb2' hx2
   go_upto_region 4 with (fail)
   rw[HW2.out]
   go_region_held3 (fun w'=>w'.cell? ⟨wr.heap.size,0,none⟩=some (.int .i64 xa)∧w'.cell? ⟨wr.heap.size,1,none⟩=some (.int .i64 xb)∧w'.cell? ⟨wr.heap.size,2,none⟩=some (.int .i64 xd)) (go_keep) (first | (go_at_call 34;refine(HHx.out _ HB3.out).mono ?_;rintro e w4 ⟨rfl,hb4⟩;obtain⟨z0,z1,z2⟩:=ac3 ((hb4.block _ (ac_lt HX3.out)).trans HX3.out);have HB4:Hid (Below w1.heap.size w1 w4):=HB13.out.trans (hb4.mono HB13.out.size);clear hb4) | (go_at_call 60;refine(HKo.out _ xa xb xd).mono ?_;rintro e w3 ⟨rfl,hb3'⟩;have hb3:Below w2.heap.size w2 w3:=⟨hb3'.os,hb3'.tape,hb3'.output,hb3'.size,hb3'.block⟩;clear hb3';have HX3:=hide ((hb3.block _ (ac_lt HX2.out)).trans HX2.out);obtain⟨z0,z1,z2⟩:=ac3 HX3.out;have HB3:Hid (Below w.heap.size w w3):=HB2.out.trans (hb3.mono HB2.out.size);have HB13:Hid (Below w1.heap.size w1 w3):=HB12.out.trans (hb3.mono HB12.out.size);clear hb3) | fail)
   by_cases hq:xd≤q
   ·have hq':¬q<xd:=by omega
    rw[decide_eq_true hq]at HFx
    go_wp2
    go_roundw
    case rel=>exact⟨j+1,by omega,by go_num,by show _=_;rw[HT1.out,HA.out,←HFx];rfl,by first | exact HB4 | exact HB4.out.drew⟩
    case measure=>simp[intOf];omega
   ·have hq':q<xd:=by omega
    rw[decide_eq_false hq]at HFx
    have HV:=HI.out HFx.symm
    clear HFx
    go_wp2
    go_ret
    try rw[HV]
    first | exact⟨rfl,HB1.out.trans (HB4.out.mono HB1.out.size)⟩ | exact⟨rfl,(HB1.out.trans (HB4.out.mono HB1.out.size)).drew⟩
  ·have hlt':¬(j:Int)<(ys.length:Int):=by omega
   have HV:ys.all f=true:=by have h:=HA.out;rw[List.take_of_length_le (by omega)]at h;exact h
   go_wp2
   go_ret
   try rw[HV]
   exact⟨rfl,HB1.out.trans (HB.out.mono HB1.out.size)⟩
set_option maxHeartbeats 2000000 in
theorem free_all (w:World) (s:Sta) (hs:StaOk w s) (p:Option Addr) (n c:Nat) (xs:List Lin) (hn:xs.length=n) (hnl:n≤1099511627776) (hwf:∀x∈xs,LinWf x) (hx:Cel w p 2 (xs.map linc)) :
  Calls Tryz.prog 10 #[.agg s.arr,.slice p n c] w fun e w'=>e=.returned (.bool ((needT xs).all (fun x=>decide (x.n≤s.free x.a x.b))))∧Below w.heap.size w w':=by
 obtain⟨w2,hw2,hb2,hx2⟩:=box_one w s.arr 45
 have HH:=hide (freeA_gen w2 s (hs.below hb2) w.heap.size hx2 p n c xs hn hnl hwf (hx.below hb2))
 have HW2:=hide hw2
 have HB2:=hide hb2
 generalize (needT xs).all (fun x=>decide (x.n≤s.free x.a x.b))=q at HH ⊢
 clear hw2 hb2 hx2 hs hx hwf
 go_enter Tryz.func10,Tryz.ntmps10
 go_upto_region 1 with (fail)
 rw[HW2.out]
 go_wp2_with (go_at_call 31;refine HH.out.mono ?_;rintro e w3 ⟨rfl,hb3⟩;have HB3:=hide (HB2.out.trans (hb3.mono HB2.out.size));clear hb3)
 go_ret
 exact⟨rfl,HB3.out⟩
set_option maxHeartbeats 2000000 in
theorem holds_all (w:World) (s:Sta) (hs:StaOk w s) (t:Int) (p:Option Addr) (n c:Nat) (xs:List Lin) (hn:xs.length=n) (hnl:n≤1099511627776) (hwf:∀x∈xs,LinWf x) (hx:Cel w p 2 (xs.map linc)) :
  Calls Tryz.prog 12 #[.agg s.arr,.int .i64 t,.slice p n c] w fun e w'=>e=.returned (.bool ((needT xs).all (fun x=>decide (x.n≤s.held t x.a x.b))))∧Below w.heap.size w w':=by
 obtain⟨w2,hw2,hb2,hx2,ht2⟩:=box_two w s.arr 45 3 #[.int .i64 t]
 have HH:=hide (holdsA_gen w2 s (hs.below hb2) t w.heap.size (w.heap.size+1) hx2 ht2 p n c xs hn hnl hwf (hx.below hb2))
 have HW2:=hide hw2
 have HB2:=hide hb2
 generalize (needT xs).all (fun x=>decide (x.n≤s.held t x.a x.b))=q at HH ⊢
 clear hw2 hb2 hx2 ht2 hs hx hwf
 go_enter Tryz.func12,Tryz.ntmps12
 go_upto_region 1 with (fail)
 rw[HW2.out]
 go_wp2_with (go_at_call 31;refine HH.out.mono ?_;rintro e w3 ⟨rfl,hb3⟩;have HB3:=hide (HB2.out.trans (hb3.mono HB2.out.size));clear hb3)
 go_ret
 exact⟨rfl,HB3.out⟩
end Go.Proofs.YtfbegfapoijbnaaGreat
namespace Go.Proofs.YtfbegfapoijbnaaGreat
open Go.RowKit
theorem set_info3:(Tryz.prog.info? 101).map (fun i=>(i.zero,i.size,i.bytes))=some (some (.agg #[.int .i64 0,.int .i64 0,.int .i64 0]),3,24):=by kernel_rfl
def Sta.raise (s:Sta) (x:Tri):Tri:=⟨x.a,wrap64 ((getAt s.prices ⟨0,0⟩ x.a).n+1),x.n⟩
end Go.Proofs.YtfbegfapoijbnaaGreat
