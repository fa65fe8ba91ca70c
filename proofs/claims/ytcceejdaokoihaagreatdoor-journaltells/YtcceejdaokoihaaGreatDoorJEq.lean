import Derived.Laws.MakeOwn
import Derived.Laws.ResultCell
import Derived.Test.YtcceejdaokoihaaGreatDoorJRead
import Derived.BigQuiet
set_option maxRecDepth 100000
namespace Go.Proofs.YtcceejdaokoihaaGreatDoor
open Go.RowKit
theorem Tryz.infoRw:(Tryz.prog.info? 32).map (fun i=>(i.zero,i.size,i.bytes))=some (some (.slice none 0 0),1,24):=by kernel_rfl
def rA (xs:List Nat) (a0 f0:Nat):Nat→Nat × Nat
 | 0=>(a0,f0)
 | j+1=>(C.rText 4194291 xs (rA xs a0 f0 j).1 (rA xs a0 f0 j).2).2
def rP (xs:List Nat) (a0 f0 j:Nat):List Nat:=C.got xs (rA xs a0 f0 j).1 (C.rText 4194291 xs (rA xs a0 f0 j).1 (rA xs a0 f0 j).2)
def bNum (xs:List Nat):C.It × Nat × Nat:=C.rNext 2 0 xs 0 0
def bCnt (xs:List Nat):C.It × Nat × Nat:=C.rNext 1 0 xs (bNum xs).2.1 (bNum xs).2.2
def bEnd (xs:List Nat):Nat × Nat:=rA xs (bCnt xs).2.1 (bCnt xs).2.2 (bCnt xs).1.num
def bParts (xs:List Nat) (k:Nat):List (List Nat):=(List.range k).map (rP xs (bCnt xs).2.1 (bCnt xs).2.2)
def readB (xs:List Nat):Option (Nat × List (List Nat)) :=
 if (bNum xs).1.num<1∨1099511627776<(bNum xs).1.num∨4096<(bCnt xs).1.num then none
 else if C.pEnd xs.length (bEnd xs).1 (bEnd xs).2≠0 then none else some ((bNum xs).1.num,bParts xs (bCnt xs).1.num)
theorem bParts_succ (xs:List Nat) (k:Nat):bParts xs (k+1)=bParts xs k++[rP xs (bCnt xs).2.1 (bCnt xs).2.2 k]:=by simp[bParts,List.range_succ]
theorem bParts_len (xs:List Nat) (k:Nat):(bParts xs k).length=k:=by simp[bParts]
def U8k (w w':World):Prop:=∀(g:Nat) (D:Array Value) (fr:Nat × Nat),w.heap[g]?=some (.cells D 5 fr)→w'.heap[g]?=w.heap[g]?
theorem U8k.trans {a b c:World} (h:U8k a b) (k:U8k b c):U8k a c:=fun g D fr e=>(k g D fr ((h g D fr e).trans e)).trans (h g D fr e)
theorem u8k_but {b:Nat} {w w':World} {C0:Array Value} {t:TypeId} {fr0:Nat × Nat} (h:C.But b w w') (hb:w.heap[b]?=some (.cells C0 t fr0)) (ht:t≠5):U8k w w':=fun g D fr e=>h.block g (lt_of_block e) (fun e2=>by subst e2;rw[hb]at e;cases e;exact ht rfl)
theorem u8k_below {w w':World} (h:Below w.heap.size w w'):U8k w w':=fun g _ _ e=>h.block g (lt_of_block e)
theorem u8k_grown {w w':World} {v:Value} {B n s:Nat} {t:TypeId} {xs:List Value} (h:w.grownBy w' v.ownBlock) (ho:w.ownsRow B t s v n xs) (ht:t≠5):U8k w w':=fun g _ _ e=>h.block g (lt_of_block e) (owns_ne ho e (fun e2=>ht e2.symm))
theorem u8k_set {w:World} {b i:Nat} {v:Value} {C0:Array Value} {t:TypeId} {fr0:Nat × Nat} (hb:w.heap[b]?=some (.cells C0 t fr0)) (ht:t≠5):U8k w (w.setCell ⟨b,i,none⟩ v):=fun g D fr e=>Below.heap_setCell _ _ _ _ (fun e2=>by
 have e3:g=b:=e2
 subst e3;rw[hb]at e;cases e;exact ht rfl)
theorem mine_kept {B:Nat} {w w':World} {sp:Option Addr} {ys:List Nat} (h:C.Mine B w sp ys) (hk:U8k w w'):C.Mine B w' sp ys:=by
 rcases h with h | ⟨g,e,h1,h2⟩
 ·exact Or.inl h
 ·exact Or.inr ⟨g,e,h1,(hk g _ _ h2).trans h2⟩
theorem mine_mono {B B':Nat} {w:World} {sp:Option Addr} {ys:List Nat} (h:C.Mine B w sp ys) (hB:B'≤B):C.Mine B' w sp ys:=by
 rcases h with h | ⟨g,e,h1,h2⟩
 ·exact Or.inl h
 ·exact Or.inr ⟨g,e,Nat.le_trans hB h1,h2⟩
structure Prow (B:Nat) (w:World) (a:Option Addr) (j c:Nat) (ps:List (List Nat)):Prop where
 len:ps.length=j
 row:∃vs:List Value,w.ownsRow B 32 1 (Value.slice a j c) j vs∧∀(i:Nat) (p:List Nat),ps[i]?=some p→∃sp:Option Addr,vs[i]?=some (Value.slice sp p.length p.length)∧C.Mine B w sp p∧∀x∈p,x<256
theorem Prow.pts {B:Nat} {w:World} {a:Option Addr} {j c:Nat} {ps:List (List Nat)} (h:Prow B w a j c ps) (hs:∀p∈ps,p.length≤140737488351232):Pts w a ps:=by
 obtain⟨vs,h1,h2⟩:=h.row
 refine⟨hs,?_⟩
 rcases h1.2 with ⟨_,e2⟩ | ⟨g,cap,cur,e1,_,hg,e3,e4,e5,e6⟩
 ·left;exact List.eq_nil_of_length_eq_zero (by rw[h.len];exact e2)
 ·cases e1
  right
  refine⟨g,0,rfl,lt_of_block hg,fun i p hp=>?_⟩
  obtain⟨sp,hv,hm,hx⟩:=h2 i p hp
  refine⟨sp,p.length,?_,Bytes.of_c (hm.bytes hx)⟩
  have hi:i<j:=by rw[←h.len];exact(List.getElem?_eq_some_iff.1 hp).1
  rw[←e6,List.getElem?_take,if_pos (by omega)]at hv
  simp only[World.cell?,hg,Nat.zero_add]
  simpa using hv
theorem res_ct {fn:Func} {p u:Tmp} {ty:TypeId} (h:fn.results=#[.cell p ty,.tmp u]) (tmps:Array Value) (w:World) (g:Nat) (t:TypeId) (cs:Array Value) (fr:Nat × Nat) (fs:Array Field)
  (hp:tmps.getD p undef=.pointer (some ⟨g,0,none⟩)) (hg:w.heap[g]?=some (.cells cs t fr))
  (hu:Tryz.prog.underlying ty=some (.struct fs)) (hi:(Tryz.prog.info? ty).map (·.size)=some cs.size) :
  (results fn tmps).run Tryz.prog w=.ok (.tuple #[.agg cs,tmps.getD u undef]) w:=by
 rw[results_cell_tmp h,hp]
 simp[asAddr,run_loadVar_row w g t ty cs fr (.struct fs) hg hu rfl hi]
theorem Tryz.sizeTr:(Tryz.prog.info? 105).map (·.size)=some 2:=by kernel_rfl
theorem store2 {w:World} {b:Nat} {x y x' y':Value} {t:TypeId} (h:w.heap[b]?=some (.cells #[x,y] t (0,0))):((w.setCell ⟨b,0,none⟩ x').setCell ⟨b,1,none⟩ y').heap[b]?=some (.cells #[x',y'] t (0,0)):=by
 rw[block_set (block_set h x')];rfl
theorem below_set2 {B b:Nat} {w0 w:World} (h:Below B w0 w) (hb:B≤b) (x y:Value):Below B w0 ((w.setCell ⟨b,0,none⟩ x).setCell ⟨b,1,none⟩ y):=(h.setCell (p:=⟨b,0,none⟩) hb x).setCell (p:=⟨b,1,none⟩) hb y
structure Bs (w wr:World) (b h:Nat) (xs:List Nat) (a f tb num:Nat) (v:Value):Prop where
 rd:C.Rd wr b h xs a f
 res:wr.heap[w.heap.size]?=some (.cells #[.int .u64 0,.slice none 0 0] 105 (0,0))
 t:wr.heap[tb]?=some (.cells #[.int .u64 (num:Int),v] 105 (0,0))
 bel:Below w.heap.size w wr
 lo:w.heap.size<h∧h<b∧b<tb
theorem Bs.took {w wr w':World} {b h:Nat} {xs:List Nat} {a f a' f' tb num:Nat} {v:Value} (H:Bs w wr b h xs a f tb num v) (hr:C.Rd w' b h xs a' f') (hb:C.But b wr w'):Bs w w' b h xs a' f' tb num v :=
 ⟨hr,(hb.block _ (lt_of_block H.res) (by have:=H.lo;omega)).trans H.res,(hb.block _ (lt_of_block H.t) (by have:=H.lo;omega)).trans H.t,but_below hb H.bel (by have:=H.lo;omega) H.bel.size,H.lo⟩
theorem Bs.put {w w2 w4:World} {b h:Nat} {xs:List Nat} {a f tb num L:Nat} {v:Value} (H:Bs w w2 b h xs a f tb num v) (hb:Below L w2 w4) (hL:tb<L) (hL2:L≤w2.heap.size) (u:Value):Bs w (w4.setCell ⟨tb,1,none⟩ u) b h xs a f tb num u:=by
 have hne:∀i,i<L→i≠tb→(w4.setCell ⟨tb,1,none⟩ u).heap[i]?=w2.heap[i]?:=fun i hi hn=>(Below.heap_setCell _ _ _ _ hn).trans (hb.block i hi)
 have hlo:=H.lo
 refine⟨⟨(hne b (by omega) (by omega)).trans H.rd.blk,⟨H.rd.held.small,H.rd.held.lie.imp id ?_⟩,H.rd.len,H.rd.le⟩,(hne _ (by omega) (by omega)).trans H.res,?_,?_,hlo⟩
 ·rintro ⟨g,o,e,hg,hc⟩
  cases e
  refine⟨h,0,rfl,?_,fun j hj=>?_⟩
  ·have:=hb.size
   simp[World.setCell]
   omega
  ·rw[World.cell?_of_block (w:=w2) (hne h (by omega) (by omega))];exact hc j hj
 ·rw[block_set ((hb.block tb hL).trans H.t)];rfl
 ·exact(H.bel.trans (hb.mono (by omega))).setCell (p:=⟨tb,1,none⟩) (show w.heap.size≤tb by omega) _
theorem Prow.mono {B B':Nat} {w:World} {a:Option Addr} {j c:Nat} {ps:List (List Nat)} (h:Prow B w a j c ps) (hB:B'≤B):Prow B' w a j c ps:=by
 obtain⟨vs,h1,h2⟩:=h.row
 refine⟨h.len,vs,⟨h1.1,h1.2.imp id ?_⟩,fun i p hp=>?_⟩
 ·rintro ⟨g,cap,cur,e1,e2,r⟩
  exact⟨g,cap,cur,e1,Nat.le_trans hB e2,r⟩
 ·obtain⟨sp,q1,q2,q3⟩:=h2 i p hp
  exact⟨sp,q1,mine_mono q2 hB,q3⟩
theorem blk2 {w:World} {b:Nat} {x y:Value} {t:TypeId} (h:w.heap[b]?=some (.cells #[x,y] t (0,0))):w.cell? ⟨b,0,none⟩=some x∧w.cell? ⟨b,1,none⟩=some y∧(∀o,w.frozen? ⟨b,o,none⟩=false) :=
 ⟨by simp[World.cell?,h],by simp[World.cell?,h],fun o=>by simp[World.frozen?,h]⟩
set_option maxHeartbeats 1000000 in
theorem readBody_any (w:World) (sp:Option Addr) (m cap:Nat) (xs:List Nat) (hm:xs.length=m) (hml:m≤4194304) (hx:Bytes w sp xs) :
  Calls Tryz.prog 108 #[.slice sp m cap] w fun e w' =>
   (∃num ps,readB xs=some (num,ps)∧∃pp c,e=.returned (.tuple #[.agg #[.int .u64 (num:Int),.slice pp ps.length c],.bool true])∧Prow w.heap.size w' pp ps.length c ps∧Below w.heap.size w w') ∨
   (readB xs=none∧e=.returned (.tuple #[.agg #[.int .u64 0,.slice none 0 0],.bool false])∧Below w.heap.size w w'):=by
 have HX:=hide hx
 have HM:=hide hm
 clear hx hm
 go_enter Tryz.func108,Tryz.ntmps108
 go_wp2_with fail
 have hR0:(w.alloc (.cells #[.int .u64 0,.slice none 0 0] 105)).heap[w.heap.size]?=some (.cells #[.int .u64 0,.slice none 0 0] 105 (0,0)):=heap_alloc_new _ _
 have hB0:Below w.heap.size w (w.alloc (.cells #[.int .u64 0,.slice none 0 0] 105)):=(Below.refl _ _).alloc (Nat.le_refl _) _
 have hsz:(w.alloc (.cells #[.int .u64 0,.slice none 0 0] 105)).heap.size=w.heap.size+1:=by simp
 generalize w.alloc (.cells #[.int .u64 0,.slice none 0 0] 105)=w1 at *
 refine(C.read_any w1 sp m cap xs HM.out (by omega) (HX.out.below hB0).c).mono ?_
 rintro e w2 ⟨rfl,hr2,hb2⟩
 have HR2:Hid (w2.heap[w.heap.size]?=_):=(hb2.block _ (by omega)).trans hR0
 have HB2:=hide (hB0.trans (hb2.mono hB0.size))
 obtain⟨b,hbq⟩:∃b,w1.heap.size+1=b:=⟨_,rfl⟩
 obtain⟨h,hhq⟩:∃h,w1.heap.size=h:=⟨_,rfl⟩
 rw[hbq,hhq]at hr2
 rw[hbq]
 have hb1:w.heap.size<h∧h<b:=by omega
 have HU:=hide (C.u64_any w2 b h xs 0 0 hr2)
 rw[show C.rNext 2 0 xs 0 0=bNum xs from rfl]at HU
 have HRb:=hide hr2.lt
 clear hr2 hb2 hR0 hB0 hsz hbq hhq
 go_wp2_with fail
 refine HU.out.mono ?_
 rintro e w3 ⟨rfl,hr3,hb3⟩
 have HR3:Hid (w3.heap[w.heap.size]?=_):=(hb3.block _ (lt_of_block HR2.out) (by omega)).trans HR2.out
 have HB3:=hide (but_below hb3 HB2.out (by omega) HB2.out.size)
 have HD3:=hide hr3
 obtain⟨num,hnum⟩:∃num,(bNum xs).1.num=num:=⟨_,rfl⟩
 have HNu:=hide hnum
 rw[hnum]
 clear hr3 hb3 HR2 HB2 HU hnum
 have hl3:=lt_of_block HR3.out
 have HS4:Hid (Bs w (w3.alloc (.cells #[.int .u64 (num:Int),.slice none 0 0] 105)) b h xs (bNum xs).2.1 (bNum xs).2.2 w3.heap.size num (.slice none 0 0)) :=
  ⟨HD3.out.below ((Below.refl _ _).alloc (Nat.le_refl _) _),(Below.heap_alloc _ _ _ hl3).trans HR3.out,heap_alloc_new _ _,HB3.out.alloc HB3.out.size _,hb1.1,hb1.2,HD3.out.lt⟩
 obtain⟨tb,htb⟩:∃tb,w3.heap.size=tb:=⟨_,rfl⟩
 go_wp2_with fail
 rw[htb]at HS4
 generalize w3.alloc (.cells #[.int .u64 (num:Int),.slice none 0 0] 105)=w4 at *
 have HU:=hide (C.u32_any w4 b h xs _ _ HS4.out.rd)
 rw[show C.rNext 1 0 xs (bNum xs).2.1 (bNum xs).2.2=bCnt xs from rfl]at HU
 have hks:(bCnt xs).1.num<4294967296:=C.num_small4 xs HX.out.small 1 0 _ _ (by simp[C.width])
 clear htb hl3 HR3 HB3 HD3
 refine HU.out.mono ?_
 rintro e w5 ⟨rfl,hr5,hb5⟩
 have HS5:=hide (HS4.out.took hr5 hb5)
 obtain⟨k,hk⟩:∃k,(bCnt xs).1.num=k:=⟨_,rfl⟩
 have HKe:=hide hk
 rw[hk]at hks
 rw[hk]
 obtain⟨x0,x1,xf⟩:=blk2 HS5.out.t
 obtain⟨r0,r1,rf⟩:=blk2 HS5.out.res
 clear hr5 hb5 HU HS4 hk
 by_cases q1:num<1
 ·have q1':(num:Int)<1:=by omega
  have e0:Hid (readB xs=none):=by show _=_;unfold readB;rw[HNu.out,if_pos (Or.inl q1)]
  go_wp2
  (try simp only[Exit.inBlock,Exit.then])
  refine bodyPost_ret (res_ct rfl _ _ w.heap.size _ _ _ _ rfl (store2 HS5.out.res) Tryz.underlying105 Tryz.sizeTr) rfl ?_
  exact Or.inr ⟨e0.out,rfl,below_set2 HS5.out.bel (Nat.le_refl _) _ _⟩
 have q1':¬(num:Int)<1:=by omega
 by_cases q2:1099511627776<num
 ·have q2':(1099511627776:Int)<(num:Int):=by omega
  have e0:Hid (readB xs=none):=by show _=_;unfold readB;rw[HNu.out,if_pos (Or.inr (Or.inl q2))]
  go_wp2
  (try simp only[Exit.inBlock,Exit.then])
  refine bodyPost_ret (res_ct rfl _ _ w.heap.size _ _ _ _ rfl (store2 HS5.out.res) Tryz.underlying105 Tryz.sizeTr) rfl ?_
  exact Or.inr ⟨e0.out,rfl,below_set2 HS5.out.bel (Nat.le_refl _) _ _⟩
 have q2':¬(1099511627776:Int)<(num:Int):=by omega
 by_cases q3:4096<k
 ·have q3':(4096:Int)<(k:Int):=by omega
  have e0:Hid (readB xs=none):=by show _=_;unfold readB;rw[HNu.out,HKe.out,if_pos (Or.inr (Or.inr q3))]
  go_wp2
  (try simp only[Exit.inBlock,Exit.then])
  refine bodyPost_ret (res_ct rfl _ _ w.heap.size _ _ _ _ rfl (store2 HS5.out.res) Tryz.underlying105 Tryz.sizeTr) rfl ?_
  exact Or.inr ⟨e0.out,rfl,below_set2 HS5.out.bel (Nat.le_refl _) _ _⟩
 have q3':¬(4096:Int)<(k:Int):=by omega
 have HRb2:Hid (readB xs=if C.pEnd xs.length (bEnd xs).1 (bEnd xs).2≠0 then none else some (num,bParts xs k)):=by
  show _=_
  unfold readB
  rw[HNu.out,HKe.out,if_neg (by omega)]
 have HEn:Hid (bEnd xs=rA xs (bCnt xs).2.1 (bCnt xs).2.2 k):=by show _=_;unfold bEnd;rw[HKe.out]
 obtain⟨i0,hi,hz0,hz1,hz2⟩:=info_parts Tryz.infoRw
 obtain⟨w6,hmk,hown6,hgr6⟩:=run_make_own (P:=Tryz.prog) w5 w5.heap.size 31 32 i0 (.slice none 0 0) 1 Tryz.underlying31 hi hz0 hz1 .i64 .u32 k (by rw[hz2];omega) (by unfold maxLen;omega) (Nat.le_refl _)
 have hb6:Below w5.heap.size w5 w6:=(Below.refl _ _).grown hgr6 (Nat.le_refl _) (fun k e=>by cases e)
 have hl6:=lt_of_block HS5.out.t
 have ht6:w6.heap[tb]?=_:=(hb6.block _ hl6).trans HS5.out.t
 have HS6:=hide (HS5.out.put hb6 hl6 (Nat.le_refl _) (.slice (some ⟨w5.heap.size,0,none⟩) 0 k))
 obtain⟨y0,y1,yf⟩:=blk2 ht6
 have hd1:decide ((num:Int)<1)=false:=by simp;omega
 have hd2:decide ((1099511627776:Int)<(num:Int))=false:=by simp;omega
 have hd3:decide ((4096:Int)<(k:Int))=false:=by simp;omega
 have hl7:=lt_of_block ht6
 have HP6:Hid (Prow w5.heap.size (w6.setCell ⟨tb,1,none⟩ (.slice (some ⟨w5.heap.size,0,none⟩) 0 k)) (some ⟨w5.heap.size,0,none⟩) 0 k (bParts xs 0)) :=
  ⟨rfl,[],owns_set hown6 (by simp[Value.ownBlock];omega),fun i p hp=>by simp[bParts]at hp⟩
 have hsz6:w5.heap.size≤(w6.setCell ⟨tb,1,none⟩ (.slice (some ⟨w5.heap.size,0,none⟩) 0 k)).heap.size:=by have:=hb6.size;simpa[World.setCell] using this
 clear hown6 hgr6 hb6 ht6
 go_wp2
 clear hmk
 have hsz7:w5.heap.size≤(w6.setCell ⟨tb,1,none⟩ (.slice (some ⟨w5.heap.size,0,none⟩) 0 k)).heap.size:=hsz6
 generalize w6.setCell ⟨tb,1,none⟩ (.slice (some ⟨w5.heap.size,0,none⟩) 0 k)=w7 at *
 have HL5:=hide hl6
 have HS5b:=HS5.out.bel.size
 have HZ5:Hid (w5.heap.size≤w7.heap.size):=hsz7
 clear x0 x1 xf y0 y1 yf r0 r1 rf hl6 hl7 hsz7
 go_loopw [31] (fun i wr=>∃(j:Nat) (pa:Option Addr) (c:Nat),j≤k∧i=.int .u32 (j:Int)∧Hid (Bs w wr b h xs (rA xs (bCnt xs).2.1 (bCnt xs).2.2 j).1 (rA xs (bCnt xs).2.1 (bCnt xs).2.2 j).2 tb num (.slice pa j c))∧Hid (Prow w5.heap.size wr pa j c (bParts xs j))∧Hid (w5.heap.size≤wr.heap.size)) (fun i _=>k - (intOf i).toNat)
 case atStart=>exact⟨0,_,k,Nat.zero_le _,rfl,HS6,HP6,HZ5⟩
 case round =>
  obtain⟨j,pa,c,hj,rfl,HS,HP,HZ⟩:=hrel
  clear HS6 HP6 HZ5
  obtain⟨x0,x1,xf⟩:=blk2 HS.out.t
  have hlt0:=lt_of_block HS.out.t
  by_cases hlt:j<k
  ·have i2:(j:Int)<(k:Int):=by omega
   have HTx:Hid (Calls Tryz.prog 149 #[.pointer (some ⟨b,0,none⟩),.int .i64 4194291] wr.drew fun e w'=>C.TookBytes wr.drew w' b h xs (rP xs (bCnt xs).2.1 (bCnt xs).2.2 j) (rA xs (bCnt xs).2.1 (bCnt xs).2.2 (j+1)).1 (rA xs (bCnt xs).2.1 (bCnt xs).2.2 (j+1)).2 e) :=
    C.text_any wr.drew b h xs _ _ 4194291 (by omega) ⟨HS.out.rd.blk,⟨HS.out.rd.held.small,HS.out.rd.held.lie⟩,HS.out.rd.len,HS.out.rd.le⟩
   obtain⟨vs,hv1,hv2⟩:=HP.out.row
   have HV1:=hide hv1
   have HV2:=hide hv2
   have HPj:=hide (bParts_succ xs j)
   obtain⟨q,hq⟩:∃q,rP xs (bCnt xs).2.1 (bCnt xs).2.2 j=q:=⟨_,rfl⟩
   rw[hq]at HTx HPj
   clear hv1 hv2 hq
   obtain⟨A1,hA1⟩:∃A1,rA xs (bCnt xs).2.1 (bCnt xs).2.2 (j+1)=A1:=⟨_,rfl⟩
   have HA1:=hide hA1
   rw[hA1]at HTx
   clear hA1
   have hcj:j≤4096:=by omega
   go_wp2
   go_region_law (first | (go_simp;go_at_call 149;refine HTx.out.mono ?_;rintro e w2 ⟨sp2,rfl,hm2,hs2,hr2,hb2⟩;have hbw:C.But b wr w2:=⟨hb2.os,hb2.tape,hb2.output,hb2.size,hb2.block⟩;have HS2:=hide (HS.out.took hr2 hbw);have HU2:=hide (u8k_but hbw HS.out.rd.blk (by decide));have HM2:=hide (mine_mono hm2 HZ.out);have HX2:=hide hs2;have HV2':=hide (owns_same HV1.out (fun g hg=>hbw.block g (rk_lt HV1.out hg) (fun e2=>owns_ne HV1.out HS.out.rd.blk (by decide) (by rw[hg,e2]))));obtain⟨z0,z1,zf⟩:=blk2 HS2.out.t;have hl2:=lt_of_block HS2.out.t;have hs22:w5.heap.size≤w2.heap.size:=Nat.le_trans HZ.out hb2.size;have hsl2:w5.heap.size≤(w2.alloc (.cells #[.slice sp2 q.length q.length] 32)).heap.size:=by { simp;omega };clear hm2 hs2 hr2 hb2 hbw) | (refine step_append_lies _ (by rfl) (.tmp 34) (.tmp 37) 31 (by rfl) w5.heap.size 32 i0 (.slice none 0 0) 1 24 Tryz.underlying31 hi hz0 hz1 hz2 rfl (by omega) (.slice pa j c) j vs (by rfl) (HV2'.out.alloc _) ⟨w2.heap.size,0,none⟩ 1 1 [.slice sp2 q.length q.length] (by rfl) rfl (World.news_of_block (heap_alloc_new w2 (.cells #[.slice sp2 q.length q.length] 32))) (by simp[Value.oneCell']) (by omega) (by unfold maxLen;omega) (by omega) hsl2 _ rfl ?_;intro g' cap' w4 hown4 hgrow4 hat4 hltg;have HO4:=hide hown4;have HG4:=hide hgrow4;have HA4:=hide hat4;have ht4:w4.heap[tb]?=_:=(hgrow4.block tb (by simp;omega) (fun e2=>owns_ne HV2'.out HS2.out.t (by decide) e2)).trans ((Below.heap_alloc _ _ _ hl2).trans HS2.out.t);have HT4:=hide ht4;obtain⟨y0,y1,yf⟩:=blk2 ht4;have hl4:=lt_of_block ht4;clear hown4 hgrow4 hat4 ht4) | fail)
   all_goals
    have hb24:Below w5.heap.size w2 w4:=((Below.refl _ w2).alloc hs22 _).grown HG4.out hsl2 (fun g2 e2=>by
     rcases HV2'.out.2 with ⟨e3,_⟩ | ⟨g3,_,_,e3,e4,_⟩
     ·rw[e3]at e2;simp[Value.ownBlock]at e2
     ·rw[e3]at e2;simp[Value.ownBlock]at e2;omega)
    have HS5':=hide (HS2.out.put hb24 HL5.out hs22 (.slice (some ⟨g',0,none⟩) (j+1) cap'))
    have HUa:Hid (U8k wr (w4.setCell ⟨tb,1,none⟩ (.slice (some ⟨g',0,none⟩) (j+1) cap'))):=(HU2.out.trans ((u8k_below ((Below.refl _ w2).alloc (Nat.le_refl _) _)).trans (u8k_grown HG4.out (HV2'.out.alloc _) (by decide)))).trans (u8k_set HT4.out (by decide))
    have HUb:Hid (U8k w2 (w4.setCell ⟨tb,1,none⟩ (.slice (some ⟨g',0,none⟩) (j+1) cap'))):=((u8k_below ((Below.refl _ w2).alloc (Nat.le_refl _) _)).trans (u8k_grown HG4.out (HV2'.out.alloc _) (by decide))).trans (u8k_set HT4.out (by decide))
    have HP5:Hid (Prow w5.heap.size (w4.setCell ⟨tb,1,none⟩ (.slice (some ⟨g',0,none⟩) (j+1) cap')) (some ⟨g',0,none⟩) (j+1) cap' (bParts xs (j+1))):=by
     refine⟨bParts_len _ _,vs++[.slice sp2 q.length q.length],owns_set HO4.out (owns_ne HO4.out HT4.out (by decide)),fun i p hp=>?_⟩
     rw[HPj.out]at hp
     have hvl:vs.length=j:=by have:=HV1.out.1;omega
     by_cases hi2:i<j
     ·rw[List.getElem?_append_left (by rw[bParts_len];exact hi2)]at hp
      obtain⟨sq,u1,u2,u3⟩:=HV2.out i p hp
      exact⟨sq,by rw[List.getElem?_append_left (by omega)];exact u1,mine_kept u2 HUa.out,u3⟩
     ·have hij:i=j:=by
       have:=(List.getElem?_eq_some_iff.1 hp).1
       simp[bParts_len]at this;omega
      subst hij
      rw[List.getElem?_append_right (by rw[bParts_len];exact Nat.le_refl _),bParts_len,Nat.sub_self]at hp
      simp at hp
      subst hp
      exact⟨sp2,by rw[List.getElem?_append_right (by omega),hvl,Nat.sub_self];rfl,mine_kept HM2.out HUb.out,HX2.out⟩
    have HZ5:Hid (w5.heap.size≤(w4.setCell ⟨tb,1,none⟩ (.slice (some ⟨g',0,none⟩) (j+1) cap')).heap.size):=by have:=hb24.size;show _≤_;simp[World.setCell];omega
    rw[←HA1.out]at HS5'
    clear HO4 HG4 HA4 HT4 hb24
    go_wp2
    go_roundw
    case rel=>exact⟨j+1,_,cap',by omega,by go_num,HS5',HP5,HZ5⟩
    case measure=>simp[intOf];omega
  ·obtain rfl:k=j:=by omega
   have HEd:=hide (C.end_any wr b h xs _ _ HS.out.rd)
   rw[←HEn.out]at HEd
   have HPr:=hide (HP.out.mono HS5b)
   obtain⟨pE,hpE⟩:∃pE,C.pEnd xs.length (bEnd xs).1 (bEnd xs).2=pE:=⟨_,rfl⟩
   rw[hpE]at HEd HRb2
   have HPl:=hide (bParts_len xs k)
   clear hpE x0 x1 xf
   by_cases hE:pE=0
   ·subst hE
    have e0:Hid (readB xs=some (num,bParts xs k)):=by show _=_;rw[HRb2.out];simp
    go_wp2_with fail
    refine HEd.out.mono ?_
    rintro e w8 ⟨rfl,hb8⟩
    have ht8:w8.heap[tb]?=_:=(hb8.block _ hlt0).trans HS.out.t
    have hr8:w8.heap[w.heap.size]?=_:=(hb8.block _ (lt_of_block HS.out.res)).trans HS.out.res
    obtain⟨y0,y1,yf⟩:=blk2 ht8
    obtain⟨z0,z1,zf⟩:=blk2 hr8
    have HR8:=hide hr8
    have HB8:=hide ((HS.out.bel.trans (hb8.mono HS.out.bel.size)))
    have HU8:Hid (U8k wr ((w8.setCell ⟨w.heap.size,0,none⟩ (.int .u64 (num:Int))).setCell ⟨w.heap.size,1,none⟩ (.slice pa k c))):=((u8k_below hb8).trans (u8k_set hr8 (by decide))).trans (u8k_set (block_set hr8 _) (by decide))
    have HP8:Hid (Prow w.heap.size ((w8.setCell ⟨w.heap.size,0,none⟩ (.int .u64 (num:Int))).setCell ⟨w.heap.size,1,none⟩ (.slice pa k c)) pa k c (bParts xs k)):=by
     obtain⟨vs,h1,h2⟩:=HPr.out.row
     have h8:w8.ownsRow w.heap.size 32 1 (Value.slice pa k c) k vs:=owns_same h1 (fun g hg=>hb8.block g (rk_lt h1 hg))
     have h9:=owns_set (i:=0) (u:=.int .u64 (num:Int)) h8 (owns_ne h8 hr8 (by decide))
     exact⟨HPr.out.len,vs,owns_set h9 (owns_ne h9 (block_set hr8 _) (by decide)),fun i p hp=>by
      obtain⟨sq,u1,u2,u3⟩:=h2 i p hp
      exact⟨sq,u1,mine_kept u2 HU8.out,u3⟩⟩
    clear ht8 hr8 hb8
    go_wp2
    (try simp only[Exit.inBlock,Exit.then])
    refine bodyPost_ret (res_ct rfl _ _ w.heap.size _ _ _ _ rfl (store2 HR8.out) Tryz.underlying105 Tryz.sizeTr) rfl ?_
    refine Or.inl ⟨num,bParts xs k,e0.out,pa,c,by rw[HPl.out];rfl,by rw[HPl.out];exact HP8.out,below_set2 HB8.out (Nat.le_refl _) _ _⟩
   ·have hE':¬(pE:Int)=0:=by omega
    have e0:Hid (readB xs=none):=by show _=_;rw[HRb2.out,if_pos hE]
    go_wp2_with fail
    refine HEd.out.mono ?_
    rintro e w8 ⟨rfl,hb8⟩
    have hr8:w8.heap[w.heap.size]?=_:=(hb8.block _ (lt_of_block HS.out.res)).trans HS.out.res
    obtain⟨z0,z1,zf⟩:=blk2 hr8
    have HR8:=hide hr8
    have HB8:=hide ((HS.out.bel.trans (hb8.mono HS.out.bel.size)))
    clear hr8 hb8
    go_wp2
    (try simp only[Exit.inBlock,Exit.then])
    refine bodyPost_ret (res_ct rfl _ _ w.heap.size _ _ _ _ rfl (store2 HR8.out) Tryz.underlying105 Tryz.sizeTr) rfl ?_
    exact Or.inr ⟨e0.out,rfl,below_set2 HB8.out (Nat.le_refl _) _ _⟩
def bodyOf (xs:List Nat):List Nat:=(xs.drop 9).take (xs.length - 13)
def tailOf (xs:List Nat):List Nat:=xs.drop (xs.length - 4)
def readR (xs:List Nat):Option (Nat × List (List Nat)):=if C.be (tailOf xs)≠C.sumOf (bodyOf xs) then none else readB (bodyOf xs)
theorem bytes_drop {w:World} {g o:Nat} {xs:List Nat} (h:Bytes w (some ⟨g,o,none⟩) xs) (n:Nat):Bytes w (some ⟨g,o+n,none⟩) (xs.drop n):=Bytes.of_c (C.Bytes.drop h.c n)
theorem rn_tail {ys:List Nat} (h:ys.length=4):C.rNext 1 0 ys 0 0=(⟨C.be ys,0,0,4,0⟩,4,0):=by
 have e:C.pFind 1 0 (ys.drop 0)=⟨C.be ys,0,0,4,0⟩:=by
  simp only[C.pFind,C.pFixed,C.width,List.drop_zero]
  simp[h,List.take_of_length_le]
 unfold C.rNext
 rw[e];simp
set_option maxHeartbeats 1000000 in
theorem readRecord_any (w:World) (sp:Option Addr) (n cap:Nat) (xs:List Nat) (hn:xs.length=n) (h25:25≤n) (hnl:n≤4194304) (hcap:n≤cap) (_hc2:cap≤9223372036854775807) (hx:Bytes w sp xs) (hT:C.Tab w) :
  Calls Tryz.prog 53 #[.slice sp n cap] w fun e w' =>
   (∃num ps,readR xs=some (num,ps)∧∃pp c,e=.returned (.tuple #[.agg #[.int .u64 (num:Int),.slice pp ps.length c],.bool true])∧Prow w.heap.size w' pp ps.length c ps∧Below w.heap.size w w') ∨
   (readR xs=none∧e=.returned (.tuple #[.agg #[.int .u64 0,.slice none 0 0],.bool false])∧Below w.heap.size w w'):=by
 obtain⟨g,o,rfl,hg⟩:∃g o,sp=some ⟨g,o,none⟩∧g<w.heap.size:=by
  rcases hx.lie with h | ⟨g,o,e,hg,_⟩
  ·subst h;simp at hn;omega
  ·exact⟨g,o,e,hg⟩
 have HX:=hide hx
 have HT:=hide hT
 have HN:=hide hn
 obtain⟨e,he,he1,he2,he3⟩:∃e:Nat,(n:Int) - 4=(e:Int)∧n - e=4∧9≤e∧e≤n:=⟨n - 4,by omega,by omega,by omega,by omega⟩
 obtain⟨q,hq⟩:∃q,e - 9=q:=⟨_,rfl⟩
 have he4:e≤cap:=by omega
 have he5:(9:Int)≤(e:Int):=by omega
 have he6:(e:Int)≤(cap:Int):=by omega
 have he7:(e:Int)≤(n:Int):=by omega
 have he8:¬cap=e:=by omega
 have he9:¬e=9:=by omega
 have HBo:Hid (bodyOf xs=(xs.drop 9).take q):=by show _=_;unfold bodyOf;rw[hn,show n - 13=q by omega]
 have HTo:Hid (tailOf xs=xs.drop e):=by show _=_;unfold tailOf;rw[hn,show n - 4=e by omega]
 have HBl:Hid ((bodyOf xs).length=q):=by show _=_;rw[HBo.out,List.length_take,List.length_drop,hn];omega
 have HTl:Hid ((tailOf xs).length=4):=by show _=_;rw[HTo.out,List.length_drop,hn];omega
 have HBb:Hid (Bytes w (some ⟨g,o+9,none⟩) (bodyOf xs)):=by show Bytes _ _ _;rw[HBo.out];exact bytes_take (bytes_drop hx 9) q
 have HTb:Hid (Bytes w (some ⟨g,o+e,none⟩) (tailOf xs)):=by show Bytes _ _ _;rw[HTo.out];exact bytes_drop hx e
 clear hx hT hn
 go_enter Tryz.func53,Tryz.ntmps53
 go_wp2
 have hR0:(w.alloc (.cells #[.int .u64 0,.slice none 0 0] 105)).heap[w.heap.size]?=some (.cells #[.int .u64 0,.slice none 0 0] 105 (0,0)):=heap_alloc_new _ _
 have hB0:Below w.heap.size w (w.alloc (.cells #[.int .u64 0,.slice none 0 0] 105)):=(Below.refl _ _).alloc (Nat.le_refl _) _
 have hsz:(w.alloc (.cells #[.int .u64 0,.slice none 0 0] 105)).heap.size=w.heap.size+1:=by simp
 generalize w.alloc (.cells #[.int .u64 0,.slice none 0 0] 105)=w1 at *
 have HR0:=hide hR0
 have HB0:=hide hB0
 have HSz:=hide hsz
 have HRd:=hide (C.read_any w1.drew (some ⟨g,o+e,none⟩) 4 (cap - e) (tailOf xs) HTl.out (by omega) ⟨HTb.out.small,(HTb.out.below hB0).lie⟩)
 clear hR0 hB0 hsz
 go_region_held3 (fun _=>True) (go_keep) (first | (go_at_call 105;refine HRd.out.mono ?_;rintro e2 w2 ⟨rfl,hr2,hb2⟩;have HR2:Hid (w2.heap[w.heap.size]?=_):=(hb2.block _ (show w.heap.size<w1.heap.size by have:=HSz.out;omega)).trans HR0.out;have HB2:Hid (Below w.heap.size w w2):=HB0.out.trans (Below.mono ⟨hb2.os,hb2.tape,hb2.output,hb2.size,hb2.block⟩ (show w.heap.size≤w1.heap.size by have:=HSz.out;omega));have HD2:=hide hr2;clear hr2 hb2) | fail)
 all_goals
  have HU:=hide (C.u32_any w2 _ _ _ _ _ HD2.out)
  rw[rn_tail HTl.out]at HU
  obtain⟨tl,htl⟩:∃tl,C.be (tailOf xs)=tl:=⟨_,rfl⟩
  have HTe:=hide htl
  rw[htl]at HU
  have htl2:tl<4294967296:=by
   have h1:=C.be_lt (tailOf xs) HTb.out.small
   rw[HTl.out,htl]at h1
   omega
  have hzz:w.heap.size<w1.heap.size:=by have:=HSz.out;omega
  clear htl
  go_wp2_with fail
  refine HU.out.mono ?_
  rintro e3 w3 ⟨rfl,hr3,hb3⟩
  have HR3:Hid (w3.heap[w.heap.size]?=_):=(hb3.block _ (lt_of_block HR2.out) (show w.heap.size≠w1.heap.size+1 by omega)).trans HR2.out
  have HB3:=hide (but_below hb3 HB2.out (show w.heap.size≤w1.heap.size+1 by omega) HB2.out.size)
  have HSm:=hide (C.sum_any w3 (some ⟨g,o+9,none⟩) q q (bodyOf xs) HBl.out (HBb.out.below HB3.out).c (by omega) (HT.out.below HB3.out HT.out.pos))
  obtain⟨sm,hsm⟩:∃sm,C.sumOf (bodyOf xs)=sm:=⟨_,rfl⟩
  have HSe:=hide hsm
  have hsm2:sm<4294967296:=by rw[←hsm];exact sum_lt _ HBb.out.small
  rw[hsm]at HSm
  clear hr3 hb3 hsm HU HD2 HR2 HB2
  by_cases hts:tl=sm
  ·subst hts
   have HRe:Hid (readR xs=readB (bodyOf xs)):=by show _=_;unfold readR;rw[HTe.out,HSe.out,if_neg (by simp)]
   have HBy:=hide (readBody_any w3 (some ⟨g,o+9,none⟩) q q (bodyOf xs) HBl.out (by omega) (HBb.out.below HB3.out))
   rw[←HRe.out]at HBy
   go_wp2_with fail
   refine HSm.out.mono ?_
   rintro e4 w4 ⟨rfl,rfl⟩
   obtain⟨r0,r1,rf⟩:=blk2 HR3.out
   go_wp2_with fail
   refine HBy.out.mono ?_
   rintro e5 w5 (⟨num,ps,he5',pp,c,rfl,hp5,hb5⟩ | ⟨he5',rfl,hb5⟩)
   ·have hr5:w5.heap[w.heap.size]?=_:=(hb5.block _ (lt_of_block HR3.out)).trans HR3.out
    obtain⟨z0,z1,zf⟩:=blk2 hr5
    have HR5:=hide hr5
    have HE5:=hide he5'
    have HB5:=hide (HB3.out.trans (hb5.mono HB3.out.size))
    obtain⟨kk,hkk⟩:∃kk,ps.length=kk:=⟨_,rfl⟩
    have HKk:=hide hkk
    rw[hkk]at hp5
    rw[hkk]
    have HP5:Hid (Prow w.heap.size ((w5.setCell ⟨w.heap.size,0,none⟩ (.int .u64 (num:Int))).setCell ⟨w.heap.size,1,none⟩ (.slice pp kk c)) pp kk c ps):=by
     have hp6:=hp5.mono HB3.out.size
     obtain⟨vs,h1,h2⟩:=hp6.row
     have h9:=owns_set (i:=0) (u:=.int .u64 (num:Int)) h1 (owns_ne h1 hr5 (by decide))
     exact⟨hp6.len,vs,owns_set h9 (owns_ne h9 (block_set hr5 _) (by decide)),fun i p hp=>by
      obtain⟨sq,u1,u2,u3⟩:=h2 i p hp
      exact⟨sq,u1,mine_kept u2 ((u8k_set hr5 (by decide)).trans (u8k_set (block_set hr5 _) (by decide))),u3⟩⟩
    clear hr5 hb5 hp5 he5' hkk
    go_wp2
    (try simp only[Exit.inBlock,Exit.then])
    refine bodyPost_ret (res_ct rfl _ _ w.heap.size _ _ _ _ rfl (store2 HR5.out) Tryz.underlying105 Tryz.sizeTr) rfl ?_
    exact Or.inl ⟨num,ps,HE5.out,pp,c,by rw[HKk.out];rfl,by rw[HKk.out];exact HP5.out,below_set2 HB5.out (Nat.le_refl _) _ _⟩
   ·have hr5:w5.heap[w.heap.size]?=_:=(hb5.block _ (lt_of_block HR3.out)).trans HR3.out
    obtain⟨z0,z1,zf⟩:=blk2 hr5
    have HR5:=hide hr5
    have HE5:=hide he5'
    have HB5:=hide (HB3.out.trans (hb5.mono HB3.out.size))
    clear hr5 hb5 he5'
    go_wp2
    (try simp only[Exit.inBlock,Exit.then])
    refine bodyPost_ret (res_ct rfl _ _ w.heap.size _ _ _ _ rfl (store2 HR5.out) Tryz.underlying105 Tryz.sizeTr) rfl ?_
    exact Or.inr ⟨HE5.out,rfl,below_set2 HB5.out (Nat.le_refl _) _ _⟩
  ·have hts':((tl:Int) != (sm:Int))=true:=by simp;omega
   have HRe:Hid (readR xs=none):=by show _=_;unfold readR;rw[HTe.out,HSe.out,if_pos hts]
   go_wp2_with fail
   refine HSm.out.mono ?_
   rintro e4 w4 ⟨rfl,rfl⟩
   obtain⟨r0,r1,rf⟩:=blk2 HR3.out
   go_wp2
   (try simp only[Exit.inBlock,Exit.then])
   refine bodyPost_ret (res_ct rfl _ _ w.heap.size _ _ _ _ rfl (store2 HR3.out) Tryz.underlying105 Tryz.sizeTr) rfl ?_
   exact Or.inr ⟨HRe.out,rfl,below_set2 HB3.out (Nat.le_refl _) _ _⟩
structure Jr where
 name:Nm
 recs:List (List Nat)
 last:Nat
 torn:Bool
 named:Bool
 off:Bool
def jcells (d:Nat) (J:Jr) (rv:Value):Array Value:=#[.pointer (some ⟨d,0,none⟩),.string ⟨J.name.toArray⟩,rv,.int .u64 (J.last:Int),.bool J.torn,.bool J.named,.bool J.off]
structure Jm (w:World) (K:Knd) (o d jb:Nat) (rv:Value) (vs:List Value) (J:Jr):Prop where
 blk:w.heap[jb]?=some (.cells (jcells d J rv) 78 (0,0))
 kj:K jb=(o,1)
 row:Rk w K (o,2) 32 1 rv J.recs.length vs
 recs:∀(i:Nat) (r:List Nat),J.recs[i]?=some r→∃(g q c:Nat),vs[i]?=some (Value.slice (some ⟨g,q,none⟩) r.length c)∧r.length≤c∧c≤9223372036854775807∧K g=(o,3)∧g<w.heap.size∧Bytes w (some ⟨g,q,none⟩) r
def Jk (w:World) (K:Knd) (o d jb:Nat) (J:Jr):Prop:=∃rv vs,Jm w K o d jb rv vs J
theorem Jm.kept {p:Nat × Nat→Prop} {K K':Knd} {w w':World} {o d jb:Nat} {rv:Value} {vs:List Value} {J:Jr} (h:Jm w K o d jb rv vs J) (hk:Kp p K K' w w') (hp:∀k,¬p (o,k)):Jm w' K' o d jb rv vs J:=by
 have hl:=lt_of_block h.blk
 refine⟨(hk.block jb hl (by rw[h.kj];exact hp _)).trans h.blk,(hk.same jb hl).trans h.kj,h.row.kept hk (hp _),fun i r hr=>?_⟩
 obtain⟨g,q,c,h1,h2,h3,h4,h5,h6⟩:=h.recs i r hr
 exact⟨g,q,c,h1,h2,h3,(hk.same g h5).trans h4,Nat.lt_of_lt_of_le h5 hk.size,bytes_kept h6 hk.size (fun g' o' e hg=>by cases e;exact hk.block g hg (by rw[h4];exact hp _))⟩
theorem Jk.kept {p:Nat × Nat→Prop} {K K':Knd} {w w':World} {o d jb:Nat} {J:Jr} (h:Jk w K o d jb J) (hk:Kp p K K' w w') (hp:∀k,¬p (o,k)):Jk w' K' o d jb J:=by
 obtain⟨rv,vs,hm⟩:=h
 exact⟨rv,vs,hm.kept hk hp⟩
theorem blk7 {w:World} {b:Nat} {x0 x1 x2 x3 x4 x5 x6:Value} {t:TypeId} (h:w.heap[b]?=some (.cells #[x0,x1,x2,x3,x4,x5,x6] t (0,0))) :
  w.cell? ⟨b,0,none⟩=some x0∧w.cell? ⟨b,1,none⟩=some x1∧w.cell? ⟨b,2,none⟩=some x2∧w.cell? ⟨b,3,none⟩=some x3∧w.cell? ⟨b,4,none⟩=some x4∧w.cell? ⟨b,5,none⟩=some x5∧w.cell? ⟨b,6,none⟩=some x6∧(∀o,w.frozen? ⟨b,o,none⟩=false) :=
 ⟨by simp[World.cell?,h],by simp[World.cell?,h],by simp[World.cell?,h],by simp[World.cell?,h],by simp[World.cell?,h],by simp[World.cell?,h],by simp[World.cell?,h],fun o=>by simp[World.frozen?,h]⟩
set_option maxHeartbeats 400000 in
theorem next_any (w:World) (K:Knd) (o d jb:Nat) (J:Jr) (h:Jk w K o d jb J) (hl:J.last<18446744073709551615) :
  Calls Tryz.prog 15 #[.pointer (some ⟨jb,0,none⟩)] w fun e w'=>e=.returned (.int .u64 ((J.last+1:Nat):Int))∧w'=w:=by
 obtain⟨rv,vs,hm⟩:=h
 have hb:=hm.blk
 unfold jcells at hb
 obtain⟨q0,q1,q2,q3,q4,q5,q6,qf⟩:=blk7 hb
 have hn:(J.last:Int)+1=((J.last+1:Nat):Int):=by omega
 have hn2:J.last+1<18446744073709551616:=by omega
 clear hm hb
 generalize J.last+1=N at *
 go_enter Tryz.func15,Tryz.ntmps15
 go_wp2
 go_ret
 exact⟨rfl,rfl⟩
theorem jtorn_any (w:World) (K:Knd) (o d jb:Nat) (J:Jr) (h:Jk w K o d jb J) :
  Calls Tryz.prog 66 #[.pointer (some ⟨jb,0,none⟩)] w fun e w'=>e=.returned (.bool J.torn)∧w'=w:=by
 obtain⟨rv,vs,hm⟩:=h
 have hb:=hm.blk
 unfold jcells at hb
 obtain⟨q0,q1,q2,q3,q4,q5,q6,qf⟩:=blk7 hb
 clear hm hb
 go_enter Tryz.func66,Tryz.ntmps66
 go_wp2
 go_ret
 exact⟨rfl,rfl⟩
theorem jlen_any (w:World) (K:Knd) (o d jb:Nat) (J:Jr) (h:Jk w K o d jb J) :
  Calls Tryz.prog 14 #[.pointer (some ⟨jb,0,none⟩)] w fun e w'=>e=.returned (.int .i64 (J.recs.length:Int))∧w'=w:=by
 obtain⟨rv,vs,hm⟩:=h
 have hb:=hm.blk
 unfold jcells at hb
 obtain⟨a,c,hrv,_,_⟩:=hm.row.form
 rw[hrv]at hb
 obtain⟨q0,q1,q2,q3,q4,q5,q6,qf⟩:=blk7 hb
 clear hm hb hrv
 go_enter Tryz.func14,Tryz.ntmps14
 go_wp2
 go_ret
 exact⟨rfl,rfl⟩
theorem files_any (w:World) (K:Knd) (o d jb:Nat) (J:Jr) (h:Jk w K o d jb J) :
  Calls Tryz.prog 38 #[.pointer (some ⟨jb,0,none⟩)] w fun e w'=>e=.returned (.pointer (some ⟨d,0,none⟩))∧w'=w:=by
 obtain⟨rv,vs,hm⟩:=h
 have hb:=hm.blk
 unfold jcells at hb
 obtain⟨q0,q1,q2,q3,q4,q5,q6,qf⟩:=blk7 hb
 clear hm hb
 go_enter Tryz.func38,Tryz.ntmps38
 go_wp2
 go_ret
 exact⟨rfl,rfl⟩
set_option maxHeartbeats 1000000 in
theorem take_any (w:World) (K:Knd) (o d jb:Nat) (J:Jr) (h:Jk w K o d jb J) (g q n c num:Nat) (r:List Nat) (hr:r.length=n) (hnc:n≤c) (hc:c≤9223372036854775807) (hk:K g=(o,3)) (hb:Bytes w (some ⟨g,q,none⟩) r) (h0:0<n) (_hnum:num<18446744073709551616) (hlen:J.recs.length≤1099511627776) :
  Calls Tryz.prog 89 #[.pointer (some ⟨jb,0,none⟩),.slice (some ⟨g,q,none⟩) n c,.int .u64 (num:Int)] w fun e w'=>∃K',e=.returned (.tuple #[])∧Jk w' K' o d jb { J with recs:=J.recs++[r],last:=num }∧Kp (fun k=>k=(o,1)∨k=(o,2)) K K' w w':=by
 obtain⟨i0,hi,hz0,hz1,hz2⟩:=info_parts Tryz.infoRw
 obtain⟨rv,vs,hm⟩:=h
 have hbl:=hm.blk
 unfold jcells at hbl
 obtain⟨a,cr,hrv,_,_⟩:=hm.row.form
 subst hrv
 obtain⟨N,hN⟩:∃N,J.recs.length=N:=⟨_,rfl⟩
 have HN:=hide hN
 have HM:=hide hm
 have HR:=hide hr
 have HBy:=hide hb
 have HKg:=hide hk
 have hgl:g<w.heap.size:=by
  rcases hb.lie with e | ⟨g',o',e,hg,_⟩
  ·subst e;simp at hr;omega
  ·cases e;exact hg
 rw[hN]at hbl hlen
 obtain⟨q0,q1,q2,q3,q4,q5,q6,qf⟩:=blk7 hbl
 have hjl:=lt_of_block hbl
 have HBl:=hide hbl
 have hrow:=hm.row.own
 rw[hN]at hrow
 have HRw:=hide hrow
 clear hm hbl hr hb hk hN hrow
 go_enter Tryz.func89,Tryz.ntmps89
 go_wp2_with (at_builtin;refine wpList_append_lies _ rfl (.tmp 10) (.tmp 12) 31 rfl 0 32 i0 (.slice none 0 0) 1 24 Tryz.underlying31 hi hz0 hz1 hz2 rfl (by omega) (.slice a N cr) N vs rfl (HRw.out.alloc _) ⟨w.heap.size,0,none⟩ 1 1 [.slice (some ⟨g,q,none⟩) n c] rfl rfl (World.news_of_block (heap_alloc_new w (.cells #[.slice (some ⟨g,q,none⟩) n c] 32))) (by simp[Value.oneCell']) (by omega) (by unfold maxLen;omega) (by omega) (by omega) _ rfl ?_;intro g' cap' w4 hown4 hgrow4 hat4 hltg;have HO4:=hide hown4;have HG4:=hide hgrow4;have HA4:=hide hat4;have hj4:w4.heap[jb]?=_:=(hgrow4.block jb (by simp;omega) (owns_ne HRw.out HBl.out (by decide))).trans ((Below.heap_alloc _ _ _ hjl).trans HBl.out);have HJ4:=hide hj4;obtain⟨y0,y1,y2,y3,y4,y5,y6,yf⟩:=blk7 hj4;have hjl4:=lt_of_block hj4;clear hown4 hgrow4 hat4 hj4)
 go_end0
 have hm:=HM.out
 have kp0:Kp (fun k=>k=(o,1)∨k=(o,2)) K (ext K w.heap.size (o,2)) w w4:=by
  refine⟨HG4.out.os,HG4.out.tape,HG4.out.output,?_,fun b hb=>ext_old K _ hb,fun b hb hn=>?_⟩
  ·have:=HG4.out.size;simp at this;omega
  ·refine(HG4.out.block b (by simp;omega) (fun e=>hn (Or.inr ?_))).trans (Below.heap_alloc _ _ _ hb)
   exact hm.row.kind b (by rw[HN.out];exact e.symm)
 have kp1:Kp (fun k=>k=(o,1)∨k=(o,2)) K (ext K w.heap.size (o,2)) w ((w4.setCell ⟨jb,2,none⟩ (.slice (some ⟨g',0,none⟩) (N+1) cap')).setCell ⟨jb,3,none⟩ (.int .u64 (num:Int))) :=
  (kp0.setCell (Or.inr (Or.inl hm.kj)) _ _).setCell (Or.inr (Or.inl hm.kj)) _ _
 refine⟨ext K w.heap.size (o,2),rfl,⟨.slice (some ⟨g',0,none⟩) (N+1) cap',vs++[.slice (some ⟨g,q,none⟩) n c],⟨?_,(ext_old K _ hjl).trans hm.kj,⟨?_,fun g2 e=>?_⟩,fun i r' hr'=>?_⟩⟩,kp1⟩
 ·rw[block_set (block_set HJ4.out _)]
  rfl
 ·have hne:some jb≠(Value.slice (some ⟨g',0,none⟩) (N+1) cap').ownBlock:=owns_ne HO4.out HJ4.out (by decide)
  have:=owns_set (i:=3) (u:=.int .u64 (num:Int)) (owns_set (i:=2) (u:=.slice (some ⟨g',0,none⟩) (N+1) cap') HO4.out hne) hne
  show World.ownsRow _ _ _ _ _ (J.recs++[r]).length _
  rw[List.length_append,HN.out]
  exact this
 ·simp[Value.ownBlock]at e
  subst e
  rcases HA4.out with h | h
  ·have hgo:(Value.slice a J.recs.length cr).ownBlock=some g':=by rw[HN.out];exact h
   exact(ext_old K _ (rk_lt hm.row.own hgo)).trans (hm.row.kind g' hgo)
  ·exact ext_new K _ (by simp at h;omega)
 ·have hr2:(J.recs++[r])[i]?=some r':=hr'
  have hvl:vs.length=N:=by have:=HRw.out.1;omega
  have kn:∀k,k=(o,3)→¬(k=(o,1)∨k=(o,2)):=fun k e=>by rw[e];simp
  by_cases hi2:i<N
  ·rw[List.getElem?_append_left (by rw[HN.out];exact hi2)]at hr2
   obtain⟨g2,q2',c2,u1,u2,u3,u4,u5,u6⟩:=hm.recs i r' hr2
   exact⟨g2,q2',c2,by rw[List.getElem?_append_left (by omega)];exact u1,u2,u3,(ext_old K _ u5).trans u4,Nat.lt_of_lt_of_le u5 kp1.size,bytes_kept u6 kp1.size (fun g3 o3 e hg=>by cases e;exact kp1.block g2 hg (kn _ u4))⟩
  ·have hij:i=N:=by
    have:=(List.getElem?_eq_some_iff.1 hr2).1
    rw[List.length_append,HN.out]at this
    simp at this;omega
   rw[List.getElem?_append_right (by rw[HN.out];omega),HN.out,hij,Nat.sub_self]at hr2
   simp at hr2
   subst hr2
   exact⟨g,q,c,by rw[List.getElem?_append_right (by omega),hvl,hij,Nat.sub_self,HR.out];rfl,by rw[HR.out];exact hnc,hc,(ext_old K _ hgl).trans HKg.out,Nat.lt_of_lt_of_le hgl kp1.size,bytes_kept HBy.out kp1.size (fun g3 o3 e hg=>by cases e;exact kp1.block g hg (kn _ HKg.out))⟩
def goB:Nat→List Nat→List (List Nat)→Nat→List (List Nat) × Nat × Bool × Nat
 | 0,_,recs,last=>(recs,last,false,0)
 | f+1,xs,recs,last =>
  if xs.length=0 then (recs,last,false,0)
  else if xs.length<9 then (recs,last,true,0)
  else if hdOk xs=false then (recs,last,false,53)
  else if xs.length<hdN xs+13 then (recs,last,true,0)
  else match readR (xs.take (hdN xs+13)) with
   | none=>(recs,last,false,53)
   | some (num,_)=>if 0<recs.length∧num≠last+1 then (recs,last,false,53) else goB f (xs.drop (hdN xs+13)) (recs++[xs.take (hdN xs+13)]) num
def Jr.went (J:Jr) (R:List (List Nat) × Nat × Bool × Nat):Jr:={ J with recs:=R.1,last:=R.2.1,torn:=R.2.2.1 }
def slen:Value→Nat
 | .slice _ n _=>n
 | _=>0
theorem hdOk_bounds {xs:List Nat} (h:hdOk xs=true):12≤hdN xs∧hdN xs≤4194291:=by
 simp only[hdOk,Bool.and_eq_true,decide_eq_true_eq]at h
 exact h.1
theorem readR_num {xs:List Nat} {num:Nat} {ps:List (List Nat)} (h:readR xs=some (num,ps)):1≤num∧num≤1099511627776:=by
 unfold readR at h
 split at h
 ·cases h
 ·unfold readB at h
  split at h
  ·cases h
  ·rename_i hn
   split at h
   ·cases h
   ·simp at h
    rw[←h.1]
    omega
theorem Jk.torned {w:World} {K:Knd} {o d jb:Nat} {J:Jr} (h:Jk w K o d jb J) (_ho:o≠0):Jk (w.setCell ⟨jb,4,none⟩ (.bool true)) K o d jb { J with torn:=true }∧Kp (Ow o) K K w (w.setCell ⟨jb,4,none⟩ (.bool true)):=by
 obtain⟨rv,vs,hm⟩:=h
 have hb:=hm.blk
 unfold jcells at hb
 have kp:Kp (fun k=>k=(o,1)) K K w (w.setCell ⟨jb,4,none⟩ (.bool true)):=(Kp.refl _ K w).setCell (Or.inr hm.kj) _ _
 refine⟨⟨rv,vs,⟨by rw[block_set hb];rfl,hm.kj,hm.row.kept kp (by simp),fun i r hr=>?_⟩⟩,kp.mono (fun k e=>by rw[e])⟩
 obtain⟨g,q,c,h1,h2,h3,h4,h5,h6⟩:=hm.recs i r hr
 exact⟨g,q,c,h1,h2,h3,h4,Nat.lt_of_lt_of_le h5 kp.size,bytes_kept h6 kp.size (fun g' o' e hg=>by cases e;exact kp.block g hg (by rw[h4];simp))⟩
theorem tab_kept {o:Nat} {K K':Knd} {w w':World} (h:C.Tab w) (hk:Kp (Ow o) K K' w w') (h0:K 0=(0,0)) (ho:o≠0):C.Tab w':=fun j hj=>by
 rw[World.cell?_of_block (w:=w) (hk.block 0 h.pos (by rw[h0];exact fun e=>ho e.symm))];exact h j hj
set_option maxHeartbeats 2000000 in
theorem goThrough_any (w:World) (K:Knd) (o d jb:Nat) (ho:o≠0) (J:Jr) (h:Jk w K o d jb J) (h1:J.recs=[]) (h2:J.last=0) (h3:J.torn=false) (sp:Option Addr) (n cap:Nat) (xs:List Nat) (hn:xs.length=n) (hcap:n≤cap) (hc2:cap≤9223372036854775807) (hnl:n≤1099511627776) (hx:Bytes w sp xs)
  (hsp:0<n→∃g q,sp=some ⟨g,q,none⟩∧K g=(o,3)) (hT:C.Tab w) (hK0:K 0=(0,0)) :
  Calls Tryz.prog 40 #[.pointer (some ⟨jb,0,none⟩),.slice sp n cap] w fun e w'=>∃K',e=.returned (.int .i64 ((goB (n+1) xs [] 0).2.2.2:Int))∧Jk w' K' o d jb (J.went (goB (n+1) xs [] 0))∧Kp (Ow o) K K' w w':=by
 have HX:=hide hx
 have HN:=hide hn
 have HJ:Hid (Jk w K o d jb (J.went ([],0,false,0))):=by
  have:J.went ([],0,false,0)=J:=by unfold Jr.went;rw[←h1,←h2,←h3]
  show Jk _ _ _ _ _ _
  rw[this];exact h
 have HT:=hide hT
 have HK0:=hide hK0
 have HSp:=hide hsp
 obtain⟨R,hR⟩:∃R,goB (n+1) xs [] 0=R:=⟨_,rfl⟩
 rw[hR]
 have HR:=hide hR
 clear h hx hn h1 h2 h3 hT hK0 hsp hR
 go_enter Tryz.func40,Tryz.ntmps40
 go_wp2
 go_loopw [1] (fun b wr=>∃(sp':Option Addr) (n' c' f:Nat) (xs':List Nat) (recs:List (List Nat)) (last:Nat) (K':Knd),b=.slice sp' n' c'∧n'≤c'∧c'≤9223372036854775807∧n'≤n∧Hid (xs'.length=n')∧Hid (Bytes wr sp' xs')∧Hid (0<n'→∃g q,sp'=some ⟨g,q,none⟩∧K' g=(o,3))∧Hid (Jk wr K' o d jb (J.went (recs,last,false,0)))∧Hid (Kp (Ow o) K K' w wr)∧Hid (n'<f∧goB f xs' recs last=R)∧Hid (recs.length+n'≤n∧last≤1099511627776)) (fun b _=>slen b)
 case atStart=>exact⟨sp,n,cap,n+1,xs,[],0,K,rfl,hcap,hc2,Nat.le_refl _,HN,HX,HSp,HJ,hide (Kp.refl _ _ _),hide ⟨by omega,HR.out⟩,hide ⟨by simp,by omega⟩⟩
 case round =>
  obtain⟨sp',n',c',f,xs',recs,last,K',rfl,hnc,hc3,hnn,HN',HX',HSp',HJ',HKp,HGo,HLe⟩:=hrel
  clear HX HN HJ HSp HR
  obtain⟨f',rfl⟩:∃f',f=f'+1:=⟨f - 1,by have:=HGo.out.1;omega⟩
  have HG2:Hid (goB (f'+1) xs' recs last=R):=HGo.out.2
  unfold goB at HG2
  have hg2:=HG2.out
  rw[HN'.out]at hg2
  by_cases hz:n'=0
  ·rw[if_pos hz]at hg2
   have HRe:=hide hg2
   clear HG2 hg2
   subst hz
   go_wp2
   go_ret
   exact⟨K',by rw[←HRe.out];rfl,by rw[←HRe.out];exact HJ'.out,HKp.out⟩
  rw[if_neg hz]at hg2
  have hz':(0:Int)<(n':Int):=by omega
  obtain⟨rv,vs,hm⟩:=HJ'.out
  have hbl:=hm.blk
  unfold jcells at hbl
  obtain⟨q0,q1,q2,q3,q4,q5,q6,qf⟩:=blk7 hbl
  have hjl:=lt_of_block hbl
  by_cases h9:n'<9
  ·have h9':(n':Int)<9:=by omega
   rw[if_pos h9]at hg2
   have HRe:=hide hg2
   have HTn:=hide (HJ'.out.torned ho)
   clear HG2 hg2 hm hbl
   go_wp2
   go_ret
   exact⟨K',by rw[←HRe.out];rfl,by rw[←HRe.out];exact HTn.out.1,HKp.out.trans HTn.out.2⟩
  have h9':¬(n':Int)<9:=by omega
  rw[if_neg h9]at hg2
  have HTr:=hide (tab_kept HT.out HKp.out HK0.out ho)
  have HRs:=hide (recordSize_any wr sp' n' c' xs' HN'.out (by omega) hnc hc3 HX'.out HTr.out)
  cases hho:hdOk xs' with
  | false =>
   rw[if_pos hho]at hg2
   rw[hdRes_no hho]at HRs
   have HRe:=hide hg2
   clear HG2 hg2 hm hbl hho
   go_wp2_with fail
   refine HRs.out.mono ?_
   rintro e w1 ⟨rfl,hb1⟩
   have HJ1:=hide (HJ'.out.kept (kp_below hb1 (fun _=>False) K' (0,0)) (fun _ h=>h))
   have HK1:=hide (HKp.out.trans (kp_below hb1 (Ow o) K' (0,0)))
   clear hb1
   go_wp2
   go_ret
   exact⟨_,by rw[←HRe.out];rfl,by rw[←HRe.out];exact HJ1.out,HK1.out⟩
  | true =>
   rw[if_neg (by rw[hho];simp)]at hg2
   rw[hdRes_ok hho]at HRs
   have hbd:=hdOk_bounds hho
   obtain⟨S,hS⟩:∃S,hdN xs'+13=S:=⟨_,rfl⟩
   have hS1:25≤S∧S≤4194304:=by omega
   rw[hS]at hg2 HRs
   clear hho hbd hS
   go_wp2_with fail
   refine HRs.out.mono ?_
   rintro e w1 ⟨rfl,hb1⟩
   have HJ1:=hide (HJ'.out.kept (kp_below hb1 (fun _=>False) K' (0,0)) (fun _ h=>h))
   have HK1:=hide (HKp.out.trans (kp_below hb1 (Ow o) K' (0,0)))
   have HX1:=hide (HX'.out.below hb1)
   have HSp1:Hid (∃g q,sp'=some ⟨g,q,none⟩∧ext K' wr.heap.size (0,0) g=(o,3)∧g<wr.heap.size):=by
    obtain⟨g,q,e1,e2⟩:=HSp'.out (by omega)
    have hgl:g<wr.heap.size:=by
     rcases HX'.out.lie with e | ⟨g',o',e,hg,_⟩
     ·have:=HN'.out;rw[e]at this;simp at this;omega
     ·rw[e1]at e;cases e;exact hg
    exact⟨g,q,e1,(ext_old K' _ hgl).trans e2,hgl⟩
   generalize ext K' wr.heap.size (0,0)=K1 at *
   obtain⟨rv1,vs1,hm1⟩:=HJ1.out
   have hbl1:=hm1.blk
   unfold jcells at hbl1
   clear q0 q1 q2 q3 q4 q5 q6 qf hbl hm hb1 HRs
   obtain⟨q0,q1,q2,q3,q4,q5,q6,qf⟩:=blk7 hbl1
   have hjl1:=lt_of_block hbl1
   by_cases hsh:n'<S
   ·have hsh':(n':Int)<(S:Int):=by omega
    rw[if_pos hsh]at hg2
    have HRe:=hide hg2
    have HTn:=hide (HJ1.out.torned ho)
    clear HG2 hg2 hm1 hbl1
    go_wp2
    go_ret
    exact⟨K1,by rw[←HRe.out];rfl,by rw[←HRe.out];exact HTn.out.1,HK1.out.trans HTn.out.2⟩
   have hsh':¬(n':Int)<(S:Int):=by omega
   rw[if_neg hsh]at hg2
   obtain⟨g,q,rfl,hkg,hgl⟩:=HSp1.out
   have hSc:S≤c':=by omega
   have hSc':(S:Int)≤(c':Int):=by omega
   have hSn':(S:Int)≤(n':Int):=by omega
   have HTl:Hid ((xs'.take S).length=S):=by show _=_;rw[List.length_take,HN'.out];omega
   have HRd:=hide (readRecord_any w1 (some ⟨g,q,none⟩) S S (xs'.take S) HTl.out hS1.1 hS1.2 (Nat.le_refl _) (by omega) (bytes_take HX1.out S) (tab_kept HT.out HK1.out HK0.out ho))
   cases hrr:readR (xs'.take S) with
   | none =>
    rw[hrr]at hg2
    have HRe:=hide hg2
    rw[hrr]at HRd
    clear HG2 hg2 hm1 hbl1 hrr
    go_wp2_with fail
    refine HRd.out.mono ?_
    rintro e w2 (⟨num,ps,he,_⟩ | ⟨_,rfl,hb2⟩)
    ·cases he
    ·have hb3:Below w1.heap.size w1 (w2.alloc (.cells #[.int .u64 0,.slice none 0 0] 105)):=hb2.alloc hb2.size _
     have HJ3:=hide (HJ1.out.kept (kp_below hb3 (fun _=>False) K1 (0,0)) (fun _ h=>h))
     have HK3:=hide (HK1.out.trans (kp_below hb3 (Ow o) K1 (0,0)))
     clear hb2 hb3 q0 q1 q2 q3 q4 q5 q6 qf
     go_wp2
     go_quiet (fail)
     go_wp2
     go_ret
     exact⟨_,by rw[←HRe.out];rfl,by rw[←HRe.out];exact(HJ3.out.kept ((Kp.refl (fun _=>False) _ _).drewN nq) (fun _ h=>h)),HK3.out.drewN nq⟩
   | some v =>
    obtain⟨num,ps⟩:=v
    rw[hrr]at hg2
    simp only at hg2
    have hnum:=readR_num hrr
    rw[hrr]at HRd
    clear HG2 hm1 hbl1 hrr
    have HG3:=hide hg2
    clear hg2
    go_wp2_with fail
    refine HRd.out.mono ?_
    rintro e w2 (⟨num',ps',he,pp,c,rfl,hp2,hb2⟩ | ⟨he,_⟩)
    ·cases he
     have hb3:Below w1.heap.size w1 (w2.alloc (.cells #[.int .u64 (num:Int),.slice pp ps.length c] 105)):=hb2.alloc hb2.size _
     have hT3:(w2.alloc (.cells #[.int .u64 (num:Int),.slice pp ps.length c] 105)).heap[w2.heap.size]?=some (.cells #[.int .u64 (num:Int),.slice pp ps.length c] 105 (0,0)):=heap_alloc_new _ _
     have HJ3:=hide (HJ1.out.kept (kp_below hb3 (fun _=>False) K1 (0,0)) (fun _ h=>h))
     have HK3:=hide (HK1.out.trans (kp_below hb3 (Ow o) K1 (0,0)))
     have HX3:=hide (HX1.out.below hb3)
     have hkg3:ext K1 w1.heap.size (0,0) g=(o,3):=(ext_old K1 _ (by
      rcases HX1.out.lie with e | ⟨g',o',e,hg,_⟩
      ·have:=HN'.out;rw[e]at this;simp at this;omega
      ·cases e;exact hg)).trans hkg
     go_wp2
     generalize ps.length=pk at *
     clear q0 q1 q2 q3 q4 q5 q6 qf hp2 hb2 hb3
     obtain⟨tb,htb⟩:∃tb,w2.heap.size=tb:=⟨_,rfl⟩
     rw[htb]at hT3 ⊢
     generalize w2.alloc (.cells #[.int .u64 (num:Int),.slice pp pk c] 105)=w3 at *
     clear htb
     generalize ext K1 w1.heap.size (0,0)=K3 at *
     have HT3:=hide hT3
     obtain⟨t0,t1,tf⟩:=blk2 hT3
     obtain⟨rv3,vs3,hm3⟩:=HJ3.out
     have hbl3:=hm3.blk
     unfold jcells at hbl3
     obtain⟨a3,c3,hrv3,_,_⟩:=hm3.row.form
     have hrl:(J.went (recs,last,false,0)).recs.length=recs.length:=rfl
     rw[hrl]at hrv3
     rw[hrv3]at hbl3
     obtain⟨q0,q1,q2,q3,q4,q5,q6,qf⟩:=blk7 hbl3
     have hll:=HLe.out.2
     have HNx:Hid (∀q',Calls Tryz.prog 15 #[.pointer (some ⟨jb,0,none⟩)] (w3.drewN q') fun e w'=>e=.returned (.int .u64 ((last+1:Nat):Int))∧w'=w3.drewN q'):=fun q'=>next_any (w3.drewN q') K3 o d jb _ (HJ3.out.kept ((Kp.refl (fun _=>False) _ w3).drewN q') (fun _ h=>h)) (by show last<_;omega)
     clear hT3 hm3 hbl3 hrv3 hrl
     by_cases hr0:0<recs.length
     ·have hr0':(0:Int)<(recs.length:Int):=by omega
      by_cases hnx:num=last+1
      ·have HRe:Hid (goB f' (xs'.drop S) (recs++[xs'.take S]) num=R):=by
        have:=HG3.out
        rw[if_neg (fun h=>h.2 hnx)]at this
        exact this
       have hnx':((num:Int) != ((last+1:Nat):Int))=false:=by simp;omega
       obtain⟨L1,hL1⟩:∃L1,last+1=L1:=⟨_,rfl⟩
       rw[hL1]at HNx hnx'
       obtain⟨rl,hrl⟩:∃rl,recs.length=rl:=⟨_,rfl⟩
       rw[hrl]at hr0' q2 hr0
       have hd5:decide (0<rl)=true:=by simpa using hr0
       have hd6:decide ((0:Int)<(rl:Int))=true:=by simpa using hr0
       clear hL1 hnx hrl
       go_wp2
       go_quiet (first | (go_at_call 15;exact Calls.quiet_of_same (HNx.out _)))
       have HJ4:=hide (HJ3.out.kept ((Kp.refl (fun _=>False) _ w3).drewN nq) (fun _ h=>h))
       have HK4:=hide (HK3.out.drewN nq)
       have HX4:Hid (Bytes (w3.drewN nq) (some ⟨g,q,none⟩) xs'):=⟨HX3.out.small,HX3.out.lie⟩
       have ht4:(w3.drewN nq).heap[tb]?=_:=HT3.out
       obtain⟨t0,t1,tf⟩:=blk2 ht4
       clear ht4 q0 q1 q2 q3 q4 q5 q6 qf
       generalize w3.drewN nq=w4 at *
       have HTk:=hide (take_any w4 K3 o d jb _ HJ4.out g q S S num (xs'.take S) HTl.out (Nat.le_refl _) (by omega) hkg3 (bytes_take HX4.out S) (by omega) (by omega) (by have:=HLe.out.1;show recs.length≤_;omega))
       go_wp2_with fail
       refine HTk.out.mono ?_
       rintro e w5 ⟨K5,rfl,hj5,hk5⟩
       have HJ5:Hid (Jk w5 K5 o d jb (J.went (recs++[xs'.take S],num,false,0))):=hj5
       have HK5:=hide (HK4.out.trans (hk5.mono (fun k e=>by rcases e with e | e <;> rw[e])))
       have hgl4:g<w4.heap.size:=by
        rcases HX4.out.lie with e | ⟨g',o',e,hg,_⟩
        ·have:=HN'.out;rw[e]at this;simp at this;omega
        ·cases e;exact hg
       have hkg5:K5 g=(o,3):=(hk5.same g hgl4).trans hkg3
       have HX5:Hid (Bytes w5 (some ⟨g,q,none⟩) xs'):=bytes_kept HX4.out hk5.size (fun g' o' e hg=>by cases e;exact hk5.block g hg (by rw[hkg3];simp))
       have HLr:Hid ((recs++[xs'.take S]).length+(n' - S)≤n∧num≤1099511627776):=by
        refine⟨?_,hnum.2⟩
        have:=HLe.out.1
        rw[List.length_append]
        simp;omega
       have HGn:Hid (n' - S<f'∧goB f' (xs'.drop S) (recs++[xs'.take S]) num=R):=⟨by have:=HGo.out.1;omega,HRe.out⟩
       have HNd:Hid ((xs'.drop S).length=n' - S):=by show _=_;rw[List.length_drop,HN'.out]
       clear hj5 hk5 HTk t0 t1 tf
       by_cases hcS:c'=S
       ·go_wp2
        go_roundw
        case rel=>exact⟨_,n' - S,0,f',xs'.drop S,recs++[xs'.take S],num,K5,rfl,by omega,by omega,by omega,HNd,hide ⟨fun x hx=>HX5.out.small x (List.mem_of_mem_drop hx),Or.inl (List.eq_nil_of_length_eq_zero (by rw[HNd.out];omega))⟩,hide (fun h=>by omega),HJ5,HK5,HGn,HLr⟩
        case measure=>simp[slen];omega
       ·go_wp2
        go_roundw
        case rel=>exact⟨_,n' - S,c' - S,f',xs'.drop S,recs++[xs'.take S],num,K5,rfl,by omega,by omega,by omega,HNd,hide (bytes_drop HX5.out S),hide (fun _=>⟨g,q+S,rfl,hkg5⟩),HJ5,HK5,HGn,HLr⟩
        case measure=>simp[slen];omega
      ·have HRe:Hid ((recs,last,false,53)=R):=by
        have:=HG3.out
        rw[if_pos ⟨hr0,hnx⟩]at this
        exact this
       have hnx':((num:Int) != ((last+1:Nat):Int))=true:=by rw[bne_iff_ne];omega
       obtain⟨L1,hL1⟩:∃L1,last+1=L1:=⟨_,rfl⟩
       rw[hL1]at HNx hnx'
       obtain⟨rl,hrl⟩:∃rl,recs.length=rl:=⟨_,rfl⟩
       rw[hrl]at hr0' q2 hr0
       have hd5:decide (0<rl)=true:=by simpa using hr0
       have hd6:decide ((0:Int)<(rl:Int))=true:=by simpa using hr0
       clear hL1 hnx hrl
       go_wp2
       go_quiet (first | (go_at_call 15;exact Calls.quiet_of_same (HNx.out _)))
       go_wp2
       go_ret
       exact⟨_,by rw[←HRe.out];rfl,by rw[←HRe.out];exact(HJ3.out.kept ((Kp.refl (fun _=>False) _ _).drewN nq) (fun _ h=>h)),HK3.out.drewN nq⟩
     ·have hr0':¬(0:Int)<(recs.length:Int):=by omega
      have HRe:Hid (goB f' (xs'.drop S) (recs++[xs'.take S]) num=R):=by
       have:=HG3.out
       rw[if_neg (fun h=>hr0 h.1)]at this
       exact this
      have hr00:decide ((0:Int)<(recs.length:Int))=false:=decide_eq_false hr0'
      obtain⟨rl,hrl⟩:∃rl,recs.length=rl:=⟨_,rfl⟩
      rw[hrl]at hr0' q2 hr00 hr0
      have hd5:decide (0<rl)=false:=by simpa using hr0
      clear hrl
      go_wp2
      go_quiet (fail)
      have HJ4:=hide (HJ3.out.kept ((Kp.refl (fun _=>False) _ w3).drewN nq) (fun _ h=>h))
      have HK4:=hide (HK3.out.drewN nq)
      have HX4:Hid (Bytes (w3.drewN nq) (some ⟨g,q,none⟩) xs'):=⟨HX3.out.small,HX3.out.lie⟩
      have ht4:(w3.drewN nq).heap[tb]?=_:=HT3.out
      obtain⟨t0,t1,tf⟩:=blk2 ht4
      clear ht4 q0 q1 q2 q3 q4 q5 q6 qf
      generalize w3.drewN nq=w4 at *
      have HTk:=hide (take_any w4 K3 o d jb _ HJ4.out g q S S num (xs'.take S) HTl.out (Nat.le_refl _) (by omega) hkg3 (bytes_take HX4.out S) (by omega) (by omega) (by have:=HLe.out.1;show recs.length≤_;omega))
      go_wp2_with fail
      refine HTk.out.mono ?_
      rintro e w5 ⟨K5,rfl,hj5,hk5⟩
      have HJ5:Hid (Jk w5 K5 o d jb (J.went (recs++[xs'.take S],num,false,0))):=hj5
      have HK5:=hide (HK4.out.trans (hk5.mono (fun k e=>by rcases e with e | e <;> rw[e])))
      have hgl4:g<w4.heap.size:=by
       rcases HX4.out.lie with e | ⟨g',o',e,hg,_⟩
       ·have:=HN'.out;rw[e]at this;simp at this;omega
       ·cases e;exact hg
      have hkg5:K5 g=(o,3):=(hk5.same g hgl4).trans hkg3
      have HX5:Hid (Bytes w5 (some ⟨g,q,none⟩) xs'):=bytes_kept HX4.out hk5.size (fun g' o' e hg=>by cases e;exact hk5.block g hg (by rw[hkg3];simp))
      have HLr:Hid ((recs++[xs'.take S]).length+(n' - S)≤n∧num≤1099511627776):=by
       refine⟨?_,hnum.2⟩
       have:=HLe.out.1
       rw[List.length_append]
       simp;omega
      have HGn:Hid (n' - S<f'∧goB f' (xs'.drop S) (recs++[xs'.take S]) num=R):=⟨by have:=HGo.out.1;omega,HRe.out⟩
      have HNd:Hid ((xs'.drop S).length=n' - S):=by show _=_;rw[List.length_drop,HN'.out]
      clear hj5 hk5 HTk t0 t1 tf
      by_cases hcS:c'=S
      ·go_wp2
       go_roundw
       case rel=>exact⟨_,n' - S,0,f',xs'.drop S,recs++[xs'.take S],num,K5,rfl,by omega,by omega,by omega,HNd,hide ⟨fun x hx=>HX5.out.small x (List.mem_of_mem_drop hx),Or.inl (List.eq_nil_of_length_eq_zero (by rw[HNd.out];omega))⟩,hide (fun h=>by omega),HJ5,HK5,HGn,HLr⟩
       case measure=>simp[slen];omega
      ·go_wp2
       go_roundw
       case rel=>exact⟨_,n' - S,c' - S,f',xs'.drop S,recs++[xs'.take S],num,K5,rfl,by omega,by omega,by omega,HNd,hide (bytes_drop HX5.out S),hide (fun _=>⟨g,q+S,rfl,hkg5⟩),HJ5,HK5,HGn,HLr⟩
       case measure=>simp[slen];omega
    ·cases he
theorem Bytes.drewN {w:World} {sp:Option Addr} {xs:List Nat} (h:Bytes w sp xs) (q:Nat):Bytes (w.drewN q) sp xs:=⟨h.small,h.lie⟩
theorem Pts.drewN {w:World} {pp:Option Addr} {ps:List (List Nat)} (h:Pts w pp ps) (q:Nat):Pts (w.drewN q) pp ps:=h.below (below_drewN (Below.refl _ w) q)
set_option maxHeartbeats 400000 in
theorem eqLists_same (w:World) (p1 p2:Option Addr) (k c1 c2:Nat) (ps:List (List Nat)) (hk:ps.length=k) (hkl:k≤1099511627776) (h1:Pts w p1 ps) (h2:Pts w p2 ps) :
  Calls Tryz.prog 52 #[.slice p1 k c1,.slice p2 k c2] w fun e w'=>e=.returned (.bool true)∧∃q,w'=w.drewN q:=by
 have HA:=hide h1
 have HB:=hide h2
 have HK:=hide hk
 clear h1 h2 hk
 go_enter Tryz.func52,Tryz.ntmps52
 go_wp2
 go_loopw [5] (fun i wr=>∃j q:Nat,j≤k∧i=.int .i64 j∧Hid (wr=w.drewN q)) (fun i _=>k - (intOf i).toNat)
 case atStart=>exact⟨0,0,Nat.zero_le _,rfl,rfl⟩
 case round =>
  obtain⟨j,q,hj,rfl,HW⟩:=hrel
  by_cases hlt:j<k
  ·obtain⟨p,hp⟩:∃p,ps[j]?=some p:=⟨_,List.getElem?_eq_getElem (by rw[HK.out];exact hlt)⟩
   have hA:Pts wr p1 ps:=by rw[HW.out];exact HA.out.drewN q
   have hB:Pts wr p2 ps:=by rw[HW.out];exact HB.out.drewN q
   obtain⟨g1,o1,a1,d1,rfl,l1,x1,b1⟩:=hA.at hp
   obtain⟨g2,o2,a2,d2,rfl,l2,x2,b2⟩:=hB.at hp
   have hsm:=HA.out.small p (List.mem_of_getElem? hp)
   have HQ:=hide (fun q=>eq_same (wr.drewN q) a1 a2 p.length d1 d2 p rfl (by omega) (b1.drewN q) (b2.drewN q))
   have i1:(0:Int)≤(j:Int):=by omega
   have i2:(j:Int)<(k:Int):=by omega
   clear hp hA hB b1 b2 hsm
   generalize p.length=pl at *
   go_wp2
   go_quiet (first | (go_at_call 70;exact Calls.quiet_of (HQ.out _)))
   go_wp2
   go_roundw
   case rel=>exact⟨j+1,q+nq,by omega,by go_num,by show _=_;rw[HW.out,World.drewN_drewN]⟩
   case measure=>simp[intOf];omega
  ·obtain rfl:j=k:=by omega
   go_wp2
   go_ret
   exact⟨rfl,q,HW.out⟩
structure Trs (w:World) (tp:Option Addr) (ts:List (List (List Nat))):Prop where
 few:∀ps∈ts,ps.length≤1099511627776
 lie:ts=[]∨∃g o,tp=some ⟨g,o,none⟩∧g<w.heap.size∧∀(j:Nat) (ps:List (List Nat)),ts[j]?=some ps→∃(pp:Option Addr) (cp:Nat),w.cell? ⟨g,o+j,none⟩=some (.slice pp ps.length cp)∧Pts w pp ps
theorem Trs.below {w w':World} {tp:Option Addr} {ts:List (List (List Nat))} (h:Trs w tp ts) (hb:Below w.heap.size w w'):Trs w' tp ts:=by
 refine⟨h.few,h.lie.imp id ?_⟩
 rintro ⟨g,o,e,hg,hc⟩
 refine⟨g,o,e,Nat.lt_of_lt_of_le hg hb.size,fun j ps hp=>?_⟩
 obtain⟨pp,cp,c0,c1⟩:=hc j ps hp
 exact⟨pp,cp,(hb.cell (p:=⟨g,o+j,none⟩) hg).trans c0,c1.below hb⟩
theorem Trs.drewN {w:World} {tp:Option Addr} {ts:List (List (List Nat))} (h:Trs w tp ts) (q:Nat):Trs (w.drewN q) tp ts:=h.below (below_drewN (Below.refl _ w) q)
theorem Trs.at {w:World} {tp:Option Addr} {ts:List (List (List Nat))} (h:Trs w tp ts) {j:Nat} {ps:List (List Nat)} (hp:ts[j]?=some ps):∃g o pp cp,tp=some ⟨g,o,none⟩∧g<w.heap.size∧w.cell? ⟨g,o+j,none⟩=some (.slice pp ps.length cp)∧Pts w pp ps:=by
 rcases h.lie with h0 | ⟨g,o,e,hg,hc⟩
 ·subst h0;simp at hp
 ·obtain⟨pp,cp,c0,c1⟩:=hc j ps hp
  exact⟨g,o,pp,cp,e,hg,c0,c1⟩
set_option maxHeartbeats 400000 in
theorem trans_same (w:World) (p1 p2:Option Addr) (k c1 c2:Nat) (ts:List (List (List Nat))) (hk:ts.length=k) (hkl:k≤1099511627776) (h1:Trs w p1 ts) (h2:Trs w p2 ts) :
  Calls Tryz.prog 19 #[.slice p1 k c1,.slice p2 k c2] w fun e w'=>e=.returned (.bool true)∧∃q,w'=w.drewN q:=by
 have HA:=hide h1
 have HB:=hide h2
 have HK:=hide hk
 clear h1 h2 hk
 go_enter Tryz.func19,Tryz.ntmps19
 go_wp2
 go_loopw [5] (fun i wr=>∃j q:Nat,j≤k∧i=.int .i64 j∧Hid (wr=w.drewN q)) (fun i _=>k - (intOf i).toNat)
 case atStart=>exact⟨0,0,Nat.zero_le _,rfl,rfl⟩
 case round =>
  obtain⟨j,q,hj,rfl,HW⟩:=hrel
  by_cases hlt:j<k
  ·obtain⟨p,hp⟩:∃p,ts[j]?=some p:=⟨_,List.getElem?_eq_getElem (by rw[HK.out];exact hlt)⟩
   have hA:Trs wr p1 ts:=by rw[HW.out];exact HA.out.drewN q
   have hB:Trs wr p2 ts:=by rw[HW.out];exact HB.out.drewN q
   obtain⟨g1,o1,a1,d1,rfl,l1,x1,b1⟩:=hA.at hp
   obtain⟨g2,o2,a2,d2,rfl,l2,x2,b2⟩:=hB.at hp
   have hsm:=HA.out.few p (List.mem_of_getElem? hp)
   have HQ:=hide (fun q=>eqLists_same (wr.drewN q) a1 a2 p.length d1 d2 p rfl hsm (b1.drewN q) (b2.drewN q))
   have i1:(0:Int)≤(j:Int):=by omega
   have i2:(j:Int)<(k:Int):=by omega
   clear hp hA hB b1 b2 hsm
   generalize p.length=pl at *
   go_wp2
   go_quiet (first | (go_at_call 52;exact Calls.quiet_of (HQ.out _)))
   go_wp2
   go_roundw
   case rel=>exact⟨j+1,q+nq,by omega,by go_num,by show _=_;rw[HW.out,World.drewN_drewN]⟩
   case measure=>simp[intOf];omega
  ·obtain rfl:j=k:=by omega
   go_wp2
   go_ret
   exact⟨rfl,q,HW.out⟩
end Go.Proofs.YtcceejdaokoihaaGreatDoor
