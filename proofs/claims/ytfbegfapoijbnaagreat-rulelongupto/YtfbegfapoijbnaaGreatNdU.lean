import Derived.Test.YtfbegfapoijbnaaGreatNdO
set_option maxRecDepth 100000
namespace Go.Proofs.YtfbegfapoijbnaaGreat
open Go.RowKit
set_option maxHeartbeats 400000 in
theorem way_any (n:Int) (w:World):Calls Tryz.prog 41 #[.int .i64 n] w fun e w'=>e=.returned (.int .i64 (wayOf n))∧w'=w:=by
 by_cases h:n<0
 ·have HA:Hid (wayOf n=0):=by show wayOf n=0;simp[wayOf,h]
  go_enter Tryz.func41,Tryz.ntmps41
  go_wp2
  go_ret
  rw[HA.out]
  exact⟨rfl,rfl⟩
 ·have HA:Hid (wayOf n=1):=by show wayOf n=1;simp[wayOf,h]
  go_enter Tryz.func41,Tryz.ntmps41
  go_wp2
  go_ret
  rw[HA.out]
  exact⟨rfl,rfl⟩
set_option maxHeartbeats 400000 in
theorem amt3_any (n:Int) (hw:(Lit.int .i64 n).wf=true) (w:World) :
  Calls Tryz.prog 42 #[.int .i64 n] w fun e w'=>e=.returned (.int .u64 (amtU n))∧w'=w:=by
 simp[Lit.wf,IntKind.min,IntKind.max,IntKind.signed,IntKind.bits]at hw
 by_cases h:n<0
 ·have HA:Hid (amtU n = -n):=by show amtU n = -n;simp[amtU,h]
  go_enter Tryz.func42,Tryz.ntmps42
  go_wp2
  go_ret
  refine⟨?_,rfl⟩
  rw[HA.out]
  simp
  omega
 ·have HA:Hid (amtU n=n):=by show amtU n=n;simp[amtU,h]
  go_enter Tryz.func42,Tryz.ntmps42
  go_wp2
  go_ret
  refine⟨?_,rfl⟩
  rw[HA.out]
  rfl
structure Pst (w wr:World) (r:Tri) (out:List Tri) (ov:Value):Prop where
 row:wr.ownsRow (w.heap.size+1) 53 3 ov out.length (rcells out)
 box:wr.heap[w.heap.size]?=some (.cells #[.int .i64 r.a,.int .i64 r.b,.int .i64 r.n] 53 (0,0))
 below:Below w.heap.size w wr
theorem Pst.size {w wr:World} {r:Tri} {out:List Tri} {ov:Value} (h:Pst w wr r out ov):w.heap.size+1≤wr.heap.size:=ac_lt h.box
theorem Pst.far {w wr:World} {r:Tri} {out:List Tri} {ov:Value} (h:Pst w wr r out ov):some w.heap.size≠ov.ownBlock:=by
 rcases h.row.2 with ⟨e1,_⟩ | ⟨g,cap,cur,e1,hb,_⟩
 ·rw[e1];simp[Value.ownBlock]
 ·rw[e1];simp[Value.ownBlock];omega
theorem Pst.app1 {w wr w1:World} {r x:Tri} {out:List Tri} {ov ov':Value} {o:Obj} (h:Pst w wr r out ov) (ho:w1.ownsRow (w.heap.size+1) 53 3 ov' (out.length+1) (rcells out++tric x)) (hg:(wr.alloc o).grownBy w1 ov.ownBlock):Pst w w1 r (out++[x]) ov':=by
 have hs:=h.size
 refine⟨by rw[rcells_snoc,List.length_append];exact ho,(hg.block _ (by simp;omega) h.far).trans ((Below.heap_alloc _ _ _ (by omega)).trans h.box),(h.below.alloc (by omega) _).grown hg (by simp;omega) fun k e=>?_⟩
 rcases h.row.2 with ⟨e1,_⟩ | ⟨g,cap,cur,e1,hb,_⟩
 ·rw[e1]at e;simp[Value.ownBlock]at e
 ·rw[e1]at e;simp[Value.ownBlock]at e;omega
theorem Pst.kept {w wr w1:World} {r:Tri} {out:List Tri} {ov:Value} {o o':Obj} {b:Nat} (_:Pst w wr r out ov) (hb:wr.heap[b]?=some o') (hne:some b≠ov.ownBlock) (hg:(wr.alloc o).grownBy w1 ov.ownBlock):w1.heap[b]?=some o' :=
 (hg.block _ (by have:=ac_lt hb;simp;omega) hne).trans ((Below.heap_alloc _ _ _ (ac_lt hb)).trans hb)
theorem Pst.alloc {w wr:World} {r:Tri} {out:List Tri} {ov:Value} (h:Pst w wr r out ov) (o:Obj):Pst w (wr.alloc o) r out ov :=
 ⟨h.row.alloc _,(Below.heap_alloc _ _ _ (ac_lt h.box)).trans h.box,h.below.alloc h.below.size _⟩
theorem Pst.new {w wr:World} {r:Tri} {out:List Tri} {ov:Value} (h:Pst w wr r out ov):some wr.heap.size≠ov.ownBlock:=fun e=>absurd (rk_lt h.row e.symm) (Nat.lt_irrefl _)
theorem Pst.set {w wr:World} {r:Tri} {out:List Tri} {ov:Value} {b i:Nat} (h:Pst w wr r out ov) (hne:some b≠ov.ownBlock) (hb:w.heap.size<b) (v:Value):Pst w (wr.setCell ⟨b,i,none⟩ v) r out ov :=
 ⟨owns_same h.row (fun g hg=>Below.heap_setCell _ _ _ _ (fun e=>hne (by have e':g=b:=e;rw[←e'];exact hg.symm))),(Below.heap_setCell _ _ _ _ (fun e=>by have e':w.heap.size=b:=e;omega)).trans h.box,h.below.setCell (p:=⟨b,i,none⟩) (by show w.heap.size≤b;omega) _⟩
theorem drop_at {α:Type} {l:List α} {j:Nat} {x:α} (h:l[j]?=some x):l.drop j=x :: l.drop (j+1):=by
 rcases Nat.lt_or_ge j l.length with hj | hj
 ·rw[List.getElem?_eq_getElem hj]at h
  cases h
  exact List.drop_eq_getElem_cons hj
 ·rw[List.getElem?_eq_none hj]at h;cases h
set_option maxHeartbeats 4000000 in
theorem put_any (w:World) (p:Option Addr) (len cap:Nat) (l:List Tri) (ra rb rn:Int) (hl:l.length=len) (hb:len≤1099511627776) (hc:Cel w p 3 (l.map tric)) :
  Calls Tryz.prog 43 #[.slice p len cap,.agg #[.int .i64 ra,.int .i64 rb,.int .i64 rn]] w fun e w'=>∃v,e=.returned v∧w'.ownsRow w.heap.size 53 3 v (putT l ⟨ra,rb,rn⟩).length (rcells (putT l ⟨ra,rb,rn⟩))∧Below w.heap.size w w':=by
 have HC:=hide hc
 clear hc
 obtain⟨i0,hi,hz0,hz1,hz2⟩:=info_parts right_info
 have HP0:Hid (Pst w (w.alloc (.cells #[.int .i64 ra,.int .i64 rb,.int .i64 rn] 53)) ⟨ra,rb,rn⟩ [] (.slice none 0 0)):=⟨World.ownsRow_nil _ _ _ _,heap_alloc_new _ _,(Below.refl _ _).alloc (Nat.le_refl _) _⟩
 go_enter Tryz.func43,Tryz.ntmps43
 go_wp2
 go_loopw [5,6,7] (fun ov lv i wr=>∃(j:Nat) (out:List Tri) (laid:Bool),j≤len∧i=.int .i64 j∧lv=.bool laid∧out.length≤2*j∧Hid (Pst w wr ⟨ra,rb,rn⟩ out ov)∧Hid (putT l ⟨ra,rb,rn⟩=out++(if laid=true then l.drop j else putT (l.drop j) ⟨ra,rb,rn⟩))) (fun _ _ i _=>len - (intOf i).toNat)
 case atStart=>exact⟨0,[],false,Nat.zero_le _,rfl,rfl,by simp,HP0,by show _=_;simp⟩
 case round =>
  obtain⟨j,out,laid,hj,rfl,rfl,hol,HP,HI⟩:=hrel
  obtain⟨oa,oc,rfl⟩:=slice_form HP.out.row
  have hws:=HP.out.size
  by_cases hlt:j<len
  ·have hlt':(j:Int)<(len:Int):=by omega
   have i0':(0:Int)≤(j:Int):=by omega
   obtain⟨x,hx⟩:∃x,l[j]?=some x:=⟨_,List.getElem?_eq_getElem (by omega)⟩
   obtain⟨b,o,rfl,hbl,hcl⟩:=HC.out.get (i:=j) (r:=tric x) (by simp[hx])
   have f:∀i v,(tric x)[i]?=some v→wr.cell? ⟨b,o+j*3+i,none⟩=some v:=fun i v hv=>(HP.out.below.cell (p:=⟨b,o+j*3+i,none⟩) hbl).trans (hcl i v hv)
   have a0:=f 0 _ rfl
   have a1:=f 1 _ rfl
   have a2:=f 2 _ rfl
   rw[Nat.add_zero]at a0
   have HD:=hide (drop_at hx)
   obtain⟨xa,xb,xn⟩:=x
   simp only at a0 a1 a2
   obtain⟨w6,hw6⟩:∃w6,wr.alloc (.cells #[.int .i64 xa,.int .i64 xb,.int .i64 xn] 53)=w6:=⟨_,rfl⟩
   have hb6:w6.heap[wr.heap.size]?=some (.cells #[.int .i64 xa,.int .i64 xb,.int .i64 xn] 53 (0,0)):=by rw[←hw6];exact heap_alloc_new _ _
   have HP6:Hid (Pst w w6 ⟨ra,rb,rn⟩ out (.slice oa out.length oc)):=by rw[←hw6];exact HP.out.alloc _
   obtain⟨c0,c1,c2⟩:=ac3 hb6
   obtain⟨d0,d1,d2⟩:=ac3 HP6.out.box
   have HNe:=hide HP.out.new
   have HB6:=hide hb6
   have HW6:=hide hw6
   clear f hcl hx hb6 hw6
   cases laid with
   | true =>
    go_upto_region 7 with (fail)
    rw[HW6.out]
    go_wp2_with (at_builtin;refine wpList_append_lies _ rfl (.tmp 68) (.tmp 70) 54 rfl (w.heap.size+1) 53 i0 (.agg #[.int .i64 0,.int .i64 0,.int .i64 0]) 3 24 Tryz.underlying54 hi hz0 hz1 hz2 rfl (by omega) _ _ _ rfl (HP6.out.row.alloc _) ⟨w6.heap.size,0,none⟩ 1 1 [.int .i64 xa,.int .i64 xb,.int .i64 xn] rfl rfl (three_new _ _ _ _ _) (by simp[Value.oneCell']) (by omega) (by unfold maxLen;omega) (by omega) (by have:=HP6.out.size;simp;omega) _ rfl ?_;intro g1 c1 w1 hown1 hgrow1 hat1 hlt1;have HP1:=hide (HP6.out.app1 (x:=⟨xa,xb,xn⟩) hown1 hgrow1);clear hown1 hgrow1 hat1 hlt1)
    go_roundw
    case rel=>exact⟨j+1,_,true,by omega,by go_num,rfl,by rw[List.length_append];simp;omega,HP1,by show _=_;rw[HI.out,if_pos rfl,if_pos rfl,HD.out];simp⟩
    case measure=>simp[intOf];omega
   | false =>
    by_cases hk:xa=ra∧xb=rb
    ·obtain⟨h1,h2⟩:=hk
     subst h1 h2
     have hcf:w6.frozen? ⟨wr.heap.size,2,none⟩=false:=by simp[World.frozen?,HB6.out]
     have HPb:=hide (HP6.out.set (i:=2) HNe.out (by omega) (.int .i64 (wrap64 (xn+rn))))
     go_upto_region 7 with (fail)
     rw[HW6.out]
     go_wp2_with (at_builtin;refine wpList_append_lies _ rfl (.tmp 68) (.tmp 70) 54 rfl (w.heap.size+1) 53 i0 (.agg #[.int .i64 0,.int .i64 0,.int .i64 0]) 3 24 Tryz.underlying54 hi hz0 hz1 hz2 rfl (by omega) _ _ _ rfl (HPb.out.row.alloc _) ⟨w6.heap.size,0,none⟩ 1 1 [.int .i64 xa,.int .i64 xb,.int .i64 (wrap64 (xn+rn))] rfl rfl (by have h:=three_new (w6.setCell ⟨wr.heap.size,2,none⟩ (.int .i64 (wrap64 (xn+rn)))) (.int .i64 xa) (.int .i64 xb) (.int .i64 (wrap64 (xn+rn))) 53;rw[World.size_setCell]at h;exact h) (by simp[Value.oneCell']) (by omega) (by unfold maxLen;omega) (by omega) (by have:=HP6.out.size;simp;omega) _ rfl ?_;intro g1 c1 w1 hown1 hgrow1 hat1 hlt1;have HP1:=hide (HPb.out.app1 (x:=⟨xa,xb,(wrap64 (xn+rn))⟩) hown1 hgrow1);clear hown1 hgrow1 hat1 hlt1)
     go_roundw
     case rel=>exact⟨j+1,_,true,by omega,by go_num,rfl,by rw[List.length_append];simp;omega,HP1,by show _=_;rw[HI.out,HD.out];simp[putT]⟩
     case measure=>simp[intOf];omega
    ·by_cases hr:ra<xa∨(ra=xa∧rb<xb)
     ·have HQ:Hid (putT (⟨xa,xb,xn⟩ :: l.drop (j+1)) ⟨ra,rb,rn⟩=⟨ra,rb,rn⟩ :: ⟨xa,xb,xn⟩ :: l.drop (j+1)):=by show _=_;rw[putT,if_neg hk,if_pos hr]
      have HREL:Hid (putT l ⟨ra,rb,rn⟩=(out++[⟨ra,rb,rn⟩]++[⟨xa,xb,xn⟩])++(if true=true then l.drop (j+1) else putT (l.drop (j+1)) ⟨ra,rb,rn⟩)):=by show _=_;rw[HI.out,HD.out,if_pos rfl,if_neg (by simp),HQ.out];simp
      rcases hr with hr | ⟨hr,hr2⟩
      ·have n1:¬xa=ra:=by omega
       clear hk
       go_upto_region 7 with (fail)
       rw[HW6.out]
       go_wp2_with (first | (at_builtin;refine wpList_append_lies _ rfl (.tmp 68) (.tmp 70) 54 rfl (w.heap.size+1) 53 i0 (.agg #[.int .i64 0,.int .i64 0,.int .i64 0]) 3 24 Tryz.underlying54 hi hz0 hz1 hz2 rfl (by omega) _ _ _ rfl (HP1.out.row.alloc _) ⟨w1.heap.size,0,none⟩ 1 1 [.int .i64 xa,.int .i64 xb,.int .i64 xn] rfl rfl (three_new _ _ _ _ _) (by simp[Value.oneCell']) (by omega) (by unfold maxLen;omega) (by omega) (by have:=HP1.out.size;simp;omega) _ rfl ?_;intro g2 c2 w2 hown2 hgrow2 hat2 hlt2;have HP2:=hide (HP1.out.app1 (x:=⟨xa,xb,xn⟩) hown2 hgrow2);clear hown2 hgrow2 hat2 hlt2) | (at_builtin;refine wpList_append_lies _ rfl (.tmp 64) (.tmp 66) 54 rfl (w.heap.size+1) 53 i0 (.agg #[.int .i64 0,.int .i64 0,.int .i64 0]) 3 24 Tryz.underlying54 hi hz0 hz1 hz2 rfl (by omega) _ _ _ rfl (HP6.out.row.alloc _) ⟨w6.heap.size,0,none⟩ 1 1 [.int .i64 ra,.int .i64 rb,.int .i64 rn] rfl rfl (three_new _ _ _ _ _) (by simp[Value.oneCell']) (by omega) (by unfold maxLen;omega) (by omega) (by have:=HP6.out.size;simp;omega) _ rfl ?_;intro g1 c1 w1 hown1 hgrow1 hat1 hlt1;have HP1:=hide (HP6.out.app1 (x:=⟨ra,rb,rn⟩) hown1 hgrow1);have hl1:(out++[(⟨ra,rb,rn⟩:Tri)]).length=out.length+1:=(by simp);obtain⟨e0,e1,e2⟩:=ac3 (HP6.out.kept HB6.out HNe.out hgrow1);clear hown1 hgrow1 hat1 hlt1))
       go_roundw
       case rel=>exact⟨j+1,_,true,by omega,by go_num,rfl,by rw[List.length_append,hl1];simp;omega,by rw[hl1]at HP2;exact HP2,HREL⟩
       case measure=>simp[intOf];omega
      ·subst hr
       have n1:¬xb=rb:=by omega
       clear hk
       go_upto_region 7 with (fail)
       rw[HW6.out]
       go_wp2_with (first | (at_builtin;refine wpList_append_lies _ rfl (.tmp 68) (.tmp 70) 54 rfl (w.heap.size+1) 53 i0 (.agg #[.int .i64 0,.int .i64 0,.int .i64 0]) 3 24 Tryz.underlying54 hi hz0 hz1 hz2 rfl (by omega) _ _ _ rfl (HP1.out.row.alloc _) ⟨w1.heap.size,0,none⟩ 1 1 [.int .i64 ra,.int .i64 xb,.int .i64 xn] rfl rfl (three_new _ _ _ _ _) (by simp[Value.oneCell']) (by omega) (by unfold maxLen;omega) (by omega) (by have:=HP1.out.size;simp;omega) _ rfl ?_;intro g2 c2 w2 hown2 hgrow2 hat2 hlt2;have HP2:=hide (HP1.out.app1 (x:=⟨ra,xb,xn⟩) hown2 hgrow2);clear hown2 hgrow2 hat2 hlt2) | (at_builtin;refine wpList_append_lies _ rfl (.tmp 64) (.tmp 66) 54 rfl (w.heap.size+1) 53 i0 (.agg #[.int .i64 0,.int .i64 0,.int .i64 0]) 3 24 Tryz.underlying54 hi hz0 hz1 hz2 rfl (by omega) _ _ _ rfl (HP6.out.row.alloc _) ⟨w6.heap.size,0,none⟩ 1 1 [.int .i64 ra,.int .i64 rb,.int .i64 rn] rfl rfl (three_new _ _ _ _ _) (by simp[Value.oneCell']) (by omega) (by unfold maxLen;omega) (by omega) (by have:=HP6.out.size;simp;omega) _ rfl ?_;intro g1 c1 w1 hown1 hgrow1 hat1 hlt1;have HP1:=hide (HP6.out.app1 (x:=⟨ra,rb,rn⟩) hown1 hgrow1);have hl1:(out++[(⟨ra,rb,rn⟩:Tri)]).length=out.length+1:=(by simp);obtain⟨e0,e1,e2⟩:=ac3 (HP6.out.kept HB6.out HNe.out hgrow1);clear hown1 hgrow1 hat1 hlt1))
       go_roundw
       case rel=>exact⟨j+1,_,true,by omega,by go_num,rfl,by rw[List.length_append,hl1];simp;omega,by rw[hl1]at HP2;exact HP2,HREL⟩
       case measure=>simp[intOf];omega
     ·have HREL:Hid (putT l ⟨ra,rb,rn⟩=(out++[⟨xa,xb,xn⟩])++(if false=true then l.drop (j+1) else putT (l.drop (j+1)) ⟨ra,rb,rn⟩)):=by show _=_;rw[HI.out,HD.out,if_neg (by simp),if_neg (by simp),putT,if_neg hk,if_neg hr];simp
      by_cases n0:xa=ra
      ·subst n0
       have n1:¬xb=rb:=fun e=>hk ⟨rfl,e⟩
       have n2:¬rb<xb:=fun e=>hr (Or.inr ⟨rfl,e⟩)
       clear hk hr
       go_upto_region 7 with (fail)
       rw[HW6.out]
       go_wp2_with (at_builtin;refine wpList_append_lies _ rfl (.tmp 68) (.tmp 70) 54 rfl (w.heap.size+1) 53 i0 (.agg #[.int .i64 0,.int .i64 0,.int .i64 0]) 3 24 Tryz.underlying54 hi hz0 hz1 hz2 rfl (by omega) _ _ _ rfl (HP6.out.row.alloc _) ⟨w6.heap.size,0,none⟩ 1 1 [.int .i64 xa,.int .i64 xb,.int .i64 xn] rfl rfl (three_new _ _ _ _ _) (by simp[Value.oneCell']) (by omega) (by unfold maxLen;omega) (by omega) (by have:=HP6.out.size;simp;omega) _ rfl ?_;intro g1 c1 w1 hown1 hgrow1 hat1 hlt1;have HP1:=hide (HP6.out.app1 (x:=⟨xa,xb,xn⟩) hown1 hgrow1);clear hown1 hgrow1 hat1 hlt1)
       go_roundw
       case rel=>exact⟨j+1,_,false,by omega,by go_num,rfl,by rw[List.length_append];simp;omega,HP1,HREL⟩
       case measure=>simp[intOf];omega
      ·have n2:¬ra<xa:=fun e=>hr (Or.inl e)
       clear hk hr
       go_upto_region 7 with (fail)
       rw[HW6.out]
       go_wp2_with (at_builtin;refine wpList_append_lies _ rfl (.tmp 68) (.tmp 70) 54 rfl (w.heap.size+1) 53 i0 (.agg #[.int .i64 0,.int .i64 0,.int .i64 0]) 3 24 Tryz.underlying54 hi hz0 hz1 hz2 rfl (by omega) _ _ _ rfl (HP6.out.row.alloc _) ⟨w6.heap.size,0,none⟩ 1 1 [.int .i64 xa,.int .i64 xb,.int .i64 xn] rfl rfl (three_new _ _ _ _ _) (by simp[Value.oneCell']) (by omega) (by unfold maxLen;omega) (by omega) (by have:=HP6.out.size;simp;omega) _ rfl ?_;intro g1 c1 w1 hown1 hgrow1 hat1 hlt1;have HP1:=hide (HP6.out.app1 (x:=⟨xa,xb,xn⟩) hown1 hgrow1);clear hown1 hgrow1 hat1 hlt1)
       go_roundw
       case rel=>exact⟨j+1,_,false,by omega,by go_num,rfl,by rw[List.length_append];simp;omega,HP1,HREL⟩
       case measure=>simp[intOf];omega
  ·have e1:¬(j:Int)<(len:Int):=by omega
   have hjl:l.drop j=[]:=List.drop_of_length_le (by omega)
   cases laid with
   | true =>
    have HE:Hid (putT l ⟨ra,rb,rn⟩=out):=by show _=_;rw[HI.out,if_pos rfl,hjl,List.append_nil]
    go_wp2
    go_ret
    refine⟨_,rfl,?_,HP.out.below⟩
    rw[HE.out]
    exact owns_mono HP.out.row (by omega)
   | false =>
    have HE:Hid (putT l ⟨ra,rb,rn⟩=out++[⟨ra,rb,rn⟩]):=by show _=_;rw[HI.out,hjl];rfl
    obtain⟨d0,d1,d2⟩:=ac3 HP.out.box
    go_wp2_with (at_builtin;refine wpList_append_lies _ rfl (.tmp 74) (.tmp 76) 54 rfl (w.heap.size+1) 53 i0 (.agg #[.int .i64 0,.int .i64 0,.int .i64 0]) 3 24 Tryz.underlying54 hi hz0 hz1 hz2 rfl (by omega) _ _ _ rfl (HP.out.row.alloc _) ⟨wr.heap.size,0,none⟩ 1 1 [.int .i64 ra,.int .i64 rb,.int .i64 rn] rfl rfl (three_new _ _ _ _ _) (by simp[Value.oneCell']) (by omega) (by unfold maxLen;omega) (by omega) (by have:=HP.out.size;simp;omega) _ rfl ?_;intro g1 c1 w1 hown1 hgrow1 hat1 hlt1;have HP1:=hide (HP.out.app1 (x:=⟨ra,rb,rn⟩) hown1 hgrow1);clear hown1 hgrow1 hat1 hlt1)
    go_ret
    refine⟨_,rfl,?_,HP1.out.below⟩
    rw[HE.out,List.length_append]
    have h:=HP1.out.row
    rw[List.length_append]at h
    exact owns_mono h (by omega)
end Go.Proofs.YtfbegfapoijbnaaGreat
namespace Go.Proofs.YtfbegfapoijbnaaGreat
open Go.RowKit
theorem rcells_get (l:List Tri):∀(i:Nat) (x:Tri),l[i]?=some x→∀(j:Nat) (v:Value),(tric x)[j]?=some v→(rcells l)[i*3+j]?=some v:=by
 induction l with
 | nil=>intro i x h;simp at h
 | cons y l ih =>
  intro i x h j v hv
  have e:rcells (y :: l)=.int .i64 y.a :: .int .i64 y.b :: .int .i64 y.n :: rcells l:=rfl
  cases i with
  | zero =>
   simp at h
   subst h
   rw[e,Nat.zero_mul,Nat.zero_add]
   match j,hv with
   | 0,hv=>exact hv
   | 1,hv=>exact hv
   | 2,hv=>exact hv
   | j+3,hv=>simp[tric]at hv
  | succ i =>
   have:=ih i x (by simpa using h) j v hv
   rw[e,show (i+1)*3+j=i*3+j+1+1+1 by omega]
   rw[List.getElem?_cons_succ,List.getElem?_cons_succ,List.getElem?_cons_succ]
   exact this
theorem cel_row {w:World} {B n c:Nat} {a:Option Addr} {l:List Tri} {e:TypeId} (h:w.ownsRow B e 3 (.slice a n c) n (rcells l)):Cel w a 3 (l.map tric):=by
 cases l with
 | nil=>exact Or.inl rfl
 | cons y l =>
  obtain⟨g,e1,hg,_⟩:=row_cell h (i:=0) (u:=.int .i64 y.a) rfl
  refine Or.inr ⟨g,0,e1,hg,fun i r hr j v hv=>?_⟩
  rw[List.getElem?_map]at hr
  cases hx:(y :: l)[i]? with
  | none=>rw[hx]at hr;simp at hr
  | some x =>
   rw[hx]at hr
   simp at hr
   subst hr
   obtain⟨g',e2,_,hc⟩:=row_cell h (rcells_get _ i x hx j v hv)
   rw[e1]at e2
   cases e2
   rw[Nat.zero_add]
   exact hc
theorem putT_len (l:List Tri) (r:Tri):(putT l r).length≤l.length+1:=by
 induction l with
 | nil=>simp[putT]
 | cons x l ih =>
  unfold putT
  split
  ·simp
  ·split
   ·simp
   ·simp;omega
theorem needT_len (xs:List Lin):(needT xs).length≤xs.length:=by
 suffices h:∀l:List Tri,(xs.foldl (fun l x=>putT l (triOf x)) l).length≤l.length+xs.length by have:=h [];rw[List.length_nil,Nat.zero_add]at this;exact this
 induction xs with
 | nil=>intro l;simp
 | cons x xs ih=>intro l;have h1:=ih (putT l (triOf x));have h2:=putT_len l (triOf x);simp only[List.foldl_cons,List.length_cons];omega
theorem needT_take {xs:List Lin} {j:Nat} {x:Lin} (h:xs[j]?=some x):needT (xs.take (j+1))=putT (needT (xs.take j)) (triOf x):=by rw[take_snoc h,needT_snoc]
set_option maxHeartbeats 4000000 in
theorem rneeds_any (w:World) (p:Option Addr) (len cap:Nat) (xs:List Lin) (hlen:xs.length=len) (hreach:len≤1099511627776) (hxs:∀x∈xs,LinWf x) (hL:Lins w.heap.size w p xs) :
  Calls Tryz.prog 16 #[.slice p len cap] w fun e w'=>∃v,e=.returned v∧w'.ownsRow w.heap.size 53 3 v (needT xs).length (rcells (needT xs))∧Below w.heap.size w w':=by
 have HL:=hide hL
 have HX:=hide hxs
 clear hL hxs
 go_enter Tryz.func16,Tryz.ntmps16
 go_wp2
 go_loopw [3,4] (fun ov i wr=>∃j:Nat,j≤len∧i=.int .i64 j∧Hid (wr.ownsRow w.heap.size 53 3 ov (needT (xs.take j)).length (rcells (needT (xs.take j))))∧Hid (Below w.heap.size w wr)) (fun _ i _=>len - (intOf i).toNat)
 case atStart=>exact⟨0,Nat.zero_le _,rfl,World.ownsRow_nil _ _ _ _,Below.refl _ _⟩
 case round =>
  obtain⟨j,hj,rfl,HR,HB⟩:=hrel
  obtain⟨oa,oc,rfl⟩:=slice_form HR.out
  by_cases hlt:j<len
  ·have hlt':(j:Int)<(len:Int):=by omega
   have i0':(0:Int)≤(j:Int):=by omega
   obtain⟨x,hx⟩:∃x,xs[j]?=some x:=⟨_,List.getElem?_eq_getElem (by omega)⟩
   obtain⟨b,o,rfl,hb,hcl⟩:=(HL.out.below HB.out).resolve_left (by intro e;rw[e]at hx;simp at hx)
   obtain⟨a0,a1⟩:=hcl j x hx
   have hwf:=HX.out x (List.mem_of_getElem? hx)
   have HT:=hide (needT_take hx)
   obtain⟨xc,xn⟩:=x
   simp only at a0 a1
   have HWy:=hide (fun W'=>way_any xn W')
   have HAm:=hide (fun W'=>amt3_any xn hwf.2 W')
   have HCv:=hide (amt_conv xn hwf.2)
   have hbw:=Nat.lt_of_lt_of_le hb HB.out.size
   have hn1:=World.new_ne wr _ a0
   have hn2:=World.new_ne wr _ a1
   obtain⟨w6,hw6⟩:∃w6,(wr.alloc (.cells #[.int .i64 xc,.int .i64 (wayOf xn),.int .i64 (amtOf xn)] 53)).drew=w6:=⟨_,rfl⟩
   have hb6:w6.heap[wr.heap.size]?=some (.cells #[.int .i64 xc,.int .i64 (wayOf xn),.int .i64 (amtOf xn)] 53 (0,0)):=by rw[←hw6];exact heap_alloc_new wr _
   have hB6:Below w.heap.size w w6:=by rw[←hw6];exact(HB.out.alloc HB.out.size _).drew
   have hr6:w6.ownsRow w.heap.size 53 3 (.slice oa (needT (xs.take j)).length oc) (needT (xs.take j)).length (rcells (needT (xs.take j))):=by rw[←hw6];exact HR.out.alloc _
   obtain⟨c0,c1,c2⟩:=ac3 hb6
   have hnl:(needT (xs.take j)).length≤j:=Nat.le_trans (needT_len _) (by rw[List.length_take];omega)
   have HPut:=hide (put_any w6 oa (needT (xs.take j)).length oc (needT (xs.take j)) xc (wayOf xn) (amtOf xn) rfl (by omega) (cel_row hr6))
   have HB6:=hide hB6
   have HW6:=hide hw6
   clear hcl hx hwf hb6 hr6 hB6 hw6
   go_upto_region 5 with (fail)
   go_region_held3 (fun w'=>w'.cell? ⟨b,o+j*2,none⟩=some (.int .i64 xc)∧w'.cell? ⟨b,o+j*2+1,none⟩=some (.int .i64 xn)) (go_keep) (first | (go_at_call 41;refine(HWy.out _).mono ?_;rintro e w3 ⟨rfl,rfl⟩) | (go_at_call 42;refine(HAm.out _).mono ?_;rintro e w3 ⟨rfl,rfl⟩) | fail)
   all_goals (
    rw[HCv.out,HW6.out]
    go_wp2_with (go_at_call 43;refine HPut.out.mono ?_;rintro e w7 ⟨v,rfl,hr7,hb7⟩;have HR7:=hide (owns_mono hr7 HB6.out.size);have HB7:=hide (HB6.out.trans (hb7.mono HB6.out.size));clear hr7 hb7)
    go_roundw
    case rel=>exact⟨j+1,by omega,by go_num,by rw[HT.out];exact HR7,HB7⟩
    case measure=>simp[intOf];omega)
  ·have e1:¬(j:Int)<(len:Int):=by omega
   obtain rfl:j=len:=by omega
   go_wp2
   go_ret
   have h:=HR.out
   rw[List.take_of_length_le (by omega)]at h
   exact⟨_,rfl,by rw[List.take_of_length_le (by omega)];exact h,HB.out⟩
end Go.Proofs.YtfbegfapoijbnaaGreat
namespace Go.Proofs.YtfbegfapoijbnaaGreat
open Go.RowKit
theorem retB {a b:Bool} (h:a=b):Ending.returned (.bool b)=.returned (.bool a):=by rw[h]
theorem lin_eq {a b c d:Int} (h:¬((⟨a,b⟩:Lin)=⟨c,d⟩)):¬a=c∨(a=c∧¬b=d):=by
 by_cases h1:a=c
 ·refine Or.inr ⟨h1,fun h2=>h (by rw[h1,h2])⟩
 ·exact Or.inl h1
theorem ne_at {α:Type} {xs ys:List α} {j:Nat} {x y:α} (hx:xs[j]?=some x) (hy:ys[j]?=some y) (h:¬x=y):¬xs=ys:=fun e=>by
 rw[e,hy]at hx;cases hx;exact h rfl
set_option maxHeartbeats 4000000 in
theorem eqLines_any (w:World) (p q:Option Addr) (n m cap cap':Nat) (xs ys:List Lin) (hn:xs.length=n) (hm:ys.length=m) (hnl:n≤140737488355328) (hc:Cel w p 2 (xs.map linc)) (hd:Cel w q 2 (ys.map linc)) (A:Bool) (hA:A=true↔xs=ys) :
  Calls Tryz.prog 73 #[.slice p n cap,.slice q m cap'] w fun e w'=>e=.returned (.bool A)∧Below w.heap.size w w':=by
 have HC:=hide hc
 have HD:=hide hd
 have HA:=hide hA
 clear hc hd hA
 by_cases hl:n=m
 ·subst hl
  go_enter Tryz.func73,Tryz.ntmps73
  go_wp2
  go_loopw [5] (fun i wr=>∃j:Nat,j≤n∧i=.int .i64 j∧Hid (Below w.heap.size w wr)∧Hid (xs.take j=ys.take j)) (fun i _=>n - (intOf i).toNat)
  case atStart=>exact⟨0,Nat.zero_le _,rfl,Below.refl _ _,rfl⟩
  case round =>
   obtain⟨j,hj,rfl,HBr,HT⟩:=hrel
   by_cases hlt:j<n
   ·have hlt':(j:Int)<(n:Int):=by omega
    have i0:(0:Int)≤(j:Int):=by omega
    obtain⟨x,hx⟩:∃x,xs[j]?=some x:=⟨_,List.getElem?_eq_getElem (by omega)⟩
    obtain⟨y,hy⟩:∃y,ys[j]?=some y:=⟨_,List.getElem?_eq_getElem (by omega)⟩
    obtain⟨b,o,rfl,hbl,hcl⟩:=HC.out.get (i:=j) (r:=linc x) (by simp[hx])
    obtain⟨b',o',rfl,hbl',hcl'⟩:=HD.out.get (i:=j) (r:=linc y) (by simp[hy])
    have f:∀i v,(linc x)[i]?=some v→wr.cell? ⟨b,o+j*2+i,none⟩=some v:=fun i v hv=>(HBr.out.cell (p:=⟨b,o+j*2+i,none⟩) hbl).trans (hcl i v hv)
    have f':∀i v,(linc y)[i]?=some v→wr.cell? ⟨b',o'+j*2+i,none⟩=some v:=fun i v hv=>(HBr.out.cell (p:=⟨b',o'+j*2+i,none⟩) hbl').trans (hcl' i v hv)
    have a0:=f 0 _ rfl
    have a1:=f 1 _ rfl
    have b0:=f' 0 _ rfl
    have b1:=f' 1 _ rfl
    rw[Nat.add_zero]at a0 b0
    obtain⟨xc,xn⟩:=x
    obtain⟨yc,yn⟩:=y
    simp only at a0 a1 b0 b1
    clear f f' hcl hcl'
    have HBd:Hid (Below w.heap.size w wr.drew):=HBr.out.drew
    by_cases he:(⟨xc,xn⟩:Lin)=⟨yc,yn⟩
    ·cases he
     have HT2:Hid (xs.take (j+1)=ys.take (j+1)):=by show _=_;rw[List.take_add_one,List.take_add_one,hx,hy,HT.out]
     go_upto_region 6 with (fail)
     go_region
     go_wp2
     go_roundw
     case rel=>exact⟨j+1,by omega,by go_num,HBd,HT2⟩
     case measure=>simp[intOf];omega
    ·have HF:Hid (A=false):=by
      show A=false
      cases hAA:A with
      | false=>rfl
      | true=>exact(ne_at hx hy he (HA.out.1 hAA)).elim
     rcases lin_eq he with h1 | ⟨h1,h2⟩
     ·go_upto_region 6 with (fail)
      go_region
      all_goals go_wp2
      all_goals go_ret
      all_goals exact⟨retB HF.out,HBd.out⟩
     ·subst h1
      go_upto_region 6 with (fail)
      go_region
      all_goals go_wp2
      all_goals go_ret
      all_goals exact⟨retB HF.out,HBd.out⟩
   ·have e1:¬(j:Int)<(n:Int):=by omega
    have HT':Hid (A=true):=HA.out.2 (by have h:=HT.out;rw[List.take_of_length_le (by omega),List.take_of_length_le (by omega)]at h;exact h)
    go_wp2
    go_ret
    exact⟨retB HT'.out,HBr.out⟩
 ·have hl':¬(n:Int)=(m:Int):=by omega
  have HF:Hid (A=false):=by
   show A=false
   cases hAA:A with
   | false=>rfl
   | true=>exact(hl (by rw[←hn,←hm,HA.out.1 hAA])).elim
  go_enter Tryz.func73,Tryz.ntmps73
  go_wp2
  go_ret
  exact⟨retB HF.out,Below.refl _ _⟩
theorem tri_eq {a b c d e f:Int} (h:¬((⟨a,b,c⟩:Tri)=⟨d,e,f⟩)):¬a=d∨(a=d∧¬b=e)∨(a=d∧b=e∧¬c=f):=by
 by_cases h1:a=d
 ·by_cases h2:b=e
  ·exact Or.inr (Or.inr ⟨h1,h2,fun h3=>h (by rw[h1,h2,h3])⟩)
  ·exact Or.inr (Or.inl ⟨h1,h2⟩)
 ·exact Or.inl h1
set_option maxHeartbeats 4000000 in
theorem eqRights_any (w:World) (p q:Option Addr) (n m cap cap':Nat) (xs ys:List Tri) (hn:xs.length=n) (hm:ys.length=m) (hnl:n≤140737488355328) (hc:Cel w p 3 (xs.map tric)) (hd:Cel w q 3 (ys.map tric)) (A:Bool) (hA:A=true↔xs=ys) :
  Calls Tryz.prog 14 #[.slice p n cap,.slice q m cap'] w fun e w'=>e=.returned (.bool A)∧Below w.heap.size w w':=by
 have HC:=hide hc
 have HD:=hide hd
 have HA:=hide hA
 clear hc hd hA
 by_cases hl:n=m
 ·subst hl
  go_enter Tryz.func14,Tryz.ntmps14
  go_wp2
  go_loopw [5] (fun i wr=>∃j:Nat,j≤n∧i=.int .i64 j∧Hid (Below w.heap.size w wr)∧Hid (xs.take j=ys.take j)) (fun i _=>n - (intOf i).toNat)
  case atStart=>exact⟨0,Nat.zero_le _,rfl,Below.refl _ _,rfl⟩
  case round =>
   obtain⟨j,hj,rfl,HBr,HT⟩:=hrel
   by_cases hlt:j<n
   ·have hlt':(j:Int)<(n:Int):=by omega
    have i0:(0:Int)≤(j:Int):=by omega
    obtain⟨x,hx⟩:∃x,xs[j]?=some x:=⟨_,List.getElem?_eq_getElem (by omega)⟩
    obtain⟨y,hy⟩:∃y,ys[j]?=some y:=⟨_,List.getElem?_eq_getElem (by omega)⟩
    obtain⟨b,o,rfl,hbl,hcl⟩:=HC.out.get (i:=j) (r:=tric x) (by simp[hx])
    obtain⟨b',o',rfl,hbl',hcl'⟩:=HD.out.get (i:=j) (r:=tric y) (by simp[hy])
    have f:∀i v,(tric x)[i]?=some v→wr.cell? ⟨b,o+j*3+i,none⟩=some v:=fun i v hv=>(HBr.out.cell (p:=⟨b,o+j*3+i,none⟩) hbl).trans (hcl i v hv)
    have f':∀i v,(tric y)[i]?=some v→wr.cell? ⟨b',o'+j*3+i,none⟩=some v:=fun i v hv=>(HBr.out.cell (p:=⟨b',o'+j*3+i,none⟩) hbl').trans (hcl' i v hv)
    have a0:=f 0 _ rfl
    have a1:=f 1 _ rfl
    have a2:=f 2 _ rfl
    have b0:=f' 0 _ rfl
    have b1:=f' 1 _ rfl
    have b2:=f' 2 _ rfl
    rw[Nat.add_zero]at a0 b0
    obtain⟨xa,xb,xn⟩:=x
    obtain⟨ya,yb,yn⟩:=y
    simp only at a0 a1 a2 b0 b1 b2
    clear f f' hcl hcl'
    have HBd:Hid (Below w.heap.size w wr.drew):=HBr.out.drew
    by_cases he:(⟨xa,xb,xn⟩:Tri)=⟨ya,yb,yn⟩
    ·cases he
     have HT2:Hid (xs.take (j+1)=ys.take (j+1)):=by show _=_;rw[List.take_add_one,List.take_add_one,hx,hy,HT.out]
     go_upto_region 6 with (fail)
     go_region
     go_wp2
     go_roundw
     case rel=>exact⟨j+1,by omega,by go_num,HBd,HT2⟩
     case measure=>simp[intOf];omega
    ·have HF:Hid (A=false):=by
      show A=false
      cases hAA:A with
      | false=>rfl
      | true=>exact(ne_at hx hy he (HA.out.1 hAA)).elim
     rcases tri_eq he with h1 | ⟨h1,h2⟩ | ⟨h1,h3,h2⟩
     ·go_upto_region 6 with (fail)
      go_region
      all_goals go_wp2
      all_goals go_ret
      all_goals exact⟨retB HF.out,HBd.out⟩
     ·subst h1
      go_upto_region 6 with (fail)
      go_region
      all_goals go_wp2
      all_goals go_ret
      all_goals exact⟨retB HF.out,HBd.out⟩
     ·subst h1
      subst h3
      go_upto_region 6 with (fail)
      go_region
      all_goals go_wp2
      all_goals go_ret
      all_goals exact⟨retB HF.out,HBd.out⟩
   ·have e1:¬(j:Int)<(n:Int):=by omega
    have HT':Hid (A=true):=HA.out.2 (by have h:=HT.out;rw[List.take_of_length_le (by omega),List.take_of_length_le (by omega)]at h;exact h)
    go_wp2
    go_ret
    exact⟨retB HT'.out,HBr.out⟩
 ·have hl':¬(n:Int)=(m:Int):=by omega
  have HF:Hid (A=false):=by
   show A=false
   cases hAA:A with
   | false=>rfl
   | true=>exact(hl (by rw[←hn,←hm,HA.out.1 hAA])).elim
  go_enter Tryz.func14,Tryz.ntmps14
  go_wp2
  go_ret
  exact⟨retB HF.out,Below.refl _ _⟩
end Go.Proofs.YtfbegfapoijbnaaGreat
