import Derived.Laws.CopyRow
import Derived.Test.YtcceejdaokoihaaGreatDoorDiskC
set_option maxRecDepth 100000
namespace Go.Proofs.YtcceejdaokoihaaGreatDoor
open Go.RowKit Go.Maps
theorem clear_row {w:World} {a:Option Addr} {n c:Nat} {xs:List Value} (h:w.ownsRow 0 92 3 (.slice a n c) n xs) (ty:TypeId) :
  ∃w',(Builtin.clear_ #[74] ty #[.slice a n c]).run Tryz.prog w=.ok (.tuple #[]) w'∧w'.ownsRow 0 92 3 (.slice a 0 c) 0 []∧w.grownBy w' (Value.slice a n c).ownBlock:=by
 rcases h.2 with ⟨h1,h2⟩ | ⟨g,cap,cur,h1,_,hg,h3,h4,h5,h6⟩
 ·cases h1
  exact⟨w,by simp[Builtin.clear_,run_underlying Tryz.underlying74],⟨rfl,Or.inl ⟨rfl,rfl⟩⟩,⟨rfl,rfl,rfl,Nat.le_refl _,fun _ _ _=>rfl⟩⟩
 ·cases h1
  by_cases h0:n=0
  ·subst h0
   exact⟨w,by simp[Builtin.clear_,run_underlying Tryz.underlying74],⟨rfl,Or.inr ⟨g,c,cur,rfl,Nat.zero_le _,hg,Nat.zero_le _,h4,h5,by simp⟩⟩,⟨rfl,rfl,rfl,Nat.le_refl _,fun _ _ _=>rfl⟩⟩
  ·obtain⟨vs,hvs⟩:∃vs,(Builtin.zeroCells (Value.agg #[.string ⟨#[]⟩,.string ⟨#[]⟩,.pointer none]).cells n).toList=vs:=⟨_,rfl⟩
   have hl:vs.length=n*3:=by rw[←hvs,Array.length_toList,size_zeroCells];rfl
   have ho:∀v∈vs,v.oneCell'=true:=by
    intro v hv
    rw[←hvs]at hv
    simp only[Builtin.zeroCells,Array.toList_map,List.mem_map]at hv
    obtain⟨j,_,rfl⟩:=hv
    have h3':j % 3=0∨j % 3=1∨j % 3=2:=by omega
    show (#[Value.string ⟨#[]⟩,.string ⟨#[]⟩,.pointer none][j % 3]!).oneCell'=true
    rcases h3' with e | e | e <;> rw[e] <;> rfl
   have hr:=run_storeCells_at (P:=Tryz.prog) g 0 92 vs 0 cur w hg (by rw[hl,h5];simp;exact Nat.mul_le_mul_right _ h3) ho
   refine⟨w.setRow g (List.take (0+0) cur.toList++vs++List.drop (0+0+vs.length) cur.toList).toArray,?_,⟨rfl,Or.inr ⟨g,c,_,rfl,Nat.zero_le _,setRow_heap w g cur _ _ _ hg,Nat.zero_le _,h4,?_,by simp⟩⟩,⟨rfl,rfl,rfl,by simp,fun k _ hk=>setRow_other w g k _ (fun e=>hk (by simp[Value.ownBlock,e]))⟩⟩
   ·simp only[Nat.zero_add,List.take_zero,List.nil_append]at hr ⊢
    have hn0:∃m,n=m+1:=⟨n - 1,by omega⟩
    obtain⟨m,rfl⟩:=hn0
    simp[Builtin.clear_,run_underlying Tryz.underlying74,hvs,Result.andThen,hr]
   ·simp[hl,h5]
    have:=Nat.mul_le_mul_right 3 h3
    omega
theorem safe_turned {w wq w2:World} {K:Knd} {o d b:Nat} {loc:Nat→Nat} {sv nv cv:Value} {S:St} {c:Chg} (h:Dm w K o d loc sv nv cv S) (hq:Below w.heap.size w wq) (hm:Mp w2 (.map (some b)) (withN (mapN loc S.safe) (lc loc c))) (hg:wq.grownBy w2 (mblk sv)) (hat:some b=mblk sv∨w.heap.size≤b) :
  Dm (w2.setCell ⟨d,1,none⟩ (.map (some b))) (ext K w.heap.size (o,2)) o d loc (.map (some b)) nv cv { S with safe:=withN S.safe c }∧Kp (fun k=>k=(o,1)∨k=(o,2)) K (ext K w.heap.size (o,2)) w (w2.setCell ⟨d,1,none⟩ (.map (some b))):=by
 have k1:=(kp_below hq (fun k=>k=(o,1)∨k=(o,2)) K (o,2)).grown hg (fun g e=>Or.inr (Or.inr (h.sf.kind g e)))
 have hdb:w2.heap[d]?=some (.cells (dcells S sv nv cv) 76 (0,0)):=(hg.block d (Nat.lt_of_lt_of_le h.lt hq.size) (h.sf.mp.ne h.blk)).trans ((hq.block d h.lt).trans h.blk)
 have k2:=k1.setCell (b:=d) (Or.inr (Or.inl h.kd)) 1 (.map (some b))
 have kk:Kp (fun k=>k=(o,2)) K (ext K w.heap.size (o,2)) w w2:=(kp_below hq (fun k=>k=(o,2)) K (o,2)).grown hg (fun g e=>Or.inr (h.sf.kind g e))
 refine⟨h.turnG k2 (fun k hk=>?_) ?_ ?_ ?_ ?_ rfl,k2⟩
 ·rcases hk with e | e
  ·exact⟨1,by omega,e⟩
  ·exact⟨2,by omega,e⟩
 ·rw[block_set hdb];rfl
 ·refine mk_set ⟨by rw[mapN_with];exact hm,fun g e=>?_⟩ hdb
  simp[mblk]at e
  subst e
  rcases hat with h1 | h1
  ·rw[ext_old K _ (h.sf.mp.lt h1.symm)];exact h.sf.kind _ h1.symm
  ·exact ext_new K _ h1
 ·exact mk_set (h.sn.kept kk (by simp)) hdb
 ·exact rk_set (h.ch.kept kk (by simp)) hdb (by decide)
theorem len_with (l:List (Nm × Nat)) (c:Chg):(withN l c).length≤l.length+1:=by
 unfold withN
 split
 ·exact Nat.le_succ_of_le (len_del _ _)
 ·unfold putN
  rw[len_ins]
  have h1:=len_del c.to (delN c.frm l)
  have h2:=len_del c.frm l
  omega
theorem len_fold (l:List (Nm × Nat)) (cs:List Chg):(cs.foldl withN l).length≤l.length+cs.length:=by
 induction cs generalizing l with
 | nil=>simp
 | cons c cs ih =>
  have h1:=ih (withN l c)
  have h2:=len_with l c
  simp only[List.foldl_cons,List.length_cons];omega
theorem chg_cells {w:World} {a:Option Addr} {n c:Nat} {loc:Nat→Nat} {l:List Chg} (h:w.ownsRow 0 92 3 (.slice a n c) n (chvs loc l)) {k:Nat} {x:Chg} (hk:l[k]?=some x) :
  ∃g,a=some ⟨g,0,none⟩∧g<w.heap.size∧w.cell? ⟨g,k*3,none⟩=some (.string ⟨x.frm.toArray⟩)∧w.cell? ⟨g,k*3+1,none⟩=some (.string ⟨x.to.toArray⟩)∧w.cell? ⟨g,k*3+2,none⟩=some (.pointer (if x.to=[] then none else some ⟨loc x.file,0,none⟩)):=by
 have hl:=h.1
 rw[chvs_len]at hl
 have hkl:=(List.getElem?_eq_some_iff.1 hk).1
 rcases h.2 with ⟨h1,h2⟩ | ⟨g,cap,cur,h1,_,hg,h3,h4,h5,h6⟩
 ·omega
 ·cases h1
  have hc:∀j,j<3→w.cell? ⟨g,k*3+j,none⟩=(chv loc x)[j]?:=fun j hj=>by
   have:=chvs_at loc l k x hk j hj
   rw[←this,←h6,List.getElem?_take,if_pos (by omega)]
   simp only[World.cell?,hg]
   rw[Nat.mul_comm]
   simp
  exact⟨g,rfl,lt_of_block hg,hc 0 (by omega),hc 1 (by omega),hc 2 (by omega)⟩
set_option maxHeartbeats 2000000 in
theorem settleNames_any (w:World) (K:Knd) (o d:Nat) (loc:Nat→Nat) (sv nv cv:Value) (S:St) (h:Dm w K o d loc sv nv cv S) (hlen:∀c∈S.chg,c.frm.length≤64∧c.to.length≤64) (hb0:S.safe.length+S.chg.length<1099511627776) :
  Calls Tryz.prog 46 #[.pointer (some ⟨d,0,none⟩)] w fun e w'=>∃sv' cv' K',e=.returned (.tuple #[])∧Dm w' K' o d loc sv' nv cv' S.settledN∧Kp (fun k=>k.1=o) K K' w w':=by
 have HD:=hide h
 have hb:=h.blk
 unfold dcells at hb
 obtain⟨q0,q1,q2,q3,q4,q5,q6,q7,q8,q9,qf⟩:=blk10 hb
 have hbl:=lt_of_block hb
 obtain⟨ca,cc,hcv,hn1,hn2⟩:=h.ch.form
 subst hcv
 have HLen:=hide hlen
 have HB0:=hide hb0
 obtain⟨n,hn⟩:∃n,S.chg.length=n:=⟨_,rfl⟩
 have HN:=hide hn
 rw[hn]at q3
 have hnb:n<1099511627776:=by omega
 clear h hb hlen hb0 hn hn1 hn2
 go_enter Tryz.func46,Tryz.ntmps46
 go_wp2
 go_loopw [9] (fun i wr=>∃(k:Nat) (sv':Value) (K':Knd),k≤n∧i=.int .i64 k∧Hid (Dm wr K' o d loc sv' nv (.slice ca n cc) { S with safe:=(S.chg.take k).foldl withN S.safe })∧Hid (Kp (fun k=>k.1=o) K K' w wr)) (fun i _=>n - (intOf i).toNat)
 case atStart =>
  refine⟨0,sv,K,Nat.zero_le _,rfl,?_,Kp.refl _ _ _⟩
  have:=HD.out
  rw[HN.out]at this
  exact this
 case round =>
  obtain⟨k,sv',K',hk,rfl,HDr,HKr⟩:=hrel
  have hbr:=HDr.out.blk
  unfold dcells at hbr
  obtain⟨t0,t1,t2,t3,t4,t5,t6,t7,t8,t9,tf⟩:=blk10 hbr
  have hbl2:=lt_of_block hbr
  clear q0 q1 q2 q3 q4 q5 q6 q7 q8 q9 qf
  by_cases hlt:k<n
  ·have hlt':(k:Int)<(n:Int):=by omega
   obtain⟨c,hc⟩:∃c,S.chg[k]?=some c:=⟨_,List.getElem?_eq_getElem (by rw[HN.out];exact hlt)⟩
   have HC:=hide hc
   have hown:=HDr.out.ch.own
   have e1:(S.chg).length=n:=HN.out
   simp only at hown
   rw[e1]at hown
   obtain⟨g,rfl,hg,c0,c1,c2⟩:=chg_cells hown hc
   have HT:Hid (S.chg.take (k+1)=S.chg.take k++[c]):=take_snoc' _ _ _ hc
   obtain⟨l1,l2⟩:=HLen.out c (List.mem_of_getElem? hc)
   have HL1:=hide l1
   have HL2:=hide l2
   obtain⟨fp,hfp⟩:∃fp:Option Addr,(if c.to=[] then none else some ⟨loc c.file,0,none⟩)=fp:=⟨_,rfl⟩
   rw[hfp]at c2
   have HFp:=hide hfp
   clear hc hown e1 l1 l2 hfp
   obtain⟨sA,hsA⟩:∃sA:ByteArray,(⟨c.frm.toArray⟩:ByteArray)=sA:=⟨_,rfl⟩
   obtain⟨sB,hsB⟩:∃sB:ByteArray,(⟨c.to.toArray⟩:ByteArray)=sB:=⟨_,rfl⟩
   rw[hsA]at c0
   rw[hsB]at c1
   have HSA:=hide hsA
   have HSB:=hide hsB
   clear hsA hsB
   go_wp2
   have hx1:Below wr.heap.size wr (wr.alloc (.cells #[.string sA,.string sB,.pointer fp] 92)):=(Below.refl _ _).alloc (Nat.le_refl _) _
   have hx2:(wr.alloc (.cells #[.string sA,.string sB,.pointer fp] 92)).heap[wr.heap.size]?=some (.cells #[.string sA,.string sB,.pointer fp] 92 (0,0)):=heap_alloc_new _ _
   have hx3:(wr.alloc (.cells #[.string sA,.string sB,.pointer fp] 92)).heap.size=wr.heap.size+1:=by simp
   generalize wr.alloc (.cells #[.string sA,.string sB,.pointer fp] 92)=wq at *
   have HX1:=hide hx1
   have HX3:=hide hx3
   have HBx:=hide hx2
   obtain⟨p0,p1,p2,pf⟩:=blk3 hx2
   have hdq:wq.heap[d]?=_:=(hx1.block d hbl2).trans hbr
   have HDq:=hide hdq
   obtain⟨y0,y1,y2,y3,y4,y5,y6,y7,y8,y9,yf⟩:=blk10 hdq
   have hd4:=lt_of_block hdq
   have hd5:=lt_of_block hx2
   have HBk:Hid (((S.chg.take k).foldl withN S.safe).length<1099511627776):=by
    show _<_
    have e1:=len_fold S.safe (S.chg.take k)
    have e2:=HB0.out
    have e4:(S.chg.take k).length≤S.chg.length:=by rw[List.length_take];omega
    omega
   have HW:=hide (with_any wq.drew sv' (mapN loc ((S.chg.take k).foldl withN S.safe)) (lc loc c) (.pointer fp) (fun hne=>by rw[←HFp.out,if_neg (show ¬c.to=[] from hne)];rfl) (HDr.out.sf.mp.same (fun b hb=>hx1.block b (HDr.out.sf.mp.lt hb))) HL1.out HL2.out (by rw[mapN_len];exact HBk.out) ⟨_,rfl⟩)
   rw[show lc loc c=⟨c.frm,c.to,loc c.file⟩ from rfl]at HW
   simp only at HW
   rw[HSA.out,HSB.out]at HW
   clear hx1 hx2 hx3 hdq hbr c0 c1 c2 t0 t1 t2 t3 t4 t5 t6 t7 t8 t9 tf
   go_region_law (first | (go_simp;go_at_call 49;refine HW.out.mono ?_;rintro e w2 ⟨b,rfl,hmp,hgr,hat⟩;have HT2:=hide (safe_turned HDr.out HX1.out.drew hmp hgr (by rcases hat with h | h;exact Or.inl h;right;have:=HX3.out;have h':wq.heap.size≤b:=h;omega));have hdb:w2.heap[d]?=_:=(hgr.block d hd4 (HDr.out.sf.mp.ne HDr.out.blk)).trans HDq.out;obtain⟨r0,r1,r2,r3,r4,r5,r6,r7,r8,r9,rf⟩:=blk10 hdb;have hd6:=lt_of_block hdb;clear hmp hgr hat hdb))
   all_goals go_wp2
   all_goals
    go_roundw
    case rel =>
     refine⟨k+1,.map (some b),_,by omega,by go_num,?_,hide (HKr.out.trans (HT2.out.2.mono (fun k hk=>by rcases hk with e | e <;> (subst e;rfl))))⟩
     have e:=HT2.out.1
     show Dm _ _ _ _ _ _ _ _ _
     rw[HT.out,List.foldl_append]
     exact e
    case measure=>simp[intOf];omega
  ·obtain rfl:k=n:=by omega
   have hown:wr.ownsRow 0 92 3 (.slice ca S.chg.length cc) S.chg.length (chvs loc S.chg):=by have:=HDr.out.ch.own;simpa[HN.out] using this
   rw[HN.out]at hown
   have HOn:=hide hown
   obtain⟨w5,hcl,ho5,hg5⟩:=clear_row hown 0
   have hcl2:∀ty,(Builtin.clear_ #[74] ty #[.slice ca k cc]).run Tryz.prog wr=.ok (.tuple #[]) w5:=fun ty=>hcl
   have hd5:w5.heap[d]?=_:=(hg5.block d hbl2 (owns_ne hown hbr (by decide))).trans hbr
   obtain⟨y0,y1,y2,y3,y4,y5,y6,y7,y8,y9,yf⟩:=blk10 hd5
   have hd6:=lt_of_block hd5
   have HO5:=hide ho5
   have HG5:=hide hg5
   have HD5:=hide hd5
   clear hcl ho5 hg5 hown hd5 hbr
   have hcz:(0:Int)≤(cc:Int):=by omega
   go_wp2
   go_end0
   have e1:S.chg.take k=S.chg:=List.take_of_length_le (by rw[HN.out];exact Nat.le_refl _)
   have HDr':=HDr.out
   rw[e1]at HDr'
   have k1:Kp (fun k=>k=(o,1)∨k=(o,4)) K' K' wr w5:=(Kp.refl _ K' wr).grown HG5.out (fun g e=>Or.inr (Or.inr (HDr'.ch.kind g e)))
   have k2:=k1.setCell (b:=d) (Or.inr (Or.inl HDr'.kd)) 3 (.slice ca 0 cc)
   have kk:Kp (fun k=>k=(o,4)) K' K' wr w5:=(Kp.refl _ K' wr).grown HG5.out (fun g e=>Or.inr (HDr'.ch.kind g e))
   refine⟨rfl,sv',.slice ca 0 cc,K',HDr'.turnG k2 (fun k hk=>?_) ?_ ?_ ?_ ?_ rfl,HKr.out.trans (k2.mono (fun k hk=>by rcases hk with e | e <;> (subst e;rfl)))⟩
   ·rcases hk with e | e
    ·exact⟨1,by omega,e⟩
    ·exact⟨4,by omega,e⟩
   ·rw[block_set HD5.out];rfl
   ·exact mk_set (HDr'.sf.kept kk (by simp)) HD5.out
   ·exact mk_set (HDr'.sn.kept kk (by simp)) HD5.out
   ·refine rk_set ⟨HO5.out,fun g e=>?_⟩ HD5.out (by decide)
    rw[own_len ca 0 k cc cc]at e
    exact HDr'.ch.kind g e
set_option maxHeartbeats 400000 in
theorem or_first (w:World) (g:Nat) (c0:w.cell? ⟨g,0,none⟩=some (.int .i64 45)) :
  Calls Tryz.prog 78 #[.slice (some ⟨g,0,none⟩) 2 2] w fun e w'=>e=.returned (.int .i64 45)∧w'=w:=by
 go_enter Tryz.func78,Tryz.ntmps78
 go_wp2
 refine wp_loop_rounds 1 ?_
 rw[rounds_succ]
 go_wp2
 go_ret
 exact⟨rfl,rfl⟩
set_option maxHeartbeats 400000 in
theorem or_second (w:World) (g:Nat) (c0:w.cell? ⟨g,0,none⟩=some (.int .i64 0)) (c1:w.cell? ⟨g,1,none⟩=some (.int .i64 44)) :
  Calls Tryz.prog 78 #[.slice (some ⟨g,0,none⟩) 2 2] w fun e w'=>e=.returned (.int .i64 44)∧w'=w:=by
 go_enter Tryz.func78,Tryz.ntmps78
 go_wp2
 refine wp_loop_rounds 2 ?_
 rw[rounds_succ]
 go_wp2
 rw[rounds_succ]
 go_wp2
 go_ret
 exact⟨rfl,rfl⟩
theorem or_any (w:World) (g a:Nat) (ha:a=0∨a=45) (c0:w.cell? ⟨g,0,none⟩=some (.int .i64 (a:Int))) (c1:w.cell? ⟨g,1,none⟩=some (.int .i64 44)) :
  Calls Tryz.prog 78 #[.slice (some ⟨g,0,none⟩) 2 2] w fun e w'=>e=.returned (.int .i64 ((if a=0 then 44 else a:Nat):Int))∧w'=w:=by
 rcases ha with rfl | rfl
 ·exact or_second w g c0 c1
 ·exact or_first w g c0
structure Inv (S:St):Prop where
 room:S.room≤16777216
 srt:Srt S.seen
 srts:Srt S.safe
 ins:∀p∈S.seen,p.2<S.files.length∧isNm p.1=true
 inf:∀p∈S.safe,p.2<S.files.length∧isNm p.1=true
 chg:∀c∈S.chg,(c.frm=[]∨isNm c.frm=true)∧(c.to=[]∨(isNm c.to=true∧c.file<S.files.length))
 nod:(S.seen.map (·.2)).Nodup
 most:S.seen.length≤64
 mosts:S.safe.length≤64
 used:S.used≤S.room
 fold:S.seen=S.chg.foldl withN S.safe
structure Sz (S:St) (k:Nat):Prop where
 st:S.strokes≤k
 pl:S.planned≤k
 ch:S.chg.length≤k
 fl:∀f∈S.files,f.ok∧f.safe.length≤16777216∧f.units.length≤k
theorem nm_len {x:Nm} (h:isNm x=true):1≤x.length∧x.length≤64:=by
 simp only[isNm,Bool.and_eq_true,decide_eq_true_eq]at h
 exact h.1
theorem Inv.lens {S:St} (h:Inv S):∀c∈S.chg,c.frm.length≤64∧c.to.length≤64:=fun c hc=>by
 obtain⟨h1,h2⟩:=h.chg c hc
 constructor
 ·rcases h1 with e | e
  ·rw[e];simp
  ·exact(nm_len e).2
 ·rcases h2 with e | e
  ·rw[e];simp
  ·exact(nm_len e.1).2
theorem St.seen_file {S:St} (h:Inv S) {x:Nm} {i:Nat} (hl:lookN S.seen x=some i):i<S.files.length:=(h.ins _ ((look_mem h.srt).1 hl)).1
theorem sum_mem_le {α:Type} (g:α→Nat):∀{l:List α} {p:α},p∈l→g p≤(l.map g).sum
 | [],_,h=>by cases h
 | q :: l,p,h=>by
  rw[List.map_cons,List.sum_cons]
  rcases List.mem_cons.1 h with rfl | h
  ·omega
  ·have:=sum_mem_le g h
   omega
theorem St.file_le {S:St} (h:Inv S) {x:Nm} {i:Nat} (hl:lookN S.seen x=some i):(S.file i).all.length≤16777216:=by
 have h1:(S.file i).all.length≤_:=sum_mem_le (fun p:Nm × Nat=>(S.file p.2).all.length) ((look_mem h.srt).1 hl)
 have h2:=h.used
 have h3:=h.room
 unfold St.used at h2
 omega
theorem kp_wr2 {b:Nat} {r:Option Nat} {w w':World} (h:Wr2 b r w w') (K:Knd) (k1 k2:Nat × Nat) (hb:K b=k1) (hr:∀g,r=some g→K g=k2):Kp (fun k=>k=k1∨k=k2) K (ext K w.heap.size k2) w w' :=
 ⟨h.os,h.tape,h.output,h.size,fun _ hb=>ext_old K k2 hb,fun c hc hn=>h.block c hc (by rintro rfl;exact hn (Or.inl hb)) (fun e=>hn (Or.inr (hr c e.symm)))⟩
theorem lies_kind {w:World} {K:Knd} {v v':Value} {k:Nat × Nat} (hl:Lies w v v') (hk:∀g,v.ownBlock=some g→K g=k) (hlt:∀g,v.ownBlock=some g→g<w.heap.size):∀g,v'.ownBlock=some g→ext K w.heap.size k g=k:=fun g hg=>by
 rcases hl with e | ⟨g',e,e2⟩
 ·rw[e]at hg;rw[ext_old K k (hlt g hg)];exact hk g hg
 ·rw[e]at hg;cases hg;exact ext_new K k e2
def Alien (K:Knd) (o:Nat) (sp:Option Addr) (xs:List Nat):Prop:=xs=[]∨∀g p,sp=some ⟨g,p,none⟩→(K g).1≠o
theorem Dm.addF {w:World} {K:Knd} {o d:Nat} {loc:Nat→Nat} {sv nv cv:Value} {S:St} (h:Dm w K o d loc sv nv cv S) {i:Nat} {f:Fil} (hf:S.files[i]?=some f) (sp:Option Addr) (m cap:Nat) (xs:List Nat) (hm:xs.length=m) (hx:Bytes w sp xs) (ha:Alien K o sp xs) (hn:f.all.length+f.units.length+m≤1099511627776) :
  Calls Tryz.prog 79 #[.pointer (some ⟨loc i,0,none⟩),.slice sp m cap] w fun e w'=>∃K',e=.returned (.tuple #[])∧Dm w' K' o d loc sv nv cv (S.turn i (f.add xs))∧Kp (fun k=>k.1=o) K K' w w':=by
 have hk:=h.fl i f hf
 obtain⟨fs,fu,h1,h2,h3⟩:=hk.fl
 refine(add_any w (loc i) fs fu f h1 sp m cap xs hm hx (ha.imp id (fun ha g p e=>⟨fun e2=>ha g p e (by rw[e2,hk.kb]),fun e2=>ha g p e (by rw[h3 g e2.symm])⟩)) hn).mono ?_
 rintro e w' ⟨fu',rfl,hfl,hw,hl⟩
 have kp:=kp_wr2 hw K (o,5+3*i) (o,7+3*i) hk.kb h3
 refine⟨_,rfl,h.turnF kp (fun k hk=>by rcases hk with e | e;exact Or.inl e;exact Or.inr (Or.inr e)) ⟨(kp.same _ hk.lt).trans hk.kb,fs,fu',hfl,fun g hg=>(kp.same g (rk_lt h1.safe hg)).trans (h2 g hg),lies_kind hl h3 (fun g hg=>rk_lt h1.unit hg)⟩,kp.mono (fun k hk=>by rcases hk with e | e <;> (subst e;rfl))⟩
theorem Dm.cutF {w:World} {K:Knd} {o d:Nat} {loc:Nat→Nat} {sv nv cv:Value} {S:St} (h:Dm w K o d loc sv nv cv S) {i:Nat} {f:Fil} (hf:S.files[i]?=some f) (n:Nat) (hle:n≤f.all.length) (hn2:f.all.length<2147483648) (hu:f.units.length<1099511627776) :
  Calls Tryz.prog 126 #[.pointer (some ⟨loc i,0,none⟩),.int .i64 (n:Int)] w fun e w'=>∃K',e=.returned (.tuple #[])∧Dm w' K' o d loc sv nv cv (S.turn i (f.cut n))∧Kp (fun k=>k.1=o) K K' w w':=by
 have hk:=h.fl i f hf
 obtain⟨fs,fu,h1,h2,h3⟩:=hk.fl
 refine(cut_any w (loc i) fs fu f h1 n hle hn2 hu).mono ?_
 rintro e w' ⟨fu',rfl,hfl,hw,hl⟩
 have kp:=kp_wr2 hw K (o,5+3*i) (o,7+3*i) hk.kb h3
 refine⟨_,rfl,h.turnF kp (fun k hk=>by rcases hk with e | e;exact Or.inl e;exact Or.inr (Or.inr e)) ⟨(kp.same _ hk.lt).trans hk.kb,fs,fu',hfl,fun g hg=>(kp.same g (rk_lt h1.safe hg)).trans (h2 g hg),lies_kind hl h3 (fun g hg=>rk_lt h1.unit hg)⟩,kp.mono (fun k hk=>by rcases hk with e | e <;> (subst e;rfl))⟩
theorem Dm.settleF {w:World} {K:Knd} {o d:Nat} {loc:Nat→Nat} {sv nv cv:Value} {S:St} (h:Dm w K o d loc sv nv cv S) {i:Nat} {f:Fil} (hf:S.files[i]?=some f) (hn:f.safe.length+f.units.length≤1099511627776) :
  Calls Tryz.prog 141 #[.pointer (some ⟨loc i,0,none⟩)] w fun e w'=>∃K',e=.returned (.tuple #[])∧Dm w' K' o d loc sv nv cv (S.turn i f.settled)∧Kp (fun k=>k.1=o) K K' w w':=by
 have hk:=h.fl i f hf
 obtain⟨fs,fu,h1,h2,h3⟩:=hk.fl
 refine(settle_any w (loc i) fs fu f h1 hn).mono ?_
 rintro e w' ⟨fs',rfl,hfl,hw,hl⟩
 have kp:=kp_wr2 hw K (o,5+3*i) (o,6+3*i) hk.kb h2
 refine⟨_,rfl,h.turnF kp (fun k hk=>by rcases hk with e | e;exact Or.inl e;exact Or.inr (Or.inl e)) ⟨(kp.same _ hk.lt).trans hk.kb,fs',_,hfl,lies_kind hl h2 (fun g hg=>rk_lt h1.safe hg),fun g hg=>by simp[Value.ownBlock]at hg⟩,kp.mono (fun k hk=>by rcases hk with e | e <;> (subst e;rfl))⟩
theorem Dm.leftF {w:World} {K:Knd} {o d:Nat} {loc:Nat→Nat} {sv nv cv:Value} {S:St} (h:Dm w K o d loc sv nv cv S) {i:Nat} {f:Fil} (hf:S.files[i]?=some f) (n:Nat) (hle:n≤f.units.length) (hn:f.safe.length+f.units.length≤1099511627776) :
  Calls Tryz.prog 51 #[.pointer (some ⟨loc i,0,none⟩),.int .i64 (n:Int)] w fun e w'=>∃a c,e=.returned (.slice a (f.left n).length c)∧w'.ownsRow w.heap.size 5 1 (.slice a (f.left n).length c) (f.left n).length (vals (f.left n))∧Below w.heap.size w w':=by
 obtain⟨fs,fu,h1,h2,h3⟩:=(h.fl i f hf).fl
 exact left_any w (loc i) fs fu f h1 n hle hn
def upd (loc:Nat→Nat) (n b:Nat):Nat→Nat:=fun i=>if i=n then b else loc i
theorem upd_same (loc:Nat→Nat) (n b:Nat):upd loc n b n=b:=by simp[upd]
theorem upd_ne (loc:Nat→Nat) {n b i:Nat} (h:i≠n):upd loc n b i=loc i:=by simp[upd,h]
theorem Dm.madeF {w w':World} {K:Knd} {o d:Nat} {loc:Nat→Nat} {sv nv cv:Value} {S:St} (h:Dm w K o d loc sv nv cv S) {f:Fil} {b:Nat} (hb:Below w.heap.size w w') (hf:Fk w' (fun c=>if c<w.heap.size then K c else if c=b then (o,5+3*S.files.length) else (o,6+3*S.files.length)) o S.files.length b f)
  (hs:∀p∈S.safe,p.2<S.files.length) (hn:∀p∈S.seen,p.2<S.files.length) (hc:∀c∈S.chg,c.to≠[]→c.file<S.files.length) :
  Dm w' (fun c=>if c<w.heap.size then K c else if c=b then (o,5+3*S.files.length) else (o,6+3*S.files.length)) o d (upd loc S.files.length b) sv nv cv (S.made f)∧Kp (fun k=>k.1=o) K (fun c=>if c<w.heap.size then K c else if c=b then (o,5+3*S.files.length) else (o,6+3*S.files.length)) w w':=by
 have kp:∀p,Kp p K (fun c=>if c<w.heap.size then K c else if c=b then (o,5+3*S.files.length) else (o,6+3*S.files.length)) w w':=fun p=>⟨hb.os,hb.tape,hb.output,hb.size,fun c hc=>by simp[hc],fun c hc _=>hb.block c hc⟩
 have hd:=h.kept (kp (fun _=>False)) (fun _ h=>h)
 refine⟨⟨hd.blk,hd.kd,?_,?_,?_,fun i g hg=>?_⟩,kp _⟩
 ·have:=hd.sf
  rw[mapN_cong (g':=upd loc S.files.length b) (fun p hp=>(upd_ne loc (by have:=hs p hp;omega)).symm)]at this
  exact this
 ·have:=hd.sn
  rw[mapN_cong (g':=upd loc S.files.length b) (fun p hp=>(upd_ne loc (by have:=hn p hp;omega)).symm)]at this
  exact this
 ·have:=hd.ch
  rw[chvs_cong (loc':=upd loc S.files.length b) (fun c hcm hne=>(upd_ne loc (by have:=hc c hcm hne;omega)).symm)]at this
  exact this
 ·have hg':(S.files++[f])[i]?=some g:=hg
  by_cases e:i<S.files.length
  ·rw[List.getElem?_append_left e]at hg'
   rw[upd_ne loc (by omega)]
   exact hd.fl i g hg'
  ·have hi:i=S.files.length:=by
    have:=(List.getElem?_eq_some_iff.1 hg').1
    simp at this;omega
   subst hi
   simp at hg'
   subst hg'
   rw[upd_same]
   exact hf
def Dk (w:World) (K:Knd) (o d:Nat) (S:St):Prop:=∃loc sv nv cv,Dm w K o d loc sv nv cv S
abbrev Ow (o:Nat):Nat × Nat→Prop:=fun k=>k.1=o
def St.cutR (S:St) (x:Nm) (n:Int):Nat × St:=if S.err x≠0 then (S.err x,S) else
 let i:=(lookN S.seen x).getD 0
 if n<0∨((S.file i).all.length:Int)<n then (43,S) else (S.power,S.stroked.turn i ((S.file i).cut n.toNat))
def St.syncR (S:St) (x:Nm):Nat × St:=if S.err x≠0 then (S.err x,S) else
 let i:=(lookN S.seen x).getD 0
 (S.power,if S.power=0 then S.stroked.turn i (S.file i).settled else S.stroked)
def St.namesR (S:St):Nat × St:=if S.off then (45,S) else (S.power,if S.power=0 then S.stroked.settledN else S.stroked)
def St.renameR (S:St) (x y:Nm):Nat × St:=if S.err x≠45∧isNm y=false then (41,S) else if S.err x≠0 then (S.err x,S) else
 let i:=(lookN S.seen x).getD 0
 (S.power,if x=y then S.stroked else S.stroked.ren ⟨x,y,i⟩)
def St.removeR (S:St) (x:Nm):Nat × St:=if S.err x≠0 then (S.err x,S) else (S.power,S.stroked.ren ⟨x,[],0⟩)
theorem err_zero {S:St} {x:Nm} (h:S.err x=0):S.off=false∧isNm x=true∧∃i,lookN S.seen x=some i:=by
 unfold St.err at h
 by_cases h1:S.off=true
 ·rw[if_pos h1]at h;cases h
 ·rw[if_neg h1]at h
  by_cases h2:isNm x=true
  ·rw[if_pos h2]at h
   cases hl:lookN S.seen x with
   | none=>rw[hl]at h;simp at h
   | some i=>exact⟨by simpa using h1,h2,i,rfl⟩
  ·rw[if_neg h2]at h;cases h
theorem err_le (S:St) (x:Nm):S.err x≤45:=by
 unfold St.err
 split
 ·omega
 ·split
  ·split <;> omega
  ·omega
theorem power_or (S:St):S.power=0∨S.power=45:=by unfold St.power;split <;> simp
theorem ptr_some {S:St} {loc:Nat→Nat} {x:Nm} {i:Nat} (h:S.err x=0) (hl:lookN S.seen x=some i):S.ptr loc x=.pointer (some ⟨loc i,0,none⟩):=by
 unfold St.ptr;rw[if_pos h,hl];rfl
set_option maxHeartbeats 1000000 in
theorem Cut_any (w:World) (K:Knd) (o d:Nat) (S:St) (h:Dk w K o d S) (hv:Inv S) (k:Nat) (hz:Sz S k) (hk:k≤549755813888) (x:Nm) (hx:x.length≤140737488355328) (n:Int) (_hn : -9223372036854775808≤n∧n≤9223372036854775807) :
  Calls Tryz.prog 84 #[.pointer (some ⟨d,0,none⟩),.string ⟨x.toArray⟩,.int .i64 n] w fun e w'=>∃K',e=.returned (.int .i64 ((S.cutR x n).1:Int))∧Dk w' K' o d (S.cutR x n).2∧Kp (Ow o) K K' w w':=by
 obtain⟨loc,sv,nv,cv,hm⟩:=h
 have HF:=hide (find_any w K o d loc sv nv cv S hm x hx)
 have HD:=hide hm
 by_cases he:S.err x=0
 ·obtain⟨_,_,i,hl⟩:=err_zero he
  have hfi:=S.seen_file hv hl
  have hfs:=St.file_some hfi
  rw[he,ptr_some he hl]at HF
  have e0:S.cutR x n=if n<0∨((S.file i).all.length:Int)<n then (43,S) else (S.power,S.stroked.turn i ((S.file i).cut n.toNat)):=by
   unfold St.cutR;rw[if_neg (by simp[he]),hl];rfl
  rw[e0]
  have hle:=S.file_le hv hl
  have hq:=hm.fl i _ hfs
  obtain⟨fs,fu,hfl,_,_⟩:=hq.fl
  obtain⟨q0,q1,q2,qf⟩:=blk3 hfl.blk
  have HSk:=hide (stroke_any w K o d loc sv nv cv S hm (by have:=hz.st;omega) (by have:=hz.pl;omega))
  have HU:=hide (hz.fl _ (List.mem_of_getElem? hfs)).2.2
  have HFs:=hide hfs
  obtain⟨N,hN⟩:∃N,(S.file i).all.length=N:=⟨_,rfl⟩
  have HN:=hide hN
  rw[hN]at q2 hle
  rw[hN]
  clear hm e0 hfs hN hq hfl hl he q0 q1
  by_cases h1:n<0
  ·rw[if_pos (Or.inl h1)]
   go_enter Tryz.func84,Tryz.ntmps84
   go_wp2_with fail
   refine HF.out.mono ?_
   rintro e w2 ⟨rfl,rfl⟩
   go_wp2
   go_ret
   exact⟨K,rfl,⟨loc,sv,nv,cv,HD.out⟩,Kp.refl _ _ _⟩
  by_cases h2:(N:Int)<n
  ·rw[if_pos (Or.inr h2)]
   go_enter Tryz.func84,Tryz.ntmps84
   go_wp2_with fail
   refine HF.out.mono ?_
   rintro e w2 ⟨rfl,rfl⟩
   go_wp2
   go_ret
   exact⟨K,rfl,⟨loc,sv,nv,cv,HD.out⟩,Kp.refl _ _ _⟩
  ·rw[if_neg (by rintro (h | h);exact h1 h;exact h2 h)]
   obtain⟨m,rfl⟩:∃m:Nat,n=(m:Int):=⟨n.toNat,by omega⟩
   have HPw:=hide (power_or S)
   simp only[Int.toNat_natCast]
   generalize S.power=pw at *
   go_enter Tryz.func84,Tryz.ntmps84
   go_wp2_with fail
   refine HF.out.mono ?_
   rintro e w2 ⟨rfl,rfl⟩
   go_wp2_with fail
   refine HSk.out.mono ?_
   rintro e w3 ⟨rfl,hd3,hk3⟩
   have HD3:=hide hd3
   have HK3:=hide hk3
   clear hd3 hk3
   go_wp2_with fail
   refine(HD3.out.cutF (f:=S.file i) HFs.out m (by rw[HN.out];omega) (by rw[HN.out];omega) (by have:=HU.out;omega)).mono ?_
   rintro e w4 ⟨K4,rfl,hd4,hk4⟩
   have HD4:=hide hd4
   have HK4:=hide hk4
   clear hd4 hk4
   go_wp2
   go_ret
   exact⟨K4,rfl,⟨loc,sv,nv,cv,HD4.out⟩,(HK3.out.mono (fun k hk=>by rw[hk])).trans HK4.out⟩
 ·have e0:S.cutR x n=(S.err x,S):=by unfold St.cutR;rw[if_pos he]
  rw[e0]
  have he':¬(S.err x:Int)=0:=by omega
  have hle:=err_le S x
  generalize S.err x=er at *
  clear e0 he hm
  go_enter Tryz.func84,Tryz.ntmps84
  go_wp2_with fail
  refine HF.out.mono ?_
  rintro e w2 ⟨rfl,rfl⟩
  go_wp2
  go_ret
  exact⟨K,rfl,⟨loc,sv,nv,cv,HD.out⟩,Kp.refl _ _ _⟩
set_option maxHeartbeats 1000000 in
theorem Sync_any (w:World) (K:Knd) (o d:Nat) (S:St) (h:Dk w K o d S) (hv:Inv S) (k:Nat) (hz:Sz S k) (hk:k≤549755813888) (x:Nm) (hx:x.length≤140737488355328) :
  Calls Tryz.prog 98 #[.pointer (some ⟨d,0,none⟩),.string ⟨x.toArray⟩] w fun e w'=>∃K',e=.returned (.int .i64 ((S.syncR x).1:Int))∧Dk w' K' o d (S.syncR x).2∧Kp (Ow o) K K' w w':=by
 obtain⟨loc,sv,nv,cv,hm⟩:=h
 have HF:=hide (find_any w K o d loc sv nv cv S hm x hx)
 have HD:=hide hm
 by_cases he:S.err x=0
 ·obtain⟨_,_,i,hl⟩:=err_zero he
  have hfi:=S.seen_file hv hl
  have hfs:=St.file_some hfi
  rw[he,ptr_some he hl]at HF
  have e0:S.syncR x=(S.power,if S.power=0 then S.stroked.turn i (S.file i).settled else S.stroked):=by
   unfold St.syncR;rw[if_neg (by simp[he]),hl];rfl
  rw[e0]
  have HSk:=hide (stroke_any w K o d loc sv nv cv S hm (by have:=hz.st;omega) (by have:=hz.pl;omega))
  have HU:=hide (hz.fl _ (List.mem_of_getElem? hfs)).2
  have HFs:=hide hfs
  have HPw:=hide (power_or S)
  clear hm e0 hfs hl he
  rcases HPw.out with hp | hp
  ·rw[hp]at HSk ⊢
   rw[if_pos rfl]
   go_enter Tryz.func98,Tryz.ntmps98
   go_wp2_with fail
   refine HF.out.mono ?_
   rintro e w2 ⟨rfl,rfl⟩
   go_wp2_with fail
   refine HSk.out.mono ?_
   rintro e w3 ⟨rfl,hd3,hk3⟩
   have HD3:=hide hd3
   have HK3:=hide hk3
   clear hd3 hk3
   go_wp2_with fail
   refine(HD3.out.settleF (f:=S.file i) HFs.out (by have:=HU.out;omega)).mono ?_
   rintro e w4 ⟨K4,rfl,hd4,hk4⟩
   have HD4:=hide hd4
   have HK4:=hide hk4
   clear hd4 hk4
   go_wp2
   go_ret
   exact⟨K4,rfl,⟨loc,sv,nv,cv,HD4.out⟩,(HK3.out.mono (fun k hk=>by rw[hk])).trans HK4.out⟩
  ·rw[hp]at HSk ⊢
   rw[if_neg (by omega)]
   go_enter Tryz.func98,Tryz.ntmps98
   go_wp2_with fail
   refine HF.out.mono ?_
   rintro e w2 ⟨rfl,rfl⟩
   go_wp2_with fail
   refine HSk.out.mono ?_
   rintro e w3 ⟨rfl,hd3,hk3⟩
   have HD3:=hide hd3
   have HK3:=hide hk3
   clear hd3 hk3
   go_wp2
   go_ret
   exact⟨K,rfl,⟨loc,sv,nv,cv,HD3.out⟩,HK3.out.mono (fun k hk=>by rw[hk])⟩
 ·have e0:S.syncR x=(S.err x,S):=by unfold St.syncR;rw[if_pos he]
  rw[e0]
  have he':¬(S.err x:Int)=0:=by omega
  have hle:=err_le S x
  generalize S.err x=er at *
  clear e0 he hm
  go_enter Tryz.func98,Tryz.ntmps98
  go_wp2_with fail
  refine HF.out.mono ?_
  rintro e w2 ⟨rfl,rfl⟩
  go_wp2
  go_ret
  exact⟨K,rfl,⟨loc,sv,nv,cv,HD.out⟩,Kp.refl _ _ _⟩
set_option maxHeartbeats 1000000 in
theorem SyncNames_any (w:World) (K:Knd) (o d:Nat) (S:St) (h:Dk w K o d S) (hv:Inv S) (k:Nat) (hz:Sz S k) (hk:k≤549755813888) :
  Calls Tryz.prog 99 #[.pointer (some ⟨d,0,none⟩)] w fun e w'=>∃K',e=.returned (.int .i64 (S.namesR.1:Int))∧Dk w' K' o d S.namesR.2∧Kp (Ow o) K K' w w':=by
 obtain⟨loc,sv,nv,cv,hm⟩:=h
 have HD:=hide hm
 have hb:=hm.blk
 unfold dcells at hb
 obtain⟨q0,q1,q2,q3,q4,q5,q6,q7,q8,q9,qf⟩:=blk10 hb
 have HSk:=hide (stroke_any w K o d loc sv nv cv S hm (by have:=hz.st;omega) (by have:=hz.pl;omega))
 have HL:=hide hv.lens
 have HB:Hid (S.safe.length+S.chg.length<1099511627776):=hide (by have:=hv.mosts;have:=hz.ch;omega)
 have HPw:=hide (power_or S)
 clear hb hm
 by_cases ho:S.off=true
 ·have e0:S.namesR=(45,S):=by unfold St.namesR;rw[if_pos ho]
  rw[e0]
  rw[ho]at q9
  clear e0
  go_enter Tryz.func99,Tryz.ntmps99
  go_wp2
  go_ret
  exact⟨K,rfl,⟨loc,sv,nv,cv,HD.out⟩,Kp.refl _ _ _⟩
 ·have e0:S.namesR=(S.power,if S.power=0 then S.stroked.settledN else S.stroked):=by unfold St.namesR;rw[if_neg ho]
  rw[e0]
  have ho':S.off=false:=by simpa using ho
  rw[ho']at q9
  clear e0 ho ho'
  rcases HPw.out with hp | hp
  ·rw[hp]at HSk ⊢
   rw[if_pos rfl]
   go_enter Tryz.func99,Tryz.ntmps99
   go_wp2_with fail
   refine HSk.out.mono ?_
   rintro e w3 ⟨rfl,hd3,hk3⟩
   have HD3:=hide hd3
   have HK3:=hide hk3
   clear hd3 hk3
   go_wp2_with fail
   refine(settleNames_any _ _ _ _ _ _ _ _ _ HD3.out HL.out HB.out).mono ?_
   rintro e w4 ⟨sv4,cv4,K4,rfl,hd4,hk4⟩
   have HD4:=hide hd4
   have HK4:=hide hk4
   clear hd4 hk4
   go_wp2
   go_ret
   exact⟨K4,rfl,⟨loc,sv4,nv,cv4,HD4.out⟩,(HK3.out.mono (fun k hk=>by rw[hk])).trans HK4.out⟩
  ·rw[hp]at HSk ⊢
   rw[if_neg (by omega)]
   go_enter Tryz.func99,Tryz.ntmps99
   go_wp2_with fail
   refine HSk.out.mono ?_
   rintro e w3 ⟨rfl,hd3,hk3⟩
   have HD3:=hide hd3
   have HK3:=hide hk3
   clear hd3 hk3
   go_wp2
   go_ret
   exact⟨K,rfl,⟨loc,sv,nv,cv,HD3.out⟩,HK3.out.mono (fun k hk=>by rw[hk])⟩
set_option maxHeartbeats 1000000 in
theorem Remove_any (w:World) (K:Knd) (o d:Nat) (S:St) (h:Dk w K o d S) (hv:Inv S) (k:Nat) (hz:Sz S k) (hk:k≤549755813888) (x:Nm) (hx:x.length≤140737488355328) :
  Calls Tryz.prog 85 #[.pointer (some ⟨d,0,none⟩),.string ⟨x.toArray⟩] w fun e w'=>∃K',e=.returned (.int .i64 ((S.removeR x).1:Int))∧Dk w' K' o d (S.removeR x).2∧Kp (Ow o) K K' w w':=by
 obtain⟨loc,sv,nv,cv,hm⟩:=h
 have HF:=hide (find_any w K o d loc sv nv cv S hm x hx)
 have HD:=hide hm
 by_cases he:S.err x=0
 ·obtain⟨_,hnm,i,hl⟩:=err_zero he
  rw[he,ptr_some he hl]at HF
  have e0:S.removeR x=(S.power,S.stroked.ren ⟨x,[],0⟩):=by
   unfold St.removeR;rw[if_neg (by simp[he])]
  rw[e0]
  have HSk:=hide (stroke_any w K o d loc sv nv cv S hm (by have:=hz.st;omega) (by have:=hz.pl;omega))
  have HPw:=hide (power_or S)
  have HNm:=hide (nm_len hnm)
  have HMo:=hide hv.most
  have HCh:=hide hz.ch
  clear hm e0 hl he
  generalize S.power=pw at *
  go_enter Tryz.func85,Tryz.ntmps85
  go_wp2_with fail
  refine HF.out.mono ?_
  rintro e w2 ⟨rfl,rfl⟩
  go_wp2_with fail
  refine HSk.out.mono ?_
  rintro e w3 ⟨rfl,hd3,hk3⟩
  have HD3:=hide hd3
  have HK3:=hide hk3
  clear hd3 hk3
  go_wp2_with fail
  refine(rename_any _ _ _ _ _ _ _ _ _ HD3.out ⟨x,[],0⟩ none rfl HNm.out.2 (by simp) (by have:=HMo.out;show S.seen.length<_;omega) (by have:=HCh.out;show S.chg.length<_;omega)).mono ?_
  rintro e w4 ⟨nv4,cv4,K4,rfl,hd4,hk4⟩
  have HD4:=hide hd4
  have HK4:=hide hk4
  clear hd4 hk4
  go_wp2
  go_ret
  exact⟨K4,rfl,⟨loc,sv,nv4,cv4,HD4.out⟩,(HK3.out.mono (fun k hk=>by rw[hk])).trans HK4.out⟩
 ·have e0:S.removeR x=(S.err x,S):=by unfold St.removeR;rw[if_pos he]
  rw[e0]
  have he':¬(S.err x:Int)=0:=by omega
  have hle:=err_le S x
  generalize S.err x=er at *
  clear e0 he hm
  go_enter Tryz.func85,Tryz.ntmps85
  go_wp2_with fail
  refine HF.out.mono ?_
  rintro e w2 ⟨rfl,rfl⟩
  go_wp2
  go_ret
  exact⟨K,rfl,⟨loc,sv,nv,cv,HD.out⟩,Kp.refl _ _ _⟩
set_option maxHeartbeats 1000000 in
theorem Rename_any (w:World) (K:Knd) (o d:Nat) (S:St) (h:Dk w K o d S) (hv:Inv S) (k:Nat) (hz:Sz S k) (hk:k≤549755813888) (x y:Nm) (hx:x.length≤140737488355328) (hy:y.length≤140737488355328) :
  Calls Tryz.prog 118 #[.pointer (some ⟨d,0,none⟩),.string ⟨x.toArray⟩,.string ⟨y.toArray⟩] w fun e w'=>∃K',e=.returned (.int .i64 ((S.renameR x y).1:Int))∧Dk w' K' o d (S.renameR x y).2∧Kp (Ow o) K K' w w':=by
 obtain⟨loc,sv,nv,cv,hm⟩:=h
 have HF:=hide (find_any w K o d loc sv nv cv S hm x hx)
 have HN:=hide (fun w=>fileName_any w y hy)
 have HD:=hide hm
 by_cases h45:S.err x=45
 ·have e0:S.renameR x y=(45,S):=by unfold St.renameR;rw[if_neg (by simp[h45]),if_pos (by omega),h45]
  rw[e0]
  rw[h45]at HF
  clear e0 h45 hm
  go_enter Tryz.func118,Tryz.ntmps118
  go_wp2_with fail
  refine HF.out.mono ?_
  rintro e w2 ⟨rfl,rfl⟩
  go_wp2
  go_ret
  exact⟨K,rfl,⟨loc,sv,nv,cv,HD.out⟩,Kp.refl _ _ _⟩
 have h45':¬(S.err x:Int)=45:=by omega
 by_cases hny:isNm y=true
 ·rw[hny]at HN
  by_cases he:S.err x=0
  ·obtain⟨_,hnm,i,hl⟩:=err_zero he
   rw[he,ptr_some he hl]at HF
   have e0:S.renameR x y=(S.power,if x=y then S.stroked else S.stroked.ren ⟨x,y,i⟩):=by
    unfold St.renameR;rw[if_neg (by simp[hny]),if_neg (by simp[he]),hl];rfl
   rw[e0]
   have HSk:=hide (stroke_any w K o d loc sv nv cv S hm (by have:=hz.st;omega) (by have:=hz.pl;omega))
   have HPw:=hide (power_or S)
   have HNm:=hide (nm_len hnm)
   have HNy:=hide (nm_len hny)
   have HMo:=hide hv.most
   have HCh:=hide hz.ch
   clear hm e0 hl he h45 h45'
   generalize S.power=pw at *
   by_cases hxy:x=y
   ·rw[if_pos hxy]
    have hse:(x == y)=true:=by simpa using hxy
    clear hxy
    go_enter Tryz.func118,Tryz.ntmps118
    go_wp2_with fail
    refine HF.out.mono ?_
    rintro e w2 ⟨rfl,rfl⟩
    go_wp2_with fail
    refine(HN.out _).mono ?_
    rintro e w2 ⟨rfl,rfl⟩
    go_wp2_with fail
    refine HSk.out.mono ?_
    rintro e w3 ⟨rfl,hd3,hk3⟩
    have HD3:=hide hd3
    have HK3:=hide hk3
    clear hd3 hk3
    go_wp2
    go_ret
    exact⟨K,rfl,⟨loc,sv,nv,cv,HD3.out⟩,HK3.out.mono (fun k hk=>by rw[hk])⟩
   ·rw[if_neg hxy]
    have hse:(x == y)=false:=by simpa using hxy
    clear hxy
    have HY:Hid (y≠[]):=hide (by rintro rfl;have:=HNy.out.1;simp at this)
    go_enter Tryz.func118,Tryz.ntmps118
    go_wp2_with fail
    refine HF.out.mono ?_
    rintro e w2 ⟨rfl,rfl⟩
    go_wp2_with fail
    refine(HN.out _).mono ?_
    rintro e w2 ⟨rfl,rfl⟩
    go_wp2_with fail
    refine HSk.out.mono ?_
    rintro e w3 ⟨rfl,hd3,hk3⟩
    have HD3:=hide hd3
    have HK3:=hide hk3
    clear hd3 hk3
    go_wp2_with fail
    refine(rename_any _ _ _ _ _ _ _ _ _ HD3.out ⟨x,y,i⟩ (some ⟨loc i,0,none⟩) (by rw[if_neg HY.out]) HNm.out.2 HNy.out.2 (by have:=HMo.out;show S.seen.length<_;omega) (by have:=HCh.out;show S.chg.length<_;omega)).mono ?_
    rintro e w4 ⟨nv4,cv4,K4,rfl,hd4,hk4⟩
    have HD4:=hide hd4
    have HK4:=hide hk4
    clear hd4 hk4
    go_wp2
    go_ret
    exact⟨K4,rfl,⟨loc,sv,nv4,cv4,HD4.out⟩,(HK3.out.mono (fun k hk=>by rw[hk])).trans HK4.out⟩
  ·have e0:S.renameR x y=(S.err x,S):=by unfold St.renameR;rw[if_neg (by simp[hny]),if_pos he]
   rw[e0]
   have he':¬(S.err x:Int)=0:=by omega
   have hle:=err_le S x
   generalize S.err x=er at *
   clear e0 he hm h45
   go_enter Tryz.func118,Tryz.ntmps118
   go_wp2_with fail
   refine HF.out.mono ?_
   rintro e w2 ⟨rfl,rfl⟩
   go_wp2_with fail
   refine(HN.out _).mono ?_
   rintro e w2 ⟨rfl,rfl⟩
   go_wp2
   go_ret
   exact⟨K,rfl,⟨loc,sv,nv,cv,HD.out⟩,Kp.refl _ _ _⟩
 ·have hny':isNm y=false:=by simpa using hny
  rw[hny']at HN
  have e0:S.renameR x y=(41,S):=by unfold St.renameR;rw[if_pos ⟨h45,hny'⟩]
  rw[e0]
  generalize S.err x=er at *
  clear e0 hm h45
  go_enter Tryz.func118,Tryz.ntmps118
  go_wp2_with fail
  refine HF.out.mono ?_
  rintro e w2 ⟨rfl,rfl⟩
  go_wp2_with fail
  refine(HN.out _).mono ?_
  rintro e w2 ⟨rfl,rfl⟩
  go_wp2
  go_ret
  exact⟨K,rfl,⟨loc,sv,nv,cv,HD.out⟩,Kp.refl _ _ _⟩
def St.appendR (S:St) (x:Nm) (b:List Nat):Nat × St :=
 if S.off then (45,S) else if isNm x=false∨(lookN S.seen x=none∧64≤S.seen.length) then (41,S) else
 if S.stroked.full b.length then (if S.power=0 then 44 else S.power,S.stroked) else
 match lookN S.seen x with
 | some i=>(S.power,S.stroked.turn i ((S.file i).add b))
 | none=>(S.power,((S.stroked.made ⟨[],[]⟩).ren ⟨[],x,S.files.length⟩).turn S.files.length ((⟨[],[]⟩:Fil).add b))
theorem used_stroked (S:St):S.stroked.used=S.used:=rfl
theorem alien_below {K K':Knd} {o:Nat} {w w':World} {p:Nat × Nat→Prop} {sp:Option Addr} {xs:List Nat} (h:Alien K o sp xs) (hk:Kp p K K' w w') (hl:xs=[]∨∀g q,sp=some ⟨g,q,none⟩→g<w.heap.size):Alien K' o sp xs:=by
 rcases hl with h0 | hl
 ·exact Or.inl h0
 ·exact h.imp id (fun h g q e=>by rw[hk.same g (hl g q e)];exact h g q e)
theorem bytes_ow {w w':World} {K K':Knd} {o:Nat} {sp:Option Addr} {xs:List Nat} (h:Bytes w sp xs) (ha:Alien K o sp xs) (hk:Kp (Ow o) K K' w w'):Bytes w' sp xs:=by
 rcases ha with h0 | ha
 ·exact⟨h.small,Or.inl h0⟩
 ·exact bytes_kept h hk.size (fun g q e hg=>hk.block g hg (ha g q e))
theorem fk_new {w:World} {K:Knd} {o i b:Nat} (hb:w.heap[b]?=some (.cells #[.slice none 0 0,.slice none 0 0,.int .i64 0] 102 (0,0))) (hk:K b=(o,5+3*i)):Fk w K o i b ⟨[],[]⟩ :=
 ⟨hk,_,_,⟨hb,⟨rfl,Or.inl ⟨rfl,rfl⟩⟩,⟨rfl,Or.inl ⟨rfl,rfl⟩⟩,⟨fun x hx=>(by cases hx),fun k u hu=>by simp at hu⟩⟩,fun g hg=>by simp[Value.ownBlock]at hg,fun g hg=>by simp[Value.ownBlock]at hg⟩
structure Ap (w:World) (K:Knd) (o d:Nat) (S:St) (sp:Option Addr) (xs:List Nat) (k:Nat):Prop where
 inv:Inv S
 sz:Sz S k
 kb:k+xs.length≤549755813888
 by_:Bytes w sp xs
 al:Alien K o sp xs
 lt:xs=[]∨∀g q,sp=some ⟨g,q,none⟩→g<w.heap.size
set_option maxHeartbeats 2000000 in
theorem Append_any (w:World) (K:Knd) (o d:Nat) (S:St) (h:Dk w K o d S) (k:Nat) (x:Nm) (hx:x.length≤140737488355328) (sp:Option Addr) (m cap:Nat) (xs:List Nat) (hxm:xs.length=m) (ha:Ap w K o d S sp xs k) :
  Calls Tryz.prog 32 #[.pointer (some ⟨d,0,none⟩),.string ⟨x.toArray⟩,.slice sp m cap] w fun e w'=>∃K',e=.returned (.int .i64 ((S.appendR x xs).1:Int))∧Dk w' K' o d (S.appendR x xs).2∧Kp (Ow o) K K' w w':=by
 obtain⟨loc,sv,nv,cv,hm⟩:=h
 have HD:=hide hm
 have HA:=hide ha
 have hb:=hm.blk
 unfold dcells at hb
 obtain⟨q0,q1,q2,q3,q4,q5,q6,q7,q8,q9,qf⟩:=blk10 hb
 have HNm:=hide (fileName_any w x hx)
 have hlen:=fun ty=>hm.sn.mp.len ty
 rw[mapN_len]at hlen
 have hlk:=hm.sn.mp.look x (by unfold maxLen;omega)
 rw[mapN_look]at hlk
 have HX:=hide hxm
 by_cases ho:S.off=true
 ·have e0:S.appendR x xs=(45,S):=by unfold St.appendR;rw[if_pos ho]
  rw[e0]
  rw[ho]at q9
  clear e0 hlk hlen hm hb
  go_enter Tryz.func32,Tryz.ntmps32
  go_wp2
  go_ret
  exact⟨K,rfl,⟨loc,sv,nv,cv,HD.out⟩,Kp.refl _ _ _⟩
 have ho':S.off=false:=by simpa using ho
 rw[ho']at q9
 by_cases hn:isNm x=true
 case neg =>
  have hn':isNm x=false:=by simpa using hn
  rw[hn']at HNm
  have e0:S.appendR x xs=(41,S):=by unfold St.appendR;rw[if_neg ho,if_pos (Or.inl hn')]
  rw[e0]
  generalize (lookN S.seen x).map loc=lo at *
  clear e0 hlen hm hb
  go_enter Tryz.func32,Tryz.ntmps32
  go_wp2_with fail
  refine HNm.out.mono ?_
  rintro e w2 ⟨rfl,rfl⟩
  go_wp2
  go_ret
  exact⟨K,rfl,⟨loc,sv,nv,cv,HD.out⟩,Kp.refl _ _ _⟩
 rw[hn]at HNm
 by_cases hfull:lookN S.seen x=none∧64≤S.seen.length
 ·have e0:S.appendR x xs=(41,S):=by unfold St.appendR;rw[if_neg ho,if_pos (Or.inr hfull)]
  rw[e0]
  obtain⟨f1,f2⟩:=hfull
  rw[f1]at hlk
  simp only[Option.map_none]at hlk
  have f2':(64:Int)≤(S.seen.length:Int):=by omega
  clear e0 hm hb
  go_enter Tryz.func32,Tryz.ntmps32
  go_wp2_with fail
  refine HNm.out.mono ?_
  rintro e w2 ⟨rfl,rfl⟩
  go_wp2
  go_ret
  exact⟨K,rfl,⟨loc,sv,nv,cv,HD.out⟩,Kp.refl _ _ _⟩
 have e0:S.appendR x xs=if S.stroked.full m then (if S.power=0 then 44 else S.power,S.stroked) else
   match lookN S.seen x with
   | some i=>(S.power,S.stroked.turn i ((S.file i).add xs))
   | none=>(S.power,((S.stroked.made ⟨[],[]⟩).ren ⟨[],x,S.files.length⟩).turn S.files.length ((⟨[],[]⟩:Fil).add xs)):=by
  unfold St.appendR;rw[if_neg ho,if_neg (by rintro (h | h);rw[hn]at h;cases h;exact hfull h),hxm]
 rw[e0]
 have HSk:=hide (stroke_any w K o d loc sv nv cv S hm (by have:=ha.sz.st;have:=ha.kb;omega) (by have:=ha.sz.pl;have:=ha.kb;omega))
 have HPw:=hide (power_or S)
 have HFu:=hide (fun (w3:World) (h3:Dm w3 K o d loc sv nv cv S.stroked)=>full_any w3 K o d loc sv nv cv S.stroked h3 m ha.inv.srt (fun p hp=>(ha.inv.ins p hp).1) (by have h1:=ha.inv.used;have h2:=ha.inv.room;have h3:=ha.kb;rw[used_stroked];omega))
 have HN2:=hide (nm_len hn)
 clear e0 hb hm
 cases hl:lookN S.seen x with
 | some i =>
  rw[hl]at hlk
  simp only[Option.map_some]at hlk
  have hfi:=St.seen_file ha.inv hl
  have HFs:=hide (St.file_some hfi)
  have HLe:=hide (St.file_le ha.inv hl)
  have HU:=hide (ha.sz.fl _ (List.mem_of_getElem? (St.file_some hfi))).2.2
  clear hfull ha hlen hl
  by_cases hfu:S.stroked.full m=true
  ·simp only[hfu]at HFu
   rw[if_pos hfu]
   generalize S.power=pw at *
   have HOr:=hide (fun (w:World) (g:Nat) c0 c1=>or_any w g pw HPw.out c0 c1)
   obtain⟨rr,hrr⟩:∃rr:Nat,(if pw=0 then 44 else pw)=rr:=⟨_,rfl⟩
   simp only[hrr]at HOr ⊢
   clear hrr
   all_goals
    go_enter Tryz.func32,Tryz.ntmps32
    go_wp2_with fail
    refine HNm.out.mono ?_
    rintro e w2 ⟨rfl,rfl⟩
    go_wp2_with fail
    refine HSk.out.mono ?_
    rintro e w3 ⟨rfl,hd3,hk3⟩
    have HD3:=hide hd3
    have HK3:=hide hk3
    clear hd3 hk3
    go_wp2_with fail
    refine(HFu.out _ HD3.out).mono ?_
    rintro e w4 ⟨rfl,hb4⟩
    have HB4:=hide hb4
    clear hb4
    go_wp2_with fail
    refine(HOr.out _ w4.heap.size (by simp) (by simp)).mono ?_
    rintro e w5 ⟨rfl,rfl⟩
    go_wp2
    go_ret
    exact⟨_,rfl,⟨loc,sv,nv,cv,HD3.out.kept (kp_below (HB4.out.alloc HB4.out.size _) (fun _=>False) K (0,0)) (fun _ h=>h)⟩,(HK3.out.mono (fun k hk=>by rw[hk])).trans ((kp_below (HB4.out.alloc HB4.out.size _) (fun _=>False) K (0,0)).mono (fun k hk=>hk.elim))⟩
  ·have hfu':S.stroked.full m=false:=by simpa using hfu
   simp only[hfu']at HFu
   rw[if_neg hfu]
   simp only
   generalize S.power=pw at *
   go_enter Tryz.func32,Tryz.ntmps32
   go_wp2_with fail
   refine HNm.out.mono ?_
   rintro e w2 ⟨rfl,rfl⟩
   go_wp2_with fail
   refine HSk.out.mono ?_
   rintro e w3 ⟨rfl,hd3,hk3⟩
   have HD3:=hide hd3
   have HK3:=hide hk3
   clear hd3 hk3
   go_wp2_with fail
   refine(HFu.out _ HD3.out).mono ?_
   rintro e w4 ⟨rfl,hb4⟩
   have HB4:=hide hb4
   clear hb4
   have HK4:=hide (kp_below HB4.out (fun _=>False) K (0,0))
   have HD4:=hide (HD3.out.kept HK4.out (fun _ h=>h))
   have HKa:=hide ((HK3.out.mono (q:=Ow o) (fun k hk=>by rw[hk])).trans (HK4.out.mono (fun k hk=>hk.elim)))
   go_wp2_with fail
   refine(HD4.out.addF (f:=S.file i) HFs.out sp m cap xs HX.out (bytes_ow HA.out.by_ HA.out.al HKa.out) (alien_below HA.out.al HKa.out HA.out.lt) (by have:=HLe.out;have:=HU.out;have:=HA.out.kb;have:=HX.out;omega)).mono ?_
   rintro e w5 ⟨K5,rfl,hd5,hk5⟩
   have HD5:=hide hd5
   have HK5:=hide hk5
   clear hd5 hk5
   go_wp2
   go_ret
   exact⟨K5,rfl,⟨loc,sv,nv,cv,HD5.out⟩,HKa.out.trans HK5.out⟩
 | none =>
  rw[hl]at hlk
  simp only[Option.map_none]at hlk
  have hm64:¬(64:Int)≤(S.seen.length:Int):=by intro h;exact hfull ⟨hl,by omega⟩
  clear hfull ha hl
  have HXn:Hid (x≠[]):=hide (by rintro rfl;have:=HN2.out.1;simp at this)
  by_cases hfu:S.stroked.full m=true
  ·simp only[hfu]at HFu
   rw[if_pos hfu]
   generalize S.power=pw at *
   have HOr:=hide (fun (w:World) (g:Nat) c0 c1=>or_any w g pw HPw.out c0 c1)
   obtain⟨rr,hrr⟩:∃rr:Nat,(if pw=0 then 44 else pw)=rr:=⟨_,rfl⟩
   simp only[hrr]at HOr ⊢
   clear hrr
   all_goals
    go_enter Tryz.func32,Tryz.ntmps32
    go_wp2_with fail
    refine HNm.out.mono ?_
    rintro e w2 ⟨rfl,rfl⟩
    go_wp2_with fail
    refine HSk.out.mono ?_
    rintro e w3 ⟨rfl,hd3,hk3⟩
    have HD3:=hide hd3
    have HK3:=hide hk3
    clear hd3 hk3
    go_wp2_with fail
    refine(HFu.out _ HD3.out).mono ?_
    rintro e w4 ⟨rfl,hb4⟩
    have HB4:=hide hb4
    clear hb4
    go_wp2_with fail
    refine(HOr.out _ w4.heap.size (by simp) (by simp)).mono ?_
    rintro e w5 ⟨rfl,rfl⟩
    go_wp2
    go_ret
    exact⟨_,rfl,⟨loc,sv,nv,cv,HD3.out.kept (kp_below (HB4.out.alloc HB4.out.size _) (fun _=>False) K (0,0)) (fun _ h=>h)⟩,(HK3.out.mono (fun k hk=>by rw[hk])).trans ((kp_below (HB4.out.alloc HB4.out.size _) (fun _=>False) K (0,0)).mono (fun k hk=>hk.elim))⟩
  ·have hfu':S.stroked.full m=false:=by simpa using hfu
   simp only[hfu']at HFu
   rw[if_neg hfu]
   simp only
   generalize S.power=pw at *
   go_enter Tryz.func32,Tryz.ntmps32
   go_wp2_with fail
   refine HNm.out.mono ?_
   rintro e w2 ⟨rfl,rfl⟩
   go_wp2_with fail
   refine HSk.out.mono ?_
   rintro e w3 ⟨rfl,hd3,hk3⟩
   have HD3:=hide hd3
   have HK3:=hide hk3
   clear hd3 hk3
   go_wp2_with fail
   refine(HFu.out _ HD3.out).mono ?_
   rintro e w4 ⟨rfl,hb4⟩
   have HB4:=hide hb4
   clear hb4
   have HK4:=hide (kp_below HB4.out (fun _=>False) K (0,0))
   have HD4:=hide (HD3.out.kept HK4.out (fun _ h=>h))
   have HKa:=hide ((HK3.out.mono (q:=Ow o) (fun k hk=>by rw[hk])).trans (HK4.out.mono (fun k hk=>hk.elim)))
   have HMd:=hide (HD4.out.madeF (f:=⟨[],[]⟩) (b:=w4.heap.size) (w':=w4.alloc (.cells #[.slice none 0 0,.slice none 0 0,.int .i64 0] 102)) ((Below.refl _ _).alloc (Nat.le_refl _) _) (fk_new (heap_alloc_new _ _) (by simp)) (fun p hp=>(HA.out.inv.inf p hp).1) (fun p hp=>(HA.out.inv.ins p hp).1) (fun c hc hne=>by
    rcases (HA.out.inv.chg c hc).2 with e | e
    ·exact absurd e hne
    ·exact e.2))
   have HKb:=hide (HKa.out.trans HMd.out.2)
   go_wp2_with fail
   refine(rename_any _ _ _ _ _ _ _ _ _ HMd.out.1 ⟨[],x,S.files.length⟩ (some ⟨w4.heap.size,0,none⟩) (by rw[if_neg HXn.out];simp only;rw[show S.files.length=S.stroked.files.length from rfl,upd_same]) (by simp) HN2.out.2 (by have:=HA.out.inv.most;show S.seen.length<_;omega) (by have:=HA.out.sz.ch;have:=HA.out.kb;show S.chg.length<_;omega)).mono ?_
   rintro e w5 ⟨nv5,cv5,K5,rfl,hd5,hk5⟩
   have HD5:=hide hd5
   have HKc:=hide (HKb.out.trans hk5)
   clear hd5 hk5
   have HFn:Hid (((S.stroked.made ⟨[],[]⟩).ren ⟨[],x,S.files.length⟩).files[S.files.length]?=some ⟨[],[]⟩):=by
    show (S.files++[_])[S.files.length]?=_
    simp
   have HAd:=hide (HD5.out.addF (f:=⟨[],[]⟩) HFn.out sp m cap xs HX.out (bytes_ow HA.out.by_ HA.out.al HKc.out) (alien_below HA.out.al HKc.out HA.out.lt) (by have:=HA.out.kb;have:=HX.out;simp[Fil.all,carryL];omega))
   rw[show upd loc S.stroked.files.length w4.heap.size S.files.length=w4.heap.size from upd_same _ _ _]at HAd
   go_wp2_with fail
   refine HAd.out.mono ?_
   rintro e w6 ⟨K6,rfl,hd6,hk6⟩
   have HD6:=hide hd6
   have HK6:=hide hk6
   clear hd6 hk6
   go_wp2
   go_ret
   exact⟨K6,rfl,⟨_,sv,nv5,cv5,HD6.out⟩,HKc.out.trans HK6.out⟩
def St.new (r:Nat):St:=⟨r,0,0,0,0,0,false,[],[],[],[]⟩
def newK (K:Knd) (b:Nat) (k:Nat × Nat):Knd:=fun c=>if c=b then k else K c
set_option maxHeartbeats 400000 in
theorem New_ok (w:World) (r:Nat) (hr:r≤16777216) :
  Calls Tryz.prog 11 #[.int .i64 (r:Int)] w fun e w'=>e=.returned (.tuple #[.pointer (some ⟨w.heap.size,0,none⟩),.int .i64 0])∧w'=w.alloc (.cells (dcells (St.new r) (.map none) (.map none) (.slice none 0 0)) 76):=by
 have h1:¬(r:Int)<0:=by omega
 have h2:¬16777216<(r:Int):=by omega
 go_enter Tryz.func11,Tryz.ntmps11
 go_wp2
 go_ret2
 exact⟨rfl,rfl⟩
theorem new_dk (w:World) (K:Knd) (o r:Nat):Dk (w.alloc (.cells (dcells (St.new r) (.map none) (.map none) (.slice none 0 0)) 76)) (newK K w.heap.size (o,1)) o w.heap.size (St.new r) :=
 ⟨fun _=>0,.map none,.map none,.slice none 0 0,⟨heap_alloc_new _ _,by simp[newK],⟨Or.inl ⟨rfl,rfl⟩,fun b hb=>by simp[mblk]at hb⟩,⟨Or.inl ⟨rfl,rfl⟩,fun b hb=>by simp[mblk]at hb⟩,rk_nil _ _ _ _ _,fun i f hf=>by simp[St.new]at hf⟩⟩
theorem new_inv {r:Nat} (hr:r≤16777216):Inv (St.new r) :=
 ⟨hr,List.Pairwise.nil,List.Pairwise.nil,fun _ h=>by simp[St.new]at h,fun _ h=>by simp[St.new]at h,fun _ h=>by simp[St.new]at h,List.nodup_nil,Nat.zero_le _,Nat.zero_le _,Nat.zero_le _,rfl⟩
theorem new_sz (r:Nat):Sz (St.new r) 0:=⟨Nat.le_refl _,Nat.le_refl _,Nat.le_refl _,fun _ h=>by simp[St.new]at h⟩
theorem Strokes_any (w:World) (K:Knd) (o d:Nat) (S:St) (h:Dk w K o d S):Calls Tryz.prog 16 #[.pointer (some ⟨d,0,none⟩)] w fun e w'=>e=.returned (.int .i64 (S.strokes:Int))∧w'=w:=by
 obtain⟨loc,sv,nv,cv,hm⟩:=h
 have hb:=hm.blk
 unfold dcells at hb
 obtain⟨q0,q1,q2,q3,q4,q5,q6,q7,q8,q9,qf⟩:=blk10 hb
 clear hm hb
 go_enter Tryz.func16,Tryz.ntmps16
 go_wp2
 go_ret
 exact⟨rfl,rfl⟩
def St.names (S:St):List Nm:=if S.off then [] else S.seen.map (·.1)
def St.offE (S:St):Nat:=if S.off then 45 else 0
theorem List_any (w:World) (K:Knd) (o d:Nat) (S:St) (h:Dk w K o d S) (hv:Inv S) :
  Calls Tryz.prog 67 #[.pointer (some ⟨d,0,none⟩)] w fun e w'=>∃a c,e=.returned (.tuple #[.slice a S.names.length c,.int .i64 (S.offE:Int)])∧w'.ownsRow w.heap.size 9 1 (.slice a S.names.length c) S.names.length (strs S.names)∧Below w.heap.size w w':=by
 obtain⟨loc,sv,nv,cv,hm⟩:=h
 have hb:=hm.blk
 unfold dcells at hb
 obtain⟨q0,q1,q2,q3,q4,q5,q6,q7,q8,q9,qf⟩:=blk10 hb
 by_cases ho:S.off=true
 ·have e1:S.names=[]:=by unfold St.names;rw[if_pos ho]
  have e2:S.offE=45:=by unfold St.offE;rw[if_pos ho]
  rw[e1,e2]
  rw[ho]at q9
  clear hm hb e1 e2
  go_enter Tryz.func67,Tryz.ntmps67
  go_wp2
  go_ret2
  exact⟨none,0,rfl,⟨rfl,Or.inl ⟨rfl,rfl⟩⟩,Below.refl _ _⟩
 ·have e1:S.names=S.seen.map (·.1):=by unfold St.names;rw[if_neg ho]
  have e2:S.offE=0:=by unfold St.offE;rw[if_neg ho]
  have HS:=hide (sorted_any w nv (mapN loc S.seen) hm.sn.mp (by unfold mapN Srt;exact List.pairwise_map.2 hv.srt) (by rw[mapN_len];have:=hv.most;omega))
  have e3:(mapN loc S.seen).map (·.1)=S.seen.map (·.1):=by unfold mapN;simp
  rw[e3,mapN_len]at HS
  rw[e1,e2,List.length_map]
  have ho':S.off=false:=by simpa using ho
  rw[ho']at q9
  clear hm hb e1 e2 e3
  go_enter Tryz.func67,Tryz.ntmps67
  go_wp2_with fail
  refine HS.out.mono ?_
  rintro e w2 ⟨a,c,rfl,hr,hb⟩
  go_wp2
  go_ret2
  exact⟨a,c,rfl,hr,hb⟩
def St.bytes (S:St) (x:Nm):List Nat:=if S.err x=0 then (S.file ((lookN S.seen x).getD 0)).all else []
set_option maxHeartbeats 400000 in
theorem Read_any (w:World) (K:Knd) (o d:Nat) (S:St) (h:Dk w K o d S) (hv:Inv S) (k:Nat) (hz:Sz S k) (hk:k≤549755813888) (x:Nm) (hx:x.length≤140737488355328) :
  Calls Tryz.prog 39 #[.pointer (some ⟨d,0,none⟩),.string ⟨x.toArray⟩] w fun e w'=>∃a c,e=.returned (.tuple #[.slice a (S.bytes x).length c,.int .i64 (S.err x:Int)])∧w'.ownsRow w.heap.size 5 1 (.slice a (S.bytes x).length c) (S.bytes x).length (vals (S.bytes x))∧Below w.heap.size w w':=by
 obtain⟨loc,sv,nv,cv,hm⟩:=h
 have HF:=hide (find_any w K o d loc sv nv cv S hm x hx)
 by_cases he:S.err x=0
 ·obtain⟨_,_,i,hl⟩:=err_zero he
  have hfs:=St.file_some (S.seen_file hv hl)
  have e1:S.bytes x=(S.file i).all:=by unfold St.bytes;rw[if_pos he,hl];rfl
  rw[he,ptr_some he hl]at HF
  rw[he,e1]
  have hU:=(hz.fl _ (List.mem_of_getElem? hfs)).2
  have HL:=hide (hm.leftF hfs (S.file i).units.length (Nat.le_refl _) (by omega))
  have e2:(S.file i).left (S.file i).units.length=(S.file i).all:=by unfold Fil.left Fil.all;rw[List.take_of_length_le (Nat.le_refl _)]
  rw[e2]at HL
  obtain⟨fs,fu,hfl,_,_⟩:=(hm.fl i _ hfs).fl
  obtain⟨q0,q1,q2,qf⟩:=blk3 hfl.blk
  obtain⟨ua,uc,hua,_,_⟩:=owns_form hfl.unit
  subst hua
  have hub:(S.file i).units.length≤1099511627776:=by omega
  generalize (S.file i).units.length=U at *
  generalize (S.file i).all=A at *
  clear hm he hl e1 e2 hfs hfl hU q0 q2
  go_enter Tryz.func39,Tryz.ntmps39
  go_wp2_with fail
  refine HF.out.mono ?_
  rintro e w2 ⟨rfl,rfl⟩
  go_wp2_with fail
  refine HL.out.mono ?_
  rintro e w3 ⟨a,c,rfl,hr,hb⟩
  go_wp2
  go_ret2
  exact⟨a,c,rfl,hr,hb⟩
 ·have e1:S.bytes x=[]:=by unfold St.bytes;rw[if_neg he]
  rw[e1]
  have he':¬(S.err x:Int)=0:=by omega
  have hle:=err_le S x
  generalize S.err x=er at *
  clear he hm e1
  go_enter Tryz.func39,Tryz.ntmps39
  go_wp2_with fail
  refine HF.out.mono ?_
  rintro e w2 ⟨rfl,rfl⟩
  go_wp2
  go_ret2
  exact⟨none,0,rfl,⟨rfl,Or.inl ⟨rfl,rfl⟩⟩,Below.refl _ _⟩
set_option maxHeartbeats 400000 in
theorem Size_any (w:World) (K:Knd) (o d:Nat) (S:St) (h:Dk w K o d S) (hv:Inv S) (x:Nm) (hx:x.length≤140737488355328) :
  Calls Tryz.prog 86 #[.pointer (some ⟨d,0,none⟩),.string ⟨x.toArray⟩] w fun e w'=>e=.returned (.tuple #[.int .i64 ((S.bytes x).length:Int),.int .i64 (S.err x:Int)])∧w'=w:=by
 obtain⟨loc,sv,nv,cv,hm⟩:=h
 have HF:=hide (find_any w K o d loc sv nv cv S hm x hx)
 by_cases he:S.err x=0
 ·obtain⟨_,_,i,hl⟩:=err_zero he
  have hfs:=St.file_some (S.seen_file hv hl)
  have e1:S.bytes x=(S.file i).all:=by unfold St.bytes;rw[if_pos he,hl];rfl
  rw[he,ptr_some he hl]at HF
  rw[he,e1]
  obtain⟨fs,fu,hfl,_,_⟩:=(hm.fl i _ hfs).fl
  obtain⟨q0,q1,q2,qf⟩:=blk3 hfl.blk
  generalize (S.file i).all.length=A at *
  clear hm he hl e1 hfs hfl
  go_enter Tryz.func86,Tryz.ntmps86
  go_wp2_with fail
  refine HF.out.mono ?_
  rintro e w2 ⟨rfl,rfl⟩
  go_wp2
  go_ret2
  exact⟨rfl,rfl⟩
 ·have e1:S.bytes x=[]:=by unfold St.bytes;rw[if_neg he]
  rw[e1]
  have he':¬(S.err x:Int)=0:=by omega
  have hle:=err_le S x
  generalize S.err x=er at *
  clear he hm e1
  go_enter Tryz.func86,Tryz.ntmps86
  go_wp2_with fail
  refine HF.out.mono ?_
  rintro e w2 ⟨rfl,rfl⟩
  go_wp2
  go_ret2
  exact⟨rfl,rfl⟩
def St.planR (S:St) (a b c:Int):St:=if S.off then S else { S with pOff:=a,pFrom:=b,pTo:=c,planned:=0 }
set_option maxHeartbeats 400000 in
theorem Plan_any (w:World) (K:Knd) (o d:Nat) (S:St) (h:Dk w K o d S) (a b c:Int) :
  Calls Tryz.prog 29 #[.pointer (some ⟨d,0,none⟩),.agg #[.int .i64 a,.int .i64 b,.int .i64 c]] w fun e w'=>∃K',e=.returned (.tuple #[])∧Dk w' K' o d (S.planR a b c)∧Kp (Ow o) K K' w w':=by
 obtain⟨loc,sv,nv,cv,hm⟩:=h
 have HD:=hide hm
 have hb:=hm.blk
 unfold dcells at hb
 have HB:=hide hb
 obtain⟨q0,q1,q2,q3,q4,q5,q6,q7,q8,q9,qf⟩:=blk10 hb
 have hbl:=lt_of_block hb
 have n1:¬d=w.heap.size:=by omega
 have n2:¬w.heap.size=d:=by omega
 have HKd:=hide hm.kd
 by_cases ho:S.off=true
 ·have e1:S.planR a b c=S:=by unfold St.planR;rw[if_pos ho]
  rw[e1]
  rw[ho]at q9
  clear hm hb e1
  go_enter Tryz.func29,Tryz.ntmps29
  go_wp2
  go_end0
  have kb:=kp_below (w:=w) (w':=w.alloc (.cells #[.int .i64 a,.int .i64 b,.int .i64 c] 34)) ((Below.refl _ _).alloc (Nat.le_refl _) _) (fun _=>False) K (0,0)
  exact⟨_,rfl,⟨loc,sv,nv,cv,HD.out.kept kb (fun _ h=>h)⟩,kb.mono (fun k hk=>hk.elim)⟩
 ·have e1:S.planR a b c={ S with pOff:=a,pFrom:=b,pTo:=c,planned:=0 }:=by unfold St.planR;rw[if_neg ho]
  rw[e1]
  have ho':S.off=false:=by simpa using ho
  rw[ho']at q9
  clear hm hb e1
  go_enter Tryz.func29,Tryz.ntmps29
  go_wp2
  go_end0
  have hp1:w.heap.size≤d∨Own1 o (K d):=Or.inr HKd.out
  have k3:=((((((Kp.refl (Own1 o) K w).setCell hp1 5 (.int .i64 a)).setCell hp1 6 (.int .i64 b)).setCell hp1 7 (.int .i64 c)).setCell hp1 8 (.int .i64 0))).alloc (.cells #[.int .i64 a,.int .i64 b,.int .i64 c] 34)
  refine⟨K,rfl,⟨loc,sv,nv,cv,HD.out.turnD k3 ?_ rfl rfl rfl rfl⟩,k3.mono (fun k hk=>by rw[hk])⟩
  rw[Below.heap_alloc _ _ _ (by simp[World.setCell];exact hbl),block_set (block_set (block_set (block_set HB.out _) _) _) _]
  rfl
end Go.Proofs.YtcceejdaokoihaaGreatDoor
