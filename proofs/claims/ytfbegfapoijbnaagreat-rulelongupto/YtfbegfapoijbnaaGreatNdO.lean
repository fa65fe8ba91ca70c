import Derived.Test.YtfbegfapoijbnaaGreatNdQ
set_option maxRecDepth 100000
namespace Go.Proofs.YtfbegfapoijbnaaGreat
open Go.RowKit Go.Shelf
attribute [local go_sem] Oper.semAt_some
set_option maxHeartbeats 4000000 in
theorem needs_any (w:World) (p:Option Addr) (len cap:Nat) (xs:List Lin) (hlen:xs.length=len) (hreach:len≤1099511627776) (hxs:∀x∈xs,LinWf x) (hL:Lins w.heap.size w p xs) :
  Calls Tryz.prog 15 #[.slice p len cap] w fun e w'=>∃v,e=.returned v∧w'.ownsRow w.heap.size 53 3 v (needT xs).length (rcells (needT xs))∧Below w.heap.size w w':=by
 have hxc:∀x∈xs,(Lit.int .i64 x.c).wf=true:=fun x hx=>(hxs x hx).1
 have hmx:Tryz.prog.follows .mixedOrders=true:=by kernel_rfl
 refine(callsIn_wide (n:=9)).1 ?_
 have hmm:=@run_makeMap Tryz.prog
 have h9:1≤9:=by omega
 refine callsIn_of_wp_marks Tryz.func15 rfl trivial ?_ rfl
 simp only[Tryz.ntmps15,List.size_toArray,List.length_cons,List.length_nil,Nat.reduceAdd,Nat.reduceSub,Array.replicate_succ,Array.replicate_zero,List.push_toArray,List.append_toArray,List.nil_append,List.cons_append]
 gi_wp2_with (refine⟨trivial,?_⟩;gi_at_call 37;refine(each_in 8 p len cap _).mono ?_;rintro e w' ⟨rfl,rfl⟩)
 have hm0:=World.ownsMap_made w Tryz.prog 104 (plainElem (H:=Unit) Tryz.prog 2)
 have bS:=(Boxed.new (w.alloc (.map #[] 0)) 109 (.map (some w.heap.size))).alloc (.cells #[.slice p len cap] 29)
 have bN:=Boxed.new ((w.alloc (.map #[] 0)).alloc (.cells #[.map (some w.heap.size)] 109)) 29 (.slice p len cap)
 simp only[World.size_alloc]at bS bN
 have hB0:Below w.heap.size w (((w.alloc (.map #[] 0)).alloc (.cells #[.map (some w.heap.size)] 109)).alloc (.cells #[.slice p len cap] 29)):=(((Below.refl _ w).alloc (Nat.le_refl _) _).alloc (by simp) _).alloc (by simp;omega) _
 refine wpIn_rangeFunc_ownH rfl h9 (gf:=64) (lb:=#[.pointer (some ⟨w.heap.size+1+1,0,none⟩)]) rfl trivial (enters_of Tryz.func64 (by kernel_rfl) rfl)
  (each_stops 8 (by omega) (w.heap.size+1+1) w.heap.size p len cap xs hlen (by omega) hxs hxc _ (by simp) (by simp;omega) bN.cell (hL.below hB0)) belowK_t (belowK_b (by simp;omega)) (Below.refl _ _) (fun _=>rfl)
  (fun pre W=>(Boxed W (w.heap.size+1) 109 (.map (some w.heap.size))∧W.ownsMap Tryz.prog 104 (plainElem (H:=Unit) Tryz.prog 2) w.heap.size pre.length (tallyR pre))∧Below w.heap.size w W)
  (fun _ _ _=>False)
  (OwnFrom.and (fun s A B row hs hg hr=>⟨Own.from (boxed_own _ _ (fun _=>_)) _ s A B row hs.1 hg hr,hs.2.kept hg (fun e=>by have:=(hr _ e.symm).1;simp at this;omega)⟩) (ownFrom_below (Nat.le_refl _) (by simp;omega)))
  (fun _ _ _ _ _ hs _ _=>hs)
  ⟨⟨bS,(hm0.alloc _).alloc _⟩,hB0⟩
  (fun x a' W=>∃Bx,W.heap[Bx]?=some (.cells #[.int .i64 x.1.a,.int .i64 x.1.b] 104 (0,0))∧a'={ tmps:=#[.slice p len cap,undef,.slice none 0 0,.pointer (some ⟨w.heap.size+1,0,none⟩),.pointer (some ⟨Bx,0,none⟩),.int .i64 x.1.n,undef,undef,undef,.map (some w.heap.size),.slice p len cap,.func (.func 64) #[] #[.pointer (some ⟨w.heap.size+1+1,0,none⟩)],kv (keyT x.1),.int .i64 x.1.n,undef,undef,undef,undef,undef,undef,undef,undef,undef,undef,undef,undef,undef,undef,undef,undef,undef,undef,undef,undef,undef,undef,undef,undef,undef,undef,undef,undef],defers:=[] })
  (fun x a' s X Y row hs hg hr=>by obtain⟨Bx,h1,h2⟩:=hs;exact⟨Bx,Own.from (cells_own Bx _ _ _) _ s X Y row h1 hg hr,h2⟩) ?assign ?body ?done ?stop
 case assign =>
  rintro l pre x W K ⟨⟨hv,hown⟩,hB⟩ hK
  simp only[encR,kv,keyT]
  gi_wp2
  exact hK _ _ ((KeepsOthers.alloc _ _).from _) ((Below.refl _ W).alloc hB.size _) ⟨⟨hv.alloc _,hown.alloc _⟩,hB.alloc hB.size _⟩ ⟨W.heap.size,heap_alloc_new _ _,rfl⟩
 case body =>
  rintro l pre x a' W hl ⟨r,hr⟩ ⟨⟨hv,hown⟩,hB⟩ ⟨Bx,hbx,rfl⟩ hlt
  have hc:=hv.cell
  obtain⟨e0,e1⟩:=ac2 hbx
  have hpl:pre.length<maxLen:=by unfold maxLen;omega
  obtain⟨c,hlook,hat,hwc⟩:=(World.ownsMap.drew hown).lookup_int kind_keyed Tryz.underlying109 Tryz.underlying2 (Tryz.zeroValue2 _) (kind_mk x.k)
  obtain⟨v0,st,w1,hent,hst⟩:=owns_entry (World.ownsMap.drew hown) hpl x.k
  have hlook1:=owns_entry_look (World.ownsMap.drew hown) hpl x.k hlook hent
  obtain⟨w2,hsto,hown2,hg2⟩:=hst (wrap64 (c+x.1.n)) (wrap64_wf _)
  simp only[R64.k,kv,keyT]at hlook hent hlook1
  rw[←wrap_eq]at hsto
  have hg3:=grown_of_drew hg2
  have hb1:w.heap.size<(((w.alloc (.map #[] 0)).alloc (.cells #[.map (some w.heap.size)] 109)).alloc (.cells #[.slice p len cap] 29)).heap.size:=by simp;omega
  have HF:Hid (KeepsFrom (((w.alloc (.map #[] 0)).alloc (.cells #[.map (some w.heap.size)] 109)).alloc (.cells #[.slice p len cap] 29)).heap.size W w2∧Below w.heap.size W w2∧(Boxed w2 (w.heap.size+1) 109 (.map (some w.heap.size))∧w2.ownsMap Tryz.prog 104 (plainElem (H:=Unit) Tryz.prog 2) w.heap.size (pre++[x]).length (tallyR (pre++[x])))∧Below w.heap.size w w2):=by
   refine⟨KeepsFrom.of_grownBy hg3 (fun j e=>by cases e;exact hb1),(Below.refl _ W).grown hg3 hB.size (fun k e=>by cases e;exact Nat.le_refl _),⟨hv.kept hg3 (fun e=>by simp at e),?_⟩,hB.grown hg3 hB.size (fun k e=>by cases e;exact Nat.le_refl _)⟩
   rw[tallyR_snoc,List.length_append,bumpD]
   rw[show klit (R64.k x).1=klit (keyT x.1) from rfl]at hat hown2
   rw[hat]
   exact hown2
  clear hst hown2 hg2 hg3 hat hb1
  gi_wp2
  gi_region_with_o (fail)
  all_goals exact HF.out
 case done =>
  rintro D ys W hD hys ⟨⟨hv,hown⟩,hB⟩ hK
  have hc:=hv.cell
  have hsl:Maps.size (tallyR ys:DataW Unit)≤len:=by have:=hown.size_le;rw[hys,rsOf_len,hlen]at this;rw[hys];exact this
  have hWw:w.heap.size<W.heap.size:=hown.lt
  have bK:=Boxed.new W 109 (.map (some w.heap.size))
  have HSt:=hide (sortedFunc_in 8 (by omega) 68 #[.pointer (some ⟨W.heap.size,0,none⟩)] (enters_of Tryz.func68 (by kernel_rfl) rfl) (fun x=>Maps.has (tallyR ys:DataW Unit) (klit x.1)=true) (fun _=>True) (Maps.size (tallyR ys:DataW Unit)) (by unfold maxLen;omega) (by omega) (W.alloc (.cells #[.map (some w.heap.size)] 109))
   (keys_stops 5 (by omega) W.heap.size w.heap.size ys.length (tallyR ys) _ (by simp) bK.cell (hown.alloc _)))
  gi_wp2_with (first | (refine⟨trivial,?_⟩;gi_at_call 39;refine(keys_in 8 _ _).mono ?_;rintro e w' ⟨rfl,rfl⟩) | (refine⟨trivial,?_⟩;gi_at_call 38;refine HSt.out.mono ?_;rintro e w5 ⟨v,ss,rfl,hss,hmem,hsn,hrow,hb5⟩;obtain⟨vp,vc,rfl⟩:∃a c,v=.slice a ss.length c:=slice_form hrow))
  have hDw:D<W.heap.size:=ac_lt hK
  have HN0:Hid (Nst w w5 D ys ss (.slice vp ss.length vc) (.slice none 0 0) 0):=by
   have hbW:Below W.heap.size W w5:=((Below.refl _ W).alloc (Nat.le_refl _) _).trans (hb5.mono (by simp))
   have hsz:w.heap.size≤(W.alloc (.cells #[.map (some w.heap.size)] 109)).heap.size:=by simp;omega
   refine⟨World.ownsRow_nil _ _ _ _,owns_mono hrow hsz,?_,?_,(hbW.block D hDw).trans hK,hB.trans (hbW.mono (by omega))⟩
   ·obtain⟨es,ck,h1,h2⟩:=hown
    exact⟨es,ck,(hbW.block _ hWw).trans h1,h2⟩
   ·exact(hbW.block _ hv.lt).trans hv
  have HR:=hide (relD_all (H:=Unit) kinj ys)
  have HS:=hide hss
  have HM:=hide hmem
  have hsl2:ss.length≤1099511627776:=by omega
  have HY:=hide hys
  have HDn:Hid (w.heap.size≤D):=by show _≤_;simp at hD;omega
  clear hrow hb5 hown hv hK hc bK HSt hB hss hmem hys hsl hsn hL hxs hD
  obtain⟨i0,hi,hz0,hz1,hz2⟩:=info_parts right_info
  gi_loopw [6,25] (fun nv i wr=>∃j:Nat,j≤ss.length∧i=.int .i64 j∧Hid (Nst w wr D ys ss (.slice vp ss.length vc) nv j)) (fun _ i _=>ss.length - (intOf i).toNat)
  case atStart=>exact⟨0,Nat.zero_le _,rfl,HN0⟩
  case round =>
   obtain⟨j,hj,rfl,HN⟩:=hrel
   obtain⟨na,nc,rfl⟩:=slice_form HN.out.row
   by_cases hlt:j<ss.length
   ·have hlt':(j:Int)<(ss.length:Int):=by omega
    have i0':(0:Int)≤(j:Int):=by omega
    obtain⟨x,hx⟩:∃x,ss[j]?=some x:=⟨_,List.getElem?_eq_getElem hlt⟩
    obtain⟨g0,g1⟩:=kcells_get ss j x hx
    obtain⟨gb,rfl,hgl,k0⟩:=row_cell HN.out.keys g0
    obtain⟨gb',e',_,k1⟩:=row_cell HN.out.keys g1
    simp only[Option.some.injEq,Addr.mk.injEq,and_true]at e'
    subst e'
    obtain⟨w6,hw6⟩:∃w6,wr.alloc (.cells #[.int .i64 x.1.1,.int .i64 x.1.2] 104)=w6:=⟨_,rfl⟩
    have hN6:Nst w w6 D ys ss (.slice (some ⟨gb,0,none⟩) ss.length vc) (.slice na j nc) j:=by rw[←hw6];exact HN.out.alloc _
    have c0:w6.cell? ⟨wr.heap.size,0,none⟩=some (.int .i64 x.1.1):=by rw[←hw6];simp
    have c1:w6.cell? ⟨wr.heap.size,1,none⟩=some (.int .i64 x.1.2):=by rw[←hw6];simp
    have cb:=hN6.box.cell
    obtain⟨c,hlook,hat,_⟩:=hN6.map.lookup_int kind_keyed Tryz.underlying109 Tryz.underlying2 (Tryz.zeroValue2 _) (kind_mk x)
    obtain⟨c',hlookd,hat',_⟩:=hN6.drew.map.lookup_int kind_keyed Tryz.underlying109 Tryz.underlying2 (Tryz.zeroValue2 _) (kind_mk x)
    obtain rfl:c'=c:=by rw[hat]at hat';simpa using hat'.symm
    rw[HR.out.at_ x]at hat
    simp only[DataW.lit.injEq,Lit.int.injEq,true_and]at hat
    simp only[kv]at hlook hlookd
    have HT:Hid (rcells ((rtsOf ys ss).take j)++[.int .i64 x.1.1,.int .i64 x.1.2,.int .i64 c']=rcells ((rtsOf ys ss).take (j+1))):=by
     show _=_
     rw[rts_take hx,rcells_snoc,hat]
     rfl
    have HN6:=hide hN6
    have HB6:Hid (w6.heap[wr.heap.size]?=some (.cells #[.int .i64 x.1.1,.int .i64 x.1.2] 104 (0,0))):=by show _=_;rw[←hw6];exact heap_alloc_new _ _
    have HW6:=hide hw6
    clear hN6 g0 g1 hw6 hat hat' hx
    gi_wp2
    rw[HW6.out]
    refine wpIn_normal (wpIn_wide.2 ?_)
    go_region_held3 (fun w'=>w'.cell? ⟨wr.heap.size,0,none⟩=some (.int .i64 x.1.1)∧w'.cell? ⟨wr.heap.size,1,none⟩=some (.int .i64 x.1.2)∧w'.cell? ⟨w.heap.size+1,0,none⟩=some (.map (some w.heap.size))) (go_keep) (first | (refine step_append_lies _ (by rfl) (.tmp 29) (.tmp 38) 54 (by rfl) w.heap.size 53 i0 (.agg #[.int .i64 0,.int .i64 0,.int .i64 0]) 3 24 Tryz.underlying54 hi hz0 hz1 hz2 rfl (by omega) (.slice na j nc) j (rcells ((rtsOf ys ss).take j)) (by rfl) (by first | exact(HN6.out.alloc _).row | exact(HN6.out.alloc _).drew.row) ⟨w6.heap.size,0,none⟩ 1 1 [.int .i64 x.1.1,.int .i64 x.1.2,.int .i64 c'] (by rfl) rfl (World.news_of_block (heap_alloc_new w6 (.cells #[.int .i64 x.1.1,.int .i64 x.1.2,.int .i64 c'] 53))) (by simp[Value.oneCell']) (by omega) (by unfold maxLen;omega) (by omega) (by have:=(HN6.out.alloc (.cells #[] 0)).below.size;simp at this ⊢;omega) _ rfl ?_;intro g' cap' w7 hown7 hgrow7 hat7 hlt7;have hk7:w7.heap[wr.heap.size]?=_:=(hgrow7.block wr.heap.size (by have:=ac_lt HB6.out;simp;omega) (owns_apart HN6.out.row HB6.out (by decide))).trans ((Below.heap_alloc _ _ _ (ac_lt HB6.out)).trans HB6.out);obtain⟨z0,z1⟩:=ac2 hk7;have hx7:w7.heap[w.heap.size+1]?=_:=(hgrow7.block (w.heap.size+1) (by have:=HN6.out.box.lt;simp;omega) (owns_apart HN6.out.row HN6.out.box (by decide))).trans ((Below.heap_alloc _ _ _ HN6.out.box.lt).trans HN6.out.box);have z2:=Boxed.cell hx7;clear hk7 hx7;have HO7:=hide hown7;have HG7:=hide hgrow7;clear hown7 hgrow7 hat7 hlt7) | fail)
    dsimp only[NQ]
    have HN7:Hid (Nst w w7 D ys ss (.slice (some ⟨gb,0,none⟩) ss.length vc) (.slice (some ⟨g',0,none⟩) (j+1) cap') (j+1)):=by
     refine(HN6.out.alloc _).drew.step ?_ HG7.out
     rw[←HT.out]
     exact HO7.out
    clear z0 z1 z2
    gi_wp2
    go_roundw
    case rel=>exact⟨j+1,by omega,by go_num,HN7⟩
    case measure=>simp[intOf];omega
   ·have e1:¬(j:Int)<(ss.length:Int):=by omega
    obtain rfl:j=ss.length:=by omega
    have HE:=hide (rts_all HS.out HM.out)
    gi_wp2
    refine⟨by simp,.inl ⟨_,_,rfl,run_takeDeferred HN.out.dfr,?_⟩⟩
    refine⟨_,results_tmp rfl _ _ _,_,rfl,?_,HN.out.below.trans (belowK_b (w:=w) (Nat.le_refl _) wr D _ _ HDn.out HN.out.dfr rfl rfl)⟩
    have hrow:=HN.out.row
    have hlen':(rtsOf ys ss).length=ss.length:=by simp[rtsOf]
    rw[List.take_of_length_le (by rw[hlen'];exact Nat.le_refl _),←hlen',HE.out,HY.out,putsR_of]at hrow
    have h2:=ownsRow_putObj hrow (.deferred none) HN.out.dfr rfl
    have hnl:(needT xs).length=ss.length:=by rw[←hlen',HE.out,HY.out,putsR_of]
    rw[hnl]at h2 ⊢
    exact h2
 case stop =>
  rintro D c pre W _ _ h _
  exact h.elim
end Go.Proofs.YtfbegfapoijbnaaGreat
