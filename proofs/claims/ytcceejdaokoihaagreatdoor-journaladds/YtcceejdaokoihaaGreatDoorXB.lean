import Derived.Test.YtcceejdaokoihaaGreatDoorDocLa
import Derived.Test.YtcceejdaokoihaaGreatDoorJRead
set_option maxRecDepth 100000
namespace Go.Proofs.YtcceejdaokoihaaGreatDoor
open Go.RowKit Go.Maps
theorem Tm.madeS {w w1:World} {K:Knd} {o d:Nat} {fv sv cv:Value} {fs:List (Value × Value)} {S:St} (h:Tm w K o d fv sv cv fs S) {xs:List Nat} {bv:Value} (hbv:Rk w K (o,10+2*S.files.length) 5 1 bv xs.length (vals xs)) {u:Obj} {g' cap':Nat}
  (ho:w1.ownsRow 0 141 2 (.slice (some ⟨g',0,none⟩) (S.files.length+1) cap') (S.files.length+1) (fvs fs++[bv,.slice none 0 0])) (hg:(w.alloc u).grownBy w1 fv.ownBlock) (hat:fv.ownBlock=some g'∨g'=(w.alloc u).heap.size) :
  Tm (w1.setCell ⟨d,2,none⟩ (.slice (some ⟨g',0,none⟩) (S.files.length+1) cap')) (ext K w.heap.size (o,2)) o d (.slice (some ⟨g',0,none⟩) (S.files.length+1) cap') sv cv (fs++[(bv,.slice none 0 0)]) (S.made ⟨xs,[]⟩)∧Kp (Ow o) K (ext K w.heap.size (o,2)) w (w1.setCell ⟨d,2,none⟩ (.slice (some ⟨g',0,none⟩) (S.files.length+1) cap')):=by
 have hdl:=lt_of_block h.blk
 have k1:=kp_row h.files hg
 have hd1:w1.heap[d]?=_:=(k1.block d hdl (by rw[h.kd];exact snd_ne (by omega))).trans h.blk
 have hkd:ext K w.heap.size (o,2) d=(o,1):=(ext_old K _ hdl).trans h.kd
 have k2:Kp (fun q=>q=(o,1)) (ext K w.heap.size (o,2)) (ext K w.heap.size (o,2)) w1 (w1.setCell ⟨d,2,none⟩ (.slice (some ⟨g',0,none⟩) (S.files.length+1) cap')):=(Kp.refl (fun q=>q=(o,1)) (ext K w.heap.size (o,2)) w1).setCell (b:=d) (Or.inr hkd) _ _
 have kk:=(k1.mono (q:=fun q=>q=(o,2)∨q=(o,1)) (fun _ e=>Or.inl e)).trans (k2.mono (fun _ e=>Or.inr e))
 have efl:(S.made ⟨xs,[]⟩).files.length=S.files.length+1:=by simp[St.made]
 refine⟨⟨?_,hkd,by rw[efl];simp[h.flen],?_,fun i f p h1 h2=>?_,h.sure.kept kk (by simp),h.chgs.kept kk (by simp),h.real⟩,kk.mono (fun k e=>by rcases e with e | e <;> rw[e])⟩
 ·rw[block_set hd1]
  rfl
 ·have hr:=rk_grew h.files ho hat
  have e2:fvs (fs++[(bv,.slice none 0 0)])=fvs fs++[bv,.slice none 0 0]:=by simp[fvs]
  rw[efl,e2]
  exact hr.kept k2 (by simp)
 ·have h1':(S.files++[⟨xs,[]⟩])[i]?=some f:=h1
  by_cases hi:i<S.files.length
  ·rw[List.getElem?_append_left hi]at h1'
   rw[List.getElem?_append_left (by rw[h.flen];exact hi)]at h2
   exact⟨(h.file i f p h1' h2).1.kept kk (by simp;omega),(h.file i f p h1' h2).2.kept kk (by simp;omega)⟩
  ·rw[List.getElem?_append_right (by omega)]at h1'
   rw[List.getElem?_append_right (by rw[h.flen];omega)]at h2
   have e0:i - S.files.length=0:=by
    cases hq:i - S.files.length with
    | zero=>rfl
    | succ m=>rw[hq]at h1';simp at h1'
   have ei:i=S.files.length:=by omega
   rw[e0]at h1'
   rw[h.flen,e0]at h2
   simp at h1' h2
   subst h1' h2
   rw[ei]
   exact⟨hbv.kept kk (by simp;omega),⟨⟨rfl,Or.inl ⟨rfl,rfl⟩⟩,fun g e=>by simp[Value.ownBlock]at e⟩⟩
theorem Tm.sured {w w1:World} {K:Knd} {o d:Nat} {fv sv cv:Value} {fs:List (Value × Value)} {S:St} (h:Tm w K o d fv sv cv fs S) {x:Nm} {i:Nat} {l:List (Nm × Nat)} {u:Obj} {g' cap':Nat}
  (ho:w1.ownsRow 0 183 2 (.slice (some ⟨g',0,none⟩) (S.safe.length+1) cap') (S.safe.length+1) (nvs S.safe++[.string ⟨x.toArray⟩,.int .i64 (i:Int)])) (hg:(w.alloc u).grownBy w1 sv.ownBlock) (hat:sv.ownBlock=some g'∨g'=(w.alloc u).heap.size) :
  Tm (w1.setCell ⟨d,3,none⟩ (.slice (some ⟨g',0,none⟩) (S.safe.length+1) cap')) (ext K w.heap.size (o,3)) o d fv (.slice (some ⟨g',0,none⟩) (S.safe.length+1) cap') cv fs { S with safe:=S.safe++[(x,i)],seen:=l }∧Kp (Ow o) K (ext K w.heap.size (o,3)) w (w1.setCell ⟨d,3,none⟩ (.slice (some ⟨g',0,none⟩) (S.safe.length+1) cap')):=by
 have hdl:=lt_of_block h.blk
 have k1:=kp_row h.sure hg
 have hd1:w1.heap[d]?=_:=(k1.block d hdl (by rw[h.kd];exact snd_ne (by omega))).trans h.blk
 have hkd:ext K w.heap.size (o,3) d=(o,1):=(ext_old K _ hdl).trans h.kd
 have k2:Kp (fun q=>q=(o,1)) (ext K w.heap.size (o,3)) (ext K w.heap.size (o,3)) w1 (w1.setCell ⟨d,3,none⟩ (.slice (some ⟨g',0,none⟩) (S.safe.length+1) cap')):=(Kp.refl (fun q=>q=(o,1)) (ext K w.heap.size (o,3)) w1).setCell (b:=d) (Or.inr hkd) _ _
 have kk:=(k1.mono (q:=fun q=>q=(o,3)∨q=(o,1)) (fun _ e=>Or.inl e)).trans (k2.mono (fun _ e=>Or.inr e))
 refine⟨⟨?_,hkd,h.flen,h.files.kept kk (by simp),fun i f p h1 h2=>⟨(h.file i f p h1 h2).1.kept kk (by simp;omega),(h.file i f p h1 h2).2.kept kk (by simp;omega)⟩,?_,h.chgs.kept kk (by simp),h.real⟩,kk.mono (fun k e=>by rcases e with e | e <;> rw[e])⟩
 ·rw[block_set hd1]
  rfl
 ·have hr:=rk_grew h.sure ho hat
  have e:(S.safe++[(x,i)]).length=S.safe.length+1:=by simp
  have e2:nvs (S.safe++[(x,i)])=nvs S.safe++[.string ⟨x.toArray⟩,.int .i64 (i:Int)]:=by rw[nvs_app];rfl
  show Rk _ _ _ _ _ _ (S.safe++[(x,i)]).length (nvs (S.safe++[(x,i)]))
  rw[e,e2]
  exact hr.kept k2 (by simp)
theorem laid_next (r:Nat) (l:Image) (p:Nm × List Nat):({ (St.laid r l).made ⟨p.2,[]⟩ with safe:=(St.laid r l).safe++[(p.1,l.length)],seen:=imgN (l++[p]) } : St)=St.laid r (l++[p]):=by
 unfold St.laid St.made
 simp only[imgN_snoc,List.map_append,List.map_cons,List.map_nil]
theorem laid_lens (r:Nat) (l:Image):(St.laid r l).files.length=l.length∧(St.laid r l).safe.length=l.length:=by
 unfold St.laid imgN
 simp
set_option maxHeartbeats 4000000 in
theorem tload_any (w:World) (K:Knd) (o:Nat) (ho:o≠0) (v:Value) (img:Image) (r:Nat) (h:Im w K v img) (hr:r≤16777216) (hok:okB img r=true) :
  Calls Tryz.prog 74 #[v,.int .i64 (r:Int)] w fun e w'=>∃d K',e=.returned (.tuple #[.pointer (some ⟨d,0,none⟩),.int .i64 0])∧Tk w' K' o d (St.laid r img)∧Kp (Ow o) K K' w w':=by
 obtain⟨i0,hi,hz0,hz1,hz2⟩:=info_parts Tryz.infoTf
 obtain⟨i1,hi1,hy0,hy1,hy2⟩:=info_parts Tryz.infoNm
 obtain⟨a,c,rfl,hle,hmx⟩:=h.form
 unfold maxLen at hmx
 simp only[okB,Bool.and_eq_true,decide_eq_true_eq]at hok
 obtain⟨⟨h64,hch⟩,hsum⟩:=hok
 have HI:=hide h
 have HCh:=hide (chn_srt [] img hch)
 obtain⟨n,hn⟩:∃n,img.length=n:=⟨_,rfl⟩
 have HN:=hide hn
 rw[hn]at hle h64 HI
 rw[hn]
 have HNew:=hide (tnew_any w K o r hr)
 have HSum:=hide hsum
 clear h hn hch hsum
 go_enter Tryz.func74,Tryz.ntmps74
 go_wp2_with fail
 refine HNew.out.mono ?_
 rintro e w1 ⟨d,rfl,ht1,hb1⟩
 have HT1:=hide ht1
 have HK1:=hide (kp_below hb1 (Ow o) K (o,1))
 have HI1:=hide (HI.out.kept (kp_below hb1 (Ow o) K (o,1)) (fun e=>ho e.symm))
 generalize ext K w.heap.size (o,1)=K1 at *
 clear ht1 hb1 HNew
 go_wp2
 go_loopw [8,9] (fun t i wr=>∃(j s:Nat),j≤n∧i=.int .i64 (j:Int)∧t=.int .i64 (s:Int)∧s≤j*1099511627776∧Hid (s=sumI (img.take j))∧Hid (∃q,wr=w1.drewN q)) (fun _ i _=>n - (intOf i).toNat)
 case atStart=>exact⟨0,0,Nat.zero_le _,rfl,rfl,Nat.zero_le _,rfl,hide ⟨0,rfl⟩⟩
 case round =>
  obtain⟨j,s,hj,rfl,rfl,hs,HS,HQ⟩:=hrel
  by_cases hlt:j<n
  ·have j1:(0:Int)≤(j:Int):=by omega
   have j2:(j:Int)<(n:Int):=by omega
   obtain⟨p,hp⟩:∃p,img[j]?=some p:=⟨_,List.getElem?_eq_getElem (by rw[HN.out];exact hlt)⟩
   have hpm:=List.mem_of_getElem? hp
   have HIr:Hid (Im wr K1 (.slice a n c) img):=by
    obtain⟨q,rfl⟩:=HQ.out
    exact HI1.out.kept ((Kp.refl (fun _=>False) K1 w1).drewN q) (fun h=>h)
   have hsm:=(HIr.out.small p hpm).2
   obtain⟨g,ap,cp,ha,hg,c0,c1,_,_⟩:=HIr.out.at hp
   subst ha
   have hnm:=(HCh.out.1 p hpm).2
   have HNm:=hide (fun w=>isName_any w p.1)
   rw[hnm]at HNm
   have HTk:=hide (take_snoc' img j p hp)
   have HS2:Hid (sumI (img.take (j+1))=s+p.2.length):=by show _=_;rw[HTk.out,sumI_snoc,HS.out]
   obtain⟨pl,hpl⟩:∃pl,p.2.length=pl:=⟨_,rfl⟩
   rw[hpl]at c1 HS2 hsm
   have hs2:s+pl≤(j+1)*1099511627776:=by rw[Nat.add_mul];omega
   by_cases h0:0<j
   ·obtain⟨p',hp'⟩:∃p',img[j - 1]?=some p':=⟨_,List.getElem?_eq_getElem (by rw[HN.out];omega)⟩
    obtain⟨g2,ap2,cp2,ha2,_,d0,_,_,_⟩:=HIr.out.at hp'
    cases ha2
    have hbf:bytesBefore p'.1 p.1=true:=by
     have:=(List.pairwise_iff_getElem.1 HCh.out.2) (j - 1) j (by rw[HN.out];omega) (by rw[HN.out];omega) (by omega)
     rw[List.getElem?_eq_some_iff]at hp hp'
     obtain⟨_,e1⟩:=hp
     obtain⟨_,e2⟩:=hp'
     rw[e1,e2]at this
     exact this
    have hge1:(Op.bytesLess (⟨p.1.toArray⟩:ByteArray).toList (⟨p'.1.toArray⟩:ByteArray).toList || (⟨p.1.toArray⟩:ByteArray).toList == (⟨p'.1.toArray⟩:ByteArray).toList)=false:=by
     rw[ByteArray.toList_eq,ByteArray.toList_eq]
     have:=leq_eq p.1 p'.1
     rw[hbf]at this
     exact this
    have hge2:Op.bytesLess (⟨p'.1.toArray⟩:ByteArray).toList (⟨p.1.toArray⟩:ByteArray).toList=true:=by
     rw[less_eq,ByteArray.toList_eq,ByteArray.toList_eq]
     exact hbf
    have hj0:(0:Int)<(j:Int):=by omega
    have hjd:decide ((0:Int)<(j:Int))=true:=decide_eq_true hj0
    obtain⟨j',hj'⟩:∃j',j - 1=j':=⟨_,rfl⟩
    have hj2:(j:Int) - 1=(j':Int):=by omega
    have k1:(0:Int)≤(j':Int):=by omega
    have k2:(j':Int)<(n:Int):=by omega
    rw[hj']at d0
    generalize hs1:(⟨p.1.toArray⟩:ByteArray)=s1 at *
    generalize hs3:(⟨p'.1.toArray⟩:ByteArray)=s3 at *
    clear hp hp' hpm hnm hbf hs1 hs3 hpl HTk
    go_wp2
    go_quiet ((go_at_call 120;exact Calls.quiet_of_same (HNm.out _)))
    go_wp2
    go_roundw
    case rel=>exact⟨j+1,s+pl,by omega,by go_num,by go_num,hs2,hide (by rw[HS2.out]),by obtain⟨q,hq⟩:=HQ.out;exact hide ⟨q+nq,by rw[hq,World.drewN_drewN]⟩⟩
    case measure=>simp[intOf];omega
   ·have hj0:¬(0:Int)<(j:Int):=by omega
    have hjd:decide ((0:Int)<(j:Int))=false:=decide_eq_false hj0
    generalize hs1:(⟨p.1.toArray⟩:ByteArray)=s1 at *
    clear hp hpm hnm hs1 hpl HTk
    go_wp2
    go_quiet ((go_at_call 120;exact Calls.quiet_of_same (HNm.out _)))
    go_wp2
    go_roundw
    case rel=>exact⟨j+1,s+pl,by omega,by go_num,by go_num,hs2,hide (by rw[HS2.out]),by obtain⟨q,hq⟩:=HQ.out;exact hide ⟨q+nq,by rw[hq,World.drewN_drewN]⟩⟩
    case measure=>simp[intOf];omega
  ·have j2:¬(j:Int)<(n:Int):=by omega
   have hsl:s≤r:=by
    have e:=HS.out
    rw[List.take_of_length_le (by rw[HN.out];omega)]at e
    rw[e]
    exact HSum.out
   have hs3:¬(r:Int)<(s:Int):=by omega
   have h65:¬(64:Int)<(n:Int):=by omega
   have HIr:Hid (Im wr K1 (.slice a n c) img):=by
    obtain⟨q,rfl⟩:=HQ.out
    exact HI1.out.kept ((Kp.refl (fun _=>False) K1 w1).drewN q) (fun h=>h)
   have HTr:Hid (Tk wr K1 o d (St.laid r [])):=by
    obtain⟨q,rfl⟩:=HQ.out
    exact HT1.out.kept ((Kp.refl (fun _=>False) K1 w1).drewN q) (fun _ h=>h)
   have HKr:Hid (Kp (Ow o) K K1 w wr):=by
    obtain⟨q,rfl⟩:=HQ.out
    exact HK1.out.trans ((Kp.refl (Ow o) K1 w1).drewN q)
   clear HQ HS hsl HT1 HK1 HI1 HSum
   generalize wr=wa at *
   go_wp2
   go_loopw [10] (fun i w2=>∃(m:Nat),m≤n∧i=.int .i64 (m:Int)∧Hid (∃K2,Tk w2 K2 o d (St.laid r (img.take m))∧Kp (Ow o) K1 K2 wa w2)) (fun i _=>n - (intOf i).toNat)
   case atStart=>exact⟨0,Nat.zero_le _,rfl,hide ⟨K1,HTr.out,Kp.refl _ _ _⟩⟩
   case round =>
    obtain⟨m,hm,rfl,HTK⟩:=hrel
    obtain⟨K2,ht2,hk2⟩:=HTK.out
    by_cases hlt:m<n
    ·have m1:(0:Int)≤(m:Int):=by omega
     have m2:(m:Int)<(n:Int):=by omega
     obtain⟨p,hp⟩:∃p,img[m]?=some p:=⟨_,List.getElem?_eq_getElem (by rw[HN.out];exact hlt)⟩
     have HIq:=hide (HIr.out.kept hk2 (fun e=>ho e.symm))
     have hsm:=HIq.out.small p (List.mem_of_getElem? hp)
     have HSm:=hide hsm.1
     obtain⟨g,ap,cp,ha,hg,c0,c1,hby,hrp⟩:=HIq.out.at hp
     cases ha
     have hgk:K2 g=(0,0):=by
      obtain⟨ds,d1,d2,d3⟩:=HIq.out.row
      exact d2.kind g rfl
     have HTk:=hide (take_snoc' img m p hp)
     have htl:(img.take m).length=m:=by rw[List.length_take,HN.out];omega
     have hll:=laid_lens r (img.take m)
     rw[htl]at hll
     have HLn:=hide (laid_next r (img.take m) p)
     rw[←HTk.out,htl]at HLn
     obtain⟨S,hS⟩:∃S,St.laid r (img.take m)=S:=⟨_,rfl⟩
     rw[hS]at ht2 hll HLn
     obtain⟨fv,sv,cv,fs,htm⟩:=ht2
     obtain⟨a2,c2,rfl,_,_⟩:=htm.files.form
     obtain⟨a3,c3,rfl,_,_⟩:=htm.sure.form
     have hbl:=htm.blk
     unfold tcells at hbl
     obtain⟨q0,q1,q2,q3,q4,q5,q6,q7,q8,q9,qf⟩:=blk10 hbl
     have hdl:=lt_of_block hbl
     have HM:=hide htm
     have HBl:=hide hbl
     have HFo:=hide htm.files.own
     have HLl:=hide hll
     rw[hll.1]at q2
     rw[hll.2]at q3
     obtain⟨pl,hpl⟩:∃pl,p.2.length=pl:=⟨_,rfl⟩
     have hpl2:=hsm.2
     rw[hpl]at c1 hpl2
     have HPl:=hide hpl
     have HC:=hide (copy_any wr.drew ap pl cp p.2 hpl ⟨hby.small,hby.lie⟩ (by omega))
     have HK2:=hide hk2
     have HNe:Hid (some d≠(Value.slice a2 S.files.length c2).ownBlock):=owns_ne HFo.out HBl.out (by decide)
     rw[hll.1]at HFo HNe
     clear hp hsm hby hrp hS htm hbl hpl hll hk2 HTK
     go_wp2
     go_region_law (first | (go_simp;go_at_call 33;refine HC.out.mono ?_;rintro e w3 ⟨a4,c4,rfl,ho3,hb3⟩;have HO3:=hide ho3;have HB3:Hid (Below wr.heap.size wr w3):=⟨hb3.os,hb3.tape,hb3.output,hb3.size,hb3.block⟩;have hfb:w3.heap[d]?=_:=(HB3.out.block d hdl).trans HBl.out;obtain⟨z0,z1,z2,z3,z4,z5,z6,z7,z8,z9,zf⟩:=blk10 hfb;rw[HLl.out.1]at z2;have hd3:=lt_of_block hfb;have hs3:wr.heap.size≤w3.heap.size:=HB3.out.size;have HF3:Hid (w3.ownsRow 0 141 2 (.slice a2 m c2) m (fvs fs)):=owns_same HFo.out (fun g e=>HB3.out.block g (rk_lt HFo.out e));have HD3:=hide hfb;clear ho3 hb3 hfb) | (refine step_append_lies _ (by rfl) (.tmp 76) (.tmp 84) 108 (by rfl) 0 141 i0 _ 2 48 Tryz.underlying108 hi hz0 hz1 hz2 rfl (by omega) (.slice a2 m c2) m (fvs fs) (by rfl) (HF3.out.alloc _) ⟨w3.heap.size,0,none⟩ 1 1 [.slice a4 pl c4,.slice none 0 0] (by rfl) rfl (World.news_of_block (heap_alloc_new w3 (.cells #[.slice a4 pl c4,.slice none 0 0] 141))) (by simp[Value.oneCell']) (by omega) (by unfold maxLen;omega) (by omega) (by omega) _ rfl ?_;intro g' cap' w4 ho4 hg4 hat4 hlt4;have HO4:=hide ho4;have HG4:=hide hg4;have HA4:=hide hat4;have hdb:w4.heap[d]?=_:=(hg4.block d (by simp;omega) HNe.out).trans ((Below.heap_alloc _ _ _ hd3).trans HD3.out);obtain⟨y0,y1,y2,y3,y4,y5,y6,y7,y8,y9,yf⟩:=blk10 hdb;have hd4:=lt_of_block hdb;clear hdb ho4 hg4 hat4))
     all_goals
      have hrk:Rk w3 (ext K2 wr.heap.size (o,10+2*S.files.length)) (o,10+2*S.files.length) 5 1 (.slice a4 p.2.length c4) p.2.length (vals p.2):=by
       rw[HPl.out]
       exact⟨⟨HO3.out.1,HO3.out.2.imp id fun ⟨g,cap,cur,e1,_,r⟩=>⟨g,cap,cur,e1,Nat.zero_le _,r⟩⟩,fun _ e=>ext_new _ _ (C.owns_bs HO3.out e)⟩
      have ht3:=HM.out.kept (kp_below HB3.out (fun _=>False) K2 (o,10+2*S.files.length)) (fun _ h=>h)
      have hk3:=kp_below HB3.out (Ow o) K2 (o,10+2*S.files.length)
      generalize ext K2 wr.heap.size (o,10+2*S.files.length)=K3 at *
      have hres:=ht3.madeS (xs:=p.2) hrk (u:=.cells #[.slice a4 pl c4,.slice none 0 0] 141) (g':=g') (cap':=cap') (by rw[HLl.out.1,HPl.out];exact HO4.out) (by rw[HLl.out.1];exact HG4.out) (by rw[HLl.out.1];exact HA4.out)
      obtain⟨ht5,hk5⟩:=hres
      rw[HLl.out.1]at ht5 hk5
      have hkw:=hk3.trans hk5
      have HK5:=hide (HK2.out.trans hkw)
      have e0:wr.heap[g]?=(w4.setCell ⟨d,2,none⟩ (.slice (some ⟨g',0,none⟩) (m+1) cap')).heap[g]?:=(hkw.block g hg (by rw[hgk];exact fun e=>ho e.symm)).symm
      have c5:(w4.setCell ⟨d,2,none⟩ (.slice (some ⟨g',0,none⟩) (m+1) cap')).cell? ⟨g,m*2,none⟩=some (.string ⟨p.1.toArray⟩):=by rw[←c0];exact(World.cell?_of_block e0).symm
      generalize w4.setCell ⟨d,2,none⟩ (.slice (some ⟨g',0,none⟩) (m+1) cap')=w5 at *
      generalize ext K3 w3.heap.size (o,2)=K5 at *
      have hbl5:=ht5.blk
      have HM5:=hide ht5
      have HBl5:=hide hbl5
      unfold tcells at hbl5
      obtain⟨x0,x1,x2,x3,x4,x5,x6,x7,x8,x9,xf⟩:=blk10 hbl5
      have hdl5:=lt_of_block hbl5
      have hg5:g<w5.heap.size:=Nat.lt_of_lt_of_le hg hkw.size
      have HS5:Hid (w5.ownsRow 0 183 2 (.slice a3 m c3) m (nvs S.safe)):=by
       have:=ht5.sure.own
       rw[show (S.made ⟨p.2,[]⟩).safe=S.safe from rfl,HLl.out.2]at this
       exact this
      have x3':w5.cell? ⟨d,3,none⟩=some (.slice a3 m c3):=by rw[←HLl.out.2];exact x3
      have HNe5:Hid (some d≠(Value.slice a3 m c3).ownBlock):=by
       have:=owns_ne ht5.sure.own HBl5.out (by decide)
       show some d≠(Value.slice a3 m c3).ownBlock
       rw[←HLl.out.2]
       exact this
      clear ht3 hk3 ht5 hk5 hrk hkw e0 hbl5 x3 HO3 HB3 HO4 HG4 HA4 HF3 HD3 HC y0 y1 y2 y3 y4 y5 y6 y7 y8 y9 yf z0 z1 z2 z3 z4 z5 z6 z7 z8 z9 zf hd3 hd4 hs3 c0 c1 q0 q1 q2 q3 q4 q5 q6 q7 q8 q9 qf
      go_wp2
      go_region_law (refine step_append_lies _ (by rfl) (.tmp 92) (.tmp 100) 109 (by rfl) 0 183 i1 _ 2 24 Tryz.underlying109 hi1 hy0 hy1 hy2 rfl (by omega) (.slice a3 m c3) m (nvs S.safe) (by rfl) ((HS5.out.alloc _).drew) ⟨w5.heap.size,0,none⟩ 1 1 [.string ⟨p.1.toArray⟩,.int .i64 (m:Int)] (by rfl) rfl (World.news_of_block (heap_alloc_new w5 (.cells #[.string ⟨p.1.toArray⟩,.int .i64 (m:Int)] 183))) (by simp[Value.oneCell']) (by omega) (by unfold maxLen;omega) (by omega) (by omega) _ rfl ?_;intro g6 cap6 w6 ho6 hg6 hat6 hlt6;have HO6:=hide ho6;have HG6:=hide hg6;have HA6:=hide hat6;have hdb:w6.heap[d]?=_:=(hg6.block d (by simp;omega) HNe5.out).trans ((Below.heap_alloc _ _ _ hdl5).trans HBl5.out);obtain⟨y0,y1,y2,y3,y4,y5,y6,y7,y8,y9,yf⟩:=blk10 hdb;have hd6:=lt_of_block hdb;clear hdb ho6 hg6 hat6)
      all_goals
       have hres6:=HM5.out.sured (x:=p.1) (i:=m) (l:=imgN (img.take (m+1))) (u:=.cells #[.string ⟨p.1.toArray⟩,.int .i64 (m:Int)] 183) (g':=g6) (cap':=cap6) (by rw[show (S.made ⟨p.2,[]⟩).safe=S.safe from rfl,HLl.out.2];exact HO6.out) (by rw[HLl.out.2];exact⟨HG6.out.os,HG6.out.tape,HG6.out.output,HG6.out.size,HG6.out.block⟩) (by rw[HLl.out.2];exact HA6.out)
       obtain⟨ht7,hk7⟩:=hres6
       rw[show (S.made ⟨p.2,[]⟩).safe=S.safe from rfl,HLl.out.2]at ht7 hk7
       have HLn2:=HLn.out
       rw[HLn2]at ht7
       have HT7:Hid (∃K2,Tk (w6.setCell ⟨d,3,none⟩ (.slice (some ⟨g6,0,none⟩) (m+1) cap6)) K2 o d (St.laid r (img.take (m+1)))∧Kp (Ow o) K1 K2 wa (w6.setCell ⟨d,3,none⟩ (.slice (some ⟨g6,0,none⟩) (m+1) cap6))):=⟨_,⟨_,_,_,_,ht7⟩,HK5.out.trans hk7⟩
       clear ht7 hk7 HLn2 HO6 HG6 HA6
       go_wp2
       go_roundw
       case rel=>exact⟨m+1,by omega,by go_num,HT7⟩
       case measure=>simp[intOf];omega
    ·have m2:¬(m:Int)<(n:Int):=by omega
     rw[List.take_of_length_le (by rw[HN.out];omega)]at ht2
     have HT2:=hide ht2
     have HK2:=hide (HKr.out.trans hk2)
     clear ht2 hk2 HTK
     go_wp2
     go_ret2
     first | exact⟨d,K2,rfl,HT2.out,HK2.out⟩ | exact⟨d,rfl,K2,HT2.out,HK2.out⟩
end Go.Proofs.YtcceejdaokoihaaGreatDoor
