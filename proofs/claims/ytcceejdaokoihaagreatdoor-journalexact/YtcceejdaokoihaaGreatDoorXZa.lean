import Derived.Test.YtcceejdaokoihaaGreatDoorXI
import Derived.Test.YtcceejdaokoihaaGreatDoorXB
import Derived.Test.YtcceejdaokoihaaGreatDoorXT
import Derived.Test.YtcceejdaokoihaaGreatDoorJDec
import Derived.Test.YtcceejdaokoihaaGreatDoorXK
import Derived.Test.YtcceejdaokoihaaGreatDoorXL
set_option maxRecDepth 100000
namespace Go.Proofs.YtcceejdaokoihaaGreatDoor
open Go.RowKit Go.Maps
structure Sw0 (w:World) (K:Knd) (c b:Nat) (X:Sd) (d rd:Nat) (jp rp:Option Addr):Prop where
 blk:w.heap[b]?=some (.cells #[.int .i64 (X.room:Int),.string ⟨X.name.toArray⟩,.pointer (some ⟨d,0,none⟩),.pointer jp,.pointer (some ⟨rd,0,none⟩),.pointer rp] 60 (0,0))
 kb:K b=(c+5,0)
 dk:Dk w K (c+1) d X.S
 tk:Tk w K (c+3) rd X.S
set_option maxHeartbeats 2000000 in
theorem sopen_new (w:World) (K:Knd) (c b:Nat) (X:Sd) (k:Nat) (d rd:Nat) (jp rp:Option Addr) (hw:Sw0 w K c b X d rd jp rp) (hin:Inv X.S) (hsz:Sz X.S k) (hk:k≤274877906944) (hT:C.Tab w) (hK0:K 0=(0,0)) (x:Nm) (hxl:x.length≤140737488351232) (hE0:openE X.S x=0∨openE X.S x=53) :
  Calls Tryz.prog 23 #[.pointer (some ⟨b,0,none⟩),.string ⟨x.toArray⟩] w (SRes w K c b (X.opened x) (.bool true)):=by
 have hb:=hw.blk
 obtain⟨q0,q1,q2,q3,q4,q5,qf⟩:=blk6 hb
 have hbl:=lt_of_block hb
 have HW:=hide hw
 have HO:=hide (Open_all w K (c+1) (c+2) d (by omega) (by omega) X.S hw.dk hin k hsz (by omega) x hxl hT hK0)
 have HFb:=hide (sz_fb hin hsz (by omega))
 have HIv:=hide hin
 clear hw hb hT
 generalize hsx:(⟨x.toArray⟩:ByteArray)=sx at *
 have HSx:=hide hsx
 clear hsx
 go_enter Tryz.func23,Tryz.ntmps23
 go_wp2_with fail
 refine HO.out.mono ?_
 rintro e w1 ⟨K1,hc⟩
 rcases hc with ⟨he,⟨jb,rfl,hj1⟩,hk1⟩ | ⟨he,rfl,hk1⟩ | ⟨he,rfl,hk1⟩
 ·have HB1:Hid (w1.heap[b]?=_):=(hk1.block b hbl (by rw[HW.out.kb];exact fun e=>by have e':c+5=c+2:=e;omega)).trans HW.out.blk
  obtain⟨y0,y1,y2,y3,y4,y5,yf⟩:=blk6 HB1.out
  have hbl1:=lt_of_block HB1.out
  have HRo:=hide (ropen_any w1 K1 (c+3) (c+4) rd X.S (HW.out.tk.kept hk1 (fun k e=>by have e':c+3=c+2:=e;omega)) HIv.out HFb.out x hxl)
  rw[HSx.out]at HRo
  have HK1:=hide hk1
  have HJ1:=hide hj1
  have HE:=hide he
  clear hk1 hj1 he q0 q1 q2 q3 q4 q5 qf HO
  go_wp2_with fail
  refine HRo.out.mono ?_
  rintro e w2 ⟨K2,hk2,hc2⟩
  rcases hc2 with ⟨_,rb,rfl,hr2⟩ | ⟨hbad,_⟩
  rotate_left
  ·exact absurd HE.out hbad
  have HB2:Hid (w2.heap[b]?=_):=(hk2.block b hbl1 (fun h=>h)).trans HB1.out
  obtain⟨z0,z1,z2,z3,z4,z5,zf⟩:=blk6 HB2.out
  have hbl2:=lt_of_block HB2.out
  have f1:=zf 1
  have f3:=zf 3
  have f5:=zf 5
  have HK2:=hide hk2
  have HR2:=hide hr2
  clear hk2 hr2 y0 y1 y2 y3 y4 y5 yf HRo
  go_wp2
  go_ret
  have hX:X.opened x={ X with name:=x,j:=some (jnew x (X.S.found x)) }:=by unfold Sd.opened;rw[if_pos HE.out]
  have hkb:K2 b=(c+5,0):=(HK2.out.same b hbl1).trans ((HK1.out.same b hbl).trans HW.out.kb)
  have k3:Kp (fun k=>k=(c+5,0)) K2 K2 w2 (((w2.setCell ⟨b,3,none⟩ (.pointer (some ⟨jb,0,none⟩))).setCell ⟨b,5,none⟩ (.pointer (some ⟨rb,0,none⟩))).setCell ⟨b,1,none⟩ (.string sx)):=(((Kp.refl _ K2 w2).setCell (b:=b) (Or.inr hkb) _ _).setCell (b:=b) (Or.inr hkb) _ _).setCell (b:=b) (Or.inr hkb) _ _
  refine⟨K2,rfl,⟨d,rd,some ⟨jb,0,none⟩,some ⟨rb,0,none⟩,?_⟩,((kp_os HK1.out (by omega) (by omega)).trans (kp_f HK2.out)).trans (k3.mono (fun k e=>by rw[e];unfold Os;exact⟨by show c+1≤c+5;omega,by show c+5≤c+5;omega⟩))⟩
  rw[hX]
  have n3:∀i k,i≠5→¬((c+i,k)=(c+5,0)):=fun i k hi e=>by simp at e;omega
  refine⟨?_,hkb,?_,?_,fun e=>(by cases e),fun J e=>?_⟩
  ·rw[block_set (block_set (block_set HB2.out _) _) _,←HSx.out]
   rfl
  ·exact((HW.out.dk.kept HK1.out (fun k e=>by have e':c+1=c+2:=e;omega)).kept HK2.out (fun _ h=>h)).kept k3 (fun k=>n3 1 k (by omega))
  ·exact((HW.out.tk.kept HK1.out (fun k e=>by have e':c+3=c+2:=e;omega)).kept HK2.out (fun _ h=>h)).kept k3 (fun k=>n3 3 k (by omega))
  ·cases e
   exact⟨jb,rb,rfl,rfl,(HJ1.out.kept HK2.out (fun _ h=>h)).kept k3 (fun k=>n3 2 k (by omega)),HR2.out.kept k3 (fun k=>n3 4 k (by omega))⟩
 ·have HB1:Hid (w1.heap[b]?=_):=(hk1.block b hbl (by rw[HW.out.kb];exact fun e=>by have e':c+5=c+2:=e;omega)).trans HW.out.blk
  obtain⟨y0,y1,y2,y3,y4,y5,yf⟩:=blk6 HB1.out
  have hbl1:=lt_of_block HB1.out
  have HRo:=hide (ropen_any w1 K1 (c+3) (c+4) rd X.S (HW.out.tk.kept hk1 (fun k e=>by have e':c+3=c+2:=e;omega)) HIv.out HFb.out x hxl)
  rw[HSx.out]at HRo
  have HK1:=hide hk1
  have HE:=hide he
  clear hk1 he q0 q1 q2 q3 q4 q5 qf HO
  go_wp2_with fail
  refine HRo.out.mono ?_
  rintro e w2 ⟨K2,hk2,hc2⟩
  rcases hc2 with ⟨hbad,_⟩ | ⟨_,rfl⟩
  ·exact absurd (hbad.symm.trans HE.out) (by omega)
  rw[HE.out]
  have HB2:Hid (w2.heap[b]?=_):=(hk2.block b hbl1 (fun h=>h)).trans HB1.out
  obtain⟨z0,z1,z2,z3,z4,z5,zf⟩:=blk6 HB2.out
  have hbl2:=lt_of_block HB2.out
  have f1:=zf 1
  have f3:=zf 3
  have f5:=zf 5
  have HK2:=hide hk2
  clear hk2 y0 y1 y2 y3 y4 y5 yf HRo
  go_wp2
  go_ret
  have hX:X.opened x={ X with name:=x,j:=none }:=by unfold Sd.opened;rw[if_neg (by rw[HE.out];omega),if_pos HE.out]
  have hkb:K2 b=(c+5,0):=(HK2.out.same b hbl1).trans ((HK1.out.same b hbl).trans HW.out.kb)
  have k3:Kp (fun k=>k=(c+5,0)) K2 K2 w2 (((w2.setCell ⟨b,3,none⟩ (.pointer none)).setCell ⟨b,5,none⟩ (.pointer none)).setCell ⟨b,1,none⟩ (.string sx)):=(((Kp.refl _ K2 w2).setCell (b:=b) (Or.inr hkb) _ _).setCell (b:=b) (Or.inr hkb) _ _).setCell (b:=b) (Or.inr hkb) _ _
  refine⟨K2,rfl,⟨d,rd,none,none,?_⟩,((kp_os HK1.out (by omega) (by omega)).trans (kp_f HK2.out)).trans (k3.mono (fun k e=>by rw[e];unfold Os;exact⟨by show c+1≤c+5;omega,by show c+5≤c+5;omega⟩))⟩
  rw[hX]
  have n3:∀i k,i≠5→¬((c+i,k)=(c+5,0)):=fun i k hi e=>by simp at e;omega
  refine⟨?_,hkb,?_,?_,fun _=>⟨rfl,rfl⟩,fun J e=>by cases e⟩
  ·rw[block_set (block_set (block_set HB2.out _) _) _,←HSx.out]
   rfl
  ·exact((HW.out.dk.kept HK1.out (fun k e=>by have e':c+1=c+2:=e;omega)).kept HK2.out (fun _ h=>h)).kept k3 (fun k=>n3 1 k (by omega))
  ·exact((HW.out.tk.kept HK1.out (fun k e=>by have e':c+3=c+2:=e;omega)).kept HK2.out (fun _ h=>h)).kept k3 (fun k=>n3 3 k (by omega))
 ·exact absurd he (by omega)
set_option maxHeartbeats 1000000 in
theorem enough_any (w:World) (K:Knd) (v:Value) (img:Image) (r:Nat) (h:Im w K v img) (hn:img.length≤64) (_hr:r≤16777216) :
  Calls Tryz.prog 73 #[v,.int .i64 (r:Int)] w fun e w'=>e=.returned (.int .i64 ((max (sumI img) r:Nat):Int))∧w'=w:=by
 obtain⟨a,c,rfl,hle,hmx⟩:=h.form
 have HI:=hide h
 obtain⟨n,hnl⟩:∃n,img.length=n:=⟨_,rfl⟩
 have HL:=hide hnl
 rw[hnl]at hle HI hn ⊢
 unfold maxLen at hmx
 clear h hnl
 go_enter Tryz.func73,Tryz.ntmps73
 go_wp2
 go_loop [5,6] (fun t i=>∃(j s:Nat),j≤n∧i=.int .i64 (j:Int)∧t=.int .i64 (s:Int)∧s≤j*1099511627776∧Hid (s=sumI (img.take j))) (fun _ i=>n - (intOf i).toNat)
 case atStart=>exact⟨0,0,Nat.zero_le _,rfl,rfl,Nat.zero_le _,rfl⟩
 case round =>
  obtain⟨j,s,hj,rfl,rfl,hs,HS⟩:=hrel
  by_cases hlt:j<n
  ·have j1:(0:Int)≤(j:Int):=by omega
   have j2:(j:Int)<(n:Int):=by omega
   obtain⟨p,hp⟩:∃p,img[j]?=some p:=⟨_,List.getElem?_eq_getElem (by rw[HL.out];exact hlt)⟩
   have hsm:=(HI.out.small p (List.mem_of_getElem? hp)).2
   obtain⟨g,ap,cp,ha,hg,c0,c1,_,_⟩:=HI.out.at hp
   subst ha
   have HS2:Hid (sumI (img.take (j+1))=s+p.2.length):=by show _=_;rw[take_snoc' img j p hp,sumI_snoc,HS.out]
   obtain⟨pl,hpl⟩:∃pl,p.2.length=pl:=⟨_,rfl⟩
   rw[hpl]at c1 HS2 hsm
   have hs2:s+pl≤(j+1)*1099511627776:=by rw[Nat.add_mul];omega
   clear hp hpl
   go_wp2
   go_round
   case rel=>exact⟨j+1,s+pl,by omega,by go_num,by go_num,hs2,hide (by rw[HS2.out])⟩
   case measure=>simp[intOf];omega
  ·have j2:¬(j:Int)<(n:Int):=by omega
   have HE:Hid (s=sumI img):=by
    have e:=HS.out
    rw[List.take_of_length_le (by rw[HL.out];omega)]at e
    exact e
   clear HS
   by_cases hgt:r<s
   ·have g1:(r:Int)<(s:Int):=by omega
    go_wp2
    go_ret
    exact⟨by rw[←HE.out,Nat.max_eq_left (by omega)];rfl,rfl⟩
   ·have g1:¬(r:Int)<(s:Int):=by omega
    go_wp2
    go_ret
    exact⟨by rw[←HE.out,Nat.max_eq_right (by omega)];rfl,rfl⟩
def Sd.crashed (X:Sd) (ps:List Int):Sd :=
 if 16777216<max (sumI (X.S.crash ps)) X.room then X else (⟨max (sumI (X.S.crash ps)) X.room,X.name,St.laid (max (sumI (X.S.crash ps)) X.room) (X.S.crash ps),none⟩:Sd).opened X.name
theorem past_laid (r:Nat) {img:Image} (h:okB img r=true) (hr:r≤16777216):Past (St.laid r img):=by
 have hv:=laid_inv hr h
 refine⟨fun k=>?_,fun k=>?_⟩
 ·show ((([]:List Chg).take k).foldl withN (imgN img) |>.map (·.2)).Nodup
  rw[List.take_nil]
  exact hv.nod
 ·show ((([]:List Chg).take k).foldl withN (imgN img)).length≤64
  rw[List.take_nil]
  exact hv.most
theorem crash_okB {S:St} (hv:Inv S) (hp:Past S) (ps:List Int) {m:Nat} (hm:sumI (S.crash ps)≤m):okB (S.crash ps) m=true:=by
 have hnm:∀p∈S.crash ps,isNm p.1=true:=fun p hp=>by
  unfold St.crash at hp
  obtain⟨i,hi,rfl⟩:=List.mem_mapIdx.1 hp
  exact(left_in hv ps _ (List.getElem_mem hi)).2
 have hs:(S.crash ps).Pairwise fun p q=>bytesBefore p.1 q.1=true:=by
  have h:=left_srt hv ps
  unfold Srt at h
  rw[List.pairwise_iff_getElem]at h ⊢
  intro i j hi hj hij
  have:=h i j (by rw[crash_len]at hi;exact hi) (by rw[crash_len]at hj;exact hj) hij
  simpa[St.crash] using this
 have hb:∀x:Nm,isNm x=true→bytesBefore [] x=true:=fun x h=>by
  cases x with
  | nil=>have:=(nm_len h).1;simp at this
  | cons a l=>rfl
 unfold okB
 rw[chn_of hnm hs [] (fun p hp=>hb _ (hnm p hp)),decide_eq_true (by rw[crash_len];exact hp.most _),decide_eq_true hm]
 rfl
theorem crash_small {S:St} {k:Nat} (hv:Inv S) (hz:Sz S k) (ps:List Int):∀p∈S.crash ps,∀x∈p.2,x<256:=fun p hp x hx=>by
 unfold St.crash at hp
 obtain⟨i,hi,rfl⟩:=List.mem_mapIdx.1 hp
 have hf:=left_in hv ps _ (List.getElem_mem hi)
 have hin:S.file (S.leftN ps)[i].2∈S.files:=by
  unfold St.file
  rw[List.getElem?_eq_getElem hf.1]
  exact List.getElem_mem hf.1
 exact left_small (hz.fl _ hin).1 _ x hx
theorem crash_nms {S:St} (hv:Inv S) (ps:List Int):∀p∈S.crash ps,p.1.length≤140737488355328:=fun p hp=>by
 unfold St.crash at hp
 obtain⟨i,hi,rfl⟩:=List.mem_mapIdx.1 hp
 have:=(nm_len (left_in hv ps _ (List.getElem_mem hi)).2).2
 show ((S.leftN ps)[i]).1.length≤_
 omega
theorem okd_laid {S:St} {k:Nat} (h:Okd S k) (ps:List Int) {m:Nat} (hm:sumI (S.crash ps)≤m) (hm2:m≤16777216):Okd (St.laid m (S.crash ps)) 0:=by
 have hok:=crash_okB h.inv h.past ps hm
 refine⟨laid_inv hm2 hok,laid_sz hm2 hok (crash_small h.inv h.sz ps),past_laid m hok hm2,?_⟩
 show ((S.crash ps).map _).length≤_
 rw[List.length_map,crash_len]
 have:=h.past.most (pickP ps 0 S.chg.length)
 have e:(S.leftN ps).length=((S.chg.take (pickP ps 0 S.chg.length)).foldl withN S.safe).length:=rfl
 omega
theorem sok_crashed {X:Sd} {k:Nat} (h:Sok X k) (ps:List Int):Sok (X.crashed ps) k:=by
 unfold Sd.crashed
 split
 ·exact h
 ·rename_i hle
  have h0:Sok (⟨max (sumI (X.S.crash ps)) X.room,X.name,St.laid (max (sumI (X.S.crash ps)) X.room) (X.S.crash ps),none⟩:Sd) 0:=⟨okd_laid h.ok ps (Nat.le_max_left _ _) (by omega),fun J e=>(by cases e),h.nm,by show max _ _≤_;omega⟩
  exact sok_opened (h0.mono (Nat.zero_le _)) _
theorem open_laid {r:Nat} {img:Image} {x:Nm} (hx:nmOk x=true):openE (St.laid r img) x=0∨openE (St.laid r img) x=53:=by
 have hf:=(goB_facts2 (((St.laid r img).bytes x).length+1) ((St.laid r img).bytes x) [] 0 (by simp) (by omega)).2.2.2
 unfold openE
 rw[if_neg (by rw[hx];simp),if_neg (by show ¬(false=true);simp)]
 exact hf
set_option maxHeartbeats 4000000 in
theorem scrash_any (w:World) (K:Knd) (c b:Nat) (X:Sd) (k:Nat) (h:Sk w K c b X) (ho:Sok X k) (hk:k≤274877906000) (hT:C.Tab w) (hK0:K 0=(0,0)) (pp:Option Addr) (m cap:Nat) (ps:List Int) (hm:ps.length=m) (hml:m≤140737488355328) (hp:Ins w pp ps) :
  Calls Tryz.prog 31 #[.pointer (some ⟨b,0,none⟩),.slice pp m cap] w (SRes w K c b (X.crashed ps) (.bool true)):=by
 obtain⟨d,rd,jp,rp,hw⟩:=h
 have hb:=hw.blk
 obtain⟨q0,q1,q2,q3,q4,q5,qf⟩:=blk6 hb
 have hbl:=lt_of_block hb
 have HW:=hide hw
 have HO:=hide ho
 have HT:=hide hT
 have HK0:=hide hK0
 have HP:=hide hp
 have hrm:=ho.room
 have HCr:=hide (Crash_any w K (c+1) d X.S hw.dk ho.ok.inv k ho.ok.sz (by omega) pp m cap ps hm hp hml)
 have HIl:Hid ((X.S.crash ps).length≤64):=by show _≤_;rw[crash_len];exact ho.ok.past.most _
 have HNx:=hide (nm_two ho.nm).1
 obtain⟨img,himg⟩:∃img,X.S.crash ps=img:=⟨_,rfl⟩
 have HImg:=hide himg
 rw[himg]at HCr HIl
 obtain⟨R,hR⟩:∃R,max (sumI img) X.room=R:=⟨_,rfl⟩
 have HR:=hide hR
 have HXc:Hid (X.crashed ps=if 16777216<R then X else (⟨R,X.name,St.laid R img,none⟩:Sd).opened X.name):=by show _=_;unfold Sd.crashed;rw[himg,hR]
 have HM:=hide hm
 clear hw hb hT hp ho himg hR hm hK0
 go_enter Tryz.func31,Tryz.ntmps31
 go_wp2_with fail
 refine HCr.out.mono ?_
 rintro e w1 ⟨v1,rfl,hi1,hb1⟩
 have HK1:=hide (kp_below hb1 (fun _=>False) K (0,0))
 have HI1:=hide hi1
 have y4:=(hb1.cell (p:=⟨b,4,none⟩) hbl).trans q4
 have y0:=(hb1.cell (p:=⟨b,0,none⟩) hbl).trans q0
 have hbl1:b<w1.heap.size:=Nat.lt_of_lt_of_le hbl hb1.size
 have HP1:=hide (HP.out.below hb1)
 generalize ext K w.heap.size (0,0)=K1 at *
 have HTc:=hide (tcrash_any w1 K1 (c+3) rd X.S (HW.out.tk.kept HK1.out (fun _ h=>h)) HO.out.ok.inv (okd_fb0 HO.out.ok (by omega)) (fun c hc hto=>by rcases (HO.out.ok.inv.chg c hc).2 with e | e;exact absurd e hto;exact e.2) pp m cap ps HM.out HP1.out)
 rw[HImg.out]at HTc
 obtain⟨a1,c1,hv1,_,_⟩:=hi1.form
 subst hv1
 clear hi1 hb1 HCr
 go_wp2_with fail
 refine HTc.out.mono ?_
 rintro e w2 ⟨v2,rfl,hi2,hb2⟩
 have HK2:=hide (HK1.out.trans (kp_below hb2 (fun _=>False) K1 (0,0)))
 have HI1b:=hide (HI1.out.kept (kp_below hb2 (fun _=>False) K1 (0,0)) (fun h=>h))
 have HI2:=hide hi2
 have x0:=(hb2.cell (p:=⟨b,0,none⟩) hbl1).trans y0
 have hbl2:b<w2.heap.size:=Nat.lt_of_lt_of_le hbl1 hb2.size
 generalize ext K1 w1.heap.size (0,0)=K2 at *
 obtain⟨a2,c2,hv2,_,_⟩:=hi2.form
 subst hv2
 have HEq:=hide (eqImage_same w2 K2 _ _ img HI1b.out HI2.out (by have:=HIl.out;omega))
 clear hi2 hb2 HTc HK1 HI1 q0 q1 q2 q3 q4 q5 qf y0 y4
 go_wp2_with fail
 refine HEq.out.mono ?_
 rintro e w3 ⟨rfl,q,hq⟩
 have kq:Kp (fun _=>False) K2 K2 w2 w3:=by rw[hq];exact(Kp.refl _ K2 w2).drewN q
 have HK3:=hide (HK2.out.trans kq)
 have HIa:=hide (HI1b.out.kept kq (fun h=>h))
 have HIb:=hide (HI2.out.kept kq (fun h=>h))
 have x3:w3.cell? ⟨b,0,none⟩=some (.int .i64 (X.room:Int)):=by rw[hq];exact x0
 have hbl3:b<w3.heap.size:=by rw[hq];exact hbl2
 have HEn:=hide (enough_any w3 K2 _ img X.room HIb.out HIl.out hrm)
 rw[HR.out]at HEn
 generalize hXr:X.room=xr at *
 have HXr:=hide hXr
 clear hq kq HEq HI1b HI2 x0 hXr HK2
 go_wp2_with fail
 refine HEn.out.mono ?_
 rintro e w4 ⟨rfl,h4⟩
 rw[h4]
 clear h4 w4
 by_cases hbig:16777216<R
 ·have g1:(16777216:Int)<(R:Int):=by omega
  have HX:Hid (X.crashed ps=X):=by show _=_;rw[HXc.out,if_pos hbig]
  go_wp2
  go_ret
  refine⟨K2,rfl,?_,kp_f HK3.out⟩
  rw[HX.out]
  exact Sk.still (w:=w) (K:=K) ⟨d,rd,jp,rp,HW.out⟩ HK3.out
 have g1:¬(16777216:Int)<(R:Int):=by omega
 have HX:Hid (X.crashed ps=(⟨R,X.name,St.laid R img,none⟩:Sd).opened X.name):=by show _=_;rw[HXc.out,if_neg hbig]
 clear HXc
 have hA3:w3.heap[b]?=_:=(HK3.out.block b hbl (fun h=>h)).trans HW.out.blk
 have HA3:=hide hA3
 obtain⟨u0,u1,u2,u3,u4,u5,uf⟩:=blk6 hA3
 have f0:=uf 0
 have hkb3:K2 b=(c+5,0):=(HK3.out.same b hbl).trans HW.out.kb
 have HKb3:=hide hkb3
 clear hA3 u0 u1 u2 u3 u4 u5 hkb3
 go_wp2_with fail
 refine HEn.out.mono ?_
 rintro e w4 ⟨rfl,h4⟩
 rw[h4]
 clear h4 w4
 have k4:Kp (fun q=>q=(c+5,0)) K2 K2 w3 (w3.setCell ⟨b,0,none⟩ (.int .i64 (R:Int))):=(Kp.refl _ K2 w3).setCell (b:=b) (Or.inr HKb3.out) _ _
 have HK4:=hide k4
 have hA4:(w3.setCell ⟨b,0,none⟩ (.int .i64 (R:Int))).heap[b]?=_:=block_set HA3.out _
 have HA4:=hide hA4
 have n3:∀i q,i≠5→¬((c+i,q)=(c+5,0)):=fun i q hi e=>by simp at e;omega
 have HN3:=hide n3
 have hz5:¬((0,0):Nat × Nat)=(c+5,0):=fun e=>by simp at e
 have HIa4:=hide (HIa.out.kept k4 hz5)
 have HIb4:=hide (HIb.out.kept k4 hz5)
 have hok:=crash_okB HO.out.ok.inv HO.out.ok.past ps (m:=R) (by rw[←HR.out,HImg.out];exact Nat.le_max_left _ _)
 rw[HImg.out]at hok
 have HOk:=hide hok
 have HLd:=hide (Load_any _ K2 (c+1) (by omega) _ img R HIa4.out (by have:=crash_nms HO.out.ok.inv ps;rw[HImg.out]at this;exact this) (by omega) hok)
 have z0:(w3.setCell ⟨b,0,none⟩ (.int .i64 (R:Int))).cell? ⟨b,0,none⟩=some (.int .i64 (R:Int)):=by simp[World.cell?,hA4]
 have hbl4:=lt_of_block hA4
 clear k4 hA4 n3 hz5 hok HEn HIa HIb
 go_wp2_with fail
 generalize w3.setCell ⟨b,0,none⟩ (.int .i64 (R:Int))=w4 at *
 refine HLd.out.mono ?_
 rintro e w5 ⟨d5,K5,rfl,hd5,hk5⟩
 have HD5:=hide hd5
 have HK5:=hide hk5
 have hA5:w5.heap[b]?=_:=(hk5.block b hbl4 (by rw[HKb3.out];exact fun e=>by have e':c+5=c+1:=e;omega)).trans HA4.out
 have HA5:=hide hA5
 have hbl5:=lt_of_block hA5
 have z5:w5.cell? ⟨b,0,none⟩=some (.int .i64 (R:Int)):=by simp[World.cell?,hA5]
 have HIb5:=hide (HIb4.out.kept hk5 (by show ¬(0=c+1);omega))
 have HLt:=hide (tload_any w5 K5 (c+3) (by omega) _ img R HIb5.out (by omega) HOk.out)
 clear hd5 hk5 hA5 HLd HIa4 HIb4
 go_wp2_with fail
 refine HLt.out.mono ?_
 rintro e w6 ⟨rd6,K6,rfl,ht6,hk6⟩
 have HT6:=hide ht6
 have HK6:=hide hk6
 have HD6:=hide (HD5.out.kept hk6 (fun q e=>by have e':c+1=c+3:=e;omega))
 have hkb5:K5 b=(c+5,0):=(HK5.out.same b hbl4).trans HKb3.out
 have hA6:w6.heap[b]?=_:=(hk6.block b hbl5 (by rw[hkb5];exact fun e=>by have e':c+5=c+3:=e;omega)).trans HA5.out
 have hkb6:K6 b=(c+5,0):=(hk6.same b hbl5).trans hkb5
 have HA6:=hide hA6
 have HKb6:=hide hkb6
 obtain⟨u0,u1,u2,u3,u4,u5,uf⟩:=blk6 hA6
 have hbl6:=lt_of_block hA6
 have f2:=uf 2
 have f4:=uf 4
 have k7:Kp (fun q=>q=(c+5,0)) K6 K6 w6 ((w6.setCell ⟨b,2,none⟩ (.pointer (some ⟨d5,0,none⟩))).setCell ⟨b,4,none⟩ (.pointer (some ⟨rd6,0,none⟩))):=((Kp.refl _ K6 w6).setCell (b:=b) (Or.inr hkb6) _ _).setCell (b:=b) (Or.inr hkb6) _ _
 have h5os:∀q:Nat × Nat,q=(c+5,0)→Os c q:=fun q e=>by rw[e];unfold Os;exact⟨by show c+1≤c+5;omega,by show c+5≤c+5;omega⟩
 have HK7:Hid (Kp (Os c) K K6 w ((w6.setCell ⟨b,2,none⟩ (.pointer (some ⟨d5,0,none⟩))).setCell ⟨b,4,none⟩ (.pointer (some ⟨rd6,0,none⟩)))):=((((kp_f HK3.out).trans (HK4.out.mono h5os)).trans (kp_os HK5.out (by omega) (by omega))).trans (kp_os HK6.out (by omega) (by omega))).trans (k7.mono h5os)
 have HS0:Hid (Sw0 ((w6.setCell ⟨b,2,none⟩ (.pointer (some ⟨d5,0,none⟩))).setCell ⟨b,4,none⟩ (.pointer (some ⟨rd6,0,none⟩))) K6 c b ⟨R,X.name,St.laid R img,none⟩ d5 rd6 jp rp) :=
  ⟨by rw[block_set (block_set hA6 _) _];rfl,hkb6,HD6.out.kept k7 (fun q=>HN3.out 1 q (by omega)),HT6.out.kept k7 (fun q=>HN3.out 3 q (by omega))⟩
 have hlv:=laid_inv (r:=R) (img:=img) (by omega) HOk.out
 have hls:=laid_sz (r:=R) (img:=img) (by omega) HOk.out (by have:=crash_small HO.out.ok.inv HO.out.ok.sz ps;rw[HImg.out]at this;exact this)
 have HOp:=hide (sopen_new _ K6 c b ⟨R,X.name,St.laid R img,none⟩ 0 d5 rd6 jp rp HS0.out hlv hls (by omega) (tab_kq HT.out HK7.out (by rw[HK0.out];exact os_zero c)) ((HK7.out.same 0 HT.out.pos).trans HK0.out) X.name (by have:=(nm_len HNx.out).2;omega) (open_laid HO.out.nm))
 have z1:((w6.setCell ⟨b,2,none⟩ (.pointer (some ⟨d5,0,none⟩))).setCell ⟨b,4,none⟩ (.pointer (some ⟨rd6,0,none⟩))).cell? ⟨b,1,none⟩=some (.string ⟨X.name.toArray⟩):=by
  have:=block_set (block_set hA6 (i:=2) (.pointer (some ⟨d5,0,none⟩))) (i:=4) (.pointer (some ⟨rd6,0,none⟩))
  simp[World.cell?,this]
 have u1':w6.cell? ⟨b,1,none⟩=some (.string ⟨X.name.toArray⟩):=u1
 clear ht6 hk6 hA6 hkb6 k7 h5os hlv hls HLt u0 u3 u5 uf hkb5
 go_wp2_with fail
 refine HOp.out.mono ?_
 rintro e w8 ⟨K8,rfl,hs8,hk8⟩
 have HS8:=hide hs8
 have HK8:=hide (HK7.out.trans hk8)
 clear hs8 hk8
 go_wp2
 go_ret
 refine⟨K8,rfl,?_,HK8.out⟩
 rw[HX.out]
 exact HS8.out
structure Ev (w0 w:World) (K:Knd):Prop where
 bel:Below w0.heap.size w0 w
 k0:∀b,b<w0.heap.size→K b=(0,0)
theorem Ev.go {p:Nat × Nat→Prop} {w0 w w':World} {K K':Knd} (h:Ev w0 w K) (hk:Kp p K K' w w') (hp:¬p (0,0)):Ev w0 w' K':=by
 refine⟨⟨hk.os.trans h.bel.os,hk.tape.trans h.bel.tape,hk.output.trans h.bel.output,Nat.le_trans h.bel.size hk.size,fun b hb=>?_⟩,fun b hb=>?_⟩
 ·exact(hk.block b (Nat.lt_of_lt_of_le hb h.bel.size) (by rw[h.k0 b hb];exact hp)).trans (h.bel.block b hb)
 ·exact(hk.same b (Nat.lt_of_lt_of_le hb h.bel.size)).trans (h.k0 b hb)
structure Opj where
 on:Int
 dv:Int
 name:Nm
 pp:Option Addr
 kp:Nat
 cp:Nat
 parts:List (List Nat)
 sp:Option Addr
 bl:Nat
 bc:Nat
 xs:List Nat
 n:Int
 a1:Int
 a2:Int
 a3:Int
 qp:Option Addr
 ql:Nat
 qc:Nat
 picks:List Int
def Opj.cells (o:Opj):Array Value:=#[.int .i64 o.on,.int .i64 o.dv,.string ⟨o.name.toArray⟩,.slice o.pp o.kp o.cp,.slice o.sp o.bl o.bc,.int .i64 o.n,.int .i64 o.a1,.int .i64 o.a2,.int .i64 o.a3,.slice o.qp o.ql o.qc]
structure OpjOk (w0:World) (o:Opj):Prop where
 nm:o.name.length≤140737488351232
 kp:o.parts.length=o.kp
 kpl:o.kp≤5864062014805
 pts:Pts w0 o.pp o.parts
 sb:∀p∈o.parts,∀x∈p,x<256
 bl:o.xs.length=o.bl
 bll:o.bl≤140737488355328
 by':Bytes w0 o.sp o.xs
 n : -9223372036854775808≤o.n∧o.n≤9223372036854775807
 ql:o.picks.length=o.ql
 qll:o.ql≤140737488355328
 ins:Ins w0 o.qp o.picks
def Sd.kept (X:Sd) (R:Nat × St × Jr):Sd:={ X with S:=R.2.1,j:=some R.2.2 }
def Sd.play (X:Sd) (o:Opj):Sd :=
 if o.dv=1 then X.opened o.name else
 if o.dv=2 then (match X.j with | none=>X | some J=>X.kept (addR X.S J o.parts)) else
 if o.dv=3 then (match X.j with | none=>X | some J=>X.kept (chkR X.S J o.parts)) else
 if o.dv=5 then { X with S:=X.S.planR o.a1 o.a2 o.a3 } else
 if o.dv=6 then X.crashed o.picks else
 if o.dv=7 then ({ X with S:=(X.S.appendR X.name o.xs).2 } : Sd).opened X.name else
 if o.dv=8 then (X.cut o.n).opened X.name else
 if o.dv=9 then X.beat o.n else X
theorem sok_kept {X:Sd} {k:Nat} (h:Sok X k) {J:Jr} (hJ:X.j=some J) (ps:List (List Nat)) (hp:∀p∈ps,∀x∈p,x<256) (ss:List Nat→List Stk) (hs:∀r:List Nat,(∀y∈r,y<256)→r.length≤4194304→(ss r).length≤6∧∀s∈ss r,s.fits):Sok (X.kept (keepR X.S J ps ss)) (k+25165830) :=
 ⟨(okd_keep h.ok ps hp ss hs).1,fun J' e=>by cases e;exact(okj_keep (h.jok J hJ) ps ss).mono (by omega),h.nm,h.room⟩
theorem sok_cut {X:Sd} {k:Nat} (h:Sok X k) (n:Int):Sok (X.cut n) (k+1):=sok_set h (okd_cut h.ok X.name _).1 (by omega)
theorem sok_beat {X:Sd} {k:Nat} (h:Sok X k) (n:Int):Sok (X.beat n) (k+16777217):=by
 unfold Sd.beat
 split
 ·exact h.mono (by omega)
 split
 ·exact(sok_set h (okd_rem h.ok bsd).1 (by omega)).mono (by omega)
 ·exact sok_set h (okd_app h.ok bsd _ (fun y hy=>by have:=(List.mem_replicate.1 hy).2;omega)).1 (by omega)
theorem sok_play {X:Sd} {k:Nat} (h:Sok X k) {w0:World} {o:Opj} (ho:OpjOk w0 o):Sok (X.play o) (k+25165830):=by
 unfold Sd.play
 split
 ·exact(sok_opened h _).mono (by omega)
 split
 ·cases hJ:X.j with
  | none=>exact h.mono (by omega)
  | some J=>exact sok_kept h hJ o.parts ho.sb J.adds (adds_fit J)
 split
 ·cases hJ:X.j with
  | none=>exact h.mono (by omega)
  | some J=>exact sok_kept h hJ o.parts ho.sb (J.reps X.S) (reps_fit J X.S)
 split
 ·exact(sok_set h (okd_plan h.ok _ _ _).1 (Nat.le_refl _)).mono (by omega)
 split
 ·exact(sok_crashed h _).mono (by omega)
 split
 ·exact(sok_opened (sok_set h (okd_app h.ok X.name o.xs ho.by'.small).1 (by omega)) _).mono (by omega)
 split
 ·exact(sok_opened (sok_cut h _) _).mono (by omega)
 split
 ·exact(sok_beat h _).mono (by omega)
 ·exact h.mono (by omega)
theorem Sw.kept2 {w w1 w2:World} {K K1 K2:Knd} {c b:Nat} {X:Sd} {d rd jb rb:Nat} {R:Nat × St × Jr} (h:Sw w K c b X d rd (some ⟨jb,0,none⟩) (some ⟨rb,0,none⟩)) (hk1:Kp (Pk (c+1) (c+2)) K K1 w w1) (hd:Dk w1 K1 (c+1) d R.2.1) (hj:Jk w1 K1 (c+2) d jb R.2.2) (hk2:Kp (fun k=>Ow (c+3) k∨Ow (c+4) k) K1 K2 w1 w2) (ht:Tk w2 K2 (c+3) rd R.2.1) (hr:Rj w2 K2 (c+4) rd rb R.2.2):Sw w2 K2 c b (X.kept R) d rd (some ⟨jb,0,none⟩) (some ⟨rb,0,none⟩):=by
 have hl:=lt_of_block h.blk
 have hl1:b<w1.heap.size:=Nat.lt_of_lt_of_le hl hk1.size
 have n1:¬Pk (c+1) (c+2) (c+5,0):=fun e=>by
  rcases e with e | e | e
  ·have e':c+5=c+1:=e;omega
  ·simp at e
  ·simp at e
 have n3:∀i q,i≠3→i≠4→¬(Ow (c+3) (c+i,q)∨Ow (c+4) (c+i,q)):=fun i q h3 h4 e=>by
  rcases e with e | e
  ·have e':c+i=c+3:=e;omega
  ·have e':c+i=c+4:=e;omega
 have k1:K1 b=(c+5,0):=(hk1.same b hl).trans h.kb
 refine⟨((hk2.block b hl1 (by rw[k1];exact n3 5 0 (by omega) (by omega))).trans (hk1.block b hl (by rw[h.kb];exact n1))).trans h.blk,(hk2.same b hl1).trans k1,hd.kept hk2 (fun q=>n3 1 q (by omega) (by omega)),ht,fun e=>(by cases e),fun J e=>?_⟩
 cases e
 exact⟨jb,rb,rfl,rfl,hj.kept hk2 (fun q=>n3 2 q (by omega) (by omega)),hr⟩
theorem pk_os {c:Nat} (k:Nat × Nat) (h:Pk (c+1) (c+2) k):Os c k:=by
 unfold Os
 rcases h with e | e | e
 ·have e':k.1=c+1:=e;omega
 ·rw[e];exact⟨by show c+1≤c+2;omega,by show c+2≤c+5;omega⟩
 ·rw[e];exact⟨by show c+1≤c+2;omega,by show c+2≤c+5;omega⟩
theorem two_os {c:Nat} (k:Nat × Nat) (h:Ow (c+3) k∨Ow (c+4) k):Os c k:=by
 unfold Os
 rcases h with e | e
 ·have e':k.1=c+3:=e;omega
 ·have e':k.1=c+4:=e;omega
structure Pl (w0 w wB:World) (K KB:Knd) (c b:Nat) (X:Sd) (o:Opj):Prop where
 sk:Sk wB KB c b X
 ev:Ev w0 wB KB
 kp:Kp (Os c) K KB w wB
 box:wB.heap[w.heap.size]?=some (.cells o.cells 37 (0,0))
 kbx:KB w.heap.size=(0,0)
theorem Pl.go {p:Nat × Nat→Prop} {w0 w wB wC:World} {K KB KC:Knd} {c b:Nat} {X Y:Sd} {o:Opj} (h:Pl w0 w wB K KB c b X o) (hk:Kp p KB KC wB wC) (hp:∀k,p k→Os c k) (hs:Sk wC KC c b Y):Pl w0 w wC K KC c b Y o:=by
 have h0:¬p (0,0):=fun e=>os_zero c (hp _ e)
 have hl:=lt_of_block h.box
 exact⟨hs,h.ev.go hk h0,h.kp.trans (hk.mono hp),(hk.block _ hl (by rw[h.kbx];exact h0)).trans h.box,(hk.same _ hl).trans h.kbx⟩
theorem pl_box {w0 w:World} {K:Knd} {c b:Nat} {X:Sd} (h:Sk w K c b X) (he:Ev w0 w K) (o:Opj):Pl w0 w (w.alloc (.cells o.cells 37)) K (ext K w.heap.size (0,0)) c b X o:=by
 have hb:Below w.heap.size w (w.alloc (.cells o.cells 37)):=(Below.refl _ _).alloc (Nat.le_refl _) _
 have hk:=kp_below hb (fun _=>False) K (0,0)
 exact⟨h.still hk,he.go hk (fun h=>h),kp_f hk,heap_alloc_new _ _,ext_new K _ (Nat.le_refl _)⟩
theorem Pl.still {w0 w wB wC:World} {K KB KC:Knd} {c b:Nat} {X:Sd} {o:Opj} (h:Pl w0 w wB K KB c b X o) (hk:Kp (fun _=>False) KB KC wB wC):Pl w0 w wC K KC c b X o:=h.go hk (fun _ e=>e.elim) (h.sk.still hk)
set_option maxHeartbeats 4000000 in
theorem plays_addR (w0 w:World) (K:Knd) (c b:Nat) (X:Sd) (k:Nat) (he:Ev w0 w K) (hT:C.Tab w0) (h:Sk w K c b X) (ho:Sok X k) (hk:k≤274000000000) (o:Opj) (hop:OpjOk w0 o) (hdo:o.dv=2)(J:Jr) (hJ:X.j=some J) :
  Calls Tryz.prog 9 #[.pointer (some ⟨b,0,none⟩),.agg o.cells] w (SRes w K c b (X.play o) (.bool true)):=by
 obtain⟨on,dv,nmx,pp,kp,cp,parts,sp,bl,bc,xs,n,a1,a2,a3,qp,ql,qc,picks⟩:=o
 simp only at hdo
 subst hdo
 have HX:Hid (X.play ⟨on,2,nmx,pp,kp,cp,parts,sp,bl,bc,xs,n,a1,a2,a3,qp,ql,qc,picks⟩=X.kept (addR X.S J parts)):=by show _=_;unfold Sd.play;simp[hJ]
 have HOp:=hide hop
 have hpl:=pl_box h he ⟨on,2,nmx,pp,kp,cp,parts,sp,bl,bc,xs,n,a1,a2,a3,qp,ql,qc,picks⟩
 simp only[Opj.cells]at hpl ⊢
 generalize hwB:w.alloc (.cells #[.int .i64 on,.int .i64 2,.string ⟨nmx.toArray⟩,.slice pp kp cp,.slice sp bl bc,.int .i64 n,.int .i64 a1,.int .i64 a2,.int .i64 a3,.slice qp ql qc] 37)=wB at *
 generalize ext K w.heap.size (0,0)=KB at *
 have hbx:=hpl.box
 simp only[Opj.cells]at hbx
 obtain⟨bx,hbxe⟩:∃bx,w.heap.size=bx:=⟨_,rfl⟩
 rw[hbxe]at hbx
 obtain⟨o0,o1,o2,o3,o4,o5,o6,o7,o8,o9,of⟩:=blk10 hbx
 have hbxl:=lt_of_block hbx
 have HPl:=hide hpl
 have HBx:=hide hbx
 obtain⟨d,rd,jp,rp,hw⟩:=hpl.sk
 have HW:=hide hw
 obtain⟨q0,q1,q2,q3,q4,q5,qf⟩:=blk6 hw.blk
 have hbl:=lt_of_block hw.blk
 have htB:C.Tab wB:=hT.below hpl.ev.bel hT.pos
 have hk0:KB 0=(0,0):=hpl.ev.k0 0 hT.pos
 have HO:=hide ho
 have HT:=hide htB
 have HK0:=hide hk0
 have HKx:Hid (KB bx=(0,0)):=by rw[←hbxe];exact hpl.kbx
 have HNp:Hid (¬Pk (c+1) (c+2) (c+5,0)):=fun e=>by
  rcases e with e | e | e
  ·have e':c+5=c+1:=e;omega
  ·simp at e
  ·simp at e
 obtain⟨jb,rb,hjp,hrp,hjk,hrj⟩:=hw.jk J hJ
 subst hjp
 subst hrp
 have hjo:=ho.jok J hJ
 have HJo:=hide hjo
 have HTw:=hide (fun q=>twins_all (wB.drewN q) pp kp cp parts hop.kp hop.kpl ((hop.pts.below hpl.ev.bel).drewN q) hop.sb)
 have HJk:=hide hjk
 have HRj:=hide hrj
 have hkpl:=hop.kpl
 have HJe:=hide hJ
 have hjlen:=hjo.len
 have hjsum:=hjo.sum
 have hjl:=hjo.last
 have hnm1:=(nm_len hjo.nm.1).2
 have hnm2:=(nm_len hjo.nm.2).2
 obtain⟨R,hR⟩:∃R,addR X.S J parts=R:=⟨_,rfl⟩
 have HR:=hide hR
 rw[hR]at HX
 clear hjk hrj hjo hJ hR
 clear hpl hbx hw htB hk0 h he hT ho hop
 go_enter Tryz.func9,Tryz.ntmps9
 go_wp2
 go_region_held3 (fun w'=>w'.cell? ⟨b,3,none⟩=some (.pointer (some ⟨jb,0,none⟩))∧w'.cell? ⟨bx,3,none⟩=some (.slice pp kp cp)) (first | (refine⟨?_,?_⟩ <;> assumption) | go_keep)
  (first
   | (go_at_call 13;refine HAd.out.mono ?_;rintro e w3 ⟨K3,rfl,hd3,hj3,hk3⟩;have HD3:=hide hd3;have HJ3:=hide hj3;have HK3:=hide hk3;have u3:w3.cell? ⟨b,3,none⟩=some (.pointer (some ⟨jb,0,none⟩)):=(World.cell?_of_block (hk3.block b hbl2 (by rw[HW2.out.kb];exact HNp.out))).trans s3;have u5:w3.cell? ⟨b,5,none⟩=some (.pointer (some ⟨rb,0,none⟩)):=(World.cell?_of_block (hk3.block b hbl2 (by rw[HW2.out.kb];exact HNp.out))).trans s5;have v3:w3.cell? ⟨bx,3,none⟩=some (.slice pp kp cp):=(World.cell?_of_block (hk3.block bx hbx2 (by rw[HKx2.out];exact fun e=>os_zero c (pk_os _ e)))).trans t3;clear hd3 hj3 hk3)
   | (go_at_call 24;refine(HTw.out 1).mono ?_;rintro e w2 ⟨a2,c2,rfl,hp2,hb2⟩;have HB2:=hide (below_un3 hb2);have hk2:=kp_below HB2.out (fun _=>False) KB (0,0);have HK2:=hide hk2;have HPl2:=hide (HPl.out.still hk2);have HW2:=hide (HW.out.kept hk2 (fun _ _ _ _ h=>h));have s3:=(HB2.out.cell (p:=⟨b,3,none⟩) hbl).trans q3;have s5:=(HB2.out.cell (p:=⟨b,5,none⟩) hbl).trans q5;have t3:=(HB2.out.cell (p:=⟨bx,3,none⟩) hbxl).trans o3;have hbl2:b<w2.heap.size:=Nat.lt_of_lt_of_le hbl HB2.out.size;have hbx2:bx<w2.heap.size:=Nat.lt_of_lt_of_le hbxl HB2.out.size;have HKx2:Hid (ext KB wB.heap.size (0,0) bx=(0,0)):=(ext_old KB _ hbxl).trans HKx.out;have HJ2:=hide (HJk.out.kept hk2 (fun _ h=>h));have HR2:=hide (HRj.out.kept hk2 (fun _ h=>h));have hT2:=HT.out.below HB2.out HT.out.pos;generalize ext KB wB.heap.size (0,0)=K2 at *;have hAd:=Add_any w2 K2 (c+1) (c+2) d jb (by omega) X.S J HW2.out.dk HO.out.ok.inv k HO.out.ok.sz (by omega) HJ2.out (by omega) (by omega) (by omega) (by omega) a2 kp c2 parts HOp.out.kp (by omega) hp2 hT2;rw[HR.out]at hAd;have HAd:=hide hAd;clear hp2 hb2 hk2 hT2 hAd HTw)
   | fail)
 have HPts:=hide (fun w' K' (hk:Kp (Two (c+3) (c+4)) K3 K' w3 w')=>(HOp.out.pts.below (((HPl2.out.ev.go HK3.out (fun e=>os_zero c (pk_os _ e))).go hk (fun e=>os_zero c (two_os _ e))).bel)))
 have n34:∀i q,i=3∨i=4→¬Pk (c+1) (c+2) (c+i,q):=fun i q hi e=>by
  rcases e with e | e | e
  ·have e':c+i=c+1:=e;omega
  ·simp at e;omega
  ·simp at e;omega
 have hT3:=HW2.out.tk.kept HK3.out (fun q=>n34 3 q (Or.inl rfl))
 have hR3:=HR2.out.kept HK3.out (fun q=>n34 4 q (Or.inr rfl))
 have hDc:=fun q=>radd_any (w3.drewN q) K3 (c+3) (c+4) rd rb (by omega) (by omega) X.S J k (tk_drew2 hT3 q) HO.out.ok (by omega) (hR3.kept ((Kp.refl (fun _=>False) K3 w3).drewN q) (fun _ h=>h)) k HJo.out (by omega) pp kp cp parts HOp.out.kp (by omega) (fun w' K' hk=>HPts.out w' K' (kp_un2 hk)) HOp.out.sb
 rw[HR.out]at hDc
 have HDc:=hide hDc
 have hb3:b<w3.heap.size:=Nat.lt_of_lt_of_le hbl2 HK3.out.size
 have hbx3:bx<w3.heap.size:=Nat.lt_of_lt_of_le hbx2 HK3.out.size
 obtain⟨er,her⟩:∃er,R.1=er:=⟨_,rfl⟩
 rw[her]
 have HEr:=hide her
 have hee:((er:Int) == (er:Int))=true:=by simp
 have HKb3:Hid (K3 b=(c+5,0)):=(HK3.out.same b hbl2).trans HW2.out.kb
 have HKx3:Hid (K3 bx=(0,0)):=(HK3.out.same bx hbx2).trans HKx2.out
 clear hT3 hR3 hDc n34 her HPts s3 s5 t3 q0 q1 q2 q3 q4 q5 qf o0 o1 o2 o3 o4 o5 o6 o7 o8 o9 of
 go_wp2
 go_region_held3 (fun w'=>w'.cell? ⟨b,5,none⟩=some (.pointer (some ⟨rb,0,none⟩))∧w'.cell? ⟨bx,3,none⟩=some (.slice pp kp cp)) (first | (refine⟨?_,?_⟩ <;> assumption) | go_keep)
  (first
   | (go_at_call 25;refine(HDc.out 1).mono ?_;rintro e w4 ⟨K4,rfl,ht4,hr4,hk4⟩;have HT4:=hide ht4;have HR4:=hide hr4;have HK4:=hide (kp_un2 hk4);have x5:w4.cell? ⟨b,5,none⟩=some (.pointer (some ⟨rb,0,none⟩)):=(World.cell?_of_block (HK4.out.block b hb3 (by rw[HKb3.out];exact fun e=>by rcases e with e | e;(have e':c+5=c+3:=e;omega);(have e':c+5=c+4:=e;omega)))).trans u5;have x3:w4.cell? ⟨bx,3,none⟩=some (.slice pp kp cp):=(World.cell?_of_block (HK4.out.block bx hbx3 (by rw[HKx3.out];exact fun e=>os_zero c (two_os _ e)))).trans v3;rw[HEr.out];clear ht4 hr4 hk4)
   | fail)
 go_wp2
 go_ret
 refine⟨K4,rfl,?_,((HPl2.out.kp.trans (HK3.out.mono pk_os)).trans (HK4.out.mono two_os))⟩
 rw[HX.out]
 exact⟨d,rd,_,_,HW2.out.kept2 HK3.out HD3.out HJ3.out HK4.out HT4.out HR4.out⟩
set_option maxHeartbeats 4000000 in
theorem plays_chkR (w0 w:World) (K:Knd) (c b:Nat) (X:Sd) (k:Nat) (he:Ev w0 w K) (hT:C.Tab w0) (h:Sk w K c b X) (ho:Sok X k) (hk:k≤274000000000) (o:Opj) (hop:OpjOk w0 o) (hdo:o.dv=3)(J:Jr) (hJ:X.j=some J) :
  Calls Tryz.prog 9 #[.pointer (some ⟨b,0,none⟩),.agg o.cells] w (SRes w K c b (X.play o) (.bool true)):=by
 obtain⟨on,dv,nmx,pp,kp,cp,parts,sp,bl,bc,xs,n,a1,a2,a3,qp,ql,qc,picks⟩:=o
 simp only at hdo
 subst hdo
 have HX:Hid (X.play ⟨on,3,nmx,pp,kp,cp,parts,sp,bl,bc,xs,n,a1,a2,a3,qp,ql,qc,picks⟩=X.kept (chkR X.S J parts)):=by show _=_;unfold Sd.play;simp[hJ]
 have HOp:=hide hop
 have hpl:=pl_box h he ⟨on,3,nmx,pp,kp,cp,parts,sp,bl,bc,xs,n,a1,a2,a3,qp,ql,qc,picks⟩
 simp only[Opj.cells]at hpl ⊢
 generalize hwB:w.alloc (.cells #[.int .i64 on,.int .i64 3,.string ⟨nmx.toArray⟩,.slice pp kp cp,.slice sp bl bc,.int .i64 n,.int .i64 a1,.int .i64 a2,.int .i64 a3,.slice qp ql qc] 37)=wB at *
 generalize ext K w.heap.size (0,0)=KB at *
 have hbx:=hpl.box
 simp only[Opj.cells]at hbx
 obtain⟨bx,hbxe⟩:∃bx,w.heap.size=bx:=⟨_,rfl⟩
 rw[hbxe]at hbx
 obtain⟨o0,o1,o2,o3,o4,o5,o6,o7,o8,o9,of⟩:=blk10 hbx
 have hbxl:=lt_of_block hbx
 have HPl:=hide hpl
 have HBx:=hide hbx
 obtain⟨d,rd,jp,rp,hw⟩:=hpl.sk
 have HW:=hide hw
 obtain⟨q0,q1,q2,q3,q4,q5,qf⟩:=blk6 hw.blk
 have hbl:=lt_of_block hw.blk
 have htB:C.Tab wB:=hT.below hpl.ev.bel hT.pos
 have hk0:KB 0=(0,0):=hpl.ev.k0 0 hT.pos
 have HO:=hide ho
 have HT:=hide htB
 have HK0:=hide hk0
 have HKx:Hid (KB bx=(0,0)):=by rw[←hbxe];exact hpl.kbx
 have HNp:Hid (¬Pk (c+1) (c+2) (c+5,0)):=fun e=>by
  rcases e with e | e | e
  ·have e':c+5=c+1:=e;omega
  ·simp at e
  ·simp at e
 obtain⟨jb,rb,hjp,hrp,hjk,hrj⟩:=hw.jk J hJ
 subst hjp
 subst hrp
 have hjo:=ho.jok J hJ
 have HJo:=hide hjo
 have HTw:=hide (fun q=>twins_all (wB.drewN q) pp kp cp parts hop.kp hop.kpl ((hop.pts.below hpl.ev.bel).drewN q) hop.sb)
 have HJk:=hide hjk
 have HRj:=hide hrj
 have hkpl:=hop.kpl
 have HJe:=hide hJ
 have hjlen:=hjo.len
 have hjsum:=hjo.sum
 have hjl:=hjo.last
 have hnm1:=(nm_len hjo.nm.1).2
 have hnm2:=(nm_len hjo.nm.2).2
 obtain⟨R,hR⟩:∃R,chkR X.S J parts=R:=⟨_,rfl⟩
 have HR:=hide hR
 rw[hR]at HX
 clear hjk hrj hjo hJ hR
 clear hpl hbx hw htB hk0 h he hT ho hop
 go_enter Tryz.func9,Tryz.ntmps9
 go_wp2
 go_region_held3 (fun w'=>w'.cell? ⟨b,3,none⟩=some (.pointer (some ⟨jb,0,none⟩))∧w'.cell? ⟨bx,3,none⟩=some (.slice pp kp cp)) (first | (refine⟨?_,?_⟩ <;> assumption) | go_keep)
  (first
   | (go_at_call 26;refine HAd.out.mono ?_;rintro e w3 ⟨K3,rfl,hd3,hj3,hk3⟩;have HD3:=hide hd3;have HJ3:=hide hj3;have HK3:=hide hk3;have u3:w3.cell? ⟨b,3,none⟩=some (.pointer (some ⟨jb,0,none⟩)):=(World.cell?_of_block (hk3.block b hbl2 (by rw[HW2.out.kb];exact HNp.out))).trans s3;have u5:w3.cell? ⟨b,5,none⟩=some (.pointer (some ⟨rb,0,none⟩)):=(World.cell?_of_block (hk3.block b hbl2 (by rw[HW2.out.kb];exact HNp.out))).trans s5;have v3:w3.cell? ⟨bx,3,none⟩=some (.slice pp kp cp):=(World.cell?_of_block (hk3.block bx hbx2 (by rw[HKx2.out];exact fun e=>os_zero c (pk_os _ e)))).trans t3;clear hd3 hj3 hk3)
   | (go_at_call 24;refine(HTw.out 1).mono ?_;rintro e w2 ⟨a2,c2,rfl,hp2,hb2⟩;have HB2:=hide (below_un3 hb2);have hk2:=kp_below HB2.out (fun _=>False) KB (0,0);have HK2:=hide hk2;have HPl2:=hide (HPl.out.still hk2);have HW2:=hide (HW.out.kept hk2 (fun _ _ _ _ h=>h));have s3:=(HB2.out.cell (p:=⟨b,3,none⟩) hbl).trans q3;have s5:=(HB2.out.cell (p:=⟨b,5,none⟩) hbl).trans q5;have t3:=(HB2.out.cell (p:=⟨bx,3,none⟩) hbxl).trans o3;have hbl2:b<w2.heap.size:=Nat.lt_of_lt_of_le hbl HB2.out.size;have hbx2:bx<w2.heap.size:=Nat.lt_of_lt_of_le hbxl HB2.out.size;have HKx2:Hid (ext KB wB.heap.size (0,0) bx=(0,0)):=(ext_old KB _ hbxl).trans HKx.out;have HJ2:=hide (HJk.out.kept hk2 (fun _ h=>h));have HR2:=hide (HRj.out.kept hk2 (fun _ h=>h));have hT2:=HT.out.below HB2.out HT.out.pos;generalize ext KB wB.heap.size (0,0)=K2 at *;have hAd:=Checkpoint_any w2 K2 (c+1) (c+2) d jb (by omega) X.S J HW2.out.dk HO.out.ok.inv k HO.out.ok.sz (by omega) HJ2.out hnm2 (by omega) (by omega) a2 kp c2 parts HOp.out.kp (by omega) hp2 hT2;rw[HR.out]at hAd;have HAd:=hide hAd;clear hp2 hb2 hk2 hT2 hAd HTw)
   | fail)
 have HPts:=hide (fun w' K' (hk:Kp (Two (c+3) (c+4)) K3 K' w3 w')=>(HOp.out.pts.below (((HPl2.out.ev.go HK3.out (fun e=>os_zero c (pk_os _ e))).go hk (fun e=>os_zero c (two_os _ e))).bel)))
 have n34:∀i q,i=3∨i=4→¬Pk (c+1) (c+2) (c+i,q):=fun i q hi e=>by
  rcases e with e | e | e
  ·have e':c+i=c+1:=e;omega
  ·simp at e;omega
  ·simp at e;omega
 have hT3:=HW2.out.tk.kept HK3.out (fun q=>n34 3 q (Or.inl rfl))
 have hR3:=HR2.out.kept HK3.out (fun q=>n34 4 q (Or.inr rfl))
 have hDc:=fun q=>rchk_any (w3.drewN q) K3 (c+3) (c+4) rd rb (by omega) (by omega) X.S J k (tk_drew2 hT3 q) HO.out.ok (by omega) (hR3.kept ((Kp.refl (fun _=>False) K3 w3).drewN q) (fun _ h=>h)) k HJo.out pp kp cp parts HOp.out.kp (by omega) (fun w' K' hk=>HPts.out w' K' (kp_un2 hk)) HOp.out.sb
 rw[HR.out]at hDc
 have HDc:=hide hDc
 have hb3:b<w3.heap.size:=Nat.lt_of_lt_of_le hbl2 HK3.out.size
 have hbx3:bx<w3.heap.size:=Nat.lt_of_lt_of_le hbx2 HK3.out.size
 obtain⟨er,her⟩:∃er,R.1=er:=⟨_,rfl⟩
 rw[her]
 have HEr:=hide her
 have hee:((er:Int) == (er:Int))=true:=by simp
 have HKb3:Hid (K3 b=(c+5,0)):=(HK3.out.same b hbl2).trans HW2.out.kb
 have HKx3:Hid (K3 bx=(0,0)):=(HK3.out.same bx hbx2).trans HKx2.out
 clear hT3 hR3 hDc n34 her HPts s3 s5 t3 q0 q1 q2 q3 q4 q5 qf o0 o1 o2 o3 o4 o5 o6 o7 o8 o9 of
 go_wp2
 go_region_held3 (fun w'=>w'.cell? ⟨b,5,none⟩=some (.pointer (some ⟨rb,0,none⟩))∧w'.cell? ⟨bx,3,none⟩=some (.slice pp kp cp)) (first | (refine⟨?_,?_⟩ <;> assumption) | go_keep)
  (first
   | (go_at_call 27;refine(HDc.out 1).mono ?_;rintro e w4 ⟨K4,rfl,ht4,hr4,hk4⟩;have HT4:=hide ht4;have HR4:=hide hr4;have HK4:=hide (kp_un2 hk4);have x5:w4.cell? ⟨b,5,none⟩=some (.pointer (some ⟨rb,0,none⟩)):=(World.cell?_of_block (HK4.out.block b hb3 (by rw[HKb3.out];exact fun e=>by rcases e with e | e;(have e':c+5=c+3:=e;omega);(have e':c+5=c+4:=e;omega)))).trans u5;have x3:w4.cell? ⟨bx,3,none⟩=some (.slice pp kp cp):=(World.cell?_of_block (HK4.out.block bx hbx3 (by rw[HKx3.out];exact fun e=>os_zero c (two_os _ e)))).trans v3;rw[HEr.out];clear ht4 hr4 hk4)
   | fail)
 go_wp2
 go_ret
 refine⟨K4,rfl,?_,((HPl2.out.kp.trans (HK3.out.mono pk_os)).trans (HK4.out.mono two_os))⟩
 rw[HX.out]
 exact⟨d,rd,_,_,HW2.out.kept2 HK3.out HD3.out HJ3.out HK4.out HT4.out HR4.out⟩
structure OpZ (o:Opj):Prop where
 kp:o.parts.length=o.kp
 kpl:o.kp≤5864062014805
 sb:∀p∈o.parts,∀x∈p,x<256
structure Plz (w wB:World) (K KB:Knd) (c b:Nat) (X:Sd) (o:Opj):Prop where
 sk:Sk wB KB c b X
 kp:Kp (Os c) K KB w wB
 box:wB.heap[w.heap.size]?=some (.cells o.cells 37 (0,0))
 kbx:KB w.heap.size=(0,0)
 pz:PtK wB KB (0,0) o.pp o.parts
 tb:C.Tab wB
 t0:KB 0=(0,0)
theorem Plz.still {w wB wC:World} {K KB KC:Knd} {c b:Nat} {X:Sd} {o:Opj} (h:Plz w wB K KB c b X o) (hk:Kp (fun _=>False) KB KC wB wC):Plz w wC K KC c b X o:=by
 have hl:=lt_of_block h.box
 exact⟨h.sk.still hk,h.kp.trans (kp_f hk),(hk.block _ hl (fun h=>h)).trans h.box,(hk.same _ hl).trans h.kbx,h.pz.kept hk (fun h=>h),tab_kq h.tb hk (fun h=>h),(hk.same 0 h.tb.pos).trans h.t0⟩
theorem plz_box {w:World} {K:Knd} {c b:Nat} {X:Sd} (h:Sk w K c b X) (hT:C.Tab w) (h0:K 0=(0,0)) (o:Opj) (hp:PtK w K (0,0) o.pp o.parts):Plz w (w.alloc (.cells o.cells 37)) K (ext K w.heap.size (0,0)) c b X o:=by
 have hb:Below w.heap.size w (w.alloc (.cells o.cells 37)):=(Below.refl _ _).alloc (Nat.le_refl _) _
 have hk:=kp_below hb (fun _=>False) K (0,0)
 exact⟨h.still hk,kp_f hk,heap_alloc_new _ _,ext_new K _ (Nat.le_refl _),hp.kept hk (fun h=>h),tab_kq hT hk (fun h=>h),(hk.same 0 hT.pos).trans h0⟩
set_option maxHeartbeats 4000000 in
theorem plays_addZ (w:World) (K:Knd) (c b:Nat) (X:Sd) (k:Nat) (hT:C.Tab w) (hK00:K 0=(0,0)) (h:Sk w K c b X) (ho:Sok X k) (hk:k≤274000000000) (o:Opj) (hop:OpZ o) (hpt:PtK w K (0,0) o.pp o.parts) (hdo:o.dv=2)(J:Jr) (hJ:X.j=some J) :
  Calls Tryz.prog 9 #[.pointer (some ⟨b,0,none⟩),.agg o.cells] w (SRes w K c b (X.play o) (.bool true)):=by
 obtain⟨on,dv,nmx,pp,kp,cp,parts,sp,bl,bc,xs,n,a1,a2,a3,qp,ql,qc,picks⟩:=o
 simp only at hdo
 subst hdo
 have HX:Hid (X.play ⟨on,2,nmx,pp,kp,cp,parts,sp,bl,bc,xs,n,a1,a2,a3,qp,ql,qc,picks⟩=X.kept (addR X.S J parts)):=by show _=_;unfold Sd.play;simp[hJ]
 have HOp:=hide hop
 have hpl:=plz_box h hT hK00 ⟨on,2,nmx,pp,kp,cp,parts,sp,bl,bc,xs,n,a1,a2,a3,qp,ql,qc,picks⟩ hpt
 simp only[Opj.cells]at hpl ⊢
 generalize hwB:w.alloc (.cells #[.int .i64 on,.int .i64 2,.string ⟨nmx.toArray⟩,.slice pp kp cp,.slice sp bl bc,.int .i64 n,.int .i64 a1,.int .i64 a2,.int .i64 a3,.slice qp ql qc] 37)=wB at *
 generalize ext K w.heap.size (0,0)=KB at *
 have hbx:=hpl.box
 simp only[Opj.cells]at hbx
 obtain⟨bx,hbxe⟩:∃bx,w.heap.size=bx:=⟨_,rfl⟩
 rw[hbxe]at hbx
 obtain⟨o0,o1,o2,o3,o4,o5,o6,o7,o8,o9,of⟩:=blk10 hbx
 have hbxl:=lt_of_block hbx
 have HPl:=hide hpl
 have HBx:=hide hbx
 obtain⟨d,rd,jp,rp,hw⟩:=hpl.sk
 have HW:=hide hw
 obtain⟨q0,q1,q2,q3,q4,q5,qf⟩:=blk6 hw.blk
 have hbl:=lt_of_block hw.blk
 have htB:C.Tab wB:=hpl.tb
 have hk0:KB 0=(0,0):=hpl.t0
 have HO:=hide ho
 have HT:=hide htB
 have HK0:=hide hk0
 have HKx:Hid (KB bx=(0,0)):=by rw[←hbxe];exact hpl.kbx
 have HNp:Hid (¬Pk (c+1) (c+2) (c+5,0)):=fun e=>by
  rcases e with e | e | e
  ·have e':c+5=c+1:=e;omega
  ·simp at e
  ·simp at e
 obtain⟨jb,rb,hjp,hrp,hjk,hrj⟩:=hw.jk J hJ
 subst hjp
 subst hrp
 have hjo:=ho.jok J hJ
 have HJo:=hide hjo
 have HTw:=hide (fun q=>twins_all (wB.drewN q) pp kp cp parts hop.kp hop.kpl (hpl.pz.pts.drewN q) hop.sb)
 have HJk:=hide hjk
 have HRj:=hide hrj
 have hkpl:=hop.kpl
 have HJe:=hide hJ
 have hjlen:=hjo.len
 have hjsum:=hjo.sum
 have hjl:=hjo.last
 have hnm1:=(nm_len hjo.nm.1).2
 have hnm2:=(nm_len hjo.nm.2).2
 obtain⟨R,hR⟩:∃R,addR X.S J parts=R:=⟨_,rfl⟩
 have HR:=hide hR
 rw[hR]at HX
 clear hjk hrj hjo hJ hR
 clear hpl hbx hw htB hk0 h hT ho hop hpt
 go_enter Tryz.func9,Tryz.ntmps9
 go_wp2
 go_region_held3 (fun w'=>w'.cell? ⟨b,3,none⟩=some (.pointer (some ⟨jb,0,none⟩))∧w'.cell? ⟨bx,3,none⟩=some (.slice pp kp cp)) (first | (refine⟨?_,?_⟩ <;> assumption) | go_keep)
  (first
   | (go_at_call 13;refine HAd.out.mono ?_;rintro e w3 ⟨K3,rfl,hd3,hj3,hk3⟩;have HD3:=hide hd3;have HJ3:=hide hj3;have HK3:=hide hk3;have u3:w3.cell? ⟨b,3,none⟩=some (.pointer (some ⟨jb,0,none⟩)):=(World.cell?_of_block (hk3.block b hbl2 (by rw[HW2.out.kb];exact HNp.out))).trans s3;have u5:w3.cell? ⟨b,5,none⟩=some (.pointer (some ⟨rb,0,none⟩)):=(World.cell?_of_block (hk3.block b hbl2 (by rw[HW2.out.kb];exact HNp.out))).trans s5;have v3:w3.cell? ⟨bx,3,none⟩=some (.slice pp kp cp):=(World.cell?_of_block (hk3.block bx hbx2 (by rw[HKx2.out];exact fun e=>os_zero c (pk_os _ e)))).trans t3;clear hd3 hj3 hk3)
   | (go_at_call 24;refine(HTw.out 1).mono ?_;rintro e w2 ⟨a2,c2,rfl,hp2,hb2⟩;have HB2:=hide (below_un3 hb2);have hk2:=kp_below HB2.out (fun _=>False) KB (0,0);have HK2:=hide hk2;have HPl2:=hide (HPl.out.still hk2);have HW2:=hide (HW.out.kept hk2 (fun _ _ _ _ h=>h));have s3:=(HB2.out.cell (p:=⟨b,3,none⟩) hbl).trans q3;have s5:=(HB2.out.cell (p:=⟨b,5,none⟩) hbl).trans q5;have t3:=(HB2.out.cell (p:=⟨bx,3,none⟩) hbxl).trans o3;have hbl2:b<w2.heap.size:=Nat.lt_of_lt_of_le hbl HB2.out.size;have hbx2:bx<w2.heap.size:=Nat.lt_of_lt_of_le hbxl HB2.out.size;have HKx2:Hid (ext KB wB.heap.size (0,0) bx=(0,0)):=(ext_old KB _ hbxl).trans HKx.out;have HJ2:=hide (HJk.out.kept hk2 (fun _ h=>h));have HR2:=hide (HRj.out.kept hk2 (fun _ h=>h));have hT2:=HT.out.below HB2.out HT.out.pos;generalize ext KB wB.heap.size (0,0)=K2 at *;have hAd:=Add_any w2 K2 (c+1) (c+2) d jb (by omega) X.S J HW2.out.dk HO.out.ok.inv k HO.out.ok.sz (by omega) HJ2.out (by omega) (by omega) (by omega) (by omega) a2 kp c2 parts HOp.out.kp (by omega) hp2 hT2;rw[HR.out]at hAd;have HAd:=hide hAd;clear hp2 hb2 hk2 hT2 hAd HTw)
   | fail)
 have HPts:=hide (fun w' K' (hk:Kp (Two (c+3) (c+4)) K3 K' w3 w')=>((HPl2.out.pz.kept HK3.out (fun e=>os_zero c (pk_os _ e))).kept hk (fun e=>os_zero c (two_os _ e))).pts)
 have n34:∀i q,i=3∨i=4→¬Pk (c+1) (c+2) (c+i,q):=fun i q hi e=>by
  rcases e with e | e | e
  ·have e':c+i=c+1:=e;omega
  ·simp at e;omega
  ·simp at e;omega
 have hT3:=HW2.out.tk.kept HK3.out (fun q=>n34 3 q (Or.inl rfl))
 have hR3:=HR2.out.kept HK3.out (fun q=>n34 4 q (Or.inr rfl))
 have hDc:=fun q=>radd_any (w3.drewN q) K3 (c+3) (c+4) rd rb (by omega) (by omega) X.S J k (tk_drew2 hT3 q) HO.out.ok (by omega) (hR3.kept ((Kp.refl (fun _=>False) K3 w3).drewN q) (fun _ h=>h)) k HJo.out (by omega) pp kp cp parts HOp.out.kp (by omega) (fun w' K' hk=>HPts.out w' K' (kp_un2 hk)) HOp.out.sb
 rw[HR.out]at hDc
 have HDc:=hide hDc
 have hb3:b<w3.heap.size:=Nat.lt_of_lt_of_le hbl2 HK3.out.size
 have hbx3:bx<w3.heap.size:=Nat.lt_of_lt_of_le hbx2 HK3.out.size
 obtain⟨er,her⟩:∃er,R.1=er:=⟨_,rfl⟩
 rw[her]
 have HEr:=hide her
 have hee:((er:Int) == (er:Int))=true:=by simp
 have HKb3:Hid (K3 b=(c+5,0)):=(HK3.out.same b hbl2).trans HW2.out.kb
 have HKx3:Hid (K3 bx=(0,0)):=(HK3.out.same bx hbx2).trans HKx2.out
 clear hT3 hR3 hDc n34 her HPts s3 s5 t3 q0 q1 q2 q3 q4 q5 qf o0 o1 o2 o3 o4 o5 o6 o7 o8 o9 of
 go_wp2
 go_region_held3 (fun w'=>w'.cell? ⟨b,5,none⟩=some (.pointer (some ⟨rb,0,none⟩))∧w'.cell? ⟨bx,3,none⟩=some (.slice pp kp cp)) (first | (refine⟨?_,?_⟩ <;> assumption) | go_keep)
  (first
   | (go_at_call 25;refine(HDc.out 1).mono ?_;rintro e w4 ⟨K4,rfl,ht4,hr4,hk4⟩;have HT4:=hide ht4;have HR4:=hide hr4;have HK4:=hide (kp_un2 hk4);have x5:w4.cell? ⟨b,5,none⟩=some (.pointer (some ⟨rb,0,none⟩)):=(World.cell?_of_block (HK4.out.block b hb3 (by rw[HKb3.out];exact fun e=>by rcases e with e | e;(have e':c+5=c+3:=e;omega);(have e':c+5=c+4:=e;omega)))).trans u5;have x3:w4.cell? ⟨bx,3,none⟩=some (.slice pp kp cp):=(World.cell?_of_block (HK4.out.block bx hbx3 (by rw[HKx3.out];exact fun e=>os_zero c (two_os _ e)))).trans v3;rw[HEr.out];clear ht4 hr4 hk4)
   | fail)
 go_wp2
 go_ret
 refine⟨K4,rfl,?_,((HPl2.out.kp.trans (HK3.out.mono pk_os)).trans (HK4.out.mono two_os))⟩
 rw[HX.out]
 exact⟨d,rd,_,_,HW2.out.kept2 HK3.out HD3.out HJ3.out HK4.out HT4.out HR4.out⟩
set_option maxHeartbeats 4000000 in
theorem plays_noneZ (w:World) (K:Knd) (c b:Nat) (X:Sd) (k:Nat) (hT:C.Tab w) (hK00:K 0=(0,0)) (h:Sk w K c b X) (ho:Sok X k) (_hk:k≤274000000000) (o:Opj) (hop:OpZ o) (hpt:PtK w K (0,0) o.pp o.parts) (hdo:o.dv=2)(hJ:X.j=none) :
  Calls Tryz.prog 9 #[.pointer (some ⟨b,0,none⟩),.agg o.cells] w (SRes w K c b (X.play o) (.bool true)):=by
 obtain⟨on,dv,nmx,pp,kp,cp,parts,sp,bl,bc,xs,n,a1,a2,a3,qp,ql,qc,picks⟩:=o
 simp only at hdo
 subst hdo
 have HX:Hid (X.play ⟨on,2,nmx,pp,kp,cp,parts,sp,bl,bc,xs,n,a1,a2,a3,qp,ql,qc,picks⟩=X):=by show _=_;unfold Sd.play;simp[hJ]
 have HOp:=hide hop
 have hpl:=plz_box h hT hK00 ⟨on,2,nmx,pp,kp,cp,parts,sp,bl,bc,xs,n,a1,a2,a3,qp,ql,qc,picks⟩ hpt
 simp only[Opj.cells]at hpl ⊢
 generalize hwB:w.alloc (.cells #[.int .i64 on,.int .i64 2,.string ⟨nmx.toArray⟩,.slice pp kp cp,.slice sp bl bc,.int .i64 n,.int .i64 a1,.int .i64 a2,.int .i64 a3,.slice qp ql qc] 37)=wB at *
 generalize ext K w.heap.size (0,0)=KB at *
 have hbx:=hpl.box
 simp only[Opj.cells]at hbx
 obtain⟨bx,hbxe⟩:∃bx,w.heap.size=bx:=⟨_,rfl⟩
 rw[hbxe]at hbx
 obtain⟨o0,o1,o2,o3,o4,o5,o6,o7,o8,o9,of⟩:=blk10 hbx
 have hbxl:=lt_of_block hbx
 have HPl:=hide hpl
 have HBx:=hide hbx
 obtain⟨d,rd,jp,rp,hw⟩:=hpl.sk
 have HW:=hide hw
 obtain⟨q0,q1,q2,q3,q4,q5,qf⟩:=blk6 hw.blk
 have hbl:=lt_of_block hw.blk
 have htB:C.Tab wB:=hpl.tb
 have hk0:KB 0=(0,0):=hpl.t0
 have HO:=hide ho
 have HT:=hide htB
 have HK0:=hide hk0
 obtain⟨hjp,hrp⟩:=hw.no hJ
 subst hjp
 clear hpl hbx hw htB hk0 h hT ho hop hpt
 go_enter Tryz.func9,Tryz.ntmps9
 go_wp2
 go_ret
 exact⟨KB,rfl,by rw[HX.out];exact HPl.out.sk,HPl.out.kp⟩
end Go.Proofs.YtcceejdaokoihaaGreatDoor
