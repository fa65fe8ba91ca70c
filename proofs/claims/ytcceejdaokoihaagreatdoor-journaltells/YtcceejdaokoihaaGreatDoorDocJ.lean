import Derived.Deep.RegionLaw
import Derived.Test.YtcceejdaokoihaaGreatDoorDocI
set_option maxRecDepth 100000
namespace Go.Proofs.YtcceejdaokoihaaGreatDoor
open Go.RowKit Go.Maps
theorem Tryz.infoTu:(Tryz.prog.info? 145).map (fun i=>(i.zero,i.size,i.bytes))=some (some (.agg #[.bool false,.int .u8 0,.int .i64 0]),3,16):=by kernel_rfl
theorem fvs_set1:∀(fs:List (Value × Value)) (i:Nat) (p:Value × Value) (y:Value),fs[i]?=some p→(fvs fs).set (i*2+1) y=fvs (fs.set i (p.1,y))
 | [],i,p,y,h=>by simp at h
 | a :: l,0,p,y,h=>by simp at h;subst h;rfl
 | a :: l,i+1,p,y,h=>by
  have ih:=fvs_set1 l i p y (by simpa using h)
  have e:(i+1)*2+1=(i*2+1)+1+1:=by omega
  show (a.1 :: a.2 :: fvs l).set ((i+1)*2+1) y=a.1 :: a.2 :: fvs (l.set i (p.1,y))
  rw[e,List.set_cons_succ,List.set_cons_succ,ih]
theorem fvs_set0:∀(fs:List (Value × Value)) (i:Nat) (p:Value × Value) (y:Value),fs[i]?=some p→(fvs fs).set (i*2) y=fvs (fs.set i (y,p.2))
 | [],i,p,y,h=>by simp at h
 | a :: l,0,p,y,h=>by simp at h;subst h;rfl
 | a :: l,i+1,p,y,h=>by
  have ih:=fvs_set0 l i p y (by simpa using h)
  have e:(i+1)*2=(i*2)+1+1:=by omega
  show (a.1 :: a.2 :: fvs l).set ((i+1)*2) y=a.1 :: a.2 :: fvs (l.set i (y,p.2))
  rw[e,List.set_cons_succ,List.set_cons_succ,ih]
theorem Tm.turnF {w w1 w2:World} {K K1:Knd} {o d:Nat} {fv sv cv:Value} {fs:List (Value × Value)} {S:St} (h:Tm w K o d fv sv cv fs S) {i:Nat} {f:Fil} {p':Value × Value} (hf:S.files[i]?=some f)
  (k1:Kp (fun k=>k=(o,10+2*i)∨k=(o,11+2*i)) K K1 w w1) (f':Fil) (r1:Rk w1 K1 (o,10+2*i) 5 1 p'.1 f'.safe.length (vals f'.safe)) (r2:Rk w1 K1 (o,11+2*i) 145 3 p'.2 f'.units.length (uvs f'.units))
  (k2:Kp (fun k=>k=(o,2)) K1 K1 w1 w2) (hr:Rk w2 K1 (o,2) 141 2 fv S.files.length (fvs (fs.set i p'))):Tk w2 K1 o d (S.turn i f')∧Kp (Ow o) K K1 w w2:=by
 have hdl:=lt_of_block h.blk
 have hil:i<S.files.length:=(List.getElem?_eq_some_iff.1 hf).1
 have hd1:w1.heap[d]?=_:=(k1.block d hdl (by rw[h.kd];simp;omega)).trans h.blk
 have hk1:K1 d=(o,1):=(k1.same d hdl).trans h.kd
 have hd2:w2.heap[d]?=_:=(k2.block d (lt_of_block hd1) (by rw[hk1];simp)).trans hd1
 refine⟨⟨fv,sv,cv,fs.set i p',⟨hd2,hk1,by simp[St.turn,h.flen],?_,fun j g q h1 h2=>?_,(h.sure.kept k1 (by simp;omega)).kept k2 (by simp),(h.chgs.kept k1 (by simp;omega)).kept k2 (by simp),h.real⟩⟩,(k1.mono (q:=Ow o) (fun k e=>by rcases e with e | e <;> rw[e])).trans (k2.mono (fun k e=>by rw[e]))⟩
 ·have e:(S.turn i f').files.length=S.files.length:=by simp[St.turn]
  rw[e]
  exact hr
 ·have h1':(S.files.set i f')[j]?=some g:=h1
  by_cases e:j=i
  ·subst e
   rw[List.getElem?_set_self (by omega)]at h1'
   rw[List.getElem?_set_self (by rw[h.flen];omega)]at h2
   cases h1'
   cases h2
   exact⟨r1.kept k2 (snd_ne (by omega)),r2.kept k2 (snd_ne (by omega))⟩
  ·rw[List.getElem?_set_ne (fun e2=>e e2.symm)]at h1' h2
   obtain⟨x1,x2⟩:=h.file j g q h1' h2
   exact⟨(x1.kept k1 (by simp;omega)).kept k2 (snd_ne (by omega)),(x2.kept k1 (by simp;omega)).kept k2 (snd_ne (by omega))⟩
theorem grown_drew {w w1:World} {u:Obj} {r:Option Nat} (h:((w.alloc u).drew).grownBy w1 r):(w.alloc u).grownBy w1 r:=⟨h.os,h.tape,h.output,h.size,h.block⟩
theorem uvs_app (l m:List Int):uvs (l++m)=uvs l++uvs m:=by simp[uvs]
theorem Tm.unit {w w1:World} {K:Knd} {o d gf cf:Nat} {sv cv:Value} {fs:List (Value × Value)} {S:St} (h:Tm w K o d (.slice (some ⟨gf,0,none⟩) S.files.length cf) sv cv fs S) {i:Nat} {f:Fil} {p:Value × Value} (hf:S.files[i]?=some f) (hp:fs[i]?=some p) (z:Int) {uo:Obj} {g' cap':Nat}
  (ho:w1.ownsRow 0 145 3 (.slice (some ⟨g',0,none⟩) (f.units.length+1) cap') (f.units.length+1) (uvs f.units++uv z)) (hg:((w.alloc uo).drew).grownBy w1 p.2.ownBlock) (hat:p.2.ownBlock=some g'∨g'=((w.alloc uo).drew).heap.size) :
  Tk (w1.setCell ⟨gf,i*2+1,none⟩ (.slice (some ⟨g',0,none⟩) (f.units.length+1) cap')) (ext K w.heap.size (o,11+2*i)) o d (S.turn i ⟨f.safe,f.units++[z]⟩)∧Kp (Ow o) K (ext K w.heap.size (o,11+2*i)) w (w1.setCell ⟨gf,i*2+1,none⟩ (.slice (some ⟨g',0,none⟩) (f.units.length+1) cap')):=by
 obtain⟨x1,x2⟩:=h.file i f p hf hp
 have k0:=kp_row x2 (grown_drew hg)
 have k1:=k0.mono (q:=fun k=>k=(o,10+2*i)∨k=(o,11+2*i)) (fun _ e=>Or.inr e)
 have hfr:=h.files.kept k0 (snd_ne (by omega))
 have hkg:ext K w.heap.size (o,11+2*i) gf=(o,2):=hfr.kind gf rfl
 have k2:Kp (fun k=>k=(o,2)) (ext K w.heap.size (o,11+2*i)) (ext K w.heap.size (o,11+2*i)) w1 (w1.setCell ⟨gf,i*2+1,none⟩ (.slice (some ⟨g',0,none⟩) (f.units.length+1) cap')):=(Kp.refl (fun k=>k=(o,2)) (ext K w.heap.size (o,11+2*i)) w1).setCell (b:=gf) (Or.inr hkg) _ _
 refine h.turnF (p':=(p.1,.slice (some ⟨g',0,none⟩) (f.units.length+1) cap')) hf k1 ⟨f.safe,f.units++[z]⟩ (x1.kept k0 (snd_ne (by omega))) ?_ k2 ?_
 ·have hr:=rk_grew x2 ho hat
  have e:(f.units++[z]).length=f.units.length+1:=by simp
  show Rk _ _ _ _ _ _ (f.units++[z]).length (uvs (f.units++[z]))
  rw[e,uvs_app]
  have e2:uvs [z]=uv z:=by simp[uvs]
  rw[e2]
  exact hr
 ·have hs:=hfr.own.stored (i*2+1) (.slice (some ⟨g',0,none⟩) (f.units.length+1) cap')
  rw[fvs_set1 fs i p _ hp]at hs
  exact⟨hs.1,fun g e=>hfr.kind g e⟩
set_option maxHeartbeats 2000000 in
theorem tcut_any (w:World) (K:Knd) (o d:Nat) (S:St) (h:Tk w K o d S) (hv:Inv S) (hb:Fb S) (h1:S.strokes≤1099511627776) (h2:S.planned≤1099511627776) (x:Nm) (n:Int) :
  Calls Tryz.prog 56 #[.pointer (some ⟨d,0,none⟩),.string ⟨x.toArray⟩,.int .i64 n] w fun e w'=>∃K',e=.returned (.int .i64 ((S.cutR x n).1:Int))∧Tk w' K' o d (S.cutR x n).2∧Kp (Ow o) K K' w w':=by
 obtain⟨i0,hi,hz0,hz1,hz2⟩:=info_parts Tryz.infoTu
 have HF:=hide (rfind_any w K o d S h hv hb x)
 have HT:=hide h
 have HBf:=hide hb
 by_cases he:S.err x=0
 ·obtain⟨hoff,hnm,i,hl⟩:=err_zero he
  have hil:i<S.files.length:=(hv.ins (x,i) ((look_mem hv.srt).1 hl)).1
  obtain⟨f,hf⟩:∃f,S.files[i]?=some f:=⟨_,List.getElem?_eq_getElem hil⟩
  have hfi:S.file i=f:=by unfold St.file;rw[hf];rfl
  have hfn:S.fnd x=(i:Int):=by unfold St.fnd;rw[if_pos he,hl];rfl
  have hr:S.cutR x n=if n<0∨(f.all.length:Int)<n then (43,S) else (S.power,S.stroked.turn i (f.cut n.toNat)):=by
   unfold St.cutR
   rw[if_neg (by omega)]
   simp only[hl,Option.getD_some,hfi]
  have hfb:=hb.fl f (List.mem_of_getElem? hf)
  have HBy:=hide (fun w1 K1 h1=>bytesOf_any w1 K1 o d S h1 i f hf HBf.out)
  rw[hfn,he]at HF
  rw[hr]
  clear h hv hb hfn hr he hl hnm hfi
  obtain⟨L,hL⟩:∃L,f.all.length=L:=⟨_,rfl⟩
  rw[hL]at HBy
  rw[hL]
  have HL:=hide hL
  clear hL
  obtain⟨R,hR⟩:∃R,(if n<0∨(L:Int)<n then (43,S) else (S.power,S.stroked.turn i (f.cut n.toNat)))=R:=⟨_,rfl⟩
  rw[hR]
  have HR:=hide hR
  clear hR
  go_enter Tryz.func56,Tryz.ntmps56
  go_wp2_with fail
  refine HF.out.mono ?_
  rintro e w1 ⟨rfl,hb1⟩
  have HT1:=hide (HT.out.kept (kp_below hb1 (fun _=>False) K (0,0)) (fun _ h=>h))
  have HK1:=hide (kp_below hb1 (Ow o) K (0,0))
  have HC:=hide (HBy.out w1 _ HT1.out)
  clear hb1 HF HBy
  go_wp2_with fail
  refine HC.out.mono ?_
  rintro e w2 ⟨a2,c2,rfl,hl2⟩
  have hb2:=hl2.bel
  have HT2:=hide (HT1.out.kept (kp_below hb2 (fun _=>False) _ (0,0)) (fun _ h=>h))
  have HK2:=hide (HK1.out.trans (kp_below hb2 (Ow o) _ (0,0)))
  generalize ext (ext K w.heap.size (0,0)) w1.heap.size (0,0)=K2 at *
  clear hl2 hb2 HC HT1 HK1
  by_cases hbad:n<0∨(L:Int)<n
  ·obtain rfl:R=(43,S):=by rw[←HR.out,if_pos hbad]
   by_cases hn0:n<0
   ·go_wp2
    go_ret
    first | exact⟨_,rfl,HT2.out,HK2.out⟩ | exact⟨rfl,_,HT2.out,HK2.out⟩
   ·have hgt:(L:Int)<n:=by omega
    go_wp2
    go_ret
    first | exact⟨_,rfl,HT2.out,HK2.out⟩ | exact⟨rfl,_,HT2.out,HK2.out⟩
  have HR2:Hid (R=(S.power,S.stroked.turn i (f.cut n.toNat))):=by show _=_;rw[←HR.out,if_neg hbad]
  have hn0:¬n<0:=by omega
  have hgt:¬(L:Int)<n:=by omega
  obtain⟨m,rfl⟩:∃m:Nat,n=(m:Int):=⟨n.toNat,by omega⟩
  rw[Int.toNat_natCast]at HR2
  by_cases hlt:m<L
  ·have hlt':(m:Int)<(L:Int):=by omega
   have HCu:Hid (f.cut m=⟨f.safe,f.units++[-1 - (m:Int)]⟩):=by show _=_;unfold Fil.cut;rw[HL.out,if_pos hlt]
   rw[HCu.out]at HR2
   obtain rfl:=HR2.out
   obtain⟨fv,sv,cv,fs,hm⟩:=HT2.out
   obtain⟨p,hp⟩:∃p,fs[i]?=some p:=⟨_,List.getElem?_eq_getElem (by rw[hm.flen];exact hil)⟩
   obtain⟨r1,r2⟩:=hm.file i f p hf hp
   obtain⟨sv',uv'⟩:=p
   simp only at r1 r2
   obtain⟨au,cu,rfl,hcu1,hcu2⟩:=r2.form
   obtain⟨af,cf,rfl,_,_⟩:=hm.files.form
   have hbl:=hm.blk
   unfold tcells at hbl
   obtain⟨q0,q1,q2,q3,q4,q5,q6,q7,q8,q9,qf⟩:=blk10 hbl
   have hdl:=lt_of_block hbl
   have hfc:(fvs fs).length=S.files.length*2:=by rw[←hm.flen];exact flat_len _ 2 (fun _=>rfl) _
   obtain⟨gf,e1,hkg,hgf,hcl⟩:∃g,af=some ⟨g,0,none⟩∧K2 g=(o,2)∧g<w2.heap.size∧∀(j:Nat) (u:Value),(fvs fs)[j]?=some u→w2.cell? ⟨g,j,none⟩=some u:=by
    rcases rk_cells hm.files hfc with e | h
    ·rw[e]at hfc;simp at hfc;omega
    ·exact h
   subst e1
   have z1:=hcl (i*2+1) _ (by unfold fvs;rw[flat_at _ 2 (fun _=>rfl) fs i _ hp 1 (by omega)];rfl)
   have i1:(0:Int)≤(i:Int):=by omega
   have i2:(i:Int)<(S.files.length:Int):=by omega
   have HM:=hide hm
   have HBl:=hide hbl
   have HP:=hide hp
   have HF':=hide hf
   have HO:=hide r2.own
   have hul:=hfb.2.2
   have hun:=fun w3 g' cap' ho hg hat=>hm.unit hf hp (-1 - (m:Int)) (w1:=w3) (uo:=.cells #[.bool true,.int .u8 0,.int .i64 (m:Int)] 145) (g':=g') (cap':=cap') ho hg hat
   have huv:uv (-1 - (m:Int))=[.bool true,.int .u8 0,.int .i64 (m:Int)]:=by unfold uv;rw[if_pos (by omega)];simp;omega
   rw[huv]at hun
   have HUn:=hide hun
   obtain⟨cur,hcur⟩:∃cur,w2.heap[gf]?=some (.cells cur 141 (0,0)):=by
    rcases hm.files.own.2 with ⟨e,_⟩ | ⟨g,cap,cur,e,_,hg,_⟩
    ·cases e
    ·cases e;exact⟨cur,hg⟩
   have HCur:=hide hcur
   have HR2:=hide r2
   obtain⟨nu,hnu⟩:∃nu,f.units.length=nu:=⟨_,rfl⟩
   rw[hnu]at z1 HO hul HUn HR2
   have HNu:=hide hnu
   have HAt:Hid (∀w4:World,((w2.alloc (.cells #[.bool true,.int .u8 0,.int .i64 (m:Int)] 145)).drew).grownBy w4 (Value.slice au nu cu).ownBlock→w4.cell? ⟨gf,i*2+1,none⟩=some (.slice au nu cu)∧(∀t,w4.frozen? ⟨gf,t,none⟩=false)∧w4.cell? ⟨d,2,none⟩=some (.slice (some ⟨gf,0,none⟩) S.files.length cf)):=fun w4 hgr=>by
    have hg4:w4.heap[gf]?=some (.cells cur 141 (0,0)):=((kp_row HR2.out (grown_drew hgr)).block gf hgf (by rw[hkg];exact snd_ne (by omega))).trans HCur.out
    exact⟨(World.cell?_of_block (hg4.trans HCur.out.symm)).trans z1,fun t=>by simp[World.frozen?,hg4],(World.cell?_of_block ((kp_row HR2.out (grown_drew hgr)).block d hdl (by rw[HM.out.kd];exact snd_ne (by omega)))).trans q2⟩
   clear hm hbl hcl hfc r1 r2 hun huv hnu hcur hf hp
   go_wp2
   go_region_law (first | (refine step_append_lies _ (by rfl) (.tmp 45) (.tmp 48) 139 (by rfl) 0 145 i0 _ 3 16 Tryz.underlying139 hi hz0 hz1 hz2 rfl (by omega) (.slice au nu cu) nu (uvs f.units) (by rfl) ((HO.out.alloc _).drew) ⟨w2.heap.size,0,none⟩ 1 1 [.bool true,.int .u8 0,.int .i64 (m:Int)] (by rfl) rfl (World.news_of_block (heap_alloc_new w2 (.cells #[.bool true,.int .u8 0,.int .i64 (m:Int)] 145))) (by simp[Value.oneCell']) (by omega) (by unfold maxLen;omega) (by omega) (by omega) _ rfl ?_;intro g' cap' w4 hown4 hgrow4 hat4 hltg;obtain⟨hz4,hf4,hd4⟩:=HAt.out w4 hgrow4))
   all_goals
    obtain⟨ht3,hk3⟩:=HUn.out w4 g' cap' hown4 hgrow4 hat4
    have HSt:=hide (tstroke_any _ _ o d _ ht3 hoff h1 h2)
    have HK3:=hide hk3
    clear ht3 hk3
    go_wp2_with fail
    refine HSt.out.mono ?_
    rintro e w5 ⟨rfl,ht4,hk4⟩
    have HT4:=hide ht4
    have HK4:=hide (hk4.mono (q:=Ow o) (fun k e=>by rw[e]))
    clear ht4 hk4
    go_wp2
    go_ret
    first | exact⟨_,rfl,HT4.out,(HK2.out.trans HK3.out).trans HK4.out⟩ | exact⟨rfl,_,HT4.out,(HK2.out.trans HK3.out).trans HK4.out⟩
  ·have hlt':¬(m:Int)<(L:Int):=by omega
   have HCu:Hid (f.cut m=f):=by show _=_;unfold Fil.cut;rw[HL.out,if_neg hlt]
   rw[HCu.out]at HR2
   have HTe:Hid (S.stroked.turn i f=S.stroked):=by
    show _=_
    unfold St.turn
    have e:S.stroked.files.set i f=S.stroked.files:=by
     apply List.ext_getElem?
     intro j
     by_cases e:j=i
     ·subst e
      rw[List.getElem?_set_self (show j<S.stroked.files.length from hil)]
      exact hf.symm
     ·rw[List.getElem?_set_ne (fun e2=>e e2.symm)]
    rw[e]
   rw[HTe.out]at HR2
   obtain rfl:=HR2.out
   have HSt:=hide (tstroke_any w2 K2 o d S HT2.out hoff h1 h2)
   clear hf hbad
   go_wp2_with fail
   refine HSt.out.mono ?_
   rintro e w4 ⟨rfl,ht4,hk4⟩
   have HT4:=hide ht4
   have HK4:=hide (hk4.mono (q:=Ow o) (fun k e=>by rw[e]))
   clear ht4 hk4
   go_wp2
   go_ret
   first | exact⟨_,rfl,HT4.out,HK2.out.trans HK4.out⟩ | exact⟨rfl,_,HT4.out,HK2.out.trans HK4.out⟩
 ·have hr:S.cutR x n=(S.err x,S):=by unfold St.cutR;rw[if_pos he]
  rw[hr]
  have hne:((S.err x:Int) != 0)=true:=by simp;omega
  have hne2:¬(S.err x:Int)=0:=by omega
  clear h hv hb he hr
  generalize S.err x=E at *
  generalize S.fnd x=F at *
  go_enter Tryz.func56,Tryz.ntmps56
  go_wp2_with fail
  refine HF.out.mono ?_
  rintro e w1 ⟨rfl,hb1⟩
  have HK1:=hide (kp_below hb1 (Ow o) K (0,0))
  have HT1:=hide (HT.out.kept (kp_below hb1 (fun _=>False) K (0,0)) (fun _ h=>h))
  clear hb1
  go_wp2
  go_ret
  exact⟨_,rfl,HT1.out,HK1.out⟩
end Go.Proofs.YtcceejdaokoihaaGreatDoor
