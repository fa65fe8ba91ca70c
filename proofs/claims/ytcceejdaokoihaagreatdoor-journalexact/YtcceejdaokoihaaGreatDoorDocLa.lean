import Derived.Test.YtcceejdaokoihaaGreatDoorDocJ
import Derived.Test.YtcceejdaokoihaaGreatDoorCrash
import Derived.Deep.DeepCutAuto
import Derived.Deep.CutRange
set_option maxRecDepth 100000
namespace Go.Proofs.YtcceejdaokoihaaGreatDoor
open Go.RowKit Go.Maps
theorem Tm.synced {w w1 w2:World} {K:Knd} {o d gf cf:Nat} {sv cv:Value} {fs:List (Value × Value)} {S:St} (h:Tm w K o d (.slice (some ⟨gf,0,none⟩) S.files.length cf) sv cv fs S) {i:Nat} {f:Fil} {p:Value × Value} (hf:S.files[i]?=some f) (hp:fs[i]?=some p) {a:Option Addr} {c:Nat} (hl:C.Lr w w1 a f.all.length c f.all)
  (hw:w2=(w1.setCell ⟨gf,i*2,none⟩ (.slice a f.all.length c)).setCell ⟨gf,i*2+1,none⟩ (.slice none 0 0)):Tk w2 (ext K w.heap.size (o,10+2*i)) o d (S.turn i f.settled)∧Kp (Ow o) K (ext K w.heap.size (o,10+2*i)) w w2:=by
 subst hw
 have k0:=kp_below hl.bel (fun _=>False) K (o,10+2*i)
 have k1:=k0.mono (q:=fun k=>k=(o,10+2*i)∨k=(o,11+2*i)) (fun _ e=>e.elim)
 have hfr:=h.files.kept k0 (fun e=>e)
 have hkg:ext K w.heap.size (o,10+2*i) gf=(o,2):=hfr.kind gf rfl
 have k2:Kp (fun k=>k=(o,2)) (ext K w.heap.size (o,10+2*i)) (ext K w.heap.size (o,10+2*i)) w1 ((w1.setCell ⟨gf,i*2,none⟩ (.slice a f.all.length c)).setCell ⟨gf,i*2+1,none⟩ (.slice none 0 0)):=((Kp.refl (fun k=>k=(o,2)) (ext K w.heap.size (o,10+2*i)) w1).setCell (b:=gf) (Or.inr hkg) _ _).setCell (b:=gf) (Or.inr hkg) _ _
 refine h.turnF (p':=(.slice a f.all.length c,.slice none 0 0)) hf k1 f.settled ⟨⟨hl.own.1,hl.own.2.imp id fun ⟨g,cap,cur,e1,_,r⟩=>⟨g,cap,cur,e1,Nat.zero_le _,r⟩⟩,fun g e=>ext_new _ _ (C.owns_bs hl.own e)⟩ ⟨⟨rfl,Or.inl ⟨rfl,rfl⟩⟩,fun g e=>by simp[Value.ownBlock]at e⟩ k2 ?_
 have hs:=(hfr.own.stored (i*2) (.slice a f.all.length c)).1.stored (i*2+1) (.slice none 0 0)
 rw[fvs_set0 fs i p _ hp,fvs_set1 _ i (.slice a f.all.length c,p.2) _ (List.getElem?_set_self (List.getElem?_eq_some_iff.1 hp).1),List.set_set]at hs
 exact⟨hs.1,fun g e=>hfr.kind g e⟩
set_option maxHeartbeats 2000000 in
theorem tsync_any (w:World) (K:Knd) (o d:Nat) (S:St) (h:Tk w K o d S) (hv:Inv S) (hb:Fb S) (h1:S.strokes≤1099511627776) (h2:S.planned≤1099511627776) (x:Nm) :
  Calls Tryz.prog 59 #[.pointer (some ⟨d,0,none⟩),.string ⟨x.toArray⟩] w fun e w'=>∃K',e=.returned (.int .i64 ((S.syncR x).1:Int))∧Tk w' K' o d (S.syncR x).2∧Kp (Ow o) K K' w w':=by
 have HF:=hide (rfind_any w K o d S h hv hb x)
 have HT:=hide h
 by_cases he:S.err x=0
 ·obtain⟨hoff,hnm,i,hl⟩:=err_zero he
  have hil:i<S.files.length:=(hv.ins (x,i) ((look_mem hv.srt).1 hl)).1
  obtain⟨f,hf⟩:∃f,S.files[i]?=some f:=⟨_,List.getElem?_eq_getElem hil⟩
  have hfi:S.file i=f:=by unfold St.file;rw[hf];rfl
  have hfn:S.fnd x=(i:Int):=by unfold St.fnd;rw[if_pos he,hl];rfl
  have hr:S.syncR x=(S.power,if S.power=0 then S.stroked.turn i f.settled else S.stroked):=by
   unfold St.syncR
   rw[if_neg (by omega)]
   simp only[hl,Option.getD_some,hfi]
  have hfb:Fb S.stroked:=⟨hb.fl,hb.nm,hb.ns⟩
  have hf1:S.stroked.files[i]?=some f:=hf
  have HBy:=hide (fun w1 K1 h1=>bytesOf_any w1 K1 o d S.stroked h1 i f hf1 hfb)
  have HSt:=hide (fun w1 K1 ht=>tstroke_any w1 K1 o d S ht hoff h1 h2)
  have hil1:i<S.stroked.files.length:=hil
  rw[hfn,he]at HF
  rw[hr]
  generalize S.stroked=S1 at *
  clear h hv hb hfn hr he hl hnm hfi hfb hf hil
  by_cases hp0:S.power=0
  ·rw[if_pos hp0]
   rw[hp0]at HSt
   rw[hp0]
   clear hp0
   go_enter Tryz.func59,Tryz.ntmps59
   go_wp2_with fail
   refine HF.out.mono ?_
   rintro e w1 ⟨rfl,hb1⟩
   have HT1:=hide (HT.out.kept (kp_below hb1 (fun _=>False) K (0,0)) (fun _ h=>h))
   have HK1:=hide (kp_below hb1 (Ow o) K (0,0))
   generalize ext K w.heap.size (0,0)=K1 at *
   have HS1:=hide (HSt.out w1 K1 HT1.out)
   clear hb1 HF HSt
   go_wp2_with fail
   refine HS1.out.mono ?_
   rintro e w2 ⟨rfl,ht2,hk2⟩
   have HK2:=hide (HK1.out.trans (hk2.mono (q:=Ow o) (fun k e=>by rw[e])))
   have HBw:=hide (HBy.out)
   have HT2:=hide ht2
   obtain⟨fv,sv,cv,fs,hm⟩:=ht2
   obtain⟨p,hp⟩:∃p,fs[i]?=some p:=⟨_,List.getElem?_eq_getElem (by rw[hm.flen];exact hil1)⟩
   obtain⟨af,cf,rfl,_,_⟩:=hm.files.form
   have hbl:=hm.blk
   unfold tcells at hbl
   obtain⟨q0,q1,q2,q3,q4,q5,q6,q7,q8,q9,qf⟩:=blk10 hbl
   have hdl:=lt_of_block hbl
   have hfc:(fvs fs).length=S1.files.length*2:=by rw[←hm.flen];exact flat_len _ 2 (fun _=>rfl) _
   obtain⟨gf,e1,hkg,hgf,hcl⟩:∃g,af=some ⟨g,0,none⟩∧K1 g=(o,2)∧g<w2.heap.size∧∀(j:Nat) (u:Value),(fvs fs)[j]?=some u→w2.cell? ⟨g,j,none⟩=some u:=by
    rcases rk_cells hm.files hfc with e | h
    ·rw[e]at hfc;simp at hfc;omega
    ·exact h
   subst e1
   have z0:=hcl (i*2+0) _ (by unfold fvs;rw[flat_at _ 2 (fun _=>rfl) fs i _ hp 0 (by omega)];rfl)
   have z1:=hcl (i*2+1) _ (by unfold fvs;rw[flat_at _ 2 (fun _=>rfl) fs i _ hp 1 (by omega)];rfl)
   rw[Nat.add_zero]at z0
   obtain⟨cur,hcur⟩:∃cur,w2.heap[gf]?=some (.cells cur 141 (0,0)):=by
    rcases hm.files.own.2 with ⟨e,_⟩ | ⟨g,cap,cur,e,_,hg,_⟩
    ·cases e
    ·cases e;exact⟨cur,hg⟩
   have i1:(0:Int)≤(i:Int):=by omega
   have i2:(i:Int)<(S1.files.length:Int):=by omega
   have hne:¬d=gf:=fun e=>by have h1:=hm.kd;rw[e,hkg]at h1;exact snd_ne (by omega) h1
   have hne2:¬gf=d:=fun e=>hne e.symm
   have HM:=hide hm
   have HBl:=hide hbl
   have HP:=hide hp
   have HF1:=hide hf1
   have HCur:=hide hcur
   clear hk2 hm hbl hp hf1 hcur hcl hfc HS1
   have HBc:=hide (fun q=>HBy.out (w2.drewN q) K1 (HT2.out.kept ((Kp.refl (fun _=>False) K1 w2).drewN q) (fun _ h=>h)))
   obtain⟨L,hL⟩:∃L,f.all.length=L:=⟨_,rfl⟩
   have HL:=hide hL
   rw[hL]at HBc
   clear hL
   go_wp2
   go_region_held3 (fun w'=>w'.cell? ⟨d,2,none⟩=some (.slice (some ⟨gf,0,none⟩) S1.files.length cf)) (first | assumption | go_keep)
    (first | (go_at_call 112;refine(HBc.out 1).mono ?_;rintro e w3 ⟨a3,c3,rfl,hl3⟩;have HL3:=hide hl3;have hd3:w3.cell? ⟨d,2,none⟩=some (.slice (some ⟨gf,0,none⟩) S1.files.length cf):=(hl3.bel.cell (p:=⟨d,2,none⟩) hdl).trans q2;have hg3:w3.heap[gf]?=some (.cells cur 141 (0,0)):=(hl3.bel.block gf hgf).trans HCur.out;have z03:w3.cell? ⟨gf,i*2,none⟩=some p.1:=(World.cell?_of_block (hg3.trans HCur.out.symm)).trans z0;have z13:w3.cell? ⟨gf,i*2+1,none⟩=some p.2:=(World.cell?_of_block (hg3.trans HCur.out.symm)).trans z1;have hf3:∀t,w3.frozen? ⟨gf,t,none⟩=false:=fun t=>(by simp[World.frozen?,hg3]);clear hl3))
   all_goals
    have hres:=(HM.out.kept ((Kp.refl (fun _=>False) K1 w2).drewN 1) (fun _ h=>h)).synced HF1.out HP.out (a:=a3) (c:=c3) (w1:=w3) (by rw[HL.out];exact HL3.out) rfl
    rw[HL.out]at hres
    have HT4:=hide hres.1
    have HK4:=hide ((HK2.out.drewN 1).trans hres.2)
    clear hres
    go_wp2
    go_ret
    exact⟨_,rfl,HT4.out,HK4.out⟩
  ·rw[if_neg hp0]
   have hne:((S.power:Int) == 0)=false:=by simp;omega
   have hne2:¬(S.power:Int)=0:=by omega
   clear hp0
   generalize S.power=P at *
   go_enter Tryz.func59,Tryz.ntmps59
   go_wp2_with fail
   refine HF.out.mono ?_
   rintro e w1 ⟨rfl,hb1⟩
   have HT1:=hide (HT.out.kept (kp_below hb1 (fun _=>False) K (0,0)) (fun _ h=>h))
   have HK1:=hide (kp_below hb1 (Ow o) K (0,0))
   generalize ext K w.heap.size (0,0)=K1 at *
   have HS1:=hide (HSt.out w1 K1 HT1.out)
   clear hb1 HF HSt
   go_wp2_with fail
   refine HS1.out.mono ?_
   rintro e w2 ⟨rfl,ht2,hk2⟩
   have HT2:=hide ht2
   have HK2:=hide (HK1.out.trans (hk2.mono (q:=Ow o) (fun k e=>by rw[e])))
   clear ht2 hk2
   go_wp2
   go_ret
   exact⟨_,rfl,HT2.out,HK2.out⟩
 ·have hr:S.syncR x=(S.err x,S):=by unfold St.syncR;rw[if_pos he]
  rw[hr]
  have hne:((S.err x:Int) != 0)=true:=by simp;omega
  have hne2:¬(S.err x:Int)=0:=by omega
  clear h hv hb he hr
  generalize S.err x=E at *
  generalize S.fnd x=F at *
  go_enter Tryz.func59,Tryz.ntmps59
  go_wp2_with fail
  refine HF.out.mono ?_
  rintro e w1 ⟨rfl,hb1⟩
  have HK1:=hide (kp_below hb1 (Ow o) K (0,0))
  have HT1:=hide (HT.out.kept (kp_below hb1 (fun _=>False) K (0,0)) (fun _ h=>h))
  clear hb1
  go_wp2
  go_ret
  exact⟨_,rfl,HT1.out,HK1.out⟩
theorem tmod_two (p m:Int) (hm:0<m):(p.tmod m+m) % m=p % m:=by
 have h2:=Int.tmod_lt_of_pos p hm
 have h3 : -m<p.tmod m:=Int.lt_tmod_of_pos p hm
 have hfix:=tmod_fix p m hm
 have h4:=Int.emod_nonneg p (show m≠0 by omega)
 have h5:=Int.emod_lt_of_pos p hm
 by_cases hneg:p.tmod m<0
 ·rw[hfix.1 hneg,Int.emod_eq_of_lt h4 h5]
 ·rw[hfix.2 hneg,Int.add_emod_right,Int.emod_eq_of_lt h4 h5]
set_option maxHeartbeats 400000 in
theorem tpick_any (w:World) (pp:Option Addr) (m cap:Nat) (ps:List Int) (hm:ps.length=m) (hp:Ins w pp ps) (i n:Nat) (hn:n≤1099511627776) (hi:i≤1099511627776) :
  Calls Tryz.prog 122 #[.slice pp m cap,.int .i64 (i:Int),.int .i64 (n:Int)] w fun e w'=>e=.returned (.int .i64 (pickP ps i n:Int))∧w'=w:=by
 by_cases hlt:i<m
 ·have hget:ps[i]?=some (ps.getD i 0):=by rw[List.getD,List.getElem?_eq_getElem (by omega)];rfl
  obtain⟨g,o,rfl,hg,hc⟩:∃g o,pp=some ⟨g,o,none⟩∧g<w.heap.size∧∀j,j<ps.length→w.cell? ⟨g,o+j,none⟩=some (.int .i64 (ps.getD j 0)):=by
   rcases hp.lie with h | h
   ·rw[h]at hm;simp at hm;omega
   ·exact h
  have hcell:=hc i (by omega)
  have e1:pickP ps i n=((ps.getD i 0) % ((n+1:Nat):Int)).toNat:=by unfold pickP;rw[hget]
  obtain⟨p,hpp⟩:∃p,ps.getD i 0=p:=⟨_,rfl⟩
  rw[hpp]at e1 hcell
  have hpos:(0:Int)<(n:Int)+1:=by omega
  have h2:=Int.tmod_lt_of_pos p hpos
  have h3 : -((n:Int)+1)<p.tmod ((n:Int)+1):=Int.lt_tmod_of_pos p hpos
  have h4:=Int.emod_nonneg p (show (n:Int)+1≠0 by omega)
  have e2:((pickP ps i n:Nat):Int)=(p.tmod ((n:Int)+1)+((n:Int)+1)) % ((n:Int)+1):=by
   rw[tmod_two p _ hpos,e1]
   have:((n+1:Nat):Int)=(n:Int)+1:=by omega
   rw[this];omega
  rw[←Int.add_assoc]at e2
  rw[e2]
  have hlt':¬(m:Int)≤(i:Int):=by omega
  have hlt2:(i:Int)<(m:Int):=by omega
  have hi0:(0:Int)≤(i:Int):=by omega
  have hn0:¬(n:Int)+1=0:=by omega
  clear hc hget hp e1 e2 hpp h4
  go_enter Tryz.func122,Tryz.ntmps122
  go_wp2
  go_ret
  exact⟨rfl,rfl⟩
 ·have e1:pickP ps i n=0:=by unfold pickP;rw[List.getElem?_eq_none (by omega)]
  rw[e1]
  have hlt':(m:Int)≤(i:Int):=by omega
  clear e1 hp
  go_enter Tryz.func122,Tryz.ntmps122
  go_wp2
  go_ret
  exact⟨rfl,rfl⟩
theorem Tryz.infoSx:(Tryz.prog.info? 9).map (fun i=>(i.zero,i.size,i.bytes))=some (some (.string ⟨#[]⟩),1,16):=by kernel_rfl
structure Ls (w0 w:World) (sp:Option Addr) (n c:Nat) (l:List Nm):Prop where
 len:l.length=n
 own:w.ownsRow w0.heap.size 9 1 (.slice sp n c) n (strs l)
 bel:Below w0.heap.size w0 w
set_option maxHeartbeats 1000000 in
theorem tlist_any (w:World) (K:Knd) (o d:Nat) (S:St) (h:Tk w K o d S) (hv:Inv S) (hb:Fb S) :
  Calls Tryz.prog 68 #[.pointer (some ⟨d,0,none⟩)] w fun e w'=>∃a c,e=.returned (.tuple #[.slice a S.names.length c,.int .i64 (S.offE:Int)])∧Ls w w' a S.names.length c S.names:=by
 obtain⟨i0,hi,hz0,hz1,hz2⟩:=info_parts Tryz.infoSx
 have HS:=hide (Seen_any w K o d S h hv hb.nm)
 have hns:=hb.ns
 obtain⟨fv,sv,cv,fs,hm⟩:=h
 have hbl:=hm.blk
 unfold tcells at hbl
 obtain⟨q0,q1,q2,q3,q4,q5,q6,q7,q8,q9,qf⟩:=blk10 hbl
 have hdl:=lt_of_block hbl
 clear hm hbl hv hb
 cases hoff:S.off with
 | true =>
  rw[hoff]at q1
  have e1:S.names=[]:=by unfold St.names;rw[hoff];rfl
  have e2:S.offE=45:=by unfold St.offE;rw[hoff];rfl
  rw[e1,e2]
  go_enter Tryz.func68,Tryz.ntmps68
  go_wp2
  go_ret2
  exact⟨none,0,rfl,⟨rfl,⟨rfl,Or.inl ⟨rfl,rfl⟩⟩,Below.refl _ _⟩⟩
 | false =>
  rw[hoff]at q1
  have e1:S.names=S.seen.map (·.1):=by unfold St.names;rw[hoff];rfl
  have e2:S.offE=0:=by unfold St.offE;rw[hoff];rfl
  have HE:=hide e1
  rw[e2]
  obtain⟨ns,hnse⟩:∃ns,S.seen.length=ns:=⟨_,rfl⟩
  rw[hnse]at HS hns
  have HNs:=hide hnse
  clear e1 e2 hnse
  go_enter Tryz.func68,Tryz.ntmps68
  go_wp2_with fail
  refine HS.out.mono ?_
  rintro e w1 ⟨a,c,rfl,hr1,hb1⟩
  have HNr:=hide (rk_nr HNs.out hr1)
  have HB1:=hide hb1
  clear hr1 hb1 HS q0 q1 q2 q3 q4 q5 q6 q7 q8 q9 qf
  go_wp2
  go_loopw [4,6] (fun r x wr=>∃(j c:Nat) (a:Option Addr),j≤ns∧x=.int .i64 (j:Int)∧r=.slice a j c∧Hid (Ls w1 wr a j c ((S.seen.take j).map (·.1)))) (fun _ x _=>ns - (intOf x).toNat)
  case atStart=>exact⟨0,0,none,Nat.zero_le _,rfl,rfl,hide ⟨rfl,⟨rfl,Or.inl ⟨rfl,rfl⟩⟩,Below.refl _ _⟩⟩
  case round =>
   obtain⟨j,c1,a1,hj,rfl,rfl,HL⟩:=hrel
   by_cases hlt:j<ns
   ·have j1:(0:Int)≤(j:Int):=by omega
    have j2:(j:Int)<(ns:Int):=by omega
    obtain⟨p,hp⟩:∃p,S.seen[j]?=some p:=⟨_,List.getElem?_eq_getElem (by rw[HNs.out];exact hlt)⟩
    obtain⟨g,o',e1,hg,q0,q1⟩:=(HNr.out.below HL.out.bel).at hp
    have HTk:=hide (take_snoc' S.seen j p hp)
    have hsz:=HL.out.bel.size
    subst e1
    clear hp
    go_wp2_with (at_builtin;refine wpList_append_lies _ rfl (.tmp 19) (.tmp 25) 96 rfl w1.heap.size 9 i0 _ 1 16 Tryz.underlying96 hi hz0 hz1 hz2 rfl (by omega) (.slice a1 j c1) j (strs ((S.seen.take j).map (·.1))) rfl (HL.out.own.alloc _) ⟨wr.heap.size,0,none⟩ 1 1 [.string ⟨p.1.toArray⟩] rfl rfl (World.news_of_block (heap_alloc_new wr (.cells #[.string ⟨p.1.toArray⟩] 9))) (by simp[Value.oneCell']) (by omega) (by unfold maxLen;omega) (by omega) (by simp;omega) _ rfl ?_;intro g' cap' w2 ho2 hg2 hat2 hlt2;have HL2:Hid (Ls w1 w2 (some ⟨g',0,none⟩) (j+1) cap' ((S.seen.take (j+1)).map (·.1))):=(by rw[HTk.out];exact⟨by rw[List.map_append,List.length_append,HL.out.len];rfl,by rw[List.map_append];unfold strs;rw[List.map_append];exact ho2,(HL.out.bel.alloc HL.out.bel.size _).grown hg2 (by simp;omega) (fun _ e=>owns_bs2 HL.out.own e)⟩);clear ho2 hg2 hat2 hlt2)
    go_roundw
    case rel=>exact⟨j+1,cap',some ⟨g',0,none⟩,by omega,by go_num,rfl,HL2⟩
    case measure=>simp[intOf];omega
   ·have j2:¬(j:Int)<(ns:Int):=by omega
    have HL2:Hid (Ls w wr a1 j c1 S.names):=by
     have h1:=HL.out
     rw[List.take_of_length_le (by rw[HNs.out];omega),←HE.out]at h1
     exact⟨h1.len,⟨h1.own.1,h1.own.2.imp id fun ⟨g,cap,cur,e1,e2,r⟩=>⟨g,cap,cur,e1,Nat.le_trans HB1.out.size e2,r⟩⟩,HB1.out.trans (h1.bel.mono HB1.out.size)⟩
    go_wp2
    go_ret2
    have e:=HL2.out.len
    exact⟨a1,c1,by rw[e];rfl,by rw[e];exact HL2.out⟩
theorem lr_rk {w w0 w':World} {K:Knd} {k:Nat × Nat} {sp:Option Addr} {n c:Nat} {l:List Nat} (h:C.Lr w0 w' sp n c l) (hb:w.heap.size≤w0.heap.size):Rk w' (ext K w.heap.size k) k 5 1 (.slice sp n c) n (vals l) :=
 ⟨⟨h.own.1,h.own.2.imp id fun ⟨g,cap,cur,e1,_,r⟩=>⟨g,cap,cur,e1,Nat.zero_le _,r⟩⟩,fun _ e=>ext_new _ _ (Nat.le_trans hb (C.owns_bs h.own e))⟩
theorem mapIdx_take {α β:Type} (f:Nat→α→β) (l:List α) (j:Nat) (p:α) (h:l[j]?=some p):(l.take (j+1)).mapIdx f=(l.take j).mapIdx f++[f j p]:=by
 have hj:j<l.length:=(List.getElem?_eq_some_iff.1 h).1
 rw[take_snoc' l j p h,List.mapIdx_append]
 simp[List.length_take,Nat.min_eq_left (Nat.le_of_lt hj)]
theorem below_un2 {w w3:World} {q:Nat} (h:Below (w.drewN q).heap.size (w.drewN q) w3):Below w.heap.size w w3:=⟨h.os,h.tape,h.output,h.size,h.block⟩
theorem ext_ext (K:Knd) (n m:Nat) (k:Nat × Nat) (h:n≤m):ext (ext K n k) m k=ext K n k:=by
 funext b
 unfold ext
 by_cases h1:b<m
 ·rw[if_pos h1]
 ·rw[if_neg h1,if_neg (by omega)]
set_option maxHeartbeats 2000000 in
theorem tcrash_any (w:World) (K:Knd) (o d:Nat) (S:St) (h:Tk w K o d S) (hv:Inv S) (hb:Fb S) (hfi:∀c∈S.chg,c.to≠[]→c.file<S.files.length) (pp:Option Addr) (m cap:Nat) (ps:List Int) (hm:ps.length=m) (hp:Ins w pp ps) :
  Calls Tryz.prog 71 #[.pointer (some ⟨d,0,none⟩),.slice pp m cap] w fun e w'=>∃v,e=.returned v∧Im w' (ext K w.heap.size (0,0)) v (S.crash ps)∧Below w.heap.size w w':=by
 obtain⟨i0,hi,hz0,hz1,hz2⟩:=info_parts Tryz.infoFb
 have hnm:=hb.nm
 have hpk:=pick_le ps 0 S.chg.length
 have HNa:=hide (names_any w K o d S h (fun p hp=>by have:=(hv.inf p hp).2;intro e;rw[e]at this;exact absurd this (by decide)) hb.nm (pickP ps 0 S.chg.length) hpk)
 have HPk:=hide (tpick_any w pp m cap ps hm hp 0 S.chg.length (by omega) (by omega))
 have HT:=hide h
 have HP:=hide hp
 have HM:=hide hm
 have HBf:=hide hb
 have HL:Hid (S.crash ps=(S.leftN ps).mapIdx fun i p=>(p.1,(S.file p.2).left (pickP ps (i+1) (S.file p.2).units.length))):=rfl
 have HLn:Hid (S.leftN ps=(S.chg.take (pickP ps 0 S.chg.length)).foldl withN S.safe):=rfl
 have HIx:Hid (∀p∈S.leftN ps,p.2<S.files.length):=by
  have key:∀(cs:List Chg) (l:List (Nm × Nat)),(∀c∈cs,c.to≠[]→c.file<S.files.length)→(∀p∈l,p.2<S.files.length)→∀p∈cs.foldl withN l,p.2<S.files.length:=by
   intro cs
   induction cs with
   | nil=>intro l _ h;exact h
   | cons c cs ih =>
    intro l hc hl
    refine ih (withN l c) (fun c' h'=>hc c' (List.mem_cons_of_mem _ h')) ?_
    intro p hp
    unfold withN at hp
    split at hp
    ·exact hl p (mem_del.1 hp).1
    ·rename_i hne
     rcases mem_put.1 hp with rfl | ⟨h1,_⟩
     ·exact hc c (by simp) hne
     ·exact hl p (mem_del.1 h1).1
  rw[HLn.out]
  exact key _ _ (fun c hc=>hfi c (List.mem_of_mem_take hc)) (fun p hp=>(hv.inf p hp).1)
 have hll:(S.leftN ps).length≤549755813888:=by
  rw[HLn.out]
  have h1:=fold_len S.safe (S.chg.take (pickP ps 0 S.chg.length))
  rw[List.length_take]at h1
  omega
 rw[←HLn.out]at HNa
 obtain⟨fv,sv,cv,fs,hmm⟩:=h
 obtain⟨a4,c4,rfl,_,_⟩:=hmm.chgs.form
 have hbl:=hmm.blk
 unfold tcells at hbl
 obtain⟨q0,q1,q2,q3,q4,q5,q6,q7,q8,q9,qf⟩:=blk10 hbl
 have hdl:=lt_of_block hbl
 generalize pickP ps 0 S.chg.length=pk at *
 generalize S.chg.length=nc at *
 obtain⟨ll,hlle⟩:∃ll,S.leftN ps=ll:=⟨_,rfl⟩
 rw[hlle]at HNa HL HIx hll
 rw[HL.out]
 obtain⟨nl,hnl⟩:∃nl,ll.length=nl:=⟨_,rfl⟩
 rw[hnl]at HNa hll
 have HNl:=hide hnl
 clear hmm hbl hv hb hp hm hlle hnl HLn HL
 go_enter Tryz.func71,Tryz.ntmps71
 go_wp2_with fail
 refine HPk.out.mono ?_
 rintro e w0 ⟨rfl,h0⟩
 rw[h0]
 clear h0 w0
 go_wp2_with fail
 refine HNa.out.mono ?_
 rintro e w1 ⟨a1,c1,rfl,hr1,hb1⟩
 have HNr:=hide (rk_nr HNl.out hr1)
 have HNo:=hide hr1.own
 have HB1:=hide hb1
 clear hr1 hb1 HNa HPk q0 q1 q2 q3 q4 q5 q6 q7 q8 q9 qf
 go_wp2
 go_loopw [6,7] (fun v x wr=>∃(j:Nat),j≤nl∧x=.int .i64 (j:Int)∧Hid (Im wr (ext K w.heap.size (0,0)) v ((ll.take j).mapIdx fun i p=>(p.1,(S.file p.2).left (pickP ps (i+1) (S.file p.2).units.length))))∧Hid (Below w1.heap.size w1 wr)∧Hid (∀g,v.ownBlock=some g→w1.heap.size≤g)) (fun _ x _=>nl - (intOf x).toNat)
 case atStart=>exact⟨0,Nat.zero_le _,rfl,hide (by simpa using im_nil w1 _),hide (Below.refl _ _),hide (fun g e=>by simp[Value.ownBlock]at e)⟩
 case round =>
  obtain⟨j,hj,rfl,HIm,HBr,HOb⟩:=hrel
  obtain⟨av,cv',rfl,_,_⟩:=HIm.out.form
  have hil:((ll.take j).mapIdx fun i p=>(p.1,(S.file p.2).left (pickP ps (i+1) (S.file p.2).units.length))).length=j:=by rw[List.length_mapIdx,List.length_take,HNl.out];omega
  rw[hil]
  rw[hil]at HIm HOb
  obtain⟨im,him⟩:∃im,((ll.take j).mapIdx fun i p=>(p.1,(S.file p.2).left (pickP ps (i+1) (S.file p.2).units.length)))=im:=⟨_,rfl⟩
  rw[him]at hil HIm
  have HImE:=hide him
  by_cases hlt:j<nl
  ·have j1:(0:Int)≤(j:Int):=by omega
   have j2:(j:Int)<(nl:Int):=by omega
   obtain⟨p,hp⟩:∃p,ll[j]?=some p:=⟨_,List.getElem?_eq_getElem (by rw[HNl.out];exact hlt)⟩
   obtain⟨f,hf⟩:∃f,S.files[p.2]?=some f:=⟨_,List.getElem?_eq_getElem (HIx.out p (List.mem_of_getElem? hp))⟩
   have hfe:S.file p.2=f:=by unfold St.file;rw[hf];rfl
   have HMi:=hide (mapIdx_take (fun i p=>(p.1,(S.file p.2).left (pickP ps (i+1) (S.file p.2).units.length))) ll j p hp)
   rw[him]at HMi
   simp only[hfe]at HMi
   obtain⟨g,o',hag,hg,x0,x1⟩:=(HNr.out.below HBr.out).at hp
   subst hag
   obtain⟨curN,hcurN⟩:∃cur,w1.heap[g]?=some (.cells cur 183 (0,0)):=by
    rcases HNo.out.2 with ⟨e,_⟩ | ⟨g2,cap2,cur2,e,_,hg2,_⟩
    ·cases e
    ·cases e;exact⟨cur2,hg2⟩
   have hcurR:wr.heap[g]?=some (.cells curN 183 (0,0)):=(HBr.out.block g (lt_of_block hcurN)).trans hcurN
   have hbw:Below w.heap.size w wr:=HB1.out.trans (HBr.out.mono HB1.out.size)
   have hTr:=HT.out.kept (kp_below hbw (fun _=>False) K (0,0)) (fun _ h=>h)
   have hfb:=HBf.out.fl f (List.mem_of_getElem? hf)
   obtain⟨n0,hn0⟩:∃n0,pickP ps (j+1) f.units.length=n0:=⟨_,rfl⟩
   have hn0l:n0≤f.units.length:=by rw[←hn0];exact pick_le _ _ _
   rw[hn0]at HMi
   have HCo:=hide (fun q=>content_any (wr.drewN q) _ o d S (hTr.kept ((Kp.refl (fun _=>False) _ wr).drewN q) (fun _ h=>h)) p.2 f hf hfb.1 hfb.2.1 (by omega) n0 hn0l)
   have HPi:=hide (fun q=>tpick_any (wr.drewN q) pp m cap ps HM.out ⟨(HP.out.below hbw).lie⟩ (j+1) f.units.length (by omega) (by omega))
   rw[hn0]at HPi
   have HW1:Hid (IntKind.i64.wrap (1+(j:Int))=((j+1:Nat):Int)):=by show _=_;rw[IntKind.wrap_i64];omega
   have HLs:Hid ((∀y∈f.left n0,y<256)∧(f.left n0).length≤1099511627776):=⟨carry_small hfb.1.small (okU_small (okU_take hfb.1.units n0)),by have:=left_length f n0;omega⟩
   obtain⟨fv,sv,cv,fs,hmm⟩:=hTr
   have hil2:p.2<S.files.length:=(List.getElem?_eq_some_iff.1 hf).1
   obtain⟨pr,hpr⟩:∃pr,fs[p.2]?=some pr:=⟨_,List.getElem?_eq_getElem (by rw[hmm.flen];exact hil2)⟩
   obtain⟨r1,r2⟩:=hmm.file p.2 f pr hf hpr
   obtain⟨sv',uv'⟩:=pr
   simp only at r1 r2
   obtain⟨au,cu,rfl,hcu1,hcu2⟩:=r2.form
   obtain⟨af,cf,rfl,_,_⟩:=hmm.files.form
   have hbl:=hmm.blk
   have HDb:=hide hbl
   unfold tcells at hbl
   obtain⟨q0,q1,q2,q3,q4,q5,q6,q7,q8,q9,qf⟩:=blk10 hbl
   have hdlr:=lt_of_block hbl
   have hfc:(fvs fs).length=S.files.length*2:=by rw[←hmm.flen];exact flat_len _ 2 (fun _=>rfl) _
   obtain⟨gf,e1,hkg,hgf,hcl⟩:∃g2,af=some ⟨g2,0,none⟩∧_=(o,2)∧g2<wr.heap.size∧∀(j:Nat) (u:Value),(fvs fs)[j]?=some u→wr.cell? ⟨g2,j,none⟩=some u:=by
    rcases rk_cells hmm.files hfc with e | h
    ·rw[e]at hfc;simp at hfc;omega
    ·exact h
   subst e1
   obtain⟨curF,hcurF⟩:∃cur,wr.heap[gf]?=some (.cells cur 141 (0,0)):=by
    rcases hmm.files.own.2 with ⟨e,_⟩ | ⟨g2,cap2,cur2,e,_,hg2,_⟩
    ·cases e
    ·cases e;exact⟨cur2,hg2⟩
   have z1:=hcl (p.2*2+1) _ (by unfold fvs;rw[flat_at _ 2 (fun _=>rfl) fs p.2 _ hpr 1 (by omega)];rfl)
   have k1:(0:Int)≤(p.2:Int):=by omega
   have k2:(p.2:Int)<(S.files.length:Int):=by omega
   obtain⟨ds,d1,d2,d3⟩:=HIm.out.row
   have HD1:=hide d1
   rw[hil]at d2
   have HD2:=hide d2
   have HD3:=hide d3
   have HSm:=hide HIm.out.small
   have HCn:=hide hcurR
   have HCf:=hide hcurF
   have hglr:=lt_of_block hcurR
   have hgfr:=lt_of_block hcurF
   clear hmm hbl hcl hfc r1 r2 hpr hf hp hfe hn0 hcurN hcurR hcurF d1 d2 d3 hbw
   generalize f.units.length=nu at *
   obtain⟨L3,hL3⟩:∃L3,(f.left n0).length=L3:=⟨_,rfl⟩
   rw[hL3]at HCo
   have HL3e:=hide hL3
   have hw3:=HBr.out.size
   have hw1:=HB1.out.size
   clear hL3
   go_wp2
   go_region_held3 (fun w'=>w'.cell? ⟨g,o'+j*2,none⟩=some (.string ⟨p.1.toArray⟩)∧w'.cell? ⟨d,2,none⟩=some (.slice (some ⟨gf,0,none⟩) S.files.length cf)∧w'.cell? ⟨gf,p.2*2+1,none⟩=some (.slice au nu cu)) (first | (refine⟨?_,?_,?_⟩ <;> assumption) | go_keep)
    (first
     | (go_at_call 122;rw[HW1.out];refine(HPi.out 1).mono ?_;rintro e w2 ⟨rfl,rfl⟩)
     | (go_at_call 123;refine(HCo.out 1).mono ?_;rintro e w3 ⟨a3,c3,rfl,hl3⟩;have HL3:=hide hl3;have s1:w3.cell? ⟨g,o'+j*2,none⟩=some (.string ⟨p.1.toArray⟩):=(hl3.bel.cell (p:=⟨g,o'+j*2,none⟩) hglr).trans x0;have s2:w3.cell? ⟨d,2,none⟩=some (.slice (some ⟨gf,0,none⟩) S.files.length cf):=(hl3.bel.cell (p:=⟨d,2,none⟩) hdlr).trans q2;have s3:w3.cell? ⟨gf,p.2*2+1,none⟩=some (.slice au nu cu):=(hl3.bel.cell (p:=⟨gf,p.2*2+1,none⟩) hgfr).trans z1;have hs3:wr.heap.size≤w3.heap.size:=hl3.bel.size;have HO3:=hide (owns_bel2 HD2.out.own (below_un2 hl3.bel));have HB3:=hide (below_un2 hl3.bel);clear hl3)
     | (refine step_append_lies _ (by rfl) (.tmp 29) (.tmp 52) 51 (by rfl) 0 87 i0 _ 2 40 Tryz.underlying51 hi hz0 hz1 hz2 rfl (by omega) (.slice av j cv') j (imv im ds) (by rfl) (HO3.out.alloc _) ⟨w3.heap.size,0,none⟩ 1 1 [.string ⟨p.1.toArray⟩,.slice a3 L3 c3] (by rfl) rfl (World.news_of_block (heap_alloc_new w3 (.cells #[.string ⟨p.1.toArray⟩,.slice a3 L3 c3] 87))) (by simp[Value.oneCell']) (by omega) (by unfold maxLen;omega) (by omega) (by omega) _ rfl ?_;intro g' cap' w4 ho4 hg4 hat4 hlt4;have HK4:Hid (∀(b:Nat) (C0:Array Value) (t:TypeId) (fr:Nat × Nat),wr.heap[b]?=some (.cells C0 t fr)→t≠87→w4.heap[b]?=wr.heap[b]?):=(fun b C0 t fr hbk ht=>(hg4.block b (by have:=lt_of_block hbk;simp;omega) (owns_ne (HO3.out.alloc (.cells #[.string ⟨p.1.toArray⟩,.slice a3 L3 c3] 87)) ((Below.heap_alloc _ _ _ (Nat.lt_of_lt_of_le (lt_of_block hbk) hs3)).trans ((HB3.out.block b (lt_of_block hbk)).trans hbk)) ht)).trans ((Below.heap_alloc _ _ _ (Nat.lt_of_lt_of_le (lt_of_block hbk) hs3)).trans (HB3.out.block b (lt_of_block hbk))));have t1:w4.cell? ⟨g,o'+j*2,none⟩=some (.string ⟨p.1.toArray⟩):=(World.cell?_of_block (HK4.out g _ _ _ HCn.out (by decide))).trans x0;have t2:w4.cell? ⟨d,2,none⟩=some (.slice (some ⟨gf,0,none⟩) S.files.length cf):=(World.cell?_of_block (HK4.out d _ _ _ HDb.out (by decide))).trans q2;have t3:w4.cell? ⟨gf,p.2*2+1,none⟩=some (.slice au nu cu):=(World.cell?_of_block (HK4.out gf _ _ _ HCf.out (by decide))).trans z1;have HO4:=hide ho4;have HG4:=hide hg4;have HA4:=hide hat4;clear ho4 hg4 hat4 hlt4))
   ·have HB4:Hid (Below w1.heap.size w1 w4):=((HBr.out.trans (HB3.out.mono hw3)).alloc (by omega) (.cells #[.string ⟨p.1.toArray⟩,.slice a3 L3 c3] 87)).grown HG4.out (by simp;omega) (fun g e=>HOb.out g e)
    have HOb4:Hid (∀g2,(Value.slice (some ⟨g',0,none⟩) (j+1) cap').ownBlock=some g2→w1.heap.size≤g2):=fun g2 e=>by
     simp[Value.ownBlock]at e
     subst e
     rcases HA4.out with h | h
     ·exact HOb.out g' h
     ·simp at h;omega
    have HI4:Hid (Im w4 (ext K w.heap.size (0,0)) (.slice (some ⟨g',0,none⟩) (j+1) cap') ((ll.take (j+1)).mapIdx fun i p=>(p.1,(S.file p.2).left (pickP ps (i+1) (S.file p.2).units.length)))):=by
     show Im _ _ _ _
     rw[HMi.out]
     have e1:=HL3e.out
     subst e1
     have eK:=ext_ext K w.heap.size wr.heap.size (0,0) (Nat.le_trans hw1 hw3)
     have hkp:=kp_below HB3.out (fun _=>False) (ext K w.heap.size (0,0)) (0,0)
     rw[eK]at hkp
     refine Im.push (w:=w3) (v:=.slice av j cv') (p:=(p.1,f.left n0)) (ds:=ds) HSm.out HD1.out (by rw[hil];exact HD2.out.kept hkp (fun h=>h)) (fun j q d h1 h2=>(HD3.out j q d h1 h2).kept hkp (fun h=>h)) HLs.out (lr_rk HL3.out (Nat.le_trans hw1 hw3)) (by rw[hil];exact HO4.out) (fun g2 hg2 hne=>(HG4.out.block g2 (by simp;omega) hne).trans (Below.heap_alloc _ _ _ hg2)) (fun g2 e=>?_)
     simp[Value.ownBlock]at e
     subst e
     rcases HA4.out with h | h
     ·exact HD2.out.kind g' h
     ·refine ext_new K _ ?_
      simp at h;omega
    go_wp2
    go_roundw
    case rel=>exact⟨j+1,by omega,by go_num,HI4,HB4,HOb4⟩
    case measure=>simp[intOf];omega
  ·have j2:¬(j:Int)<(nl:Int):=by omega
   have HIe:Hid (Im wr (ext K w.heap.size (0,0)) (.slice av j cv') (ll.mapIdx fun i p=>(p.1,(S.file p.2).left (pickP ps (i+1) (S.file p.2).units.length)))):=by
    have:=HIm.out
    rw[←HImE.out,List.take_of_length_le (by rw[HNl.out];omega)]at this
    exact this
   go_wp2
   go_ret
   exact⟨_,rfl,HIe.out,HB1.out.trans (HBr.out.mono HB1.out.size)⟩
theorem Tryz.infoTf:(Tryz.prog.info? 141).map (fun i=>(i.zero,i.size,i.bytes))=some (some (.agg #[.slice none 0 0,.slice none 0 0]),2,48):=by kernel_rfl
theorem Tm.made {w w1:World} {K:Knd} {o d:Nat} {fv sv cv:Value} {fs:List (Value × Value)} {S:St} (h:Tm w K o d fv sv cv fs S) {u:Obj} {g' cap':Nat}
  (ho:w1.ownsRow 0 141 2 (.slice (some ⟨g',0,none⟩) (S.files.length+1) cap') (S.files.length+1) (fvs fs++[.slice none 0 0,.slice none 0 0])) (hg:(w.alloc u).grownBy w1 fv.ownBlock) (hat:fv.ownBlock=some g'∨g'=(w.alloc u).heap.size) :
  Tm (w1.setCell ⟨d,2,none⟩ (.slice (some ⟨g',0,none⟩) (S.files.length+1) cap')) (ext K w.heap.size (o,2)) o d (.slice (some ⟨g',0,none⟩) (S.files.length+1) cap') sv cv (fs++[(.slice none 0 0,.slice none 0 0)]) (S.made ⟨[],[]⟩)∧Kp (Ow o) K (ext K w.heap.size (o,2)) w (w1.setCell ⟨d,2,none⟩ (.slice (some ⟨g',0,none⟩) (S.files.length+1) cap')):=by
 have hdl:=lt_of_block h.blk
 have k1:=kp_row h.files hg
 have hd1:w1.heap[d]?=_:=(k1.block d hdl (by rw[h.kd];exact snd_ne (by omega))).trans h.blk
 have hkd:ext K w.heap.size (o,2) d=(o,1):=(ext_old K _ hdl).trans h.kd
 have k2:Kp (fun q=>q=(o,1)) (ext K w.heap.size (o,2)) (ext K w.heap.size (o,2)) w1 (w1.setCell ⟨d,2,none⟩ (.slice (some ⟨g',0,none⟩) (S.files.length+1) cap')):=(Kp.refl (fun q=>q=(o,1)) (ext K w.heap.size (o,2)) w1).setCell (b:=d) (Or.inr hkd) _ _
 have kk:=(k1.mono (q:=fun q=>q=(o,2)∨q=(o,1)) (fun _ e=>Or.inl e)).trans (k2.mono (fun _ e=>Or.inr e))
 have efl:(S.made ⟨[],[]⟩).files.length=S.files.length+1:=by simp[St.made]
 refine⟨⟨?_,hkd,by rw[efl];simp[h.flen],?_,fun i f p h1 h2=>?_,h.sure.kept kk (by simp),h.chgs.kept kk (by simp),h.real⟩,kk.mono (fun k e=>by rcases e with e | e <;> rw[e])⟩
 ·rw[block_set hd1]
  rfl
 ·have hr:=rk_grew h.files ho hat
  have e2:fvs (fs++[(.slice none 0 0,.slice none 0 0)])=fvs fs++[.slice none 0 0,.slice none 0 0]:=by simp[fvs]
  rw[efl,e2]
  exact hr.kept k2 (by simp)
 ·have h1':(S.files++[⟨[],[]⟩])[i]?=some f:=h1
  by_cases hi:i<S.files.length
  ·rw[List.getElem?_append_left hi]at h1'
   rw[List.getElem?_append_left (by rw[h.flen];exact hi)]at h2
   exact⟨(h.file i f p h1' h2).1.kept kk (by simp;omega),(h.file i f p h1' h2).2.kept kk (by simp;omega)⟩
  ·rw[List.getElem?_append_right (by omega)]at h1'
   rw[List.getElem?_append_right (by rw[h.flen];omega)]at h2
   have e0:i - S.files.length=0:=by
    cases hq:i - S.files.length with
    | zero=>rfl
    | succ m=>rw[hq]at h1';simp at h1'
   rw[e0]at h1'
   rw[h.flen,e0]at h2
   simp at h1' h2
   subst h1' h2
   exact⟨⟨⟨rfl,Or.inl ⟨rfl,rfl⟩⟩,fun g e=>by simp[Value.ownBlock]at e⟩,⟨⟨rfl,Or.inl ⟨rfl,rfl⟩⟩,fun g e=>by simp[Value.ownBlock]at e⟩⟩
theorem below_un {w w3:World} {q:Nat} (h:Below (w.drewN q).heap.size (w.drewN q) w3):Below w.heap.size w w3:=⟨h.os,h.tape,h.output,h.size,h.block⟩
theorem tk_eq {w:World} {K:Knd} {o d:Nat} {S S2:St} (h:Tk w K o d S) (e:S2=S):Tk w K o d S2:=e ▸ h
theorem fullP_eq (S:St):S.fullP=(decide (1≤S.pFrom) && decide (S.pFrom≤S.planned) && decide ((S.planned:Int)≤S.pTo)):=rfl
end Go.Proofs.YtcceejdaokoihaaGreatDoor
