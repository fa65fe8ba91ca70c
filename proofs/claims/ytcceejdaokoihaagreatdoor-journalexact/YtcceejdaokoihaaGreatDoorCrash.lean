import Derived.Test.YtcceejdaokoihaaGreatDoorAppB
set_option maxRecDepth 100000
namespace Go.Proofs.YtcceejdaokoihaaGreatDoor
open Go.RowKit Go.Maps
structure Ins (w:World) (pp:Option Addr) (ps:List Int):Prop where
 lie:ps=[]∨∃g o,pp=some ⟨g,o,none⟩∧g<w.heap.size∧∀j,j<ps.length→w.cell? ⟨g,o+j,none⟩=some (.int .i64 (ps.getD j 0))
theorem Ins.kept {w w':World} {pp:Option Addr} {ps:List Int} (h:Ins w pp ps) (hs:w.heap.size≤w'.heap.size) (hk:∀g o,pp=some ⟨g,o,none⟩→g<w.heap.size→w'.heap[g]?=w.heap[g]?):Ins w' pp ps:=by
 refine⟨h.lie.imp id ?_⟩
 rintro ⟨g,o,e,hg,hc⟩
 exact⟨g,o,e,Nat.lt_of_lt_of_le hg hs,fun j hj=>by rw[World.cell?_of_block (hk g o e hg)];exact hc j hj⟩
theorem Ins.below {w w':World} {pp:Option Addr} {ps:List Int} (h:Ins w pp ps) (hb:Below w.heap.size w w'):Ins w' pp ps:=h.kept hb.size (fun g _ _ hg=>hb.block g hg)
def pickP (ps:List Int) (i n:Nat):Nat:=match ps[i]? with | none=>0 | some p=>(p % ((n+1:Nat):Int)).toNat
theorem pick_le (ps:List Int) (i n:Nat):pickP ps i n≤n:=by
 unfold pickP
 split
 ·exact Nat.zero_le _
 ·rename_i p _
  have h1:=Int.emod_lt_of_pos p (show (0:Int)<((n+1:Nat):Int) by omega)
  omega
theorem tmod_fix (p m:Int) (hm:0<m):(p.tmod m<0→p.tmod m+m=p % m)∧(¬p.tmod m<0→p.tmod m=p % m):=by
 have h2:=Int.tmod_lt_of_pos p hm
 have h3 : -m<p.tmod m:=Int.lt_tmod_of_pos p hm
 have h4:=Int.emod_nonneg p (show m≠0 by omega)
 have h5:=Int.emod_lt_of_pos p hm
 rw[Int.tmod_def]at *
 have h6:(p - m*p.tdiv m) % m=p % m:=Int.sub_mul_emod_self_left ..
 generalize p - m*p.tdiv m=t at *
 constructor
 ·intro h
  rw[←h6,←Int.add_emod_right,Int.emod_eq_of_lt (by omega) (by omega)]
 ·intro h
  rw[←h6,Int.emod_eq_of_lt (by omega) (by omega)]
set_option maxHeartbeats 400000 in
theorem pick_any (w:World) (pp:Option Addr) (m cap:Nat) (ps:List Int) (hm:ps.length=m) (hp:Ins w pp ps) (i n:Nat) (hn:n≤1099511627776) (hi:i≤1099511627776) (_hml:m≤140737488355328) :
  Calls Tryz.prog 48 #[.slice pp m cap,.int .i64 (i:Int),.int .i64 (n:Int)] w fun e w'=>e=.returned (.int .i64 (pickP ps i n:Int))∧w'=w:=by
 by_cases hlt:i<m
 ·have hget:ps[i]?=some (ps.getD i 0):=by rw[List.getD,List.getElem?_eq_getElem (by omega)];rfl
  obtain⟨g,o,rfl,hg,hc⟩:∃g o,pp=some ⟨g,o,none⟩∧g<w.heap.size∧∀j,j<ps.length→w.cell? ⟨g,o+j,none⟩=some (.int .i64 (ps.getD j 0)):=by
   rcases hp.lie with h | h
   ·rw[h]at hm;simp at hm;omega
   ·exact h
  have hcell:=hc i (by omega)
  have e1:pickP ps i n=((ps.getD i 0) % ((n+1:Nat):Int)).toNat:=by unfold pickP;rw[hget]
  obtain⟨p,hpp⟩:∃p,ps.getD i 0=p:=⟨_,rfl⟩
  rw[hpp]at e1 hcell
  have hpos:(0:Int)<(n:Int)+1:=by omega
  have hfix:=tmod_fix p ((n:Int)+1) hpos
  have h2:=Int.tmod_lt_of_pos p hpos
  have h3 : -((n:Int)+1)<p.tmod ((n:Int)+1):=Int.lt_tmod_of_pos p hpos
  have h4:=Int.emod_nonneg p (show (n:Int)+1≠0 by omega)
  have e2:((pickP ps i n:Nat):Int)=p % ((n:Int)+1):=by
   rw[e1]
   have:((n+1:Nat):Int)=(n:Int)+1:=by omega
   rw[this];omega
  rw[e2]
  have hlt':(i:Int)<(m:Int):=by omega
  have hi0:(0:Int)≤(i:Int):=by omega
  have hn0:¬(n:Int)+1=0:=by omega
  clear hc hget hp e1 e2 hpp
  by_cases hneg:p.tmod ((n:Int)+1)<0
  ·rw[←hfix.1 hneg]
   clear hfix h4
   go_enter Tryz.func48,Tryz.ntmps48
   go_wp2
   go_ret
   exact⟨rfl,rfl⟩
  ·rw[←hfix.2 hneg]
   clear hfix h4
   go_enter Tryz.func48,Tryz.ntmps48
   go_wp2
   go_ret
   exact⟨rfl,rfl⟩
 ·have e1:pickP ps i n=0:=by unfold pickP;rw[List.getElem?_eq_none (by omega)]
  rw[e1]
  have hlt':¬(i:Int)<(m:Int):=by omega
  clear e1 hp
  go_enter Tryz.func48,Tryz.ntmps48
  go_wp2
  go_ret
  exact⟨rfl,rfl⟩
def St.leftN (S:St) (ps:List Int):List (Nm × Nat):=(S.chg.take (pickP ps 0 S.chg.length)).foldl withN S.safe
def St.crash (S:St) (ps:List Int):Image:=(S.leftN ps).mapIdx fun i p=>(p.1,(S.file p.2).left (pickP ps (i+1) (S.file p.2).units.length))
theorem fold_srt {l:List (Nm × Nat)} (h:Srt l):∀cs:List Chg,Srt (cs.foldl withN l)
 | []=>h
 | c :: cs=>fold_srt (h.withN c) cs
theorem with_mem {l:List (Nm × Nat)} {c:Chg} {p:Nm × Nat} (h:p∈withN l c):p∈l∨(c.to≠[]∧p=(c.to,c.file)):=by
 unfold withN at h
 split at h
 ·exact Or.inl (mem_del.1 h).1
 ·rename_i hne
  rcases mem_put.1 h with e | ⟨e,_⟩
  ·exact Or.inr ⟨hne,e⟩
  ·exact Or.inl (mem_del.1 e).1
theorem fold_in {n:Nat} : ∀(cs:List Chg) {l:List (Nm × Nat)},(∀p∈l,p.2<n∧isNm p.1=true)→(∀c∈cs,c.to=[]∨(isNm c.to=true∧c.file<n))→∀p∈cs.foldl withN l,p.2<n∧isNm p.1=true
 | [],_,h,_=>h
 | c :: cs,l,h,hc=>fold_in cs (fun p hp=>by
   rcases with_mem hp with e | ⟨e1,e2⟩
   ·exact h p e
   ·rcases hc c (List.mem_cons_self ..) with e3 | e3
    ·exact absurd e3 e1
    ·rw[e2];exact⟨e3.2,e3.1⟩) (fun d hd=>hc d (List.mem_cons_of_mem _ hd))
theorem left_in {S:St} (hv:Inv S) (ps:List Int):∀p∈S.leftN ps,p.2<S.files.length∧isNm p.1=true :=
 fold_in _ hv.inf (fun c hc=>(hv.chg c (List.mem_of_mem_take hc)).2)
theorem left_srt {S:St} (hv:Inv S) (ps:List Int):Srt (S.leftN ps):=fold_srt hv.srts _
theorem left_len {S:St} (hv:Inv S) {k:Nat} (hz:Sz S k) (ps:List Int):(S.leftN ps).length≤64+k:=by
 have h1:=len_fold S.safe (S.chg.take (pickP ps 0 S.chg.length))
 have h2:=hv.mosts
 have h3:=hz.ch
 have h4:(S.chg.take (pickP ps 0 S.chg.length)).length≤S.chg.length:=by rw[List.length_take];omega
 unfold St.leftN;omega
theorem crash_at {S:St} {ps:List Int} {j:Nat} {p:Nm × Nat} (hp:(S.leftN ps)[j]?=some p):(S.crash ps)[j]?=some (p.1,(S.file p.2).left (pickP ps (j+1) (S.file p.2).units.length)):=by
 unfold St.crash;rw[List.getElem?_mapIdx,hp];rfl
theorem crash_len (S:St) (ps:List Int):(S.crash ps).length=(S.leftN ps).length:=by simp[St.crash]
theorem left_small {f:Fil} (h:f.ok) (n:Nat):∀x∈f.left n,x<256:=carry_small h.small (okU_small (okU_take h.units n))
theorem left_length (f:Fil) (n:Nat):(f.left n).length≤f.safe.length+f.units.length:=by
 have:=carry_len f.safe (f.units.take n)
 have h2:(f.units.take n).length≤f.units.length:=by rw[List.length_take];omega
 unfold Fil.left;omega
set_option maxHeartbeats 4000000 in
theorem Crash_any (w:World) (K:Knd) (o d:Nat) (S:St) (h:Dk w K o d S) (hv:Inv S) (k:Nat) (hz:Sz S k) (hk:k≤274877906944) (pp:Option Addr) (m cap:Nat) (ps:List Int) (hm:ps.length=m) (hp:Ins w pp ps) (hml:m≤140737488355328) :
  Calls Tryz.prog 18 #[.pointer (some ⟨d,0,none⟩),.slice pp m cap] w fun e w'=>∃v,e=.returned v∧Im w' (ext K w.heap.size (0,0)) v (S.crash ps)∧Below w.heap.size w w':=by
 obtain⟨i0,hi,hz0,hz1,hz2⟩:=info_parts Tryz.infoFb
 obtain⟨loc,sv,nv,cv,hmm⟩:=h
 have HD:=hide hmm
 have HV:=hide hv
 have HZ:=hide hz
 have HP:=hide hp
 have HM:=hide hm
 have hb:=hmm.blk
 unfold dcells at hb
 have HB:=hide hb
 obtain⟨q0,q1,q2,q3,q4,q5,q6,q7,q8,q9,qf⟩:=blk10 hb
 have hbl:=lt_of_block hb
 have HCl:=hide (clone_any w sv (mapN loc S.safe) hmm.sf.mp)
 obtain⟨ca,cc,hcv,hcc,_⟩:=hmm.ch.form
 subst hcv
 obtain⟨n,hn⟩:∃n,S.chg.length=n:=⟨_,rfl⟩
 have HN:=hide hn
 have hnb:n≤274877906944:=by have:=hz.ch;omega
 rw[hn]at q3 hcc
 obtain⟨pk,hpk⟩:∃pk,pickP ps 0 n=pk:=⟨_,rfl⟩
 have HPkE:=hide hpk
 have hpkn:pk≤n:=by rw[←hpk];exact pick_le ps 0 n
 clear hv hz hp hm hb hmm hn hpk
 go_enter Tryz.func18,Tryz.ntmps18
 go_wp2_with fail
 refine HCl.out.mono ?_
 rintro e w1 ⟨ov,rfl,hmp1,hb1,hov⟩
 have HMp1:=hide hmp1
 have HB1:=hide hb1
 have HOv:=hide hov
 obtain⟨y0,y1,y2,y3,y4,y5,y6,y7,y8,y9,yf⟩:=blk10 ((hb1.block d hbl).trans HB.out)
 rw[HN.out]at y3
 have HPk:=hide (fun q=>pick_any (w1.drewN q) pp m cap ps HM.out ⟨(HP.out.below hb1).lie⟩ 0 n (by omega) (by omega) hml)
 rw[HPkE.out]at HPk
 have hpc:(pk:Int)≤(cc:Int):=by omega
 have hp0:(0:Int)≤(pk:Int):=by omega
 clear hmp1 hb1 hov q0 q1 q2 q3 q4 q5 q6 q7 q8 q9 qf
 go_wp2
 go_quiet (first | (go_at_call 48;exact Calls.quiet_of_same (HPk.out _)))
 have HB2:Hid (Below w.heap.size w (w1.drewN nq)):=below_drewN HB1.out nq
 have HMp2:Hid (Mp (w1.drewN nq) (.map ov) (mapN loc S.safe)):=HMp1.out
 generalize w1.drewN nq=w2 at *
 go_wp2
 go_loopw [5,30] (fun l i wr=>∃(j:Nat) (o:Option Nat),j≤pk∧i=.int .i64 j∧l=.map o∧Hid (Mp wr (.map o) (mapN loc ((S.chg.take j).foldl withN S.safe)))∧Hid (Below w.heap.size w wr)∧Hid (∀b,o=some b→w.heap.size≤b)) (fun _ i _=>pk - (intOf i).toNat)
 case atStart=>exact⟨0,ov,Nat.zero_le _,rfl,rfl,HMp2,HB2,HOv⟩
 case round =>
  obtain⟨j,ol,hj,rfl,rfl,HMr,HBr,HOr⟩:=hrel
  clear HMp1 HMp2 HB2 HOv HB1
  by_cases hlt:j<pk
  ·have hlt':(j:Int)<(pk:Int):=by omega
   obtain⟨c,hc⟩:∃c,S.chg[j]?=some c:=⟨_,List.getElem?_eq_getElem (by rw[HN.out];omega)⟩
   have kb:=kp_below HBr.out (fun _=>False) K (0,0)
   have hown:=(HD.out.kept kb (fun _ h=>h)).ch.own
   rw[HN.out]at hown
   obtain⟨g,rfl,hg,c0,c1,c2⟩:=chg_cells hown hc
   have HT:Hid (S.chg.take (j+1)=S.chg.take j++[c]):=take_snoc' _ _ _ hc
   obtain⟨l1,l2⟩:=HV.out.lens c (List.mem_of_getElem? hc)
   have HL1:=hide l1
   have HL2:=hide l2
   obtain⟨fp,hfp⟩:∃fp:Option Addr,(if c.to=[] then none else some ⟨loc c.file,0,none⟩)=fp:=⟨_,rfl⟩
   rw[hfp]at c2
   have HFp:=hide hfp
   clear hc hown l1 l2 hfp kb
   have HBk:Hid (((S.chg.take j).foldl withN S.safe).length<1099511627776):=by
    show _<_
    have e1:=len_fold S.safe (S.chg.take j)
    have e2:=HV.out.mosts
    have e3:=HZ.out.ch
    have e4:(S.chg.take j).length≤S.chg.length:=by rw[List.length_take];omega
    omega
   obtain⟨sA,hsA⟩:∃sA:ByteArray,(⟨c.frm.toArray⟩:ByteArray)=sA:=⟨_,rfl⟩
   obtain⟨sB,hsB⟩:∃sB:ByteArray,(⟨c.to.toArray⟩:ByteArray)=sB:=⟨_,rfl⟩
   rw[hsA]at c0
   rw[hsB]at c1
   have HW:=hide (with_any (wr.alloc (.cells #[.string sA,.string sB,.pointer fp] 92)) (.map ol) (mapN loc ((S.chg.take j).foldl withN S.safe)) (lc loc c) (.pointer fp) (fun hne=>by rw[←HFp.out,if_neg (show ¬c.to=[] from hne)];rfl) (HMr.out.same (fun b hb=>Below.heap_alloc _ _ _ (HMr.out.lt hb))) HL1.out HL2.out (by rw[mapN_len];exact HBk.out) ⟨_,rfl⟩)
   rw[show lc loc c=⟨c.frm,c.to,loc c.file⟩ from rfl]at HW
   simp only at HW
   rw[hsA,hsB]at HW
   clear hsA hsB
   go_wp2_with fail
   refine HW.out.mono ?_
   rintro e w3 ⟨b3,rfl,hm3,hg3,ha3⟩
   have HM3:Hid (Mp w3 (.map (some b3)) (mapN loc ((S.chg.take (j+1)).foldl withN S.safe))):=by
    show Mp _ _ _
    rw[HT.out,List.foldl_append,List.foldl_cons,List.foldl_nil,mapN_with]
    exact hm3
   have HB3:Hid (Below w.heap.size w w3):=(HBr.out.alloc HBr.out.size _).grown hg3 (by have:=HBr.out.size;simp;omega) (fun b e=>HOr.out b e)
   have HO3:Hid (∀b,some b3=some b→w.heap.size≤b):=fun b e=>by
    cases e
    rcases ha3 with h | h
    ·exact HOr.out b3 h.symm
    ·have:=HBr.out.size
     simp at h;omega
   clear hm3 hg3 ha3
   go_wp2
   go_roundw
   case rel=>exact⟨j+1,some b3,by omega,by go_num,rfl,HM3,HB3,HO3⟩
   case measure=>simp[intOf];omega
  ·obtain rfl:j=pk:=by omega
   have HLf:Hid ((S.chg.take j).foldl withN S.safe=S.leftN ps):=by show _=_;unfold St.leftN;rw[HN.out,HPkE.out]
   rw[HLf.out]at HMr
   obtain⟨L,hL⟩:∃L,(S.leftN ps).length=L:=⟨_,rfl⟩
   have HL:=hide hL
   have hLb:L≤274877906944+64:=by have:=left_len HV.out HZ.out ps;omega
   have HSo:=hide (sorted_any wr (.map ol) (mapN loc (S.leftN ps)) HMr.out (by unfold mapN Srt;exact List.pairwise_map.2 (left_srt HV.out ps)) (by rw[mapN_len];omega))
   have e3:(mapN loc (S.leftN ps)).map (·.1)=(S.leftN ps).map (·.1):=by unfold mapN;simp
   rw[e3,mapN_len,hL]at HSo
   clear e3 hL
   go_wp2_with fail
   refine HSo.out.mono ?_
   rintro e w5 ⟨na,nc,rfl,hr5,hb5⟩
   have HR5:=hide hr5
   have HB5:Hid (Below w.heap.size w w5):=HBr.out.trans (hb5.mono HBr.out.size)
   have HM5:Hid (Mp w5 (.map ol) (mapN loc (S.leftN ps))):=HMr.out.same (fun b hb=>hb5.block b (HMr.out.lt hb))
   clear hr5 hb5 HMr HBr
   go_wp2
   go_loopw [8,41] (fun l i wr=>∃(j:Nat) (a:Option Addr) (c:Nat),j≤L∧i=.int .i64 j∧l=.slice a j c∧Hid (Im wr (ext K w.heap.size (0,0)) (.slice a j c) ((S.crash ps).take j))∧Hid (Below w.heap.size w wr)∧Hid (Below w5.heap.size w5 wr)∧Hid (∀g,(Value.slice a j c).ownBlock=some g→w5.heap.size≤g)) (fun _ i _=>L - (intOf i).toNat)
   case atStart=>exact⟨0,none,0,Nat.zero_le _,rfl,rfl,im_nil _ _,HB5,Below.refl _ _,fun g e=>by simp[Value.ownBlock]at e⟩
   case round =>
    obtain⟨j,a,c,hj,rfl,rfl,HI,HB,HBw,HOb⟩:=hrel
    by_cases hlt:j<L
    ·have hlt':(j:Int)<(L:Int):=by omega
     obtain⟨p,hp⟩:∃p,(S.leftN ps)[j]?=some p:=⟨_,List.getElem?_eq_getElem (by rw[HL.out];exact hlt)⟩
     have hpm:=List.mem_of_getElem? hp
     obtain⟨hpi,hpn⟩:=left_in HV.out ps p hpm
     have hfs:=St.file_some hpi
     have hfz:=HZ.out.file hpi
     have kb:=kp_below HB.out (fun _=>False) K (0,0)
     have hDr:=HD.out.kept kb (fun _ h=>h)
     have HT:=hide (take_snoc' (S.crash ps) j _ (crash_at hp))
     have hMr:Mp wr (.map ol) (mapN loc (S.leftN ps)):=HM5.out.same (fun b hb=>HBw.out.block b (HM5.out.lt hb))
     have hlk:=hMr.look p.1 (by have:=(nm_len hpn).2;unfold maxLen;omega)
     rw[mapN_look,look_of_mem (left_srt HV.out ps) hpm]at hlk
     simp only[Option.map_some]at hlk
     obtain⟨fs,fu,hfl,_,_⟩:=(hDr.fl p.2 _ hfs).fl
     obtain⟨z0,z1,z2,zf⟩:=blk3 hfl.blk
     obtain⟨ua,uc,hua,_,_⟩:=owns_form hfl.unit
     subst hua
     obtain⟨pj,hpj⟩:∃pj,pickP ps (j+1) (S.file p.2).units.length=pj:=⟨_,rfl⟩
     have HPj:=hide (pick_any wr pp m cap ps HM.out (HP.out.below HB.out) (j+1) (S.file p.2).units.length (by omega) (by omega) hml)
     rw[hpj]at HPj HT
     have hpjl:pj≤(S.file p.2).units.length:=by rw[←hpj];exact pick_le _ _ _
     have HLf2:=hide (hDr.leftF hfs pj hpjl (by omega))
     have HSm:Hid ((∀x∈(S.file p.2).left pj,x<256)∧((S.file p.2).left pj).length≤1099511627776):=⟨left_small hfz.1 pj,by have:=left_length (S.file p.2) pj;omega⟩
     obtain⟨g,rfl,hg,hc⟩:∃g,na=some ⟨g,0,none⟩∧g<w5.heap.size∧w5.cell? ⟨g,j,none⟩=some (.string ⟨p.1.toArray⟩):=by
      have hst:(strs ((S.leftN ps).map (·.1)))[j]?=some (.string ⟨p.1.toArray⟩):=by unfold strs;rw[List.getElem?_map,List.getElem?_map,hp];rfl
      rcases HR5.out.2 with ⟨_,e2⟩ | ⟨g,cap,cur,e1,_,hg,e3,e4,e5,e6⟩
      ·omega
      ·cases e1
       refine⟨g,rfl,lt_of_block hg,?_⟩
       rw[←e6,List.getElem?_take,if_pos (by omega)]at hst
       simp only[World.cell?,hg]
       simpa using hst
     have hcr:wr.cell? ⟨g,j,none⟩=some (.string ⟨p.1.toArray⟩):=(HBw.out.cell (p:=⟨g,j,none⟩) hg).trans hc
     have hub:(S.file p.2).units.length≤1099511627776:=by omega
     have hjj:((j+1:Nat):Int)=(j:Int)+1:=by omega
     rw[hjj]at HPj
     clear hp hpm hpi hpn hfs hfz kb hDr hMr hfl hc hpj z0 z2 hjj
     generalize hsp:(⟨p.1.toArray⟩:ByteArray)=sp at *
     have HSp:=hide hsp
     clear hsp
     generalize (S.file p.2).units.length=UL at *
     obtain⟨B,hB⟩:∃B,(S.file p.2).left pj=B:=⟨_,rfl⟩
     rw[hB]at HLf2 HSm HT
     clear hB
     go_wp2_with fail
     refine HPj.out.mono ?_
     rintro e w6 ⟨rfl,rfl⟩
     go_wp2_with fail
     refine HLf2.out.mono ?_
     rintro e w7 ⟨ra,rc,rfl,hr7,hb7⟩
     have HR7:=hide hr7
     have HB7:=hide hb7
     clear hr7 hb7
     have HI7:=hide (HI.out.kept (p:=fun _=>False) (K':=ext K w.heap.size (0,0)) ⟨HB7.out.os,HB7.out.tape,HB7.out.output,HB7.out.size,fun _ _=>rfl,fun b hb _=>HB7.out.block b hb⟩ (fun h=>h))
     have hlen:((S.crash ps).take j).length=j:=by rw[List.length_take,crash_len,HL.out];omega
     obtain⟨ds,hd1,hd2,hd3⟩:=HI7.out.row
     rw[hlen]at hd1 hd2
     have HD1:=hide hd1
     have HD2:=hide hd2
     have HD3:=hide hd3
     clear hd1 hd2 hd3
     have HRr:Hid (Rk w7 (ext K w.heap.size (0,0)) (0,0) 5 1 (.slice ra B.length rc) B.length (vals B)):=by
      refine⟨⟨HR7.out.1,HR7.out.2.imp id ?_⟩,fun g' e=>?_⟩
      ·rintro ⟨g',cap,cur,e1,_,r⟩
       exact⟨g',cap,cur,e1,Nat.zero_le _,r⟩
      ·refine ext_new K _ ?_
       rcases HR7.out.2 with ⟨e1,_⟩ | ⟨g2,cap,cur,e1,e2,_⟩
       ·rw[e1]at e;simp[Value.ownBlock]at e
       ·rw[e1]at e;simp[Value.ownBlock]at e
        have:=HB.out.size
        omega
     generalize hpl:B.length=pl at *
     have HPl:=hide hpl
     clear hpl
     go_wp2_with (at_builtin;refine wpList_append_lies _ rfl (.tmp 49) (.tmp 63) 51 rfl 0 87 i0 (.agg #[.string ⟨#[]⟩,.slice none 0 0]) 2 40 Tryz.underlying51 hi hz0 hz1 hz2 rfl (by omega) (.slice a j c) j (imv ((S.crash ps).take j) ds) rfl (HD2.out.own.alloc _) ⟨w7.heap.size,0,none⟩ 1 1 [.string sp,.slice ra pl rc] rfl rfl (World.news_of_block (heap_alloc_new w7 (.cells #[.string sp,.slice ra pl rc] 87))) (by simp[Value.oneCell']) (by omega) (by unfold maxLen;omega) (by omega) (by omega) _ rfl ?_;intro g' cap' w8 hown8 hgrow8 hat8 hltg)
     have HB8:Hid (Below w.heap.size w w8∧Below w5.heap.size w5 w8):=by
      have s1:=HB5.out.size
      have s2:=HBw.out.size
      have s3:=HB7.out.size
      have h1:Below w5.heap.size w5 w7:=HBw.out.trans (HB7.out.mono s2)
      have h2:=(h1.alloc (by omega) (.cells #[.string sp,.slice ra pl rc] 87)).grown hgrow8 (by simp;omega) (fun g e=>HOb.out g e)
      exact⟨HB5.out.trans (h2.mono s1),h2⟩
     have HOb8:Hid (∀g2,(Value.slice (some ⟨g',0,none⟩) (j+1) cap').ownBlock=some g2→w5.heap.size≤g2):=fun g2 e=>by
      simp[Value.ownBlock]at e
      subst e
      rcases hat8 with h | h
      ·exact HOb.out g' h
      ·have s2:=HBw.out.size
       have s3:=HB7.out.size
       simp at h;omega
     have HI8:Hid (Im w8 (ext K w.heap.size (0,0)) (.slice (some ⟨g',0,none⟩) (j+1) cap') ((S.crash ps).take (j+1))):=by
      show Im _ _ _ _
      rw[HT.out]
      have e1:=HPl.out
      subst e1
      have e2:=HSp.out
      subst e2
      refine Im.push (w:=w7) (v:=.slice a j c) (p:=(p.1,B)) HI7.out.small (by rw[hlen];exact HD1.out) (by rw[hlen];exact HD2.out) HD3.out HSm.out HRr.out (by rw[hlen];exact hown8) (fun g2 hg2 hne=>(hgrow8.block g2 (by simp;omega) hne).trans (Below.heap_alloc _ _ _ hg2)) (fun g2 e=>?_)
      simp[Value.ownBlock]at e
      subst e
      rcases hat8 with h | h
      ·exact HD2.out.kind g' h
      ·refine ext_new K _ ?_
       have:=HB.out.size
       have:=HB7.out.size
       simp at h;omega
     clear hown8 hgrow8 hat8
     go_wp2
     go_roundw
     case rel=>exact⟨j+1,_,cap',by omega,by go_num,rfl,HI8,hide HB8.out.1,hide HB8.out.2,HOb8⟩
     case measure=>simp[intOf];omega
    ·obtain rfl:j=L:=by omega
     have HIe:Hid (Im wr (ext K w.heap.size (0,0)) (.slice a j c) (S.crash ps)):=by
      have:=HI.out
      rwa [List.take_of_length_le (by rw[crash_len,HL.out];exact Nat.le_refl _)]at this
     go_wp2
     go_ret
     exact⟨_,rfl,HIe.out,HB.out⟩
end Go.Proofs.YtcceejdaokoihaaGreatDoor
