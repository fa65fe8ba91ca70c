import Derived.Test.YtcceejdaokoihaaGreatDoorXL
set_option maxRecDepth 100000
namespace Go.Proofs.YtcceejdaokoihaaGreatDoor
open Go.RowKit Go.Maps
set_option maxHeartbeats 8000000 in
theorem radd_any (w:World) (K:Knd) (od o d jb:Nat) (hne:od≠o) (hod:od≠0) (S:St) (J:Jr) (k:Nat) (ht:Tk w K od d S) (hs:Okd S k) (hk:k+25165830≤274877906944) (hj:Rj w K o d jb J) (m:Nat) (hjo:Okj J m) (hm:m≤274877906944) (pp:Option Addr) (kp cp:Nat) (ps:List (List Nat)) (hps:ps.length=kp) (hkp:kp≤140737488355328) (hst:∀w' K',Kp (Two od o) K K' w w'→Pts w' pp ps) (hsb:∀p∈ps,∀x∈p,x<256) :
  Calls Tryz.prog 25 #[.pointer (some ⟨jb,0,none⟩),.slice pp kp cp] w (RKept w K od o d jb (addR S J ps)):=by
 obtain⟨i0,hi,hz0,hz1,hz2⟩:=info_parts Tryz.infoRr
 have HW:=hide (rwrong_any w K o d jb J hj hjo.last pp kp cp ps hps hkp (hst w K (Kp.refl _ _ _)))
 have HT:=hide ht
 have HJ:=hide hj
 have HS:=hide hs
 have HSt:=hide hst
 have HPs:=hide hps
 have HOj:=hide hjo
 have hll:=hjo.last
 cases hof:J.off with
 | true =>
  rw[show (if J.off then 52 else if recOk (J.last+1) ps=false then 51 else 0:Nat)=52 from by rw[if_pos hof]]at HW
  have HR:Hid (addR S J ps=(52,S,J)):=by show _=_;unfold addR keepR;rw[if_pos hof]
  clear ht hj hs hst hps hjo hsb hof hll
  go_enter Tryz.func25,Tryz.ntmps25
  go_wp2_with fail
  refine HW.out.mono ?_
  rintro e w1 ⟨rfl,hb1⟩
  have HB1:=hide hb1
  clear hb1
  go_wp2
  go_ret
  show RKept _ _ _ _ _ _ _ _ _
  rw[HR.out]
  exact⟨_,rfl,HT.out.kept (kp_below HB1.out (fun _=>False) K (0,0)) (fun _ h=>h),HJ.out.kept (kp_below HB1.out (fun _=>False) K (0,0)) (fun _ h=>h),kp_below HB1.out _ K (0,0)⟩
 | false =>
  cases hok:recOk (J.last+1) ps with
  | false =>
   rw[show (if J.off then 52 else if recOk (J.last+1) ps=false then 51 else 0:Nat)=51 from by rw[if_neg (by rw[hof];simp),if_pos hok]]at HW
   have HR:Hid (addR S J ps=(51,S,J)):=by show _=_;unfold addR keepR;rw[if_neg (by rw[hof];simp),if_pos hok]
   clear ht hj hs hst hps hjo hsb hof hll hok
   go_enter Tryz.func25,Tryz.ntmps25
   go_wp2_with fail
   refine HW.out.mono ?_
   rintro e w1 ⟨rfl,hb1⟩
   have HB1:=hide hb1
   clear hb1
   go_wp2
   go_ret
   show RKept _ _ _ _ _ _ _ _ _
   rw[HR.out]
   exact⟨_,rfl,HT.out.kept (kp_below HB1.out (fun _=>False) K (0,0)) (fun _ h=>h),HJ.out.kept (kp_below HB1.out (fun _=>False) K (0,0)) (fun _ h=>h),kp_below HB1.out _ K (0,0)⟩
  | true =>
   rw[show (if J.off then 52 else if recOk (J.last+1) ps=false then 51 else 0:Nat)=0 from by rw[if_neg (by rw[hof];simp),if_neg (by rw[hok];simp)]]at HW
   have HOk:=hide hok
   have HOf:=hide hof
   have HLr:=hide (recB_long hok)
   have HSm:=hide (recB_small hok hsb (recOk_lens hok))
   have HPr:=hide (parts_rec (num:=J.last+1) (by omega) hok hsb)
   have hlr:=recB_long hok
   have hk4:kp≤4096∧(partsB ps).length≤4194304:=by
    unfold recOk at hok
    simp only[Bool.and_eq_true,decide_eq_true_eq]at hok
    rw[hps]at hok
    have:=bodyB_len (J.last+1) ps
    omega
   have HRr:Hid (RKept w K od o d jb (addR S J ps)=RKept w K od o d jb (keepR S J ps J.adds)):=rfl
   have hNl:J.last+1<18446744073709551616:=by omega
   have HNn:Hid (1099511627776<J.last+1→False):=fun h=>by
    unfold recOk at hok
    simp only[Bool.and_eq_true,decide_eq_true_eq]at hok
    omega
   have HNd:Hid (J.adds (recB (J.last+1) ps)=(if J.torn then [.cut J.name (goodN J),.mend] else [])++tailS J (recB (J.last+1) ps)):=by show _=_;unfold Jr.adds tailS;rw[List.append_assoc]
   clear ht hj hs hst hps hsb hok hof
   cases htn:J.torn with
   | false =>
    rw[htn]at HNd
    go_enter Tryz.func25,Tryz.ntmps25
    go_wp2_with fail
    refine HW.out.mono ?_
    rintro e w1 ⟨rfl,hb1⟩
    have HA0:Hid (At5 w K od o d jb S J ps J.adds (J.adds (recB (J.last+1) ps)) w1 (ext K w.heap.size (0,0)) S J k):=⟨HT.out.kept (kp_below hb1 (fun _=>False) K (0,0)) (fun _ h=>h),HJ.out.kept (kp_below hb1 (fun _=>False) K (0,0)) (fun _ h=>h),kp_below hb1 _ K (0,0),HS.out,rfl,rfl,rfl,rfl,HOf.out⟩
    rw[HNd.out]at HA0
    generalize ext K w.heap.size (0,0)=K1 at *
    clear hb1 HW
    have HA1:Hid (At5 w K od o d jb S J ps J.adds (tailS J (recB (J.last+1) ps)) w1 K1 S J k):=HA0.out
    obtain⟨tv,a5,c5,htv,q0,q1,q2,q3,q4,q5,q6,qf,hjl⟩:=HA1.out.cells
    rw[htn]at q5
    clear HA0 htv q0 q1 q2 q3 q6 qf
    obtain⟨tv,a5,c5,htv,q0,q1,q2,q3,q4,q5,q6,qf,hjl⟩:=HA1.out.cells
    have HRc:=hide (rrec_lr w1 (J.last+1) hNl pp kp cp ps HPs.out hk4.1 (HSt.out w1 K1 HA1.out.kp) hk4.2)
    clear htv
    generalize hNN:J.last+1=NN at *
    have HNN:=hide hNN
    clear hNN
    go_wp2_with fail
    refine HRc.out.mono ?_
    rintro e wB ⟨sp,n,c,hn,rfl,hl⟩
    have HAB:=hide (HA1.out.go (kp_below hl.bel _ K1 (0,0)))
    have HAl:=hide (lr_alien (K:=K1) hod hl)
    have HBy:=hide (Bytes.of_c hl.bytes)
    have HBw:=hide hl.bel
    have hsB:=hl.bel.size
    generalize ext K1 w1.heap.size (0,0)=KB at *
    have x0:=(hl.bel.cell (p:=⟨jb,0,none⟩) hjl).trans q0
    have x1:=(hl.bel.cell (p:=⟨jb,1,none⟩) hjl).trans q1
    have HNl:=hide hn
    rw[←hn]at hlr
    have hjB:jb<wB.heap.size:=Nat.lt_of_lt_of_le hjl hsB
    clear hl hn HRc q0 q1 q2 q3 q4 q5 q6 qf
    have HAp:=hide (fun q=>tappend_any (wB.drewN q) KB od d _ (tk_drew HAB.out.tk q) HAB.out.ok.inv (okd_fb HAB.out.ok (by omega)) (by have:=HAB.out.ok.sz.st;omega) (by have:=HAB.out.ok.sz.pl;omega) (by have:=HAB.out.ok.fl;omega) J.name sp n c (recB NN ps) HNl.out.symm (by omega) (HBy.out.drewN q) HAl.out)
    go_wp2
    go_region_held3 (fun w'=>w'.cell? ⟨jb,0,none⟩=some (.pointer (some ⟨d,0,none⟩))∧w'.cell? ⟨jb,1,none⟩=some (.string ⟨J.name.toArray⟩)) (first | (refine⟨?_,?_⟩ <;> assumption) | go_keep)
     (first | (go_at_call 34;refine(HAp.out 1).mono ?_;rintro e wC ⟨KC,rfl,htC,hkC⟩;have HTC:=hide htC;have HKC:=hide (kp_un hkC);obtain⟨hcc,hcf,hjC⟩:=HAB.out.jcells hne HKC.out;have s0:=(hcc 0).trans x0;have s1:=(hcc 1).trans x1;clear htC hkC hcc hcf) | fail)
    obtain⟨e2,he2⟩:∃e2,((S).appendR J.name (recB NN ps)).1=e2:=⟨_,rfl⟩
    obtain⟨S2,hS2⟩:∃S2,((S).appendR J.name (recB NN ps)).2=S2:=⟨_,rfl⟩
    rw[he2]
    rw[hS2]at HTC
    have HRun2:Hid (Stk.run (S) (J) (.app J.name (recB NN ps))=(e2,S2,J)):=by show _=_;rw[←he2,←hS2];rfl
    have HFit:Hid (Stk.fits (.app J.name (recB NN ps))):=⟨HSm.out,HLr.out.2⟩
    clear he2 hS2 HAp x0 x1
    by_cases he2:e2=0
    rotate_left
    ·have f1:((e2:Int) == 0)=false:=by simp;omega
     have f2:((e2:Int) != 0)=true:=by simp;omega
     have f3:¬(e2:Int)=0:=by omega
     have HKe:=hide (HAB.out.stop HOf.out (by rw[HNN.out];exact HOk.out) HRun2.out he2)
     have HEn:=hide (rends_any wC KC o d jb _ (HAB.out.rj.kept HKC.out (fun k e=>hne e.symm)) HAB.out.of e2)
     clear he2
     go_wp2_with fail
     refine HEn.out.mono ?_
     rintro e w9 ⟨rfl,hr9,hk9⟩
     have HRes:=hide (ends_res (J1:=J) HKe.out hne (HAB.out.kp.trans (HKC.out.mono (fun _ e=>Or.inl e))) HTC.out hr9 hk9)
     clear hr9 hk9
     go_wp2
     go_ret
     exact HRes.out
    subst he2
    have HAC:=hide (HAB.out.stroke hne HFit.out HTC.out HKC.out HRun2.out)
    have HSy:=hide (fun q=>tsync_any (wC.drewN q) KC od d S2 (tk_drew HTC.out q) HAC.out.ok.inv (okd_fb HAC.out.ok (by omega)) (by have:=HAC.out.ok.sz.st;omega) (by have:=HAC.out.ok.sz.pl;omega) J.name)
    have HQC:=hide HAC.out.cells
    clear HAB HTC HKC HRun2 HFit HAl
    go_wp2
    go_region_held3 (fun w'=>w'.cell? ⟨jb,0,none⟩=some (.pointer (some ⟨d,0,none⟩))∧w'.cell? ⟨jb,1,none⟩=some (.string ⟨J.name.toArray⟩)) (first | (refine⟨?_,?_⟩ <;> assumption) | go_keep)
     (first | (go_at_call 59;refine(HSy.out 1).mono ?_;rintro e wD ⟨KD,rfl,htD,hkD⟩;have HTD:=hide htD;have HKD:=hide (kp_un hkD);obtain⟨hcc,hcf,hjD⟩:=HAC.out.jcells hne HKD.out;have t0:=(hcc 0).trans s0;have t1:=(hcc 1).trans s1;have HCD:=hide hcc;have HFD:=hide hcf;clear htD hkD hcc hcf) | fail)
    obtain⟨e3,he3⟩:∃e3,(S2.syncR J.name).1=e3:=⟨_,rfl⟩
    obtain⟨S3,hS3⟩:∃S3,(S2.syncR J.name).2=S3:=⟨_,rfl⟩
    rw[he3]
    rw[hS3]at HTD
    have HRun3:Hid (Stk.run S2 (J) (.sync J.name)=(e3,S3,J)):=by show _=_;rw[←he3,←hS3];rfl
    obtain⟨tv,a5,c5,htv,q0,q1,q2,q3,q4,q5,q6,qf,hjl2⟩:=HQC.out
    have t6:=(HCD.out 6).trans q6
    clear he3 hS3 HSy s0 s1 q0 q1 q2 q3 q4 q5 q6 qf htv HQC HCD HFD
    by_cases he3:e3=0
    rotate_left
    ·have f1:((e3:Int) == 0)=false:=by simp;omega
     have f2:((e3:Int) != 0)=true:=by simp;omega
     have f3:¬(e3:Int)=0:=by omega
     have HKe:=hide (HAC.out.stop HOf.out (by rw[HNN.out];exact HOk.out) HRun3.out he3)
     have HEn:=hide (rends_any wD KD o d jb _ (HAC.out.rj.kept HKD.out (fun k e=>hne e.symm)) HAC.out.of e3)
     clear he3
     go_wp2_with fail
     refine HEn.out.mono ?_
     rintro e w9 ⟨rfl,hr9,hk9⟩
     have HRes:=hide (ends_res (J1:=J) HKe.out hne (HAC.out.kp.trans (HKD.out.mono (fun _ e=>Or.inl e))) HTD.out hr9 hk9)
     clear hr9 hk9
     go_wp2
     go_ret
     exact HRes.out
    subst he3
    have HAD:=hide (HAC.out.stroke hne (s:=.sync J.name) trivial HTD.out HKD.out HRun3.out)
    clear HAC HTD HKD HRun3
    cases hnd:J.named with
    | true =>
     have HAE:Hid (At5 w K od o d jb S J ps J.adds [] wD KD S3 (J) (k+4194305+4194305)):=by have:=HAD.out;rw[if_pos hnd]at this;exact this
     rw[hnd]at t6
     clear HAD hnd
     have HQ:=hide HAE.out.cells
     obtain⟨tv,a5,c5,htv,q0,q1,q2,q3,q4,q5,q6,qf,hjE⟩:=HQ.out
     obtain⟨ht6,hr6,hk6⟩:=HAE.out.named hne
     have HT6:=hide ht6
     have HR6:=hide hr6
     have HK6:=hide hk6
     have HDn:=hide (HAE.out.done HOf.out (by rw[HNN.out];exact HOk.out))
     have HOf1:=hide HAE.out.of
     have f6:=qf 6
     clear ht6 hr6 hk6 htv HQ q0 q1 q2 q3 q4 q5
     go_wp2
     generalize wD.setCell ⟨jb,6,none⟩ (.bool true)=wF at *
     obtain⟨tv6,vs6,hm6⟩:=HR6.out
     obtain⟨a6,c6,htv6,_,_⟩:=hm6.row.form
     subst htv6
     have hb6:=hm6.cells
     have HM6:=hide hm6
     have HB6:=hide hb6
     obtain⟨u0,u1,u2,u3,u4,u5,u6,u7,u8,uf⟩:=blk9 hb6
     have hj6:=lt_of_block hb6
     have HRo:=hide hm6.row.own
     obtain⟨L6,hL6⟩:∃L6,(J).recs.length=L6:=⟨_,rfl⟩
     have hL6b:L6≤549755813888:=by rw[←hL6];have:=HOj.out.len;exact Nat.le_trans this (by omega)
     obtain⟨G6,hG6⟩:∃G6,goodN (J)=G6:=⟨_,rfl⟩
     have hG6b:G6≤549755813888:=by rw[←hG6];have:=HOj.out.sum;exact Nat.le_trans this (by omega)
     have HL6:=hide hL6
     have HG6:=hide hG6
     have u2':wF.cell? ⟨jb,2,none⟩=some (.slice a6 L6 c6):=by rw[←hL6];exact u2
     have u3':wF.cell? ⟨jb,3,none⟩=some (.int .i64 (G6:Int)):=by rw[←hG6];exact u3
     have u4':wF.cell? ⟨jb,4,none⟩=some (.int .u64 (NN:Int)):=by rw[u4];congr 3 <;> exact_mod_cast (show (J).last+1=NN from HNN.out)
     have HRo2:Hid (wF.ownsRow 0 31 1 (.slice a6 L6 c6) L6 vs6):=by rw[←hL6];exact HRo.out
     have HNe6:Hid (some jb≠(Value.slice a6 L6 c6).ownBlock):=by rw[←hL6];exact owns_ne HRo.out HB6.out (by decide)
     have HPq:=hide (HSt.out wF KD HK6.out)
     have HCp:=hide (rcopies_any wF.drew (by show 0<wF.heap.size;omega) pp kp cp ps HPs.out hk4.1 (HPq.out.drewN 1))
     have hNb:NN≤1099511627776:=by rcases Nat.lt_or_ge 1099511627776 NN with h | h;exact(HNn.out h).elim;exact h
     clear hm6 hb6 u0 u1 u2 u3 u4 u5 u6 u7 u8 HRo hL6 hG6
     go_region_law (first | (go_simp;go_at_call 61;refine HCp.out.mono ?_;rintro e wG ⟨aG,cG,rfl,hpG,hbG⟩;have HPG:=hide hpG;have HBG:Hid (Below wF.heap.size wF wG):=⟨hbG.os,hbG.tape,hbG.output,hbG.size,hbG.block⟩;have hfb:wG.heap[jb]?=_:=(HBG.out.block jb hj6).trans HB6.out;have hjG:=lt_of_block hfb;have hsG:wF.heap.size≤wG.heap.size:=HBG.out.size;have HFG:Hid (wG.ownsRow 0 31 1 (.slice a6 L6 c6) L6 vs6):=owns_same HRo2.out (fun g e=>HBG.out.block g (rk_lt HRo2.out e));have HDG:=hide hfb;have v2:=(HBG.out.cell (p:=⟨jb,2,none⟩) hj6).trans u2';clear hpG hbG hfb) | (refine step_append_lies _ (by rfl) (.tmp 91) (.tmp 94) 54 (by rfl) 0 31 i0 (.slice none 0 0) 1 24 Tryz.underlying54 hi hz0 hz1 hz2 rfl (by omega) (.slice a6 L6 c6) L6 vs6 (by rfl) (HFG.out.alloc _) ⟨wG.heap.size,0,none⟩ 1 1 [.slice aG kp cG] (by rfl) rfl (World.news_of_block (heap_alloc_new wG (.cells #[.slice aG kp cG] 31))) (by simp[Value.oneCell']) (by omega) (by unfold maxLen;omega) (by omega) (by omega) _ rfl ?_;intro gH capH wH hoH hgH hatH hltH;have HOH:=hide hoH;have HGH:=hide hgH;have HAH:=hide hatH;have hdb:wH.heap[jb]?=_:=(hgH.block jb (by simp;omega) HNe6.out).trans ((Below.heap_alloc _ _ _ hjG).trans HDG.out);obtain⟨y0,y1,y2,y3,y4,y5,y6,y7,y8,yf⟩:=blk9 hdb;have hjH:=lt_of_block hdb;have HDH:=hide hdb;have y3':wH.cell? ⟨jb,3,none⟩=some (.int .i64 (G6:Int)):=(by rw[←HG6.out];exact y3);have y4':wH.cell? ⟨jb,4,none⟩=some (.int .u64 (NN:Int)):=(by rw[y4];congr 3 <;> exact_mod_cast (show (J).last+1=NN from HNN.out));clear hdb hoH hgH hatH y0 y1 y3 y4 y5 y6 y7 y8))
     all_goals
      go_wp2
      go_ret
      have hdn:=HDn.out
      rw[HNN.out]at hdn
      show RKept w K od o d jb (keepR S J ps J.adds) _ _
      rw[hdn]
      have hkG:=kp_below HBG.out (fun _=>False) KD (o,3)
      have hmG:=HM6.out.kept hkG (fun _ h=>h)
      have hptk:PtK wG (ext KD wF.heap.size (o,3)) (o,3) aG ps:=HPG.out.ptk (Nat.le_refl _) (fun b h1 _=>ext_new _ _ h1)
      have hTG:=HT6.out.kept hkG (fun _ h=>h)
      have hKG:=HK6.out.trans (kp_below HBG.out (Two od o) KD (o,3))
      generalize ext KD wF.heap.size (o,3)=KG at *
      have hkj:ext KG wG.heap.size (o,2) jb=(o,1):=(ext_old KG _ hjG).trans hmG.kj
      have hk3:Kp (fun k=>k=(o,1)) (ext KG wG.heap.size (o,2)) (ext KG wG.heap.size (o,2)) wH (((wH.setCell ⟨jb,2,none⟩ (.slice (some ⟨gH,0,none⟩) (L6+1) capH)).setCell ⟨jb,3,none⟩ (.int .i64 ((G6:Int)+(n:Int)))).setCell ⟨jb,4,none⟩ (.int .u64 ((NN:Int)+1))):=(((Kp.refl _ _ wH).setCell (b:=jb) (Or.inr hkj) _ _).setCell (b:=jb) (Or.inr hkj) _ _).setCell (b:=jb) (Or.inr hkj) _ _
      have e1:((goodN (({ (J) with named:=true } : Jr).took (recB NN ps)):Nat):Int)=(G6:Int)+(n:Int):=by rw[←HG6.out,HNl.out];unfold goodN Jr.took;simp
      have e2:(((({ (J) with named:=true } : Jr).took (recB NN ps)).last+1:Nat):Int)=(NN:Int)+1:=by show ((J.last+1+1:Nat):Int)=_;have:=HNN.out;omega
      have hb9:(((wH.setCell ⟨jb,2,none⟩ (.slice (some ⟨gH,0,none⟩) (L6+1) capH)).setCell ⟨jb,3,none⟩ (.int .i64 ((G6:Int)+(n:Int)))).setCell ⟨jb,4,none⟩ (.int .u64 ((NN:Int)+1))).heap[jb]?=some (.cells (rcells d (({ (J) with named:=true } : Jr).took (recB NN ps)) (.slice (some ⟨gH,0,none⟩) (L6+1) capH)) 116 (0,0)):=by
       rw[block_set (block_set (block_set HDH.out _) _) _]
       unfold rcells
       rw[e1,e2]
       have e3:=HOf1.out
       simp[Jr.took,e3]
      have hres:=hmG.took (r:=recB NN ps) (pp:=aG) (cp:=cG) (pv:=.slice aG kp cG) (by rw[HPr.out,HPs.out]) (by rw[HPr.out];exact hptk) (u:=.cells #[.slice aG kp cG] 31) (g':=gH) (cap':=capH) (by have:=HOH.out;rw[←HL6.out]at this;exact this) (by have:=HGH.out;rw[←HL6.out]at this;exact this) (by have:=HAH.out;rw[←HL6.out]at this;exact this) _ hk3 (hb9.trans (by rw[←HL6.out]))
      refine⟨ext KG wG.heap.size (o,2),rfl,?_,hres.1,hKG.trans (hres.2.mono (fun _ e=>Or.inr e))⟩
      exact hTG.kept hres.2 (fun k e=>hne e)
    | false =>
     have HAE:Hid (At5 w K od o d jb S J ps J.adds [.names] wD KD S3 (J) (k+4194305+4194305)):=by have:=HAD.out;rw[if_neg (by rw[hnd];simp)]at this;exact this
     rw[hnd]at t6
     have HNs:=hide (tsyncNames_any wD KD od d S3 HAE.out.tk HAE.out.ok.inv (okd_fb HAE.out.ok (by omega)) (by have:=HAE.out.ok.sz.st;omega) (by have:=HAE.out.ok.sz.pl;omega))
     clear HAD hnd
     go_wp2_with fail
     refine HNs.out.mono ?_
     rintro e wE ⟨KE,rfl,htE,hkE⟩
     have HTE:=hide htE
     have HKE:=hide hkE
     obtain⟨e4,he4⟩:∃e4,S3.namesR.1=e4:=⟨_,rfl⟩
     obtain⟨S4,hS4⟩:∃S4,S3.namesR.2=S4:=⟨_,rfl⟩
     rw[he4]
     rw[hS4]at HTE
     have HRun4:Hid (Stk.run S3 (J) .names=(e4,S4,J)):=by show _=_;rw[←he4,←hS4];rfl
     clear htE hkE he4 hS4 HNs t0 t1 t6
     by_cases he4:e4=0
     rotate_left
     ·have f1:((e4:Int) == 0)=false:=by simp;omega
      have f2:((e4:Int) != 0)=true:=by simp;omega
      have f3:¬(e4:Int)=0:=by omega
      have HKe:=hide (HAE.out.stop HOf.out (by rw[HNN.out];exact HOk.out) HRun4.out he4)
      have HEn:=hide (rends_any wE KE o d jb _ (HAE.out.rj.kept HKE.out (fun k e=>hne e.symm)) HAE.out.of e4)
      clear he4
      go_wp2_with fail
      refine HEn.out.mono ?_
      rintro e w9 ⟨rfl,hr9,hk9⟩
      have HRes:=hide (ends_res (J1:=J) HKe.out hne (HAE.out.kp.trans (HKE.out.mono (fun _ e=>Or.inl e))) HTE.out hr9 hk9)
      clear hr9 hk9
      go_wp2
      go_ret
      exact HRes.out
     subst he4
     have HAF:=hide (HAE.out.stroke hne (s:=.names) trivial HTE.out HKE.out HRun4.out)
     clear HAE HTE HKE HRun4
     have HQ:=hide HAF.out.cells
     obtain⟨tv,a5,c5,htv,q0,q1,q2,q3,q4,q5,q6,qf,hjE⟩:=HQ.out
     obtain⟨ht6,hr6,hk6⟩:=HAF.out.named hne
     have HT6:=hide ht6
     have HR6:=hide hr6
     have HK6:=hide hk6
     have HDn:=hide (HAF.out.done HOf.out (by rw[HNN.out];exact HOk.out))
     have HOf1:=hide HAF.out.of
     have f6:=qf 6
     clear ht6 hr6 hk6 htv HQ q0 q1 q2 q3 q4 q5
     go_wp2
     generalize wE.setCell ⟨jb,6,none⟩ (.bool true)=wF at *
     obtain⟨tv6,vs6,hm6⟩:=HR6.out
     obtain⟨a6,c6,htv6,_,_⟩:=hm6.row.form
     subst htv6
     have hb6:=hm6.cells
     have HM6:=hide hm6
     have HB6:=hide hb6
     obtain⟨u0,u1,u2,u3,u4,u5,u6,u7,u8,uf⟩:=blk9 hb6
     have hj6:=lt_of_block hb6
     have HRo:=hide hm6.row.own
     obtain⟨L6,hL6⟩:∃L6,(J).recs.length=L6:=⟨_,rfl⟩
     have hL6b:L6≤549755813888:=by rw[←hL6];have:=HOj.out.len;exact Nat.le_trans this (by omega)
     obtain⟨G6,hG6⟩:∃G6,goodN (J)=G6:=⟨_,rfl⟩
     have hG6b:G6≤549755813888:=by rw[←hG6];have:=HOj.out.sum;exact Nat.le_trans this (by omega)
     have HL6:=hide hL6
     have HG6:=hide hG6
     have u2':wF.cell? ⟨jb,2,none⟩=some (.slice a6 L6 c6):=by rw[←hL6];exact u2
     have u3':wF.cell? ⟨jb,3,none⟩=some (.int .i64 (G6:Int)):=by rw[←hG6];exact u3
     have u4':wF.cell? ⟨jb,4,none⟩=some (.int .u64 (NN:Int)):=by rw[u4];congr 3 <;> exact_mod_cast (show (J).last+1=NN from HNN.out)
     have HRo2:Hid (wF.ownsRow 0 31 1 (.slice a6 L6 c6) L6 vs6):=by rw[←hL6];exact HRo.out
     have HNe6:Hid (some jb≠(Value.slice a6 L6 c6).ownBlock):=by rw[←hL6];exact owns_ne HRo.out HB6.out (by decide)
     have HPq:=hide (HSt.out wF KE HK6.out)
     have HCp:=hide (rcopies_any wF.drew (by show 0<wF.heap.size;omega) pp kp cp ps HPs.out hk4.1 (HPq.out.drewN 1))
     have hNb:NN≤1099511627776:=by rcases Nat.lt_or_ge 1099511627776 NN with h | h;exact(HNn.out h).elim;exact h
     clear hm6 hb6 u0 u1 u2 u3 u4 u5 u6 u7 u8 HRo hL6 hG6
     go_region_law (first | (go_simp;go_at_call 61;refine HCp.out.mono ?_;rintro e wG ⟨aG,cG,rfl,hpG,hbG⟩;have HPG:=hide hpG;have HBG:Hid (Below wF.heap.size wF wG):=⟨hbG.os,hbG.tape,hbG.output,hbG.size,hbG.block⟩;have hfb:wG.heap[jb]?=_:=(HBG.out.block jb hj6).trans HB6.out;have hjG:=lt_of_block hfb;have hsG:wF.heap.size≤wG.heap.size:=HBG.out.size;have HFG:Hid (wG.ownsRow 0 31 1 (.slice a6 L6 c6) L6 vs6):=owns_same HRo2.out (fun g e=>HBG.out.block g (rk_lt HRo2.out e));have HDG:=hide hfb;have v2:=(HBG.out.cell (p:=⟨jb,2,none⟩) hj6).trans u2';clear hpG hbG hfb) | (refine step_append_lies _ (by rfl) (.tmp 91) (.tmp 94) 54 (by rfl) 0 31 i0 (.slice none 0 0) 1 24 Tryz.underlying54 hi hz0 hz1 hz2 rfl (by omega) (.slice a6 L6 c6) L6 vs6 (by rfl) (HFG.out.alloc _) ⟨wG.heap.size,0,none⟩ 1 1 [.slice aG kp cG] (by rfl) rfl (World.news_of_block (heap_alloc_new wG (.cells #[.slice aG kp cG] 31))) (by simp[Value.oneCell']) (by omega) (by unfold maxLen;omega) (by omega) (by omega) _ rfl ?_;intro gH capH wH hoH hgH hatH hltH;have HOH:=hide hoH;have HGH:=hide hgH;have HAH:=hide hatH;have hdb:wH.heap[jb]?=_:=(hgH.block jb (by simp;omega) HNe6.out).trans ((Below.heap_alloc _ _ _ hjG).trans HDG.out);obtain⟨y0,y1,y2,y3,y4,y5,y6,y7,y8,yf⟩:=blk9 hdb;have hjH:=lt_of_block hdb;have HDH:=hide hdb;have y3':wH.cell? ⟨jb,3,none⟩=some (.int .i64 (G6:Int)):=(by rw[←HG6.out];exact y3);have y4':wH.cell? ⟨jb,4,none⟩=some (.int .u64 (NN:Int)):=(by rw[y4];congr 3 <;> exact_mod_cast (show (J).last+1=NN from HNN.out));clear hdb hoH hgH hatH y0 y1 y3 y4 y5 y6 y7 y8))
     all_goals
      go_wp2
      go_ret
      have hdn:=HDn.out
      rw[HNN.out]at hdn
      show RKept w K od o d jb (keepR S J ps J.adds) _ _
      rw[hdn]
      have hkG:=kp_below HBG.out (fun _=>False) KE (o,3)
      have hmG:=HM6.out.kept hkG (fun _ h=>h)
      have hptk:PtK wG (ext KE wF.heap.size (o,3)) (o,3) aG ps:=HPG.out.ptk (Nat.le_refl _) (fun b h1 _=>ext_new _ _ h1)
      have hTG:=HT6.out.kept hkG (fun _ h=>h)
      have hKG:=HK6.out.trans (kp_below HBG.out (Two od o) KE (o,3))
      generalize ext KE wF.heap.size (o,3)=KG at *
      have hkj:ext KG wG.heap.size (o,2) jb=(o,1):=(ext_old KG _ hjG).trans hmG.kj
      have hk3:Kp (fun k=>k=(o,1)) (ext KG wG.heap.size (o,2)) (ext KG wG.heap.size (o,2)) wH (((wH.setCell ⟨jb,2,none⟩ (.slice (some ⟨gH,0,none⟩) (L6+1) capH)).setCell ⟨jb,3,none⟩ (.int .i64 ((G6:Int)+(n:Int)))).setCell ⟨jb,4,none⟩ (.int .u64 ((NN:Int)+1))):=(((Kp.refl _ _ wH).setCell (b:=jb) (Or.inr hkj) _ _).setCell (b:=jb) (Or.inr hkj) _ _).setCell (b:=jb) (Or.inr hkj) _ _
      have e1:((goodN (({ (J) with named:=true } : Jr).took (recB NN ps)):Nat):Int)=(G6:Int)+(n:Int):=by rw[←HG6.out,HNl.out];unfold goodN Jr.took;simp
      have e2:(((({ (J) with named:=true } : Jr).took (recB NN ps)).last+1:Nat):Int)=(NN:Int)+1:=by show ((J.last+1+1:Nat):Int)=_;have:=HNN.out;omega
      have hb9:(((wH.setCell ⟨jb,2,none⟩ (.slice (some ⟨gH,0,none⟩) (L6+1) capH)).setCell ⟨jb,3,none⟩ (.int .i64 ((G6:Int)+(n:Int)))).setCell ⟨jb,4,none⟩ (.int .u64 ((NN:Int)+1))).heap[jb]?=some (.cells (rcells d (({ (J) with named:=true } : Jr).took (recB NN ps)) (.slice (some ⟨gH,0,none⟩) (L6+1) capH)) 116 (0,0)):=by
       rw[block_set (block_set (block_set HDH.out _) _) _]
       unfold rcells
       rw[e1,e2]
       have e3:=HOf1.out
       simp[Jr.took,e3]
      have hres:=hmG.took (r:=recB NN ps) (pp:=aG) (cp:=cG) (pv:=.slice aG kp cG) (by rw[HPr.out,HPs.out]) (by rw[HPr.out];exact hptk) (u:=.cells #[.slice aG kp cG] 31) (g':=gH) (cap':=capH) (by have:=HOH.out;rw[←HL6.out]at this;exact this) (by have:=HGH.out;rw[←HL6.out]at this;exact this) (by have:=HAH.out;rw[←HL6.out]at this;exact this) _ hk3 (hb9.trans (by rw[←HL6.out]))
      refine⟨ext KG wG.heap.size (o,2),rfl,?_,hres.1,hKG.trans (hres.2.mono (fun _ e=>Or.inr e))⟩
      exact hTG.kept hres.2 (fun k e=>hne e)
   | true =>
    rw[htn]at HNd
    go_enter Tryz.func25,Tryz.ntmps25
    go_wp2_with fail
    refine HW.out.mono ?_
    rintro e w1 ⟨rfl,hb1⟩
    have HA0:Hid (At5 w K od o d jb S J ps J.adds (J.adds (recB (J.last+1) ps)) w1 (ext K w.heap.size (0,0)) S J k):=⟨HT.out.kept (kp_below hb1 (fun _=>False) K (0,0)) (fun _ h=>h),HJ.out.kept (kp_below hb1 (fun _=>False) K (0,0)) (fun _ h=>h),kp_below hb1 _ K (0,0),HS.out,rfl,rfl,rfl,rfl,HOf.out⟩
    rw[HNd.out]at HA0
    generalize ext K w.heap.size (0,0)=K1 at *
    clear hb1 HW
    have HA1:Hid (At5 w K od o d jb S J ps J.adds (.cut J.name (goodN J) :: .mend :: tailS J (recB (J.last+1) ps)) w1 K1 S J k):=HA0.out
    obtain⟨tv,a5,c5,htv,q0,q1,q2,q3,q4,q5,q6,qf,hjl0⟩:=HA1.out.cells
    rw[htn]at q5
    have hgb:goodN J≤549755813888:=Nat.le_trans HOj.out.sum (by omega)
    have HCu:=hide (fun q=>tcut_any (w1.drewN q) K1 od d S (tk_drew HA1.out.tk q) HA1.out.ok.inv (okd_fb HA1.out.ok (by omega)) (by have:=HA1.out.ok.sz.st;omega) (by have:=HA1.out.ok.sz.pl;omega) J.name (goodN J:Int))
    clear HA0 htv q2 q4 q6 qf
    go_wp2
    go_region_held3 (fun w'=>w'.cell? ⟨jb,0,none⟩=some (.pointer (some ⟨d,0,none⟩))∧w'.cell? ⟨jb,1,none⟩=some (.string ⟨J.name.toArray⟩)∧w'.cell? ⟨jb,3,none⟩=some (.int .i64 (goodN J:Int))) (first | (refine⟨?_,?_,?_⟩ <;> assumption) | go_keep)
     (first | (go_at_call 56;refine(HCu.out 1).mono ?_;rintro e wZ ⟨KZ,rfl,htZ,hkZ⟩;have HTZ:=hide htZ;have HKZ:=hide (kp_un hkZ);obtain⟨hcc,hcf,hjZ⟩:=HA1.out.jcells hne HKZ.out;have s0:=(hcc 0).trans q0;have s1:=(hcc 1).trans q1;have s3:=(hcc 3).trans q3;have s5:=(hcc 5).trans q5;clear htZ hkZ hcc hcf) | fail)
    obtain⟨e1,he1⟩:∃e1,(S.cutR J.name (goodN J:Int)).1=e1:=⟨_,rfl⟩
    obtain⟨SZ,hSZ⟩:∃SZ,(S.cutR J.name (goodN J:Int)).2=SZ:=⟨_,rfl⟩
    rw[he1]
    rw[hSZ]at HTZ
    have HRunZ:Hid (Stk.run S J (.cut J.name (goodN J))=(e1,SZ,J)):=by show _=_;rw[←he1,←hSZ];rfl
    clear he1 hSZ HCu q0 q1 q3 q5
    by_cases he1:e1=0
    rotate_left
    ·have f2:((e1:Int) != 0)=true:=by simp;omega
     have f3:¬(e1:Int)=0:=by omega
     have HKe:=hide (HA1.out.stop HOf.out HOk.out HRunZ.out he1)
     have HEn:=hide (rends_any wZ KZ o d jb _ (HA1.out.rj.kept HKZ.out (fun k e=>hne e.symm)) HA1.out.of e1)
     clear he1
     go_wp2_with fail
     refine HEn.out.mono ?_
     rintro e w9 ⟨rfl,hr9,hk9⟩
     have HRes:=hide (ends_res HKe.out hne (HA1.out.kp.trans (HKZ.out.mono (fun _ e=>Or.inl e))) HTZ.out hr9 hk9)
     clear hr9 hk9
     go_wp2
     go_ret
     exact HRes.out
    subst he1
    have HAZ:=hide (HA1.out.stroke hne (s:=.cut J.name (goodN J)) trivial HTZ.out HKZ.out HRunZ.out)
    have HAY:=hide (HAZ.out.mended hne)
    have HQZ:=hide HAZ.out.cells
    obtain⟨tv,a5,c5,htv,q0,q1,q2,q3,q4,q5,q6,qf,hjZ2⟩:=HQZ.out
    have f5:=qf 5
    have HQY:=hide HAY.out.cells
    obtain⟨tv2,a52,c52,htv2,z0,z1,z2,z3,z4,z5,z6,zf,hjY⟩:=HQY.out
    clear HA1 HTZ HKZ HRunZ htv q0 q1 q2 q3 q4 q6 qf s0 s1 s3 s5 HAZ HQZ htv2 z0 z1 z2 z3 z5 z6 zf HQY
    obtain⟨KY,hKY⟩:∃KY,KZ=KY:=⟨_,rfl⟩
    subst hKY
    obtain⟨tv,a5,c5,htv,q0,q1,q2,q3,q4,q5,q6,qf,hjl⟩:=HAY.out.cells
    have HRc:=hide (rrec_lr (wZ.setCell ⟨jb,5,none⟩ (.bool false)) (J.last+1) hNl pp kp cp ps HPs.out hk4.1 (HSt.out (wZ.setCell ⟨jb,5,none⟩ (.bool false)) KZ HAY.out.kp) hk4.2)
    clear htv
    generalize hNN:J.last+1=NN at *
    have HNN:=hide hNN
    clear hNN
    go_wp2_with fail
    refine HRc.out.mono ?_
    rintro e wB ⟨sp,n,c,hn,rfl,hl⟩
    have HAB:=hide (HAY.out.go (kp_below hl.bel _ KZ (0,0)))
    have HAl:=hide (lr_alien (K:=KZ) hod hl)
    have HBy:=hide (Bytes.of_c hl.bytes)
    have HBw:=hide hl.bel
    have hsB:=hl.bel.size
    generalize ext KZ (wZ.setCell ⟨jb,5,none⟩ (.bool false)).heap.size (0,0)=KB at *
    have x0:=(hl.bel.cell (p:=⟨jb,0,none⟩) hjl).trans q0
    have x1:=(hl.bel.cell (p:=⟨jb,1,none⟩) hjl).trans q1
    have HNl:=hide hn
    rw[←hn]at hlr
    have hjB:jb<wB.heap.size:=Nat.lt_of_lt_of_le hjl hsB
    clear hl hn HRc q0 q1 q2 q3 q4 q5 q6 qf
    have HAp:=hide (fun q=>tappend_any (wB.drewN q) KB od d _ (tk_drew HAB.out.tk q) HAB.out.ok.inv (okd_fb HAB.out.ok (by omega)) (by have:=HAB.out.ok.sz.st;omega) (by have:=HAB.out.ok.sz.pl;omega) (by have:=HAB.out.ok.fl;omega) J.name sp n c (recB NN ps) HNl.out.symm (by omega) (HBy.out.drewN q) HAl.out)
    go_wp2
    go_region_held3 (fun w'=>w'.cell? ⟨jb,0,none⟩=some (.pointer (some ⟨d,0,none⟩))∧w'.cell? ⟨jb,1,none⟩=some (.string ⟨J.name.toArray⟩)) (first | (refine⟨?_,?_⟩ <;> assumption) | go_keep)
     (first | (go_at_call 34;refine(HAp.out 1).mono ?_;rintro e wC ⟨KC,rfl,htC,hkC⟩;have HTC:=hide htC;have HKC:=hide (kp_un hkC);obtain⟨hcc,hcf,hjC⟩:=HAB.out.jcells hne HKC.out;have s0:=(hcc 0).trans x0;have s1:=(hcc 1).trans x1;clear htC hkC hcc hcf) | fail)
    obtain⟨e2,he2⟩:∃e2,((SZ).appendR J.name (recB NN ps)).1=e2:=⟨_,rfl⟩
    obtain⟨S2,hS2⟩:∃S2,((SZ).appendR J.name (recB NN ps)).2=S2:=⟨_,rfl⟩
    rw[he2]
    rw[hS2]at HTC
    have HRun2:Hid (Stk.run (SZ) ({ J with torn:=false }) (.app J.name (recB NN ps))=(e2,S2,{ J with torn:=false })):=by show _=_;rw[←he2,←hS2];rfl
    have HFit:Hid (Stk.fits (.app J.name (recB NN ps))):=⟨HSm.out,HLr.out.2⟩
    clear he2 hS2 HAp x0 x1
    by_cases he2:e2=0
    rotate_left
    ·have f1:((e2:Int) == 0)=false:=by simp;omega
     have f2:((e2:Int) != 0)=true:=by simp;omega
     have f3:¬(e2:Int)=0:=by omega
     have HKe:=hide (HAB.out.stop HOf.out (by rw[HNN.out];exact HOk.out) HRun2.out he2)
     have HEn:=hide (rends_any wC KC o d jb _ (HAB.out.rj.kept HKC.out (fun k e=>hne e.symm)) HAB.out.of e2)
     clear he2
     go_wp2_with fail
     refine HEn.out.mono ?_
     rintro e w9 ⟨rfl,hr9,hk9⟩
     have HRes:=hide (ends_res (J1:={ J with torn:=false }) HKe.out hne (HAB.out.kp.trans (HKC.out.mono (fun _ e=>Or.inl e))) HTC.out hr9 hk9)
     clear hr9 hk9
     go_wp2
     go_ret
     exact HRes.out
    subst he2
    have HAC:=hide (HAB.out.stroke hne HFit.out HTC.out HKC.out HRun2.out)
    have HSy:=hide (fun q=>tsync_any (wC.drewN q) KC od d S2 (tk_drew HTC.out q) HAC.out.ok.inv (okd_fb HAC.out.ok (by omega)) (by have:=HAC.out.ok.sz.st;omega) (by have:=HAC.out.ok.sz.pl;omega) J.name)
    have HQC:=hide HAC.out.cells
    clear HAB HTC HKC HRun2 HFit HAl
    go_wp2
    go_region_held3 (fun w'=>w'.cell? ⟨jb,0,none⟩=some (.pointer (some ⟨d,0,none⟩))∧w'.cell? ⟨jb,1,none⟩=some (.string ⟨J.name.toArray⟩)) (first | (refine⟨?_,?_⟩ <;> assumption) | go_keep)
     (first | (go_at_call 59;refine(HSy.out 1).mono ?_;rintro e wD ⟨KD,rfl,htD,hkD⟩;have HTD:=hide htD;have HKD:=hide (kp_un hkD);obtain⟨hcc,hcf,hjD⟩:=HAC.out.jcells hne HKD.out;have t0:=(hcc 0).trans s0;have t1:=(hcc 1).trans s1;have HCD:=hide hcc;have HFD:=hide hcf;clear htD hkD hcc hcf) | fail)
    obtain⟨e3,he3⟩:∃e3,(S2.syncR J.name).1=e3:=⟨_,rfl⟩
    obtain⟨S3,hS3⟩:∃S3,(S2.syncR J.name).2=S3:=⟨_,rfl⟩
    rw[he3]
    rw[hS3]at HTD
    have HRun3:Hid (Stk.run S2 ({ J with torn:=false }) (.sync J.name)=(e3,S3,{ J with torn:=false })):=by show _=_;rw[←he3,←hS3];rfl
    obtain⟨tv,a5,c5,htv,q0,q1,q2,q3,q4,q5,q6,qf,hjl2⟩:=HQC.out
    have t6:=(HCD.out 6).trans q6
    clear he3 hS3 HSy s0 s1 q0 q1 q2 q3 q4 q5 q6 qf htv HQC HCD HFD
    by_cases he3:e3=0
    rotate_left
    ·have f1:((e3:Int) == 0)=false:=by simp;omega
     have f2:((e3:Int) != 0)=true:=by simp;omega
     have f3:¬(e3:Int)=0:=by omega
     have HKe:=hide (HAC.out.stop HOf.out (by rw[HNN.out];exact HOk.out) HRun3.out he3)
     have HEn:=hide (rends_any wD KD o d jb _ (HAC.out.rj.kept HKD.out (fun k e=>hne e.symm)) HAC.out.of e3)
     clear he3
     go_wp2_with fail
     refine HEn.out.mono ?_
     rintro e w9 ⟨rfl,hr9,hk9⟩
     have HRes:=hide (ends_res (J1:={ J with torn:=false }) HKe.out hne (HAC.out.kp.trans (HKD.out.mono (fun _ e=>Or.inl e))) HTD.out hr9 hk9)
     clear hr9 hk9
     go_wp2
     go_ret
     exact HRes.out
    subst he3
    have HAD:=hide (HAC.out.stroke hne (s:=.sync J.name) trivial HTD.out HKD.out HRun3.out)
    clear HAC HTD HKD HRun3
    cases hnd:J.named with
    | true =>
     have HAE:Hid (At5 w K od o d jb S J ps J.adds [] wD KD S3 ({ J with torn:=false }) (k+4194305+4194305+4194305)):=by have:=HAD.out;rw[if_pos hnd]at this;exact this
     rw[hnd]at t6
     clear HAD hnd
     have HQ:=hide HAE.out.cells
     obtain⟨tv,a5,c5,htv,q0,q1,q2,q3,q4,q5,q6,qf,hjE⟩:=HQ.out
     obtain⟨ht6,hr6,hk6⟩:=HAE.out.named hne
     have HT6:=hide ht6
     have HR6:=hide hr6
     have HK6:=hide hk6
     have HDn:=hide (HAE.out.done HOf.out (by rw[HNN.out];exact HOk.out))
     have HOf1:=hide HAE.out.of
     have f6:=qf 6
     clear ht6 hr6 hk6 htv HQ q0 q1 q2 q3 q4 q5
     go_wp2
     generalize wD.setCell ⟨jb,6,none⟩ (.bool true)=wF at *
     obtain⟨tv6,vs6,hm6⟩:=HR6.out
     obtain⟨a6,c6,htv6,_,_⟩:=hm6.row.form
     subst htv6
     have hb6:=hm6.cells
     have HM6:=hide hm6
     have HB6:=hide hb6
     obtain⟨u0,u1,u2,u3,u4,u5,u6,u7,u8,uf⟩:=blk9 hb6
     have hj6:=lt_of_block hb6
     have HRo:=hide hm6.row.own
     obtain⟨L6,hL6⟩:∃L6,({ J with torn:=false }).recs.length=L6:=⟨_,rfl⟩
     have hL6b:L6≤549755813888:=by rw[←hL6];have:=HOj.out.len;exact Nat.le_trans this (by omega)
     obtain⟨G6,hG6⟩:∃G6,goodN ({ J with torn:=false })=G6:=⟨_,rfl⟩
     have hG6b:G6≤549755813888:=by rw[←hG6];have:=HOj.out.sum;exact Nat.le_trans this (by omega)
     have HL6:=hide hL6
     have HG6:=hide hG6
     have u2':wF.cell? ⟨jb,2,none⟩=some (.slice a6 L6 c6):=by rw[←hL6];exact u2
     have u3':wF.cell? ⟨jb,3,none⟩=some (.int .i64 (G6:Int)):=by rw[←hG6];exact u3
     have u4':wF.cell? ⟨jb,4,none⟩=some (.int .u64 (NN:Int)):=by rw[u4];congr 3 <;> exact_mod_cast (show ({ J with torn:=false }).last+1=NN from HNN.out)
     have HRo2:Hid (wF.ownsRow 0 31 1 (.slice a6 L6 c6) L6 vs6):=by rw[←hL6];exact HRo.out
     have HNe6:Hid (some jb≠(Value.slice a6 L6 c6).ownBlock):=by rw[←hL6];exact owns_ne HRo.out HB6.out (by decide)
     have HPq:=hide (HSt.out wF KD HK6.out)
     have HCp:=hide (rcopies_any wF.drew (by show 0<wF.heap.size;omega) pp kp cp ps HPs.out hk4.1 (HPq.out.drewN 1))
     have hNb:NN≤1099511627776:=by rcases Nat.lt_or_ge 1099511627776 NN with h | h;exact(HNn.out h).elim;exact h
     clear hm6 hb6 u0 u1 u2 u3 u4 u5 u6 u7 u8 HRo hL6 hG6
     go_region_law (first | (go_simp;go_at_call 61;refine HCp.out.mono ?_;rintro e wG ⟨aG,cG,rfl,hpG,hbG⟩;have HPG:=hide hpG;have HBG:Hid (Below wF.heap.size wF wG):=⟨hbG.os,hbG.tape,hbG.output,hbG.size,hbG.block⟩;have hfb:wG.heap[jb]?=_:=(HBG.out.block jb hj6).trans HB6.out;have hjG:=lt_of_block hfb;have hsG:wF.heap.size≤wG.heap.size:=HBG.out.size;have HFG:Hid (wG.ownsRow 0 31 1 (.slice a6 L6 c6) L6 vs6):=owns_same HRo2.out (fun g e=>HBG.out.block g (rk_lt HRo2.out e));have HDG:=hide hfb;have v2:=(HBG.out.cell (p:=⟨jb,2,none⟩) hj6).trans u2';clear hpG hbG hfb) | (refine step_append_lies _ (by rfl) (.tmp 91) (.tmp 94) 54 (by rfl) 0 31 i0 (.slice none 0 0) 1 24 Tryz.underlying54 hi hz0 hz1 hz2 rfl (by omega) (.slice a6 L6 c6) L6 vs6 (by rfl) (HFG.out.alloc _) ⟨wG.heap.size,0,none⟩ 1 1 [.slice aG kp cG] (by rfl) rfl (World.news_of_block (heap_alloc_new wG (.cells #[.slice aG kp cG] 31))) (by simp[Value.oneCell']) (by omega) (by unfold maxLen;omega) (by omega) (by omega) _ rfl ?_;intro gH capH wH hoH hgH hatH hltH;have HOH:=hide hoH;have HGH:=hide hgH;have HAH:=hide hatH;have hdb:wH.heap[jb]?=_:=(hgH.block jb (by simp;omega) HNe6.out).trans ((Below.heap_alloc _ _ _ hjG).trans HDG.out);obtain⟨y0,y1,y2,y3,y4,y5,y6,y7,y8,yf⟩:=blk9 hdb;have hjH:=lt_of_block hdb;have HDH:=hide hdb;have y3':wH.cell? ⟨jb,3,none⟩=some (.int .i64 (G6:Int)):=(by rw[←HG6.out];exact y3);have y4':wH.cell? ⟨jb,4,none⟩=some (.int .u64 (NN:Int)):=(by rw[y4];congr 3 <;> exact_mod_cast (show ({ J with torn:=false }).last+1=NN from HNN.out));clear hdb hoH hgH hatH y0 y1 y3 y4 y5 y6 y7 y8))
     all_goals
      go_wp2
      go_ret
      have hdn:=HDn.out
      rw[HNN.out]at hdn
      show RKept w K od o d jb (keepR S J ps J.adds) _ _
      rw[hdn]
      have hkG:=kp_below HBG.out (fun _=>False) KD (o,3)
      have hmG:=HM6.out.kept hkG (fun _ h=>h)
      have hptk:PtK wG (ext KD wF.heap.size (o,3)) (o,3) aG ps:=HPG.out.ptk (Nat.le_refl _) (fun b h1 _=>ext_new _ _ h1)
      have hTG:=HT6.out.kept hkG (fun _ h=>h)
      have hKG:=HK6.out.trans (kp_below HBG.out (Two od o) KD (o,3))
      generalize ext KD wF.heap.size (o,3)=KG at *
      have hkj:ext KG wG.heap.size (o,2) jb=(o,1):=(ext_old KG _ hjG).trans hmG.kj
      have hk3:Kp (fun k=>k=(o,1)) (ext KG wG.heap.size (o,2)) (ext KG wG.heap.size (o,2)) wH (((wH.setCell ⟨jb,2,none⟩ (.slice (some ⟨gH,0,none⟩) (L6+1) capH)).setCell ⟨jb,3,none⟩ (.int .i64 ((G6:Int)+(n:Int)))).setCell ⟨jb,4,none⟩ (.int .u64 ((NN:Int)+1))):=(((Kp.refl _ _ wH).setCell (b:=jb) (Or.inr hkj) _ _).setCell (b:=jb) (Or.inr hkj) _ _).setCell (b:=jb) (Or.inr hkj) _ _
      have e1:((goodN (({ ({ J with torn:=false }) with named:=true } : Jr).took (recB NN ps)):Nat):Int)=(G6:Int)+(n:Int):=by rw[←HG6.out,HNl.out];unfold goodN Jr.took;simp
      have e2:(((({ ({ J with torn:=false }) with named:=true } : Jr).took (recB NN ps)).last+1:Nat):Int)=(NN:Int)+1:=by show ((J.last+1+1:Nat):Int)=_;have:=HNN.out;omega
      have hb9:(((wH.setCell ⟨jb,2,none⟩ (.slice (some ⟨gH,0,none⟩) (L6+1) capH)).setCell ⟨jb,3,none⟩ (.int .i64 ((G6:Int)+(n:Int)))).setCell ⟨jb,4,none⟩ (.int .u64 ((NN:Int)+1))).heap[jb]?=some (.cells (rcells d (({ ({ J with torn:=false }) with named:=true } : Jr).took (recB NN ps)) (.slice (some ⟨gH,0,none⟩) (L6+1) capH)) 116 (0,0)):=by
       rw[block_set (block_set (block_set HDH.out _) _) _]
       unfold rcells
       rw[e1,e2]
       have e3:=HOf1.out
       simp[Jr.took,e3]
      have hres:=hmG.took (r:=recB NN ps) (pp:=aG) (cp:=cG) (pv:=.slice aG kp cG) (by rw[HPr.out,HPs.out]) (by rw[HPr.out];exact hptk) (u:=.cells #[.slice aG kp cG] 31) (g':=gH) (cap':=capH) (by have:=HOH.out;rw[←HL6.out]at this;exact this) (by have:=HGH.out;rw[←HL6.out]at this;exact this) (by have:=HAH.out;rw[←HL6.out]at this;exact this) _ hk3 (hb9.trans (by rw[←HL6.out]))
      refine⟨ext KG wG.heap.size (o,2),rfl,?_,hres.1,hKG.trans (hres.2.mono (fun _ e=>Or.inr e))⟩
      exact hTG.kept hres.2 (fun k e=>hne e)
    | false =>
     have HAE:Hid (At5 w K od o d jb S J ps J.adds [.names] wD KD S3 ({ J with torn:=false }) (k+4194305+4194305+4194305)):=by have:=HAD.out;rw[if_neg (by rw[hnd];simp)]at this;exact this
     rw[hnd]at t6
     have HNs:=hide (tsyncNames_any wD KD od d S3 HAE.out.tk HAE.out.ok.inv (okd_fb HAE.out.ok (by omega)) (by have:=HAE.out.ok.sz.st;omega) (by have:=HAE.out.ok.sz.pl;omega))
     clear HAD hnd
     go_wp2_with fail
     refine HNs.out.mono ?_
     rintro e wE ⟨KE,rfl,htE,hkE⟩
     have HTE:=hide htE
     have HKE:=hide hkE
     obtain⟨e4,he4⟩:∃e4,S3.namesR.1=e4:=⟨_,rfl⟩
     obtain⟨S4,hS4⟩:∃S4,S3.namesR.2=S4:=⟨_,rfl⟩
     rw[he4]
     rw[hS4]at HTE
     have HRun4:Hid (Stk.run S3 ({ J with torn:=false }) .names=(e4,S4,{ J with torn:=false })):=by show _=_;rw[←he4,←hS4];rfl
     clear htE hkE he4 hS4 HNs t0 t1 t6
     by_cases he4:e4=0
     rotate_left
     ·have f1:((e4:Int) == 0)=false:=by simp;omega
      have f2:((e4:Int) != 0)=true:=by simp;omega
      have f3:¬(e4:Int)=0:=by omega
      have HKe:=hide (HAE.out.stop HOf.out (by rw[HNN.out];exact HOk.out) HRun4.out he4)
      have HEn:=hide (rends_any wE KE o d jb _ (HAE.out.rj.kept HKE.out (fun k e=>hne e.symm)) HAE.out.of e4)
      clear he4
      go_wp2_with fail
      refine HEn.out.mono ?_
      rintro e w9 ⟨rfl,hr9,hk9⟩
      have HRes:=hide (ends_res (J1:={ J with torn:=false }) HKe.out hne (HAE.out.kp.trans (HKE.out.mono (fun _ e=>Or.inl e))) HTE.out hr9 hk9)
      clear hr9 hk9
      go_wp2
      go_ret
      exact HRes.out
     subst he4
     have HAF:=hide (HAE.out.stroke hne (s:=.names) trivial HTE.out HKE.out HRun4.out)
     clear HAE HTE HKE HRun4
     have HQ:=hide HAF.out.cells
     obtain⟨tv,a5,c5,htv,q0,q1,q2,q3,q4,q5,q6,qf,hjE⟩:=HQ.out
     obtain⟨ht6,hr6,hk6⟩:=HAF.out.named hne
     have HT6:=hide ht6
     have HR6:=hide hr6
     have HK6:=hide hk6
     have HDn:=hide (HAF.out.done HOf.out (by rw[HNN.out];exact HOk.out))
     have HOf1:=hide HAF.out.of
     have f6:=qf 6
     clear ht6 hr6 hk6 htv HQ q0 q1 q2 q3 q4 q5
     go_wp2
     generalize wE.setCell ⟨jb,6,none⟩ (.bool true)=wF at *
     obtain⟨tv6,vs6,hm6⟩:=HR6.out
     obtain⟨a6,c6,htv6,_,_⟩:=hm6.row.form
     subst htv6
     have hb6:=hm6.cells
     have HM6:=hide hm6
     have HB6:=hide hb6
     obtain⟨u0,u1,u2,u3,u4,u5,u6,u7,u8,uf⟩:=blk9 hb6
     have hj6:=lt_of_block hb6
     have HRo:=hide hm6.row.own
     obtain⟨L6,hL6⟩:∃L6,({ J with torn:=false }).recs.length=L6:=⟨_,rfl⟩
     have hL6b:L6≤549755813888:=by rw[←hL6];have:=HOj.out.len;exact Nat.le_trans this (by omega)
     obtain⟨G6,hG6⟩:∃G6,goodN ({ J with torn:=false })=G6:=⟨_,rfl⟩
     have hG6b:G6≤549755813888:=by rw[←hG6];have:=HOj.out.sum;exact Nat.le_trans this (by omega)
     have HL6:=hide hL6
     have HG6:=hide hG6
     have u2':wF.cell? ⟨jb,2,none⟩=some (.slice a6 L6 c6):=by rw[←hL6];exact u2
     have u3':wF.cell? ⟨jb,3,none⟩=some (.int .i64 (G6:Int)):=by rw[←hG6];exact u3
     have u4':wF.cell? ⟨jb,4,none⟩=some (.int .u64 (NN:Int)):=by rw[u4];congr 3 <;> exact_mod_cast (show ({ J with torn:=false }).last+1=NN from HNN.out)
     have HRo2:Hid (wF.ownsRow 0 31 1 (.slice a6 L6 c6) L6 vs6):=by rw[←hL6];exact HRo.out
     have HNe6:Hid (some jb≠(Value.slice a6 L6 c6).ownBlock):=by rw[←hL6];exact owns_ne HRo.out HB6.out (by decide)
     have HPq:=hide (HSt.out wF KE HK6.out)
     have HCp:=hide (rcopies_any wF.drew (by show 0<wF.heap.size;omega) pp kp cp ps HPs.out hk4.1 (HPq.out.drewN 1))
     have hNb:NN≤1099511627776:=by rcases Nat.lt_or_ge 1099511627776 NN with h | h;exact(HNn.out h).elim;exact h
     clear hm6 hb6 u0 u1 u2 u3 u4 u5 u6 u7 u8 HRo hL6 hG6
     go_region_law (first | (go_simp;go_at_call 61;refine HCp.out.mono ?_;rintro e wG ⟨aG,cG,rfl,hpG,hbG⟩;have HPG:=hide hpG;have HBG:Hid (Below wF.heap.size wF wG):=⟨hbG.os,hbG.tape,hbG.output,hbG.size,hbG.block⟩;have hfb:wG.heap[jb]?=_:=(HBG.out.block jb hj6).trans HB6.out;have hjG:=lt_of_block hfb;have hsG:wF.heap.size≤wG.heap.size:=HBG.out.size;have HFG:Hid (wG.ownsRow 0 31 1 (.slice a6 L6 c6) L6 vs6):=owns_same HRo2.out (fun g e=>HBG.out.block g (rk_lt HRo2.out e));have HDG:=hide hfb;have v2:=(HBG.out.cell (p:=⟨jb,2,none⟩) hj6).trans u2';clear hpG hbG hfb) | (refine step_append_lies _ (by rfl) (.tmp 91) (.tmp 94) 54 (by rfl) 0 31 i0 (.slice none 0 0) 1 24 Tryz.underlying54 hi hz0 hz1 hz2 rfl (by omega) (.slice a6 L6 c6) L6 vs6 (by rfl) (HFG.out.alloc _) ⟨wG.heap.size,0,none⟩ 1 1 [.slice aG kp cG] (by rfl) rfl (World.news_of_block (heap_alloc_new wG (.cells #[.slice aG kp cG] 31))) (by simp[Value.oneCell']) (by omega) (by unfold maxLen;omega) (by omega) (by omega) _ rfl ?_;intro gH capH wH hoH hgH hatH hltH;have HOH:=hide hoH;have HGH:=hide hgH;have HAH:=hide hatH;have hdb:wH.heap[jb]?=_:=(hgH.block jb (by simp;omega) HNe6.out).trans ((Below.heap_alloc _ _ _ hjG).trans HDG.out);obtain⟨y0,y1,y2,y3,y4,y5,y6,y7,y8,yf⟩:=blk9 hdb;have hjH:=lt_of_block hdb;have HDH:=hide hdb;have y3':wH.cell? ⟨jb,3,none⟩=some (.int .i64 (G6:Int)):=(by rw[←HG6.out];exact y3);have y4':wH.cell? ⟨jb,4,none⟩=some (.int .u64 (NN:Int)):=(by rw[y4];congr 3 <;> exact_mod_cast (show ({ J with torn:=false }).last+1=NN from HNN.out));clear hdb hoH hgH hatH y0 y1 y3 y4 y5 y6 y7 y8))
     all_goals
      go_wp2
      go_ret
      have hdn:=HDn.out
      rw[HNN.out]at hdn
      show RKept w K od o d jb (keepR S J ps J.adds) _ _
      rw[hdn]
      have hkG:=kp_below HBG.out (fun _=>False) KE (o,3)
      have hmG:=HM6.out.kept hkG (fun _ h=>h)
      have hptk:PtK wG (ext KE wF.heap.size (o,3)) (o,3) aG ps:=HPG.out.ptk (Nat.le_refl _) (fun b h1 _=>ext_new _ _ h1)
      have hTG:=HT6.out.kept hkG (fun _ h=>h)
      have hKG:=HK6.out.trans (kp_below HBG.out (Two od o) KE (o,3))
      generalize ext KE wF.heap.size (o,3)=KG at *
      have hkj:ext KG wG.heap.size (o,2) jb=(o,1):=(ext_old KG _ hjG).trans hmG.kj
      have hk3:Kp (fun k=>k=(o,1)) (ext KG wG.heap.size (o,2)) (ext KG wG.heap.size (o,2)) wH (((wH.setCell ⟨jb,2,none⟩ (.slice (some ⟨gH,0,none⟩) (L6+1) capH)).setCell ⟨jb,3,none⟩ (.int .i64 ((G6:Int)+(n:Int)))).setCell ⟨jb,4,none⟩ (.int .u64 ((NN:Int)+1))):=(((Kp.refl _ _ wH).setCell (b:=jb) (Or.inr hkj) _ _).setCell (b:=jb) (Or.inr hkj) _ _).setCell (b:=jb) (Or.inr hkj) _ _
      have e1:((goodN (({ ({ J with torn:=false }) with named:=true } : Jr).took (recB NN ps)):Nat):Int)=(G6:Int)+(n:Int):=by rw[←HG6.out,HNl.out];unfold goodN Jr.took;simp
      have e2:(((({ ({ J with torn:=false }) with named:=true } : Jr).took (recB NN ps)).last+1:Nat):Int)=(NN:Int)+1:=by show ((J.last+1+1:Nat):Int)=_;have:=HNN.out;omega
      have hb9:(((wH.setCell ⟨jb,2,none⟩ (.slice (some ⟨gH,0,none⟩) (L6+1) capH)).setCell ⟨jb,3,none⟩ (.int .i64 ((G6:Int)+(n:Int)))).setCell ⟨jb,4,none⟩ (.int .u64 ((NN:Int)+1))).heap[jb]?=some (.cells (rcells d (({ ({ J with torn:=false }) with named:=true } : Jr).took (recB NN ps)) (.slice (some ⟨gH,0,none⟩) (L6+1) capH)) 116 (0,0)):=by
       rw[block_set (block_set (block_set HDH.out _) _) _]
       unfold rcells
       rw[e1,e2]
       have e3:=HOf1.out
       simp[Jr.took,e3]
      have hres:=hmG.took (r:=recB NN ps) (pp:=aG) (cp:=cG) (pv:=.slice aG kp cG) (by rw[HPr.out,HPs.out]) (by rw[HPr.out];exact hptk) (u:=.cells #[.slice aG kp cG] 31) (g':=gH) (cap':=capH) (by have:=HOH.out;rw[←HL6.out]at this;exact this) (by have:=HGH.out;rw[←HL6.out]at this;exact this) (by have:=HAH.out;rw[←HL6.out]at this;exact this) _ hk3 (hb9.trans (by rw[←HL6.out]))
      refine⟨ext KG wG.heap.size (o,2),rfl,?_,hres.1,hKG.trans (hres.2.mono (fun _ e=>Or.inr e))⟩
      exact hTG.kept hres.2 (fun k e=>hne e)
end Go.Proofs.YtcceejdaokoihaaGreatDoor
