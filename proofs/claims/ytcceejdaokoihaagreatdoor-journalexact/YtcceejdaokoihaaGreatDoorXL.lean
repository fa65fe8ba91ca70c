import Derived.Test.YtcceejdaokoihaaGreatDoorXI
import Derived.Test.YtcceejdaokoihaaGreatDoorXP
import Derived.Test.YtcceejdaokoihaaGreatDoorDocI
import Derived.Test.YtcceejdaokoihaaGreatDoorDocLa
set_option maxRecDepth 100000
namespace Go.Proofs.YtcceejdaokoihaaGreatDoor
open Go.RowKit Go.Maps
def Two (od o:Nat) (k:Nat × Nat):Prop:=Ow od k∨Ow o k
structure At5 (w:World) (K:Knd) (od o d jb:Nat) (S:St) (J:Jr) (ps:List (List Nat)) (ss:List Nat→List Stk) (l:List Stk) (wA:World) (KA:Knd) (S1:St) (J1:Jr) (k:Nat):Prop where
 tk:Tk wA KA od d S1
 rj:Rj wA KA o d jb J1
 kp:Kp (Two od o) K KA w wA
 ok:Okd S1 k
 run:runs S J (ss (recB (J.last+1) ps))=runs S1 J1 l
 nm:J1.name=J.name
 la:J1.last=J.last
 nd:J1.named=J.named
 of:J1.off=false
theorem At5.go {w:World} {K:Knd} {od o d jb:Nat} {S:St} {J:Jr} {ps:List (List Nat)} {ss:List Nat→List Stk} {l:List Stk} {wA wB:World} {KA KB:Knd} {S1:St} {J1:Jr} {k:Nat} (h:At5 w K od o d jb S J ps ss l wA KA S1 J1 k) (hk:Kp (fun _=>False) KA KB wA wB):At5 w K od o d jb S J ps ss l wB KB S1 J1 k :=
 ⟨h.tk.kept hk (fun _ h=>h),h.rj.kept hk (fun _ h=>h),h.kp.trans (hk.mono (fun _ e=>e.elim)),h.ok,h.run,h.nm,h.la,h.nd,h.of⟩
theorem At5.stroke {w:World} {K:Knd} {od o d jb:Nat} (hne:od≠o) {S:St} {J:Jr} {ps:List (List Nat)} {ss:List Nat→List Stk} {s:Stk} {l:List Stk} {wA wB:World} {KA KB:Knd} {S1 S2:St} {J1:Jr} {k:Nat} (h:At5 w K od o d jb S J ps ss (s :: l) wA KA S1 J1 k) (hf:s.fits) (ht:Tk wB KB od d S2) (hk:Kp (Ow od) KA KB wA wB) (hs:s.run S1 J1=(0,S2,J1)):At5 w K od o d jb S J ps ss l wB KB S2 J1 (k+4194305) :=
 ⟨ht,h.rj.kept hk (fun k e=>hne e.symm),h.kp.trans (hk.mono (fun _ e=>Or.inl e)),by have:=(okd_step h.ok J1 s hf).1;rw[hs]at this;exact this,by rw[h.run,runs_cons (by rw[hs]),hs],h.nm,h.la,h.nd,h.of⟩
theorem At5.stop {w:World} {K:Knd} {od o d jb:Nat} {S:St} {J:Jr} {ps:List (List Nat)} {ss:List Nat→List Stk} {s:Stk} {l:List Stk} {wA:World} {KA:Knd} {S1 S2:St} {J1:Jr} {k e:Nat} (h:At5 w K od o d jb S J ps ss (s :: l) wA KA S1 J1 k) (hof:J.off=false) (hok:recOk (J.last+1) ps=true) (hs:s.run S1 J1=(e,S2,J1)) (he:e≠0):keepR S J ps ss=(e,S2,{ J1 with off:=decide (e=45) }):=by
 rw[keep_of hof hok (h.run.trans ((runs_stop (by rw[hs];exact he)).trans hs)),if_neg he]
theorem At5.done {w:World} {K:Knd} {od o d jb:Nat} {S:St} {J:Jr} {ps:List (List Nat)} {ss:List Nat→List Stk} {wA:World} {KA:Knd} {S1:St} {J1:Jr} {k:Nat} (h:At5 w K od o d jb S J ps ss [] wA KA S1 J1 k) (hof:J.off=false) (hok:recOk (J.last+1) ps=true):keepR S J ps ss=(0,S1,J1.took (recB (J.last+1) ps)):=by
 rw[keep_of hof hok h.run]
 rfl
theorem At5.cells {w:World} {K:Knd} {od o d jb:Nat} {S:St} {J:Jr} {ps:List (List Nat)} {ss:List Nat→List Stk} {l:List Stk} {wA:World} {KA:Knd} {S1:St} {J1:Jr} {k:Nat} (h:At5 w K od o d jb S J ps ss l wA KA S1 J1 k):∃(tv:Value) (a:Option Addr) (c:Nat),tv=.slice a J1.recs.length c∧wA.cell? ⟨jb,0,none⟩=some (.pointer (some ⟨d,0,none⟩))∧wA.cell? ⟨jb,1,none⟩=some (.string ⟨J.name.toArray⟩)∧wA.cell? ⟨jb,2,none⟩=some tv∧wA.cell? ⟨jb,3,none⟩=some (.int .i64 (goodN J1:Int))∧wA.cell? ⟨jb,4,none⟩=some (.int .u64 ((J.last+1:Nat):Int))∧wA.cell? ⟨jb,5,none⟩=some (.bool J1.torn)∧wA.cell? ⟨jb,6,none⟩=some (.bool J.named)∧(∀i,wA.frozen? ⟨jb,i,none⟩=false)∧jb<wA.heap.size:=by
 obtain⟨tv,vs,hm⟩:=h.rj
 have hb:=hm.cells
 obtain⟨q0,q1,q2,q3,q4,q5,q6,q7,q8,qf⟩:=blk9 hb
 obtain⟨a,c,hf,_,_⟩:=hm.row.form
 rw[h.nm]at q1
 rw[h.la]at q4
 rw[h.nd]at q6
 exact⟨tv,a,c,hf,q0,q1,q2,q3,q4,q5,q6,qf,lt_of_block hb⟩
theorem kp_un {p:Nat × Nat→Prop} {K K':Knd} {w w':World} {q:Nat} (h:Kp p K K' (w.drewN q) w'):Kp p K K' w w':=⟨h.os,h.tape,h.output,h.size,h.same,h.block⟩
theorem tk_drew {w:World} {K:Knd} {o d:Nat} {S:St} (h:Tk w K o d S) (q:Nat):Tk (w.drewN q) K o d S:=h.kept ((Kp.refl (fun _=>False) K w).drewN q) (fun _ h=>h)
theorem ends_res {S:St} {J J1:Jr} {ps:List (List Nat)} {ss:List Nat→List Stk} {e:Nat} {S2:St} (h:keepR S J ps ss=(e,S2,{ J1 with off:=decide (e=45) })) {w w2 w3:World} {K K2:Knd} {od o d jb:Nat} (hne:od≠o) (hk:Kp (Two od o) K K2 w w2) (ht:Tk w2 K2 od d S2) (hr:Rj w3 K2 o d jb { J1 with off:=decide (e=45) }) (hk3:Kp (fun k=>k=(o,1)) K2 K2 w2 w3):RKept w K od o d jb (keepR S J ps ss) (.returned (.int .i64 (e:Int))) w3:=by
 rw[h]
 exact⟨K2,rfl,ht.kept hk3 (fun k e=>by simp at e;exact hne e.1),hr,hk.trans (hk3.mono (fun k e=>Or.inr (by rw[e])))⟩
theorem At5.jcells {w:World} {K:Knd} {od o d jb:Nat} {S:St} {J:Jr} {ps:List (List Nat)} {ss:List Nat→List Stk} {l:List Stk} {wA wB:World} {KA KB:Knd} {S1:St} {J1:Jr} {k:Nat} (h:At5 w K od o d jb S J ps ss l wA KA S1 J1 k) (hne:od≠o) (hk:Kp (Ow od) KA KB wA wB):(∀i,wB.cell? ⟨jb,i,none⟩=wA.cell? ⟨jb,i,none⟩)∧(∀i,wB.frozen? ⟨jb,i,none⟩=wA.frozen? ⟨jb,i,none⟩)∧jb<wB.heap.size:=by
 obtain⟨tv,vs,hm⟩:=h.rj
 have hl:=lt_of_block hm.blk
 have hb:=hk.block jb hl (by rw[hm.kj];exact fun e=>hne e.symm)
 exact⟨fun i=>World.cell?_of_block hb,fun i=>by simp only[World.frozen?,hb],Nat.lt_of_lt_of_le hl hk.size⟩
theorem At5.mended {w:World} {K:Knd} {od o d jb:Nat} (hne:od≠o) {S:St} {J:Jr} {ps:List (List Nat)} {ss:List Nat→List Stk} {l:List Stk} {wA:World} {KA:Knd} {S1:St} {J1:Jr} {k:Nat} (h:At5 w K od o d jb S J ps ss (.mend :: l) wA KA S1 J1 k):At5 w K od o d jb S J ps ss l (wA.setCell ⟨jb,5,none⟩ (.bool false)) KA S1 { J1 with torn:=false } k:=by
 obtain⟨tv,vs,hm⟩:=h.rj
 have kp:Kp (fun k=>k=(o,1)) KA KA wA (wA.setCell ⟨jb,5,none⟩ (.bool false)):=(Kp.refl _ KA wA).setCell (b:=jb) (Or.inr hm.kj) _ _
 refine⟨h.tk.kept kp (fun k e=>by simp at e;exact hne e.1),⟨tv,vs,hm.turn kp ?_ rfl⟩,h.kp.trans (kp.mono (fun k e=>Or.inr (by rw[e]))),h.ok,?_,h.nm,h.la,h.nd,h.of⟩
 ·rw[block_set hm.blk]
  rfl
 ·rw[h.run,runs_cons (s:=.mend) rfl]
  rfl
theorem At5.named {w:World} {K:Knd} {od o d jb:Nat} (hne:od≠o) {S:St} {J:Jr} {ps:List (List Nat)} {ss:List Nat→List Stk} {wA:World} {KA:Knd} {S1:St} {J1:Jr} {k:Nat} (h:At5 w K od o d jb S J ps ss [] wA KA S1 J1 k):Tk (wA.setCell ⟨jb,6,none⟩ (.bool true)) KA od d S1∧Rj (wA.setCell ⟨jb,6,none⟩ (.bool true)) KA o d jb { J1 with named:=true }∧Kp (Two od o) K KA w (wA.setCell ⟨jb,6,none⟩ (.bool true)):=by
 obtain⟨tv,vs,hm⟩:=h.rj
 have kp:Kp (fun k=>k=(o,1)) KA KA wA (wA.setCell ⟨jb,6,none⟩ (.bool true)):=(Kp.refl _ KA wA).setCell (b:=jb) (Or.inr hm.kj) _ _
 refine⟨h.tk.kept kp (fun k e=>by simp at e;exact hne e.1),⟨tv,vs,hm.turn kp ?_ rfl⟩,h.kp.trans (kp.mono (fun k e=>Or.inr (by rw[e])))⟩
 rw[block_set hm.blk]
 rfl
theorem parts_rec {num:Nat} {ps:List (List Nat)} (h1:1≤num) (hok:recOk num ps=true) (hs:∀p∈ps,∀x∈p,x<256):partsOf (recB num ps)=ps:=by
 have:Trn num ps:=⟨h1,hok,hs⟩
 unfold partsOf
 rw[this.read]
theorem lr_alien {w w':World} {K:Knd} {od:Nat} (hod:od≠0) {sp:Option Addr} {n c:Nat} {r:List Nat} (h:C.Lr w w' sp n c r):Alien (ext K w.heap.size (0,0)) od sp r:=by
 rcases h.own.2 with ⟨_,e2⟩ | ⟨g,cap,cur,e1,e2,_⟩
 ·left;exact List.eq_nil_of_length_eq_zero (by rw[h.len];exact e2)
 ·right
  intro g2 p e
  cases e1
  cases e
  rw[ext_new K _ e2]
  exact fun e=>hod e.symm
theorem At5.dropped {w:World} {K:Knd} {od o d jb:Nat} {S:St} {J:Jr} {ps:List (List Nat)} {ss:List Nat→List Stk} {wA:World} {KA:Knd} {S1:St} {J1:Jr} {k:Nat} (h:At5 w K od o d jb S J ps ss [.drop] wA KA S1 J1 k) (hof:J.off=false) (hok:recOk (J.last+1) ps=true):keepR S J ps ss=(0,S1,({ J1 with recs:=[],torn:=false } : Jr).took (recB (J.last+1) ps)):=by
 rw[keep_of hof hok (h.run.trans (runs_cons (s:=.drop) rfl))]
 rfl
theorem rj_one {w1 w2:World} {K K2:Knd} {o d jb g:Nat} {J:Jr} {r:List Nat} {pp:Option Addr} {cp:Nat} (hp:PtK w1 K (o,3) pp (partsOf r)) (hk:Kp (fun q=>q=(o,1)) K K2 w1 w2) (hg:w2.heap[g]?=some (.cells #[.slice pp (partsOf r).length cp] 31 (0,0))) (hkg:K2 g=(o,2)) (hkj:K2 jb=(o,1))
  (hb:w2.heap[jb]?=some (.cells (rcells d (({ J with recs:=[],torn:=false } : Jr).took r) (.slice (some ⟨g,0,none⟩) 1 1)) 116 (0,0))):Rj w2 K2 o d jb (({ J with recs:=[],torn:=false } : Jr).took r):=by
 refine⟨.slice (some ⟨g,0,none⟩) 1 1,[.slice pp (partsOf r).length cp],hb,hkj,⟨⟨rfl,Or.inr ⟨g,1,_,rfl,Nat.zero_le _,hg,Nat.le_refl _,by unfold maxLen;omega,rfl,rfl⟩⟩,fun g' e=>by simp[Value.ownBlock]at e;rw[←e];exact hkg⟩,fun i q hq=>?_⟩
 have hq':([r]:List (List Nat))[i]?=some q:=hq
 match i,hq' with
 | 0,hq' =>
  simp at hq'
  subst hq'
  exact⟨pp,cp,rfl,hp.kept hk (by simp)⟩
 | i+1,hq'=>simp at hq'
set_option maxHeartbeats 8000000 in
theorem rchk_any (w:World) (K:Knd) (od o d jb:Nat) (hne:od≠o) (hod:od≠0) (S:St) (J:Jr) (k:Nat) (ht:Tk w K od d S) (hs:Okd S k) (hk:k+25165830≤274877906944) (hj:Rj w K o d jb J) (m:Nat) (hjo:Okj J m) (pp:Option Addr) (kp cp:Nat) (ps:List (List Nat)) (hps:ps.length=kp) (hkp:kp≤140737488355328) (hst:∀w' K',Kp (Two od o) K K' w w'→Pts w' pp ps) (hsb:∀p∈ps,∀x∈p,x<256) :
  Calls Tryz.prog 27 #[.pointer (some ⟨jb,0,none⟩),.slice pp kp cp] w (RKept w K od o d jb (chkR S J ps)):=by
 have HW:=hide (rwrong_any w K o d jb J hj hjo.last pp kp cp ps hps hkp (hst w K (Kp.refl _ _ _)))
 have HT:=hide ht
 have HJ:=hide hj
 have HS:=hide hs
 have HSt:=hide hst
 have HPs:=hide hps
 have hll:=hjo.last
 have hnl:=(nm_len hjo.nm.1).2
 cases hof:J.off with
 | true =>
  rw[show (if J.off then 52 else if recOk (J.last+1) ps=false then 51 else 0:Nat)=52 from by rw[if_pos hof]]at HW
  have HR:Hid (chkR S J ps=(52,S,J)):=by show _=_;unfold chkR keepR;rw[if_pos hof]
  clear ht hj hs hst hps hjo hsb hof hll
  go_enter Tryz.func27,Tryz.ntmps27
  go_wp2_with fail
  refine HW.out.mono ?_
  rintro e w1 ⟨rfl,hb1⟩
  have HB1:=hide hb1
  clear hb1
  go_wp2
  go_ret
  show RKept _ _ _ _ _ _ _ _ _
  rw[HR.out]
  exact⟨_,rfl,HT.out.kept (kp_below HB1.out (fun _=>False) K (0,0)) (fun _ h=>h),HJ.out.kept (kp_below HB1.out (fun _=>False) K (0,0)) (fun _ h=>h),kp_below HB1.out _ K (0,0)⟩
 | false =>
  cases hok:recOk (J.last+1) ps with
  | false =>
   rw[show (if J.off then 52 else if recOk (J.last+1) ps=false then 51 else 0:Nat)=51 from by rw[if_neg (by rw[hof];simp),if_pos hok]]at HW
   have HR:Hid (chkR S J ps=(51,S,J)):=by show _=_;unfold chkR keepR;rw[if_neg (by rw[hof];simp),if_pos hok]
   clear ht hj hs hst hps hjo hsb hof hll hok
   go_enter Tryz.func27,Tryz.ntmps27
   go_wp2_with fail
   refine HW.out.mono ?_
   rintro e w1 ⟨rfl,hb1⟩
   have HB1:=hide hb1
   clear hb1
   go_wp2
   go_ret
   show RKept _ _ _ _ _ _ _ _ _
   rw[HR.out]
   exact⟨_,rfl,HT.out.kept (kp_below HB1.out (fun _=>False) K (0,0)) (fun _ h=>h),HJ.out.kept (kp_below HB1.out (fun _=>False) K (0,0)) (fun _ h=>h),kp_below HB1.out _ K (0,0)⟩
  | true =>
   rw[show (if J.off then 52 else if recOk (J.last+1) ps=false then 51 else 0:Nat)=0 from by rw[if_neg (by rw[hof];simp),if_neg (by rw[hok];simp)]]at HW
   have HOk:=hide hok
   have HOf:=hide hof
   have HLr:=hide (recB_long hok)
   have HSm:=hide (recB_small hok hsb (recOk_lens hok))
   have HPr:=hide (parts_rec (num:=J.last+1) (by omega) hok hsb)
   have hlr:=recB_long hok
   have hk4:kp≤4096∧(partsB ps).length≤4194304:=by
    unfold recOk at hok
    simp only[Bool.and_eq_true,decide_eq_true_eq]at hok
    rw[hps]at hok
    have:=bodyB_len (J.last+1) ps
    omega
   have hNl:J.last+1<18446744073709551616:=by omega
   have HNn:Hid (1099511627776<J.last+1→False):=fun h=>by
    unfold recOk at hok
    simp only[Bool.and_eq_true,decide_eq_true_eq]at hok
    omega
   have HNd:Hid (J.reps S (recB (J.last+1) ps)=(if S.err J.second=0 then [.rem J.second] else [])++[.app J.second (recB (J.last+1) ps),.sync J.second,.ren J.second J.name,.names,.drop]):=rfl
   have hsa:(⟨J.name.toArray⟩:ByteArray)++(⟨#[46,110,101,119]⟩:ByteArray)=⟨J.second.toArray⟩:=str_add J.name
   have hsz:(⟨J.name.toArray⟩:ByteArray).size≤64:=by simpa[ByteArray.size] using hnl
   clear ht hj hs hst hps hsb hok hof hnl
   go_enter Tryz.func27,Tryz.ntmps27
   go_wp2_with fail
   refine HW.out.mono ?_
   rintro e w1 ⟨rfl,hb1⟩
   have HA0:Hid (At5 w K od o d jb S J ps (J.reps S) (J.reps S (recB (J.last+1) ps)) w1 (ext K w.heap.size (0,0)) S J k):=⟨HT.out.kept (kp_below hb1 (fun _=>False) K (0,0)) (fun _ h=>h),HJ.out.kept (kp_below hb1 (fun _=>False) K (0,0)) (fun _ h=>h),kp_below hb1 _ K (0,0),HS.out,rfl,rfl,rfl,rfl,HOf.out⟩
   rw[HNd.out]at HA0
   generalize ext K w.heap.size (0,0)=K1 at *
   clear hb1 HW
   obtain⟨tv,a5,c5,htv,q0,q1,q2,q3,q4,q5,q6,qf,hjl⟩:=HA0.out.cells
   have HRd:=hide (tread_any w1 K1 od d S HA0.out.tk HA0.out.ok.inv (okd_fb HA0.out.ok (by omega)) J.second)
   have HSb:Hid (J.name.length≤64):=(nm_len hjo.nm.1).2
   obtain⟨se,hse⟩:∃se,J.second=se:=⟨_,rfl⟩
   rw[hse]at HRd hsa HA0 HNd
   have HSe:=hide hse
   generalize hsn:(⟨se.toArray⟩:ByteArray)=sn at *
   have HSn:=hide hsn
   generalize hsj:(⟨J.name.toArray⟩:ByteArray)=sj at *
   have HSj:=hide hsj
   clear hse hsn hsj htv q2 q3 q4 q5 q6 qf
   go_wp2_with fail
   refine HRd.out.mono ?_
   rintro e w2 ⟨aR,cR,rfl,hlR⟩
   have HA1:=hide (HA0.out.go (kp_below hlR.bel _ K1 (0,0)))
   have y0:=(hlR.bel.cell (p:=⟨jb,0,none⟩) hjl).trans q0
   have hj2:jb<w2.heap.size:=Nat.lt_of_lt_of_le hjl hlR.bel.size
   generalize ext K1 w1.heap.size (0,0)=K2 at *
   generalize (S.bytes se).length=nR at *
   clear hlR HA0 HRd q0 q1
   by_cases hth:S.err se=0
   ·have HRm:=hide (tremove_any w2 K2 od d S HA1.out.tk HA1.out.ok.inv (okd_fb HA1.out.ok (by omega)) (by have:=HA1.out.ok.sz.st;omega) (by have:=HA1.out.ok.sz.pl;omega) se)
    rw[HSn.out]at HRm
    rw[if_pos hth]at HA1
    rw[hth]
    go_wp2_with fail
    refine HRm.out.mono ?_
    rintro e w3 ⟨K3,rfl,ht3,hk3⟩
    have HT3:=hide ht3
    have HK3:=hide hk3
    obtain⟨e0,hee⟩:∃e0,(S.removeR se).1=e0:=⟨_,rfl⟩
    obtain⟨S0,hSS⟩:∃S0,(S.removeR se).2=S0:=⟨_,rfl⟩
    rw[hee]
    rw[hSS]at HT3
    have HRun0:Hid (Stk.run S J (.rem se)=(e0,S0,J)):=by show _=_;rw[←hee,←hSS];rfl
    clear hee hSS HRm ht3 hk3 y0 hth
    by_cases he0:e0=0
    rotate_left
    ·have f1:((e0:Int) == 0)=false:=by simp;omega
     have f2:((e0:Int) != 0)=true:=by simp;omega
     have f3:¬(e0:Int)=0:=by omega
     have HKe:=hide (HA1.out.stop HOf.out HOk.out HRun0.out he0)
     have HRj3:=hide (HA1.out.rj.kept HK3.out (fun k e=>hne e.symm))
     have HKw3:=hide (HA1.out.kp.trans (HK3.out.mono (fun _ e=>Or.inl e)))
     have hc3:=(HA1.out.jcells hne HK3.out)
     obtain⟨tv,a5,c5,htv,q0,q1,q2,q3,q4,q5,q6,qf,hjA⟩:=HA1.out.cells
     have q4':=(hc3.1 4).trans q4
     have hj3:=hc3.2.2
     have HRc:=hide (rrec_lr w3 (J.last+1) hNl pp kp cp ps HPs.out hk4.1 (HSt.out w3 K3 HKw3.out) hk4.2)
     generalize hNN:J.last+1=NN at *
     have HNN:=hide hNN
     have HOff:=hide HA1.out.of
     clear hNN htv q0 q1 q2 q3 q4 q5 q6 qf he0 hc3
     go_wp2_with fail
     refine HRc.out.mono ?_
     rintro e wB ⟨sp,n,c,hn,rfl,hl⟩
     have HKB:=hide (kp_below hl.bel (fun _=>False) K3 (0,0))
     have HEn:=hide (rends_any wB _ o d jb J (HRj3.out.kept HKB.out (fun _ h=>h)) HOff.out e0)
     clear hl hn HRc
     go_wp2_with fail
     refine HEn.out.mono ?_
     rintro e w9 ⟨rfl,hr9,hk9⟩
     have HRes:=hide (ends_res HKe.out hne (HKw3.out.trans (HKB.out.mono (fun _ e=>e.elim))) (HT3.out.kept HKB.out (fun _ h=>h)) hr9 hk9)
     clear hr9 hk9
     go_wp2
     go_ret
     exact HRes.out
    subst he0
    have HA2:=hide (HA1.out.stroke hne (s:=.rem se) trivial HT3.out HK3.out HRun0.out)
    clear HA1 HT3 HK3 HRun0
    obtain⟨tv,a5,c5,htv,q0,q1,q2,q3,q4,q5,q6,qf,hjA⟩:=HA2.out.cells
    have HRc:=hide (rrec_lr w3 (J.last+1) hNl pp kp cp ps HPs.out hk4.1 (HSt.out w3 K3 HA2.out.kp) hk4.2)
    rw[HSj.out]at q1
    generalize hNN:J.last+1=NN at *
    have HNN:=hide hNN
    clear hNN htv q2 q3 q5 q6 qf
    go_wp2_with fail
    refine HRc.out.mono ?_
    rintro e wB ⟨sp,n,c,hn,rfl,hl⟩
    have HAB:=hide (HA2.out.go (kp_below hl.bel _ K3 (0,0)))
    have HAl:=hide (lr_alien (K:=K3) hod hl)
    have HBy:=hide (Bytes.of_c hl.bytes)
    have hsB:=hl.bel.size
    have x0:=(hl.bel.cell (p:=⟨jb,0,none⟩) hjA).trans q0
    have x1:=(hl.bel.cell (p:=⟨jb,1,none⟩) hjA).trans q1
    have HKB:=hide (kp_below hl.bel (Ow od) K3 (0,0))
    generalize ext K3 w3.heap.size (0,0)=KB at *
    have HNl:=hide hn
    rw[←hn]at hlr
    clear hl hn HRc q0 q1 q4
    have HFit:Hid (Stk.fits (.app se (recB NN ps))):=⟨HSm.out,HLr.out.2⟩
    have HAp:=hide (tappend_any wB KB od d S0 HAB.out.tk HAB.out.ok.inv (okd_fb HAB.out.ok (by omega)) (by have:=HAB.out.ok.sz.st;omega) (by have:=HAB.out.ok.sz.pl;omega) (by have:=HAB.out.ok.fl;omega) se sp n c (recB NN ps) HNl.out.symm (by omega) HBy.out HAl.out)
    rw[HSn.out]at HAp
    go_wp2_with fail
    refine HAp.out.mono ?_
    rintro e wC ⟨KC,rfl,htC,hkC⟩
    have HTC:=hide htC
    have HKC:=hide hkC
    obtain⟨hcc,hcf,hjC⟩:=HAB.out.jcells hne hkC
    have s0:=(hcc 0).trans x0
    have s1:=(hcc 1).trans x1
    obtain⟨e2,hee⟩:∃e2,(S0.appendR se (recB NN ps)).1=e2:=⟨_,rfl⟩
    obtain⟨S2,hSS⟩:∃S2,(S0.appendR se (recB NN ps)).2=S2:=⟨_,rfl⟩
    rw[hee]
    rw[hSS]at HTC
    have HRun2:Hid (Stk.run S0 J (.app se (recB NN ps))=(e2,S2,J)):=by show _=_;rw[←hee,←hSS];rfl
    clear hee hSS HAp x0 x1 htC hkC hcc hcf
    by_cases he2:e2=0
    rotate_left
    ·have f1:((e2:Int) == 0)=false:=by simp;omega
     have f2:((e2:Int) != 0)=true:=by simp;omega
     have f3:¬(e2:Int)=0:=by omega
     have HKe:=hide (HAB.out.stop HOf.out (by rw[HNN.out];exact HOk.out) HRun2.out he2)
     have HEn:=hide (rends_any wC KC o d jb _ (HAB.out.rj.kept HKC.out (fun k e=>hne e.symm)) HAB.out.of e2)
     clear he2
     go_wp2_with fail
     refine HEn.out.mono ?_
     rintro e w9 ⟨rfl,hr9,hk9⟩
     have HRes:=hide (ends_res HKe.out hne (HAB.out.kp.trans (HKC.out.mono (fun _ e=>Or.inl e))) HTC.out hr9 hk9)
     clear hr9 hk9
     go_wp2
     go_ret
     exact HRes.out
    subst he2
    have HAC:=hide (HAB.out.stroke hne HFit.out HTC.out HKC.out HRun2.out)
    clear HAB HTC HKC HRun2 HFit HAl HBy
    have HSy:=hide (tsync_any wC KC od d S2 HAC.out.tk HAC.out.ok.inv (okd_fb HAC.out.ok (by omega)) (by have:=HAC.out.ok.sz.st;omega) (by have:=HAC.out.ok.sz.pl;omega) se)
    rw[HSn.out]at HSy
    go_wp2_with fail
    refine HSy.out.mono ?_
    rintro e wD ⟨KD,rfl,htD,hkD⟩
    have HTD:=hide htD
    have HKD:=hide hkD
    obtain⟨hcc,hcf,hjD⟩:=HAC.out.jcells hne hkD
    have t0:=(hcc 0).trans s0
    have t1:=(hcc 1).trans s1
    obtain⟨e3,hee⟩:∃e3,(S2.syncR se).1=e3:=⟨_,rfl⟩
    obtain⟨S3,hSS⟩:∃S3,(S2.syncR se).2=S3:=⟨_,rfl⟩
    rw[hee]
    rw[hSS]at HTD
    have HRun3:Hid (Stk.run S2 J (.sync se)=(e3,S3,J)):=by show _=_;rw[←hee,←hSS];rfl
    clear hee hSS HSy s0 s1 htD hkD hcc hcf
    by_cases he3:e3=0
    rotate_left
    ·have f1:((e3:Int) == 0)=false:=by simp;omega
     have f2:((e3:Int) != 0)=true:=by simp;omega
     have f3:¬(e3:Int)=0:=by omega
     have HKe:=hide (HAC.out.stop HOf.out (by rw[HNN.out];exact HOk.out) HRun3.out he3)
     have HEn:=hide (rends_any wD KD o d jb _ (HAC.out.rj.kept HKD.out (fun k e=>hne e.symm)) HAC.out.of e3)
     clear he3
     go_wp2_with fail
     refine HEn.out.mono ?_
     rintro e w9 ⟨rfl,hr9,hk9⟩
     have HRes:=hide (ends_res HKe.out hne (HAC.out.kp.trans (HKD.out.mono (fun _ e=>Or.inl e))) HTD.out hr9 hk9)
     clear hr9 hk9
     go_wp2
     go_ret
     exact HRes.out
    subst he3
    have HAD:=hide (HAC.out.stroke hne (s:=.sync se) trivial HTD.out HKD.out HRun3.out)
    clear HAC HTD HKD HRun3
    have HRn:=hide (fun q=>trename_any (wD.drewN q) KD od d S3 (tk_drew HAD.out.tk q) HAD.out.ok.inv (okd_fb HAD.out.ok (by omega)) (by have:=HAD.out.ok.sz.st;omega) (by have:=HAD.out.ok.sz.pl;omega) se J.name)
    rw[HSn.out,HSj.out]at HRn
    go_wp2
    go_region_held3 (fun w'=>w'.cell? ⟨jb,0,none⟩=some (.pointer (some ⟨d,0,none⟩))∧w'.cell? ⟨jb,1,none⟩=some (.string sj)) (first | (refine⟨?_,?_⟩ <;> assumption) | go_keep)
     (first | (go_at_call 65;refine(HRn.out 1).mono ?_;rintro e wE ⟨KE,rfl,htE,hkE⟩;have HTE:=hide htE;have HKE:=hide (kp_un hkE);obtain⟨hcc,hcf,hjE⟩:=HAD.out.jcells hne HKE.out;have v0:=(hcc 0).trans t0;have v1:=(hcc 1).trans t1;clear htE hkE hcc hcf) | fail)
    obtain⟨e4,hee⟩:∃e4,(S3.renameR se J.name).1=e4:=⟨_,rfl⟩
    obtain⟨S4,hSS⟩:∃S4,(S3.renameR se J.name).2=S4:=⟨_,rfl⟩
    rw[hee]
    rw[hSS]at HTE
    have HRun4:Hid (Stk.run S3 J (.ren se J.name)=(e4,S4,J)):=by show _=_;rw[←hee,←hSS];rfl
    clear hee hSS HRn t0 t1
    by_cases he4:e4=0
    rotate_left
    ·have f1:((e4:Int) == 0)=false:=by simp;omega
     have f2:((e4:Int) != 0)=true:=by simp;omega
     have f3:¬(e4:Int)=0:=by omega
     have HKe:=hide (HAD.out.stop HOf.out (by rw[HNN.out];exact HOk.out) HRun4.out he4)
     have HEn:=hide (rends_any wE KE o d jb _ (HAD.out.rj.kept HKE.out (fun k e=>hne e.symm)) HAD.out.of e4)
     clear he4
     go_wp2_with fail
     refine HEn.out.mono ?_
     rintro e w9 ⟨rfl,hr9,hk9⟩
     have HRes:=hide (ends_res HKe.out hne (HAD.out.kp.trans (HKE.out.mono (fun _ e=>Or.inl e))) HTE.out hr9 hk9)
     clear hr9 hk9
     go_wp2
     go_ret
     exact HRes.out
    subst he4
    have HAE:=hide (HAD.out.stroke hne (s:=.ren se J.name) trivial HTE.out HKE.out HRun4.out)
    clear HAD HTE HKE HRun4
    have HNs:=hide (tsyncNames_any wE KE od d S4 HAE.out.tk HAE.out.ok.inv (okd_fb HAE.out.ok (by omega)) (by have:=HAE.out.ok.sz.st;omega) (by have:=HAE.out.ok.sz.pl;omega))
    go_wp2_with fail
    refine HNs.out.mono ?_
    rintro e wF ⟨KF,rfl,htF,hkF⟩
    have HTF:=hide htF
    have HKF:=hide hkF
    obtain⟨e5,hee⟩:∃e5,S4.namesR.1=e5:=⟨_,rfl⟩
    obtain⟨S5,hSS⟩:∃S5,S4.namesR.2=S5:=⟨_,rfl⟩
    rw[hee]
    rw[hSS]at HTF
    have HRun5:Hid (Stk.run S4 J .names=(e5,S5,J)):=by show _=_;rw[←hee,←hSS];rfl
    clear hee hSS HNs v0 v1 htF hkF
    by_cases he5:e5=0
    rotate_left
    ·have f1:((e5:Int) == 0)=false:=by simp;omega
     have f2:((e5:Int) != 0)=true:=by simp;omega
     have f3:¬(e5:Int)=0:=by omega
     have HKe:=hide (HAE.out.stop HOf.out (by rw[HNN.out];exact HOk.out) HRun5.out he5)
     have HEn:=hide (rends_any wF KF o d jb _ (HAE.out.rj.kept HKF.out (fun k e=>hne e.symm)) HAE.out.of e5)
     clear he5
     go_wp2_with fail
     refine HEn.out.mono ?_
     rintro e w9 ⟨rfl,hr9,hk9⟩
     have HRes:=hide (ends_res HKe.out hne (HAE.out.kp.trans (HKF.out.mono (fun _ e=>Or.inl e))) HTF.out hr9 hk9)
     clear hr9 hk9
     go_wp2
     go_ret
     exact HRes.out
    subst he5
    have HAF:=hide (HAE.out.stroke hne (s:=.names) trivial HTF.out HKF.out HRun5.out)
    clear HAE HTF HKF HRun5
    obtain⟨tv,vs,hmF⟩:=HAF.out.rj
    have hbF:=hmF.cells
    have HBF:=hide hbF
    have HMF:=hide hmF
    obtain⟨q0,q1,q2,q3,q4,q5,q6,q7,q8,qf⟩:=blk9 hbF
    have hjF:=lt_of_block hbF
    have f5:=qf 5
    have f6:=qf 6
    have HDn:=hide (HAF.out.dropped HOf.out (by rw[HNN.out];exact HOk.out))
    have hNb:NN≤1099511627776:=by rcases Nat.lt_or_ge 1099511627776 NN with h | h;exact(HNn.out h).elim;exact h
    have kp2:Kp (fun k=>k=(o,1)) KF KF wF ((wF.setCell ⟨jb,6,none⟩ (.bool true)).setCell ⟨jb,5,none⟩ (.bool false)):=((Kp.refl _ KF wF).setCell (b:=jb) (Or.inr hmF.kj) _ _).setCell (b:=jb) (Or.inr hmF.kj) _ _
    have HKP2:=hide kp2
    have HKw:=hide (HAF.out.kp.trans (kp2.mono (fun k e=>Or.inr (by rw[e]))))
    have HB2:Hid (((wF.setCell ⟨jb,6,none⟩ (.bool true)).setCell ⟨jb,5,none⟩ (.bool false)).heap[jb]?=some (.cells #[.pointer (some ⟨d,0,none⟩),.string ⟨J.name.toArray⟩,tv,.int .i64 (goodN J:Int),.int .u64 ((J.last+1:Nat):Int),.bool false,.bool true,.bool J.off,.int .i64 0] 116 (0,0))):=by show _=_;rw[block_set (block_set hbF _) _];rfl
    have HPq:=hide (HSt.out _ KF HKw.out)
    have HCp:=hide (rcopies_any _ (by have:=lt_of_block HB2.out;omega) pp kp cp ps HPs.out hk4.1 HPq.out)
    clear hmF hbF q0 q1 q2 q3 q4 q7 q8 kp2
    go_wp2_with fail
    generalize (wF.setCell ⟨jb,6,none⟩ (.bool true)).setCell ⟨jb,5,none⟩ (.bool false)=wG at *
    refine HCp.out.mono ?_
    rintro e wH ⟨aH,cH,rfl,hpH,hbH⟩
    have HPH:=hide hpH
    have HBH:=hide hbH
    have hjH0:wH.heap[jb]?=_:=(hbH.block jb (lt_of_block HB2.out)).trans HB2.out
    have HBJ:=hide hjH0
    have hjH:=lt_of_block hjH0
    have hI0:(wH.alloc (.cells #[.slice aH kp cH] 31)).heap[jb]?=_:=(Below.heap_alloc _ _ _ hjH).trans hjH0
    have HI0:=hide hI0
    obtain⟨z0,z1,z2,z3,z4,z5,z6,z7,z8,zf⟩:=blk9 hI0
    have hI1:(wH.alloc (.cells #[.slice aH kp cH] 31)).heap[wH.heap.size]?=some (.cells #[.slice aH kp cH] 31 (0,0)):=heap_alloc_new _ _
    have HI1:=hide hI1
    have z4':(wH.alloc (.cells #[.slice aH kp cH] 31)).cell? ⟨jb,4,none⟩=some (.int .u64 (NN:Int)):=by rw[z4,HNN.out]
    have g2:=zf 2
    have g3:=zf 3
    have g4:=zf 4
    have hjI:jb<(wH.alloc (.cells #[.slice aH kp cH] 31)).heap.size:=lt_of_block hI0
    have hsI:(wH.alloc (.cells #[.slice aH kp cH] 31)).heap.size=wH.heap.size+1:=by simp
    have HSI:=hide hsI
    have HKI:Hid (Below wH.heap.size wH (wH.alloc (.cells #[.slice aH kp cH] 31))):=(Below.refl _ _).alloc (Nat.le_refl _) _
    clear hpH hbH hjH0 hI0 hI1 z0 z1 z4 z5 z6 z7 z8 zf hsI HCp
    generalize hwI:wH.alloc (.cells #[.slice aH kp cH] 31)=wI at *
    go_wp2
    go_ret
    have hdn:=HDn.out
    rw[HNN.out]at hdn
    show RKept w K od o d jb (keepR S J ps (J.reps S)) _ _
    rw[hdn]
    have hkH:=kp_below HBH.out (fun _=>False) KF (o,3)
    have hptk:PtK wH (ext KF wG.heap.size (o,3)) (o,3) aH ps:=HPH.out.ptk (Nat.le_refl _) (fun b h1 _=>ext_new _ _ h1)
    have hkjF:KF jb=(o,1):=HMF.out.kj
    have hkjH:ext KF wG.heap.size (o,3) jb=(o,1):=(ext_old KF _ (lt_of_block HB2.out)).trans hkjF
    have htH:=(HAF.out.tk.kept HKP2.out (fun k e=>by simp at e;exact hne e.1)).kept hkH (fun _ h=>h)
    have hKH:=HKw.out.trans (kp_below HBH.out (Two od o) KF (o,3))
    generalize ext KF wG.heap.size (o,3)=KH at *
    have hkI:=kp_below HKI.out (fun q=>q=(o,1)) KH (o,2)
    have hkjI:ext KH wH.heap.size (o,2) jb=(o,1):=(ext_old KH _ hjH).trans hkjH
    have hkgI:ext KH wH.heap.size (o,2) wH.heap.size=(o,2):=ext_new KH _ (Nat.le_refl _)
    have k3:=(((hkI.setCell (b:=jb) (Or.inr hkjH) 2 (.slice (some ⟨wH.heap.size,0,none⟩) 1 1)).setCell (b:=jb) (Or.inr hkjH) 3 (.int .i64 (n:Int))).setCell (b:=jb) (Or.inr hkjH) 4 (.int .u64 ((NN:Int)+1)))
    generalize ext KH wH.heap.size (o,2)=KI at *
    have e2:(((({ J with recs:=[],torn:=false } : Jr).took (recB NN ps)).last+1:Nat):Int)=(NN:Int)+1:=by show ((J.last+1+1:Nat):Int)=_;have:=HNN.out;omega
    have e1:((goodN (({ J with recs:=[],torn:=false } : Jr).took (recB NN ps)):Nat):Int)=(n:Int):=by rw[HNl.out];unfold goodN Jr.took;simp
    have hg9:(((wI.setCell ⟨jb,2,none⟩ (.slice (some ⟨wH.heap.size,0,none⟩) 1 1)).setCell ⟨jb,3,none⟩ (.int .i64 (n:Int))).setCell ⟨jb,4,none⟩ (.int .u64 ((NN:Int)+1))).heap[wH.heap.size]?=some (.cells #[.slice aH (partsOf (recB NN ps)).length cH] 31 (0,0)):=by
     rw[Below.heap_setCell _ _ _ _ (by simp;omega),Below.heap_setCell _ _ _ _ (by simp;omega),Below.heap_setCell _ _ _ _ (by simp;omega),HI1.out,HPr.out,HPs.out]
    have hb9:(((wI.setCell ⟨jb,2,none⟩ (.slice (some ⟨wH.heap.size,0,none⟩) 1 1)).setCell ⟨jb,3,none⟩ (.int .i64 (n:Int))).setCell ⟨jb,4,none⟩ (.int .u64 ((NN:Int)+1))).heap[jb]?=some (.cells (rcells d (({ J with recs:=[],torn:=false } : Jr).took (recB NN ps)) (.slice (some ⟨wH.heap.size,0,none⟩) 1 1)) 116 (0,0)):=by
     rw[block_set (block_set (block_set HI0.out _) _) _]
     unfold rcells
     rw[e1,e2]
     have e3:=HOf.out
     simp[Jr.took,e3]
    have hrj:=rj_one (pp:=aH) (cp:=cH) (J:=J) (r:=recB NN ps) (d:=d) (by rw[HPr.out];exact hptk) k3 hg9 hkgI hkjI hb9
    exact⟨KI,rfl,htH.kept k3 (fun k e=>by simp at e;exact hne e.1),hrj,hKH.trans (k3.mono (fun k e=>Or.inr (by rw[e])))⟩
   ·have HA2:Hid (At5 w K od o d jb S J ps (J.reps S) [.app se (recB (J.last+1) ps),.sync se,.ren se J.name,.names,.drop] w2 K2 S J k):=by have:=HA1.out;rw[if_neg hth]at this;exact this
    have n1:((S.err se:Int) == 0)=false:=by simp;omega
    have n2:¬(S.err se:Int)=0:=by omega
    generalize S.err se=ER at *
    clear HA1 y0 hth
    obtain⟨tv,a5,c5,htv,q0,q1,q2,q3,q4,q5,q6,qf,hjA⟩:=HA2.out.cells
    have HRc:=hide (rrec_lr w2 (J.last+1) hNl pp kp cp ps HPs.out hk4.1 (HSt.out w2 K2 HA2.out.kp) hk4.2)
    rw[HSj.out]at q1
    generalize hNN:J.last+1=NN at *
    have HNN:=hide hNN
    clear hNN htv q2 q3 q5 q6 qf
    go_wp2_with fail
    refine HRc.out.mono ?_
    rintro e wB ⟨sp,n,c,hn,rfl,hl⟩
    have HAB:=hide (HA2.out.go (kp_below hl.bel _ K2 (0,0)))
    have HAl:=hide (lr_alien (K:=K2) hod hl)
    have HBy:=hide (Bytes.of_c hl.bytes)
    have hsB:=hl.bel.size
    have x0:=(hl.bel.cell (p:=⟨jb,0,none⟩) hjA).trans q0
    have x1:=(hl.bel.cell (p:=⟨jb,1,none⟩) hjA).trans q1
    have HKB:=hide (kp_below hl.bel (Ow od) K2 (0,0))
    generalize ext K2 w2.heap.size (0,0)=KB at *
    have HNl:=hide hn
    rw[←hn]at hlr
    clear hl hn HRc q0 q1 q4
    have HFit:Hid (Stk.fits (.app se (recB NN ps))):=⟨HSm.out,HLr.out.2⟩
    have HAp:=hide (tappend_any wB KB od d S HAB.out.tk HAB.out.ok.inv (okd_fb HAB.out.ok (by omega)) (by have:=HAB.out.ok.sz.st;omega) (by have:=HAB.out.ok.sz.pl;omega) (by have:=HAB.out.ok.fl;omega) se sp n c (recB NN ps) HNl.out.symm (by omega) HBy.out HAl.out)
    rw[HSn.out]at HAp
    go_wp2_with fail
    refine HAp.out.mono ?_
    rintro e wC ⟨KC,rfl,htC,hkC⟩
    have HTC:=hide htC
    have HKC:=hide hkC
    obtain⟨hcc,hcf,hjC⟩:=HAB.out.jcells hne hkC
    have s0:=(hcc 0).trans x0
    have s1:=(hcc 1).trans x1
    obtain⟨e2,hee⟩:∃e2,(S.appendR se (recB NN ps)).1=e2:=⟨_,rfl⟩
    obtain⟨S2,hSS⟩:∃S2,(S.appendR se (recB NN ps)).2=S2:=⟨_,rfl⟩
    rw[hee]
    rw[hSS]at HTC
    have HRun2:Hid (Stk.run S J (.app se (recB NN ps))=(e2,S2,J)):=by show _=_;rw[←hee,←hSS];rfl
    clear hee hSS HAp x0 x1 htC hkC hcc hcf
    by_cases he2:e2=0
    rotate_left
    ·have f1:((e2:Int) == 0)=false:=by simp;omega
     have f2:((e2:Int) != 0)=true:=by simp;omega
     have f3:¬(e2:Int)=0:=by omega
     have HKe:=hide (HAB.out.stop HOf.out (by rw[HNN.out];exact HOk.out) HRun2.out he2)
     have HEn:=hide (rends_any wC KC o d jb _ (HAB.out.rj.kept HKC.out (fun k e=>hne e.symm)) HAB.out.of e2)
     clear he2
     go_wp2_with fail
     refine HEn.out.mono ?_
     rintro e w9 ⟨rfl,hr9,hk9⟩
     have HRes:=hide (ends_res HKe.out hne (HAB.out.kp.trans (HKC.out.mono (fun _ e=>Or.inl e))) HTC.out hr9 hk9)
     clear hr9 hk9
     go_wp2
     go_ret
     exact HRes.out
    subst he2
    have HAC:=hide (HAB.out.stroke hne HFit.out HTC.out HKC.out HRun2.out)
    clear HAB HTC HKC HRun2 HFit HAl HBy
    have HSy:=hide (tsync_any wC KC od d S2 HAC.out.tk HAC.out.ok.inv (okd_fb HAC.out.ok (by omega)) (by have:=HAC.out.ok.sz.st;omega) (by have:=HAC.out.ok.sz.pl;omega) se)
    rw[HSn.out]at HSy
    go_wp2_with fail
    refine HSy.out.mono ?_
    rintro e wD ⟨KD,rfl,htD,hkD⟩
    have HTD:=hide htD
    have HKD:=hide hkD
    obtain⟨hcc,hcf,hjD⟩:=HAC.out.jcells hne hkD
    have t0:=(hcc 0).trans s0
    have t1:=(hcc 1).trans s1
    obtain⟨e3,hee⟩:∃e3,(S2.syncR se).1=e3:=⟨_,rfl⟩
    obtain⟨S3,hSS⟩:∃S3,(S2.syncR se).2=S3:=⟨_,rfl⟩
    rw[hee]
    rw[hSS]at HTD
    have HRun3:Hid (Stk.run S2 J (.sync se)=(e3,S3,J)):=by show _=_;rw[←hee,←hSS];rfl
    clear hee hSS HSy s0 s1 htD hkD hcc hcf
    by_cases he3:e3=0
    rotate_left
    ·have f1:((e3:Int) == 0)=false:=by simp;omega
     have f2:((e3:Int) != 0)=true:=by simp;omega
     have f3:¬(e3:Int)=0:=by omega
     have HKe:=hide (HAC.out.stop HOf.out (by rw[HNN.out];exact HOk.out) HRun3.out he3)
     have HEn:=hide (rends_any wD KD o d jb _ (HAC.out.rj.kept HKD.out (fun k e=>hne e.symm)) HAC.out.of e3)
     clear he3
     go_wp2_with fail
     refine HEn.out.mono ?_
     rintro e w9 ⟨rfl,hr9,hk9⟩
     have HRes:=hide (ends_res HKe.out hne (HAC.out.kp.trans (HKD.out.mono (fun _ e=>Or.inl e))) HTD.out hr9 hk9)
     clear hr9 hk9
     go_wp2
     go_ret
     exact HRes.out
    subst he3
    have HAD:=hide (HAC.out.stroke hne (s:=.sync se) trivial HTD.out HKD.out HRun3.out)
    clear HAC HTD HKD HRun3
    have HRn:=hide (fun q=>trename_any (wD.drewN q) KD od d S3 (tk_drew HAD.out.tk q) HAD.out.ok.inv (okd_fb HAD.out.ok (by omega)) (by have:=HAD.out.ok.sz.st;omega) (by have:=HAD.out.ok.sz.pl;omega) se J.name)
    rw[HSn.out,HSj.out]at HRn
    go_wp2
    go_region_held3 (fun w'=>w'.cell? ⟨jb,0,none⟩=some (.pointer (some ⟨d,0,none⟩))∧w'.cell? ⟨jb,1,none⟩=some (.string sj)) (first | (refine⟨?_,?_⟩ <;> assumption) | go_keep)
     (first | (go_at_call 65;refine(HRn.out 1).mono ?_;rintro e wE ⟨KE,rfl,htE,hkE⟩;have HTE:=hide htE;have HKE:=hide (kp_un hkE);obtain⟨hcc,hcf,hjE⟩:=HAD.out.jcells hne HKE.out;have v0:=(hcc 0).trans t0;have v1:=(hcc 1).trans t1;clear htE hkE hcc hcf) | fail)
    obtain⟨e4,hee⟩:∃e4,(S3.renameR se J.name).1=e4:=⟨_,rfl⟩
    obtain⟨S4,hSS⟩:∃S4,(S3.renameR se J.name).2=S4:=⟨_,rfl⟩
    rw[hee]
    rw[hSS]at HTE
    have HRun4:Hid (Stk.run S3 J (.ren se J.name)=(e4,S4,J)):=by show _=_;rw[←hee,←hSS];rfl
    clear hee hSS HRn t0 t1
    by_cases he4:e4=0
    rotate_left
    ·have f1:((e4:Int) == 0)=false:=by simp;omega
     have f2:((e4:Int) != 0)=true:=by simp;omega
     have f3:¬(e4:Int)=0:=by omega
     have HKe:=hide (HAD.out.stop HOf.out (by rw[HNN.out];exact HOk.out) HRun4.out he4)
     have HEn:=hide (rends_any wE KE o d jb _ (HAD.out.rj.kept HKE.out (fun k e=>hne e.symm)) HAD.out.of e4)
     clear he4
     go_wp2_with fail
     refine HEn.out.mono ?_
     rintro e w9 ⟨rfl,hr9,hk9⟩
     have HRes:=hide (ends_res HKe.out hne (HAD.out.kp.trans (HKE.out.mono (fun _ e=>Or.inl e))) HTE.out hr9 hk9)
     clear hr9 hk9
     go_wp2
     go_ret
     exact HRes.out
    subst he4
    have HAE:=hide (HAD.out.stroke hne (s:=.ren se J.name) trivial HTE.out HKE.out HRun4.out)
    clear HAD HTE HKE HRun4
    have HNs:=hide (tsyncNames_any wE KE od d S4 HAE.out.tk HAE.out.ok.inv (okd_fb HAE.out.ok (by omega)) (by have:=HAE.out.ok.sz.st;omega) (by have:=HAE.out.ok.sz.pl;omega))
    go_wp2_with fail
    refine HNs.out.mono ?_
    rintro e wF ⟨KF,rfl,htF,hkF⟩
    have HTF:=hide htF
    have HKF:=hide hkF
    obtain⟨e5,hee⟩:∃e5,S4.namesR.1=e5:=⟨_,rfl⟩
    obtain⟨S5,hSS⟩:∃S5,S4.namesR.2=S5:=⟨_,rfl⟩
    rw[hee]
    rw[hSS]at HTF
    have HRun5:Hid (Stk.run S4 J .names=(e5,S5,J)):=by show _=_;rw[←hee,←hSS];rfl
    clear hee hSS HNs v0 v1 htF hkF
    by_cases he5:e5=0
    rotate_left
    ·have f1:((e5:Int) == 0)=false:=by simp;omega
     have f2:((e5:Int) != 0)=true:=by simp;omega
     have f3:¬(e5:Int)=0:=by omega
     have HKe:=hide (HAE.out.stop HOf.out (by rw[HNN.out];exact HOk.out) HRun5.out he5)
     have HEn:=hide (rends_any wF KF o d jb _ (HAE.out.rj.kept HKF.out (fun k e=>hne e.symm)) HAE.out.of e5)
     clear he5
     go_wp2_with fail
     refine HEn.out.mono ?_
     rintro e w9 ⟨rfl,hr9,hk9⟩
     have HRes:=hide (ends_res HKe.out hne (HAE.out.kp.trans (HKF.out.mono (fun _ e=>Or.inl e))) HTF.out hr9 hk9)
     clear hr9 hk9
     go_wp2
     go_ret
     exact HRes.out
    subst he5
    have HAF:=hide (HAE.out.stroke hne (s:=.names) trivial HTF.out HKF.out HRun5.out)
    clear HAE HTF HKF HRun5
    obtain⟨tv,vs,hmF⟩:=HAF.out.rj
    have hbF:=hmF.cells
    have HBF:=hide hbF
    have HMF:=hide hmF
    obtain⟨q0,q1,q2,q3,q4,q5,q6,q7,q8,qf⟩:=blk9 hbF
    have hjF:=lt_of_block hbF
    have f5:=qf 5
    have f6:=qf 6
    have HDn:=hide (HAF.out.dropped HOf.out (by rw[HNN.out];exact HOk.out))
    have hNb:NN≤1099511627776:=by rcases Nat.lt_or_ge 1099511627776 NN with h | h;exact(HNn.out h).elim;exact h
    have kp2:Kp (fun k=>k=(o,1)) KF KF wF ((wF.setCell ⟨jb,6,none⟩ (.bool true)).setCell ⟨jb,5,none⟩ (.bool false)):=((Kp.refl _ KF wF).setCell (b:=jb) (Or.inr hmF.kj) _ _).setCell (b:=jb) (Or.inr hmF.kj) _ _
    have HKP2:=hide kp2
    have HKw:=hide (HAF.out.kp.trans (kp2.mono (fun k e=>Or.inr (by rw[e]))))
    have HB2:Hid (((wF.setCell ⟨jb,6,none⟩ (.bool true)).setCell ⟨jb,5,none⟩ (.bool false)).heap[jb]?=some (.cells #[.pointer (some ⟨d,0,none⟩),.string ⟨J.name.toArray⟩,tv,.int .i64 (goodN J:Int),.int .u64 ((J.last+1:Nat):Int),.bool false,.bool true,.bool J.off,.int .i64 0] 116 (0,0))):=by show _=_;rw[block_set (block_set hbF _) _];rfl
    have HPq:=hide (HSt.out _ KF HKw.out)
    have HCp:=hide (rcopies_any _ (by have:=lt_of_block HB2.out;omega) pp kp cp ps HPs.out hk4.1 HPq.out)
    clear hmF hbF q0 q1 q2 q3 q4 q7 q8 kp2
    go_wp2_with fail
    generalize (wF.setCell ⟨jb,6,none⟩ (.bool true)).setCell ⟨jb,5,none⟩ (.bool false)=wG at *
    refine HCp.out.mono ?_
    rintro e wH ⟨aH,cH,rfl,hpH,hbH⟩
    have HPH:=hide hpH
    have HBH:=hide hbH
    have hjH0:wH.heap[jb]?=_:=(hbH.block jb (lt_of_block HB2.out)).trans HB2.out
    have HBJ:=hide hjH0
    have hjH:=lt_of_block hjH0
    have hI0:(wH.alloc (.cells #[.slice aH kp cH] 31)).heap[jb]?=_:=(Below.heap_alloc _ _ _ hjH).trans hjH0
    have HI0:=hide hI0
    obtain⟨z0,z1,z2,z3,z4,z5,z6,z7,z8,zf⟩:=blk9 hI0
    have hI1:(wH.alloc (.cells #[.slice aH kp cH] 31)).heap[wH.heap.size]?=some (.cells #[.slice aH kp cH] 31 (0,0)):=heap_alloc_new _ _
    have HI1:=hide hI1
    have z4':(wH.alloc (.cells #[.slice aH kp cH] 31)).cell? ⟨jb,4,none⟩=some (.int .u64 (NN:Int)):=by rw[z4,HNN.out]
    have g2:=zf 2
    have g3:=zf 3
    have g4:=zf 4
    have hjI:jb<(wH.alloc (.cells #[.slice aH kp cH] 31)).heap.size:=lt_of_block hI0
    have hsI:(wH.alloc (.cells #[.slice aH kp cH] 31)).heap.size=wH.heap.size+1:=by simp
    have HSI:=hide hsI
    have HKI:Hid (Below wH.heap.size wH (wH.alloc (.cells #[.slice aH kp cH] 31))):=(Below.refl _ _).alloc (Nat.le_refl _) _
    clear hpH hbH hjH0 hI0 hI1 z0 z1 z4 z5 z6 z7 z8 zf hsI HCp
    generalize hwI:wH.alloc (.cells #[.slice aH kp cH] 31)=wI at *
    go_wp2
    go_ret
    have hdn:=HDn.out
    rw[HNN.out]at hdn
    show RKept w K od o d jb (keepR S J ps (J.reps S)) _ _
    rw[hdn]
    have hkH:=kp_below HBH.out (fun _=>False) KF (o,3)
    have hptk:PtK wH (ext KF wG.heap.size (o,3)) (o,3) aH ps:=HPH.out.ptk (Nat.le_refl _) (fun b h1 _=>ext_new _ _ h1)
    have hkjF:KF jb=(o,1):=HMF.out.kj
    have hkjH:ext KF wG.heap.size (o,3) jb=(o,1):=(ext_old KF _ (lt_of_block HB2.out)).trans hkjF
    have htH:=(HAF.out.tk.kept HKP2.out (fun k e=>by simp at e;exact hne e.1)).kept hkH (fun _ h=>h)
    have hKH:=HKw.out.trans (kp_below HBH.out (Two od o) KF (o,3))
    generalize ext KF wG.heap.size (o,3)=KH at *
    have hkI:=kp_below HKI.out (fun q=>q=(o,1)) KH (o,2)
    have hkjI:ext KH wH.heap.size (o,2) jb=(o,1):=(ext_old KH _ hjH).trans hkjH
    have hkgI:ext KH wH.heap.size (o,2) wH.heap.size=(o,2):=ext_new KH _ (Nat.le_refl _)
    have k3:=(((hkI.setCell (b:=jb) (Or.inr hkjH) 2 (.slice (some ⟨wH.heap.size,0,none⟩) 1 1)).setCell (b:=jb) (Or.inr hkjH) 3 (.int .i64 (n:Int))).setCell (b:=jb) (Or.inr hkjH) 4 (.int .u64 ((NN:Int)+1)))
    generalize ext KH wH.heap.size (o,2)=KI at *
    have e2:(((({ J with recs:=[],torn:=false } : Jr).took (recB NN ps)).last+1:Nat):Int)=(NN:Int)+1:=by show ((J.last+1+1:Nat):Int)=_;have:=HNN.out;omega
    have e1:((goodN (({ J with recs:=[],torn:=false } : Jr).took (recB NN ps)):Nat):Int)=(n:Int):=by rw[HNl.out];unfold goodN Jr.took;simp
    have hg9:(((wI.setCell ⟨jb,2,none⟩ (.slice (some ⟨wH.heap.size,0,none⟩) 1 1)).setCell ⟨jb,3,none⟩ (.int .i64 (n:Int))).setCell ⟨jb,4,none⟩ (.int .u64 ((NN:Int)+1))).heap[wH.heap.size]?=some (.cells #[.slice aH (partsOf (recB NN ps)).length cH] 31 (0,0)):=by
     rw[Below.heap_setCell _ _ _ _ (by simp;omega),Below.heap_setCell _ _ _ _ (by simp;omega),Below.heap_setCell _ _ _ _ (by simp;omega),HI1.out,HPr.out,HPs.out]
    have hb9:(((wI.setCell ⟨jb,2,none⟩ (.slice (some ⟨wH.heap.size,0,none⟩) 1 1)).setCell ⟨jb,3,none⟩ (.int .i64 (n:Int))).setCell ⟨jb,4,none⟩ (.int .u64 ((NN:Int)+1))).heap[jb]?=some (.cells (rcells d (({ J with recs:=[],torn:=false } : Jr).took (recB NN ps)) (.slice (some ⟨wH.heap.size,0,none⟩) 1 1)) 116 (0,0)):=by
     rw[block_set (block_set (block_set HI0.out _) _) _]
     unfold rcells
     rw[e1,e2]
     have e3:=HOf.out
     simp[Jr.took,e3]
    have hrj:=rj_one (pp:=aH) (cp:=cH) (J:=J) (r:=recB NN ps) (d:=d) (by rw[HPr.out];exact hptk) k3 hg9 hkgI hkjI hb9
    exact⟨KI,rfl,htH.kept k3 (fun k e=>by simp at e;exact hne e.1),hrj,hKH.trans (k3.mono (fun k e=>Or.inr (by rw[e])))⟩
end Go.Proofs.YtcceejdaokoihaaGreatDoor
