import Derived.Test.YtfbegfapoijbnaaGreatLfB
import Derived.Test.YtfbegfapoijbnaaGreatCfB
import Derived.Test.YtfbegfapoijbnaaGreatFsB
import Derived.Test.YtfbegfapoijbnaaGreatWkF
import Derived.Test.YtfbegfapoijbnaaGreatRwI
import Derived.Deep.CutRange
import Derived.Test.YtfbegfapoijbnaaGreatTk
set_option maxRecDepth 100000
namespace Go.Proofs.YtfbegfapoijbnaaGreat
open Go.RowKit
open Z (Sli SlOk Elt Acd AcdOk AcOwn Ctr ctc CtrB PrcB CfgMade)
theorem least_any (w:World) (a b:Int):Calls Tryz.prog 9 #[.int .i64 a,.int .i64 b] w fun e w'=>e=.returned (.int .i64 (min a b))∧w'=w:=by
 by_cases h:a<b
 ·have e:min a b=a:=by omega
  rw[e]
  clear e
  go_enter Tryz.func9,Tryz.ntmps9
  go_wp2
  go_ret
  exact⟨rfl,rfl⟩
 ·have e:min a b=b:=by omega
  rw[e]
  clear e
  go_enter Tryz.func9,Tryz.ntmps9
  go_wp2
  go_ret
  exact⟨rfl,rfl⟩
structure Lgd where
 p:Z.Cnf
 st:Sli Stp
 till:Int
 l:Sli Lin
 g:Sli Tri
 q:Sli Tri
def Lgd.arr (d:Lgd):Array Value:=#[.int .i64 d.p.tills,.slice d.p.ctr.p d.p.ctr.n d.p.ctr.c,.slice d.p.prc.p d.p.prc.n d.p.prc.c,.int .i64 d.p.lease,.int .i64 d.p.watch,.int .i64 d.p.beat,.int .i64 d.p.window,.int .i64 d.p.cap,.int .i64 d.p.flight,.slice d.st.p d.st.n d.st.c,.int .i64 d.till,.slice d.l.p d.l.n d.l.c,.slice d.g.p d.g.n d.g.c,.slice d.q.p d.q.n d.q.c]
structure Lg (w W:World) (P D:Array Value) (cb sb:Nat) (c:Cfg) (cs:List Ctr) (s:Sta):Prop where
 lb:W.heap[w.heap.size]?=some (.cells P 33 (0,0))
 kb:W.heap[cb]?=some (.cells D 37 (0,0))
 zb:W.heap[sb]?=some (.cells s.arr 45 (0,0))
 cf:∃w1,CfgOk w1 c cs∧Below w1.heap.size w1 W∧w1.heap.size≤sb
 st:StG W c s
 ow:∃B,StaOw B W s
 lt:w.heap.size≤sb
 bel:Below w.heap.size w W
theorem Lg.below {w W W':World} {P D:Array Value} {cb sb:Nat} {c:Cfg} {cs:List Ctr} {s:Sta} (h:Lg w W P D cb sb c cs s) (hb:Below W.heap.size W W'):Lg w W' P D cb sb c cs s:=by
 obtain⟨w1,h1,h2,h3⟩:=h.cf
 obtain⟨B,h4⟩:=h.ow
 exact⟨(hb.block _ (ac_lt h.lb)).trans h.lb,(hb.block _ (ac_lt h.kb)).trans h.kb,(hb.block _ (ac_lt h.zb)).trans h.zb,⟨w1,h1,h2.trans (hb.mono h2.size),h3⟩,h.st.below hb,⟨B,h4.below hb⟩,h.lt,h.bel.trans (hb.mono h.bel.size)⟩
theorem Lg.cfg {w W:World} {P D:Array Value} {cb sb:Nat} {c:Cfg} {cs:List Ctr} {s:Sta} (h:Lg w W P D cb sb c cs s):CfgOk W c cs:=by
 obtain⟨w1,h1,h2,_⟩:=h.cf
 exact h1.below h2
theorem Lg.put {w W:World} {P D:Array Value} {cb sb:Nat} {c:Cfg} {cs:List Ctr} {s r:Sta} (h:Lg w W P D cb sb c cs s) (hr:StG W c r) (ho:(∃B,StaOw B W r)∨r=s):Lg w (W.setRow sb r.arr) P D cb sb c cs r:=by
 obtain⟨w1,h1,h2,h3⟩:=h.cf
 obtain⟨B,h4⟩:∃B,StaOw B W r:=by rcases ho with ho | rfl;exact ho;exact h.ow
 have h5:=h4.far (W':=W.setRow sb r.arr) (fun g C t hg ht=>setRow_other _ _ _ _ (by rintro rfl;rw[h.zb]at hg;cases hg;exact not_mut rfl ht))
 refine⟨?_,?_,setRow_heap _ _ _ _ _ _ h.zb,⟨w1,h1,below_setRow h2 h3 _,h3⟩,⟨h5.ok,hr.shp,hr.wf⟩,⟨B,h5⟩,h.lt,below_setRow h.bel h.lt _⟩
 ·rw[setRow_other _ _ _ _ (by rintro rfl;have h6:=h.lb;rw[h.zb]at h6;cases h6)];exact h.lb
 ·rw[setRow_other _ _ _ _ (by rintro rfl;have h6:=h.kb;rw[h.zb]at h6;cases h6)];exact h.kb
theorem ex_loado {o:Oper} {a:Act} (w:World) (t:TypeId) (x:Operand) (ho:o.op=.load t x) (b k:Nat) (A:Array Value) (hx:a.eval x=.pointer (some ⟨b,k,none⟩)) (hr:(Instr.loadAt t (.pointer (some ⟨b,k,none⟩))).run Tryz.prog w=.ok (.agg A) w):(execOp a.eval o).run Tryz.prog w=.ok (.value (.agg A)) w:=by
 unfold execOp
 simp[ho,hx,hr,Result.andThen]
end Go.Proofs.YtfbegfapoijbnaaGreat
namespace Go.Proofs.YtfbegfapoijbnaaGreat
open Go.RowKit Go.Sort
open Z (Sli SlOk Elt Acd AcdOk AcOwn Ctr ctc CtrB PrcB CfgMade)
theorem fir_shp {c:Cfg} {S:Sta} {B T:Nat} {W:World} {cs:List Ctr} {ps:List (ByteArray × Int)} (ho:StaOw B W S) (hd:S.d=firD T c.cl c.pl T cs ps) (hc:cs.length=c.cl) (hp:ps.length=c.pl) (ht:c.tills=(T:Int)):Shp c S:=by
 have h1:S.pools.map Pl.d=(cs.take c.cl).map (firPl T):=congrArg StP.pools hd
 have h2:S.prices=(ps.take c.pl).map firPr:=congrArg StP.prices hd
 have h3:S.last=List.replicate T 0:=congrArg StP.last hd
 have h4:S.gen=List.replicate T 0:=congrArg StP.gen hd
 have h5:S.owed=List.replicate T false:=congrArg StP.owed hd
 refine⟨?_,?_,?_,?_,?_,fun p hp'=>?_⟩
 ·have h:=congrArg List.length h1
  rw[List.length_map,List.length_map,List.length_take,hc]at h
  have:=ho.pn;omega
 ·have h:=congrArg List.length h2
  rw[List.length_map,List.length_take,hp]at h
  have:=ho.rn;omega
 ·have h:=congrArg List.length h3
  rw[List.length_replicate]at h
  have:=ho.ln;omega
 ·have h:=congrArg List.length h4
  rw[List.length_replicate]at h
  have:=ho.gn;omega
 ·have h:=congrArg List.length h5
  rw[List.length_replicate]at h
  have:=ho.on;omega
 ·have h6:p.d∈(cs.take c.cl).map (firPl T):=by rw[←h1];exact List.mem_map.2 ⟨p,hp',rfl⟩
  obtain⟨x,_,e⟩:=List.mem_map.1 h6
  have h7:p.hs=List.replicate T ⟨0,0⟩:=(congrArg PlP.hs e).symm
  have h8:=ho.hlen p hp'
  rw[h7,List.length_replicate]at h8
  omega
theorem fir_frw {S:Sta} {T k m j:Nat} {cs:List Ctr} {ps:List (ByteArray × Int)} (hd:S.d=firD T k m j cs ps) (hb:∀x∈cs,CtrB x):FrWf S.pools:=fun p hp=>by
 have h1:S.pools.map Pl.d=(cs.take k).map (firPl T):=congrArg StP.pools hd
 have h6:p.d∈(cs.take k).map (firPl T):=by rw[←h1];exact List.mem_map.2 ⟨p,hp,rfl⟩
 obtain⟨x,hx,e⟩:=List.mem_map.1 h6
 obtain⟨b1,b2,b3,b4⟩:=hb x (List.mem_of_mem_take hx)
 have e1:x.st - x.lo=p.f0:=congrArg PlP.f0 e
 have e2:x.hi - x.st=p.f1:=congrArg PlP.f1 e
 exact⟨lwf_of (by show _≤p.f0∧p.f0≤_;omega),lwf_of (by show _≤p.f1∧p.f1≤_;omega)⟩
theorem cel_take3 {α:Type} {w:World} {p:Option Addr} {sz:Nat} {f:α→List Value} {ls:List α} (h:Cel w p sz (ls.map f)) (k:Nat):Cel w p sz ((ls.take k).map f):=by
 rcases h with h | ⟨b,o',e,hb,hc⟩
 ·left
  have:ls=[]:=by simpa using h
  rw[this];simp
 ·refine Or.inr ⟨b,o',e,hb,fun i r hr=>hc i r ?_⟩
  rw[List.getElem?_map]at hr ⊢
  rcases Nat.lt_or_ge i k with hi | hi
  ·rw[List.getElem?_take_of_lt hi]at hr;exact hr
  ·rw[List.getElem?_eq_none (by rw[List.length_take];omega)]at hr;simp at hr
set_option linter.unusedSimpArgs false in
set_option linter.unusedVariables false in
set_option maxHeartbeats 8000000 in
theorem long_all (w:World) (d:Lgd) (hctr:SlOk w 3 tric d.p.ctr) (hprc:SlOk w 1 (fun n:Int=>[Value.int .i64 n]) d.p.prc) (hst:SlOk w 20 Stp.list d.st) (hact:∀o∈d.st.xs,AcdOk w o.ac) (hl:SlOk w 2 linc d.l) (hg:SlOk w 3 tric d.g) (hq:SlOk w 3 tric d.q) (hgc:d.g.n≤d.g.c) (hqc:d.q.n≤d.q.c) :
  Calls Tryz.prog 3 #[.agg d.arr] w fun e w'=>e=.returned (.bool true)∧Below w.heap.size w w':=by
 obtain⟨P,hP⟩:∃P:Array Value,d.arr=P:=⟨_,rfl⟩
 have HPz:Hid (P.size=14):=by show _=_;rw[←hP];rfl
 rw[hP]
 obtain⟨w0,hw0⟩:∃W,w.alloc (.cells P 33)=W:=⟨_,rfl⟩
 have hb0:Below w.heap.size w w0:=by rw[←hw0];exact(Below.refl _ w).alloc (Nat.le_refl _) _
 have hbox:w0.heap[w.heap.size]?=some (.cells P 33 (0,0)):=by rw[←hw0];exact heap_alloc_new _ _
 have HPc:Hid (∀W:World,W.heap[w.heap.size]?=some (.cells P 33 (0,0))→W.cell? ⟨w.heap.size,9,none⟩=some (.slice d.st.p d.st.n d.st.c)∧W.cell? ⟨w.heap.size,10,none⟩=some (.int .i64 d.till)):=fun W h=>by
  refine⟨?_,?_⟩ <;> · rw[cell_of_row _ _ _ _ _ _ h,←hP];rfl
 have HPl:Hid (P[11]?=some (.slice d.l.p d.l.n d.l.c)∧P[12]?=some (.slice d.g.p d.g.n d.g.c)∧P[13]?=some (.slice d.q.p d.q.n d.q.c)):=by show _∧_∧_;rw[←hP];exact⟨rfl,rfl,rfl⟩
 obtain⟨PC,hPC⟩:∃X,d.p.arr=X:=⟨_,rfl⟩
 have HLc:Hid ((Instr.loadAt 25 (.pointer (some ⟨w.heap.size,0,none⟩))).run Tryz.prog w0=.ok (.agg PC) w0):=by
  show _=_
  have h:=run_loadAt_mid (P:=Tryz.prog) w0 w.heap.size 0 25 d.p.arr.toList _ (fun j v hv=>by
   rw[cell_of_row _ _ _ _ _ _ hbox,←hP]
   match j,hv with
   | 0,hv=>simpa[Z.Cnf.arr,Lgd.arr] using hv
   | 1,hv=>simpa[Z.Cnf.arr,Lgd.arr] using hv
   | 2,hv=>simpa[Z.Cnf.arr,Lgd.arr] using hv
   | 3,hv=>simpa[Z.Cnf.arr,Lgd.arr] using hv
   | 4,hv=>simpa[Z.Cnf.arr,Lgd.arr] using hv
   | 5,hv=>simpa[Z.Cnf.arr,Lgd.arr] using hv
   | 6,hv=>simpa[Z.Cnf.arr,Lgd.arr] using hv
   | 7,hv=>simpa[Z.Cnf.arr,Lgd.arr] using hv
   | 8,hv=>simpa[Z.Cnf.arr,Lgd.arr] using hv
   | j+9,hv=>simp[Z.Cnf.arr]at hv) Tryz.underlying25 rfl (by kernel_rfl)
  rw[←hPC]
  simpa using h
 have HCf:=hide (Z.config_any w0 d.p (⟨hctr.len,hctr.most,hctr.cel.below hb0⟩:SlOk w0 3 tric d.p.ctr) (⟨hprc.len,hprc.most,hprc.cel.below hb0⟩:SlOk w0 1 (fun n:Int=>[Value.int .i64 n]) d.p.prc) PC hPC)
 have HSt:=hide hst
 have HAc:=hide hact
 have HL:=hide hl
 have HG:=hide hg
 have HQ:=hide hq
 have hstl:d.st.n≤4194304:=hst.most
 have hstx:d.st.xs.length=d.st.n:=hst.len
 have HW0:=hide hw0
 have HB0:=hide hb0
 have HBx:=hide hbox
 clear hw0 hb0 hbox hP hPC hctr hprc hst hact hl hg hq
 go_enter Tryz.func3,Tryz.ntmps3
 go_upto_region 1 with (fail)
 rw[HW0.out]
 go_upto_region 2 with (
  first
  | ((with_reducible show wpList _ _ _ (⟨_,.load 25 (.tmp 17),_,_,_,_⟩ :: _) _ _);refine Z.lp_load w.heap.size 0 PC rfl HLc.out ?_)
  | (go_at_call 4;refine HCf.out.mono ?_;rintro e w1 ⟨c,rfl,hc1,hc2,hc3,hcm,hb1⟩;have HB1:=hide hb1;have Hc1:=hide hc1;have Hc2:=hide hc2;have HCm:=hide hcm;obtain⟨D,hD⟩:∃D,c.arr=D:=⟨_,rfl⟩;have HDs:Hid (D.size=9):=(by show _=_;rw[←hD];rfl);have HDo:Hid (D.all (·.oneCell')=true):=(by show _=_;rw[←hD];exact Z.cfg_ones c);rw[show c.v=Value.agg D from by rw[←hD];rfl];have HD:=hide hD;clear hc1 hc2 hc3 hcm hb1 hD)
  | ((with_reducible show wpList _ _ _ (⟨_,.store 37 (.tmp 3) _,_,_,_,_⟩ :: _) _ _);refine Z.lp_store (t:=37) (x:=.tmp 3) (some ⟨w1.heap.size,0,none⟩) (.agg D) rfl rfl (run_storeAt_new w1 _ _ D (by rw[HDs.out];exact Tryz.sizeC) (by rw[HDs.out];rfl) HDo.out) ?_)
  | fail)
 dsimp only[Act.put]
 have hk2:=heap_alloc_new w1 (.cells D 37)
 have hb2:Below w1.heap.size w1 (w1.alloc (.cells D 37)):=(Below.refl _ _).alloc (Nat.le_refl _) _
 obtain⟨w2,hw2⟩:∃W,w1.alloc (.cells D 37)=W:=⟨_,rfl⟩
 rw[hw2]at hk2 hb2 ⊢
 obtain⟨cb,hcb⟩:∃k,w1.heap.size=k:=⟨_,rfl⟩
 rw[hcb]at hk2 ⊢
 have HKb:=hide hk2
 have HB12:=hide hb2
 clear hw2 hk2 hb2 HLc HCf
 obtain⟨ht1,hpl,⟨cs,cs1,cs2,cs3⟩,⟨ps,ps1,ps2,ps3⟩⟩:=HCm.out
 have ht2:=Int.emod_nonneg d.p.tills (show (8:Int)≠0 by omega)
 have ht3:=Int.emod_lt_of_pos d.p.tills (show (0:Int)<8 by omega)
 obtain⟨T,hT⟩:∃T:Nat,c.tills=(T:Int):=⟨c.tills.toNat,by omega⟩
 have HCfg:Hid (CfgOk w1 c cs):=⟨cs1,cs2,by have:=Hc2.out;omega,by omega,by omega,cs3⟩
 have HFi:Hid (Calls Tryz.prog 5 #[.agg c.arr] w2 fun e w'=>∃S:Sta,e=.returned (.agg S.arr)∧S.d=firD T c.cl c.pl T cs ps∧StaOw w2.heap.size w' S∧Below w2.heap.size w2 w'):=rfirst_any w2 c cs ps Hc2.out hpl T hT (by omega) cs1 (cs2.below HB12.out) cs3 ps1 (ps2.below HB12.out)
 rw[HD.out]at HFi
 have HLd:=hide (Z.loadAt_row (P:=Tryz.prog) (ty:=37) HKb.out Tryz.underlying37 rfl (by rw[HDs.out];exact Tryz.sizeC))
 have H1t:Hid (1≤c.tills):=by show _≤_;omega
 have HTl:Hid (c.tills=(T:Int)):=hT
 have HPs:=hide ps1
 have HCs:=hide (And.intro cs1 cs3)
 clear ht1 hpl ht2 ht3 cs1 cs2 cs3 ps1 ps2 ps3 hT HCm
 go_upto_region 3 with (
  first
  | ((with_reducible show wpList _ _ _ (⟨_,.load 37 (.tmp 3),_,_,_,_⟩ :: _) _ _);refine Z.lp_load cb 0 D rfl HLd.out ?_)
  | (go_at_call 5;refine HFi.out.mono ?_;rintro e w3 ⟨S0,rfl,hsd,hso,hb3⟩;have HSd:=hide hsd;have HSo:=hide hso;have HB3:=hide hb3;obtain⟨SA,hSA⟩:∃X,S0.arr=X:=⟨_,rfl⟩;have HSA:=hide hSA;have HSz:Hid (SA.size=6):=(by show _=_;rw[←hSA];rfl);have HSn:Hid (SA.all (·.oneCell')=true):=(by show _=_;rw[←hSA];simp[Sta.arr,Value.oneCell']);rw[hSA];clear hsd hso hb3 hSA)
  | ((with_reducible show wpList _ _ _ (⟨_,.store 45 (.tmp 4) _,_,_,_,_⟩ :: _) _ _);refine Z.lp_store (t:=45) (x:=.tmp 4) (some ⟨w3.heap.size,0,none⟩) (.agg SA) rfl rfl (run_storeAt_new w3 _ #[.int .u64 0,.slice none 0 0,.slice none 0 0,.slice none 0 0,.slice none 0 0,.slice none 0 0] SA (by rw[HSz.out];exact Tryz.sizeS) (by rw[HSz.out];rfl) HSn.out) ?_)
  | fail)
 try dsimp only[Act.put]
 have hk4:=heap_alloc_new w3 (.cells SA 45)
 have hb4:Below w3.heap.size w3 (w3.alloc (.cells SA 45)):=(Below.refl _ _).alloc (Nat.le_refl _) _
 obtain⟨w4,hw4⟩:∃W,w3.alloc (.cells SA 45)=W:=⟨_,rfl⟩
 rw[hw4]at hk4 hb4 ⊢
 obtain⟨sb,hsb⟩:∃k,w3.heap.size=k:=⟨_,rfl⟩
 have hlt:w1.heap.size≤sb:=by rw[←hsb];have h1:=HB12.out.size;have h2:=HB3.out.size;omega
 rw[hsb]at hk4 ⊢
 have HB14:Below w1.heap.size w1 w4:=HB12.out.trans ((HB3.out.trans (hb4.mono HB3.out.size)).mono HB12.out.size)
 have HB24:Below w2.heap.size w2 w4:=HB3.out.trans (hb4.mono HB3.out.size)
 have HB04:Below w0.heap.size w0 w4:=HB1.out.trans (HB14.mono HB1.out.size)
 have HI0:Hid (Lg w w4 P D cb sb c cs S0):=⟨(HB04.block _ (ac_lt HBx.out)).trans HBx.out,(HB24.block _ (ac_lt HKb.out)).trans HKb.out,by rw[HSA.out];exact hk4,⟨w1,HCfg.out,HB14,hlt⟩,⟨(HSo.out.below hb4).ok,fir_shp HSo.out HSd.out HCs.out.1 HPs.out HTl.out,fir_frw HSd.out HCs.out.2⟩,⟨_,HSo.out.below hb4⟩,by have h1:=HB0.out.size;have h2:=HB1.out.size;omega,HB0.out.trans (HB04.mono HB0.out.size)⟩
 clear hw4 hsb hk4 hb4 hlt HB14 HB24 HB04 HFi HLd HB3 HSo HSd HKb HB12 HB1 HBx HSA HSz HSn HCs HPs HCfg
 go_wp2
 go_loopw [5] (fun iv wr=>∃(i:Nat) (s:Sta),i≤d.st.n∧iv=.int .i64 i∧Hid (Lg w wr P D cb sb c cs s)) (fun iv _=>d.st.n - (intOf iv).toNat)
 case atStart=>exact⟨0,S0,Nat.zero_le _,rfl,HI0⟩
 case round =>
  clear HI0 S0
  obtain⟨i,s,hi,rfl,HI⟩:=hrel
  obtain⟨p9,p10⟩:=HPc.out wr HI.out.lb
  obtain⟨B,hB⟩:∃B:Bool,B=(decide (i<d.st.n) && decide (i<60)):=⟨_,rfl⟩
  go_upto_region 4 with (fail)
  go_cut [31] from 22 to 42 (fun sv wc=>sv=.bool B∧Hid (wc=wr))
  case first =>
   by_cases h1:i<d.st.n
   ·have h1i:(i:Int)<(d.st.n:Int):=by omega
    by_cases h2:i<60
    ·have h2i:(i:Int)<60:=by omega
     have hBt:B=true:=by rw[hB];simp[h1,h2]
     clear hB
     go_wp2
     go_meet
     case rel=>exact⟨by rw[hBt],rfl⟩
    ·have h2i:¬(i:Int)<60:=by omega
     have hBt:B=false:=by rw[hB];simp[h2]
     clear hB
     go_wp2
     go_meet
     case rel=>exact⟨by rw[hBt],rfl⟩
   ·have h1i:¬(i:Int)<(d.st.n:Int):=by omega
    have hBt:B=false:=by rw[hB];simp[h1]
    clear hB
    go_wp2
    go_meet
    case rel=>exact⟨by rw[hBt],rfl⟩
  case rest =>
   obtain⟨rfl,hwc⟩:=hcut
   rw[show wc=wr from hwc.out]
   clear hwc wc
   by_cases hgo:i<d.st.n∧i<60
   ·obtain⟨h1,h2⟩:=hgo
    have hBt:B=true:=by rw[hB];simp[h1,h2]
    subst hBt
    clear hB
    have h1i:(i:Int)<(d.st.n:Int):=by omega
    have i0:(0:Int)≤(i:Int):=by omega
    obtain⟨x,hx⟩:∃x,d.st.xs[i]?=some x:=⟨_,List.getElem?_eq_getElem (by omega)⟩
    obtain⟨gb,go,eg,hgb,hgc⟩:=HSt.out.cel.get (i:=i) (r:=Stp.list x) (by rw[List.getElem?_map,hx];rfl)
    obtain⟨O,hO⟩:∃O,x.arr=O:=⟨_,rfl⟩
    have HLo:Hid (∀W,Below w.heap.size w W→(Instr.loadAt 58 (.pointer (some ⟨gb,go+i*20,none⟩))).run Tryz.prog W=.ok (.agg O) W):=fun W hW=>by
     have h:=run_loadAt_mid (P:=Tryz.prog) W gb (go+i*20) 58 x.list _ (fun j v hv=>(hW.cell (p:=⟨gb,go+i*20+j,none⟩) hgb).trans (hgc j v hv)) Tryz.underlying58 rfl (by kernel_rfl)
     rw[←hO]
     exact h
    obtain⟨w5,hw5⟩:∃W,wr.drew=W:=⟨_,rfl⟩
    have HI5:Hid (Lg w w5 P D cb sb c cs s):=by show Lg _ _ _ _ _ _ _ _ _;rw[←hw5];exact HI.out.below ((Below.refl _ _).drew)
    obtain⟨SA,hSA⟩:∃X,s.arr=X:=⟨_,rfl⟩
    have HSz:Hid (SA.size=6):=by show _=_;rw[←hSA];rfl
    have HBh:Hid (Calls Tryz.prog 6 #[.agg c.arr,.agg s.arr,.agg x.arr] w5 (BehP w5 c s)):=behind_any w5 c cs HI5.out.cfg H1t.out Hc1.out s HI5.out.st x ((HAc.out x (List.mem_of_getElem? hx)).below HI5.out.bel)
    rw[HD.out,hSA,hO]at HBh
    have HZb:Hid (w5.heap[sb]?=some (.cells SA 45 (0,0))):=by show _=_;rw[←hSA];exact HI5.out.zb
    have HSAe:=hide hSA
    rw[eg]at p9
    have HPq:Hid (∀W:World,W.heap[w.heap.size]?=some (.cells P 33 (0,0))→W.cell? ⟨w.heap.size,9,none⟩=some (.slice (some ⟨gb,go,none⟩) d.st.n d.st.c)):=fun W h=>by rw[←eg];exact(HPc.out W h).1
    clear hx eg hgb hgc hO hSA p10
    go_upto_region 6 with (fail)
    refine wp_region_noPanic ?_
    refine wp_region_held_drew (S:=(fun W=>Below w.heap.size w W∧W.heap[cb]?=some (.cells D 37 (0,0))∧W.heap[w.heap.size]?=some (.cells P 33 (0,0)))) (by kernel_rfl) (by rw[hw5];exact⟨HI5.out.bel,HI5.out.kb,HI5.out.lb⟩) (fun hHeld=>?_)
    rw[hw5]at hHeld ⊢
    clear hw5 p9
    refine wpAnyH_take (i:=0) (oi:=_) (v:=.agg D) rfl (by kernel_rfl) (by kernel_rfl) (by kernel_rfl) (fun _ _ _ h=>h) (Or.inl ⟨by kernel_rfl,fun W hW=>ex_loadw W 37 (.tmp 3) rfl (cb) D rfl (Z.loadAt_row (P:=Tryz.prog) (ty:=37) hW.2.1 Tryz.underlying37 rfl (by rw[HDs.out];exact Tryz.sizeC))⟩) hHeld ?_
    try simp only[Act.put,qzg,qzh,qzi,qzs,qz0,qz1]
    refine tkg 2 (hy:=by(intro W hSw;go_simp;try with_reducible rfl)) ?_
    refine tkg 3 (hy:=by(intro W hSw;go_simp;try with_reducible rfl)) ?_
    refine tkg 4 (hy:=by(intro W hSw;have q9:=HPq.out _ hSw.2.2;go_simp;try with_reducible rfl)) ?_
    refine tkg 5 (hy:=by(intro W hSw;go_simp;try with_reducible rfl)) ?_
    refine tkg 6 (hy:=by(intro W hSw;go_simp;try with_reducible rfl)) ?_
    refine wpAnyH_take (i:=7) (oi:=_) (v:=.agg O) rfl (by kernel_rfl) (by kernel_rfl) (by kernel_rfl) (fun _ _ _ h=>h) (Or.inl ⟨by kernel_rfl,fun W hW=>ex_loado W 58 (.tmp 40) rfl gb (go+i*20) O rfl (HLo.out W hW.1)⟩) hHeld ?_
    try simp only[Act.put,qzg,qzh,qzi,qzs,qz0,qz1]
    refine rdy 1 (fun KK hKK=>?_)
    rw[if_pos (by kernel_rfl)]
    refine wp_load_row 45 (.tmp 4) rfl sb rfl 45 SA (0,0) _ HZb.out Tryz.underlying45 rfl (by rw[HSz.out];exact Tryz.sizeS) ?_
    refine hKK.out _ _ (by(try dsimp only);exact hHeld) (fun hHeld=>?_)
    clear hKK KK
    try simp only[Act.put,qzg,qzh,qzi,qzs,qz0,qz1]
    refine rdy 8 (fun KK hKK=>?_)
    go_simp
    (go_at_call 6;refine HBh.out.mono ?_;rintro e1 w8 ⟨r,rfl,hrg,hro,hb8⟩;have HLg8:=HI5.out.below hb8;have HI8:Hid (Lg w (w8.setRow sb r.arr) P D cb sb c cs r):=HLg8.put hrg hro;have HI8o:=hide HLg8;have hz8:=HLg8.zb;rw[HSAe.out]at hz8;have HZ8:=hide hz8;obtain⟨RA,hRA⟩:∃X,r.arr=X:=⟨_,rfl⟩;have HRz:Hid (RA.size=6):=(by show _=_;rw[←hRA];rfl);have HRn:Hid (RA.all (·.oneCell')=true):=(by show _=_;rw[←hRA];simp[Sta.arr,Value.oneCell']);rw[hRA]at HI8;rw[hRA];clear hrg hro hb8 HLg8 hz8 hRA)
    refine hKK.out _ _ (by(try dsimp only);exact⟨HI8o.out.bel,HI8o.out.kb,HI8o.out.lb⟩) (fun hHeld=>?_)
    clear hKK KK
    try simp only[Act.put,qzg,qzh,qzi,qzs,qz0,qz1]
    refine rdy 9 (fun KK hKK=>?_)
    rw[if_pos (by kernel_rfl)]
    refine wp_store_row 45 (.tmp 4) (.tmp 42) rfl sb RA rfl rfl 45 SA HZ8.out (by rw[HRz.out];exact Tryz.sizeS) (by rw[HRz.out];exact HSz.out) HRn.out ?_
    refine hKK.out _ _ (by(try dsimp only);exact⟨HI8.out.bel,HI8.out.kb,HI8.out.lb⟩) (fun hHeld=>?_)
    clear hKK KK
    try simp only[Act.put,qzg,qzh,qzi,qzs,qz0,qz1]
    refine wpAnyH_done (by kernel_rfl) (NoPanic.normal ?_) _
    go_wp2
    go_roundw
    case rel=>exact⟨i+1,r,by omega,by go_num,HI8⟩
    case measure=>simp[intOf];omega
   ·have hBf:B=false:=by rw[hB];simp only[Bool.and_eq_false_iff,decide_eq_false_iff_not];omega
    subst hBf
    clear hB p9
    obtain⟨t,ht⟩:∃t:Nat,d.till % c.tills=(t:Int):=⟨(d.till % c.tills).toNat,by have h1:=H1t.out;have h2:=Int.emod_nonneg d.till (show c.tills≠0 by omega);omega⟩
    have htl:(t:Int)<c.tills:=by rw[←ht];exact Int.emod_lt_of_pos _ (by have h1:=H1t.out;omega)
    have HWt:Hid (∀W,Calls Tryz.prog 7 #[.int .i64 d.till,.int .i64 c.tills] W fun e w'=>e=.returned (.int .i64 (t:Int))∧w'=W):=fun W=>by
     have h:=Z.within_any W d.till c.tills (by have h1:=H1t.out;omega) (by have h1:=HI.out.cfg.tills;omega)
     rw[ht]at h
     exact h
    have d0:wr.cell? ⟨cb,0,none⟩=some (.int .i64 c.tills):=by rw[cell_of_row _ _ _ _ _ _ HI.out.kb,←HD.out];rfl
    have HLaw:Hid (Calls Tryz.prog 8 #[.agg c.arr,.agg P] wr (LawP wr s)):=lawful_any wr c cs HI.out.cfg H1t.out s HI.out.st.shp P d.l d.g d.q ⟨HL.out.len,HL.out.most,HL.out.cel.below HI.out.bel⟩ ⟨HG.out.len,HG.out.most,HG.out.cel.below HI.out.bel⟩ ⟨HQ.out.len,HQ.out.most,HQ.out.cel.below HI.out.bel⟩ hgc hqc HPl.out.1 HPl.out.2.1 HPl.out.2.2
    rw[HD.out]at HLaw
    have HLd:=hide (Z.loadAt_row (P:=Tryz.prog) (ty:=37) HI.out.kb Tryz.underlying37 rfl (by rw[HDs.out];exact Tryz.sizeC))
    have HLp:=hide (Z.loadAt_row (P:=Tryz.prog) (ty:=33) HI.out.lb Tryz.underlying33 rfl (by rw[HPz.out];kernel_rfl))
    clear ht
    go_upto_region 8 with (first | (go_at_call 7;refine(HWt.out _).mono ?_;rintro e w9 ⟨rfl,h9⟩;rw[h9];clear h9 w9) | fail)
    clear p10 d0
    go_upto_region 9 with (
      first
      | ((with_reducible show wpList _ _ _ (⟨_,.load 37 (.tmp 3),_,_,_,_⟩ :: _) _ _);refine Z.lp_load cb 0 D rfl HLd.out ?_)
      | ((with_reducible show wpList _ _ _ (⟨_,.load 33 (.tmp 1),_,_,_,_⟩ :: _) _ _);refine Z.lp_load w.heap.size 0 P rfl HLp.out ?_)
      | (go_at_call 8;refine HLaw.out.mono ?_;rintro e w5 ⟨l,g,q,rfl,⟨hl1,hl2,hl3⟩,⟨hg1,hg2,hg3⟩,⟨hq1,hq2,hq3⟩,pl,pg,pq,hb5⟩;have HR0:Hid (Lg w w5 P D cb sb c cs s∧SlOk w5 2 linc l∧SlOk w5 3 tric g∧SlOk w5 3 tric q):=⟨HI.out.below hb5,hl1,hg1,hq1⟩;have HPl2:=hide pl;have HPg:=hide pg;have HPq2:=hide pq;have hll:=hl1.len;have hgl:=hg1.len;have hql:=hq1.len;clear pl pg pq hb5 hl1 hg1 hq1)
      | fail)
    clear HLd HLp HLaw HWt HI hi
    obtain⟨ln,hln⟩:∃n,l.n=n:=⟨_,rfl⟩
    obtain⟨gn,hgn⟩:∃n,g.n=n:=⟨_,rfl⟩
    obtain⟨qn,hqn⟩:∃n,q.n=n:=⟨_,rfl⟩
    rw[hln]at hl2 hl3 hll
    rw[hgn]at hg2 hg3 hgl
    rw[hqn]at hq2 hq3 hql
    rw[hln,hgn,hqn]
    have HLn:=hide hln
    have HGn:=hide hgn
    have HQn:=hide hqn
    clear hln hgn hqn
    go_upto_if 60 with (fail)
    go_cut [10] from 55 to 60 (fun nv wc=>∃m:Nat,nv=.int .i64 (m:Int)∧m≤8191∧Hid (wc=w5))
    case first =>
     by_cases h1:ln<gn
     ·have h1i:(ln:Int)<(gn:Int):=by omega
      go_wp2
      go_meet
      case rel=>exact⟨gn,rfl,by omega,rfl⟩
     ·have h1i:¬(ln:Int)<(gn:Int):=by omega
      go_wp2
      go_meet
      case rel=>exact⟨ln,rfl,by omega,rfl⟩
    case rest =>
     obtain⟨m,rfl,hm,hwc⟩:=hcut
     rw[show wc=w5 from hwc.out]
     clear hwc wc
     go_upto_if 66 with (fail)
     go_cut [10] from 61 to 66 (fun nv wc=>∃m:Nat,nv=.int .i64 (m:Int)∧m≤8191∧Hid (wc=w5))
     case first =>
      by_cases h1:m<qn
      ·have h1i:(m:Int)<(qn:Int):=by omega
       go_wp2
       go_meet
       case rel=>exact⟨qn,rfl,by omega,rfl⟩
      ·have h1i:¬(m:Int)<(qn:Int):=by omega
       go_wp2
       go_meet
       case rel=>exact⟨m,rfl,hm,rfl⟩
     case rest =>
      clear hm m
      obtain⟨m,rfl,hm,hwc⟩:=hcut
      rw[show wc=w5 from hwc.out]
      clear hwc wc
      go_wp2
      go_loopw [11] (fun kv wr=>∃k:Nat,k≤m+1∧kv=.int .i64 (k:Int)∧Hid (Lg w wr P D cb sb c cs s∧SlOk wr 2 linc l∧SlOk wr 3 tric g∧SlOk wr 3 tric q)) (fun kv _=>m+1 - (intOf kv).toNat)
      case atStart=>exact⟨0,by omega,rfl,HR0⟩
      case round =>
       clear HR0
       obtain⟨k,hk,rfl,HI⟩:=hrel
       by_cases hkm:k≤m
       ·have hkmi:(k:Int)≤(m:Int):=by omega
        go_upto_region 17 with (fail)
        go_cut [80] from 69 to 143 (fun bv wc=>∃B:Bool,bv=.bool B∧Hid (wc=wr))
        case first =>
         by_cases h1:40<k
         ·have h1i:(40:Int)<(k:Int):=by omega
          by_cases h2:k=m
          ·have h2i:(((k:Int)) != (m:Int))=false:=by simp[h2]
           clear h2
           go_wp2
           go_meet
           case rel=>exact⟨_,rfl,rfl⟩
          ·have h2i:(((k:Int)) != (m:Int))=true:=by simp;omega
           clear h2
           go_wp2
           go_meet
           case rel=>exact⟨_,rfl,rfl⟩
         ·have h1i:¬(40:Int)<(k:Int):=by omega
          go_wp2
          go_meet
          case rel=>exact⟨_,rfl,rfl⟩
        case rest =>
         obtain⟨B,rfl,hwc⟩:=hcut
         rw[show wc=wr from hwc.out]
         clear hwc wc
         cases B with
         | true =>
          go_wp2
          go_roundw
          case rel=>exact⟨k+1,by omega,by go_num,HI⟩
          case measure=>simp[intOf];omega
         | false =>
          obtain⟨m1,hm1⟩:∃x:Nat,min k ln=x:=⟨_,rfl⟩
          have HLe1:Hid (∀W,Calls Tryz.prog 9 #[.int .i64 (k:Int),.int .i64 (ln:Int)] W fun e w'=>e=.returned (.int .i64 (m1:Int))∧w'=W):=fun W=>by
           have h:=least_any W (k:Int) (ln:Int)
           rw[show min (k:Int) (ln:Int)=(m1:Int) by omega]at h
           exact h
          have hx1:m1≤ln:=by omega
          clear hm1
          obtain⟨m2,hm2⟩:∃x:Nat,min k gn=x:=⟨_,rfl⟩
          have HLe2:Hid (∀W,Calls Tryz.prog 9 #[.int .i64 (k:Int),.int .i64 (gn:Int)] W fun e w'=>e=.returned (.int .i64 (m2:Int))∧w'=W):=fun W=>by
           have h:=least_any W (k:Int) (gn:Int)
           rw[show min (k:Int) (gn:Int)=(m2:Int) by omega]at h
           exact h
          have hx2:m2≤gn:=by omega
          clear hm2
          obtain⟨m3,hm3⟩:∃x:Nat,min k qn=x:=⟨_,rfl⟩
          have HLe3:Hid (∀W,Calls Tryz.prog 9 #[.int .i64 (k:Int),.int .i64 (qn:Int)] W fun e w'=>e=.returned (.int .i64 (m3:Int))∧w'=W):=fun W=>by
           have h:=least_any W (k:Int) (qn:Int)
           rw[show min (k:Int) (qn:Int)=(m3:Int) by omega]at h
           exact h
          have hx3:m3≤qn:=by omega
          clear hm3
          have hy1:m1≤l.c:=by omega
          have hy2:m2≤g.c:=by omega
          have hy3:m3≤q.c:=by omega
          go_upto_region 19 with (first | (go_at_call 9;refine(HLe1.out _).mono ?_;rintro e w9 ⟨rfl,h9⟩;rw[h9];clear h9 w9) | fail)
          go_upto_region 20 with (first | (go_at_call 9;refine(HLe2.out _).mono ?_;rintro e w9 ⟨rfl,h9⟩;rw[h9];clear h9 w9) | fail)
          go_upto_region 21 with (first | (go_at_call 9;refine(HLe3.out _).mono ?_;rintro e w9 ⟨rfl,h9⟩;rw[h9];clear h9 w9) | fail)
          obtain⟨SB,hSB⟩:∃X,s.arr=X:=⟨_,rfl⟩
          have HSz:Hid (SB.size=6):=by show _=_;rw[←hSB];rfl
          have HK:Hid (∀W,Below wr.heap.size wr W→W.heap[sb]?=some (.cells SB 45 (0,0))):=fun W hW=>by rw[←hSB];exact(hW.block _ (ac_lt HI.out.1.zb)).trans HI.out.1.zb
          have HOk:Hid (∀W,Below wr.heap.size wr W→StaOk W s):=fun W hW=>HI.out.1.st.ok.below hW
          have HRh:Hid (RgH s t):=fun p hp=>by have h1:=HI.out.1.st.shp.hl p hp;omega
          obtain⟨xs,hxs⟩:∃X,l.xs.take m1=X:=⟨_,rfl⟩
          have HLx:Hid (xs.length=m1):=by show _=_;rw[←hxs,List.length_take,hll];omega
          have HCx:Hid (∀W,Below wr.heap.size wr W→Cel W l.p 2 (xs.map linc)):=fun W hW=>by rw[←hxs];exact cel_take3 (HI.out.2.1.cel.below hW) _
          obtain⟨ys,hys⟩:∃X,g.xs.take m2=X:=⟨_,rfl⟩
          have HLy:Hid (ys.length=m2):=by show _=_;rw[←hys,List.length_take,hgl];omega
          have HCy:Hid (∀W,Below wr.heap.size wr W→Cel W g.p 3 (ys.map tric)):=fun W hW=>by rw[←hys];exact cel_take3 (HI.out.2.2.1.cel.below hW) _
          obtain⟨zs,hzs⟩:∃X,q.xs.take m3=X:=⟨_,rfl⟩
          have HLz:Hid (zs.length=m3):=by show _=_;rw[←hzs,List.length_take,hql];omega
          have HCz:Hid (∀W,Below wr.heap.size wr W→Cel W q.p 3 (zs.map tric)):=fun W hW=>by rw[←hzs];exact cel_take3 (HI.out.2.2.2.cel.below hW) _
          have HXw:Hid (∀x∈xs,LinWf x):=fun x hx=>(HPl2.out x (by rw[←hxs]at hx;exact List.mem_of_mem_take hx)).1
          have HXr:Hid (∀x∈xs,RgL s x):=fun x hx=>(HPl2.out x (by rw[←hxs]at hx;exact List.mem_of_mem_take hx)).2
          have HYr:Hid (∀x∈ys,RgG s x):=fun x hx=>HPg.out x (by rw[←hys]at hx;exact List.mem_of_mem_take hx)
          have HZr:Hid (∀x∈zs,RgP s x):=fun x hx=>HPq2.out x (by rw[←hzs]at hx;exact List.mem_of_mem_take hx)
          obtain⟨b1,hb1⟩:∃b,(needT xs).all (fun x=>decide (x.n≤s.free x.a x.b))=b:=⟨_,rfl⟩
          obtain⟨b2,hb2⟩:∃b,(needT xs).all (fun x=>decide (x.n≤s.held t x.a x.b))=b:=⟨_,rfl⟩
          obtain⟨b3,hb3⟩:∃b,ys.all (fun x=>s.guard x.a x.b x.n)=b:=⟨_,rfl⟩
          obtain⟨b4,hb4⟩:∃b,zs.all (fun x=>s.isOpen x.a)=b:=⟨_,rfl⟩
          have HFr:Hid (∀W,Below wr.heap.size wr W→Calls Tryz.prog 10 #[.agg SB,.slice l.p m1 l.c] W fun e w'=>e=.returned (.bool b1)∧Below W.heap.size W w'):=fun W hW=>by
           have h:=free_all W s (HOk.out W hW) l.p m1 l.c xs HLx.out (by omega) HXw.out (HCx.out W hW)
           rw[hSB,hb1]at h
           exact h
          have HRf:Hid (∀W,Below wr.heap.size wr W→Calls Tryz.prog 11 #[.agg SB,.slice l.p m1 l.c] W fun e w'=>e=.returned (.bool b1)∧Below W.heap.size W w'):=fun W hW=>by
           have h:=rfree_any W s (HOk.out W hW) l.p m1 l.c xs HLx.out (by omega) HXw.out (HCx.out W hW) HXr.out
           rw[hSB,hb1]at h
           exact h
          have HHo:Hid (∀W,Below wr.heap.size wr W→Calls Tryz.prog 12 #[.agg SB,.int .i64 (t:Int),.slice l.p m1 l.c] W fun e w'=>e=.returned (.bool b2)∧Below W.heap.size W w'):=fun W hW=>by
           have h:=holds_all W s (HOk.out W hW) (t:Int) l.p m1 l.c xs HLx.out (by omega) HXw.out (HCx.out W hW)
           rw[hSB,hb2]at h
           exact h
          have HRo:Hid (∀W,Below wr.heap.size wr W→Calls Tryz.prog 13 #[.agg SB,.int .i64 (t:Int),.slice l.p m1 l.c] W fun e w'=>e=.returned (.bool b2)∧Below W.heap.size W w'):=fun W hW=>by
           have h:=rholdsL_any W s (HOk.out W hW) t HRh.out l.p m1 l.c xs HLx.out (by omega) HXw.out (HCx.out W hW) HXr.out
           rw[hSB,hb2]at h
           exact h
          have HGu:Hid (∀W,Below wr.heap.size wr W→Calls Tryz.prog 17 #[.agg SB,.slice g.p m2 g.c] W fun e w'=>e=.returned (.bool b3)∧Below W.heap.size W w'):=fun W hW=>by
           have h:=guarded_gen W s (HOk.out W hW) g.p m2 g.c ys HLy.out (by omega) (HCy.out W hW)
           rw[hSB,hb3]at h
           exact h
          have HRg:Hid (∀W,Below wr.heap.size wr W→Calls Tryz.prog 18 #[.agg SB,.slice g.p m2 g.c] W fun e w'=>e=.returned (.bool b3)∧Below W.heap.size W w'):=fun W hW=>by
           have h:=rguarded_any W s (HOk.out W hW) g.p m2 g.c ys HLy.out (by omega) (HCy.out W hW) HYr.out
           rw[hSB,hb3]at h
           exact h
          have HOp:Hid (∀W,Below wr.heap.size wr W→Calls Tryz.prog 19 #[.agg SB,.slice q.p m3 q.c] W fun e w'=>e=.returned (.bool b4)∧Below W.heap.size W w'):=fun W hW=>by
           have h:=open_gen W s (HOk.out W hW) q.p m3 q.c zs HLz.out (by omega) (HCz.out W hW)
           rw[hSB,hb4]at h
           exact h
          have HRp:Hid (∀W,Below wr.heap.size wr W→Calls Tryz.prog 20 #[.agg SB,.slice q.p m3 q.c] W fun e w'=>e=.returned (.bool b4)∧Below W.heap.size W w'):=fun W hW=>by
           have h:=ropen_any W s (HOk.out W hW) q.p m3 q.c zs HLz.out (by omega) (HCz.out W hW) HZr.out
           rw[hSB,hb4]at h
           exact h
          obtain⟨N,hN⟩:∃X,needT xs=X:=⟨_,rfl⟩
          obtain⟨K,hK⟩:∃X,N.length=X:=⟨_,rfl⟩
          have HKl:Hid (K≤8191):=by show _≤_;rw[←hK,←hN];have h1:=needT_len xs;have h2:=HLx.out;omega
          have HNl:=hide hK
          have HNe:Hid (∀W,Below wr.heap.size wr W→Calls Tryz.prog 15 #[.slice l.p m1 l.c] W fun e w'=>∃p cc,e=.returned (.slice p K cc)∧Cel w' p 3 (N.map tric)∧Below W.heap.size W w'):=fun W hW=>by
           have h:=needs_any W l.p m1 l.c xs HLx.out (by omega) HXw.out (cel_lins (HCx.out W hW))
           rw[hN,hK]at h
           refine h.mono (fun e w' ⟨v,h1,h2,h3⟩=>?_)
           obtain⟨a,cc,rfl⟩:=slice_form h2
           exact⟨a,cc,h1,cel_row h2,h3⟩
          have HRn:Hid (∀W,Below wr.heap.size wr W→Calls Tryz.prog 16 #[.slice l.p m1 l.c] W fun e w'=>∃p cc,e=.returned (.slice p K cc)∧Cel w' p 3 (N.map tric)∧Below W.heap.size W w'):=fun W hW=>by
           have h:=rneeds_any W l.p m1 l.c xs HLx.out (by omega) HXw.out (cel_lins (HCx.out W hW))
           rw[hN,hK]at h
           refine h.mono (fun e w' ⟨v,h1,h2,h3⟩=>?_)
           obtain⟨a,cc,rfl⟩:=slice_form h2
           exact⟨a,cc,h1,cel_row h2,h3⟩
          have HEq:Hid (∀(W:World) (p q:Option Addr) (cp cq:Nat),Cel W p 3 (N.map tric)→Cel W q 3 (N.map tric)→Calls Tryz.prog 14 #[.slice p K cp,.slice q K cq] W fun e w'=>e=.returned (.bool true)∧Below W.heap.size W w'):=fun W p q cp cq h1 h2=>eqRights_any W p q K K cp cq N N HNl.out HNl.out (by have:=HKl.out;omega) h1 h2 true (by simp)
          clear hSB hxs hys hzs hb1 hb2 hb3 hb4 hN hK
          go_upto_region 21 with (fail)
          go_cut [15] from 99 to 123 (fun sv wc=>sv=.bool true∧Hid (Below wr.heap.size wr wc))
          case first =>
           have HBd:Hid (Below wr.heap.size wr wr.drew):=(Below.refl _ _).drew
           refine wp_region_noPanic ?_
           refine wp_region_held_drew (S:=(fun W=>W.heap[sb]?=some (.cells SB 45 (0,0)))) (by kernel_rfl) (HK.out _ HBd.out) (fun hHeld=>?_)
           refine wpAnyH_take (i:=0) (oi:=_) (v:=.agg SB) rfl (by kernel_rfl) (by kernel_rfl) (by kernel_rfl) (fun _ _ _ h=>h) (Or.inl ⟨by kernel_rfl,fun W hW=>ex_loadw W 45 (.tmp 4) rfl sb SB rfl (Z.loadAt_row (P:=Tryz.prog) (ty:=45) hW Tryz.underlying45 rfl (by rw[HSz.out];exact Tryz.sizeS))⟩) hHeld ?_
           try simp only[Act.put,qzg,qzh,qzi,qzs,qz0,qz1]
           refine tkg 1 (hy:=by(intro W hSw;go_simp;try with_reducible rfl)) ?_
           refine wpAnyH_take (i:=3) (oi:=_) (v:=.agg SB) rfl (by kernel_rfl) (by kernel_rfl) (by kernel_rfl) (fun _ _ _ h=>h) (Or.inl ⟨by kernel_rfl,fun W hW=>ex_loadw W 45 (.tmp 4) rfl sb SB rfl (Z.loadAt_row (P:=Tryz.prog) (ty:=45) hW Tryz.underlying45 rfl (by rw[HSz.out];exact Tryz.sizeS))⟩) hHeld ?_
           try simp only[Act.put,qzg,qzh,qzi,qzs,qz0,qz1]
           refine tkg 4 (hy:=by(intro W hSw;go_simp;try with_reducible rfl)) ?_
           refine rdy 2 (fun KK hKK=>?_)
           go_simp
           (go_at_call 10;refine(HFr.out _ HBd.out).mono ?_;rintro e1 vw8 ⟨rfl,hb⟩;have HBw8:Hid (Below wr.heap.size wr vw8):=HBd.out.trans (hb.mono HBd.out.size);clear hb)
           refine hKK.out _ _ (by(try dsimp only);exact HK.out _ HBw8.out) (fun hHeld=>?_)
           clear hKK KK
           try simp only[Act.put,qzg,qzh,qzi,qzs,qz0,qz1]
           refine rdy 5 (fun KK hKK=>?_)
           go_simp
           (go_at_call 11;refine(HRf.out _ HBw8.out).mono ?_;rintro e1 vw9 ⟨rfl,hb⟩;have HBw9:Hid (Below wr.heap.size wr vw9):=HBw8.out.trans (hb.mono HBw8.out.size);clear hb)
           refine hKK.out _ _ (by(try dsimp only);exact HK.out _ HBw9.out) (fun hHeld=>?_)
           clear hKK KK
           try simp only[Act.put,qzg,qzh,qzi,qzs,qz0,qz1]
           refine tkg 6 (hy:=by(intro W hSw;go_simp;try with_reducible rfl)) ?_
           refine tkg 7 (hy:=by(intro W hSw;go_simp;try with_reducible rfl)) ?_
           refine wpAnyH_take (i:=8) (oi:=_) (v:=.agg SB) rfl (by kernel_rfl) (by kernel_rfl) (by kernel_rfl) (fun _ _ _ h=>h) (Or.inl ⟨by kernel_rfl,fun W hW=>ex_loadw W 45 (.tmp 4) rfl sb SB rfl (Z.loadAt_row (P:=Tryz.prog) (ty:=45) hW Tryz.underlying45 rfl (by rw[HSz.out];exact Tryz.sizeS))⟩) hHeld ?_
           try simp only[Act.put,qzg,qzh,qzi,qzs,qz0,qz1]
           refine tkg 9 (hy:=by(intro W hSw;go_simp;try with_reducible rfl)) ?_
           refine tkg 10 (hy:=by(intro W hSw;go_simp;try with_reducible rfl)) ?_
           refine wpAnyH_take (i:=12) (oi:=_) (v:=.agg SB) rfl (by kernel_rfl) (by kernel_rfl) (by kernel_rfl) (fun _ _ _ h=>h) (Or.inl ⟨by kernel_rfl,fun W hW=>ex_loadw W 45 (.tmp 4) rfl sb SB rfl (Z.loadAt_row (P:=Tryz.prog) (ty:=45) hW Tryz.underlying45 rfl (by rw[HSz.out];exact Tryz.sizeS))⟩) hHeld ?_
           try simp only[Act.put,qzg,qzh,qzi,qzs,qz0,qz1]
           refine tkg 13 (hy:=by(intro W hSw;go_simp;try with_reducible rfl)) ?_
           refine tkg 14 (hy:=by(intro W hSw;go_simp;try with_reducible rfl)) ?_
           refine rdy 11 (fun KK hKK=>?_)
           go_simp
           (go_at_call 12;refine(HHo.out _ HBw9.out).mono ?_;rintro e1 vw16 ⟨rfl,hb⟩;have HBw16:Hid (Below wr.heap.size wr vw16):=HBw9.out.trans (hb.mono HBw9.out.size);clear hb)
           refine hKK.out _ _ (by(try dsimp only);exact HK.out _ HBw16.out) (fun hHeld=>?_)
           clear hKK KK
           try simp only[Act.put,qzg,qzh,qzi,qzs,qz0,qz1]
           refine rdy 15 (fun KK hKK=>?_)
           go_simp
           (go_at_call 13;refine(HRo.out _ HBw16.out).mono ?_;rintro e1 vw17 ⟨rfl,hb⟩;have HBw17:Hid (Below wr.heap.size wr vw17):=HBw16.out.trans (hb.mono HBw16.out.size);clear hb)
           refine hKK.out _ _ (by(try dsimp only);exact HK.out _ HBw17.out) (fun hHeld=>?_)
           clear hKK KK
           try simp only[Act.put,qzg,qzh,qzi,qzs,qz0,qz1]
           refine tkg 16 (hy:=by(intro W hSw;go_simp;try with_reducible rfl)) ?_
           refine tkg 17 (hy:=by(intro W hSw;go_simp;try with_reducible rfl)) ?_
           refine tkg 18 (hy:=by(intro W hSw;go_simp;try with_reducible rfl)) ?_
           refine tkg 19 (hy:=by(intro W hSw;go_simp;try with_reducible rfl)) ?_
           refine tkg 21 (hy:=by(intro W hSw;go_simp;try with_reducible rfl)) ?_
           refine rdy 20 (fun KK hKK=>?_)
           go_simp
           (go_at_call 15;refine(HNe.out _ HBw17.out).mono ?_;rintro e1 vw23 ⟨pRA1,cRA1,rfl,hRA1,hb⟩;have RA1:=hide hRA1;have HBw23:Hid (Below wr.heap.size wr vw23):=HBw17.out.trans (hb.mono HBw17.out.size);clear hb hRA1)
           refine hKK.out _ _ (by(try dsimp only);exact HK.out _ HBw23.out) (fun hHeld=>?_)
           clear hKK KK
           try simp only[Act.put,qzg,qzh,qzi,qzs,qz0,qz1]
           refine rdy 22 (fun KK hKK=>?_)
           go_simp
           (go_at_call 16;refine(HRn.out _ HBw23.out).mono ?_;rintro e1 vw24 ⟨pRA2,cRA2,rfl,hRA2,hb⟩;have RA2:=hide hRA2;have RA1:=hide (RA1.out.below hb);have HBw24:Hid (Below wr.heap.size wr vw24):=HBw23.out.trans (hb.mono HBw23.out.size);clear hb hRA2)
           refine hKK.out _ _ (by(try dsimp only);exact HK.out _ HBw24.out) (fun hHeld=>?_)
           clear hKK KK
           try simp only[Act.put,qzg,qzh,qzi,qzs,qz0,qz1]
           refine rdy 23 (fun KK hKK=>?_)
           go_simp
           (go_at_call 14;refine(HEq.out _ _ _ _ _ RA1.out RA2.out).mono ?_;rintro e1 vw25 ⟨rfl,hb⟩;have HBw25:Hid (Below wr.heap.size wr vw25):=HBw24.out.trans (hb.mono HBw24.out.size);clear hb)
           refine hKK.out _ _ (by(try dsimp only);exact HK.out _ HBw25.out) (fun hHeld=>?_)
           clear hKK KK
           try simp only[Act.put,qzg,qzh,qzi,qzs,qz0,qz1]
           refine tkg 24 (hy:=by(intro W hSw;go_simp;try with_reducible rfl)) ?_
           refine rdy 25 (fun KK hKK=>?_)
           go_simp
           refine hKK.out _ _ (by(try dsimp only);exact HK.out _ HBw25.out) (fun hHeld=>?_)
           clear hKK KK
           try simp only[Act.put,qzg,qzh,qzi,qzs,qz0,qz1]
           refine wpAnyH_done (by kernel_rfl) (NoPanic.normal ?_) _
           go_wp2
           go_meet
           case rel=>exact⟨rfl,HBw25⟩
          case rest =>
           obtain⟨rfl,HB7⟩:=hcut
           generalize wc=w7 at HB7 ⊢
           clear HFr HRf HHo HRo HNe HRn HEq
           go_upto_region 22 with (fail)
           go_cut [143] from 124 to 142 (fun sv wc=>sv=.bool false∧Hid (Below wr.heap.size wr wc))
           case first =>
            have HBd:Hid (Below wr.heap.size wr w7.drew):=HB7.out.drew
            refine wp_region_noPanic ?_
            refine wp_region_held_drew (S:=(fun W=>W.heap[sb]?=some (.cells SB 45 (0,0)))) (by kernel_rfl) (HK.out _ HBd.out) (fun hHeld=>?_)
            refine tkg 0 (hy:=by(intro W hSw;go_simp;try with_reducible rfl)) ?_
            refine tkg 1 (hy:=by(intro W hSw;go_simp;try with_reducible rfl)) ?_
            refine tkg 2 (hy:=by(intro W hSw;go_simp;try with_reducible rfl)) ?_
            refine wpAnyH_take (i:=3) (oi:=_) (v:=.agg SB) rfl (by kernel_rfl) (by kernel_rfl) (by kernel_rfl) (fun _ _ _ h=>h) (Or.inl ⟨by kernel_rfl,fun W hW=>ex_loadw W 45 (.tmp 4) rfl sb SB rfl (Z.loadAt_row (P:=Tryz.prog) (ty:=45) hW Tryz.underlying45 rfl (by rw[HSz.out];exact Tryz.sizeS))⟩) hHeld ?_
            try simp only[Act.put,qzg,qzh,qzi,qzs,qz0,qz1]
            refine tkg 4 (hy:=by(intro W hSw;go_simp;try with_reducible rfl)) ?_
            refine wpAnyH_take (i:=6) (oi:=_) (v:=.agg SB) rfl (by kernel_rfl) (by kernel_rfl) (by kernel_rfl) (fun _ _ _ h=>h) (Or.inl ⟨by kernel_rfl,fun W hW=>ex_loadw W 45 (.tmp 4) rfl sb SB rfl (Z.loadAt_row (P:=Tryz.prog) (ty:=45) hW Tryz.underlying45 rfl (by rw[HSz.out];exact Tryz.sizeS))⟩) hHeld ?_
            try simp only[Act.put,qzg,qzh,qzi,qzs,qz0,qz1]
            refine tkg 7 (hy:=by(intro W hSw;go_simp;try with_reducible rfl)) ?_
            refine rdy 5 (fun KK hKK=>?_)
            go_simp
            (go_at_call 17;refine(HGu.out _ HBd.out).mono ?_;rintro e1 vw32 ⟨rfl,hb⟩;have HBw32:Hid (Below wr.heap.size wr vw32):=HBd.out.trans (hb.mono HBd.out.size);clear hb)
            refine hKK.out _ _ (by(try dsimp only);exact HK.out _ HBw32.out) (fun hHeld=>?_)
            clear hKK KK
            try simp only[Act.put,qzg,qzh,qzi,qzs,qz0,qz1]
            refine rdy 8 (fun KK hKK=>?_)
            go_simp
            (go_at_call 18;refine(HRg.out _ HBw32.out).mono ?_;rintro e1 vw33 ⟨rfl,hb⟩;have HBw33:Hid (Below wr.heap.size wr vw33):=HBw32.out.trans (hb.mono HBw32.out.size);clear hb)
            refine hKK.out _ _ (by(try dsimp only);exact HK.out _ HBw33.out) (fun hHeld=>?_)
            clear hKK KK
            try simp only[Act.put,qzg,qzh,qzi,qzs,qz0,qz1]
            refine tkg 9 (hy:=by(intro W hSw;go_simp;try with_reducible rfl)) ?_
            refine tkg 10 (hy:=by(intro W hSw;go_simp;try with_reducible rfl)) ?_
            refine tkg 11 (hy:=by(intro W hSw;go_simp;try with_reducible rfl)) ?_
            refine wpAnyH_take (i:=12) (oi:=_) (v:=.agg SB) rfl (by kernel_rfl) (by kernel_rfl) (by kernel_rfl) (fun _ _ _ h=>h) (Or.inl ⟨by kernel_rfl,fun W hW=>ex_loadw W 45 (.tmp 4) rfl sb SB rfl (Z.loadAt_row (P:=Tryz.prog) (ty:=45) hW Tryz.underlying45 rfl (by rw[HSz.out];exact Tryz.sizeS))⟩) hHeld ?_
            try simp only[Act.put,qzg,qzh,qzi,qzs,qz0,qz1]
            refine tkg 13 (hy:=by(intro W hSw;go_simp;try with_reducible rfl)) ?_
            refine wpAnyH_take (i:=15) (oi:=_) (v:=.agg SB) rfl (by kernel_rfl) (by kernel_rfl) (by kernel_rfl) (fun _ _ _ h=>h) (Or.inl ⟨by kernel_rfl,fun W hW=>ex_loadw W 45 (.tmp 4) rfl sb SB rfl (Z.loadAt_row (P:=Tryz.prog) (ty:=45) hW Tryz.underlying45 rfl (by rw[HSz.out];exact Tryz.sizeS))⟩) hHeld ?_
            try simp only[Act.put,qzg,qzh,qzi,qzs,qz0,qz1]
            refine tkg 16 (hy:=by(intro W hSw;go_simp;try with_reducible rfl)) ?_
            refine rdy 14 (fun KK hKK=>?_)
            go_simp
            (go_at_call 19;refine(HOp.out _ HBw33.out).mono ?_;rintro e1 vw39 ⟨rfl,hb⟩;have HBw39:Hid (Below wr.heap.size wr vw39):=HBw33.out.trans (hb.mono HBw33.out.size);clear hb)
            refine hKK.out _ _ (by(try dsimp only);exact HK.out _ HBw39.out) (fun hHeld=>?_)
            clear hKK KK
            try simp only[Act.put,qzg,qzh,qzi,qzs,qz0,qz1]
            refine rdy 17 (fun KK hKK=>?_)
            go_simp
            (go_at_call 20;refine(HRp.out _ HBw39.out).mono ?_;rintro e1 vw40 ⟨rfl,hb⟩;have HBw40:Hid (Below wr.heap.size wr vw40):=HBw39.out.trans (hb.mono HBw39.out.size);clear hb)
            refine hKK.out _ _ (by(try dsimp only);exact HK.out _ HBw40.out) (fun hHeld=>?_)
            clear hKK KK
            try simp only[Act.put,qzg,qzh,qzi,qzs,qz0,qz1]
            refine tkg 18 (hy:=by(intro W hSw;go_simp;try with_reducible rfl)) ?_
            refine rdy 19 (fun KK hKK=>?_)
            go_simp
            refine hKK.out _ _ (by(try dsimp only);exact HK.out _ HBw40.out) (fun hHeld=>?_)
            clear hKK KK
            try simp only[Act.put,qzg,qzh,qzi,qzs,qz0,qz1]
            refine wpAnyH_done (by kernel_rfl) (NoPanic.normal ?_) _
            go_wp2
            go_meet
            case rel=>exact⟨rfl,HBw40⟩
           case rest =>
            obtain⟨rfl,HB8⟩:=hcut
            have HIe:Hid (Lg w wc P D cb sb c cs s∧SlOk wc 2 linc l∧SlOk wc 3 tric g∧SlOk wc 3 tric q):=⟨HI.out.1.below HB8.out,HI.out.2.1.below HB8.out,HI.out.2.2.1.below HB8.out,HI.out.2.2.2.below HB8.out⟩
            go_wp2
            go_roundw
            case rel=>exact⟨k+1,by omega,by go_num,HIe⟩
            case measure=>simp[intOf];omega
       ·have hkmi:¬(k:Int)≤(m:Int):=by omega
        have HWk:=hide (wakes_any wr)
        go_wp2_with (first | (go_at_call 21;refine HWk.out.mono ?_;rintro e w9 ⟨rfl,hb9⟩;have HB9:=hide hb9;clear hb9) | fail)
        go_ret
        exact⟨rfl,HI.out.1.bel.trans (HB9.out.mono HI.out.1.bel.size)⟩
end Go.Proofs.YtfbegfapoijbnaaGreat
