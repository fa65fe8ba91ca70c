import Derived.Test.YtfbegfapoijbnaaGreatMv0
import Derived.Test.YtfbegfapoijbnaaGreatMv1
import Derived.Test.YtfbegfapoijbnaaGreatMv2n
import Derived.Test.YtfbegfapoijbnaaGreatFsB
import Derived.Test.YtfbegfapoijbnaaGreatBh3
import Derived.Deep.CutRange
set_option maxRecDepth 100000
namespace Go.Proofs.YtfbegfapoijbnaaGreat
open Go.RowKit
open Z (Sli SlOk Acd AcdOk AcOwn Ctr ctc)
theorem moved_any (w:World) (c:Cfg) (cs:List Ctr) (hcf:CfgOk w c cs) (h1t:1≤c.tills) (hcl1:1≤c.cl) (s:Sta) (hs:StaOk w s) (hsh:Shp c s) (o:Stp) :
  Calls Tryz.prog 29 #[.agg #[.int .i64 c.tills,.slice c.cp c.cl c.cc,.slice c.pp c.pl c.pc,.int .i64 c.lease,.int .i64 c.watch,.int .i64 c.beat,.int .i64 c.window,.int .i64 c.cap,.int .i64 c.flight],.agg #[.int .u64 s.pos,.slice s.pp s.pn s.pc,.slice s.rp s.rn s.rc,.slice s.lp s.ln s.lc,.slice s.gp s.gn s.gc,.slice s.op s.on s.oc],.agg o.arr] w (MovP w c cs):=by
 have h1:0≤o.way % 4:=Int.emod_nonneg _ (by omega)
 have h2:o.way % 4<4:=Int.emod_lt_of_pos _ (by omega)
 have h3:o.way % 4=0∨o.way % 4=1∨o.way % 4=2∨o.way % 4=3:=by omega
 rcases h3 with h | h | h | h
 ·exact moved_0 w c cs hcf h1t hcl1 s hs hsh o h
 ·exact moved_1 w c cs hcf h1t hcl1 s hs hsh o h
 ·by_cases hr:s.rn=0
  ·exact moved_2n w c cs hcf h1t hcl1 s hs hsh o h hr
  ·exact moved_2p w c cs hcf h1t hcl1 s hs hsh o h (by omega)
 ·exact moved_3 w c cs hcf h1t hcl1 s hs hsh o h
end Go.Proofs.YtfbegfapoijbnaaGreat
namespace Go.Proofs.YtfbegfapoijbnaaGreat
open Go.RowKit Go.Sort
open Z (Sli SlOk Acd AcdOk Eda EdaOk AcOwn Ctr ctc)
set_option linter.unusedSimpArgs false in
set_option linter.unusedVariables false in
set_option maxHeartbeats 4000000 in
theorem behind_4 (w:World) (c:Cfg) (cs:List Ctr) (hcf:CfgOk w c cs) (h1t:1≤c.tills) (hcl1:1≤c.cl) (s:Sta) (hg:StG w c s) (o:Stp) (hok:AcdOk w o.ac) (h4:o.do_=4) :
  Calls Tryz.prog 6 #[.agg #[.int .i64 c.tills,.slice c.cp c.cl c.cc,.slice c.pp c.pl c.pc,.int .i64 c.lease,.int .i64 c.watch,.int .i64 c.beat,.int .i64 c.window,.int .i64 c.cap,.int .i64 c.flight],.agg #[.int .u64 s.pos,.slice s.pp s.pn s.pc,.slice s.rp s.rn s.rc,.slice s.lp s.ln s.lc,.slice s.gp s.gn s.gc,.slice s.op s.on s.oc],.agg o.arr] w (BehP w c s):=by
 obtain⟨O,hO⟩:∃O:Array Value,o.arr=O:=⟨_,rfl⟩
 have hOz:O.size=20:=by rw[←hO];rfl
 obtain⟨w2,hw2,hb2,hc2,hs2,ho2,hr2,hsz2⟩:=step_boxes w #[.int .i64 c.tills,.slice c.cp c.cl c.cc,.slice c.pp c.pl c.pc,.int .i64 c.lease,.int .i64 c.watch,.int .i64 c.beat,.int .i64 c.window,.int .i64 c.cap,.int .i64 c.flight] #[.int .u64 s.pos,.slice s.pp s.pn s.pc,.slice s.rp s.rn s.rc,.slice s.lp s.ln s.lc,.slice s.gp s.gn s.gc,.slice s.op s.on s.oc] O #[.int .u64 0,.slice none 0 0,.slice none 0 0,.slice none 0 0,.slice none 0 0,.slice none 0 0] 45
 have HW2:=hide hw2
 have HM:Hid (Bhd w w2 #[.int .i64 c.tills,.slice c.cp c.cl c.cc,.slice c.pp c.pl c.pc,.int .i64 c.lease,.int .i64 c.watch,.int .i64 c.beat,.int .i64 c.window,.int .i64 c.cap,.int .i64 c.flight] #[.int .u64 s.pos,.slice s.pp s.pn s.pc,.slice s.rp s.rn s.rc,.slice s.lp s.ln s.lc,.slice s.gp s.gn s.gc,.slice s.op s.on s.oc] O):=⟨hc2,hs2,ho2,hr2,hb2⟩
 have HS0:=hide hg.ok
 have HG:=hide (hg.below hb2)
 have HCf:=hide (hcf.below hb2)
 have HOk:=hide (hok.below hb2)
 have HOc:Hid (∀W:World,W.heap[w.heap.size+1+1]?=some (.cells O 58 (0,0))→W.cell? ⟨w.heap.size+1+1,0,none⟩=some (.int .i64 o.do_)∧W.cell? ⟨w.heap.size+1+1,18,none⟩=some (.int .i64 o.till)):=fun W h=>by
  refine⟨?_,?_⟩ <;> · rw[cell_of_row _ _ _ _ _ _ h,←hO];rfl
 have HLO:Hid (∀W:World,W.heap[w.heap.size+1+1]?=some (.cells O 58 (0,0))→(Instr.loadAt 58 (.pointer (some ⟨w.heap.size+1+1,0,none⟩))).run Tryz.prog W=.ok (.agg O) W):=fun W h=>Z.loadAt_row (P:=Tryz.prog) (ty:=58) h Tryz.underlying58 rfl (by rw[hOz];kernel_rfl)
 obtain⟨o0,o18⟩:=HOc.out w2 ho2
 obtain⟨c0,c1,c2,c3,c4,c5⟩:=ac6 hs2
 obtain⟨d0,d1,d2,d3,d4,d5,d6,d7,d8⟩:=ac9 hc2
 rw[h4]at o0
 have HMv:=hide (moved_any w2 c cs HCf.out h1t hcl1 s HG.out.ok HG.out.shp o)
 rw[hO]at HMv
 have HOe:=hide hO
 rw[hO]
 clear hO hOz hw2 hb2 hc2 hs2 ho2 hr2 hsz2 hg hcf hok
 go_enter Tryz.func6,Tryz.ntmps6
 go_upto_region 1 with (fail)
 rw[HW2.out]
 go_upto_region 16 with (first | (go_at_call 29;refine HMv.out.mono ?_;rintro e1 w3 ⟨RA,b,rfl,hRz,hRo,hbr,hb3⟩;have HRz:=hide hRz;have HRo:=hide hRo;have Hbr:=hide hbr;have HB3:=hide hb3;clear hRz hRo hbr hb3 c0 c1 c2 c3 c4 c5 d0 d1 d2 d3 d4 d5 d6 d7 d8) | ((with_reducible show wpList _ _ _ (⟨_,.load 58 (.tmp 5),_,_,_,_⟩ :: _) _ _);refine Z.lp_load (w.heap.size+1+1) 0 O rfl (HLO.out w2 HM.out.ob) ?_) | ((with_reducible show wpList _ _ _ (⟨_,.store 45 (.tmp 14) _,_,_,_,_⟩ :: _) _ _);refine Z.lp_store (t:=45) (x:=.tmp 14) (some ⟨w3.heap.size,0,none⟩) (.agg RA) rfl rfl (run_storeAt_new (P:=Tryz.prog) w3 45 #[.int .u64 0,.slice none 0 0,.slice none 0 0,.slice none 0 0,.slice none 0 0,.slice none 0 0] RA (by rw[HRz.out];exact Tryz.sizeS) (by rw[HRz.out];rfl) HRo.out) ?_) | fail)
 have hbx:=heap_alloc_new w3 (.cells RA 45)
 have hb4:Below w3.heap.size w3 (w3.alloc (.cells RA 45)):=(Below.refl _ _).alloc (Nat.le_refl _) _
 obtain⟨w4,hw4⟩:∃W,w3.alloc (.cells RA 45)=W:=⟨_,rfl⟩
 rw[hw4]at hbx hb4 ⊢
 obtain⟨tb,htb⟩:∃k,w3.heap.size=k:=⟨_,rfl⟩
 rw[htb]at hbx ⊢
 clear hw4
 have HBx:=hide hbx
 have HM4:Hid (Bhd w w4 #[.int .i64 c.tills,.slice c.cp c.cl c.cc,.slice c.pp c.pl c.pc,.int .i64 c.lease,.int .i64 c.watch,.int .i64 c.beat,.int .i64 c.window,.int .i64 c.cap,.int .i64 c.flight] #[.int .u64 s.pos,.slice s.pp s.pn s.pc,.slice s.rp s.rn s.rc,.slice s.lp s.ln s.lc,.slice s.gp s.gn s.gc,.slice s.op s.on s.oc] O):=HM.out.below (HB3.out.trans (hb4.mono HB3.out.size))
 have HB34:=hide hb4
 clear hb4 hbx
 cases b with
 | false =>
  have HGW:Hid (StG w4 c s):=HG.out.below (HB3.out.trans (HB34.out.mono HB3.out.size))
  obtain⟨c0,c1,c2,c3,c4,c5⟩:=ac6 HM4.out.sb
  obtain⟨d0,d1,d2,d3,d4,d5,d6,d7,d8⟩:=ac9 HM4.out.cb
  have HSt8:=hide (Z.storeAt_row (P:=Tryz.prog) (c':=#[.int .u64 s.pos,.slice s.pp s.pn s.pc,.slice s.rp s.rn s.rc,.slice s.lp s.ln s.lc,.slice s.gp s.gn s.gc,.slice s.op s.on s.oc]) HM4.out.rb Tryz.sizeS rfl (by simp[Value.oneCell']))
  go_wp2_with (first | ((with_reducible show wpList _ _ _ (⟨_,.store 45 (.tmp 6) _,_,_,_,_⟩ :: _) _ _);refine Z.lp_store (t:=45) (x:=.tmp 6) (some ⟨w.heap.size+1+1+1,0,none⟩) (.agg #[.int .u64 s.pos,.slice s.pp s.pn s.pc,.slice s.rp s.rn s.rc,.slice s.lp s.ln s.lc,.slice s.gp s.gn s.gc,.slice s.op s.on s.oc]) rfl rfl HSt8.out ?_) | fail)
  refine bodyPost_ret (results_cell_row rfl _ _ (w.heap.size+1+1+1) 45 #[.int .u64 s.pos,.slice s.pp s.pn s.pc,.slice s.rp s.rn s.rc,.slice s.lp s.ln s.lc,.slice s.gp s.gn s.gc,.slice s.op s.on s.oc] (0,0) _ rfl (HM4.out.told (s:=s) HGW.out (Or.inr ⟨rfl,HS0.out⟩) _).1 Tryz.underlying45 rfl Tryz.sizeS) rfl ?_
  exact⟨s,rfl,(HM4.out.told HGW.out (Or.inr ⟨rfl,HS0.out⟩) _).2⟩
 | true =>
  obtain⟨r,hr1,hr2,hr3⟩:=Hbr.out rfl
  have HOw:Hid (StaOw w2.heap.size w4 r):=hr2.below HB34.out
  have HGr:Hid (StG w4 c r):=⟨HOw.out.ok,hr3.shp,frw_right HCf.out HOw.out.pn hr3⟩
  rw[hr1]at HBx
  clear hr1 hr2 hr3 Hbr
  obtain⟨RA,hRA⟩:∃R:Array Value,r.arr=R:=⟨_,rfl⟩
  have hRz:RA.size=6:=by rw[←hRA];rfl
  have hRo:RA.all (·.oneCell')=true:=by rw[←hRA];simp[Sta.arr,Value.oneCell']
  rw[hRA]at HBx
  have HLr:=hide (Z.loadAt_row (P:=Tryz.prog) (ty:=45) HBx.out Tryz.underlying45 rfl (by rw[hRz];exact Tryz.sizeS))
  have HSr:=hide (Z.storeAt_row (P:=Tryz.prog) (c':=RA) HM4.out.rb (by rw[hRz];exact Tryz.sizeS) (by rw[hRz];rfl) hRo)
  have HRz:=hide hRz
  have HRe:=hide hRA
  clear hRz hRo hRA
  go_wp2_with (first | ((with_reducible show wpList _ _ _ (⟨_,.load 45 (.tmp 14),_,_,_,_⟩ :: _) _ _);refine Z.lp_load tb 0 RA rfl HLr.out ?_) | ((with_reducible show wpList _ _ _ (⟨_,.store 45 (.tmp 6) _,_,_,_,_⟩ :: _) _ _);refine Z.lp_store (t:=45) (x:=.tmp 6) (some ⟨w.heap.size+1+1+1,0,none⟩) (.agg RA) rfl rfl HSr.out ?_) | fail)
  refine bodyPost_ret (results_cell_row rfl _ _ (w.heap.size+1+1+1) 45 RA (0,0) _ rfl (HM4.out.told (s:=s) HGr.out (Or.inl ⟨_,HOw.out⟩) _).1 Tryz.underlying45 rfl (by rw[HRz.out];exact Tryz.sizeS)) rfl ?_
  exact⟨r,by rw[HRe.out],(HM4.out.told HGr.out (Or.inl ⟨_,HOw.out⟩) _).2⟩
end Go.Proofs.YtfbegfapoijbnaaGreat
namespace Go.Proofs.YtfbegfapoijbnaaGreat
open Go.RowKit
open Z (Sli SlOk Acd AcdOk AcOwn Ctr ctc)
theorem behind_any (w:World) (c:Cfg) (cs:List Ctr) (hcf:CfgOk w c cs) (h1t:1≤c.tills) (hcl1:1≤c.cl) (s:Sta) (hg:StG w c s) (o:Stp) (hok:AcdOk w o.ac) :
  Calls Tryz.prog 6 #[.agg #[.int .i64 c.tills,.slice c.cp c.cl c.cc,.slice c.pp c.pl c.pc,.int .i64 c.lease,.int .i64 c.watch,.int .i64 c.beat,.int .i64 c.window,.int .i64 c.cap,.int .i64 c.flight],.agg #[.int .u64 s.pos,.slice s.pp s.pn s.pc,.slice s.rp s.rn s.rc,.slice s.lp s.ln s.lc,.slice s.gp s.gn s.gc,.slice s.op s.on s.oc],.agg o.arr] w (BehP w c s):=by
 by_cases h1:o.do_=1
 ·exact behind_1 w c cs hcf h1t hcl1 s hg o hok h1
 by_cases h3:o.do_=3
 ·exact behind_3 w c cs hcf h1t hcl1 s hg o hok h3
 by_cases h4:o.do_=4
 ·exact behind_4 w c cs hcf h1t hcl1 s hg o hok h4
 exact behind_0 w c cs hcf h1t hcl1 s hg o hok h1 h3 h4
end Go.Proofs.YtfbegfapoijbnaaGreat
namespace Go.Proofs.YtfbegfapoijbnaaGreat
open Go.RowKit
open Z (Sli SlOk Elt Acd AcdOk AcOwn Ctr ctc)
structure Lwr (w W:World) (C P:Array Value) (l:Sli Lin) (g q:Sli Tri):Prop where
 cb:W.heap[w.heap.size]?=some (.cells C 37 (0,0))
 pb:W.heap[w.heap.size+1]?=some (.cells P 33 (0,0))
 bel:Below w.heap.size w W
 lr:W.ownsRow w.heap.size 96 2 (.slice l.p l.n l.c) l.n (Z.flat linc l.xs)
 ll:l.xs.length=l.n
 gr:W.ownsRow w.heap.size 99 3 (.slice g.p g.n g.c) g.n (Z.flat tric g.xs)
 gl:g.xs.length=g.n
 qr:W.ownsRow w.heap.size 101 3 (.slice q.p q.n q.c) q.n (Z.flat tric q.xs)
 ql:q.xs.length=q.n
theorem Lwr.below {w W W':World} {C P:Array Value} {l:Sli Lin} {g q:Sli Tri} (h:Lwr w W C P l g q) (hb:Below W.heap.size W W'):Lwr w W' C P l g q :=
 ⟨(hb.block _ (ac_lt h.cb)).trans h.cb,(hb.block _ (ac_lt h.pb)).trans h.pb,h.bel.trans (hb.mono h.bel.size),Z.owns_keep h.lr hb,h.ll,Z.owns_keep h.gr hb,h.gl,Z.owns_keep h.qr hb,h.ql⟩
theorem Lwr.line {w W:World} {C P:Array Value} {l:Sli Lin} {g q:Sli Tri} (h:Lwr w W C P l g q) (x:Lin) (hn:l.n≤8191) :
  ∃p d w7,(Builtin.append_ #[29,29] 29 #[.slice l.p l.n l.c,.slice (some ⟨W.heap.size,0,none⟩) 1 1]).run Tryz.prog (W.alloc (.cells #[.int .i64 x.c,.int .i64 x.n] 96))=.ok (.slice p (l.n+1) d) w7∧Lwr w w7 C P ⟨p,l.n+1,d,l.xs++[x]⟩ g q:=by
 obtain⟨b,d,w7,hr,ho,hat,hk,hb,hsz⟩:=app1 Z.elt_line W w.heap.size l.n l.p l.c l.xs x #[.int .i64 x.c,.int .i64 x.n] rfl h.lr (by omega) h.bel.size 29
 exact⟨_,d,w7,hr,blk_other h.lr hk h.cb (by decide),blk_other h.lr hk h.pb (by decide),hb w h.bel (Nat.le_refl _),ho,by simp[h.ll],row_other h.lr hk h.gr (by decide),h.gl,row_other h.lr hk h.qr (by decide),h.ql⟩
theorem Lwr.guard {w W:World} {C P:Array Value} {l:Sli Lin} {g q:Sli Tri} (h:Lwr w W C P l g q) (x:Tri) (hn:g.n≤8191) :
  ∃p d w7,(Builtin.append_ #[30,30] 30 #[.slice g.p g.n g.c,.slice (some ⟨W.heap.size,0,none⟩) 1 1]).run Tryz.prog (W.alloc (.cells #[.int .i64 x.a,.int .i64 x.b,.int .i64 x.n] 99))=.ok (.slice p (g.n+1) d) w7∧Lwr w w7 C P l ⟨p,g.n+1,d,g.xs++[x]⟩ q:=by
 obtain⟨b,d,w7,hr,ho,hat,hk,hb,hsz⟩:=app1 Z.elt_guard W w.heap.size g.n g.p g.c g.xs x #[.int .i64 x.a,.int .i64 x.b,.int .i64 x.n] rfl h.gr (by omega) h.bel.size 30
 exact⟨_,d,w7,hr,blk_other h.gr hk h.cb (by decide),blk_other h.gr hk h.pb (by decide),hb w h.bel (Nat.le_refl _),row_other h.gr hk h.lr (by decide),h.ll,ho,by simp[h.gl],row_other h.gr hk h.qr (by decide),h.ql⟩
theorem Lwr.set {w W:World} {C P:Array Value} {l:Sli Lin} {g q:Sli Tri} (h:Lwr w W C P l g q) (x:Tri) (hn:q.n≤8191) :
  ∃p d w7,(Builtin.append_ #[31,31] 31 #[.slice q.p q.n q.c,.slice (some ⟨W.heap.size,0,none⟩) 1 1]).run Tryz.prog (W.alloc (.cells #[.int .i64 x.a,.int .i64 x.b,.int .i64 x.n] 101))=.ok (.slice p (q.n+1) d) w7∧Lwr w w7 C P l g ⟨p,q.n+1,d,q.xs++[x]⟩:=by
 obtain⟨b,d,w7,hr,ho,hat,hk,hb,hsz⟩:=app1 Z.elt_set W w.heap.size q.n q.p q.c q.xs x #[.int .i64 x.a,.int .i64 x.b,.int .i64 x.n] rfl h.qr (by omega) h.bel.size 31
 exact⟨_,d,w7,hr,blk_other h.qr hk h.cb (by decide),blk_other h.qr hk h.pb (by decide),hb w h.bel (Nat.le_refl _),row_other h.qr hk h.lr (by decide),h.ll,row_other h.qr hk h.gr (by decide),h.gl,ho,by simp[h.ql]⟩
def probA (k:Nat):Acd:=⟨0,1,1,false,⟨some ⟨k,0,none⟩,1,1,[⟨0,1⟩]⟩,⟨none,0,0,[]⟩,⟨none,0,0,[]⟩,0,⟨none,0,0,[]⟩,0,0,0,0,0,⟨none,0,0,[]⟩⟩
def ProbP (w:World) (E:Ending) (w':World):Prop:=∃k:Nat,E=.returned (.agg (probA k).arr)∧AcdOk w' (probA k)∧w.heap.size≤k∧Below w.heap.size w w'
set_option linter.unusedSimpArgs false in
set_option maxHeartbeats 4000000 in
theorem probe_any (w:World):Calls Tryz.prog 30 #[] w (ProbP w):=by
 obtain⟨Zr,hZr⟩:∃Z:Array Value,#[.int .i64 0,.int .u64 0,.int .i64 0,.bool false,.slice none 0 0,.slice none 0 0,.slice none 0 0,.int .i64 0,.slice none 0 0,.int .i64 0,.int .i64 0,.int .i64 0,.int .i64 0,.int .u64 0,.slice none 0 0]=Z:=⟨_,rfl⟩
 have hz:Zr.size=15:=by rw[←hZr];rfl
 obtain⟨w1,hw1⟩:∃W,w.alloc (.cells Zr 56)=W:=⟨_,rfl⟩
 obtain⟨w2,hw2⟩:∃W,w1.alloc (.cells #[.int .i64 0,.int .i64 1] 96)=W:=⟨_,rfl⟩
 have hb1:Below w.heap.size w w1:=by rw[←hw1];exact(Below.refl _ _).alloc (Nat.le_refl _) _
 have hb2:Below w.heap.size w w2:=by rw[←hw2];exact hb1.alloc hb1.size _
 have hx1:w1.heap[w.heap.size]?=some (.cells Zr 56 (0,0)):=by rw[←hw1];exact heap_alloc_new _ _
 have hx2:w2.heap[w.heap.size]?=some (.cells Zr 56 (0,0)):=by rw[←hw2,Below.heap_alloc _ _ _ (ac_lt hx1)];exact hx1
 have hl2:w2.heap[w1.heap.size]?=some (.cells #[.int .i64 0,.int .i64 1] 96 (0,0)):=by rw[←hw2];exact heap_alloc_new _ _
 obtain⟨A,hA⟩:∃A,(probA w1.heap.size).arr=A:=⟨_,rfl⟩
 have hAz:A.size=15:=by rw[←hA];rfl
 have HSt:=hide (Z.storeAt_row (P:=Tryz.prog) (c':=A) hx2 (by rw[hAz];exact Z.Tryz.sizeA) (by rw[hz,hAz]) (by rw[←hA];exact Z.Acd.ones _))
 have HRw:=hide (setRow_heap _ _ _ A _ _ hx2)
 have HBt:=hide (show Tryz.prog.built 56 [(0,.agg #[.int .i64 0,.int .u64 1]),(1,.int .i64 1),(3,.slice (some ⟨w1.heap.size,0,none⟩) 1 1)]=some A by rw[←hA];kernel_rfl)
 have HOk:Hid (AcdOk (w2.setRow w.heap.size A) (probA w1.heap.size)):=by
  refine⟨⟨rfl,by show 1≤4194304;omega,?_⟩,sl_nil _ _ _,sl_nil _ _ _,sl_nil _ _ _,sl_nil _ _ _⟩
  have hl3:(w2.setRow w.heap.size A).heap[w1.heap.size]?=some (.cells #[.int .i64 0,.int .i64 1] 96 (0,0)):=by rw[setRow_other _ _ _ _ (by have:=ac_lt hx1;omega)];exact hl2
  refine Or.inr ⟨_,0,rfl,ac_lt hl3,fun i r hr j v hv=>?_⟩
  match i,hr with
  | 0,hr =>
   cases hr
   rw[cell_of_row _ _ _ _ _ _ hl3]
   match j,hv with
   | 0,hv=>exact hv
   | 1,hv=>exact hv
   | j+2,hv=>simp[linc]at hv
  | i+1,hr=>simp[probA]at hr
 have HBe:Hid (Below w.heap.size w (w2.setRow w.heap.size A)):=below_setRow hb2 (Nat.le_refl _) A
 have HAz:=hide hAz
 have HA:=hide hA
 have HK:=hide (show w.heap.size≤w1.heap.size from hb1.size)
 have HZr:=hide hZr
 have HW1:=hide hw1
 have HW2:=hide hw2
 clear hZr hz hw1 hw2 hb1 hb2 hx1 hx2 hl2 hA hAz
 go_enter Tryz.func30,Tryz.ntmps30
 go_upto_region 1 with (fail)
 rw[HZr.out,HW1.out]
 go_wp2_with (
  first
  | ((with_reducible show wpList _ _ _ (⟨_,.build 56 _,_,_,_,_⟩ :: _) _ _);rw[HW2.out];refine Z.lp_built rfl 56 _ rfl [(0,.agg #[.int .i64 0,.int .u64 1]),(1,.int .i64 1),(3,.slice (some ⟨w1.heap.size,0,none⟩) 1 1)] rfl A HBt.out ?_)
  | ((with_reducible show wpList _ _ _ (⟨_,.store 56 (.tmp 0) _,_,_,_,_⟩ :: _) _ _);refine Z.lp_store (t:=56) (x:=.tmp 0) (some ⟨w.heap.size,0,none⟩) (.agg A) rfl rfl HSt.out ?_)
  | fail)
 refine bodyPost_ret (results_cell_row rfl _ _ (w.heap.size) 56 A (0,0) _ rfl HRw.out Tryz.underlying56 rfl (by rw[HAz.out];exact Z.Tryz.sizeA)) rfl ?_
 exact⟨w1.heap.size,by rw[HA.out],HOk.out,HK.out,HBe.out⟩
end Go.Proofs.YtfbegfapoijbnaaGreat
namespace Go.Proofs.YtfbegfapoijbnaaGreat
open Go.RowKit Go.Sort
open Z (Sli SlOk Elt Acd AcdOk AcOwn Ctr ctc)
def LawP (w:World) (s:Sta) (E:Ending) (w':World):Prop :=
 ∃(l:Sli Lin) (g q:Sli Tri),E=.returned (.tuple #[.slice l.p l.n l.c,.slice g.p g.n g.c,.slice q.p q.n q.c])∧(SlOk w' 2 linc l∧l.n≤l.c∧l.n≤8191)∧(SlOk w' 3 tric g∧g.n≤g.c∧g.n≤5000)∧(SlOk w' 3 tric q∧q.n≤q.c∧q.n≤5000)∧(∀x∈l.xs,LinWf x∧RgL s x)∧(∀x∈g.xs,RgG s x)∧(∀x∈q.xs,RgP s x)∧Below w.heap.size w w'
set_option linter.unusedSimpArgs false in
set_option linter.unusedVariables false in
set_option maxHeartbeats 4000000 in
theorem lawful_any (w:World) (c:Cfg) (cs:List Ctr) (hcf:CfgOk w c cs) (h1t:1≤c.tills) (s:Sta) (hsh:Shp c s) (P:Array Value) (L:Sli Lin) (G Q:Sli Tri) (hL:SlOk w 2 linc L) (hG:SlOk w 3 tric G) (hQ:SlOk w 3 tric Q) (hGc:G.n≤G.c) (hQc:Q.n≤Q.c) (hP1:P[11]?=some (.slice L.p L.n L.c)) (hP2:P[12]?=some (.slice G.p G.n G.c)) (hP3:P[13]?=some (.slice Q.p Q.n Q.c)) :
  Calls Tryz.prog 8 #[.agg #[.int .i64 c.tills,.slice c.cp c.cl c.cc,.slice c.pp c.pl c.pc,.int .i64 c.lease,.int .i64 c.watch,.int .i64 c.beat,.int .i64 c.window,.int .i64 c.cap,.int .i64 c.flight],.agg P] w (LawP w s):=by
 obtain⟨w2,hw2,hb2,hx2,hy2⟩:=box_two w #[.int .i64 c.tills,.slice c.cp c.cl c.cc,.slice c.pp c.pl c.pc,.int .i64 c.lease,.int .i64 c.watch,.int .i64 c.beat,.int .i64 c.window,.int .i64 c.cap,.int .i64 c.flight] 37 33 P
 have HW2:=hide hw2
 have HB2:=hide hb2
 have HCf:=hide (hcf.below hb2)
 have HPc:Hid (∀W:World,W.heap[w.heap.size+1]?=some (.cells P 33 (0,0))→W.cell? ⟨w.heap.size+1,11,none⟩=some (.slice L.p L.n L.c)∧W.cell? ⟨w.heap.size+1,12,none⟩=some (.slice G.p G.n G.c)∧W.cell? ⟨w.heap.size+1,13,none⟩=some (.slice Q.p Q.n Q.c)):=fun W h=>⟨by rw[cell_of_row _ _ _ _ _ _ h];exact hP1,by rw[cell_of_row _ _ _ _ _ _ h];exact hP2,by rw[cell_of_row _ _ _ _ _ _ h];exact hP3⟩
 have HI0:Hid (Lwr w w2 #[.int .i64 c.tills,.slice c.cp c.cl c.cc,.slice c.pp c.pl c.pc,.int .i64 c.lease,.int .i64 c.watch,.int .i64 c.beat,.int .i64 c.window,.int .i64 c.cap,.int .i64 c.flight] P ⟨none,0,0,[]⟩ ⟨none,0,0,[]⟩ ⟨none,0,0,[]⟩):=⟨hx2,hy2,hb2,World.ownsRow_nil _ _ _ _,rfl,World.ownsRow_nil _ _ _ _,rfl,World.ownsRow_nil _ _ _ _,rfl⟩
 have hLm:L.n≤4194304:=hL.most
 have hGm:G.n≤4194304:=hG.most
 have hQm:Q.n≤4194304:=hQ.most
 have HL:=hide hL
 have HG:=hide hG
 have HQ:=hide hQ
 have HSh:=hide hsh
 have HCl:=hide hcf.cl
 clear hw2 hb2 hx2 hy2 hcf hL hG hQ hP1 hP2 hP3 hsh
 go_enter Tryz.func8,Tryz.ntmps8
 go_upto_region 1 with (fail)
 rw[HW2.out]
 go_wp2
 go_loopw [7,10] (fun lv iv wr=>∃(i:Nat) (l:Sli Lin),i≤L.n∧iv=.int .i64 i∧lv=.slice l.p l.n l.c∧Hid (Lwr w wr #[.int .i64 c.tills,.slice c.cp c.cl c.cc,.slice c.pp c.pl c.pc,.int .i64 c.lease,.int .i64 c.watch,.int .i64 c.beat,.int .i64 c.window,.int .i64 c.cap,.int .i64 c.flight] P l ⟨none,0,0,[]⟩ ⟨none,0,0,[]⟩∧(∀x∈l.xs,LinWf x∧RgL s x)∧l.n≤8191)) (fun _ iv _=>L.n - (intOf iv).toNat)
 case atStart=>exact⟨0,⟨none,0,0,[]⟩,Nat.zero_le _,rfl,rfl,HI0.out,fun _ h=>(by cases h),Nat.zero_le _⟩
 case round =>
  clear HI0
  obtain⟨i,l,hi,rfl,rfl,HI⟩:=hrel
  obtain⟨p11,p12,p13⟩:=HPc.out wr HI.out.1.pb
  obtain⟨-,d1,-,-,-,-,-,-,-⟩:=ac9 HI.out.1.cb
  have hlm:=HI.out.2.2
  obtain⟨B,hB⟩:∃B:Bool,B=(decide (i<L.n) && decide (l.n<8191)):=⟨_,rfl⟩
  go_upto_region 5 with (fail)
  go_cut [25] from 16 to 62 (fun sv wc=>sv=.bool B∧Hid (wc=wr))
  case first =>
   by_cases h1:i<L.n
   ·have h1i:(i:Int)<(L.n:Int):=by omega
    by_cases h2:l.n<8191
    ·have h2i:(l.n:Int)<8191:=by omega
     have hBt:B=true:=by rw[hB];simp[h1,h2]
     clear hB
     go_wp2
     go_meet
     case rel=>exact⟨by rw[hBt],rfl⟩
    ·have h2i:¬(l.n:Int)<8191:=by omega
     have hBt:B=false:=by rw[hB];simp[h2]
     clear hB
     go_wp2
     go_meet
     case rel=>exact⟨by rw[hBt],rfl⟩
   ·have h1i:¬(i:Int)<(L.n:Int):=by omega
    have hBt:B=false:=by rw[hB];simp[h1]
    clear hB
    go_wp2
    go_meet
    case rel=>exact⟨by rw[hBt],rfl⟩
  case rest =>
   obtain⟨rfl,hwc⟩:=hcut
   rw[show wc=wr from hwc.out]
   clear hwc wc
   by_cases hgo:i<L.n∧l.n<8191
   ·obtain⟨h1,h2⟩:=hgo
    have hBt:B=true:=by rw[hB];simp[h1,h2]
    subst hBt
    clear hB
    have h1i:(i:Int)<(L.n:Int):=by omega
    have i0:(0:Int)≤(i:Int):=by omega
    obtain⟨x,hx⟩:∃x,L.xs[i]?=some x:=⟨_,List.getElem?_eq_getElem (by rw[HL.out.len];exact h1)⟩
    obtain⟨lb,lo,el,hlb,hlc⟩:=(HL.out.cel.below HI.out.1.bel).get (i:=i) (r:=linc x) (by rw[List.getElem?_map,hx];rfl)
    have x0:=hlc 0 _ rfl
    have x1:=hlc 1 _ rfl
    rw[Nat.add_zero]at x0
    rw[el]at p11
    obtain⟨xc,xn⟩:=x
    dsimp only at x0 x1
    have hA:Below wr.heap.size wr (wr.alloc (.cells #[.int .i64 xc,.int .i64 xn] 96)):=(Below.refl _ _).alloc (Nat.le_refl _) _
    have HIa:Hid (Lwr w (wr.alloc (.cells #[.int .i64 xc,.int .i64 xn] 96)) #[.int .i64 c.tills,.slice c.cp c.cl c.cc,.slice c.pp c.pl c.pc,.int .i64 c.lease,.int .i64 c.watch,.int .i64 c.beat,.int .i64 c.window,.int .i64 c.cap,.int .i64 c.flight] P l ⟨none,0,0,[]⟩ ⟨none,0,0,[]⟩∧(∀x∈l.xs,LinWf x∧RgL s x)∧l.n≤8191):=⟨HI.out.1.below hA,HI.out.2.1,hlm⟩
    obtain⟨W1,hW1⟩:∃W,wr.alloc (.cells #[.int .i64 xc,.int .i64 xn] 96)=W:=⟨_,rfl⟩
    rw[hW1]at HIa
    obtain⟨-,d1,-,-,-,-,-,-,-⟩:=ac9 HIa.out.1.cb
    have y0:W1.cell? ⟨wr.heap.size,0,none⟩=some (.int .i64 xc):=by rw[←hW1,cell_of_row _ _ _ _ _ _ (heap_alloc_new _ _)];rfl
    have y1:W1.cell? ⟨wr.heap.size,1,none⟩=some (.int .i64 xn):=by rw[←hW1,cell_of_row _ _ _ _ _ _ (heap_alloc_new _ _)];rfl
    have HW1:=hide hW1
    clear hW1 hA hlc el hlb hx
    go_upto_region 8 with (fail)
    rw[HW1.out]
    clear x0 x1 p11 p12 p13
    by_cases a1:0≤xc
    ·skip
     by_cases a2:xc<(c.cl:Int)
     ·skip
      by_cases a3:¬xn=0
      ·skip
       have a3b:((xn:Int) != 0)=true:=by simp[a3]
       by_cases a4 : -1099511627776≤xn
       ·skip
        by_cases a5:xn≤1099511627776
        ·skip
         obtain⟨p,e,w7,hr,hl7⟩:=HIa.out.1.line ⟨xc,xn⟩ (by omega)
         have HR:=hide hr
         have HL7:Hid (Lwr w w7 #[.int .i64 c.tills,.slice c.cp c.cl c.cc,.slice c.pp c.pl c.pc,.int .i64 c.lease,.int .i64 c.watch,.int .i64 c.beat,.int .i64 c.window,.int .i64 c.cap,.int .i64 c.flight] P ⟨p,l.n+1,e,l.xs++[⟨xc,xn⟩]⟩ ⟨none,0,0,[]⟩ ⟨none,0,0,[]⟩∧(∀x∈l.xs++[(⟨xc,xn⟩:Lin)],LinWf x∧RgL s x)∧l.n+1≤8191):=by
          refine⟨hl7,fun x hx=>?_,by omega⟩
          rcases mem_snoc hx with hx | rfl
          ·exact HI.out.2.1 x hx
          ·have h1:=HSh.out.pn
           have h2:=HCl.out
           exact⟨⟨lwf_of (by show _≤xc∧xc≤_;omega),lwf_of (by show _≤xn∧xn≤_;omega)⟩,xc.toNat,by show xc=_;omega,by omega⟩
         clear hr hl7
         go_wp2_with (at_builtin;refine Z.lp_append (.slice l.p l.n l.c) (.slice (some ⟨W1.heap.size,0,none⟩) 1 1) rfl rfl ⟨_,w7,HR.out,?_⟩)
         go_roundw
         case rel=>exact⟨i+1,⟨p,l.n+1,e,l.xs++[⟨xc,xn⟩]⟩,by omega,by go_num,rfl,HL7⟩
         case measure=>simp[intOf];omega
        ·skip
         go_wp2
         go_roundw
         case rel=>exact⟨i+1,l,by omega,by go_num,rfl,HIa⟩
         case measure=>simp[intOf];omega
       ·skip
        go_wp2
        go_roundw
        case rel=>exact⟨i+1,l,by omega,by go_num,rfl,HIa⟩
        case measure=>simp[intOf];omega
      ·skip
       have a3c:xn=0:=Classical.byContradiction a3
       have a3b:((xn:Int) != 0)=false:=by simp[a3c]
       clear a3 a3c
       go_wp2
       go_roundw
       case rel=>exact⟨i+1,l,by omega,by go_num,rfl,HIa⟩
       case measure=>simp[intOf];omega
     ·skip
      go_wp2
      go_roundw
      case rel=>exact⟨i+1,l,by omega,by go_num,rfl,HIa⟩
      case measure=>simp[intOf];omega
    ·skip
     go_wp2
     go_roundw
     case rel=>exact⟨i+1,l,by omega,by go_num,rfl,HIa⟩
     case measure=>simp[intOf];omega
   ·have hBf:B=false:=by rw[hB];simp only[Bool.and_eq_false_iff,decide_eq_false_iff_not];omega
    subst hBf
    clear hB p11 p12 p13 d1
    have HLl:Hid (∀x∈l.xs,LinWf x∧RgL s x):=HI.out.2.1
    have hllm:l.n≤8191:=hlm
    go_wp2
    go_loopw [8,12] (fun lv iv wr=>∃(i:Nat) (v:Sli Tri),i≤G.n∧iv=.int .i64 i∧lv=.slice v.p v.n v.c∧Hid (Lwr w wr #[.int .i64 c.tills,.slice c.cp c.cl c.cc,.slice c.pp c.pl c.pc,.int .i64 c.lease,.int .i64 c.watch,.int .i64 c.beat,.int .i64 c.window,.int .i64 c.cap,.int .i64 c.flight] P l v ⟨none,0,0,[]⟩∧(∀x∈v.xs,RgG s x)∧v.n≤5000)) (fun _ iv _=>G.n - (intOf iv).toNat)
    case atStart=>exact⟨0,⟨none,0,0,[]⟩,Nat.zero_le _,rfl,rfl,HI.out.1,fun _ h=>(by cases h),Nat.zero_le _⟩
    case round =>
     obtain⟨i,v,hi,rfl,rfl,HI⟩:=hrel
     obtain⟨p11,p12,p13⟩:=HPc.out wr HI.out.1.pb
     have hlm:=HI.out.2.2
     obtain⟨B,hB⟩:∃B:Bool,B=(decide (i<G.n) && decide (v.n<5000)):=⟨_,rfl⟩
     go_upto_region 11 with (fail)
     go_cut [72] from 63 to 94 (fun sv wc=>sv=.bool B∧Hid (wc=wr))
     case first =>
      by_cases h1:i<G.n
      ·have h1i:(i:Int)<(G.n:Int):=by omega
       by_cases h2:v.n<5000
       ·have h2i:(v.n:Int)<5000:=by omega
        have hBt:B=true:=by rw[hB];simp[h1,h2]
        clear hB
        go_wp2
        go_meet
        case rel=>exact⟨by rw[hBt],rfl⟩
       ·have h2i:¬(v.n:Int)<5000:=by omega
        have hBt:B=false:=by rw[hB];simp[h2]
        clear hB
        go_wp2
        go_meet
        case rel=>exact⟨by rw[hBt],rfl⟩
      ·have h1i:¬(i:Int)<(G.n:Int):=by omega
       have hBt:B=false:=by rw[hB];simp[h1]
       clear hB
       go_wp2
       go_meet
       case rel=>exact⟨by rw[hBt],rfl⟩
     case rest =>
      obtain⟨rfl,hwc⟩:=hcut
      rw[show wc=wr from hwc.out]
      clear hwc wc
      by_cases hgo:i<G.n∧v.n<5000
      ·obtain⟨h1,h2⟩:=hgo
       have hBt:B=true:=by rw[hB];simp[h1,h2]
       subst hBt
       clear hB
       have h1i:(i:Int)<(G.n:Int):=by omega
       have i0:(0:Int)≤(i:Int):=by omega
       obtain⟨x,hx⟩:∃x,G.xs[i]?=some x:=⟨_,List.getElem?_eq_getElem (by rw[HG.out.len];exact h1)⟩
       have HPr:=hide (probe_any wr)
       go_upto_region 14 with (first | (go_at_call 30;refine HPr.out.mono ?_;rintro e1 w1 ⟨kk,rfl,hbo,hkk,hb1⟩;have HBo:=hide hbo;have HB1:=hide hb1;obtain⟨BA,hBA⟩:∃B:Array Value,(probA kk).arr=B:=⟨_,rfl⟩;rw[hBA];have HBe:=hide hBA;have HBz:Hid (BA.size=15):=(by show _=_;rw[←hBA];rfl);have HBn:Hid (BA.all (·.oneCell')=true):=(by show _=_;rw[←hBA];exact Z.Acd.ones _);clear hbo hb1 hBA hkk) | ((with_reducible show wpList _ _ _ (⟨_,.store 56 (.tmp 13) _,_,_,_,_⟩ :: _) _ _);refine Z.lp_store (t:=56) (x:=.tmp 13) (some ⟨w1.heap.size,0,none⟩) (.agg BA) rfl rfl (run_storeAt_new (P:=Tryz.prog) w1 56 _ BA (by rw[HBz.out];exact Z.Tryz.sizeA) (by rw[HBz.out];rfl) HBn.out) ?_) | fail)
       dsimp only[Act.put]
       have hT3:=heap_alloc_new w1 (.cells BA 56)
       have hb3:Below w1.heap.size w1 (w1.alloc (.cells BA 56)):=(Below.refl _ _).alloc (Nat.le_refl _) _
       obtain⟨w3,hw3⟩:∃W,w1.alloc (.cells BA 56)=W:=⟨_,rfl⟩
       rw[hw3]at hT3 hb3 ⊢
       obtain⟨ab,hab⟩:∃k,w1.heap.size=k:=⟨_,rfl⟩
       have hlab:wr.heap.size≤ab:=by rw[←hab];exact HB1.out.size
       rw[hab]at hT3 ⊢
       have HB3:Hid (Below wr.heap.size wr w3):=HB1.out.trans (hb3.mono HB1.out.size)
       have HT3:=hide hT3
       have HB13:=hide hb3
       have HAB:=hide hab
       clear hw3 hab hT3 hb3 HPr
       have HI3:=HI.out.1.below HB3.out
       obtain⟨p11,p12,p13⟩:=HPc.out w3 HI3.pb
       obtain⟨gb,go,eg,hgb,hgc⟩:=(HG.out.cel.below HI3.bel).get (i:=i) (r:=tric x) (by rw[List.getElem?_map,hx];rfl)
       rw[eg]at p12
       have f5:=frozen_of_row w3 ab 5 _ _ HT3.out
       have u5:∃u,w3.cell? ⟨ab,5,none⟩=some u:=⟨_,by rw[cell_of_row _ _ _ _ _ _ HT3.out];exact Array.getElem?_eq_getElem (by rw[HBz.out];omega)⟩
       obtain⟨u5v,u5⟩:=u5
       have HX3:=hide hx
       have HGc:=hide (And.intro eg hgc)
       clear eg hgc hx HI3
       have k1:(i:Int)+1≤(G.c:Int):=by omega
       have k2:¬G.c=i:=by omega
       go_upto_region 15 with (fail)
       obtain⟨w4,hw4⟩:∃W,w3.setCell ⟨ab,5,none⟩ (.slice (some ⟨gb,go+i*3,none⟩) 1 (G.c - i))=W:=⟨_,rfl⟩
       have HB4:Hid (Below wr.heap.size wr w4):=by show Below _ _ _;rw[←hw4];exact HB3.out.setCell (p:=⟨ab,5,none⟩) hlab _
       have HB14:Hid (Below w1.heap.size w1 w4):=by show Below _ _ _;rw[←hw4];exact HB13.out.setCell (p:=⟨ab,5,none⟩) (by rw[HAB.out];exact Nat.le_refl _) _
       have HT4:Hid (w4.heap[ab]?=some (.cells (BA.setIfInBounds 5 (.slice (some ⟨gb,go+i*3,none⟩) 1 (G.c - i))) 56 (0,0))):=by show _=_;rw[←hw4];exact heap_setCell_same _ _ _ _ _ _ HT3.out
       rw[hw4]
       clear hw4 f5 u5 u5v p11 p12 p13
       obtain⟨bb,hbb⟩:∃b:Acd,({ probA kk with guards:=⟨some ⟨gb,go+i*3,none⟩,1,G.c - i,[x]⟩ } : Acd)=b:=⟨_,rfl⟩
       have hbx:bb.guards.xs=[x]:=by rw[←hbb]
       have HAr:Hid (BA.setIfInBounds 5 (.slice (some ⟨gb,go+i*3,none⟩) 1 (G.c - i))=bb.arr):=by show _=_;rw[←HBe.out,←hbb];rfl
       rw[HAr.out]at HT4
       have HI4:Hid (Lwr w w4 #[.int .i64 c.tills,.slice c.cp c.cl c.cc,.slice c.pp c.pl c.pc,.int .i64 c.lease,.int .i64 c.watch,.int .i64 c.beat,.int .i64 c.window,.int .i64 c.cap,.int .i64 c.flight] P l v ⟨none,0,0,[]⟩∧(∀x∈v.xs,RgG s x)∧v.n≤5000):=⟨HI.out.1.below HB4.out,HI.out.2.1,hlm⟩
       have hgb4:Cel w4 (some ⟨gb,go+i*3,none⟩) 3 ([x].map tric):=by
        obtain⟨gb2,go2,eg2,hgb2,hgc2⟩:=(HG.out.cel.below HI4.out.1.bel).get (i:=i) (r:=tric x) (by rw[List.getElem?_map,HX3.out];rfl)
        rw[HGc.out.1]at eg2;cases eg2
        refine Or.inr ⟨_,_,rfl,hgb2,fun i2 r hr j u hu=>?_⟩
        match i2,hr with
        | 0,hr=>cases hr;simpa using hgc2 j u hu
        | i2+1,hr=>simp at hr
       have HOk4:Hid (AcdOk w4 bb):=by
        show AcdOk _ _
        have h1:=HBo.out.below HB14.out
        rw[←hbb]
        exact⟨h1.lines,⟨rfl,by show 1≤4194304;omega,hgb4⟩,h1.sets,h1.other,h1.rights⟩
       obtain⟨V,hV⟩:∃V,ChkV c bb V:=chk_some c bb
       have HV:=hide hV
       have HCk2:Hid (Calls Tryz.prog 25 #[.agg #[.int .i64 c.tills,.slice c.cp c.cl c.cc,.slice c.pp c.pl c.pc,.int .i64 c.lease,.int .i64 c.watch,.int .i64 c.beat,.int .i64 c.window,.int .i64 c.cap,.int .i64 c.flight],.agg bb.arr] w4 fun e w'=>e=.returned (.int .i64 V)∧Below w4.heap.size w4 w'):=(show Calls Tryz.prog 25 #[.agg #[.int .i64 c.tills,.slice c.cp c.cl c.cc,.slice c.pp c.pl c.pc,.int .i64 c.lease,.int .i64 c.watch,.int .i64 c.beat,.int .i64 c.window,.int .i64 c.cap,.int .i64 c.flight],.agg bb.arr] w4 (fun e w'=>∃V:Int,e=.returned (.int .i64 V)∧ChkV c bb V∧Below w4.heap.size w4 w') from rcheck_any w4 c bb HOk4.out HCf.out.cl HCf.out.pl HCf.out.tills).mono (fun _ _ ⟨V2,q1,q2,q3⟩=>⟨by rw[q1,chk_one q2 hV],q3⟩)
       obtain⟨B2,hB2⟩:∃X:Array Value,bb.arr=X:=⟨_,rfl⟩
       have HB2z:Hid (B2.size=15):=by show _=_;rw[←hB2];rfl
       rw[hB2]at HCk2 HT4
       have HLb:=hide (Z.loadAt_row (P:=Tryz.prog) (ty:=56) HT4.out Tryz.underlying56 rfl (by rw[HB2z.out];exact Z.Tryz.sizeA))
       have HBx:=hide hbx
       obtain⟨d0,d1,d2,d3,d4,d5,d6,d7,d8⟩:=ac9 HI4.out.1.cb
       clear hbb hbx hV hB2 hgb4 HAr
       by_cases hV:V=0
       ·subst hV
        go_upto_region 16 with (first | (go_at_call 25;refine HCk2.out.mono ?_;rintro e1 w5 ⟨rfl,hb5⟩;have HB5:=hide hb5;clear hb5 d0 d1 d2 d3 d4 d5 d6 d7 d8) | ((with_reducible show wpList _ _ _ (⟨_,.load 56 (.tmp 13),_,_,_,_⟩ :: _) _ _);refine Z.lp_load ab 0 B2 rfl HLb.out ?_) | fail)
        have HI5:Hid (Lwr w w5 #[.int .i64 c.tills,.slice c.cp c.cl c.cc,.slice c.pp c.pl c.pc,.int .i64 c.lease,.int .i64 c.watch,.int .i64 c.beat,.int .i64 c.window,.int .i64 c.cap,.int .i64 c.flight] P l v ⟨none,0,0,[]⟩∧(∀x∈v.xs,RgG s x)∧v.n≤5000):=⟨HI4.out.1.below HB5.out,HI.out.2.1,hlm⟩
        obtain⟨p11,p12,p13⟩:=HPc.out w5 HI5.out.1.pb
        have hrg:=chk_rg HV.out HSh.out HCl.out
        have HRx:Hid (RgG s x):=hrg.act.guards x (by rw[HBx.out];exact List.mem_singleton.2 rfl)
        obtain⟨gb2,go2,eg2,hgb2,hgc2⟩:=(HG.out.cel.below HI5.out.1.bel).get (i:=i) (r:=tric x) (by rw[List.getElem?_map,HX3.out];rfl)
        rw[HGc.out.1]at eg2;cases eg2
        obtain⟨xa,xb,xn⟩:=x
        have y0:=hgc2 0 _ rfl
        have y1:=hgc2 1 _ rfl
        have y2:=hgc2 2 _ rfl
        rw[Nat.add_zero]at y0
        dsimp only at y0 y1 y2
        rw[HGc.out.1]at p12
        obtain⟨p,e,w7,hr,hl7⟩:=HI5.out.1.guard ⟨xa,xb,xn⟩ (by omega)
        have HR:=hide hr
        have HL7:Hid (Lwr w w7 #[.int .i64 c.tills,.slice c.cp c.cl c.cc,.slice c.pp c.pl c.pc,.int .i64 c.lease,.int .i64 c.watch,.int .i64 c.beat,.int .i64 c.window,.int .i64 c.cap,.int .i64 c.flight] P l ⟨p,v.n+1,e,v.xs++[⟨xa,xb,xn⟩]⟩ ⟨none,0,0,[]⟩∧(∀x∈v.xs++[(⟨xa,xb,xn⟩:Tri)],RgG s x)∧v.n+1≤5000):=by
         refine⟨hl7,fun x hx=>?_,by omega⟩
         rcases mem_snoc hx with hx | rfl
         ·exact HI.out.2.1 x hx
         ·exact HRx.out
        clear hr hl7 hgb2 hgc2 hrg
        go_wp2_with (at_builtin;refine Z.lp_append (.slice v.p v.n v.c) (.slice (some ⟨w5.heap.size,0,none⟩) 1 1) rfl rfl ⟨_,w7,HR.out,?_⟩)
        go_roundw
        case rel=>exact⟨i+1,⟨p,v.n+1,e,v.xs++[⟨xa,xb,xn⟩]⟩,by omega,by go_num,rfl,HL7⟩
        case measure=>simp[intOf];omega
       ·have hV':((V:Int) == 0)=false:=by simp[hV]
        clear hV
        go_upto_region 12 with (first | (go_at_call 25;refine HCk2.out.mono ?_;rintro e1 w5 ⟨rfl,hb5⟩;have HB5:=hide hb5;clear hb5 d0 d1 d2 d3 d4 d5 d6 d7 d8) | ((with_reducible show wpList _ _ _ (⟨_,.load 56 (.tmp 13),_,_,_,_⟩ :: _) _ _);refine Z.lp_load ab 0 B2 rfl HLb.out ?_) | fail)
        have HI5:Hid (Lwr w w5 #[.int .i64 c.tills,.slice c.cp c.cl c.cc,.slice c.pp c.pl c.pc,.int .i64 c.lease,.int .i64 c.watch,.int .i64 c.beat,.int .i64 c.window,.int .i64 c.cap,.int .i64 c.flight] P l v ⟨none,0,0,[]⟩∧(∀x∈v.xs,RgG s x)∧v.n≤5000):=⟨HI4.out.1.below HB5.out,HI.out.2.1,hlm⟩
        go_wp2
        go_roundw
        case rel=>exact⟨i+1,v,by omega,by go_num,rfl,HI5⟩
        case measure=>simp[intOf];omega
      ·have hBf:B=false:=by rw[hB];simp only[Bool.and_eq_false_iff,decide_eq_false_iff_not];omega
       subst hBf
       clear hB p11 p12 p13
       obtain⟨g,hgv⟩:∃g:Sli Tri,g=v:=⟨_,rfl⟩
       subst hgv
       have HLg:Hid (∀x∈g.xs,RgG s x):=HI.out.2.1
       have hgm:g.n≤5000:=hlm
       go_wp2
       go_loopw [9,14] (fun lv iv wr=>∃(i:Nat) (v:Sli Tri),i≤Q.n∧iv=.int .i64 i∧lv=.slice v.p v.n v.c∧Hid (Lwr w wr #[.int .i64 c.tills,.slice c.cp c.cl c.cc,.slice c.pp c.pl c.pc,.int .i64 c.lease,.int .i64 c.watch,.int .i64 c.beat,.int .i64 c.window,.int .i64 c.cap,.int .i64 c.flight] P l g v∧(∀x∈v.xs,RgP s x)∧v.n≤5000)) (fun _ iv _=>Q.n - (intOf iv).toNat)
       case atStart=>exact⟨0,⟨none,0,0,[]⟩,Nat.zero_le _,rfl,rfl,HI.out.1,fun _ h=>(by cases h),Nat.zero_le _⟩
       case round =>
        obtain⟨i,v,hi,rfl,rfl,HI⟩:=hrel
        obtain⟨p11,p12,p13⟩:=HPc.out wr HI.out.1.pb
        have hlm:=HI.out.2.2
        obtain⟨B,hB⟩:∃B:Bool,B=(decide (i<Q.n) && decide (v.n<5000)):=⟨_,rfl⟩
        go_upto_region 18 with (fail)
        go_cut [104] from 95 to 126 (fun sv wc=>sv=.bool B∧Hid (wc=wr))
        case first =>
         by_cases h1:i<Q.n
         ·have h1i:(i:Int)<(Q.n:Int):=by omega
          by_cases h2:v.n<5000
          ·have h2i:(v.n:Int)<5000:=by omega
           have hBt:B=true:=by rw[hB];simp[h1,h2]
           clear hB
           go_wp2
           go_meet
           case rel=>exact⟨by rw[hBt],rfl⟩
          ·have h2i:¬(v.n:Int)<5000:=by omega
           have hBt:B=false:=by rw[hB];simp[h2]
           clear hB
           go_wp2
           go_meet
           case rel=>exact⟨by rw[hBt],rfl⟩
         ·have h1i:¬(i:Int)<(Q.n:Int):=by omega
          have hBt:B=false:=by rw[hB];simp[h1]
          clear hB
          go_wp2
          go_meet
          case rel=>exact⟨by rw[hBt],rfl⟩
        case rest =>
         obtain⟨rfl,hwc⟩:=hcut
         rw[show wc=wr from hwc.out]
         clear hwc wc
         by_cases hgo:i<Q.n∧v.n<5000
         ·obtain⟨h1,h2⟩:=hgo
          have hBt:B=true:=by rw[hB];simp[h1,h2]
          subst hBt
          clear hB
          have h1i:(i:Int)<(Q.n:Int):=by omega
          have i0:(0:Int)≤(i:Int):=by omega
          obtain⟨x,hx⟩:∃x,Q.xs[i]?=some x:=⟨_,List.getElem?_eq_getElem (by rw[HQ.out.len];exact h1)⟩
          have HPr:=hide (probe_any wr)
          go_upto_region 21 with (first | (go_at_call 30;refine HPr.out.mono ?_;rintro e1 w1 ⟨kk,rfl,hbo,hkk,hb1⟩;have HBo:=hide hbo;have HB1:=hide hb1;obtain⟨BA,hBA⟩:∃B:Array Value,(probA kk).arr=B:=⟨_,rfl⟩;rw[hBA];have HBe:=hide hBA;have HBz:Hid (BA.size=15):=(by show _=_;rw[←hBA];rfl);have HBn:Hid (BA.all (·.oneCell')=true):=(by show _=_;rw[←hBA];exact Z.Acd.ones _);clear hbo hb1 hBA hkk) | ((with_reducible show wpList _ _ _ (⟨_,.store 56 (.tmp 15) _,_,_,_,_⟩ :: _) _ _);refine Z.lp_store (t:=56) (x:=.tmp 15) (some ⟨w1.heap.size,0,none⟩) (.agg BA) rfl rfl (run_storeAt_new (P:=Tryz.prog) w1 56 _ BA (by rw[HBz.out];exact Z.Tryz.sizeA) (by rw[HBz.out];rfl) HBn.out) ?_) | fail)
          dsimp only[Act.put]
          have hT3:=heap_alloc_new w1 (.cells BA 56)
          have hb3:Below w1.heap.size w1 (w1.alloc (.cells BA 56)):=(Below.refl _ _).alloc (Nat.le_refl _) _
          obtain⟨w3,hw3⟩:∃W,w1.alloc (.cells BA 56)=W:=⟨_,rfl⟩
          rw[hw3]at hT3 hb3 ⊢
          obtain⟨ab,hab⟩:∃k,w1.heap.size=k:=⟨_,rfl⟩
          have hlab:wr.heap.size≤ab:=by rw[←hab];exact HB1.out.size
          rw[hab]at hT3 ⊢
          have HB3:Hid (Below wr.heap.size wr w3):=HB1.out.trans (hb3.mono HB1.out.size)
          have HT3:=hide hT3
          have HB13:=hide hb3
          have HAB:=hide hab
          clear hw3 hab hT3 hb3 HPr
          have HI3:=HI.out.1.below HB3.out
          obtain⟨p11,p12,p13⟩:=HPc.out w3 HI3.pb
          obtain⟨gb,go,eg,hgb,hgc⟩:=(HQ.out.cel.below HI3.bel).get (i:=i) (r:=tric x) (by rw[List.getElem?_map,hx];rfl)
          rw[eg]at p13
          have f5:=frozen_of_row w3 ab 6 _ _ HT3.out
          have u5:∃u,w3.cell? ⟨ab,6,none⟩=some u:=⟨_,by rw[cell_of_row _ _ _ _ _ _ HT3.out];exact Array.getElem?_eq_getElem (by rw[HBz.out];omega)⟩
          obtain⟨u5v,u5⟩:=u5
          have HX3:=hide hx
          have HGc:=hide (And.intro eg hgc)
          clear eg hgc hx HI3
          have k1:(i:Int)+1≤(Q.c:Int):=by omega
          have k2:¬Q.c=i:=by omega
          go_upto_region 22 with (fail)
          obtain⟨w4,hw4⟩:∃W,w3.setCell ⟨ab,6,none⟩ (.slice (some ⟨gb,go+i*3,none⟩) 1 (Q.c - i))=W:=⟨_,rfl⟩
          have HB4:Hid (Below wr.heap.size wr w4):=by show Below _ _ _;rw[←hw4];exact HB3.out.setCell (p:=⟨ab,6,none⟩) hlab _
          have HB14:Hid (Below w1.heap.size w1 w4):=by show Below _ _ _;rw[←hw4];exact HB13.out.setCell (p:=⟨ab,6,none⟩) (by rw[HAB.out];exact Nat.le_refl _) _
          have HT4:Hid (w4.heap[ab]?=some (.cells (BA.setIfInBounds 6 (.slice (some ⟨gb,go+i*3,none⟩) 1 (Q.c - i))) 56 (0,0))):=by show _=_;rw[←hw4];exact heap_setCell_same _ _ _ _ _ _ HT3.out
          rw[hw4]
          clear hw4 f5 u5 u5v p11 p12 p13
          obtain⟨bb,hbb⟩:∃b:Acd,({ probA kk with sets:=⟨some ⟨gb,go+i*3,none⟩,1,Q.c - i,[x]⟩ } : Acd)=b:=⟨_,rfl⟩
          have hbx:bb.sets.xs=[x]:=by rw[←hbb]
          have HAr:Hid (BA.setIfInBounds 6 (.slice (some ⟨gb,go+i*3,none⟩) 1 (Q.c - i))=bb.arr):=by show _=_;rw[←HBe.out,←hbb];rfl
          rw[HAr.out]at HT4
          have HI4:Hid (Lwr w w4 #[.int .i64 c.tills,.slice c.cp c.cl c.cc,.slice c.pp c.pl c.pc,.int .i64 c.lease,.int .i64 c.watch,.int .i64 c.beat,.int .i64 c.window,.int .i64 c.cap,.int .i64 c.flight] P l g v∧(∀x∈v.xs,RgP s x)∧v.n≤5000):=⟨HI.out.1.below HB4.out,HI.out.2.1,hlm⟩
          have hgb4:Cel w4 (some ⟨gb,go+i*3,none⟩) 3 ([x].map tric):=by
           obtain⟨gb2,go2,eg2,hgb2,hgc2⟩:=(HQ.out.cel.below HI4.out.1.bel).get (i:=i) (r:=tric x) (by rw[List.getElem?_map,HX3.out];rfl)
           rw[HGc.out.1]at eg2;cases eg2
           refine Or.inr ⟨_,_,rfl,hgb2,fun i2 r hr j u hu=>?_⟩
           match i2,hr with
           | 0,hr=>cases hr;simpa using hgc2 j u hu
           | i2+1,hr=>simp at hr
          have HOk4:Hid (AcdOk w4 bb):=by
           show AcdOk _ _
           have h1:=HBo.out.below HB14.out
           rw[←hbb]
           exact⟨h1.lines,h1.guards,⟨rfl,by show 1≤4194304;omega,hgb4⟩,h1.other,h1.rights⟩
          obtain⟨V,hV⟩:∃V,ChkV c bb V:=chk_some c bb
          have HV:=hide hV
          have HCk2:Hid (Calls Tryz.prog 25 #[.agg #[.int .i64 c.tills,.slice c.cp c.cl c.cc,.slice c.pp c.pl c.pc,.int .i64 c.lease,.int .i64 c.watch,.int .i64 c.beat,.int .i64 c.window,.int .i64 c.cap,.int .i64 c.flight],.agg bb.arr] w4 fun e w'=>e=.returned (.int .i64 V)∧Below w4.heap.size w4 w'):=(show Calls Tryz.prog 25 #[.agg #[.int .i64 c.tills,.slice c.cp c.cl c.cc,.slice c.pp c.pl c.pc,.int .i64 c.lease,.int .i64 c.watch,.int .i64 c.beat,.int .i64 c.window,.int .i64 c.cap,.int .i64 c.flight],.agg bb.arr] w4 (fun e w'=>∃V:Int,e=.returned (.int .i64 V)∧ChkV c bb V∧Below w4.heap.size w4 w') from rcheck_any w4 c bb HOk4.out HCf.out.cl HCf.out.pl HCf.out.tills).mono (fun _ _ ⟨V2,q1,q2,q3⟩=>⟨by rw[q1,chk_one q2 hV],q3⟩)
          obtain⟨B2,hB2⟩:∃X:Array Value,bb.arr=X:=⟨_,rfl⟩
          have HB2z:Hid (B2.size=15):=by show _=_;rw[←hB2];rfl
          rw[hB2]at HCk2 HT4
          have HLb:=hide (Z.loadAt_row (P:=Tryz.prog) (ty:=56) HT4.out Tryz.underlying56 rfl (by rw[HB2z.out];exact Z.Tryz.sizeA))
          have HBx:=hide hbx
          obtain⟨d0,d1,d2,d3,d4,d5,d6,d7,d8⟩:=ac9 HI4.out.1.cb
          clear hbb hbx hV hB2 hgb4 HAr
          by_cases hV:V=0
          ·subst hV
           go_upto_region 23 with (first | (go_at_call 25;refine HCk2.out.mono ?_;rintro e1 w5 ⟨rfl,hb5⟩;have HB5:=hide hb5;clear hb5 d0 d1 d2 d3 d4 d5 d6 d7 d8) | ((with_reducible show wpList _ _ _ (⟨_,.load 56 (.tmp 15),_,_,_,_⟩ :: _) _ _);refine Z.lp_load ab 0 B2 rfl HLb.out ?_) | fail)
           have HI5:Hid (Lwr w w5 #[.int .i64 c.tills,.slice c.cp c.cl c.cc,.slice c.pp c.pl c.pc,.int .i64 c.lease,.int .i64 c.watch,.int .i64 c.beat,.int .i64 c.window,.int .i64 c.cap,.int .i64 c.flight] P l g v∧(∀x∈v.xs,RgP s x)∧v.n≤5000):=⟨HI4.out.1.below HB5.out,HI.out.2.1,hlm⟩
           obtain⟨p11,p12,p13⟩:=HPc.out w5 HI5.out.1.pb
           have hrg:=chk_rg HV.out HSh.out HCl.out
           have HRx:Hid (RgP s x):=hrg.act.sets x (by rw[HBx.out];exact List.mem_singleton.2 rfl)
           obtain⟨gb2,go2,eg2,hgb2,hgc2⟩:=(HQ.out.cel.below HI5.out.1.bel).get (i:=i) (r:=tric x) (by rw[List.getElem?_map,HX3.out];rfl)
           rw[HGc.out.1]at eg2;cases eg2
           obtain⟨xa,xb,xn⟩:=x
           have y0:=hgc2 0 _ rfl
           have y1:=hgc2 1 _ rfl
           have y2:=hgc2 2 _ rfl
           rw[Nat.add_zero]at y0
           dsimp only at y0 y1 y2
           rw[HGc.out.1]at p13
           obtain⟨p,e,w7,hr,hl7⟩:=HI5.out.1.set ⟨xa,xb,xn⟩ (by omega)
           have HR:=hide hr
           have HL7:Hid (Lwr w w7 #[.int .i64 c.tills,.slice c.cp c.cl c.cc,.slice c.pp c.pl c.pc,.int .i64 c.lease,.int .i64 c.watch,.int .i64 c.beat,.int .i64 c.window,.int .i64 c.cap,.int .i64 c.flight] P l g ⟨p,v.n+1,e,v.xs++[⟨xa,xb,xn⟩]⟩∧(∀x∈v.xs++[(⟨xa,xb,xn⟩:Tri)],RgP s x)∧v.n+1≤5000):=by
            refine⟨hl7,fun x hx=>?_,by omega⟩
            rcases mem_snoc hx with hx | rfl
            ·exact HI.out.2.1 x hx
            ·exact HRx.out
           clear hr hl7 hgb2 hgc2 hrg
           go_wp2_with (at_builtin;refine Z.lp_append (.slice v.p v.n v.c) (.slice (some ⟨w5.heap.size,0,none⟩) 1 1) rfl rfl ⟨_,w7,HR.out,?_⟩)
           go_roundw
           case rel=>exact⟨i+1,⟨p,v.n+1,e,v.xs++[⟨xa,xb,xn⟩]⟩,by omega,by go_num,rfl,HL7⟩
           case measure=>simp[intOf];omega
          ·have hV':((V:Int) == 0)=false:=by simp[hV]
           clear hV
           go_upto_region 19 with (first | (go_at_call 25;refine HCk2.out.mono ?_;rintro e1 w5 ⟨rfl,hb5⟩;have HB5:=hide hb5;clear hb5 d0 d1 d2 d3 d4 d5 d6 d7 d8) | ((with_reducible show wpList _ _ _ (⟨_,.load 56 (.tmp 15),_,_,_,_⟩ :: _) _ _);refine Z.lp_load ab 0 B2 rfl HLb.out ?_) | fail)
           have HI5:Hid (Lwr w w5 #[.int .i64 c.tills,.slice c.cp c.cl c.cc,.slice c.pp c.pl c.pc,.int .i64 c.lease,.int .i64 c.watch,.int .i64 c.beat,.int .i64 c.window,.int .i64 c.cap,.int .i64 c.flight] P l g v∧(∀x∈v.xs,RgP s x)∧v.n≤5000):=⟨HI4.out.1.below HB5.out,HI.out.2.1,hlm⟩
           go_wp2
           go_roundw
           case rel=>exact⟨i+1,v,by omega,by go_num,rfl,HI5⟩
           case measure=>simp[intOf];omega
         ·have hBf:B=false:=by rw[hB];simp only[Bool.and_eq_false_iff,decide_eq_false_iff_not];omega
          subst hBf
          clear hB p11 p12 p13
          go_wp2
          refine bodyPost_ret (v:=.tuple #[.slice l.p l.n l.c,.slice g.p g.n g.c,.slice v.p v.n v.c]) (by simp[results,Tryz.results8,go_sem]) rfl ?_
          have h:=HI.out.1
          obtain⟨_,lc,el,hl⟩:=Z.slice_form h.lr
          obtain⟨_,gc,eg,hg⟩:=Z.slice_form h.gr
          obtain⟨_,qc,eq,hq⟩:=Z.slice_form h.qr
          cases el;cases eg;cases eq
          exact⟨l,g,v,rfl,⟨⟨h.ll,by omega,Z.cel_row (f:=linc) (sz:=2) (fun _=>rfl) h.lr h.ll⟩,hl,hllm⟩,⟨⟨h.gl,by omega,Z.cel_row (f:=tric) (sz:=3) (fun _=>rfl) h.gr h.gl⟩,hg,hgm⟩,⟨⟨h.ql,by omega,Z.cel_row (f:=tric) (sz:=3) (fun _=>rfl) h.qr h.ql⟩,hq,hlm⟩,HLl.out,HLg.out,HI.out.2.1,h.bel⟩
end Go.Proofs.YtfbegfapoijbnaaGreat
