import Derived.Test.YtiogibfhafoapaaGreatAbA
import Derived.Test.YtiogibfhafoapaaGreatDcJ
import Derived.Test.YtiogibfhafoapaaGreatAbS
import Derived.Test.YtiogibfhafoapaaGreatAbZ
import Derived.Test.YtiogibfhafoapaaGreatTk
import Derived.Test.YtiogibfhafoapaaGreatDcV
import Derived.Test.YtiogibfhafoapaaGreatDdF
import Derived.Test.YtiogibfhafoapaaGreatEfD
import Derived.Laws.ResultCell
import Derived.Test.YtiogibfhafoapaaGreatZEx
set_option maxRecDepth 100000
set_option maxHeartbeats 8000000
set_option linter.unusedSimpArgs false
set_option linter.unusedVariables false
namespace Go.Proofs.YtiogibfhafoapaaGreat
open Go.RowKit
open Z (Sli SlOk Acd AcdOk Eda EdaOk AcOwn)
def nextD (s:Sta) (a:Acd):Int × Z.AcP × Int × List Lin × List Tri × Int × Int × Int:=(IntKind.u64.wrap (s.pos+1),a.d,(judgeD s a).1,(judgeD s a).2.1,(judgeD s a).2.2.1,(judgeD s a).2.2.2,0,0)
theorem clampF_lwf (s:Sta) (hw:∀p∈s.pools,LinWf (frL p)) (xs:List Lin) (hx:∀x∈xs,LinWf x):∀y∈(clampF s xs).2,LinWf y:=by
 unfold clampF
 have:∀p:List Lin × List Lin,(∀f∈p.1,LinWf f)→(∀y∈p.2,LinWf y)→∀y∈(xs.foldl clStep p).2,LinWf y:=by
  induction xs with
  | nil=>intro p _ h;exact h
  | cons x xs ih =>
   intro p h1 h2;refine ih (fun y hy=>hx y (List.mem_cons_of_mem _ hy)) _ (clStep_wf x h1) ?_;unfold clStep;split
   ·exact h2
   ·intro y hy
    rcases List.mem_append.1 hy with h | h
    ·exact h2 y h
    ·rw[List.mem_singleton]at h
     rw[h];have hxx:=hx x (List.mem_cons_self ..);refine⟨hxx.1,cutR_wf hxx.2 ?_⟩
     have hf:LinWf (p.1.getD x.c.toNat ⟨0,0⟩):=by
      rw[List.getD_eq_getElem?_getD]
      cases h:p.1[x.c.toNat]? with
      | none=>exact⟨rfl,rfl⟩
      | some f=>exact h1 f (List.mem_of_getElem? h)
     unfold frW;split
     ·exact hf.1
     ·exact hf.2
 exact this _ (fun f hf=>by obtain⟨p,hp,rfl⟩:=List.mem_map.1 hf;exact hw p hp) (fun _ h=>by cases h)
theorem judgeD_wf (s:Sta) (hw:∀p∈s.pools,LinWf (frL p)) (a:Acd) (hrg:ActRg s a):∀x∈(judgeD s a).2.1,LinWf x:=by
 have nl:∀x∈([]:List Lin),LinWf x:=fun _ h=>by cases h
 unfold judgeD otherD clampD;repeat (first | exact hrg.lwf | exact hrg.owf | exact nl | exact clampF_lwf s hw _ hrg.lwf | split)
theorem ex_build {o:Oper} {a:Act} (w:World) (t:TypeId) (parts:Array (Nat × Operand)) (ho:o.op=.build t parts) (vs:List (Nat × Value)) (hv:(parts.toList.map fun x=>(x.1,a.eval x.2))=vs) (cells:Array Value) (hb:Tryz.prog.built t vs=some cells):(execOp a.eval o).run Tryz.prog w=.ok (.value (.agg cells)) w:=by
 have e:(parts.map fun (i,x)=>(i,a.eval x)).toList=vs:=by rw[Array.toList_map];exact hv
 unfold execOp;simp only[ho,Sem.run_bind,run_build w t _ cells (by rw[e];exact hb),Result.andThen_ok];rfl
def entOf (po:Int) (b:Acd):Eda:=⟨po,b,0,⟨none,0,0,[]⟩,⟨none,0,0,[]⟩,0,0,0⟩
theorem ent_built (po:Int) (b:Acd):Tryz.prog.built 136 [(0,.int .u64 po),(1,.agg b.arr)]=some (entOf po b).arr:=by kernel_rfl
theorem Tryz.sizeE:(Tryz.prog.info? 136).map (·.size)=some 22:=by kernel_rfl
theorem next_boxes (w:World) (C S A E:Array Value):∃w2,(((w.alloc (.cells C 34)).alloc (.cells S 42)).alloc (.cells A 55)).alloc (.cells E 136)=w2∧Below w.heap.size w w2∧w2.heap[w.heap.size+1]?=some (.cells S 42 (0,0))∧w2.heap[w.heap.size+1+1]?=some (.cells A 55 (0,0))∧w2.heap[w.heap.size+1+1+1]?=some (.cells E 136 (0,0))∧w2.heap.size=w.heap.size+1+1+1+1:=by
 refine⟨_,rfl,((((Below.refl _ w).alloc (Nat.le_refl _) _).alloc (by simp) _).alloc (by simp;omega) _).alloc (by simp;omega) _,?_,?_,?_,by simp⟩
 ·rw[Below.heap_alloc _ _ _ (by simp only[World.size_alloc];omega),Below.heap_alloc _ _ _ (by simp)];exact heap_alloc2_new _ _ _
 ·rw[Below.heap_alloc _ _ _ (by simp only[World.size_alloc];omega)]
  have h:=heap_alloc_new ((w.alloc (.cells C 34)).alloc (.cells S 42)) (.cells A 55);simp only[World.size_alloc]at h;exact h
 ·have h:=heap_alloc_new (((w.alloc (.cells C 34)).alloc (.cells S 42)).alloc (.cells A 55)) (.cells E 136)
  simp only[World.size_alloc]at h;exact h
theorem sl_off {α:Type} {W W':World} {sz:Nat} {f:α→List Value} {s:Sli α} (h:SlOk W sz f s) (hs:W.heap.size≤W'.heap.size) (k k2:Nat) (hk:∀g,g≠k→g≠k2→W'.heap[g]?=W.heap[g]?) (hn:s.xs≠[]→∀g,s.p=some g→g.block≠k) (hn2:s.xs≠[]→∀g,s.p=some g→g.block≠k2):SlOk W' sz f s:=by
 refine⟨h.len,h.most,?_⟩;rcases h.cel with hc | ⟨b,o,e,hb,hc⟩
 ·exact Or.inl hc
 ·by_cases hx:s.xs=[]
  ·exact Or.inl (by rw[hx];rfl)
  ·refine Or.inr ⟨b,o,e,Nat.lt_of_lt_of_le hb hs,fun i r hr j v hv=>?_⟩
   rw[World.cell?_of_block (w:=W) (hk b (hn hx _ e) (hn2 hx _ e))];exact hc i r hr j v hv
theorem own_off {α:Type} {B:Nat} {W:World} {t:TypeId} {sz:Nat} {f:α→List Value} {s:Sli α} (h:Z.SlOwn B W t sz f s) {k:Nat} {C:Array Value} {t2:TypeId} (hk:W.heap[k]?=some (.cells C t2 (0,0))) (ht:t2≠t):s.xs≠[]→∀g,s.p=some g→g.block≠k:=fun _ g e hg=>by
 have h1:=Z.owns_ne h.1 hk ht;rw[e]at h1;rcases h.1.2 with ⟨h2,_⟩ | ⟨g',cap,cur,h2,_⟩
 ·rw[e]at h2;cases h2
 ·rw[e]at h2
  cases h2;simp only at hg;exact h1 (by rw[←hg];rfl)
theorem ac_off {B:Nat} {W W':World} {b:Acd} (h:AcOwn B W b) (hs:W.heap.size≤W'.heap.size) (k k2:Nat) (hk:∀g,g≠k→g≠k2→W'.heap[g]?=W.heap[g]?) {C C2:Array Value} (h1:W.heap[k]?=some (.cells C 136 (0,0))) (h2:W.heap[k2]?=some (.cells C2 136 (0,0))):AcdOk W' b :=
 ⟨sl_off h.ok.lines hs k k2 hk (own_off h.lines h1 (by decide)) (own_off h.lines h2 (by decide)),sl_off h.ok.guards hs k k2 hk (own_off h.guards h1 (by decide)) (own_off h.guards h2 (by decide)),sl_off h.ok.sets hs k k2 hk (own_off h.sets h1 (by decide)) (own_off h.sets h2 (by decide)),sl_off h.ok.other hs k k2 hk (own_off h.other h1 (by decide)) (own_off h.other h2 (by decide)),sl_off h.ok.rights hs k k2 hk (own_off h.rights h1 (by decide)) (own_off h.rights h2 (by decide))⟩
theorem ac_setRow {B:Nat} {W:World} {b:Acd} (h:AcOwn B W b) {g:Nat} {Zc:Array Value} (hz:W.heap[g]?=some (.cells Zc 136 (0,0))) (E:Array Value):AcOwn B (W.setRow g E) b:=by
 have hg:W.grownBy (W.setRow g E) (some g):=⟨rfl,rfl,rfl,by simp,fun k _ hne=>setRow_other W _ _ _ (fun e=>hne (by rw[e]))⟩;have K:∀(B' k' n':Nat) (t:TypeId) (u:Value) (ys:List Value),W.ownsRow B' t k' u n' ys→136≠t→(W.setRow g E).ownsRow B' t k' u n' ys:=fun B' k' n' t u ys hr ht=>Z.owns_grown hr hg (fun g e e'=>Z.owns_ne hr hz ht (by rw[←e',e]))
 have h2:AcOwn B (W.setRow g E) b:=⟨⟨K _ _ _ _ _ _ h.lines.1 (by decide),h.lines.2⟩,⟨K _ _ _ _ _ _ h.guards.1 (by decide),h.guards.2⟩,⟨K _ _ _ _ _ _ h.sets.1 (by decide),h.sets.2⟩,⟨K _ _ _ _ _ _ h.other.1 (by decide),h.other.2⟩,⟨K _ _ _ _ _ _ h.rights.1 (by decide),h.rights.2⟩⟩;exact h2
structure Nxt (w2 W:World) (a:Acd) (eb:Nat) (po:Int) (b:Acd):Prop where
 bel:Below w2.heap.size w2 W
 hi:w2.heap.size≤eb
 box:W.heap[eb]?=some (.cells (entOf po b).arr 136 (0,0))
 ok:AcOwn w2.heap.size W b
 d:b.d=a.d
theorem rnext_any (w:World) (c:Cfg) (s:Sta) (hs:StaOk w s) (hpm:s.pn≤4194304) (hpw:∀p∈s.pools,LinWf (frL p)) (a:Acd) (hok:AcdOk w a) (hrg:JudgeRg s a) :
  Calls Tryz.prog 45 #[.agg (qC c),.agg (qS s),.agg (qA a)] w fun e w'=>∃E:Eda,e=.returned (.agg E.arr)∧E.dd=nextD s a∧EdaOk w' E∧Below w.heap.size w w':=by
 obtain⟨w2,hw2,hb2,hx2,hy2,hz2,hsz2⟩:=next_boxes w (qC c) (qS s) (qA a) qe;have HW2:=hide hw2;have HB2:=hide hb2;have HZ2:=hide hz2;have HOk:=hide hok
 have HX:Hid (∀W,Below w2.heap.size w2 W→(W.cell? ⟨w.heap.size+1,0,none⟩=some (.int .u64 s.pos)∧W.cell? ⟨w.heap.size+1,1,none⟩=some (.slice s.pp s.pn s.pc)∧W.cell? ⟨w.heap.size+1,2,none⟩=some (.slice s.rp s.rn s.rc)∧W.cell? ⟨w.heap.size+1,3,none⟩=some (.slice s.lp s.ln s.lc)∧W.cell? ⟨w.heap.size+1,4,none⟩=some (.slice s.gp s.gn s.gc)∧W.cell? ⟨w.heap.size+1,5,none⟩=some (.slice s.op s.on s.oc)∧W.cell? ⟨w.heap.size+1+1,0,none⟩=some (.int .i64 a.till)∧W.cell? ⟨w.heap.size+1+1,1,none⟩=some (.int .u64 a.num)∧W.cell? ⟨w.heap.size+1+1,2,none⟩=some (.int .i64 a.kind)∧W.cell? ⟨w.heap.size+1+1,3,none⟩=some (.bool a.sure)∧W.cell? ⟨w.heap.size+1+1,4,none⟩=some (.slice a.lines.p a.lines.n a.lines.c)∧W.cell? ⟨w.heap.size+1+1,5,none⟩=some (.slice a.guards.p a.guards.n a.guards.c)∧W.cell? ⟨w.heap.size+1+1,6,none⟩=some (.slice a.sets.p a.sets.n a.sets.c)∧W.cell? ⟨w.heap.size+1+1,7,none⟩=some (.int .i64 a.mg)∧W.cell? ⟨w.heap.size+1+1,8,none⟩=some (.slice a.other.p a.other.n a.other.c)∧W.cell? ⟨w.heap.size+1+1,9,none⟩=some (.int .i64 a.ra)∧W.cell? ⟨w.heap.size+1+1,10,none⟩=some (.int .i64 a.rb)∧W.cell? ⟨w.heap.size+1+1,11,none⟩=some (.int .i64 a.rd)∧W.cell? ⟨w.heap.size+1+1,12,none⟩=some (.int .i64 a.to)∧W.cell? ⟨w.heap.size+1+1,13,none⟩=some (.int .u64 a.gen)∧W.cell? ⟨w.heap.size+1+1,14,none⟩=some (.slice a.rights.p a.rights.n a.rights.c))):=fun W hb=>by
  obtain⟨c0,c1,c2,c3,c4,c5⟩:=ac6 ((hb.block _ (ac_lt hx2)).trans hx2);obtain⟨a0,a1,a2,a3,a4,a5,a6,a7,a8,a9,a10,a11,a12,a13,a14⟩:=ac15 ((hb.block _ (ac_lt hy2)).trans hy2);exact⟨c0,c1,c2,c3,c4,c5,a0,a1,a2,a3,a4,a5,a6,a7,a8,a9,a10,a11,a12,a13,a14⟩
 have HCp:=hide (fun (W:World) (hb:Below w2.heap.size w2 W)=>Z.copyAct_any W a ((hok.below hb2).below hb) (qA a) rfl);have HJu:=hide (fun (W:World) (hb:Below w2.heap.size w2 W)=>rjudge_any W s ((hs.below hb2).below hb) hpm hpw a ((hok.below hb2).below hb) hrg);have HWf:Hid (∀x∈(judgeD s a).2.1,LinWf x):=judgeD_wf s hpw a hrg.act;obtain⟨po,hpo⟩:∃p,IntKind.u64.wrap (s.pos+1)=p:=⟨_,rfl⟩;have HPo:=hide hpo;have HR2:Hid (Below w2.heap.size w2 w2):=Below.refl _ _;obtain⟨c0,c1,c2,c3,c4,c5,a0,a1,a2,a3,a4,a5,a6,a7,a8,a9,a10,a11,a12,a13,a14⟩:=HX.out w2 HR2.out;clear hw2 hb2 hx2 hy2 hz2 hs hok hrg hpw;go_enter Tryz.func45,Tryz.ntmps45;go_upto_region 1 with (fail);rw[HW2.out];go_cut [7] from 9 to 14 (fun s7 wc=>∃(eb:Nat) (b:Acd),s7=.pointer (some ⟨eb,0,none⟩)∧Hid (Nxt w2 wc a eb po b))
 case first =>
  refine wp_region_noPanic ?_;refine wp_region_held_drew (S:=(fun W=>W.cell? ⟨w.heap.size+1,0,none⟩=some (.int .u64 s.pos)∧W.cell? ⟨w.heap.size+1,1,none⟩=some (.slice s.pp s.pn s.pc)∧W.cell? ⟨w.heap.size+1,2,none⟩=some (.slice s.rp s.rn s.rc)∧W.cell? ⟨w.heap.size+1,3,none⟩=some (.slice s.lp s.ln s.lc)∧W.cell? ⟨w.heap.size+1,4,none⟩=some (.slice s.gp s.gn s.gc)∧W.cell? ⟨w.heap.size+1,5,none⟩=some (.slice s.op s.on s.oc)∧W.cell? ⟨w.heap.size+1+1,0,none⟩=some (.int .i64 a.till)∧W.cell? ⟨w.heap.size+1+1,1,none⟩=some (.int .u64 a.num)∧W.cell? ⟨w.heap.size+1+1,2,none⟩=some (.int .i64 a.kind)∧W.cell? ⟨w.heap.size+1+1,3,none⟩=some (.bool a.sure)∧W.cell? ⟨w.heap.size+1+1,4,none⟩=some (.slice a.lines.p a.lines.n a.lines.c)∧W.cell? ⟨w.heap.size+1+1,5,none⟩=some (.slice a.guards.p a.guards.n a.guards.c)∧W.cell? ⟨w.heap.size+1+1,6,none⟩=some (.slice a.sets.p a.sets.n a.sets.c)∧W.cell? ⟨w.heap.size+1+1,7,none⟩=some (.int .i64 a.mg)∧W.cell? ⟨w.heap.size+1+1,8,none⟩=some (.slice a.other.p a.other.n a.other.c)∧W.cell? ⟨w.heap.size+1+1,9,none⟩=some (.int .i64 a.ra)∧W.cell? ⟨w.heap.size+1+1,10,none⟩=some (.int .i64 a.rb)∧W.cell? ⟨w.heap.size+1+1,11,none⟩=some (.int .i64 a.rd)∧W.cell? ⟨w.heap.size+1+1,12,none⟩=some (.int .i64 a.to)∧W.cell? ⟨w.heap.size+1+1,13,none⟩=some (.int .u64 a.gen)∧W.cell? ⟨w.heap.size+1+1,14,none⟩=some (.slice a.rights.p a.rights.n a.rights.c))) (by kernel_rfl) (by go_keep) (fun hHeld=>?_);refine tkg 0 ?_;refine tkg 1 ?_;refine tkg 2 ?_;refine tkg 3 ?_;refine wpAnyH_ready (rs:=[4,6]) (by kernel_rfl) (by simp) ?_;refine AllReadyH.cons (o:=_) rfl (fun KK hKK=>?_) (AllReadyH.cons (o:=_) rfl (fun KK hKK=>?_) AllReadyH.nil)
  ·
   go_simp;go_at_call 16;refine(HCp.out _ HR2.out.drew).mono ?_;rintro e w5 ⟨b,rfl,hbd,hbo,hb5⟩;have HB5:=hide hb5;have HBo:=hide hbo;have HBd:=hide hbd;have HBw:Hid (Below w2.heap.size w2 w5):=(HR2.out.drew).trans (hb5.mono (HR2.out.drew).size);clear c0 c1 c2 c3 c4 c5 a0 a1 a2 a3 a4 a5 a6 a7 a8 a9 a10 a11 a12 a13 a14 hHeld hbd hbo hb5;obtain⟨c0,c1,c2,c3,c4,c5,a0,a1,a2,a3,a4,a5,a6,a7,a8,a9,a10,a11,a12,a13,a14⟩:=HX.out w5 HBw.out;obtain⟨Bv,hBv⟩:∃A:Array Value,b.arr=A:=⟨_,rfl⟩;have HBv:=hide hBv;rw[hBv];clear hBv;refine hKK.out _ _ (by(try dsimp only);go_keep) (fun hHeld=>?_);clear hKK KK;try simp only[Act.put,qzg,qzh,qzi,qzs,qz0,qz1]
   obtain⟨Ev,hEv⟩:∃A:Array Value,(entOf po b).arr=A:=⟨_,rfl⟩;have HEv:=hide hEv;clear hEv;refine wpAnyH_take (i:=5) (oi:=_) (v:=.agg Ev) rfl (by kernel_rfl) (by kernel_rfl) (by kernel_rfl) (fun _ _ _ h=>h) (Or.inl ⟨by kernel_rfl,fun w9 _=>ex_build w9 136 _ rfl [(0,.int .u64 po),(1,.agg Bv)] rfl Ev (by rw[←HBv.out,←HEv.out];exact ent_built po b)⟩) (by assumption) ?_;try simp only[Act.put,qzg,qzh,qzi,qzs,qz0,qz1]
   refine rdy 6 (fun KK hKK=>?_);have hal:Below w2.heap.size w2 (w5.alloc (.cells qe 136)):=HBw.out.alloc HBw.out.size _;go_simp;clear c0 c1 c2 c3 c4 c5 a0 a1 a2 a3 a4 a5 a6 a7 a8 a9 a10 a11 a12 a13 a14;obtain⟨c0,c1,c2,c3,c4,c5,a0,a1,a2,a3,a4,a5,a6,a7,a8,a9,a10,a11,a12,a13,a14⟩:=HX.out _ hal;refine hKK.out _ _ (by(try dsimp only);go_keep) (fun hHeld=>?_);clear hKK KK;try simp only[Act.put,qzg,qzh,qzi,qzs,qz0,qz1]
   refine rdy 7 (fun KK hKK=>?_);have hgb:(w5.alloc (.cells qe 136)).heap[w5.heap.size]?=some (.cells qe 136 (0,0)):=heap_alloc_new _ _;have HBs:Hid (Below w2.heap.size w2 ((w5.alloc (.cells qe 136)).setRow (w5.heap.size) Ev)):=below_setRow (hal) HBw.out.size Ev;have hEz:Ev.size=22:=by rw[←HEv.out];rfl
   have hEo:Ev.all (·.oneCell')=true:=by rw[←HEv.out];exact Z.Eda.ones _
   have HBx:=hide (setRow_heap _ _ _ Ev _ _ hgb);have HAk:=hide ((ac_setRow (HBo.out.below ((Below.refl _ w5).alloc (Nat.le_refl _) _)) hgb Ev).le (show w2.heap.size≤_ from HR2.out.drew.size));rw[if_pos (by kernel_rfl)];refine wp_store_row 136 (.tmp 7) (.tmp 14) rfl (w5.heap.size) Ev rfl rfl 136 qe hgb (by rw[hEz];exact Tryz.sizeE) (by rw[hEz];rfl) hEo ?_;clear c0 c1 c2 c3 c4 c5 a0 a1 a2 a3 a4 a5 a6 a7 a8 a9 a10 a11 a12 a13 a14 hgb;obtain⟨c0,c1,c2,c3,c4,c5,a0,a1,a2,a3,a4,a5,a6,a7,a8,a9,a10,a11,a12,a13,a14⟩:=HX.out _ HBs.out;refine hKK.out _ _ (by(try dsimp only);go_keep) (fun hHeld=>?_);clear hKK KK;try simp only[Act.put,qzg,qzh,qzi,qzs,qz0,qz1]
   refine wpAnyH_done (by kernel_rfl) (NoPanic.normal ?_) _;go_wp2_with fail
   go_meet;exact⟨w5.heap.size,b,rfl,⟨HBs.out,HBw.out.size,by rw[HEv.out];exact HBx.out,HAk.out,HBd.out⟩⟩
  ·
   have hal:Below w2.heap.size w2 (w2.alloc (.cells qe 136)).drew:=(HR2.out.alloc (Nat.le_refl _) _).drew;go_simp;refine hKK.out _ _ (by(try dsimp only);go_keep) (fun hHeld=>?_);clear hKK KK;try simp only[Act.put,qzg,qzh,qzi,qzs,qz0,qz1]
   refine rdy 4 (fun KK hKK=>?_);go_simp;go_at_call 16;refine(HCp.out _ hal).mono ?_;rintro e w5 ⟨b,rfl,hbd,hbo,hb5⟩;have HB5:=hide hb5;have HBo:=hide hbo;have HBd:=hide hbd;have HBw:Hid (Below w2.heap.size w2 w5):=(hal).trans (hb5.mono (hal).size);clear c0 c1 c2 c3 c4 c5 a0 a1 a2 a3 a4 a5 a6 a7 a8 a9 a10 a11 a12 a13 a14 hHeld hbd hbo hb5;obtain⟨c0,c1,c2,c3,c4,c5,a0,a1,a2,a3,a4,a5,a6,a7,a8,a9,a10,a11,a12,a13,a14⟩:=HX.out w5 HBw.out;obtain⟨Bv,hBv⟩:∃A:Array Value,b.arr=A:=⟨_,rfl⟩;have HBv:=hide hBv;rw[hBv];clear hBv;refine hKK.out _ _ (by(try dsimp only);go_keep) (fun hHeld=>?_);clear hKK KK;try simp only[Act.put,qzg,qzh,qzi,qzs,qz0,qz1]
   obtain⟨Ev,hEv⟩:∃A:Array Value,(entOf po b).arr=A:=⟨_,rfl⟩;have HEv:=hide hEv;clear hEv;refine wpAnyH_take (i:=5) (oi:=_) (v:=.agg Ev) rfl (by kernel_rfl) (by kernel_rfl) (by kernel_rfl) (fun _ _ _ h=>h) (Or.inl ⟨by kernel_rfl,fun w9 _=>ex_build w9 136 _ rfl [(0,.int .u64 po),(1,.agg Bv)] rfl Ev (by rw[←HBv.out,←HEv.out];exact ent_built po b)⟩) (by assumption) ?_;try simp only[Act.put,qzg,qzh,qzi,qzs,qz0,qz1]
   refine rdy 7 (fun KK hKK=>?_);have hgq:w5.heap[w2.heap.size]?=some (.cells qe 136 (0,0)):=(HB5.out.block _ (by simp)).trans (heap_alloc_new w2 _);rw[hsz2]at hgq;have hgb:(w5).heap[w.heap.size+1+1+1+1]?=some (.cells qe 136 (0,0)):=hgq;have HBs:Hid (Below w2.heap.size w2 ((w5).setRow (w.heap.size+1+1+1+1) Ev)):=below_setRow (HBw.out) (by rw[hsz2];exact Nat.le_refl _) Ev;have hEz:Ev.size=22:=by rw[←HEv.out];rfl
   have hEo:Ev.all (·.oneCell')=true:=by rw[←HEv.out];exact Z.Eda.ones _
   have HBx:=hide (setRow_heap _ _ _ Ev _ _ hgb);have HAk:=hide ((ac_setRow HBo.out hgb Ev).le (show w2.heap.size≤_ from hal.size));rw[if_pos (by kernel_rfl)];refine wp_store_row 136 (.tmp 7) (.tmp 14) rfl (w.heap.size+1+1+1+1) Ev rfl rfl 136 qe hgb (by rw[hEz];exact Tryz.sizeE) (by rw[hEz];rfl) hEo ?_;clear c0 c1 c2 c3 c4 c5 a0 a1 a2 a3 a4 a5 a6 a7 a8 a9 a10 a11 a12 a13 a14 hgb;obtain⟨c0,c1,c2,c3,c4,c5,a0,a1,a2,a3,a4,a5,a6,a7,a8,a9,a10,a11,a12,a13,a14⟩:=HX.out _ HBs.out;refine hKK.out _ _ (by(try dsimp only);go_keep) (fun hHeld=>?_);clear hKK KK;try simp only[Act.put,qzg,qzh,qzi,qzs,qz0,qz1]
   refine wpAnyH_done (by kernel_rfl) (NoPanic.normal ?_) _;go_wp2_with fail
   go_meet;exact⟨w.heap.size+1+1+1+1,b,rfl,⟨HBs.out,(by rw[hsz2];exact Nat.le_refl _),by rw[HEv.out];exact HBx.out,HAk.out,HBd.out⟩⟩
 case rest =>
  obtain⟨eb,b,rfl,HN⟩:=hcut;clear c0 c1 c2 c3 c4 c5 a0 a1 a2 a3 a4 a5 a6 a7 a8 a9 a10 a11 a12 a13 a14;obtain⟨c0,c1,c2,c3,c4,c5,a0,a1,a2,a3,a4,a5,a6,a7,a8,a9,a10,a11,a12,a13,a14⟩:=HX.out wc HN.out.bel;have hebl:=ac_lt HN.out.box;have heb2:=HN.out.hi;have HJw:=hide (HJu.out wc HN.out.bel);go_upto_region 3 with (first | (go_at_call 62;refine HJw.out.mono ?_;rintro e w5 ⟨T,rfl,hTd,hTk,hFa,hb5⟩;have HTd:=hide hTd;have HTk:=hide hTk;have HFa:=hide hFa;have HB5:=hide hb5;have HSt:=hide (run_storeAt_new (P:=Tryz.prog) w5 151 #[.int .i64 0,.slice none 0 0,.slice none 0 0,.int .i64 0] T.arr Tryz.sizeT rfl T.ones);clear hTd hTk hFa hb5 c0 c1 c2 c3 c4 c5 a0 a1 a2 a3 a4 a5 a6 a7 a8 a9 a10 a11 a12 a13 a14) | ((with_reducible show wpList _ _ _ (⟨_,.store 151 (.tmp 8) _,_,_,_,_⟩ :: _) _ _);refine Z.lp_store (t:=151) (x:=.tmp 8) (some ⟨w5.heap.size,0,none⟩) (.agg T.arr) rfl rfl HSt.out ?_));have hb6:Below w5.heap.size w5 (w5.alloc (.cells T.arr 151)):=(Below.refl _ _).alloc (Nat.le_refl _) _;have hT6:=heap_alloc_new w5 (.cells T.arr 151);obtain⟨w6,hw6⟩:∃W,w5.alloc (.cells T.arr 151)=W:=⟨_,rfl⟩;rw[hw6]at hb6 hT6 ⊢;clear hw6;obtain⟨tb,htb⟩:∃k,w5.heap.size=k:=⟨_,rfl⟩;rw[htb]at hT6 ⊢;have htn:¬eb=tb:=by have:=HB5.out.size;omega
  have htn2:¬tb=eb:=fun h=>htn h.symm
  have hbc6:Below wc.heap.size wc w6:=HB5.out.trans (hb6.mono HB5.out.size);have hE6:=(hbc6.block _ hebl).trans HN.out.box;have HTk6:=hide (HTk.out.below hb6);have HAc6:=hide (HN.out.ok.below hbc6);have HBc6:=hide hbc6;have HT6:=hide hT6;have HE6:=hide hE6;clear hb6 hT6 hE6 hbc6;have l0:w6.cell? ⟨tb,0,none⟩=some (.int .i64 T.out):=by rw[cell_of_row _ _ _ _ _ _ HT6.out];rfl
  have u0:w6.cell? ⟨eb,16,none⟩=some (.int .i64 0):=by rw[cell_of_row _ _ _ _ _ _ HE6.out];rfl
  have f0:=frozen_of_row w6 eb 16 _ _ HE6.out;go_upto_region 4 with (fail);obtain⟨x1,hx1⟩:∃W,w6.setCell ⟨eb,16,none⟩ (.int .i64 T.out)=W:=⟨_,rfl⟩;have HE7:Hid (x1.heap[eb]?=some (.cells (⟨po,b,T.out,⟨none,0,0,[]⟩,⟨none,0,0,[]⟩,0,0,0⟩:Eda).arr 136 (0,0))):=by show _=_;rw[←hx1];exact heap_setCell_same w6 eb 16 _ _ (.int .i64 T.out) HE6.out
  have HT7:Hid (x1.heap[tb]?=some (.cells T.arr 151 (0,0))):=by show _=_;rw[←hx1,heap_setCell_other _ _ _ _ htn2];exact HT6.out
  have HO7:Hid ((∀g,g≠eb→x1.heap[g]?=w6.heap[g]?)∧w6.heap.size≤x1.heap.size∧Below w2.heap.size w2 x1):=by
   refine⟨fun g hg=>?_,?_,?_⟩
   ·rw[←hx1,heap_setCell_other _ _ _ _ hg]
   ·rw[←hx1];simp
   ·rw[←hx1];exact(HN.out.bel.trans (HBc6.out.mono HN.out.bel.size)).setCell (p:=⟨eb,16,none⟩) heb2 _
  rw[hx1];clear hx1 l0 u0 f0 HE6 HT6;have HE6:=HE7;have HT6:=HT7;have HO6:=HO7;clear HE7 HT7 HO7;have l1:x1.cell? ⟨tb,1,none⟩=some (.slice T.made.p T.made.n T.made.c):=by rw[cell_of_row _ _ _ _ _ _ HT6.out];rfl
  have u1:x1.cell? ⟨eb,17,none⟩=some (.slice none 0 0):=by rw[cell_of_row _ _ _ _ _ _ HE6.out];rfl
  have f1:=frozen_of_row x1 eb 17 _ _ HE6.out;go_upto_region 5 with (fail);obtain⟨x2,hx2⟩:∃W,x1.setCell ⟨eb,17,none⟩ (.slice T.made.p T.made.n T.made.c)=W:=⟨_,rfl⟩;have HE7:Hid (x2.heap[eb]?=some (.cells (⟨po,b,T.out,T.made,⟨none,0,0,[]⟩,0,0,0⟩:Eda).arr 136 (0,0))):=by show _=_;rw[←hx2];exact heap_setCell_same x1 eb 17 _ _ (.slice T.made.p T.made.n T.made.c) HE6.out
  have HT7:Hid (x2.heap[tb]?=some (.cells T.arr 151 (0,0))):=by show _=_;rw[←hx2,heap_setCell_other _ _ _ _ htn2];exact HT6.out
  have HO7:Hid ((∀g,g≠eb→x2.heap[g]?=w6.heap[g]?)∧w6.heap.size≤x2.heap.size∧Below w2.heap.size w2 x2):=by
   refine⟨fun g hg=>?_,?_,?_⟩
   ·rw[←hx2,heap_setCell_other _ _ _ _ hg];exact HO6.out.1 g hg
   ·rw[←hx2];have:=HO6.out.2.1;simpa using this
   ·rw[←hx2];exact HO6.out.2.2.setCell (p:=⟨eb,17,none⟩) heb2 _
  rw[hx2];clear hx2 l1 u1 f1 HE6 HT6 HO6;have HE6:=HE7;have HT6:=HT7;have HO6:=HO7;clear HE7 HT7 HO7;have l2:x2.cell? ⟨tb,2,none⟩=some (.slice T.sets.p T.sets.n T.sets.c):=by rw[cell_of_row _ _ _ _ _ _ HT6.out];rfl
  have u2:x2.cell? ⟨eb,18,none⟩=some (.slice none 0 0):=by rw[cell_of_row _ _ _ _ _ _ HE6.out];rfl
  have f2:=frozen_of_row x2 eb 18 _ _ HE6.out;go_upto_region 6 with (fail);obtain⟨x3,hx3⟩:∃W,x2.setCell ⟨eb,18,none⟩ (.slice T.sets.p T.sets.n T.sets.c)=W:=⟨_,rfl⟩;have HE7:Hid (x3.heap[eb]?=some (.cells (⟨po,b,T.out,T.made,T.sets,0,0,0⟩:Eda).arr 136 (0,0))):=by show _=_;rw[←hx3];exact heap_setCell_same x2 eb 18 _ _ (.slice T.sets.p T.sets.n T.sets.c) HE6.out
  have HT7:Hid (x3.heap[tb]?=some (.cells T.arr 151 (0,0))):=by show _=_;rw[←hx3,heap_setCell_other _ _ _ _ htn2];exact HT6.out
  have HO7:Hid ((∀g,g≠eb→x3.heap[g]?=w6.heap[g]?)∧w6.heap.size≤x3.heap.size∧Below w2.heap.size w2 x3):=by
   refine⟨fun g hg=>?_,?_,?_⟩
   ·rw[←hx3,heap_setCell_other _ _ _ _ hg];exact HO6.out.1 g hg
   ·rw[←hx3];have:=HO6.out.2.1;simpa using this
   ·rw[←hx3];exact HO6.out.2.2.setCell (p:=⟨eb,18,none⟩) heb2 _
  rw[hx3];clear hx3 l2 u2 f2 HE6 HT6 HO6;have HE6:=HE7;have HT6:=HT7;have HO6:=HO7;clear HE7 HT7 HO7;have l3:x3.cell? ⟨tb,3,none⟩=some (.int .i64 T.n):=by rw[cell_of_row _ _ _ _ _ _ HT6.out];rfl
  have u3:x3.cell? ⟨eb,19,none⟩=some (.int .i64 0):=by rw[cell_of_row _ _ _ _ _ _ HE6.out];rfl
  have f3:=frozen_of_row x3 eb 19 _ _ HE6.out;go_upto_region 7 with (fail);obtain⟨x4,hx4⟩:∃W,x3.setCell ⟨eb,19,none⟩ (.int .i64 T.n)=W:=⟨_,rfl⟩;have HE7:Hid (x4.heap[eb]?=some (.cells (⟨po,b,T.out,T.made,T.sets,T.n,0,0⟩:Eda).arr 136 (0,0))):=by show _=_;rw[←hx4];exact heap_setCell_same x3 eb 19 _ _ (.int .i64 T.n) HE6.out
  have HT7:Hid (x4.heap[tb]?=some (.cells T.arr 151 (0,0))):=by show _=_;rw[←hx4,heap_setCell_other _ _ _ _ htn2];exact HT6.out
  have HO7:Hid ((∀g,g≠eb→x4.heap[g]?=w6.heap[g]?)∧w6.heap.size≤x4.heap.size∧Below w2.heap.size w2 x4):=by
   refine⟨fun g hg=>?_,?_,?_⟩
   ·rw[←hx4,heap_setCell_other _ _ _ _ hg];exact HO6.out.1 g hg
   ·rw[←hx4];have:=HO6.out.2.1;simpa using this
   ·rw[←hx4];exact HO6.out.2.2.setCell (p:=⟨eb,19,none⟩) heb2 _
  rw[hx4];clear hx4 l3 u3 f3 HE6 HT6 HO6;have HE6:=HE7;have HT6:=HT7;have HO6:=HO7;clear HE7 HT7 HO7;obtain⟨Ev,hEv⟩:∃A:Array Value,(⟨po,b,T.out,T.made,T.sets,T.n,0,0⟩:Eda).arr=A:=⟨_,rfl⟩;have HEv:=hide hEv;rw[hEv]at HE6;clear hEv;have hEz:Ev.size=22:=by rw[←HEv.out];rfl
  have hEo:Ev.all (·.oneCell')=true:=by rw[←HEv.out];exact Z.Eda.ones _
  have hz4:x4.heap[w.heap.size+1+1+1]?=some (.cells qe 136 (0,0)):=(HO6.out.2.2.block _ (ac_lt HZ2.out)).trans HZ2.out;have HL:=hide (Z.loadAt_row (P:=Tryz.prog) (ty:=136) HE6.out Tryz.underlying136 rfl (by rw[hEz];exact Tryz.sizeE));have HS:=hide (Z.storeAt_row (P:=Tryz.prog) (c':=Ev) hz4 (by rw[hEz];exact Tryz.sizeE) (by rw[hEz];rfl) hEo);have HRw:=hide (setRow_heap _ _ _ Ev _ _ hz4)
  have HF:Hid (EdaOk (x4.setRow (w.heap.size+1+1+1) Ev) (⟨po,b,T.out,T.made,T.sets,T.n,0,0⟩:Eda)∧Below w.heap.size w (x4.setRow (w.heap.size+1+1+1) Ev)):=by
   have hk:∀g,g≠eb→g≠w.heap.size+1+1+1→(x4.setRow (w.heap.size+1+1+1) Ev).heap[g]?=w6.heap[g]?:=fun g h1 h2=>by rw[setRow_other _ _ _ _ h2];exact HO6.out.1 g h1
   have hsz:w6.heap.size≤(x4.setRow (w.heap.size+1+1+1) Ev).heap.size:=by simpa using HO6.out.2.1
   have hz6:w6.heap[w.heap.size+1+1+1]?=some (.cells qe 136 (0,0)):=((HN.out.bel.trans (HBc6.out.mono HN.out.bel.size)).block _ (ac_lt HZ2.out)).trans HZ2.out;have he6:=(HBc6.out.block _ hebl).trans HN.out.box;obtain⟨o1,o2⟩:=HFa.out.off HOk.out eb (by omega) hebl;obtain⟨o3,o4⟩:=HFa.out.off HOk.out (w.heap.size+1+1+1) (by omega) (by omega);refine⟨⟨ac_off HAc6.out hsz eb _ hk he6 hz6,sl_off HTk6.out.made hsz eb _ hk o1 o3,sl_off HTk6.out.sets hsz eb _ hk o2 o4,?_⟩,below_setRow (HB2.out.trans (HO6.out.2.2.mono HB2.out.size)) (by omega) Ev⟩;intro x hx;refine HWf.out x ?_;rw[←HTd.out];exact hx
  clear hEz hEo hz4;go_wp2_with (first | ((with_reducible show wpList _ _ _ (⟨_,.load 136 (.tmp 7),_,_,_,_⟩ :: _) _ _);refine Z.lp_load eb 0 Ev rfl HL.out ?_) | ((with_reducible show wpList _ _ _ (⟨_,.store 136 (.tmp 6) _,_,_,_,_⟩ :: _) _ _);refine Z.lp_store (t:=136) (x:=.tmp 6) (some ⟨w.heap.size+1+1+1,0,none⟩) (.agg Ev) rfl rfl HS.out ?_))
  refine bodyPost_ret (results_cell_row rfl _ _ (w.heap.size+1+1+1) 136 Ev (0,0) _ rfl HRw.out Tryz.underlying136 rfl (by rw[←HEv.out];exact Tryz.sizeE)) rfl ?_;exact⟨(⟨po,b,T.out,T.made,T.sets,T.n,0,0⟩:Eda),by rw[HEv.out],by unfold Z.Eda.dd nextD;simp only;rw[HN.out.d,HPo.out,←HTd.out];rfl,HF.out.1,HF.out.2⟩
theorem res_et {P:Program} {fn:Func} {w:World} {p u:Tmp} {ty:TypeId} {tmps:Array Value} {g:Nat} {t:TypeId} {cs:Array Value} {fr:Nat × Nat} {d:TypeDesc} (h:fn.results=#[.cell p ty,.tmp u])
  (hp:tmps.getD p undef=.pointer (some ⟨g,0,none⟩)) (hg:w.heap[g]?=some (.cells cs t fr))
  (hu:P.underlying ty=some d) (hd:(match d with | .struct _ | .array _ _=>true | _=>false)=true) (hi:(P.info? ty).map (·.size)=some cs.size) :
  (results fn tmps).run P w=.ok (.tuple #[.agg cs,tmps.getD u undef]) w:=by
 rw[results_cell_tmp h,hp];simp[asAddr,Result.andThen,run_loadVar_row w g t ty cs fr d hg hu hd hi]
def noAct:Acd:=⟨0,0,0,false,⟨none,0,0,[]⟩,⟨none,0,0,[]⟩,⟨none,0,0,[]⟩,0,⟨none,0,0,[]⟩,0,0,0,0,0,⟨none,0,0,[]⟩⟩
def fenOf (po till g:Int):Eda:=⟨po,noAct,0,⟨none,0,0,[]⟩,⟨none,0,0,[]⟩,0,till,g⟩
theorem fen_built (po till g:Int):Tryz.prog.built 136 [(0,.int .u64 po),(6,.int .i64 till),(7,.int .u64 g)]=some (fenOf po till g).arr:=by kernel_rfl
theorem fen_zero:Tryz.prog.built 136 []=some (fenOf 0 0 0).arr:=by kernel_rfl
theorem fen_ok (w:World) (po till g:Int):EdaOk w (fenOf po till g):=⟨⟨sl_nil _ _ _,sl_nil _ _ _,sl_nil _ _ _,sl_nil _ _ _,sl_nil _ _ _⟩,sl_nil _ _ _,sl_nil _ _ _,fun _ h=>by cases h⟩
def FenOk (tills:Int) (s:Sta) (till:Int):Prop:=0≤till∧till<tills∧getAt s.owed false till=false∧getAt s.gen 0 till<1099511627776
def FenP (w:World) (tills:Int) (s:Sta) (till:Int) (e:Ending) (w':World):Prop:=∃(E:Eda) (b:Bool),e=.returned (.tuple #[.agg E.arr,.bool b])∧EdaOk w' E∧(b=true↔FenOk tills s till)∧(b=true→E.dd=(IntKind.u64.wrap (s.pos+1),noAct.d,0,[],[],0,till,IntKind.u64.wrap (getAt s.gen 0 till+1)))∧Below w.heap.size w w'
theorem fen_boxes (w:World) (C S E:Array Value):∃w2,((w.alloc (.cells C 34)).alloc (.cells S 42)).alloc (.cells E 136)=w2∧Below w.heap.size w w2∧w2.heap[w.heap.size]?=some (.cells C 34 (0,0))∧w2.heap[w.heap.size+1]?=some (.cells S 42 (0,0))∧w2.heap[w.heap.size+1+1]?=some (.cells E 136 (0,0)):=by
 refine⟨_,rfl,(((Below.refl _ w).alloc (Nat.le_refl _) _).alloc (by simp) _).alloc (by simp;omega) _,?_,?_,?_⟩
 ·rw[Below.heap_alloc _ _ _ (by simp only[World.size_alloc];omega),Below.heap_alloc _ _ _ (by simp)];exact heap_alloc_new _ _
 ·rw[Below.heap_alloc _ _ _ (by simp)];exact heap_alloc2_new _ _ _
 ·have h:=heap_alloc_new ((w.alloc (.cells C 34)).alloc (.cells S 42)) (.cells E 136)
  simp only[World.size_alloc]at h;exact h
theorem rfence_any (w:World) (c:Cfg) (s:Sta) (hs:StaOk w s) (hgn:c.tills≤(s.gn:Int)) (hon:c.tills≤(s.on:Int)) (till:Int) :
  Calls Tryz.prog 46 #[.agg (qC c),.agg (qS s),.int .i64 till] w (FenP w c.tills s till):=by
 obtain⟨w2,hw2,hb2,hx2,hy2,hz2⟩:=fen_boxes w (qC c) (qS s) qe;have HW2:=hide hw2;have HB2:=hide hb2;have HZ2:=hide hz2;obtain⟨d0,d1,d2,d3,d4,d5,d6,d7,d8⟩:=ac9 hx2;obtain⟨c0,c1,c2,c3,c4,c5⟩:=ac6 hy2;have HS:=hide (hs.below hb2);have hs0:=hs;have hlt:=ac_lt hz2;clear hw2 hb2 hx2 hy2 hz2 hs;by_cases q1:till<0
 ·skip
  have hno:Hid (¬FenOk c.tills s till):=by show ¬_;intro h;exact absurd h.1 (by omega)
  obtain⟨Ev,hEv⟩:∃A:Array Value,(fenOf 0 0 0).arr=A:=⟨_,rfl⟩;have HEv:=hide hEv;clear hEv;have hEz:Ev.size=22:=by rw[←HEv.out];rfl
  have hEo:Ev.all (·.oneCell')=true:=by rw[←HEv.out];exact Z.Eda.ones _
  have HSt:=hide (Z.storeAt_row (P:=Tryz.prog) (c':=Ev) HZ2.out (by rw[hEz];exact Tryz.sizeE) (by rw[hEz];rfl) hEo);have HRw:=hide (setRow_heap _ _ _ Ev _ _ HZ2.out);have HBt:=hide (fen_zero.trans (congrArg some HEv.out));clear hEz hEo;go_enter Tryz.func46,Tryz.ntmps46;go_upto_region 1 with (fail);rw[HW2.out];go_wp2_with (first | ((with_reducible show wpList _ _ _ (⟨_,.build _ _,_,_,_,_⟩ :: _) _ _);refine Z.lp_built rfl 136 _ rfl [] rfl Ev HBt.out ?_) | ((with_reducible show wpList _ _ _ (⟨_,.store 136 (.tmp 6) _,_,_,_,_⟩ :: _) _ _);refine Z.lp_store (t:=136) (x:=.tmp 6) (some ⟨w.heap.size+1+1,0,none⟩) (.agg Ev) rfl rfl HSt.out ?_))
  refine bodyPost_ret (res_et rfl rfl HRw.out Tryz.underlying136 rfl (by rw[←HEv.out];exact Tryz.sizeE)) rfl ?_;exact⟨(fenOf 0 0 0),false,by rw[HEv.out];rfl,fen_ok _ _ _ _,⟨fun h=>(by cases h),fun h=>absurd h hno.out⟩,fun h=>(by cases h),below_setRow HB2.out (by omega) _⟩
 by_cases q2:c.tills≤till
 ·skip
  have hno:Hid (¬FenOk c.tills s till):=by show ¬_;intro h;have:=h.2.1;omega
  obtain⟨Ev,hEv⟩:∃A:Array Value,(fenOf 0 0 0).arr=A:=⟨_,rfl⟩;have HEv:=hide hEv;clear hEv;have hEz:Ev.size=22:=by rw[←HEv.out];rfl
  have hEo:Ev.all (·.oneCell')=true:=by rw[←HEv.out];exact Z.Eda.ones _
  have HSt:=hide (Z.storeAt_row (P:=Tryz.prog) (c':=Ev) HZ2.out (by rw[hEz];exact Tryz.sizeE) (by rw[hEz];rfl) hEo);have HRw:=hide (setRow_heap _ _ _ Ev _ _ HZ2.out);have HBt:=hide (fen_zero.trans (congrArg some HEv.out));clear hEz hEo;go_enter Tryz.func46,Tryz.ntmps46;go_upto_region 1 with (fail);rw[HW2.out];go_wp2_with (first | ((with_reducible show wpList _ _ _ (⟨_,.build _ _,_,_,_,_⟩ :: _) _ _);refine Z.lp_built rfl 136 _ rfl [] rfl Ev HBt.out ?_) | ((with_reducible show wpList _ _ _ (⟨_,.store 136 (.tmp 6) _,_,_,_,_⟩ :: _) _ _);refine Z.lp_store (t:=136) (x:=.tmp 6) (some ⟨w.heap.size+1+1,0,none⟩) (.agg Ev) rfl rfl HSt.out ?_))
  refine bodyPost_ret (res_et rfl rfl HRw.out Tryz.underlying136 rfl (by rw[←HEv.out];exact Tryz.sizeE)) rfl ?_;exact⟨(fenOf 0 0 0),false,by rw[HEv.out];rfl,fen_ok _ _ _ _,⟨fun h=>(by cases h),fun h=>absurd h hno.out⟩,fun h=>(by cases h),below_setRow HB2.out (by omega) _⟩
 obtain⟨t,rfl⟩:∃t:Nat,till=(t:Int):=⟨till.toNat,by omega⟩;obtain⟨g,hg⟩:∃g,s.gen[t]?=some g:=⟨_,List.getElem?_eq_getElem (by rw[HS.out.gn];omega)⟩;obtain⟨ow,how⟩:∃g,s.owed[t]?=some g:=⟨_,List.getElem?_eq_getElem (by rw[HS.out.on];omega)⟩;obtain⟨gb,go,eg,hgb,hgc⟩:=HS.out.gen.get (i:=t) (r:=uc g) (by rw[List.getElem?_map,hg];rfl);obtain⟨ob,oo,eo,hob,hoc⟩:=HS.out.owed.get (i:=t) (r:=boolc ow) (by rw[List.getElem?_map,how];rfl);have v1:=(at_in (z:=(0:Int)) hg).2;have v2:=(at_in (z:=false) how).2;have e0:=hgc 0 _ rfl;have e1:=hoc 0 _ rfl;rw[Nat.mul_one,Nat.add_zero]at e0 e1;have eg0:=eg;rw[eg]at c4;rw[eo]at c5;have k1:(t:Int)<(s.gn:Int):=by omega
 have k2:(t:Int)<(s.on:Int):=by omega
 have k0:(0:Int)≤(t:Int):=by omega
 have HGl:Hid (gb<w.heap.size):=by obtain⟨b2,o2,e2,h2,_⟩:=hs0.gen.get (i:=t) (r:=uc g) (by rw[List.getElem?_map,hg];rfl);rw[eg0]at e2;cases e2;exact h2
 clear hgc hoc hg how hgb hob eg eo eg0 hs0
 cases ow with
 | true =>
  have hno:Hid (¬FenOk c.tills s t):=by show ¬_;intro h;have:=h.2.2.1;rw[v2]at this;cases this
  clear v1 v2;obtain⟨Ev,hEv⟩:∃A:Array Value,(fenOf 0 0 0).arr=A:=⟨_,rfl⟩;have HEv:=hide hEv;clear hEv;have hEz:Ev.size=22:=by rw[←HEv.out];rfl
  have hEo:Ev.all (·.oneCell')=true:=by rw[←HEv.out];exact Z.Eda.ones _
  have HSt:=hide (Z.storeAt_row (P:=Tryz.prog) (c':=Ev) HZ2.out (by rw[hEz];exact Tryz.sizeE) (by rw[hEz];rfl) hEo);have HRw:=hide (setRow_heap _ _ _ Ev _ _ HZ2.out);have HBt:=hide (fen_zero.trans (congrArg some HEv.out));clear hEz hEo;go_enter Tryz.func46,Tryz.ntmps46;go_upto_region 1 with (fail);rw[HW2.out];go_wp2_with (first | ((with_reducible show wpList _ _ _ (⟨_,.build _ _,_,_,_,_⟩ :: _) _ _);refine Z.lp_built rfl 136 _ rfl [] rfl Ev HBt.out ?_) | ((with_reducible show wpList _ _ _ (⟨_,.store 136 (.tmp 6) _,_,_,_,_⟩ :: _) _ _);refine Z.lp_store (t:=136) (x:=.tmp 6) (some ⟨w.heap.size+1+1,0,none⟩) (.agg Ev) rfl rfl HSt.out ?_))
  refine bodyPost_ret (res_et rfl rfl HRw.out Tryz.underlying136 rfl (by rw[←HEv.out];exact Tryz.sizeE)) rfl ?_;exact⟨(fenOf 0 0 0),false,by rw[HEv.out];rfl,fen_ok _ _ _ _,⟨fun h=>(by cases h),fun h=>absurd h hno.out⟩,fun h=>(by cases h),below_setRow HB2.out (by omega) _⟩
 | false =>
  by_cases q4:1099511627776≤g
  ·have hno:Hid (¬FenOk c.tills s t):=by show ¬_;intro h;have:=h.2.2.2;rw[v1]at this;omega
   clear v1 v2;obtain⟨Ev,hEv⟩:∃A:Array Value,(fenOf 0 0 0).arr=A:=⟨_,rfl⟩;have HEv:=hide hEv;clear hEv;have hEz:Ev.size=22:=by rw[←HEv.out];rfl
   have hEo:Ev.all (·.oneCell')=true:=by rw[←HEv.out];exact Z.Eda.ones _
   have HSt:=hide (Z.storeAt_row (P:=Tryz.prog) (c':=Ev) HZ2.out (by rw[hEz];exact Tryz.sizeE) (by rw[hEz];rfl) hEo);have HRw:=hide (setRow_heap _ _ _ Ev _ _ HZ2.out);have HBt:=hide (fen_zero.trans (congrArg some HEv.out));clear hEz hEo;go_enter Tryz.func46,Tryz.ntmps46;go_upto_region 1 with (fail);rw[HW2.out];go_wp2_with (first | ((with_reducible show wpList _ _ _ (⟨_,.build _ _,_,_,_,_⟩ :: _) _ _);refine Z.lp_built rfl 136 _ rfl [] rfl Ev HBt.out ?_) | ((with_reducible show wpList _ _ _ (⟨_,.store 136 (.tmp 6) _,_,_,_,_⟩ :: _) _ _);refine Z.lp_store (t:=136) (x:=.tmp 6) (some ⟨w.heap.size+1+1,0,none⟩) (.agg Ev) rfl rfl HSt.out ?_))
   refine bodyPost_ret (res_et rfl rfl HRw.out Tryz.underlying136 rfl (by rw[←HEv.out];exact Tryz.sizeE)) rfl ?_;exact⟨(fenOf 0 0 0),false,by rw[HEv.out];rfl,fen_ok _ _ _ _,⟨fun h=>(by cases h),fun h=>absurd h hno.out⟩,fun h=>(by cases h),below_setRow HB2.out (by omega) _⟩
  have HOkF:Hid (FenOk c.tills s t):=⟨by omega,by omega,v2,by rw[v1];omega⟩;obtain⟨po,hpo⟩:∃p,IntKind.u64.wrap (s.pos+1)=p:=⟨_,rfl⟩;obtain⟨ge,hge⟩:∃p,IntKind.u64.wrap (g+1)=p:=⟨_,rfl⟩;have HV1:=hide v1;have HPo:=hide hpo;have HGe:=hide hge;clear v1 v2;obtain⟨Ev,hEv⟩:∃A:Array Value,(fenOf po t ge).arr=A:=⟨_,rfl⟩;have HEv:=hide hEv;clear hEv;have hEz:Ev.size=22:=by rw[←HEv.out];rfl
  have hEo:Ev.all (·.oneCell')=true:=by rw[←HEv.out];exact Z.Eda.ones _
  have HSt:=hide (Z.storeAt_row (P:=Tryz.prog) (c':=Ev) (show w2.drew.heap[w.heap.size+1+1]?=some (.cells qe 136 (0,0)) from HZ2.out) (by rw[hEz];exact Tryz.sizeE) (by rw[hEz];rfl) hEo);have HRw:=hide (setRow_heap _ _ _ Ev _ _ (show w2.drew.heap[w.heap.size+1+1]?=some (.cells qe 136 (0,0)) from HZ2.out));have hEz2:=hide hEz;have hEo2:=hide hEo;clear hEz hEo;go_enter Tryz.func46,Tryz.ntmps46;go_upto_region 1 with (fail);rw[HW2.out];go_upto_region 3 with (fail);refine wp_region_noPanic ?_;refine wp_region_held_drew (S:=(fun W=>W.cell? ⟨w.heap.size+1,0,none⟩=some (.int .u64 s.pos)∧W.cell? ⟨w.heap.size+1,4,none⟩=some (.slice (some ⟨gb,go,none⟩) s.gn s.gc)∧W.cell? ⟨gb,go+t,none⟩=some (.int .u64 g))) (by kernel_rfl) (by go_keep) (fun hHeld=>?_);refine tkg 0 ?_;refine tkg 1 ?_;refine tkg 2 ?_;refine tkg 3 ?_;refine tkg 4 ?_;refine tkg 5 ?_;refine tkg 6 ?_;refine tkg 7 ?_;refine tkg 8 ?_;refine tkg 9 ?_;refine wpAnyH_take (i:=10) (oi:=_) (v:=.agg Ev) rfl (by kernel_rfl) (by kernel_rfl) (by kernel_rfl) (fun _ _ _ h=>h) (Or.inl ⟨by kernel_rfl,fun w9 _=>ex_build w9 136 _ rfl [(0,.int .u64 po),(6,.int .i64 t),(7,.int .u64 ge)] rfl Ev (by rw[←HEv.out];exact fen_built po t ge)⟩) (by assumption) ?_;try simp only[Act.put,qzg,qzh,qzi,qzs,qz0,qz1]
  have hz9:w2.drew.heap[w.heap.size+1+1]?=some (.cells qe 136 (0,0)):=HZ2.out;have n1:¬gb=w.heap.size+1+1:=by intro h;subst h;have h1:=World.block_lt_of_cell? _ _ e0;have h2:=HGl.out;omega
  have s0:(w2.drew.setRow (w.heap.size+1+1) Ev).cell? ⟨w.heap.size+1,0,none⟩=some (.int .u64 s.pos):=by rw[World.cell?_of_block (w:=w2) (setRow_other w2.drew _ _ _ (by show w.heap.size+1≠w.heap.size+1+1;omega))];exact c0
  have s4:(w2.drew.setRow (w.heap.size+1+1) Ev).cell? ⟨w.heap.size+1,4,none⟩=some (.slice (some ⟨gb,go,none⟩) s.gn s.gc):=by rw[World.cell?_of_block (w:=w2) (setRow_other w2.drew _ _ _ (by show w.heap.size+1≠w.heap.size+1+1;omega))];exact c4
  have s5:(w2.drew.setRow (w.heap.size+1+1) Ev).cell? ⟨gb,go+t,none⟩=some (.int .u64 g):=by rw[World.cell?_of_block (w:=w2) (setRow_other w2.drew _ _ _ n1)];exact e0
  refine rdy 11 (fun KK hKK=>?_);rw[if_pos (by kernel_rfl)];refine wp_store_row 136 (.tmp 6) (.tmp 42) rfl (w.heap.size+1+1) Ev rfl rfl 136 qe hz9 (by rw[hEz2.out];exact Tryz.sizeE) (by rw[hEz2.out];rfl) hEo2.out ?_;refine hKK.out _ _ (by(try dsimp only);go_keep) (fun hHeld=>?_);clear hKK KK;try simp only[Act.put,qzg,qzh,qzi,qzs,qz0,qz1]
  refine rdy 12 (fun KK hKK=>?_);go_simp;refine hKK.out _ _ (by(try dsimp only);go_keep) (fun hHeld=>?_);clear hKK KK;try simp only[Act.put,qzg,qzh,qzi,qzs,qz0,qz1]
  refine wpAnyH_done (by kernel_rfl) (NoPanic.normal ?_) _;go_wp2;refine bodyPost_ret (res_et rfl rfl HRw.out Tryz.underlying136 rfl (by rw[←HEv.out];exact Tryz.sizeE)) rfl ?_;exact⟨(fenOf po t ge),true,by rw[HEv.out];rfl,fen_ok _ _ _ _,⟨fun _=>HOkF.out,fun _=>rfl⟩,fun _=>by rw[HV1.out,HPo.out,HGe.out];rfl,below_setRow HB2.out.drew (by omega) _⟩
end Go.Proofs.YtiogibfhafoapaaGreat
