import Derived.Test.YtiogibfhafoapaaGreatAbA
import Derived.Test.YtiogibfhafoapaaGreatRwK
import Derived.Test.YtiogibfhafoapaaGreatDdB
import Derived.Test.YtiogibfhafoapaaGreatDdC
import Derived.Test.YtiogibfhafoapaaGreatDdD
import Derived.Test.YtiogibfhafoapaaGreatDdE
import Derived.Test.YtiogibfhafoapaaGreatDdG
import Derived.Test.YtiogibfhafoapaaGreatDcI
import Derived.Test.YtiogibfhafoapaaGreatAbZ
import Derived.Test.YtiogibfhafoapaaGreatTk
import Derived.Test.YtiogibfhafoapaaGreatFoA
import Derived.Test.YtiogibfhafoapaaGreatEfD
set_option maxRecDepth 100000
set_option maxHeartbeats 8000000
set_option linter.unusedSimpArgs false
set_option linter.unusedVariables false
namespace Go.Proofs.YtiogibfhafoapaaGreat
open Go.RowKit
open Z (Sli QaE Acd Qad Elt)
theorem QhE (w:World) (s:Sta) (hs:Qae w s) (hpm:s.pn≤4194304) (hpw:∀p∈s.pools,Qaw (frL p)) (a:Acd) (hok:Qad w a) (hrg:Qbt s a) :
  Calls Tryz.prog 62 #[.agg (qS s),.agg (qA a)] w fun e w'=>∃T:Tld,e=.returned (.agg T.arr)∧T.d=Qaf s a∧QcB w' T∧T.far w.heap.size a∧Below w.heap.size w w':=by
 have hk:=hrg.kind;rcases (show a.kind=1∨a.kind=2∨a.kind=3∨a.kind=4∨a.kind=5 by omega) with h | h | h | h | h
 ·exact Qkx w s hs hpm hpw a hok hrg h
 ·exact QjO w s hs hpm hpw a hok hrg h
 ·exact Qki w s hs hpm hpw a hok hrg h
 ·rcases (hrg.right (by omega) (by omega)).2 with h2 | h2
  ·exact QjB w s hs hpm hpw a hok hrg h h2
  ·exact Qh8 w s hs hpm hpw a hok hrg h h2
 ·exact QkL w s hs hpm hpw a hok hrg h
end Go.Proofs.YtiogibfhafoapaaGreat
namespace Go.Proofs.YtiogibfhafoapaaGreat
open Go.RowKit
open Z (Sli QaE Acd Qad Eda QaP AcOwn)
def QdZ (s:Sta) (a:Acd):Int × Z.AcP × Int × List Lin × List Tri × Int × Int × Int:=(IntKind.u64.wrap (s.pos+1),a.d,(Qaf s a).1,(Qaf s a).2.1,(Qaf s a).2.2.1,(Qaf s a).2.2.2,0,0)
theorem QhG (s:Sta) (hw:∀p∈s.pools,Qaw (frL p)) (xs:List Lin) (hx:∀x∈xs,Qaw x):∀y∈(QaC s xs).2,Qaw y:=by
 unfold QaC
 have:∀p:List Lin × List Lin,(∀f∈p.1,Qaw f)→(∀y∈p.2,Qaw y)→∀y∈(xs.foldl Qax p).2,Qaw y:=by
  induction xs with
  | nil=>intro p _ h;exact h
  | cons x xs ih =>
   intro p h1 h2;refine ih (fun y hy=>hx y (Vy _ hy)) _ (Qe1 x h1) ?_;unfold Qax;split
   ·exact h2
   ·intro y hy
    rcases List.mem_append.1 hy with h | h
    ·exact h2 y h
    ·rw[List.mem_singleton]at h
     rw[h];have hxx:=hx x (VH ..);refine⟨hxx.1,Qf7 hxx.2 ?_⟩
     have hf:Qaw (p.1.getD x.c.toNat ⟨0,0⟩):=by
      rw[Vu]
      cases h:p.1[x.c.toNat]? with
      | none=>exact⟨rfl,rfl⟩
      | some f=>exact h1 f (mG h)
     unfold frW;split
     ·exact hf.1
     ·exact hf.2
 exact this _ (fun f hf=>by obtain⟨p,hp,rfl⟩:=List.mem_map.1 hf;exact hw p hp) (fun _ h=>by cases h)
theorem Qid (s:Sta) (hw:∀p∈s.pools,Qaw (frL p)) (a:Acd) (hrg:Qk8 s a):∀x∈(Qaf s a).2.1,Qaw x:=by
 have nl:∀x∈([]:List Lin),Qaw x:=fun _ h=>by cases h
 unfold Qaf Qbw Qbo;repeat (first | exact hrg.lwf | exact hrg.owf | exact nl | exact QhG s hw _ hrg.lwf | split)
theorem QeP {o:Oper} {a:Act} (w:World) (t:TypeId) (parts:Array (Nat × Operand)) (ho:o.op=.build t parts) (vs:List (Nat × Value)) (hv:(parts.toList.map fun x=>(x.1,a.eval x.2))=vs) (cells:Array Value) (hb:Tryz.prog.built t vs=some cells):(execOp a.eval o).run Tryz.prog w=.ok (.value (.agg cells)) w:=by
 have e:(parts.map fun (i,x)=>(i,a.eval x)).toList=vs:=by rw[Array.toList_map];exact hv
 unfold execOp;simp only[ho,Sem.run_bind,run_build w t _ cells (by rw[e];exact hb),Result.andThen_ok];rfl
def QjK (po:Int) (b:Acd):Eda:=⟨po,b,0,⟨none,0,0,[]⟩,⟨none,0,0,[]⟩,0,0,0⟩
theorem Qe6 (po:Int) (b:Acd):Tryz.prog.built 136 [(0,.int .u64 po),(1,.agg b.arr)]=some (QjK po b).arr:=by kernel_rfl
theorem Tryz.sizeE:(Tryz.prog.info? 136).map (·.size)=some 22:=by kernel_rfl
theorem Qhi (w:World) (C S A E:Array Value):∃w2,(((w.alloc (.cells C 34)).alloc (.cells S 42)).alloc (.cells A 55)).alloc (.cells E 136)=w2∧Below w.heap.size w w2∧w2.heap[w.heap.size+1]?=some (.cells S 42 (0,0))∧w2.heap[w.heap.size+1+1]?=some (.cells A 55 (0,0))∧w2.heap[w.heap.size+1+1+1]?=some (.cells E 136 (0,0))∧w2.heap.size=w.heap.size+1+1+1+1:=by
 refine⟨_,rfl,((((Below.refl _ w).alloc (Va _) _).alloc (by simp) _).alloc (by simp;omega) _).alloc (by simp;omega) _,?_,?_,?_,by simp⟩
 ·rw[Vc _ _ _ (by simp only[Vm];omega),Vc _ _ _ (by simp)];exact VV _ _ _
 ·rw[Vc _ _ _ (by simp only[Vm];omega)]
  have h:=hNq ((w.alloc (.cells C 34)).alloc (.cells S 42)) (.cells A 55);simp only[Vm]at h;exact h
 ·have h:=hNq (((w.alloc (.cells C 34)).alloc (.cells S 42)).alloc (.cells A 55)) (.cells E 136)
  simp only[Vm]at h;exact h
theorem Qd0 {α:Type} {W W':World} {sz:Nat} {f:α→List Value} {s:Sli α} (h:QaE W sz f s) (hs:W.heap.size≤W'.heap.size) (k k2:Nat) (hk:∀g,g≠k→g≠k2→W'.heap[g]?=W.heap[g]?) (hn:s.xs≠[]→∀g,s.p=some g→g.block≠k) (hn2:s.xs≠[]→∀g,s.p=some g→g.block≠k2):QaE W' sz f s:=by
 refine⟨h.len,h.most,?_⟩;rcases h.cel with hc | ⟨b,o,e,hb,hc⟩
 ·exact Or.inl hc
 ·by_cases hx:s.xs=[]
  ·exact Or.inl (by rw[hx];rfl)
  ·refine Or.inr ⟨b,o,e,VL hb hs,fun i r hr j v hv=>?_⟩
   rw[VC (w:=W) (hk b (hn hx _ e) (hn2 hx _ e))];exact hc i r hr j v hv
theorem QbX {α:Type} {B:Nat} {W:World} {t:TypeId} {sz:Nat} {f:α→List Value} {s:Sli α} (h:Z.SlOwn B W t sz f s) {k:Nat} {C:Array Value} {t2:TypeId} (hk:W.heap[k]?=some (.cells C t2 (0,0))) (ht:t2≠t):s.xs≠[]→∀g,s.p=some g→g.block≠k:=fun _ g e hg=>by
 have h1:=Z.owns_ne h.1 hk ht;rw[e]at h1;rcases h.1.2 with ⟨h2,_⟩ | ⟨g',cap,cur,h2,_⟩
 ·rw[e]at h2;cases h2
 ·rw[e]at h2
  cases h2;simp only at hg;exact h1 (by rw[←hg];rfl)
theorem Ql5 {B:Nat} {W W':World} {b:Acd} (h:AcOwn B W b) (hs:W.heap.size≤W'.heap.size) (k k2:Nat) (hk:∀g,g≠k→g≠k2→W'.heap[g]?=W.heap[g]?) {C C2:Array Value} (h1:W.heap[k]?=some (.cells C 136 (0,0))) (h2:W.heap[k2]?=some (.cells C2 136 (0,0))):Qad W' b :=
 ⟨Qd0 h.ok.lines hs k k2 hk (QbX h.lines h1 (by decide)) (QbX h.lines h2 (by decide)),Qd0 h.ok.guards hs k k2 hk (QbX h.guards h1 (by decide)) (QbX h.guards h2 (by decide)),Qd0 h.ok.sets hs k k2 hk (QbX h.sets h1 (by decide)) (QbX h.sets h2 (by decide)),Qd0 h.ok.other hs k k2 hk (QbX h.other h1 (by decide)) (QbX h.other h2 (by decide)),Qd0 h.ok.rights hs k k2 hk (QbX h.rights h1 (by decide)) (QbX h.rights h2 (by decide))⟩
theorem QfA {B:Nat} {W:World} {b:Acd} (h:AcOwn B W b) {g:Nat} {Zc:Array Value} (hz:W.heap[g]?=some (.cells Zc 136 (0,0))) (E:Array Value):AcOwn B (W.setRow g E) b:=by
 have hg:W.grownBy (W.setRow g E) (some g):=⟨rfl,rfl,rfl,by simp,fun k _ hne=>Vz W _ _ _ (fun e=>hne (by rw[e]))⟩;have K:∀(B' k' n':Nat) (t:TypeId) (u:Value) (ys:List Value),W.ownsRow B' t k' u n' ys→136≠t→(W.setRow g E).ownsRow B' t k' u n' ys:=fun B' k' n' t u ys hr ht=>Z.owns_grown hr hg (fun g e e'=>Z.owns_ne hr hz ht (by rw[←e',e]))
 have h2:AcOwn B (W.setRow g E) b:=⟨⟨K _ _ _ _ _ _ h.lines.1 (by decide),h.lines.2⟩,⟨K _ _ _ _ _ _ h.guards.1 (by decide),h.guards.2⟩,⟨K _ _ _ _ _ _ h.sets.1 (by decide),h.sets.2⟩,⟨K _ _ _ _ _ _ h.other.1 (by decide),h.other.2⟩,⟨K _ _ _ _ _ _ h.rights.1 (by decide),h.rights.2⟩⟩;exact h2
structure Nxt (w2 W:World) (a:Acd) (eb:Nat) (po:Int) (b:Acd):Prop where
 bel:Below w2.heap.size w2 W
 hi:w2.heap.size≤eb
 box:W.heap[eb]?=some (.cells (QjK po b).arr 136 (0,0))
 ok:AcOwn w2.heap.size W b
 d:b.d=a.d
theorem QfH (w:World) (c:Cfg) (s:Sta) (hs:Qae w s) (hpm:s.pn≤4194304) (hpw:∀p∈s.pools,Qaw (frL p)) (a:Acd) (hok:Qad w a) (hrg:Qbt s a) :
  Calls Tryz.prog 45 #[.agg (qC c),.agg (qS s),.agg (qA a)] w fun e w'=>∃E:Eda,e=.returned (.agg E.arr)∧E.dd=QdZ s a∧QaP w' E∧Below w.heap.size w w':=by
 obtain⟨w2,hw2,hb2,hx2,hy2,hz2,hsz2⟩:=Qhi w (qC c) (qS s) (qA a) qe;obtain⟨HW2,HB2,HZ2,HOk⟩:=hd4 hw2 hb2 hz2 hok
 have HX:Hid (∀W,Below w2.heap.size w2 W→(W.cell? ⟨w.heap.size+1,0,none⟩=some (.int .u64 s.pos)∧W.cell? ⟨w.heap.size+1,1,none⟩=some (.slice s.pp s.pn s.pc)∧W.cell? ⟨w.heap.size+1,2,none⟩=some (.slice s.rp s.rn s.rc)∧W.cell? ⟨w.heap.size+1,3,none⟩=some (.slice s.lp s.ln s.lc)∧W.cell? ⟨w.heap.size+1,4,none⟩=some (.slice s.gp s.gn s.gc)∧W.cell? ⟨w.heap.size+1,5,none⟩=some (.slice s.op s.on s.oc)∧W.cell? ⟨w.heap.size+1+1,0,none⟩=some (.int .i64 a.till)∧W.cell? ⟨w.heap.size+1+1,1,none⟩=some (.int .u64 a.num)∧W.cell? ⟨w.heap.size+1+1,2,none⟩=some (.int .i64 a.kind)∧W.cell? ⟨w.heap.size+1+1,3,none⟩=some (.bool a.sure)∧W.cell? ⟨w.heap.size+1+1,4,none⟩=some (.slice a.lines.p a.lines.n a.lines.c)∧W.cell? ⟨w.heap.size+1+1,5,none⟩=some (.slice a.guards.p a.guards.n a.guards.c)∧W.cell? ⟨w.heap.size+1+1,6,none⟩=some (.slice a.sets.p a.sets.n a.sets.c)∧W.cell? ⟨w.heap.size+1+1,7,none⟩=some (.int .i64 a.mg)∧W.cell? ⟨w.heap.size+1+1,8,none⟩=some (.slice a.other.p a.other.n a.other.c)∧W.cell? ⟨w.heap.size+1+1,9,none⟩=some (.int .i64 a.ra)∧W.cell? ⟨w.heap.size+1+1,10,none⟩=some (.int .i64 a.rb)∧W.cell? ⟨w.heap.size+1+1,11,none⟩=some (.int .i64 a.rd)∧W.cell? ⟨w.heap.size+1+1,12,none⟩=some (.int .i64 a.to)∧W.cell? ⟨w.heap.size+1+1,13,none⟩=some (.int .u64 a.gen)∧W.cell? ⟨w.heap.size+1+1,14,none⟩=some (.slice a.rights.p a.rights.n a.rights.c))):=fun W hb=>by
  obtain⟨c0,c1,c2,c3,c4,c5⟩:=ac6 ((hb.block _ (Qab hx2)).trans hx2);obtain⟨a0,a1,a2,a3,a4,a5,a6,a7,a8,a9,a10,a11,a12,a13,a14⟩:=QaA ((hb.block _ (Qab hy2)).trans hy2);exact⟨c0,c1,c2,c3,c4,c5,a0,a1,a2,a3,a4,a5,a6,a7,a8,a9,a10,a11,a12,a13,a14⟩
 have HCp:=Qaa (fun (W:World) (hb:Below w2.heap.size w2 W)=>Z.copyAct_any W a ((hok.below hb2).below hb) (qA a) rfl);have HJu:=Qaa (fun (W:World) (hb:Below w2.heap.size w2 W)=>QhE W s ((hs.below hb2).below hb) hpm hpw a ((hok.below hb2).below hb) hrg);have HWf:Hid (∀x∈(Qaf s a).2.1,Qaw x):=Qid s hpw a hrg.act;obtain⟨po,hpo⟩:=exq (IntKind.u64.wrap (s.pos+1));have HPo:=Qaa hpo;have HR2:Hid (Below w2.heap.size w2 w2):=bR;obtain⟨c0,c1,c2,c3,c4,c5,a0,a1,a2,a3,a4,a5,a6,a7,a8,a9,a10,a11,a12,a13,a14⟩:=HX.out w2 HR2.out;clear hw2 hb2 hx2 hy2 hz2 hs hok hrg hpw;go_enter Tryz.func45,Tryz.ntmps45;go_upto_region 1 with (fail);rw[HW2.out];go_cut [7] from 9 to 14 (fun s7 wc=>∃(eb:Nat) (b:Acd),s7=.pointer (some ⟨eb,0,none⟩)∧Hid (Nxt w2 wc a eb po b))
 case first =>
  refine Vi ?_;refine Vf (S:=(fun W=>W.cell? ⟨w.heap.size+1,0,none⟩=some (.int .u64 s.pos)∧W.cell? ⟨w.heap.size+1,1,none⟩=some (.slice s.pp s.pn s.pc)∧W.cell? ⟨w.heap.size+1,2,none⟩=some (.slice s.rp s.rn s.rc)∧W.cell? ⟨w.heap.size+1,3,none⟩=some (.slice s.lp s.ln s.lc)∧W.cell? ⟨w.heap.size+1,4,none⟩=some (.slice s.gp s.gn s.gc)∧W.cell? ⟨w.heap.size+1,5,none⟩=some (.slice s.op s.on s.oc)∧W.cell? ⟨w.heap.size+1+1,0,none⟩=some (.int .i64 a.till)∧W.cell? ⟨w.heap.size+1+1,1,none⟩=some (.int .u64 a.num)∧W.cell? ⟨w.heap.size+1+1,2,none⟩=some (.int .i64 a.kind)∧W.cell? ⟨w.heap.size+1+1,3,none⟩=some (.bool a.sure)∧W.cell? ⟨w.heap.size+1+1,4,none⟩=some (.slice a.lines.p a.lines.n a.lines.c)∧W.cell? ⟨w.heap.size+1+1,5,none⟩=some (.slice a.guards.p a.guards.n a.guards.c)∧W.cell? ⟨w.heap.size+1+1,6,none⟩=some (.slice a.sets.p a.sets.n a.sets.c)∧W.cell? ⟨w.heap.size+1+1,7,none⟩=some (.int .i64 a.mg)∧W.cell? ⟨w.heap.size+1+1,8,none⟩=some (.slice a.other.p a.other.n a.other.c)∧W.cell? ⟨w.heap.size+1+1,9,none⟩=some (.int .i64 a.ra)∧W.cell? ⟨w.heap.size+1+1,10,none⟩=some (.int .i64 a.rb)∧W.cell? ⟨w.heap.size+1+1,11,none⟩=some (.int .i64 a.rd)∧W.cell? ⟨w.heap.size+1+1,12,none⟩=some (.int .i64 a.to)∧W.cell? ⟨w.heap.size+1+1,13,none⟩=some (.int .u64 a.gen)∧W.cell? ⟨w.heap.size+1+1,14,none⟩=some (.slice a.rights.p a.rights.n a.rights.c))) (by kernel_rfl) (by go_keep) (fun hHeld=>?_);refine tkg 0 ?_;refine tkg 1 ?_;refine tkg 2 ?_;refine tkg 3 ?_;refine VW (rs:=[4,6]) (by kernel_rfl) (by simp) ?_;refine AllReadyH.cons (o:=_) rfl (fun KK hKK=>?_) (AllReadyH.cons (o:=_) rfl (fun KK hKK=>?_) AllReadyH.nil)
  ·
   go_simp;go_at_call 16;refine(HCp.out _ HR2.out.drew).mono ?_;rintro e w5 ⟨b,rfl,hbd,hbo,hb5⟩;obtain⟨HB5,HBo,HBd⟩:=Qmk hb5 hbo hbd;have HBw:Hid (Below w2.heap.size w2 w5):=(HR2.out.drew).trans (hb5.mono (HR2.out.drew).size);clear c0 c1 c2 c3 c4 c5 a0 a1 a2 a3 a4 a5 a6 a7 a8 a9 a10 a11 a12 a13 a14 hHeld hbd hbo hb5;obtain⟨c0,c1,c2,c3,c4,c5,a0,a1,a2,a3,a4,a5,a6,a7,a8,a9,a10,a11,a12,a13,a14⟩:=HX.out w5 HBw.out;obtain⟨Bv,hBv⟩:=exq b.arr;have HBv:=Qaa hBv;rw[hBv];clear hBv;refine hKK.out _ _ (by(try dsimp only);go_keep) (fun hHeld=>?_);clear hKK KK;try simp only[Act.put,qzg,qzh,qzi,qzs,qz0,qz1]
   obtain⟨Ev,hEv⟩:=exq ((QjK po b).arr);have HEv:=Qaa hEv;clear hEv;refine VM (i:=5) (oi:=_) (v:=.agg Ev) rfl (by kernel_rfl) (by kernel_rfl) (by kernel_rfl) (fun _ _ _ h=>h) (Or.inl ⟨by kernel_rfl,fun w9 _=>QeP w9 136 _ rfl [(0,.int .u64 po),(1,.agg Bv)] rfl Ev (by rw[←HBv.out,←HEv.out];exact Qe6 po b)⟩) (by assumption) ?_;try simp only[Act.put,qzg,qzh,qzi,qzs,qz0,qz1]
   refine rdy 6 (fun KK hKK=>?_);have hal:Below w2.heap.size w2 (w5.alloc (.cells qe 136)):=HBw.out.alloc HBw.out.size _;go_simp;clear c0 c1 c2 c3 c4 c5 a0 a1 a2 a3 a4 a5 a6 a7 a8 a9 a10 a11 a12 a13 a14;obtain⟨c0,c1,c2,c3,c4,c5,a0,a1,a2,a3,a4,a5,a6,a7,a8,a9,a10,a11,a12,a13,a14⟩:=HX.out _ hal;refine hKK.out _ _ (by(try dsimp only);go_keep) (fun hHeld=>?_);clear hKK KK;try simp only[Act.put,qzg,qzh,qzi,qzs,qz0,qz1]
   refine rdy 7 (fun KK hKK=>?_);have hgb:(w5.alloc (.cells qe 136)).heap[w5.heap.size]?=some (.cells qe 136 (0,0)):=hNq _ _;have HBs:Hid (Below w2.heap.size w2 ((w5.alloc (.cells qe 136)).setRow (w5.heap.size) Ev)):=VA (hal) HBw.out.size Ev;have hEz:Ev.size=22:=by rw[←HEv.out];rfl
   have hEo:Ev.all (·.oneCell')=true:=by rw[←HEv.out];exact Z.Eda.ones _
   have HBx:=Qaa (VB _ _ _ Ev _ _ hgb);have HAk:=Qaa ((QfA (HBo.out.below ((Below.refl _ w5).alloc (Va _) _)) hgb Ev).le (show w2.heap.size≤_ from HR2.out.drew.size));rw[if_pos (by kernel_rfl)];refine wp_store_row 136 (.tmp 7) (.tmp 14) rfl (w5.heap.size) Ev rfl rfl 136 qe hgb (by rw[hEz];exact Tryz.sizeE) (by rw[hEz];rfl) hEo ?_;clear c0 c1 c2 c3 c4 c5 a0 a1 a2 a3 a4 a5 a6 a7 a8 a9 a10 a11 a12 a13 a14 hgb;obtain⟨c0,c1,c2,c3,c4,c5,a0,a1,a2,a3,a4,a5,a6,a7,a8,a9,a10,a11,a12,a13,a14⟩:=HX.out _ HBs.out;refine hKK.out _ _ (by(try dsimp only);go_keep) (fun hHeld=>?_);clear hKK KK;try simp only[Act.put,qzg,qzh,qzi,qzs,qz0,qz1]
   refine Vp (by kernel_rfl) (Vj ?_) _;go_wp2_with fail
   go_meet;exact⟨w5.heap.size,b,rfl,⟨HBs.out,HBw.out.size,by rw[HEv.out];exact HBx.out,HAk.out,HBd.out⟩⟩
  ·
   have hal:Below w2.heap.size w2 (w2.alloc (.cells qe 136)).drew:=(HR2.out.alloc (Va _) _).drew;go_simp;refine hKK.out _ _ (by(try dsimp only);go_keep) (fun hHeld=>?_);clear hKK KK;try simp only[Act.put,qzg,qzh,qzi,qzs,qz0,qz1]
   refine rdy 4 (fun KK hKK=>?_);go_simp;go_at_call 16;refine(HCp.out _ hal).mono ?_;rintro e w5 ⟨b,rfl,hbd,hbo,hb5⟩;obtain⟨HB5,HBo,HBd⟩:=Qmk hb5 hbo hbd;have HBw:Hid (Below w2.heap.size w2 w5):=(hal).trans (hb5.mono (hal).size);clear c0 c1 c2 c3 c4 c5 a0 a1 a2 a3 a4 a5 a6 a7 a8 a9 a10 a11 a12 a13 a14 hHeld hbd hbo hb5;obtain⟨c0,c1,c2,c3,c4,c5,a0,a1,a2,a3,a4,a5,a6,a7,a8,a9,a10,a11,a12,a13,a14⟩:=HX.out w5 HBw.out;obtain⟨Bv,hBv⟩:=exq b.arr;have HBv:=Qaa hBv;rw[hBv];clear hBv;refine hKK.out _ _ (by(try dsimp only);go_keep) (fun hHeld=>?_);clear hKK KK;try simp only[Act.put,qzg,qzh,qzi,qzs,qz0,qz1]
   obtain⟨Ev,hEv⟩:=exq ((QjK po b).arr);have HEv:=Qaa hEv;clear hEv;refine VM (i:=5) (oi:=_) (v:=.agg Ev) rfl (by kernel_rfl) (by kernel_rfl) (by kernel_rfl) (fun _ _ _ h=>h) (Or.inl ⟨by kernel_rfl,fun w9 _=>QeP w9 136 _ rfl [(0,.int .u64 po),(1,.agg Bv)] rfl Ev (by rw[←HBv.out,←HEv.out];exact Qe6 po b)⟩) (by assumption) ?_;try simp only[Act.put,qzg,qzh,qzi,qzs,qz0,qz1]
   refine rdy 7 (fun KK hKK=>?_);have hgq:w5.heap[w2.heap.size]?=some (.cells qe 136 (0,0)):=(HB5.out.block _ (by simp)).trans (hNq w2 _);rw[hsz2]at hgq;have hgb:(w5).heap[w.heap.size+1+1+1+1]?=some (.cells qe 136 (0,0)):=hgq;have HBs:Hid (Below w2.heap.size w2 ((w5).setRow (w.heap.size+1+1+1+1) Ev)):=VA (HBw.out) (by rw[hsz2];exact Va _) Ev;have hEz:Ev.size=22:=by rw[←HEv.out];rfl
   have hEo:Ev.all (·.oneCell')=true:=by rw[←HEv.out];exact Z.Eda.ones _
   have HBx:=Qaa (VB _ _ _ Ev _ _ hgb);have HAk:=Qaa ((QfA HBo.out hgb Ev).le (show w2.heap.size≤_ from hal.size));rw[if_pos (by kernel_rfl)];refine wp_store_row 136 (.tmp 7) (.tmp 14) rfl (w.heap.size+1+1+1+1) Ev rfl rfl 136 qe hgb (by rw[hEz];exact Tryz.sizeE) (by rw[hEz];rfl) hEo ?_;clear c0 c1 c2 c3 c4 c5 a0 a1 a2 a3 a4 a5 a6 a7 a8 a9 a10 a11 a12 a13 a14 hgb;obtain⟨c0,c1,c2,c3,c4,c5,a0,a1,a2,a3,a4,a5,a6,a7,a8,a9,a10,a11,a12,a13,a14⟩:=HX.out _ HBs.out;refine hKK.out _ _ (by(try dsimp only);go_keep) (fun hHeld=>?_);clear hKK KK;try simp only[Act.put,qzg,qzh,qzi,qzs,qz0,qz1]
   refine Vp (by kernel_rfl) (Vj ?_) _;go_wp2_with fail
   go_meet;exact⟨w.heap.size+1+1+1+1,b,rfl,⟨HBs.out,(by rw[hsz2];exact Va _),by rw[HEv.out];exact HBx.out,HAk.out,HBd.out⟩⟩
 case rest =>
  obtain⟨eb,b,rfl,HN⟩:=hcut;clear c0 c1 c2 c3 c4 c5 a0 a1 a2 a3 a4 a5 a6 a7 a8 a9 a10 a11 a12 a13 a14;obtain⟨c0,c1,c2,c3,c4,c5,a0,a1,a2,a3,a4,a5,a6,a7,a8,a9,a10,a11,a12,a13,a14⟩:=HX.out wc HN.out.bel;have hebl:=Qab HN.out.box;have heb2:=HN.out.hi;have HJw:=Qaa (HJu.out wc HN.out.bel);go_upto_region 3 with (first | (go_at_call 62;refine HJw.out.mono ?_;rintro e w5 ⟨T,rfl,hTd,hTk,hFa,hb5⟩;obtain⟨HTd,HTk,HFa,HB5⟩:=hd4 hTd hTk hFa hb5;have HSt:=Qaa (run_storeAt_new (P:=Tryz.prog) w5 151 #[.int .i64 0,.slice none 0 0,.slice none 0 0,.int .i64 0] T.arr Tryz.sizeT rfl T.ones);clear hTd hTk hFa hb5 c0 c1 c2 c3 c4 c5 a0 a1 a2 a3 a4 a5 a6 a7 a8 a9 a10 a11 a12 a13 a14) | ((with_reducible refine gsq 151 8 ?_);refine Z.lp_store (t:=151) (x:=.tmp 8) (some ⟨w5.heap.size,0,none⟩) (.agg T.arr) rfl rfl HSt.out ?_));have hb6:Below w5.heap.size w5 (w5.alloc (.cells T.arr 151)):=bR.alloc (Va _) _;have hT6:=hNq w5 (.cells T.arr 151);obtain⟨w6,hw6⟩:=exq (w5.alloc (.cells T.arr 151));rw[hw6]at hb6 hT6 ⊢;clear hw6;obtain⟨tb,htb⟩:=exq w5.heap.size;rw[htb]at hT6 ⊢;have htn:¬eb=tb:=by have:=HB5.out.size;omega
  have htn2:¬tb=eb:=fun h=>htn h.symm
  have hbc6:Below wc.heap.size wc w6:=HB5.out.trans (hb6.mono HB5.out.size);have hE6:=(hbc6.block _ hebl).trans HN.out.box;have HTk6:=Qaa (HTk.out.below hb6);have HAc6:=Qaa (HN.out.ok.below hbc6);obtain⟨HBc6,HT6,HE6⟩:=Qmk hbc6 hT6 hE6;clear hb6 hT6 hE6 hbc6;have l0:w6.cell? ⟨tb,0,none⟩=some (.int .i64 T.out):=by rw[cRq HT6.out];rfl
  have u0:w6.cell? ⟨eb,16,none⟩=some (.int .i64 0):=by rw[cRq HE6.out];rfl
  have f0:=VN w6 eb 16 _ _ HE6.out;go_upto_region 4 with (fail);obtain⟨x1,hx1⟩:=exq (w6.setCell ⟨eb,16,none⟩ (.int .i64 T.out));have HE7:Hid (x1.heap[eb]?=some (.cells (⟨po,b,T.out,⟨none,0,0,[]⟩,⟨none,0,0,[]⟩,0,0,0⟩:Eda).arr 136 (0,0))):=by show _=_;rw[←hx1];exact Vx w6 eb 16 _ _ (.int .i64 T.out) HE6.out
  have HT7:Hid (x1.heap[tb]?=some (.cells T.arr 151 (0,0))):=by show _=_;rw[←hx1,Ve _ _ _ _ htn2];exact HT6.out
  have HO7:Hid ((∀g,g≠eb→x1.heap[g]?=w6.heap[g]?)∧w6.heap.size≤x1.heap.size∧Below w2.heap.size w2 x1):=by
   refine⟨fun g hg=>?_,?_,?_⟩
   ·rw[←hx1,Ve _ _ _ _ hg]
   ·rw[←hx1];simp
   ·rw[←hx1];exact(HN.out.bel.trans (HBc6.out.mono HN.out.bel.size)).setCell (p:=⟨eb,16,none⟩) heb2 _
  rw[hx1];clear hx1 l0 u0 f0 HE6 HT6;have HE6:=HE7;have HT6:=HT7;have HO6:=HO7;clear HE7 HT7 HO7;have l1:x1.cell? ⟨tb,1,none⟩=some (.slice T.made.p T.made.n T.made.c):=by rw[cRq HT6.out];rfl
  have u1:x1.cell? ⟨eb,17,none⟩=some (.slice none 0 0):=by rw[cRq HE6.out];rfl
  have f1:=VN x1 eb 17 _ _ HE6.out;go_upto_region 5 with (fail);obtain⟨x2,hx2⟩:=exq (x1.setCell ⟨eb,17,none⟩ (.slice T.made.p T.made.n T.made.c));have HE7:Hid (x2.heap[eb]?=some (.cells (⟨po,b,T.out,T.made,⟨none,0,0,[]⟩,0,0,0⟩:Eda).arr 136 (0,0))):=by show _=_;rw[←hx2];exact Vx x1 eb 17 _ _ (.slice T.made.p T.made.n T.made.c) HE6.out
  have HT7:Hid (x2.heap[tb]?=some (.cells T.arr 151 (0,0))):=by show _=_;rw[←hx2,Ve _ _ _ _ htn2];exact HT6.out
  have HO7:Hid ((∀g,g≠eb→x2.heap[g]?=w6.heap[g]?)∧w6.heap.size≤x2.heap.size∧Below w2.heap.size w2 x2):=by
   refine⟨fun g hg=>?_,?_,?_⟩
   ·rw[←hx2,Ve _ _ _ _ hg];exact HO6.out.1 g hg
   ·rw[←hx2];have:=HO6.out.2.1;simpa using this
   ·rw[←hx2];exact HO6.out.2.2.setCell (p:=⟨eb,17,none⟩) heb2 _
  rw[hx2];clear hx2 l1 u1 f1 HE6 HT6 HO6;have HE6:=HE7;have HT6:=HT7;have HO6:=HO7;clear HE7 HT7 HO7;have l2:x2.cell? ⟨tb,2,none⟩=some (.slice T.sets.p T.sets.n T.sets.c):=by rw[cRq HT6.out];rfl
  have u2:x2.cell? ⟨eb,18,none⟩=some (.slice none 0 0):=by rw[cRq HE6.out];rfl
  have f2:=VN x2 eb 18 _ _ HE6.out;go_upto_region 6 with (fail);obtain⟨x3,hx3⟩:=exq (x2.setCell ⟨eb,18,none⟩ (.slice T.sets.p T.sets.n T.sets.c));have HE7:Hid (x3.heap[eb]?=some (.cells (⟨po,b,T.out,T.made,T.sets,0,0,0⟩:Eda).arr 136 (0,0))):=by show _=_;rw[←hx3];exact Vx x2 eb 18 _ _ (.slice T.sets.p T.sets.n T.sets.c) HE6.out
  have HT7:Hid (x3.heap[tb]?=some (.cells T.arr 151 (0,0))):=by show _=_;rw[←hx3,Ve _ _ _ _ htn2];exact HT6.out
  have HO7:Hid ((∀g,g≠eb→x3.heap[g]?=w6.heap[g]?)∧w6.heap.size≤x3.heap.size∧Below w2.heap.size w2 x3):=by
   refine⟨fun g hg=>?_,?_,?_⟩
   ·rw[←hx3,Ve _ _ _ _ hg];exact HO6.out.1 g hg
   ·rw[←hx3];have:=HO6.out.2.1;simpa using this
   ·rw[←hx3];exact HO6.out.2.2.setCell (p:=⟨eb,18,none⟩) heb2 _
  rw[hx3];clear hx3 l2 u2 f2 HE6 HT6 HO6;have HE6:=HE7;have HT6:=HT7;have HO6:=HO7;clear HE7 HT7 HO7;have l3:x3.cell? ⟨tb,3,none⟩=some (.int .i64 T.n):=by rw[cRq HT6.out];rfl
  have u3:x3.cell? ⟨eb,19,none⟩=some (.int .i64 0):=by rw[cRq HE6.out];rfl
  have f3:=VN x3 eb 19 _ _ HE6.out;go_upto_region 7 with (fail);obtain⟨x4,hx4⟩:=exq (x3.setCell ⟨eb,19,none⟩ (.int .i64 T.n));have HE7:Hid (x4.heap[eb]?=some (.cells (⟨po,b,T.out,T.made,T.sets,T.n,0,0⟩:Eda).arr 136 (0,0))):=by show _=_;rw[←hx4];exact Vx x3 eb 19 _ _ (.int .i64 T.n) HE6.out
  have HT7:Hid (x4.heap[tb]?=some (.cells T.arr 151 (0,0))):=by show _=_;rw[←hx4,Ve _ _ _ _ htn2];exact HT6.out
  have HO7:Hid ((∀g,g≠eb→x4.heap[g]?=w6.heap[g]?)∧w6.heap.size≤x4.heap.size∧Below w2.heap.size w2 x4):=by
   refine⟨fun g hg=>?_,?_,?_⟩
   ·rw[←hx4,Ve _ _ _ _ hg];exact HO6.out.1 g hg
   ·rw[←hx4];have:=HO6.out.2.1;simpa using this
   ·rw[←hx4];exact HO6.out.2.2.setCell (p:=⟨eb,19,none⟩) heb2 _
  rw[hx4];clear hx4 l3 u3 f3 HE6 HT6 HO6;have HE6:=HE7;have HT6:=HT7;have HO6:=HO7;clear HE7 HT7 HO7;obtain⟨Ev,hEv⟩:=exq ((⟨po,b,T.out,T.made,T.sets,T.n,0,0⟩:Eda).arr);have HEv:=Qaa hEv;rw[hEv]at HE6;clear hEv;have hEz:Ev.size=22:=by rw[←HEv.out];rfl
  have hEo:Ev.all (·.oneCell')=true:=by rw[←HEv.out];exact Z.Eda.ones _
  have hz4:x4.heap[w.heap.size+1+1+1]?=some (.cells qe 136 (0,0)):=(HO6.out.2.2.block _ (Qab HZ2.out)).trans HZ2.out;have HL:=Qaa (lr136 HE6.out (by rw[hEz];exact Tryz.sizeE));have HS:=Qaa (Z.storeAt_row (P:=Tryz.prog) (c':=Ev) hz4 (by rw[hEz];exact Tryz.sizeE) (by rw[hEz];rfl) hEo);have HRw:=Qaa (VB _ _ _ Ev _ _ hz4)
  have HF:Hid (QaP (x4.setRow (w.heap.size+1+1+1) Ev) (⟨po,b,T.out,T.made,T.sets,T.n,0,0⟩:Eda)∧Below w.heap.size w (x4.setRow (w.heap.size+1+1+1) Ev)):=by
   have hk:∀g,g≠eb→g≠w.heap.size+1+1+1→(x4.setRow (w.heap.size+1+1+1) Ev).heap[g]?=w6.heap[g]?:=fun g h1 h2=>by rw[Vz _ _ _ _ h2];exact HO6.out.1 g h1
   have hsz:w6.heap.size≤(x4.setRow (w.heap.size+1+1+1) Ev).heap.size:=by simpa using HO6.out.2.1
   have hz6:w6.heap[w.heap.size+1+1+1]?=some (.cells qe 136 (0,0)):=((HN.out.bel.trans (HBc6.out.mono HN.out.bel.size)).block _ (Qab HZ2.out)).trans HZ2.out;have he6:=(HBc6.out.block _ hebl).trans HN.out.box;obtain⟨o1,o2⟩:=HFa.out.off HOk.out eb (by omega) hebl;obtain⟨o3,o4⟩:=HFa.out.off HOk.out (w.heap.size+1+1+1) (by omega) (by omega);refine⟨⟨Ql5 HAc6.out hsz eb _ hk he6 hz6,Qd0 HTk6.out.made hsz eb _ hk o1 o3,Qd0 HTk6.out.sets hsz eb _ hk o2 o4,?_⟩,VA (HB2.out.trans (HO6.out.2.2.mono HB2.out.size)) (by omega) Ev⟩;intro x hx;refine HWf.out x ?_;rw[←HTd.out];exact hx
  clear hEz hEo hz4;go_wp2_with (first | ((with_reducible refine glq 136 7 ?_);refine Z.lp_load eb 0 Ev rfl HL.out ?_) | ((with_reducible refine gsq 136 6 ?_);refine Z.lp_store (t:=136) (x:=.tmp 6) (some ⟨w.heap.size+1+1+1,0,none⟩) (.agg Ev) rfl rfl HS.out ?_))
  refine Vg (VF rfl _ _ (w.heap.size+1+1+1) 136 Ev (0,0) _ rfl HRw.out Tryz.underlying136 rfl (by rw[←HEv.out];exact Tryz.sizeE)) rfl ?_;exact⟨(⟨po,b,T.out,T.made,T.sets,T.n,0,0⟩:Eda),by rw[HEv.out],by unfold Z.Eda.dd QdZ;simp only;rw[HN.out.d,HPo.out,←HTd.out];rfl,HF.out.1,HF.out.2⟩
end Go.Proofs.YtiogibfhafoapaaGreat
