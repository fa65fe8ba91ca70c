import Derived.Test.YtiogibfhafoapaaGreatDcJ
import Derived.Test.YtiogibfhafoapaaGreatAbE
import Derived.Test.YtiogibfhafoapaaGreatAbS
import Derived.Test.YtiogibfhafoapaaGreatFoF
import Derived.Test.YtiogibfhafoapaaGreatFsB
import Derived.Test.YtiogibfhafoapaaGreatMv0
import Derived.Test.YtiogibfhafoapaaGreatAbZ
import Derived.Test.YtiogibfhafoapaaGreatCfB
set_option maxRecDepth 100000
set_option maxHeartbeats 8000000
set_option linter.unusedSimpArgs false
set_option linter.unusedVariables false
namespace Go.Proofs.YtiogibfhafoapaaGreat
open Go.RowKit Go.Sort
open Z (Sli SlOk Acd AcdOk Eda EdaOk AcOwn)
theorem rfold_any (w:World) (c:Cfg) (s:Sta) (hs:StaOk w s) (hsm:StSm s) (hpw:∀p∈s.pools,LinWf (frL p)) (hsh:Shp c s) (hcl:c.cl≤4194304) (hpl:c.pl≤4194304) (htl:0≤c.tills∧c.tills≤1000000) (e:Eda) (hok:EdaOk w e) :
  Calls Tryz.prog 44 #[.agg (qC c),.agg (qS s),.agg (qE e)] w (FoldP w c s e):=by
 by_cases hO:OrdOk s e
 ·by_cases k0:e.ac.kind=0
  ·exact rfold_fence w c s hs hsm hpw hsh hcl hpl htl e hok hO k0
  ·by_cases hC:ChkV c e.ac 0
   ·by_cases hN:NumOk s e
    ·exact rfold_act w c s hs hsm hpw hsh hcl hpl htl e hok hO k0 hC hN
    ·exact rfold_num w c s hs hsm hpw hsh hcl hpl htl e hok hO k0 hC hN
   ·exact rfold_chk w c s hs hsm hpw hsh hcl hpl htl e hok hO k0 hC
 ·exact rfold_ord w c s hs hsm hpw hsh hcl hpl htl e hok hO
end Go.Proofs.YtiogibfhafoapaaGreat
namespace Go.Proofs.YtiogibfhafoapaaGreat
open Go.RowKit
open Z (Sli SlOk Acd AcdOk Eda EdaOk AcOwn Ctr ctc)
def FrWf (l:List Pl):Prop:=∀p∈l,LinWf (frL p)
theorem frw_shift {P:Pl} (h:LinWf (frL P)) (t:Nat) (w n:Int):LinWf (frL (P.shift t w n)):=by
 unfold Pl.shift frL at *;split
 ·exact⟨wf_wrap _,h.2⟩
 ·exact⟨h.1,wf_wrap _⟩
theorem frw_line {P:Pl} (h:LinWf (frL P)) (n:Int) (b:Bool) (t:Nat):LinWf (frL (P.line n b t)):=by
 unfold Pl.line frL at *;split <;> split
 ·exact⟨h.1,wf_wrap _⟩
 ·exact⟨wf_wrap _,wf_wrap _⟩
 ·exact⟨wf_wrap _,h.2⟩
 ·exact⟨wf_wrap _,wf_wrap _⟩
theorem frw_getD {l:List Pl} (h:FrWf l) (k:Nat):LinWf (frL (l.getD k pl0)):=by
 rw[List.getD_eq_getElem?_getD]
 cases h1:l[k]? with
 | none=>exact⟨rfl,rfl⟩
 | some P=>exact h P (List.mem_of_getElem? h1)
theorem frw_up {s:Sta} (h:FrWf s.pools) (k:Nat) {P:Pl} (hP:LinWf (frL P)):FrWf (s.upP k P).pools:=fun p hp=>by
 rcases mem_upP hp with h1 | rfl
 ·exact h p h1
 ·exact hP
theorem frw_lineAt {s:Sta} (h:FrWf s.pools) (x:Lin) (b:Bool) (t:Nat):FrWf (s.lineAt x b t).pools:=frw_up h _ (frw_line (frw_getD h _) _ _ _)
theorem frw_shiftAt {s:Sta} (h:FrWf s.pools) (t:Nat) (c w n:Int):FrWf (s.shiftAt t c w n).pools:=frw_up h _ (frw_shift (frw_getD h _) _ _ _)
theorem frw_lines (b:Bool) (t:Nat):∀(xs:List Lin) (s:Sta),FrWf s.pools→FrWf (xs.foldl (fun s x=>s.lineAt x b t) s).pools
 | [],_,h=>h
 | _ :: xs,_,h=>frw_lines b t xs _ (frw_lineAt h _ b t)
theorem frw_sets:∀(xs:List Tri) (s:Sta),FrWf s.pools→FrWf (xs.foldl Sta.setPr s).pools
 | [],_,h=>h
 | _ :: xs,_,h=>frw_sets xs _ h
theorem frw_shifts (t:Nat):∀(xs:List Tri) (s:Sta),FrWf s.pools→FrWf (xs.foldl (fun s x=>s.shiftAt t x.a x.b (wrap64 (-x.n))) s).pools
 | [],_,h=>h
 | _ :: xs,_,h=>frw_shifts t xs _ (frw_shiftAt h t _ _ _)
theorem frw_eff {s:Sta} (h:FrWf s.pools) (e:Eda):FrWf (effD s e).pools:=by
 unfold effD;simp only;have h2:=frw_sets e.sets.xs _ (frw_lines e.ac.sure e.ac.till.toNat e.made.xs s h)
 have h3:FrWf (if e.oc=4 then (e.sets.xs.foldl Sta.setPr (e.made.xs.foldl (fun s x=>s.lineAt x e.ac.sure e.ac.till.toNat) s)).shiftAt e.ac.till.toNat e.ac.ra e.ac.rb e.n else (e.sets.xs.foldl Sta.setPr (e.made.xs.foldl (fun s x=>s.lineAt x e.ac.sure e.ac.till.toNat) s))).pools:=by
  split
  ·exact frw_shiftAt h2 _ _ _ _
  ·exact h2
 split
 ·exact h3
 ·split
  ·exact frw_shiftAt h3 _ _ _ _
  ·split
   ·exact frw_shiftAt (frw_shiftAt h3 _ _ _ _) _ _ _ _
   ·split
    ·exact frw_shifts _ _ _ h3
    ·exact h3
theorem frw_d {s r:Sta} (h:FrWf s.pools) (hd:r.d=s.d):FrWf r.pools:=fun p hp=>by
 have h1:r.pools.map Pl.d=s.pools.map Pl.d:=by have h2:=congrArg StP.pools hd;exact h2
 have h2:p.d∈s.pools.map Pl.d:=by rw[←h1];exact List.mem_map.2 ⟨p,hp,rfl⟩
 obtain⟨q,hq,e⟩:=List.mem_map.1 h2;have e1:q.f0=p.f0:=congrArg PlP.f0 e;have e2:q.f1=p.f1:=congrArg PlP.f1 e;have h3:=h q hq;unfold frL at *;rw[←e1,←e2];exact h3
theorem frw_fold {s r0:Sta} (h:FrWf s.pools) (hd:r0.d=s.d) (e:Eda):FrWf (foldR r0 e).pools:=by
 have h0:=frw_d h hd;unfold foldR;split
 ·exact h0
 ·exact frw_eff (s:=(r0.setPos e.po).setLast e.ac.till.toNat e.ac.num) h0 e
theorem lwf_of {n:Int} (h : -9223372036854775808≤n∧n≤9223372036854775807):(Lit.int .i64 n).wf=true:=by
 have h1:=wf_wrap n;rwa [Z.w64_id h]at h1
theorem frw_right {c:Cfg} {cs:List Ctr} {w:World} {r:Sta} (hc:CfgOk w c cs) (hl:r.pools.length=r.pn) (h:RightOk c cs r):FrWf r.pools:=fun p hp=>by
 obtain⟨i,hi,e⟩:=List.mem_iff_getElem.1 hp;have h1:=hc.len;have h2:=h.shp.pn;obtain⟨x,hx⟩:∃x,cs[i]?=some x:=⟨_,List.getElem?_eq_getElem (by omega)⟩;have h3:=h.pools i x p hx (by rw[←e];exact List.getElem?_eq_getElem hi);have hb:=hc.bnd x (List.mem_of_getElem? hx);have a1:=h3.down.f0;have a2:=h3.down.free;have a3:=h3.up.f0;have a4:=h3.up.free;have v1:=h3.vlo;have v2:=h3.vhi;exact⟨lwf_of (by show _≤p.f0∧p.f0≤_;omega),lwf_of (by show _≤p.f1∧p.f1≤_;omega)⟩
structure StG (w:World) (c:Cfg) (s:Sta):Prop where
 ok:StaOk w s
 shp:Shp c s
 wf:FrWf s.pools
theorem StG.below {w w':World} {c:Cfg} {s:Sta} (h:StG w c s) (hb:Below w.heap.size w w'):StG w' c s:=⟨h.ok.below hb,h.shp,h.wf⟩
def BehP (w:World) (c:Cfg) (s:Sta) (E:Ending) (w':World):Prop:=∃r:Sta,E=.returned (.agg r.arr)∧StG w' c r∧((∃B,StaOw B w' r)∨r=s)∧Below w.heap.size w w'
structure Bhd (w W:World) (C S O:Array Value):Prop where
 cb:W.heap[w.heap.size]?=some (.cells C 34 (0,0))
 sb:W.heap[w.heap.size+1]?=some (.cells S 42 (0,0))
 ob:W.heap[w.heap.size+1+1]?=some (.cells O 57 (0,0))
 rb:W.heap[w.heap.size+1+1+1]?=some (.cells qs 42 (0,0))
 bel:Below w.heap.size w W
theorem Bhd.below {w W W':World} {C S O:Array Value} (h:Bhd w W C S O) (hb:Below W.heap.size W W'):Bhd w W' C S O :=
 ⟨(hb.block _ (ac_lt h.cb)).trans h.cb,(hb.block _ (ac_lt h.sb)).trans h.sb,(hb.block _ (ac_lt h.ob)).trans h.ob,(hb.block _ (ac_lt h.rb)).trans h.rb,h.bel.trans (hb.mono h.bel.size)⟩
theorem Bhd.told {w W:World} {C S O:Array Value} (h:Bhd w W C S O) {c:Cfg} {s r:Sta} (hr:StG W c r) (hf:(∃B,StaOw B W r)∨(r=s∧StaOk w r)) (E:Array Value):(W.setRow (w.heap.size+1+1+1) E).heap[w.heap.size+1+1+1]?=some (.cells E 42 (0,0))∧StG (W.setRow (w.heap.size+1+1+1) E) c r∧((∃B,StaOw B (W.setRow (w.heap.size+1+1+1) E) r)∨r=s)∧Below w.heap.size w (W.setRow (w.heap.size+1+1+1) E):=by
 have hb:Below w.heap.size w (W.setRow (w.heap.size+1+1+1) E):=below_setRow h.bel (by omega) E;rcases hf with ⟨B,hf⟩ | ⟨he,hf⟩
 ·have ho:=hf.far (W':=W.setRow (w.heap.size+1+1+1) E) (fun g C t hg ht=>setRow_other _ _ _ _ (by rintro rfl;rw[h.rb]at hg;cases hg;exact not_mut rfl ht))
  exact⟨setRow_heap _ _ _ _ _ _ h.rb,⟨ho.ok,hr.shp,hr.wf⟩,Or.inl ⟨B,ho⟩,hb⟩
 ·exact⟨setRow_heap _ _ _ _ _ _ h.rb,⟨hf.below hb,hr.shp,hr.wf⟩,Or.inr he,hb⟩
theorem eda_nil {W:World} {E:Eda} {po til ge:Int} (h:EdaOk W E) (hd:E.dd=(po,noAct.d,0,[],[],0,til,ge)):∀W':World,EdaOk W' E:=fun W'=>by
 have h1:E.ac.d=noAct.d:=congrArg (fun x=>x.2.1) hd;have h2:E.made.xs=[]:=congrArg (fun x=>x.2.2.2.1) hd;have h3:E.sets.xs=[]:=congrArg (fun x=>x.2.2.2.2.1) hd;have K:∀{α:Type} {sz:Nat} {f:α→List Value} {s:Sli α},SlOk W sz f s→s.xs=[]→SlOk W' sz f s:=fun h e=>⟨h.len,h.most,Or.inl (by rw[e];rfl)⟩
 exact⟨⟨K h.ac.lines (congrArg Z.AcP.lines h1),K h.ac.guards (congrArg Z.AcP.guards h1),K h.ac.sets (congrArg Z.AcP.sets h1),K h.ac.other (congrArg Z.AcP.other h1),K h.ac.rights (congrArg Z.AcP.rights h1)⟩,K h.made h2,K h.sets h3,h.wf⟩
theorem chk_some (c:Cfg) (a:Acd):∃V,ChkV c a V:=by
 by_cases hK:KindOk a
 ·by_cases hH:HeadOk c a
  ·by_cases h1:a.kind=1
   ·exact⟨_,⟨fun h=>absurd hK h,fun _ h=>absurd hH h,fun _ _ _=>rfl,fun _ _ h=>absurd h1 h⟩⟩
   ·exact⟨_,⟨fun h=>absurd hK h,fun _ h=>absurd hH h,fun _ _ h=>absurd h h1,fun _ _ _=>rfl⟩⟩
  ·exact⟨_,⟨fun h=>absurd hK h,fun _ _=>rfl,fun _ h=>absurd h hH,fun _ h=>absurd h hH⟩⟩
 ·exact⟨_,⟨fun _=>rfl,fun h=>absurd h hK,fun h=>absurd h hK,fun h=>absurd h hK⟩⟩
end Go.Proofs.YtiogibfhafoapaaGreat
namespace Go.Proofs.YtiogibfhafoapaaGreat
open Go.RowKit Go.Sort
open Z (Sli SlOk Acd AcdOk Eda EdaOk AcOwn Ctr ctc)
theorem behind_0 (w:World) (c:Cfg) (cs:List Ctr) (hcf:CfgOk w c cs) (h1t:1≤c.tills) (hcl1:1≤c.cl) (s:Sta) (hg:StG w c s) (o:Stp) (hok:AcdOk w o.ac) (h1:¬o.do_=1) (h3:¬o.do_=3) (h4:¬o.do_=4) :
  Calls Tryz.prog 19 #[.agg (qC c),.agg (qS s),.agg o.arr] w (BehP w c s):=by
 obtain⟨O,hO⟩:∃O:Array Value,o.arr=O:=⟨_,rfl⟩;have hOz:O.size=20:=by rw[←hO];rfl
 obtain⟨w2,hw2,hb2,hc2,hs2,ho2,hr2,hsz2⟩:=step_boxes w (qC c) (qS s) O qs 42;have HW2:=hide hw2;have HM:Hid (Bhd w w2 (qC c) (qS s) O):=⟨hc2,hs2,ho2,hr2,hb2⟩;have HS0:=hide hg.ok;have HG:=hide (hg.below hb2);have HCf:=hide (hcf.below hb2);have HOk:=hide (hok.below hb2)
 have HOc:Hid (∀W:World,W.heap[w.heap.size+1+1]?=some (.cells O 57 (0,0))→W.cell? ⟨w.heap.size+1+1,0,none⟩=some (.int .i64 o.do_)∧W.cell? ⟨w.heap.size+1+1,18,none⟩=some (.int .i64 o.till)):=fun W h=>by
  refine⟨?_,?_⟩ <;> · rw[cell_of_row _ _ _ _ _ _ h,←hO];rfl
 have HLO:Hid (∀W:World,W.heap[w.heap.size+1+1]?=some (.cells O 57 (0,0))→(Instr.loadAt 57 (.pointer (some ⟨w.heap.size+1+1,0,none⟩))).run Tryz.prog W=.ok (.agg O) W):=fun W h=>Z.loadAt_row (P:=Tryz.prog) (ty:=57) h Tryz.underlying57 rfl (by rw[hOz];kernel_rfl)
 obtain⟨o0,o18⟩:=HOc.out w2 ho2;obtain⟨c0,c1,c2,c3,c4,c5⟩:=ac6 hs2;obtain⟨d0,d1,d2,d3,d4,d5,d6,d7,d8⟩:=ac9 hc2;have n1:((o.do_:Int) == 1)=false:=by simp[h1]
 have n3:((o.do_:Int) == 3)=false:=by simp[h3]
 have n4:((o.do_:Int) == 4)=false:=by simp[h4]
 clear h1 h3 h4;have HOe:=hide hO;rw[hO];clear hO hOz hw2 hb2 hc2 hs2 ho2 hr2 hsz2 hg hcf hok;go_enter Tryz.func19,Tryz.ntmps19;go_upto_region 1 with (fail);rw[HW2.out];have HGW:=HG;have HSt8:=hide (Z.storeAt_row (P:=Tryz.prog) (c':=(qS s)) HM.out.rb Tryz.sizeS rfl (by simp[Value.oneCell']));go_wp2_with (first | ((with_reducible show wpList _ _ _ (⟨_,.store 42 (.tmp 6) _,_,_,_,_⟩ :: _) _ _);refine Z.lp_store (t:=42) (x:=.tmp 6) (some ⟨w.heap.size+1+1+1,0,none⟩) (.agg (qS s)) rfl rfl HSt8.out ?_) | fail)
 refine bodyPost_ret (results_cell_row rfl _ _ (w.heap.size+1+1+1) 42 (qS s) (0,0) _ rfl (HM.out.told (s:=s) HGW.out (Or.inr ⟨rfl,HS0.out⟩) _).1 Tryz.underlying42 rfl Tryz.sizeS) rfl ?_;exact⟨s,rfl,(HM.out.told HGW.out (Or.inr ⟨rfl,HS0.out⟩) _).2⟩
end Go.Proofs.YtiogibfhafoapaaGreat
