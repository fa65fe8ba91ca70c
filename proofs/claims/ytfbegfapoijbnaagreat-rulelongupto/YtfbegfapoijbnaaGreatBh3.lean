import Derived.Test.YtfbegfapoijbnaaGreatFoF
import Derived.Test.YtfbegfapoijbnaaGreatMv2n
import Derived.Test.YtfbegfapoijbnaaGreatFoI
import Derived.Test.YtfbegfapoijbnaaGreatCfA
import Derived.Test.YtfbegfapoijbnaaGreatTk
set_option maxRecDepth 100000
namespace Go.Proofs.YtfbegfapoijbnaaGreat
open Go.RowKit Go.Sort
open Z (Sli SlOk Acd AcdOk Eda EdaOk AcOwn)
theorem rfold_any (w:World) (c:Cfg) (s:Sta) (hs:StaOk w s) (hsm:StSm s) (hpw:∀p∈s.pools,LinWf (frL p)) (hsh:Shp c s) (hcl:c.cl≤4194304) (hpl:c.pl≤4194304) (htl:0≤c.tills∧c.tills≤1000000) (e:Eda) (hok:EdaOk w e) :
  Calls Tryz.prog 26 #[.agg #[.int .i64 c.tills,.slice c.cp c.cl c.cc,.slice c.pp c.pl c.pc,.int .i64 c.lease,.int .i64 c.watch,.int .i64 c.beat,.int .i64 c.window,.int .i64 c.cap,.int .i64 c.flight],.agg #[.int .u64 s.pos,.slice s.pp s.pn s.pc,.slice s.rp s.rn s.rc,.slice s.lp s.ln s.lc,.slice s.gp s.gn s.gc,.slice s.op s.on s.oc],.agg #[.int .u64 e.po,.int .i64 e.ac.till,.int .u64 e.ac.num,.int .i64 e.ac.kind,.bool e.ac.sure,.slice e.ac.lines.p e.ac.lines.n e.ac.lines.c,.slice e.ac.guards.p e.ac.guards.n e.ac.guards.c,.slice e.ac.sets.p e.ac.sets.n e.ac.sets.c,.int .i64 e.ac.mg,.slice e.ac.other.p e.ac.other.n e.ac.other.c,.int .i64 e.ac.ra,.int .i64 e.ac.rb,.int .i64 e.ac.rd,.int .i64 e.ac.to,.int .u64 e.ac.gen,.slice e.ac.rights.p e.ac.rights.n e.ac.rights.c,.int .i64 e.oc,.slice e.made.p e.made.n e.made.c,.slice e.sets.p e.sets.n e.sets.c,.int .i64 e.n,.int .i64 e.fe,.int .u64 e.ge]] w (FoldP w c s e):=by
 by_cases hO:OrdOk s e
 ·by_cases k0:e.ac.kind=0
  ·exact rfold_fence w c s hs hsm hpw hsh hcl hpl htl e hok hO k0
  ·by_cases hC:ChkV c e.ac 0
   ·by_cases hN:NumOk s e
    ·exact rfold_act w c s hs hsm hpw hsh hcl hpl htl e hok hO k0 hC hN
    ·exact rfold_num w c s hs hsm hpw hsh hcl hpl htl e hok hO k0 hC hN
   ·exact rfold_chk w c s hs hsm hpw hsh hcl hpl htl e hok hO k0 hC
 ·exact rfold_ord w c s hs hsm hpw hsh hcl hpl htl e hok hO
end Go.Proofs.YtfbegfapoijbnaaGreat
namespace Go.Proofs.YtfbegfapoijbnaaGreat
open Go.RowKit
open Z (Sli SlOk Acd AcdOk Eda EdaOk AcOwn Ctr ctc)
def FrWf (l:List Pl):Prop:=∀p∈l,LinWf (frL p)
theorem frw_shift {P:Pl} (h:LinWf (frL P)) (t:Nat) (w n:Int):LinWf (frL (P.shift t w n)):=by
 unfold Pl.shift frL at *
 split
 ·exact⟨wf_wrap _,h.2⟩
 ·exact⟨h.1,wf_wrap _⟩
theorem frw_line {P:Pl} (h:LinWf (frL P)) (n:Int) (b:Bool) (t:Nat):LinWf (frL (P.line n b t)):=by
 unfold Pl.line frL at *
 split <;> split
 ·exact⟨h.1,wf_wrap _⟩
 ·exact⟨wf_wrap _,wf_wrap _⟩
 ·exact⟨wf_wrap _,h.2⟩
 ·exact⟨wf_wrap _,wf_wrap _⟩
theorem frw_getD {l:List Pl} (h:FrWf l) (k:Nat):LinWf (frL (l.getD k pl0)):=by
 rw[List.getD_eq_getElem?_getD]
 cases h1:l[k]? with
 | none=>exact⟨rfl,rfl⟩
 | some P=>exact h P (List.mem_of_getElem? h1)
theorem frw_up {s:Sta} (h:FrWf s.pools) (k:Nat) {P:Pl} (hP:LinWf (frL P)):FrWf (s.upP k P).pools:=fun p hp=>by
 rcases mem_upP hp with h1 | rfl
 ·exact h p h1
 ·exact hP
theorem frw_lineAt {s:Sta} (h:FrWf s.pools) (x:Lin) (b:Bool) (t:Nat):FrWf (s.lineAt x b t).pools:=frw_up h _ (frw_line (frw_getD h _) _ _ _)
theorem frw_shiftAt {s:Sta} (h:FrWf s.pools) (t:Nat) (c w n:Int):FrWf (s.shiftAt t c w n).pools:=frw_up h _ (frw_shift (frw_getD h _) _ _ _)
theorem frw_lines (b:Bool) (t:Nat):∀(xs:List Lin) (s:Sta),FrWf s.pools→FrWf (xs.foldl (fun s x=>s.lineAt x b t) s).pools
 | [],_,h=>h
 | _ :: xs,_,h=>frw_lines b t xs _ (frw_lineAt h _ b t)
theorem frw_sets:∀(xs:List Tri) (s:Sta),FrWf s.pools→FrWf (xs.foldl Sta.setPr s).pools
 | [],_,h=>h
 | _ :: xs,_,h=>frw_sets xs _ h
theorem frw_shifts (t:Nat):∀(xs:List Tri) (s:Sta),FrWf s.pools→FrWf (xs.foldl (fun s x=>s.shiftAt t x.a x.b (wrap64 (-x.n))) s).pools
 | [],_,h=>h
 | _ :: xs,_,h=>frw_shifts t xs _ (frw_shiftAt h t _ _ _)
theorem frw_eff {s:Sta} (h:FrWf s.pools) (e:Eda):FrWf (effD s e).pools:=by
 unfold effD
 simp only
 have h2:=frw_sets e.sets.xs _ (frw_lines e.ac.sure e.ac.till.toNat e.made.xs s h)
 have h3:FrWf (if e.oc=4 then (e.sets.xs.foldl Sta.setPr (e.made.xs.foldl (fun s x=>s.lineAt x e.ac.sure e.ac.till.toNat) s)).shiftAt e.ac.till.toNat e.ac.ra e.ac.rb e.n else (e.sets.xs.foldl Sta.setPr (e.made.xs.foldl (fun s x=>s.lineAt x e.ac.sure e.ac.till.toNat) s))).pools:=by
  split
  ·exact frw_shiftAt h2 _ _ _ _
  ·exact h2
 split
 ·exact h3
 ·split
  ·exact frw_shiftAt h3 _ _ _ _
  ·split
   ·exact frw_shiftAt (frw_shiftAt h3 _ _ _ _) _ _ _ _
   ·split
    ·exact frw_shifts _ _ _ h3
    ·exact h3
theorem frw_d {s r:Sta} (h:FrWf s.pools) (hd:r.d=s.d):FrWf r.pools:=fun p hp=>by
 have h1:r.pools.map Pl.d=s.pools.map Pl.d:=by have h2:=congrArg StP.pools hd;exact h2
 have h2:p.d∈s.pools.map Pl.d:=by rw[←h1];exact List.mem_map.2 ⟨p,hp,rfl⟩
 obtain⟨q,hq,e⟩:=List.mem_map.1 h2
 have e1:q.f0=p.f0:=congrArg PlP.f0 e
 have e2:q.f1=p.f1:=congrArg PlP.f1 e
 have h3:=h q hq
 unfold frL at *
 rw[←e1,←e2];exact h3
theorem frw_fold {s r0:Sta} (h:FrWf s.pools) (hd:r0.d=s.d) (e:Eda):FrWf (foldR r0 e).pools:=by
 have h0:=frw_d h hd
 unfold foldR
 split
 ·exact h0
 ·exact frw_eff (s:=(r0.setPos e.po).setLast e.ac.till.toNat e.ac.num) h0 e
theorem lwf_of {n:Int} (h : -9223372036854775808≤n∧n≤9223372036854775807):(Lit.int .i64 n).wf=true:=by
 have h1:=wf_wrap n
 rwa [Z.w64_id h]at h1
theorem frw_right {c:Cfg} {cs:List Ctr} {w:World} {r:Sta} (hc:CfgOk w c cs) (hl:r.pools.length=r.pn) (h:RightOk c cs r):FrWf r.pools:=fun p hp=>by
 obtain⟨i,hi,e⟩:=List.mem_iff_getElem.1 hp
 have h1:=hc.len
 have h2:=h.shp.pn
 obtain⟨x,hx⟩:∃x,cs[i]?=some x:=⟨_,List.getElem?_eq_getElem (by omega)⟩
 have h3:=h.pools i x p hx (by rw[←e];exact List.getElem?_eq_getElem hi)
 have hb:=hc.bnd x (List.mem_of_getElem? hx)
 have a1:=h3.down.f0
 have a2:=h3.down.free
 have a3:=h3.up.f0
 have a4:=h3.up.free
 have v1:=h3.vlo
 have v2:=h3.vhi
 exact⟨lwf_of (by show _≤p.f0∧p.f0≤_;omega),lwf_of (by show _≤p.f1∧p.f1≤_;omega)⟩
structure StG (w:World) (c:Cfg) (s:Sta):Prop where
 ok:StaOk w s
 shp:Shp c s
 wf:FrWf s.pools
theorem StG.below {w w':World} {c:Cfg} {s:Sta} (h:StG w c s) (hb:Below w.heap.size w w'):StG w' c s:=⟨h.ok.below hb,h.shp,h.wf⟩
def BehP (w:World) (c:Cfg) (s:Sta) (E:Ending) (w':World):Prop:=∃r:Sta,E=.returned (.agg r.arr)∧StG w' c r∧((∃B,StaOw B w' r)∨r=s)∧Below w.heap.size w w'
structure Bhd (w W:World) (C S O:Array Value):Prop where
 cb:W.heap[w.heap.size]?=some (.cells C 37 (0,0))
 sb:W.heap[w.heap.size+1]?=some (.cells S 45 (0,0))
 ob:W.heap[w.heap.size+1+1]?=some (.cells O 58 (0,0))
 rb:W.heap[w.heap.size+1+1+1]?=some (.cells #[.int .u64 0,.slice none 0 0,.slice none 0 0,.slice none 0 0,.slice none 0 0,.slice none 0 0] 45 (0,0))
 bel:Below w.heap.size w W
theorem Bhd.below {w W W':World} {C S O:Array Value} (h:Bhd w W C S O) (hb:Below W.heap.size W W'):Bhd w W' C S O :=
 ⟨(hb.block _ (ac_lt h.cb)).trans h.cb,(hb.block _ (ac_lt h.sb)).trans h.sb,(hb.block _ (ac_lt h.ob)).trans h.ob,(hb.block _ (ac_lt h.rb)).trans h.rb,h.bel.trans (hb.mono h.bel.size)⟩
theorem Bhd.told {w W:World} {C S O:Array Value} (h:Bhd w W C S O) {c:Cfg} {s r:Sta} (hr:StG W c r) (hf:(∃B,StaOw B W r)∨(r=s∧StaOk w r)) (E:Array Value):(W.setRow (w.heap.size+1+1+1) E).heap[w.heap.size+1+1+1]?=some (.cells E 45 (0,0))∧StG (W.setRow (w.heap.size+1+1+1) E) c r∧((∃B,StaOw B (W.setRow (w.heap.size+1+1+1) E) r)∨r=s)∧Below w.heap.size w (W.setRow (w.heap.size+1+1+1) E):=by
 have hb:Below w.heap.size w (W.setRow (w.heap.size+1+1+1) E):=below_setRow h.bel (by omega) E
 rcases hf with ⟨B,hf⟩ | ⟨he,hf⟩
 ·have ho:=hf.far (W':=W.setRow (w.heap.size+1+1+1) E) (fun g C t hg ht=>setRow_other _ _ _ _ (by rintro rfl;rw[h.rb]at hg;cases hg;exact not_mut rfl ht))
  exact⟨setRow_heap _ _ _ _ _ _ h.rb,⟨ho.ok,hr.shp,hr.wf⟩,Or.inl ⟨B,ho⟩,hb⟩
 ·exact⟨setRow_heap _ _ _ _ _ _ h.rb,⟨hf.below hb,hr.shp,hr.wf⟩,Or.inr he,hb⟩
theorem eda_nil {W:World} {E:Eda} {po til ge:Int} (h:EdaOk W E) (hd:E.dd=(po,noAct.d,0,[],[],0,til,ge)):∀W':World,EdaOk W' E:=fun W'=>by
 have h1:E.ac.d=noAct.d:=congrArg (fun x=>x.2.1) hd
 have h2:E.made.xs=[]:=congrArg (fun x=>x.2.2.2.1) hd
 have h3:E.sets.xs=[]:=congrArg (fun x=>x.2.2.2.2.1) hd
 have K:∀{α:Type} {sz:Nat} {f:α→List Value} {s:Sli α},SlOk W sz f s→s.xs=[]→SlOk W' sz f s:=fun h e=>⟨h.len,h.most,Or.inl (by rw[e];rfl)⟩
 exact⟨⟨K h.ac.lines (congrArg Z.AcP.lines h1),K h.ac.guards (congrArg Z.AcP.guards h1),K h.ac.sets (congrArg Z.AcP.sets h1),K h.ac.other (congrArg Z.AcP.other h1),K h.ac.rights (congrArg Z.AcP.rights h1)⟩,K h.made h2,K h.sets h3,h.wf⟩
theorem chk_some (c:Cfg) (a:Acd):∃V,ChkV c a V:=by
 by_cases hK:KindOk a
 ·by_cases hH:HeadOk c a
  ·by_cases h1:a.kind=1
   ·exact⟨_,⟨fun h=>absurd hK h,fun _ h=>absurd hH h,fun _ _ _=>rfl,fun _ _ h=>absurd h1 h⟩⟩
   ·exact⟨_,⟨fun h=>absurd hK h,fun _ h=>absurd hH h,fun _ _ h=>absurd h h1,fun _ _ _=>rfl⟩⟩
  ·exact⟨_,⟨fun h=>absurd hK h,fun _ _=>rfl,fun _ h=>absurd h hH,fun _ h=>absurd h hH⟩⟩
 ·exact⟨_,⟨fun _=>rfl,fun h=>absurd h hK,fun h=>absurd h hK,fun h=>absurd h hK⟩⟩
end Go.Proofs.YtfbegfapoijbnaaGreat
namespace Go.Proofs.YtfbegfapoijbnaaGreat
open Go.RowKit Go.Sort
open Z (Sli SlOk Acd AcdOk Eda EdaOk AcOwn Ctr ctc)
set_option linter.unusedSimpArgs false in
set_option linter.unusedVariables false in
set_option maxHeartbeats 4000000 in
theorem behind_0 (w:World) (c:Cfg) (cs:List Ctr) (hcf:CfgOk w c cs) (h1t:1≤c.tills) (hcl1:1≤c.cl) (s:Sta) (hg:StG w c s) (o:Stp) (hok:AcdOk w o.ac) (h1:¬o.do_=1) (h3:¬o.do_=3) (h4:¬o.do_=4) :
  Calls Tryz.prog 6 #[.agg #[.int .i64 c.tills,.slice c.cp c.cl c.cc,.slice c.pp c.pl c.pc,.int .i64 c.lease,.int .i64 c.watch,.int .i64 c.beat,.int .i64 c.window,.int .i64 c.cap,.int .i64 c.flight],.agg #[.int .u64 s.pos,.slice s.pp s.pn s.pc,.slice s.rp s.rn s.rc,.slice s.lp s.ln s.lc,.slice s.gp s.gn s.gc,.slice s.op s.on s.oc],.agg o.arr] w (BehP w c s):=by
 obtain⟨O,hO⟩:∃O:Array Value,o.arr=O:=⟨_,rfl⟩
 have hOz:O.size=20:=by rw[←hO];rfl
 obtain⟨w2,hw2,hb2,hc2,hs2,ho2,hr2,hsz2⟩:=step_boxes w #[.int .i64 c.tills,.slice c.cp c.cl c.cc,.slice c.pp c.pl c.pc,.int .i64 c.lease,.int .i64 c.watch,.int .i64 c.beat,.int .i64 c.window,.int .i64 c.cap,.int .i64 c.flight] #[.int .u64 s.pos,.slice s.pp s.pn s.pc,.slice s.rp s.rn s.rc,.slice s.lp s.ln s.lc,.slice s.gp s.gn s.gc,.slice s.op s.on s.oc] O #[.int .u64 0,.slice none 0 0,.slice none 0 0,.slice none 0 0,.slice none 0 0,.slice none 0 0] 45
 have HW2:=hide hw2
 have HM:Hid (Bhd w w2 #[.int .i64 c.tills,.slice c.cp c.cl c.cc,.slice c.pp c.pl c.pc,.int .i64 c.lease,.int .i64 c.watch,.int .i64 c.beat,.int .i64 c.window,.int .i64 c.cap,.int .i64 c.flight] #[.int .u64 s.pos,.slice s.pp s.pn s.pc,.slice s.rp s.rn s.rc,.slice s.lp s.ln s.lc,.slice s.gp s.gn s.gc,.slice s.op s.on s.oc] O):=⟨hc2,hs2,ho2,hr2,hb2⟩
 have HS0:=hide hg.ok
 have HG:=hide (hg.below hb2)
 have HCf:=hide (hcf.below hb2)
 have HOk:=hide (hok.below hb2)
 have HOc:Hid (∀W:World,W.heap[w.heap.size+1+1]?=some (.cells O 58 (0,0))→W.cell? ⟨w.heap.size+1+1,0,none⟩=some (.int .i64 o.do_)∧W.cell? ⟨w.heap.size+1+1,18,none⟩=some (.int .i64 o.till)):=fun W h=>by
  refine⟨?_,?_⟩ <;> · rw[cell_of_row _ _ _ _ _ _ h,←hO];rfl
 have HLO:Hid (∀W:World,W.heap[w.heap.size+1+1]?=some (.cells O 58 (0,0))→(Instr.loadAt 58 (.pointer (some ⟨w.heap.size+1+1,0,none⟩))).run Tryz.prog W=.ok (.agg O) W):=fun W h=>Z.loadAt_row (P:=Tryz.prog) (ty:=58) h Tryz.underlying58 rfl (by rw[hOz];kernel_rfl)
 obtain⟨o0,o18⟩:=HOc.out w2 ho2
 obtain⟨c0,c1,c2,c3,c4,c5⟩:=ac6 hs2
 obtain⟨d0,d1,d2,d3,d4,d5,d6,d7,d8⟩:=ac9 hc2
 have n1:((o.do_:Int) == 1)=false:=by simp[h1]
 have n3:((o.do_:Int) == 3)=false:=by simp[h3]
 have n4:((o.do_:Int) == 4)=false:=by simp[h4]
 clear h1 h3 h4
 have HOe:=hide hO
 rw[hO]
 clear hO hOz hw2 hb2 hc2 hs2 ho2 hr2 hsz2 hg hcf hok
 go_enter Tryz.func6,Tryz.ntmps6
 go_upto_region 1 with (fail)
 rw[HW2.out]
 have HGW:=HG
 have HSt8:=hide (Z.storeAt_row (P:=Tryz.prog) (c':=#[.int .u64 s.pos,.slice s.pp s.pn s.pc,.slice s.rp s.rn s.rc,.slice s.lp s.ln s.lc,.slice s.gp s.gn s.gc,.slice s.op s.on s.oc]) HM.out.rb Tryz.sizeS rfl (by simp[Value.oneCell']))
 go_wp2_with (first | ((with_reducible show wpList _ _ _ (⟨_,.store 45 (.tmp 6) _,_,_,_,_⟩ :: _) _ _);refine Z.lp_store (t:=45) (x:=.tmp 6) (some ⟨w.heap.size+1+1+1,0,none⟩) (.agg #[.int .u64 s.pos,.slice s.pp s.pn s.pc,.slice s.rp s.rn s.rc,.slice s.lp s.ln s.lc,.slice s.gp s.gn s.gc,.slice s.op s.on s.oc]) rfl rfl HSt8.out ?_) | fail)
 refine bodyPost_ret (results_cell_row rfl _ _ (w.heap.size+1+1+1) 45 #[.int .u64 s.pos,.slice s.pp s.pn s.pc,.slice s.rp s.rn s.rc,.slice s.lp s.ln s.lc,.slice s.gp s.gn s.gc,.slice s.op s.on s.oc] (0,0) _ rfl (HM.out.told (s:=s) HGW.out (Or.inr ⟨rfl,HS0.out⟩) _).1 Tryz.underlying45 rfl Tryz.sizeS) rfl ?_
 exact⟨s,rfl,(HM.out.told HGW.out (Or.inr ⟨rfl,HS0.out⟩) _).2⟩
end Go.Proofs.YtfbegfapoijbnaaGreat
namespace Go.Proofs.YtfbegfapoijbnaaGreat
open Go.RowKit Go.Sort
open Z (Sli SlOk Acd AcdOk Eda EdaOk AcOwn Ctr ctc)
set_option linter.unusedSimpArgs false in
set_option linter.unusedVariables false in
set_option maxHeartbeats 4000000 in
theorem behind_1 (w:World) (c:Cfg) (cs:List Ctr) (hcf:CfgOk w c cs) (h1t:1≤c.tills) (hcl1:1≤c.cl) (s:Sta) (hg:StG w c s) (o:Stp) (hok:AcdOk w o.ac) (h1:o.do_=1) :
  Calls Tryz.prog 6 #[.agg #[.int .i64 c.tills,.slice c.cp c.cl c.cc,.slice c.pp c.pl c.pc,.int .i64 c.lease,.int .i64 c.watch,.int .i64 c.beat,.int .i64 c.window,.int .i64 c.cap,.int .i64 c.flight],.agg #[.int .u64 s.pos,.slice s.pp s.pn s.pc,.slice s.rp s.rn s.rc,.slice s.lp s.ln s.lc,.slice s.gp s.gn s.gc,.slice s.op s.on s.oc],.agg o.arr] w (BehP w c s):=by
 obtain⟨O,hO⟩:∃O:Array Value,o.arr=O:=⟨_,rfl⟩
 have hOz:O.size=20:=by rw[←hO];rfl
 obtain⟨w2,hw2,hb2,hc2,hs2,ho2,hr2,hsz2⟩:=step_boxes w #[.int .i64 c.tills,.slice c.cp c.cl c.cc,.slice c.pp c.pl c.pc,.int .i64 c.lease,.int .i64 c.watch,.int .i64 c.beat,.int .i64 c.window,.int .i64 c.cap,.int .i64 c.flight] #[.int .u64 s.pos,.slice s.pp s.pn s.pc,.slice s.rp s.rn s.rc,.slice s.lp s.ln s.lc,.slice s.gp s.gn s.gc,.slice s.op s.on s.oc] O #[.int .u64 0,.slice none 0 0,.slice none 0 0,.slice none 0 0,.slice none 0 0,.slice none 0 0] 45
 have HW2:=hide hw2
 have HM:Hid (Bhd w w2 #[.int .i64 c.tills,.slice c.cp c.cl c.cc,.slice c.pp c.pl c.pc,.int .i64 c.lease,.int .i64 c.watch,.int .i64 c.beat,.int .i64 c.window,.int .i64 c.cap,.int .i64 c.flight] #[.int .u64 s.pos,.slice s.pp s.pn s.pc,.slice s.rp s.rn s.rc,.slice s.lp s.ln s.lc,.slice s.gp s.gn s.gc,.slice s.op s.on s.oc] O):=⟨hc2,hs2,ho2,hr2,hb2⟩
 have HS0:=hide hg.ok
 have HG:=hide (hg.below hb2)
 have HCf:=hide (hcf.below hb2)
 have HOk:=hide (hok.below hb2)
 have HOc:Hid (∀W:World,W.heap[w.heap.size+1+1]?=some (.cells O 58 (0,0))→W.cell? ⟨w.heap.size+1+1,0,none⟩=some (.int .i64 o.do_)∧W.cell? ⟨w.heap.size+1+1,18,none⟩=some (.int .i64 o.till)):=fun W h=>by
  refine⟨?_,?_⟩ <;> · rw[cell_of_row _ _ _ _ _ _ h,←hO];rfl
 have HLO:Hid (∀W:World,W.heap[w.heap.size+1+1]?=some (.cells O 58 (0,0))→(Instr.loadAt 58 (.pointer (some ⟨w.heap.size+1+1,0,none⟩))).run Tryz.prog W=.ok (.agg O) W):=fun W h=>Z.loadAt_row (P:=Tryz.prog) (ty:=58) h Tryz.underlying58 rfl (by rw[hOz];kernel_rfl)
 obtain⟨o0,o18⟩:=HOc.out w2 ho2
 obtain⟨c0,c1,c2,c3,c4,c5⟩:=ac6 hs2
 obtain⟨d0,d1,d2,d3,d4,d5,d6,d7,d8⟩:=ac9 hc2
 rw[h1]at o0
 have HAt:=hide (act_any w2 c s HG.out.ok (by have:=HG.out.shp;exact this.ln) (by have:=HCf.out.tills;omega) o HOk.out)
 rw[hO]at HAt
 have HOe:=hide hO
 rw[hO]
 clear hO hOz hw2 hb2 hc2 hs2 ho2 hr2 hsz2 hg hcf hok
 go_enter Tryz.func6,Tryz.ntmps6
 go_upto_region 1 with (fail)
 rw[HW2.out]
 go_upto_region 4 with (first | (go_at_call 24;refine HAt.out.mono ?_;rintro e1 w3 ⟨b,rfl,hbd,hbo,hb3⟩;have HBo:=hide hbo;have HB3:=hide hb3;obtain⟨B,hB⟩:∃B:Array Value,b.arr=B:=⟨_,rfl⟩;have HBe:=hide hB;have HBz:Hid (B.size=15):=(by show _=_;rw[←hB];rfl);have HBn:Hid (B.all (·.oneCell')=true):=(by show _=_;rw[←hB];exact b.ones);rw[hB];clear hbd hbo hb3 hB c0 c1 c2 c3 c4 c5 d0 d1 d2 d3 d4 d5 d6 d7 d8) | ((with_reducible show wpList _ _ _ (⟨_,.load 58 (.tmp 5),_,_,_,_⟩ :: _) _ _);refine Z.lp_load (w.heap.size+1+1) 0 O rfl (HLO.out w2 HM.out.ob) ?_) | ((with_reducible show wpList _ _ _ (⟨_,.store 56 (.tmp 7) _,_,_,_,_⟩ :: _) _ _);refine Z.lp_store (t:=56) (x:=.tmp 7) (some ⟨w3.heap.size,0,none⟩) (.agg B) rfl rfl (run_storeAt_new (P:=Tryz.prog) w3 56 _ B (by rw[HBz.out];exact Z.Tryz.sizeA) (by rw[HBz.out];rfl) HBn.out) ?_) | fail)
 have hbx:=heap_alloc_new w3 (.cells B 56)
 have hb4:Below w3.heap.size w3 (w3.alloc (.cells B 56)):=(Below.refl _ _).alloc (Nat.le_refl _) _
 obtain⟨w4,hw4⟩:∃W,w3.alloc (.cells B 56)=W:=⟨_,rfl⟩
 rw[hw4]at hbx hb4 ⊢
 obtain⟨ab,hab⟩:∃k,w3.heap.size=k:=⟨_,rfl⟩
 rw[hab]at hbx ⊢
 clear hw4 hab
 have HAb:=hide hbx
 have HB24:Hid (Below w2.heap.size w2 w4):=HB3.out.trans (hb4.mono HB3.out.size)
 have HM4:=hide (HM.out.below HB24.out)
 have HBk:=hide (HBo.out.below hb4).ok
 clear hb4 hbx
 obtain⟨c0,c1,c2,c3,c4,c5⟩:=ac6 HM4.out.sb
 obtain⟨d0,d1,d2,d3,d4,d5,d6,d7,d8⟩:=ac9 HM4.out.cb
 have HCk:Hid (Calls Tryz.prog 25 #[.agg #[.int .i64 c.tills,.slice c.cp c.cl c.cc,.slice c.pp c.pl c.pc,.int .i64 c.lease,.int .i64 c.watch,.int .i64 c.beat,.int .i64 c.window,.int .i64 c.cap,.int .i64 c.flight],.agg b.arr] w4 fun e w'=>∃V:Int,e=.returned (.int .i64 V)∧ChkV c b V∧Below w4.heap.size w4 w'):=rcheck_any w4 c b HBk.out HCf.out.cl HCf.out.pl HCf.out.tills
 rw[HBe.out]at HCk
 have HLb:=hide (Z.loadAt_row (P:=Tryz.prog) (ty:=56) HAb.out Tryz.underlying56 rfl (by rw[HBz.out];exact Z.Tryz.sizeA))
 obtain⟨V,hV⟩:∃V,ChkV c b V:=chk_some c b
 have HV:=hide hV
 have HCk2:Hid (Calls Tryz.prog 25 #[.agg #[.int .i64 c.tills,.slice c.cp c.cl c.cc,.slice c.pp c.pl c.pc,.int .i64 c.lease,.int .i64 c.watch,.int .i64 c.beat,.int .i64 c.window,.int .i64 c.cap,.int .i64 c.flight],.agg B] w4 fun e w'=>e=.returned (.int .i64 V)∧Below w4.heap.size w4 w'):=HCk.out.mono (fun _ _ ⟨V2,q1,q2,q3⟩=>⟨by rw[q1,chk_one q2 hV],q3⟩)
 clear hV HCk
 by_cases hV:V=0
 ·subst hV
  go_upto_region 5 with (first | (go_at_call 25;refine HCk2.out.mono ?_;rintro e1 w5 ⟨rfl,hb5⟩;have HB5:=hide hb5;clear hb5 c0 c1 c2 c3 c4 c5 d0 d1 d2 d3 d4 d5 d6 d7 d8) | ((with_reducible show wpList _ _ _ (⟨_,.load 56 (.tmp 7),_,_,_,_⟩ :: _) _ _);refine Z.lp_load ab 0 B rfl HLb.out ?_) | fail)
  obtain⟨w6,hw6⟩:∃W,w5.drew=W:=⟨_,rfl⟩
  have HB46:Hid (Below w4.heap.size w4 w6):=by show Below _ _ _;rw[←hw6];exact HB5.out.drew
  have HB26:Hid (Below w2.heap.size w2 w6):=HB24.out.trans (HB46.out.mono HB24.out.size)
  have HM6:=hide (HM4.out.below HB46.out)
  have HAb6:Hid (w6.heap[ab]?=some (.cells B 56 (0,0))):=(HB46.out.block _ (ac_lt HAb.out)).trans HAb.out
  have HSS:Hid (∀W,Below w6.heap.size w6 W→(fun W=>W.heap[w.heap.size]?=some (.cells #[.int .i64 c.tills,.slice c.cp c.cl c.cc,.slice c.pp c.pl c.pc,.int .i64 c.lease,.int .i64 c.watch,.int .i64 c.beat,.int .i64 c.window,.int .i64 c.cap,.int .i64 c.flight] 37 (0,0))∧W.heap[w.heap.size+1]?=some (.cells #[.int .u64 s.pos,.slice s.pp s.pn s.pc,.slice s.rp s.rn s.rc,.slice s.lp s.ln s.lc,.slice s.gp s.gn s.gc,.slice s.op s.on s.oc] 45 (0,0))∧W.heap[ab]?=some (.cells B 56 (0,0))) W):=fun W h=>⟨(h.block _ (ac_lt HM6.out.cb)).trans HM6.out.cb,(h.block _ (ac_lt HM6.out.sb)).trans HM6.out.sb,(h.block _ (ac_lt HAb6.out)).trans HAb6.out⟩
  have hrg:=chk_rg HV.out HG.out.shp HCf.out.cl
  have HNx:Hid (∀W,Below w6.heap.size w6 W→Calls Tryz.prog 27 #[.agg #[.int .i64 c.tills,.slice c.cp c.cl c.cc,.slice c.pp c.pl c.pc,.int .i64 c.lease,.int .i64 c.watch,.int .i64 c.beat,.int .i64 c.window,.int .i64 c.cap,.int .i64 c.flight],.agg #[.int .u64 s.pos,.slice s.pp s.pn s.pc,.slice s.rp s.rn s.rc,.slice s.lp s.ln s.lc,.slice s.gp s.gn s.gc,.slice s.op s.on s.oc],.agg B] W fun e1 w'=>∃E:Eda,e1=.returned (.agg E.arr)∧E.dd=nextD s b∧EdaOk w' E∧Below W.heap.size W w'):=fun W hW=>by
   have h0:=HB26.out.trans (hW.mono HB26.out.size)
   have h:Calls Tryz.prog 27 #[.agg #[.int .i64 c.tills,.slice c.cp c.cl c.cc,.slice c.pp c.pl c.pc,.int .i64 c.lease,.int .i64 c.watch,.int .i64 c.beat,.int .i64 c.window,.int .i64 c.cap,.int .i64 c.flight],.agg #[.int .u64 s.pos,.slice s.pp s.pn s.pc,.slice s.rp s.rn s.rc,.slice s.lp s.ln s.lc,.slice s.gp s.gn s.gc,.slice s.op s.on s.oc],.agg b.arr] W fun e1 w'=>∃E:Eda,e1=.returned (.agg E.arr)∧E.dd=nextD s b∧EdaOk w' E∧Below W.heap.size W w':=rnext_any W c s (HG.out.below h0).ok (by have h1:=HG.out.shp.pn;have h2:=HCf.out.cl;omega) HG.out.wf b (HBk.out.below (HB46.out.trans (hW.mono HB46.out.size))) hrg
   rw[HBe.out]at h
   exact h
  have HFo:Hid (∀W,Below w6.heap.size w6 W→∀E:Eda,EdaOk W E→Calls Tryz.prog 26 #[.agg #[.int .i64 c.tills,.slice c.cp c.cl c.cc,.slice c.pp c.pl c.pc,.int .i64 c.lease,.int .i64 c.watch,.int .i64 c.beat,.int .i64 c.window,.int .i64 c.cap,.int .i64 c.flight],.agg #[.int .u64 s.pos,.slice s.pp s.pn s.pc,.slice s.rp s.rn s.rc,.slice s.lp s.ln s.lc,.slice s.gp s.gn s.gc,.slice s.op s.on s.oc],.agg E.arr] W (FoldP W c s E)):=fun W hW E hE=>rfold_any W c s (HG.out.below (HB26.out.trans (hW.mono HB26.out.size))).ok (shp_sm HCf.out HG.out.shp) HG.out.wf HG.out.shp HCf.out.cl HCf.out.pl HCf.out.tills E hE
  have HI6:Hid (Below w6.heap.size w6 w6):=Below.refl _ _
  clear hrg
  refine wp_region_noPanic ?_
  refine wp_region_held_drew (S:=(fun W=>W.heap[w.heap.size]?=some (.cells #[.int .i64 c.tills,.slice c.cp c.cl c.cc,.slice c.pp c.pl c.pc,.int .i64 c.lease,.int .i64 c.watch,.int .i64 c.beat,.int .i64 c.window,.int .i64 c.cap,.int .i64 c.flight] 37 (0,0))∧W.heap[w.heap.size+1]?=some (.cells #[.int .u64 s.pos,.slice s.pp s.pn s.pc,.slice s.rp s.rn s.rc,.slice s.lp s.ln s.lc,.slice s.gp s.gn s.gc,.slice s.op s.on s.oc] 45 (0,0))∧W.heap[ab]?=some (.cells B 56 (0,0)))) (by kernel_rfl) (by rw[hw6];exact HSS.out _ HI6.out) (fun hHeld=>?_)
  rw[hw6]at hHeld ⊢
  clear hw6
  refine wpAnyH_take (i:=0) (oi:=_) (v:=.agg #[.int .i64 c.tills,.slice c.cp c.cl c.cc,.slice c.pp c.pl c.pc,.int .i64 c.lease,.int .i64 c.watch,.int .i64 c.beat,.int .i64 c.window,.int .i64 c.cap,.int .i64 c.flight]) rfl (by kernel_rfl) (by kernel_rfl) (by kernel_rfl) (fun _ _ _ h=>h) (Or.inl ⟨by kernel_rfl,fun W hW=>ex_loadw W 37 (.tmp 3) rfl (w.heap.size) #[.int .i64 c.tills,.slice c.cp c.cl c.cc,.slice c.pp c.pl c.pc,.int .i64 c.lease,.int .i64 c.watch,.int .i64 c.beat,.int .i64 c.window,.int .i64 c.cap,.int .i64 c.flight] rfl (Z.loadAt_row (P:=Tryz.prog) (ty:=37) hW.1 Tryz.underlying37 rfl Tryz.sizeC)⟩) hHeld ?_
  try simp only[Act.put,qzg,qzh,qzi,qzs,qz0,qz1]
  refine wpAnyH_take (i:=1) (oi:=_) (v:=.agg #[.int .u64 s.pos,.slice s.pp s.pn s.pc,.slice s.rp s.rn s.rc,.slice s.lp s.ln s.lc,.slice s.gp s.gn s.gc,.slice s.op s.on s.oc]) rfl (by kernel_rfl) (by kernel_rfl) (by kernel_rfl) (fun _ _ _ h=>h) (Or.inl ⟨by kernel_rfl,fun W hW=>ex_loadw W 45 (.tmp 4) rfl (w.heap.size+1) #[.int .u64 s.pos,.slice s.pp s.pn s.pc,.slice s.rp s.rn s.rc,.slice s.lp s.ln s.lc,.slice s.gp s.gn s.gc,.slice s.op s.on s.oc] rfl (Z.loadAt_row (P:=Tryz.prog) (ty:=45) hW.2.1 Tryz.underlying45 rfl Tryz.sizeS)⟩) hHeld ?_
  try simp only[Act.put,qzg,qzh,qzi,qzs,qz0,qz1]
  refine wpAnyH_take (i:=2) (oi:=_) (v:=.agg #[.int .i64 c.tills,.slice c.cp c.cl c.cc,.slice c.pp c.pl c.pc,.int .i64 c.lease,.int .i64 c.watch,.int .i64 c.beat,.int .i64 c.window,.int .i64 c.cap,.int .i64 c.flight]) rfl (by kernel_rfl) (by kernel_rfl) (by kernel_rfl) (fun _ _ _ h=>h) (Or.inl ⟨by kernel_rfl,fun W hW=>ex_loadw W 37 (.tmp 3) rfl (w.heap.size) #[.int .i64 c.tills,.slice c.cp c.cl c.cc,.slice c.pp c.pl c.pc,.int .i64 c.lease,.int .i64 c.watch,.int .i64 c.beat,.int .i64 c.window,.int .i64 c.cap,.int .i64 c.flight] rfl (Z.loadAt_row (P:=Tryz.prog) (ty:=37) hW.1 Tryz.underlying37 rfl Tryz.sizeC)⟩) hHeld ?_
  try simp only[Act.put,qzg,qzh,qzi,qzs,qz0,qz1]
  refine wpAnyH_take (i:=3) (oi:=_) (v:=.agg #[.int .u64 s.pos,.slice s.pp s.pn s.pc,.slice s.rp s.rn s.rc,.slice s.lp s.ln s.lc,.slice s.gp s.gn s.gc,.slice s.op s.on s.oc]) rfl (by kernel_rfl) (by kernel_rfl) (by kernel_rfl) (fun _ _ _ h=>h) (Or.inl ⟨by kernel_rfl,fun W hW=>ex_loadw W 45 (.tmp 4) rfl (w.heap.size+1) #[.int .u64 s.pos,.slice s.pp s.pn s.pc,.slice s.rp s.rn s.rc,.slice s.lp s.ln s.lc,.slice s.gp s.gn s.gc,.slice s.op s.on s.oc] rfl (Z.loadAt_row (P:=Tryz.prog) (ty:=45) hW.2.1 Tryz.underlying45 rfl Tryz.sizeS)⟩) hHeld ?_
  try simp only[Act.put,qzg,qzh,qzi,qzs,qz0,qz1]
  refine wpAnyH_take (i:=4) (oi:=_) (v:=.agg B) rfl (by kernel_rfl) (by kernel_rfl) (by kernel_rfl) (fun _ _ _ h=>h) (Or.inl ⟨by kernel_rfl,fun W hW=>ex_loadw W 56 (.tmp 7) rfl (ab) B rfl (Z.loadAt_row (P:=Tryz.prog) (ty:=56) hW.2.2 Tryz.underlying56 rfl (by rw[HBz.out];exact Z.Tryz.sizeA))⟩) hHeld ?_
  try simp only[Act.put,qzg,qzh,qzi,qzs,qz0,qz1]
  refine wpAnyH_ready (rs:=[5,10]) (by kernel_rfl) (by simp) ?_
  refine AllReadyH.cons (o:=_) rfl (fun KK hKK=>?_) (AllReadyH.cons (o:=_) rfl (fun KK hKK=>?_) AllReadyH.nil)
  ·go_simp
   (go_at_call 27;refine(HNx.out _ HI6.out).mono ?_;rintro e1 w7 ⟨E,rfl,hEd,hEk,hb7⟩;have HEk:=hide hEk;have HB7:Hid (Below w6.heap.size w6 w7):=HI6.out.trans (hb7.mono HI6.out.size);obtain⟨Ev,hEv⟩:∃A:Array Value,E.arr=A:=⟨_,rfl⟩;have HEv:=hide hEv;have HB77:=hide hb7;rw[hEv];clear hEd hEk hb7 hEv)
   refine hKK.out _ _ (by(try dsimp only);exact HSS.out _ HB7.out) (fun hHeld=>?_)
   clear hKK KK
   try simp only[Act.put,qzg,qzh,qzi,qzs,qz0,qz1]
   refine wpAnyH_ready (rs:=[6,10]) (by kernel_rfl) (by simp) ?_
   refine AllReadyH.cons (o:=_) rfl (fun KK hKK=>?_) (AllReadyH.cons (o:=_) rfl (fun KK hKK=>?_) AllReadyH.nil)
   ·go_simp
    have HFo2:=hide (HFo.out _ HB7.out E HEk.out)
    rw[HEv.out]at HFo2
    (go_at_call 26;refine HFo2.out.mono ?_;rintro e1 w8 ⟨r,f,rfl,hfv,hro,hb8,hf0⟩;have HRo:=hide hro;have HB8:Hid (Below w6.heap.size w6 w8):=HB7.out.trans (hb8.mono HB7.out.size);have HB88:=hide hb8;have Hf0:=hide hf0;obtain⟨Ra,hRa⟩:∃A:Array Value,r.arr=A:=⟨_,rfl⟩;have HRa:=hide hRa;have HRaz:Hid (Ra.size=6):=(by show _=_;rw[←hRa];rfl);have HRao:Hid (Ra.all (·.oneCell')=true):=(by show _=_;rw[←hRa];simp[Sta.arr,Value.oneCell']);rw[hRa];clear hfv hro hb8 hf0 hRa)
    refine hKK.out _ _ (by(try dsimp only);exact HSS.out _ HB8.out) (fun hHeld=>?_)
    clear hKK KK
    try simp only[Act.put,qzg,qzh,qzi,qzs,qz0,qz1]
    refine tkg 7 ?_
    refine tkg 8 ?_
    refine tkg 9 ?_
    refine rdy 10 (fun KK hKK=>?_)
    go_simp
    have HB9:Hid (Below w6.heap.size w6 (w8.alloc (.cells #[.int .u64 0,.slice none 0 0,.slice none 0 0,.slice none 0 0,.slice none 0 0,.slice none 0 0] 45))):=HB8.out.alloc HB8.out.size _
    refine hKK.out _ _ (by(try dsimp only);exact HSS.out _ HB9.out) (fun hHeld=>?_)
    clear hKK KK
    try simp only[Act.put,qzg,qzh,qzi,qzs,qz0,qz1]
    obtain⟨tb,htb⟩:∃k,w8.heap.size=k:=⟨_,rfl⟩
    have HTz:Hid ((w8.alloc (.cells #[.int .u64 0,.slice none 0 0,.slice none 0 0,.slice none 0 0,.slice none 0 0,.slice none 0 0] 45)).heap[tb]?=some (.cells #[.int .u64 0,.slice none 0 0,.slice none 0 0,.slice none 0 0,.slice none 0 0,.slice none 0 0] 45 (0,0))):=by show _=_;rw[←htb];exact heap_alloc_new _ _
    have HTl:Hid (w6.heap.size≤tb):=by show _≤_;rw[←htb];exact HB8.out.size
    have HRo9:Hid (∃B,StaOw B (w8.alloc (.cells #[.int .u64 0,.slice none 0 0,.slice none 0 0,.slice none 0 0,.slice none 0 0,.slice none 0 0] 45)) r):=⟨_,HRo.out.below ((Below.refl _ _).alloc (Nat.le_refl _) _)⟩
    rw[htb]
    obtain⟨w9,hw9⟩:∃W,w8.alloc (.cells #[.int .u64 0,.slice none 0 0,.slice none 0 0,.slice none 0 0,.slice none 0 0,.slice none 0 0] 45)=W:=⟨_,rfl⟩
    rw[hw9]at HB9 HTz HRo9 hHeld ⊢
    clear htb hw9
    refine rdy 11 (fun KK hKK=>?_)
    rw[if_pos (by kernel_rfl)]
    refine wp_store_row 45 (.tmp 8) (.tmp 36) rfl tb Ra rfl rfl 45 #[.int .u64 0,.slice none 0 0,.slice none 0 0,.slice none 0 0,.slice none 0 0,.slice none 0 0] HTz.out (by rw[HRaz.out];exact Tryz.sizeS) (by rw[HRaz.out];rfl) HRao.out ?_
    have HB10:Hid (Below w6.heap.size w6 (w9.setRow tb Ra)):=below_setRow HB9.out HTl.out Ra
    refine hKK.out _ _ (by(try dsimp only);exact HSS.out _ HB10.out) (fun hHeld=>?_)
    clear hKK KK
    try simp only[Act.put,qzg,qzh,qzi,qzs,qz0,qz1]
    refine rdy 12 (fun KK hKK=>?_)
    go_simp
    refine hKK.out _ _ (by(try dsimp only);exact HSS.out _ HB10.out) (fun hHeld=>?_)
    clear hKK KK
    try simp only[Act.put,qzg,qzh,qzi,qzs,qz0,qz1]
    refine wpAnyH_done (by kernel_rfl) (NoPanic.normal ?_) _
    have HBx:=hide (setRow_heap _ _ _ Ra _ _ HTz.out)
    have HOw:Hid (StaOw (HRo9.out.choose) (w9.setRow tb Ra) r):=HRo9.out.choose_spec.far (fun g C t hg ht=>setRow_other _ _ _ _ (by rintro rfl;rw[HTz.out]at hg;cases hg;exact not_mut rfl ht))
    obtain⟨w10,hw10⟩:∃W,w9.setRow tb Ra=W:=⟨_,rfl⟩
    rw[hw10]at HBx HOw HB10 ⊢
    clear hw10 hHeld
    have HM9:=hide (HM6.out.below HB10.out)
    by_cases hf:f=0
    ·have hf':((f:Int) == 0)=true:=by simp[hf]
     have HGr:Hid (StG w10 c r):=⟨HOw.out.ok,(Hf0.out hf).1,by obtain⟨-,r0,q1,q2⟩:=Hf0.out hf;rw[q2];exact frw_fold HG.out.wf q1 E⟩
     rw[←HRa.out]at HBx
     clear hf
     obtain⟨RA,hRA⟩:∃R:Array Value,r.arr=R:=⟨_,rfl⟩
     have hRz:RA.size=6:=by rw[←hRA];rfl
     have hRo:RA.all (·.oneCell')=true:=by rw[←hRA];simp[Sta.arr,Value.oneCell']
     rw[hRA]at HBx
     have HLr:=hide (Z.loadAt_row (P:=Tryz.prog) (ty:=45) HBx.out Tryz.underlying45 rfl (by rw[hRz];exact Tryz.sizeS))
     have HSr:=hide (Z.storeAt_row (P:=Tryz.prog) (c':=RA) HM9.out.rb (by rw[hRz];exact Tryz.sizeS) (by rw[hRz];rfl) hRo)
     have HRz:=hide hRz
     have HRe:=hide hRA
     clear hRz hRo hRA
     go_wp2_with (first | ((with_reducible show wpList _ _ _ (⟨_,.load 45 (.tmp 8),_,_,_,_⟩ :: _) _ _);refine Z.lp_load tb 0 RA rfl HLr.out ?_) | ((with_reducible show wpList _ _ _ (⟨_,.store 45 (.tmp 6) _,_,_,_,_⟩ :: _) _ _);refine Z.lp_store (t:=45) (x:=.tmp 6) (some ⟨w.heap.size+1+1+1,0,none⟩) (.agg RA) rfl rfl HSr.out ?_) | fail)
     refine bodyPost_ret (results_cell_row rfl _ _ (w.heap.size+1+1+1) 45 RA (0,0) _ rfl (HM9.out.told (s:=s) HGr.out (Or.inl ⟨_,HOw.out⟩) _).1 Tryz.underlying45 rfl (by rw[HRz.out];exact Tryz.sizeS)) rfl ?_
     exact⟨r,by rw[HRe.out],(HM9.out.told HGr.out (Or.inl ⟨_,HOw.out⟩) _).2⟩
    ·have hf':((f:Int) == 0)=false:=by simp[hf]
     have HGW:Hid (StG w10 c s):=HG.out.below (HB26.out.trans (HB10.out.mono HB26.out.size))
     clear hf
     obtain⟨c0,c1,c2,c3,c4,c5⟩:=ac6 HM9.out.sb
     obtain⟨d0,d1,d2,d3,d4,d5,d6,d7,d8⟩:=ac9 HM9.out.cb
     have HSt8:=hide (Z.storeAt_row (P:=Tryz.prog) (c':=#[.int .u64 s.pos,.slice s.pp s.pn s.pc,.slice s.rp s.rn s.rc,.slice s.lp s.ln s.lc,.slice s.gp s.gn s.gc,.slice s.op s.on s.oc]) HM9.out.rb Tryz.sizeS rfl (by simp[Value.oneCell']))
     go_wp2_with (first | ((with_reducible show wpList _ _ _ (⟨_,.store 45 (.tmp 6) _,_,_,_,_⟩ :: _) _ _);refine Z.lp_store (t:=45) (x:=.tmp 6) (some ⟨w.heap.size+1+1+1,0,none⟩) (.agg #[.int .u64 s.pos,.slice s.pp s.pn s.pc,.slice s.rp s.rn s.rc,.slice s.lp s.ln s.lc,.slice s.gp s.gn s.gc,.slice s.op s.on s.oc]) rfl rfl HSt8.out ?_) | fail)
     refine bodyPost_ret (results_cell_row rfl _ _ (w.heap.size+1+1+1) 45 #[.int .u64 s.pos,.slice s.pp s.pn s.pc,.slice s.rp s.rn s.rc,.slice s.lp s.ln s.lc,.slice s.gp s.gn s.gc,.slice s.op s.on s.oc] (0,0) _ rfl (HM9.out.told (s:=s) HGW.out (Or.inr ⟨rfl,HS0.out⟩) _).1 Tryz.underlying45 rfl Tryz.sizeS) rfl ?_
     exact⟨s,rfl,(HM9.out.told HGW.out (Or.inr ⟨rfl,HS0.out⟩) _).2⟩
   ·go_simp
    have HBa:Hid (Below w6.heap.size w6 (w7.alloc (.cells #[.int .u64 0,.slice none 0 0,.slice none 0 0,.slice none 0 0,.slice none 0 0,.slice none 0 0] 45))):=HB7.out.alloc HB7.out.size _
    refine hKK.out _ _ (by(try dsimp only);exact HSS.out _ HBa.out) (fun hHeld=>?_)
    clear hKK KK
    try simp only[Act.put,qzg,qzh,qzi,qzs,qz0,qz1]
    obtain⟨tb,htb⟩:∃k,w7.heap.size=k:=⟨_,rfl⟩
    have HTa:Hid ((w7.alloc (.cells #[.int .u64 0,.slice none 0 0,.slice none 0 0,.slice none 0 0,.slice none 0 0,.slice none 0 0] 45)).heap[tb]?=some (.cells #[.int .u64 0,.slice none 0 0,.slice none 0 0,.slice none 0 0,.slice none 0 0,.slice none 0 0] 45 (0,0))):=by show _=_;rw[←htb];exact heap_alloc_new _ _
    have HTl:Hid (w6.heap.size≤tb):=by show _≤_;rw[←htb];exact HB7.out.size
    have HAa:Hid (Below w7.heap.size w7 (w7.alloc (.cells #[.int .u64 0,.slice none 0 0,.slice none 0 0,.slice none 0 0,.slice none 0 0,.slice none 0 0] 45))):=(Below.refl _ _).alloc (Nat.le_refl _) _
    rw[htb]
    obtain⟨wa,hwa⟩:∃W,w7.alloc (.cells #[.int .u64 0,.slice none 0 0,.slice none 0 0,.slice none 0 0,.slice none 0 0,.slice none 0 0] 45)=W:=⟨_,rfl⟩
    rw[hwa]at HBa HTa HAa hHeld ⊢
    clear htb hwa
    refine rdy 6 (fun KK hKK=>?_)
    go_simp
    have HFo2:=hide (HFo.out _ HBa.out E (HEk.out.below HAa.out))
    rw[HEv.out]at HFo2
    (go_at_call 26;refine HFo2.out.mono ?_;rintro e1 w8 ⟨r,f,rfl,hfv,hro,hb8,hf0⟩;have HRo:=hide hro;have HB8:Hid (Below w6.heap.size w6 w8):=HBa.out.trans (hb8.mono HBa.out.size);have HB88:=hide hb8;have Hf0:=hide hf0;obtain⟨Ra,hRa⟩:∃A:Array Value,r.arr=A:=⟨_,rfl⟩;have HRa:=hide hRa;have HRaz:Hid (Ra.size=6):=(by show _=_;rw[←hRa];rfl);have HRao:Hid (Ra.all (·.oneCell')=true):=(by show _=_;rw[←hRa];simp[Sta.arr,Value.oneCell']);rw[hRa];clear hfv hro hb8 hf0 hRa)
    refine hKK.out _ _ (by(try dsimp only);exact HSS.out _ HB8.out) (fun hHeld=>?_)
    clear hKK KK
    try simp only[Act.put,qzg,qzh,qzi,qzs,qz0,qz1]
    have HTz8:Hid (w8.heap[tb]?=some (.cells #[.int .u64 0,.slice none 0 0,.slice none 0 0,.slice none 0 0,.slice none 0 0,.slice none 0 0] 45 (0,0))):=(HB88.out.block _ (ac_lt HTa.out)).trans HTa.out
    refine tkg 7 ?_
    refine tkg 8 ?_
    refine tkg 9 ?_
    have HB9:=HB8
    have HRo9:Hid (∃B,StaOw B w8 r):=⟨_,HRo.out⟩
    have HTz:=HTz8
    obtain⟨w9,hw9⟩:∃W,w8=W:=⟨_,rfl⟩
    rw[hw9]at HB9 HTz HRo9 hHeld ⊢
    clear hw9
    refine rdy 11 (fun KK hKK=>?_)
    rw[if_pos (by kernel_rfl)]
    refine wp_store_row 45 (.tmp 8) (.tmp 36) rfl tb Ra rfl rfl 45 #[.int .u64 0,.slice none 0 0,.slice none 0 0,.slice none 0 0,.slice none 0 0,.slice none 0 0] HTz.out (by rw[HRaz.out];exact Tryz.sizeS) (by rw[HRaz.out];rfl) HRao.out ?_
    have HB10:Hid (Below w6.heap.size w6 (w9.setRow tb Ra)):=below_setRow HB9.out HTl.out Ra
    refine hKK.out _ _ (by(try dsimp only);exact HSS.out _ HB10.out) (fun hHeld=>?_)
    clear hKK KK
    try simp only[Act.put,qzg,qzh,qzi,qzs,qz0,qz1]
    refine rdy 12 (fun KK hKK=>?_)
    go_simp
    refine hKK.out _ _ (by(try dsimp only);exact HSS.out _ HB10.out) (fun hHeld=>?_)
    clear hKK KK
    try simp only[Act.put,qzg,qzh,qzi,qzs,qz0,qz1]
    refine wpAnyH_done (by kernel_rfl) (NoPanic.normal ?_) _
    have HBx:=hide (setRow_heap _ _ _ Ra _ _ HTz.out)
    have HOw:Hid (StaOw (HRo9.out.choose) (w9.setRow tb Ra) r):=HRo9.out.choose_spec.far (fun g C t hg ht=>setRow_other _ _ _ _ (by rintro rfl;rw[HTz.out]at hg;cases hg;exact not_mut rfl ht))
    obtain⟨w10,hw10⟩:∃W,w9.setRow tb Ra=W:=⟨_,rfl⟩
    rw[hw10]at HBx HOw HB10 ⊢
    clear hw10 hHeld
    have HM9:=hide (HM6.out.below HB10.out)
    by_cases hf:f=0
    ·have hf':((f:Int) == 0)=true:=by simp[hf]
     have HGr:Hid (StG w10 c r):=⟨HOw.out.ok,(Hf0.out hf).1,by obtain⟨-,r0,q1,q2⟩:=Hf0.out hf;rw[q2];exact frw_fold HG.out.wf q1 E⟩
     rw[←HRa.out]at HBx
     clear hf
     obtain⟨RA,hRA⟩:∃R:Array Value,r.arr=R:=⟨_,rfl⟩
     have hRz:RA.size=6:=by rw[←hRA];rfl
     have hRo:RA.all (·.oneCell')=true:=by rw[←hRA];simp[Sta.arr,Value.oneCell']
     rw[hRA]at HBx
     have HLr:=hide (Z.loadAt_row (P:=Tryz.prog) (ty:=45) HBx.out Tryz.underlying45 rfl (by rw[hRz];exact Tryz.sizeS))
     have HSr:=hide (Z.storeAt_row (P:=Tryz.prog) (c':=RA) HM9.out.rb (by rw[hRz];exact Tryz.sizeS) (by rw[hRz];rfl) hRo)
     have HRz:=hide hRz
     have HRe:=hide hRA
     clear hRz hRo hRA
     go_wp2_with (first | ((with_reducible show wpList _ _ _ (⟨_,.load 45 (.tmp 8),_,_,_,_⟩ :: _) _ _);refine Z.lp_load tb 0 RA rfl HLr.out ?_) | ((with_reducible show wpList _ _ _ (⟨_,.store 45 (.tmp 6) _,_,_,_,_⟩ :: _) _ _);refine Z.lp_store (t:=45) (x:=.tmp 6) (some ⟨w.heap.size+1+1+1,0,none⟩) (.agg RA) rfl rfl HSr.out ?_) | fail)
     refine bodyPost_ret (results_cell_row rfl _ _ (w.heap.size+1+1+1) 45 RA (0,0) _ rfl (HM9.out.told (s:=s) HGr.out (Or.inl ⟨_,HOw.out⟩) _).1 Tryz.underlying45 rfl (by rw[HRz.out];exact Tryz.sizeS)) rfl ?_
     exact⟨r,by rw[HRe.out],(HM9.out.told HGr.out (Or.inl ⟨_,HOw.out⟩) _).2⟩
    ·have hf':((f:Int) == 0)=false:=by simp[hf]
     have HGW:Hid (StG w10 c s):=HG.out.below (HB26.out.trans (HB10.out.mono HB26.out.size))
     clear hf
     obtain⟨c0,c1,c2,c3,c4,c5⟩:=ac6 HM9.out.sb
     obtain⟨d0,d1,d2,d3,d4,d5,d6,d7,d8⟩:=ac9 HM9.out.cb
     have HSt8:=hide (Z.storeAt_row (P:=Tryz.prog) (c':=#[.int .u64 s.pos,.slice s.pp s.pn s.pc,.slice s.rp s.rn s.rc,.slice s.lp s.ln s.lc,.slice s.gp s.gn s.gc,.slice s.op s.on s.oc]) HM9.out.rb Tryz.sizeS rfl (by simp[Value.oneCell']))
     go_wp2_with (first | ((with_reducible show wpList _ _ _ (⟨_,.store 45 (.tmp 6) _,_,_,_,_⟩ :: _) _ _);refine Z.lp_store (t:=45) (x:=.tmp 6) (some ⟨w.heap.size+1+1+1,0,none⟩) (.agg #[.int .u64 s.pos,.slice s.pp s.pn s.pc,.slice s.rp s.rn s.rc,.slice s.lp s.ln s.lc,.slice s.gp s.gn s.gc,.slice s.op s.on s.oc]) rfl rfl HSt8.out ?_) | fail)
     refine bodyPost_ret (results_cell_row rfl _ _ (w.heap.size+1+1+1) 45 #[.int .u64 s.pos,.slice s.pp s.pn s.pc,.slice s.rp s.rn s.rc,.slice s.lp s.ln s.lc,.slice s.gp s.gn s.gc,.slice s.op s.on s.oc] (0,0) _ rfl (HM9.out.told (s:=s) HGW.out (Or.inr ⟨rfl,HS0.out⟩) _).1 Tryz.underlying45 rfl Tryz.sizeS) rfl ?_
     exact⟨s,rfl,(HM9.out.told HGW.out (Or.inr ⟨rfl,HS0.out⟩) _).2⟩
  ·go_simp
   have HBa:Hid (Below w6.heap.size w6 (w6.alloc (.cells #[.int .u64 0,.slice none 0 0,.slice none 0 0,.slice none 0 0,.slice none 0 0,.slice none 0 0] 45))):=HI6.out.alloc HI6.out.size _
   refine hKK.out _ _ (by(try dsimp only);exact HSS.out _ HBa.out) (fun hHeld=>?_)
   clear hKK KK
   try simp only[Act.put,qzg,qzh,qzi,qzs,qz0,qz1]
   obtain⟨tb,htb⟩:∃k,w6.heap.size=k:=⟨_,rfl⟩
   have HTa:Hid ((w6.alloc (.cells #[.int .u64 0,.slice none 0 0,.slice none 0 0,.slice none 0 0,.slice none 0 0,.slice none 0 0] 45)).heap[tb]?=some (.cells #[.int .u64 0,.slice none 0 0,.slice none 0 0,.slice none 0 0,.slice none 0 0,.slice none 0 0] 45 (0,0))):=by show _=_;rw[←htb];exact heap_alloc_new _ _
   have HTl:Hid (w6.heap.size≤tb):=by show _≤_;rw[←htb];exact HI6.out.size
   have HAa:Hid (Below w6.heap.size w6 (w6.alloc (.cells #[.int .u64 0,.slice none 0 0,.slice none 0 0,.slice none 0 0,.slice none 0 0,.slice none 0 0] 45))):=(Below.refl _ _).alloc (Nat.le_refl _) _
   rw[htb]
   obtain⟨wa,hwa⟩:∃W,w6.alloc (.cells #[.int .u64 0,.slice none 0 0,.slice none 0 0,.slice none 0 0,.slice none 0 0,.slice none 0 0] 45)=W:=⟨_,rfl⟩
   rw[hwa]at HBa HTa HAa hHeld ⊢
   clear htb hwa
   refine rdy 5 (fun KK hKK=>?_)
   go_simp
   (go_at_call 27;refine(HNx.out _ HBa.out).mono ?_;rintro e1 w7 ⟨E,rfl,hEd,hEk,hb7⟩;have HEk:=hide hEk;have HB7:Hid (Below w6.heap.size w6 w7):=HBa.out.trans (hb7.mono HBa.out.size);obtain⟨Ev,hEv⟩:∃A:Array Value,E.arr=A:=⟨_,rfl⟩;have HEv:=hide hEv;have HB77:=hide hb7;rw[hEv];clear hEd hEk hb7 hEv)
   refine hKK.out _ _ (by(try dsimp only);exact HSS.out _ HB7.out) (fun hHeld=>?_)
   clear hKK KK
   try simp only[Act.put,qzg,qzh,qzi,qzs,qz0,qz1]
   refine rdy 6 (fun KK hKK=>?_)
   go_simp
   have HFo2:=hide (HFo.out _ HB7.out E HEk.out)
   rw[HEv.out]at HFo2
   (go_at_call 26;refine HFo2.out.mono ?_;rintro e1 w8 ⟨r,f,rfl,hfv,hro,hb8,hf0⟩;have HRo:=hide hro;have HB8:Hid (Below w6.heap.size w6 w8):=HB7.out.trans (hb8.mono HB7.out.size);have HB88:=hide hb8;have Hf0:=hide hf0;obtain⟨Ra,hRa⟩:∃A:Array Value,r.arr=A:=⟨_,rfl⟩;have HRa:=hide hRa;have HRaz:Hid (Ra.size=6):=(by show _=_;rw[←hRa];rfl);have HRao:Hid (Ra.all (·.oneCell')=true):=(by show _=_;rw[←hRa];simp[Sta.arr,Value.oneCell']);rw[hRa];clear hfv hro hb8 hf0 hRa)
   refine hKK.out _ _ (by(try dsimp only);exact HSS.out _ HB8.out) (fun hHeld=>?_)
   clear hKK KK
   try simp only[Act.put,qzg,qzh,qzi,qzs,qz0,qz1]
   have HTz8:Hid (w8.heap[tb]?=some (.cells #[.int .u64 0,.slice none 0 0,.slice none 0 0,.slice none 0 0,.slice none 0 0,.slice none 0 0] 45 (0,0))):=(HB88.out.block _ (ac_lt ((HB77.out.block _ (ac_lt HTa.out)).trans HTa.out))).trans ((HB77.out.block _ (ac_lt HTa.out)).trans HTa.out)
   refine tkg 7 ?_
   refine tkg 8 ?_
   refine tkg 9 ?_
   have HB9:=HB8
   have HRo9:Hid (∃B,StaOw B w8 r):=⟨_,HRo.out⟩
   have HTz:=HTz8
   obtain⟨w9,hw9⟩:∃W,w8=W:=⟨_,rfl⟩
   rw[hw9]at HB9 HTz HRo9 hHeld ⊢
   clear hw9
   refine rdy 11 (fun KK hKK=>?_)
   rw[if_pos (by kernel_rfl)]
   refine wp_store_row 45 (.tmp 8) (.tmp 36) rfl tb Ra rfl rfl 45 #[.int .u64 0,.slice none 0 0,.slice none 0 0,.slice none 0 0,.slice none 0 0,.slice none 0 0] HTz.out (by rw[HRaz.out];exact Tryz.sizeS) (by rw[HRaz.out];rfl) HRao.out ?_
   have HB10:Hid (Below w6.heap.size w6 (w9.setRow tb Ra)):=below_setRow HB9.out HTl.out Ra
   refine hKK.out _ _ (by(try dsimp only);exact HSS.out _ HB10.out) (fun hHeld=>?_)
   clear hKK KK
   try simp only[Act.put,qzg,qzh,qzi,qzs,qz0,qz1]
   refine rdy 12 (fun KK hKK=>?_)
   go_simp
   refine hKK.out _ _ (by(try dsimp only);exact HSS.out _ HB10.out) (fun hHeld=>?_)
   clear hKK KK
   try simp only[Act.put,qzg,qzh,qzi,qzs,qz0,qz1]
   refine wpAnyH_done (by kernel_rfl) (NoPanic.normal ?_) _
   have HBx:=hide (setRow_heap _ _ _ Ra _ _ HTz.out)
   have HOw:Hid (StaOw (HRo9.out.choose) (w9.setRow tb Ra) r):=HRo9.out.choose_spec.far (fun g C t hg ht=>setRow_other _ _ _ _ (by rintro rfl;rw[HTz.out]at hg;cases hg;exact not_mut rfl ht))
   obtain⟨w10,hw10⟩:∃W,w9.setRow tb Ra=W:=⟨_,rfl⟩
   rw[hw10]at HBx HOw HB10 ⊢
   clear hw10 hHeld
   have HM9:=hide (HM6.out.below HB10.out)
   by_cases hf:f=0
   ·have hf':((f:Int) == 0)=true:=by simp[hf]
    have HGr:Hid (StG w10 c r):=⟨HOw.out.ok,(Hf0.out hf).1,by obtain⟨-,r0,q1,q2⟩:=Hf0.out hf;rw[q2];exact frw_fold HG.out.wf q1 E⟩
    rw[←HRa.out]at HBx
    clear hf
    obtain⟨RA,hRA⟩:∃R:Array Value,r.arr=R:=⟨_,rfl⟩
    have hRz:RA.size=6:=by rw[←hRA];rfl
    have hRo:RA.all (·.oneCell')=true:=by rw[←hRA];simp[Sta.arr,Value.oneCell']
    rw[hRA]at HBx
    have HLr:=hide (Z.loadAt_row (P:=Tryz.prog) (ty:=45) HBx.out Tryz.underlying45 rfl (by rw[hRz];exact Tryz.sizeS))
    have HSr:=hide (Z.storeAt_row (P:=Tryz.prog) (c':=RA) HM9.out.rb (by rw[hRz];exact Tryz.sizeS) (by rw[hRz];rfl) hRo)
    have HRz:=hide hRz
    have HRe:=hide hRA
    clear hRz hRo hRA
    go_wp2_with (first | ((with_reducible show wpList _ _ _ (⟨_,.load 45 (.tmp 8),_,_,_,_⟩ :: _) _ _);refine Z.lp_load tb 0 RA rfl HLr.out ?_) | ((with_reducible show wpList _ _ _ (⟨_,.store 45 (.tmp 6) _,_,_,_,_⟩ :: _) _ _);refine Z.lp_store (t:=45) (x:=.tmp 6) (some ⟨w.heap.size+1+1+1,0,none⟩) (.agg RA) rfl rfl HSr.out ?_) | fail)
    refine bodyPost_ret (results_cell_row rfl _ _ (w.heap.size+1+1+1) 45 RA (0,0) _ rfl (HM9.out.told (s:=s) HGr.out (Or.inl ⟨_,HOw.out⟩) _).1 Tryz.underlying45 rfl (by rw[HRz.out];exact Tryz.sizeS)) rfl ?_
    exact⟨r,by rw[HRe.out],(HM9.out.told HGr.out (Or.inl ⟨_,HOw.out⟩) _).2⟩
   ·have hf':((f:Int) == 0)=false:=by simp[hf]
    have HGW:Hid (StG w10 c s):=HG.out.below (HB26.out.trans (HB10.out.mono HB26.out.size))
    clear hf
    obtain⟨c0,c1,c2,c3,c4,c5⟩:=ac6 HM9.out.sb
    obtain⟨d0,d1,d2,d3,d4,d5,d6,d7,d8⟩:=ac9 HM9.out.cb
    have HSt8:=hide (Z.storeAt_row (P:=Tryz.prog) (c':=#[.int .u64 s.pos,.slice s.pp s.pn s.pc,.slice s.rp s.rn s.rc,.slice s.lp s.ln s.lc,.slice s.gp s.gn s.gc,.slice s.op s.on s.oc]) HM9.out.rb Tryz.sizeS rfl (by simp[Value.oneCell']))
    go_wp2_with (first | ((with_reducible show wpList _ _ _ (⟨_,.store 45 (.tmp 6) _,_,_,_,_⟩ :: _) _ _);refine Z.lp_store (t:=45) (x:=.tmp 6) (some ⟨w.heap.size+1+1+1,0,none⟩) (.agg #[.int .u64 s.pos,.slice s.pp s.pn s.pc,.slice s.rp s.rn s.rc,.slice s.lp s.ln s.lc,.slice s.gp s.gn s.gc,.slice s.op s.on s.oc]) rfl rfl HSt8.out ?_) | fail)
    refine bodyPost_ret (results_cell_row rfl _ _ (w.heap.size+1+1+1) 45 #[.int .u64 s.pos,.slice s.pp s.pn s.pc,.slice s.rp s.rn s.rc,.slice s.lp s.ln s.lc,.slice s.gp s.gn s.gc,.slice s.op s.on s.oc] (0,0) _ rfl (HM9.out.told (s:=s) HGW.out (Or.inr ⟨rfl,HS0.out⟩) _).1 Tryz.underlying45 rfl Tryz.sizeS) rfl ?_
    exact⟨s,rfl,(HM9.out.told HGW.out (Or.inr ⟨rfl,HS0.out⟩) _).2⟩
 ·have hV':((V:Int) == 0)=false:=by simp[hV]
  clear hV
  go_upto_region 18 with (first | (go_at_call 25;refine HCk2.out.mono ?_;rintro e1 w5 ⟨rfl,hb5⟩;have HB5:=hide hb5;clear hb5 c0 c1 c2 c3 c4 c5 d0 d1 d2 d3 d4 d5 d6 d7 d8) | ((with_reducible show wpList _ _ _ (⟨_,.load 56 (.tmp 7),_,_,_,_⟩ :: _) _ _);refine Z.lp_load ab 0 B rfl HLb.out ?_) | fail)
  have HB25:Hid (Below w2.heap.size w2 w5):=HB24.out.trans (HB5.out.mono HB24.out.size)
  have HM5:=hide (HM4.out.below HB5.out)
  have HGW:Hid (StG w5 c s):=HG.out.below HB25.out
  obtain⟨c0,c1,c2,c3,c4,c5⟩:=ac6 HM5.out.sb
  obtain⟨d0,d1,d2,d3,d4,d5,d6,d7,d8⟩:=ac9 HM5.out.cb
  have HSt8:=hide (Z.storeAt_row (P:=Tryz.prog) (c':=#[.int .u64 s.pos,.slice s.pp s.pn s.pc,.slice s.rp s.rn s.rc,.slice s.lp s.ln s.lc,.slice s.gp s.gn s.gc,.slice s.op s.on s.oc]) HM5.out.rb Tryz.sizeS rfl (by simp[Value.oneCell']))
  go_wp2_with (first | ((with_reducible show wpList _ _ _ (⟨_,.store 45 (.tmp 6) _,_,_,_,_⟩ :: _) _ _);refine Z.lp_store (t:=45) (x:=.tmp 6) (some ⟨w.heap.size+1+1+1,0,none⟩) (.agg #[.int .u64 s.pos,.slice s.pp s.pn s.pc,.slice s.rp s.rn s.rc,.slice s.lp s.ln s.lc,.slice s.gp s.gn s.gc,.slice s.op s.on s.oc]) rfl rfl HSt8.out ?_) | fail)
  refine bodyPost_ret (results_cell_row rfl _ _ (w.heap.size+1+1+1) 45 #[.int .u64 s.pos,.slice s.pp s.pn s.pc,.slice s.rp s.rn s.rc,.slice s.lp s.ln s.lc,.slice s.gp s.gn s.gc,.slice s.op s.on s.oc] (0,0) _ rfl (HM5.out.told (s:=s) HGW.out (Or.inr ⟨rfl,HS0.out⟩) _).1 Tryz.underlying45 rfl Tryz.sizeS) rfl ?_
  exact⟨s,rfl,(HM5.out.told HGW.out (Or.inr ⟨rfl,HS0.out⟩) _).2⟩
end Go.Proofs.YtfbegfapoijbnaaGreat
namespace Go.Proofs.YtfbegfapoijbnaaGreat
open Go.RowKit Go.Sort
open Z (Sli SlOk Acd AcdOk Eda EdaOk AcOwn Ctr ctc)
set_option linter.unusedSimpArgs false in
set_option linter.unusedVariables false in
set_option maxHeartbeats 4000000 in
theorem behind_3 (w:World) (c:Cfg) (cs:List Ctr) (hcf:CfgOk w c cs) (h1t:1≤c.tills) (hcl1:1≤c.cl) (s:Sta) (hg:StG w c s) (o:Stp) (hok:AcdOk w o.ac) (h3:o.do_=3) :
  Calls Tryz.prog 6 #[.agg #[.int .i64 c.tills,.slice c.cp c.cl c.cc,.slice c.pp c.pl c.pc,.int .i64 c.lease,.int .i64 c.watch,.int .i64 c.beat,.int .i64 c.window,.int .i64 c.cap,.int .i64 c.flight],.agg #[.int .u64 s.pos,.slice s.pp s.pn s.pc,.slice s.rp s.rn s.rc,.slice s.lp s.ln s.lc,.slice s.gp s.gn s.gc,.slice s.op s.on s.oc],.agg o.arr] w (BehP w c s):=by
 obtain⟨O,hO⟩:∃O:Array Value,o.arr=O:=⟨_,rfl⟩
 have hOz:O.size=20:=by rw[←hO];rfl
 obtain⟨w2,hw2,hb2,hc2,hs2,ho2,hr2,hsz2⟩:=step_boxes w #[.int .i64 c.tills,.slice c.cp c.cl c.cc,.slice c.pp c.pl c.pc,.int .i64 c.lease,.int .i64 c.watch,.int .i64 c.beat,.int .i64 c.window,.int .i64 c.cap,.int .i64 c.flight] #[.int .u64 s.pos,.slice s.pp s.pn s.pc,.slice s.rp s.rn s.rc,.slice s.lp s.ln s.lc,.slice s.gp s.gn s.gc,.slice s.op s.on s.oc] O #[.int .u64 0,.slice none 0 0,.slice none 0 0,.slice none 0 0,.slice none 0 0,.slice none 0 0] 45
 have HW2:=hide hw2
 have HM:Hid (Bhd w w2 #[.int .i64 c.tills,.slice c.cp c.cl c.cc,.slice c.pp c.pl c.pc,.int .i64 c.lease,.int .i64 c.watch,.int .i64 c.beat,.int .i64 c.window,.int .i64 c.cap,.int .i64 c.flight] #[.int .u64 s.pos,.slice s.pp s.pn s.pc,.slice s.rp s.rn s.rc,.slice s.lp s.ln s.lc,.slice s.gp s.gn s.gc,.slice s.op s.on s.oc] O):=⟨hc2,hs2,ho2,hr2,hb2⟩
 have HS0:=hide hg.ok
 have HG:=hide (hg.below hb2)
 have HCf:=hide (hcf.below hb2)
 have HOk:=hide (hok.below hb2)
 have HOc:Hid (∀W:World,W.heap[w.heap.size+1+1]?=some (.cells O 58 (0,0))→W.cell? ⟨w.heap.size+1+1,0,none⟩=some (.int .i64 o.do_)∧W.cell? ⟨w.heap.size+1+1,18,none⟩=some (.int .i64 o.till)):=fun W h=>by
  refine⟨?_,?_⟩ <;> · rw[cell_of_row _ _ _ _ _ _ h,←hO];rfl
 have HLO:Hid (∀W:World,W.heap[w.heap.size+1+1]?=some (.cells O 58 (0,0))→(Instr.loadAt 58 (.pointer (some ⟨w.heap.size+1+1,0,none⟩))).run Tryz.prog W=.ok (.agg O) W):=fun W h=>Z.loadAt_row (P:=Tryz.prog) (ty:=58) h Tryz.underlying58 rfl (by rw[hOz];kernel_rfl)
 obtain⟨o0,o18⟩:=HOc.out w2 ho2
 obtain⟨c0,c1,c2,c3,c4,c5⟩:=ac6 hs2
 obtain⟨d0,d1,d2,d3,d4,d5,d6,d7,d8⟩:=ac9 hc2
 rw[h3]at o0
 have h0:(0:Int)<c.tills:=by omega
 obtain⟨t,ht⟩:∃t:Int,o.till % c.tills=t:=⟨_,rfl⟩
 have HWt:Hid (∀W,Calls Tryz.prog 7 #[.int .i64 o.till,.int .i64 c.tills] W fun e w'=>e=.returned (.int .i64 t)∧w'=W):=fun W=>by
  have h:=Z.within_any W o.till c.tills h0 (by have:=HCf.out.tills;omega)
  rw[ht]at h
  exact h
 obtain⟨Zr,hZr⟩:∃Z:Array Value,#[.int .u64 0,.int .i64 0,.int .u64 0,.int .i64 0,.bool false,.slice none 0 0,.slice none 0 0,.slice none 0 0,.int .i64 0,.slice none 0 0,.int .i64 0,.int .i64 0,.int .i64 0,.int .i64 0,.int .u64 0,.slice none 0 0,.int .i64 0,.slice none 0 0,.slice none 0 0,.int .i64 0,.int .i64 0,.int .u64 0]=Z:=⟨_,rfl⟩
 have HZz:Hid (Zr.size=22):=by show _=_;rw[←hZr];rfl
 have HZe:=hide hZr
 clear h0 ht hZr
 have HOe:=hide hO
 rw[hO]
 clear hO hOz hw2 hb2 hc2 hs2 ho2 hr2 hsz2 hg hcf hok
 go_enter Tryz.func6,Tryz.ntmps6
 go_upto_region 1 with (fail)
 rw[HW2.out]
 go_upto_region 9 with (fail)
 have HB26:Hid (Below w2.heap.size w2 w2.drew):=(Below.refl _ _).drew
 have HM6:=hide (HM.out.below HB26.out)
 have HG6:=hide (HG.out.below HB26.out)
 clear c0 c1 c2 c3 c4 c5 d0 d1 d2 d3 d4 d5 d6 d7 d8 o0 o18
 obtain⟨w6,hw6⟩:∃W,w2.drew=W:=⟨_,rfl⟩
 rw[hw6]at HB26 HM6 HG6
 have HSS:Hid (∀W,Below w6.heap.size w6 W→(fun W=>W.heap[w.heap.size]?=some (.cells #[.int .i64 c.tills,.slice c.cp c.cl c.cc,.slice c.pp c.pl c.pc,.int .i64 c.lease,.int .i64 c.watch,.int .i64 c.beat,.int .i64 c.window,.int .i64 c.cap,.int .i64 c.flight] 37 (0,0))∧W.heap[w.heap.size+1]?=some (.cells #[.int .u64 s.pos,.slice s.pp s.pn s.pc,.slice s.rp s.rn s.rc,.slice s.lp s.ln s.lc,.slice s.gp s.gn s.gc,.slice s.op s.on s.oc] 45 (0,0))∧W.cell? ⟨w.heap.size+1+1,18,none⟩=some (.int .i64 o.till)∧W.cell? ⟨w.heap.size,0,none⟩=some (.int .i64 c.tills)) W):=fun W h=>by
  have h1:=(h.block _ (ac_lt HM6.out.cb)).trans HM6.out.cb
  have h2:=(h.block _ (ac_lt HM6.out.ob)).trans HM6.out.ob
  exact⟨h1,(h.block _ (ac_lt HM6.out.sb)).trans HM6.out.sb,(HOc.out W h2).2,by rw[cell_of_row _ _ _ _ _ _ h1];rfl⟩
 have HFe:Hid (∀W,Below w6.heap.size w6 W→Calls Tryz.prog 28 #[.agg #[.int .i64 c.tills,.slice c.cp c.cl c.cc,.slice c.pp c.pl c.pc,.int .i64 c.lease,.int .i64 c.watch,.int .i64 c.beat,.int .i64 c.window,.int .i64 c.cap,.int .i64 c.flight],.agg #[.int .u64 s.pos,.slice s.pp s.pn s.pc,.slice s.rp s.rn s.rc,.slice s.lp s.ln s.lc,.slice s.gp s.gn s.gc,.slice s.op s.on s.oc],.int .i64 t] W (FenP W c.tills s t)):=fun W hW=>rfence_any W c s (HG6.out.below hW).ok (by have:=HG6.out.shp.gn;omega) (by have:=HG6.out.shp.on;omega) t
 have HFo:Hid (∀W,Below w6.heap.size w6 W→∀E:Eda,EdaOk W E→Calls Tryz.prog 26 #[.agg #[.int .i64 c.tills,.slice c.cp c.cl c.cc,.slice c.pp c.pl c.pc,.int .i64 c.lease,.int .i64 c.watch,.int .i64 c.beat,.int .i64 c.window,.int .i64 c.cap,.int .i64 c.flight],.agg #[.int .u64 s.pos,.slice s.pp s.pn s.pc,.slice s.rp s.rn s.rc,.slice s.lp s.ln s.lc,.slice s.gp s.gn s.gc,.slice s.op s.on s.oc],.agg E.arr] W (FoldP W c s E)):=fun W hW E hE=>rfold_any W c s (HG6.out.below hW).ok (shp_sm HCf.out HG6.out.shp) HG6.out.wf HG6.out.shp HCf.out.cl HCf.out.pl HCf.out.tills E hE
 have HI6:Hid (Below w6.heap.size w6 w6):=Below.refl _ _
 refine wp_region_noPanic ?_
 refine wp_region_held_drew (S:=(fun W=>W.heap[w.heap.size]?=some (.cells #[.int .i64 c.tills,.slice c.cp c.cl c.cc,.slice c.pp c.pl c.pc,.int .i64 c.lease,.int .i64 c.watch,.int .i64 c.beat,.int .i64 c.window,.int .i64 c.cap,.int .i64 c.flight] 37 (0,0))∧W.heap[w.heap.size+1]?=some (.cells #[.int .u64 s.pos,.slice s.pp s.pn s.pc,.slice s.rp s.rn s.rc,.slice s.lp s.ln s.lc,.slice s.gp s.gn s.gc,.slice s.op s.on s.oc] 45 (0,0))∧W.cell? ⟨w.heap.size+1+1,18,none⟩=some (.int .i64 o.till)∧W.cell? ⟨w.heap.size,0,none⟩=some (.int .i64 c.tills))) (by kernel_rfl) (by rw[hw6];exact HSS.out _ HI6.out) (fun hHeld=>?_)
 rw[hw6]at hHeld ⊢
 clear hw6
 refine wpAnyH_take (i:=0) (oi:=_) (v:=.agg #[.int .i64 c.tills,.slice c.cp c.cl c.cc,.slice c.pp c.pl c.pc,.int .i64 c.lease,.int .i64 c.watch,.int .i64 c.beat,.int .i64 c.window,.int .i64 c.cap,.int .i64 c.flight]) rfl (by kernel_rfl) (by kernel_rfl) (by kernel_rfl) (fun _ _ _ h=>h) (Or.inl ⟨by kernel_rfl,fun W hW=>ex_loadw W 37 (.tmp 3) rfl (w.heap.size) #[.int .i64 c.tills,.slice c.cp c.cl c.cc,.slice c.pp c.pl c.pc,.int .i64 c.lease,.int .i64 c.watch,.int .i64 c.beat,.int .i64 c.window,.int .i64 c.cap,.int .i64 c.flight] rfl (Z.loadAt_row (P:=Tryz.prog) (ty:=37) hW.1 Tryz.underlying37 rfl Tryz.sizeC)⟩) hHeld ?_
 try simp only[Act.put,qzg,qzh,qzi,qzs,qz0,qz1]
 refine wpAnyH_take (i:=1) (oi:=_) (v:=.agg #[.int .u64 s.pos,.slice s.pp s.pn s.pc,.slice s.rp s.rn s.rc,.slice s.lp s.ln s.lc,.slice s.gp s.gn s.gc,.slice s.op s.on s.oc]) rfl (by kernel_rfl) (by kernel_rfl) (by kernel_rfl) (fun _ _ _ h=>h) (Or.inl ⟨by kernel_rfl,fun W hW=>ex_loadw W 45 (.tmp 4) rfl (w.heap.size+1) #[.int .u64 s.pos,.slice s.pp s.pn s.pc,.slice s.rp s.rn s.rc,.slice s.lp s.ln s.lc,.slice s.gp s.gn s.gc,.slice s.op s.on s.oc] rfl (Z.loadAt_row (P:=Tryz.prog) (ty:=45) hW.2.1 Tryz.underlying45 rfl Tryz.sizeS)⟩) hHeld ?_
 try simp only[Act.put,qzg,qzh,qzi,qzs,qz0,qz1]
 refine tkg 2 (hy:=by(intro w hSw;obtain⟨-,-,q1,q2⟩:=hSw;go_simp;try with_reducible rfl)) ?_
 refine tkg 3 (hy:=by(intro w hSw;obtain⟨-,-,q1,q2⟩:=hSw;go_simp;try with_reducible rfl)) ?_
 refine tkg 4 (hy:=by(intro w hSw;obtain⟨-,-,q1,q2⟩:=hSw;go_simp;try with_reducible rfl)) ?_
 refine tkg 5 (hy:=by(intro w hSw;obtain⟨-,-,q1,q2⟩:=hSw;go_simp;try with_reducible rfl)) ?_
 refine wpAnyH_ready (rs:=[6,11]) (by kernel_rfl) (by simp) ?_
 refine AllReadyH.cons (o:=_) rfl (fun KK hKK=>?_) (AllReadyH.cons (o:=_) rfl (fun KK hKK=>?_) AllReadyH.nil)
 ·go_simp
  (go_at_call 7;refine(HWt.out _).mono ?_;rintro e w9 ⟨rfl,h9⟩;rw[h9];clear h9 w9)
  refine hKK.out _ _ (by(try dsimp only);exact HSS.out _ HI6.out) (fun hHeld=>?_)
  clear hKK KK
  try simp only[Act.put,qzg,qzh,qzi,qzs,qz0,qz1]
  refine wpAnyH_ready (rs:=[7,11]) (by kernel_rfl) (by simp) ?_
  refine AllReadyH.cons (o:=_) rfl (fun KK hKK=>?_) (AllReadyH.cons (o:=_) rfl (fun KK hKK=>?_) AllReadyH.nil)
  ·go_simp
   (go_at_call 28;refine(HFe.out _ HI6.out).mono ?_;rintro e1 w7 ⟨E,b,rfl,hEk,-,hEd,hb7⟩;have HEk:=hide hEk;have HEn:=hide (fun hb=>eda_nil hEk (hEd hb));have HB7:Hid (Below w6.heap.size w6 w7):=HI6.out.trans (hb7.mono HI6.out.size);have HB77:=hide hb7;obtain⟨Ev,hEv⟩:∃A:Array Value,E.arr=A:=⟨_,rfl⟩;have HEv:=hide hEv;have HEvz:Hid (Ev.size=22):=(by show _=_;rw[←hEv];rfl);have HEvo:Hid (Ev.all (·.oneCell')=true):=(by show _=_;rw[←hEv];exact Z.Eda.ones E);rw[hEv];clear hEk hEd hb7 hEv)
   refine hKK.out _ _ (by(try dsimp only);exact HSS.out _ HB7.out) (fun hHeld=>?_)
   clear hKK KK
   try simp only[Act.put,qzg,qzh,qzi,qzs,qz0,qz1]
   refine tkg 8 ?_
   refine tkg 9 ?_
   refine tkg 10 ?_
   refine rdy 11 (fun KK hKK=>?_)
   go_simp
   have HBa:Hid (Below w6.heap.size w6 (w7.alloc (.cells #[.int .u64 0,.int .i64 0,.int .u64 0,.int .i64 0,.bool false,.slice none 0 0,.slice none 0 0,.slice none 0 0,.int .i64 0,.slice none 0 0,.int .i64 0,.int .i64 0,.int .i64 0,.int .i64 0,.int .u64 0,.slice none 0 0,.int .i64 0,.slice none 0 0,.slice none 0 0,.int .i64 0,.int .i64 0,.int .u64 0] 89))):=HB7.out.alloc HB7.out.size _
   refine hKK.out _ _ (by(try dsimp only);exact HSS.out _ HBa.out) (fun hHeld=>?_)
   clear hKK KK
   try simp only[Act.put,qzg,qzh,qzi,qzs,qz0,qz1]
   rw[HZe.out]at HBa hHeld ⊢
   obtain⟨eb,heb⟩:∃k,w7.heap.size=k:=⟨_,rfl⟩
   have HTa:Hid ((w7.alloc (.cells Zr 89)).heap[eb]?=some (.cells Zr 89 (0,0))):=by show _=_;rw[←heb];exact heap_alloc_new _ _
   have HTl:Hid (w6.heap.size≤eb):=by show _≤_;rw[←heb];exact HB7.out.size
   have HAa:Hid (Below w7.heap.size w7 (w7.alloc (.cells Zr 89))):=(Below.refl _ _).alloc (Nat.le_refl _) _
   rw[heb]
   obtain⟨wa,hwa⟩:∃W,w7.alloc (.cells Zr 89)=W:=⟨_,rfl⟩
   rw[hwa]at HBa HTa HAa hHeld ⊢
   clear heb hwa
   have HB9:=HBa
   have HTz:=HTa
   obtain⟨w9,hw9⟩:∃W,wa=W:=⟨_,rfl⟩
   rw[hw9]at HB9 HTz hHeld ⊢
   clear hw9
   refine rdy 12 (fun KK hKK=>?_)
   rw[if_pos (by kernel_rfl)]
   refine wp_store_row 89 (.tmp 10) (.tmp 52) rfl eb Ev rfl rfl 89 Zr HTz.out (by rw[HEvz.out];exact Tryz.sizeE) (by rw[HZz.out,HEvz.out]) HEvo.out ?_
   have HB10:Hid (Below w6.heap.size w6 (w9.setRow eb Ev)):=below_setRow HB9.out HTl.out Ev
   refine hKK.out _ _ (by(try dsimp only);exact HSS.out _ HB10.out) (fun hHeld=>?_)
   clear hKK KK
   try simp only[Act.put,qzg,qzh,qzi,qzs,qz0,qz1]
   refine rdy 13 (fun KK hKK=>?_)
   go_simp
   refine hKK.out _ _ (by(try dsimp only);exact HSS.out _ HB10.out) (fun hHeld=>?_)
   clear hKK KK
   try simp only[Act.put,qzg,qzh,qzi,qzs,qz0,qz1]
   refine wpAnyH_done (by kernel_rfl) (NoPanic.normal ?_) _
   have HEb:=hide (setRow_heap _ _ _ Ev _ _ HTz.out)
   obtain⟨w10,hw10⟩:∃W,w9.setRow eb Ev=W:=⟨_,rfl⟩
   rw[hw10]at HEb HB10 ⊢
   clear hw10 hHeld
   have HM10:=hide (HM6.out.below HB10.out)
   have HG10:=hide (HG6.out.below HB10.out)
   cases b with
   | false =>
    skip
    have HGW:=HG10
    obtain⟨c0,c1,c2,c3,c4,c5⟩:=ac6 HM10.out.sb
    obtain⟨d0,d1,d2,d3,d4,d5,d6,d7,d8⟩:=ac9 HM10.out.cb
    have HSt8:=hide (Z.storeAt_row (P:=Tryz.prog) (c':=#[.int .u64 s.pos,.slice s.pp s.pn s.pc,.slice s.rp s.rn s.rc,.slice s.lp s.ln s.lc,.slice s.gp s.gn s.gc,.slice s.op s.on s.oc]) HM10.out.rb Tryz.sizeS rfl (by simp[Value.oneCell']))
    go_wp2_with (first | ((with_reducible show wpList _ _ _ (⟨_,.store 45 (.tmp 6) _,_,_,_,_⟩ :: _) _ _);refine Z.lp_store (t:=45) (x:=.tmp 6) (some ⟨w.heap.size+1+1+1,0,none⟩) (.agg #[.int .u64 s.pos,.slice s.pp s.pn s.pc,.slice s.rp s.rn s.rc,.slice s.lp s.ln s.lc,.slice s.gp s.gn s.gc,.slice s.op s.on s.oc]) rfl rfl HSt8.out ?_) | fail)
    refine bodyPost_ret (results_cell_row rfl _ _ (w.heap.size+1+1+1) 45 #[.int .u64 s.pos,.slice s.pp s.pn s.pc,.slice s.rp s.rn s.rc,.slice s.lp s.ln s.lc,.slice s.gp s.gn s.gc,.slice s.op s.on s.oc] (0,0) _ rfl (HM10.out.told (s:=s) HGW.out (Or.inr ⟨rfl,HS0.out⟩) _).1 Tryz.underlying45 rfl Tryz.sizeS) rfl ?_
    exact⟨s,rfl,(HM10.out.told HGW.out (Or.inr ⟨rfl,HS0.out⟩) _).2⟩
   | true =>
    skip
    obtain⟨c0,c1,c2,c3,c4,c5⟩:=ac6 HM10.out.sb
    obtain⟨d0,d1,d2,d3,d4,d5,d6,d7,d8⟩:=ac9 HM10.out.cb
    have HFo2:=hide (HFo.out _ HB10.out E (HEn.out rfl _))
    rw[HEv.out]at HFo2
    have HLe:=hide (Z.loadAt_row (P:=Tryz.prog) (ty:=89) HEb.out Tryz.underlying89 rfl (by rw[HEvz.out];exact Tryz.sizeE))
    go_upto_region 12 with (first | (go_at_call 26;refine HFo2.out.mono ?_;rintro e1 w11 ⟨r,f,rfl,hfv,hro,hb11,hf0⟩;have HRo:=hide hro;have HB11:=hide hb11;have Hf0:=hide hf0;obtain⟨Ra,hRa⟩:∃A:Array Value,r.arr=A:=⟨_,rfl⟩;have HRa:=hide hRa;have HRaz:Hid (Ra.size=6):=(by show _=_;rw[←hRa];rfl);have HRao:Hid (Ra.all (·.oneCell')=true):=(by show _=_;rw[←hRa];simp[Sta.arr,Value.oneCell']);rw[hRa];clear hfv hro hb11 hf0 hRa c0 c1 c2 c3 c4 c5 d0 d1 d2 d3 d4 d5 d6 d7 d8) | ((with_reducible show wpList _ _ _ (⟨_,.load 89 (.tmp 10),_,_,_,_⟩ :: _) _ _);refine Z.lp_load eb 0 Ev rfl HLe.out ?_) | ((with_reducible show wpList _ _ _ (⟨_,.store 45 (.tmp 12) _,_,_,_,_⟩ :: _) _ _);refine Z.lp_store (t:=45) (x:=.tmp 12) (some ⟨w11.heap.size,0,none⟩) (.agg Ra) rfl rfl (run_storeAt_new (P:=Tryz.prog) w11 45 #[.int .u64 0,.slice none 0 0,.slice none 0 0,.slice none 0 0,.slice none 0 0,.slice none 0 0] Ra (by rw[HRaz.out];exact Tryz.sizeS) (by rw[HRaz.out];rfl) HRao.out) ?_) | fail)
    have hbx:=heap_alloc_new w11 (.cells Ra 45)
    have hb12:Below w11.heap.size w11 (w11.alloc (.cells Ra 45)):=(Below.refl _ _).alloc (Nat.le_refl _) _
    obtain⟨w12,hw12⟩:∃W,w11.alloc (.cells Ra 45)=W:=⟨_,rfl⟩
    rw[hw12]at hbx hb12 ⊢
    obtain⟨tb,htb⟩:∃k,w11.heap.size=k:=⟨_,rfl⟩
    rw[htb]at hbx ⊢
    clear hw12 htb
    have HBx:=hide hbx
    have HB12:Hid (Below w10.heap.size w10 w12):=HB11.out.trans (hb12.mono HB11.out.size)
    have HM9:=hide (HM10.out.below HB12.out)
    have HOw:=hide (HRo.out.below hb12)
    have HG:=hide (HG10.out.below HB12.out)
    clear hb12 hbx
    by_cases hf:f=0
    ·have hf':((f:Int) == 0)=true:=by simp[hf]
     have HGr:Hid (StG w12 c r):=⟨HOw.out.ok,(Hf0.out hf).1,by obtain⟨-,r0,q1,q2⟩:=Hf0.out hf;rw[q2];exact frw_fold HG.out.wf q1 E⟩
     rw[←HRa.out]at HBx
     clear hf
     obtain⟨RA,hRA⟩:∃R:Array Value,r.arr=R:=⟨_,rfl⟩
     have hRz:RA.size=6:=by rw[←hRA];rfl
     have hRo:RA.all (·.oneCell')=true:=by rw[←hRA];simp[Sta.arr,Value.oneCell']
     rw[hRA]at HBx
     have HLr:=hide (Z.loadAt_row (P:=Tryz.prog) (ty:=45) HBx.out Tryz.underlying45 rfl (by rw[hRz];exact Tryz.sizeS))
     have HSr:=hide (Z.storeAt_row (P:=Tryz.prog) (c':=RA) HM9.out.rb (by rw[hRz];exact Tryz.sizeS) (by rw[hRz];rfl) hRo)
     have HRz:=hide hRz
     have HRe:=hide hRA
     clear hRz hRo hRA
     go_wp2_with (first | ((with_reducible show wpList _ _ _ (⟨_,.load 45 (.tmp 12),_,_,_,_⟩ :: _) _ _);refine Z.lp_load tb 0 RA rfl HLr.out ?_) | ((with_reducible show wpList _ _ _ (⟨_,.store 45 (.tmp 6) _,_,_,_,_⟩ :: _) _ _);refine Z.lp_store (t:=45) (x:=.tmp 6) (some ⟨w.heap.size+1+1+1,0,none⟩) (.agg RA) rfl rfl HSr.out ?_) | fail)
     refine bodyPost_ret (results_cell_row rfl _ _ (w.heap.size+1+1+1) 45 RA (0,0) _ rfl (HM9.out.told (s:=s) HGr.out (Or.inl ⟨_,HOw.out⟩) _).1 Tryz.underlying45 rfl (by rw[HRz.out];exact Tryz.sizeS)) rfl ?_
     exact⟨r,by rw[HRe.out],(HM9.out.told HGr.out (Or.inl ⟨_,HOw.out⟩) _).2⟩
    ·have hf':((f:Int) == 0)=false:=by simp[hf]
     have HGW:Hid (StG w12 c s):=HG.out.below (Below.refl _ _)
     clear hf
     obtain⟨c0,c1,c2,c3,c4,c5⟩:=ac6 HM9.out.sb
     obtain⟨d0,d1,d2,d3,d4,d5,d6,d7,d8⟩:=ac9 HM9.out.cb
     have HSt8:=hide (Z.storeAt_row (P:=Tryz.prog) (c':=#[.int .u64 s.pos,.slice s.pp s.pn s.pc,.slice s.rp s.rn s.rc,.slice s.lp s.ln s.lc,.slice s.gp s.gn s.gc,.slice s.op s.on s.oc]) HM9.out.rb Tryz.sizeS rfl (by simp[Value.oneCell']))
     go_wp2_with (first | ((with_reducible show wpList _ _ _ (⟨_,.store 45 (.tmp 6) _,_,_,_,_⟩ :: _) _ _);refine Z.lp_store (t:=45) (x:=.tmp 6) (some ⟨w.heap.size+1+1+1,0,none⟩) (.agg #[.int .u64 s.pos,.slice s.pp s.pn s.pc,.slice s.rp s.rn s.rc,.slice s.lp s.ln s.lc,.slice s.gp s.gn s.gc,.slice s.op s.on s.oc]) rfl rfl HSt8.out ?_) | fail)
     refine bodyPost_ret (results_cell_row rfl _ _ (w.heap.size+1+1+1) 45 #[.int .u64 s.pos,.slice s.pp s.pn s.pc,.slice s.rp s.rn s.rc,.slice s.lp s.ln s.lc,.slice s.gp s.gn s.gc,.slice s.op s.on s.oc] (0,0) _ rfl (HM9.out.told (s:=s) HGW.out (Or.inr ⟨rfl,HS0.out⟩) _).1 Tryz.underlying45 rfl Tryz.sizeS) rfl ?_
     exact⟨s,rfl,(HM9.out.told HGW.out (Or.inr ⟨rfl,HS0.out⟩) _).2⟩
  ·go_simp
   have HBa:Hid (Below w6.heap.size w6 (w6.alloc (.cells #[.int .u64 0,.int .i64 0,.int .u64 0,.int .i64 0,.bool false,.slice none 0 0,.slice none 0 0,.slice none 0 0,.int .i64 0,.slice none 0 0,.int .i64 0,.int .i64 0,.int .i64 0,.int .i64 0,.int .u64 0,.slice none 0 0,.int .i64 0,.slice none 0 0,.slice none 0 0,.int .i64 0,.int .i64 0,.int .u64 0] 89))):=HI6.out.alloc HI6.out.size _
   refine hKK.out _ _ (by(try dsimp only);exact HSS.out _ HBa.out) (fun hHeld=>?_)
   clear hKK KK
   try simp only[Act.put,qzg,qzh,qzi,qzs,qz0,qz1]
   rw[HZe.out]at HBa hHeld ⊢
   obtain⟨eb,heb⟩:∃k,w6.heap.size=k:=⟨_,rfl⟩
   have HTa:Hid ((w6.alloc (.cells Zr 89)).heap[eb]?=some (.cells Zr 89 (0,0))):=by show _=_;rw[←heb];exact heap_alloc_new _ _
   have HTl:Hid (w6.heap.size≤eb):=by show _≤_;rw[←heb];exact HI6.out.size
   have HAa:Hid (Below w6.heap.size w6 (w6.alloc (.cells Zr 89))):=(Below.refl _ _).alloc (Nat.le_refl _) _
   rw[heb]
   obtain⟨wa,hwa⟩:∃W,w6.alloc (.cells Zr 89)=W:=⟨_,rfl⟩
   rw[hwa]at HBa HTa HAa hHeld ⊢
   clear heb hwa
   refine rdy 7 (fun KK hKK=>?_)
   go_simp
   (go_at_call 28;refine(HFe.out _ HBa.out).mono ?_;rintro e1 w7 ⟨E,b,rfl,hEk,-,hEd,hb7⟩;have HEk:=hide hEk;have HEn:=hide (fun hb=>eda_nil hEk (hEd hb));have HB7:Hid (Below w6.heap.size w6 w7):=HBa.out.trans (hb7.mono HBa.out.size);have HB77:=hide hb7;obtain⟨Ev,hEv⟩:∃A:Array Value,E.arr=A:=⟨_,rfl⟩;have HEv:=hide hEv;have HEvz:Hid (Ev.size=22):=(by show _=_;rw[←hEv];rfl);have HEvo:Hid (Ev.all (·.oneCell')=true):=(by show _=_;rw[←hEv];exact Z.Eda.ones E);rw[hEv];clear hEk hEd hb7 hEv)
   refine hKK.out _ _ (by(try dsimp only);exact HSS.out _ HB7.out) (fun hHeld=>?_)
   clear hKK KK
   try simp only[Act.put,qzg,qzh,qzi,qzs,qz0,qz1]
   have HTz7:Hid (w7.heap[eb]?=some (.cells Zr 89 (0,0))):=(HB77.out.block _ (ac_lt HTa.out)).trans HTa.out
   refine tkg 8 ?_
   refine tkg 9 ?_
   refine tkg 10 ?_
   have HB9:=HB7
   have HTz:=HTz7
   obtain⟨w9,hw9⟩:∃W,w7=W:=⟨_,rfl⟩
   rw[hw9]at HB9 HTz hHeld ⊢
   clear hw9
   refine rdy 12 (fun KK hKK=>?_)
   rw[if_pos (by kernel_rfl)]
   refine wp_store_row 89 (.tmp 10) (.tmp 52) rfl eb Ev rfl rfl 89 Zr HTz.out (by rw[HEvz.out];exact Tryz.sizeE) (by rw[HZz.out,HEvz.out]) HEvo.out ?_
   have HB10:Hid (Below w6.heap.size w6 (w9.setRow eb Ev)):=below_setRow HB9.out HTl.out Ev
   refine hKK.out _ _ (by(try dsimp only);exact HSS.out _ HB10.out) (fun hHeld=>?_)
   clear hKK KK
   try simp only[Act.put,qzg,qzh,qzi,qzs,qz0,qz1]
   refine rdy 13 (fun KK hKK=>?_)
   go_simp
   refine hKK.out _ _ (by(try dsimp only);exact HSS.out _ HB10.out) (fun hHeld=>?_)
   clear hKK KK
   try simp only[Act.put,qzg,qzh,qzi,qzs,qz0,qz1]
   refine wpAnyH_done (by kernel_rfl) (NoPanic.normal ?_) _
   have HEb:=hide (setRow_heap _ _ _ Ev _ _ HTz.out)
   obtain⟨w10,hw10⟩:∃W,w9.setRow eb Ev=W:=⟨_,rfl⟩
   rw[hw10]at HEb HB10 ⊢
   clear hw10 hHeld
   have HM10:=hide (HM6.out.below HB10.out)
   have HG10:=hide (HG6.out.below HB10.out)
   cases b with
   | false =>
    skip
    have HGW:=HG10
    obtain⟨c0,c1,c2,c3,c4,c5⟩:=ac6 HM10.out.sb
    obtain⟨d0,d1,d2,d3,d4,d5,d6,d7,d8⟩:=ac9 HM10.out.cb
    have HSt8:=hide (Z.storeAt_row (P:=Tryz.prog) (c':=#[.int .u64 s.pos,.slice s.pp s.pn s.pc,.slice s.rp s.rn s.rc,.slice s.lp s.ln s.lc,.slice s.gp s.gn s.gc,.slice s.op s.on s.oc]) HM10.out.rb Tryz.sizeS rfl (by simp[Value.oneCell']))
    go_wp2_with (first | ((with_reducible show wpList _ _ _ (⟨_,.store 45 (.tmp 6) _,_,_,_,_⟩ :: _) _ _);refine Z.lp_store (t:=45) (x:=.tmp 6) (some ⟨w.heap.size+1+1+1,0,none⟩) (.agg #[.int .u64 s.pos,.slice s.pp s.pn s.pc,.slice s.rp s.rn s.rc,.slice s.lp s.ln s.lc,.slice s.gp s.gn s.gc,.slice s.op s.on s.oc]) rfl rfl HSt8.out ?_) | fail)
    refine bodyPost_ret (results_cell_row rfl _ _ (w.heap.size+1+1+1) 45 #[.int .u64 s.pos,.slice s.pp s.pn s.pc,.slice s.rp s.rn s.rc,.slice s.lp s.ln s.lc,.slice s.gp s.gn s.gc,.slice s.op s.on s.oc] (0,0) _ rfl (HM10.out.told (s:=s) HGW.out (Or.inr ⟨rfl,HS0.out⟩) _).1 Tryz.underlying45 rfl Tryz.sizeS) rfl ?_
    exact⟨s,rfl,(HM10.out.told HGW.out (Or.inr ⟨rfl,HS0.out⟩) _).2⟩
   | true =>
    skip
    obtain⟨c0,c1,c2,c3,c4,c5⟩:=ac6 HM10.out.sb
    obtain⟨d0,d1,d2,d3,d4,d5,d6,d7,d8⟩:=ac9 HM10.out.cb
    have HFo2:=hide (HFo.out _ HB10.out E (HEn.out rfl _))
    rw[HEv.out]at HFo2
    have HLe:=hide (Z.loadAt_row (P:=Tryz.prog) (ty:=89) HEb.out Tryz.underlying89 rfl (by rw[HEvz.out];exact Tryz.sizeE))
    go_upto_region 12 with (first | (go_at_call 26;refine HFo2.out.mono ?_;rintro e1 w11 ⟨r,f,rfl,hfv,hro,hb11,hf0⟩;have HRo:=hide hro;have HB11:=hide hb11;have Hf0:=hide hf0;obtain⟨Ra,hRa⟩:∃A:Array Value,r.arr=A:=⟨_,rfl⟩;have HRa:=hide hRa;have HRaz:Hid (Ra.size=6):=(by show _=_;rw[←hRa];rfl);have HRao:Hid (Ra.all (·.oneCell')=true):=(by show _=_;rw[←hRa];simp[Sta.arr,Value.oneCell']);rw[hRa];clear hfv hro hb11 hf0 hRa c0 c1 c2 c3 c4 c5 d0 d1 d2 d3 d4 d5 d6 d7 d8) | ((with_reducible show wpList _ _ _ (⟨_,.load 89 (.tmp 10),_,_,_,_⟩ :: _) _ _);refine Z.lp_load eb 0 Ev rfl HLe.out ?_) | ((with_reducible show wpList _ _ _ (⟨_,.store 45 (.tmp 12) _,_,_,_,_⟩ :: _) _ _);refine Z.lp_store (t:=45) (x:=.tmp 12) (some ⟨w11.heap.size,0,none⟩) (.agg Ra) rfl rfl (run_storeAt_new (P:=Tryz.prog) w11 45 #[.int .u64 0,.slice none 0 0,.slice none 0 0,.slice none 0 0,.slice none 0 0,.slice none 0 0] Ra (by rw[HRaz.out];exact Tryz.sizeS) (by rw[HRaz.out];rfl) HRao.out) ?_) | fail)
    have hbx:=heap_alloc_new w11 (.cells Ra 45)
    have hb12:Below w11.heap.size w11 (w11.alloc (.cells Ra 45)):=(Below.refl _ _).alloc (Nat.le_refl _) _
    obtain⟨w12,hw12⟩:∃W,w11.alloc (.cells Ra 45)=W:=⟨_,rfl⟩
    rw[hw12]at hbx hb12 ⊢
    obtain⟨tb,htb⟩:∃k,w11.heap.size=k:=⟨_,rfl⟩
    rw[htb]at hbx ⊢
    clear hw12 htb
    have HBx:=hide hbx
    have HB12:Hid (Below w10.heap.size w10 w12):=HB11.out.trans (hb12.mono HB11.out.size)
    have HM9:=hide (HM10.out.below HB12.out)
    have HOw:=hide (HRo.out.below hb12)
    have HG:=hide (HG10.out.below HB12.out)
    clear hb12 hbx
    by_cases hf:f=0
    ·have hf':((f:Int) == 0)=true:=by simp[hf]
     have HGr:Hid (StG w12 c r):=⟨HOw.out.ok,(Hf0.out hf).1,by obtain⟨-,r0,q1,q2⟩:=Hf0.out hf;rw[q2];exact frw_fold HG.out.wf q1 E⟩
     rw[←HRa.out]at HBx
     clear hf
     obtain⟨RA,hRA⟩:∃R:Array Value,r.arr=R:=⟨_,rfl⟩
     have hRz:RA.size=6:=by rw[←hRA];rfl
     have hRo:RA.all (·.oneCell')=true:=by rw[←hRA];simp[Sta.arr,Value.oneCell']
     rw[hRA]at HBx
     have HLr:=hide (Z.loadAt_row (P:=Tryz.prog) (ty:=45) HBx.out Tryz.underlying45 rfl (by rw[hRz];exact Tryz.sizeS))
     have HSr:=hide (Z.storeAt_row (P:=Tryz.prog) (c':=RA) HM9.out.rb (by rw[hRz];exact Tryz.sizeS) (by rw[hRz];rfl) hRo)
     have HRz:=hide hRz
     have HRe:=hide hRA
     clear hRz hRo hRA
     go_wp2_with (first | ((with_reducible show wpList _ _ _ (⟨_,.load 45 (.tmp 12),_,_,_,_⟩ :: _) _ _);refine Z.lp_load tb 0 RA rfl HLr.out ?_) | ((with_reducible show wpList _ _ _ (⟨_,.store 45 (.tmp 6) _,_,_,_,_⟩ :: _) _ _);refine Z.lp_store (t:=45) (x:=.tmp 6) (some ⟨w.heap.size+1+1+1,0,none⟩) (.agg RA) rfl rfl HSr.out ?_) | fail)
     refine bodyPost_ret (results_cell_row rfl _ _ (w.heap.size+1+1+1) 45 RA (0,0) _ rfl (HM9.out.told (s:=s) HGr.out (Or.inl ⟨_,HOw.out⟩) _).1 Tryz.underlying45 rfl (by rw[HRz.out];exact Tryz.sizeS)) rfl ?_
     exact⟨r,by rw[HRe.out],(HM9.out.told HGr.out (Or.inl ⟨_,HOw.out⟩) _).2⟩
    ·have hf':((f:Int) == 0)=false:=by simp[hf]
     have HGW:Hid (StG w12 c s):=HG.out.below (Below.refl _ _)
     clear hf
     obtain⟨c0,c1,c2,c3,c4,c5⟩:=ac6 HM9.out.sb
     obtain⟨d0,d1,d2,d3,d4,d5,d6,d7,d8⟩:=ac9 HM9.out.cb
     have HSt8:=hide (Z.storeAt_row (P:=Tryz.prog) (c':=#[.int .u64 s.pos,.slice s.pp s.pn s.pc,.slice s.rp s.rn s.rc,.slice s.lp s.ln s.lc,.slice s.gp s.gn s.gc,.slice s.op s.on s.oc]) HM9.out.rb Tryz.sizeS rfl (by simp[Value.oneCell']))
     go_wp2_with (first | ((with_reducible show wpList _ _ _ (⟨_,.store 45 (.tmp 6) _,_,_,_,_⟩ :: _) _ _);refine Z.lp_store (t:=45) (x:=.tmp 6) (some ⟨w.heap.size+1+1+1,0,none⟩) (.agg #[.int .u64 s.pos,.slice s.pp s.pn s.pc,.slice s.rp s.rn s.rc,.slice s.lp s.ln s.lc,.slice s.gp s.gn s.gc,.slice s.op s.on s.oc]) rfl rfl HSt8.out ?_) | fail)
     refine bodyPost_ret (results_cell_row rfl _ _ (w.heap.size+1+1+1) 45 #[.int .u64 s.pos,.slice s.pp s.pn s.pc,.slice s.rp s.rn s.rc,.slice s.lp s.ln s.lc,.slice s.gp s.gn s.gc,.slice s.op s.on s.oc] (0,0) _ rfl (HM9.out.told (s:=s) HGW.out (Or.inr ⟨rfl,HS0.out⟩) _).1 Tryz.underlying45 rfl Tryz.sizeS) rfl ?_
     exact⟨s,rfl,(HM9.out.told HGW.out (Or.inr ⟨rfl,HS0.out⟩) _).2⟩
 ·go_simp
  have HBa:Hid (Below w6.heap.size w6 (w6.alloc (.cells #[.int .u64 0,.int .i64 0,.int .u64 0,.int .i64 0,.bool false,.slice none 0 0,.slice none 0 0,.slice none 0 0,.int .i64 0,.slice none 0 0,.int .i64 0,.int .i64 0,.int .i64 0,.int .i64 0,.int .u64 0,.slice none 0 0,.int .i64 0,.slice none 0 0,.slice none 0 0,.int .i64 0,.int .i64 0,.int .u64 0] 89))):=HI6.out.alloc HI6.out.size _
  refine hKK.out _ _ (by(try dsimp only);exact HSS.out _ HBa.out) (fun hHeld=>?_)
  clear hKK KK
  try simp only[Act.put,qzg,qzh,qzi,qzs,qz0,qz1]
  rw[HZe.out]at HBa hHeld ⊢
  obtain⟨eb,heb⟩:∃k,w6.heap.size=k:=⟨_,rfl⟩
  have HTa:Hid ((w6.alloc (.cells Zr 89)).heap[eb]?=some (.cells Zr 89 (0,0))):=by show _=_;rw[←heb];exact heap_alloc_new _ _
  have HTl:Hid (w6.heap.size≤eb):=by show _≤_;rw[←heb];exact HI6.out.size
  have HAa:Hid (Below w6.heap.size w6 (w6.alloc (.cells Zr 89))):=(Below.refl _ _).alloc (Nat.le_refl _) _
  rw[heb]
  obtain⟨wa,hwa⟩:∃W,w6.alloc (.cells Zr 89)=W:=⟨_,rfl⟩
  rw[hwa]at HBa HTa HAa hHeld ⊢
  clear heb hwa
  refine rdy 6 (fun KK hKK=>?_)
  go_simp
  (go_at_call 7;refine(HWt.out _).mono ?_;rintro e w9 ⟨rfl,h9⟩;rw[h9];clear h9 w9)
  refine hKK.out _ _ (by(try dsimp only);exact HSS.out _ HBa.out) (fun hHeld=>?_)
  clear hKK KK
  try simp only[Act.put,qzg,qzh,qzi,qzs,qz0,qz1]
  refine rdy 7 (fun KK hKK=>?_)
  go_simp
  (go_at_call 28;refine(HFe.out _ HBa.out).mono ?_;rintro e1 w7 ⟨E,b,rfl,hEk,-,hEd,hb7⟩;have HEk:=hide hEk;have HEn:=hide (fun hb=>eda_nil hEk (hEd hb));have HB7:Hid (Below w6.heap.size w6 w7):=HBa.out.trans (hb7.mono HBa.out.size);have HB77:=hide hb7;obtain⟨Ev,hEv⟩:∃A:Array Value,E.arr=A:=⟨_,rfl⟩;have HEv:=hide hEv;have HEvz:Hid (Ev.size=22):=(by show _=_;rw[←hEv];rfl);have HEvo:Hid (Ev.all (·.oneCell')=true):=(by show _=_;rw[←hEv];exact Z.Eda.ones E);rw[hEv];clear hEk hEd hb7 hEv)
  refine hKK.out _ _ (by(try dsimp only);exact HSS.out _ HB7.out) (fun hHeld=>?_)
  clear hKK KK
  try simp only[Act.put,qzg,qzh,qzi,qzs,qz0,qz1]
  have HTz7:Hid (w7.heap[eb]?=some (.cells Zr 89 (0,0))):=(HB77.out.block _ (ac_lt HTa.out)).trans HTa.out
  refine tkg 8 ?_
  refine tkg 9 ?_
  refine tkg 10 ?_
  have HB9:=HB7
  have HTz:=HTz7
  obtain⟨w9,hw9⟩:∃W,w7=W:=⟨_,rfl⟩
  rw[hw9]at HB9 HTz hHeld ⊢
  clear hw9
  refine rdy 12 (fun KK hKK=>?_)
  rw[if_pos (by kernel_rfl)]
  refine wp_store_row 89 (.tmp 10) (.tmp 52) rfl eb Ev rfl rfl 89 Zr HTz.out (by rw[HEvz.out];exact Tryz.sizeE) (by rw[HZz.out,HEvz.out]) HEvo.out ?_
  have HB10:Hid (Below w6.heap.size w6 (w9.setRow eb Ev)):=below_setRow HB9.out HTl.out Ev
  refine hKK.out _ _ (by(try dsimp only);exact HSS.out _ HB10.out) (fun hHeld=>?_)
  clear hKK KK
  try simp only[Act.put,qzg,qzh,qzi,qzs,qz0,qz1]
  refine rdy 13 (fun KK hKK=>?_)
  go_simp
  refine hKK.out _ _ (by(try dsimp only);exact HSS.out _ HB10.out) (fun hHeld=>?_)
  clear hKK KK
  try simp only[Act.put,qzg,qzh,qzi,qzs,qz0,qz1]
  refine wpAnyH_done (by kernel_rfl) (NoPanic.normal ?_) _
  have HEb:=hide (setRow_heap _ _ _ Ev _ _ HTz.out)
  obtain⟨w10,hw10⟩:∃W,w9.setRow eb Ev=W:=⟨_,rfl⟩
  rw[hw10]at HEb HB10 ⊢
  clear hw10 hHeld
  have HM10:=hide (HM6.out.below HB10.out)
  have HG10:=hide (HG6.out.below HB10.out)
  cases b with
  | false =>
   skip
   have HGW:=HG10
   obtain⟨c0,c1,c2,c3,c4,c5⟩:=ac6 HM10.out.sb
   obtain⟨d0,d1,d2,d3,d4,d5,d6,d7,d8⟩:=ac9 HM10.out.cb
   have HSt8:=hide (Z.storeAt_row (P:=Tryz.prog) (c':=#[.int .u64 s.pos,.slice s.pp s.pn s.pc,.slice s.rp s.rn s.rc,.slice s.lp s.ln s.lc,.slice s.gp s.gn s.gc,.slice s.op s.on s.oc]) HM10.out.rb Tryz.sizeS rfl (by simp[Value.oneCell']))
   go_wp2_with (first | ((with_reducible show wpList _ _ _ (⟨_,.store 45 (.tmp 6) _,_,_,_,_⟩ :: _) _ _);refine Z.lp_store (t:=45) (x:=.tmp 6) (some ⟨w.heap.size+1+1+1,0,none⟩) (.agg #[.int .u64 s.pos,.slice s.pp s.pn s.pc,.slice s.rp s.rn s.rc,.slice s.lp s.ln s.lc,.slice s.gp s.gn s.gc,.slice s.op s.on s.oc]) rfl rfl HSt8.out ?_) | fail)
   refine bodyPost_ret (results_cell_row rfl _ _ (w.heap.size+1+1+1) 45 #[.int .u64 s.pos,.slice s.pp s.pn s.pc,.slice s.rp s.rn s.rc,.slice s.lp s.ln s.lc,.slice s.gp s.gn s.gc,.slice s.op s.on s.oc] (0,0) _ rfl (HM10.out.told (s:=s) HGW.out (Or.inr ⟨rfl,HS0.out⟩) _).1 Tryz.underlying45 rfl Tryz.sizeS) rfl ?_
   exact⟨s,rfl,(HM10.out.told HGW.out (Or.inr ⟨rfl,HS0.out⟩) _).2⟩
  | true =>
   skip
   obtain⟨c0,c1,c2,c3,c4,c5⟩:=ac6 HM10.out.sb
   obtain⟨d0,d1,d2,d3,d4,d5,d6,d7,d8⟩:=ac9 HM10.out.cb
   have HFo2:=hide (HFo.out _ HB10.out E (HEn.out rfl _))
   rw[HEv.out]at HFo2
   have HLe:=hide (Z.loadAt_row (P:=Tryz.prog) (ty:=89) HEb.out Tryz.underlying89 rfl (by rw[HEvz.out];exact Tryz.sizeE))
   go_upto_region 12 with (first | (go_at_call 26;refine HFo2.out.mono ?_;rintro e1 w11 ⟨r,f,rfl,hfv,hro,hb11,hf0⟩;have HRo:=hide hro;have HB11:=hide hb11;have Hf0:=hide hf0;obtain⟨Ra,hRa⟩:∃A:Array Value,r.arr=A:=⟨_,rfl⟩;have HRa:=hide hRa;have HRaz:Hid (Ra.size=6):=(by show _=_;rw[←hRa];rfl);have HRao:Hid (Ra.all (·.oneCell')=true):=(by show _=_;rw[←hRa];simp[Sta.arr,Value.oneCell']);rw[hRa];clear hfv hro hb11 hf0 hRa c0 c1 c2 c3 c4 c5 d0 d1 d2 d3 d4 d5 d6 d7 d8) | ((with_reducible show wpList _ _ _ (⟨_,.load 89 (.tmp 10),_,_,_,_⟩ :: _) _ _);refine Z.lp_load eb 0 Ev rfl HLe.out ?_) | ((with_reducible show wpList _ _ _ (⟨_,.store 45 (.tmp 12) _,_,_,_,_⟩ :: _) _ _);refine Z.lp_store (t:=45) (x:=.tmp 12) (some ⟨w11.heap.size,0,none⟩) (.agg Ra) rfl rfl (run_storeAt_new (P:=Tryz.prog) w11 45 #[.int .u64 0,.slice none 0 0,.slice none 0 0,.slice none 0 0,.slice none 0 0,.slice none 0 0] Ra (by rw[HRaz.out];exact Tryz.sizeS) (by rw[HRaz.out];rfl) HRao.out) ?_) | fail)
   have hbx:=heap_alloc_new w11 (.cells Ra 45)
   have hb12:Below w11.heap.size w11 (w11.alloc (.cells Ra 45)):=(Below.refl _ _).alloc (Nat.le_refl _) _
   obtain⟨w12,hw12⟩:∃W,w11.alloc (.cells Ra 45)=W:=⟨_,rfl⟩
   rw[hw12]at hbx hb12 ⊢
   obtain⟨tb,htb⟩:∃k,w11.heap.size=k:=⟨_,rfl⟩
   rw[htb]at hbx ⊢
   clear hw12 htb
   have HBx:=hide hbx
   have HB12:Hid (Below w10.heap.size w10 w12):=HB11.out.trans (hb12.mono HB11.out.size)
   have HM9:=hide (HM10.out.below HB12.out)
   have HOw:=hide (HRo.out.below hb12)
   have HG:=hide (HG10.out.below HB12.out)
   clear hb12 hbx
   by_cases hf:f=0
   ·have hf':((f:Int) == 0)=true:=by simp[hf]
    have HGr:Hid (StG w12 c r):=⟨HOw.out.ok,(Hf0.out hf).1,by obtain⟨-,r0,q1,q2⟩:=Hf0.out hf;rw[q2];exact frw_fold HG.out.wf q1 E⟩
    rw[←HRa.out]at HBx
    clear hf
    obtain⟨RA,hRA⟩:∃R:Array Value,r.arr=R:=⟨_,rfl⟩
    have hRz:RA.size=6:=by rw[←hRA];rfl
    have hRo:RA.all (·.oneCell')=true:=by rw[←hRA];simp[Sta.arr,Value.oneCell']
    rw[hRA]at HBx
    have HLr:=hide (Z.loadAt_row (P:=Tryz.prog) (ty:=45) HBx.out Tryz.underlying45 rfl (by rw[hRz];exact Tryz.sizeS))
    have HSr:=hide (Z.storeAt_row (P:=Tryz.prog) (c':=RA) HM9.out.rb (by rw[hRz];exact Tryz.sizeS) (by rw[hRz];rfl) hRo)
    have HRz:=hide hRz
    have HRe:=hide hRA
    clear hRz hRo hRA
    go_wp2_with (first | ((with_reducible show wpList _ _ _ (⟨_,.load 45 (.tmp 12),_,_,_,_⟩ :: _) _ _);refine Z.lp_load tb 0 RA rfl HLr.out ?_) | ((with_reducible show wpList _ _ _ (⟨_,.store 45 (.tmp 6) _,_,_,_,_⟩ :: _) _ _);refine Z.lp_store (t:=45) (x:=.tmp 6) (some ⟨w.heap.size+1+1+1,0,none⟩) (.agg RA) rfl rfl HSr.out ?_) | fail)
    refine bodyPost_ret (results_cell_row rfl _ _ (w.heap.size+1+1+1) 45 RA (0,0) _ rfl (HM9.out.told (s:=s) HGr.out (Or.inl ⟨_,HOw.out⟩) _).1 Tryz.underlying45 rfl (by rw[HRz.out];exact Tryz.sizeS)) rfl ?_
    exact⟨r,by rw[HRe.out],(HM9.out.told HGr.out (Or.inl ⟨_,HOw.out⟩) _).2⟩
   ·have hf':((f:Int) == 0)=false:=by simp[hf]
    have HGW:Hid (StG w12 c s):=HG.out.below (Below.refl _ _)
    clear hf
    obtain⟨c0,c1,c2,c3,c4,c5⟩:=ac6 HM9.out.sb
    obtain⟨d0,d1,d2,d3,d4,d5,d6,d7,d8⟩:=ac9 HM9.out.cb
    have HSt8:=hide (Z.storeAt_row (P:=Tryz.prog) (c':=#[.int .u64 s.pos,.slice s.pp s.pn s.pc,.slice s.rp s.rn s.rc,.slice s.lp s.ln s.lc,.slice s.gp s.gn s.gc,.slice s.op s.on s.oc]) HM9.out.rb Tryz.sizeS rfl (by simp[Value.oneCell']))
    go_wp2_with (first | ((with_reducible show wpList _ _ _ (⟨_,.store 45 (.tmp 6) _,_,_,_,_⟩ :: _) _ _);refine Z.lp_store (t:=45) (x:=.tmp 6) (some ⟨w.heap.size+1+1+1,0,none⟩) (.agg #[.int .u64 s.pos,.slice s.pp s.pn s.pc,.slice s.rp s.rn s.rc,.slice s.lp s.ln s.lc,.slice s.gp s.gn s.gc,.slice s.op s.on s.oc]) rfl rfl HSt8.out ?_) | fail)
    refine bodyPost_ret (results_cell_row rfl _ _ (w.heap.size+1+1+1) 45 #[.int .u64 s.pos,.slice s.pp s.pn s.pc,.slice s.rp s.rn s.rc,.slice s.lp s.ln s.lc,.slice s.gp s.gn s.gc,.slice s.op s.on s.oc] (0,0) _ rfl (HM9.out.told (s:=s) HGW.out (Or.inr ⟨rfl,HS0.out⟩) _).1 Tryz.underlying45 rfl Tryz.sizeS) rfl ?_
    exact⟨s,rfl,(HM9.out.told HGW.out (Or.inr ⟨rfl,HS0.out⟩) _).2⟩
end Go.Proofs.YtfbegfapoijbnaaGreat
