import Derived.Test.YtfbegfapoijbnaaGreatTk
import Derived.Test.YtfbegfapoijbnaaGreatFoF
set_option maxRecDepth 100000
namespace Go.Proofs.YtfbegfapoijbnaaGreat
open Go.RowKit Go.Sort
open Z (Sli SlOk Acd AcdOk Eda EdaOk AcOwn)
theorem ex_loadw {o:Oper} {a:Act} (w:World) (t:TypeId) (x:Operand) (ho:o.op=.load t x) (b:Nat) (A:Array Value) (hx:a.eval x=.pointer (some ⟨b,0,none⟩)) (hr:(Instr.loadAt t (.pointer (some ⟨b,0,none⟩))).run Tryz.prog w=.ok (.agg A) w):(execOp a.eval o).run Tryz.prog w=.ok (.value (.agg A)) w:=by
 unfold execOp
 simp[ho,hx,hr,Result.andThen]
theorem Tryz.sizeC:(Tryz.prog.info? 37).map (·.size)=some 9:=by kernel_rfl
theorem shp_same {c:Cfg} {r r':Sta} (h:Shp c r) (hs:Same r r'):Shp c r':=by
 have ha:=hs.arr
 unfold Sta.arr at ha
 simp at ha
 refine⟨by rw[hs.pn];exact h.pn,by rw[hs.rn];exact h.rn,by rw[ha.2.2.2.1.2.1];exact h.ln,by rw[ha.2.2.2.2.1.2.1];exact h.gn,by rw[hs.on];exact h.on,fun p hp=>?_⟩
 obtain⟨k,hk⟩:=List.mem_iff_getElem?.1 hp
 have h1:=hs.hl k
 rw[hk]at h1
 cases h2:r.pools[k]? with
 | none=>rw[h2]at h1;simp at h1
 | some q=>rw[h2]at h1;simp at h1;rw[h1];exact h.hl q (List.mem_of_getElem? h2)
theorem rgH_shp {c:Cfg} {s r:Sta} (hs:Shp c s) (hr:Shp c r) (ls:s.pools.length=s.pn) (lr:r.pools.length=r.pn) {t:Nat} (ht:RgH s t):RgH r t:=fun p hp=>by
 have hl:0<s.pools.length:=by have h1:=List.length_pos_of_mem hp;have h2:=hs.pn;have h3:=hr.pn;omega
 have h4:=ht _ (List.getElem_mem hl)
 have h5:=hs.hl _ (List.getElem_mem hl)
 have h6:=hr.hl p hp
 omega
theorem eff_rg {c:Cfg} {s r:Sta} {e:Eda} {t:Nat} (hs:Shp c s) (hr:Shp c r) (ls:s.pools.length=s.pn) (lr:r.pools.length=r.pn) (hg:JudgeRg s e.ac) (ht:e.ac.till=(t:Int)) (hth:RgH s t) (hto:t<s.on) (hd:e.dd=nextD s e.ac):EffRg r e t:=by
 have ep:s.pn=r.pn:=by have h2:=hs.pn;have h3:=hr.pn;omega
 have er:s.rn=r.rn:=by have h2:=hs.rn;have h3:=hr.rn;omega
 have eo:s.on=r.on:=by have h2:=hs.on;have h3:=hr.on;omega
 have h1:e.oc=(judgeD s e.ac).1:=congrArg (fun x=>x.2.2.1) hd
 have h2:e.made.xs=(judgeD s e.ac).2.1:=congrArg (fun x=>x.2.2.2.1) hd
 have h3:e.sets.xs=(judgeD s e.ac).2.2.1:=congrArg (fun x=>x.2.2.2.2.1) hd
 have hT:∀x:Tri,RgT s x→RgT r x:=fun x hx=>by obtain⟨⟨k,e1,hk⟩,hq⟩:=hx;exact⟨⟨k,e1,by rw[←ep];exact hk⟩,hq⟩
 refine⟨ht,rgH_shp hs hr ls lr hth,fun x hx=>?_,fun x hx=>?_,fun h=>?_,fun _ h=>?_,fun _ h x hx=>hT x (hg.rights h x hx),fun _ _=>by omega⟩
 ·rw[h2]at hx
  obtain⟨k,e1,hk⟩:=(judgeD_rg hg).1 x hx
  exact⟨k,e1,by rw[←ep];exact hk⟩
 ·rw[h3]at hx
  obtain⟨k,e1,hk⟩:=(judgeD_rg hg).2 x hx
  exact⟨k,e1,by rw[←er];exact hk⟩
 ·have hk:2≤e.ac.kind∧e.ac.kind≤4:=by
   rcases h with h | ⟨_,h⟩
   ·have:=judgeD_four (h1.symm.trans h);omega
   ·omega
  exact hT _ (hg.right hk.1 hk.2)
 ·obtain⟨t2,e2,h4⟩:=hg.dest h
  exact⟨t2,e2,rgH_shp hs hr ls lr h4⟩
set_option linter.unusedSimpArgs false in
set_option maxHeartbeats 4000000 in
theorem rfold_act (w:World) (c:Cfg) (s:Sta) (hs:StaOk w s) (hsm:StSm s) (hpw:∀p∈s.pools,LinWf (frL p)) (hsh:Shp c s) (hcl:c.cl≤4194304) (hpl:c.pl≤4194304) (htl:0≤c.tills∧c.tills≤1000000) (e:Eda) (hok:EdaOk w e) (hO:OrdOk s e) (k0:¬e.ac.kind=0) (hC:ChkV c e.ac 0) (hN:NumOk s e) :
  Calls Tryz.prog 26 #[.agg #[.int .i64 c.tills,.slice c.cp c.cl c.cc,.slice c.pp c.pl c.pc,.int .i64 c.lease,.int .i64 c.watch,.int .i64 c.beat,.int .i64 c.window,.int .i64 c.cap,.int .i64 c.flight],.agg #[.int .u64 s.pos,.slice s.pp s.pn s.pc,.slice s.rp s.rn s.rc,.slice s.lp s.ln s.lc,.slice s.gp s.gn s.gc,.slice s.op s.on s.oc],.agg #[.int .u64 e.po,.int .i64 e.ac.till,.int .u64 e.ac.num,.int .i64 e.ac.kind,.bool e.ac.sure,.slice e.ac.lines.p e.ac.lines.n e.ac.lines.c,.slice e.ac.guards.p e.ac.guards.n e.ac.guards.c,.slice e.ac.sets.p e.ac.sets.n e.ac.sets.c,.int .i64 e.ac.mg,.slice e.ac.other.p e.ac.other.n e.ac.other.c,.int .i64 e.ac.ra,.int .i64 e.ac.rb,.int .i64 e.ac.rd,.int .i64 e.ac.to,.int .u64 e.ac.gen,.slice e.ac.rights.p e.ac.rights.n e.ac.rights.c,.int .i64 e.oc,.slice e.made.p e.made.n e.made.c,.slice e.sets.p e.sets.n e.sets.c,.int .i64 e.n,.int .i64 e.fe,.int .u64 e.ge]] w (FoldP w c s e):=by
 obtain⟨w2,hw2,hb2,hx2,hy2,hz2,hr2,hsz2⟩:=fold_boxes w #[.int .i64 c.tills,.slice c.cp c.cl c.cc,.slice c.pp c.pl c.pc,.int .i64 c.lease,.int .i64 c.watch,.int .i64 c.beat,.int .i64 c.window,.int .i64 c.cap,.int .i64 c.flight] #[.int .u64 s.pos,.slice s.pp s.pn s.pc,.slice s.rp s.rn s.rc,.slice s.lp s.ln s.lc,.slice s.gp s.gn s.gc,.slice s.op s.on s.oc] #[.int .u64 e.po,.int .i64 e.ac.till,.int .u64 e.ac.num,.int .i64 e.ac.kind,.bool e.ac.sure,.slice e.ac.lines.p e.ac.lines.n e.ac.lines.c,.slice e.ac.guards.p e.ac.guards.n e.ac.guards.c,.slice e.ac.sets.p e.ac.sets.n e.ac.sets.c,.int .i64 e.ac.mg,.slice e.ac.other.p e.ac.other.n e.ac.other.c,.int .i64 e.ac.ra,.int .i64 e.ac.rb,.int .i64 e.ac.rd,.int .i64 e.ac.to,.int .u64 e.ac.gen,.slice e.ac.rights.p e.ac.rights.n e.ac.rights.c,.int .i64 e.oc,.slice e.made.p e.made.n e.made.c,.slice e.sets.p e.sets.n e.sets.c,.int .i64 e.n,.int .i64 e.fe,.int .u64 e.ge] #[.int .u64 0,.slice none 0 0,.slice none 0 0,.slice none 0 0,.slice none 0 0,.slice none 0 0]
 have HW2:=hide hw2
 have HB2:=hide hb2
 have HR2:=hide hr2
 have HX:Hid (∀W,Below w2.heap.size w2 W→(W.cell? ⟨w.heap.size,0,none⟩=some (.int .i64 c.tills)∧W.cell? ⟨w.heap.size,1,none⟩=some (.slice c.cp c.cl c.cc)∧W.cell? ⟨w.heap.size,2,none⟩=some (.slice c.pp c.pl c.pc)∧W.cell? ⟨w.heap.size,3,none⟩=some (.int .i64 c.lease)∧W.cell? ⟨w.heap.size,4,none⟩=some (.int .i64 c.watch)∧W.cell? ⟨w.heap.size,5,none⟩=some (.int .i64 c.beat)∧W.cell? ⟨w.heap.size,6,none⟩=some (.int .i64 c.window)∧W.cell? ⟨w.heap.size,7,none⟩=some (.int .i64 c.cap)∧W.cell? ⟨w.heap.size,8,none⟩=some (.int .i64 c.flight)∧W.cell? ⟨w.heap.size+1,0,none⟩=some (.int .u64 s.pos)∧W.cell? ⟨w.heap.size+1,1,none⟩=some (.slice s.pp s.pn s.pc)∧W.cell? ⟨w.heap.size+1,2,none⟩=some (.slice s.rp s.rn s.rc)∧W.cell? ⟨w.heap.size+1,3,none⟩=some (.slice s.lp s.ln s.lc)∧W.cell? ⟨w.heap.size+1,4,none⟩=some (.slice s.gp s.gn s.gc)∧W.cell? ⟨w.heap.size+1,5,none⟩=some (.slice s.op s.on s.oc)∧W.cell? ⟨w.heap.size+1+1,0,none⟩=some (.int .u64 e.po)∧W.cell? ⟨w.heap.size+1+1,1,none⟩=some (.int .i64 e.ac.till)∧W.cell? ⟨w.heap.size+1+1,2,none⟩=some (.int .u64 e.ac.num)∧W.cell? ⟨w.heap.size+1+1,3,none⟩=some (.int .i64 e.ac.kind)∧W.cell? ⟨w.heap.size+1+1,4,none⟩=some (.bool e.ac.sure)∧W.cell? ⟨w.heap.size+1+1,5,none⟩=some (.slice e.ac.lines.p e.ac.lines.n e.ac.lines.c)∧W.cell? ⟨w.heap.size+1+1,6,none⟩=some (.slice e.ac.guards.p e.ac.guards.n e.ac.guards.c)∧W.cell? ⟨w.heap.size+1+1,7,none⟩=some (.slice e.ac.sets.p e.ac.sets.n e.ac.sets.c)∧W.cell? ⟨w.heap.size+1+1,8,none⟩=some (.int .i64 e.ac.mg)∧W.cell? ⟨w.heap.size+1+1,9,none⟩=some (.slice e.ac.other.p e.ac.other.n e.ac.other.c)∧W.cell? ⟨w.heap.size+1+1,10,none⟩=some (.int .i64 e.ac.ra)∧W.cell? ⟨w.heap.size+1+1,11,none⟩=some (.int .i64 e.ac.rb)∧W.cell? ⟨w.heap.size+1+1,12,none⟩=some (.int .i64 e.ac.rd)∧W.cell? ⟨w.heap.size+1+1,13,none⟩=some (.int .i64 e.ac.to)∧W.cell? ⟨w.heap.size+1+1,14,none⟩=some (.int .u64 e.ac.gen)∧W.cell? ⟨w.heap.size+1+1,15,none⟩=some (.slice e.ac.rights.p e.ac.rights.n e.ac.rights.c)∧W.cell? ⟨w.heap.size+1+1,16,none⟩=some (.int .i64 e.oc)∧W.cell? ⟨w.heap.size+1+1,17,none⟩=some (.slice e.made.p e.made.n e.made.c)∧W.cell? ⟨w.heap.size+1+1,18,none⟩=some (.slice e.sets.p e.sets.n e.sets.c)∧W.cell? ⟨w.heap.size+1+1,19,none⟩=some (.int .i64 e.n)∧W.cell? ⟨w.heap.size+1+1,20,none⟩=some (.int .i64 e.fe)∧W.cell? ⟨w.heap.size+1+1,21,none⟩=some (.int .u64 e.ge))):=fun W hb=>by
  have h1:=(hb.block _ (ac_lt hx2)).trans hx2
  have h2:=(hb.block _ (ac_lt hy2)).trans hy2
  have h3:=(hb.block _ (ac_lt hz2)).trans hz2
  obtain⟨d0,d1,d2,d3,d4,d5,d6,d7,d8⟩:=ac9 h1
  obtain⟨c0,c1,c2,c3,c4,c5⟩:=ac6 h2
  exact⟨d0,d1,d2,d3,d4,d5,d6,d7,d8,c0,c1,c2,c3,c4,c5,by rw[cell_of_row _ _ _ _ _ _ h3];rfl,by rw[cell_of_row _ _ _ _ _ _ h3];rfl,by rw[cell_of_row _ _ _ _ _ _ h3];rfl,by rw[cell_of_row _ _ _ _ _ _ h3];rfl,by rw[cell_of_row _ _ _ _ _ _ h3];rfl,by rw[cell_of_row _ _ _ _ _ _ h3];rfl,by rw[cell_of_row _ _ _ _ _ _ h3];rfl,by rw[cell_of_row _ _ _ _ _ _ h3];rfl,by rw[cell_of_row _ _ _ _ _ _ h3];rfl,by rw[cell_of_row _ _ _ _ _ _ h3];rfl,by rw[cell_of_row _ _ _ _ _ _ h3];rfl,by rw[cell_of_row _ _ _ _ _ _ h3];rfl,by rw[cell_of_row _ _ _ _ _ _ h3];rfl,by rw[cell_of_row _ _ _ _ _ _ h3];rfl,by rw[cell_of_row _ _ _ _ _ _ h3];rfl,by rw[cell_of_row _ _ _ _ _ _ h3];rfl,by rw[cell_of_row _ _ _ _ _ _ h3];rfl,by rw[cell_of_row _ _ _ _ _ _ h3];rfl,by rw[cell_of_row _ _ _ _ _ _ h3];rfl,by rw[cell_of_row _ _ _ _ _ _ h3];rfl,by rw[cell_of_row _ _ _ _ _ _ h3];rfl,by rw[cell_of_row _ _ _ _ _ _ h3];rfl⟩
 have HEn:Hid (∀W,Below w2.heap.size w2 W→W.heap[w.heap.size+1+1]?=some (.cells #[.int .u64 e.po,.int .i64 e.ac.till,.int .u64 e.ac.num,.int .i64 e.ac.kind,.bool e.ac.sure,.slice e.ac.lines.p e.ac.lines.n e.ac.lines.c,.slice e.ac.guards.p e.ac.guards.n e.ac.guards.c,.slice e.ac.sets.p e.ac.sets.n e.ac.sets.c,.int .i64 e.ac.mg,.slice e.ac.other.p e.ac.other.n e.ac.other.c,.int .i64 e.ac.ra,.int .i64 e.ac.rb,.int .i64 e.ac.rd,.int .i64 e.ac.to,.int .u64 e.ac.gen,.slice e.ac.rights.p e.ac.rights.n e.ac.rights.c,.int .i64 e.oc,.slice e.made.p e.made.n e.made.c,.slice e.sets.p e.sets.n e.sets.c,.int .i64 e.n,.int .i64 e.fe,.int .u64 e.ge] 89 (0,0))):=fun W hb=>(hb.block _ (ac_lt hz2)).trans hz2
 have HCn:Hid (∀W,Below w2.heap.size w2 W→W.heap[w.heap.size]?=some (.cells #[.int .i64 c.tills,.slice c.cp c.cl c.cc,.slice c.pp c.pl c.pc,.int .i64 c.lease,.int .i64 c.watch,.int .i64 c.beat,.int .i64 c.window,.int .i64 c.cap,.int .i64 c.flight] 37 (0,0))):=fun W hb=>(hb.block _ (ac_lt hx2)).trans hx2
 have HSn:Hid (∀W,Below w2.heap.size w2 W→W.heap[w.heap.size+1]?=some (.cells #[.int .u64 s.pos,.slice s.pp s.pn s.pc,.slice s.rp s.rn s.rc,.slice s.lp s.ln s.lc,.slice s.gp s.gn s.gc,.slice s.op s.on s.oc] 45 (0,0))):=fun W hb=>(hb.block _ (ac_lt hy2)).trans hy2
 have HRz:Hid (∀W,Below w2.heap.size w2 W→W.heap[w.heap.size+1+1+1]?=some (.cells #[.int .u64 0,.slice none 0 0,.slice none 0 0,.slice none 0 0,.slice none 0 0,.slice none 0 0] 45 (0,0))):=fun W hb=>(hb.block _ (ac_lt hr2)).trans hr2
 have HS:=hide (hs.below hb2)
 have HOk:=hide (hok.below hb2)
 have hz4:w.heap.size+1+1+1<w2.heap.size:=by omega
 obtain⟨np,hnp⟩:∃p,IntKind.u64.wrap (s.pos+1)=p:=⟨_,rfl⟩
 have HNp:=hide hnp
 have HI:Hid (Below w2.heap.size w2 w2):=Below.refl _ _
 obtain⟨d0,d1,d2,d3,d4,d5,d6,d7,d8,c0,c1,c2,c3,c4,c5,e0,e1,e2,e3,e4,e5,e6,e7,e8,e9,e10,e11,e12,e13,e14,e15,e16,e17,e18,e19,e20,e21⟩:=HX.out w2 HI.out
 clear hw2 hb2 hx2 hy2 hz2 hr2 hs hok
 obtain⟨q1,q3⟩:=hO
 rw[hnp]at q1
 have q2:¬1099511627776<e.po:=by omega
 have HO:Hid (OrdOk s e):=⟨q1.trans HNp.out.symm,by omega⟩
 have q1':((e.po:Int) == np)=true:=by simp[q1]
 have q1n:((e.po:Int) != np)=false:=by simp[q1]
 clear q1
 have k0':(e.ac.kind == 0)=false:=by simp[k0]
 have HK0:=hide k0
 clear k0
 go_enter Tryz.func26,Tryz.ntmps26
 go_upto_region 1 with (fail)
 rw[HW2.out]
 have HCs:=hide (copyState_any w2 s HS.out hsm)
 go_upto_region 4 with (first | (go_at_call 55;refine HCs.out.mono ?_;rintro e1 w3 ⟨r0,rfl,hd0,ho0,hb3⟩;have HD0:=hide hd0;have HO0:=hide ho0;have HB3:=hide hb3;have HSt:=hide (run_storeAt_new (P:=Tryz.prog) w3 45 #[.int .u64 0,.slice none 0 0,.slice none 0 0,.slice none 0 0,.slice none 0 0,.slice none 0 0] r0.arr Tryz.sizeS rfl (by simp[Sta.arr,Value.oneCell']));clear hd0 ho0 hb3 d0 d1 d2 d3 d4 d5 d6 d7 d8 c0 c1 c2 c3 c4 c5 e0 e1 e2 e3 e4 e5 e6 e7 e8 e9 e10 e11 e12 e13 e14 e15 e16 e17 e18 e19 e20 e21) | ((with_reducible show wpList _ _ _ (⟨_,.store 45 (.tmp 8) _,_,_,_,_⟩ :: _) _ _);refine Z.lp_store (t:=45) (x:=.tmp 8) (some ⟨w3.heap.size,0,none⟩) (.agg r0.arr) rfl rfl HSt.out ?_))
 have hT4:=heap_alloc_new w3 (.cells r0.arr 45)
 have hb4:Below w3.heap.size w3 (w3.alloc (.cells r0.arr 45)):=(Below.refl _ _).alloc (Nat.le_refl _) _
 obtain⟨w4,hw4⟩:∃W,w3.alloc (.cells r0.arr 45)=W:=⟨_,rfl⟩
 rw[hw4]at hT4 hb4 ⊢
 clear hw4
 obtain⟨tb,htb⟩:∃k,w3.heap.size=k:=⟨_,rfl⟩
 rw[htb]at hT4 ⊢
 have htb2:w2.heap.size≤tb:=by have:=HB3.out.size;omega
 have hbb4:Below w2.heap.size w2 w4:=HB3.out.trans (hb4.mono HB3.out.size)
 have hO4:=HO0.out.below hb4
 obtain⟨d0,d1,d2,d3,d4,d5,d6,d7,d8,c0,c1,c2,c3,c4,c5,e0,e1,e2,e3,e4,e5,e6,e7,e8,e9,e10,e11,e12,e13,e14,e15,e16,e17,e18,e19,e20,e21⟩:=HX.out w4 hbb4
 have t0:w4.cell? ⟨tb,0,none⟩=some (.int .u64 r0.pos):=by rw[cell_of_row _ _ _ _ _ _ hT4];rfl
 have tf:=frozen_of_row w4 tb 0 _ _ hT4
 have HT4:=hide hT4
 have HO4:=hide hO4
 have HBb4:=hide hbb4
 clear hT4 hb4 hO4 hbb4 htb
 go_upto_region 5 with (fail)
 obtain⟨w5,hw5⟩:∃W,w4.setCell ⟨tb,0,none⟩ (.int .u64 e.po)=W:=⟨_,rfl⟩
 have HT5:Hid (w5.heap[tb]?=some (.cells (r0.setPos e.po).arr 45 (0,0))):=by show _=_;rw[←hw5];exact heap_setCell_same w4 tb 0 _ _ (.int .u64 e.po) HT4.out
 have HB5:Hid (Below w2.heap.size w2 w5):=by show Below _ _ _;rw[←hw5];exact HBb4.out.setCell (p:=⟨tb,0,none⟩) htb2 _
 have HO5:Hid (StaOw w2.heap.size w5 (r0.setPos e.po)):=by
  show StaOw _ _ _
  refine(HO4.out.setPos e.po).far (fun g C t hg ht=>?_)
  rw[←hw5,heap_setCell_other _ _ _ _ (by show g≠tb;rintro rfl;rw[HT4.out]at hg;cases hg;exact not_mut rfl ht)]
 rw[hw5]
 clear hw5 t0 tf HT4 HO4 HBb4 d0 d1 d2 d3 d4 d5 d6 d7 d8 c0 c1 c2 c3 c4 c5 e0 e1 e2 e3 e4 e5 e6 e7 e8 e9 e10 e11 e12 e13 e14 e15 e16 e17 e18 e19 e20 e21
 obtain⟨d0,d1,d2,d3,d4,d5,d6,d7,d8,c0,c1,c2,c3,c4,c5,e0,e1,e2,e3,e4,e5,e6,e7,e8,e9,e10,e11,e12,e13,e14,e15,e16,e17,e18,e19,e20,e21⟩:=HX.out w5 HB5.out
 have HSh:Hid (Shp c (r0.setPos e.po)):=by
  have h:=shp_of hsh HS.out HO0.out HD0.out
  exact⟨h.pn,h.rn,h.ln,h.gn,h.on,h.hl⟩
 obtain⟨r1,hr1⟩:∃r,r0.setPos e.po=r:=⟨_,rfl⟩
 have HR1:=hide hr1
 rw[hr1]at HT5 HO5 HSh
 clear hr1
 clear q1' q1n
 go_upto_region 12 with (fail)
 clear k0' hnp
 have HBd:Hid (Below w2.heap.size w2 w5.drew):=HB5.out.drew
 have HC:=hide hC
 have hrg:=chk_rg hC hsh hcl
 have HRg:=hide hrg
 obtain⟨t,ht,hth,htg,hto⟩:=hrg.till
 have HTh:=hide hth
 have HTo:=hide hto
 have q0:(0:Int)≤(t:Int):=by omega
 have htl2:t<s.ln:=by have h1:=hsh.ln;have h2:=hsh.gn;omega
 have q1:(t:Int)<(s.ln:Int):=by omega
 obtain⟨q,hq⟩:∃q,s.last[t]?=some q:=⟨_,List.getElem?_eq_getElem (by rw[HS.out.ln];exact htl2)⟩
 obtain⟨lb,lo,el,hlb,hlc⟩:=HS.out.last.get (i:=t) (r:=uc q) (by rw[List.getElem?_map,hq];rfl)
 have HL:Hid (∀W,Below w2.heap.size w2 W→W.cell? ⟨lb,lo+t,none⟩=some (.int .u64 q)):=fun W hW=>by
  have h1:=(hW.cell (p:=⟨lb,lo+t*1,none⟩) hlb).trans (hlc 0 _ rfl)
  rw[Nat.mul_one]at h1
  exact h1
 obtain⟨m,hm⟩:∃m,IntKind.u64.wrap (q+1)=m:=⟨_,rfl⟩
 have HNm:Hid (NumOk s e↔e.ac.num=m):=by show _↔_;unfold NumOk;rw[ht,(at_in (z:=(0:Int)) hq).2,hm]
 have HCk:Hid (∀W,Below w2.heap.size w2 W→Calls Tryz.prog 25 #[.agg #[.int .i64 c.tills,.slice c.cp c.cl c.cc,.slice c.pp c.pl c.pc,.int .i64 c.lease,.int .i64 c.watch,.int .i64 c.beat,.int .i64 c.window,.int .i64 c.cap,.int .i64 c.flight],.agg #[.int .i64 e.ac.till,.int .u64 e.ac.num,.int .i64 e.ac.kind,.bool e.ac.sure,.slice e.ac.lines.p e.ac.lines.n e.ac.lines.c,.slice e.ac.guards.p e.ac.guards.n e.ac.guards.c,.slice e.ac.sets.p e.ac.sets.n e.ac.sets.c,.int .i64 e.ac.mg,.slice e.ac.other.p e.ac.other.n e.ac.other.c,.int .i64 e.ac.ra,.int .i64 e.ac.rb,.int .i64 e.ac.rd,.int .i64 e.ac.to,.int .u64 e.ac.gen,.slice e.ac.rights.p e.ac.rights.n e.ac.rights.c]] W fun e1 w'=>(e1=.returned (.int .i64 0)∧Below W.heap.size W w')):=fun W hW=>(show Calls Tryz.prog 25 #[.agg #[.int .i64 c.tills,.slice c.cp c.cl c.cc,.slice c.pp c.pl c.pc,.int .i64 c.lease,.int .i64 c.watch,.int .i64 c.beat,.int .i64 c.window,.int .i64 c.cap,.int .i64 c.flight],.agg #[.int .i64 e.ac.till,.int .u64 e.ac.num,.int .i64 e.ac.kind,.bool e.ac.sure,.slice e.ac.lines.p e.ac.lines.n e.ac.lines.c,.slice e.ac.guards.p e.ac.guards.n e.ac.guards.c,.slice e.ac.sets.p e.ac.sets.n e.ac.sets.c,.int .i64 e.ac.mg,.slice e.ac.other.p e.ac.other.n e.ac.other.c,.int .i64 e.ac.ra,.int .i64 e.ac.rb,.int .i64 e.ac.rd,.int .i64 e.ac.to,.int .u64 e.ac.gen,.slice e.ac.rights.p e.ac.rights.n e.ac.rights.c]] W fun e1 w'=>(∃V,e1=.returned (.int .i64 V)∧ChkV c e.ac V∧Below W.heap.size W w') from rcheck_any W c e.ac (HOk.out.below hW).ac hcl hpl htl).mono (fun _ _ ⟨V,h1,h2,h3⟩=>⟨by rw[h1,chk_one h2 hC],h3⟩)
 have HNx:Hid (∀W,Below w2.heap.size w2 W→Calls Tryz.prog 27 #[.agg #[.int .i64 c.tills,.slice c.cp c.cl c.cc,.slice c.pp c.pl c.pc,.int .i64 c.lease,.int .i64 c.watch,.int .i64 c.beat,.int .i64 c.window,.int .i64 c.cap,.int .i64 c.flight],.agg #[.int .u64 s.pos,.slice s.pp s.pn s.pc,.slice s.rp s.rn s.rc,.slice s.lp s.ln s.lc,.slice s.gp s.gn s.gc,.slice s.op s.on s.oc],.agg #[.int .i64 e.ac.till,.int .u64 e.ac.num,.int .i64 e.ac.kind,.bool e.ac.sure,.slice e.ac.lines.p e.ac.lines.n e.ac.lines.c,.slice e.ac.guards.p e.ac.guards.n e.ac.guards.c,.slice e.ac.sets.p e.ac.sets.n e.ac.sets.c,.int .i64 e.ac.mg,.slice e.ac.other.p e.ac.other.n e.ac.other.c,.int .i64 e.ac.ra,.int .i64 e.ac.rb,.int .i64 e.ac.rd,.int .i64 e.ac.to,.int .u64 e.ac.gen,.slice e.ac.rights.p e.ac.rights.n e.ac.rights.c]] W fun e1 w'=>∃E:Eda,e1=.returned (.agg E.arr)∧E.dd=nextD s e.ac∧EdaOk w' E∧Below W.heap.size W w'):=fun W hW=>rnext_any W c s (HS.out.below hW) (by have:=hsh.pn;omega) hpw e.ac (HOk.out.below hW).ac hrg
 have HEq:Hid (∀W,Below w2.heap.size w2 W→∀E:Eda,EdaOk W E→∀D:Bool,(D=true↔e.dd=E.dd)→Calls Tryz.prog 56 #[.agg #[.int .u64 e.po,.int .i64 e.ac.till,.int .u64 e.ac.num,.int .i64 e.ac.kind,.bool e.ac.sure,.slice e.ac.lines.p e.ac.lines.n e.ac.lines.c,.slice e.ac.guards.p e.ac.guards.n e.ac.guards.c,.slice e.ac.sets.p e.ac.sets.n e.ac.sets.c,.int .i64 e.ac.mg,.slice e.ac.other.p e.ac.other.n e.ac.other.c,.int .i64 e.ac.ra,.int .i64 e.ac.rb,.int .i64 e.ac.rd,.int .i64 e.ac.to,.int .u64 e.ac.gen,.slice e.ac.rights.p e.ac.rights.n e.ac.rights.c,.int .i64 e.oc,.slice e.made.p e.made.n e.made.c,.slice e.sets.p e.sets.n e.sets.c,.int .i64 e.n,.int .i64 e.fe,.int .u64 e.ge],.agg E.arr] W fun e1 w'=>e1=.returned (.bool D)∧Below W.heap.size W w'):=fun W hW E hE D hD=>reqEntry_any W e E (HOk.out.below hW) hE D hD
 have HEf:Hid (∀W,Below w2.heap.size w2 W→∀s1:Sta,StaOw w2.heap.size W s1→EffRg s1 e t→Calls Tryz.prog 57 #[.agg s1.arr,.agg #[.int .u64 e.po,.int .i64 e.ac.till,.int .u64 e.ac.num,.int .i64 e.ac.kind,.bool e.ac.sure,.slice e.ac.lines.p e.ac.lines.n e.ac.lines.c,.slice e.ac.guards.p e.ac.guards.n e.ac.guards.c,.slice e.ac.sets.p e.ac.sets.n e.ac.sets.c,.int .i64 e.ac.mg,.slice e.ac.other.p e.ac.other.n e.ac.other.c,.int .i64 e.ac.ra,.int .i64 e.ac.rb,.int .i64 e.ac.rd,.int .i64 e.ac.to,.int .u64 e.ac.gen,.slice e.ac.rights.p e.ac.rights.n e.ac.rights.c,.int .i64 e.oc,.slice e.made.p e.made.n e.made.c,.slice e.sets.p e.sets.n e.sets.c,.int .i64 e.n,.int .i64 e.fe,.int .u64 e.ge]] W fun e1 w'=>e1=.returned (.agg s1.arr)∧StaOw w2.heap.size w' (effD s1 e)∧Same s1 (effD s1 e)∧Mut w2.heap.size W w'):=fun W hW s1 h1 h2=>reffect_any W w2.heap.size s1 h1 hW.size e t w2 HOk.out (Nat.le_refl _) hW h2
 have HT:=hide ht
 have HEl:=hide el
 have HQ:=hide hq
 have HM:=hide hm
 rw[ht]at HX HCk HNx HEq HEf HEn
 rw[el]at HX
 clear ht el hq hC hrg hth hto htg hlb hlc htl2
 clear d0 d1 d2 d3 d4 d5 d6 d7 d8 c0 c1 c2 c3 c4 c5 e0 e1 e2 e3 e4 e5 e6 e7 e8 e9 e10 e11 e12 e13 e14 e15 e16 e17 e18 e19 e20 e21
 obtain⟨d0,d1,d2,d3,d4,d5,d6,d7,d8,c0,c1,c2,c3,c4,c5,e0,e1,e2,e3,e4,e5,e6,e7,e8,e9,e10,e11,e12,e13,e14,e15,e16,e17,e18,e19,e20,e21⟩:=HX.out w5 HB5.out
 have l0:=HL.out w5 HB5.out
 have HN:=hide hN
 have hnm:=HNm.out.1 hN
 have hne:((e.ac.num:Int) != m)=false:=by simp[hnm]
 clear hN hnm
 refine wp_region_noPanic ?_
 refine wp_region_held_drew (S:=(fun W=>W.cell? ⟨w.heap.size,0,none⟩=some (.int .i64 c.tills)∧W.cell? ⟨w.heap.size,1,none⟩=some (.slice c.cp c.cl c.cc)∧W.cell? ⟨w.heap.size,2,none⟩=some (.slice c.pp c.pl c.pc)∧W.cell? ⟨w.heap.size,3,none⟩=some (.int .i64 c.lease)∧W.cell? ⟨w.heap.size,4,none⟩=some (.int .i64 c.watch)∧W.cell? ⟨w.heap.size,5,none⟩=some (.int .i64 c.beat)∧W.cell? ⟨w.heap.size,6,none⟩=some (.int .i64 c.window)∧W.cell? ⟨w.heap.size,7,none⟩=some (.int .i64 c.cap)∧W.cell? ⟨w.heap.size,8,none⟩=some (.int .i64 c.flight)∧W.cell? ⟨w.heap.size+1+1,1,none⟩=some (.int .i64 (t:Int))∧W.cell? ⟨w.heap.size+1+1,2,none⟩=some (.int .u64 e.ac.num)∧W.cell? ⟨w.heap.size+1+1,3,none⟩=some (.int .i64 e.ac.kind)∧W.cell? ⟨w.heap.size+1+1,4,none⟩=some (.bool e.ac.sure)∧W.cell? ⟨w.heap.size+1+1,5,none⟩=some (.slice e.ac.lines.p e.ac.lines.n e.ac.lines.c)∧W.cell? ⟨w.heap.size+1+1,6,none⟩=some (.slice e.ac.guards.p e.ac.guards.n e.ac.guards.c)∧W.cell? ⟨w.heap.size+1+1,7,none⟩=some (.slice e.ac.sets.p e.ac.sets.n e.ac.sets.c)∧W.cell? ⟨w.heap.size+1+1,8,none⟩=some (.int .i64 e.ac.mg)∧W.cell? ⟨w.heap.size+1+1,9,none⟩=some (.slice e.ac.other.p e.ac.other.n e.ac.other.c)∧W.cell? ⟨w.heap.size+1+1,10,none⟩=some (.int .i64 e.ac.ra)∧W.cell? ⟨w.heap.size+1+1,11,none⟩=some (.int .i64 e.ac.rb)∧W.cell? ⟨w.heap.size+1+1,12,none⟩=some (.int .i64 e.ac.rd)∧W.cell? ⟨w.heap.size+1+1,13,none⟩=some (.int .i64 e.ac.to)∧W.cell? ⟨w.heap.size+1+1,14,none⟩=some (.int .u64 e.ac.gen)∧W.cell? ⟨w.heap.size+1+1,15,none⟩=some (.slice e.ac.rights.p e.ac.rights.n e.ac.rights.c)∧W.cell? ⟨w.heap.size+1,3,none⟩=some (.slice (some ⟨lb,lo,none⟩) s.ln s.lc)∧W.cell? ⟨lb,lo+t,none⟩=some (.int .u64 q))) (by kernel_rfl) (by go_keep) (fun hHeld=>?_)
 refine tkk 0 ?_
 refine tkk 1 ?_
 refine tkk 2 ?_
 refine rdy 3 (fun KK hKK=>?_)
 go_simp
 (go_at_call 25;refine(HCk.out _ HBd.out).mono ?_;rintro e1 w6 ⟨rfl,hb6⟩;have HB6:Hid (Below w2.heap.size w2 w6):=HBd.out.trans (hb6.mono HBd.out.size);have HB56:Hid (Below w5.heap.size w5 w6):=((Below.refl _ w5).drew).trans (hb6.mono (Nat.le_refl _));clear hb6 d0 d1 d2 d3 d4 d5 d6 d7 d8 c0 c1 c2 c3 c4 c5 e0 e1 e2 e3 e4 e5 e6 e7 e8 e9 e10 e11 e12 e13 e14 e15 e16 e17 e18 e19 e20 e21 l0;obtain⟨d0,d1,d2,d3,d4,d5,d6,d7,d8,c0,c1,c2,c3,c4,c5,e0,e1,e2,e3,e4,e5,e6,e7,e8,e9,e10,e11,e12,e13,e14,e15,e16,e17,e18,e19,e20,e21⟩:=HX.out w6 HB6.out;have l0:=HL.out w6 HB6.out)
 refine hKK.out _ _ (by(try dsimp only);go_keep) (fun hHeld=>?_)
 clear hKK KK
 try simp only[Act.put,qzs,qz0,qz1]
 refine tkk 4 ?_
 refine tkk 5 ?_
 refine tkk 6 ?_
 refine tkk 7 ?_
 refine tkk 8 ?_
 refine tkk 9 ?_
 refine tkk 10 ?_
 refine tkk 11 ?_
 refine tkk 12 ?_
 refine tkk 13 ?_
 refine tkk 14 ?_
 refine tkk 15 ?_
 refine tkk 16 ?_
 refine tkk 17 ?_
 refine tkk 18 ?_
 refine tkk 19 ?_
 refine rdy 20 (fun KK hKK=>?_)
 go_simp
 refine hKK.out _ _ (by(try dsimp only);go_keep) (fun hHeld=>?_)
 clear hKK KK
 try simp only[Act.put,qzs,qz0,qz1]
 refine wpAnyH_done (by kernel_rfl) (NoPanic.normal ?_) _
 clear hm q1 l0
 go_upto_region 14 with (fail)
 clear hne
 have HBd6:Hid (Below w2.heap.size w2 w6.drew):=HB6.out.drew
 have HBe6:Hid (Below w5.heap.size w5 w6.drew):=HB56.out.drew
 refine wp_region_noPanic ?_
 refine wp_region_held_drew (S:=fun W=>Below w2.heap.size w2 W) (by kernel_rfl) HBd6.out (fun hHeld=>?_)
 refine wpAnyH_take (i:=0) (oi:=_) (v:=.agg #[.int .u64 e.po,.int .i64 (t:Int),.int .u64 e.ac.num,.int .i64 e.ac.kind,.bool e.ac.sure,.slice e.ac.lines.p e.ac.lines.n e.ac.lines.c,.slice e.ac.guards.p e.ac.guards.n e.ac.guards.c,.slice e.ac.sets.p e.ac.sets.n e.ac.sets.c,.int .i64 e.ac.mg,.slice e.ac.other.p e.ac.other.n e.ac.other.c,.int .i64 e.ac.ra,.int .i64 e.ac.rb,.int .i64 e.ac.rd,.int .i64 e.ac.to,.int .u64 e.ac.gen,.slice e.ac.rights.p e.ac.rights.n e.ac.rights.c,.int .i64 e.oc,.slice e.made.p e.made.n e.made.c,.slice e.sets.p e.sets.n e.sets.c,.int .i64 e.n,.int .i64 e.fe,.int .u64 e.ge]) rfl (by kernel_rfl) (by kernel_rfl) (by kernel_rfl) (fun _ _ _ h=>h) (Or.inl ⟨by kernel_rfl,fun W hW=>ex_loadw W 89 (.tmp 5) rfl (w.heap.size+1+1) #[.int .u64 e.po,.int .i64 (t:Int),.int .u64 e.ac.num,.int .i64 e.ac.kind,.bool e.ac.sure,.slice e.ac.lines.p e.ac.lines.n e.ac.lines.c,.slice e.ac.guards.p e.ac.guards.n e.ac.guards.c,.slice e.ac.sets.p e.ac.sets.n e.ac.sets.c,.int .i64 e.ac.mg,.slice e.ac.other.p e.ac.other.n e.ac.other.c,.int .i64 e.ac.ra,.int .i64 e.ac.rb,.int .i64 e.ac.rd,.int .i64 e.ac.to,.int .u64 e.ac.gen,.slice e.ac.rights.p e.ac.rights.n e.ac.rights.c,.int .i64 e.oc,.slice e.made.p e.made.n e.made.c,.slice e.sets.p e.sets.n e.sets.c,.int .i64 e.n,.int .i64 e.fe,.int .u64 e.ge] rfl (Z.loadAt_row (P:=Tryz.prog) (ty:=89) (HEn.out W hW) Tryz.underlying89 rfl Tryz.sizeE)⟩) hHeld ?_
 try simp only[Act.put,qzs,qz0,qz1]
 refine wpAnyH_take (i:=1) (oi:=_) (v:=.agg #[.int .i64 c.tills,.slice c.cp c.cl c.cc,.slice c.pp c.pl c.pc,.int .i64 c.lease,.int .i64 c.watch,.int .i64 c.beat,.int .i64 c.window,.int .i64 c.cap,.int .i64 c.flight]) rfl (by kernel_rfl) (by kernel_rfl) (by kernel_rfl) (fun _ _ _ h=>h) (Or.inl ⟨by kernel_rfl,fun W hW=>ex_loadw W 37 (.tmp 3) rfl (w.heap.size) #[.int .i64 c.tills,.slice c.cp c.cl c.cc,.slice c.pp c.pl c.pc,.int .i64 c.lease,.int .i64 c.watch,.int .i64 c.beat,.int .i64 c.window,.int .i64 c.cap,.int .i64 c.flight] rfl (Z.loadAt_row (P:=Tryz.prog) (ty:=37) (HCn.out W hW) Tryz.underlying37 rfl Tryz.sizeC)⟩) hHeld ?_
 try simp only[Act.put,qzs,qz0,qz1]
 refine wpAnyH_take (i:=2) (oi:=_) (v:=.agg #[.int .u64 s.pos,.slice s.pp s.pn s.pc,.slice s.rp s.rn s.rc,.slice s.lp s.ln s.lc,.slice s.gp s.gn s.gc,.slice s.op s.on s.oc]) rfl (by kernel_rfl) (by kernel_rfl) (by kernel_rfl) (fun _ _ _ h=>h) (Or.inl ⟨by kernel_rfl,fun W hW=>ex_loadw W 45 (.tmp 4) rfl (w.heap.size+1) #[.int .u64 s.pos,.slice s.pp s.pn s.pc,.slice s.rp s.rn s.rc,.slice s.lp s.ln s.lc,.slice s.gp s.gn s.gc,.slice s.op s.on s.oc] rfl (Z.loadAt_row (P:=Tryz.prog) (ty:=45) (HSn.out W hW) Tryz.underlying45 rfl Tryz.sizeS)⟩) hHeld ?_
 try simp only[Act.put,qzs,qz0,qz1]
 refine wpAnyH_take (i:=3) (oi:=_) (v:=.pointer (some ⟨w.heap.size+1+1,1,none⟩)) rfl (by kernel_rfl) (by kernel_rfl) (by kernel_rfl) (fun _ _ _ h=>h) (Or.inl ⟨by kernel_rfl,fun W hW=>by go_simp;try with_reducible rfl⟩) hHeld ?_
 try simp only[Act.put,qzs,qz0,qz1]
 refine wpAnyH_take (i:=4) (oi:=_) (v:=.agg #[.int .i64 (t:Int),.int .u64 e.ac.num,.int .i64 e.ac.kind,.bool e.ac.sure,.slice e.ac.lines.p e.ac.lines.n e.ac.lines.c,.slice e.ac.guards.p e.ac.guards.n e.ac.guards.c,.slice e.ac.sets.p e.ac.sets.n e.ac.sets.c,.int .i64 e.ac.mg,.slice e.ac.other.p e.ac.other.n e.ac.other.c,.int .i64 e.ac.ra,.int .i64 e.ac.rb,.int .i64 e.ac.rd,.int .i64 e.ac.to,.int .u64 e.ac.gen,.slice e.ac.rights.p e.ac.rights.n e.ac.rights.c]) rfl (by kernel_rfl) (by kernel_rfl) (by kernel_rfl) (fun _ _ _ h=>h) (Or.inl ⟨by kernel_rfl,fun W hW=>by(obtain⟨d0,d1,d2,d3,d4,d5,d6,d7,d8,c0,c1,c2,c3,c4,c5,e0,e1,e2,e3,e4,e5,e6,e7,e8,e9,e10,e11,e12,e13,e14,e15,e16,e17,e18,e19,e20,e21⟩:=HX.out W hW;go_simp;try with_reducible rfl)⟩) hHeld ?_
 try simp only[Act.put,qzs,qz0,qz1]
 refine rdy 5 (fun KK hKK=>?_)
 go_simp
 (go_at_call 27;refine(HNx.out _ HBd6.out).mono ?_;rintro e1 w7 ⟨E,rfl,hEd,hEk,hb7⟩;have HEd:=hide hEd;have HB7:Hid (Below w2.heap.size w2 w7):=HBd6.out.trans (hb7.mono HBd6.out.size);have HB57:Hid (Below w5.heap.size w5 w7):=HBe6.out.trans (hb7.mono HBe6.out.size);obtain⟨D,hD⟩:=bool_of (e.dd=E.dd);have HD:=hide hD;have HEq2:=hide (HEq.out w7 HB7.out E hEk D hD);obtain⟨Ev,hEv⟩:∃A:Array Value,E.arr=A:=⟨_,rfl⟩;rw[hEv]at HEq2;rw[hEv];clear hEd hEk hb7 hD hEv d0 d1 d2 d3 d4 d5 d6 d7 d8 c0 c1 c2 c3 c4 c5 e0 e1 e2 e3 e4 e5 e6 e7 e8 e9 e10 e11 e12 e13 e14 e15 e16 e17 e18 e19 e20 e21;obtain⟨d0,d1,d2,d3,d4,d5,d6,d7,d8,c0,c1,c2,c3,c4,c5,e0,e1,e2,e3,e4,e5,e6,e7,e8,e9,e10,e11,e12,e13,e14,e15,e16,e17,e18,e19,e20,e21⟩:=HX.out w7 HB7.out)
 refine hKK.out _ _ (by(try dsimp only);exact HB7.out) (fun hHeld=>?_)
 clear hKK KK
 try simp only[Act.put,qzs,qz0,qz1]
 refine rdy 6 (fun KK hKK=>?_)
 go_simp
 (go_at_call 56;refine HEq2.out.mono ?_;rintro e1 w8 ⟨rfl,hb8⟩;have HB8:Hid (Below w2.heap.size w2 w8):=HB7.out.trans (hb8.mono HB7.out.size);have HB58:Hid (Below w5.heap.size w5 w8):=HB57.out.trans (hb8.mono HB57.out.size);clear hb8 d0 d1 d2 d3 d4 d5 d6 d7 d8 c0 c1 c2 c3 c4 c5 e0 e1 e2 e3 e4 e5 e6 e7 e8 e9 e10 e11 e12 e13 e14 e15 e16 e17 e18 e19 e20 e21;obtain⟨d0,d1,d2,d3,d4,d5,d6,d7,d8,c0,c1,c2,c3,c4,c5,e0,e1,e2,e3,e4,e5,e6,e7,e8,e9,e10,e11,e12,e13,e14,e15,e16,e17,e18,e19,e20,e21⟩:=HX.out w8 HB8.out)
 refine hKK.out _ _ (by(try dsimp only);exact HB8.out) (fun hHeld=>?_)
 clear hKK KK
 try simp only[Act.put,qzs,qz0,qz1]
 refine rdy 7 (fun KK hKK=>?_)
 go_simp
 refine hKK.out _ _ (by(try dsimp only);exact HB8.out) (fun hHeld=>?_)
 clear hKK KK
 try simp only[Act.put,qzs,qz0,qz1]
 refine wpAnyH_done (by kernel_rfl) (NoPanic.normal ?_) _
 cases D with
 | false =>
  have HSt:=hide (Z.storeAt_row (P:=Tryz.prog) (c':=#[.int .u64 0,.slice none 0 0,.slice none 0 0,.slice none 0 0,.slice none 0 0,.slice none 0 0]) (HRz.out w8 HB8.out) Tryz.sizeS rfl (by simp[Value.oneCell']))
  have HRw:=hide (setRow_heap _ _ _ #[.int .u64 0,.slice none 0 0,.slice none 0 0,.slice none 0 0,.slice none 0 0,.slice none 0 0] _ _ (HRz.out w8 HB8.out))
  have HFv:Hid (FoldV c s e 102):=by
   refine⟨fun h=>absurd HO.out h,fun _ h=>absurd h HK0.out,fun _ h=>absurd h HK0.out,fun _ _ h=>absurd ⟨HC.out,HN.out⟩ h,fun _ _ _ _ _=>rfl,fun _ _ _ _ h=>?_⟩
   have h1:=HD.out.2 (h.trans HEd.out.symm)
   cases h1
  go_wp2_with (first | ((with_reducible show wpList _ _ _ (⟨_,.build _ _,_,_,_,_⟩ :: _) _ _);refine Z.lp_built rfl 45 _ rfl [] rfl #[.int .u64 0,.slice none 0 0,.slice none 0 0,.slice none 0 0,.slice none 0 0,.slice none 0 0] st_zero ?_) | ((with_reducible show wpList _ _ _ (⟨_,.store 45 (.tmp 6) _,_,_,_,_⟩ :: _) _ _);refine Z.lp_store (t:=45) (x:=.tmp 6) (some ⟨w.heap.size+1+1+1,0,none⟩) (.agg #[.int .u64 0,.slice none 0 0,.slice none 0 0,.slice none 0 0,.slice none 0 0,.slice none 0 0]) rfl rfl HSt.out ?_))
  refine bodyPost_ret (res_et rfl rfl HRw.out Tryz.underlying45 rfl Tryz.sizeS) rfl ?_
  exact⟨zeroSta,102,rfl,HFv.out,zero_ow _ _,below_setRow (HB2.out.trans (HB8.out.mono HB2.out.size)) (by omega) _,fun h=>absurd h (by decide)⟩
 | true =>
  have HDd:Hid (e.dd=nextD s e.ac):=(HD.out.1 (by first | rfl | trivial)).trans HEd.out
  go_upto_region 16 with (fail)
  have HT8:Hid (w8.heap[tb]?=some (.cells r1.arr 45 (0,0))):=(HB58.out.block _ (ac_lt HT5.out)).trans HT5.out
  have HO8:=hide (HO5.out.below HB58.out)
  have q1:(t:Int)<(r1.ln:Int):=by have h1:=HSh.out.ln;have h2:=hsh.on;have h3:=HTo.out;omega
  obtain⟨q2,hq⟩:∃q,r1.last[t]?=some q:=⟨_,List.getElem?_eq_getElem (by rw[HO8.out.ln];omega)⟩
  obtain⟨gg,egg,hggB,⟨Cg,hCg⟩,hfg,hcg,hstg⟩:=HO8.out.setL hq
  have t3:w8.cell? ⟨tb,3,none⟩=some (.slice (some ⟨gg,0,none⟩) r1.ln r1.lc):=by rw[cell_of_row _ _ _ _ _ _ HT8.out,←egg];rfl
  have fg:=hfg t
  obtain⟨w9,hw9⟩:∃W,w8.setCell ⟨gg,t,none⟩ (.int .u64 e.ac.num)=W:=⟨_,rfl⟩
  have HO9:Hid (StaOw w2.heap.size w9 (r1.setLast t e.ac.num)):=by
   show StaOw _ _ _
   rw[←hw9];exact hstg e.ac.num
  have HT9:Hid (w9.heap[tb]?=some (.cells r1.arr 45 (0,0))):=by
   show _=_
   rw[←hw9,heap_setCell_other _ _ _ _ (by show tb≠gg;rintro rfl;have h1:=HT8.out;rw[hCg]at h1;cases h1)];exact HT8.out
  have HB9:Hid (Below w2.heap.size w2 w9):=by show Below _ _ _;rw[←hw9];exact HB8.out.setCell (p:=⟨gg,t,none⟩) hggB _
  have HW9:=hide hw9
  clear hq egg hCg hfg hstg hw9 hggB
  go_upto_region 17 with (fail)
  rw[HW9.out]
  clear t3 fg hcg d0 d1 d2 d3 d4 d5 d6 d7 d8 c0 c1 c2 c3 c4 c5 e0 e1 e2 e3 e4 e5 e6 e7 e8 e9 e10 e11 e12 e13 e14 e15 e16 e17 e18 e19 e20 e21
  have HSh9:Hid (Shp c (r1.setLast t e.ac.num)):=by
   have h:=HSh.out;exact⟨h.pn,h.rn,h.ln,h.gn,h.on,h.hl⟩
  have HEf2:Hid (Calls Tryz.prog 57 #[.agg r1.arr,.agg #[.int .u64 e.po,.int .i64 (t:Int),.int .u64 e.ac.num,.int .i64 e.ac.kind,.bool e.ac.sure,.slice e.ac.lines.p e.ac.lines.n e.ac.lines.c,.slice e.ac.guards.p e.ac.guards.n e.ac.guards.c,.slice e.ac.sets.p e.ac.sets.n e.ac.sets.c,.int .i64 e.ac.mg,.slice e.ac.other.p e.ac.other.n e.ac.other.c,.int .i64 e.ac.ra,.int .i64 e.ac.rb,.int .i64 e.ac.rd,.int .i64 e.ac.to,.int .u64 e.ac.gen,.slice e.ac.rights.p e.ac.rights.n e.ac.rights.c,.int .i64 e.oc,.slice e.made.p e.made.n e.made.c,.slice e.sets.p e.sets.n e.sets.c,.int .i64 e.n,.int .i64 e.fe,.int .u64 e.ge]] w9 fun e1 w'=>e1=.returned (.agg r1.arr)∧StaOw w2.heap.size w' (effD (r1.setLast t e.ac.num) e)∧Same (r1.setLast t e.ac.num) (effD (r1.setLast t e.ac.num) e)∧Mut w2.heap.size w9 w'):=HEf.out w9 HB9.out (r1.setLast t e.ac.num) HO9.out (eff_rg hsh HSh9.out HS.out.pn HO9.out.pn HRg.out HT.out HTh.out HTo.out HDd.out)
  have HLs:=hide (Z.loadAt_row (P:=Tryz.prog) (ty:=45) HT9.out Tryz.underlying45 rfl Tryz.sizeS)
  have HLE:=hide (Z.loadAt_row (P:=Tryz.prog) (ty:=89) (HEn.out w9 HB9.out) Tryz.underlying89 rfl Tryz.sizeE)
  go_wp2_with (first | (go_at_call 57;refine HEf2.out.mono ?_;rintro e1 w10 ⟨rfl,hOa,hSa,hMa⟩;have HOa:=hide hOa;have HSa:=hide hSa;have HBa:Hid (Below w2.heap.size w2 w10):=HB9.out.trans hMa.bel;have HSt:=hide (Z.storeAt_row (P:=Tryz.prog) (c':=r1.arr) (HRz.out w10 HBa.out) Tryz.sizeS rfl (by simp[Sta.arr,Value.oneCell']));have HRw:=hide (setRow_heap _ _ _ r1.arr _ _ (HRz.out w10 HBa.out));clear hOa hSa hMa) | ((with_reducible show wpList _ _ _ (⟨_,.load 45 (.tmp 8),_,_,_,_⟩ :: _) _ _);refine lp_loadw tb 0 r1.arr (by kernel_rfl) rfl HLs.out ?_) | ((with_reducible show wpList _ _ _ (⟨_,.load 89 (.tmp 5),_,_,_,_⟩ :: _) _ _);refine lp_loadw (w.heap.size+1+1) 0 #[.int .u64 e.po,.int .i64 (t:Int),.int .u64 e.ac.num,.int .i64 e.ac.kind,.bool e.ac.sure,.slice e.ac.lines.p e.ac.lines.n e.ac.lines.c,.slice e.ac.guards.p e.ac.guards.n e.ac.guards.c,.slice e.ac.sets.p e.ac.sets.n e.ac.sets.c,.int .i64 e.ac.mg,.slice e.ac.other.p e.ac.other.n e.ac.other.c,.int .i64 e.ac.ra,.int .i64 e.ac.rb,.int .i64 e.ac.rd,.int .i64 e.ac.to,.int .u64 e.ac.gen,.slice e.ac.rights.p e.ac.rights.n e.ac.rights.c,.int .i64 e.oc,.slice e.made.p e.made.n e.made.c,.slice e.sets.p e.sets.n e.sets.c,.int .i64 e.n,.int .i64 e.fe,.int .u64 e.ge] (by kernel_rfl) rfl HLE.out ?_) | ((with_reducible show wpList _ _ _ (⟨_,.store 45 (.tmp 6) _,_,_,_,_⟩ :: _) _ _);refine Z.lp_store (t:=45) (x:=.tmp 6) (some ⟨w.heap.size+1+1+1,0,none⟩) (.agg r1.arr) rfl rfl HSt.out ?_) | fail)
  refine bodyPost_ret (res_et rfl rfl HRw.out Tryz.underlying45 rfl Tryz.sizeS) rfl ?_
  have HOR:StaOw w.heap.size (w10.setRow (w.heap.size+1+1+1) r1.arr) (effD (r1.setLast t e.ac.num) e):=(HOa.out.le (by have:=HB2.out.size;omega)).far (fun g C t hg ht=>setRow_other _ _ _ _ (by rintro rfl;rw[HRz.out w10 HBa.out]at hg;cases hg;exact not_mut rfl ht))
  refine⟨effD (r1.setLast t e.ac.num) e,0,by rw[HSa.out.arr];rfl,?_,HOR,below_setRow (HB2.out.trans (HBa.out.mono HB2.out.size)) (by omega) _,fun _=>⟨shp_same HSh9.out HSa.out,r0,HD0.out,?_⟩⟩
  ·exact⟨fun h=>absurd HO.out h,fun _ h=>absurd h HK0.out,fun _ h=>absurd h HK0.out,fun _ _ h=>absurd ⟨HC.out,HN.out⟩ h,fun _ _ _ _ h=>absurd HDd.out h,fun _ _ _ _ _=>rfl⟩
  ·unfold foldR;rw[if_neg HK0.out,HR1.out,HT.out,Int.toNat_natCast]
end Go.Proofs.YtfbegfapoijbnaaGreat
