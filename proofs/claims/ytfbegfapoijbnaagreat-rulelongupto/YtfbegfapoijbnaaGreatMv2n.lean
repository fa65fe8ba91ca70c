import Derived.Test.YtfbegfapoijbnaaGreatTk
import Derived.Test.YtfbegfapoijbnaaGreatFoF
import Derived.Test.YtfbegfapoijbnaaGreatFoI
set_option maxRecDepth 100000
namespace Go.Proofs.YtfbegfapoijbnaaGreat
open Go.RowKit Go.Sort
open Z (Sli SlOk Acd AcdOk Eda EdaOk AcOwn)
set_option linter.unusedSimpArgs false in
set_option maxHeartbeats 4000000 in
theorem rfold_chk (w:World) (c:Cfg) (s:Sta) (hs:StaOk w s) (hsm:StSm s) (_hpw:∀p∈s.pools,LinWf (frL p)) (hsh:Shp c s) (hcl:c.cl≤4194304) (hpl:c.pl≤4194304) (htl:0≤c.tills∧c.tills≤1000000) (e:Eda) (hok:EdaOk w e) (hO:OrdOk s e) (k0:¬e.ac.kind=0) (hC:¬ChkV c e.ac 0) :
  Calls Tryz.prog 26 #[.agg #[.int .i64 c.tills,.slice c.cp c.cl c.cc,.slice c.pp c.pl c.pc,.int .i64 c.lease,.int .i64 c.watch,.int .i64 c.beat,.int .i64 c.window,.int .i64 c.cap,.int .i64 c.flight],.agg #[.int .u64 s.pos,.slice s.pp s.pn s.pc,.slice s.rp s.rn s.rc,.slice s.lp s.ln s.lc,.slice s.gp s.gn s.gc,.slice s.op s.on s.oc],.agg #[.int .u64 e.po,.int .i64 e.ac.till,.int .u64 e.ac.num,.int .i64 e.ac.kind,.bool e.ac.sure,.slice e.ac.lines.p e.ac.lines.n e.ac.lines.c,.slice e.ac.guards.p e.ac.guards.n e.ac.guards.c,.slice e.ac.sets.p e.ac.sets.n e.ac.sets.c,.int .i64 e.ac.mg,.slice e.ac.other.p e.ac.other.n e.ac.other.c,.int .i64 e.ac.ra,.int .i64 e.ac.rb,.int .i64 e.ac.rd,.int .i64 e.ac.to,.int .u64 e.ac.gen,.slice e.ac.rights.p e.ac.rights.n e.ac.rights.c,.int .i64 e.oc,.slice e.made.p e.made.n e.made.c,.slice e.sets.p e.sets.n e.sets.c,.int .i64 e.n,.int .i64 e.fe,.int .u64 e.ge]] w (FoldP w c s e):=by
 obtain⟨w2,hw2,hb2,hx2,hy2,hz2,hr2,hsz2⟩:=fold_boxes w #[.int .i64 c.tills,.slice c.cp c.cl c.cc,.slice c.pp c.pl c.pc,.int .i64 c.lease,.int .i64 c.watch,.int .i64 c.beat,.int .i64 c.window,.int .i64 c.cap,.int .i64 c.flight] #[.int .u64 s.pos,.slice s.pp s.pn s.pc,.slice s.rp s.rn s.rc,.slice s.lp s.ln s.lc,.slice s.gp s.gn s.gc,.slice s.op s.on s.oc] #[.int .u64 e.po,.int .i64 e.ac.till,.int .u64 e.ac.num,.int .i64 e.ac.kind,.bool e.ac.sure,.slice e.ac.lines.p e.ac.lines.n e.ac.lines.c,.slice e.ac.guards.p e.ac.guards.n e.ac.guards.c,.slice e.ac.sets.p e.ac.sets.n e.ac.sets.c,.int .i64 e.ac.mg,.slice e.ac.other.p e.ac.other.n e.ac.other.c,.int .i64 e.ac.ra,.int .i64 e.ac.rb,.int .i64 e.ac.rd,.int .i64 e.ac.to,.int .u64 e.ac.gen,.slice e.ac.rights.p e.ac.rights.n e.ac.rights.c,.int .i64 e.oc,.slice e.made.p e.made.n e.made.c,.slice e.sets.p e.sets.n e.sets.c,.int .i64 e.n,.int .i64 e.fe,.int .u64 e.ge] #[.int .u64 0,.slice none 0 0,.slice none 0 0,.slice none 0 0,.slice none 0 0,.slice none 0 0]
 have HW2:=hide hw2
 have HB2:=hide hb2
 have HR2:=hide hr2
 have HX:Hid (∀W,Below w2.heap.size w2 W→(W.cell? ⟨w.heap.size,0,none⟩=some (.int .i64 c.tills)∧W.cell? ⟨w.heap.size,1,none⟩=some (.slice c.cp c.cl c.cc)∧W.cell? ⟨w.heap.size,2,none⟩=some (.slice c.pp c.pl c.pc)∧W.cell? ⟨w.heap.size,3,none⟩=some (.int .i64 c.lease)∧W.cell? ⟨w.heap.size,4,none⟩=some (.int .i64 c.watch)∧W.cell? ⟨w.heap.size,5,none⟩=some (.int .i64 c.beat)∧W.cell? ⟨w.heap.size,6,none⟩=some (.int .i64 c.window)∧W.cell? ⟨w.heap.size,7,none⟩=some (.int .i64 c.cap)∧W.cell? ⟨w.heap.size,8,none⟩=some (.int .i64 c.flight)∧W.cell? ⟨w.heap.size+1,0,none⟩=some (.int .u64 s.pos)∧W.cell? ⟨w.heap.size+1,1,none⟩=some (.slice s.pp s.pn s.pc)∧W.cell? ⟨w.heap.size+1,2,none⟩=some (.slice s.rp s.rn s.rc)∧W.cell? ⟨w.heap.size+1,3,none⟩=some (.slice s.lp s.ln s.lc)∧W.cell? ⟨w.heap.size+1,4,none⟩=some (.slice s.gp s.gn s.gc)∧W.cell? ⟨w.heap.size+1,5,none⟩=some (.slice s.op s.on s.oc)∧W.cell? ⟨w.heap.size+1+1,0,none⟩=some (.int .u64 e.po)∧W.cell? ⟨w.heap.size+1+1,1,none⟩=some (.int .i64 e.ac.till)∧W.cell? ⟨w.heap.size+1+1,2,none⟩=some (.int .u64 e.ac.num)∧W.cell? ⟨w.heap.size+1+1,3,none⟩=some (.int .i64 e.ac.kind)∧W.cell? ⟨w.heap.size+1+1,4,none⟩=some (.bool e.ac.sure)∧W.cell? ⟨w.heap.size+1+1,5,none⟩=some (.slice e.ac.lines.p e.ac.lines.n e.ac.lines.c)∧W.cell? ⟨w.heap.size+1+1,6,none⟩=some (.slice e.ac.guards.p e.ac.guards.n e.ac.guards.c)∧W.cell? ⟨w.heap.size+1+1,7,none⟩=some (.slice e.ac.sets.p e.ac.sets.n e.ac.sets.c)∧W.cell? ⟨w.heap.size+1+1,8,none⟩=some (.int .i64 e.ac.mg)∧W.cell? ⟨w.heap.size+1+1,9,none⟩=some (.slice e.ac.other.p e.ac.other.n e.ac.other.c)∧W.cell? ⟨w.heap.size+1+1,10,none⟩=some (.int .i64 e.ac.ra)∧W.cell? ⟨w.heap.size+1+1,11,none⟩=some (.int .i64 e.ac.rb)∧W.cell? ⟨w.heap.size+1+1,12,none⟩=some (.int .i64 e.ac.rd)∧W.cell? ⟨w.heap.size+1+1,13,none⟩=some (.int .i64 e.ac.to)∧W.cell? ⟨w.heap.size+1+1,14,none⟩=some (.int .u64 e.ac.gen)∧W.cell? ⟨w.heap.size+1+1,15,none⟩=some (.slice e.ac.rights.p e.ac.rights.n e.ac.rights.c)∧W.cell? ⟨w.heap.size+1+1,16,none⟩=some (.int .i64 e.oc)∧W.cell? ⟨w.heap.size+1+1,17,none⟩=some (.slice e.made.p e.made.n e.made.c)∧W.cell? ⟨w.heap.size+1+1,18,none⟩=some (.slice e.sets.p e.sets.n e.sets.c)∧W.cell? ⟨w.heap.size+1+1,19,none⟩=some (.int .i64 e.n)∧W.cell? ⟨w.heap.size+1+1,20,none⟩=some (.int .i64 e.fe)∧W.cell? ⟨w.heap.size+1+1,21,none⟩=some (.int .u64 e.ge))):=fun W hb=>by
  have h1:=(hb.block _ (ac_lt hx2)).trans hx2
  have h2:=(hb.block _ (ac_lt hy2)).trans hy2
  have h3:=(hb.block _ (ac_lt hz2)).trans hz2
  obtain⟨d0,d1,d2,d3,d4,d5,d6,d7,d8⟩:=ac9 h1
  obtain⟨c0,c1,c2,c3,c4,c5⟩:=ac6 h2
  exact⟨d0,d1,d2,d3,d4,d5,d6,d7,d8,c0,c1,c2,c3,c4,c5,by rw[cell_of_row _ _ _ _ _ _ h3];rfl,by rw[cell_of_row _ _ _ _ _ _ h3];rfl,by rw[cell_of_row _ _ _ _ _ _ h3];rfl,by rw[cell_of_row _ _ _ _ _ _ h3];rfl,by rw[cell_of_row _ _ _ _ _ _ h3];rfl,by rw[cell_of_row _ _ _ _ _ _ h3];rfl,by rw[cell_of_row _ _ _ _ _ _ h3];rfl,by rw[cell_of_row _ _ _ _ _ _ h3];rfl,by rw[cell_of_row _ _ _ _ _ _ h3];rfl,by rw[cell_of_row _ _ _ _ _ _ h3];rfl,by rw[cell_of_row _ _ _ _ _ _ h3];rfl,by rw[cell_of_row _ _ _ _ _ _ h3];rfl,by rw[cell_of_row _ _ _ _ _ _ h3];rfl,by rw[cell_of_row _ _ _ _ _ _ h3];rfl,by rw[cell_of_row _ _ _ _ _ _ h3];rfl,by rw[cell_of_row _ _ _ _ _ _ h3];rfl,by rw[cell_of_row _ _ _ _ _ _ h3];rfl,by rw[cell_of_row _ _ _ _ _ _ h3];rfl,by rw[cell_of_row _ _ _ _ _ _ h3];rfl,by rw[cell_of_row _ _ _ _ _ _ h3];rfl,by rw[cell_of_row _ _ _ _ _ _ h3];rfl,by rw[cell_of_row _ _ _ _ _ _ h3];rfl⟩
 have HEn:Hid (∀W,Below w2.heap.size w2 W→W.heap[w.heap.size+1+1]?=some (.cells #[.int .u64 e.po,.int .i64 e.ac.till,.int .u64 e.ac.num,.int .i64 e.ac.kind,.bool e.ac.sure,.slice e.ac.lines.p e.ac.lines.n e.ac.lines.c,.slice e.ac.guards.p e.ac.guards.n e.ac.guards.c,.slice e.ac.sets.p e.ac.sets.n e.ac.sets.c,.int .i64 e.ac.mg,.slice e.ac.other.p e.ac.other.n e.ac.other.c,.int .i64 e.ac.ra,.int .i64 e.ac.rb,.int .i64 e.ac.rd,.int .i64 e.ac.to,.int .u64 e.ac.gen,.slice e.ac.rights.p e.ac.rights.n e.ac.rights.c,.int .i64 e.oc,.slice e.made.p e.made.n e.made.c,.slice e.sets.p e.sets.n e.sets.c,.int .i64 e.n,.int .i64 e.fe,.int .u64 e.ge] 89 (0,0))):=fun W hb=>(hb.block _ (ac_lt hz2)).trans hz2
 have HRz:Hid (∀W,Below w2.heap.size w2 W→W.heap[w.heap.size+1+1+1]?=some (.cells #[.int .u64 0,.slice none 0 0,.slice none 0 0,.slice none 0 0,.slice none 0 0,.slice none 0 0] 45 (0,0))):=fun W hb=>(hb.block _ (ac_lt hr2)).trans hr2
 have HS:=hide (hs.below hb2)
 have HOk:=hide (hok.below hb2)
 have hz4:w.heap.size+1+1+1<w2.heap.size:=by omega
 obtain⟨np,hnp⟩:∃p,IntKind.u64.wrap (s.pos+1)=p:=⟨_,rfl⟩
 have HNp:=hide hnp
 have HI:Hid (Below w2.heap.size w2 w2):=Below.refl _ _
 obtain⟨d0,d1,d2,d3,d4,d5,d6,d7,d8,c0,c1,c2,c3,c4,c5,e0,e1,e2,e3,e4,e5,e6,e7,e8,e9,e10,e11,e12,e13,e14,e15,e16,e17,e18,e19,e20,e21⟩:=HX.out w2 HI.out
 clear hw2 hb2 hx2 hy2 hz2 hr2 hs hok
 obtain⟨q1,q3⟩:=hO
 rw[hnp]at q1
 have q2:¬1099511627776<e.po:=by omega
 have HO:Hid (OrdOk s e):=⟨q1.trans HNp.out.symm,by omega⟩
 have q1':((e.po:Int) == np)=true:=by simp[q1]
 have q1n:((e.po:Int) != np)=false:=by simp[q1]
 clear q1
 have k0':(e.ac.kind == 0)=false:=by simp[k0]
 have HK0:=hide k0
 clear k0
 go_enter Tryz.func26,Tryz.ntmps26
 go_upto_region 1 with (fail)
 rw[HW2.out]
 have HCs:=hide (copyState_any w2 s HS.out hsm)
 go_upto_region 4 with (first | (go_at_call 55;refine HCs.out.mono ?_;rintro e1 w3 ⟨r0,rfl,hd0,ho0,hb3⟩;have HD0:=hide hd0;have HO0:=hide ho0;have HB3:=hide hb3;have HSt:=hide (run_storeAt_new (P:=Tryz.prog) w3 45 #[.int .u64 0,.slice none 0 0,.slice none 0 0,.slice none 0 0,.slice none 0 0,.slice none 0 0] r0.arr Tryz.sizeS rfl (by simp[Sta.arr,Value.oneCell']));clear hd0 ho0 hb3 d0 d1 d2 d3 d4 d5 d6 d7 d8 c0 c1 c2 c3 c4 c5 e0 e1 e2 e3 e4 e5 e6 e7 e8 e9 e10 e11 e12 e13 e14 e15 e16 e17 e18 e19 e20 e21) | ((with_reducible show wpList _ _ _ (⟨_,.store 45 (.tmp 8) _,_,_,_,_⟩ :: _) _ _);refine Z.lp_store (t:=45) (x:=.tmp 8) (some ⟨w3.heap.size,0,none⟩) (.agg r0.arr) rfl rfl HSt.out ?_))
 have hT4:=heap_alloc_new w3 (.cells r0.arr 45)
 have hb4:Below w3.heap.size w3 (w3.alloc (.cells r0.arr 45)):=(Below.refl _ _).alloc (Nat.le_refl _) _
 obtain⟨w4,hw4⟩:∃W,w3.alloc (.cells r0.arr 45)=W:=⟨_,rfl⟩
 rw[hw4]at hT4 hb4 ⊢
 clear hw4
 obtain⟨tb,htb⟩:∃k,w3.heap.size=k:=⟨_,rfl⟩
 rw[htb]at hT4 ⊢
 have htb2:w2.heap.size≤tb:=by have:=HB3.out.size;omega
 have hbb4:Below w2.heap.size w2 w4:=HB3.out.trans (hb4.mono HB3.out.size)
 have hO4:=HO0.out.below hb4
 obtain⟨d0,d1,d2,d3,d4,d5,d6,d7,d8,c0,c1,c2,c3,c4,c5,e0,e1,e2,e3,e4,e5,e6,e7,e8,e9,e10,e11,e12,e13,e14,e15,e16,e17,e18,e19,e20,e21⟩:=HX.out w4 hbb4
 have t0:w4.cell? ⟨tb,0,none⟩=some (.int .u64 r0.pos):=by rw[cell_of_row _ _ _ _ _ _ hT4];rfl
 have tf:=frozen_of_row w4 tb 0 _ _ hT4
 have HT4:=hide hT4
 have HO4:=hide hO4
 have HBb4:=hide hbb4
 clear hT4 hb4 hO4 hbb4 htb
 go_upto_region 5 with (fail)
 obtain⟨w5,hw5⟩:∃W,w4.setCell ⟨tb,0,none⟩ (.int .u64 e.po)=W:=⟨_,rfl⟩
 have HT5:Hid (w5.heap[tb]?=some (.cells (r0.setPos e.po).arr 45 (0,0))):=by show _=_;rw[←hw5];exact heap_setCell_same w4 tb 0 _ _ (.int .u64 e.po) HT4.out
 have HB5:Hid (Below w2.heap.size w2 w5):=by show Below _ _ _;rw[←hw5];exact HBb4.out.setCell (p:=⟨tb,0,none⟩) htb2 _
 have HO5:Hid (StaOw w2.heap.size w5 (r0.setPos e.po)):=by
  show StaOw _ _ _
  refine(HO4.out.setPos e.po).far (fun g C t hg ht=>?_)
  rw[←hw5,heap_setCell_other _ _ _ _ (by show g≠tb;rintro rfl;rw[HT4.out]at hg;cases hg;exact not_mut rfl ht)]
 rw[hw5]
 clear hw5 t0 tf HT4 HO4 HBb4 d0 d1 d2 d3 d4 d5 d6 d7 d8 c0 c1 c2 c3 c4 c5 e0 e1 e2 e3 e4 e5 e6 e7 e8 e9 e10 e11 e12 e13 e14 e15 e16 e17 e18 e19 e20 e21
 obtain⟨d0,d1,d2,d3,d4,d5,d6,d7,d8,c0,c1,c2,c3,c4,c5,e0,e1,e2,e3,e4,e5,e6,e7,e8,e9,e10,e11,e12,e13,e14,e15,e16,e17,e18,e19,e20,e21⟩:=HX.out w5 HB5.out
 have HSh:Hid (Shp c (r0.setPos e.po)):=by
  have h:=shp_of hsh HS.out HO0.out HD0.out
  exact⟨h.pn,h.rn,h.ln,h.gn,h.on,h.hl⟩
 obtain⟨r1,hr1⟩:∃r,r0.setPos e.po=r:=⟨_,rfl⟩
 have HR1:=hide hr1
 rw[hr1]at HT5 HO5 HSh
 clear hr1
 clear q1' q1n
 go_upto_region 12 with (fail)
 clear k0' hnp
 have HBd:Hid (Below w2.heap.size w2 w5.drew):=HB5.out.drew
 have HC:=hide hC
 have HCk:Hid (∀W,Below w2.heap.size w2 W→Calls Tryz.prog 25 #[.agg #[.int .i64 c.tills,.slice c.cp c.cl c.cc,.slice c.pp c.pl c.pc,.int .i64 c.lease,.int .i64 c.watch,.int .i64 c.beat,.int .i64 c.window,.int .i64 c.cap,.int .i64 c.flight],.agg #[.int .i64 e.ac.till,.int .u64 e.ac.num,.int .i64 e.ac.kind,.bool e.ac.sure,.slice e.ac.lines.p e.ac.lines.n e.ac.lines.c,.slice e.ac.guards.p e.ac.guards.n e.ac.guards.c,.slice e.ac.sets.p e.ac.sets.n e.ac.sets.c,.int .i64 e.ac.mg,.slice e.ac.other.p e.ac.other.n e.ac.other.c,.int .i64 e.ac.ra,.int .i64 e.ac.rb,.int .i64 e.ac.rd,.int .i64 e.ac.to,.int .u64 e.ac.gen,.slice e.ac.rights.p e.ac.rights.n e.ac.rights.c]] W fun e1 w'=>(∃V:Int,e1=.returned (.int .i64 V)∧¬V=0∧Below W.heap.size W w')):=fun W hW=>(show Calls Tryz.prog 25 #[.agg #[.int .i64 c.tills,.slice c.cp c.cl c.cc,.slice c.pp c.pl c.pc,.int .i64 c.lease,.int .i64 c.watch,.int .i64 c.beat,.int .i64 c.window,.int .i64 c.cap,.int .i64 c.flight],.agg #[.int .i64 e.ac.till,.int .u64 e.ac.num,.int .i64 e.ac.kind,.bool e.ac.sure,.slice e.ac.lines.p e.ac.lines.n e.ac.lines.c,.slice e.ac.guards.p e.ac.guards.n e.ac.guards.c,.slice e.ac.sets.p e.ac.sets.n e.ac.sets.c,.int .i64 e.ac.mg,.slice e.ac.other.p e.ac.other.n e.ac.other.c,.int .i64 e.ac.ra,.int .i64 e.ac.rb,.int .i64 e.ac.rd,.int .i64 e.ac.to,.int .u64 e.ac.gen,.slice e.ac.rights.p e.ac.rights.n e.ac.rights.c]] W fun e1 w'=>(∃V,e1=.returned (.int .i64 V)∧ChkV c e.ac V∧Below W.heap.size W w') from rcheck_any W c e.ac (HOk.out.below hW).ac hcl hpl htl).mono (fun _ _ ⟨V,h1,h2,h3⟩=>⟨V,h1,fun hv=>hC (hv ▸ h2),h3⟩)
 clear hC
 refine wp_region_noPanic ?_
 refine wp_region_held_drew (S:=(fun W=>W.cell? ⟨w.heap.size,0,none⟩=some (.int .i64 c.tills)∧W.cell? ⟨w.heap.size,1,none⟩=some (.slice c.cp c.cl c.cc)∧W.cell? ⟨w.heap.size,2,none⟩=some (.slice c.pp c.pl c.pc)∧W.cell? ⟨w.heap.size,3,none⟩=some (.int .i64 c.lease)∧W.cell? ⟨w.heap.size,4,none⟩=some (.int .i64 c.watch)∧W.cell? ⟨w.heap.size,5,none⟩=some (.int .i64 c.beat)∧W.cell? ⟨w.heap.size,6,none⟩=some (.int .i64 c.window)∧W.cell? ⟨w.heap.size,7,none⟩=some (.int .i64 c.cap)∧W.cell? ⟨w.heap.size,8,none⟩=some (.int .i64 c.flight)∧W.cell? ⟨w.heap.size+1+1,1,none⟩=some (.int .i64 e.ac.till)∧W.cell? ⟨w.heap.size+1+1,2,none⟩=some (.int .u64 e.ac.num)∧W.cell? ⟨w.heap.size+1+1,3,none⟩=some (.int .i64 e.ac.kind)∧W.cell? ⟨w.heap.size+1+1,4,none⟩=some (.bool e.ac.sure)∧W.cell? ⟨w.heap.size+1+1,5,none⟩=some (.slice e.ac.lines.p e.ac.lines.n e.ac.lines.c)∧W.cell? ⟨w.heap.size+1+1,6,none⟩=some (.slice e.ac.guards.p e.ac.guards.n e.ac.guards.c)∧W.cell? ⟨w.heap.size+1+1,7,none⟩=some (.slice e.ac.sets.p e.ac.sets.n e.ac.sets.c)∧W.cell? ⟨w.heap.size+1+1,8,none⟩=some (.int .i64 e.ac.mg)∧W.cell? ⟨w.heap.size+1+1,9,none⟩=some (.slice e.ac.other.p e.ac.other.n e.ac.other.c)∧W.cell? ⟨w.heap.size+1+1,10,none⟩=some (.int .i64 e.ac.ra)∧W.cell? ⟨w.heap.size+1+1,11,none⟩=some (.int .i64 e.ac.rb)∧W.cell? ⟨w.heap.size+1+1,12,none⟩=some (.int .i64 e.ac.rd)∧W.cell? ⟨w.heap.size+1+1,13,none⟩=some (.int .i64 e.ac.to)∧W.cell? ⟨w.heap.size+1+1,14,none⟩=some (.int .u64 e.ac.gen)∧W.cell? ⟨w.heap.size+1+1,15,none⟩=some (.slice e.ac.rights.p e.ac.rights.n e.ac.rights.c))) (by kernel_rfl) (by go_keep) (fun hHeld=>?_)
 refine tkk 0 ?_
 refine tkk 1 ?_
 refine tkk 2 ?_
 refine rdy 3 (fun KK hKK=>?_)
 go_simp
 (go_at_call 25;refine(HCk.out _ HBd.out).mono ?_;rintro e1 w6 ⟨V,rfl,hv,hb6⟩;have HB6:Hid (Below w2.heap.size w2 w6):=HBd.out.trans (hb6.mono HBd.out.size);have HB56:Hid (Below w5.heap.size w5 w6):=((Below.refl _ w5).drew).trans (hb6.mono (Nat.le_refl _));clear hb6 d0 d1 d2 d3 d4 d5 d6 d7 d8 c0 c1 c2 c3 c4 c5 e0 e1 e2 e3 e4 e5 e6 e7 e8 e9 e10 e11 e12 e13 e14 e15 e16 e17 e18 e19 e20 e21;obtain⟨d0,d1,d2,d3,d4,d5,d6,d7,d8,c0,c1,c2,c3,c4,c5,e0,e1,e2,e3,e4,e5,e6,e7,e8,e9,e10,e11,e12,e13,e14,e15,e16,e17,e18,e19,e20,e21⟩:=HX.out w6 HB6.out;have hvn:((V:Int) != 0)=true:=by simp[hv])
 refine hKK.out _ _ (by(try dsimp only);go_keep) (fun hHeld=>?_)
 clear hKK KK
 try simp only[Act.put,qzs,qz0,qz1]
 refine tkk 4 ?_
 refine tkk 5 ?_
 refine tku 6 ?_
 refine tku 7 ?_
 refine tku 8 ?_
 refine tku 9 ?_
 refine tku 10 ?_
 refine tku 11 ?_
 refine tku 12 ?_
 refine tku 13 ?_
 refine tku 14 ?_
 refine tku 15 ?_
 refine tku 16 ?_
 refine tku 17 ?_
 refine tku 18 ?_
 refine tku 19 ?_
 refine rdy 20 (fun KK hKK=>?_)
 go_simp
 refine hKK.out _ _ (by(try dsimp only);go_keep) (fun hHeld=>?_)
 clear hKK KK
 try simp only[Act.put,qzs,qz0,qz1]
 refine wpAnyH_done (by kernel_rfl) (NoPanic.normal ?_) _
 have HSt:=hide (Z.storeAt_row (P:=Tryz.prog) (c':=#[.int .u64 0,.slice none 0 0,.slice none 0 0,.slice none 0 0,.slice none 0 0,.slice none 0 0]) (HRz.out w6 HB6.out) Tryz.sizeS rfl (by simp[Value.oneCell']))
 have HRw:=hide (setRow_heap _ _ _ #[.int .u64 0,.slice none 0 0,.slice none 0 0,.slice none 0 0,.slice none 0 0,.slice none 0 0] _ _ (HRz.out w6 HB6.out))
 have HFv:Hid (FoldV c s e 101):=by
  exact⟨fun h=>absurd HO.out h,fun _ h=>absurd h HK0.out,fun _ h=>absurd h HK0.out,fun _ _ _=>rfl,fun _ _ h=>absurd h HC.out,fun _ _ h=>absurd h HC.out⟩
 go_wp2_with (first | ((with_reducible show wpList _ _ _ (⟨_,.build _ _,_,_,_,_⟩ :: _) _ _);refine Z.lp_built rfl 45 _ rfl [] rfl #[.int .u64 0,.slice none 0 0,.slice none 0 0,.slice none 0 0,.slice none 0 0,.slice none 0 0] st_zero ?_) | ((with_reducible show wpList _ _ _ (⟨_,.store 45 (.tmp 6) _,_,_,_,_⟩ :: _) _ _);refine Z.lp_store (t:=45) (x:=.tmp 6) (some ⟨w.heap.size+1+1+1,0,none⟩) (.agg #[.int .u64 0,.slice none 0 0,.slice none 0 0,.slice none 0 0,.slice none 0 0,.slice none 0 0]) rfl rfl HSt.out ?_))
 refine bodyPost_ret (res_et rfl rfl HRw.out Tryz.underlying45 rfl Tryz.sizeS) rfl ?_
 exact⟨zeroSta,101,rfl,HFv.out,zero_ow _ _,below_setRow (HB2.out.trans (HB6.out.mono HB2.out.size)) (by omega) _,fun h=>absurd h (by decide)⟩
end Go.Proofs.YtfbegfapoijbnaaGreat
namespace Go.Proofs.YtfbegfapoijbnaaGreat
open Go.RowKit Go.Sort
open Z (Sli SlOk Acd AcdOk Eda EdaOk AcOwn)
set_option linter.unusedSimpArgs false in
set_option maxHeartbeats 4000000 in
theorem rfold_num (w:World) (c:Cfg) (s:Sta) (hs:StaOk w s) (hsm:StSm s) (_hpw:∀p∈s.pools,LinWf (frL p)) (hsh:Shp c s) (hcl:c.cl≤4194304) (hpl:c.pl≤4194304) (htl:0≤c.tills∧c.tills≤1000000) (e:Eda) (hok:EdaOk w e) (hO:OrdOk s e) (k0:¬e.ac.kind=0) (hC:ChkV c e.ac 0) (hN:¬NumOk s e) :
  Calls Tryz.prog 26 #[.agg #[.int .i64 c.tills,.slice c.cp c.cl c.cc,.slice c.pp c.pl c.pc,.int .i64 c.lease,.int .i64 c.watch,.int .i64 c.beat,.int .i64 c.window,.int .i64 c.cap,.int .i64 c.flight],.agg #[.int .u64 s.pos,.slice s.pp s.pn s.pc,.slice s.rp s.rn s.rc,.slice s.lp s.ln s.lc,.slice s.gp s.gn s.gc,.slice s.op s.on s.oc],.agg #[.int .u64 e.po,.int .i64 e.ac.till,.int .u64 e.ac.num,.int .i64 e.ac.kind,.bool e.ac.sure,.slice e.ac.lines.p e.ac.lines.n e.ac.lines.c,.slice e.ac.guards.p e.ac.guards.n e.ac.guards.c,.slice e.ac.sets.p e.ac.sets.n e.ac.sets.c,.int .i64 e.ac.mg,.slice e.ac.other.p e.ac.other.n e.ac.other.c,.int .i64 e.ac.ra,.int .i64 e.ac.rb,.int .i64 e.ac.rd,.int .i64 e.ac.to,.int .u64 e.ac.gen,.slice e.ac.rights.p e.ac.rights.n e.ac.rights.c,.int .i64 e.oc,.slice e.made.p e.made.n e.made.c,.slice e.sets.p e.sets.n e.sets.c,.int .i64 e.n,.int .i64 e.fe,.int .u64 e.ge]] w (FoldP w c s e):=by
 obtain⟨w2,hw2,hb2,hx2,hy2,hz2,hr2,hsz2⟩:=fold_boxes w #[.int .i64 c.tills,.slice c.cp c.cl c.cc,.slice c.pp c.pl c.pc,.int .i64 c.lease,.int .i64 c.watch,.int .i64 c.beat,.int .i64 c.window,.int .i64 c.cap,.int .i64 c.flight] #[.int .u64 s.pos,.slice s.pp s.pn s.pc,.slice s.rp s.rn s.rc,.slice s.lp s.ln s.lc,.slice s.gp s.gn s.gc,.slice s.op s.on s.oc] #[.int .u64 e.po,.int .i64 e.ac.till,.int .u64 e.ac.num,.int .i64 e.ac.kind,.bool e.ac.sure,.slice e.ac.lines.p e.ac.lines.n e.ac.lines.c,.slice e.ac.guards.p e.ac.guards.n e.ac.guards.c,.slice e.ac.sets.p e.ac.sets.n e.ac.sets.c,.int .i64 e.ac.mg,.slice e.ac.other.p e.ac.other.n e.ac.other.c,.int .i64 e.ac.ra,.int .i64 e.ac.rb,.int .i64 e.ac.rd,.int .i64 e.ac.to,.int .u64 e.ac.gen,.slice e.ac.rights.p e.ac.rights.n e.ac.rights.c,.int .i64 e.oc,.slice e.made.p e.made.n e.made.c,.slice e.sets.p e.sets.n e.sets.c,.int .i64 e.n,.int .i64 e.fe,.int .u64 e.ge] #[.int .u64 0,.slice none 0 0,.slice none 0 0,.slice none 0 0,.slice none 0 0,.slice none 0 0]
 have HW2:=hide hw2
 have HB2:=hide hb2
 have HR2:=hide hr2
 have HX:Hid (∀W,Below w2.heap.size w2 W→(W.cell? ⟨w.heap.size,0,none⟩=some (.int .i64 c.tills)∧W.cell? ⟨w.heap.size,1,none⟩=some (.slice c.cp c.cl c.cc)∧W.cell? ⟨w.heap.size,2,none⟩=some (.slice c.pp c.pl c.pc)∧W.cell? ⟨w.heap.size,3,none⟩=some (.int .i64 c.lease)∧W.cell? ⟨w.heap.size,4,none⟩=some (.int .i64 c.watch)∧W.cell? ⟨w.heap.size,5,none⟩=some (.int .i64 c.beat)∧W.cell? ⟨w.heap.size,6,none⟩=some (.int .i64 c.window)∧W.cell? ⟨w.heap.size,7,none⟩=some (.int .i64 c.cap)∧W.cell? ⟨w.heap.size,8,none⟩=some (.int .i64 c.flight)∧W.cell? ⟨w.heap.size+1,0,none⟩=some (.int .u64 s.pos)∧W.cell? ⟨w.heap.size+1,1,none⟩=some (.slice s.pp s.pn s.pc)∧W.cell? ⟨w.heap.size+1,2,none⟩=some (.slice s.rp s.rn s.rc)∧W.cell? ⟨w.heap.size+1,3,none⟩=some (.slice s.lp s.ln s.lc)∧W.cell? ⟨w.heap.size+1,4,none⟩=some (.slice s.gp s.gn s.gc)∧W.cell? ⟨w.heap.size+1,5,none⟩=some (.slice s.op s.on s.oc)∧W.cell? ⟨w.heap.size+1+1,0,none⟩=some (.int .u64 e.po)∧W.cell? ⟨w.heap.size+1+1,1,none⟩=some (.int .i64 e.ac.till)∧W.cell? ⟨w.heap.size+1+1,2,none⟩=some (.int .u64 e.ac.num)∧W.cell? ⟨w.heap.size+1+1,3,none⟩=some (.int .i64 e.ac.kind)∧W.cell? ⟨w.heap.size+1+1,4,none⟩=some (.bool e.ac.sure)∧W.cell? ⟨w.heap.size+1+1,5,none⟩=some (.slice e.ac.lines.p e.ac.lines.n e.ac.lines.c)∧W.cell? ⟨w.heap.size+1+1,6,none⟩=some (.slice e.ac.guards.p e.ac.guards.n e.ac.guards.c)∧W.cell? ⟨w.heap.size+1+1,7,none⟩=some (.slice e.ac.sets.p e.ac.sets.n e.ac.sets.c)∧W.cell? ⟨w.heap.size+1+1,8,none⟩=some (.int .i64 e.ac.mg)∧W.cell? ⟨w.heap.size+1+1,9,none⟩=some (.slice e.ac.other.p e.ac.other.n e.ac.other.c)∧W.cell? ⟨w.heap.size+1+1,10,none⟩=some (.int .i64 e.ac.ra)∧W.cell? ⟨w.heap.size+1+1,11,none⟩=some (.int .i64 e.ac.rb)∧W.cell? ⟨w.heap.size+1+1,12,none⟩=some (.int .i64 e.ac.rd)∧W.cell? ⟨w.heap.size+1+1,13,none⟩=some (.int .i64 e.ac.to)∧W.cell? ⟨w.heap.size+1+1,14,none⟩=some (.int .u64 e.ac.gen)∧W.cell? ⟨w.heap.size+1+1,15,none⟩=some (.slice e.ac.rights.p e.ac.rights.n e.ac.rights.c)∧W.cell? ⟨w.heap.size+1+1,16,none⟩=some (.int .i64 e.oc)∧W.cell? ⟨w.heap.size+1+1,17,none⟩=some (.slice e.made.p e.made.n e.made.c)∧W.cell? ⟨w.heap.size+1+1,18,none⟩=some (.slice e.sets.p e.sets.n e.sets.c)∧W.cell? ⟨w.heap.size+1+1,19,none⟩=some (.int .i64 e.n)∧W.cell? ⟨w.heap.size+1+1,20,none⟩=some (.int .i64 e.fe)∧W.cell? ⟨w.heap.size+1+1,21,none⟩=some (.int .u64 e.ge))):=fun W hb=>by
  have h1:=(hb.block _ (ac_lt hx2)).trans hx2
  have h2:=(hb.block _ (ac_lt hy2)).trans hy2
  have h3:=(hb.block _ (ac_lt hz2)).trans hz2
  obtain⟨d0,d1,d2,d3,d4,d5,d6,d7,d8⟩:=ac9 h1
  obtain⟨c0,c1,c2,c3,c4,c5⟩:=ac6 h2
  exact⟨d0,d1,d2,d3,d4,d5,d6,d7,d8,c0,c1,c2,c3,c4,c5,by rw[cell_of_row _ _ _ _ _ _ h3];rfl,by rw[cell_of_row _ _ _ _ _ _ h3];rfl,by rw[cell_of_row _ _ _ _ _ _ h3];rfl,by rw[cell_of_row _ _ _ _ _ _ h3];rfl,by rw[cell_of_row _ _ _ _ _ _ h3];rfl,by rw[cell_of_row _ _ _ _ _ _ h3];rfl,by rw[cell_of_row _ _ _ _ _ _ h3];rfl,by rw[cell_of_row _ _ _ _ _ _ h3];rfl,by rw[cell_of_row _ _ _ _ _ _ h3];rfl,by rw[cell_of_row _ _ _ _ _ _ h3];rfl,by rw[cell_of_row _ _ _ _ _ _ h3];rfl,by rw[cell_of_row _ _ _ _ _ _ h3];rfl,by rw[cell_of_row _ _ _ _ _ _ h3];rfl,by rw[cell_of_row _ _ _ _ _ _ h3];rfl,by rw[cell_of_row _ _ _ _ _ _ h3];rfl,by rw[cell_of_row _ _ _ _ _ _ h3];rfl,by rw[cell_of_row _ _ _ _ _ _ h3];rfl,by rw[cell_of_row _ _ _ _ _ _ h3];rfl,by rw[cell_of_row _ _ _ _ _ _ h3];rfl,by rw[cell_of_row _ _ _ _ _ _ h3];rfl,by rw[cell_of_row _ _ _ _ _ _ h3];rfl,by rw[cell_of_row _ _ _ _ _ _ h3];rfl⟩
 have HEn:Hid (∀W,Below w2.heap.size w2 W→W.heap[w.heap.size+1+1]?=some (.cells #[.int .u64 e.po,.int .i64 e.ac.till,.int .u64 e.ac.num,.int .i64 e.ac.kind,.bool e.ac.sure,.slice e.ac.lines.p e.ac.lines.n e.ac.lines.c,.slice e.ac.guards.p e.ac.guards.n e.ac.guards.c,.slice e.ac.sets.p e.ac.sets.n e.ac.sets.c,.int .i64 e.ac.mg,.slice e.ac.other.p e.ac.other.n e.ac.other.c,.int .i64 e.ac.ra,.int .i64 e.ac.rb,.int .i64 e.ac.rd,.int .i64 e.ac.to,.int .u64 e.ac.gen,.slice e.ac.rights.p e.ac.rights.n e.ac.rights.c,.int .i64 e.oc,.slice e.made.p e.made.n e.made.c,.slice e.sets.p e.sets.n e.sets.c,.int .i64 e.n,.int .i64 e.fe,.int .u64 e.ge] 89 (0,0))):=fun W hb=>(hb.block _ (ac_lt hz2)).trans hz2
 have HRz:Hid (∀W,Below w2.heap.size w2 W→W.heap[w.heap.size+1+1+1]?=some (.cells #[.int .u64 0,.slice none 0 0,.slice none 0 0,.slice none 0 0,.slice none 0 0,.slice none 0 0] 45 (0,0))):=fun W hb=>(hb.block _ (ac_lt hr2)).trans hr2
 have HS:=hide (hs.below hb2)
 have HOk:=hide (hok.below hb2)
 have hz4:w.heap.size+1+1+1<w2.heap.size:=by omega
 obtain⟨np,hnp⟩:∃p,IntKind.u64.wrap (s.pos+1)=p:=⟨_,rfl⟩
 have HNp:=hide hnp
 have HI:Hid (Below w2.heap.size w2 w2):=Below.refl _ _
 obtain⟨d0,d1,d2,d3,d4,d5,d6,d7,d8,c0,c1,c2,c3,c4,c5,e0,e1,e2,e3,e4,e5,e6,e7,e8,e9,e10,e11,e12,e13,e14,e15,e16,e17,e18,e19,e20,e21⟩:=HX.out w2 HI.out
 clear hw2 hb2 hx2 hy2 hz2 hr2 hs hok
 obtain⟨q1,q3⟩:=hO
 rw[hnp]at q1
 have q2:¬1099511627776<e.po:=by omega
 have HO:Hid (OrdOk s e):=⟨q1.trans HNp.out.symm,by omega⟩
 have q1':((e.po:Int) == np)=true:=by simp[q1]
 have q1n:((e.po:Int) != np)=false:=by simp[q1]
 clear q1
 have k0':(e.ac.kind == 0)=false:=by simp[k0]
 have HK0:=hide k0
 clear k0
 go_enter Tryz.func26,Tryz.ntmps26
 go_upto_region 1 with (fail)
 rw[HW2.out]
 have HCs:=hide (copyState_any w2 s HS.out hsm)
 go_upto_region 4 with (first | (go_at_call 55;refine HCs.out.mono ?_;rintro e1 w3 ⟨r0,rfl,hd0,ho0,hb3⟩;have HD0:=hide hd0;have HO0:=hide ho0;have HB3:=hide hb3;have HSt:=hide (run_storeAt_new (P:=Tryz.prog) w3 45 #[.int .u64 0,.slice none 0 0,.slice none 0 0,.slice none 0 0,.slice none 0 0,.slice none 0 0] r0.arr Tryz.sizeS rfl (by simp[Sta.arr,Value.oneCell']));clear hd0 ho0 hb3 d0 d1 d2 d3 d4 d5 d6 d7 d8 c0 c1 c2 c3 c4 c5 e0 e1 e2 e3 e4 e5 e6 e7 e8 e9 e10 e11 e12 e13 e14 e15 e16 e17 e18 e19 e20 e21) | ((with_reducible show wpList _ _ _ (⟨_,.store 45 (.tmp 8) _,_,_,_,_⟩ :: _) _ _);refine Z.lp_store (t:=45) (x:=.tmp 8) (some ⟨w3.heap.size,0,none⟩) (.agg r0.arr) rfl rfl HSt.out ?_))
 have hT4:=heap_alloc_new w3 (.cells r0.arr 45)
 have hb4:Below w3.heap.size w3 (w3.alloc (.cells r0.arr 45)):=(Below.refl _ _).alloc (Nat.le_refl _) _
 obtain⟨w4,hw4⟩:∃W,w3.alloc (.cells r0.arr 45)=W:=⟨_,rfl⟩
 rw[hw4]at hT4 hb4 ⊢
 clear hw4
 obtain⟨tb,htb⟩:∃k,w3.heap.size=k:=⟨_,rfl⟩
 rw[htb]at hT4 ⊢
 have htb2:w2.heap.size≤tb:=by have:=HB3.out.size;omega
 have hbb4:Below w2.heap.size w2 w4:=HB3.out.trans (hb4.mono HB3.out.size)
 have hO4:=HO0.out.below hb4
 obtain⟨d0,d1,d2,d3,d4,d5,d6,d7,d8,c0,c1,c2,c3,c4,c5,e0,e1,e2,e3,e4,e5,e6,e7,e8,e9,e10,e11,e12,e13,e14,e15,e16,e17,e18,e19,e20,e21⟩:=HX.out w4 hbb4
 have t0:w4.cell? ⟨tb,0,none⟩=some (.int .u64 r0.pos):=by rw[cell_of_row _ _ _ _ _ _ hT4];rfl
 have tf:=frozen_of_row w4 tb 0 _ _ hT4
 have HT4:=hide hT4
 have HO4:=hide hO4
 have HBb4:=hide hbb4
 clear hT4 hb4 hO4 hbb4 htb
 go_upto_region 5 with (fail)
 obtain⟨w5,hw5⟩:∃W,w4.setCell ⟨tb,0,none⟩ (.int .u64 e.po)=W:=⟨_,rfl⟩
 have HT5:Hid (w5.heap[tb]?=some (.cells (r0.setPos e.po).arr 45 (0,0))):=by show _=_;rw[←hw5];exact heap_setCell_same w4 tb 0 _ _ (.int .u64 e.po) HT4.out
 have HB5:Hid (Below w2.heap.size w2 w5):=by show Below _ _ _;rw[←hw5];exact HBb4.out.setCell (p:=⟨tb,0,none⟩) htb2 _
 have HO5:Hid (StaOw w2.heap.size w5 (r0.setPos e.po)):=by
  show StaOw _ _ _
  refine(HO4.out.setPos e.po).far (fun g C t hg ht=>?_)
  rw[←hw5,heap_setCell_other _ _ _ _ (by show g≠tb;rintro rfl;rw[HT4.out]at hg;cases hg;exact not_mut rfl ht)]
 rw[hw5]
 clear hw5 t0 tf HT4 HO4 HBb4 d0 d1 d2 d3 d4 d5 d6 d7 d8 c0 c1 c2 c3 c4 c5 e0 e1 e2 e3 e4 e5 e6 e7 e8 e9 e10 e11 e12 e13 e14 e15 e16 e17 e18 e19 e20 e21
 obtain⟨d0,d1,d2,d3,d4,d5,d6,d7,d8,c0,c1,c2,c3,c4,c5,e0,e1,e2,e3,e4,e5,e6,e7,e8,e9,e10,e11,e12,e13,e14,e15,e16,e17,e18,e19,e20,e21⟩:=HX.out w5 HB5.out
 have HSh:Hid (Shp c (r0.setPos e.po)):=by
  have h:=shp_of hsh HS.out HO0.out HD0.out
  exact⟨h.pn,h.rn,h.ln,h.gn,h.on,h.hl⟩
 obtain⟨r1,hr1⟩:∃r,r0.setPos e.po=r:=⟨_,rfl⟩
 have HR1:=hide hr1
 rw[hr1]at HT5 HO5 HSh
 clear hr1
 clear q1' q1n
 go_upto_region 12 with (fail)
 clear k0' hnp
 have HBd:Hid (Below w2.heap.size w2 w5.drew):=HB5.out.drew
 have HC:=hide hC
 have hrg:=chk_rg hC hsh hcl
 have HRg:=hide hrg
 obtain⟨t,ht,hth,htg,hto⟩:=hrg.till
 have HTh:=hide hth
 have HTo:=hide hto
 have q0:(0:Int)≤(t:Int):=by omega
 have htl2:t<s.ln:=by have h1:=hsh.ln;have h2:=hsh.gn;omega
 have q1:(t:Int)<(s.ln:Int):=by omega
 obtain⟨q,hq⟩:∃q,s.last[t]?=some q:=⟨_,List.getElem?_eq_getElem (by rw[HS.out.ln];exact htl2)⟩
 obtain⟨lb,lo,el,hlb,hlc⟩:=HS.out.last.get (i:=t) (r:=uc q) (by rw[List.getElem?_map,hq];rfl)
 have HL:Hid (∀W,Below w2.heap.size w2 W→W.cell? ⟨lb,lo+t,none⟩=some (.int .u64 q)):=fun W hW=>by
  have h1:=(hW.cell (p:=⟨lb,lo+t*1,none⟩) hlb).trans (hlc 0 _ rfl)
  rw[Nat.mul_one]at h1
  exact h1
 obtain⟨m,hm⟩:∃m,IntKind.u64.wrap (q+1)=m:=⟨_,rfl⟩
 have HNm:Hid (NumOk s e↔e.ac.num=m):=by show _↔_;unfold NumOk;rw[ht,(at_in (z:=(0:Int)) hq).2,hm]
 have HCk:Hid (∀W,Below w2.heap.size w2 W→Calls Tryz.prog 25 #[.agg #[.int .i64 c.tills,.slice c.cp c.cl c.cc,.slice c.pp c.pl c.pc,.int .i64 c.lease,.int .i64 c.watch,.int .i64 c.beat,.int .i64 c.window,.int .i64 c.cap,.int .i64 c.flight],.agg #[.int .i64 e.ac.till,.int .u64 e.ac.num,.int .i64 e.ac.kind,.bool e.ac.sure,.slice e.ac.lines.p e.ac.lines.n e.ac.lines.c,.slice e.ac.guards.p e.ac.guards.n e.ac.guards.c,.slice e.ac.sets.p e.ac.sets.n e.ac.sets.c,.int .i64 e.ac.mg,.slice e.ac.other.p e.ac.other.n e.ac.other.c,.int .i64 e.ac.ra,.int .i64 e.ac.rb,.int .i64 e.ac.rd,.int .i64 e.ac.to,.int .u64 e.ac.gen,.slice e.ac.rights.p e.ac.rights.n e.ac.rights.c]] W fun e1 w'=>(e1=.returned (.int .i64 0)∧Below W.heap.size W w')):=fun W hW=>(show Calls Tryz.prog 25 #[.agg #[.int .i64 c.tills,.slice c.cp c.cl c.cc,.slice c.pp c.pl c.pc,.int .i64 c.lease,.int .i64 c.watch,.int .i64 c.beat,.int .i64 c.window,.int .i64 c.cap,.int .i64 c.flight],.agg #[.int .i64 e.ac.till,.int .u64 e.ac.num,.int .i64 e.ac.kind,.bool e.ac.sure,.slice e.ac.lines.p e.ac.lines.n e.ac.lines.c,.slice e.ac.guards.p e.ac.guards.n e.ac.guards.c,.slice e.ac.sets.p e.ac.sets.n e.ac.sets.c,.int .i64 e.ac.mg,.slice e.ac.other.p e.ac.other.n e.ac.other.c,.int .i64 e.ac.ra,.int .i64 e.ac.rb,.int .i64 e.ac.rd,.int .i64 e.ac.to,.int .u64 e.ac.gen,.slice e.ac.rights.p e.ac.rights.n e.ac.rights.c]] W fun e1 w'=>(∃V,e1=.returned (.int .i64 V)∧ChkV c e.ac V∧Below W.heap.size W w') from rcheck_any W c e.ac (HOk.out.below hW).ac hcl hpl htl).mono (fun _ _ ⟨V,h1,h2,h3⟩=>⟨by rw[h1,chk_one h2 hC],h3⟩)
 have HT:=hide ht
 have HEl:=hide el
 have HQ:=hide hq
 have HM:=hide hm
 rw[ht]at HX HCk
 rw[el]at HX
 clear ht el hq hC hrg hth hto htg hlb hlc htl2
 clear d0 d1 d2 d3 d4 d5 d6 d7 d8 c0 c1 c2 c3 c4 c5 e0 e1 e2 e3 e4 e5 e6 e7 e8 e9 e10 e11 e12 e13 e14 e15 e16 e17 e18 e19 e20 e21
 obtain⟨d0,d1,d2,d3,d4,d5,d6,d7,d8,c0,c1,c2,c3,c4,c5,e0,e1,e2,e3,e4,e5,e6,e7,e8,e9,e10,e11,e12,e13,e14,e15,e16,e17,e18,e19,e20,e21⟩:=HX.out w5 HB5.out
 have l0:=HL.out w5 HB5.out
 have HN:=hide hN
 have hne:((e.ac.num:Int) != m)=true:=by have h1:¬e.ac.num=m:=fun h=>hN (HNm.out.2 h);simp[h1]
 clear hN
 refine wp_region_noPanic ?_
 refine wp_region_held_drew (S:=(fun W=>W.cell? ⟨w.heap.size,0,none⟩=some (.int .i64 c.tills)∧W.cell? ⟨w.heap.size,1,none⟩=some (.slice c.cp c.cl c.cc)∧W.cell? ⟨w.heap.size,2,none⟩=some (.slice c.pp c.pl c.pc)∧W.cell? ⟨w.heap.size,3,none⟩=some (.int .i64 c.lease)∧W.cell? ⟨w.heap.size,4,none⟩=some (.int .i64 c.watch)∧W.cell? ⟨w.heap.size,5,none⟩=some (.int .i64 c.beat)∧W.cell? ⟨w.heap.size,6,none⟩=some (.int .i64 c.window)∧W.cell? ⟨w.heap.size,7,none⟩=some (.int .i64 c.cap)∧W.cell? ⟨w.heap.size,8,none⟩=some (.int .i64 c.flight)∧W.cell? ⟨w.heap.size+1+1,1,none⟩=some (.int .i64 (t:Int))∧W.cell? ⟨w.heap.size+1+1,2,none⟩=some (.int .u64 e.ac.num)∧W.cell? ⟨w.heap.size+1+1,3,none⟩=some (.int .i64 e.ac.kind)∧W.cell? ⟨w.heap.size+1+1,4,none⟩=some (.bool e.ac.sure)∧W.cell? ⟨w.heap.size+1+1,5,none⟩=some (.slice e.ac.lines.p e.ac.lines.n e.ac.lines.c)∧W.cell? ⟨w.heap.size+1+1,6,none⟩=some (.slice e.ac.guards.p e.ac.guards.n e.ac.guards.c)∧W.cell? ⟨w.heap.size+1+1,7,none⟩=some (.slice e.ac.sets.p e.ac.sets.n e.ac.sets.c)∧W.cell? ⟨w.heap.size+1+1,8,none⟩=some (.int .i64 e.ac.mg)∧W.cell? ⟨w.heap.size+1+1,9,none⟩=some (.slice e.ac.other.p e.ac.other.n e.ac.other.c)∧W.cell? ⟨w.heap.size+1+1,10,none⟩=some (.int .i64 e.ac.ra)∧W.cell? ⟨w.heap.size+1+1,11,none⟩=some (.int .i64 e.ac.rb)∧W.cell? ⟨w.heap.size+1+1,12,none⟩=some (.int .i64 e.ac.rd)∧W.cell? ⟨w.heap.size+1+1,13,none⟩=some (.int .i64 e.ac.to)∧W.cell? ⟨w.heap.size+1+1,14,none⟩=some (.int .u64 e.ac.gen)∧W.cell? ⟨w.heap.size+1+1,15,none⟩=some (.slice e.ac.rights.p e.ac.rights.n e.ac.rights.c)∧W.cell? ⟨w.heap.size+1,3,none⟩=some (.slice (some ⟨lb,lo,none⟩) s.ln s.lc)∧W.cell? ⟨lb,lo+t,none⟩=some (.int .u64 q))) (by kernel_rfl) (by go_keep) (fun hHeld=>?_)
 refine tkk 0 ?_
 refine tkk 1 ?_
 refine tkk 2 ?_
 refine rdy 3 (fun KK hKK=>?_)
 go_simp
 (go_at_call 25;refine(HCk.out _ HBd.out).mono ?_;rintro e1 w6 ⟨rfl,hb6⟩;have HB6:Hid (Below w2.heap.size w2 w6):=HBd.out.trans (hb6.mono HBd.out.size);have HB56:Hid (Below w5.heap.size w5 w6):=((Below.refl _ w5).drew).trans (hb6.mono (Nat.le_refl _));clear hb6 d0 d1 d2 d3 d4 d5 d6 d7 d8 c0 c1 c2 c3 c4 c5 e0 e1 e2 e3 e4 e5 e6 e7 e8 e9 e10 e11 e12 e13 e14 e15 e16 e17 e18 e19 e20 e21 l0;obtain⟨d0,d1,d2,d3,d4,d5,d6,d7,d8,c0,c1,c2,c3,c4,c5,e0,e1,e2,e3,e4,e5,e6,e7,e8,e9,e10,e11,e12,e13,e14,e15,e16,e17,e18,e19,e20,e21⟩:=HX.out w6 HB6.out;have l0:=HL.out w6 HB6.out)
 refine hKK.out _ _ (by(try dsimp only);go_keep) (fun hHeld=>?_)
 clear hKK KK
 try simp only[Act.put,qzs,qz0,qz1]
 refine tkk 4 ?_
 refine tkk 5 ?_
 refine tkk 6 ?_
 refine tkk 7 ?_
 refine tkk 8 ?_
 refine tkk 9 ?_
 refine tkk 10 ?_
 refine tkk 11 ?_
 refine tkk 12 ?_
 refine tkk 13 ?_
 refine tkk 14 ?_
 refine tkk 15 ?_
 refine tkk 16 ?_
 refine tkk 17 ?_
 refine tkk 18 ?_
 refine tkk 19 ?_
 refine rdy 20 (fun KK hKK=>?_)
 go_simp
 refine hKK.out _ _ (by(try dsimp only);go_keep) (fun hHeld=>?_)
 clear hKK KK
 try simp only[Act.put,qzs,qz0,qz1]
 refine wpAnyH_done (by kernel_rfl) (NoPanic.normal ?_) _
 have HSt:=hide (Z.storeAt_row (P:=Tryz.prog) (c':=#[.int .u64 0,.slice none 0 0,.slice none 0 0,.slice none 0 0,.slice none 0 0,.slice none 0 0]) (HRz.out w6 HB6.out) Tryz.sizeS rfl (by simp[Value.oneCell']))
 have HRw:=hide (setRow_heap _ _ _ #[.int .u64 0,.slice none 0 0,.slice none 0 0,.slice none 0 0,.slice none 0 0,.slice none 0 0] _ _ (HRz.out w6 HB6.out))
 have HFv:Hid (FoldV c s e 101):=by
  exact⟨fun h=>absurd HO.out h,fun _ h=>absurd h HK0.out,fun _ h=>absurd h HK0.out,fun _ _ _=>rfl,fun _ _ _ h=>absurd h HN.out,fun _ _ _ h=>absurd h HN.out⟩
 go_wp2_with (first | ((with_reducible show wpList _ _ _ (⟨_,.build _ _,_,_,_,_⟩ :: _) _ _);refine Z.lp_built rfl 45 _ rfl [] rfl #[.int .u64 0,.slice none 0 0,.slice none 0 0,.slice none 0 0,.slice none 0 0,.slice none 0 0] st_zero ?_) | ((with_reducible show wpList _ _ _ (⟨_,.store 45 (.tmp 6) _,_,_,_,_⟩ :: _) _ _);refine Z.lp_store (t:=45) (x:=.tmp 6) (some ⟨w.heap.size+1+1+1,0,none⟩) (.agg #[.int .u64 0,.slice none 0 0,.slice none 0 0,.slice none 0 0,.slice none 0 0,.slice none 0 0]) rfl rfl HSt.out ?_))
 refine bodyPost_ret (res_et rfl rfl HRw.out Tryz.underlying45 rfl Tryz.sizeS) rfl ?_
 exact⟨zeroSta,101,rfl,HFv.out,zero_ow _ _,below_setRow (HB2.out.trans (HB6.out.mono HB2.out.size)) (by omega) _,fun h=>absurd h (by decide)⟩
end Go.Proofs.YtfbegfapoijbnaaGreat
namespace Go.Proofs.YtfbegfapoijbnaaGreat
open Go.RowKit
open Z (Sli SlOk Acd AcdOk AcOwn)
structure Stp where
 do_:Int
 ac:Acd
 what:Int
 way:Int
 till:Int
 n:Int
def Stp.list (o:Stp):List Value:=.int .i64 o.do_ :: o.ac.list++[.int .i64 o.what,.int .i64 o.way,.int .i64 o.till,.int .i64 o.n]
def Stp.arr (o:Stp):Array Value:=#[.int .i64 o.do_,.int .i64 o.ac.till,.int .u64 o.ac.num,.int .i64 o.ac.kind,.bool o.ac.sure,.slice o.ac.lines.p o.ac.lines.n o.ac.lines.c,.slice o.ac.guards.p o.ac.guards.n o.ac.guards.c,.slice o.ac.sets.p o.ac.sets.n o.ac.sets.c,.int .i64 o.ac.mg,.slice o.ac.other.p o.ac.other.n o.ac.other.c,.int .i64 o.ac.ra,.int .i64 o.ac.rb,.int .i64 o.ac.rd,.int .i64 o.ac.to,.int .u64 o.ac.gen,.slice o.ac.rights.p o.ac.rights.n o.ac.rights.c,.int .i64 o.what,.int .i64 o.way,.int .i64 o.till,.int .i64 o.n]
theorem step_boxes (w:World) (C S O R:Array Value) (t:TypeId):∃w2,(((w.alloc (.cells C 37)).alloc (.cells S 45)).alloc (.cells O 58)).alloc (.cells R t)=w2∧Below w.heap.size w w2∧w2.heap[w.heap.size]?=some (.cells C 37 (0,0))∧w2.heap[w.heap.size+1]?=some (.cells S 45 (0,0))∧w2.heap[w.heap.size+1+1]?=some (.cells O 58 (0,0))∧w2.heap[w.heap.size+1+1+1]?=some (.cells R t (0,0))∧w2.heap.size=w.heap.size+1+1+1+1:=by
 refine⟨_,rfl,((((Below.refl _ w).alloc (Nat.le_refl _) _).alloc (by simp) _).alloc (by simp;omega) _).alloc (by simp;omega) _,?_,?_,?_,?_,by simp⟩
 ·rw[Below.heap_alloc _ _ _ (by simp only[World.size_alloc];omega),Below.heap_alloc _ _ _ (by simp only[World.size_alloc];omega),Below.heap_alloc _ _ _ (by simp)];exact heap_alloc_new _ _
 ·rw[Below.heap_alloc _ _ _ (by simp only[World.size_alloc];omega),Below.heap_alloc _ _ _ (by simp)];exact heap_alloc2_new _ _ _
 ·rw[Below.heap_alloc _ _ _ (by simp only[World.size_alloc];omega)]
  have h:=heap_alloc_new ((w.alloc (.cells C 37)).alloc (.cells S 45)) (.cells O 58)
  simp only[World.size_alloc]at h
  exact h
 ·have h:=heap_alloc_new (((w.alloc (.cells C 37)).alloc (.cells S 45)).alloc (.cells O 58)) (.cells R t)
  simp only[World.size_alloc]at h
  exact h
theorem Z.AcOwn.by {B B':Nat} {W W':World} {a:Acd} (h:AcOwn B W a) (hk:∀e sz v n xs,e≠56→W.ownsRow B e sz v n xs→W'.ownsRow B' e sz v n xs):AcOwn B' W' a :=
 ⟨⟨hk _ _ _ _ _ (by decide) h.lines.1,h.lines.2⟩,⟨hk _ _ _ _ _ (by decide) h.guards.1,h.guards.2⟩,⟨hk _ _ _ _ _ (by decide) h.sets.1,h.sets.2⟩,⟨hk _ _ _ _ _ (by decide) h.other.1,h.other.2⟩,⟨hk _ _ _ _ _ (by decide) h.rights.1,h.rights.2⟩⟩
def actD (s:Sta) (tills:Int) (a:Z.AcP):Z.AcP:={ a with till:=a.till % tills,num:=IntKind.u64.wrap (getAt s.last 0 (a.till % tills)+1) }
set_option linter.unusedSimpArgs false in
set_option maxHeartbeats 4000000 in
theorem act_any (w:World) (c:Cfg) (s:Sta) (hs:StaOk w s) (hln:(s.ln:Int)=c.tills) (htl:1≤c.tills∧c.tills≤1000000) (o:Stp) (hok:AcdOk w o.ac) :
  Calls Tryz.prog 24 #[.agg #[.int .i64 c.tills,.slice c.cp c.cl c.cc,.slice c.pp c.pl c.pc,.int .i64 c.lease,.int .i64 c.watch,.int .i64 c.beat,.int .i64 c.window,.int .i64 c.cap,.int .i64 c.flight],.agg #[.int .u64 s.pos,.slice s.pp s.pn s.pc,.slice s.rp s.rn s.rc,.slice s.lp s.ln s.lc,.slice s.gp s.gn s.gc,.slice s.op s.on s.oc],.agg o.arr] w fun e w'=>∃b:Acd,e=.returned (.agg b.arr)∧b.d=actD s c.tills o.ac.d∧AcOwn w.heap.size w' b∧Below w.heap.size w w':=by
 obtain⟨O,hO⟩:∃O:Array Value,o.arr=O:=⟨_,rfl⟩
 obtain⟨Zr,hZr⟩:∃Z:Array Value,#[.int .i64 0,.int .u64 0,.int .i64 0,.bool false,.slice none 0 0,.slice none 0 0,.slice none 0 0,.int .i64 0,.slice none 0 0,.int .i64 0,.int .i64 0,.int .i64 0,.int .i64 0,.int .u64 0,.slice none 0 0]=Z:=⟨_,rfl⟩
 have HZz:Hid (Zr.size=15):=by show _=_;rw[←hZr];rfl
 obtain⟨w2,hw2,hb2,hc2,hs2,ho2,hr2,hsz2⟩:=step_boxes w #[.int .i64 c.tills,.slice c.cp c.cl c.cc,.slice c.pp c.pl c.pc,.int .i64 c.lease,.int .i64 c.watch,.int .i64 c.beat,.int .i64 c.window,.int .i64 c.cap,.int .i64 c.flight] #[.int .u64 s.pos,.slice s.pp s.pn s.pc,.slice s.rp s.rn s.rc,.slice s.lp s.ln s.lc,.slice s.gp s.gn s.gc,.slice s.op s.on s.oc] O Zr 56
 have HW2:=hide hw2
 have HB2:=hide hb2
 have HS:=hide (hs.below hb2)
 have hsz4:w.heap.size+1+1+1<w2.heap.size:=by omega
 obtain⟨A,hA⟩:∃A:Array Value,o.ac.arr=A:=⟨_,rfl⟩
 have HLA:Hid ((Instr.loadAt 56 (.pointer (some ⟨w.heap.size+1+1,1,none⟩))).run Tryz.prog w2=.ok (.agg A) w2):=by
  show _=_
  rw[←hA]
  refine run_loadAt_mid (P:=Tryz.prog) w2 (w.heap.size+1+1) 1 56 o.ac.list _ (fun j v hv=>?_) Tryz.underlying56 rfl Z.Tryz.sizeA
  rw[cell_of_row _ _ _ _ _ _ ho2,←hO]
  have hj:=(List.getElem?_eq_some_iff.1 hv).1
  have e:o.arr.toList=o.list:=rfl
  rw[←Array.getElem?_toList,e]
  show (Value.int .i64 o.do_ :: (o.ac.list++_))[1+j]?=_
  rw[Nat.add_comm,List.getElem?_cons_succ,List.getElem?_append_left hj]
  exact hv
 have HCp:=hide (Z.copyAct_any w2 o.ac (hok.below hb2) A hA)
 obtain⟨d0,_,_,_,_,_,_,_,_⟩:=ac9 hc2
 obtain⟨_,_,_,c3,_,_⟩:=ac6 hs2
 have h0:(0:Int)<c.tills:=by omega
 have hw0:0≤o.ac.till % c.tills∧o.ac.till % c.tills<c.tills:=⟨Int.emod_nonneg _ (by omega),Int.emod_lt_of_pos _ h0⟩
 obtain⟨t,ht⟩:∃t:Nat,o.ac.till % c.tills=(t:Int):=⟨(o.ac.till % c.tills).toNat,by omega⟩
 rw[ht]at hw0
 obtain⟨q,hq⟩:∃q,s.last[t]?=some q:=⟨_,List.getElem?_eq_getElem (by rw[HS.out.ln];omega)⟩
 have hq2:=(at_in (z:=(0:Int)) hq).2
 obtain⟨lb,lo,el,hlb,hlc⟩:=HS.out.last.get (i:=t) (r:=uc q) (by rw[List.getElem?_map,hq];rfl)
 have e3:=hlc 0 _ rfl
 rw[Nat.mul_one,Nat.add_zero]at e3
 rw[el]at c3
 have HQ2:=hide hq2
 have HT:=hide ht
 have ht2:(t:Int)<(s.ln:Int):=by omega
 have k0:(0:Int)≤(t:Int):=by omega
 obtain⟨tills,htd⟩:∃x,c.tills=x:=⟨_,rfl⟩
 have HWi:Hid (∀W,Calls Tryz.prog 7 #[.int .i64 o.ac.till,.int .i64 c.tills] W fun e w'=>e=.returned (.int .i64 (t:Int))∧w'=W):=fun W=>by
  have h:=Z.within_any W o.ac.till c.tills (by omega) (by omega)
  rw[ht]at h
  exact h
 have HRz:Hid (∀W,Below w2.heap.size w2 W→W.heap[w.heap.size+1+1+1]?=some (.cells Zr 56 (0,0))):=fun W hb=>(hb.block _ (ac_lt hr2)).trans hr2
 have HK:Hid (∀W,Below w2.heap.size w2 W→W.cell? ⟨w.heap.size,0,none⟩=some (.int .i64 c.tills)∧W.cell? ⟨w.heap.size+1,3,none⟩=some (.slice (some ⟨lb,lo,none⟩) s.ln s.lc)∧W.cell? ⟨lb,lo+t,none⟩=some (.int .u64 q)):=fun W hb=>⟨(hb.cell (p:=⟨w.heap.size,0,none⟩) (ac_lt hc2)).trans d0,(hb.cell (p:=⟨w.heap.size+1,3,none⟩) (ac_lt hs2)).trans c3,(hb.cell (p:=⟨lb,lo+t,none⟩) hlb).trans e3⟩
 obtain⟨nn,hnn⟩:∃n,IntKind.u64.wrap (q+1)=n:=⟨_,rfl⟩
 have HNn:=hide hnn
 have HZe:=hide hZr
 rw[hO]
 clear hZr hO hA hw2 hb2 hc2 hs2 ho2 hr2 hs hok hq hq2 hlc el d0 c3 e3 htd ht hw0 h0 hlb
 go_enter Tryz.func24,Tryz.ntmps24
 go_upto_region 1 with (fail)
 rw[←HZe.out]at HW2
 rw[HW2.out]
 go_upto_region 2 with (
  first
  | (go_at_call 48;refine HCp.out.mono ?_;rintro e1 w5 ⟨b,rfl,hbd,hbo,hb5⟩;have HBd:=hide hbd;have HBo:=hide hbo;have HB5:=hide hb5;obtain⟨B,hB⟩:∃B:Array Value,b.arr=B:=⟨_,rfl⟩;rw[hB];have HBe:=hide hB;have HBz:Hid (B.size=15):=(by show _=_;rw[←hB];rfl);have HBn:Hid (B.all (·.oneCell')=true):=(by show _=_;rw[←hB];exact b.ones);clear hbd hbo hb5 hB)
  | ((with_reducible show wpList _ _ _ (⟨_,.load 56 (.tmp 8),_,_,_,_⟩ :: _) _ _);refine Z.lp_load (w.heap.size+1+1) 1 A rfl HLA.out ?_)
  | ((with_reducible show wpList _ _ _ (⟨_,.store 56 (.tmp 7) _,_,_,_,_⟩ :: _) _ _);refine Z.lp_store (t:=56) (x:=.tmp 7) (some ⟨w5.heap.size,0,none⟩) (.agg B) rfl rfl (run_storeAt_new (P:=Tryz.prog) w5 56 _ B (by rw[HBz.out];exact Z.Tryz.sizeA) (by rw[HBz.out];rfl) HBn.out) ?_)
  | fail)
 dsimp only[Act.put]
 have hT6:=heap_alloc_new w5 (.cells B 56)
 have hb6:Below w5.heap.size w5 (w5.alloc (.cells B 56)):=(Below.refl _ _).alloc (Nat.le_refl _) _
 obtain⟨w6,hw6⟩:∃W,w5.alloc (.cells B 56)=W:=⟨_,rfl⟩
 rw[hw6]at hT6 hb6 ⊢
 have hab:w2.heap.size≤w5.heap.size:=HB5.out.size
 have HOw6:=hide (HBo.out.below hb6)
 obtain⟨ab,hab2⟩:∃k,w5.heap.size=k:=⟨_,rfl⟩
 rw[hab2]at hT6 hab ⊢
 have HB26:Hid (Below w2.heap.size w2 w6):=HB5.out.trans (hb6.mono HB5.out.size)
 clear hw6 hab2 hb6
 have bt:b.till=o.ac.till:=congrArg Z.AcP.till HBd.out
 have x0:w6.cell? ⟨ab,0,none⟩=some (.int .i64 o.ac.till):=by rw[cell_of_row _ _ _ _ _ _ hT6,←HBe.out,←bt];rfl
 have fz:=frozen_of_row w6 ab 0 _ _ hT6
 obtain⟨d0,c3,e3⟩:=HK.out w6 HB26.out
 have HT6:=hide hT6
 clear bt hT6
 go_upto_region 3 with (first | (go_at_call 7;refine(HWi.out _).mono ?_;rintro e w9 ⟨rfl,h9⟩;rw[h9];clear h9 w9) | fail)
 obtain⟨w7,hw7⟩:∃W,w6.setCell ⟨ab,0,none⟩ (.int .i64 (t:Int))=W:=⟨_,rfl⟩
 have HT7:Hid (w7.heap[ab]?=some (.cells (B.setIfInBounds 0 (.int .i64 (t:Int))) 56 (0,0))):=by show _=_;rw[←hw7];exact heap_setCell_same _ _ _ _ _ _ HT6.out
 have HB27:Hid (Below w2.heap.size w2 w7):=by show Below _ _ _;rw[←hw7];exact HB26.out.setCell (p:=⟨ab,0,none⟩) hab _
 have HOw7:Hid (AcOwn w2.heap.size w7 b):=by show AcOwn _ _ _;rw[←hw7];exact HOw6.out.by (fun e sz v n xs he h=>Z.owns_set h HT6.out (fun e2=>he e2.symm))
 rw[hw7]
 clear hw7 x0 fz d0 c3 e3
 obtain⟨d0,c3,e3⟩:=HK.out w7 HB27.out
 have x0:w7.cell? ⟨ab,0,none⟩=some (.int .i64 (t:Int)):=by rw[cell_of_row _ _ _ _ _ _ HT7.out,Array.getElem?_setIfInBounds_self_of_lt (by rw[HBz.out];omega)]
 have x1:∃u,w7.cell? ⟨ab,1,none⟩=some u:=⟨_,by rw[cell_of_row _ _ _ _ _ _ HT7.out];exact Array.getElem?_eq_getElem (by rw[Array.size_setIfInBounds,HBz.out];omega)⟩
 obtain⟨u1,x1⟩:=x1
 have fz:=frozen_of_row w7 ab 1 _ _ HT7.out
 go_upto_region 4 with (fail)
 obtain⟨w8,hw8⟩:∃W,w7.setCell ⟨ab,1,none⟩ (.int .u64 nn)=W:=⟨_,rfl⟩
 have HT8:Hid (w8.heap[ab]?=some (.cells ((B.setIfInBounds 0 (.int .i64 (t:Int))).setIfInBounds 1 (.int .u64 nn)) 56 (0,0))):=by show _=_;rw[←hw8];exact heap_setCell_same _ _ _ _ _ _ HT7.out
 have HB28:Hid (Below w2.heap.size w2 w8):=by show Below _ _ _;rw[←hw8];exact HB27.out.setCell (p:=⟨ab,1,none⟩) hab _
 have HOw8:Hid (AcOwn w2.heap.size w8 b):=by show AcOwn _ _ _;rw[←hw8];exact HOw7.out.by (fun e sz v n xs he h=>Z.owns_set h HT7.out (fun e2=>he e2.symm))
 rw[hw8]
 clear hw8 x0 x1 fz d0 c3 e3 HT6 HT7
 obtain⟨B2,hB2⟩:∃X,(B.setIfInBounds 0 (.int .i64 (t:Int))).setIfInBounds 1 (.int .u64 nn)=X:=⟨_,rfl⟩
 have HB2e:Hid (B2=({ b with till:=(t:Int),num:=nn } : Acd).arr):=by show _=_;rw[←hB2,←HBe.out];rfl
 rw[hB2]at HT8
 have HB2z:Hid (B2.size=15):=by show _=_;rw[HB2e.out];rfl
 have HLB:=hide (Z.loadAt_row (P:=Tryz.prog) (ty:=56) HT8.out Tryz.underlying56 rfl (by rw[HB2z.out];exact Z.Tryz.sizeA))
 have HSB:=hide (Z.storeAt_row (P:=Tryz.prog) (c':=B2) (HRz.out w8 HB28.out) (by rw[HB2z.out];exact Z.Tryz.sizeA) (by rw[HZz.out,HB2z.out]) (by rw[HB2e.out];exact Z.Acd.ones _))
 have HRw:=hide (setRow_heap _ _ _ B2 _ _ (HRz.out w8 HB28.out))
 have HOE:Hid (AcOwn w.heap.size (w8.setRow (w.heap.size+1+1+1) B2) b):=HOw8.out.by (fun e sz v n xs he h=>Z.owns_le (owns_same h (fun g e2=>setRow_other _ _ _ _ (by rintro rfl;exact Z.owns_ne h (HRz.out w8 HB28.out) (fun e3=>he e3.symm) e2.symm))) HB2.out.size)
 clear hB2
 go_wp2_with (
  first
  | ((with_reducible show wpList _ _ _ (⟨_,.load 56 (.tmp 7),_,_,_,_⟩ :: _) _ _);refine Z.lp_load ab 0 B2 rfl HLB.out ?_)
  | ((with_reducible show wpList _ _ _ (⟨_,.store 56 (.tmp 6) _,_,_,_,_⟩ :: _) _ _);refine Z.lp_store (t:=56) (x:=.tmp 6) (some ⟨w.heap.size+1+1+1,0,none⟩) (.agg B2) rfl rfl HSB.out ?_)
  | fail)
 refine bodyPost_ret (results_cell_row rfl _ _ (w.heap.size+1+1+1) 56 B2 (0,0) _ rfl HRw.out Tryz.underlying56 rfl (by rw[HB2z.out];exact Z.Tryz.sizeA)) rfl ?_
 refine⟨{ b with till:=(t:Int),num:=nn },by rw[HB2e.out],?_,⟨HOE.out.lines,HOE.out.guards,HOE.out.sets,HOE.out.other,HOE.out.rights⟩,below_setRow (HB2.out.trans (HB28.out.mono HB2.out.size)) (by omega) B2⟩
 show ({ b.d with till:=(t:Int),num:=nn } : Z.AcP)=actD s c.tills o.ac.d
 unfold actD
 rw[HBd.out,show o.ac.d.till=o.ac.till from rfl,HT.out,HQ2.out,HNn.out]
end Go.Proofs.YtfbegfapoijbnaaGreat
namespace Go.Proofs.YtfbegfapoijbnaaGreat
open Go.RowKit
open Z (Sli SlOk Acd AcdOk AcOwn Ctr ctc)
theorem StaOw.setV {B:Nat} {W:World} {s:Sta} (h:StaOw B W s) {k:Nat} {q:Lin} (hq:s.prices[k]?=some q):∃g,s.rp=some ⟨g,0,none⟩∧B≤g∧(∃C,W.heap[g]?=some (.cells C 83 (0,0)))∧(∀j,W.frozen? ⟨g,j,none⟩=false)∧(∀j v,(linc q)[j]?=some v→W.cell? ⟨g,k*2+j,none⟩=some v) ∧
  ∀n:Int,StaOw B (W.setCell ⟨g,k*2+1,none⟩ (.int .i64 n)) { s with prices:=s.prices.set k ⟨q.c,n⟩ }:=by
 obtain⟨g,e,hB,⟨C,hC⟩,hf,_⟩:=row_own h.prices (flat_get (f:=linc) (sz:=2) (fun _=>rfl) s.prices k 0 q _ hq rfl)
 refine⟨g,e,hB,⟨C,hC⟩,hf,fun j v hv=>?_,fun n=>?_⟩
 ·obtain⟨g',e',_,_,_,p⟩:=row_own h.prices (flat_get (f:=linc) (sz:=2) (fun _=>rfl) s.prices k j q v hq hv)
  rw[e]at e';cases e';exact p
 ·have K:∀(B' k' n':Nat) (t:TypeId) (u:Value) (ys:List Value),W.ownsRow B' t k' u n' ys→83≠t→(W.setCell ⟨g,k*2+1,none⟩ (.int .i64 n)).ownsRow B' t k' u n' ys:=fun B' k' n' t u ys hr ht=>Z.owns_set hr hC ht
  refine⟨h.pn,K _ _ _ _ _ _ h.pools (by decide),h.hlen,fun y hy=>K _ _ _ _ _ _ (h.held y hy) (by decide),h.apart,by simp only[List.length_set];exact h.rn,?_,h.ln,K _ _ _ _ _ _ h.last (by decide),h.gn,K _ _ _ _ _ _ h.gen (by decide),h.on,K _ _ _ _ _ _ h.owed (by decide),h.lg⟩
  have h0:=h.prices
  rw[e]at h0
  have h2:=pr_set1 h0 hq n
  rw[←e]at h2
  exact h2
def MovP (w:World) (c:Cfg) (cs:List Ctr) (E:Ending) (w':World):Prop :=
 ∃(A:Array Value) (b:Bool),E=.returned (.tuple #[.agg A,.bool b])∧A.size=6∧A.all (·.oneCell')=true∧(b=true→∃r:Sta,A=r.arr∧StaOw w.heap.size w' r∧RightOk c cs r)∧Below w.heap.size w w'
structure Mvd (w W:World) (C S O:Array Value) (tb:Nat) (r:Sta):Prop where
 cb:W.heap[w.heap.size]?=some (.cells C 37 (0,0))
 sb:W.heap[w.heap.size+1]?=some (.cells S 45 (0,0))
 ob:W.heap[w.heap.size+1+1]?=some (.cells O 58 (0,0))
 rb:W.heap[w.heap.size+1+1+1]?=some (.cells #[.int .u64 0,.slice none 0 0,.slice none 0 0,.slice none 0 0,.slice none 0 0,.slice none 0 0] 45 (0,0))
 xb:W.heap[tb]?=some (.cells #[.int .u64 r.pos,.slice r.pp r.pn r.pc,.slice r.rp r.rn r.rc,.slice r.lp r.ln r.lc,.slice r.gp r.gn r.gc,.slice r.op r.on r.oc] 45 (0,0))
 tlt:w.heap.size+1+1+1<tb
 own:StaOw (w.heap.size+1+1+1+1) W r
 bel:Below w.heap.size w W
theorem Mvd.below {w W W':World} {C S O:Array Value} {tb:Nat} {r:Sta} (h:Mvd w W C S O tb r) (hb:Below W.heap.size W W'):Mvd w W' C S O tb r :=
 ⟨(hb.block _ (ac_lt h.cb)).trans h.cb,(hb.block _ (ac_lt h.sb)).trans h.sb,(hb.block _ (ac_lt h.ob)).trans h.ob,(hb.block _ (ac_lt h.rb)).trans h.rb,(hb.block _ (ac_lt h.xb)).trans h.xb,h.tlt,h.own.below hb,h.bel.trans (hb.mono h.bel.size)⟩
theorem Mvd.set {w W:World} {C S O:Array Value} {tb:Nat} {r r':Sta} (h:Mvd w W C S O tb r) {g:Nat} {G:Array Value} {t:TypeId} (hg:W.heap[g]?=some (.cells G t (0,0))) (ht:MutT t) (hB:w.heap.size+1+1+1+1≤g) (i:Nat) (v:Value) (hr:r'.arr=r.arr) (ho:StaOw (w.heap.size+1+1+1+1) (W.setCell ⟨g,i,none⟩ v) r'):Mvd w (W.setCell ⟨g,i,none⟩ v) C S O tb r':=by
 have K:∀(k:Nat) (A:Array Value) (t':TypeId),W.heap[k]?=some (.cells A t' (0,0))→¬MutT t'→(W.setCell ⟨g,i,none⟩ v).heap[k]?=some (.cells A t' (0,0)):=fun k A t' hk hn=>by
  rw[heap_setCell_other _ _ _ _ (by show k≠g;rintro rfl;rw[hk]at hg;cases hg;exact hn ht)];exact hk
 exact⟨K _ _ _ h.cb (not_mut rfl),K _ _ _ h.sb (not_mut rfl),K _ _ _ h.ob (not_mut rfl),K _ _ _ h.rb (not_mut rfl),by show _=some (Obj.cells r'.arr _ _);rw[hr];exact K _ _ _ h.xb (not_mut rfl),h.tlt,ho,h.bel.setCell (p:=⟨g,i,none⟩) (by show w.heap.size≤g;omega) _⟩
theorem Mvd.told {w W:World} {C S O:Array Value} {tb:Nat} {r:Sta} (h:Mvd w W C S O tb r) (E:Array Value):(W.setRow (w.heap.size+1+1+1) E).heap[w.heap.size+1+1+1]?=some (.cells E 45 (0,0))∧StaOw w.heap.size (W.setRow (w.heap.size+1+1+1) E) r∧Below w.heap.size w (W.setRow (w.heap.size+1+1+1) E) :=
 ⟨setRow_heap _ _ _ _ _ _ h.rb,(h.own.far (fun g C t hg ht=>setRow_other _ _ _ _ (by rintro rfl;rw[h.rb]at hg;cases hg;exact not_mut rfl ht))).le (by omega),below_setRow h.bel (by omega) E⟩
theorem shp_up {c:Cfg} {s:Sta} {k:Nat} {P P':Pl} (h:Shp c s) (hP:s.pools[k]?=some P) (hl:P'.hl=P.hl):Shp c (s.upP k P') :=
 ⟨h.pn,h.rn,h.ln,h.gn,h.on,fun p hp=>by
  rcases mem_upP hp with h1 | rfl
  ·exact h.hl p h1
  ·rw[hl];exact h.hl P (List.mem_of_getElem? hP)⟩
theorem shp_sm {w:World} {c:Cfg} {cs:List Ctr} {s:Sta} (hc:CfgOk w c cs) (h:Shp c s):StSm s:=by
 have h1:=hc.cl
 have h2:=hc.pl
 have h3:=hc.tills
 exact⟨by have:=h.pn;omega,by have:=h.rn;omega,by have:=h.ln;omega,by have:=h.gn;omega,by have:=h.on;omega,fun p hp=>by have:=h.hl p hp;omega⟩
end Go.Proofs.YtfbegfapoijbnaaGreat
namespace Go.Proofs.YtfbegfapoijbnaaGreat
open Go.RowKit Go.Sort
open Z (Sli SlOk Acd AcdOk AcOwn Ctr ctc)
set_option linter.unusedSimpArgs false in
set_option linter.unusedVariables false in
set_option maxHeartbeats 4000000 in
theorem moved_2n (w:World) (c:Cfg) (cs:List Ctr) (hcf:CfgOk w c cs) (h1t:1≤c.tills) (hcl1:1≤c.cl) (s:Sta) (hs:StaOk w s) (hsh:Shp c s) (o:Stp) (hwy:o.way % 4=2) (hrn:s.rn=0) :
  Calls Tryz.prog 29 #[.agg #[.int .i64 c.tills,.slice c.cp c.cl c.cc,.slice c.pp c.pl c.pc,.int .i64 c.lease,.int .i64 c.watch,.int .i64 c.beat,.int .i64 c.window,.int .i64 c.cap,.int .i64 c.flight],.agg #[.int .u64 s.pos,.slice s.pp s.pn s.pc,.slice s.rp s.rn s.rc,.slice s.lp s.ln s.lc,.slice s.gp s.gn s.gc,.slice s.op s.on s.oc],.agg o.arr] w (MovP w c cs):=by
 obtain⟨O,hO⟩:∃O:Array Value,o.arr=O:=⟨_,rfl⟩
 obtain⟨w2,hw2,hb2,hc2,hs2,ho2,hr2,hsz2⟩:=step_boxes w #[.int .i64 c.tills,.slice c.cp c.cl c.cc,.slice c.pp c.pl c.pc,.int .i64 c.lease,.int .i64 c.watch,.int .i64 c.beat,.int .i64 c.window,.int .i64 c.cap,.int .i64 c.flight] #[.int .u64 s.pos,.slice s.pp s.pn s.pc,.slice s.rp s.rn s.rc,.slice s.lp s.ln s.lc,.slice s.gp s.gn s.gc,.slice s.op s.on s.oc] O #[.int .u64 0,.slice none 0 0,.slice none 0 0,.slice none 0 0,.slice none 0 0,.slice none 0 0] 45
 have HW2:=hide hw2
 have HCf:=hide hcf
 have HSh:=hide hsh
 have HSm:=hide (shp_sm hcf hsh)
 have h0:(0:Int)<c.tills:=by omega
 have ht0:0≤o.till % c.tills∧o.till % c.tills<c.tills:=⟨Int.emod_nonneg _ (by omega),Int.emod_lt_of_pos _ h0⟩
 obtain⟨t,ht⟩:∃t:Nat,o.till % c.tills=(t:Int):=⟨(o.till % c.tills).toNat,by omega⟩
 rw[ht]at ht0
 have h0c:(0:Int)<(c.cl:Int):=by omega
 have hi0:0≤o.what % (c.cl:Int)∧o.what % (c.cl:Int)<(c.cl:Int):=⟨Int.emod_nonneg _ (by omega),Int.emod_lt_of_pos _ h0c⟩
 obtain⟨k,hk⟩:∃t:Nat,o.what % (c.cl:Int)=(t:Int):=⟨(o.what % (c.cl:Int)).toNat,by omega⟩
 rw[hk]at hi0
 have htm:=hcf.tills
 have hcm:=hcf.cl
 have HWt:Hid (∀W,Calls Tryz.prog 7 #[.int .i64 o.till,.int .i64 c.tills] W fun e w'=>e=.returned (.int .i64 (t:Int))∧w'=W):=fun W=>by
  have h:=Z.within_any W (o.till) (c.tills) (by omega) (by omega)
  rw[ht]at h
  exact h
 have HWi:Hid (∀W,Calls Tryz.prog 7 #[.int .i64 o.what,.int .i64 (c.cl:Int)] W fun e w'=>e=.returned (.int .i64 (k:Int))∧w'=W):=fun W=>by
  have h:=Z.within_any W (o.what) ((c.cl:Int)) (by omega) (by omega)
  rw[hk]at h
  exact h
 have HWw:Hid (∀W,Calls Tryz.prog 7 #[.int .i64 o.way,.int .i64 4] W fun e w'=>e=.returned (.int .i64 2)∧w'=W):=fun W=>by
  have h:=Z.within_any W (o.way) (4) (by omega) (by omega)
  rw[hwy]at h
  exact h
 have HCs:=hide (copyState_any w2 s (hs.below hb2) (shp_sm hcf hsh))
 have HOc:Hid (∀W:World,W.heap[w.heap.size+1+1]?=some (.cells O 58 (0,0))→W.cell? ⟨w.heap.size+1+1,16,none⟩=some (.int .i64 o.what)∧W.cell? ⟨w.heap.size+1+1,17,none⟩=some (.int .i64 o.way)∧W.cell? ⟨w.heap.size+1+1,18,none⟩=some (.int .i64 o.till)∧W.cell? ⟨w.heap.size+1+1,19,none⟩=some (.int .i64 o.n)):=fun W h=>by
  refine⟨?_,?_,?_,?_⟩ <;> · rw[cell_of_row _ _ _ _ _ _ h,←hO];rfl
 have HB2:=hide hb2
 obtain⟨c0,c1,c2,c3,c4,c5⟩:=ac6 hs2
 have HPre:Hid (∀w4 tb (r0:Sta),Below w2.heap.size w2 w4→w4.heap[tb]?=some (.cells r0.arr 45 (0,0))→w2.heap.size≤tb→StaOw w2.heap.size w4 r0→Mvd w w4 #[.int .i64 c.tills,.slice c.cp c.cl c.cc,.slice c.pp c.pl c.pc,.int .i64 c.lease,.int .i64 c.watch,.int .i64 c.beat,.int .i64 c.window,.int .i64 c.cap,.int .i64 c.flight] #[.int .u64 s.pos,.slice s.pp s.pn s.pc,.slice s.rp s.rn s.rc,.slice s.lp s.ln s.lc,.slice s.gp s.gn s.gc,.slice s.op s.on s.oc] O tb r0):=fun w4 tb r0 hb ht hlt ho=>⟨(hb.block _ (ac_lt hc2)).trans hc2,(hb.block _ (ac_lt hs2)).trans hs2,(hb.block _ (ac_lt ho2)).trans ho2,(hb.block _ (ac_lt hr2)).trans hr2,ht,by omega,by rw[←hsz2];exact ho,hb2.trans (hb.mono hb2.size)⟩
 have HRn:=hide hrn
 clear hrn
 have HSk:=hide (hs.below hb2)
 have HT:=hide ht
 have HK:=hide hk
 rw[hO]
 clear hO hw2 hb2 hc2 hs2 ho2 hr2 hs hcf h0 h0c ht hk hwy
 go_enter Tryz.func29,Tryz.ntmps29
 go_upto_region 1 with (fail)
 rw[HW2.out]
 go_upto_region 2 with (first | (go_at_call 55;refine HCs.out.mono ?_;rintro e1 w3 ⟨r0,rfl,hd0,ho0,hb3⟩;have HD0:=hide hd0;have HO0:=hide ho0;have HB3:=hide hb3;have HSt:=hide (run_storeAt_new (P:=Tryz.prog) w3 45 #[.int .u64 0,.slice none 0 0,.slice none 0 0,.slice none 0 0,.slice none 0 0,.slice none 0 0] r0.arr Tryz.sizeS rfl (by simp[Sta.arr,Value.oneCell']));clear hd0 ho0 hb3 c0 c1 c2 c3 c4 c5) | ((with_reducible show wpList _ _ _ (⟨_,.store 45 (.tmp 8) _,_,_,_,_⟩ :: _) _ _);refine Z.lp_store (t:=45) (x:=.tmp 8) (some ⟨w3.heap.size,0,none⟩) (.agg r0.arr) rfl rfl HSt.out ?_))
 have hT4:=heap_alloc_new w3 (.cells r0.arr 45)
 have hb4:Below w3.heap.size w3 (w3.alloc (.cells r0.arr 45)):=(Below.refl _ _).alloc (Nat.le_refl _) _
 have HSr:Hid (Shp c r0):=shp_of HSh.out HSk.out HO0.out HD0.out
 have HM4:=hide (HPre.out _ _ r0 (HB3.out.trans (hb4.mono HB3.out.size)) hT4 HB3.out.size (HO0.out.below hb4))
 obtain⟨w4,hw4⟩:∃W,w3.alloc (.cells r0.arr 45)=W:=⟨_,rfl⟩
 rw[hw4]at HM4 ⊢
 obtain⟨tb,htb⟩:∃k,w3.heap.size=k:=⟨_,rfl⟩
 rw[htb]at HM4 ⊢
 clear hw4 htb hT4 hb4 HPre HSt
 obtain⟨t0,t1,t2,t3,t4,t5⟩:=ac6 HM4.out.xb
 obtain⟨d0,d1,-,-,-,-,-,-,-⟩:=ac9 HM4.out.cb
 obtain⟨o0,o1,o2,o3⟩:=HOc.out w4 HM4.out.ob
 go_upto_region 3 with (first | (go_at_call 7;refine(HWt.out _).mono ?_;rintro e w9 ⟨rfl,h9⟩;rw[h9];clear h9 w9) | fail)
 go_upto_region 4 with (first | (go_at_call 7;refine(HWi.out _).mono ?_;rintro e w9 ⟨rfl,h9⟩;rw[h9];clear h9 w9) | fail)
 have hz:r0.rn=0:=by have h1:=HSr.out.rn;have h2:=HSh.out.rn;have h3:=HRn.out;omega
 rw[hz]at t2
 clear hz
 go_upto_region 17 with (first | (go_at_call 7;refine(HWw.out _).mono ?_;rintro e w9 ⟨rfl,h9⟩;rw[h9];clear h9 w9) | fail)
 have HMe:=HM4
 have HShe:=HSr
 clear t0 t1 t2 t3 t4 t5 d0 d1 o0 o1 o2 o3
 have HMd:Hid (Mvd w w4.drew #[.int .i64 c.tills,.slice c.cp c.cl c.cc,.slice c.pp c.pl c.pc,.int .i64 c.lease,.int .i64 c.watch,.int .i64 c.beat,.int .i64 c.window,.int .i64 c.cap,.int .i64 c.flight] #[.int .u64 s.pos,.slice s.pp s.pn s.pc,.slice s.rp s.rn s.rc,.slice s.lp s.ln s.lc,.slice s.gp s.gn s.gc,.slice s.op s.on s.oc] O tb r0):=HMe.out.below ((Below.refl _ _).drew)
 have HRt:=hide (rright_state w4.drew c cs r0 (HCf.out.below HMd.out.bel) HMd.out.own.ok (shp_sm HCf.out HShe.out))
 refine wp_region_noPanic ?_
 refine wp_region_held_drew (S:=(fun W=>W.heap[tb]?=some (.cells #[.int .u64 r0.pos,.slice r0.pp r0.pn r0.pc,.slice r0.rp r0.rn r0.rc,.slice r0.lp r0.ln r0.lc,.slice r0.gp r0.gn r0.gc,.slice r0.op r0.on r0.oc] 45 (0,0))∧W.heap[w.heap.size]?=some (.cells #[.int .i64 c.tills,.slice c.cp c.cl c.cc,.slice c.pp c.pl c.pc,.int .i64 c.lease,.int .i64 c.watch,.int .i64 c.beat,.int .i64 c.window,.int .i64 c.cap,.int .i64 c.flight] 37 (0,0)))) (by kernel_rfl) ⟨HMd.out.xb,HMd.out.cb⟩ (fun hHeld=>?_)
 refine wpAnyH_take (i:=0) (oi:=_) (v:=.agg #[.int .u64 r0.pos,.slice r0.pp r0.pn r0.pc,.slice r0.rp r0.rn r0.rc,.slice r0.lp r0.ln r0.lc,.slice r0.gp r0.gn r0.gc,.slice r0.op r0.on r0.oc]) rfl (by kernel_rfl) (by kernel_rfl) (by kernel_rfl) (fun _ _ _ h=>h) (Or.inl ⟨by kernel_rfl,fun W hW=>ex_loadw W 45 (.tmp 8) rfl (tb) #[.int .u64 r0.pos,.slice r0.pp r0.pn r0.pc,.slice r0.rp r0.rn r0.rc,.slice r0.lp r0.ln r0.lc,.slice r0.gp r0.gn r0.gc,.slice r0.op r0.on r0.oc] rfl (Z.loadAt_row (P:=Tryz.prog) (ty:=45) hW.1 Tryz.underlying45 rfl Tryz.sizeS)⟩) hHeld ?_
 try simp only[Act.put,qzg,qzh,qzi,qzs,qz0,qz1]
 refine wpAnyH_take (i:=1) (oi:=_) (v:=.agg #[.int .i64 c.tills,.slice c.cp c.cl c.cc,.slice c.pp c.pl c.pc,.int .i64 c.lease,.int .i64 c.watch,.int .i64 c.beat,.int .i64 c.window,.int .i64 c.cap,.int .i64 c.flight]) rfl (by kernel_rfl) (by kernel_rfl) (by kernel_rfl) (fun _ _ _ h=>h) (Or.inl ⟨by kernel_rfl,fun W hW=>ex_loadw W 37 (.tmp 3) rfl (w.heap.size) #[.int .i64 c.tills,.slice c.cp c.cl c.cc,.slice c.pp c.pl c.pc,.int .i64 c.lease,.int .i64 c.watch,.int .i64 c.beat,.int .i64 c.window,.int .i64 c.cap,.int .i64 c.flight] rfl (Z.loadAt_row (P:=Tryz.prog) (ty:=37) hW.2 Tryz.underlying37 rfl Tryz.sizeC)⟩) hHeld ?_
 try simp only[Act.put,qzg,qzh,qzi,qzs,qz0,qz1]
 refine wpAnyH_take (i:=2) (oi:=_) (v:=.agg #[.int .u64 r0.pos,.slice r0.pp r0.pn r0.pc,.slice r0.rp r0.rn r0.rc,.slice r0.lp r0.ln r0.lc,.slice r0.gp r0.gn r0.gc,.slice r0.op r0.on r0.oc]) rfl (by kernel_rfl) (by kernel_rfl) (by kernel_rfl) (fun _ _ _ h=>h) (Or.inl ⟨by kernel_rfl,fun W hW=>ex_loadw W 45 (.tmp 8) rfl (tb) #[.int .u64 r0.pos,.slice r0.pp r0.pn r0.pc,.slice r0.rp r0.rn r0.rc,.slice r0.lp r0.ln r0.lc,.slice r0.gp r0.gn r0.gc,.slice r0.op r0.on r0.oc] rfl (Z.loadAt_row (P:=Tryz.prog) (ty:=45) hW.1 Tryz.underlying45 rfl Tryz.sizeS)⟩) hHeld ?_
 try simp only[Act.put,qzg,qzh,qzi,qzs,qz0,qz1]
 refine rdy 3 (fun KK hKK=>?_)
 go_simp
 (go_at_call 59;refine HRt.out.mono ?_;rintro e1 w8 ⟨⟨b,rfl,hbI⟩,hb8⟩;have HM8:Hid (Mvd w w8 #[.int .i64 c.tills,.slice c.cp c.cl c.cc,.slice c.pp c.pl c.pc,.int .i64 c.lease,.int .i64 c.watch,.int .i64 c.beat,.int .i64 c.window,.int .i64 c.cap,.int .i64 c.flight] #[.int .u64 s.pos,.slice s.pp s.pn s.pc,.slice s.rp s.rn s.rc,.slice s.lp s.ln s.lc,.slice s.gp s.gn s.gc,.slice s.op s.on s.oc] O tb r0):=HMd.out.below hb8;have HbI:=hide hbI;clear hb8 hbI)
 refine hKK.out _ _ (by(try dsimp only);exact⟨HM8.out.xb,HM8.out.cb⟩) (fun hHeld=>?_)
 clear hKK KK
 try simp only[Act.put,qzg,qzh,qzi,qzs,qz0,qz1]
 refine rdy 4 (fun KK hKK=>?_)
 rw[if_pos (by kernel_rfl)]
 refine wp_store_row 45 (.tmp 6) (.tmp 130) rfl (w.heap.size+1+1+1) #[.int .u64 r0.pos,.slice r0.pp r0.pn r0.pc,.slice r0.rp r0.rn r0.rc,.slice r0.lp r0.ln r0.lc,.slice r0.gp r0.gn r0.gc,.slice r0.op r0.on r0.oc] rfl rfl 45 #[.int .u64 0,.slice none 0 0,.slice none 0 0,.slice none 0 0,.slice none 0 0,.slice none 0 0] HM8.out.rb Tryz.sizeS rfl (by simp[Value.oneCell']) ?_
 refine hKK.out _ _ (by(try dsimp only);exact⟨(setRow_other _ _ _ _ (by have:=HM8.out.tlt;omega)).trans HM8.out.xb,(setRow_other _ _ _ _ (by omega)).trans HM8.out.cb⟩) (fun hHeld=>?_)
 clear hKK KK
 try simp only[Act.put,qzg,qzh,qzi,qzs,qz0,qz1]
 refine rdy 5 (fun KK hKK=>?_)
 go_simp
 refine hKK.out _ _ (by(try dsimp only);exact⟨(setRow_other _ _ _ _ (by have:=HM8.out.tlt;omega)).trans HM8.out.xb,(setRow_other _ _ _ _ (by omega)).trans HM8.out.cb⟩) (fun hHeld=>?_)
 clear hKK KK
 try simp only[Act.put,qzg,qzh,qzi,qzs,qz0,qz1]
 refine wpAnyH_done (by kernel_rfl) (NoPanic.normal ?_) _
 go_wp2
 refine bodyPost_ret (res_et rfl rfl (HM8.out.told _).1 Tryz.underlying45 rfl Tryz.sizeS) rfl ?_
 exact⟨_,b,rfl,rfl,by simp[Value.oneCell'],fun h=>⟨r0,rfl,(HM8.out.told _).2.1,HbI.out.1 h⟩,(HM8.out.told _).2.2⟩
end Go.Proofs.YtfbegfapoijbnaaGreat
