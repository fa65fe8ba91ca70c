import Derived.Laws.ResultCell
import Derived.Test.YtiogibfhafoapaaGreatDcI
import Derived.Test.YtiogibfhafoapaaGreatRwK
import Derived.Test.YtiogibfhafoapaaGreatAbZ
import Derived.Test.YtiogibfhafoapaaGreatTk
import Derived.Test.YtiogibfhafoapaaGreatFoB
import Derived.Test.YtiogibfhafoapaaGreatZEx
import Derived.Test.YtiogibfhafoapaaGreatEfE
import Derived.Test.YtiogibfhafoapaaGreatAbE
set_option maxRecDepth 100000
set_option maxHeartbeats 8000000
set_option linter.unusedSimpArgs false
set_option linter.unusedVariables false
namespace Go.Proofs.YtiogibfhafoapaaGreat
open Go.RowKit
open Z (Sli QaE Acd Qad Eda QaP AcOwn)
theorem QaY {P:Program} {fn:Func} {w:World} {p u:Tmp} {ty:TypeId} {tmps:Array Value} {g:Nat} {t:TypeId} {cs:Array Value} {fr:Nat × Nat} {d:TypeDesc} (h:fn.results=#[.cell p ty,.tmp u])
  (hp:tmps.getD p undef=.pointer (some ⟨g,0,none⟩)) (hg:w.heap[g]?=some (.cells cs t fr))
  (hu:P.underlying ty=some d) (hd:(match d with | .struct _ | .array _ _=>true | _=>false)=true) (hi:(P.info? ty).map (·.size)=some cs.size) :
  (results fn tmps).run P w=.ok (.tuple #[.agg cs,tmps.getD u undef]) w:=by
 rw[results_cell_tmp h,hp];simp[asAddr,Result.andThen,run_loadVar_row w g t ty cs fr d hg hu hd hi]
def QiT:Acd:=⟨0,0,0,false,⟨none,0,0,[]⟩,⟨none,0,0,[]⟩,⟨none,0,0,[]⟩,0,⟨none,0,0,[]⟩,0,0,0,0,0,⟨none,0,0,[]⟩⟩
def Qdk (po till g:Int):Eda:=⟨po,QiT,0,⟨none,0,0,[]⟩,⟨none,0,0,[]⟩,0,till,g⟩
theorem QiI (po till g:Int):Tryz.prog.built 136 [(0,.int .u64 po),(6,.int .i64 till),(7,.int .u64 g)]=some (Qdk po till g).arr:=by kernel_rfl
theorem QdI:Tryz.prog.built 136 []=some (Qdk 0 0 0).arr:=by kernel_rfl
theorem Qe0 (w:World) (po till g:Int):QaP w (Qdk po till g):=⟨⟨QaM _ _ _,QaM _ _ _,QaM _ _ _,QaM _ _ _,QaM _ _ _⟩,QaM _ _ _,QaM _ _ _,fun _ h=>by cases h⟩
def Qd7 (tills:Int) (s:Sta) (till:Int):Prop:=0≤till∧till<tills∧Qai s.owed false till=false∧Qai s.gen 0 till<1099511627776
def FenP (w:World) (tills:Int) (s:Sta) (till:Int) (e:Ending) (w':World):Prop:=∃(E:Eda) (b:Bool),e=.returned (.tuple #[.agg E.arr,.bool b])∧QaP w' E∧(b=true↔Qd7 tills s till)∧(b=true→E.dd=(IntKind.u64.wrap (s.pos+1),QiT.d,0,[],[],0,till,IntKind.u64.wrap (Qai s.gen 0 till+1)))∧Below w.heap.size w w'
theorem QiX (w:World) (C S E:Array Value):∃w2,((w.alloc (.cells C 34)).alloc (.cells S 42)).alloc (.cells E 136)=w2∧Below w.heap.size w w2∧w2.heap[w.heap.size]?=some (.cells C 34 (0,0))∧w2.heap[w.heap.size+1]?=some (.cells S 42 (0,0))∧w2.heap[w.heap.size+1+1]?=some (.cells E 136 (0,0)):=by
 refine⟨_,rfl,(((Below.refl _ w).alloc (Va _) _).alloc (by simp) _).alloc (by simp;omega) _,?_,?_,?_⟩
 ·rw[Vc _ _ _ (by simp only[Vm];omega),Vc _ _ _ (by simp)];exact hNq _ _
 ·rw[Vc _ _ _ (by simp)];exact VV _ _ _
 ·have h:=hNq ((w.alloc (.cells C 34)).alloc (.cells S 42)) (.cells E 136)
  simp only[Vm]at h;exact h
theorem Qeq (w:World) (c:Cfg) (s:Sta) (hs:Qae w s) (hgn:c.tills≤(s.gn:Int)) (hon:c.tills≤(s.on:Int)) (till:Int) :
  Calls Tryz.prog 46 #[.agg (qC c),.agg (qS s),.int .i64 till] w (FenP w c.tills s till):=by
 obtain⟨w2,hw2,hb2,hx2,hy2,hz2⟩:=QiX w (qC c) (qS s) qe;obtain⟨HW2,HB2,HZ2⟩:=Qmk hw2 hb2 hz2;obtain⟨d0,d1,d2,d3,d4,d5,d6,d7,d8⟩:=ac9 hx2;obtain⟨c0,c1,c2,c3,c4,c5⟩:=ac6 hy2;have HS:=Qaa (hs.below hb2);have hs0:=hs;have hlt:=Qab hz2;clear hw2 hb2 hx2 hy2 hz2 hs;by_cases q1:till<0
 ·skip
  have hno:Hid (¬Qd7 c.tills s till):=by show ¬_;intro h;exact absurd h.1 (by omega)
  obtain⟨Ev,hEv⟩:=exq ((Qdk 0 0 0).arr);have HEv:=Qaa hEv;clear hEv;have hEz:Ev.size=22:=by rw[←HEv.out];rfl
  have hEo:Ev.all (·.oneCell')=true:=by rw[←HEv.out];exact Z.Eda.ones _
  have HSt:=Qaa (Z.storeAt_row (P:=Tryz.prog) (c':=Ev) HZ2.out (by rw[hEz];exact Tryz.sizeE) (by rw[hEz];rfl) hEo);have HRw:=Qaa (VB _ _ _ Ev _ _ HZ2.out);have HBt:=Qaa (QdI.trans (Vl some HEv.out));clear hEz hEo;go_enter Tryz.func46,Tryz.ntmps46;go_upto_region 1 with (fail);rw[HW2.out];go_wp2_with (first | ((with_reducible show wpList _ _ _ (⟨_,.build _ _,_,_,_,_⟩ :: _) _ _);refine Z.lp_built rfl 136 _ rfl [] rfl Ev HBt.out ?_) | ((with_reducible refine gsq 136 6 ?_);refine Z.lp_store (t:=136) (x:=.tmp 6) (some ⟨w.heap.size+1+1,0,none⟩) (.agg Ev) rfl rfl HSt.out ?_))
  refine Vg (QaY rfl rfl HRw.out Tryz.underlying136 rfl (by rw[←HEv.out];exact Tryz.sizeE)) rfl ?_;exact⟨(Qdk 0 0 0),false,by rw[HEv.out];rfl,Qe0 _ _ _ _,⟨fun h=>(by cases h),fun h=>absurd h hno.out⟩,fun h=>(by cases h),VA HB2.out (by omega) _⟩
 by_cases q2:c.tills≤till
 ·skip
  have hno:Hid (¬Qd7 c.tills s till):=by show ¬_;intro h;have:=h.2.1;omega
  obtain⟨Ev,hEv⟩:=exq ((Qdk 0 0 0).arr);have HEv:=Qaa hEv;clear hEv;have hEz:Ev.size=22:=by rw[←HEv.out];rfl
  have hEo:Ev.all (·.oneCell')=true:=by rw[←HEv.out];exact Z.Eda.ones _
  have HSt:=Qaa (Z.storeAt_row (P:=Tryz.prog) (c':=Ev) HZ2.out (by rw[hEz];exact Tryz.sizeE) (by rw[hEz];rfl) hEo);have HRw:=Qaa (VB _ _ _ Ev _ _ HZ2.out);have HBt:=Qaa (QdI.trans (Vl some HEv.out));clear hEz hEo;go_enter Tryz.func46,Tryz.ntmps46;go_upto_region 1 with (fail);rw[HW2.out];go_wp2_with (first | ((with_reducible show wpList _ _ _ (⟨_,.build _ _,_,_,_,_⟩ :: _) _ _);refine Z.lp_built rfl 136 _ rfl [] rfl Ev HBt.out ?_) | ((with_reducible refine gsq 136 6 ?_);refine Z.lp_store (t:=136) (x:=.tmp 6) (some ⟨w.heap.size+1+1,0,none⟩) (.agg Ev) rfl rfl HSt.out ?_))
  refine Vg (QaY rfl rfl HRw.out Tryz.underlying136 rfl (by rw[←HEv.out];exact Tryz.sizeE)) rfl ?_;exact⟨(Qdk 0 0 0),false,by rw[HEv.out];rfl,Qe0 _ _ _ _,⟨fun h=>(by cases h),fun h=>absurd h hno.out⟩,fun h=>(by cases h),VA HB2.out (by omega) _⟩
 obtain⟨t,rfl⟩:∃t:Nat,till=(t:Int):=⟨till.toNat,by omega⟩;obtain⟨g,hg⟩:∃g,s.gen[t]?=some g:=⟨_,gE (by rw[HS.out.gn];omega)⟩;obtain⟨ow,how⟩:∃g,s.owed[t]?=some g:=⟨_,gE (by rw[HS.out.on];omega)⟩;obtain⟨gb,go,eg,hgb,hgc⟩:=HS.out.gen.get (i:=t) (r:=uc g) (by rw[Vb,hg];rfl);obtain⟨ob,oo,eo,hob,hoc⟩:=HS.out.owed.get (i:=t) (r:=QdE ow) (by rw[Vb,how];rfl);have v1:=(Qbe (z:=(0:Int)) hg).2;have v2:=(Qbe (z:=false) how).2;have e0:=hgc 0 _ rfl;have e1:=hoc 0 _ rfl;rw[Nat.mul_one,Vr]at e0 e1;have eg0:=eg;rw[eg]at c4;rw[eo]at c5;have k1:(t:Int)<(s.gn:Int):=by omega
 have k2:(t:Int)<(s.on:Int):=by omega
 have k0:(0:Int)≤(t:Int):=by omega
 have HGl:Hid (gb<w.heap.size):=by obtain⟨b2,o2,e2,h2,_⟩:=hs0.gen.get (i:=t) (r:=uc g) (by rw[Vb,hg];rfl);rw[eg0]at e2;cases e2;exact h2
 clear hgc hoc hg how hgb hob eg eo eg0 hs0
 cases ow with
 | true =>
  have hno:Hid (¬Qd7 c.tills s t):=by show ¬_;intro h;have:=h.2.2.1;rw[v2]at this;cases this
  clear v1 v2;obtain⟨Ev,hEv⟩:=exq ((Qdk 0 0 0).arr);have HEv:=Qaa hEv;clear hEv;have hEz:Ev.size=22:=by rw[←HEv.out];rfl
  have hEo:Ev.all (·.oneCell')=true:=by rw[←HEv.out];exact Z.Eda.ones _
  have HSt:=Qaa (Z.storeAt_row (P:=Tryz.prog) (c':=Ev) HZ2.out (by rw[hEz];exact Tryz.sizeE) (by rw[hEz];rfl) hEo);have HRw:=Qaa (VB _ _ _ Ev _ _ HZ2.out);have HBt:=Qaa (QdI.trans (Vl some HEv.out));clear hEz hEo;go_enter Tryz.func46,Tryz.ntmps46;go_upto_region 1 with (fail);rw[HW2.out];go_wp2_with (first | ((with_reducible show wpList _ _ _ (⟨_,.build _ _,_,_,_,_⟩ :: _) _ _);refine Z.lp_built rfl 136 _ rfl [] rfl Ev HBt.out ?_) | ((with_reducible refine gsq 136 6 ?_);refine Z.lp_store (t:=136) (x:=.tmp 6) (some ⟨w.heap.size+1+1,0,none⟩) (.agg Ev) rfl rfl HSt.out ?_))
  refine Vg (QaY rfl rfl HRw.out Tryz.underlying136 rfl (by rw[←HEv.out];exact Tryz.sizeE)) rfl ?_;exact⟨(Qdk 0 0 0),false,by rw[HEv.out];rfl,Qe0 _ _ _ _,⟨fun h=>(by cases h),fun h=>absurd h hno.out⟩,fun h=>(by cases h),VA HB2.out (by omega) _⟩
 | false =>
  by_cases q4:1099511627776≤g
  ·have hno:Hid (¬Qd7 c.tills s t):=by show ¬_;intro h;have:=h.2.2.2;rw[v1]at this;omega
   clear v1 v2;obtain⟨Ev,hEv⟩:=exq ((Qdk 0 0 0).arr);have HEv:=Qaa hEv;clear hEv;have hEz:Ev.size=22:=by rw[←HEv.out];rfl
   have hEo:Ev.all (·.oneCell')=true:=by rw[←HEv.out];exact Z.Eda.ones _
   have HSt:=Qaa (Z.storeAt_row (P:=Tryz.prog) (c':=Ev) HZ2.out (by rw[hEz];exact Tryz.sizeE) (by rw[hEz];rfl) hEo);have HRw:=Qaa (VB _ _ _ Ev _ _ HZ2.out);have HBt:=Qaa (QdI.trans (Vl some HEv.out));clear hEz hEo;go_enter Tryz.func46,Tryz.ntmps46;go_upto_region 1 with (fail);rw[HW2.out];go_wp2_with (first | ((with_reducible show wpList _ _ _ (⟨_,.build _ _,_,_,_,_⟩ :: _) _ _);refine Z.lp_built rfl 136 _ rfl [] rfl Ev HBt.out ?_) | ((with_reducible refine gsq 136 6 ?_);refine Z.lp_store (t:=136) (x:=.tmp 6) (some ⟨w.heap.size+1+1,0,none⟩) (.agg Ev) rfl rfl HSt.out ?_))
   refine Vg (QaY rfl rfl HRw.out Tryz.underlying136 rfl (by rw[←HEv.out];exact Tryz.sizeE)) rfl ?_;exact⟨(Qdk 0 0 0),false,by rw[HEv.out];rfl,Qe0 _ _ _ _,⟨fun h=>(by cases h),fun h=>absurd h hno.out⟩,fun h=>(by cases h),VA HB2.out (by omega) _⟩
  have HOkF:Hid (Qd7 c.tills s t):=⟨by omega,by omega,v2,by rw[v1];omega⟩;obtain⟨po,hpo⟩:=exq (IntKind.u64.wrap (s.pos+1));obtain⟨ge,hge⟩:=exq (IntKind.u64.wrap (g+1));obtain⟨HV1,HPo,HGe⟩:=Qmk v1 hpo hge;clear v1 v2;obtain⟨Ev,hEv⟩:=exq ((Qdk po t ge).arr);have HEv:=Qaa hEv;clear hEv;have hEz:Ev.size=22:=by rw[←HEv.out];rfl
  have hEo:Ev.all (·.oneCell')=true:=by rw[←HEv.out];exact Z.Eda.ones _
  have HSt:=Qaa (Z.storeAt_row (P:=Tryz.prog) (c':=Ev) (show w2.drew.heap[w.heap.size+1+1]?=some (.cells qe 136 (0,0)) from HZ2.out) (by rw[hEz];exact Tryz.sizeE) (by rw[hEz];rfl) hEo);have HRw:=Qaa (VB _ _ _ Ev _ _ (show w2.drew.heap[w.heap.size+1+1]?=some (.cells qe 136 (0,0)) from HZ2.out));obtain⟨hEz2,hEo2⟩:=Qmj hEz hEo;clear hEz hEo;go_enter Tryz.func46,Tryz.ntmps46;go_upto_region 1 with (fail);rw[HW2.out];go_upto_region 3 with (fail);refine Vi ?_;refine Vf (S:=(fun W=>W.cell? ⟨w.heap.size+1,0,none⟩=some (.int .u64 s.pos)∧W.cell? ⟨w.heap.size+1,4,none⟩=some (.slice (some ⟨gb,go,none⟩) s.gn s.gc)∧W.cell? ⟨gb,go+t,none⟩=some (.int .u64 g))) (by kernel_rfl) (by go_keep) (fun hHeld=>?_);refine tkg 0 ?_;refine tkg 1 ?_;refine tkg 2 ?_;refine tkg 3 ?_;refine tkg 4 ?_;refine tkg 5 ?_;refine tkg 6 ?_;refine tkg 7 ?_;refine tkg 8 ?_;refine tkg 9 ?_;refine VM (i:=10) (oi:=_) (v:=.agg Ev) rfl (by kernel_rfl) (by kernel_rfl) (by kernel_rfl) (fun _ _ _ h=>h) (Or.inl ⟨by kernel_rfl,fun w9 _=>QeP w9 136 _ rfl [(0,.int .u64 po),(6,.int .i64 t),(7,.int .u64 ge)] rfl Ev (by rw[←HEv.out];exact QiI po t ge)⟩) (by assumption) ?_;try simp only[Act.put,qzg,qzh,qzi,qzs,qz0,qz1]
  have hz9:w2.drew.heap[w.heap.size+1+1]?=some (.cells qe 136 (0,0)):=HZ2.out;have n1:¬gb=w.heap.size+1+1:=by intro h;subst h;have h1:=World.block_lt_of_cell? _ _ e0;have h2:=HGl.out;omega
  have s0:(w2.drew.setRow (w.heap.size+1+1) Ev).cell? ⟨w.heap.size+1,0,none⟩=some (.int .u64 s.pos):=by rw[VC (w:=w2) (Vz w2.drew _ _ _ (by show w.heap.size+1≠w.heap.size+1+1;omega))];exact c0
  have s4:(w2.drew.setRow (w.heap.size+1+1) Ev).cell? ⟨w.heap.size+1,4,none⟩=some (.slice (some ⟨gb,go,none⟩) s.gn s.gc):=by rw[VC (w:=w2) (Vz w2.drew _ _ _ (by show w.heap.size+1≠w.heap.size+1+1;omega))];exact c4
  have s5:(w2.drew.setRow (w.heap.size+1+1) Ev).cell? ⟨gb,go+t,none⟩=some (.int .u64 g):=by rw[VC (w:=w2) (Vz w2.drew _ _ _ n1)];exact e0
  refine rdy 11 (fun KK hKK=>?_);rw[if_pos (by kernel_rfl)];refine wp_store_row 136 (.tmp 6) (.tmp 42) rfl (w.heap.size+1+1) Ev rfl rfl 136 qe hz9 (by rw[hEz2.out];exact Tryz.sizeE) (by rw[hEz2.out];rfl) hEo2.out ?_;refine hKK.out _ _ (by(try dsimp only);go_keep) (fun hHeld=>?_);clear hKK KK;try simp only[Act.put,qzg,qzh,qzi,qzs,qz0,qz1]
  refine rdy 12 (fun KK hKK=>?_);go_simp;refine hKK.out _ _ (by(try dsimp only);go_keep) (fun hHeld=>?_);clear hKK KK;try simp only[Act.put,qzg,qzh,qzi,qzs,qz0,qz1]
  refine Vp (by kernel_rfl) (Vj ?_) _;go_wp2;refine Vg (QaY rfl rfl HRw.out Tryz.underlying136 rfl (by rw[←HEv.out];exact Tryz.sizeE)) rfl ?_;exact⟨(Qdk po t ge),true,by rw[HEv.out];rfl,Qe0 _ _ _ _,⟨fun _=>HOkF.out,fun _=>rfl⟩,fun _=>by rw[HV1.out,HPo.out,HGe.out];rfl,VA HB2.out.drew (by omega) _⟩
theorem QdF {α:Type} {f:List α→α→Bool} {xs:List α} (h:Qc5 f xs=true):∀x∈xs,∃l,f l x=true:=by
 intro x hx;obtain⟨i,hi⟩:=List.mem_iff_getElem?.1 hx;have e:xs=xs.take (i+1)++xs.drop (i+1):=(List.take_append_drop _ _).symm
 cases h1:Qc5 f (xs.take (i+1)) with
 | false=>rw[e,Qhb f _ _ h1]at h;cases h
 | true =>
  rw[Z.take_snoc hi,Qct,Vs]at h1;exact⟨_,h1.2⟩
theorem Qg2 {c:Cfg} {s:Sta} (hs:Shp c s) (hcl:c.cl≤4194304) {xs:List Lin} (h:QaK c.cl xs=true):(∀x∈xs,Qaw x)∧∀x∈xs,RgL s x:=by
 unfold QaK at h;simp only[Vs,List.all_eq_true]at h;have hp:=hs.pn
 have one:∀x∈xs,(0≤x.c∧x.c≤(c.cl:Int) - 1)∧¬x.n < -1099511627776∧¬1099511627776<x.n:=fun x hx=>by
  have h1:=h.2 x hx;unfold Qcn at h1;simp at h1;obtain⟨⟨⟨h2,_⟩,h3⟩,h4⟩:=h1;exact⟨⟨h2.1,by omega⟩,by omega,by omega⟩
 refine⟨fun x hx=>?_,fun x hx=>?_⟩
 ·obtain⟨h1,h2,h3⟩:=one x hx
  exact⟨Qb5 (by omega) (by omega),Qb5 (by omega) (by omega)⟩
 ·obtain⟨h1,h2,h3⟩:=one x hx
  exact⟨x.c.toNat,by omega,by omega⟩
theorem QiQ {c:Cfg} {s:Sta} (hs:Shp c s) {xs:List Tri} (h:QbB c.cl c.pl xs=true):∀x∈xs,RgG s x:=fun x hx=>by
 unfold QbB at h;simp only[Vs,List.all_eq_true]at h;have h1:=h.2 x hx;have hp:=hs.pn;have hr:=hs.rn;unfold Qdb at h1;split at h1
 ·rename_i h2
  simp at h1;obtain⟨⟨h3,_⟩,_⟩:=h1;exact Or.inl ⟨h2,x.b.toNat,by omega,by omega⟩
 ·split at h1
  ·rename_i h2
   simp at h1;obtain⟨⟨h3,_⟩,_⟩:=h1;exact Or.inr ⟨h2,x.b.toNat,by omega,by omega⟩
  ·cases h1
theorem Qlf {c:Cfg} {s:Sta} (hs:Shp c s) {lo hi:Int} {xs:List Tri} (h:QbP c.pl lo hi xs=true):∀x∈xs,RgP s x:=fun x hx=>by
 unfold QbP at h;simp only[Vs]at h;obtain⟨l,hl⟩:=QdF h.2 x hx;have hr:=hs.rn;unfold QjA at hl;simp at hl;obtain⟨⟨⟨⟨h1,_⟩,_⟩,_⟩,_⟩:=hl;exact⟨x.a.toNat,by omega,by omega⟩
theorem QeY {c:Cfg} {s:Sta} (hs:Shp c s) {m:Int} {x:Tri} (h:QaX c.cl m x=true):RgT s x:=by
 have hp:=hs.pn;unfold QaX at h;simp at h;obtain⟨⟨⟨h1,h2⟩,_⟩,_⟩:=h;exact⟨⟨x.a.toNat,by omega,by omega⟩,by omega⟩
theorem Qkp {a:Acd} (h:a.d=(QbV a).d) (hk:¬a.kind=1):a.lines.xs=[]∧a.guards.xs=[]∧a.sets.xs=[]∧a.other.xs=[]:=by
 unfold QbV at h;rw[if_neg hk]at h;split at h
 ·simp[Z.Acd.d]at h
  exact⟨h.2.1,h.2.2.1,h.2.2.2.1,h.2.2.2.2.2.1⟩
 ·split at h
  ·simp[Z.Acd.d]at h
   exact⟨h.2.1,h.2.2.1,h.2.2.2.1,h.2.2.2.2.2.1⟩
  ·simp[Z.Acd.d]at h
   exact⟨h.2.1,h.2.2.1,h.2.2.2.1,h.2.2.2.2.2.1⟩
theorem QgA {c:Cfg} {a:Acd} {s:Sta} (h:QcR c a 0) (hs:Shp c s) (hcl:c.cl≤4194304):Qbt s a:=by
 by_cases hK:Qck a
 ·by_cases hH:Qcm c a
  ·have hkd:=hK.1
   obtain⟨⟨t0,t1⟩,_⟩:=hH;have hgn:=hs.gn;have hon:=hs.on;have htill:∃t:Nat,a.till=(t:Int)∧RgH s t∧t<s.gn∧t<s.on:=⟨a.till.toNat,by omega,fun p hp=>by have:=hs.hl p hp;omega,by omega,by omega⟩;by_cases h1:a.kind=1
   ·have hw:=h.write hK ⟨⟨t0,t1⟩,by assumption⟩ h1
    unfold QbT at hw;by_cases g1:(!QaK c.cl a.lines.xs || decide (a.lines.xs.length+a.sets.xs.length=0))=true
    ·rw[if_pos g1]at hw;omega
    rw[if_neg g1]at hw;by_cases g2:(!QbB c.cl c.pl a.guards.xs)=true
    ·rw[if_pos g2]at hw;omega
    rw[if_neg g2]at hw;by_cases g3:(!QbP c.pl (-1) (if a.mg=1 then 1099511627776 else -1) a.sets.xs)=true
    ·rw[if_pos g3]at hw;omega
    rw[if_neg g3]at hw;by_cases g4:(!Qce c.cl a)=true
    ·rw[if_pos g4]at hw;omega
    have l1:QaK c.cl a.lines.xs=true:=by simp at g1;exact g1.1
    have l2:QbB c.cl c.pl a.guards.xs=true:=by simpa using g2
    have l3:QbP c.pl (-1) (if a.mg=1 then 1099511627776 else -1) a.sets.xs=true:=by simpa using g3
    have l4:Qce c.cl a=true:=by simpa using g4
    have lo:(∀x∈a.other.xs,Qaw x)∧∀x∈a.other.xs,RgL s x:=by
     unfold Qce at l4;rw[Vs]at l4;have l5:=l4.1;split at l5
     ·have e:a.other.xs=[]:=List.eq_nil_of_length_eq_zero (by simpa using l5)
      rw[e];exact⟨fun _ h=>(by cases h),fun _ h=>(by cases h)⟩
     ·split at l5
      ·rw[Vs]at l5
       exact Qg2 hs hcl l5.2
      ·cases l5
    obtain⟨b1,b2⟩:=Qg2 hs hcl l1;exact⟨⟨b1,b2,QiQ hs l2,Qlf hs l3,lo.1,lo.2⟩,hkd,htill,fun _ _=>by omega,fun h=>by omega,fun h=>by omega⟩
   ·have hr:=h.rest hK ⟨⟨t0,t1⟩,by assumption⟩ h1
    have hg:Qa8 c a=true:=by
     cases hb:Qa8 c a with
     | true=>rfl
     | false=>rw[hb]at hr;simp at hr
    obtain⟨n1,n2,n3,n4⟩:=Qkp hK.2 h1;refine⟨⟨by rw[n1];exact fun _ h=>(by cases h),by rw[n1];exact fun _ h=>(by cases h),by rw[n2];exact fun _ h=>(by cases h),by rw[n3];exact fun _ h=>(by cases h),by rw[n4];exact fun _ h=>(by cases h),by rw[n4];exact fun _ h=>(by cases h)⟩,hkd,htill,fun q1 q2=>?_,fun q=>?_,fun q=>?_⟩
    ·unfold Qa8 at hg
     split at hg
     ·simp only[Vs]at hg
      exact QeY hs hg.1.1
     ·split at hg
      ·omega
      ·exact QeY hs hg
    ·unfold Qa8 at hg
     rw[if_pos q]at hg;simp at hg;obtain⟨⟨_,q2⟩,_⟩:=hg;exact⟨a.to.toNat,by omega,fun p hp=>by have:=hs.hl p hp;omega⟩
    ·unfold Qa8 at hg
     rw[if_neg (by omega),if_pos q]at hg;simp only[Vs]at hg;unfold Qcg at hg;intro x hx;obtain⟨l,hl⟩:=QdF hg.2 x hx;rw[Vs]at hl;exact QeY hs hl.1
  ·have:=h.head hK hH;omega
 ·have:=h.kind hK;omega
theorem Qc2 {c:Cfg} {s r:Sta} {B:Nat} {w:World} (hs:Shp c s) (hok:Qae w s) {w':World} (hr:Qac B w' r) (hd:r.d=s.d):Shp c r:=by
 unfold Sta.d at hd;simp only[StP.mk.injEq]at hd;obtain⟨_,h1,h2,h3,h4,h5⟩:=hd;have hl:=Vl List.length h1;simp only[VG]at hl;refine⟨by rw[←hr.pn,hl,hok.pn];exact hs.pn,by rw[←hr.rn,h2,hok.rn];exact hs.rn,by rw[←hr.ln,h3,hok.ln];exact hs.ln,by rw[←hr.gn,h4,hok.gn];exact hs.gn,by rw[←hr.on,h5,hok.on];exact hs.on,fun p hp=>?_⟩;obtain⟨i,hi⟩:=List.mem_iff_getElem?.1 hp;have h6:(r.pools.map Pl.d)[i]?=(s.pools.map Pl.d)[i]?:=by rw[h1]
 rw[Vb,Vb,hi]at h6
 cases hq:s.pools[i]? with
 | none=>rw[hq]at h6;simp at h6
 | some q =>
  rw[hq]at h6;simp[Pl.d]at h6;have hm:=mG hq;have e1:=(hok.held q hm).len;rw[←hr.hlen p hp,h6.2.2.2,e1];exact hs.hl q hm
theorem Qji (s:Sta) (xs:List Lin) (hx:∀x∈xs,RgL s x):∀y∈(QaC s xs).2,RgL s y:=by
 unfold QaC
 have:∀p:List Lin × List Lin,(∀y∈p.2,RgL s y)→∀y∈(xs.foldl Qax p).2,RgL s y:=by
  induction xs with
  | nil=>intro p h;exact h
  | cons x xs ih =>
   intro p h2;refine ih (fun y hy=>hx y (Vy _ hy)) _ ?_;unfold Qax;split
   ·exact h2
   ·intro y hy
    rcases List.mem_append.1 hy with h | h
    ·exact h2 y h
    ·rw[List.mem_singleton]at h
     rw[h];exact hx x (VH ..)
 exact this _ (fun _ h=>by cases h)
theorem Qfw {s:Sta} {a:Acd} (h:Qbt s a):(∀x∈(Qaf s a).2.1,RgL s x)∧∀x∈(Qaf s a).2.2.1,RgP s x:=by
 have hr:∀xs:List Tri,(∀x∈xs,RgP s x)→∀x∈xs.map s.raise,RgP s x:=fun xs hx x hm=>by
  obtain⟨y,hy,rfl⟩:=List.mem_map.1 hm;obtain⟨k,e,hk⟩:=hx y hy;exact⟨k,e,hk⟩
 have hf:∀x∈a.sets.xs.filter s.want,RgP s x:=fun x hx=>h.act.sets x (List.mem_filter.1 hx).1
 have n1:∀x∈([]:List Lin),RgL s x:=fun _ h=>by cases h
 have n2:∀x∈([]:List Tri),RgP s x:=fun _ h=>by cases h
 constructor
 ·unfold Qaf Qbw Qbo
  repeat (first | exact h.act.lines | exact h.act.other | exact n1 | exact Qji s _ h.act.lines | split)
 ·unfold Qaf Qbw Qbo
  repeat (first | exact n2 | exact hr _ h.act.sets | exact hr _ hf | split)
theorem Qf4 {s:Sta} {a:Acd} (h:(Qaf s a).1=4):a.kind=2:=by
 apply Classical.byContradiction;intro hk;have hd:∀b,¬QbA b=4:=fun b=>by cases b <;> decide
 revert h;unfold Qaf Qbw Qbo;rw[if_neg hk];repeat' (first | exact hd _ | (intro h;simp only at h;omega) | split)
end Go.Proofs.YtiogibfhafoapaaGreat
namespace Go.Proofs.YtiogibfhafoapaaGreat
open Go.RowKit Go.Sort
open Z (Sli QaE Acd Qad Eda QaP AcOwn)
def QbU:Sta:=⟨0,none,0,0,none,0,0,none,0,0,none,0,0,none,0,0,[],[],[],[],[]⟩
theorem Qcw (B:Nat) (w:World):Qac B w QbU:=⟨rfl,VQ _ _ _ _,fun _ h=>(by cases h),fun _ h=>(by cases h),fun _ _ _ _ h=>(by cases h),rfl,VQ _ _ _ _,rfl,VQ _ _ _ _,rfl,VQ _ _ _ _,rfl,VQ _ _ _ _,fun g h=>by simp[QbU,Value.ownBlock]at h⟩
theorem QcU:Tryz.prog.built 42 []=some qs:=by kernel_rfl
def Sta.setPos (s:Sta) (p:Int):Sta:={ s with pos:=p }
theorem Qac.setPos {B:Nat} {w:World} {s:Sta} (h:Qac B w s) (p:Int):Qac B w (s.setPos p):=⟨h.pn,h.pools,h.hlen,h.held,h.apart,h.rn,h.prices,h.ln,h.last,h.gn,h.gen,h.on,h.owed,h.lg⟩
def Qma (s:Sta) (till:Int):Int × Z.AcP × Int × List Lin × List Tri × Int × Int × Int:=(IntKind.u64.wrap (s.pos+1),QiT.d,0,[],[],0,till,IntKind.u64.wrap (Qai s.gen 0 till+1))
def QbM (s:Sta) (e:Eda):Prop:=e.po=IntKind.u64.wrap (s.pos+1)∧e.po≤1099511627776
def QdY (s:Sta) (e:Eda):Prop:=e.ac.num=IntKind.u64.wrap (Qai s.last 0 e.ac.till+1)
structure Qeb (c:Cfg) (s:Sta) (e:Eda) (f:Int):Prop where
 order:¬QbM s e→f=100
 fence:QbM s e→e.ac.kind=0→¬(Qd7 c.tills s e.fe∧e.dd=Qma s e.fe)→f=103
 fenced:QbM s e→e.ac.kind=0→Qd7 c.tills s e.fe→e.dd=Qma s e.fe→f=0
 act:QbM s e→¬e.ac.kind=0→¬(QcR c e.ac 0∧QdY s e)→f=101
 out:QbM s e→¬e.ac.kind=0→QcR c e.ac 0→QdY s e→¬e.dd=QdZ s e.ac→f=102
 acted:QbM s e→¬e.ac.kind=0→QcR c e.ac 0→QdY s e→e.dd=QdZ s e.ac→f=0
def Qdj (r0:Sta) (e:Eda):Sta :=
 if e.ac.kind=0 then ((r0.setPos e.po).setGen e.fe.toNat e.ge).setOw e.fe.toNat true
 else QcA ((r0.setPos e.po).setLast e.ac.till.toNat e.ac.num) e
def Qfp (w:World) (c:Cfg) (s:Sta) (e:Eda) (E:Ending) (w':World):Prop :=
 ∃(r:Sta) (f:Int),E=.returned (.tuple #[.agg r.arr,.int .i64 f])∧Qeb c s e f∧Qac w.heap.size w' r∧Below w.heap.size w w'∧(f=0→Shp c r∧∃r0:Sta,r0.d=s.d∧r=Qdj r0 e)
theorem QfQ {c:Cfg} {a:Acd} {V V':Int} (h:QcR c a V) (h':QcR c a V'):V=V':=by
 by_cases hK:Qck a
 ·by_cases hH:Qcm c a
  ·by_cases h1:a.kind=1
   ·rw[h.write hK hH h1,h'.write hK hH h1]
   ·rw[h.rest hK hH h1,h'.rest hK hH h1]
  ·rw[h.head hK hH,h'.head hK hH]
 ·rw[h.kind hK,h'.kind hK]
theorem Qac.far {B:Nat} {W W':World} {s:Sta} (h:Qac B W s) (hk:∀(g:Nat) (C:Array Value) (t:TypeId),W.heap[g]?=some (.cells C t (0,0))→Qku t→W'.heap[g]?=W.heap[g]?):Qac B W' s:=by
 have K:∀(B' k' n':Nat) (t:TypeId) (u:Value) (ys:List Value),W.ownsRow B' t k' u n' ys→Qku t→W'.ownsRow B' t k' u n' ys:=fun B' k' n' t u ys hr ht=>Qas hr (fun g e=>by obtain⟨C,hC⟩:=Qf9 hr e;exact hk g C _ hC ht)
 exact⟨h.pn,K _ _ _ _ _ _ h.pools (Or.inl rfl),h.hlen,fun x hx=>K _ _ _ _ _ _ (h.held x hx) (Or.inr (Or.inl rfl)),h.apart,h.rn,K _ _ _ _ _ _ h.prices (Or.inr (Or.inr (Or.inl rfl))),h.ln,K _ _ _ _ _ _ h.last (Or.inr (Or.inr (Or.inr (Or.inl rfl)))),h.gn,K _ _ _ _ _ _ h.gen (Or.inr (Or.inr (Or.inr (Or.inl rfl)))),h.on,K _ _ _ _ _ _ h.owed (Or.inr (Or.inr (Or.inr (Or.inr rfl)))),h.lg⟩
theorem Qak {P:Program} {ops:Array Oper} {rest:List Oper} {a:Act} {w:World} {Q:Exit→Act→World→Prop} {dst:Option Tmp} {t ty:TypeId} {x:Operand} {pos:String} {after:Array Edge} {gd:Option (Nat × Bool)} (b o:Nat) (A:Array Value)
  (hw:Region.wanted ⟨dst,.load t x,ty,pos,after,gd⟩ (yielded ops a.tmps)=true) (hx:a.eval x=.pointer (some ⟨b,o,none⟩)) (hr:(Instr.loadAt t (.pointer (some ⟨b,o,none⟩))).run P w=.ok (.agg A) w) (h:wpList P ops Q rest (a.put dst (.agg A)) w) :
  wpList P ops Q (⟨dst,.load t x,ty,pos,after,gd⟩ :: rest) a w:=by
 refine wpList_step fun K hK=>?_
 rw[if_pos hw];unfold Oper.wp;simp[execOp,hx,hr,Result.andThen];exact hK _ _ h
theorem Qb4 (w:World) (C S E R:Array Value):∃w2,(((w.alloc (.cells C 34)).alloc (.cells S 42)).alloc (.cells E 136)).alloc (.cells R 42)=w2∧Below w.heap.size w w2∧w2.heap[w.heap.size]?=some (.cells C 34 (0,0))∧w2.heap[w.heap.size+1]?=some (.cells S 42 (0,0))∧w2.heap[w.heap.size+1+1]?=some (.cells E 136 (0,0))∧w2.heap[w.heap.size+1+1+1]?=some (.cells R 42 (0,0))∧w2.heap.size=w.heap.size+1+1+1+1:=by
 refine⟨_,rfl,((((Below.refl _ w).alloc (Va _) _).alloc (by simp) _).alloc (by simp;omega) _).alloc (by simp;omega) _,?_,?_,?_,?_,by simp⟩
 ·rw[Vc _ _ _ (by simp only[Vm];omega),Vc _ _ _ (by simp only[Vm];omega),Vc _ _ _ (by simp)];exact hNq _ _
 ·rw[Vc _ _ _ (by simp only[Vm];omega),Vc _ _ _ (by simp)];exact VV _ _ _
 ·rw[Vc _ _ _ (by simp only[Vm];omega)]
  have h:=hNq ((w.alloc (.cells C 34)).alloc (.cells S 42)) (.cells E 136);simp only[Vm]at h;exact h
 ·have h:=hNq (((w.alloc (.cells C 34)).alloc (.cells S 42)).alloc (.cells E 136)) (.cells R 42)
  simp only[Vm]at h;exact h
theorem QiM {w w2:World} {c:Cfg} {s:Sta} {e:Eda} (hx2:w2.heap[w.heap.size]?=some (.cells (qC c) 34 (0,0))) (hy2:w2.heap[w.heap.size+1]?=some (.cells (qS s) 42 (0,0))) (hz2:w2.heap[w.heap.size+1+1]?=some (.cells (qE e) 136 (0,0))):∀W,Below w2.heap.size w2 W→(W.cell? ⟨w.heap.size,0,none⟩=some (.int .i64 c.tills)∧W.cell? ⟨w.heap.size,1,none⟩=some (.slice c.cp c.cl c.cc)∧W.cell? ⟨w.heap.size,2,none⟩=some (.slice c.pp c.pl c.pc)∧W.cell? ⟨w.heap.size,3,none⟩=some (.int .i64 c.lease)∧W.cell? ⟨w.heap.size,4,none⟩=some (.int .i64 c.watch)∧W.cell? ⟨w.heap.size,5,none⟩=some (.int .i64 c.beat)∧W.cell? ⟨w.heap.size,6,none⟩=some (.int .i64 c.window)∧W.cell? ⟨w.heap.size,7,none⟩=some (.int .i64 c.cap)∧W.cell? ⟨w.heap.size,8,none⟩=some (.int .i64 c.flight)∧W.cell? ⟨w.heap.size+1,0,none⟩=some (.int .u64 s.pos)∧W.cell? ⟨w.heap.size+1,1,none⟩=some (.slice s.pp s.pn s.pc)∧W.cell? ⟨w.heap.size+1,2,none⟩=some (.slice s.rp s.rn s.rc)∧W.cell? ⟨w.heap.size+1,3,none⟩=some (.slice s.lp s.ln s.lc)∧W.cell? ⟨w.heap.size+1,4,none⟩=some (.slice s.gp s.gn s.gc)∧W.cell? ⟨w.heap.size+1,5,none⟩=some (.slice s.op s.on s.oc)∧W.cell? ⟨w.heap.size+1+1,0,none⟩=some (.int .u64 e.po)∧W.cell? ⟨w.heap.size+1+1,1,none⟩=some (.int .i64 e.ac.till)∧W.cell? ⟨w.heap.size+1+1,2,none⟩=some (.int .u64 e.ac.num)∧W.cell? ⟨w.heap.size+1+1,3,none⟩=some (.int .i64 e.ac.kind)∧W.cell? ⟨w.heap.size+1+1,4,none⟩=some (.bool e.ac.sure)∧W.cell? ⟨w.heap.size+1+1,5,none⟩=some (.slice e.ac.lines.p e.ac.lines.n e.ac.lines.c)∧W.cell? ⟨w.heap.size+1+1,6,none⟩=some (.slice e.ac.guards.p e.ac.guards.n e.ac.guards.c)∧W.cell? ⟨w.heap.size+1+1,7,none⟩=some (.slice e.ac.sets.p e.ac.sets.n e.ac.sets.c)∧W.cell? ⟨w.heap.size+1+1,8,none⟩=some (.int .i64 e.ac.mg)∧W.cell? ⟨w.heap.size+1+1,9,none⟩=some (.slice e.ac.other.p e.ac.other.n e.ac.other.c)∧W.cell? ⟨w.heap.size+1+1,10,none⟩=some (.int .i64 e.ac.ra)∧W.cell? ⟨w.heap.size+1+1,11,none⟩=some (.int .i64 e.ac.rb)∧W.cell? ⟨w.heap.size+1+1,12,none⟩=some (.int .i64 e.ac.rd)∧W.cell? ⟨w.heap.size+1+1,13,none⟩=some (.int .i64 e.ac.to)∧W.cell? ⟨w.heap.size+1+1,14,none⟩=some (.int .u64 e.ac.gen)∧W.cell? ⟨w.heap.size+1+1,15,none⟩=some (.slice e.ac.rights.p e.ac.rights.n e.ac.rights.c)∧W.cell? ⟨w.heap.size+1+1,16,none⟩=some (.int .i64 e.oc)∧W.cell? ⟨w.heap.size+1+1,17,none⟩=some (.slice e.made.p e.made.n e.made.c)∧W.cell? ⟨w.heap.size+1+1,18,none⟩=some (.slice e.sets.p e.sets.n e.sets.c)∧W.cell? ⟨w.heap.size+1+1,19,none⟩=some (.int .i64 e.n)∧W.cell? ⟨w.heap.size+1+1,20,none⟩=some (.int .i64 e.fe)∧W.cell? ⟨w.heap.size+1+1,21,none⟩=some (.int .u64 e.ge)):=fun W hb=>by
 have h1:=(hb.block _ (Qab hx2)).trans hx2;have h2:=(hb.block _ (Qab hy2)).trans hy2;have h3:=(hb.block _ (Qab hz2)).trans hz2;obtain⟨d0,d1,d2,d3,d4,d5,d6,d7,d8⟩:=ac9 h1;obtain⟨c0,c1,c2,c3,c4,c5⟩:=ac6 h2;exact⟨d0,d1,d2,d3,d4,d5,d6,d7,d8,c0,c1,c2,c3,c4,c5,by rw[cRq h3];rfl,by rw[cRq h3];rfl,by rw[cRq h3];rfl,by rw[cRq h3];rfl,by rw[cRq h3];rfl,by rw[cRq h3];rfl,by rw[cRq h3];rfl,by rw[cRq h3];rfl,by rw[cRq h3];rfl,by rw[cRq h3];rfl,by rw[cRq h3];rfl,by rw[cRq h3];rfl,by rw[cRq h3];rfl,by rw[cRq h3];rfl,by rw[cRq h3];rfl,by rw[cRq h3];rfl,by rw[cRq h3];rfl,by rw[cRq h3];rfl,by rw[cRq h3];rfl,by rw[cRq h3];rfl,by rw[cRq h3];rfl,by rw[cRq h3];rfl⟩
theorem Qiu (w:World) (c:Cfg) (s:Sta) (hs:Qae w s) (_hsm:QjI s) (_hpw:∀p∈s.pools,Qaw (frL p)) (_hsh:Shp c s) (_hcl:c.cl≤4194304) (_hpl:c.pl≤4194304) (_htl:0≤c.tills∧c.tills≤1000000) (e:Eda) (hok:QaP w e) (hO:¬QbM s e) :
  Calls Tryz.prog 44 #[.agg (qC c),.agg (qS s),.agg (qE e)] w (Qfp w c s e):=by
 obtain⟨w2,hw2,hb2,hx2,hy2,hz2,hr2,hsz2⟩:=Qb4 w (qC c) (qS s) (qE e) qs;obtain⟨HW2,HB2,HR2⟩:=Qmk hw2 hb2 hr2;have HX:=Qaa (QiM (w:=w) hx2 hy2 hz2);have HEn:Hid (∀W,Below w2.heap.size w2 W→W.heap[w.heap.size+1+1]?=some (.cells (qE e) 136 (0,0))):=fun W hb=>(hb.block _ (Qab hz2)).trans hz2
 have HRz:Hid (∀W,Below w2.heap.size w2 W→W.heap[w.heap.size+1+1+1]?=some (.cells qs 42 (0,0))):=fun W hb=>(hb.block _ (Qab hr2)).trans hr2
 have HS:=Qaa (hs.below hb2);have HOk:=Qaa (hok.below hb2);have hz4:w.heap.size+1+1+1<w2.heap.size:=by omega
 obtain⟨np,hnp⟩:=exq (IntKind.u64.wrap (s.pos+1));have HNp:=Qaa hnp;have HI:Hid (Below w2.heap.size w2 w2):=bR;obtain⟨d0,d1,d2,d3,d4,d5,d6,d7,d8,c0,c1,c2,c3,c4,c5,e0,e1,e2,e3,e4,e5,e6,e7,e8,e9,e10,e11,e12,e13,e14,e15,e16,e17,e18,e19,e20,e21⟩:=HX.out w2 HI.out;clear hw2 hb2 hx2 hy2 hz2 hr2 hs hok;go_enter Tryz.func44,Tryz.ntmps44;go_upto_region 1 with (fail);rw[HW2.out];by_cases q1:¬e.po=np
 ·skip
  have HO:Hid (¬QbM s e):=by show ¬_;intro h;exact q1 (h.1.trans HNp.out)
  have q1':((e.po:Int) == np)=false:=by simp[q1]
  have q1n:((e.po:Int) != np)=true:=by simp[q1]
  have q1m:¬e.po=np:=q1;have HSt:=Qaa (Z.storeAt_row (P:=Tryz.prog) (c':=qs) (HRz.out w2 HI.out) Tryz.sizeS rfl (by simp[Value.oneCell']));have HRw:=Qaa (VB _ _ _ qs _ _ (HRz.out w2 HI.out))
  have HFv:Hid (Qeb c s e 100):=by
   exact⟨fun _=>rfl,fun h=>absurd h HO.out,fun h=>absurd h HO.out,fun h=>absurd h HO.out,fun h=>absurd h HO.out,fun h=>absurd h HO.out⟩
  go_wp2_with (first | ((with_reducible show wpList _ _ _ (⟨_,.build _ _,_,_,_,_⟩ :: _) _ _);refine Z.lp_built rfl 42 _ rfl [] rfl qs QcU ?_) | ((with_reducible refine gsq 42 6 ?_);refine Z.lp_store (t:=42) (x:=.tmp 6) (some ⟨w.heap.size+1+1+1,0,none⟩) (.agg qs) rfl rfl HSt.out ?_))
  refine Vg (QaY rfl rfl HRw.out Tryz.underlying42 rfl Tryz.sizeS) rfl ?_;exact⟨QbU,100,rfl,HFv.out,Qcw _ _,VA (HB2.out.trans (HI.out.mono HB2.out.size)) (by omega) _,fun h=>absurd h (by decide)⟩
 have q1:e.po=np:=Classical.byContradiction (fun h=>q1 h);by_cases q2:1099511627776<e.po
 ·have HO:Hid (¬QbM s e):=by show ¬_;intro h;have:=h.2;omega
  have q1':((e.po:Int) == np)=true:=by simp[q1]
  have q1n:((e.po:Int) != np)=false:=by simp[q1]
  clear q1;have HSt:=Qaa (Z.storeAt_row (P:=Tryz.prog) (c':=qs) (HRz.out w2 HI.out) Tryz.sizeS rfl (by simp[Value.oneCell']));have HRw:=Qaa (VB _ _ _ qs _ _ (HRz.out w2 HI.out))
  have HFv:Hid (Qeb c s e 100):=by
   exact⟨fun _=>rfl,fun h=>absurd h HO.out,fun h=>absurd h HO.out,fun h=>absurd h HO.out,fun h=>absurd h HO.out,fun h=>absurd h HO.out⟩
  go_wp2_with (first | ((with_reducible show wpList _ _ _ (⟨_,.build _ _,_,_,_,_⟩ :: _) _ _);refine Z.lp_built rfl 42 _ rfl [] rfl qs QcU ?_) | ((with_reducible refine gsq 42 6 ?_);refine Z.lp_store (t:=42) (x:=.tmp 6) (some ⟨w.heap.size+1+1+1,0,none⟩) (.agg qs) rfl rfl HSt.out ?_))
  refine Vg (QaY rfl rfl HRw.out Tryz.underlying42 rfl Tryz.sizeS) rfl ?_;exact⟨QbU,100,rfl,HFv.out,Qcw _ _,VA (HB2.out.trans (HI.out.mono HB2.out.size)) (by omega) _,fun h=>absurd h (by decide)⟩
 exact absurd ⟨q1.trans HNp.out.symm,by omega⟩ hO
theorem Qf2 (w:World) (c:Cfg) (s:Sta) (hs:Qae w s) (hsm:QjI s) (_hpw:∀p∈s.pools,Qaw (frL p)) (hsh:Shp c s) (_hcl:c.cl≤4194304) (_hpl:c.pl≤4194304) (_htl:0≤c.tills∧c.tills≤1000000) (e:Eda) (hok:QaP w e) (hO:QbM s e) (k0:e.ac.kind=0) :
  Calls Tryz.prog 44 #[.agg (qC c),.agg (qS s),.agg (qE e)] w (Qfp w c s e):=by
 obtain⟨w2,hw2,hb2,hx2,hy2,hz2,hr2,hsz2⟩:=Qb4 w (qC c) (qS s) (qE e) qs;obtain⟨HW2,HB2,HR2⟩:=Qmk hw2 hb2 hr2;have HX:=Qaa (QiM (w:=w) hx2 hy2 hz2);have HEn:Hid (∀W,Below w2.heap.size w2 W→W.heap[w.heap.size+1+1]?=some (.cells (qE e) 136 (0,0))):=fun W hb=>(hb.block _ (Qab hz2)).trans hz2
 have HRz:Hid (∀W,Below w2.heap.size w2 W→W.heap[w.heap.size+1+1+1]?=some (.cells qs 42 (0,0))):=fun W hb=>(hb.block _ (Qab hr2)).trans hr2
 have HS:=Qaa (hs.below hb2);have HOk:=Qaa (hok.below hb2);have hz4:w.heap.size+1+1+1<w2.heap.size:=by omega
 obtain⟨np,hnp⟩:=exq (IntKind.u64.wrap (s.pos+1));have HNp:=Qaa hnp;have HI:Hid (Below w2.heap.size w2 w2):=bR;obtain⟨d0,d1,d2,d3,d4,d5,d6,d7,d8,c0,c1,c2,c3,c4,c5,e0,e1,e2,e3,e4,e5,e6,e7,e8,e9,e10,e11,e12,e13,e14,e15,e16,e17,e18,e19,e20,e21⟩:=HX.out w2 HI.out;clear hw2 hb2 hx2 hy2 hz2 hr2 hs hok;obtain⟨q1,q3⟩:=hO;rw[hnp]at q1;have q2:¬1099511627776<e.po:=by omega
 have HO:Hid (QbM s e):=⟨q1.trans HNp.out.symm,by omega⟩;have q1':((e.po:Int) == np)=true:=by simp[q1]
 have q1n:((e.po:Int) != np)=false:=by simp[q1]
 clear q1;have k0':(e.ac.kind == 0)=true:=by simp[k0]
 have HK0:=Qaa k0;clear k0;go_enter Tryz.func44,Tryz.ntmps44;go_upto_region 1 with (fail);rw[HW2.out];have HCs:=Qaa (Qat w2 s HS.out hsm);go_upto_region 4 with (first | (go_at_call 15;refine HCs.out.mono ?_;rintro e1 w3 ⟨r0,rfl,hd0,ho0,hb3⟩;obtain⟨HD0,HO0,HB3⟩:=Qmk hd0 ho0 hb3;have HSt:=Qaa (run_storeAt_new (P:=Tryz.prog) w3 42 qs r0.arr Tryz.sizeS rfl (by simp[Sta.arr,Value.oneCell']));clear hd0 ho0 hb3 d0 d1 d2 d3 d4 d5 d6 d7 d8 c0 c1 c2 c3 c4 c5 e0 e1 e2 e3 e4 e5 e6 e7 e8 e9 e10 e11 e12 e13 e14 e15 e16 e17 e18 e19 e20 e21) | ((with_reducible refine gsq 42 8 ?_);refine Z.lp_store (t:=42) (x:=.tmp 8) (some ⟨w3.heap.size,0,none⟩) (.agg r0.arr) rfl rfl HSt.out ?_));have hT4:=hNq w3 (.cells r0.arr 42);have hb4:Below w3.heap.size w3 (w3.alloc (.cells r0.arr 42)):=bR.alloc (Va _) _;obtain⟨w4,hw4⟩:=exq (w3.alloc (.cells r0.arr 42));rw[hw4]at hT4 hb4 ⊢;clear hw4;obtain⟨tb,htb⟩:=exq w3.heap.size;rw[htb]at hT4 ⊢;have htb2:w2.heap.size≤tb:=by have:=HB3.out.size;omega
 have hbb4:Below w2.heap.size w2 w4:=HB3.out.trans (hb4.mono HB3.out.size);have hO4:=HO0.out.below hb4;obtain⟨d0,d1,d2,d3,d4,d5,d6,d7,d8,c0,c1,c2,c3,c4,c5,e0,e1,e2,e3,e4,e5,e6,e7,e8,e9,e10,e11,e12,e13,e14,e15,e16,e17,e18,e19,e20,e21⟩:=HX.out w4 hbb4;have t0:w4.cell? ⟨tb,0,none⟩=some (.int .u64 r0.pos):=by rw[cRq hT4];rfl
 have tf:=VN w4 tb 0 _ _ hT4;obtain⟨HT4,HO4,HBb4⟩:=Qmk hT4 hO4 hbb4;clear hT4 hb4 hO4 hbb4 htb;go_upto_region 5 with (fail);obtain⟨w5,hw5⟩:=exq (w4.setCell ⟨tb,0,none⟩ (.int .u64 e.po));have HT5:Hid (w5.heap[tb]?=some (.cells (r0.setPos e.po).arr 42 (0,0))):=by show _=_;rw[←hw5];exact Vx w4 tb 0 _ _ (.int .u64 e.po) HT4.out
 have HB5:Hid (Below w2.heap.size w2 w5):=by show Below _ _ _;rw[←hw5];exact HBb4.out.setCell (p:=⟨tb,0,none⟩) htb2 _
 have HO5:Hid (Qac w2.heap.size w5 (r0.setPos e.po)):=by
  show Qac _ _ _;refine(HO4.out.setPos e.po).far (fun g C t hg ht=>?_);rw[←hw5,Ve _ _ _ _ (by show g≠tb;rintro rfl;rw[HT4.out]at hg;cases hg;exact Qay rfl ht)]
 rw[hw5];clear hw5 t0 tf HT4 HO4 HBb4 d0 d1 d2 d3 d4 d5 d6 d7 d8 c0 c1 c2 c3 c4 c5 e0 e1 e2 e3 e4 e5 e6 e7 e8 e9 e10 e11 e12 e13 e14 e15 e16 e17 e18 e19 e20 e21;obtain⟨d0,d1,d2,d3,d4,d5,d6,d7,d8,c0,c1,c2,c3,c4,c5,e0,e1,e2,e3,e4,e5,e6,e7,e8,e9,e10,e11,e12,e13,e14,e15,e16,e17,e18,e19,e20,e21⟩:=HX.out w5 HB5.out
 have HSh:Hid (Shp c (r0.setPos e.po)):=by
  have h:=Qc2 hsh HS.out HO0.out HD0.out;exact⟨h.pn,h.rn,h.ln,h.gn,h.on,h.hl⟩
 obtain⟨r1,hr1⟩:=exq (r0.setPos e.po);have HR1:=Qaa hr1;rw[hr1]at HT5 HO5 HSh;clear hr1;have HFe:=Qaa (Qeq w5 c s (HS.out.below HB5.out) (by have:=hsh.gn;omega) (by have:=hsh.on;omega) e.fe);go_upto_region 7 with (first | (go_at_call 46;refine HFe.out.mono ?_;rintro e1 w6 ⟨E,b,rfl,hEk,hbI,hbD,hb6⟩;obtain⟨HEk,HbI,HbD,HB6⟩:=hd4 hEk hbI hbD hb6;have HSt2:=Qaa (run_storeAt_new (P:=Tryz.prog) w6 136 qe E.arr Tryz.sizeE rfl (Z.Eda.ones E));clear hEk hbI hbD hb6 d0 d1 d2 d3 d4 d5 d6 d7 d8 c0 c1 c2 c3 c4 c5 e0 e1 e2 e3 e4 e5 e6 e7 e8 e9 e10 e11 e12 e13 e14 e15 e16 e17 e18 e19 e20 e21) | ((with_reducible refine gsq 136 9 ?_);refine Z.lp_store (t:=136) (x:=.tmp 9) (some ⟨w6.heap.size,0,none⟩) (.agg E.arr) rfl rfl HSt2.out ?_));have hF7:=hNq w6 (.cells E.arr 136);have hb7:Below w6.heap.size w6 (w6.alloc (.cells E.arr 136)):=bR.alloc (Va _) _;obtain⟨w7,hw7⟩:=exq (w6.alloc (.cells E.arr 136));rw[hw7]at hF7 hb7 ⊢;clear hw7;obtain⟨fb,hfb⟩:=exq w6.heap.size;rw[hfb]at hF7 ⊢;clear hfb;have HB57:Hid (Below w5.heap.size w5 w7):=HB6.out.trans (hb7.mono HB6.out.size);have HB7:Hid (Below w2.heap.size w2 w7):=HB5.out.trans (HB57.out.mono HB5.out.size);have HF7:=Qaa hF7;have HE7:=Qaa (HEk.out.below hb7);clear hF7 hb7;obtain⟨d0,d1,d2,d3,d4,d5,d6,d7,d8,c0,c1,c2,c3,c4,c5,e0,e1,e2,e3,e4,e5,e6,e7,e8,e9,e10,e11,e12,e13,e14,e15,e16,e17,e18,e19,e20,e21⟩:=HX.out w7 HB7.out
 cases b with
 | false =>
  have HSt:=Qaa (Z.storeAt_row (P:=Tryz.prog) (c':=qs) (HRz.out w7 HB7.out) Tryz.sizeS rfl (by simp[Value.oneCell']));have HRw:=Qaa (VB _ _ _ qs _ _ (HRz.out w7 HB7.out))
  have HFv:Hid (Qeb c s e 103):=by
   refine⟨fun h=>absurd HO.out h,fun _ _ _=>rfl,fun _ _ h=>?_,fun _ h=>absurd HK0.out h,fun _ h=>absurd HK0.out h,fun _ h=>absurd HK0.out h⟩;have h1:=HbI.out.2 h;cases h1
  go_wp2_with (first | ((with_reducible show wpList _ _ _ (⟨_,.build _ _,_,_,_,_⟩ :: _) _ _);refine Z.lp_built rfl 42 _ rfl [] rfl qs QcU ?_) | ((with_reducible refine gsq 42 6 ?_);refine Z.lp_store (t:=42) (x:=.tmp 6) (some ⟨w.heap.size+1+1+1,0,none⟩) (.agg qs) rfl rfl HSt.out ?_))
  refine Vg (QaY rfl rfl HRw.out Tryz.underlying42 rfl Tryz.sizeS) rfl ?_;exact⟨QbU,103,rfl,HFv.out,Qcw _ _,VA (HB2.out.trans (HB7.out.mono HB2.out.size)) (by omega) _,fun h=>absurd h (by decide)⟩
 | true =>
  obtain⟨D,hD⟩:=Qbj (e.dd=E.dd);have HD:=Qaa hD;have HEq:Hid (Calls Tryz.prog 97 #[.agg (qE e),.agg E.arr] w7 fun e1 w'=>e1=.returned (.bool D)∧Below w7.heap.size w7 w'):=Qdx w7 e E ((HOk.out.below HB7.out)) HE7.out D hD;have HLE:=Qaa (lr136 (HEn.out w7 HB7.out) Tryz.sizeE);have HL7:=Qaa (lr136 HF7.out Tryz.sizeE);clear hD
  cases D with
  | false =>
   go_upto_region 8 with (first | (go_at_call 97;refine HEq.out.mono ?_;rintro e1 w8 ⟨rfl,hb8⟩;have HB8:Hid (Below w2.heap.size w2 w8):=HB7.out.trans (hb8.mono HB7.out.size);have HB58:Hid (Below w5.heap.size w5 w8):=HB57.out.trans (hb8.mono HB57.out.size);clear hb8 d0 d1 d2 d3 d4 d5 d6 d7 d8 c0 c1 c2 c3 c4 c5 e0 e1 e2 e3 e4 e5 e6 e7 e8 e9 e10 e11 e12 e13 e14 e15 e16 e17 e18 e19 e20 e21;obtain⟨d0,d1,d2,d3,d4,d5,d6,d7,d8,c0,c1,c2,c3,c4,c5,e0,e1,e2,e3,e4,e5,e6,e7,e8,e9,e10,e11,e12,e13,e14,e15,e16,e17,e18,e19,e20,e21⟩:=HX.out w8 HB8.out) | ((with_reducible refine glq 136 5 ?_);refine Qak (w.heap.size+1+1) 0 (qE e) (by kernel_rfl) rfl HLE.out ?_) | ((with_reducible refine glq 136 9 ?_);refine Qak fb 0 E.arr (by kernel_rfl) rfl HL7.out ?_) | fail);have HSt:=Qaa (Z.storeAt_row (P:=Tryz.prog) (c':=qs) (HRz.out w8 HB8.out) Tryz.sizeS rfl (by simp[Value.oneCell']));have HRw:=Qaa (VB _ _ _ qs _ _ (HRz.out w8 HB8.out))
   have HFv:Hid (Qeb c s e 103):=by
    refine⟨fun h=>absurd HO.out h,fun _ _ _=>rfl,fun _ _ _ h=>?_,fun _ h=>absurd HK0.out h,fun _ h=>absurd HK0.out h,fun _ h=>absurd HK0.out h⟩;have h1:=HD.out.2 (h.trans (HbD.out (by first | rfl | trivial)).symm);cases h1
   go_wp2_with (first | ((with_reducible show wpList _ _ _ (⟨_,.build _ _,_,_,_,_⟩ :: _) _ _);refine Z.lp_built rfl 42 _ rfl [] rfl qs QcU ?_) | ((with_reducible refine gsq 42 6 ?_);refine Z.lp_store (t:=42) (x:=.tmp 6) (some ⟨w.heap.size+1+1+1,0,none⟩) (.agg qs) rfl rfl HSt.out ?_))
   refine Vg (QaY rfl rfl HRw.out Tryz.underlying42 rfl Tryz.sizeS) rfl ?_;exact⟨QbU,103,rfl,HFv.out,Qcw _ _,VA (HB2.out.trans (HB8.out.mono HB2.out.size)) (by omega) _,fun h=>absurd h (by decide)⟩
  | true =>
   go_upto_region 9 with (first | (go_at_call 97;refine HEq.out.mono ?_;rintro e1 w8 ⟨rfl,hb8⟩;have HB8:Hid (Below w2.heap.size w2 w8):=HB7.out.trans (hb8.mono HB7.out.size);have HB58:Hid (Below w5.heap.size w5 w8):=HB57.out.trans (hb8.mono HB57.out.size);clear hb8 d0 d1 d2 d3 d4 d5 d6 d7 d8 c0 c1 c2 c3 c4 c5 e0 e1 e2 e3 e4 e5 e6 e7 e8 e9 e10 e11 e12 e13 e14 e15 e16 e17 e18 e19 e20 e21;obtain⟨d0,d1,d2,d3,d4,d5,d6,d7,d8,c0,c1,c2,c3,c4,c5,e0,e1,e2,e3,e4,e5,e6,e7,e8,e9,e10,e11,e12,e13,e14,e15,e16,e17,e18,e19,e20,e21⟩:=HX.out w8 HB8.out) | ((with_reducible refine glq 136 5 ?_);refine Qak (w.heap.size+1+1) 0 (qE e) (by kernel_rfl) rfl HLE.out ?_) | ((with_reducible refine glq 136 9 ?_);refine Qak fb 0 E.arr (by kernel_rfl) rfl HL7.out ?_) | fail);have hfo:=HbI.out.1 (by first | rfl | trivial);obtain⟨f,hf⟩:∃f:Nat,e.fe=(f:Int):=⟨e.fe.toNat,by have:=hfo.1;omega⟩;have hfc:(f:Int)<c.tills:=by have:=hfo.2.1;omega
   clear hfo;have HF:=Qaa hf;rw[hf]at e20;clear hf;have HB58r:=Qaa (HB58.out);have HT8:Hid (w8.heap[tb]?=some (.cells r1.arr 42 (0,0))):=(HB58.out.block _ (Qab HT5.out)).trans HT5.out;have HO8:=Qaa (HO5.out.below HB58.out);have q1:(f:Int)<(r1.gn:Int):=by have:=HSh.out.gn;omega
   have q0:(0:Int)≤(f:Int):=by omega
   obtain⟨q,hq⟩:∃q,r1.gen[f]?=some q:=⟨_,gE (by rw[HO8.out.gn];omega)⟩;obtain⟨gg,egg,hggB,⟨Cg,hCg⟩,hfg,hcg,hstg⟩:=HO8.out.setG hq;have t4:w8.cell? ⟨tb,4,none⟩=some (.slice (some ⟨gg,0,none⟩) r1.gn r1.gc):=by rw[cRq HT8.out,←egg];rfl
   have fg:=hfg f;obtain⟨w9,hw9⟩:=exq (w8.setCell ⟨gg,f,none⟩ (.int .u64 e.ge))
   have HO9:Hid (Qac w2.heap.size w9 (r1.setGen f e.ge)):=by
    show Qac _ _ _;rw[←hw9];exact hstg e.ge
   have HT9:Hid (w9.heap[tb]?=some (.cells r1.arr 42 (0,0))):=by
    show _=_;rw[←hw9,Ve _ _ _ _ (by show tb≠gg;rintro rfl;have h1:=HT8.out;rw[hCg]at h1;cases h1)];exact HT8.out
   have HB9:Hid (Below w2.heap.size w2 w9):=by show Below _ _ _;rw[←hw9];exact HB8.out.setCell (p:=⟨gg,f,none⟩) hggB _
   have HW9:=Qaa hw9;clear hq egg hCg hfg hstg hw9 hggB;go_upto_region 10 with (fail);rw[HW9.out];clear t4 fg hcg d0 d1 d2 d3 d4 d5 d6 d7 d8 c0 c1 c2 c3 c4 c5 e0 e1 e2 e3 e4 e5 e6 e7 e8 e9 e10 e11 e12 e13 e14 e15 e16 e17 e18 e19 e20 e21;obtain⟨d0,d1,d2,d3,d4,d5,d6,d7,d8,c0,c1,c2,c3,c4,c5,e0,e1,e2,e3,e4,e5,e6,e7,e8,e9,e10,e11,e12,e13,e14,e15,e16,e17,e18,e19,e20,e21⟩:=HX.out w9 HB9.out;rw[HF.out]at e20;have q2o:(f:Int)<(r1.on:Int):=by have:=HSh.out.on;omega
   obtain⟨q,hq⟩:∃q,(r1.setGen f e.ge).owed[f]?=some q:=⟨_,gE (by rw[HO9.out.on];show f<r1.on;omega)⟩;obtain⟨gg,egg,hggB,⟨Cg,hCg⟩,hfg,hcg,hstg⟩:=HO9.out.setO hq;have t5:w9.cell? ⟨tb,5,none⟩=some (.slice (some ⟨gg,0,none⟩) r1.on r1.oc):=by rw[cRq HT9.out,←egg];rfl
   have fg:=hfg f;obtain⟨w10,hw10⟩:=exq (w9.setCell ⟨gg,f,none⟩ (.bool true))
   have HOa:Hid (Qac w2.heap.size w10 ((r1.setGen f e.ge).setOw f true)):=by
    show Qac _ _ _;rw[←hw10];exact hstg true
   have HTa:Hid (w10.heap[tb]?=some (.cells r1.arr 42 (0,0))):=by
    show _=_;rw[←hw10,Ve _ _ _ _ (by show tb≠gg;rintro rfl;have h1:=HT9.out;rw[hCg]at h1;cases h1)];exact HT9.out
   have HBa:Hid (Below w2.heap.size w2 w10):=by show Below _ _ _;rw[←hw10];exact HB9.out.setCell (p:=⟨gg,f,none⟩) hggB _
   have HW10:=Qaa hw10;clear hq egg hCg hfg hstg hw10 hggB;go_upto_region 11 with (fail);rw[HW10.out];clear t5 fg hcg d0 d1 d2 d3 d4 d5 d6 d7 d8 c0 c1 c2 c3 c4 c5 e0 e1 e2 e3 e4 e5 e6 e7 e8 e9 e10 e11 e12 e13 e14 e15 e16 e17 e18 e19 e20 e21;have HLs:=Qaa (lr42 HTa.out Tryz.sizeS);have HSt:=Qaa (Z.storeAt_row (P:=Tryz.prog) (c':=r1.arr) (HRz.out w10 HBa.out) Tryz.sizeS rfl (by simp[Sta.arr,Value.oneCell']));have HRw:=Qaa (VB _ _ _ r1.arr _ _ (HRz.out w10 HBa.out));go_wp2_with (first | ((with_reducible refine glq 42 8 ?_);refine Qak tb 0 r1.arr (by kernel_rfl) rfl HLs.out ?_) | ((with_reducible refine gsq 42 6 ?_);refine Z.lp_store (t:=42) (x:=.tmp 6) (some ⟨w.heap.size+1+1+1,0,none⟩) (.agg r1.arr) rfl rfl HSt.out ?_) | fail)
   refine Vg (QaY rfl rfl HRw.out Tryz.underlying42 rfl Tryz.sizeS) rfl ?_;have HOR:Qac w.heap.size (w10.setRow (w.heap.size+1+1+1) r1.arr) ((r1.setGen f e.ge).setOw f true):=(HOa.out.le (by have:=HB2.out.size;omega)).far (fun g C t hg ht=>Vz _ _ _ _ (by rintro rfl;rw[HRz.out w10 HBa.out]at hg;cases hg;exact Qay rfl ht));refine⟨(r1.setGen f e.ge).setOw f true,0,rfl,?_,HOR,VA (HB2.out.trans (HBa.out.mono HB2.out.size)) (by omega) _,fun _=>⟨?_,r0,HD0.out,?_⟩⟩
   ·refine⟨fun h=>absurd HO.out h,fun _ _ h=>absurd ⟨HbI.out.1 (by first | rfl | trivial),?_⟩ h,fun _ _ _ _=>rfl,fun _ h=>absurd HK0.out h,fun _ h=>absurd HK0.out h,fun _ h=>absurd HK0.out h⟩
    exact(HD.out.1 (by first | rfl | trivial)).trans (HbD.out (by first | rfl | trivial))
   ·have h:=HSh.out;exact⟨h.pn,h.rn,h.ln,h.gn,h.on,h.hl⟩
   ·unfold Qdj;rw[if_pos HK0.out,HR1.out,HF.out,Vv]
end Go.Proofs.YtiogibfhafoapaaGreat
