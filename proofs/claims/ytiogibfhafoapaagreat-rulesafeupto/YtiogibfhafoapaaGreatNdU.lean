import Derived.WideKeyEntry
import Derived.Test.YtiogibfhafoapaaGreatNdL
set_option maxRecDepth 100000
set_option maxHeartbeats 8000000
set_option linter.unusedSimpArgs false
set_option linter.unusedVariables false
namespace Go.Proofs.YtiogibfhafoapaaGreat
open Go.RowKit Go.Shelf
attribute [local go_sem] Oper.semAt_some
theorem Qea (w:World) (b:Nat) (o o':Obj):ChangeMaps.setBlock (ChangeMaps.setBlock w b o) b o'=ChangeMaps.setBlock w b o':=by
 unfold ChangeMaps.setBlock
 have h:(w.heap.setIfInBounds b o).setIfInBounds b o'=w.heap.setIfInBounds b o':=by
  apply Array.ext_getElem?;intro i;rw[Array.getElem?_setIfInBounds,Array.getElem?_setIfInBounds,Array.getElem?_setIfInBounds];simp only[Array.size_setIfInBounds];split <;> rfl
 show ({ w with heap:=(w.heap.setIfInBounds b o).setIfInBounds b o' } : World)={ w with heap:=w.heap.setIfInBounds b o' };rw[h]
theorem Qei {H:Type} {w:World} {b n:Nat} {D:DataW H} (hown:w.ownsMap Tryz.prog 175 (plainElem (H:=H) Tryz.prog 2) b n D) (hn:n<maxLen) (x:K64) :
  ∃(v0:Value) (st:Nat) (w1:World),(Instr.mapEntry 187 (.map (some b)) (kv x.1)).run Tryz.prog w=.ok (.tuple #[v0,.int .i64 st]) w1 ∧
   ∀c:Int,(Lit.int .i64 c).wf=true→∃w2,(Instr.entryStore 187 (.map (some b)) (.int .i64 st) (.int .i64 c)).run Tryz.prog w1=.ok () w2∧w2.ownsMap Tryz.prog 175 (plainElem (H:=H) Tryz.prog 2) b (n+1) (D.put (Qcz x.1) (.lit (.int .i64 c)))∧w.grownBy w2 (some b):=by
 have hown':=hown;obtain⟨es,clock,hb,F,hs,rfl⟩:=hown;obtain⟨v0,st,es1,clock1,hrun,_,hst⟩:=WideElems.entry_then_store QbR Tryz.underlying187 (z:=.int .i64 0) (fun u=>Tryz.zeroValue2 u) hb F (Qcb x);refine⟨v0,st,_,hrun,fun c hc=>?_⟩;obtain⟨es',clock',hstore,hupd⟩:=hst _ (.int .i64 c) (ChangeMaps.heap_setBlock_same hb _);obtain⟨w',hup,ho,hg⟩:=hown'.update QaU Tryz.underlying187 hn (Qcb x) (plainElem_int (H:=H) Tryz.underlying2 hc);rw[hupd]at hup;simp only[Result.ok.injEq,true_and]at hup;subst hup;rw[Qea]at hstore;exact⟨_,hstore,ho,hg⟩
theorem QeD {w:World} {b:Nat} {o:Obj} (h:w.heap[b]?=some o):ChangeMaps.setBlock w b o=w:=by
 unfold ChangeMaps.setBlock
 have h':w.heap.setIfInBounds b o=w.heap:=by
  apply Array.ext_getElem?;intro i;rw[Array.getElem?_setIfInBounds];split
  ·rename_i e;subst e;rw[if_pos (Qab h)];exact h.symm
  ·rfl
 rw[h']
theorem Qcv {H:Type} {w w1:World} {b n:Nat} {D:DataW H} (hown:w.ownsMap Tryz.prog 175 (plainElem (H:=H) Tryz.prog 2) b n D) (hn:n<maxLen) (x:K64) {c:Int} {t:Value}
  (hl:(Instr.lookup 187 (.map (some b)) (kv x.1) false).run Tryz.prog w=.ok (.int .i64 c) w) (he:(Instr.mapEntry 187 (.map (some b)) (kv x.1)).run Tryz.prog w=.ok t w1) :
  (Instr.lookup 187 (.map (some b)) (kv x.1) false).run Tryz.prog w1=.ok (.int .i64 c) w1:=by
 have hown':=hown;have hkey:=Qcb x;have hz:=fun u=>Tryz.zeroValue2 u
 obtain⟨es,clock,hb,F,hs,rfl⟩:=hown;rcases QbR.find w hkey es.toList F.keys with ⟨h1,h2⟩ | ⟨j,e0,h1,h2,h3⟩
 ·have r1:(Instr.mapEntry 187 (.map (some b)) (kv x.1)).run Tryz.prog w=.ok (.tuple #[.int .i64 0,goInt clock]) (ChangeMaps.setBlock w b (.map (es.push ⟨kv x.1,.int .i64 0,clock⟩) (clock+1))):=by
   simp[Instr.mapEntry,run_underlying Tryz.underlying187,MapKept.run_getObj_map hb,QbR.check w false hkey,h1,hz,MapKept.run_setObj_map _ hb,Result.andThen,ChangeMaps.setBlock]
  have r2:(Instr.mapUpdate 187 (.map (some b)) (kv x.1) (.int .i64 0)).run Tryz.prog w=.ok () (ChangeMaps.setBlock w b (.map (es.push ⟨kv x.1,.int .i64 0,clock⟩) (clock+1))):=by
   simp[Instr.mapUpdate,run_underlying Tryz.underlying187,MapKept.run_getObj_map hb,QbR.check w false hkey,h1,MapKept.run_setObj_map _ hb,Result.andThen,ChangeMaps.setBlock]
  have r3:(Instr.lookup 187 (.map (some b)) (kv x.1) false).run Tryz.prog w=.ok (.int .i64 0) w:=by
   simp[Instr.lookup,run_underlying Tryz.underlying187,MapKept.run_getObj_map hb,QbR.check w _ hkey,h1,hz,Result.andThen]
  rw[r3]at hl;rw[r1]at he;simp only[Result.ok.injEq,Value.int.injEq,true_and,and_true]at hl he;obtain⟨_,rfl⟩:=he;obtain⟨w',hup,ho,_⟩:=hown'.update QaU Tryz.underlying187 hn hkey (plainElem_int (H:=H) Tryz.underlying2 (a:=0) rfl);rw[r2]at hup;simp only[Result.ok.injEq,true_and]at hup;subst hup;obtain⟨c',hrun,hat,_⟩:=ho.lookup_int QaU Tryz.underlying187 Tryz.underlying2 (Tryz.zeroValue2 _) hkey;rw[Maps.atKey_put_same hown'.isMap (Qfu _)]at hat;simp only[DataW.lit.injEq,Lit.int.injEq,true_and]at hat;rw[hrun,←hat,hl]
 ·have hj:es[j]?=some e0:=by simpa using h2
  have hsame:es.modify j (fun e=>{ e with key:=kv x.1 })=es:=by
   apply Array.ext';rw[Array.toList_modify,ChangeMaps.modify_eq_set _ _ _ _ h2];have:({ e0 with key:=kv x.1 } : MapEntry)=e0:=by rw[←h3]
   rw[this];exact WideElems.set_self _ _ _ h2
  have r1:(Instr.mapEntry 187 (.map (some b)) (kv x.1)).run Tryz.prog w=.ok (.tuple #[e0.val,goInt e0.born]) (ChangeMaps.setBlock w b (.map es clock)):=by
   simp[Instr.mapEntry,run_underlying Tryz.underlying187,MapKept.run_getObj_map hb,QbR.check w false hkey,h1,hj,h3,QbR.stays w hkey,hsame,MapKept.run_setObj_map _ hb,Result.andThen,ChangeMaps.setBlock]
  rw[r1,QeD hb]at he;simp only[Result.ok.injEq]at he;obtain⟨_,rfl⟩:=he;exact hl
theorem Qca {W W':World} {r:Option Nat} (h:W.drew.grownBy W' r):W.grownBy W' r:=⟨h.os,h.tape,h.output,h.size,h.block⟩
theorem Qis (n:Int):IntKind.i64.wrap n=wrap64 n:=by simp[IntKind.wrap,IntKind.bits,IntKind.signed,wrap64];split <;> omega
theorem slice_form {w:World} {B:Nat} {e:TypeId} {s n:Nat} {v:Value} {xs:List Value} (h:w.ownsRow B e s v n xs):∃a c,v=.slice a n c:=by
 rcases h.2 with ⟨h1,h2⟩ | ⟨g,cap,cur,h1,_⟩
 ·exact⟨none,0,by rw[h1,h2]⟩
 ·exact⟨_,cap,h1⟩
def Qav (l:List Tri):List Value:=l.flatMap Qar
theorem Qa0 (w:World) (c0 c1 c2:Value) (t:TypeId):∀j u,[c0,c1,c2][j]?=some u→(w.alloc (.cells #[c0,c1,c2] t)).cell? ((⟨w.heap.size,0,none⟩:Addr).add j)=some u:=by
 intro j u hu
 match j,hu with
 | 0,hu=>simp at hu;subst hu;simp[Addr.add]
 | 1,hu=>simp at hu;subst hu;simp[Addr.add]
 | 2,hu=>simp at hu;subst hu;simp[Addr.add]
 | j+3,hu=>simp at hu
theorem Qbf (l:List Tri) (x:Tri):Qav (l++[x])=Qav l++Qar x:=by simp[Qav]
theorem Qeg:(Tryz.prog.info? 52).map (fun i=>(i.zero,i.size,i.bytes))=some (some (.agg #[.int .i64 0,.int .i64 0,.int .i64 0]),3,24):=by kernel_rfl
theorem row_cell {w:World} {B:Nat} {e:TypeId} {s n c:Nat} {a:Option Addr} {xs:List Value} (h:w.ownsRow B e s (.slice a n c) n xs) {i:Nat} {u:Value} (hi:xs[i]?=some u):∃g,a=some ⟨g,0,none⟩∧g<w.heap.size∧w.cell? ⟨g,i,none⟩=some u:=by
 rcases h.2 with ⟨h1,h2⟩ | ⟨g,cap,cur,h1,_,hg,_,_,_,ht⟩
 ·exfalso
  have:=h.1;rw[h2,Nat.zero_mul]at this;have:xs=[]:=List.eq_nil_of_length_eq_zero this;rw[this]at hi;simp at hi
 ·simp only[Value.slice.injEq]at h1
  refine⟨g,h1.1,Qab hg,?_⟩
  have hil:i<n*s:=by
   have:=h.1;rcases Nat.lt_or_ge i xs.length with h' | h'
   ·omega
   ·rw[List.getElem?_eq_none h']at hi;cases hi
  rw[←ht,List.getElem?_take_of_lt hil]at hi;simp only[World.cell?,hg];simp only[Option.isSome_none,Bool.false_eq_true,if_false];rw[←Array.getElem?_toList,hi]
def NQ (R:Act→World→Prop):Exit→Act→World→Prop
 | .normal,a,w=>R a w
 | _,_,_=>False
theorem Qge {F:Fence} {n:Nat} {P:Program} {c:Code} {Q:Exit→Act→World→Prop} {a:Act} {w:World} (h:c.wpIn F n P (NQ (fun a w=>Q .normal a w)) a w):c.wpIn F n P Q a w :=
 Code.wpIn_mono (fun e a w hq=>by cases e <;> first | exact hq | exact hq.elim) h
theorem Qah {w:World} {base base':Nat} {e:TypeId} {size:Nat} {v:Value} {n:Nat} {xs:List Value} (h:w.ownsRow base e size v n xs) (hb:base'≤base):w.ownsRow base' e size v n xs :=
 ⟨h.1,h.2.imp id fun ⟨g,cap,cur,h1,h2,r⟩=>⟨g,cap,cur,h1,Vt hb h2,r⟩⟩
theorem QbE {w:World} {B n k s:Nat} {t t':TypeId} {v:Value} {xs:List Value} {C:Array Value} {fr:Nat × Nat} (h:w.ownsRow B t s v n xs) (hk:w.heap[k]?=some (.cells C t' fr)) (ht:t'≠t):some k≠v.ownBlock:=by
 rcases h.2 with ⟨rfl,_⟩ | ⟨g,cap,cur,rfl,_,hgb,_⟩
 ·simp[Value.ownBlock]
 ·intro e'
  obtain rfl:k=g:=by simpa[Value.ownBlock] using e'
  rw[hk]at hgb;simp at hgb;exact ht hgb.2.1
theorem QbO {w:World} {B n k s:Nat} {t:TypeId} {v:Value} {xs:List Value} {o:Obj} (h:w.ownsRow B t s v n xs) (hk:w.heap[k]?=some o) (ho:o.isCells=false):some k≠v.ownBlock:=by
 rcases h.2 with ⟨rfl,_⟩ | ⟨g,cap,cur,rfl,_,hgb,_⟩
 ·simp[Value.ownBlock]
 ·intro e'
  obtain rfl:k=g:=by simpa[Value.ownBlock] using e'
  rw[hk]at hgb;cases hgb;cases ho
theorem owns_two {w:World} {B B' n n' s s':Nat} {t t':TypeId} {v v':Value} {xs xs':List Value} (h:w.ownsRow B t s v n xs) (h':w.ownsRow B' t' s' v' n' xs') (ht:t≠t'):v.ownBlock=none∨v.ownBlock≠v'.ownBlock:=by
 rcases h.2 with ⟨rfl,_⟩ | ⟨g,cap,cur,rfl,_,hgb,_⟩
 ·left;rfl
 ·right
  intro e;exact(QbE h' hgb ht) e
def Qdp (ys:List R64) (ss:List K64):List Tri:=ss.map fun k=>⟨k.1.1,k.1.2,Qbs (QdB ys) k.1⟩
theorem Qkl {ys:List R64} {ss:List K64} {j:Nat} {x:K64} (h:ss[j]?=some x):(Qdp ys ss).take (j+1)=(Qdp ys ss).take j++[⟨x.1.1,x.1.2,Qbs (QdB ys) x.1⟩]:=by
 rw[VS];simp[Qdp,h]
theorem Qin (ys:List R64):∀x∈QdB ys,∃k:K64,QaS x=k.1:=by
 suffices h:∀l:List Tri,(∀x∈l,∃k:K64,QaS x=k.1)→∀x∈ys.foldl (fun l r=>Qby l r.1) l,∃k:K64,QaS x=k.1 from h [] (fun x hx=>by simp at hx)
 induction ys with
 | nil=>intro l h;exact h
 | cons r ys ih =>
  intro l h;refine ih _ fun x hx=>?_
  rcases Qfn hx with ⟨z,hz,e⟩ | e
  ·obtain⟨k,hk⟩:=h z hz
   exact⟨k,by rw[←e];exact hk⟩
  ·exact⟨r.k,e⟩
theorem Qk0 {ys:List R64} {ss:List K64} (hs:ss.Pairwise (fun x y=>ltK x.1 y.1)) (hm:∀x:K64,x∈ss↔Maps.has (Qco ys:DataW Unit) (Qcz x.1)=true):Qdp ys ss=QdB ys:=by
 have hr:=Qhc (H:=Unit) Qme ys;have e:Qdp ys ss=(ss.map (·.1)).map (fun k=>(⟨k.1,k.2,Qbs (QdB ys) k⟩:Tri)):=by simp[Qdp]
 rw[e];refine QfM hr.sorted (List.pairwise_map.2 hs) fun k=>?_
 constructor
 ·intro h
  obtain⟨x,hx,rfl⟩:=List.mem_map.1 h;exact(hr.has x).1 ((hm x).1 hx)
 ·rintro ⟨x,hx,rfl⟩
  obtain⟨k,hk⟩:=Qin ys x hx;rw[hk];exact List.mem_map.2 ⟨k,(hm k).2 ((hr.has k).2 ⟨x,hx,hk⟩),rfl⟩
structure Nst (w wr:World) (D:Nat) (ys:List R64) (ss:List K64) (v nv:Value) (j:Nat):Prop where
 row:wr.ownsRow w.heap.size 52 3 nv j (Qav ((Qdp ys ss).take j))
 keys:wr.ownsRow w.heap.size 175 2 v ss.length (QaZ ss)
 map:wr.ownsMap Tryz.prog 175 (plainElem (H:=Unit) Tryz.prog 2) w.heap.size ys.length (Qco ys)
 box:Boxed wr (w.heap.size+1) 187 (.map (some w.heap.size))
 dfr:wr.heap[D]?=some (.deferred (some []))
 below:Below w.heap.size w wr
theorem Nst.alloc {w wr:World} {D:Nat} {ys:List R64} {ss:List K64} {v nv:Value} {j:Nat} (h:Nst w wr D ys ss v nv j) (o:Obj):Nst w (wr.alloc o) D ys ss v nv j :=
 ⟨h.row.alloc _,h.keys.alloc _,h.map.alloc _,h.box.alloc _,(Vc _ _ _ (Qab h.dfr)).trans h.dfr,h.below.alloc h.below.size _⟩
theorem Nst.drew {w wr:World} {D:Nat} {ys:List R64} {ss:List K64} {v nv:Value} {j:Nat} (h:Nst w wr D ys ss v nv j):Nst w wr.drew D ys ss v nv j :=
 ⟨h.row,h.keys,h.map,h.box,h.dfr,h.below.drew⟩
theorem Nst.step {w wr w':World} {D:Nat} {ys:List R64} {ss:List K64} {v nv nv':Value} {j:Nat} (h:Nst w wr D ys ss v nv j) (ho:w'.ownsRow w.heap.size 52 3 nv' (j+1) (Qav ((Qdp ys ss).take (j+1)))) (hg:wr.grownBy w' nv.ownBlock):Nst w w' D ys ss v nv' (j+1):=by
 obtain⟨es,ck,hm,_⟩:=h.map;refine⟨ho,h.keys.kept hg ?_,h.map.kept hg (QbO h.row hm rfl),h.box.kept hg (QbE h.row h.box (by decide)),(hg.block D (Qab h.dfr) (QbO h.row h.dfr rfl)).trans h.dfr,h.below.grown hg h.below.size fun k e=>?_⟩
 ·exact owns_two h.keys h.row (by decide)
 ·rcases h.row.2 with ⟨e1,_⟩ | ⟨g,cap,cur,e1,hb,_⟩
  ·rw[e1]at e;simp[Value.ownBlock]at e
  ·rw[e1]at e;simp[Value.ownBlock]at e;omega
attribute [local go_sem] Oper.semAt_some
theorem QdQ (w:World) (p:Option Addr) (len cap:Nat) (xs:List Lin) (hlen:xs.length=len) (hreach:len≤1099511627776) (hxs:∀x∈xs,Qaw x) (hL:QjH w.heap.size w p xs) :
  Calls Tryz.prog 52 #[.slice p len cap] w fun e w'=>∃v,e=.returned v∧w'.ownsRow w.heap.size 52 3 v (QaD xs).length (Qav (QaD xs))∧Below w.heap.size w w':=by
 have hxc:∀x∈xs,(Lit.int .i64 x.c).wf=true:=fun x hx=>(hxs x hx).1
 have hmx:Tryz.prog.follows .mixedOrders=true:=by kernel_rfl
 refine(callsIn_wide (n:=9)).1 ?_;have hmm:=@run_makeMap Tryz.prog;have h9:1≤9:=by omega
 refine callsIn_of_wp_marks Tryz.func52 rfl trivial ?_ rfl;simp only[Tryz.ntmps52,List.size_toArray,VO,List.length_nil,Nat.reduceAdd,Nat.reduceSub,Array.replicate_succ,Array.replicate_zero,List.push_toArray,List.append_toArray,VU,List.cons_append]
 gi_wp2_with (refine⟨trivial,?_⟩;gi_at_call 102;refine(Qiy 8 p len cap _).mono ?_;rintro e w' ⟨rfl,rfl⟩)
 have hm0:=World.ownsMap_made w Tryz.prog 175 (plainElem (H:=Unit) Tryz.prog 2);have bS:=(Boxed.new (w.alloc (.map #[] 0)) 187 (.map (some w.heap.size))).alloc (.cells #[.slice p len cap] 46);have bN:=Boxed.new ((w.alloc (.map #[] 0)).alloc (.cells #[.map (some w.heap.size)] 187)) 46 (.slice p len cap);simp only[Vm]at bS bN;have hB0:Below w.heap.size w (((w.alloc (.map #[] 0)).alloc (.cells #[.map (some w.heap.size)] 187)).alloc (.cells #[.slice p len cap] 46)):=(((Below.refl _ w).alloc (Va _) _).alloc (by simp) _).alloc (by simp;omega) _
 refine wpIn_rangeFunc_ownH rfl h9 (gf:=170) (lb:=#[.pointer (some ⟨w.heap.size+1+1,0,none⟩)]) rfl trivial (enters_of Tryz.func170 (by kernel_rfl) rfl)
  (Qer 8 (by omega) (w.heap.size+1+1) w.heap.size p len cap xs hlen (by omega) hxs hxc _ (by simp) (by simp;omega) bN.cell (hL.below hB0)) belowK_t (belowK_b (by simp;omega)) bR (fun _=>rfl)
  (fun pre W=>(Boxed W (w.heap.size+1) 187 (.map (some w.heap.size))∧W.ownsMap Tryz.prog 175 (plainElem (H:=Unit) Tryz.prog 2) w.heap.size pre.length (Qco pre))∧Below w.heap.size w W)
  (fun _ _ _=>False)
  (OwnFrom.and (fun s A B row hs hg hr=>⟨Own.from (boxed_own _ _ (fun _=>_)) _ s A B row hs.1 hg hr,hs.2.kept hg (fun e=>by have:=(hr _ e.symm).1;simp at this;omega)⟩) (ownFrom_below (Va _) (by simp;omega)))
  (fun _ _ _ _ _ hs _ _=>hs)
  ⟨⟨bS,(hm0.alloc _).alloc _⟩,hB0⟩
  (fun x a' W=>∃Bx,W.heap[Bx]?=some (.cells #[.int .i64 x.1.a,.int .i64 x.1.b] 175 (0,0))∧a'={ tmps:=#[.slice p len cap,undef,.slice none 0 0,.pointer (some ⟨w.heap.size+1,0,none⟩),.pointer (some ⟨Bx,0,none⟩),.int .i64 x.1.n,undef,undef,undef,.map (some w.heap.size),.slice p len cap,.func (.func 170) #[] #[.pointer (some ⟨w.heap.size+1+1,0,none⟩)],kv (QaS x.1),.int .i64 x.1.n,undef,undef,undef,undef,undef,undef,undef,undef,undef,undef,undef,undef,undef,undef,undef,undef,undef,undef,undef,undef,undef,undef,undef,undef,undef,undef,undef,undef],defers:=[] })
  (fun x a' s X Y row hs hg hr=>by obtain⟨Bx,h1,h2⟩:=hs;exact⟨Bx,Own.from (Qd5 Bx _ _ _) _ s X Y row h1 hg hr,h2⟩) ?assign ?body ?done ?stop
 case assign =>
  rintro l pre x W K ⟨⟨hv,hown⟩,hB⟩ hK;simp only[QlW,kv,QaS]
  gi_wp2
  exact hK _ _ ((KeepsOthers.alloc _ _).from _) ((Below.refl _ W).alloc hB.size _) ⟨⟨hv.alloc _,hown.alloc _⟩,hB.alloc hB.size _⟩ ⟨W.heap.size,hNq _ _,rfl⟩
 case body =>
  rintro l pre x a' W hl ⟨r,hr⟩ ⟨⟨hv,hown⟩,hB⟩ ⟨Bx,hbx,rfl⟩ hlt;have hc:=hv.cell;obtain⟨e0,e1⟩:=ac2 hbx;have hpl:pre.length<maxLen:=by unfold maxLen;omega
  obtain⟨c,hlook,hat,hwc⟩:=(World.ownsMap.drew hown).lookup_int QaU Tryz.underlying187 Tryz.underlying2 (Tryz.zeroValue2 _) (Qcb x.k);obtain⟨v0,st,w1,hent,hst⟩:=Qei (World.ownsMap.drew hown) hpl x.k;have hlook1:=Qcv (World.ownsMap.drew hown) hpl x.k hlook hent;obtain⟨w2,hsto,hown2,hg2⟩:=hst (wrap64 (c+x.1.n)) (wrap64_wf _);simp only[R64.k,kv,QaS]at hlook hent hlook1;rw[←Qis]at hsto;have hg3:=Qca hg2;have hb1:w.heap.size<(((w.alloc (.map #[] 0)).alloc (.cells #[.map (some w.heap.size)] 187)).alloc (.cells #[.slice p len cap] 46)).heap.size:=by simp;omega
  have HF:Hid (KeepsFrom (((w.alloc (.map #[] 0)).alloc (.cells #[.map (some w.heap.size)] 187)).alloc (.cells #[.slice p len cap] 46)).heap.size W w2∧Below w.heap.size W w2∧(Boxed w2 (w.heap.size+1) 187 (.map (some w.heap.size))∧w2.ownsMap Tryz.prog 175 (plainElem (H:=Unit) Tryz.prog 2) w.heap.size (pre++[x]).length (Qco (pre++[x])))∧Below w.heap.size w w2):=by
   refine⟨KeepsFrom.of_grownBy hg3 (fun j e=>by cases e;exact hb1),(Below.refl _ W).grown hg3 hB.size (fun k e=>by cases e;exact Va _),⟨hv.kept hg3 (fun e=>by simp at e),?_⟩,hB.grown hg3 hB.size (fun k e=>by cases e;exact Va _)⟩;rw[QfO,VJ,QbN];rw[show Qcz (R64.k x).1=Qcz (QaS x.1) from rfl]at hat hown2;rw[hat];exact hown2
  clear hst hown2 hg2 hg3 hat hb1
  gi_wp2
  gi_region_with_o (fail)
  all_goals exact HF.out
 case done =>
  rintro D ys W hD hys ⟨⟨hv,hown⟩,hB⟩ hK;have hc:=hv.cell;have hsl:Maps.size (Qco ys:DataW Unit)≤len:=by have:=hown.size_le;rw[hys,QgE,hlen]at this;rw[hys];exact this
  have hWw:w.heap.size<W.heap.size:=hown.lt;have bK:=Boxed.new W 187 (.map (some w.heap.size))
  have HSt:=Qaa (QeU 8 (by omega) 174 #[.pointer (some ⟨W.heap.size,0,none⟩)] (enters_of Tryz.func174 (by kernel_rfl) rfl) (fun x=>Maps.has (Qco ys:DataW Unit) (Qcz x.1)=true) (fun _=>True) (Maps.size (Qco ys:DataW Unit)) (by unfold maxLen;omega) (by omega) (W.alloc (.cells #[.map (some w.heap.size)] 187))
   (Qhd 5 (by omega) W.heap.size w.heap.size ys.length (Qco ys) _ (by simp) bK.cell (hown.alloc _)))
  gi_wp2_with (first | (refine⟨trivial,?_⟩;gi_at_call 104;refine(Qlo 8 _ _).mono ?_;rintro e w' ⟨rfl,rfl⟩) | (refine⟨trivial,?_⟩;gi_at_call 103;refine HSt.out.mono ?_;rintro e w5 ⟨v,ss,rfl,hss,hmem,hsn,hrow,hb5⟩;obtain⟨vp,vc,rfl⟩:∃a c,v=.slice a ss.length c:=slice_form hrow))
  have hDw:D<W.heap.size:=Qab hK
  have HN0:Hid (Nst w w5 D ys ss (.slice vp ss.length vc) (.slice none 0 0) 0):=by
   have hbW:Below W.heap.size W w5:=((Below.refl _ W).alloc (Va _) _).trans (hb5.mono (by simp));have hsz:w.heap.size≤(W.alloc (.cells #[.map (some w.heap.size)] 187)).heap.size:=by simp;omega
   refine⟨VQ _ _ _ _,Qah hrow hsz,?_,?_,(hbW.block D hDw).trans hK,hB.trans (hbW.mono (by omega))⟩
   ·obtain⟨es,ck,h1,h2⟩:=hown
    exact⟨es,ck,(hbW.block _ hWw).trans h1,h2⟩
   ·exact(hbW.block _ hv.lt).trans hv
  have HR:=Qaa (Qhc (H:=Unit) Qme ys);obtain⟨HS,HM⟩:=Qmj hss hmem;have hsl2:ss.length≤1099511627776:=by omega
  have HY:=Qaa hys;have HDn:Hid (w.heap.size≤D):=by show _≤_;simp at hD;omega
  clear hrow hb5 hown hv hK hc bK HSt hB hss hmem hys hsl hsn hL hxs hD;obtain⟨i0,hi,hz0,hz1,hz2⟩:=info_parts Qeg
  gi_loopw [6,25] (fun nv i wr=>∃j:Nat,j≤ss.length∧i=.int .i64 j∧Hid (Nst w wr D ys ss (.slice vp ss.length vc) nv j)) (fun _ i _=>ss.length - (intOf i).toNat)
  case atStart=>exact⟨0,Vo _,rfl,HN0⟩
  case round =>
   obtain⟨j,hj,rfl,HN⟩:=hrel;obtain⟨na,nc,rfl⟩:=slice_form HN.out.row;by_cases hlt:j<ss.length
   ·have hlt':(j:Int)<(ss.length:Int):=by omega
    have i0':(0:Int)≤(j:Int):=by omega
    obtain⟨x,hx⟩:∃x,ss[j]?=some x:=⟨_,gE hlt⟩;obtain⟨g0,g1⟩:=Qep ss j x hx;obtain⟨gb,rfl,hgl,k0⟩:=row_cell HN.out.keys g0;obtain⟨gb',e',_,k1⟩:=row_cell HN.out.keys g1;simp only[Option.some.injEq,Addr.mk.injEq,and_true]at e';subst e';obtain⟨w6,hw6⟩:=exq (wr.alloc (.cells #[.int .i64 x.1.1,.int .i64 x.1.2] 175));have hN6:Nst w w6 D ys ss (.slice (some ⟨gb,0,none⟩) ss.length vc) (.slice na j nc) j:=by rw[←hw6];exact HN.out.alloc _
    have c0:w6.cell? ⟨wr.heap.size,0,none⟩=some (.int .i64 x.1.1):=by rw[←hw6];simp
    have c1:w6.cell? ⟨wr.heap.size,1,none⟩=some (.int .i64 x.1.2):=by rw[←hw6];simp
    have cb:=hN6.box.cell;obtain⟨c,hlook,hat,_⟩:=hN6.map.lookup_int QaU Tryz.underlying187 Tryz.underlying2 (Tryz.zeroValue2 _) (Qcb x);obtain⟨c',hlookd,hat',_⟩:=hN6.drew.map.lookup_int QaU Tryz.underlying187 Tryz.underlying2 (Tryz.zeroValue2 _) (Qcb x);obtain rfl:c'=c:=by rw[hat]at hat';simpa using hat'.symm
    rw[HR.out.at_ x]at hat;simp only[DataW.lit.injEq,Lit.int.injEq,true_and]at hat;simp only[kv]at hlook hlookd
    have HT:Hid (Qav ((Qdp ys ss).take j)++[.int .i64 x.1.1,.int .i64 x.1.2,.int .i64 c']=Qav ((Qdp ys ss).take (j+1))):=by
     show _=_;rw[Qkl hx,Qbf,hat];rfl
    have HN6:=Qaa hN6;have HB6:Hid (w6.heap[wr.heap.size]?=some (.cells #[.int .i64 x.1.1,.int .i64 x.1.2] 175 (0,0))):=by show _=_;rw[←hw6];exact hNq _ _
    have HW6:=Qaa hw6;clear hN6 g0 g1 hw6 hat hat' hx
    gi_wp2
    rw[HW6.out];refine Qge (wpIn_wide.2 ?_);go_region_held3 (fun w'=>w'.cell? ⟨wr.heap.size,0,none⟩=some (.int .i64 x.1.1)∧w'.cell? ⟨wr.heap.size,1,none⟩=some (.int .i64 x.1.2)∧w'.cell? ⟨w.heap.size+1,0,none⟩=some (.map (some w.heap.size))) (go_keep) (first | (refine step_append_lies _ (by rfl) (.tmp 29) (.tmp 38) 53 (by rfl) w.heap.size 52 i0 (.agg #[.int .i64 0,.int .i64 0,.int .i64 0]) 3 24 Tryz.underlying53 hi hz0 hz1 hz2 rfl (by omega) (.slice na j nc) j (Qav ((Qdp ys ss).take j)) (by rfl) (by first | exact(HN6.out.alloc _).row | exact(HN6.out.alloc _).drew.row) ⟨w6.heap.size,0,none⟩ 1 1 [.int .i64 x.1.1,.int .i64 x.1.2,.int .i64 c'] (by rfl) rfl (World.news_of_block (hNq w6 (.cells #[.int .i64 x.1.1,.int .i64 x.1.2,.int .i64 c'] 52))) (by simp[Value.oneCell']) (by omega) (by unfold maxLen;omega) (by omega) (by have:=(HN6.out.alloc (.cells #[] 0)).below.size;simp at this ⊢;omega) _ rfl ?_;intro g' cap' w7 hown7 hgrow7 hat7 hlt7;have hk7:w7.heap[wr.heap.size]?=_:=(hgrow7.block wr.heap.size (by have:=Qab HB6.out;simp;omega) (QbE HN6.out.row HB6.out (by decide))).trans ((Vc _ _ _ (Qab HB6.out)).trans HB6.out);obtain⟨z0,z1⟩:=ac2 hk7;have hx7:w7.heap[w.heap.size+1]?=_:=(hgrow7.block (w.heap.size+1) (by have:=HN6.out.box.lt;simp;omega) (QbE HN6.out.row HN6.out.box (by decide))).trans ((Vc _ _ _ HN6.out.box.lt).trans HN6.out.box);have z2:=Boxed.cell hx7;clear hk7 hx7;obtain⟨HO7,HG7⟩:=Qmj hown7 hgrow7;clear hown7 hgrow7 hat7 hlt7) | fail);dsimp only[NQ]
    have HN7:Hid (Nst w w7 D ys ss (.slice (some ⟨gb,0,none⟩) ss.length vc) (.slice (some ⟨g',0,none⟩) (j+1) cap') (j+1)):=by
     refine(HN6.out.alloc _).drew.step ?_ HG7.out;rw[←HT.out];exact HO7.out
    clear z0 z1 z2
    gi_wp2
    go_roundw;case rel=>exact⟨j+1,by omega,by go_num,HN7⟩
    case measure=>simp[intOf];omega
   ·have e1:¬(j:Int)<(ss.length:Int):=by omega
    obtain rfl:j=ss.length:=by omega
    have HE:=Qaa (Qk0 HS.out HM.out)
    gi_wp2
    refine⟨by simp,.inl ⟨_,_,rfl,run_takeDeferred HN.out.dfr,?_⟩⟩;refine⟨_,results_tmp rfl _ _ _,_,rfl,?_,HN.out.below.trans (belowK_b (w:=w) (Va _) wr D _ _ HDn.out HN.out.dfr rfl rfl)⟩;have hrow:=HN.out.row;have hlen':(Qdp ys ss).length=ss.length:=by simp[Qdp]
    rw[Vh (by rw[hlen'];exact Va _),←hlen',HE.out,HY.out,Qgx]at hrow;have h2:=ownsRow_putObj hrow (.deferred none) HN.out.dfr rfl;have hnl:(QaD xs).length=ss.length:=by rw[←hlen',HE.out,HY.out,Qgx]
    rw[hnl]at h2 ⊢;exact h2
 case stop =>
  rintro D c pre W _ _ h _;exact h.elim
end Go.Proofs.YtiogibfhafoapaaGreat
namespace Go.Proofs.YtiogibfhafoapaaGreat
open Go.RowKit
theorem Qgs (n:Int) (w:World):Calls Tryz.prog 106 #[.int .i64 n] w fun e w'=>e=.returned (.int .i64 (Qam n))∧w'=w:=by
 by_cases h:n<0;have HA:Hid (Qam n=0):=by show Qam n=0;simp[Qam,h]
 rotate_left;have HA:Hid (Qam n=1):=by show Qam n=1;simp[Qam,h]
 all_goals
  go_enter Tryz.func106,Tryz.ntmps106;go_wp2;go_ret;rw[HA.out];exact⟨rfl,rfl⟩
theorem QdK (n:Int) (hw:(Lit.int .i64 n).wf=true) (w:World) :
  Calls Tryz.prog 107 #[.int .i64 n] w fun e w'=>e=.returned (.int .u64 (QdD n))∧w'=w:=by
 simp[Lit.wf,IntKind.min,IntKind.max,IntKind.signed,IntKind.bits]at hw;by_cases h:n<0
 ·have HA:Hid (QdD n = -n):=by show QdD n = -n;simp[QdD,h]
  go_enter Tryz.func107,Tryz.ntmps107;go_wp2;go_ret;refine⟨?_,rfl⟩;rw[HA.out];simp;omega
 ·have HA:Hid (QdD n=n):=by show QdD n=n;simp[QdD,h]
  go_enter Tryz.func107,Tryz.ntmps107;go_wp2;go_ret;refine⟨?_,rfl⟩;rw[HA.out];rfl
structure Pst (w wr:World) (r:Tri) (out:List Tri) (ov:Value):Prop where
 row:wr.ownsRow (w.heap.size+1) 52 3 ov out.length (Qav out)
 box:wr.heap[w.heap.size]?=some (.cells #[.int .i64 r.a,.int .i64 r.b,.int .i64 r.n] 52 (0,0))
 below:Below w.heap.size w wr
theorem Pst.size {w wr:World} {r:Tri} {out:List Tri} {ov:Value} (h:Pst w wr r out ov):w.heap.size+1≤wr.heap.size:=Qab h.box
theorem Pst.far {w wr:World} {r:Tri} {out:List Tri} {ov:Value} (h:Pst w wr r out ov):some w.heap.size≠ov.ownBlock:=by
 rcases h.row.2 with ⟨e1,_⟩ | ⟨g,cap,cur,e1,hb,_⟩
 ·rw[e1];simp[Value.ownBlock]
 ·rw[e1];simp[Value.ownBlock];omega
theorem Pst.app1 {w wr w1:World} {r x:Tri} {out:List Tri} {ov ov':Value} {o:Obj} (h:Pst w wr r out ov) (ho:w1.ownsRow (w.heap.size+1) 52 3 ov' (out.length+1) (Qav out++Qar x)) (hg:(wr.alloc o).grownBy w1 ov.ownBlock):Pst w w1 r (out++[x]) ov':=by
 have hs:=h.size;refine⟨by rw[Qbf,VJ];exact ho,(hg.block _ (by simp;omega) h.far).trans ((Vc _ _ _ (by omega)).trans h.box),(h.below.alloc (by omega) _).grown hg (by simp;omega) fun k e=>?_⟩;rcases h.row.2 with ⟨e1,_⟩ | ⟨g,cap,cur,e1,hb,_⟩
 ·rw[e1]at e;simp[Value.ownBlock]at e
 ·rw[e1]at e;simp[Value.ownBlock]at e;omega
theorem Pst.kept {w wr w1:World} {r:Tri} {out:List Tri} {ov:Value} {o o':Obj} {b:Nat} (_:Pst w wr r out ov) (hb:wr.heap[b]?=some o') (hne:some b≠ov.ownBlock) (hg:(wr.alloc o).grownBy w1 ov.ownBlock):w1.heap[b]?=some o' :=
 (hg.block _ (by have:=Qab hb;simp;omega) hne).trans ((Vc _ _ _ (Qab hb)).trans hb)
theorem Pst.alloc {w wr:World} {r:Tri} {out:List Tri} {ov:Value} (h:Pst w wr r out ov) (o:Obj):Pst w (wr.alloc o) r out ov :=
 ⟨h.row.alloc _,(Vc _ _ _ (Qab h.box)).trans h.box,h.below.alloc h.below.size _⟩
theorem Pst.new {w wr:World} {r:Tri} {out:List Tri} {ov:Value} (h:Pst w wr r out ov):some wr.heap.size≠ov.ownBlock:=fun e=>absurd (Qds h.row e.symm) (Nat.lt_irrefl _)
theorem Pst.set {w wr:World} {r:Tri} {out:List Tri} {ov:Value} {b i:Nat} (h:Pst w wr r out ov) (hne:some b≠ov.ownBlock) (hb:w.heap.size<b) (v:Value):Pst w (wr.setCell ⟨b,i,none⟩ v) r out ov :=
 ⟨Qas h.row (fun g hg=>Below.heap_setCell _ _ _ _ (fun e=>hne (by have e':g=b:=e;rw[←e'];exact hg.symm))),(Below.heap_setCell _ _ _ _ (fun e=>by have e':w.heap.size=b:=e;omega)).trans h.box,h.below.setCell (p:=⟨b,i,none⟩) (by show w.heap.size≤b;omega) _⟩
theorem Qln {α:Type} {l:List α} {j:Nat} {x:α} (h:l[j]?=some x):l.drop j=x :: l.drop (j+1):=by
 rcases Nat.lt_or_ge j l.length with hj | hj
 ·rw[gE hj]at h
  cases h;exact List.drop_eq_getElem_cons hj
 ·rw[List.getElem?_eq_none hj]at h;cases h
theorem Qls (w:World) (p:Option Addr) (len cap:Nat) (l:List Tri) (ra rb rn:Int) (hl:l.length=len) (hb:len≤1099511627776) (hc:Cel w p 3 (l.map Qar)) :
  Calls Tryz.prog 108 #[.slice p len cap,.agg #[.int .i64 ra,.int .i64 rb,.int .i64 rn]] w fun e w'=>∃v,e=.returned v∧w'.ownsRow w.heap.size 52 3 v (Qby l ⟨ra,rb,rn⟩).length (Qav (Qby l ⟨ra,rb,rn⟩))∧Below w.heap.size w w':=by
 have HC:=Qaa hc;clear hc;obtain⟨i0,hi,hz0,hz1,hz2⟩:=info_parts Qeg;have HP0:Hid (Pst w (w.alloc (.cells #[.int .i64 ra,.int .i64 rb,.int .i64 rn] 52)) ⟨ra,rb,rn⟩ [] (.slice none 0 0)):=⟨VQ _ _ _ _,hNq _ _,bR.alloc (Va _) _⟩;go_enter Tryz.func108,Tryz.ntmps108;go_wp2;go_loopw [5,6,7] (fun ov lv i wr=>∃(j:Nat) (out:List Tri) (laid:Bool),j≤len∧i=.int .i64 j∧lv=.bool laid∧out.length≤2*j∧Hid (Pst w wr ⟨ra,rb,rn⟩ out ov)∧Hid (Qby l ⟨ra,rb,rn⟩=out++(if laid=true then l.drop j else Qby (l.drop j) ⟨ra,rb,rn⟩))) (fun _ _ i _=>len - (intOf i).toNat);case atStart=>exact⟨0,[],false,Vo _,rfl,rfl,by simp,HP0,by show _=_;simp⟩
 case round =>
  obtain⟨j,out,laid,hj,rfl,rfl,hol,HP,HI⟩:=hrel;obtain⟨oa,oc,rfl⟩:=slice_form HP.out.row;have hws:=HP.out.size;by_cases hlt:j<len
  ·have hlt':(j:Int)<(len:Int):=by omega
   have i0':(0:Int)≤(j:Int):=by omega
   obtain⟨x,hx⟩:∃x,l[j]?=some x:=⟨_,gE (by omega)⟩;obtain⟨b,o,rfl,hbl,hcl⟩:=HC.out.get (i:=j) (r:=Qar x) (by simp[hx]);have f:∀i v,(Qar x)[i]?=some v→wr.cell? ⟨b,o+j*3+i,none⟩=some v:=fun i v hv=>(HP.out.below.cell (p:=⟨b,o+j*3+i,none⟩) hbl).trans (hcl i v hv)
   have a0:=f 0 _ rfl;have a1:=f 1 _ rfl;have a2:=f 2 _ rfl;rw[Vr]at a0;have HD:=Qaa (Qln hx);obtain⟨xa,xb,xn⟩:=x;simp only at a0 a1 a2;obtain⟨w6,hw6⟩:=exq (wr.alloc (.cells #[.int .i64 xa,.int .i64 xb,.int .i64 xn] 52));have hb6:w6.heap[wr.heap.size]?=some (.cells #[.int .i64 xa,.int .i64 xb,.int .i64 xn] 52 (0,0)):=by rw[←hw6];exact hNq _ _
   have HP6:Hid (Pst w w6 ⟨ra,rb,rn⟩ out (.slice oa out.length oc)):=by rw[←hw6];exact HP.out.alloc _
   obtain⟨c0,c1,c2⟩:=ac3 hb6;obtain⟨d0,d1,d2⟩:=ac3 HP6.out.box;obtain⟨HNe,HB6,HW6⟩:=Qmk HP.out.new hb6 hw6;clear f hcl hx hb6 hw6
   cases laid with
   | true =>
    go_upto_region 7 with (fail);rw[HW6.out];go_wp2_with (at_builtin;refine wpList_append_lies _ rfl (.tmp 68) (.tmp 70) 53 rfl (w.heap.size+1) 52 i0 (.agg #[.int .i64 0,.int .i64 0,.int .i64 0]) 3 24 Tryz.underlying53 hi hz0 hz1 hz2 rfl (by omega) _ _ _ rfl (HP6.out.row.alloc _) ⟨w6.heap.size,0,none⟩ 1 1 [.int .i64 xa,.int .i64 xb,.int .i64 xn] rfl rfl (Qa0 _ _ _ _ _) (by simp[Value.oneCell']) (by omega) (by unfold maxLen;omega) (by omega) (by have:=HP6.out.size;simp;omega) _ rfl ?_;intro g1 c1 w1 hown1 hgrow1 hat1 hlt1;have HP1:=Qaa (HP6.out.app1 (x:=⟨xa,xb,xn⟩) hown1 hgrow1);clear hown1 hgrow1 hat1 hlt1)
    go_roundw;case rel=>exact⟨j+1,_,true,by omega,by go_num,rfl,by rw[VJ];simp;omega,HP1,by show _=_;rw[HI.out,if_pos rfl,if_pos rfl,HD.out];simp⟩
    case measure=>simp[intOf];omega
   | false =>
    by_cases hk:xa=ra∧xb=rb
    ·obtain⟨h1,h2⟩:=hk
     subst h1 h2;have hcf:w6.frozen? ⟨wr.heap.size,2,none⟩=false:=by simp[World.frozen?,HB6.out]
     have HPb:=Qaa (HP6.out.set (i:=2) HNe.out (by omega) (.int .i64 (wrap64 (xn+rn))));go_upto_region 7 with (fail);rw[HW6.out];go_wp2_with (at_builtin;refine wpList_append_lies _ rfl (.tmp 68) (.tmp 70) 53 rfl (w.heap.size+1) 52 i0 (.agg #[.int .i64 0,.int .i64 0,.int .i64 0]) 3 24 Tryz.underlying53 hi hz0 hz1 hz2 rfl (by omega) _ _ _ rfl (HPb.out.row.alloc _) ⟨w6.heap.size,0,none⟩ 1 1 [.int .i64 xa,.int .i64 xb,.int .i64 (wrap64 (xn+rn))] rfl rfl (by have h:=Qa0 (w6.setCell ⟨wr.heap.size,2,none⟩ (.int .i64 (wrap64 (xn+rn)))) (.int .i64 xa) (.int .i64 xb) (.int .i64 (wrap64 (xn+rn))) 52;rw[World.size_setCell]at h;exact h) (by simp[Value.oneCell']) (by omega) (by unfold maxLen;omega) (by omega) (by have:=HP6.out.size;simp;omega) _ rfl ?_;intro g1 c1 w1 hown1 hgrow1 hat1 hlt1;have HP1:=Qaa (HPb.out.app1 (x:=⟨xa,xb,(wrap64 (xn+rn))⟩) hown1 hgrow1);clear hown1 hgrow1 hat1 hlt1)
     go_roundw;case rel=>exact⟨j+1,_,true,by omega,by go_num,rfl,by rw[VJ];simp;omega,HP1,by show _=_;rw[HI.out,HD.out];simp[Qby]⟩
     case measure=>simp[intOf];omega
    ·by_cases hr:ra<xa∨(ra=xa∧rb<xb)
     ·have HQ:Hid (Qby (⟨xa,xb,xn⟩ :: l.drop (j+1)) ⟨ra,rb,rn⟩=⟨ra,rb,rn⟩ :: ⟨xa,xb,xn⟩ :: l.drop (j+1)):=by show _=_;rw[Qby,if_neg hk,if_pos hr]
      have HREL:Hid (Qby l ⟨ra,rb,rn⟩=(out++[⟨ra,rb,rn⟩]++[⟨xa,xb,xn⟩])++(if true=true then l.drop (j+1) else Qby (l.drop (j+1)) ⟨ra,rb,rn⟩)):=by show _=_;rw[HI.out,HD.out,if_pos rfl,if_neg (by simp),HQ.out];simp
      rcases hr with hr | ⟨hr,hr2⟩
      ·have n1:¬xa=ra:=by omega
       clear hk;go_upto_region 7 with (fail);rw[HW6.out];go_wp2_with (first | (at_builtin;refine wpList_append_lies _ rfl (.tmp 68) (.tmp 70) 53 rfl (w.heap.size+1) 52 i0 (.agg #[.int .i64 0,.int .i64 0,.int .i64 0]) 3 24 Tryz.underlying53 hi hz0 hz1 hz2 rfl (by omega) _ _ _ rfl (HP1.out.row.alloc _) ⟨w1.heap.size,0,none⟩ 1 1 [.int .i64 xa,.int .i64 xb,.int .i64 xn] rfl rfl (Qa0 _ _ _ _ _) (by simp[Value.oneCell']) (by omega) (by unfold maxLen;omega) (by omega) (by have:=HP1.out.size;simp;omega) _ rfl ?_;intro g2 c2 w2 hown2 hgrow2 hat2 hlt2;have HP2:=Qaa (HP1.out.app1 (x:=⟨xa,xb,xn⟩) hown2 hgrow2);clear hown2 hgrow2 hat2 hlt2) | (at_builtin;refine wpList_append_lies _ rfl (.tmp 64) (.tmp 66) 53 rfl (w.heap.size+1) 52 i0 (.agg #[.int .i64 0,.int .i64 0,.int .i64 0]) 3 24 Tryz.underlying53 hi hz0 hz1 hz2 rfl (by omega) _ _ _ rfl (HP6.out.row.alloc _) ⟨w6.heap.size,0,none⟩ 1 1 [.int .i64 ra,.int .i64 rb,.int .i64 rn] rfl rfl (Qa0 _ _ _ _ _) (by simp[Value.oneCell']) (by omega) (by unfold maxLen;omega) (by omega) (by have:=HP6.out.size;simp;omega) _ rfl ?_;intro g1 c1 w1 hown1 hgrow1 hat1 hlt1;have HP1:=Qaa (HP6.out.app1 (x:=⟨ra,rb,rn⟩) hown1 hgrow1);have hl1:(out++[(⟨ra,rb,rn⟩:Tri)]).length=out.length+1:=(by simp);obtain⟨e0,e1,e2⟩:=ac3 (HP6.out.kept HB6.out HNe.out hgrow1);clear hown1 hgrow1 hat1 hlt1))
       go_roundw;case rel=>exact⟨j+1,_,true,by omega,by go_num,rfl,by rw[VJ,hl1];simp;omega,by rw[hl1]at HP2;exact HP2,HREL⟩
       case measure=>simp[intOf];omega
      ·subst hr
       have n1:¬xb=rb:=by omega
       clear hk;go_upto_region 7 with (fail);rw[HW6.out];go_wp2_with (first | (at_builtin;refine wpList_append_lies _ rfl (.tmp 68) (.tmp 70) 53 rfl (w.heap.size+1) 52 i0 (.agg #[.int .i64 0,.int .i64 0,.int .i64 0]) 3 24 Tryz.underlying53 hi hz0 hz1 hz2 rfl (by omega) _ _ _ rfl (HP1.out.row.alloc _) ⟨w1.heap.size,0,none⟩ 1 1 [.int .i64 ra,.int .i64 xb,.int .i64 xn] rfl rfl (Qa0 _ _ _ _ _) (by simp[Value.oneCell']) (by omega) (by unfold maxLen;omega) (by omega) (by have:=HP1.out.size;simp;omega) _ rfl ?_;intro g2 c2 w2 hown2 hgrow2 hat2 hlt2;have HP2:=Qaa (HP1.out.app1 (x:=⟨ra,xb,xn⟩) hown2 hgrow2);clear hown2 hgrow2 hat2 hlt2) | (at_builtin;refine wpList_append_lies _ rfl (.tmp 64) (.tmp 66) 53 rfl (w.heap.size+1) 52 i0 (.agg #[.int .i64 0,.int .i64 0,.int .i64 0]) 3 24 Tryz.underlying53 hi hz0 hz1 hz2 rfl (by omega) _ _ _ rfl (HP6.out.row.alloc _) ⟨w6.heap.size,0,none⟩ 1 1 [.int .i64 ra,.int .i64 rb,.int .i64 rn] rfl rfl (Qa0 _ _ _ _ _) (by simp[Value.oneCell']) (by omega) (by unfold maxLen;omega) (by omega) (by have:=HP6.out.size;simp;omega) _ rfl ?_;intro g1 c1 w1 hown1 hgrow1 hat1 hlt1;have HP1:=Qaa (HP6.out.app1 (x:=⟨ra,rb,rn⟩) hown1 hgrow1);have hl1:(out++[(⟨ra,rb,rn⟩:Tri)]).length=out.length+1:=(by simp);obtain⟨e0,e1,e2⟩:=ac3 (HP6.out.kept HB6.out HNe.out hgrow1);clear hown1 hgrow1 hat1 hlt1))
       go_roundw;case rel=>exact⟨j+1,_,true,by omega,by go_num,rfl,by rw[VJ,hl1];simp;omega,by rw[hl1]at HP2;exact HP2,HREL⟩
       case measure=>simp[intOf];omega
     ·have HREL:Hid (Qby l ⟨ra,rb,rn⟩=(out++[⟨xa,xb,xn⟩])++(if false=true then l.drop (j+1) else Qby (l.drop (j+1)) ⟨ra,rb,rn⟩)):=by show _=_;rw[HI.out,HD.out,if_neg (by simp),if_neg (by simp),Qby,if_neg hk,if_neg hr];simp
      by_cases n0:xa=ra;subst n0;have n1:¬xb=rb:=fun e=>hk ⟨rfl,e⟩
      have n2:¬rb<xb:=fun e=>hr (Or.inr ⟨rfl,e⟩)
      rotate_left;have n2:¬ra<xa:=fun e=>hr (Or.inl e)
      all_goals
       clear hk hr;go_upto_region 7 with (fail);rw[HW6.out];go_wp2_with (at_builtin;refine wpList_append_lies _ rfl (.tmp 68) (.tmp 70) 53 rfl (w.heap.size+1) 52 i0 (.agg #[.int .i64 0,.int .i64 0,.int .i64 0]) 3 24 Tryz.underlying53 hi hz0 hz1 hz2 rfl (by omega) _ _ _ rfl (HP6.out.row.alloc _) ⟨w6.heap.size,0,none⟩ 1 1 [.int .i64 xa,.int .i64 xb,.int .i64 xn] rfl rfl (Qa0 _ _ _ _ _) (by simp[Value.oneCell']) (by omega) (by unfold maxLen;omega) (by omega) (by have:=HP6.out.size;simp;omega) _ rfl ?_;intro g1 c1 w1 hown1 hgrow1 hat1 hlt1;have HP1:=Qaa (HP6.out.app1 (x:=⟨xa,xb,xn⟩) hown1 hgrow1);clear hown1 hgrow1 hat1 hlt1)
       go_roundw;case rel=>exact⟨j+1,_,false,by omega,by go_num,rfl,by rw[VJ];simp;omega,HP1,HREL⟩
       case measure=>simp[intOf];omega
  ·have e1:¬(j:Int)<(len:Int):=by omega
   have hjl:l.drop j=[]:=List.drop_of_length_le (by omega)
   cases laid with
   | true =>
    have HE:Hid (Qby l ⟨ra,rb,rn⟩=out):=by show _=_;rw[HI.out,if_pos rfl,hjl,List.append_nil]
    go_wp2;go_ret;refine⟨_,rfl,?_,HP.out.below⟩;rw[HE.out];exact Qah HP.out.row (by omega)
   | false =>
    have HE:Hid (Qby l ⟨ra,rb,rn⟩=out++[⟨ra,rb,rn⟩]):=by show _=_;rw[HI.out,hjl];rfl
    obtain⟨d0,d1,d2⟩:=ac3 HP.out.box;go_wp2_with (at_builtin;refine wpList_append_lies _ rfl (.tmp 74) (.tmp 76) 53 rfl (w.heap.size+1) 52 i0 (.agg #[.int .i64 0,.int .i64 0,.int .i64 0]) 3 24 Tryz.underlying53 hi hz0 hz1 hz2 rfl (by omega) _ _ _ rfl (HP.out.row.alloc _) ⟨wr.heap.size,0,none⟩ 1 1 [.int .i64 ra,.int .i64 rb,.int .i64 rn] rfl rfl (Qa0 _ _ _ _ _) (by simp[Value.oneCell']) (by omega) (by unfold maxLen;omega) (by omega) (by have:=HP.out.size;simp;omega) _ rfl ?_;intro g1 c1 w1 hown1 hgrow1 hat1 hlt1;have HP1:=Qaa (HP.out.app1 (x:=⟨ra,rb,rn⟩) hown1 hgrow1);clear hown1 hgrow1 hat1 hlt1)
    go_ret;refine⟨_,rfl,?_,HP1.out.below⟩;rw[HE.out,VJ];have h:=HP1.out.row;rw[VJ]at h;exact Qah h (by omega)
theorem Qhl (l:List Tri):∀(i:Nat) (x:Tri),l[i]?=some x→∀(j:Nat) (v:Value),(Qar x)[j]?=some v→(Qav l)[i*3+j]?=some v:=by
 induction l with
 | nil=>intro i x h;simp at h
 | cons y l ih =>
  intro i x h j v hv;have e:Qav (y :: l)=.int .i64 y.a :: .int .i64 y.b :: .int .i64 y.n :: Qav l:=rfl
  cases i with
  | zero =>
   simp at h;subst h;rw[e,Nat.zero_mul,Nat.zero_add]
   match j,hv with
   | 0,hv=>exact hv
   | 1,hv=>exact hv
   | 2,hv=>exact hv
   | j+3,hv=>simp[Qar]at hv
  | succ i =>
   have:=ih i x (by simpa using h) j v hv;rw[e,show (i+1)*3+j=i*3+j+1+1+1 by omega];rw[List.getElem?_cons_succ,List.getElem?_cons_succ,List.getElem?_cons_succ];exact this
theorem cel_row {w:World} {B n c:Nat} {a:Option Addr} {l:List Tri} {e:TypeId} (h:w.ownsRow B e 3 (.slice a n c) n (Qav l)):Cel w a 3 (l.map Qar):=by
 cases l with
 | nil=>exact Or.inl rfl
 | cons y l =>
  obtain⟨g,e1,hg,_⟩:=row_cell h (i:=0) (u:=.int .i64 y.a) rfl;refine Or.inr ⟨g,0,e1,hg,fun i r hr j v hv=>?_⟩;rw[Vb]at hr
  cases hx:(y :: l)[i]? with
  | none=>rw[hx]at hr;simp at hr
  | some x =>
   rw[hx]at hr;simp at hr;subst hr;obtain⟨g',e2,_,hc⟩:=row_cell h (Qhl _ i x hx j v hv);rw[e1]at e2;cases e2;rw[Nat.zero_add];exact hc
theorem Qkd (l:List Tri) (r:Tri):(Qby l r).length≤l.length+1:=by
 induction l with
 | nil=>simp[Qby]
 | cons x l ih =>
  unfold Qby;split
  ·simp
  ·split
   ·simp
   ·simp;omega
theorem Qcx (xs:List Lin):(QaD xs).length≤xs.length:=by
 suffices h:∀l:List Tri,(xs.foldl (fun l x=>Qby l (QaL x)) l).length≤l.length+xs.length by have:=h [];rw[List.length_nil,Nat.zero_add]at this;exact this
 induction xs with
 | nil=>intro l;simp
 | cons x xs ih=>intro l;have h1:=ih (Qby l (QaL x));have h2:=Qkd l (QaL x);simp only[VI,VO];omega
theorem Qhk {xs:List Lin} {j:Nat} {x:Lin} (h:xs[j]?=some x):QaD (xs.take (j+1))=Qby (QaD (xs.take j)) (QaL x):=by rw[take_snoc h,QhB]
theorem Qej (w:World) (p:Option Addr) (len cap:Nat) (xs:List Lin) (hlen:xs.length=len) (hreach:len≤1099511627776) (hxs:∀x∈xs,Qaw x) (hL:QjH w.heap.size w p xs) :
  Calls Tryz.prog 53 #[.slice p len cap] w fun e w'=>∃v,e=.returned v∧w'.ownsRow w.heap.size 52 3 v (QaD xs).length (Qav (QaD xs))∧Below w.heap.size w w':=by
 obtain⟨HL,HX⟩:=Qmj hL hxs;clear hL hxs;go_enter Tryz.func53,Tryz.ntmps53;go_wp2;go_loopw [3,4] (fun ov i wr=>∃j:Nat,j≤len∧i=.int .i64 j∧Hid (wr.ownsRow w.heap.size 52 3 ov (QaD (xs.take j)).length (Qav (QaD (xs.take j))))∧Hid (Below w.heap.size w wr)) (fun _ i _=>len - (intOf i).toNat);case atStart=>exact⟨0,Vo _,rfl,VQ _ _ _ _,bR⟩
 case round =>
  obtain⟨j,hj,rfl,HR,HB⟩:=hrel;obtain⟨oa,oc,rfl⟩:=slice_form HR.out;by_cases hlt:j<len
  ·have hlt':(j:Int)<(len:Int):=by omega
   have i0':(0:Int)≤(j:Int):=by omega
   obtain⟨x,hx⟩:∃x,xs[j]?=some x:=⟨_,gE (by omega)⟩;obtain⟨b,o,rfl,hb,hcl⟩:=(HL.out.below HB.out).resolve_left (by intro e;rw[e]at hx;simp at hx);obtain⟨a0,a1⟩:=hcl j x hx;have hwf:=HX.out x (mG hx);have HT:=Qaa (Qhk hx);obtain⟨xc,xn⟩:=x;simp only at a0 a1;have HWy:=Qaa (fun W'=>Qgs xn W');have HAm:=Qaa (fun W'=>QdK xn hwf.2 W');have HCv:=Qaa (QdH xn hwf.2);have hbw:=VL hb HB.out.size;have hn1:=World.new_ne wr _ a0;have hn2:=World.new_ne wr _ a1;obtain⟨w6,hw6⟩:=exq ((wr.alloc (.cells #[.int .i64 xc,.int .i64 (Qam xn),.int .i64 (Qbh xn)] 52)).drew);have hb6:w6.heap[wr.heap.size]?=some (.cells #[.int .i64 xc,.int .i64 (Qam xn),.int .i64 (Qbh xn)] 52 (0,0)):=by rw[←hw6];exact hNq wr _
   have hB6:Below w.heap.size w w6:=by rw[←hw6];exact(HB.out.alloc HB.out.size _).drew
   have hr6:w6.ownsRow w.heap.size 52 3 (.slice oa (QaD (xs.take j)).length oc) (QaD (xs.take j)).length (Qav (QaD (xs.take j))):=by rw[←hw6];exact HR.out.alloc _
   obtain⟨c0,c1,c2⟩:=ac3 hb6;have hnl:(QaD (xs.take j)).length≤j:=Vt (Qcx _) (by rw[List.length_take];omega);have HPut:=Qaa (Qls w6 oa (QaD (xs.take j)).length oc (QaD (xs.take j)) xc (Qam xn) (Qbh xn) rfl (by omega) (cel_row hr6));obtain⟨HB6,HW6⟩:=Qmj hB6 hw6;clear hcl hx hwf hb6 hr6 hB6 hw6;go_upto_region 5 with (fail);go_region_held3 (fun w'=>w'.cell? ⟨b,o+j*2,none⟩=some (.int .i64 xc)∧w'.cell? ⟨b,o+j*2+1,none⟩=some (.int .i64 xn)) (go_keep) (first | (go_at_call 106;refine(HWy.out _).mono ?_;rintro e w3 ⟨rfl,rfl⟩) | (go_at_call 107;refine(HAm.out _).mono ?_;rintro e w3 ⟨rfl,rfl⟩) | fail)
   all_goals (
    rw[HCv.out,HW6.out];go_wp2_with (go_at_call 108;refine HPut.out.mono ?_;rintro e w7 ⟨v,rfl,hr7,hb7⟩;have HR7:=Qaa (Qah hr7 HB6.out.size);have HB7:=Qaa (HB6.out.trans (hb7.mono HB6.out.size));clear hr7 hb7)
    go_roundw;case rel=>exact⟨j+1,by omega,by go_num,by rw[HT.out];exact HR7,HB7⟩
    case measure=>simp[intOf];omega)
  ·have e1:¬(j:Int)<(len:Int):=by omega
   obtain rfl:j=len:=by omega
   go_wp2;go_ret;have h:=HR.out;rw[Vh (by omega)]at h;exact⟨_,rfl,by rw[Vh (by omega)];exact h,HB.out⟩
theorem Qda {a b:Bool} (h:a=b):Ending.returned (.bool b)=.returned (.bool a):=by rw[h]
theorem Qim {a b c d:Int} (h:¬((⟨a,b⟩:Lin)=⟨c,d⟩)):¬a=c∨(a=c∧¬b=d):=by
 by_cases h1:a=c
 ·refine Or.inr ⟨h1,fun h2=>h (by rw[h1,h2])⟩
 ·exact Or.inl h1
theorem Qgb {α:Type} {xs ys:List α} {j:Nat} {x y:α} (hx:xs[j]?=some x) (hy:ys[j]?=some y) (h:¬x=y):¬xs=ys:=fun e=>by
 rw[e,hy]at hx;cases hx;exact h rfl
theorem Qa6 (w:World) (p q:Option Addr) (n m cap cap':Nat) (xs ys:List Lin) (hn:xs.length=n) (hm:ys.length=m) (hnl:n≤140737488355328) (hc:Cel w p 2 (xs.map Qal)) (hd:Cel w q 2 (ys.map Qal)) (A:Bool) (hA:A=true↔xs=ys) :
  Calls Tryz.prog 25 #[.slice p n cap,.slice q m cap'] w fun e w'=>e=.returned (.bool A)∧Below w.heap.size w w':=by
 obtain⟨HC,HD,HA⟩:=Qmk hc hd hA;clear hc hd hA;by_cases hl:n=m
 ·subst hl
  go_enter Tryz.func25,Tryz.ntmps25;go_wp2;go_loopw [5] (fun i wr=>∃j:Nat,j≤n∧i=.int .i64 j∧Hid (Below w.heap.size w wr)∧Hid (xs.take j=ys.take j)) (fun i _=>n - (intOf i).toNat);case atStart=>exact⟨0,Vo _,rfl,bR,rfl⟩
  case round =>
   obtain⟨j,hj,rfl,HBr,HT⟩:=hrel;by_cases hlt:j<n
   ·have hlt':(j:Int)<(n:Int):=by omega
    have i0:(0:Int)≤(j:Int):=by omega
    obtain⟨x,hx⟩:∃x,xs[j]?=some x:=⟨_,gE (by omega)⟩;obtain⟨y,hy⟩:∃y,ys[j]?=some y:=⟨_,gE (by omega)⟩;obtain⟨b,o,rfl,hbl,hcl⟩:=HC.out.get (i:=j) (r:=Qal x) (by simp[hx]);obtain⟨b',o',rfl,hbl',hcl'⟩:=HD.out.get (i:=j) (r:=Qal y) (by simp[hy]);have f:∀i v,(Qal x)[i]?=some v→wr.cell? ⟨b,o+j*2+i,none⟩=some v:=fun i v hv=>(HBr.out.cell (p:=⟨b,o+j*2+i,none⟩) hbl).trans (hcl i v hv)
    have f':∀i v,(Qal y)[i]?=some v→wr.cell? ⟨b',o'+j*2+i,none⟩=some v:=fun i v hv=>(HBr.out.cell (p:=⟨b',o'+j*2+i,none⟩) hbl').trans (hcl' i v hv)
    have a0:=f 0 _ rfl;have a1:=f 1 _ rfl;have b0:=f' 0 _ rfl;have b1:=f' 1 _ rfl;rw[Vr]at a0 b0;obtain⟨xc,xn⟩:=x;obtain⟨yc,yn⟩:=y;simp only at a0 a1 b0 b1;clear f f' hcl hcl';have HBd:Hid (Below w.heap.size w wr.drew):=HBr.out.drew;by_cases he:(⟨xc,xn⟩:Lin)=⟨yc,yn⟩
    ·cases he
     have HT2:Hid (xs.take (j+1)=ys.take (j+1)):=by show _=_;rw[VS,VS,hx,hy,HT.out]
     go_upto_region 6 with (fail);go_region;go_wp2;go_roundw;case rel=>exact⟨j+1,by omega,by go_num,HBd,HT2⟩
     case measure=>simp[intOf];omega
    ·have HF:Hid (A=false):=by
      show A=false
      cases hAA:A with
      | false=>rfl
      | true=>exact(Qgb hx hy he (HA.out.1 hAA)).elim
     rcases Qim he with h1 | ⟨h1,h2⟩
     ·go_upto_region 6 with (fail)
      go_region;all_goals go_wp2
      all_goals go_ret
      all_goals exact⟨Qda HF.out,HBd.out⟩
     ·subst h1
      go_upto_region 6 with (fail);go_region;all_goals go_wp2
      all_goals go_ret
      all_goals exact⟨Qda HF.out,HBd.out⟩
   ·have e1:¬(j:Int)<(n:Int):=by omega
    have HT':Hid (A=true):=HA.out.2 (by have h:=HT.out;rw[Vh (by omega),Vh (by omega)]at h;exact h);go_wp2;go_ret;exact⟨Qda HT'.out,HBr.out⟩
 ·have hl':¬(n:Int)=(m:Int):=by omega
  have HF:Hid (A=false):=by
   show A=false
   cases hAA:A with
   | false=>rfl
   | true=>exact(hl (by rw[←hn,←hm,HA.out.1 hAA])).elim
  go_enter Tryz.func25,Tryz.ntmps25;go_wp2;go_ret;exact⟨Qda HF.out,bR⟩
theorem Qfq {a b c d e f:Int} (h:¬((⟨a,b,c⟩:Tri)=⟨d,e,f⟩)):¬a=d∨(a=d∧¬b=e)∨(a=d∧b=e∧¬c=f):=by
 by_cases h1:a=d
 ·by_cases h2:b=e
  ·exact Or.inr (Or.inr ⟨h1,h2,fun h3=>h (by rw[h1,h2,h3])⟩)
  ·exact Or.inr (Or.inl ⟨h1,h2⟩)
 ·exact Or.inl h1
theorem Qdw (w:World) (p q:Option Addr) (n m cap cap':Nat) (xs ys:List Tri) (hn:xs.length=n) (hm:ys.length=m) (hnl:n≤140737488355328) (hc:Cel w p 3 (xs.map Qar)) (hd:Cel w q 3 (ys.map Qar)) (A:Bool) (hA:A=true↔xs=ys) :
  Calls Tryz.prog 51 #[.slice p n cap,.slice q m cap'] w fun e w'=>e=.returned (.bool A)∧Below w.heap.size w w':=by
 obtain⟨HC,HD,HA⟩:=Qmk hc hd hA;clear hc hd hA;by_cases hl:n=m
 ·subst hl
  go_enter Tryz.func51,Tryz.ntmps51;go_wp2;go_loopw [5] (fun i wr=>∃j:Nat,j≤n∧i=.int .i64 j∧Hid (Below w.heap.size w wr)∧Hid (xs.take j=ys.take j)) (fun i _=>n - (intOf i).toNat);case atStart=>exact⟨0,Vo _,rfl,bR,rfl⟩
  case round =>
   obtain⟨j,hj,rfl,HBr,HT⟩:=hrel;by_cases hlt:j<n
   ·have hlt':(j:Int)<(n:Int):=by omega
    have i0:(0:Int)≤(j:Int):=by omega
    obtain⟨x,hx⟩:∃x,xs[j]?=some x:=⟨_,gE (by omega)⟩;obtain⟨y,hy⟩:∃y,ys[j]?=some y:=⟨_,gE (by omega)⟩;obtain⟨b,o,rfl,hbl,hcl⟩:=HC.out.get (i:=j) (r:=Qar x) (by simp[hx]);obtain⟨b',o',rfl,hbl',hcl'⟩:=HD.out.get (i:=j) (r:=Qar y) (by simp[hy]);have f:∀i v,(Qar x)[i]?=some v→wr.cell? ⟨b,o+j*3+i,none⟩=some v:=fun i v hv=>(HBr.out.cell (p:=⟨b,o+j*3+i,none⟩) hbl).trans (hcl i v hv)
    have f':∀i v,(Qar y)[i]?=some v→wr.cell? ⟨b',o'+j*3+i,none⟩=some v:=fun i v hv=>(HBr.out.cell (p:=⟨b',o'+j*3+i,none⟩) hbl').trans (hcl' i v hv)
    have a0:=f 0 _ rfl;have a1:=f 1 _ rfl;have a2:=f 2 _ rfl;have b0:=f' 0 _ rfl;have b1:=f' 1 _ rfl;have b2:=f' 2 _ rfl;rw[Vr]at a0 b0;obtain⟨xa,xb,xn⟩:=x;obtain⟨ya,yb,yn⟩:=y;simp only at a0 a1 a2 b0 b1 b2;clear f f' hcl hcl';have HBd:Hid (Below w.heap.size w wr.drew):=HBr.out.drew;by_cases he:(⟨xa,xb,xn⟩:Tri)=⟨ya,yb,yn⟩
    ·cases he
     have HT2:Hid (xs.take (j+1)=ys.take (j+1)):=by show _=_;rw[VS,VS,hx,hy,HT.out]
     go_upto_region 6 with (fail);go_region;go_wp2;go_roundw;case rel=>exact⟨j+1,by omega,by go_num,HBd,HT2⟩
     case measure=>simp[intOf];omega
    ·have HF:Hid (A=false):=by
      show A=false
      cases hAA:A with
      | false=>rfl
      | true=>exact(Qgb hx hy he (HA.out.1 hAA)).elim
     rcases Qfq he with h1 | ⟨h1,h2⟩ | ⟨h1,h3,h2⟩
     ·go_upto_region 6 with (fail)
      go_region;all_goals go_wp2
      all_goals go_ret
      all_goals exact⟨Qda HF.out,HBd.out⟩
     ·subst h1
      go_upto_region 6 with (fail);go_region;all_goals go_wp2
      all_goals go_ret
      all_goals exact⟨Qda HF.out,HBd.out⟩
     ·subst h1
      subst h3;go_upto_region 6 with (fail);go_region;all_goals go_wp2
      all_goals go_ret
      all_goals exact⟨Qda HF.out,HBd.out⟩
   ·have e1:¬(j:Int)<(n:Int):=by omega
    have HT':Hid (A=true):=HA.out.2 (by have h:=HT.out;rw[Vh (by omega),Vh (by omega)]at h;exact h);go_wp2;go_ret;exact⟨Qda HT'.out,HBr.out⟩
 ·have hl':¬(n:Int)=(m:Int):=by omega
  have HF:Hid (A=false):=by
   show A=false
   cases hAA:A with
   | false=>rfl
   | true=>exact(hl (by rw[←hn,←hm,HA.out.1 hAA])).elim
  go_enter Tryz.func51,Tryz.ntmps51;go_wp2;go_ret;exact⟨Qda HF.out,bR⟩
end Go.Proofs.YtiogibfhafoapaaGreat
