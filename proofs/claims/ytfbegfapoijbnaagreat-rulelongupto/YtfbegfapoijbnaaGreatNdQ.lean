import Derived.WideKeyEntry
import Derived.Test.YtfbegfapoijbnaaGreatNdL
set_option maxRecDepth 100000
namespace Go.Proofs.YtfbegfapoijbnaaGreat
open Go.RowKit Go.Shelf
attribute [local go_sem] Oper.semAt_some
theorem setBlock_twice (w:World) (b:Nat) (o o':Obj):ChangeMaps.setBlock (ChangeMaps.setBlock w b o) b o'=ChangeMaps.setBlock w b o':=by
 unfold ChangeMaps.setBlock
 have h:(w.heap.setIfInBounds b o).setIfInBounds b o'=w.heap.setIfInBounds b o':=by
  apply Array.ext_getElem?
  intro i
  rw[Array.getElem?_setIfInBounds,Array.getElem?_setIfInBounds,Array.getElem?_setIfInBounds]
  simp only[Array.size_setIfInBounds]
  split <;> rfl
 show ({ w with heap:=(w.heap.setIfInBounds b o).setIfInBounds b o' } : World)={ w with heap:=w.heap.setIfInBounds b o' }
 rw[h]
theorem owns_entry {H:Type} {w:World} {b n:Nat} {D:DataW H} (hown:w.ownsMap Tryz.prog 104 (plainElem (H:=H) Tryz.prog 2) b n D) (hn:n<maxLen) (x:K64) :
  ∃(v0:Value) (st:Nat) (w1:World),(Instr.mapEntry 109 (.map (some b)) (kv x.1)).run Tryz.prog w=.ok (.tuple #[v0,.int .i64 st]) w1 ∧
   ∀c:Int,(Lit.int .i64 c).wf=true→∃w2,(Instr.entryStore 109 (.map (some b)) (.int .i64 st) (.int .i64 c)).run Tryz.prog w1=.ok () w2∧w2.ownsMap Tryz.prog 104 (plainElem (H:=H) Tryz.prog 2) b (n+1) (D.put (klit x.1) (.lit (.int .i64 c)))∧w.grownBy w2 (some b):=by
 have hown':=hown
 obtain⟨es,clock,hb,F,hs,rfl⟩:=hown
 obtain⟨v0,st,es1,clock1,hrun,_,hst⟩:=WideElems.entry_then_store kind_law Tryz.underlying109 (z:=.int .i64 0) (fun u=>Tryz.zeroValue2 u) hb F (kind_mk x)
 refine⟨v0,st,_,hrun,fun c hc=>?_⟩
 obtain⟨es',clock',hstore,hupd⟩:=hst _ (.int .i64 c) (ChangeMaps.heap_setBlock_same hb _)
 obtain⟨w',hup,ho,hg⟩:=hown'.update kind_keyed Tryz.underlying109 hn (kind_mk x) (plainElem_int (H:=H) Tryz.underlying2 hc)
 rw[hupd]at hup
 simp only[Result.ok.injEq,true_and]at hup
 subst hup
 rw[setBlock_twice]at hstore
 exact⟨_,hstore,ho,hg⟩
theorem setBlock_self {w:World} {b:Nat} {o:Obj} (h:w.heap[b]?=some o):ChangeMaps.setBlock w b o=w:=by
 unfold ChangeMaps.setBlock
 have h':w.heap.setIfInBounds b o=w.heap:=by
  apply Array.ext_getElem?
  intro i
  rw[Array.getElem?_setIfInBounds]
  split
  ·rename_i e;subst e;rw[if_pos (ac_lt h)];exact h.symm
  ·rfl
 rw[h']
theorem owns_entry_look {H:Type} {w w1:World} {b n:Nat} {D:DataW H} (hown:w.ownsMap Tryz.prog 104 (plainElem (H:=H) Tryz.prog 2) b n D) (hn:n<maxLen) (x:K64) {c:Int} {t:Value}
  (hl:(Instr.lookup 109 (.map (some b)) (kv x.1) false).run Tryz.prog w=.ok (.int .i64 c) w) (he:(Instr.mapEntry 109 (.map (some b)) (kv x.1)).run Tryz.prog w=.ok t w1) :
  (Instr.lookup 109 (.map (some b)) (kv x.1) false).run Tryz.prog w1=.ok (.int .i64 c) w1:=by
 have hown':=hown
 have hkey:=kind_mk x
 have hz:=fun u=>Tryz.zeroValue2 u
 obtain⟨es,clock,hb,F,hs,rfl⟩:=hown
 rcases kind_law.find w hkey es.toList F.keys with ⟨h1,h2⟩ | ⟨j,e0,h1,h2,h3⟩
 ·have r1:(Instr.mapEntry 109 (.map (some b)) (kv x.1)).run Tryz.prog w=.ok (.tuple #[.int .i64 0,goInt clock]) (ChangeMaps.setBlock w b (.map (es.push ⟨kv x.1,.int .i64 0,clock⟩) (clock+1))):=by
   simp[Instr.mapEntry,run_underlying Tryz.underlying109,MapKept.run_getObj_map hb,kind_law.check w false hkey,h1,hz,MapKept.run_setObj_map _ hb,Result.andThen,ChangeMaps.setBlock]
  have r2:(Instr.mapUpdate 109 (.map (some b)) (kv x.1) (.int .i64 0)).run Tryz.prog w=.ok () (ChangeMaps.setBlock w b (.map (es.push ⟨kv x.1,.int .i64 0,clock⟩) (clock+1))):=by
   simp[Instr.mapUpdate,run_underlying Tryz.underlying109,MapKept.run_getObj_map hb,kind_law.check w false hkey,h1,MapKept.run_setObj_map _ hb,Result.andThen,ChangeMaps.setBlock]
  have r3:(Instr.lookup 109 (.map (some b)) (kv x.1) false).run Tryz.prog w=.ok (.int .i64 0) w:=by
   simp[Instr.lookup,run_underlying Tryz.underlying109,MapKept.run_getObj_map hb,kind_law.check w _ hkey,h1,hz,Result.andThen]
  rw[r3]at hl
  rw[r1]at he
  simp only[Result.ok.injEq,Value.int.injEq,true_and,and_true]at hl he
  obtain⟨_,rfl⟩:=he
  obtain⟨w',hup,ho,_⟩:=hown'.update kind_keyed Tryz.underlying109 hn hkey (plainElem_int (H:=H) Tryz.underlying2 (a:=0) rfl)
  rw[r2]at hup
  simp only[Result.ok.injEq,true_and]at hup
  subst hup
  obtain⟨c',hrun,hat,_⟩:=ho.lookup_int kind_keyed Tryz.underlying109 Tryz.underlying2 (Tryz.zeroValue2 _) hkey
  rw[Maps.atKey_put_same hown'.isMap (key_ok _)]at hat
  simp only[DataW.lit.injEq,Lit.int.injEq,true_and]at hat
  rw[hrun,←hat,hl]
 ·have hj:es[j]?=some e0:=by simpa using h2
  have hsame:es.modify j (fun e=>{ e with key:=kv x.1 })=es:=by
   apply Array.ext'
   rw[Array.toList_modify,ChangeMaps.modify_eq_set _ _ _ _ h2]
   have:({ e0 with key:=kv x.1 } : MapEntry)=e0:=by rw[←h3]
   rw[this]
   exact WideElems.set_self _ _ _ h2
  have r1:(Instr.mapEntry 109 (.map (some b)) (kv x.1)).run Tryz.prog w=.ok (.tuple #[e0.val,goInt e0.born]) (ChangeMaps.setBlock w b (.map es clock)):=by
   simp[Instr.mapEntry,run_underlying Tryz.underlying109,MapKept.run_getObj_map hb,kind_law.check w false hkey,h1,hj,h3,kind_law.stays w hkey,hsame,MapKept.run_setObj_map _ hb,Result.andThen,ChangeMaps.setBlock]
  rw[r1,setBlock_self hb]at he
  simp only[Result.ok.injEq]at he
  obtain⟨_,rfl⟩:=he
  exact hl
end Go.Proofs.YtfbegfapoijbnaaGreat
namespace Go.Proofs.YtfbegfapoijbnaaGreat
open Go.RowKit Go.Shelf
theorem grown_of_drew {W W':World} {r:Option Nat} (h:W.drew.grownBy W' r):W.grownBy W' r:=⟨h.os,h.tape,h.output,h.size,h.block⟩
theorem wrap_eq (n:Int):IntKind.i64.wrap n=wrap64 n:=by simp[IntKind.wrap,IntKind.bits,IntKind.signed,wrap64];split <;> omega
theorem slice_form {w:World} {B:Nat} {e:TypeId} {s n:Nat} {v:Value} {xs:List Value} (h:w.ownsRow B e s v n xs):∃a c,v=.slice a n c:=by
 rcases h.2 with ⟨h1,h2⟩ | ⟨g,cap,cur,h1,_⟩
 ·exact⟨none,0,by rw[h1,h2]⟩
 ·exact⟨_,cap,h1⟩
def rcells (l:List Tri):List Value:=l.flatMap tric
theorem three_new (w:World) (c0 c1 c2:Value) (t:TypeId):∀j u,[c0,c1,c2][j]?=some u→(w.alloc (.cells #[c0,c1,c2] t)).cell? ((⟨w.heap.size,0,none⟩:Addr).add j)=some u:=by
 intro j u hu
 match j,hu with
 | 0,hu=>simp at hu;subst hu;simp[Addr.add]
 | 1,hu=>simp at hu;subst hu;simp[Addr.add]
 | 2,hu=>simp at hu;subst hu;simp[Addr.add]
 | j+3,hu=>simp at hu
theorem rcells_snoc (l:List Tri) (x:Tri):rcells (l++[x])=rcells l++tric x:=by simp[rcells]
theorem right_info:(Tryz.prog.info? 53).map (fun i=>(i.zero,i.size,i.bytes))=some (some (.agg #[.int .i64 0,.int .i64 0,.int .i64 0]),3,24):=by kernel_rfl
theorem row_cell {w:World} {B:Nat} {e:TypeId} {s n c:Nat} {a:Option Addr} {xs:List Value} (h:w.ownsRow B e s (.slice a n c) n xs) {i:Nat} {u:Value} (hi:xs[i]?=some u):∃g,a=some ⟨g,0,none⟩∧g<w.heap.size∧w.cell? ⟨g,i,none⟩=some u:=by
 rcases h.2 with ⟨h1,h2⟩ | ⟨g,cap,cur,h1,_,hg,_,_,_,ht⟩
 ·exfalso
  have:=h.1
  rw[h2,Nat.zero_mul]at this
  have:xs=[]:=List.eq_nil_of_length_eq_zero this
  rw[this]at hi
  simp at hi
 ·simp only[Value.slice.injEq]at h1
  refine⟨g,h1.1,ac_lt hg,?_⟩
  have hil:i<n*s:=by
   have:=h.1
   rcases Nat.lt_or_ge i xs.length with h' | h'
   ·omega
   ·rw[List.getElem?_eq_none h']at hi;cases hi
  rw[←ht,List.getElem?_take_of_lt hil]at hi
  simp only[World.cell?,hg]
  simp only[Option.isSome_none,Bool.false_eq_true,if_false]
  rw[←Array.getElem?_toList,hi]
def NQ (R:Act→World→Prop):Exit→Act→World→Prop
 | .normal,a,w=>R a w
 | _,_,_=>False
theorem wpIn_normal {F:Fence} {n:Nat} {P:Program} {c:Code} {Q:Exit→Act→World→Prop} {a:Act} {w:World} (h:c.wpIn F n P (NQ (fun a w=>Q .normal a w)) a w):c.wpIn F n P Q a w :=
 Code.wpIn_mono (fun e a w hq=>by cases e <;> first | exact hq | exact hq.elim) h
theorem owns_mono {w:World} {base base':Nat} {e:TypeId} {size:Nat} {v:Value} {n:Nat} {xs:List Value} (h:w.ownsRow base e size v n xs) (hb:base'≤base):w.ownsRow base' e size v n xs :=
 ⟨h.1,h.2.imp id fun ⟨g,cap,cur,h1,h2,r⟩=>⟨g,cap,cur,h1,Nat.le_trans hb h2,r⟩⟩
theorem owns_apart {w:World} {B n k s:Nat} {t t':TypeId} {v:Value} {xs:List Value} {C:Array Value} {fr:Nat × Nat} (h:w.ownsRow B t s v n xs) (hk:w.heap[k]?=some (.cells C t' fr)) (ht:t'≠t):some k≠v.ownBlock:=by
 rcases h.2 with ⟨rfl,_⟩ | ⟨g,cap,cur,rfl,_,hgb,_⟩
 ·simp[Value.ownBlock]
 ·intro e'
  obtain rfl:k=g:=by simpa[Value.ownBlock] using e'
  rw[hk]at hgb
  simp at hgb
  exact ht hgb.2.1
theorem owns_noncell {w:World} {B n k s:Nat} {t:TypeId} {v:Value} {xs:List Value} {o:Obj} (h:w.ownsRow B t s v n xs) (hk:w.heap[k]?=some o) (ho:o.isCells=false):some k≠v.ownBlock:=by
 rcases h.2 with ⟨rfl,_⟩ | ⟨g,cap,cur,rfl,_,hgb,_⟩
 ·simp[Value.ownBlock]
 ·intro e'
  obtain rfl:k=g:=by simpa[Value.ownBlock] using e'
  rw[hk]at hgb
  cases hgb
  cases ho
theorem owns_two {w:World} {B B' n n' s s':Nat} {t t':TypeId} {v v':Value} {xs xs':List Value} (h:w.ownsRow B t s v n xs) (h':w.ownsRow B' t' s' v' n' xs') (ht:t≠t'):v.ownBlock=none∨v.ownBlock≠v'.ownBlock:=by
 rcases h.2 with ⟨rfl,_⟩ | ⟨g,cap,cur,rfl,_,hgb,_⟩
 ·left;rfl
 ·right
  intro e
  exact(owns_apart h' hgb ht) e
def rtsOf (ys:List R64) (ss:List K64):List Tri:=ss.map fun k=>⟨k.1.1,k.1.2,lookT (putsR ys) k.1⟩
theorem rts_take {ys:List R64} {ss:List K64} {j:Nat} {x:K64} (h:ss[j]?=some x):(rtsOf ys ss).take (j+1)=(rtsOf ys ss).take j++[⟨x.1.1,x.1.2,lookT (putsR ys) x.1⟩]:=by
 rw[List.take_add_one]
 simp[rtsOf,h]
theorem puts_from (ys:List R64):∀x∈putsR ys,∃k:K64,keyT x=k.1:=by
 suffices h:∀l:List Tri,(∀x∈l,∃k:K64,keyT x=k.1)→∀x∈ys.foldl (fun l r=>putT l r.1) l,∃k:K64,keyT x=k.1 from h [] (fun x hx=>by simp at hx)
 induction ys with
 | nil=>intro l h;exact h
 | cons r ys ih =>
  intro l h
  refine ih _ fun x hx=>?_
  rcases putT_from hx with ⟨z,hz,e⟩ | e
  ·obtain⟨k,hk⟩:=h z hz
   exact⟨k,by rw[←e];exact hk⟩
  ·exact⟨r.k,e⟩
theorem rts_all {ys:List R64} {ss:List K64} (hs:ss.Pairwise (fun x y=>ltK x.1 y.1)) (hm:∀x:K64,x∈ss↔Maps.has (tallyR ys:DataW Unit) (klit x.1)=true):rtsOf ys ss=putsR ys:=by
 have hr:=relD_all (H:=Unit) kinj ys
 have e:rtsOf ys ss=(ss.map (·.1)).map (fun k=>(⟨k.1,k.2,lookT (putsR ys) k⟩:Tri)):=by simp[rtsOf]
 rw[e]
 refine sorted_look hr.sorted (List.pairwise_map.2 hs) fun k=>?_
 constructor
 ·intro h
  obtain⟨x,hx,rfl⟩:=List.mem_map.1 h
  exact(hr.has x).1 ((hm x).1 hx)
 ·rintro ⟨x,hx,rfl⟩
  obtain⟨k,hk⟩:=puts_from ys x hx
  rw[hk]
  exact List.mem_map.2 ⟨k,(hm k).2 ((hr.has k).2 ⟨x,hx,hk⟩),rfl⟩
structure Nst (w wr:World) (D:Nat) (ys:List R64) (ss:List K64) (v nv:Value) (j:Nat):Prop where
 row:wr.ownsRow w.heap.size 53 3 nv j (rcells ((rtsOf ys ss).take j))
 keys:wr.ownsRow w.heap.size 104 2 v ss.length (kcells ss)
 map:wr.ownsMap Tryz.prog 104 (plainElem (H:=Unit) Tryz.prog 2) w.heap.size ys.length (tallyR ys)
 box:Boxed wr (w.heap.size+1) 109 (.map (some w.heap.size))
 dfr:wr.heap[D]?=some (.deferred (some []))
 below:Below w.heap.size w wr
theorem Nst.alloc {w wr:World} {D:Nat} {ys:List R64} {ss:List K64} {v nv:Value} {j:Nat} (h:Nst w wr D ys ss v nv j) (o:Obj):Nst w (wr.alloc o) D ys ss v nv j :=
 ⟨h.row.alloc _,h.keys.alloc _,h.map.alloc _,h.box.alloc _,(Below.heap_alloc _ _ _ (ac_lt h.dfr)).trans h.dfr,h.below.alloc h.below.size _⟩
theorem Nst.drew {w wr:World} {D:Nat} {ys:List R64} {ss:List K64} {v nv:Value} {j:Nat} (h:Nst w wr D ys ss v nv j):Nst w wr.drew D ys ss v nv j :=
 ⟨h.row,h.keys,h.map,h.box,h.dfr,h.below.drew⟩
theorem Nst.step {w wr w':World} {D:Nat} {ys:List R64} {ss:List K64} {v nv nv':Value} {j:Nat} (h:Nst w wr D ys ss v nv j) (ho:w'.ownsRow w.heap.size 53 3 nv' (j+1) (rcells ((rtsOf ys ss).take (j+1)))) (hg:wr.grownBy w' nv.ownBlock):Nst w w' D ys ss v nv' (j+1):=by
 obtain⟨es,ck,hm,_⟩:=h.map
 refine⟨ho,h.keys.kept hg ?_,h.map.kept hg (owns_noncell h.row hm rfl),h.box.kept hg (owns_apart h.row h.box (by decide)),(hg.block D (ac_lt h.dfr) (owns_noncell h.row h.dfr rfl)).trans h.dfr,h.below.grown hg h.below.size fun k e=>?_⟩
 ·exact owns_two h.keys h.row (by decide)
 ·rcases h.row.2 with ⟨e1,_⟩ | ⟨g,cap,cur,e1,hb,_⟩
  ·rw[e1]at e;simp[Value.ownBlock]at e
  ·rw[e1]at e;simp[Value.ownBlock]at e;omega
end Go.Proofs.YtfbegfapoijbnaaGreat
