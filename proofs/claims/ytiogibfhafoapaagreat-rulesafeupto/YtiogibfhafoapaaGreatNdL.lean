import Derived.Maps.AppendAt
import Derived.Test.YtiogibfhafoapaaGreatNdG
import Derived.Test.YtiogibfhafoapaaGreatSrt
set_option maxRecDepth 100000
set_option maxHeartbeats 8000000
set_option linter.unusedSimpArgs false
set_option linter.unusedVariables false
namespace Go.Proofs.YtiogibfhafoapaaGreat
open Go.RowKit Go.Shelf
attribute [local go_sem] Oper.semAt_some
def QaZ (ss:List K64):List Value:=ss.flatMap fun x=>[.int .i64 x.1.1,.int .i64 x.1.2]
theorem Qgj (ss:List K64) (x:K64):QaZ (ss++[x])=QaZ ss++[.int .i64 x.1.1,.int .i64 x.1.2]:=by simp[QaZ]
theorem Qd5 {β:Type} (B:Nat) (cs:Array Value) (t:TypeId) (fr:Nat × Nat):Own (fun (_:β) W=>W.heap[B]?=some (.cells cs t fr)):=fun s X Y row hs hg hrow =>
 (hg.block B (Qab hs) (fun e'=>by obtain⟨o,ho,hc⟩:=hrow B e'.symm;rw[hs]at ho;cases ho;cases hc)).trans hs
theorem QjF:(Tryz.prog.info? 175).map (fun i=>(i.zero,i.size,i.bytes))=some (some (.agg #[.int .i64 0,.int .i64 0]),2,16):=by kernel_rfl
theorem QiE (w:World) (c0 c1:Value) (t:TypeId):∀j u,[c0,c1][j]?=some u→(w.alloc (.cells #[c0,c1] t)).cell? ((⟨w.heap.size,0,none⟩:Addr).add j)=some u:=by
 intro j u hu
 match j,hu with
 | 0,hu=>simp at hu;subst hu;simp[Addr.add]
 | 1,hu=>simp at hu;subst hu;simp[Addr.add]
 | j+2,hu=>simp at hu
theorem Qfa (n:Nat) (hn:2≤n) (g:Nat) (lb:Array Value) (eg:∀args w,(callFunc g args).run Tryz.prog w=.ok (.enter g args) w) (S Sp:List K64→Prop) (N:Nat) (hN:N≤maxLen) (hNb:N*16≤140737488355328) (w:World)
  (hseq:SeqStopsK Fence.wide (n - 1) Tryz.prog g lb (fun x:K64=>#[kv x.1]) KeepsWalks S Sp N w) :
  CallsIn Fence.wide n Tryz.prog 201 #[.slice none 0 0,.func (.func g) #[] lb] w fun e w'=>∃(v:Value) (ss:List K64),e=.returned v∧S ss∧ss.length≤N∧w'.ownsRow w.heap.size 175 2 v ss.length (QaZ ss)∧Below w.heap.size w w':=by
 have h1:1≤n:=by omega
 obtain⟨i0,hi,hz0,hz1,hz2⟩:=info_parts QjF;refine callsIn_of_wp_marks Tryz.func201 rfl trivial ?_ rfl;simp only[Tryz.ntmps201,List.size_toArray,VO,List.length_nil,Nat.reduceAdd,Nat.reduceSub,Array.replicate_succ,Array.replicate_zero,List.push_toArray,List.append_toArray,VU,List.cons_append]
 gi_wp2
 have bO:=Boxed.new w 191 (.slice none 0 0);have hB0:Below w.heap.size w (w.alloc (.cells #[.slice none 0 0] 191)):=(Below.refl _ w).alloc (Va _) _
 refine wpIn_rangeFunc_ownH rfl h1 (gf:=g) (lb:=lb) rfl trivial eg hseq walksK_t walksK_b hB0 (fun _=>rfl)
  (fun pre W=>(∃v,Boxed W w.heap.size 191 v∧W.ownsRow w.heap.size 175 2 v pre.length (QaZ pre)∧pre.length≤N)∧Below w.heap.size w W)
  (fun _ _ _=>False)
  (OwnFrom.and (Own.from (holdsRow_own w.heap.size w.heap.size 191 175 2 (fun pre=>pre.length) QaZ (fun pre _=>pre.length≤N)) _) (ownFrom_below (Va _) (by simp)))
  (fun _ _ _ _ _ hs _ _=>hs)
  ⟨⟨_,bO,VQ _ _ _ _,Vo _⟩,hB0⟩
  (fun x a' W=>∃Bx,W.heap[Bx]?=some (.cells #[.int .i64 x.1.1,.int .i64 x.1.2] 175 (0,0))∧a'={ tmps:=#[.slice none 0 0,.func (.func g) #[] lb,.pointer (some ⟨w.heap.size,0,none⟩),undef,.slice none 0 0,.pointer (some ⟨Bx,0,none⟩),.func (.func g) #[] lb,kv x.1,undef,undef,undef,undef,undef],defers:=[] })
  (fun x a' s X Y row hs hg hr=>by obtain⟨Bx,h1,h2⟩:=hs;exact⟨Bx,Own.from (Qd5 Bx _ _ _) _ s X Y row h1 hg hr,h2⟩) ?assign ?body ?done ?stop
 case assign =>
  rintro l pre x W K ⟨⟨v,hv,hrow,hpn⟩,hB⟩ hK;simp only[kv]
  gi_wp2
  exact hK _ _ ((KeepsOthers.alloc _ _).from _) (KeepsWalks.alloc _ _) ⟨⟨v,hv.alloc _,hrow.alloc _,hpn⟩,hB.alloc hB.size _⟩ ⟨W.heap.size,hNq _ _,rfl⟩
 case body =>
  rintro l pre x a' W hl ⟨r,hr⟩ ⟨⟨v,hv,hrow,_⟩,hB⟩ ⟨Bx,hbx,rfl⟩ hlt;have hc:=hv.cell;obtain⟨e0,e1⟩:=ac2 hbx
  gi_wp2_with (gi_at_builtin;refine wpListIn_append_own _ rfl _ _ 191 rfl w.heap.size 175 i0 (.agg #[.int .i64 0,.int .i64 0]) 2 16 Tryz.underlying191 hi hz0 hz1 hz2 rfl (by decide) _ _ _ rfl (hrow.alloc _) ⟨W.heap.size,0,none⟩ 1 1 [.int .i64 x.1.1,.int .i64 x.1.2] rfl rfl (QiE _ _ _ _) (by simp[Value.oneCell']) (by omega) (by omega) (by have:=hB.size;simp;omega) ?_;intro v' w1 hown' hgrow _;obtain⟨g',cap',rfl⟩:=ownsRow_succ hown';obtain⟨hv1,hv2,hr2,hk2,hb2⟩:=hv.appended (by decide) hrow hB.size (Va _) hown' hgrow;have hc1:=hv1.cell;have hf1:=hv1.frozen)
  exact⟨hk2.from _,hk2.walks,⟨_,hv2,by rw[Qgj,VJ];exact hr2,by rw[VJ];exact hlt⟩,hB.trans hb2⟩
 case done =>
  rintro D ys W hD hS ⟨⟨v,hv,hrow,hyn⟩,hB⟩ hK;have hc:=hv.cell
  gi_wp2
  refine⟨by simp,.inl ⟨_,_,rfl,run_takeDeferred hK,?_⟩⟩;exact⟨_,results_tmp rfl _ _ _,v,ys,rfl,hS,hyn,ownsRow_putObj hrow _ hK rfl,hB.trans (belowK_b (w:=w) (Va _) W D _ _ (by simp at hD;omega) hK rfl rfl)⟩
 case stop =>
  rintro D c pre W _ _ h _;exact h.elim
theorem QhC (n:Nat) (hn:3≤n) (g:Nat) (lb:Array Value) (eg:∀args w,(callFunc g args).run Tryz.prog w=.ok (.enter g args) w) (S Sp:List K64→Prop) (N:Nat) (hN:N≤maxLen) (hNb:N*16≤140737488355328) (w:World)
  (hseq:SeqStopsK Fence.wide (n - 1 - 1) Tryz.prog g lb (fun x:K64=>#[kv x.1]) KeepsWalks S Sp N w) :
  CallsIn Fence.wide n Tryz.prog 172 #[.func (.func g) #[] lb] w fun e w'=>∃(v:Value) (ss:List K64),e=.returned v∧S ss∧ss.length≤N∧w'.ownsRow w.heap.size 175 2 v ss.length (QaZ ss)∧Below w.heap.size w w':=by
 have h1:1≤n:=by omega
 refine callsIn_of_wp Tryz.func172 rfl trivial ?_ rfl;simp only[Tryz.ntmps172,List.size_toArray,VO,List.length_nil,Nat.reduceAdd,Nat.reduceSub,Array.replicate_succ,Array.replicate_zero,List.push_toArray,List.append_toArray,VU,List.cons_append]
 gi_wp2_with (refine⟨trivial,?_⟩;gi_at_call 201;refine(Qfa (n - 1) (by omega) g lb eg S Sp N hN hNb _ hseq).mono ?_;rintro e w' ⟨v,ss,rfl,hS,hle,hrow,hb⟩)
 go_ret;exact⟨v,ss,rfl,hS,hle,hrow,hb⟩
end Go.Proofs.YtiogibfhafoapaaGreat
namespace Go.Proofs.YtiogibfhafoapaaGreat
open Go.RowKit Go.Shelf Go.Lib Go.Sort
attribute [local go_sem] Oper.semAt_some
theorem QlV (w:World) (b:Nat) (x y:Int) (hc0:w.cell? ⟨b,0,none⟩=some (.int .i64 x)) (hc1:w.cell? ⟨b,1,none⟩=some (.int .i64 y)) :
  Calls Tryz.prog 175 #[.slice (some ⟨b,0,none⟩) 2 2] w fun e w'=>e=.returned (.int .i64 (if x=0 then y else x))∧w'=w:=by
 by_cases hx:x=0
 ·subst hx
  by_cases hy:y=0
  ·subst hy
   go_enter Tryz.func175,Tryz.ntmps175;go_wp2;refine VY 3 ?_;rw[rounds_succ];go_wp2;rw[rounds_succ];go_wp2;rw[rounds_succ];go_wp2;go_ret;exact⟨rfl,rfl⟩
  ·go_enter Tryz.func175,Tryz.ntmps175
   go_wp2;refine VY 3 ?_;rw[rounds_succ];go_wp2;rw[rounds_succ];go_wp2;go_ret;exact⟨rfl,rfl⟩
 ·rw[if_neg hx]
  go_enter Tryz.func175,Tryz.ntmps175;go_wp2;refine VY 3 ?_;rw[rounds_succ];go_wp2;go_ret;exact⟨rfl,rfl⟩
def QkT (x y:K64):Int:=if Lib.compareInt x.1.1 y.1.1=0 then Lib.compareInt x.1.2 y.1.2 else Lib.compareInt x.1.1 y.1.1
theorem Qbk (x y:K64):ltOf QkT x y=decide (x.1.1<y.1.1∨(x.1.1=y.1.1∧x.1.2<y.1.2)):=by
 unfold ltOf QkT Lib.compareInt;rcases Int.lt_trichotomy x.1.1 y.1.1 with h | h | h
 ·simp[h]
 ·rcases Int.lt_trichotomy x.1.2 y.1.2 with h2 | h2 | h2 <;> simp[h,h2] <;> omega
 ·have:¬x.1.1<y.1.1:=by omega
  simp[h,this];omega
theorem swoK:SWO (ltOf QkT) where
 irrefl x:=by rw[Qbk];simp
 trans x y z h1 h2:=by rw[Qbk]at *;simp at *;omega
 ntrans x y z h1 h2:=by rw[Qbk]at *;simp at *;omega
def orI (a b:Int):Int:=if a=0 then b else a
def cmI (a b:Int):Int:=Lib.compareInt a b
theorem byK (x0 x1 y0 y1:Int) (W:World) :
  Calls Tryz.prog 105 #[.agg #[.int .i64 x0,.int .i64 x1],.agg #[.int .i64 y0,.int .i64 y1]] W fun e w'=>e=.returned (.int .i64 (orI (cmI x0 y0) (cmI x1 y1)))∧∃q os',w'=grow (W.drewN q) os':=by
 have H1:Hid (∀(a b:Int) (W':World),Calls Tryz.prog 176 #[.int .i64 a,.int .i64 b] W' fun e w'=>e=.returned (.int .i64 (cmI a b))∧w'=W'):=fun a b W'=>AnyG.cmp_Compare_int Tryz.cmpInt a b W'
 have H3:Hid (∀(a b:Int) (W':World),Calls Tryz.prog 175 #[.slice (some ⟨W'.heap.size,0,none⟩) 2 2] (W'.alloc (.cells #[.int .i64 a,.int .i64 b] 3)).drew fun e w'=>e=.returned (.int .i64 (orI a b))∧w'=(W'.alloc (.cells #[.int .i64 a,.int .i64 b] 3)).drew):=fun a b W' =>
  QlV _ _ a b (by show (W'.alloc _).cell? _=_;simp) (by show (W'.alloc _).cell? _=_;simp)
 obtain⟨w2,hw2⟩:=exq ((W.alloc (.cells #[.int .i64 x0,.int .i64 x1] 175)).alloc (.cells #[.int .i64 y0,.int .i64 y1] 175));have c0:w2.cell? ⟨W.heap.size,0,none⟩=some (.int .i64 x0):=by rw[←hw2];simp
 have c1:w2.cell? ⟨W.heap.size,1,none⟩=some (.int .i64 x1):=by rw[←hw2];simp
 have d0:w2.cell? ⟨W.heap.size+1,0,none⟩=some (.int .i64 y0):=by rw[←hw2];simp
 have d1:w2.cell? ⟨W.heap.size+1,1,none⟩=some (.int .i64 y1):=by rw[←hw2];simp
 have HW:=Qaa hw2
 have HE:Hid (∀o:Obj,∃q os',(w2.alloc o).drew=grow (W.drewN q) os'):=fun o=>by
  refine⟨1,#[.cells #[.int .i64 x0,.int .i64 x1] 175]++#[.cells #[.int .i64 y0,.int .i64 y1] 175]++#[o],?_⟩;rw[←hw2,alloc_eq_grow,alloc_eq_grow,alloc_eq_grow,grow_grow,grow_grow];rfl
 clear hw2;go_enter Tryz.func105,Tryz.ntmps105;go_upto_region 1 with fail;rw[HW.out];go_region_held3 (fun w'=>w'.cell? ⟨W.heap.size,0,none⟩=some (.int .i64 x0)∧w'.cell? ⟨W.heap.size,1,none⟩=some (.int .i64 x1)∧w'.cell? ⟨W.heap.size+1,0,none⟩=some (.int .i64 y0)∧w'.cell? ⟨W.heap.size+1,1,none⟩=some (.int .i64 y1)) (go_keep) (first | (go_at_call 176;refine(H1.out _ _ _).mono ?_;rintro e w3 ⟨rfl,rfl⟩) | (go_at_call 175;refine(H3.out _ _ _).mono ?_;rintro e w3 ⟨rfl,rfl⟩) | fail);go_wp2;go_ret;exact⟨rfl,HE.out _⟩
attribute [local go_sem] Oper.semAt_some
def QfL (x:K64):List Value:=[.int .i64 x.1.1,.int .i64 x.1.2]
instance : Inhabited K64 := ⟨⟨(0, 0), rfl, rfl⟩⟩
theorem Qem (ss:List K64):(QaZ ss).length=ss.length*2:=by
 induction ss with
 | nil=>rfl
 | cons x ss ih =>
  have:QaZ (x :: ss)=[.int .i64 x.1.1,.int .i64 x.1.2]++QaZ ss:=rfl;rw[this,VJ,ih,VO];simp;omega
theorem Qep (ss:List K64):∀(i:Nat) (x:K64),ss[i]?=some x→(QaZ ss)[i*2]?=some (.int .i64 x.1.1)∧(QaZ ss)[i*2+1]?=some (.int .i64 x.1.2):=by
 induction ss with
 | nil=>intro i x h;simp at h
 | cons y ss ih =>
  intro i x h;have e:QaZ (y :: ss)=.int .i64 y.1.1 :: .int .i64 y.1.2 :: QaZ ss:=rfl
  cases i with
  | zero=>simp at h;subst h;rw[e];exact⟨rfl,rfl⟩
  | succ i =>
   have:=ih i x (by simpa using h);rw[e,show (i+1)*2=i*2+1+1 by omega];exact⟨by rw[List.getElem?_cons_succ,List.getElem?_cons_succ];exact this.1,by rw[List.getElem?_cons_succ,List.getElem?_cons_succ];exact this.2⟩
theorem Qjo (ss:List K64):(flatK QfL 2 ss.toArray).toList=QaZ ss:=by
 apply List.ext_getElem?;intro t;by_cases h:t<ss.length*2
 ·have h1:t<(flatK QfL 2 ss.toArray).size:=by simpa using h
  rw[Array.getElem?_toList,Array.getElem?_eq_getElem h1,←getElem!_pos (flatK QfL 2 ss.toArray) t h1,get_flatK _ _ _ _ (by simpa using h)];have hi:t / 2<ss.length:=by omega
  have hx:ss[t / 2]?=some ss[t / 2]:=gE hi;have hx2:ss.toArray[t / 2]! = ss[t / 2]:=by simp[hi]
  obtain⟨g0,g1⟩:=Qep ss _ _ hx;rw[hx2];rcases Nat.mod_two_eq_zero_or_one t with e | e
  ·rw[e]
   have:t=t / 2*2:=by omega
   rw[show (QaZ ss)[t]?=(QaZ ss)[t / 2*2]? by rw[←this],g0];rfl
  ·rw[e]
   have:t=t / 2*2+1:=by omega
   rw[show (QaZ ss)[t]?=(QaZ ss)[t / 2*2+1]? by rw[←this],g1];rfl
 ·rw[List.getElem?_eq_none (by simp;omega),List.getElem?_eq_none (by rw[Qem];omega)]
theorem Qhh {w:World} {g:Nat} {cur:Array Value} {e:TypeId} {ss:List K64} (hb:w.heap[g]?=some (.cells cur e (0,0))) (ht:cur.toList.take (ss.length*2)=QaZ ss):HoldsK QfL 2 w g 0 ss.toArray:=by
 intro j hj;have hj':j<ss.length*2:=by simpa using hj
 refine⟨?_,by simp[World.frozen?,hb]⟩;have h1:(cur.toList.take (ss.length*2))[j]?=(flatK QfL 2 ss.toArray).toList[j]?:=by rw[ht,Qjo]
 rw[List.getElem?_take_of_lt hj']at h1;simp only[World.cell?,hb,Nat.zero_add];simp only[Option.isSome_none,Bool.false_eq_true,if_false];rw[←Array.getElem?_toList,h1,Array.getElem?_toList,Array.getElem?_eq_getElem hj,←getElem!_pos];rfl
theorem Qix {w:World} {base g cap n:Nat} {e:TypeId} {os:Array Obj} {cur:Array Value} {ss ts:List K64} (hl:ts.length=ss.length) (hbase:base≤g) (hb:w.heap[g]?=some (.cells cur e (0,0))) (h1:ss.length≤cap) (h2:cap≤maxLen) (h3:cur.size=cap*2) :
  (sortWorldK QfL 2 w g 0 n ts.toArray os).ownsRow base e 2 (.slice (some ⟨g,0,none⟩) ss.length cap) ss.length (QaZ ts):=by
 have hg:g<w.heap.size:=(Array.getElem?_eq_some_iff.1 hb).1
 have hheap:(sortWorldK QfL 2 w g 0 n ts.toArray os).heap[g]?=some (.cells (putCells id 0 (flatK QfL 2 ts.toArray) cur) e (0,0)):=by
  unfold sortWorldK putRowK;rw[heap_grow_old _ _ (by simpa using hg)];simp[putRow,mapBlock,Sort.ahead,Array.getElem?_modify,hb,onCells]
 refine⟨by rw[Qem,hl],.inr ⟨g,cap,_,rfl,hbase,hheap,h1,h2,by simp[putCells,h3],?_⟩⟩;rw[←Qjo];apply List.ext_getElem?;intro j;by_cases hj:j<ss.length*2
 ·have hj2:j<(flatK QfL 2 ts.toArray).size:=by simp[hl];omega
  have hj3:j<ts.length*2:=by rw[hl];exact hj
  rw[List.getElem?_take_of_lt hj,Array.getElem?_toList,Array.getElem?_toList,Array.getElem?_eq_getElem hj2];simp[putCells,show j<cur.size by omega,hj3]
 ·rw[List.getElem?_take_eq_none (by omega),List.getElem?_eq_none (by simp[hl];omega)]
theorem Qh2 {w:World} {g n:Nat} {os:Array Obj} (d:Array K64):w.grownBy (sortWorldK QfL 2 w g 0 n d os) (some g):=by
 refine⟨rfl,rfl,rfl,by simp[sortWorldK,putRowK],fun k hk hne=>?_⟩;unfold sortWorldK putRowK;rw[heap_grow_old _ _ (by simpa using hk)];have:g≠k:=fun e=>hne (by rw[e])
 simp[putRow,mapBlock,Sort.ahead,Array.getElem?_modify,this]
theorem QjL:∀x y:K64,ltOf QkT x y=false→ltOf QkT y x=false→x=y:=fun x y h1 h2=>by
 rw[Qbk]at h1 h2;simp at h1 h2;exact Subtype.ext (Prod.ext (by omega) (by omega))
def leK (x y:K64):Bool:=!ltOf QkT y x
theorem Qgr {ss:List K64} (hn:ss.Nodup):(ss.mergeSort leK).Pairwise (fun x y=>ltK x.1 y.1):=by
 have tr:∀a b c:K64,leK a b=true→leK b c=true→leK a c=true:=fun a b c h1 h2=>by
  unfold leK at *;rw[Qbk]at *;simp at *;omega
 have to:∀a b:K64,(leK a b || leK b a)=true:=fun a b=>by
  unfold leK;rw[Qbk,Qbk];simp;omega
 have h1:=List.pairwise_mergeSort tr to ss;have h2:(ss.mergeSort leK).Nodup:=(List.mergeSort_perm ss leK).nodup_iff.2 hn;refine(h1.and h2).imp ?_;rintro a b ⟨h3,h4⟩;unfold leK at h3;rw[Qbk]at h3;simp at h3;unfold ltK;have:¬(a.1.1=b.1.1∧a.1.2=b.1.2):=fun e=>h4 (Subtype.ext (Prod.ext e.1 e.2))
 omega
theorem Qkj (blk off size:Nat) (w:World):CmpLays Tryz.prog 105 #[] QfL 2 QkT blk off size w:=fun _ _ _ _ x y=>byK x.1.1 x.1.2 y.1.1 y.1.2 _
theorem Qhn:∀args w,(callFunc 105 args).run Tryz.prog w=.ok (.enter 105 args) w:=enters_of Tryz.func105 (by kernel_rfl) rfl
theorem Qfy (blk cap:Nat) (ss:List K64) (w:World) (hH:HoldsK QfL 2 w blk 0 ss.toArray) (hblk:blk<w.heap.size) (hsz:ss.length<4611686018427387904) :
  Calls Tryz.prog 173 #[.slice (some ⟨blk,0,none⟩) ss.length cap,.func (.func 105) #[] #[]] w fun e w'=>e=.returned (.tuple #[])∧∃n os,w'=sortWorldK QfL 2 w blk 0 n (ss.mergeSort leK).toArray os:=by
 have hcon:=AnyQ.slices_SortFunc_total Tryz.sortKind 2 Tryz.isAgg175 Tryz.sizeOf175 QfL (fun _=>rfl) (fun x v hv=>by simp[QfL]at hv;rcases hv with rfl | rfl <;> rfl) QkT swoK 105 #[] blk 0 cap ss.toArray w Qhn (Qkj blk 0 _ w) hH hblk (by simpa using hsz) QjL;change Calls Tryz.prog 173 _ _ _ at hcon;exact hcon
theorem QeF (p:Option Addr) (cap:Nat) (fv:Value) (w:World) :
  Calls Tryz.prog 173 #[.slice p 0 cap,fv] w fun e w'=>e=.returned (.tuple #[])∧w'=w:=by
 have hcon:=AnyF.slices_SortFunc_none Tryz.sortKind p cap fv w;change Calls Tryz.prog 173 _ _ _ at hcon;exact hcon
theorem QeU (n:Nat) (hn:4≤n) (g:Nat) (lb:Array Value) (eg:∀args w,(callFunc g args).run Tryz.prog w=.ok (.enter g args) w) (P:K64→Prop) (Sp:List K64→Prop) (N:Nat) (hN:N≤maxLen) (hNb:N*16≤140737488355328) (w:World)
  (hseq:SeqStopsK Fence.wide (n - 1 - 1 - 1) Tryz.prog g lb (fun x:K64=>#[kv x.1]) KeepsWalks (fun ss=>ss.Nodup∧∀x,x∈ss↔P x) Sp N w) :
  CallsIn Fence.wide n Tryz.prog 103 #[.func (.func g) #[] lb,.func (.func 105) #[] #[]] w fun e w'=>∃(v:Value) (ss:List K64),e=.returned v∧ss.Pairwise (fun x y=>ltK x.1 y.1)∧(∀x,x∈ss↔P x)∧ss.length≤N∧w'.ownsRow w.heap.size 175 2 v ss.length (QaZ ss)∧Below w.heap.size w w':=by
 have h1:1≤n:=by omega
 refine callsIn_of_wp Tryz.func103 rfl trivial ?_ rfl;simp only[Tryz.ntmps103,List.size_toArray,VO,List.length_nil,Nat.reduceAdd,Nat.reduceSub,Array.replicate_succ,Array.replicate_zero,List.push_toArray,List.append_toArray,VU,List.cons_append]
 gi_wp2_with (refine⟨trivial,?_⟩;gi_at_call 172;refine(QhC (n - 1) (by omega) g lb eg _ Sp N hN hNb _ hseq).mono ?_;rintro e W ⟨v,ss,rfl,⟨hS,hm⟩,hle,hrow,hb⟩)
 rcases hrow.2 with ⟨rfl,hz⟩ | ⟨gb,cap,cur,rfl,hbase,hgb,r1,r2,r3,r4⟩
 ·have hss:ss=[]:=List.eq_nil_of_length_eq_zero hz
  subst hss;have HS:=Qaa (fun fv=>callsIn_wide (n:=n - 1).2 (QeF none 0 fv W))
  gi_wp2_with (refine⟨trivial,?_⟩;gi_at_call 173;refine(HS.out _).mono ?_;rintro e w' ⟨rfl,rfl⟩)
  go_ret;exact⟨.slice none 0 0,[],rfl,List.Pairwise.nil,hm,Vo _,hrow,hb⟩
 ·have hgl:gb<W.heap.size:=(Array.getElem?_eq_some_iff.1 hgb).1
  have HS:=Qaa (callsIn_wide (n:=n - 1).2 (Qfy gb cap ss W (Qhh hgb r4) hgl (by omega)))
  gi_wp2_with (refine⟨trivial,?_⟩;gi_at_call 173;refine HS.out.mono ?_;rintro e w' ⟨rfl,nn,os,rfl⟩)
  go_ret;have hl:(ss.mergeSort leK).length=ss.length:=List.length_mergeSort ss;refine⟨_,ss.mergeSort leK,rfl,Qgr hS,fun x=>((List.mergeSort_perm ss leK).mem_iff).trans (hm x),by rw[hl];exact hle,?_,hb.grown (Qh2 _) hb.size (fun j hj=>by cases hj;exact hbase)⟩;rw[hl];exact Qix hl hbase hgb r1 r2 r3
end Go.Proofs.YtiogibfhafoapaaGreat
