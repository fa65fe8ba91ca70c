import Derived.Maps.AppendAt
import Derived.Test.YtiogibfhafoapaaGreatNdG
import Derived.Test.YtiogibfhafoapaaGreatSrt
set_option maxRecDepth 100000
set_option maxHeartbeats 8000000
set_option linter.unusedSimpArgs false
set_option linter.unusedVariables false
namespace Go.Proofs.YtiogibfhafoapaaGreat
open Go.RowKit Go.Shelf
attribute [local go_sem] Oper.semAt_some
def kcells (ss:List K64):List Value:=ss.flatMap fun x=>[.int .i64 x.1.1,.int .i64 x.1.2]
theorem kcells_snoc (ss:List K64) (x:K64):kcells (ss++[x])=kcells ss++[.int .i64 x.1.1,.int .i64 x.1.2]:=by simp[kcells]
theorem cells_own {β:Type} (B:Nat) (cs:Array Value) (t:TypeId) (fr:Nat × Nat):Own (fun (_:β) W=>W.heap[B]?=some (.cells cs t fr)):=fun s X Y row hs hg hrow =>
 (hg.block B (ac_lt hs) (fun e'=>by obtain⟨o,ho,hc⟩:=hrow B e'.symm;rw[hs]at ho;cases ho;cases hc)).trans hs
theorem kind_info:(Tryz.prog.info? 175).map (fun i=>(i.zero,i.size,i.bytes))=some (some (.agg #[.int .i64 0,.int .i64 0]),2,16):=by kernel_rfl
theorem two_new (w:World) (c0 c1:Value) (t:TypeId):∀j u,[c0,c1][j]?=some u→(w.alloc (.cells #[c0,c1] t)).cell? ((⟨w.heap.size,0,none⟩:Addr).add j)=some u:=by
 intro j u hu
 match j,hu with
 | 0,hu=>simp at hu;subst hu;simp[Addr.add]
 | 1,hu=>simp at hu;subst hu;simp[Addr.add]
 | j+2,hu=>simp at hu
theorem appendSeq_in (n:Nat) (hn:2≤n) (g:Nat) (lb:Array Value) (eg:∀args w,(callFunc g args).run Tryz.prog w=.ok (.enter g args) w) (S Sp:List K64→Prop) (N:Nat) (hN:N≤maxLen) (hNb:N*16≤140737488355328) (w:World)
  (hseq:SeqStopsK Fence.wide (n - 1) Tryz.prog g lb (fun x:K64=>#[kv x.1]) KeepsWalks S Sp N w) :
  CallsIn Fence.wide n Tryz.prog 201 #[.slice none 0 0,.func (.func g) #[] lb] w fun e w'=>∃(v:Value) (ss:List K64),e=.returned v∧S ss∧ss.length≤N∧w'.ownsRow w.heap.size 175 2 v ss.length (kcells ss)∧Below w.heap.size w w':=by
 have h1:1≤n:=by omega
 obtain⟨i0,hi,hz0,hz1,hz2⟩:=info_parts kind_info;refine callsIn_of_wp_marks Tryz.func201 rfl trivial ?_ rfl;simp only[Tryz.ntmps201,List.size_toArray,List.length_cons,List.length_nil,Nat.reduceAdd,Nat.reduceSub,Array.replicate_succ,Array.replicate_zero,List.push_toArray,List.append_toArray,List.nil_append,List.cons_append]
 gi_wp2
 have bO:=Boxed.new w 191 (.slice none 0 0);have hB0:Below w.heap.size w (w.alloc (.cells #[.slice none 0 0] 191)):=(Below.refl _ w).alloc (Nat.le_refl _) _
 refine wpIn_rangeFunc_ownH rfl h1 (gf:=g) (lb:=lb) rfl trivial eg hseq walksK_t walksK_b hB0 (fun _=>rfl)
  (fun pre W=>(∃v,Boxed W w.heap.size 191 v∧W.ownsRow w.heap.size 175 2 v pre.length (kcells pre)∧pre.length≤N)∧Below w.heap.size w W)
  (fun _ _ _=>False)
  (OwnFrom.and (Own.from (holdsRow_own w.heap.size w.heap.size 191 175 2 (fun pre=>pre.length) kcells (fun pre _=>pre.length≤N)) _) (ownFrom_below (Nat.le_refl _) (by simp)))
  (fun _ _ _ _ _ hs _ _=>hs)
  ⟨⟨_,bO,World.ownsRow_nil _ _ _ _,Nat.zero_le _⟩,hB0⟩
  (fun x a' W=>∃Bx,W.heap[Bx]?=some (.cells #[.int .i64 x.1.1,.int .i64 x.1.2] 175 (0,0))∧a'={ tmps:=#[.slice none 0 0,.func (.func g) #[] lb,.pointer (some ⟨w.heap.size,0,none⟩),undef,.slice none 0 0,.pointer (some ⟨Bx,0,none⟩),.func (.func g) #[] lb,kv x.1,undef,undef,undef,undef,undef],defers:=[] })
  (fun x a' s X Y row hs hg hr=>by obtain⟨Bx,h1,h2⟩:=hs;exact⟨Bx,Own.from (cells_own Bx _ _ _) _ s X Y row h1 hg hr,h2⟩) ?assign ?body ?done ?stop
 case assign =>
  rintro l pre x W K ⟨⟨v,hv,hrow,hpn⟩,hB⟩ hK;simp only[kv]
  gi_wp2
  exact hK _ _ ((KeepsOthers.alloc _ _).from _) (KeepsWalks.alloc _ _) ⟨⟨v,hv.alloc _,hrow.alloc _,hpn⟩,hB.alloc hB.size _⟩ ⟨W.heap.size,heap_alloc_new _ _,rfl⟩
 case body =>
  rintro l pre x a' W hl ⟨r,hr⟩ ⟨⟨v,hv,hrow,_⟩,hB⟩ ⟨Bx,hbx,rfl⟩ hlt;have hc:=hv.cell;obtain⟨e0,e1⟩:=ac2 hbx
  gi_wp2_with (gi_at_builtin;refine wpListIn_append_own _ rfl _ _ 191 rfl w.heap.size 175 i0 (.agg #[.int .i64 0,.int .i64 0]) 2 16 Tryz.underlying191 hi hz0 hz1 hz2 rfl (by decide) _ _ _ rfl (hrow.alloc _) ⟨W.heap.size,0,none⟩ 1 1 [.int .i64 x.1.1,.int .i64 x.1.2] rfl rfl (two_new _ _ _ _) (by simp[Value.oneCell']) (by omega) (by omega) (by have:=hB.size;simp;omega) ?_;intro v' w1 hown' hgrow _;obtain⟨g',cap',rfl⟩:=ownsRow_succ hown';obtain⟨hv1,hv2,hr2,hk2,hb2⟩:=hv.appended (by decide) hrow hB.size (Nat.le_refl _) hown' hgrow;have hc1:=hv1.cell;have hf1:=hv1.frozen)
  exact⟨hk2.from _,hk2.walks,⟨_,hv2,by rw[kcells_snoc,List.length_append];exact hr2,by rw[List.length_append];exact hlt⟩,hB.trans hb2⟩
 case done =>
  rintro D ys W hD hS ⟨⟨v,hv,hrow,hyn⟩,hB⟩ hK;have hc:=hv.cell
  gi_wp2
  refine⟨by simp,.inl ⟨_,_,rfl,run_takeDeferred hK,?_⟩⟩;exact⟨_,results_tmp rfl _ _ _,v,ys,rfl,hS,hyn,ownsRow_putObj hrow _ hK rfl,hB.trans (belowK_b (w:=w) (Nat.le_refl _) W D _ _ (by simp at hD;omega) hK rfl rfl)⟩
 case stop =>
  rintro D c pre W _ _ h _;exact h.elim
theorem collect_in (n:Nat) (hn:3≤n) (g:Nat) (lb:Array Value) (eg:∀args w,(callFunc g args).run Tryz.prog w=.ok (.enter g args) w) (S Sp:List K64→Prop) (N:Nat) (hN:N≤maxLen) (hNb:N*16≤140737488355328) (w:World)
  (hseq:SeqStopsK Fence.wide (n - 1 - 1) Tryz.prog g lb (fun x:K64=>#[kv x.1]) KeepsWalks S Sp N w) :
  CallsIn Fence.wide n Tryz.prog 172 #[.func (.func g) #[] lb] w fun e w'=>∃(v:Value) (ss:List K64),e=.returned v∧S ss∧ss.length≤N∧w'.ownsRow w.heap.size 175 2 v ss.length (kcells ss)∧Below w.heap.size w w':=by
 have h1:1≤n:=by omega
 refine callsIn_of_wp Tryz.func172 rfl trivial ?_ rfl;simp only[Tryz.ntmps172,List.size_toArray,List.length_cons,List.length_nil,Nat.reduceAdd,Nat.reduceSub,Array.replicate_succ,Array.replicate_zero,List.push_toArray,List.append_toArray,List.nil_append,List.cons_append]
 gi_wp2_with (refine⟨trivial,?_⟩;gi_at_call 201;refine(appendSeq_in (n - 1) (by omega) g lb eg S Sp N hN hNb _ hseq).mono ?_;rintro e w' ⟨v,ss,rfl,hS,hle,hrow,hb⟩)
 go_ret;exact⟨v,ss,rfl,hS,hle,hrow,hb⟩
end Go.Proofs.YtiogibfhafoapaaGreat
namespace Go.Proofs.YtiogibfhafoapaaGreat
open Go.RowKit Go.Shelf Go.Lib Go.Sort
attribute [local go_sem] Oper.semAt_some
theorem or_any (w:World) (b:Nat) (x y:Int) (hc0:w.cell? ⟨b,0,none⟩=some (.int .i64 x)) (hc1:w.cell? ⟨b,1,none⟩=some (.int .i64 y)) :
  Calls Tryz.prog 175 #[.slice (some ⟨b,0,none⟩) 2 2] w fun e w'=>e=.returned (.int .i64 (if x=0 then y else x))∧w'=w:=by
 by_cases hx:x=0
 ·subst hx
  by_cases hy:y=0
  ·subst hy
   go_enter Tryz.func175,Tryz.ntmps175;go_wp2;refine wp_loop_rounds 3 ?_;rw[rounds_succ];go_wp2;rw[rounds_succ];go_wp2;rw[rounds_succ];go_wp2;go_ret;exact⟨rfl,rfl⟩
  ·go_enter Tryz.func175,Tryz.ntmps175
   go_wp2;refine wp_loop_rounds 3 ?_;rw[rounds_succ];go_wp2;rw[rounds_succ];go_wp2;go_ret;exact⟨rfl,rfl⟩
 ·rw[if_neg hx]
  go_enter Tryz.func175,Tryz.ntmps175;go_wp2;refine wp_loop_rounds 3 ?_;rw[rounds_succ];go_wp2;go_ret;exact⟨rfl,rfl⟩
def cmpK (x y:K64):Int:=if Lib.compareInt x.1.1 y.1.1=0 then Lib.compareInt x.1.2 y.1.2 else Lib.compareInt x.1.1 y.1.1
theorem ltOf_cmpK (x y:K64):ltOf cmpK x y=decide (x.1.1<y.1.1∨(x.1.1=y.1.1∧x.1.2<y.1.2)):=by
 unfold ltOf cmpK Lib.compareInt;rcases Int.lt_trichotomy x.1.1 y.1.1 with h | h | h
 ·simp[h]
 ·rcases Int.lt_trichotomy x.1.2 y.1.2 with h2 | h2 | h2 <;> simp[h,h2] <;> omega
 ·have:¬x.1.1<y.1.1:=by omega
  simp[h,this];omega
theorem swoK:SWO (ltOf cmpK) where
 irrefl x:=by rw[ltOf_cmpK];simp
 trans x y z h1 h2:=by rw[ltOf_cmpK]at *;simp at *;omega
 ntrans x y z h1 h2:=by rw[ltOf_cmpK]at *;simp at *;omega
def orI (a b:Int):Int:=if a=0 then b else a
def cmI (a b:Int):Int:=Lib.compareInt a b
theorem byK (x0 x1 y0 y1:Int) (W:World) :
  Calls Tryz.prog 105 #[.agg #[.int .i64 x0,.int .i64 x1],.agg #[.int .i64 y0,.int .i64 y1]] W fun e w'=>e=.returned (.int .i64 (orI (cmI x0 y0) (cmI x1 y1)))∧∃q os',w'=grow (W.drewN q) os':=by
 have H1:Hid (∀(a b:Int) (W':World),Calls Tryz.prog 176 #[.int .i64 a,.int .i64 b] W' fun e w'=>e=.returned (.int .i64 (cmI a b))∧w'=W'):=fun a b W'=>AnyG.cmp_Compare_int Tryz.cmpInt a b W'
 have H3:Hid (∀(a b:Int) (W':World),Calls Tryz.prog 175 #[.slice (some ⟨W'.heap.size,0,none⟩) 2 2] (W'.alloc (.cells #[.int .i64 a,.int .i64 b] 3)).drew fun e w'=>e=.returned (.int .i64 (orI a b))∧w'=(W'.alloc (.cells #[.int .i64 a,.int .i64 b] 3)).drew):=fun a b W' =>
  or_any _ _ a b (by show (W'.alloc _).cell? _=_;simp) (by show (W'.alloc _).cell? _=_;simp)
 obtain⟨w2,hw2⟩:∃w2,(W.alloc (.cells #[.int .i64 x0,.int .i64 x1] 175)).alloc (.cells #[.int .i64 y0,.int .i64 y1] 175)=w2:=⟨_,rfl⟩;have c0:w2.cell? ⟨W.heap.size,0,none⟩=some (.int .i64 x0):=by rw[←hw2];simp
 have c1:w2.cell? ⟨W.heap.size,1,none⟩=some (.int .i64 x1):=by rw[←hw2];simp
 have d0:w2.cell? ⟨W.heap.size+1,0,none⟩=some (.int .i64 y0):=by rw[←hw2];simp
 have d1:w2.cell? ⟨W.heap.size+1,1,none⟩=some (.int .i64 y1):=by rw[←hw2];simp
 have HW:=hide hw2
 have HE:Hid (∀o:Obj,∃q os',(w2.alloc o).drew=grow (W.drewN q) os'):=fun o=>by
  refine⟨1,#[.cells #[.int .i64 x0,.int .i64 x1] 175]++#[.cells #[.int .i64 y0,.int .i64 y1] 175]++#[o],?_⟩;rw[←hw2,alloc_eq_grow,alloc_eq_grow,alloc_eq_grow,grow_grow,grow_grow];rfl
 clear hw2;go_enter Tryz.func105,Tryz.ntmps105;go_upto_region 1 with fail;rw[HW.out];go_region_held3 (fun w'=>w'.cell? ⟨W.heap.size,0,none⟩=some (.int .i64 x0)∧w'.cell? ⟨W.heap.size,1,none⟩=some (.int .i64 x1)∧w'.cell? ⟨W.heap.size+1,0,none⟩=some (.int .i64 y0)∧w'.cell? ⟨W.heap.size+1,1,none⟩=some (.int .i64 y1)) (go_keep) (first | (go_at_call 176;refine(H1.out _ _ _).mono ?_;rintro e w3 ⟨rfl,rfl⟩) | (go_at_call 175;refine(H3.out _ _ _).mono ?_;rintro e w3 ⟨rfl,rfl⟩) | fail);go_wp2;go_ret;exact⟨rfl,HE.out _⟩
end Go.Proofs.YtiogibfhafoapaaGreat
