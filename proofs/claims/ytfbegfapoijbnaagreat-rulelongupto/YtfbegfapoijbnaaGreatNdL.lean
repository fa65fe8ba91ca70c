import Derived.Test.YtfbegfapoijbnaaGreatNdH
import Derived.Test.YtfbegfapoijbnaaGreatSrt
set_option maxRecDepth 100000
namespace Go.Proofs.YtfbegfapoijbnaaGreat
open Go.RowKit Go.Shelf Go.Lib Go.Sort
attribute [local go_sem] Oper.semAt_some
set_option maxHeartbeats 1000000 in
theorem or_any (w:World) (b:Nat) (x y:Int) (hc0:w.cell? ⟨b,0,none⟩=some (.int .i64 x)) (hc1:w.cell? ⟨b,1,none⟩=some (.int .i64 y)) :
  Calls Tryz.prog 69 #[.slice (some ⟨b,0,none⟩) 2 2] w fun e w'=>e=.returned (.int .i64 (if x=0 then y else x))∧w'=w:=by
 by_cases hx:x=0
 ·subst hx
  by_cases hy:y=0
  ·subst hy
   go_enter Tryz.func69,Tryz.ntmps69
   go_wp2
   refine wp_loop_rounds 3 ?_
   rw[rounds_succ]
   go_wp2
   rw[rounds_succ]
   go_wp2
   rw[rounds_succ]
   go_wp2
   go_ret
   exact⟨rfl,rfl⟩
  ·go_enter Tryz.func69,Tryz.ntmps69
   go_wp2
   refine wp_loop_rounds 3 ?_
   rw[rounds_succ]
   go_wp2
   rw[rounds_succ]
   go_wp2
   go_ret
   exact⟨rfl,rfl⟩
 ·rw[if_neg hx]
  go_enter Tryz.func69,Tryz.ntmps69
  go_wp2
  refine wp_loop_rounds 3 ?_
  rw[rounds_succ]
  go_wp2
  go_ret
  exact⟨rfl,rfl⟩
def cmpK (x y:K64):Int:=if Lib.compareInt x.1.1 y.1.1=0 then Lib.compareInt x.1.2 y.1.2 else Lib.compareInt x.1.1 y.1.1
theorem ltOf_cmpK (x y:K64):ltOf cmpK x y=decide (x.1.1<y.1.1∨(x.1.1=y.1.1∧x.1.2<y.1.2)):=by
 unfold ltOf cmpK Lib.compareInt
 rcases Int.lt_trichotomy x.1.1 y.1.1 with h | h | h
 ·simp[h]
 ·rcases Int.lt_trichotomy x.1.2 y.1.2 with h2 | h2 | h2 <;> simp[h,h2] <;> omega
 ·have:¬x.1.1<y.1.1:=by omega
  simp[h,this]
  omega
theorem swoK:SWO (ltOf cmpK) where
 irrefl x:=by rw[ltOf_cmpK];simp
 trans x y z h1 h2:=by rw[ltOf_cmpK]at *;simp at *;omega
 ntrans x y z h1 h2:=by rw[ltOf_cmpK]at *;simp at *;omega
end Go.Proofs.YtfbegfapoijbnaaGreat
namespace Go.Proofs.YtfbegfapoijbnaaGreat
open Go.RowKit Go.Shelf Go.Lib Go.Sort
def orI (a b:Int):Int:=if a=0 then b else a
def cmI (a b:Int):Int:=Lib.compareInt a b
set_option maxHeartbeats 2000000 in
theorem byK (x0 x1 y0 y1:Int) (W:World) :
  Calls Tryz.prog 40 #[.agg #[.int .i64 x0,.int .i64 x1],.agg #[.int .i64 y0,.int .i64 y1]] W fun e w'=>e=.returned (.int .i64 (orI (cmI x0 y0) (cmI x1 y1)))∧∃q os',w'=grow (W.drewN q) os':=by
 have H1:Hid (∀(a b:Int) (W':World),Calls Tryz.prog 70 #[.int .i64 a,.int .i64 b] W' fun e w'=>e=.returned (.int .i64 (cmI a b))∧w'=W'):=fun a b W'=>AnyG.cmp_Compare_int Tryz.cmpInt a b W'
 have H3:Hid (∀(a b:Int) (W':World),Calls Tryz.prog 69 #[.slice (some ⟨W'.heap.size,0,none⟩) 2 2] (W'.alloc (.cells #[.int .i64 a,.int .i64 b] 3)).drew fun e w'=>e=.returned (.int .i64 (orI a b))∧w'=(W'.alloc (.cells #[.int .i64 a,.int .i64 b] 3)).drew):=fun a b W' =>
  or_any _ _ a b (by show (W'.alloc _).cell? _=_;simp) (by show (W'.alloc _).cell? _=_;simp)
 obtain⟨w2,hw2⟩:∃w2,(W.alloc (.cells #[.int .i64 x0,.int .i64 x1] 104)).alloc (.cells #[.int .i64 y0,.int .i64 y1] 104)=w2:=⟨_,rfl⟩
 have c0:w2.cell? ⟨W.heap.size,0,none⟩=some (.int .i64 x0):=by rw[←hw2];simp
 have c1:w2.cell? ⟨W.heap.size,1,none⟩=some (.int .i64 x1):=by rw[←hw2];simp
 have d0:w2.cell? ⟨W.heap.size+1,0,none⟩=some (.int .i64 y0):=by rw[←hw2];simp
 have d1:w2.cell? ⟨W.heap.size+1,1,none⟩=some (.int .i64 y1):=by rw[←hw2];simp
 have HW:=hide hw2
 have HE:Hid (∀o:Obj,∃q os',(w2.alloc o).drew=grow (W.drewN q) os'):=fun o=>by
  refine⟨1,#[.cells #[.int .i64 x0,.int .i64 x1] 104]++#[.cells #[.int .i64 y0,.int .i64 y1] 104]++#[o],?_⟩
  rw[←hw2,alloc_eq_grow,alloc_eq_grow,alloc_eq_grow,grow_grow,grow_grow]
  rfl
 clear hw2
 go_enter Tryz.func40,Tryz.ntmps40
 go_upto_region 1 with fail
 rw[HW.out]
 go_region_held3 (fun w'=>w'.cell? ⟨W.heap.size,0,none⟩=some (.int .i64 x0)∧w'.cell? ⟨W.heap.size,1,none⟩=some (.int .i64 x1)∧w'.cell? ⟨W.heap.size+1,0,none⟩=some (.int .i64 y0)∧w'.cell? ⟨W.heap.size+1,1,none⟩=some (.int .i64 y1)) (go_keep) (first | (go_at_call 70;refine(H1.out _ _ _).mono ?_;rintro e w3 ⟨rfl,rfl⟩) | (go_at_call 69;refine(H3.out _ _ _).mono ?_;rintro e w3 ⟨rfl,rfl⟩) | fail)
 go_wp2
 go_ret
 exact⟨rfl,HE.out _⟩
end Go.Proofs.YtfbegfapoijbnaaGreat
namespace Go.Proofs.YtfbegfapoijbnaaGreat
open Go.RowKit Go.Shelf Go.Lib Go.Sort
attribute [local go_sem] Oper.semAt_some
def kenc (x:K64):List Value:=[.int .i64 x.1.1,.int .i64 x.1.2]
instance : Inhabited K64 := ⟨⟨(0, 0), rfl, rfl⟩⟩
theorem kcells_len (ss:List K64):(kcells ss).length=ss.length*2:=by
 induction ss with
 | nil=>rfl
 | cons x ss ih =>
  have:kcells (x :: ss)=[.int .i64 x.1.1,.int .i64 x.1.2]++kcells ss:=rfl
  rw[this,List.length_append,ih,List.length_cons]
  simp
  omega
theorem kcells_get (ss:List K64):∀(i:Nat) (x:K64),ss[i]?=some x→(kcells ss)[i*2]?=some (.int .i64 x.1.1)∧(kcells ss)[i*2+1]?=some (.int .i64 x.1.2):=by
 induction ss with
 | nil=>intro i x h;simp at h
 | cons y ss ih =>
  intro i x h
  have e:kcells (y :: ss)=.int .i64 y.1.1 :: .int .i64 y.1.2 :: kcells ss:=rfl
  cases i with
  | zero=>simp at h;subst h;rw[e];exact⟨rfl,rfl⟩
  | succ i =>
   have:=ih i x (by simpa using h)
   rw[e,show (i+1)*2=i*2+1+1 by omega]
   exact⟨by rw[List.getElem?_cons_succ,List.getElem?_cons_succ];exact this.1,by rw[List.getElem?_cons_succ,List.getElem?_cons_succ];exact this.2⟩
theorem flat_eq (ss:List K64):(flatK kenc 2 ss.toArray).toList=kcells ss:=by
 apply List.ext_getElem?
 intro t
 by_cases h:t<ss.length*2
 ·have h1:t<(flatK kenc 2 ss.toArray).size:=by simpa using h
  rw[Array.getElem?_toList,Array.getElem?_eq_getElem h1,←getElem!_pos (flatK kenc 2 ss.toArray) t h1,get_flatK _ _ _ _ (by simpa using h)]
  have hi:t / 2<ss.length:=by omega
  have hx:ss[t / 2]?=some ss[t / 2]:=List.getElem?_eq_getElem hi
  have hx2:ss.toArray[t / 2]! = ss[t / 2]:=by simp[hi]
  obtain⟨g0,g1⟩:=kcells_get ss _ _ hx
  rw[hx2]
  rcases Nat.mod_two_eq_zero_or_one t with e | e
  ·rw[e]
   have:t=t / 2*2:=by omega
   rw[show (kcells ss)[t]?=(kcells ss)[t / 2*2]? by rw[←this],g0];rfl
  ·rw[e]
   have:t=t / 2*2+1:=by omega
   rw[show (kcells ss)[t]?=(kcells ss)[t / 2*2+1]? by rw[←this],g1];rfl
 ·rw[List.getElem?_eq_none (by simp;omega),List.getElem?_eq_none (by rw[kcells_len];omega)]
theorem holds_flat {w:World} {g:Nat} {cur:Array Value} {e:TypeId} {ss:List K64} (hb:w.heap[g]?=some (.cells cur e (0,0))) (ht:cur.toList.take (ss.length*2)=kcells ss):HoldsK kenc 2 w g 0 ss.toArray:=by
 intro j hj
 have hj':j<ss.length*2:=by simpa using hj
 refine⟨?_,by simp[World.frozen?,hb]⟩
 have h1:(cur.toList.take (ss.length*2))[j]?=(flatK kenc 2 ss.toArray).toList[j]?:=by rw[ht,flat_eq]
 rw[List.getElem?_take_of_lt hj']at h1
 simp only[World.cell?,hb,Nat.zero_add]
 simp only[Option.isSome_none,Bool.false_eq_true,if_false]
 rw[←Array.getElem?_toList,h1,Array.getElem?_toList,Array.getElem?_eq_getElem hj,←getElem!_pos]
 rfl
theorem owns_flat {w:World} {base g cap n:Nat} {e:TypeId} {os:Array Obj} {cur:Array Value} {ss ts:List K64} (hl:ts.length=ss.length) (hbase:base≤g) (hb:w.heap[g]?=some (.cells cur e (0,0))) (h1:ss.length≤cap) (h2:cap≤maxLen) (h3:cur.size=cap*2) :
  (sortWorldK kenc 2 w g 0 n ts.toArray os).ownsRow base e 2 (.slice (some ⟨g,0,none⟩) ss.length cap) ss.length (kcells ts):=by
 have hg:g<w.heap.size:=(Array.getElem?_eq_some_iff.1 hb).1
 have hheap:(sortWorldK kenc 2 w g 0 n ts.toArray os).heap[g]?=some (.cells (putCells id 0 (flatK kenc 2 ts.toArray) cur) e (0,0)):=by
  unfold sortWorldK putRowK
  rw[heap_grow_old _ _ (by simpa using hg)]
  simp[putRow,mapBlock,Sort.ahead,Array.getElem?_modify,hb,onCells]
 refine⟨by rw[kcells_len,hl],.inr ⟨g,cap,_,rfl,hbase,hheap,h1,h2,by simp[putCells,h3],?_⟩⟩
 rw[←flat_eq]
 apply List.ext_getElem?
 intro j
 by_cases hj:j<ss.length*2
 ·have hj2:j<(flatK kenc 2 ts.toArray).size:=by simp[hl];omega
  have hj3:j<ts.length*2:=by rw[hl];exact hj
  rw[List.getElem?_take_of_lt hj,Array.getElem?_toList,Array.getElem?_toList,Array.getElem?_eq_getElem hj2]
  simp[putCells,show j<cur.size by omega,hj3]
 ·rw[List.getElem?_take_eq_none (by omega),List.getElem?_eq_none (by simp[hl];omega)]
theorem grown_flat {w:World} {g n:Nat} {os:Array Obj} (d:Array K64):w.grownBy (sortWorldK kenc 2 w g 0 n d os) (some g):=by
 refine⟨rfl,rfl,rfl,by simp[sortWorldK,putRowK],fun k hk hne=>?_⟩
 unfold sortWorldK putRowK
 rw[heap_grow_old _ _ (by simpa using hk)]
 have:g≠k:=fun e=>hne (by rw[e])
 simp[putRow,mapBlock,Sort.ahead,Array.getElem?_modify,this]
theorem cmpK_tot:∀x y:K64,ltOf cmpK x y=false→ltOf cmpK y x=false→x=y:=fun x y h1 h2=>by
 rw[ltOf_cmpK]at h1 h2
 simp at h1 h2
 exact Subtype.ext (Prod.ext (by omega) (by omega))
def leK (x y:K64):Bool:=!ltOf cmpK y x
theorem sort_strict {ss:List K64} (hn:ss.Nodup):(ss.mergeSort leK).Pairwise (fun x y=>ltK x.1 y.1):=by
 have tr:∀a b c:K64,leK a b=true→leK b c=true→leK a c=true:=fun a b c h1 h2=>by
  unfold leK at *
  rw[ltOf_cmpK]at *
  simp at *
  omega
 have to:∀a b:K64,(leK a b || leK b a)=true:=fun a b=>by
  unfold leK
  rw[ltOf_cmpK,ltOf_cmpK]
  simp
  omega
 have h1:=List.pairwise_mergeSort tr to ss
 have h2:(ss.mergeSort leK).Nodup:=(List.mergeSort_perm ss leK).nodup_iff.2 hn
 refine(h1.and h2).imp ?_
 rintro a b ⟨h3,h4⟩
 unfold leK at h3
 rw[ltOf_cmpK]at h3
 simp at h3
 unfold ltK
 have:¬(a.1.1=b.1.1∧a.1.2=b.1.2):=fun e=>h4 (Subtype.ext (Prod.ext e.1 e.2))
 omega
theorem cmpLaysK (blk off size:Nat) (w:World):CmpLays Tryz.prog 40 #[] kenc 2 cmpK blk off size w:=fun _ _ _ _ x y=>byK x.1.1 x.1.2 y.1.1 y.1.2 _
theorem byK_enters:∀args w,(callFunc 40 args).run Tryz.prog w=.ok (.enter 40 args) w:=enters_of Tryz.func40 (by kernel_rfl) rfl
theorem sortFunc_any (blk cap:Nat) (ss:List K64) (w:World) (hH:HoldsK kenc 2 w blk 0 ss.toArray) (hblk:blk<w.heap.size) (hsz:ss.length<4611686018427387904) :
  Calls Tryz.prog 67 #[.slice (some ⟨blk,0,none⟩) ss.length cap,.func (.func 40) #[] #[]] w fun e w'=>e=.returned (.tuple #[])∧∃n os,w'=sortWorldK kenc 2 w blk 0 n (ss.mergeSort leK).toArray os:=by
 have hcon:=AnyQ.slices_SortFunc_total Tryz.sortKind 2 Tryz.isAgg104 Tryz.sizeOf104 kenc (fun _=>rfl) (fun x v hv=>by simp[kenc]at hv;rcases hv with rfl | rfl <;> rfl) cmpK swoK 40 #[] blk 0 cap ss.toArray w byK_enters (cmpLaysK blk 0 _ w) hH hblk (by simpa using hsz) cmpK_tot
 change Calls Tryz.prog 67 _ _ _ at hcon
 exact hcon
theorem sortFunc_none (p:Option Addr) (cap:Nat) (fv:Value) (w:World) :
  Calls Tryz.prog 67 #[.slice p 0 cap,fv] w fun e w'=>e=.returned (.tuple #[])∧w'=w:=by
 have hcon:=AnyF.slices_SortFunc_none Tryz.sortKind p cap fv w
 change Calls Tryz.prog 67 _ _ _ at hcon
 exact hcon
set_option maxHeartbeats 1000000 in
theorem sortedFunc_in (n:Nat) (hn:4≤n) (g:Nat) (lb:Array Value) (eg:∀args w,(callFunc g args).run Tryz.prog w=.ok (.enter g args) w) (P:K64→Prop) (Sp:List K64→Prop) (N:Nat) (hN:N≤maxLen) (hNb:N*16≤140737488355328) (w:World)
  (hseq:SeqStopsK Fence.wide (n - 1 - 1 - 1) Tryz.prog g lb (fun x:K64=>#[kv x.1]) KeepsWalks (fun ss=>ss.Nodup∧∀x,x∈ss↔P x) Sp N w) :
  CallsIn Fence.wide n Tryz.prog 38 #[.func (.func g) #[] lb,.func (.func 40) #[] #[]] w fun e w'=>∃(v:Value) (ss:List K64),e=.returned v∧ss.Pairwise (fun x y=>ltK x.1 y.1)∧(∀x,x∈ss↔P x)∧ss.length≤N∧w'.ownsRow w.heap.size 104 2 v ss.length (kcells ss)∧Below w.heap.size w w':=by
 have h1:1≤n:=by omega
 refine callsIn_of_wp Tryz.func38 rfl trivial ?_ rfl
 simp only[Tryz.ntmps38,List.size_toArray,List.length_cons,List.length_nil,Nat.reduceAdd,Nat.reduceSub,Array.replicate_succ,Array.replicate_zero,List.push_toArray,List.append_toArray,List.nil_append,List.cons_append]
 gi_wp2_with (refine⟨trivial,?_⟩;gi_at_call 66;refine(collect_in (n - 1) (by omega) g lb eg _ Sp N hN hNb _ hseq).mono ?_;rintro e W ⟨v,ss,rfl,⟨hS,hm⟩,hle,hrow,hb⟩)
 rcases hrow.2 with ⟨rfl,hz⟩ | ⟨gb,cap,cur,rfl,hbase,hgb,r1,r2,r3,r4⟩
 ·have hss:ss=[]:=List.eq_nil_of_length_eq_zero hz
  subst hss
  have HS:=hide (fun fv=>callsIn_wide (n:=n - 1).2 (sortFunc_none none 0 fv W))
  gi_wp2_with (refine⟨trivial,?_⟩;gi_at_call 67;refine(HS.out _).mono ?_;rintro e w' ⟨rfl,rfl⟩)
  go_ret
  exact⟨.slice none 0 0,[],rfl,List.Pairwise.nil,hm,Nat.zero_le _,hrow,hb⟩
 ·have hgl:gb<W.heap.size:=(Array.getElem?_eq_some_iff.1 hgb).1
  have HS:=hide (callsIn_wide (n:=n - 1).2 (sortFunc_any gb cap ss W (holds_flat hgb r4) hgl (by omega)))
  gi_wp2_with (refine⟨trivial,?_⟩;gi_at_call 67;refine HS.out.mono ?_;rintro e w' ⟨rfl,nn,os,rfl⟩)
  go_ret
  have hl:(ss.mergeSort leK).length=ss.length:=List.length_mergeSort ss
  refine⟨_,ss.mergeSort leK,rfl,sort_strict hS,fun x=>((List.mergeSort_perm ss leK).mem_iff).trans (hm x),by rw[hl];exact hle,?_,hb.grown (grown_flat _) hb.size (fun j hj=>by cases hj;exact hbase)⟩
  rw[hl]
  exact owns_flat hl hbase hgb r1 r2 r3
end Go.Proofs.YtfbegfapoijbnaaGreat
