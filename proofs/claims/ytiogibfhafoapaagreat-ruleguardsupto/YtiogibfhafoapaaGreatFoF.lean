import Derived.Test.YtiogibfhafoapaaGreatFoC
import Derived.Test.YtiogibfhafoapaaGreatEfE
import Derived.Test.YtiogibfhafoapaaGreatDcJ
import Derived.Test.YtiogibfhafoapaaGreatAbE
import Derived.Test.YtiogibfhafoapaaGreatAbS
import Derived.Test.YtiogibfhafoapaaGreatAbZ
set_option maxRecDepth 100000
set_option maxHeartbeats 8000000
set_option linter.unusedSimpArgs false
set_option linter.unusedVariables false
namespace Go.Proofs.YtiogibfhafoapaaGreat
open Go.RowKit
open Z (Sli SlOk Acd AcdOk Eda EdaOk AcOwn)
theorem allP_all {α:Type} {f:List α→α→Bool} {xs:List α} (h:allP f xs=true):∀x∈xs,∃l,f l x=true:=by
 intro x hx;obtain⟨i,hi⟩:=List.mem_iff_getElem?.1 hx;have e:xs=xs.take (i+1)++xs.drop (i+1):=(List.take_append_drop _ _).symm
 cases h1:allP f (xs.take (i+1)) with
 | false=>rw[e,allP_pre f _ _ h1]at h;cases h
 | true =>
  rw[Z.take_snoc hi,allP_snoc,Bool.and_eq_true]at h1;exact⟨_,h1.2⟩
theorem lines_rg {c:Cfg} {s:Sta} (hs:Shp c s) (hcl:c.cl≤4194304) {xs:List Lin} (h:linesOk c.cl xs=true):(∀x∈xs,LinWf x)∧∀x∈xs,RgL s x:=by
 unfold linesOk at h;simp only[Bool.and_eq_true,List.all_eq_true]at h;have hp:=hs.pn
 have one:∀x∈xs,(0≤x.c∧x.c≤(c.cl:Int) - 1)∧¬x.n < -1099511627776∧¬1099511627776<x.n:=fun x hx=>by
  have h1:=h.2 x hx;unfold lineOk at h1;simp at h1;obtain⟨⟨⟨h2,_⟩,h3⟩,h4⟩:=h1;exact⟨⟨h2.1,by omega⟩,by omega,by omega⟩
 refine⟨fun x hx=>?_,fun x hx=>?_⟩
 ·obtain⟨h1,h2,h3⟩:=one x hx
  exact⟨wf_of_rng (by omega) (by omega),wf_of_rng (by omega) (by omega)⟩
 ·obtain⟨h1,h2,h3⟩:=one x hx
  exact⟨x.c.toNat,by omega,by omega⟩
theorem guards_rg {c:Cfg} {s:Sta} (hs:Shp c s) {xs:List Tri} (h:guardsOk c.cl c.pl xs=true):∀x∈xs,RgG s x:=fun x hx=>by
 unfold guardsOk at h;simp only[Bool.and_eq_true,List.all_eq_true]at h;have h1:=h.2 x hx;have hp:=hs.pn;have hr:=hs.rn;unfold guardOk at h1;split at h1
 ·rename_i h2
  simp at h1;obtain⟨⟨h3,_⟩,_⟩:=h1;exact Or.inl ⟨h2,x.b.toNat,by omega,by omega⟩
 ·split at h1
  ·rename_i h2
   simp at h1;obtain⟨⟨h3,_⟩,_⟩:=h1;exact Or.inr ⟨h2,x.b.toNat,by omega,by omega⟩
  ·cases h1
theorem sets_rg {c:Cfg} {s:Sta} (hs:Shp c s) {lo hi:Int} {xs:List Tri} (h:setsOk c.pl lo hi xs=true):∀x∈xs,RgP s x:=fun x hx=>by
 unfold setsOk at h;simp only[Bool.and_eq_true]at h;obtain⟨l,hl⟩:=allP_all h.2 x hx;have hr:=hs.rn;unfold setOk at hl;simp at hl;obtain⟨⟨⟨⟨h1,_⟩,_⟩,_⟩,_⟩:=hl;exact⟨x.a.toNat,by omega,by omega⟩
theorem right_rg {c:Cfg} {s:Sta} (hs:Shp c s) {m:Int} {x:Tri} (h:rightOk c.cl m x=true):RgT s x:=by
 have hp:=hs.pn;unfold rightOk at h;simp at h;obtain⟨⟨⟨h1,h2⟩,_⟩,_⟩:=h;exact⟨⟨x.a.toNat,by omega,by omega⟩,by omega⟩
theorem only_nil {a:Acd} (h:a.d=(onlyA a).d) (hk:¬a.kind=1):a.lines.xs=[]∧a.guards.xs=[]∧a.sets.xs=[]∧a.other.xs=[]:=by
 unfold onlyA at h;rw[if_neg hk]at h;split at h
 ·simp[Z.Acd.d]at h
  exact⟨h.2.1,h.2.2.1,h.2.2.2.1,h.2.2.2.2.2.1⟩
 ·split at h
  ·simp[Z.Acd.d]at h
   exact⟨h.2.1,h.2.2.1,h.2.2.2.1,h.2.2.2.2.2.1⟩
  ·simp[Z.Acd.d]at h
   exact⟨h.2.1,h.2.2.1,h.2.2.2.1,h.2.2.2.2.2.1⟩
theorem chk_rg {c:Cfg} {a:Acd} {s:Sta} (h:ChkV c a 0) (hs:Shp c s) (hcl:c.cl≤4194304):JudgeRg s a:=by
 by_cases hK:KindOk a
 ·by_cases hH:HeadOk c a
  ·have hkd:=hK.1
   obtain⟨⟨t0,t1⟩,_⟩:=hH;have hgn:=hs.gn;have hon:=hs.on;have htill:∃t:Nat,a.till=(t:Int)∧RgH s t∧t<s.gn∧t<s.on:=⟨a.till.toNat,by omega,fun p hp=>by have:=hs.hl p hp;omega,by omega,by omega⟩;by_cases h1:a.kind=1
   ·have hw:=h.write hK ⟨⟨t0,t1⟩,by assumption⟩ h1
    unfold writeChk at hw;by_cases g1:(!linesOk c.cl a.lines.xs || decide (a.lines.xs.length+a.sets.xs.length=0))=true
    ·rw[if_pos g1]at hw;omega
    rw[if_neg g1]at hw;by_cases g2:(!guardsOk c.cl c.pl a.guards.xs)=true
    ·rw[if_pos g2]at hw;omega
    rw[if_neg g2]at hw;by_cases g3:(!setsOk c.pl (-1) (if a.mg=1 then 1099511627776 else -1) a.sets.xs)=true
    ·rw[if_pos g3]at hw;omega
    rw[if_neg g3]at hw;by_cases g4:(!mergeOk c.cl a)=true
    ·rw[if_pos g4]at hw;omega
    have l1:linesOk c.cl a.lines.xs=true:=by simp at g1;exact g1.1
    have l2:guardsOk c.cl c.pl a.guards.xs=true:=by simpa using g2
    have l3:setsOk c.pl (-1) (if a.mg=1 then 1099511627776 else -1) a.sets.xs=true:=by simpa using g3
    have l4:mergeOk c.cl a=true:=by simpa using g4
    have lo:(∀x∈a.other.xs,LinWf x)∧∀x∈a.other.xs,RgL s x:=by
     unfold mergeOk at l4;rw[Bool.and_eq_true]at l4;have l5:=l4.1;split at l5
     ·have e:a.other.xs=[]:=List.eq_nil_of_length_eq_zero (by simpa using l5)
      rw[e];exact⟨fun _ h=>(by cases h),fun _ h=>(by cases h)⟩
     ·split at l5
      ·rw[Bool.and_eq_true]at l5
       exact lines_rg hs hcl l5.2
      ·cases l5
    obtain⟨b1,b2⟩:=lines_rg hs hcl l1;exact⟨⟨b1,b2,guards_rg hs l2,sets_rg hs l3,lo.1,lo.2⟩,hkd,htill,fun _ _=>by omega,fun h=>by omega,fun h=>by omega⟩
   ·have hr:=h.rest hK ⟨⟨t0,t1⟩,by assumption⟩ h1
    have hg:goodOk c a=true:=by
     cases hb:goodOk c a with
     | true=>rfl
     | false=>rw[hb]at hr;simp at hr
    obtain⟨n1,n2,n3,n4⟩:=only_nil hK.2 h1;refine⟨⟨by rw[n1];exact fun _ h=>(by cases h),by rw[n1];exact fun _ h=>(by cases h),by rw[n2];exact fun _ h=>(by cases h),by rw[n3];exact fun _ h=>(by cases h),by rw[n4];exact fun _ h=>(by cases h),by rw[n4];exact fun _ h=>(by cases h)⟩,hkd,htill,fun q1 q2=>?_,fun q=>?_,fun q=>?_⟩
    ·unfold goodOk at hg
     split at hg
     ·simp only[Bool.and_eq_true]at hg
      exact right_rg hs hg.1.1
     ·split at hg
      ·omega
      ·exact right_rg hs hg
    ·unfold goodOk at hg
     rw[if_pos q]at hg;simp at hg;obtain⟨⟨_,q2⟩,_⟩:=hg;exact⟨a.to.toNat,by omega,fun p hp=>by have:=hs.hl p hp;omega⟩
    ·unfold goodOk at hg
     rw[if_neg (by omega),if_pos q]at hg;simp only[Bool.and_eq_true]at hg;unfold rightsOk at hg;intro x hx;obtain⟨l,hl⟩:=allP_all hg.2 x hx;rw[Bool.and_eq_true]at hl;exact right_rg hs hl.1
  ·have:=h.head hK hH;omega
 ·have:=h.kind hK;omega
theorem shp_of {c:Cfg} {s r:Sta} {B:Nat} {w:World} (hs:Shp c s) (hok:StaOk w s) {w':World} (hr:StaOw B w' r) (hd:r.d=s.d):Shp c r:=by
 unfold Sta.d at hd;simp only[StP.mk.injEq]at hd;obtain⟨_,h1,h2,h3,h4,h5⟩:=hd;have hl:=congrArg List.length h1;simp only[List.length_map]at hl;refine⟨by rw[←hr.pn,hl,hok.pn];exact hs.pn,by rw[←hr.rn,h2,hok.rn];exact hs.rn,by rw[←hr.ln,h3,hok.ln];exact hs.ln,by rw[←hr.gn,h4,hok.gn];exact hs.gn,by rw[←hr.on,h5,hok.on];exact hs.on,fun p hp=>?_⟩;obtain⟨i,hi⟩:=List.mem_iff_getElem?.1 hp;have h6:(r.pools.map Pl.d)[i]?=(s.pools.map Pl.d)[i]?:=by rw[h1]
 rw[List.getElem?_map,List.getElem?_map,hi]at h6
 cases hq:s.pools[i]? with
 | none=>rw[hq]at h6;simp at h6
 | some q =>
  rw[hq]at h6;simp[Pl.d]at h6;have hm:=List.mem_of_getElem? hq;have e1:=(hok.held q hm).len;rw[←hr.hlen p hp,h6.2.2.2,e1];exact hs.hl q hm
theorem clampF_rg (s:Sta) (xs:List Lin) (hx:∀x∈xs,RgL s x):∀y∈(clampF s xs).2,RgL s y:=by
 unfold clampF
 have:∀p:List Lin × List Lin,(∀y∈p.2,RgL s y)→∀y∈(xs.foldl clStep p).2,RgL s y:=by
  induction xs with
  | nil=>intro p h;exact h
  | cons x xs ih =>
   intro p h2;refine ih (fun y hy=>hx y (List.mem_cons_of_mem _ hy)) _ ?_;unfold clStep;split
   ·exact h2
   ·intro y hy
    rcases List.mem_append.1 hy with h | h
    ·exact h2 y h
    ·rw[List.mem_singleton]at h
     rw[h];exact hx x (List.mem_cons_self ..)
 exact this _ (fun _ h=>by cases h)
theorem judgeD_rg {s:Sta} {a:Acd} (h:JudgeRg s a):(∀x∈(judgeD s a).2.1,RgL s x)∧∀x∈(judgeD s a).2.2.1,RgP s x:=by
 have hr:∀xs:List Tri,(∀x∈xs,RgP s x)→∀x∈xs.map s.raise,RgP s x:=fun xs hx x hm=>by
  obtain⟨y,hy,rfl⟩:=List.mem_map.1 hm;obtain⟨k,e,hk⟩:=hx y hy;exact⟨k,e,hk⟩
 have hf:∀x∈a.sets.xs.filter s.want,RgP s x:=fun x hx=>h.act.sets x (List.mem_filter.1 hx).1
 have n1:∀x∈([]:List Lin),RgL s x:=fun _ h=>by cases h
 have n2:∀x∈([]:List Tri),RgP s x:=fun _ h=>by cases h
 constructor
 ·unfold judgeD otherD clampD
  repeat (first | exact h.act.lines | exact h.act.other | exact n1 | exact clampF_rg s _ h.act.lines | split)
 ·unfold judgeD otherD clampD
  repeat (first | exact n2 | exact hr _ h.act.sets | exact hr _ hf | split)
theorem judgeD_four {s:Sta} {a:Acd} (h:(judgeD s a).1=4):a.kind=2:=by
 apply Classical.byContradiction;intro hk;have hd:∀b,¬doneD b=4:=fun b=>by cases b <;> decide
 revert h;unfold judgeD otherD clampD;rw[if_neg hk];repeat' (first | exact hd _ | (intro h;simp only at h;omega) | split)
end Go.Proofs.YtiogibfhafoapaaGreat
namespace Go.Proofs.YtiogibfhafoapaaGreat
open Go.RowKit Go.Sort
open Z (Sli SlOk Acd AcdOk Eda EdaOk AcOwn)
def zeroSta:Sta:=⟨0,none,0,0,none,0,0,none,0,0,none,0,0,none,0,0,[],[],[],[],[]⟩
theorem zero_ow (B:Nat) (w:World):StaOw B w zeroSta:=⟨rfl,World.ownsRow_nil _ _ _ _,fun _ h=>(by cases h),fun _ h=>(by cases h),fun _ _ _ _ h=>(by cases h),rfl,World.ownsRow_nil _ _ _ _,rfl,World.ownsRow_nil _ _ _ _,rfl,World.ownsRow_nil _ _ _ _,rfl,World.ownsRow_nil _ _ _ _,fun g h=>by simp[zeroSta,Value.ownBlock]at h⟩
theorem st_zero:Tryz.prog.built 42 []=some qs:=by kernel_rfl
def Sta.setPos (s:Sta) (p:Int):Sta:={ s with pos:=p }
theorem StaOw.setPos {B:Nat} {w:World} {s:Sta} (h:StaOw B w s) (p:Int):StaOw B w (s.setPos p):=⟨h.pn,h.pools,h.hlen,h.held,h.apart,h.rn,h.prices,h.ln,h.last,h.gn,h.gen,h.on,h.owed,h.lg⟩
def fenD (s:Sta) (till:Int):Int × Z.AcP × Int × List Lin × List Tri × Int × Int × Int:=(IntKind.u64.wrap (s.pos+1),noAct.d,0,[],[],0,till,IntKind.u64.wrap (getAt s.gen 0 till+1))
def OrdOk (s:Sta) (e:Eda):Prop:=e.po=IntKind.u64.wrap (s.pos+1)∧e.po≤1099511627776
def NumOk (s:Sta) (e:Eda):Prop:=e.ac.num=IntKind.u64.wrap (getAt s.last 0 e.ac.till+1)
structure FoldV (c:Cfg) (s:Sta) (e:Eda) (f:Int):Prop where
 order:¬OrdOk s e→f=100
 fence:OrdOk s e→e.ac.kind=0→¬(FenOk c.tills s e.fe∧e.dd=fenD s e.fe)→f=103
 fenced:OrdOk s e→e.ac.kind=0→FenOk c.tills s e.fe→e.dd=fenD s e.fe→f=0
 act:OrdOk s e→¬e.ac.kind=0→¬(ChkV c e.ac 0∧NumOk s e)→f=101
 out:OrdOk s e→¬e.ac.kind=0→ChkV c e.ac 0→NumOk s e→¬e.dd=nextD s e.ac→f=102
 acted:OrdOk s e→¬e.ac.kind=0→ChkV c e.ac 0→NumOk s e→e.dd=nextD s e.ac→f=0
def foldR (r0:Sta) (e:Eda):Sta :=
 if e.ac.kind=0 then ((r0.setPos e.po).setGen e.fe.toNat e.ge).setOw e.fe.toNat true
 else effD ((r0.setPos e.po).setLast e.ac.till.toNat e.ac.num) e
def FoldP (w:World) (c:Cfg) (s:Sta) (e:Eda) (E:Ending) (w':World):Prop :=
 ∃(r:Sta) (f:Int),E=.returned (.tuple #[.agg r.arr,.int .i64 f])∧FoldV c s e f∧StaOw w.heap.size w' r∧Below w.heap.size w w'∧(f=0→Shp c r∧∃r0:Sta,r0.d=s.d∧r=foldR r0 e)
theorem chk_one {c:Cfg} {a:Acd} {V V':Int} (h:ChkV c a V) (h':ChkV c a V'):V=V':=by
 by_cases hK:KindOk a
 ·by_cases hH:HeadOk c a
  ·by_cases h1:a.kind=1
   ·rw[h.write hK hH h1,h'.write hK hH h1]
   ·rw[h.rest hK hH h1,h'.rest hK hH h1]
  ·rw[h.head hK hH,h'.head hK hH]
 ·rw[h.kind hK,h'.kind hK]
theorem StaOw.far {B:Nat} {W W':World} {s:Sta} (h:StaOw B W s) (hk:∀(g:Nat) (C:Array Value) (t:TypeId),W.heap[g]?=some (.cells C t (0,0))→MutT t→W'.heap[g]?=W.heap[g]?):StaOw B W' s:=by
 have K:∀(B' k' n':Nat) (t:TypeId) (u:Value) (ys:List Value),W.ownsRow B' t k' u n' ys→MutT t→W'.ownsRow B' t k' u n' ys:=fun B' k' n' t u ys hr ht=>owns_same hr (fun g e=>by obtain⟨C,hC⟩:=own_blk hr e;exact hk g C _ hC ht)
 exact⟨h.pn,K _ _ _ _ _ _ h.pools (Or.inl rfl),h.hlen,fun x hx=>K _ _ _ _ _ _ (h.held x hx) (Or.inr (Or.inl rfl)),h.apart,h.rn,K _ _ _ _ _ _ h.prices (Or.inr (Or.inr (Or.inl rfl))),h.ln,K _ _ _ _ _ _ h.last (Or.inr (Or.inr (Or.inr (Or.inl rfl)))),h.gn,K _ _ _ _ _ _ h.gen (Or.inr (Or.inr (Or.inr (Or.inl rfl)))),h.on,K _ _ _ _ _ _ h.owed (Or.inr (Or.inr (Or.inr (Or.inr rfl)))),h.lg⟩
theorem lp_loadw {P:Program} {ops:Array Oper} {rest:List Oper} {a:Act} {w:World} {Q:Exit→Act→World→Prop} {dst:Option Tmp} {t ty:TypeId} {x:Operand} {pos:String} {after:Array Edge} {gd:Option (Nat × Bool)} (b o:Nat) (A:Array Value)
  (hw:Region.wanted ⟨dst,.load t x,ty,pos,after,gd⟩ (yielded ops a.tmps)=true) (hx:a.eval x=.pointer (some ⟨b,o,none⟩)) (hr:(Instr.loadAt t (.pointer (some ⟨b,o,none⟩))).run P w=.ok (.agg A) w) (h:wpList P ops Q rest (a.put dst (.agg A)) w) :
  wpList P ops Q (⟨dst,.load t x,ty,pos,after,gd⟩ :: rest) a w:=by
 refine wpList_step fun K hK=>?_
 rw[if_pos hw];unfold Oper.wp;simp[execOp,hx,hr,Result.andThen];exact hK _ _ h
theorem fold_boxes (w:World) (C S E R:Array Value):∃w2,(((w.alloc (.cells C 34)).alloc (.cells S 42)).alloc (.cells E 136)).alloc (.cells R 42)=w2∧Below w.heap.size w w2∧w2.heap[w.heap.size]?=some (.cells C 34 (0,0))∧w2.heap[w.heap.size+1]?=some (.cells S 42 (0,0))∧w2.heap[w.heap.size+1+1]?=some (.cells E 136 (0,0))∧w2.heap[w.heap.size+1+1+1]?=some (.cells R 42 (0,0))∧w2.heap.size=w.heap.size+1+1+1+1:=by
 refine⟨_,rfl,((((Below.refl _ w).alloc (Nat.le_refl _) _).alloc (by simp) _).alloc (by simp;omega) _).alloc (by simp;omega) _,?_,?_,?_,?_,by simp⟩
 ·rw[Below.heap_alloc _ _ _ (by simp only[World.size_alloc];omega),Below.heap_alloc _ _ _ (by simp only[World.size_alloc];omega),Below.heap_alloc _ _ _ (by simp)];exact heap_alloc_new _ _
 ·rw[Below.heap_alloc _ _ _ (by simp only[World.size_alloc];omega),Below.heap_alloc _ _ _ (by simp)];exact heap_alloc2_new _ _ _
 ·rw[Below.heap_alloc _ _ _ (by simp only[World.size_alloc];omega)]
  have h:=heap_alloc_new ((w.alloc (.cells C 34)).alloc (.cells S 42)) (.cells E 136);simp only[World.size_alloc]at h;exact h
 ·have h:=heap_alloc_new (((w.alloc (.cells C 34)).alloc (.cells S 42)).alloc (.cells E 136)) (.cells R 42)
  simp only[World.size_alloc]at h;exact h
theorem fo_hx {w w2:World} {c:Cfg} {s:Sta} {e:Eda} (hx2:w2.heap[w.heap.size]?=some (.cells (qC c) 34 (0,0))) (hy2:w2.heap[w.heap.size+1]?=some (.cells (qS s) 42 (0,0))) (hz2:w2.heap[w.heap.size+1+1]?=some (.cells (qE e) 136 (0,0))):∀W,Below w2.heap.size w2 W→(W.cell? ⟨w.heap.size,0,none⟩=some (.int .i64 c.tills)∧W.cell? ⟨w.heap.size,1,none⟩=some (.slice c.cp c.cl c.cc)∧W.cell? ⟨w.heap.size,2,none⟩=some (.slice c.pp c.pl c.pc)∧W.cell? ⟨w.heap.size,3,none⟩=some (.int .i64 c.lease)∧W.cell? ⟨w.heap.size,4,none⟩=some (.int .i64 c.watch)∧W.cell? ⟨w.heap.size,5,none⟩=some (.int .i64 c.beat)∧W.cell? ⟨w.heap.size,6,none⟩=some (.int .i64 c.window)∧W.cell? ⟨w.heap.size,7,none⟩=some (.int .i64 c.cap)∧W.cell? ⟨w.heap.size,8,none⟩=some (.int .i64 c.flight)∧W.cell? ⟨w.heap.size+1,0,none⟩=some (.int .u64 s.pos)∧W.cell? ⟨w.heap.size+1,1,none⟩=some (.slice s.pp s.pn s.pc)∧W.cell? ⟨w.heap.size+1,2,none⟩=some (.slice s.rp s.rn s.rc)∧W.cell? ⟨w.heap.size+1,3,none⟩=some (.slice s.lp s.ln s.lc)∧W.cell? ⟨w.heap.size+1,4,none⟩=some (.slice s.gp s.gn s.gc)∧W.cell? ⟨w.heap.size+1,5,none⟩=some (.slice s.op s.on s.oc)∧W.cell? ⟨w.heap.size+1+1,0,none⟩=some (.int .u64 e.po)∧W.cell? ⟨w.heap.size+1+1,1,none⟩=some (.int .i64 e.ac.till)∧W.cell? ⟨w.heap.size+1+1,2,none⟩=some (.int .u64 e.ac.num)∧W.cell? ⟨w.heap.size+1+1,3,none⟩=some (.int .i64 e.ac.kind)∧W.cell? ⟨w.heap.size+1+1,4,none⟩=some (.bool e.ac.sure)∧W.cell? ⟨w.heap.size+1+1,5,none⟩=some (.slice e.ac.lines.p e.ac.lines.n e.ac.lines.c)∧W.cell? ⟨w.heap.size+1+1,6,none⟩=some (.slice e.ac.guards.p e.ac.guards.n e.ac.guards.c)∧W.cell? ⟨w.heap.size+1+1,7,none⟩=some (.slice e.ac.sets.p e.ac.sets.n e.ac.sets.c)∧W.cell? ⟨w.heap.size+1+1,8,none⟩=some (.int .i64 e.ac.mg)∧W.cell? ⟨w.heap.size+1+1,9,none⟩=some (.slice e.ac.other.p e.ac.other.n e.ac.other.c)∧W.cell? ⟨w.heap.size+1+1,10,none⟩=some (.int .i64 e.ac.ra)∧W.cell? ⟨w.heap.size+1+1,11,none⟩=some (.int .i64 e.ac.rb)∧W.cell? ⟨w.heap.size+1+1,12,none⟩=some (.int .i64 e.ac.rd)∧W.cell? ⟨w.heap.size+1+1,13,none⟩=some (.int .i64 e.ac.to)∧W.cell? ⟨w.heap.size+1+1,14,none⟩=some (.int .u64 e.ac.gen)∧W.cell? ⟨w.heap.size+1+1,15,none⟩=some (.slice e.ac.rights.p e.ac.rights.n e.ac.rights.c)∧W.cell? ⟨w.heap.size+1+1,16,none⟩=some (.int .i64 e.oc)∧W.cell? ⟨w.heap.size+1+1,17,none⟩=some (.slice e.made.p e.made.n e.made.c)∧W.cell? ⟨w.heap.size+1+1,18,none⟩=some (.slice e.sets.p e.sets.n e.sets.c)∧W.cell? ⟨w.heap.size+1+1,19,none⟩=some (.int .i64 e.n)∧W.cell? ⟨w.heap.size+1+1,20,none⟩=some (.int .i64 e.fe)∧W.cell? ⟨w.heap.size+1+1,21,none⟩=some (.int .u64 e.ge)):=fun W hb=>by
 have h1:=(hb.block _ (ac_lt hx2)).trans hx2;have h2:=(hb.block _ (ac_lt hy2)).trans hy2;have h3:=(hb.block _ (ac_lt hz2)).trans hz2;obtain⟨d0,d1,d2,d3,d4,d5,d6,d7,d8⟩:=ac9 h1;obtain⟨c0,c1,c2,c3,c4,c5⟩:=ac6 h2;exact⟨d0,d1,d2,d3,d4,d5,d6,d7,d8,c0,c1,c2,c3,c4,c5,by rw[cell_of_row _ _ _ _ _ _ h3];rfl,by rw[cell_of_row _ _ _ _ _ _ h3];rfl,by rw[cell_of_row _ _ _ _ _ _ h3];rfl,by rw[cell_of_row _ _ _ _ _ _ h3];rfl,by rw[cell_of_row _ _ _ _ _ _ h3];rfl,by rw[cell_of_row _ _ _ _ _ _ h3];rfl,by rw[cell_of_row _ _ _ _ _ _ h3];rfl,by rw[cell_of_row _ _ _ _ _ _ h3];rfl,by rw[cell_of_row _ _ _ _ _ _ h3];rfl,by rw[cell_of_row _ _ _ _ _ _ h3];rfl,by rw[cell_of_row _ _ _ _ _ _ h3];rfl,by rw[cell_of_row _ _ _ _ _ _ h3];rfl,by rw[cell_of_row _ _ _ _ _ _ h3];rfl,by rw[cell_of_row _ _ _ _ _ _ h3];rfl,by rw[cell_of_row _ _ _ _ _ _ h3];rfl,by rw[cell_of_row _ _ _ _ _ _ h3];rfl,by rw[cell_of_row _ _ _ _ _ _ h3];rfl,by rw[cell_of_row _ _ _ _ _ _ h3];rfl,by rw[cell_of_row _ _ _ _ _ _ h3];rfl,by rw[cell_of_row _ _ _ _ _ _ h3];rfl,by rw[cell_of_row _ _ _ _ _ _ h3];rfl,by rw[cell_of_row _ _ _ _ _ _ h3];rfl⟩
theorem rfold_ord (w:World) (c:Cfg) (s:Sta) (hs:StaOk w s) (_hsm:StSm s) (_hpw:∀p∈s.pools,LinWf (frL p)) (_hsh:Shp c s) (_hcl:c.cl≤4194304) (_hpl:c.pl≤4194304) (_htl:0≤c.tills∧c.tills≤1000000) (e:Eda) (hok:EdaOk w e) (hO:¬OrdOk s e) :
  Calls Tryz.prog 44 #[.agg (qC c),.agg (qS s),.agg (qE e)] w (FoldP w c s e):=by
 obtain⟨w2,hw2,hb2,hx2,hy2,hz2,hr2,hsz2⟩:=fold_boxes w (qC c) (qS s) (qE e) qs;have HW2:=hide hw2;have HB2:=hide hb2;have HR2:=hide hr2;have HX:=hide (fo_hx (w:=w) hx2 hy2 hz2);have HEn:Hid (∀W,Below w2.heap.size w2 W→W.heap[w.heap.size+1+1]?=some (.cells (qE e) 136 (0,0))):=fun W hb=>(hb.block _ (ac_lt hz2)).trans hz2
 have HRz:Hid (∀W,Below w2.heap.size w2 W→W.heap[w.heap.size+1+1+1]?=some (.cells qs 42 (0,0))):=fun W hb=>(hb.block _ (ac_lt hr2)).trans hr2
 have HS:=hide (hs.below hb2);have HOk:=hide (hok.below hb2);have hz4:w.heap.size+1+1+1<w2.heap.size:=by omega
 obtain⟨np,hnp⟩:∃p,IntKind.u64.wrap (s.pos+1)=p:=⟨_,rfl⟩;have HNp:=hide hnp;have HI:Hid (Below w2.heap.size w2 w2):=Below.refl _ _;obtain⟨d0,d1,d2,d3,d4,d5,d6,d7,d8,c0,c1,c2,c3,c4,c5,e0,e1,e2,e3,e4,e5,e6,e7,e8,e9,e10,e11,e12,e13,e14,e15,e16,e17,e18,e19,e20,e21⟩:=HX.out w2 HI.out;clear hw2 hb2 hx2 hy2 hz2 hr2 hs hok;go_enter Tryz.func44,Tryz.ntmps44;go_upto_region 1 with (fail);rw[HW2.out];by_cases q1:¬e.po=np
 ·skip
  have HO:Hid (¬OrdOk s e):=by show ¬_;intro h;exact q1 (h.1.trans HNp.out)
  have q1':((e.po:Int) == np)=false:=by simp[q1]
  have q1n:((e.po:Int) != np)=true:=by simp[q1]
  have q1m:¬e.po=np:=q1;have HSt:=hide (Z.storeAt_row (P:=Tryz.prog) (c':=qs) (HRz.out w2 HI.out) Tryz.sizeS rfl (by simp[Value.oneCell']));have HRw:=hide (setRow_heap _ _ _ qs _ _ (HRz.out w2 HI.out))
  have HFv:Hid (FoldV c s e 100):=by
   exact⟨fun _=>rfl,fun h=>absurd h HO.out,fun h=>absurd h HO.out,fun h=>absurd h HO.out,fun h=>absurd h HO.out,fun h=>absurd h HO.out⟩
  go_wp2_with (first | ((with_reducible show wpList _ _ _ (⟨_,.build _ _,_,_,_,_⟩ :: _) _ _);refine Z.lp_built rfl 42 _ rfl [] rfl qs st_zero ?_) | ((with_reducible show wpList _ _ _ (⟨_,.store 42 (.tmp 6) _,_,_,_,_⟩ :: _) _ _);refine Z.lp_store (t:=42) (x:=.tmp 6) (some ⟨w.heap.size+1+1+1,0,none⟩) (.agg qs) rfl rfl HSt.out ?_))
  refine bodyPost_ret (res_et rfl rfl HRw.out Tryz.underlying42 rfl Tryz.sizeS) rfl ?_;exact⟨zeroSta,100,rfl,HFv.out,zero_ow _ _,below_setRow (HB2.out.trans (HI.out.mono HB2.out.size)) (by omega) _,fun h=>absurd h (by decide)⟩
 have q1:e.po=np:=Classical.byContradiction (fun h=>q1 h);by_cases q2:1099511627776<e.po
 ·have HO:Hid (¬OrdOk s e):=by show ¬_;intro h;have:=h.2;omega
  have q1':((e.po:Int) == np)=true:=by simp[q1]
  have q1n:((e.po:Int) != np)=false:=by simp[q1]
  clear q1;have HSt:=hide (Z.storeAt_row (P:=Tryz.prog) (c':=qs) (HRz.out w2 HI.out) Tryz.sizeS rfl (by simp[Value.oneCell']));have HRw:=hide (setRow_heap _ _ _ qs _ _ (HRz.out w2 HI.out))
  have HFv:Hid (FoldV c s e 100):=by
   exact⟨fun _=>rfl,fun h=>absurd h HO.out,fun h=>absurd h HO.out,fun h=>absurd h HO.out,fun h=>absurd h HO.out,fun h=>absurd h HO.out⟩
  go_wp2_with (first | ((with_reducible show wpList _ _ _ (⟨_,.build _ _,_,_,_,_⟩ :: _) _ _);refine Z.lp_built rfl 42 _ rfl [] rfl qs st_zero ?_) | ((with_reducible show wpList _ _ _ (⟨_,.store 42 (.tmp 6) _,_,_,_,_⟩ :: _) _ _);refine Z.lp_store (t:=42) (x:=.tmp 6) (some ⟨w.heap.size+1+1+1,0,none⟩) (.agg qs) rfl rfl HSt.out ?_))
  refine bodyPost_ret (res_et rfl rfl HRw.out Tryz.underlying42 rfl Tryz.sizeS) rfl ?_;exact⟨zeroSta,100,rfl,HFv.out,zero_ow _ _,below_setRow (HB2.out.trans (HI.out.mono HB2.out.size)) (by omega) _,fun h=>absurd h (by decide)⟩
 exact absurd ⟨q1.trans HNp.out.symm,by omega⟩ hO
theorem rfold_fence (w:World) (c:Cfg) (s:Sta) (hs:StaOk w s) (hsm:StSm s) (_hpw:∀p∈s.pools,LinWf (frL p)) (hsh:Shp c s) (_hcl:c.cl≤4194304) (_hpl:c.pl≤4194304) (_htl:0≤c.tills∧c.tills≤1000000) (e:Eda) (hok:EdaOk w e) (hO:OrdOk s e) (k0:e.ac.kind=0) :
  Calls Tryz.prog 44 #[.agg (qC c),.agg (qS s),.agg (qE e)] w (FoldP w c s e):=by
 obtain⟨w2,hw2,hb2,hx2,hy2,hz2,hr2,hsz2⟩:=fold_boxes w (qC c) (qS s) (qE e) qs;have HW2:=hide hw2;have HB2:=hide hb2;have HR2:=hide hr2;have HX:=hide (fo_hx (w:=w) hx2 hy2 hz2);have HEn:Hid (∀W,Below w2.heap.size w2 W→W.heap[w.heap.size+1+1]?=some (.cells (qE e) 136 (0,0))):=fun W hb=>(hb.block _ (ac_lt hz2)).trans hz2
 have HRz:Hid (∀W,Below w2.heap.size w2 W→W.heap[w.heap.size+1+1+1]?=some (.cells qs 42 (0,0))):=fun W hb=>(hb.block _ (ac_lt hr2)).trans hr2
 have HS:=hide (hs.below hb2);have HOk:=hide (hok.below hb2);have hz4:w.heap.size+1+1+1<w2.heap.size:=by omega
 obtain⟨np,hnp⟩:∃p,IntKind.u64.wrap (s.pos+1)=p:=⟨_,rfl⟩;have HNp:=hide hnp;have HI:Hid (Below w2.heap.size w2 w2):=Below.refl _ _;obtain⟨d0,d1,d2,d3,d4,d5,d6,d7,d8,c0,c1,c2,c3,c4,c5,e0,e1,e2,e3,e4,e5,e6,e7,e8,e9,e10,e11,e12,e13,e14,e15,e16,e17,e18,e19,e20,e21⟩:=HX.out w2 HI.out;clear hw2 hb2 hx2 hy2 hz2 hr2 hs hok;obtain⟨q1,q3⟩:=hO;rw[hnp]at q1;have q2:¬1099511627776<e.po:=by omega
 have HO:Hid (OrdOk s e):=⟨q1.trans HNp.out.symm,by omega⟩;have q1':((e.po:Int) == np)=true:=by simp[q1]
 have q1n:((e.po:Int) != np)=false:=by simp[q1]
 clear q1;have k0':(e.ac.kind == 0)=true:=by simp[k0]
 have HK0:=hide k0;clear k0;go_enter Tryz.func44,Tryz.ntmps44;go_upto_region 1 with (fail);rw[HW2.out];have HCs:=hide (copyState_any w2 s HS.out hsm);go_upto_region 4 with (first | (go_at_call 15;refine HCs.out.mono ?_;rintro e1 w3 ⟨r0,rfl,hd0,ho0,hb3⟩;have HD0:=hide hd0;have HO0:=hide ho0;have HB3:=hide hb3;have HSt:=hide (run_storeAt_new (P:=Tryz.prog) w3 42 qs r0.arr Tryz.sizeS rfl (by simp[Sta.arr,Value.oneCell']));clear hd0 ho0 hb3 d0 d1 d2 d3 d4 d5 d6 d7 d8 c0 c1 c2 c3 c4 c5 e0 e1 e2 e3 e4 e5 e6 e7 e8 e9 e10 e11 e12 e13 e14 e15 e16 e17 e18 e19 e20 e21) | ((with_reducible show wpList _ _ _ (⟨_,.store 42 (.tmp 8) _,_,_,_,_⟩ :: _) _ _);refine Z.lp_store (t:=42) (x:=.tmp 8) (some ⟨w3.heap.size,0,none⟩) (.agg r0.arr) rfl rfl HSt.out ?_));have hT4:=heap_alloc_new w3 (.cells r0.arr 42);have hb4:Below w3.heap.size w3 (w3.alloc (.cells r0.arr 42)):=(Below.refl _ _).alloc (Nat.le_refl _) _;obtain⟨w4,hw4⟩:∃W,w3.alloc (.cells r0.arr 42)=W:=⟨_,rfl⟩;rw[hw4]at hT4 hb4 ⊢;clear hw4;obtain⟨tb,htb⟩:∃k,w3.heap.size=k:=⟨_,rfl⟩;rw[htb]at hT4 ⊢;have htb2:w2.heap.size≤tb:=by have:=HB3.out.size;omega
 have hbb4:Below w2.heap.size w2 w4:=HB3.out.trans (hb4.mono HB3.out.size);have hO4:=HO0.out.below hb4;obtain⟨d0,d1,d2,d3,d4,d5,d6,d7,d8,c0,c1,c2,c3,c4,c5,e0,e1,e2,e3,e4,e5,e6,e7,e8,e9,e10,e11,e12,e13,e14,e15,e16,e17,e18,e19,e20,e21⟩:=HX.out w4 hbb4;have t0:w4.cell? ⟨tb,0,none⟩=some (.int .u64 r0.pos):=by rw[cell_of_row _ _ _ _ _ _ hT4];rfl
 have tf:=frozen_of_row w4 tb 0 _ _ hT4;have HT4:=hide hT4;have HO4:=hide hO4;have HBb4:=hide hbb4;clear hT4 hb4 hO4 hbb4 htb;go_upto_region 5 with (fail);obtain⟨w5,hw5⟩:∃W,w4.setCell ⟨tb,0,none⟩ (.int .u64 e.po)=W:=⟨_,rfl⟩;have HT5:Hid (w5.heap[tb]?=some (.cells (r0.setPos e.po).arr 42 (0,0))):=by show _=_;rw[←hw5];exact heap_setCell_same w4 tb 0 _ _ (.int .u64 e.po) HT4.out
 have HB5:Hid (Below w2.heap.size w2 w5):=by show Below _ _ _;rw[←hw5];exact HBb4.out.setCell (p:=⟨tb,0,none⟩) htb2 _
 have HO5:Hid (StaOw w2.heap.size w5 (r0.setPos e.po)):=by
  show StaOw _ _ _;refine(HO4.out.setPos e.po).far (fun g C t hg ht=>?_);rw[←hw5,heap_setCell_other _ _ _ _ (by show g≠tb;rintro rfl;rw[HT4.out]at hg;cases hg;exact not_mut rfl ht)]
 rw[hw5];clear hw5 t0 tf HT4 HO4 HBb4 d0 d1 d2 d3 d4 d5 d6 d7 d8 c0 c1 c2 c3 c4 c5 e0 e1 e2 e3 e4 e5 e6 e7 e8 e9 e10 e11 e12 e13 e14 e15 e16 e17 e18 e19 e20 e21;obtain⟨d0,d1,d2,d3,d4,d5,d6,d7,d8,c0,c1,c2,c3,c4,c5,e0,e1,e2,e3,e4,e5,e6,e7,e8,e9,e10,e11,e12,e13,e14,e15,e16,e17,e18,e19,e20,e21⟩:=HX.out w5 HB5.out
 have HSh:Hid (Shp c (r0.setPos e.po)):=by
  have h:=shp_of hsh HS.out HO0.out HD0.out;exact⟨h.pn,h.rn,h.ln,h.gn,h.on,h.hl⟩
 obtain⟨r1,hr1⟩:∃r,r0.setPos e.po=r:=⟨_,rfl⟩;have HR1:=hide hr1;rw[hr1]at HT5 HO5 HSh;clear hr1;have HFe:=hide (rfence_any w5 c s (HS.out.below HB5.out) (by have:=hsh.gn;omega) (by have:=hsh.on;omega) e.fe);go_upto_region 7 with (first | (go_at_call 46;refine HFe.out.mono ?_;rintro e1 w6 ⟨E,b,rfl,hEk,hbI,hbD,hb6⟩;have HEk:=hide hEk;have HbI:=hide hbI;have HbD:=hide hbD;have HB6:=hide hb6;have HSt2:=hide (run_storeAt_new (P:=Tryz.prog) w6 136 qe E.arr Tryz.sizeE rfl (Z.Eda.ones E));clear hEk hbI hbD hb6 d0 d1 d2 d3 d4 d5 d6 d7 d8 c0 c1 c2 c3 c4 c5 e0 e1 e2 e3 e4 e5 e6 e7 e8 e9 e10 e11 e12 e13 e14 e15 e16 e17 e18 e19 e20 e21) | ((with_reducible show wpList _ _ _ (⟨_,.store 136 (.tmp 9) _,_,_,_,_⟩ :: _) _ _);refine Z.lp_store (t:=136) (x:=.tmp 9) (some ⟨w6.heap.size,0,none⟩) (.agg E.arr) rfl rfl HSt2.out ?_));have hF7:=heap_alloc_new w6 (.cells E.arr 136);have hb7:Below w6.heap.size w6 (w6.alloc (.cells E.arr 136)):=(Below.refl _ _).alloc (Nat.le_refl _) _;obtain⟨w7,hw7⟩:∃W,w6.alloc (.cells E.arr 136)=W:=⟨_,rfl⟩;rw[hw7]at hF7 hb7 ⊢;clear hw7;obtain⟨fb,hfb⟩:∃k,w6.heap.size=k:=⟨_,rfl⟩;rw[hfb]at hF7 ⊢;clear hfb;have HB57:Hid (Below w5.heap.size w5 w7):=HB6.out.trans (hb7.mono HB6.out.size);have HB7:Hid (Below w2.heap.size w2 w7):=HB5.out.trans (HB57.out.mono HB5.out.size);have HF7:=hide hF7;have HE7:=hide (HEk.out.below hb7);clear hF7 hb7;obtain⟨d0,d1,d2,d3,d4,d5,d6,d7,d8,c0,c1,c2,c3,c4,c5,e0,e1,e2,e3,e4,e5,e6,e7,e8,e9,e10,e11,e12,e13,e14,e15,e16,e17,e18,e19,e20,e21⟩:=HX.out w7 HB7.out
 cases b with
 | false =>
  have HSt:=hide (Z.storeAt_row (P:=Tryz.prog) (c':=qs) (HRz.out w7 HB7.out) Tryz.sizeS rfl (by simp[Value.oneCell']));have HRw:=hide (setRow_heap _ _ _ qs _ _ (HRz.out w7 HB7.out))
  have HFv:Hid (FoldV c s e 103):=by
   refine⟨fun h=>absurd HO.out h,fun _ _ _=>rfl,fun _ _ h=>?_,fun _ h=>absurd HK0.out h,fun _ h=>absurd HK0.out h,fun _ h=>absurd HK0.out h⟩;have h1:=HbI.out.2 h;cases h1
  go_wp2_with (first | ((with_reducible show wpList _ _ _ (⟨_,.build _ _,_,_,_,_⟩ :: _) _ _);refine Z.lp_built rfl 42 _ rfl [] rfl qs st_zero ?_) | ((with_reducible show wpList _ _ _ (⟨_,.store 42 (.tmp 6) _,_,_,_,_⟩ :: _) _ _);refine Z.lp_store (t:=42) (x:=.tmp 6) (some ⟨w.heap.size+1+1+1,0,none⟩) (.agg qs) rfl rfl HSt.out ?_))
  refine bodyPost_ret (res_et rfl rfl HRw.out Tryz.underlying42 rfl Tryz.sizeS) rfl ?_;exact⟨zeroSta,103,rfl,HFv.out,zero_ow _ _,below_setRow (HB2.out.trans (HB7.out.mono HB2.out.size)) (by omega) _,fun h=>absurd h (by decide)⟩
 | true =>
  obtain⟨D,hD⟩:=bool_of (e.dd=E.dd);have HD:=hide hD;have HEq:Hid (Calls Tryz.prog 97 #[.agg (qE e),.agg E.arr] w7 fun e1 w'=>e1=.returned (.bool D)∧Below w7.heap.size w7 w'):=reqEntry_any w7 e E ((HOk.out.below HB7.out)) HE7.out D hD;have HLE:=hide (Z.loadAt_row (P:=Tryz.prog) (ty:=136) (HEn.out w7 HB7.out) Tryz.underlying136 rfl Tryz.sizeE);have HL7:=hide (Z.loadAt_row (P:=Tryz.prog) (ty:=136) HF7.out Tryz.underlying136 rfl Tryz.sizeE);clear hD
  cases D with
  | false =>
   go_upto_region 8 with (first | (go_at_call 97;refine HEq.out.mono ?_;rintro e1 w8 ⟨rfl,hb8⟩;have HB8:Hid (Below w2.heap.size w2 w8):=HB7.out.trans (hb8.mono HB7.out.size);have HB58:Hid (Below w5.heap.size w5 w8):=HB57.out.trans (hb8.mono HB57.out.size);clear hb8 d0 d1 d2 d3 d4 d5 d6 d7 d8 c0 c1 c2 c3 c4 c5 e0 e1 e2 e3 e4 e5 e6 e7 e8 e9 e10 e11 e12 e13 e14 e15 e16 e17 e18 e19 e20 e21;obtain⟨d0,d1,d2,d3,d4,d5,d6,d7,d8,c0,c1,c2,c3,c4,c5,e0,e1,e2,e3,e4,e5,e6,e7,e8,e9,e10,e11,e12,e13,e14,e15,e16,e17,e18,e19,e20,e21⟩:=HX.out w8 HB8.out) | ((with_reducible show wpList _ _ _ (⟨_,.load 136 (.tmp 5),_,_,_,_⟩ :: _) _ _);refine lp_loadw (w.heap.size+1+1) 0 (qE e) (by kernel_rfl) rfl HLE.out ?_) | ((with_reducible show wpList _ _ _ (⟨_,.load 136 (.tmp 9),_,_,_,_⟩ :: _) _ _);refine lp_loadw fb 0 E.arr (by kernel_rfl) rfl HL7.out ?_) | fail);have HSt:=hide (Z.storeAt_row (P:=Tryz.prog) (c':=qs) (HRz.out w8 HB8.out) Tryz.sizeS rfl (by simp[Value.oneCell']));have HRw:=hide (setRow_heap _ _ _ qs _ _ (HRz.out w8 HB8.out))
   have HFv:Hid (FoldV c s e 103):=by
    refine⟨fun h=>absurd HO.out h,fun _ _ _=>rfl,fun _ _ _ h=>?_,fun _ h=>absurd HK0.out h,fun _ h=>absurd HK0.out h,fun _ h=>absurd HK0.out h⟩;have h1:=HD.out.2 (h.trans (HbD.out (by first | rfl | trivial)).symm);cases h1
   go_wp2_with (first | ((with_reducible show wpList _ _ _ (⟨_,.build _ _,_,_,_,_⟩ :: _) _ _);refine Z.lp_built rfl 42 _ rfl [] rfl qs st_zero ?_) | ((with_reducible show wpList _ _ _ (⟨_,.store 42 (.tmp 6) _,_,_,_,_⟩ :: _) _ _);refine Z.lp_store (t:=42) (x:=.tmp 6) (some ⟨w.heap.size+1+1+1,0,none⟩) (.agg qs) rfl rfl HSt.out ?_))
   refine bodyPost_ret (res_et rfl rfl HRw.out Tryz.underlying42 rfl Tryz.sizeS) rfl ?_;exact⟨zeroSta,103,rfl,HFv.out,zero_ow _ _,below_setRow (HB2.out.trans (HB8.out.mono HB2.out.size)) (by omega) _,fun h=>absurd h (by decide)⟩
  | true =>
   go_upto_region 9 with (first | (go_at_call 97;refine HEq.out.mono ?_;rintro e1 w8 ⟨rfl,hb8⟩;have HB8:Hid (Below w2.heap.size w2 w8):=HB7.out.trans (hb8.mono HB7.out.size);have HB58:Hid (Below w5.heap.size w5 w8):=HB57.out.trans (hb8.mono HB57.out.size);clear hb8 d0 d1 d2 d3 d4 d5 d6 d7 d8 c0 c1 c2 c3 c4 c5 e0 e1 e2 e3 e4 e5 e6 e7 e8 e9 e10 e11 e12 e13 e14 e15 e16 e17 e18 e19 e20 e21;obtain⟨d0,d1,d2,d3,d4,d5,d6,d7,d8,c0,c1,c2,c3,c4,c5,e0,e1,e2,e3,e4,e5,e6,e7,e8,e9,e10,e11,e12,e13,e14,e15,e16,e17,e18,e19,e20,e21⟩:=HX.out w8 HB8.out) | ((with_reducible show wpList _ _ _ (⟨_,.load 136 (.tmp 5),_,_,_,_⟩ :: _) _ _);refine lp_loadw (w.heap.size+1+1) 0 (qE e) (by kernel_rfl) rfl HLE.out ?_) | ((with_reducible show wpList _ _ _ (⟨_,.load 136 (.tmp 9),_,_,_,_⟩ :: _) _ _);refine lp_loadw fb 0 E.arr (by kernel_rfl) rfl HL7.out ?_) | fail);have hfo:=HbI.out.1 (by first | rfl | trivial);obtain⟨f,hf⟩:∃f:Nat,e.fe=(f:Int):=⟨e.fe.toNat,by have:=hfo.1;omega⟩;have hfc:(f:Int)<c.tills:=by have:=hfo.2.1;omega
   clear hfo;have HF:=hide hf;rw[hf]at e20;clear hf;have HB58r:=hide (HB58.out);have HT8:Hid (w8.heap[tb]?=some (.cells r1.arr 42 (0,0))):=(HB58.out.block _ (ac_lt HT5.out)).trans HT5.out;have HO8:=hide (HO5.out.below HB58.out);have q1:(f:Int)<(r1.gn:Int):=by have:=HSh.out.gn;omega
   have q0:(0:Int)≤(f:Int):=by omega
   obtain⟨q,hq⟩:∃q,r1.gen[f]?=some q:=⟨_,List.getElem?_eq_getElem (by rw[HO8.out.gn];omega)⟩;obtain⟨gg,egg,hggB,⟨Cg,hCg⟩,hfg,hcg,hstg⟩:=HO8.out.setG hq;have t4:w8.cell? ⟨tb,4,none⟩=some (.slice (some ⟨gg,0,none⟩) r1.gn r1.gc):=by rw[cell_of_row _ _ _ _ _ _ HT8.out,←egg];rfl
   have fg:=hfg f;obtain⟨w9,hw9⟩:∃W,w8.setCell ⟨gg,f,none⟩ (.int .u64 e.ge)=W:=⟨_,rfl⟩
   have HO9:Hid (StaOw w2.heap.size w9 (r1.setGen f e.ge)):=by
    show StaOw _ _ _;rw[←hw9];exact hstg e.ge
   have HT9:Hid (w9.heap[tb]?=some (.cells r1.arr 42 (0,0))):=by
    show _=_;rw[←hw9,heap_setCell_other _ _ _ _ (by show tb≠gg;rintro rfl;have h1:=HT8.out;rw[hCg]at h1;cases h1)];exact HT8.out
   have HB9:Hid (Below w2.heap.size w2 w9):=by show Below _ _ _;rw[←hw9];exact HB8.out.setCell (p:=⟨gg,f,none⟩) hggB _
   have HW9:=hide hw9;clear hq egg hCg hfg hstg hw9 hggB;go_upto_region 10 with (fail);rw[HW9.out];clear t4 fg hcg d0 d1 d2 d3 d4 d5 d6 d7 d8 c0 c1 c2 c3 c4 c5 e0 e1 e2 e3 e4 e5 e6 e7 e8 e9 e10 e11 e12 e13 e14 e15 e16 e17 e18 e19 e20 e21;obtain⟨d0,d1,d2,d3,d4,d5,d6,d7,d8,c0,c1,c2,c3,c4,c5,e0,e1,e2,e3,e4,e5,e6,e7,e8,e9,e10,e11,e12,e13,e14,e15,e16,e17,e18,e19,e20,e21⟩:=HX.out w9 HB9.out;rw[HF.out]at e20;have q2o:(f:Int)<(r1.on:Int):=by have:=HSh.out.on;omega
   obtain⟨q,hq⟩:∃q,(r1.setGen f e.ge).owed[f]?=some q:=⟨_,List.getElem?_eq_getElem (by rw[HO9.out.on];show f<r1.on;omega)⟩;obtain⟨gg,egg,hggB,⟨Cg,hCg⟩,hfg,hcg,hstg⟩:=HO9.out.setO hq;have t5:w9.cell? ⟨tb,5,none⟩=some (.slice (some ⟨gg,0,none⟩) r1.on r1.oc):=by rw[cell_of_row _ _ _ _ _ _ HT9.out,←egg];rfl
   have fg:=hfg f;obtain⟨w10,hw10⟩:∃W,w9.setCell ⟨gg,f,none⟩ (.bool true)=W:=⟨_,rfl⟩
   have HOa:Hid (StaOw w2.heap.size w10 ((r1.setGen f e.ge).setOw f true)):=by
    show StaOw _ _ _;rw[←hw10];exact hstg true
   have HTa:Hid (w10.heap[tb]?=some (.cells r1.arr 42 (0,0))):=by
    show _=_;rw[←hw10,heap_setCell_other _ _ _ _ (by show tb≠gg;rintro rfl;have h1:=HT9.out;rw[hCg]at h1;cases h1)];exact HT9.out
   have HBa:Hid (Below w2.heap.size w2 w10):=by show Below _ _ _;rw[←hw10];exact HB9.out.setCell (p:=⟨gg,f,none⟩) hggB _
   have HW10:=hide hw10;clear hq egg hCg hfg hstg hw10 hggB;go_upto_region 11 with (fail);rw[HW10.out];clear t5 fg hcg d0 d1 d2 d3 d4 d5 d6 d7 d8 c0 c1 c2 c3 c4 c5 e0 e1 e2 e3 e4 e5 e6 e7 e8 e9 e10 e11 e12 e13 e14 e15 e16 e17 e18 e19 e20 e21;have HLs:=hide (Z.loadAt_row (P:=Tryz.prog) (ty:=42) HTa.out Tryz.underlying42 rfl Tryz.sizeS);have HSt:=hide (Z.storeAt_row (P:=Tryz.prog) (c':=r1.arr) (HRz.out w10 HBa.out) Tryz.sizeS rfl (by simp[Sta.arr,Value.oneCell']));have HRw:=hide (setRow_heap _ _ _ r1.arr _ _ (HRz.out w10 HBa.out));go_wp2_with (first | ((with_reducible show wpList _ _ _ (⟨_,.load 42 (.tmp 8),_,_,_,_⟩ :: _) _ _);refine lp_loadw tb 0 r1.arr (by kernel_rfl) rfl HLs.out ?_) | ((with_reducible show wpList _ _ _ (⟨_,.store 42 (.tmp 6) _,_,_,_,_⟩ :: _) _ _);refine Z.lp_store (t:=42) (x:=.tmp 6) (some ⟨w.heap.size+1+1+1,0,none⟩) (.agg r1.arr) rfl rfl HSt.out ?_) | fail)
   refine bodyPost_ret (res_et rfl rfl HRw.out Tryz.underlying42 rfl Tryz.sizeS) rfl ?_;have HOR:StaOw w.heap.size (w10.setRow (w.heap.size+1+1+1) r1.arr) ((r1.setGen f e.ge).setOw f true):=(HOa.out.le (by have:=HB2.out.size;omega)).far (fun g C t hg ht=>setRow_other _ _ _ _ (by rintro rfl;rw[HRz.out w10 HBa.out]at hg;cases hg;exact not_mut rfl ht));refine⟨(r1.setGen f e.ge).setOw f true,0,rfl,?_,HOR,below_setRow (HB2.out.trans (HBa.out.mono HB2.out.size)) (by omega) _,fun _=>⟨?_,r0,HD0.out,?_⟩⟩
   ·refine⟨fun h=>absurd HO.out h,fun _ _ h=>absurd ⟨HbI.out.1 (by first | rfl | trivial),?_⟩ h,fun _ _ _ _=>rfl,fun _ h=>absurd HK0.out h,fun _ h=>absurd HK0.out h,fun _ h=>absurd HK0.out h⟩
    exact(HD.out.1 (by first | rfl | trivial)).trans (HbD.out (by first | rfl | trivial))
   ·have h:=HSh.out;exact⟨h.pn,h.rn,h.ln,h.gn,h.on,h.hl⟩
   ·unfold foldR;rw[if_pos HK0.out,HR1.out,HF.out,Int.toNat_natCast]
end Go.Proofs.YtiogibfhafoapaaGreat
