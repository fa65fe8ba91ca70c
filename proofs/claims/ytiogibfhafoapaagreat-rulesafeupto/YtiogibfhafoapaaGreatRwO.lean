import Derived.Lib.QuietBelow
import Derived.Shelf.RegionOpenPlain
import Derived.BigQuiet
import Derived.Test.YtiogibfhafoapaaGreatRwM
import Derived.Test.YtiogibfhafoapaaGreatNdU
import Derived.Laws.EntriesVeiled
set_option maxRecDepth 100000
set_option maxHeartbeats 8000000
set_option linter.unusedSimpArgs false
set_option linter.unusedVariables false
namespace Go.Proofs.YtiogibfhafoapaaGreat
open Go.RowKit Go.Shelf Go.Sort
attribute [local go_sem] Oper.semAt_some
def lkD (D:DataW Unit) (k:Int × Int):Int:=numD (D.atKey (Qcz k) (.lit (.int .i64 0)))
def Ql7 (amt f:Int):Int:=max (min amt (max f 0)) (wrap64 (-(max f 0)))
def Qdd (s:Sta) (D:DataW Unit) (k:Int × Int) (amt:Int):Int :=
 Ql7 amt (wrap64 (wrap64 (s.free k.1 k.2 - lkD D k)+lkD D (k.1,wrap64 (1 - k.2))))
theorem Qcc {w w':World} {M n:Nat} {D:DataW Unit} (h:w.ownsMap Tryz.prog 175 (plainElem (H:=Unit) Tryz.prog 2) M n D) (hb:w'.heap[M]?=w.heap[M]?):w'.ownsMap Tryz.prog 175 (plainElem (H:=Unit) Tryz.prog 2) M n D:=by
 obtain⟨es,ck,h1,h2⟩:=h;exact⟨es,ck,hb.trans h1,h2⟩
theorem QdW {w:World} {M n:Nat} {D:DataW Unit} (h:w.ownsMap Tryz.prog 175 (plainElem (H:=Unit) Tryz.prog 2) M n D) (x:K64) :
  (Instr.lookup 187 (.map (some M)) (.agg #[.int .i64 x.1.1,.int .i64 x.1.2]) false).run Tryz.prog w=.ok (.int .i64 (lkD D x.1)) w:=by
 obtain⟨c,hlook,hat,hwc⟩:=h.lookup_int QaU Tryz.underlying187 Tryz.underlying2 (Tryz.zeroValue2 _) (Qcb x);have e:lkD D x.1=c:=by unfold lkD;rw[hat];rfl
 rw[e];exact hlook
theorem QdU {w:World} {M n:Nat} {D:DataW Unit} (h:w.ownsMap Tryz.prog 175 (plainElem (H:=Unit) Tryz.prog 2) M n D):M<w.heap.size:=h.lt
theorem Qch {w w':World} (hb:Below w.heap.size w w') (r:Option Nat):w.grownBy w' r:=⟨hb.os,hb.tape,hb.output,hb.size,fun k hk _=>hb.block k hk⟩
theorem QdR {A B C:World} {r:Option Nat} (h1:A.grownBy B r) (h2:B.grownBy C r):A.grownBy C r:=⟨h2.os.trans h1.os,h2.tape.trans h1.tape,h2.output.trans h1.output,Vt h1.size h2.size,fun k hk hn=>(h2.block k (VL hk h1.size) hn).trans (h1.block k hk hn)⟩
theorem Qko (w:World) (s:Sta) (hs:Qae w s) (S T M n:Nat) (D:DataW Unit) (hS:w.heap[S]?=some (.cells s.arr 42 (0,0))) (hT:w.heap[T]?=some (.cells #[.map (some M)] 187 (0,0))) (hm:w.ownsMap Tryz.prog 175 (plainElem (H:=Unit) Tryz.prog 2) M n D) (hn:n<maxLen) (x:K64) (amt:Int) :
  Calls Tryz.prog 206 #[.agg #[.int .i64 x.1.1,.int .i64 x.1.2],.int .i64 amt,.pointer (some ⟨S,0,none⟩),.pointer (some ⟨T,0,none⟩)] w fun e w'=>e=.returned (.int .i64 (Qdd s D x.1 amt))∧w'.ownsMap Tryz.prog 175 (plainElem (H:=Unit) Tryz.prog 2) M (n+1) (QbN D x.1 (Qdd s D x.1 amt))∧w.grownBy w' (some M):=by
 have hmx:Tryz.prog.follows .mixedOrders=true:=by kernel_rfl
 obtain⟨w2,hw2,hb2,hk2⟩:=Qag w #[.int .i64 x.1.1,.int .i64 x.1.2] 175;have hS2:=(hb2.block S (Qab hS)).trans hS;have hT2:=(hb2.block T (Qab hT)).trans hT;have hm2:=Qcc hm (hb2.block M (QdU hm));have hs2:=hs.below hb2;obtain⟨y,hy⟩:∃y:K64,y=⟨(x.1.1,wrap64 (1 - x.1.2)),x.2.1,wrap64_wf _⟩:=⟨_,rfl⟩;have hmG:∀d os,(grow (redrawn w2 d) os).ownsMap Tryz.prog 175 (plainElem (H:=Unit) Tryz.prog 2) M n D:=fun d os=>Qcc hm2 ((below_regrown w2 d os).block M (QdU hm2))
 have l1:=fun d os=>QdW (hmG d os) x
 have l2:=fun d os=>QdW (hmG d os) y
 rw[hy]at l2;obtain⟨c0,c1,c2,c3,c4,c5⟩:=ac6 hS2;obtain⟨k0,k1⟩:=ac2 hk2;have t0:w2.cell? ⟨T,0,none⟩=some (.map (some M)):=by simp[World.cell?,hT2]
 have r0:=cell_regrown c0;have r1:=cell_regrown c1;have r2:=cell_regrown c2;have r3:=cell_regrown c3;have r4:=cell_regrown c4;have r5:=cell_regrown c5;have u0:=cell_regrown k0;have u1:=cell_regrown k1;have u2:=cell_regrown t0;have HFr:=Qaa (fun d os=>Calls.regrown_of (w:=w2) (d:=d) (os:=os) (QeW (grow (redrawn w2 d) os) s (hs2.below (below_regrown w2 d os)) x.1.1 x.1.2));have HOt:=Qaa (fun d os=>Calls.regrown_of (w:=w2) (d:=d) (os:=os) (QjC (grow (redrawn w2 d) os) x.1.1 x.1.2));have HCu:Hid (∀d os b,Calls Tryz.prog 207 #[.int .i64 amt,.int .i64 b] (grow (redrawn w2 d) os) fun e w''=>e=.returned (.int .i64 (Ql7 amt b))∧∃p:Regrown,w''=grow (redrawn w2 p.d) p.os):=fun d os b=>(Qky _ amt b).mono fun _ _ ⟨he,hw⟩=>⟨he,⟨d,os⟩,hw⟩
 obtain⟨HW2,HB2,HK2,HT2,HM2⟩:=Qml hw2 hb2 hk2 hT2 hm2;obtain⟨A,hA⟩:=exq (Qdd s D x.1 amt);have HA:=Qaa hA;rw[hA];obtain⟨fr,hfr⟩:=exq (s.free x.1.1 x.1.2);obtain⟨la,hla⟩:=exq (lkD D x.1);obtain⟨lb,hlb⟩:=exq (lkD D (x.1.1,wrap64 (1 - x.1.2)));have HAe:Hid (A=Ql7 amt (wrap64 (wrap64 (fr - la)+lb))):=by show _=_;rw[←hA,←hfr,←hla,←hlb];rfl
 have HLa:=Qaa hla;rw[hfr]at HFr;rw[hla]at l1;simp only[hlb]at l2;clear hw2 hb2 hk2 hS hS2 hT hT2 hm hm2 hs hs2 hmG hA hfr hla hlb hy c0 c1 c2 c3 c4 c5 k0 k1 t0;go_enter Tryz.func206,Tryz.ntmps206;go_upto_region 1 with (fail);rw[HW2.out];refine wp_region_quiet_below (by kernel_rfl) (by kernel_rfl) ?_;repeat (go_big_quiet_step (first | (go_at_call 111;exact HFr.out _ _) | (go_at_call 208;exact HOt.out _ _) | (go_at_call 207;exact HCu.out _ _ _)))
 refine VT ?_;intro _ hw';obtain⟨⟨dq,osq⟩,hw''⟩:=hw';obtain⟨w3,hw3⟩:=exq (grow (redrawn w2 dq) osq);have hw4:=(hw''.trans hw3).symm;subst hw4;have hb3:Below w2.heap.size w2 w3:=by rw[←hw3];exact below_regrown w2 dq osq
 rw[←HAe.out];have hm3:=Qcc HM2.out (hb3.block M (QdU HM2.out));have hT3:=(hb3.block T (Qab HT2.out)).trans HT2.out;have hk3:=(hb3.block _ (Qab HK2.out)).trans HK2.out;obtain⟨k0,k1⟩:=ac2 hk3;have t0:w3.cell? ⟨T,0,none⟩=some (.map (some M)):=by simp[World.cell?,hT3]
 have hlook:=QdW (World.ownsMap.drew hm3) x;rw[HLa.out]at hlook;obtain⟨v0,st,w4,hent,hst⟩:=Qei (World.ownsMap.drew hm3) hn x;have hlook1:=Qcv (World.ownsMap.drew hm3) hn x (c:=la) hlook hent;obtain⟨w5,hsto,hown5,hg5⟩:=hst (wrap64 (la+A)) (wrap64_wf _);simp only[kv]at hent hlook1;rw[←Qis]at hsto
 have HF:Hid (w5.ownsMap Tryz.prog 175 (plainElem (H:=Unit) Tryz.prog 2) M (n+1) (QbN D x.1 A)∧w.grownBy w5 (some M)):=by
  refine⟨?_,QdR (Qch HB2.out _) (QdR (Qch hb3 _) (Qca hg5))⟩;unfold QbN;rw[show numD (D.atKey (Qcz x.1) (.lit (.int .i64 0)))=la from HLa.out];exact hown5
 clear hst hown5 hg5 hm3 hT3 hk3 hb3 hw3 hw'' HFr HOt HCu HAe l1 l2 r0 r1 r2 r3 r4 r5 u0 u1 u2;go_upto_region 2 with (fail);go_region_with_o (fail);all_goals go_wp2
 all_goals go_ret
 all_goals exact⟨rfl,HF.out⟩
end Go.Proofs.YtiogibfhafoapaaGreat
namespace Go.Proofs.YtiogibfhafoapaaGreat
open Go.RowKit Go.Shelf
attribute [local go_sem] Oper.semAt_some
attribute [-go_sem] Builtin.append_
def Qa2 (s:Sta) (p:DataW Unit × List Lin) (t:Tri):DataW Unit × List Lin :=
 (QbN p.1 (QaS t) (Qdd s p.1 (QaS t) t.n),if Qdd s p.1 (QaS t) t.n=0 then p.2 else p.2++[⟨t.a,if t.b=0 then wrap64 (-(Qdd s p.1 (QaS t) t.n)) else Qdd s p.1 (QaS t) t.n⟩])
def QdL (s:Sta) (ts:List Tri):DataW Unit × List Lin:=ts.foldl (Qa2 s) (.map [],[])
theorem Qjl (s:Sta) (ts:List Tri) (t:Tri):QdL s (ts++[t])=Qa2 s (QdL s ts) t:=by simp[QdL]
theorem Qey (s:Sta) (ts:List Tri):(QdL s ts).2.length≤ts.length:=by
 suffices h:∀(p:DataW Unit × List Lin),(ts.foldl (Qa2 s) p).2.length≤p.2.length+ts.length by have:=h (.map [],[]);simpa[QdL] using this
 induction ts with
 | nil=>intro p;simp
 | cons t ts ih =>
  intro p;have h1:=ih (Qa2 s p t)
  have h2:(Qa2 s p t).2.length≤p.2.length+1:=by
   unfold Qa2;split <;> simp
  simp only[VI,VO];omega
structure Cbx (w:World) (s:Sta) (W:World) (v:Value) (L:List Lin):Prop where
 sb:W.heap[w.heap.size]?=some (.cells s.arr 42 (0,0))
 tb:W.heap[w.heap.size+1+1]?=some (.cells #[.map (some (w.heap.size+1))] 187 (0,0))
 fb:∃t,t≠132∧W.heap[w.heap.size+1+1+1]?=some (.cells #[.func (.func 206) #[] #[.pointer (some ⟨w.heap.size,0,none⟩),.pointer (some ⟨w.heap.size+1+1,0,none⟩)]] t (0,0))
 rb:Boxed W (w.heap.size+1+1+1+1) 46 v
 row:W.ownsRow w.heap.size 132 2 v L.length (QaI L)
 bel:Below w.heap.size w W
theorem Cbx.kept {w:World} {s:Sta} {W W':World} {v:Value} {L:List Lin} {r:Option Nat} (h:Cbx w s W v L) (hg:W.grownBy W' r) (hr:∀k,r=some k→w.heap.size≤k∧∃o:Obj,W.heap[k]?=some o∧o.isCells=false):Cbx w s W' v L:=by
 have hc:∀(k:Nat) (C:Array Value) (t:TypeId) (fr:Nat × Nat),W.heap[k]?=some (.cells C t fr)→W'.heap[k]?=some (.cells C t fr):=fun k C t fr hk=>(hg.block k (Qab hk) (fun e=>by
  obtain⟨-,o,ho,hn⟩:=hr k e.symm;rw[hk]at ho;cases ho;cases hn)).trans hk
 refine⟨hc _ _ _ _ h.sb,hc _ _ _ _ h.tb,?_,hc _ _ _ _ h.rb,?_,h.bel.grown hg h.bel.size (fun k e=>(hr k e).1)⟩
 ·obtain⟨t,ht,hf⟩:=h.fb
  exact⟨t,ht,hc _ _ _ _ hf⟩
 ·refine h.row.kept hg ?_
  rcases hv:v.ownBlock with _ | g
  ·exact Or.inl rfl
  ·refine Or.inr (fun e=>?_)
   obtain⟨-,o,ho,hn⟩:=hr g e.symm;exact QbO h.row ho hn hv.symm
theorem Cbx.below {w:World} {s:Sta} {W W':World} {v:Value} {L:List Lin} (h:Cbx w s W v L) (hb:Below W.heap.size W W'):Cbx w s W' v L:=h.kept (Qch hb none) (fun k e=>by cases e)
theorem Cbx.drew {w:World} {s:Sta} {W:World} {v:Value} {L:List Lin} (h:Cbx w s W v L):Cbx w s W.drew v L:=h.below ⟨rfl,rfl,rfl,Va _,fun _ _=>rfl⟩
theorem Cbx.appended {w:World} {s:Sta} {W w1:World} {v v':Value} {L L':List Lin} {tmp:Obj} (h:Cbx w s W v L) (hown:w1.ownsRow w.heap.size 132 2 v' L'.length (QaI L')) (hg:(W.alloc tmp).grownBy w1 v.ownBlock):Boxed w1 (w.heap.size+1+1+1+1) 46 v∧Cbx w s (w1.setCell ⟨w.heap.size+1+1+1+1,0,none⟩ v') v' L'∧KeepsOthers W (w1.setCell ⟨w.heap.size+1+1+1+1,0,none⟩ v')∧Below w.heap.size W (w1.setCell ⟨w.heap.size+1+1+1+1,0,none⟩ v'):=by
 obtain⟨hv1,hv2,hr2,hk2,hb2⟩:=h.rb.appended (by decide) h.row h.bel.size (by omega) hown hg
 have hc:∀(k:Nat) (C:Array Value) (t:TypeId) (fr:Nat × Nat),t≠132→k≠w.heap.size+1+1+1+1→W.heap[k]?=some (.cells C t fr)→(w1.setCell ⟨w.heap.size+1+1+1+1,0,none⟩ v').heap[k]?=some (.cells C t fr):=fun k C t fr ht hne hk=>by
  rw[Below.heap_setCell _ _ _ _ hne];refine(hg.block k (by have:=Qab hk;simp;omega) (QbE h.row hk ht)).trans ((Vc _ _ _ (Qab hk)).trans hk)
 obtain⟨t,ht,hf⟩:=h.fb;exact⟨hv1,⟨hc _ _ _ _ (by decide) (by omega) h.sb,hc _ _ _ _ (by decide) (by omega) h.tb,⟨t,ht,hc _ _ _ _ ht (by omega) hf⟩,hv2,hr2,h.bel.trans hb2⟩,hk2,hb2⟩
def Cstw (w:World) (s:Sta) (pre:List R64) (W:World):Prop :=
 (∃v,Cbx w s W v (QdL s (pre.map (·.1))).2)∧W.ownsMap Tryz.prog 175 (plainElem (H:=Unit) Tryz.prog 2) (w.heap.size+1) pre.length (QdL s (pre.map (·.1))).1
theorem Qb7 {W:World} {M n:Nat} {D:DataW Unit} (h:W.ownsMap Tryz.prog 175 (plainElem (H:=Unit) Tryz.prog 2) M n D):∃o:Obj,W.heap[M]?=some o∧o.isCells=false:=by
 obtain⟨es,ck,h1,h2⟩:=h;exact⟨_,h1,rfl⟩
theorem Qlq (w:World) (s:Sta) {n₀:Nat} (hn:w.heap.size+1<n₀):OwnFrom n₀ (Cstw w s):=fun pre A B row hs hg hr=>by
 obtain⟨⟨v,hc⟩,hm⟩:=hs;refine⟨⟨v,hc.kept hg (fun k e=>⟨by have:=(hr k e).1;omega,(hr k e).2⟩)⟩,Qcc hm (hg.block _ (QdU hm) (fun e=>by have:=(hr _ e.symm).1;omega))⟩
theorem Qla {w:World} {s:Sta} {w1 w3 w4:World} {v v':Value} {L L':List Lin} {n n₀:Nat} {D:DataW Unit} {tmp:Obj} (hc:Cbx w s w1 v L) (hm:w1.ownsMap Tryz.prog 175 (plainElem (H:=Unit) Tryz.prog 2) (w.heap.size+1) n D) (hb:Below w1.heap.size w1 w3)
  (hown:w4.ownsRow w.heap.size 132 2 v' L'.length (QaI L')) (hg:(w3.alloc tmp).grownBy w4 v.ownBlock) :
  KeepsFrom n₀ w1 (w4.setCell ⟨w.heap.size+1+1+1+1,0,none⟩ v')∧Below w.heap.size w1 (w4.setCell ⟨w.heap.size+1+1+1+1,0,none⟩ v')∧Cbx w s (w4.setCell ⟨w.heap.size+1+1+1+1,0,none⟩ v') v' L'∧(w4.setCell ⟨w.heap.size+1+1+1+1,0,none⟩ v').ownsMap Tryz.prog 175 (plainElem (H:=Unit) Tryz.prog 2) (w.heap.size+1) n D:=by
 have hc3:=hc.below hb;obtain⟨-,hC4,hk4,hb4⟩:=hc3.appended hown hg;have hm3:=Qcc hm (hb.block _ (QdU hm));obtain⟨o,ho,hn⟩:=Qb7 hm3;refine⟨KeepsFrom.trans (KeepsOthers.from (KeepsOthers.of_grownBy (Qch hb none) (fun j o e=>by cases e)) _) (hk4.from _),(hb.mono hc.bel.size).trans hb4,hC4,Qcc hm3 ?_⟩;rw[Below.heap_setCell _ _ _ _ (by show w.heap.size+1≠w.heap.size+1+1+1+1;omega)];exact(hg.block _ (by have:=QdU hm3;simp;omega) (QbO hc3.row ho hn)).trans (Vc _ _ _ (QdU hm3))
theorem Qlj (w:World) (s:Sta) (hs:Qae w s) (p:Option Addr) (len cap:Nat) (xs:List Lin) (hlen:xs.length=len) (hreach:len≤1099511627776) (hxs:∀x∈xs,Qaw x) (hcel:Cel w p 2 (xs.map Qal)) :
  Calls Tryz.prog 199 #[.agg s.arr,.slice p len cap] w fun e w'=>∃v,e=.returned v∧w'.ownsRow w.heap.size 132 2 v (QdL s (xs.map QaL)).2.length (QaI (QdL s (xs.map QaL)).2)∧Below w.heap.size w w':=by
 have hL:QjH w.heap.size w p xs:=QcZ hcel;have hxc:∀x∈xs,(Lit.int .i64 x.c).wf=true:=fun x hx=>(hxs x hx).1
 have hmx:Tryz.prog.follows .mixedOrders=true:=by kernel_rfl
 obtain⟨i0,hi,hz0,hz1,hz2⟩:=info_parts Qff;refine(callsIn_wide (n:=9)).1 ?_;have hmm:=@run_makeMap Tryz.prog;have h9:1≤9:=by omega
 refine callsIn_of_wp_marks Tryz.func199 rfl trivial ?_ rfl;simp only[Tryz.ntmps199,List.size_toArray,VO,List.length_nil,Nat.reduceAdd,Nat.reduceSub,Array.replicate_succ,Array.replicate_zero,List.push_toArray,List.append_toArray,VU,List.cons_append]
 gi_wp2_with (refine⟨trivial,?_⟩;gi_at_call 102;refine(Qiy 8 p len cap _).mono ?_;rintro e w' ⟨rfl,rfl⟩)
 obtain⟨u1,hu1⟩:∃u1,u1=World.alloc w (.cells s.arr 42):=⟨_,rfl⟩;obtain⟨u2,hu2⟩:∃u2,u2=World.alloc u1 (.map #[] 0):=⟨_,rfl⟩;obtain⟨u3,hu3⟩:∃u3,u3=World.alloc u2 (.cells #[.map (some (w.heap.size+1))] 187):=⟨_,rfl⟩;obtain⟨u4,hu4⟩:∃u4,u4=World.alloc u3 (.cells #[.func (.func 206) #[] #[.pointer (some ⟨w.heap.size,0,none⟩),.pointer (some ⟨w.heap.size+1+1,0,none⟩)]] 268):=⟨_,rfl⟩;obtain⟨u5,hu5⟩:∃u5,u5=World.alloc u4 (.cells #[.slice none 0 0] 46):=⟨_,rfl⟩;obtain⟨u6,hu6⟩:∃u6,u6=World.alloc u5 (.cells #[.slice p len cap] 46):=⟨_,rfl⟩;obtain⟨W0,hW0⟩:∃W0,W0=u6:=⟨_,rfl⟩;rw[show ((((((w.alloc (.cells s.arr 42)).alloc (.map #[] 0)).alloc (.cells #[.map (some (w.heap.size+1))] 187)).alloc (.cells #[.func (.func 206) #[] #[.pointer (some ⟨w.heap.size,0,none⟩),.pointer (some ⟨w.heap.size+1+1,0,none⟩)]] 268)).alloc (.cells #[.slice none 0 0] 46)).alloc (.cells #[.slice p len cap] 46))=W0 by rw[hW0,hu6,hu5,hu4,hu3,hu2,hu1]];have s1:u1.heap.size=w.heap.size+1:=by rw[hu1,Vm]
 have s2:u2.heap.size=w.heap.size+1+1:=by rw[hu2,Vm,s1]
 have s3:u3.heap.size=w.heap.size+1+1+1:=by rw[hu3,Vm,s2]
 have s4:u4.heap.size=w.heap.size+1+1+1+1:=by rw[hu4,Vm,s3]
 have s5:u5.heap.size=w.heap.size+1+1+1+1+1:=by rw[hu5,Vm,s4]
 have s6:u6.heap.size=w.heap.size+1+1+1+1+1+1:=by rw[hu6,Vm,s5]
 have n1:u1.heap[w.heap.size]?=some (.cells s.arr 42 (0,0)):=by rw[hu1];have h:=hNq w (.cells s.arr 42);exact h
 replace n1:u2.heap[w.heap.size]?=_:=(by rw[hu2];exact Vc _ _ _ (by rw[s1];omega):u2.heap[w.heap.size]?=u1.heap[w.heap.size]?).trans n1
 replace n1:u3.heap[w.heap.size]?=_:=(by rw[hu3];exact Vc _ _ _ (by rw[s2];omega):u3.heap[w.heap.size]?=u2.heap[w.heap.size]?).trans n1
 replace n1:u4.heap[w.heap.size]?=_:=(by rw[hu4];exact Vc _ _ _ (by rw[s3];omega):u4.heap[w.heap.size]?=u3.heap[w.heap.size]?).trans n1
 replace n1:u5.heap[w.heap.size]?=_:=(by rw[hu5];exact Vc _ _ _ (by rw[s4];omega):u5.heap[w.heap.size]?=u4.heap[w.heap.size]?).trans n1
 replace n1:u6.heap[w.heap.size]?=_:=(by rw[hu6];exact Vc _ _ _ (by rw[s5];omega):u6.heap[w.heap.size]?=u5.heap[w.heap.size]?).trans n1
 have n2:u2.heap[w.heap.size+1]?=some (.map #[] 0):=by rw[hu2];have h:=hNq u1 (.map #[] 0);rw[s1]at h;exact h
 replace n2:u3.heap[w.heap.size+1]?=_:=(by rw[hu3];exact Vc _ _ _ (by rw[s2];omega):u3.heap[w.heap.size+1]?=u2.heap[w.heap.size+1]?).trans n2
 replace n2:u4.heap[w.heap.size+1]?=_:=(by rw[hu4];exact Vc _ _ _ (by rw[s3];omega):u4.heap[w.heap.size+1]?=u3.heap[w.heap.size+1]?).trans n2
 replace n2:u5.heap[w.heap.size+1]?=_:=(by rw[hu5];exact Vc _ _ _ (by rw[s4];omega):u5.heap[w.heap.size+1]?=u4.heap[w.heap.size+1]?).trans n2
 replace n2:u6.heap[w.heap.size+1]?=_:=(by rw[hu6];exact Vc _ _ _ (by rw[s5];omega):u6.heap[w.heap.size+1]?=u5.heap[w.heap.size+1]?).trans n2
 have n3:u3.heap[w.heap.size+1+1]?=some (.cells #[.map (some (w.heap.size+1))] 187 (0,0)):=by rw[hu3];have h:=hNq u2 (.cells #[.map (some (w.heap.size+1))] 187);rw[s2]at h;exact h
 replace n3:u4.heap[w.heap.size+1+1]?=_:=(by rw[hu4];exact Vc _ _ _ (by rw[s3];omega):u4.heap[w.heap.size+1+1]?=u3.heap[w.heap.size+1+1]?).trans n3
 replace n3:u5.heap[w.heap.size+1+1]?=_:=(by rw[hu5];exact Vc _ _ _ (by rw[s4];omega):u5.heap[w.heap.size+1+1]?=u4.heap[w.heap.size+1+1]?).trans n3
 replace n3:u6.heap[w.heap.size+1+1]?=_:=(by rw[hu6];exact Vc _ _ _ (by rw[s5];omega):u6.heap[w.heap.size+1+1]?=u5.heap[w.heap.size+1+1]?).trans n3
 have n4:u4.heap[w.heap.size+1+1+1]?=some (.cells #[.func (.func 206) #[] #[.pointer (some ⟨w.heap.size,0,none⟩),.pointer (some ⟨w.heap.size+1+1,0,none⟩)]] 268 (0,0)):=by rw[hu4];have h:=hNq u3 (.cells #[.func (.func 206) #[] #[.pointer (some ⟨w.heap.size,0,none⟩),.pointer (some ⟨w.heap.size+1+1,0,none⟩)]] 268);rw[s3]at h;exact h
 replace n4:u5.heap[w.heap.size+1+1+1]?=_:=(by rw[hu5];exact Vc _ _ _ (by rw[s4];omega):u5.heap[w.heap.size+1+1+1]?=u4.heap[w.heap.size+1+1+1]?).trans n4
 replace n4:u6.heap[w.heap.size+1+1+1]?=_:=(by rw[hu6];exact Vc _ _ _ (by rw[s5];omega):u6.heap[w.heap.size+1+1+1]?=u5.heap[w.heap.size+1+1+1]?).trans n4
 have n5:u5.heap[w.heap.size+1+1+1+1]?=some (.cells #[.slice none 0 0] 46 (0,0)):=by rw[hu5];have h:=hNq u4 (.cells #[.slice none 0 0] 46);rw[s4]at h;exact h
 replace n5:u6.heap[w.heap.size+1+1+1+1]?=_:=(by rw[hu6];exact Vc _ _ _ (by rw[s5];omega):u6.heap[w.heap.size+1+1+1+1]?=u5.heap[w.heap.size+1+1+1+1]?).trans n5
 have n6:u6.heap[w.heap.size+1+1+1+1+1]?=some (.cells #[.slice p len cap] 46 (0,0)):=by rw[hu6];have h:=hNq u5 (.cells #[.slice p len cap] 46);rw[s5]at h;exact h
 have bb:∀(A B:World) (o:Obj),w.heap.size≤A.heap.size→Below w.heap.size w A→B=A.alloc o→Below w.heap.size w B:=fun A B o hs hb e=>by rw[e];exact hb.alloc hs _
 have hB0:Below w.heap.size w W0:=by
  rw[hW0];exact bb _ _ _ (by omega) (bb _ _ _ (by omega) (bb _ _ _ (by omega) (bb _ _ _ (by omega) (bb _ _ _ (by omega) (bb _ _ _ (Va _) (Below.refl _ w) hu1) hu2) hu3) hu4) hu5) hu6
 have hsz:W0.heap.size=w.heap.size+1+1+1+1+1+1:=by rw[hW0];exact s6
 have bN:W0.heap[w.heap.size+1+1+1+1+1]?=some (.cells #[.slice p len cap] 46 (0,0)):=by rw[hW0];exact n6
 have hC0:Cstw w s [] W0:=by
  rw[hW0]at hB0 ⊢;refine⟨⟨.slice none 0 0,⟨n1,n3,⟨268,by decide,n4⟩,n5,VQ _ _ _ _,hB0⟩⟩,?_⟩;have h:=World.ownsMap_made u1 Tryz.prog 175 (plainElem (H:=Unit) Tryz.prog 2);rw[s1,←hu2]at h;have hb:u6.heap[w.heap.size+1]?=u2.heap[w.heap.size+1]?:=n2.trans (by rw[hu2];have h:=hNq u1 (.map #[] 0);rw[s1]at h;exact h.symm);exact Qcc h hb
 clear hu1 hu2 hu3 hu4 hu5 hu6 n1 n2 n3 n4 n5 n6 s1 s2 s3 s4 s5 s6 bb;clear hW0
 refine wpIn_rangeFunc_ownH rfl h9 (gf:=170) (lb:=#[.pointer (some ⟨w.heap.size+1+1+1+1+1,0,none⟩)]) rfl trivial (enters_of Tryz.func170 (by kernel_rfl) rfl)
  (Qer 8 (by omega) (w.heap.size+1+1+1+1+1) w.heap.size p len cap xs hlen (by omega) hxs hxc _ (by rw[hsz];omega) (by rw[hsz];omega) (Boxed.cell bN) (hL.below hB0)) belowK_t (belowK_b (by rw[hsz];omega)) bR (fun _=>rfl)
  (Cstw w s)
  (fun _ _ _=>False)
  (Qlq w s (by rw[hsz];omega))
  (fun _ _ _ _ _ hs _ _=>hs)
  hC0
  (fun x a' W=>∃Bx,W.heap[Bx]?=some (.cells #[.int .i64 x.1.a,.int .i64 x.1.b] 175 (0,0))∧a'={ tmps:=#[.agg s.arr,.slice p len cap,.pointer (some ⟨w.heap.size,0,none⟩),undef,.slice none 0 0,.pointer (some ⟨w.heap.size+1+1,0,none⟩),.pointer (some ⟨w.heap.size+1+1+1,0,none⟩),.pointer (some ⟨w.heap.size+1+1+1+1,0,none⟩),.pointer (some ⟨Bx,0,none⟩),.int .i64 x.1.n,undef,.map (some (w.heap.size+1)),.func (.func 206) #[] #[.pointer (some ⟨w.heap.size,0,none⟩),.pointer (some ⟨w.heap.size+1+1,0,none⟩)],.slice p len cap,.func (.func 170) #[] #[.pointer (some ⟨w.heap.size+1+1+1+1+1,0,none⟩)],kv (QaS x.1),.int .i64 x.1.n,undef,undef,undef,undef,undef,undef,undef,undef,undef,undef,undef,undef,undef],defers:=[] })
  (fun x a' s X Y row hs hg hr=>by obtain⟨Bx,h1,h2⟩:=hs;exact⟨Bx,Own.from (Qd5 Bx _ _ _) _ s X Y row h1 hg hr,h2⟩) ?assign ?body ?done ?stop
 case assign =>
  rintro l pre x W K ⟨⟨v,hc⟩,hm⟩ hK;simp only[QlW,kv,QaS]
  gi_wp2
  exact hK _ _ ((KeepsOthers.alloc _ _).from _) ((Below.refl _ W).alloc hc.bel.size _) ⟨⟨v,hc.below ((Below.refl _ W).alloc (Va _) _)⟩,hm.alloc _⟩ ⟨W.heap.size,hNq _ _,rfl⟩
 case body =>
  rintro l pre x a' W hl ⟨r,hr⟩ ⟨⟨v,hc⟩,hm⟩ ⟨Bx,hbx,rfl⟩ hlt;have hpl:pre.length<maxLen:=by unfold maxLen;omega
  have hpn:pre.length≤1099511627776:=by omega
  have hsn:(QdL s ((pre++[x]).map (·.1)))=Qa2 s (QdL s (pre.map (·.1))) x.1:=by rw[List.map_append];exact Qjl _ _ _
  have hLl:=Qey s (pre.map (·.1));rw[VG]at hLl;obtain⟨A,hA⟩:=exq (Qdd s (QdL s (pre.map (·.1))).1 (QaS x.1) x.1.n);have HTk:=Qaa (Qko W s (hs.below hc.bel) w.heap.size (w.heap.size+1+1) (w.heap.size+1) pre.length _ hc.sb hc.tb hm hpl x.k x.1.n);rw[show (x.k).1=QaS x.1 from rfl,hA]at HTk;simp only[QaS]at HTk;unfold Qa2 at hsn;rw[hA]at hsn;obtain⟨L0,hL0⟩:=exq ((QdL s (pre.map (·.1))).2);obtain⟨D0,hD0⟩:=exq ((QdL s (pre.map (·.1))).1);rw[hL0]at hc hLl hsn;rw[hD0]at hm HTk hsn;obtain⟨t,ht,hf⟩:=hc.fb;have cf:W.cell? ⟨w.heap.size+1+1+1,0,none⟩=some (.func (.func 206) #[] #[.pointer (some ⟨w.heap.size,0,none⟩),.pointer (some ⟨w.heap.size+1+1,0,none⟩)]):=by simp[World.cell?,hf]
  obtain⟨e0,e1⟩:=ac2 hbx;obtain⟨HSn,HC,HM,HBx⟩:=hd4 hsn hc hm hbx;have hsl:=hsz;clear hsn hm hbx hf hA hL hL0 hD0 bN hC0 hB0 hxs hxc hs hcel hr;by_cases hA0:A=0
  ·have q0:(A != 0)=false:=by simp[hA0]
   gi_wp2_with (refine⟨trivial,?_⟩;gi_at_call 206;refine(CallsIn.inRound l ((callsIn_wide (n:=_)).2 HTk.out)).mono ?_;rintro e w1 ⟨rfl,hm1,hg1⟩)
   refine⟨KeepsFrom.of_grownBy hg1 (fun j e=>by cases e;omega),(Below.refl _ W).grown hg1 HC.out.bel.size (fun k e=>by cases e;omega),?_,?_⟩
   ·rw[HSn.out,if_pos hA0]
    exact⟨v,HC.out.kept hg1 (fun k e=>by cases e;exact⟨by omega,Qb7 HM.out⟩)⟩
   ·rw[HSn.out,VJ]
    exact hm1
  ·have q0:(A != 0)=true:=by simpa using hA0
   have HKl:=Qaa (fun W=>Qjd W x.1.a x.1.b A);obtain⟨B,hB⟩:∃B,(if x.1.b=0 then wrap64 (-A) else A)=B:=⟨_,rfl⟩;rw[hB]at HKl HSn
   gi_wp2_with (refine⟨trivial,?_⟩;gi_at_call 206;refine(CallsIn.inRound l ((callsIn_wide (n:=_)).2 HTk.out)).mono ?_;rintro e w1 ⟨rfl,hm1,hg1⟩)
   have hc1:=HC.out.kept hg1 (fun k e=>by cases e;exact⟨by omega,Qb7 HM.out⟩)
   have hbx1:=(hg1.block Bx (Qab HBx.out) (fun e=>by
    obtain⟨o,ho,hn⟩:=Qb7 HM.out;cases e;have hh:=HBx.out;rw[hh]at ho;cases ho;cases hn)).trans HBx.out
   have HK1:Hid (KeepsFrom W0.heap.size W w1):=KeepsFrom.of_grownBy hg1 (fun j e=>by cases e;omega);have HB1:Hid (Below w.heap.size W w1):=(Below.refl _ W).grown hg1 HC.out.bel.size (fun k e=>by cases e;omega);obtain⟨b0,b1⟩:=ac2 hbx1;have cR:=hc1.rb.cell;obtain⟨HC1,HM1,HBx1⟩:=Qmk hc1 hm1 hbx1;clear hc1 hm1 hg1 hbx1 e0 e1 cf HTk HC
   gi_region_with_o (first | (refine⟨trivial,?_⟩;gi_at_call 209;refine(CallsIn.inRound l ((callsIn_wide (n:=_)).2 (HKl.out _))).mono ?_;rintro e w3 ⟨rfl,hb3⟩;have hc3:=HC1.out.drew.below hb3;have cR3:=hc3.rb.cell;have fR3:=hc3.rb.frozen;have cR3a:=(hc3.rb.alloc (.cells #[.int .i64 x.1.a,.int .i64 B] 132)).cell;obtain⟨v',w4,hrun,hown',hgrow,-⟩:=run_append_own (P:=Tryz.prog) (w3.alloc (.cells #[.int .i64 x.1.a,.int .i64 B] 132)) w.heap.size 46 46 132 i0 (.agg #[.int .i64 0,.int .i64 0]) 2 16 Tryz.underlying46 hi hz0 hz1 hz2 rfl (by decide) v L0.length (QaI L0) (hc3.row.alloc _) ⟨w3.heap.size,0,none⟩ 1 1 [.int .i64 x.1.a,.int .i64 B] rfl (QiE _ _ _ _) (by simp[Value.oneCell']) (by unfold maxLen;omega) (by omega) (by have:=hc3.bel.size;simp;omega);obtain⟨g',cap',rfl⟩:=ownsRow_succ hown';have cR4:=((hc3.rb.alloc _).kept hgrow (hc3.rb.not_row (by decide) hc3.row)).cell;have fR4:=((hc3.rb.alloc _).kept hgrow (hc3.rb.not_row (by decide) hc3.row)).frozen;obtain⟨HB3,HO4,HG4⟩:=Qmk hb3 hown' hgrow;clear hb3 hc3 hown' hgrow))
   all_goals gi_wp2
   all_goals
    obtain⟨z1,z2,z3,z4⟩:=Qla (n₀:=W0.heap.size) (L':=L0++[⟨x.1.a,B⟩]) HC1.out HM1.out ⟨HB3.out.os,HB3.out.tape,HB3.out.output,HB3.out.size,HB3.out.block⟩ (by rw[VJ,Qf1];exact HO4.out) HG4.out;refine⟨HK1.out.trans z1,HB1.out.trans z2,?_,?_⟩
    ·rw[HSn.out,if_neg hA0]
     exact⟨_,z3⟩
    ·rw[HSn.out,VJ]
     exact z4
 case done =>
  rintro D ys W hD hys ⟨⟨v,hc⟩,hm⟩ hK;have hcell:=hc.rb.cell;have hrow:=hc.row;rw[hys,QeX]at hrow
  gi_wp2
  refine⟨by simp,.inl ⟨_,_,rfl,run_takeDeferred hK,?_⟩⟩;exact⟨_,results_tmp rfl _ _ _,v,rfl,ownsRow_putObj hrow _ hK rfl,hc.bel.trans (belowK_b (w:=w) (Va _) W D _ _ (by rw[hsz]at hD;omega) hK rfl rfl)⟩
 case stop =>
  rintro D c pre W _ _ h _;exact h.elim
end Go.Proofs.YtiogibfhafoapaaGreat
