import Derived.Defers
import Derived.Test.YtcceejdaokoihaaGreatDoorJAdding
set_option maxRecDepth 100000
namespace Go.Proofs.YtcceejdaokoihaaGreatDoor
open Go.RowKit Go.Maps
def runs (S:St) (J:Jr):List Stk→Nat × St × Jr
 | []=>(0,S,J)
 | s :: l=>if (s.run S J).1=0 then runs (s.run S J).2.1 (s.run S J).2.2 l else s.run S J
def Jr.took (J:Jr) (r:List Nat):Jr:={ J with recs:=J.recs++[r],last:=J.last+1,named:=true,off:=false }
def keepR (S:St) (J:Jr) (ps:List (List Nat)) (ss:List Nat→List Stk):Nat × St × Jr :=
 if J.off then (52,S,J) else if recOk (J.last+1) ps=false then (51,S,J) else
 if (runs S J (ss (recB (J.last+1) ps))).1=0 then (0,(runs S J (ss (recB (J.last+1) ps))).2.1,(runs S J (ss (recB (J.last+1) ps))).2.2.took (recB (J.last+1) ps))
 else ((runs S J (ss (recB (J.last+1) ps))).1,(runs S J (ss (recB (J.last+1) ps))).2.1,{ (runs S J (ss (recB (J.last+1) ps))).2.2 with off:=decide ((runs S J (ss (recB (J.last+1) ps))).1=45) })
def Stk.fits:Stk→Prop
 | .app _ r=>(∀y∈r,y<256)∧r.length≤4194304
 | _=>True
theorem step_good {S:St} {k:Nat} (hv:Inv S) (hz:Sz S k) (J:Jr) (s:Stk) (hf:s.fits):Good S (s.run S J).2.1 (k+4194305):=by
 have hself:Good S S (k+4194305):=⟨hv,hz.mono (by omega),rfl⟩
 cases s with
 | app x r =>
  have g:=good_append hv hz x r hf.1
  have:=hf.2
  exact⟨g.inv,g.sz.mono (by omega),g.room⟩
 | cut x n=>exact(good_cut hv hz x n).mono (by omega)
 | sync x=>exact(good_sync hv hz x).mono (by omega)
 | names=>exact(good_names hv hz).mono (by omega)
 | ren x y=>exact(good_play hv hz ⟨5,0,x,y,[]⟩ (fun _ h=>by cases h)).mono (by simp)
 | rem x=>exact(good_play hv hz ⟨6,0,x,[],[]⟩ (fun _ h=>by cases h)).mono (by simp)
 | mend=>exact hself
 | drop=>exact hself
theorem step_jr (S:St) (J:Jr) (s:Stk):(s.run S J).2.2.last=J.last∧(s.run S J).2.2.recs.length≤J.recs.length∧(s.run S J).2.2.off=J.off∧(s.run S J).2.2.named=J.named∧(s.run S J).2.2.name=J.name:=by
 cases s <;> simp[Stk.run]
set_option maxHeartbeats 400000 in
theorem keep1_d (w:World) (u:FrameMode) (br bj jb e:Nat) (c0:w.cell? ⟨br,0,none⟩=some (.int .i64 (e:Int))) (c1:w.cell? ⟨bj,0,none⟩=some (.pointer (some ⟨jb,0,none⟩))) (b:Bool) (_c6:w.cell? ⟨jb,6,none⟩=some (.bool b)) (f6:w.frozen? ⟨jb,6,none⟩=false) :
  CallsD Tryz.prog 91 #[.pointer (some ⟨br,0,none⟩),.pointer (some ⟨bj,0,none⟩)] u w fun e' u' w'=>u'=u∧(e'=.returned (.tuple #[])∧w'=w.setCell ⟨jb,6,none⟩ (.bool (decide (e=45)))):=by
 by_cases he:e=45
 ·subst he
  go_enter_d Tryz.func91,Tryz.ntmps91
  go_wp2
  go_end0
  exact⟨rfl,rfl⟩
 ·have he2:¬(e:Int)=45:=by omega
  have he3:decide (e=45)=false:=by simp[he]
  rw[he3]
  go_enter_d Tryz.func91,Tryz.ntmps91
  go_wp2
  go_end0
  exact⟨rfl,by rw[show ((e:Int) == 45)=false from by simp[he2]]⟩
theorem entb (args:Array Value) (w:World):(callFunc 139 args).run Tryz.prog w=.ok (.enter 139 args) w:=by
 first | (simp[go_sem];done) | (simp[callFunc,go_sem,Tryz.func139];done)
theorem enti (args:Array Value) (w:World):(callFunc 137 args).run Tryz.prog w=.ok (.enter 137 args) w:=by
 first | (simp[go_sem];done) | (simp[callFunc,go_sem,Tryz.func137];done)
theorem ento (args:Array Value) (w:World):(callFunc 140 args).run Tryz.prog w=.ok (.enter 140 args) w:=by
 first | (simp[go_sem];done) | (simp[callFunc,go_sem,Tryz.func140];done)
theorem entn (args:Array Value) (w:World):(callFunc 99 args).run Tryz.prog w=.ok (.enter 99 args) w:=by
 first | (simp[go_sem];done) | (simp[callFunc,go_sem,Tryz.func99];done)
theorem ents (args:Array Value) (w:World):(callFunc 157 args).run Tryz.prog w=.ok (.enter 157 args) w:=by
 first | (simp[go_sem];done) | (simp[callFunc,go_sem,Tryz.func157];done)
theorem entd (args:Array Value) (w:World):(callFunc 138 args).run Tryz.prog w=.ok (.enter 138 args) w:=by
 first | (simp[go_sem];done) | (simp[callFunc,go_sem,Tryz.func138];done)
theorem enta (args:Array Value) (w:World):(callFunc 42 args).run Tryz.prog w=.ok (.enter 42 args) w:=by
 first | (simp[go_sem];done) | (simp[callFunc,go_sem,Tryz.func42];done)
theorem entr (args:Array Value) (w:World):(callFunc 62 args).run Tryz.prog w=.ok (.enter 62 args) w:=by
 first | (simp[go_sem];done) | (simp[callFunc,go_sem,Tryz.func62];done)
theorem Sv.enters {w:World} {K:Knd} {o d jb N:Nat} {b c:Array Value} {s:Stk} (h:Sv w K o d jb (.func (.func N) b c) s) (args:Array Value) (w':World):(callFunc N args).run Tryz.prog w'=.ok (.enter N args) w':=by
 cases s with
 | app x r=>obtain⟨b0,b1,b2,g,q,c,e,_⟩:=h;cases e;exact entb args w'
 | cut x n=>obtain⟨b0,b1,b2,e,_⟩:=h;cases e;exact enti args w'
 | sync x=>obtain⟨b0,b1,e,_⟩:=h;cases e;exact ento args w'
 | names=>cases h;exact entn args w'
 | ren x y=>obtain⟨b0,b1,b2,e,_⟩:=h;cases e;exact ents args w'
 | rem x=>obtain⟨b0,b1,e,_⟩:=h;cases e;exact ento args w'
 | mend=>obtain⟨b0,b1,e,_⟩:=h;cases e;exact entd args w'
 | drop=>obtain⟨b0,b1,e,_⟩:=h;cases e;exact entd args w'
def Pk (od o:Nat) (k:Nat × Nat):Prop:=Ow od k∨k=(o,1)∨k=(o,2)
def Kept5 (w:World) (K:Knd) (od o d jb:Nat) (R:Nat × St × Jr) (e:Ending) (w':World):Prop :=
 ∃K',e=.returned (.int .i64 (R.1:Int))∧Dk w' K' od d R.2.1∧Jk w' K' o d jb R.2.2∧Kp (Pk od o) K K' w w'
theorem Jk.offed {w:World} {K:Knd} {o d jb:Nat} {J:Jr} (h:Jk w K o d jb J) (b:Bool):Jk (w.setCell ⟨jb,6,none⟩ (.bool b)) K o d jb { J with off:=b }:=by
 obtain⟨rv,vs,hm⟩:=h
 have hne:∀b c,K b=(o,c)→c≠1→b≠jb:=fun b c hb hc e=>by rw[e,hm.kj]at hb;cases hb;exact hc rfl
 refine⟨rv,vs,⟨by rw[block_set hm.blk];rfl,hm.kj,⟨owns_set hm.row.own (fun e=>hne jb 2 (hm.row.kind jb e.symm) (by decide) rfl),hm.row.kind⟩,fun i r hr=>?_⟩⟩
 obtain⟨g,q,c,h1,h2,h3,h4,h5,h6⟩:=hm.recs i r hr
 exact⟨g,q,c,h1,h2,h3,h4,by simpa using h5,bytes_kept h6 (by simp) (fun g' o' e hg=>by cases e;exact Below.heap_setCell _ _ _ _ (hne g 3 h4 (by decide)))⟩
theorem Jk.nameds {w:World} {K:Knd} {o d jb:Nat} {J:Jr} (h:Jk w K o d jb J) (b:Bool):Jk (w.setCell ⟨jb,5,none⟩ (.bool b)) K o d jb { J with named:=b }:=by
 obtain⟨rv,vs,hm⟩:=h
 have hne:∀b c,K b=(o,c)→c≠1→b≠jb:=fun b c hb hc e=>by rw[e,hm.kj]at hb;cases hb;exact hc rfl
 refine⟨rv,vs,⟨by rw[block_set hm.blk];rfl,hm.kj,⟨owns_set hm.row.own (fun e=>hne jb 2 (hm.row.kind jb e.symm) (by decide) rfl),hm.row.kind⟩,fun i r hr=>?_⟩⟩
 obtain⟨g,q,c,h1,h2,h3,h4,h5,h6⟩:=hm.recs i r hr
 exact⟨g,q,c,h1,h2,h3,h4,by simpa using h5,bytes_kept h6 (by simp) (fun g' o' e hg=>by cases e;exact Below.heap_setCell _ _ _ _ (hne g 3 h4 (by decide)))⟩
theorem froz_blk1 {w:World} {b:Nat} {v:Value} {t:TypeId} (h:w.heap[b]?=some (.cells #[v] t (0,0))):w.frozen? ⟨b,0,none⟩=false:=by simp[World.frozen?,h]
theorem res_c (tmps:Array Value) (w:World) (g:Nat) (v:Value) (hp:tmps.getD 6 undef=.pointer (some ⟨g,0,none⟩)) (hg:w.cell? ⟨g,0,none⟩=some v):(results Tryz.f41 tmps).run Tryz.prog w=.ok v w:=by
 have hp':tmps[6]?.getD undef=.pointer (some ⟨g,0,none⟩):=by simpa using hp
 simp[results,Tryz.results41,go_sem,hp',hg]
def keepR' (S:St) (J:Jr) (ps:List (List Nat)) (ss:List Nat→List Stk):Nat × St × Jr :=
 if recOk (J.last+1) ps=false then (51,S,J) else
 if (runs S J (ss (recB (J.last+1) ps))).1=0 then (0,(runs S J (ss (recB (J.last+1) ps))).2.1,(runs S J (ss (recB (J.last+1) ps))).2.2.took (recB (J.last+1) ps))
 else ((runs S J (ss (recB (J.last+1) ps))).1,(runs S J (ss (recB (J.last+1) ps))).2.1,{ (runs S J (ss (recB (J.last+1) ps))).2.2 with off:=decide ((runs S J (ss (recB (J.last+1) ps))).1=45) })
theorem Jk.kept3 {p:Nat × Nat→Prop} {K K':Knd} {w w':World} {o d jb:Nat} {J:Jr} (h:Jk w K o d jb J) (hk:Kp p K K' w w') (h1:¬p (o,1)) (h2:¬p (o,2)) (h3:¬p (o,3)):Jk w' K' o d jb J:=by
 obtain⟨rv,vs,hm⟩:=h
 have hl:=lt_of_block hm.blk
 refine⟨rv,vs,(hk.block jb hl (by rw[hm.kj];exact h1)).trans hm.blk,(hk.same jb hl).trans hm.kj,hm.row.kept hk h2,fun i r hr=>?_⟩
 obtain⟨g,q,c,x1,x2,x3,x4,x5,x6⟩:=hm.recs i r hr
 exact⟨g,q,c,x1,x2,x3,(hk.same g x5).trans x4,Nat.lt_of_lt_of_le x5 hk.size,bytes_kept x6 hk.size (fun g' o' e hg=>by cases e;exact hk.block g hg (by rw[x4];exact h3))⟩
theorem kp_refl (p:Nat × Nat→Prop) (K:Knd) (w:World):Kp p K K w w:=⟨rfl,rfl,rfl,Nat.le_refl _,fun _ _=>rfl,fun _ _ _=>rfl⟩
theorem Box.wrote {w:World} {K:Knd} {o b:Nat} {v u:Value} {t:TypeId} (h:Box w K o b v t):Box (w.setCell ⟨b,0,none⟩ u) K o b u t:=⟨by rw[block_set h.blk];rfl,h.kd⟩
theorem Jk.off7 {w:World} {K:Knd} {o d jb:Nat} {J:Jr} (h:Jk w K o d jb J):K jb=(o,1)∧w.cell? ⟨jb,6,none⟩=some (.bool J.off)∧w.cell? ⟨jb,5,none⟩=some (.bool J.named)∧∀i,w.frozen? ⟨jb,i,none⟩=false:=by
 obtain⟨rv,vs,hm⟩:=h
 have hb:=hm.blk
 unfold jcells at hb
 obtain⟨q0,q1,q2,q3,q4,q5,q6,qf⟩:=blk7 hb
 exact⟨hm.kj,q6,q5,qf⟩
theorem bytes_blk {w:World} {g:Nat} {xs:List Nat} (h:w.heap[g]?=some (.cells (vals xs).toArray 5 (0,0))) (hs:∀x∈xs,x<256):Bytes w (some ⟨g,0,none⟩) xs:=Fresh.bytes (B:=0) (n:=xs.length) (c:=xs.length) ⟨rfl,⟨g,rfl,Nat.zero_le _,h,rfl⟩,hs⟩
theorem owns_zero {w:World} {B n s:Nat} {t:TypeId} {v:Value} {xs:List Value} (h:w.ownsRow B t s v n xs):w.ownsRow 0 t s v n xs:=by
 refine⟨h.1,h.2.imp id ?_⟩
 rintro ⟨g,cap,cur,h1,_,r⟩
 exact⟨g,cap,cur,h1,Nat.zero_le _,r⟩
structure Lp (w:World) (K:Knd) (od o d jb bj br g:Nat) (r:List Nat) (S0:St) (J0:Jr) (ss:List Stk) (a:Option Addr) (m c':Nat) (vs:List Value) (wr:World) (j:Nat) (K1:Knd) (S1:St) (J1:Jr) (k1:Nat):Prop where
 dk:Dk wr K1 od d S1
 inv:Inv S1
 sz:Sz S1 k1
 kb:k1+(7 - j)*4194305≤549755813888
 jk:Jk wr K1 o d jb J1
 last:J1.last=J0.last
 recs:J1.recs.length≤J0.recs.length
 row:Rk wr K1 (o,4) 158 1 (.slice a m c') m vs
 each:∀(i:Nat) (s:Stk),ss[i]?=some s→∃v,vs[i]?=some v∧Sv wr K1 o d jb v s
 kg:K1 g=(o,3)
 blk:wr.heap[g]?=some (.cells (vals r).toArray 5 (0,0))
 bxj:Box wr K1 o bj (.pointer (some ⟨jb,0,none⟩)) 43
 bxr:Box wr K1 o br (.int .i64 0) 40
 kp:Kp (Pk od o) K K1 w wr
 run:runs S0 J0 ss=runs S1 J1 (ss.drop j)
theorem Lp.step {w:World} {K:Knd} {od o d jb bj br g:Nat} {r:List Nat} {S0:St} {J0:Jr} {ss:List Stk} {a:Option Addr} {m c':Nat} {vs:List Value} {wr:World} {j:Nat} {K1:Knd} {S1:St} {J1:Jr} {k1:Nat} (hne:o≠od) (h:Lp w K od o d jb bj br g r S0 J0 ss a m c' vs wr j K1 S1 J1 k1) {s:Stk} (hs:ss[j]?=some s) (hf:s.fits) (hj6:j≤6) {w':World} {K':Knd}
  (hd:Dk w' K' od d (s.run S1 J1).2.1) (hj:Jk w' K' o d jb (s.run S1 J1).2.2) (hk:Kp (Ps od o) K1 K' wr w') (he:(s.run S1 J1).1=0):Lp w K od o d jb bj br g r S0 J0 ss a m c' vs w' (j+1) K' (s.run S1 J1).2.1 (s.run S1 J1).2.2 (k1+4194305):=by
 have hg:=step_good h.inv h.sz J1 s hf
 have hjr:=step_jr S1 J1 s
 have hn:∀i,i≠1→¬Ps od o (o,i):=fun i hi hp=>by
  rcases hp with hp | hp
  ·exact hne hp
  ·exact hi (by simpa using hp)
 have hgl:=lt_of_block h.blk
 have hkb:=h.kb
 refine⟨hd,hg.inv,hg.sz,?_,hj,hjr.1.trans h.last,Nat.le_trans hjr.2.1 h.recs,h.row.kept hk (hn 4 (by decide)),fun i s' hi=>?_,(hk.same g hgl).trans h.kg,(hk.block g hgl (by rw[h.kg];exact hn 3 (by decide))).trans h.blk,h.bxj.kept hk (hn 4 (by decide)),h.bxr.kept hk (hn 4 (by decide)),h.kp.trans (hk.mono (fun x hx=>by rcases hx with e | e;exact Or.inl e;exact Or.inr (Or.inl e))),?_⟩
 ·have e:7 - j=(7 - (j+1))+1:=by omega
  rw[e,Nat.add_mul]at hkb
  omega
 ·obtain⟨v,h1,h2⟩:=h.each i s' hi
  exact⟨v,h1,h2.kept hk (hn 3 (by decide)) (hn 4 (by decide))⟩
 ·rw[h.run]
  have hl:j<ss.length:=(List.getElem?_eq_some_iff.1 hs).1
  have e:ss.drop j=s :: ss.drop (j+1):=by
   rw[List.drop_eq_getElem_cons hl]
   rw[(List.getElem?_eq_some_iff.1 hs).2]
  rw[e]
  show (if (s.run S1 J1).1=0 then _ else _)=_
  rw[if_pos he]
theorem Lp.stop {w:World} {K:Knd} {od o d jb bj br g:Nat} {r:List Nat} {S0:St} {J0:Jr} {ss:List Stk} {a:Option Addr} {m c':Nat} {vs:List Value} {wr:World} {j:Nat} {K1:Knd} {S1:St} {J1:Jr} {k1:Nat} (h:Lp w K od o d jb bj br g r S0 J0 ss a m c' vs wr j K1 S1 J1 k1) {s:Stk} (hs:ss[j]?=some s) (he:(s.run S1 J1).1≠0):runs S0 J0 ss=s.run S1 J1:=by
 rw[h.run]
 have hl:j<ss.length:=(List.getElem?_eq_some_iff.1 hs).1
 have e:ss.drop j=s :: ss.drop (j+1):=by
  rw[List.drop_eq_getElem_cons hl]
  rw[(List.getElem?_eq_some_iff.1 hs).2]
 rw[e]
 show (if (s.run S1 J1).1=0 then _ else _)=_
 rw[if_neg he]
theorem recOk_len {num:Nat} {ps:List (List Nat)} (h:recOk num ps=true):(recB num ps).length≤4194304:=by
 unfold recOk at h
 simp only[Bool.and_eq_true,decide_eq_true_eq]at h
 unfold recB
 rw[framedB_len]
 omega
set_option linter.unusedSimpArgs false in
set_option maxHeartbeats 2000000 in
theorem keep_any (w:World) (K:Knd) (od o d jb:Nat) (hne:o≠od) (S:St) (J:Jr) (hd:Dk w K od d S) (hv:Inv S) (k:Nat) (hz:Sz S k) (hk:k+41943050≤549755813888) (hj:Jk w K o d jb J)
  (hlen:J.recs.length≤1099511627776) (hlast:J.last<18446744073709551615) (pp:Option Addr) (kp cp:Nat) (ps:List (List Nat)) (hps:ps.length=kp) (hkp:kp≤140737488355328) (hP:Pts w pp ps) (hT:C.Tab w)
  (N:Nat) (ss:List Nat→List Stk) (hss:∀r:List Nat,(∀y∈r,y<256)→r.length≤4194304→(ss r).length≤6∧∀s∈ss r,s.fits)
  (hen:∀(args:Array Value) (w:World),(callFunc N args).run Tryz.prog w=.ok (.enter N args) w)
  (hrow:∀(w':World) (K':Knd) (g n:Nat) (r:List Nat),Jk w' K' o d jb J→Dk w' K' od d S→r.length=n→n≤4194304→K' g=(o,3)→w'.heap[g]?=some (.cells (vals r).toArray 5 (0,0))→Bytes w' (some ⟨g,0,none⟩) r →
   Calls Tryz.prog N #[.pointer (some ⟨jb,0,none⟩),.slice (some ⟨g,0,none⟩) n n] w' (RowOf w' (ext K' w'.heap.size (o,4)) o d jb (ss r))) :
  Calls Tryz.prog 41 #[.pointer (some ⟨jb,0,none⟩),.slice pp kp cp,.func (.func N) #[.pointer (some ⟨jb,0,none⟩)] #[]] w (Kept5 w K od o d jb (keepR S J ps ss)):=by
 have hmf:∀(fn:Fn) (first cap:Array Value) (w:World),(Instr.makeFunc fn first cap).run Tryz.prog w=.ok (.func fn first cap) w:=fun _ _ _ _=>rfl
 have hnot:∀(x:Bool) (w:World),(Op.unary .not (.bool x)).run Tryz.prog w=.ok (.bool (!x)) w:=fun _ _=>rfl
 have hb2:=below2 w (.cells #[.pointer (some ⟨jb,0,none⟩)] 43) (.cells #[.int .i64 0] 40)
 have kp2:=kp_below hb2 (fun _=>False) K (o,4)
 have hxj:((w.alloc (.cells #[.pointer (some ⟨jb,0,none⟩)] 43)).alloc (.cells #[.int .i64 0] 40)).heap[w.heap.size]?=some (.cells #[.pointer (some ⟨jb,0,none⟩)] 43 (0,0)):=by
  rw[Below.heap_alloc _ _ _ (by simp)];exact heap_alloc_new _ _
 have hxr:((w.alloc (.cells #[.pointer (some ⟨jb,0,none⟩)] 43)).alloc (.cells #[.int .i64 0] 40)).heap[w.heap.size+1]?=some (.cells #[.int .i64 0] 40 (0,0)):=by
  simpa using heap_alloc_new (w.alloc (.cells #[.pointer (some ⟨jb,0,none⟩)] 43)) (.cells #[.int .i64 0] 40)
 have HJ:=hide hj
 have HD:=hide hd
 have hj2:=hj.kept kp2 (fun _ h=>h)
 have hd2:=hd.kept kp2 (fun _ h=>h)
 obtain⟨rv,vs,hm⟩:=hj2
 have hb:=hm.blk
 unfold jcells at hb
 obtain⟨q0,q1,q2,q3,q4,q5,q6,qf⟩:=blk7 hb
 have zj:=cell_blk1 hxj
 have zr:=cell_blk1 hxr
 have HXJ:=hide hxj
 have HXR:=hide hxr
 have HK2:=hide kp2
 have HJ2:Hid (Jk _ (ext K w.heap.size (o,4)) o d jb J):=⟨rv,vs,hm⟩
 have HD2:=hide hd2
 have HB2:=hide hb2
 have fr:((w.alloc (.cells #[.pointer (some ⟨jb,0,none⟩)] 43)).alloc (.cells #[.int .i64 0] 40)).frozen? ⟨w.heap.size+1,0,none⟩=false:=froz_blk1 hxr
 have HR:Hid (keepR S J ps ss=keepR S J ps ss):=rfl
 unfold keepR at HR
 cases ho:J.off
 ·rw[ho]at q6
  have HE:Hid (keepR S J ps ss=keepR' S J ps ss):=by show _=_;unfold keepR keepR';rw[ho];rfl
  rw[HE.out]
  have HNx:=hide (next_any _ _ o d jb J HJ2.out hlast)
  have HT2:=hide (hT.below hb2 hT.pos)
  have HRc:=hide (record_any _ (J.last+1) (by omega) pp kp cp ps hps hkp (hP.below hb2) HT2.out)
  have HV:=hide hv
  have HZ:=hide hz
  have HSs:=hide hss
  have HRow:=hide hrow
  have HOf:=hide ho
  clear HR hm hb q0 q1 q2 q3 q4 q5 qf hd hj hT hP hrow hss hxj hxr hb2 kp2 hd2 hv hz ho
  go_enter_defers Tryz.func41,Tryz.ntmps41
  go_wp2_with fail
  generalize hw2:(w.alloc (.cells #[.pointer (some ⟨jb,0,none⟩)] 43)).alloc (.cells #[.int .i64 0] 40)=w2 at *
  refine HNx.out.mono ?_
  rintro e w2' ⟨rfl,h2e⟩
  subst h2e
  clear hw2
  go_wp2_with fail
  refine HRc.out.mono ?_
  rintro e w3 hcase
  rcases hcase with ⟨hok,g,n,hn,rfl,hf,hb3⟩ | ⟨hok,rfl,hb3⟩
  ·have hrl:=recOk_len hok
   rw[←hn]at hrl
   have HOk:=hide hok
   have HN:=hide hn
   obtain⟨gg,e1,hgg,hgb,_⟩:=hf.blk
   cases e1
   have hsm:=hf.small
   have kp3:=kp_below hb3 (fun _=>False) (ext K w.heap.size (o,4)) (o,3)
   have kpw:=HK2.out.trans kp3
   have hj3:=HJ.out.kept kpw (fun _ h=>h)
   have hd3:=HD.out.kept kpw (fun _ h=>h)
   have hkg:ext (ext K w.heap.size (o,4)) w2'.heap.size (o,3) g=(o,3):=ext_new _ _ hgg
   have bj3:Box w3 (ext (ext K w.heap.size (o,4)) w2'.heap.size (o,3)) o w.heap.size (.pointer (some ⟨jb,0,none⟩)) 43:=(⟨HXJ.out,ext_new K _ (Nat.le_refl _)⟩:Box w2' (ext K w.heap.size (o,4)) o _ _ _).kept kp3 (fun h=>h)
   have br3:Box w3 (ext (ext K w.heap.size (o,4)) w2'.heap.size (o,3)) o (w.heap.size+1) (.int .i64 0) 40:=(⟨HXR.out,ext_new K _ (by omega)⟩:Box w2' (ext K w.heap.size (o,4)) o _ _ _).kept kp3 (fun h=>h)
   generalize ext (ext K w.heap.size (o,4)) w2'.heap.size (o,3)=K3 at *
   have hyb:Bytes w3 (some ⟨g,0,none⟩) (recB (J.last+1) ps):=hf.bytes
   have HRo:=hide (HRow.out w3 K3 g n _ hj3 hd3 hn.symm hrl hkg hgb hyb)
   obtain⟨hs6,hsf⟩:=HSs.out _ hsm (by rw[←hn];exact hrl)
   have HSf:=hide hsf
   have HSm:=hide hsm
   have h0n:0<n:=by rw[hn];unfold recB;rw[framedB_len];omega
   have HJ3:=hide hj3
   have HD3:=hide hd3
   have HKg:=hide hkg
   have HGb:=hide hgb
   have HBj:=hide bj3
   have HBr:=hide br3
   have HK3:=hide kpw
   obtain⟨r,hre⟩:∃r,recB (J.last+1) ps=r:=⟨_,rfl⟩
   obtain⟨sl,hsl⟩:∃sl,ss r=sl:=⟨_,rfl⟩
   rw[hre]at HRo HGb hs6 HSf HN hyb HSm
   rw[hsl]at HRo hs6 HSf
   have HRe:=hide hre
   have HSl:=hide hsl
   have HYb:=hide hyb
   clear hf hb3 kp3 kpw hj3 hd3 hkg bj3 br3 hgb hgg hok hn hsm hsf HRow HSs hre hsl hyb
   go_wp2_with fail
   refine HRo.out.mono ?_
   rintro e w4 ⟨a,m,c',vs4,rfl,hsr,hb4⟩
   have kp4:=kp_below hb4 (fun _=>False) K3 (o,4)
   have hlp:Lp w K od o d jb w.heap.size (w.heap.size+1) g r S J sl a m c' vs4 w4 0 (ext K3 w3.heap.size (o,4)) S J k:=⟨HD3.out.kept kp4 (fun _ h=>h),HV.out,HZ.out,by omega,HJ3.out.kept kp4 (fun _ h=>h),rfl,Nat.le_refl _,⟨owns_zero hsr.own,fun g2 e2=>ext_new _ _ (owns_ge hsr.own e2)⟩,hsr.each,(kp4.same g (lt_of_block HGb.out)).trans HKg.out,(kp4.block g (lt_of_block HGb.out) (fun h=>h)).trans HGb.out,HBj.out.kept kp4 (fun h=>h),HBr.out.kept kp4 (fun h=>h),(HK3.out.trans kp4).mono (fun _ h=>h.elim),rfl⟩
   have HL:=hide hlp
   have hm6:m≤6:=by have:=hsr.len;omega
   have HLen:=hide hsr.len
   clear kp4 hlp hsr hb4 HD3 HJ3 HKg HGb HBj HBr HK3 HXJ HXR HRo
   go_wp2
   go_loopw [31] (fun i wr=>∃(j:Nat),j≤m∧i=.int .i64 j∧Hid (∃K1 S1 J1 k1,Lp w K od o d jb w.heap.size (w.heap.size+1) g r S J sl a m c' vs4 wr j K1 S1 J1 k1)) (fun i _=>m - (intOf i).toNat)
   case atStart=>exact⟨0,Nat.zero_le _,rfl,⟨_,_,_,_,HL.out⟩⟩
   case round =>
    obtain⟨j,hj,rfl,HR⟩:=hrel
    obtain⟨K1,S1,J1,k1,HLr⟩:=HR.out
    have HLr:=hide HLr
    by_cases hlt:j<m
    ·have i1:(0:Int)≤(j:Int):=by omega
     have i2:(j:Int)<(m:Int):=by omega
     obtain⟨st,hst⟩:∃st,sl[j]?=some st:=⟨_,List.getElem?_eq_getElem (by rw[HLen.out];exact hlt)⟩
     obtain⟨v,hv1,hv2⟩:=HLr.out.each j st hst
     have hkb:=HLr.out.kb
     have hfit:=HSf.out st (List.mem_of_getElem? hst)
     obtain⟨NN,b,c,rfl,hcall⟩:=step_any wr K1 od o d jb hne S1 J1 HLr.out.dk HLr.out.inv k1 HLr.out.sz (by omega) HLr.out.jk v st hv2
     have HCall:=hide hcall
     have hent:=hv2.enters
     obtain⟨rg,e1,c0⟩:∃rg,a=some ⟨rg,0,none⟩∧wr.cell? ⟨rg,j,none⟩=some (.func (.func NN) b c):=by
      rcases HLr.out.row.own.2 with ⟨_,e2⟩ | ⟨g',cap,cur,e1,_,hg,e3,e4,e5,e6⟩
      ·omega
      ·cases e1
       refine⟨g',rfl,?_⟩
       rw[←e6,List.getElem?_take,if_pos (by omega)]at hv1
       simp only[World.cell?,hg]
       simpa using hv1
     subst e1
     have HSt:=hide hst
     have HFit:=hide hfit
     clear hv1 hv2 hkb hcall hst hfit HR HL
     go_wp2_with fail
     refine HCall.out.mono ?_
     rintro e w5 ⟨K5,rfl,hd5,hj5,hk5⟩
     have hne1:∀i,i≠1→¬Ps od o (o,i):=fun i hi hp=>by
      rcases hp with hp | hp
      ·exact hne hp
      ·exact hi (by simpa using hp)
     by_cases her:(st.run S1 J1).1=0
     ·have her2:(((st.run S1 J1).1:Nat):Int)=0:=by omega
      have HL5:=hide (HLr.out.step hne HSt.out HFit.out (by omega) hd5 hj5 hk5 her)
      clear hd5 hj5 hk5 hne1
      go_wp2
      go_roundw
      case rel=>exact⟨j+1,by omega,by go_num,⟨_,_,_,_,HL5.out⟩⟩
      case measure=>simp[intOf];omega
     ·have her2:¬(((st.run S1 J1).1:Nat):Int)=0:=by omega
      have HRun:=hide (HLr.out.stop HSt.out her)
      have bxr:=HLr.out.bxr.kept hk5 (hne1 4 (by decide))
      have bxj:=HLr.out.bxj.kept hk5 (hne1 4 (by decide))
      have zr:=bxr.cell
      have fr5:=froz_blk1 bxr.blk
      have HD5:=hide hd5
      have HJ5:=hide hj5
      have HK5:=hide hk5
      have HXR:=hide bxr
      have HXJ:=hide bxj
      have HER:=hide her
      clear hd5 hj5 hk5 hne1 bxr bxj her
      obtain⟨er,here⟩:∃er,(st.run S1 J1).1=er:=⟨_,rfl⟩
      rw[here]at her2 ⊢
      go_wp2
      have kq:Kp (fun k=>k=(o,4)) K5 K5 w5 (w5.setCell ⟨w.heap.size+1,0,none⟩ (.int .i64 (er:Int))):=Kp.setCell (p:=fun k=>k=(o,4)) (kp_refl _ K5 w5) (b:=w.heap.size+1) (Or.inr HXR.out.kd) _ _
      have hjq:=HJ5.out.kept3 kq (by simp) (by simp) (by simp)
      obtain⟨kjb,c6,_,fj⟩:=hjq.off7
      have bxr2:=HXR.out.wrote (u:=.int .i64 (er:Int))
      have bxj2:(w5.setCell ⟨w.heap.size+1,0,none⟩ (.int .i64 (er:Int))).cell? ⟨w.heap.size,0,none⟩=some (.pointer (some ⟨jb,0,none⟩)):=(World.cell?_setCell_other _ _ _ _ (by simp)).trans HXJ.out.cell
      refine leaves_cons (f:=91) (args:=#[.pointer (some ⟨w.heap.size+1,0,none⟩),.pointer (some ⟨w.heap.size,0,none⟩)]) (by simp) (by simp[go_sem]) ?_
      refine(keep1_d _ .returning _ _ jb er bxr2.cell bxj2 _ c6 (fj 6)).mono ?_
      rintro e' u' w'' ⟨rfl,rfl,hw''⟩
      have kq2:Kp (fun k=>k=(o,4)∨k=(o,1)) K5 K5 w5 w'':=by
       rw[hw'']
       exact Kp.setCell (p:=fun k=>k=(o,4)∨k=(o,1)) (kq.mono (fun _ h=>Or.inl h)) (b:=jb) (Or.inr (Or.inr kjb)) _ _
      have hbj:w.heap.size+1≠jb:=fun e=>by
       have:=HXR.out.kd
       rw[e,kjb]at this
       cases this
      have hres:w''.cell? ⟨w.heap.size+1,0,none⟩=some (.int .i64 (er:Int)):=by
       rw[hw'']
       exact(World.cell?_setCell_other _ _ _ _ (by simp)).trans bxr2.cell
      have HE3:keepR' S J ps ss=(er,(st.run S1 J1).2.1,{ (st.run S1 J1).2.2 with off:=decide (er=45) }):=by
       unfold keepR'
       rw[HOk.out,HRe.out,HSl.out,HRun.out,if_neg (by decide),if_neg HER.out,here]
      have ktot:=HLr.out.kp.trans (HK5.out.mono (q:=Pk od o) (fun x hx=>by rcases hx with e | e;exact Or.inl e;exact Or.inr (Or.inl e)))
      refine⟨_,res_c _ _ _ _ rfl hres,?_⟩
      rw[HE3]
      refine⟨K5,rfl,HD5.out.kept kq2 (fun n hn=>by rcases hn with e | e <;> (cases e;exact hne rfl)),?_,?_⟩
      ·rw[hw'']
       exact hjq.offed _
      ·rw[hw'']
       exact(ktot.setCell (b:=w.heap.size+1) (Or.inl (by omega)) _ _).setCell (b:=jb) (Or.inr (by rw[HJ.out.off7.1];exact Or.inr (Or.inl rfl))) _ _
    ·obtain rfl:j=m:=by omega
     have hrun:runs S J sl=(0,S1,J1):=by
      have h1:=HLr.out.run
      rw[List.drop_eq_nil_of_le (by rw[HLen.out];exact Nat.le_refl _)]at h1
      exact h1
     have HRun:=hide hrun
     have kd:Kp (fun _=>False) K1 K1 wr wr.drew:=kp_drw _ _ _
     have hjd:=HLr.out.jk.kept kd (fun _ h=>h)
     have hl1:=HLr.out.last
     have hl2:=HLr.out.recs
     have bxj:=HLr.out.bxj.kept kd (fun h=>h)
     have bxr:=HLr.out.bxr.kept kd (fun h=>h)
     have HNx:=hide (next_any _ _ o d jb J1 hjd (by omega))
     have HTk:=hide (take_any _ _ o d jb J1 hjd g 0 n n (J1.last+1) r HN.out.symm (Nat.le_refl _) (by omega) HLr.out.kg (bytes_blk HLr.out.blk HSm.out) h0n (by omega) (by omega))
     have zj:=HLr.out.bxj.cell
     have HXJ:=hide bxj
     have HXR:=hide bxr
     have HDd:=hide (HLr.out.dk.kept kd (fun _ h=>h))
     have hjn:K1 jb=(o,1):=HLr.out.jk.off7.1
     have HJn:=hide hjn
     have HKp:=hide (HLr.out.kp.trans (kp_drw (Pk od o) K1 wr))
     have hnn:((J1.last+1:Nat):Int)=(J1.last:Int)+1:=by omega
     rw[hnn]at HTk
     clear hrun kd hjd hl1 hl2 bxj bxr hjn HR HL hnn
     go_wp2
     go_region_held3 (fun w'=>w'.cell? ⟨w.heap.size,0,none⟩=some (.pointer (some ⟨jb,0,none⟩))) (go_keep) (first | (go_at_call 15;refine HNx.out.mono ?_;rintro e wn ⟨rfl,hwn⟩;subst hwn) | (go_at_call 89;refine HTk.out.mono ?_;rintro e w6 ⟨K6,rfl,hj6,hk6⟩;have bxj:=HXJ.out.kept hk6 (by simp);have z6:=bxj.cell;have HXJ6:=hide bxj;have HJ6:=hide hj6;have HK6:=hide hk6;clear bxj hj6 hk6) | fail)
     have hj7:=HJ6.out.nameds true
     obtain⟨kj6,_,c5,f5⟩:=HJ6.out.off7
     have f5':=f5 5
     have bxr6:=HXR.out.kept HK6.out (by simp)
     have hbj:w.heap.size+1≠jb:=fun e=>by
      have:=bxr6.kd
      rw[e,kj6]at this
      cases this
     have hbk:w.heap.size≠jb:=fun e=>by
      have:=HXJ6.out.kd
      rw[e,kj6]at this
      cases this
     have bxr7:Box (w6.setCell ⟨jb,5,none⟩ (.bool true)) K6 o (w.heap.size+1) (.int .i64 0) 40:=⟨(Below.heap_setCell _ _ _ _ hbj).trans bxr6.blk,bxr6.kd⟩
     have bxj7:Box (w6.setCell ⟨jb,5,none⟩ (.bool true)) K6 o w.heap.size (.pointer (some ⟨jb,0,none⟩)) 43:=⟨(Below.heap_setCell _ _ _ _ hbk).trans HXJ6.out.blk,HXJ6.out.kd⟩
     have zr7:=bxr7.cell
     have fr7:=froz_blk1 bxr7.blk
     have bxr8:=bxr7.wrote (u:=.int .i64 0)
     have bxj8:((w6.setCell ⟨jb,5,none⟩ (.bool true)).setCell ⟨w.heap.size+1,0,none⟩ (.int .i64 0)).cell? ⟨w.heap.size,0,none⟩=some (.pointer (some ⟨jb,0,none⟩)):=(World.cell?_setCell_other _ _ _ _ (by simp)).trans bxj7.cell
     have kq:Kp (fun k=>k=(o,4)) K6 K6 (w6.setCell ⟨jb,5,none⟩ (.bool true)) ((w6.setCell ⟨jb,5,none⟩ (.bool true)).setCell ⟨w.heap.size+1,0,none⟩ (.int .i64 0)):=Kp.setCell (p:=fun k=>k=(o,4)) (kp_refl _ K6 _) (b:=w.heap.size+1) (Or.inr bxr7.kd) _ _
     have hj8:=hj7.kept3 kq (by simp) (by simp) (by simp)
     obtain⟨_,c68,_,fj8⟩:=hj8.off7
     have HJ8:=hide hj8
     have HB8:=hide bxr8
     have HBJ8:=hide bxj8
     have HC68:=hide c68
     have HF8:=hide fj8
     clear hj7 bxr6 bxr7 bxj7 bxr8 bxj8 kq hj8 c68 fj8 f5
     go_wp2
     refine leaves_cons (f:=91) (args:=#[.pointer (some ⟨w.heap.size+1,0,none⟩),.pointer (some ⟨w.heap.size,0,none⟩)]) (by simp) (by simp[go_sem]) ?_
     refine(keep1_d _ .returning _ _ jb 0 HB8.out.cell HBJ8.out _ HC68.out (HF8.out 6)).mono ?_
     rintro e' u' w'' ⟨rfl,rfl,hw''⟩
     have hres:w''.cell? ⟨w.heap.size+1,0,none⟩=some (.int .i64 0):=by
      rw[hw'']
      exact(World.cell?_setCell_other _ _ _ _ (by simp)).trans HB8.out.cell
     have HE3:keepR' S J ps ss=(0,S1,J1.took r):=by
      unfold keepR'
      rw[HOk.out,HRe.out,HSl.out,HRun.out,if_neg (by decide),if_pos rfl]
     have kw:Kp (fun k=>k=(o,4)∨k=(o,1)∨k=(o,2)) K1 K6 wr.drew w'':=by
      rw[hw'']
      have k0:=HK6.out.mono (q:=fun k=>k=(o,4)∨k=(o,1)∨k=(o,2)) (fun _ h=>Or.inr h)
      exact((k0.setCell (b:=jb) (Or.inr (Or.inr (Or.inl HJn.out))) _ _).setCell (b:=w.heap.size+1) (Or.inr (Or.inl HXR.out.kd)) _ _).setCell (b:=jb) (Or.inr (Or.inr (Or.inl HJn.out))) _ _
     have ktot:=HKp.out.trans (HK6.out.mono (q:=Pk od o) (fun _ h=>Or.inr h))
     have kjw:Pk od o (K jb):=by rw[HJ.out.off7.1];exact Or.inr (Or.inl rfl)
     refine⟨_,res_c _ _ _ _ rfl hres,?_⟩
     rw[HE3]
     refine⟨K6,rfl,HDd.out.kept kw (fun x hn=>by rcases hn with e | e | e <;> (cases e;exact hne rfl)),?_,?_⟩
     ·rw[hw'']
      exact HJ8.out.offed _
     ·rw[hw'']
      exact((ktot.setCell (b:=jb) (Or.inr kjw) _ _).setCell (b:=w.heap.size+1) (Or.inl (by omega)) _ _).setCell (b:=jb) (Or.inr kjw) _ _
  ·have HE2:Hid (keepR' S J ps ss=(51,S,J)):=by show _=_;unfold keepR';rw[hok];rfl
   rw[HE2.out]
   have kp3:=kp_below hb3 (fun _=>False) (ext K w.heap.size (o,4)) (o,4)
   have hx3:=(hb3.block _ (lt_of_block HXR.out)).trans HXR.out
   have z3:=cell_blk1 hx3
   have f3:=froz_blk1 hx3
   have HX3:=hide hx3
   have kpw:=(HK2.out.trans kp3)
   have HJ3:=hide (HJ.out.kept kpw (fun _ h=>h))
   have HD3:=hide (HD.out.kept kpw (fun _ h=>h))
   have HK3:=hide kpw
   have hge:=HK2.out.size
   clear hb3 kp3 hx3 kpw HRow HSs
   go_wp2
   have kpe:=HK3.out.setCell (b:=w.heap.size+1) (Or.inl (by omega)) 0 (.int .i64 51)
   refine⟨_,res_c _ _ _ _ rfl (cell_blk1 (block_set HX3.out _)),?_⟩
   rw[HE2.out]
   exact⟨_,rfl,HD.out.kept kpe (fun _ h=>h),HJ.out.kept kpe (fun _ h=>h),kpe.mono (fun _ h=>h.elim)⟩
 ·rw[ho]at q6
  have HE:Hid (keepR S J ps ss=(52,S,J)):=by show _=_;unfold keepR;rw[ho];rfl
  rw[HE.out]
  clear HR hm hb q0 q1 q2 q3 q4 q5 qf hd hj hT hP hrow hss hxj hxr hb2 kp2 hd2 hv hz
  go_enter_defers Tryz.func41,Tryz.ntmps41
  go_wp2
  have hb52:=below2 w (.cells #[.pointer (some ⟨jb,0,none⟩)] 43) (.cells #[.int .i64 52] 40)
  have hx52:((w.alloc (.cells #[.pointer (some ⟨jb,0,none⟩)] 43)).alloc (.cells #[.int .i64 52] 40)).heap[w.heap.size+1]?=some (.cells #[.int .i64 52] 40 (0,0)):=by
   simpa using heap_alloc_new (w.alloc (.cells #[.pointer (some ⟨jb,0,none⟩)] 43)) (.cells #[.int .i64 52] 40)
  have kp52:=kp_below hb52 (fun _=>False) K (o,4)
  exact⟨_,res_c _ _ _ _ rfl (cell_blk1 hx52),_,rfl,HD.out.kept kp52 (fun _ h=>h),HJ.out.kept kp52 (fun _ h=>h),kp52.mono (fun _ h=>h.elim)⟩
def addR (S:St) (J:Jr) (ps:List (List Nat)):Nat × St × Jr:=keepR S J ps J.adds
theorem adds_fit (J:Jr) (r:List Nat) (h1:∀y∈r,y<256) (h2:r.length≤4194304):(J.adds r).length≤6∧∀s∈J.adds r,s.fits:=by
 unfold Jr.adds
 refine⟨?_,fun s hs=>?_⟩
 ·cases J.torn <;> cases J.named <;> simp
 ·rcases List.mem_append.1 hs with h | h
  ·rcases List.mem_append.1 h with h | h
   ·split at h
    ·simp at h
     rcases h with rfl | rfl
     ·exact True.intro
     ·exact True.intro
    ·cases h
   ·simp at h
    rcases h with rfl | rfl
    ·exact⟨h1,h2⟩
    ·exact True.intro
  ·split at h
   ·cases h
   ·simp at h
    subst h
    exact True.intro
set_option maxHeartbeats 400000 in
theorem Add_any (w:World) (K:Knd) (od o d jb:Nat) (hne:o≠od) (S:St) (J:Jr) (hd:Dk w K od d S) (hv:Inv S) (k:Nat) (hz:Sz S k) (hk:k+41943050≤549755813888) (hj:Jk w K o d jb J)
  (hnm:J.name.length≤64) (hgd:goodN J≤1099511627776) (hlen:J.recs.length≤1099511627776) (hlast:J.last<18446744073709551615) (pp:Option Addr) (kp cp:Nat) (ps:List (List Nat)) (hps:ps.length=kp) (hkp:kp≤140737488355328) (hP:Pts w pp ps) (hT:C.Tab w) :
  Calls Tryz.prog 13 #[.pointer (some ⟨jb,0,none⟩),.slice pp kp cp] w (Kept5 w K od o d jb (addR S J ps)):=by
 have hmf:∀(fn:Fn) (first cap:Array Value) (w:World),(Instr.makeFunc fn first cap).run Tryz.prog w=.ok (.func fn first cap) w:=fun _ _ _ _=>rfl
 have HC:=hide (keep_any w K od o d jb hne S J hd hv k hz hk hj hlen hlast pp kp cp ps hps hkp hP hT 42 J.adds (adds_fit J) enta (fun w' K' g n r h1 _ h3 h4 h5 h6 h7=>adding_any w' K' o d jb J h1 g 0 n n r h3 h4 h5 _ _ h6 h7 hnm hgd hlen))
 clear hd hv hz hj hP hT
 go_enter Tryz.func13,Tryz.ntmps13
 go_wp2_with fail
 refine HC.out.mono ?_
 rintro e w1 ⟨K1,rfl,hd1,hj1,hk1⟩
 have H:Hid (Kept5 w K od o d jb (addR S J ps) (.returned (.int .i64 ((keepR S J ps J.adds).1:Int))) w1):=⟨K1,rfl,hd1,hj1,hk1⟩
 clear hd1 hj1 hk1 HC
 generalize (keepR S J ps J.adds).1=er at *
 go_wp2
 go_ret
 exact H.out
end Go.Proofs.YtcceejdaokoihaaGreatDoor
