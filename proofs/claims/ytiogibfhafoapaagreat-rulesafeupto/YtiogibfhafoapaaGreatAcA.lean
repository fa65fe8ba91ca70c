import Derived.Maps.RangeWalk
import Derived.Deep.AppendLies
import Derived.Deep.RegionHeld3
import Derived.Deep.DrawnRows
import Derived.Deep.QuietTactic
import Derived.BigQuiet
import Derived.OwnWalk
import Derived.Laws.OwnMore
import Derived.Test.YtiogibfhafoapaaGreatAbZ
set_option maxRecDepth 100000
set_option maxHeartbeats 8000000
set_option linter.unusedSimpArgs false
set_option linter.unusedVariables false
namespace Go.Proofs.YtiogibfhafoapaaGreat
open Go.RowKit
abbrev Va := @Nat.le_refl
abbrev Vb := @List.getElem?_map
abbrev Vc := @Below.heap_alloc
abbrev Vd := @List.getElem?_eq_some_iff
abbrev Ve := @heap_setCell_other
abbrev Vf := @wp_region_held_drew
abbrev Vg := @bodyPost_ret
abbrev Vh := @List.take_of_length_le
abbrev Vi := @wp_region_noPanic
abbrev Vj := @NoPanic.normal
abbrev Vk := @decide_eq_false
abbrev Vl := @congrArg
abbrev Vm := @World.size_alloc
abbrev Vn := @List.getElem?_set_self
abbrev Vo := @Nat.zero_le
abbrev Vp := @wpAnyH_done
abbrev Vq := @decide_eq_true
abbrev Vr := @Nat.add_zero
abbrev Vs := @Bool.and_eq_true
abbrev Vt := @Nat.le_trans
abbrev Vu := @List.getD_eq_getElem?_getD
abbrev Vv := @Int.toNat_natCast
abbrev Vw := @List.cons.injEq
abbrev Vx := @heap_setCell_same
abbrev Vy := @List.mem_cons_of_mem
abbrev Vz := @setRow_other
abbrev VA := @below_setRow
abbrev VB := @setRow_heap
abbrev VC := @World.cell?_of_block
abbrev VD := @DataW.trod_int
abbrev VE := @Int.emod_lt_of_pos
abbrev VF := @results_cell_row
abbrev VG := @List.length_map
abbrev VH := @List.mem_cons_self
abbrev VI := @List.foldl_cons
abbrev VJ := @List.length_append
abbrev VK := @Int.emod_nonneg
abbrev VL := @Nat.lt_of_lt_of_le
abbrev VM := @wpAnyH_take
abbrev VN := @frozen_of_row
abbrev VO := @List.length_cons
abbrev VP := @List.length_set
abbrev VQ := @World.ownsRow_nil
abbrev VR := @List.getElem?_set_ne
abbrev VS := @List.take_add_one
abbrev VT := @wpQuiet_nil
abbrev VU := @List.nil_append
abbrev VV := @heap_alloc2_new
abbrev VW := @wpAnyH_ready
abbrev VX := @run_loadAt_mid
abbrev VY := @wp_loop_rounds
theorem Qaa {p:Prop} (h:p):Hid p:=h
theorem cRq {w : World} {g j : Nat} {cs : Array Value} {t : TypeId} {fr : Nat × Nat} (h : w.heap[g]? = some (Obj.cells cs t fr)) : w.cell? ⟨g, j, none⟩ = cs[j]? := cell_of_row w g j cs t fr h
theorem hNq (w : World) (o : Obj) : (w.alloc o).heap[w.heap.size]? = some o := heap_alloc_new w o
theorem bR {B : Nat} {w : World} : Below B w w := Below.refl B w
theorem exq {α : Sort _} (a : α) : ∃ x, a = x := ⟨a, rfl⟩
theorem gE {α : Type _} {l : List α} {i : Nat} (h : i < l.length) : l[i]? = some l[i] := List.getElem?_eq_getElem h
theorem mG {α : Type _} {l : List α} {i : Nat} {a : α} (h : l[i]? = some a) : a ∈ l := List.mem_of_getElem? h
theorem glq {P : Program} {ops : Array Oper} {Q : Exit → Act → World → Prop} {rest : List Oper} {a : Act} {w : World} {d : Option Tmp} {y : TypeId} {p : String} {f : Array Edge} {gd : Option (Nat × Bool)} (t : TypeId) (n : Tmp) (h : wpList P ops Q (⟨d, .load t (.tmp n), y, p, f, gd⟩ :: rest) a w) : wpList P ops Q (⟨d, .load t (.tmp n), y, p, f, gd⟩ :: rest) a w := h
theorem bq {P : Program} {fn : Func} {p : Tmp} {ty : TypeId} {R : Ending → World → Prop} {a : Act} {w : World} {g : Nat} {t : TypeId} {cs : Array Value} {d : TypeDesc} (hr : fn.results = #[ResultVar.cell p ty]) (hp : a.tmps.getD p undef = Value.pointer (some ⟨g, 0, none⟩)) (h : w.heap[g]? = some (Obj.cells cs t (0, 0))) (hu : P.underlying ty = some d) (hm : (match d, hu with | TypeDesc.struct fields, hu => true | TypeDesc.array len elem, hu => true | x, hu => false) = true) (hz : Option.map (fun x => x.size) (P.info? ty) = some cs.size) (hd : a.defers = []) (hR : R (Ending.returned (.agg cs)) w) : bodyPost P fn R Exit.ret a w := Vg (VF hr _ _ g t cs (0, 0) d hp h hu hm hz) hd hR
theorem gsq {P : Program} {ops : Array Oper} {Q : Exit → Act → World → Prop} {rest : List Oper} {a : Act} {w : World} {d : Option Tmp} {y : TypeId} {p : String} {f : Array Edge} {gd : Option (Nat × Bool)} {v : Operand} (t : TypeId) (n : Tmp) (h : wpList P ops Q (⟨d, .store t (.tmp n) v, y, p, f, gd⟩ :: rest) a w) : wpList P ops Q (⟨d, .store t (.tmp n) v, y, p, f, gd⟩ :: rest) a w := h
theorem Qmj {p0 p1 : Prop} (h0 : p0) (h1 : p1) : Hid p0 ∧ Hid p1 := ⟨Qaa h0, Qaa h1⟩
theorem Qmk {p0 p1 p2 : Prop} (h0 : p0) (h1 : p1) (h2 : p2) : Hid p0 ∧ Hid p1 ∧ Hid p2 := ⟨Qaa h0, Qaa h1, Qaa h2⟩
theorem hd4 {p0 p1 p2 p3 : Prop} (h0 : p0) (h1 : p1) (h2 : p2) (h3 : p3) : Hid p0 ∧ Hid p1 ∧ Hid p2 ∧ Hid p3 := ⟨Qaa h0, Qaa h1, Qaa h2, Qaa h3⟩
theorem Qml {p0 p1 p2 p3 p4 : Prop} (h0 : p0) (h1 : p1) (h2 : p2) (h3 : p3) (h4 : p4) : Hid p0 ∧ Hid p1 ∧ Hid p2 ∧ Hid p3 ∧ Hid p4 := ⟨Qaa h0, Qaa h1, Qaa h2, Qaa h3, Qaa h4⟩
theorem hd6 {p0 p1 p2 p3 p4 p5 : Prop} (h0 : p0) (h1 : p1) (h2 : p2) (h3 : p3) (h4 : p4) (h5 : p5) : Hid p0 ∧ Hid p1 ∧ Hid p2 ∧ Hid p3 ∧ Hid p4 ∧ Hid p5 := ⟨Qaa h0, Qaa h1, Qaa h2, Qaa h3, Qaa h4, Qaa h5⟩
theorem hd7 {p0 p1 p2 p3 p4 p5 p6 : Prop} (h0 : p0) (h1 : p1) (h2 : p2) (h3 : p3) (h4 : p4) (h5 : p5) (h6 : p6) : Hid p0 ∧ Hid p1 ∧ Hid p2 ∧ Hid p3 ∧ Hid p4 ∧ Hid p5 ∧ Hid p6 := ⟨Qaa h0, Qaa h1, Qaa h2, Qaa h3, Qaa h4, Qaa h5, Qaa h6⟩
theorem hd8 {p0 p1 p2 p3 p4 p5 p6 p7 : Prop} (h0 : p0) (h1 : p1) (h2 : p2) (h3 : p3) (h4 : p4) (h5 : p5) (h6 : p6) (h7 : p7) : Hid p0 ∧ Hid p1 ∧ Hid p2 ∧ Hid p3 ∧ Hid p4 ∧ Hid p5 ∧ Hid p6 ∧ Hid p7 := ⟨Qaa h0, Qaa h1, Qaa h2, Qaa h3, Qaa h4, Qaa h5, Qaa h6, Qaa h7⟩
theorem hd9 {p0 p1 p2 p3 p4 p5 p6 p7 p8 : Prop} (h0 : p0) (h1 : p1) (h2 : p2) (h3 : p3) (h4 : p4) (h5 : p5) (h6 : p6) (h7 : p7) (h8 : p8) : Hid p0 ∧ Hid p1 ∧ Hid p2 ∧ Hid p3 ∧ Hid p4 ∧ Hid p5 ∧ Hid p6 ∧ Hid p7 ∧ Hid p8 := ⟨Qaa h0, Qaa h1, Qaa h2, Qaa h3, Qaa h4, Qaa h5, Qaa h6, Qaa h7, Qaa h8⟩
abbrev Knd:=Nat→Nat × Nat
structure Kp (p:Nat × Nat→Prop) (K K':Knd) (w w':World):Prop where
 os:w'.os=w.os
 tape:w'.tape=w.tape
 output:w'.output=w.output
 size:w.heap.size≤w'.heap.size
 same:∀b,b<w.heap.size→K' b=K b
 block:∀b,b<w.heap.size→¬p (K b)→w'.heap[b]?=w.heap[b]?
theorem Kp.refl (p:Nat × Nat→Prop) (K:Knd) (w:World):Kp p K K w w:=⟨rfl,rfl,rfl,Va _,fun _ _=>rfl,fun _ _ _=>rfl⟩
theorem Kp.trans {p:Nat × Nat→Prop} {K1 K2 K3:Knd} {w1 w2 w3:World} (h:Kp p K1 K2 w1 w2) (k:Kp p K2 K3 w2 w3):Kp p K1 K3 w1 w3 :=
 ⟨k.os.trans h.os,k.tape.trans h.tape,k.output.trans h.output,Vt h.size k.size,fun b hb=>(k.same b (VL hb h.size)).trans (h.same b hb),
  fun b hb hn=>(k.block b (VL hb h.size) (by rw[h.same b hb];exact hn)).trans (h.block b hb hn)⟩
theorem Kp.mono {p q:Nat × Nat→Prop} {K K':Knd} {w w':World} (h:Kp p K K' w w') (hpq:∀k,p k→q k):Kp q K K' w w' :=
 ⟨h.os,h.tape,h.output,h.size,h.same,fun b hb hn=>h.block b hb (fun e=>hn (hpq _ e))⟩
def ext (K:Knd) (n:Nat) (k:Nat × Nat):Knd:=fun b=>if b<n then K b else k
theorem Qgg (K:Knd) {n b:Nat} (k:Nat × Nat) (h:b<n):ext K n k b=K b:=by simp[ext,h]
theorem QlH (K:Knd) {n b:Nat} (k:Nat × Nat) (h:n≤b):ext K n k b=k:=by simp[ext,Nat.not_lt.2 h]
theorem Qmf {w w':World} (h:Below w.heap.size w w') (p:Nat × Nat→Prop) (K:Knd) (k:Nat × Nat):Kp p K (ext K w.heap.size k) w w' :=
 ⟨h.os,h.tape,h.output,h.size,fun _ hb=>Qgg K k hb,fun b hb _=>h.block b hb⟩
theorem Qmi {w w':World} {r:Option Nat} (h:w.grownBy w' r) (K:Knd) (k k':Nat × Nat) (p:Nat × Nat→Prop) (hr:∀g,r=some g→K g=k) (hp:p k):Kp p K (ext K w.heap.size k') w w' :=
 ⟨h.os,h.tape,h.output,h.size,fun _ hb=>Qgg K k' hb,fun b hb hn=>h.block b hb (fun e=>hn (by rw[hr b e.symm];exact hp))⟩
theorem Kp.below {p:Nat × Nat→Prop} {K K':Knd} {W w w':World} (h:Kp p K K' w w') (hb:Below W.heap.size W w) (hk:∀b,b<W.heap.size→¬p (K b)):Below W.heap.size W w' :=
 ⟨h.os.trans hb.os,h.tape.trans hb.tape,h.output.trans hb.output,Vt hb.size h.size,fun b hlt=>(h.block b (VL hlt hb.size) (hk b hlt)).trans (hb.block b hlt)⟩
theorem Kp.setCell {p:Nat × Nat→Prop} {K K':Knd} {w w':World} (h:Kp p K K' w w') {b:Nat} (hb:w.heap.size≤b∨p (K b)) (i:Nat) (v:Value):Kp p K K' w (w'.setCell ⟨b,i,none⟩ v) :=
 ⟨h.os,h.tape,h.output,by simpa[World.setCell] using h.size,h.same,fun c hc hn=>by
  rw[Below.heap_setCell _ _ _ _ (by rintro rfl;rcases hb with e | e;exact absurd hc (by simpa using e);exact hn e)];exact h.block c hc hn⟩
theorem Kp.drew {p:Nat × Nat→Prop} {K K':Knd} {w w':World} (h:Kp p K K' w w'):Kp p K K' w w'.drew:=⟨h.os,h.tape,h.output,h.size,h.same,h.block⟩
theorem Kp.cong {p:Nat × Nat→Prop} {K K' K'':Knd} {w w':World} (h:Kp p K K' w w') (e:∀b,b<w.heap.size→K'' b=K' b):Kp p K K'' w w' :=
 ⟨h.os,h.tape,h.output,h.size,fun b hb=>(e b hb).trans (h.same b hb),h.block⟩
structure Rk (w:World) (K:Knd) (k:Nat × Nat) (e:TypeId) (s:Nat) (v:Value) (n:Nat) (xs:List Value):Prop where
 own:w.ownsRow 0 e s v n xs
 kind:∀g,v.ownBlock=some g→K g=k
theorem Qds {w:World} {e:TypeId} {s n:Nat} {v:Value} {xs:List Value} {B:Nat} (h:w.ownsRow B e s v n xs) {g:Nat} (hg:v.ownBlock=some g):g<w.heap.size:=by
 rcases h.2 with ⟨h1,_⟩ | ⟨g',cap,cur,h1,_,hg',_⟩
 ·rw[h1]at hg;simp[Value.ownBlock]at hg
 ·rw[h1]at hg;simp[Value.ownBlock]at hg;subst hg;exact lt_of_block hg'
theorem Qas {w w':World} {e:TypeId} {s n:Nat} {v:Value} {xs:List Value} {B:Nat} (h:w.ownsRow B e s v n xs) (hs:∀g,v.ownBlock=some g→w'.heap[g]?=w.heap[g]?):w'.ownsRow B e s v n xs:=by
 refine⟨h.1,h.2.imp id ?_⟩;rintro ⟨g,cap,cur,h1,h2,h3,r⟩;exact⟨g,cap,cur,h1,h2,(hs g (by rw[h1];rfl)).trans h3,r⟩
theorem Rk.kept {p:Nat × Nat→Prop} {K K':Knd} {w w':World} {k:Nat × Nat} {e:TypeId} {s n:Nat} {v:Value} {xs:List Value} (h:Rk w K k e s v n xs) (hk:Kp p K K' w w') (hp:¬p k):Rk w' K' k e s v n xs :=
 ⟨Qas h.own (fun g hg=>hk.block g (Qds h.own hg) (by rw[h.kind g hg];exact hp)),fun g hg=>(hk.same g (Qds h.own hg)).trans (h.kind g hg)⟩
theorem Rk.cong {K K':Knd} {w:World} {k:Nat × Nat} {e:TypeId} {s n:Nat} {v:Value} {xs:List Value} (h:Rk w K k e s v n xs) (hk:∀b,b<w.heap.size→K' b=K b):Rk w K' k e s v n xs :=
 ⟨h.own,fun g hg=>(hk g (Qds h.own hg)).trans (h.kind g hg)⟩
theorem rk_nil (w:World) (K:Knd) (k:Nat × Nat) (e:TypeId) (s:Nat):Rk w K k e s (.slice none 0 0) 0 []:=⟨⟨by simp,Or.inl ⟨rfl,rfl⟩⟩,fun g hg=>by simp[Value.ownBlock]at hg⟩
theorem Rk.grown {w w':World} {K:Knd} {k:Nat × Nat} {e:TypeId} {s n n':Nat} {v v':Value} {xs xs':List Value} (h:Rk w K k e s v n xs) (ho:w'.ownsRow 0 e s v' n' xs') (hat:v'.ownBlock=v.ownBlock∨∃g,v'.ownBlock=some g∧w.heap.size≤g) :
  Rk w' (ext K w.heap.size k) k e s v' n' xs' :=
 ⟨ho,fun g hg=>by
  rcases hat with e1 | ⟨g',e1,e2⟩
  ·have hg':=hg
   rw[e1]at hg';rw[Qgg K k (Qds h.own hg')];exact h.kind g hg'
  ·rw[e1]at hg;cases hg;exact QlH K k e2⟩
theorem Rk.form {w:World} {K:Knd} {k:Nat × Nat} {e:TypeId} {s n:Nat} {v:Value} {xs:List Value} (h:Rk w K k e s v n xs):∃a c,v=.slice a n c∧n≤c∧c≤maxLen:=by
 rcases h.own.2 with ⟨h1,h2⟩ | ⟨g,cap,cur,h1,_,_,h3,h4,_⟩
 ·exact⟨none,0,by rw[h1,h2],by omega,by unfold maxLen;omega⟩
 ·exact⟨_,cap,h1,h3,h4⟩
def Cel (w:World) (p:Option Addr) (sz:Nat) (cs:List (List Value)):Prop :=
 cs=[]∨∃b o,p=some ⟨b,o,none⟩∧b<w.heap.size∧∀(i:Nat) (r:List Value),cs[i]?=some r→∀(j:Nat) (v:Value),r[j]?=some v→w.cell? ⟨b,o+i*sz+j,none⟩=some v
theorem Cel.below {w w':World} {p:Option Addr} {sz:Nat} {cs:List (List Value)} (h:Cel w p sz cs) (hb:Below w.heap.size w w'):Cel w' p sz cs :=
 h.imp id fun ⟨b,o,e,hl,hc⟩=>⟨b,o,e,VL hl hb.size,fun i r hr j v hv=>(hb.cell (p:=⟨b,o+i*sz+j,none⟩) hl).trans (hc i r hr j v hv)⟩
theorem Cel.get {w:World} {p:Option Addr} {sz:Nat} {cs:List (List Value)} (h:Cel w p sz cs) {i:Nat} {r:List Value} (hr:cs[i]?=some r):∃b o,p=some ⟨b,o,none⟩∧b<w.heap.size∧∀(j:Nat) (v:Value),r[j]?=some v→w.cell? ⟨b,o+i*sz+j,none⟩=some v:=by
 rcases h with h | ⟨b,o,e,hl,hc⟩
 ·rw[h]at hr;simp at hr
 ·exact⟨b,o,e,hl,hc i r hr⟩
theorem ac2 {w:World} {b:Nat} {x0 x1:Value} {t:TypeId} (h:w.heap[b]?=some (.cells #[x0,x1] t (0,0))) :
  w.cell? ⟨b,0,none⟩=some x0∧w.cell? ⟨b,1,none⟩=some x1 :=
 ⟨by simp[World.cell?,h],by simp[World.cell?,h]⟩
theorem ac3 {w:World} {b:Nat} {x0 x1 x2:Value} {t:TypeId} (h:w.heap[b]?=some (.cells #[x0,x1,x2] t (0,0))) :
  w.cell? ⟨b,0,none⟩=some x0∧w.cell? ⟨b,1,none⟩=some x1∧w.cell? ⟨b,2,none⟩=some x2 :=
 ⟨by simp[World.cell?,h],by simp[World.cell?,h],by simp[World.cell?,h]⟩
theorem ac9 {w:World} {b:Nat} {x0 x1 x2 x3 x4 x5 x6 x7 x8:Value} {t:TypeId} (h:w.heap[b]?=some (.cells #[x0,x1,x2,x3,x4,x5,x6,x7,x8] t (0,0))) :
  w.cell? ⟨b,0,none⟩=some x0∧w.cell? ⟨b,1,none⟩=some x1∧w.cell? ⟨b,2,none⟩=some x2∧w.cell? ⟨b,3,none⟩=some x3∧w.cell? ⟨b,4,none⟩=some x4∧w.cell? ⟨b,5,none⟩=some x5∧w.cell? ⟨b,6,none⟩=some x6∧w.cell? ⟨b,7,none⟩=some x7∧w.cell? ⟨b,8,none⟩=some x8 :=
 ⟨by simp[World.cell?,h],by simp[World.cell?,h],by simp[World.cell?,h],by simp[World.cell?,h],by simp[World.cell?,h],by simp[World.cell?,h],by simp[World.cell?,h],by simp[World.cell?,h],by simp[World.cell?,h]⟩
theorem QaA {w:World} {b:Nat} {x0 x1 x2 x3 x4 x5 x6 x7 x8 x9 x10 x11 x12 x13 x14:Value} {t:TypeId} (h:w.heap[b]?=some (.cells #[x0,x1,x2,x3,x4,x5,x6,x7,x8,x9,x10,x11,x12,x13,x14] t (0,0))) :
  w.cell? ⟨b,0,none⟩=some x0∧w.cell? ⟨b,1,none⟩=some x1∧w.cell? ⟨b,2,none⟩=some x2∧w.cell? ⟨b,3,none⟩=some x3∧w.cell? ⟨b,4,none⟩=some x4∧w.cell? ⟨b,5,none⟩=some x5∧w.cell? ⟨b,6,none⟩=some x6∧w.cell? ⟨b,7,none⟩=some x7∧w.cell? ⟨b,8,none⟩=some x8∧w.cell? ⟨b,9,none⟩=some x9∧w.cell? ⟨b,10,none⟩=some x10∧w.cell? ⟨b,11,none⟩=some x11∧w.cell? ⟨b,12,none⟩=some x12∧w.cell? ⟨b,13,none⟩=some x13∧w.cell? ⟨b,14,none⟩=some x14 :=
 ⟨by simp[World.cell?,h],by simp[World.cell?,h],by simp[World.cell?,h],by simp[World.cell?,h],by simp[World.cell?,h],by simp[World.cell?,h],by simp[World.cell?,h],by simp[World.cell?,h],by simp[World.cell?,h],by simp[World.cell?,h],by simp[World.cell?,h],by simp[World.cell?,h],by simp[World.cell?,h],by simp[World.cell?,h],by simp[World.cell?,h]⟩
theorem Qab {w:World} {b:Nat} {o:Obj} (h:w.heap[b]?=some o):b<w.heap.size:=by
 rcases Nat.lt_or_ge b w.heap.size with h1 | h1
 ·exact h1
 ·rw[Array.getElem?_eq_none h1]at h;cases h
structure Lin where
 c:Int
 n:Int
structure Tri where
 a:Int
 b:Int
 n:Int
def Qal (x:Lin):List Value:=[.int .i64 x.c,.int .i64 x.n]
def Qar (x:Tri):List Value:=[.int .i64 x.a,.int .i64 x.b,.int .i64 x.n]
structure Cfg where
 tills:Int
 cp:Option Addr
 cl:Nat
 cc:Nat
 pp:Option Addr
 pl:Nat
 pc:Nat
 lease:Int
 watch:Int
 beat:Int
 window:Int
 cap:Int
 flight:Int
def Cfg.v (c:Cfg):Value:=.agg #[.int .i64 c.tills,.slice c.cp c.cl c.cc,.slice c.pp c.pl c.pc,.int .i64 c.lease,.int .i64 c.watch,.int .i64 c.beat,.int .i64 c.window,.int .i64 c.cap,.int .i64 c.flight]
def inB (n l m:Int):Bool:=decide (l≤n) && decide (n≤m)
def ofB (n:Int) (l:Nat):Bool:=decide (0≤n) && decide (n<(l:Int))
end Go.Proofs.YtiogibfhafoapaaGreat
