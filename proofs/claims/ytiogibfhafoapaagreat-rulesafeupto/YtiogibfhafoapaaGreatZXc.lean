import Derived.Deep.Cut
import Derived.Test.YtiogibfhafoapaaGreatZE
import Derived.Lib.ConvBytes
import Derived.Lib.SmallJoins
import Derived.Laws.BytesArg
set_option maxRecDepth 100000
set_option maxHeartbeats 8000000
set_option linter.unusedSimpArgs false
set_option linter.unusedVariables false
namespace Go.Proofs.YtiogibfhafoapaaGreat.Z
open Go.RowKit
theorem Qic:Elt Qar 3 24 47 73:=⟨fun _=>rfl,fun x u hu=>by simp[Qar]at hu;rcases hu with rfl | rfl | rfl <;> rfl,by omega,Tryz.underlying47,by
 obtain⟨i,h⟩:=info_parts (show (Tryz.prog.info? 73).map (fun i=>(i.zero,i.size,i.bytes))=some (some (.agg #[.int .i64 0,.int .i64 0,.int .i64 0]),3,24) by kernel_rfl);exact⟨i,_,h.1,h.2.1,h.2.2.1,h.2.2.2,rfl⟩,by omega⟩
theorem Qh6:Elt Qar 3 24 53 52:=⟨fun _=>rfl,fun x u hu=>by simp[Qar]at hu;rcases hu with rfl | rfl | rfl <;> rfl,by omega,Tryz.underlying53,by
 obtain⟨i,h⟩:=info_parts (show (Tryz.prog.info? 52).map (fun i=>(i.zero,i.size,i.bytes))=some (some (.agg #[.int .i64 0,.int .i64 0,.int .i64 0]),3,24) by kernel_rfl);exact⟨i,_,h.1,h.2.1,h.2.2.1,h.2.2.2,rfl⟩,by omega⟩
def SlOwn {α:Type} (B:Nat) (w:World) (e:TypeId) (sz:Nat) (f:α→List Value) (s:Sli α):Prop:=w.ownsRow B e sz (.slice s.p s.n s.c) s.n (flat f s.xs)∧s.xs.length=s.n∧s.n≤4194304
theorem SlOwn.ok {α:Type} {B:Nat} {w:World} {e:TypeId} {sz:Nat} {f:α→List Value} {s:Sli α} (h:SlOwn B w e sz f s) (hf:∀x,(f x).length=sz):QaE w sz f s:=⟨h.2.1,h.2.2,cel_row hf h.1 h.2.1⟩
theorem SlOwn.below {α:Type} {B:Nat} {w w':World} {e:TypeId} {sz:Nat} {f:α→List Value} {s:Sli α} (h:SlOwn B w e sz f s) (hb:Below w.heap.size w w'):SlOwn B w' e sz f s:=⟨owns_keep h.1 hb,h.2⟩
theorem SlOwn.le {α:Type} {B B':Nat} {w:World} {e:TypeId} {sz:Nat} {f:α→List Value} {s:Sli α} (h:SlOwn B w e sz f s) (hb:B'≤B):SlOwn B' w e sz f s:=⟨owns_le h.1 hb,h.2⟩
structure CpS (w wr:World) (ty:TypeId) (A Z X:Array Value):Prop where
 a:wr.heap[w.heap.size]?=some (.cells A ty (0,0))
 z:wr.heap[w.heap.size+1]?=some (.cells Z ty (0,0))
 x:wr.heap[w.heap.size+1+1]?=some (.cells X ty (0,0))
 bel:Below w.heap.size w wr
theorem cp_lt {w wr:World} {ty:TypeId} {A Z X:Array Value} (h:CpS w wr ty A Z X):w.heap.size+2<wr.heap.size:=Qab h.x
theorem Qfc {α:Type} {f:α→List Value} {sz by_:Nat} {t e ty:TypeId} (E:Elt f sz by_ t e) {w wr:World} {A Z X:Array Value} (h:CpS w wr ty A Z X) (hte:ty≠e) (s:Sli α) (hs:QaE w sz f s) (i:Nat) (hi:i<X.size) (tt:TypeId) :
  ∃(c:Sli α) (w4:World),(Builtin.append_ #[t,t] tt #[.slice (some ⟨wr.heap.size,0,none⟩) 0 0,.slice s.p s.n s.c]).run Tryz.prog (wr.alloc (.cells #[] e))=.ok (.slice c.p c.n c.c) w4∧c.xs=s.xs ∧
   (∃u,w4.cell? ⟨w.heap.size+1+1,i,none⟩=some u)∧w4.frozen? ⟨w.heap.size+1+1,i,none⟩=false ∧
   CpS w (w4.setCell ⟨w.heap.size+1+1,i,none⟩ (.slice c.p c.n c.c)) ty A Z (X.setIfInBounds i (.slice c.p c.n c.c)) ∧
   SlOwn (w.heap.size+1+1+1) (w4.setCell ⟨w.heap.size+1+1,i,none⟩ (.slice c.p c.n c.c)) e sz f c ∧
   (∀B e' sz' v n xs,w.heap.size+1+1+1≤B→wr.ownsRow B e' sz' v n xs→(w4.setCell ⟨w.heap.size+1+1,i,none⟩ (.slice c.p c.n c.c)).ownsRow B e' sz' v n xs):=by
 have hlt:=cp_lt h;have hal:Below wr.heap.size wr (wr.alloc (.cells #[] e)):=(Below.refl _ wr).alloc (Va _) _;have hrow:(wr.alloc (.cells #[] e)).ownsRow wr.heap.size e sz (.slice (some ⟨wr.heap.size,0,none⟩) 0 0) 0 []:=⟨by simp,.inr ⟨wr.heap.size,0,#[],rfl,Va _,hNq _ _,Va _,by unfold maxLen;omega,by simp,by simp⟩⟩;have hcel:Cel (wr.alloc (.cells #[] e)) s.p sz (s.xs.map f):=hs.cel.below (h.bel.trans (hal.mono h.bel.size));have hm:=hs.most;obtain⟨v',w4,hr,ho,hg,_⟩:=E.run_append (wr.alloc (.cells #[] e)) tt wr.heap.size 0 (.slice (some ⟨wr.heap.size,0,none⟩) 0 0) [] hrow s.p s.n s.c s.xs hs.len hcel (by omega) (by simp);rw[Nat.zero_add,VU]at ho;obtain⟨p,c,rfl,_⟩:=slice_form ho;have hg':Below wr.heap.size wr w4:=hal.grown hg (by simp) (fun k e=>by cases e;exact Va _);have ha4:w4.heap[w.heap.size]?=some (.cells A ty (0,0)):=(hg'.block _ (by omega)).trans h.a;have hz4:w4.heap[w.heap.size+1]?=some (.cells Z ty (0,0)):=(hg'.block _ (by omega)).trans h.z;have hx4:w4.heap[w.heap.size+1+1]?=some (.cells X ty (0,0)):=(hg'.block _ (by omega)).trans h.x;refine⟨⟨p,s.n,c,s.xs⟩,w4,hr,rfl,⟨X[i],?_⟩,VN _ _ _ _ _ hx4,⟨?_,?_,Vx _ _ _ _ _ _ hx4,?_⟩,⟨?_,hs.len,hs.most⟩,?_⟩
 ·rw[cRq hx4];exact Array.getElem?_eq_getElem hi
 ·rw[Ve _ _ _ _ (by show w.heap.size≠w.heap.size+1+1;omega)];exact ha4
 ·rw[Ve _ _ _ _ (by show w.heap.size+1≠w.heap.size+1+1;omega)];exact hz4
 ·exact(h.bel.trans (hg'.mono h.bel.size)).setCell (p:=⟨w.heap.size+1+1,i,none⟩) (by show w.heap.size≤w.heap.size+1+1;omega) _
 ·exact owns_set (owns_le ho (by omega)) hx4 hte
 ·intro B e' sz' v n xs hB hown
  exact owns_low_set (owns_keep hown hg') (by omega)
structure AcP where
 till:Int
 num:Int
 kind:Int
 sure:Bool
 lines:List Lin
 guards:List Tri
 sets:List Tri
 mg:Int
 other:List Lin
 ra:Int
 rb:Int
 rd:Int
 to:Int
 gen:Int
 rights:List Tri
def Acd.d (a:Acd):AcP:=⟨a.till,a.num,a.kind,a.sure,a.lines.xs,a.guards.xs,a.sets.xs,a.mg,a.other.xs,a.ra,a.rb,a.rd,a.to,a.gen,a.rights.xs⟩
structure AcOwn (B:Nat) (w:World) (a:Acd):Prop where
 lines:SlOwn B w 132 2 Qal a.lines
 guards:SlOwn B w 73 3 Qar a.guards
 sets:SlOwn B w 76 3 Qar a.sets
 other:SlOwn B w 132 2 Qal a.other
 rights:SlOwn B w 52 3 Qar a.rights
theorem AcOwn.ok {B:Nat} {w:World} {a:Acd} (h:AcOwn B w a):Qad w a:=⟨h.lines.ok (fun _=>rfl),h.guards.ok (fun _=>rfl),h.sets.ok (fun _=>rfl),h.other.ok (fun _=>rfl),h.rights.ok (fun _=>rfl)⟩
theorem AcOwn.below {B:Nat} {w w':World} {a:Acd} (h:AcOwn B w a) (hb:Below w.heap.size w w'):AcOwn B w' a:=⟨h.lines.below hb,h.guards.below hb,h.sets.below hb,h.other.below hb,h.rights.below hb⟩
theorem AcOwn.le {B B':Nat} {w:World} {a:Acd} (h:AcOwn B w a) (hb:B'≤B):AcOwn B' w a:=⟨h.lines.le hb,h.guards.le hb,h.sets.le hb,h.other.le hb,h.rights.le hb⟩
theorem QcP (w:World) (ty:TypeId) (A Z:Array Value):∃w3,((w.alloc (.cells A ty)).alloc (.cells Z ty)).alloc (.cells A ty)=w3∧CpS w w3 ty A Z A∧w3.heap.size=w.heap.size+1+1+1:=by
 refine⟨_,rfl,⟨?_,?_,?_,?_⟩,by simp⟩
 ·rw[Vc _ _ _ (by simp only[Vm];omega),Vc _ _ _ (by simp)];exact hNq _ _
 ·rw[Vc _ _ _ (by simp)];exact VV _ _ _
 ·have:=hNq ((w.alloc (.cells A ty)).alloc (.cells Z ty)) (.cells A ty)
  simp only[Vm]at this;exact this
 ·exact(((Below.refl _ w).alloc (Va _) _).alloc (by simp) _).alloc (by simp only[Vm];omega) _
theorem copyAct_any (w:World) (a:Acd) (hok:Qad w a) (A:Array Value) (hA:a.arr=A) :
  Calls Tryz.prog 16 #[.agg A] w fun e w'=>∃b:Acd,e=.returned (.agg b.arr)∧b.d=a.d∧AcOwn w.heap.size w' b∧Below w.heap.size w w':=by
 have HZ:Hid (A.size=15):=by show _=_;rw[←hA];rfl
 have HO:Hid (A.all (·.oneCell')=true):=by show _=_;rw[←hA];exact a.ones
 obtain⟨w3,hw3,hC0,hs3⟩:=QcP w 55 A #[.int .i64 0,.int .u64 0,.int .i64 0,.bool false,.slice none 0 0,.slice none 0 0,.slice none 0 0,.int .i64 0,.slice none 0 0,.int .i64 0,.int .i64 0,.int .i64 0,.int .i64 0,.int .u64 0,.slice none 0 0];obtain⟨Z,hZ⟩:∃Z:Array Value,#[.int .i64 0,.int .u64 0,.int .i64 0,.bool false,.slice none 0 0,.slice none 0 0,.slice none 0 0,.int .i64 0,.slice none 0 0,.int .i64 0,.int .i64 0,.int .i64 0,.int .i64 0,.int .u64 0,.slice none 0 0]=Z:=⟨_,rfl⟩;have HZz:Hid (Z.size=15):=by show _=_;rw[←hZ];rfl
 rw[hZ]at hC0;obtain⟨c0,v0,hr0,hx0,⟨u0,hu0⟩,hf0,hC1,ho0,hk0⟩:=Qfc elt_line hC0 (by decide) a.lines hok.lines 4 (by rw[HZ.out];omega) 46;obtain⟨w4,hw4⟩:∃w',v0.setCell ⟨w.heap.size+1+1,4,none⟩ (.slice c0.p c0.n c0.c)=w':=⟨_,rfl⟩;rw[hw4]at hC1 ho0 hk0;obtain⟨c1,v1,hr1,hx1,⟨u1,hu1⟩,hf1,hC2,ho1,hk1⟩:=Qfc Qic hC1 (by decide) a.guards hok.guards 5 (by simp only[Array.size_setIfInBounds];rw[HZ.out];omega) 47;obtain⟨w5,hw5⟩:∃w',v1.setCell ⟨w.heap.size+1+1,5,none⟩ (.slice c1.p c1.n c1.c)=w':=⟨_,rfl⟩;rw[hw5]at hC2 ho1 hk1;obtain⟨c2,v2,hr2,hx2,⟨u2,hu2⟩,hf2,hC3,ho2,hk2⟩:=Qfc elt_set hC2 (by decide) a.sets hok.sets 6 (by simp only[Array.size_setIfInBounds];rw[HZ.out];omega) 48;obtain⟨w6,hw6⟩:∃w',v2.setCell ⟨w.heap.size+1+1,6,none⟩ (.slice c2.p c2.n c2.c)=w':=⟨_,rfl⟩;rw[hw6]at hC3 ho2 hk2;obtain⟨c3,v3,hr3,hx3,⟨u3,hu3⟩,hf3,hC4,ho3,hk3⟩:=Qfc elt_line hC3 (by decide) a.other hok.other 8 (by simp only[Array.size_setIfInBounds];rw[HZ.out];omega) 46;obtain⟨w7,hw7⟩:∃w',v3.setCell ⟨w.heap.size+1+1,8,none⟩ (.slice c3.p c3.n c3.c)=w':=⟨_,rfl⟩;rw[hw7]at hC4 ho3 hk3;obtain⟨c4,v4,hr4,hx4,⟨u4,hu4⟩,hf4,hC5,ho4,hk4⟩:=Qfc Qh6 hC4 (by decide) a.rights hok.rights 14 (by simp only[Array.size_setIfInBounds];rw[HZ.out];omega) 53;obtain⟨w8,hw8⟩:∃w',v4.setCell ⟨w.heap.size+1+1,14,none⟩ (.slice c4.p c4.n c4.c)=w':=⟨_,rfl⟩;rw[hw8]at hC5 ho4 hk4
 have HOwn:Hid (SlOwn (w.heap.size+1+1+1) w8 132 2 Qal c0∧SlOwn (w.heap.size+1+1+1) w8 73 3 Qar c1∧SlOwn (w.heap.size+1+1+1) w8 76 3 Qar c2∧SlOwn (w.heap.size+1+1+1) w8 132 2 Qal c3∧SlOwn (w.heap.size+1+1+1) w8 52 3 Qar c4):=by
  refine⟨⟨?_,ho0.2⟩,⟨?_,ho1.2⟩,⟨?_,ho2.2⟩,⟨?_,ho3.2⟩,ho4⟩
  ·exact hk4 _ _ _ _ _ _ (Va _) (hk3 _ _ _ _ _ _ (Va _) (hk2 _ _ _ _ _ _ (Va _) (hk1 _ _ _ _ _ _ (Va _) ho0.1)))
  ·exact hk4 _ _ _ _ _ _ (Va _) (hk3 _ _ _ _ _ _ (Va _) (hk2 _ _ _ _ _ _ (Va _) ho1.1))
  ·exact hk4 _ _ _ _ _ _ (Va _) (hk3 _ _ _ _ _ _ (Va _) ho2.1)
  ·exact hk4 _ _ _ _ _ _ (Va _) ho3.1
 have d0:(w3.alloc (.cells #[] 132)).cell? ⟨w.heap.size,4,none⟩=some (.slice a.lines.p a.lines.n a.lines.c):=by rw[VC (w:=w3) (Vc _ _ _ (Qab hC0.a)),cRq hC0.a,←hA];rfl
 have d1:(w4.alloc (.cells #[] 73)).cell? ⟨w.heap.size,5,none⟩=some (.slice a.guards.p a.guards.n a.guards.c):=by rw[VC (w:=w4) (Vc _ _ _ (Qab hC1.a)),cRq hC1.a,←hA];rfl
 have d2:(w5.alloc (.cells #[] 76)).cell? ⟨w.heap.size,6,none⟩=some (.slice a.sets.p a.sets.n a.sets.c):=by rw[VC (w:=w5) (Vc _ _ _ (Qab hC2.a)),cRq hC2.a,←hA];rfl
 have d3:(w6.alloc (.cells #[] 132)).cell? ⟨w.heap.size,8,none⟩=some (.slice a.other.p a.other.n a.other.c):=by rw[VC (w:=w6) (Vc _ _ _ (Qab hC3.a)),cRq hC3.a,←hA];rfl
 have d4:(w7.alloc (.cells #[] 52)).cell? ⟨w.heap.size,14,none⟩=some (.slice a.rights.p a.rights.n a.rights.c):=by rw[VC (w:=w7) (Vc _ _ _ (Qab hC4.a)),cRq hC4.a,←hA];rfl
 obtain⟨X,hX⟩:=exq (((((A.setIfInBounds 4 (.slice c0.p c0.n c0.c)).setIfInBounds 5 (.slice c1.p c1.n c1.c)).setIfInBounds 6 (.slice c2.p c2.n c2.c)).setIfInBounds 8 (.slice c3.p c3.n c3.c)).setIfInBounds 14 (.slice c4.p c4.n c4.c));rw[hX]at hC5;have HXb:Hid (X=(⟨a.till,a.num,a.kind,a.sure,c0,c1,c2,a.mg,c3,a.ra,a.rb,a.rd,a.to,a.gen,c4⟩:Acd).arr):=by show _=_;rw[←hX,←hA];rfl
 have HXs:Hid (X.size=15):=by show _=_;rw[HXb.out];rfl
 have HXo:Hid (X.all (·.oneCell')=true):=by show _=_;rw[HXb.out];exact Acd.ones _
 have HL1:=Qaa (lr55 (show ((w.alloc (.cells A 55)).alloc (.cells Z 55)).heap[w.heap.size]?=some (.cells A 55 (0,0)) from by rw[Vc _ _ _ (by simp)];exact hNq _ _) (by rw[HZ.out];exact Tryz.sizeA));have HLX:=Qaa (lr55 hC5.x (by rw[HXs.out];exact Tryz.sizeA));have HSX:=Qaa (storeAt_row (P:=Tryz.prog) (c':=X) hC5.z (by rw[HXs.out];exact Tryz.sizeA) (by rw[HXs.out];exact HZz.out) HXo.out);have HR0:=Qaa hr0;have HW4:=Qaa hw4;have HR1:=Qaa hr1;have HW5:=Qaa hw5;have HR2:=Qaa hr2;have HW6:=Qaa hw6;have HR3:=Qaa hr3;have HW7:=Qaa hw7;have HR4:=Qaa hr4;have HW8:=Qaa hw8
 have HEnd:Hid ((w8.setRow (w.heap.size+1) X).heap[w.heap.size+1]?=some (.cells X 55 (0,0))∧AcOwn w.heap.size (w8.setRow (w.heap.size+1) X) ⟨a.till,a.num,a.kind,a.sure,c0,c1,c2,a.mg,c3,a.ra,a.rb,a.rd,a.to,a.gen,c4⟩∧Below w.heap.size w (w8.setRow (w.heap.size+1) X)):=by
  have hg:w8.grownBy (w8.setRow (w.heap.size+1) X) (some (w.heap.size+1)):=⟨rfl,rfl,rfl,by simp,fun k _ hne=>Vz w8 _ _ X (fun e=>hne (by rw[e]))⟩;have hk:∀e' sz' v n xs,w8.ownsRow (w.heap.size+1+1+1) e' sz' v n xs→(w8.setRow (w.heap.size+1) X).ownsRow w.heap.size e' sz' v n xs:=fun e' sz' v n xs h=>owns_le (owns_grown h hg (fun g e e'=>by have:=owns_base h g e;cases e';omega)) (by omega)
  obtain⟨o0,o1,o2,o3,o4⟩:=HOwn.out;exact⟨VB _ _ _ _ _ _ hC5.z,⟨⟨hk _ _ _ _ _ o0.1,o0.2⟩,⟨hk _ _ _ _ _ o1.1,o1.2⟩,⟨hk _ _ _ _ _ o2.1,o2.2⟩,⟨hk _ _ _ _ _ o3.1,o3.2⟩,⟨hk _ _ _ _ _ o4.1,o4.2⟩⟩,VA hC5.bel (by omega) X⟩
 have HD:Hid ((⟨a.till,a.num,a.kind,a.sure,c0,c1,c2,a.mg,c3,a.ra,a.rb,a.rd,a.to,a.gen,c4⟩:Acd).d=a.d):=by
  show _=_;simp only[Acd.d,hx0,hx1,hx2,hx3,hx4]
 obtain⟨HW3,HZe⟩:=Qmj hw3 hZ;clear hs3 hw3 hZ hC0 hC1 hC2 hC3 hC4 hC5 ho0 ho1 ho2 ho3 ho4 hk0 hk1 hk2 hk3 hk4 hx0 hx1 hx2 hx3 hx4 hok hA hX hr0 hr1 hr2 hr3 hr4 hw4 hw5 hw6 hw7 hw8;go_enter Tryz.func16,Tryz.ntmps16
 go_upto_region 2 with (
  first
  | ((with_reducible refine glq 55 1 ?_);refine lp_load w.heap.size 0 A rfl (by rw[HZe.out];exact HL1.out) ?_)
  | ((with_reducible refine gsq 55 3 ?_);refine lp_store (t:=55) (x:=.tmp 3) (some ⟨w.heap.size+1+1,0,none⟩) (.agg A) rfl rfl (by have h:=run_storeAt_new (P:=Tryz.prog) ((w.alloc (.cells A 55)).alloc (.cells Z 55)) 55 Z A (by rw[HZ.out];exact Tryz.sizeA) (by rw[HZ.out];exact HZz.out) HO.out;simp only[Vm]at h;rw[HZe.out];exact h) ?_))
 rw[HZe.out]at HW3;rw[HW3.out];dsimp only[Act.put];go_upto_region 3 with (at_builtin;refine lp_append (.slice (some ⟨w3.heap.size,0,none⟩) 0 0) (.slice a.lines.p a.lines.n a.lines.c) rfl rfl ⟨_,v0,HR0.out,?_⟩);rw[HW4.out];clear hu0 hf0 d0;go_upto_region 4 with (at_builtin;refine lp_append (.slice (some ⟨w4.heap.size,0,none⟩) 0 0) (.slice a.guards.p a.guards.n a.guards.c) rfl rfl ⟨_,v1,HR1.out,?_⟩);rw[HW5.out];clear hu1 hf1 d1;go_upto_region 5 with (at_builtin;refine lp_append (.slice (some ⟨w5.heap.size,0,none⟩) 0 0) (.slice a.sets.p a.sets.n a.sets.c) rfl rfl ⟨_,v2,HR2.out,?_⟩);rw[HW6.out];clear hu2 hf2 d2;go_upto_region 6 with (at_builtin;refine lp_append (.slice (some ⟨w6.heap.size,0,none⟩) 0 0) (.slice a.other.p a.other.n a.other.c) rfl rfl ⟨_,v3,HR3.out,?_⟩);rw[HW7.out];clear hu3 hf3 d3;go_upto_region 7 with (at_builtin;refine lp_append (.slice (some ⟨w7.heap.size,0,none⟩) 0 0) (.slice a.rights.p a.rights.n a.rights.c) rfl rfl ⟨_,v4,HR4.out,?_⟩);rw[HW8.out];clear hu4 hf4 d4
 go_wp2_with (
  first
  | ((with_reducible refine glq 55 3 ?_);refine lp_load (w.heap.size+1+1) 0 X rfl HLX.out ?_)
  | ((with_reducible refine gsq 55 2 ?_);refine lp_store (t:=55) (x:=.tmp 2) (some ⟨w.heap.size+1,0,none⟩) (.agg X) rfl rfl HSX.out ?_))
 refine Vg (VF rfl _ _ (w.heap.size+1) 55 X (0,0) _ rfl HEnd.out.1 Tryz.underlying55 rfl (by rw[HXs.out];exact Tryz.sizeA)) rfl ?_;exact⟨⟨a.till,a.num,a.kind,a.sure,c0,c1,c2,a.mg,c3,a.ra,a.rb,a.rd,a.to,a.gen,c4⟩,by rw[HXb.out],HD.out,HEnd.out.2.1,HEnd.out.2.2⟩
end Go.Proofs.YtiogibfhafoapaaGreat.Z
namespace Go.Proofs.YtiogibfhafoapaaGreat.Z
open Go.RowKit
theorem QlC (n m:Int):n.tmod m=if 0≤n then n % m else -((-n) % m):=by
 by_cases h:0≤n
 ·rw[if_pos h,Int.tmod_eq_emod_of_nonneg h]
 ·rw[if_neg h]
  have e:n = -(-n):=by omega
  rw[e,Int.neg_tmod,Int.tmod_eq_emod_of_nonneg (by omega)];simp
theorem Qkg (n m:Int) (hm:0<m):(-n) % m=0∧n % m=0∨(0<(-n) % m∧n % m=m - (-n) % m):=by
 have h1:=VE (-n) hm;have h2:=VK (-n) (by omega:m≠0);have h3:=VE n hm;have h4:=VK n (by omega:m≠0);have h5:=Int.emod_add_mul_ediv n m;have h6:=Int.emod_add_mul_ediv (-n) m
 have h7:n % m+(-n) % m=m*(-(n / m) - (-n) / m):=by
  rw[Int.mul_sub,Int.mul_neg];omega
 obtain⟨q,hq⟩:=exq (-(n / m) - (-n) / m);rw[hq]at h7
 have hq0:0≤q:=by
  rcases Int.lt_or_le q 0 with h | h
  ·have:m*q≤m*(-1):=Int.mul_le_mul_of_nonneg_left (by omega) (by omega)
   omega
  ·exact h
 have hq1:q<2:=by
  rcases Int.lt_or_le q 2 with h | h
  ·exact h
  ·have:m*2≤m*q:=Int.mul_le_mul_of_nonneg_left h (by omega)
   omega
 have:q=0∨q=1:=by omega
 rcases this with rfl | rfl
 ·left;omega
 ·right
  rw[Int.mul_one]at h7;omega
theorem Qeh (n m:Int) (hm:0<m):(n.tmod m<0→n.tmod m+m=n % m)∧(¬n.tmod m<0→n.tmod m=n % m)∧-m<n.tmod m:=by
 have e:=QlC n m;have h1:=VE (-n) hm;have h2:=VK (-n) (by omega:m≠0);have h3:=VE n hm;have h4:=VK n (by omega:m≠0);have h5:=Qkg n m hm;split at e <;> omega
theorem QeN {a b:Int} (h:a=b):Ending.returned (.int .i64 a)=.returned (.int .i64 b):=by rw[h]
theorem within_any (w:World) (n m:Int) (h0:0<m) (hm:m≤4611686018427387904) :
  Calls Tryz.prog 33 #[.int .i64 n,.int .i64 m] w fun e w'=>e=.returned (.int .i64 (n % m))∧w'=w:=by
 obtain⟨h1,h2,h3⟩:=Qeh n m h0;obtain⟨H1,H2⟩:=Qmj h1 h2;clear h1 h2;by_cases h:n.tmod m<0
 ·go_enter Tryz.func33,Tryz.ntmps33
  go_wp2;go_ret;exact⟨QeN (H1.out h),rfl⟩
 ·go_enter Tryz.func33,Tryz.ntmps33
  go_wp2;go_ret;exact⟨QeN (H2.out h),rfl⟩
theorem Qa7 (w:World) (n m:Int) (h0:0<m) (hm:m≤4611686018427387904) :
  Calls Tryz.prog 34 #[.int .i64 n,.int .i64 m] w fun e w'=>e=.returned (.int .i64 (n % m))∧w'=w:=by
 obtain⟨h1,h2,h3⟩:=Qeh n m h0;obtain⟨H1,H2⟩:=Qmj h1 h2;clear h1 h2;by_cases h:n.tmod m<0
 ·go_enter Tryz.func34,Tryz.ntmps34
  go_wp2;go_ret;exact⟨QeN (H1.out h),rfl⟩
 ·go_enter Tryz.func34,Tryz.ntmps34
  go_wp2;go_ret;exact⟨QeN (H2.out h),rfl⟩
def Qcf (a i:Nat):ByteArray:=strOfNums [(a:Int),97+(i:Int) / 8,97+(i:Int) % 8]
theorem QgJ (w:World) (a:Nat) (i:Nat) (hi:i<64) :
  Calls Tryz.prog 35 #[.int .u8 a,.int .i64 i] w fun e w'=>e=.returned (.string (Qcf a i))∧Below w.heap.size w w':=by
 have hcv:=run_convert_bytes_arg (P:=Tryz.prog) (w.alloc (.cells #[.int .u8 (a:Int),.int .u8 (97+(i:Int) / 8),.int .u8 (97+(i:Int) % 8)] 5)) 163 5 Tryz.underlying163 Tryz.underlying5 w.heap.size 0 3 3 [(a:Int),97+(i:Int) / 8,97+(i:Int) % 8] rfl (fun j hj=>by
  rw[cRq (hNq w (.cells #[.int .u8 (a:Int),.int .u8 (97+(i:Int) / 8),.int .u8 (97+(i:Int) % 8)] 5))]
  match j,hj with
  | 0,_=>rfl
  | 1,_=>rfl
  | 2,_=>rfl) 9 Tryz.underlying9
 go_enter Tryz.func35,Tryz.ntmps35;go_wp2;go_ret;exact⟨rfl,(Below.refl _ w).alloc (Va _) _⟩
end Go.Proofs.YtiogibfhafoapaaGreat.Z
namespace Go.Proofs.YtiogibfhafoapaaGreat.Z
open Go.RowKit
structure Cnf where
 tills:Int
 ctr:Sli Tri
 prc:Sli Int
 lease:Int
 watch:Int
 beat:Int
 window:Int
 cap:Int
 flight:Int
def Cnf.arr (p:Cnf):Array Value:=#[.int .i64 p.tills,.slice p.ctr.p p.ctr.n p.ctr.c,.slice p.prc.p p.prc.n p.prc.c,.int .i64 p.lease,.int .i64 p.watch,.int .i64 p.beat,.int .i64 p.window,.int .i64 p.cap,.int .i64 p.flight]
structure Ctr where
 name:ByteArray
 lo:Int
 hi:Int
 st:Int
def ctc (c:Ctr):List Value:=[.string c.name,.int .i64 c.lo,.int .i64 c.hi,.int .i64 c.st]
theorem QiZ:Elt ctc 4 40 31 115:=⟨fun _=>rfl,fun x u hu=>by simp[ctc]at hu;rcases hu with rfl | rfl | rfl | rfl <;> rfl,by omega,Tryz.underlying31,by
 obtain⟨i,h⟩:=info_parts (show (Tryz.prog.info? 115).map (fun i=>(i.zero,i.size,i.bytes))=some (some (.agg #[.string ⟨#[]⟩,.int .i64 0,.int .i64 0,.int .i64 0]),4,40) by kernel_rfl);exact⟨i,_,h.1,h.2.1,h.2.2.1,h.2.2.2,rfl⟩,by omega⟩
def loT (x:Tri):Int:=x.a % 18014398509481985 - 9007199254740992
def hiT (x:Tri):Int:=loT x+x.b % (9007199254740992 - loT x+1)
theorem Qg5 (x:Tri) : -9007199254740992≤loT x∧loT x≤9007199254740992:=by
 have h1:=VE x.a (show (0:Int)<18014398509481985 by omega);have h2:=VK x.a (show (18014398509481985:Int)≠0 by omega);unfold loT;omega
theorem QkI (x:Tri):loT x≤hiT x∧hiT x≤9007199254740992:=by
 have h0:=Qg5 x;have h1:=VE x.b (show (0:Int)<9007199254740992 - loT x+1 by omega);have h2:=VK x.b (show (9007199254740992 - loT x+1:Int)≠0 by omega);unfold hiT;omega
end Go.Proofs.YtiogibfhafoapaaGreat.Z
