import Derived.Test.YtiogibfhafoapaaGreatAbA
import Derived.Test.YtiogibfhafoapaaGreatAbE
import Derived.Test.YtiogibfhafoapaaGreatRwK
import Derived.Test.YtiogibfhafoapaaGreatAbZ
import Derived.Test.YtiogibfhafoapaaGreatEfD
set_option maxRecDepth 100000
set_option maxHeartbeats 8000000
set_option linter.unusedSimpArgs false
set_option linter.unusedVariables false
namespace Go.Proofs.YtiogibfhafoapaaGreat
open Go.RowKit
open Z (Sli QaE Acd Qad Eda QaP Elt)
structure Qlc (s:Sta) (e:Eda) (t:Nat):Prop where
 till:e.ac.till=(t:Int)
 th:RgH s t
 made:∀x∈e.made.xs,RgL s x
 sets:∀x∈e.sets.xs,RgP s x
 right:(e.oc=4∨(e.oc=5∧(e.ac.kind=3∨e.ac.kind=4)))→RgT s ⟨e.ac.ra,e.ac.rb,e.ac.rd⟩
 dest:e.oc=5→e.ac.kind=4→∃t2:Nat,e.ac.to=(t2:Int)∧RgH s t2
 rights:e.oc=5→e.ac.kind=5→∀x∈e.ac.rights.xs,RgT s x
 owed:e.oc=5→e.ac.kind=5→t<s.on
structure EfW (B:Nat) (s0 s1:Sta) (w W:World):Prop where
 own:Qac B W s1
 same:Qbv s0 s1
 mt:Mut B w W
theorem EfW.by {B:Nat} {s0 s1 s2:Sta} {w W W':World} (h:EfW B s0 s1 w W) (ho:Qac B W' s2) (hs:Qbv s0 s2) (hm:Mut B W W'):EfW B s0 s2 w W':=⟨ho,hs,h.mt.trans hm⟩
theorem EfW.drew {B:Nat} {s0 s1:Sta} {w W:World} (h:EfW B s0 s1 w W):EfW B s0 s1 w W.drew:=⟨h.own.below ((Below.refl _ W).drew),h.same,h.mt.drew⟩
theorem Qbv.slices {s s':Sta} (h:Qbv s s'):s'.pp=s.pp∧s'.rp=s.rp∧s'.lp=s.lp∧s'.gp=s.gp∧s'.op=s.op:=by have h:=h.arr;unfold Sta.arr at h;simp at h;exact⟨h.2.1.1,h.2.2.1.1,h.2.2.2.1.1,h.2.2.2.2.1.1,h.2.2.2.2.2.1⟩
theorem Qdm {w W:World} {B:Nat} {s s1:Sta} (hm:Mut B w W) (hB:B≤w.heap.size) (hz:W.heap[w.heap.size+1+1]?=some (.cells qs 42 (0,0))) (ho:Qac B W s1) :
  (Instr.storeAt 42 (.pointer (some ⟨w.heap.size+1+1,0,none⟩)) (.agg (qS s))).run Tryz.prog W=.ok () (W.setRow (w.heap.size+1+1) (qS s))∧(W.setRow (w.heap.size+1+1) (qS s)).heap[w.heap.size+1+1]?=some (.cells (qS s) 42 (0,0))∧Qac B (W.setRow (w.heap.size+1+1) (qS s)) s1∧Mut B w (W.setRow (w.heap.size+1+1) (qS s)):=by
 have hg:W.grownBy (W.setRow (w.heap.size+1+1) (qS s)) (some (w.heap.size+1+1)):=⟨rfl,rfl,rfl,by simp,fun k _ hne=>Vz W _ _ _ (fun e=>hne (by rw[e]))⟩;have K:∀(B' k' n':Nat) (t:TypeId) (u:Value) (ys:List Value),W.ownsRow B' t k' u n' ys→42≠t→(W.setRow (w.heap.size+1+1) (qS s)).ownsRow B' t k' u n' ys:=fun B' k' n' t u ys hr ht=>Z.owns_grown hr hg (fun g e e'=>Z.owns_ne hr hz ht (by rw[←e',e]))
 refine⟨Z.storeAt_row (P:=Tryz.prog) (c':=(qS s)) hz Tryz.sizeS rfl (by simp[Value.oneCell']),VB _ _ _ _ _ _ hz,⟨ho.pn,K _ _ _ _ _ _ ho.pools (by decide),ho.hlen,fun x hx=>K _ _ _ _ _ _ (ho.held x hx) (by decide),ho.apart,ho.rn,K _ _ _ _ _ _ ho.prices (by decide),ho.ln,K _ _ _ _ _ _ ho.last (by decide),ho.gn,K _ _ _ _ _ _ ho.gen (by decide),ho.on,K _ _ _ _ _ _ ho.owed (by decide),ho.lg⟩,⟨VA hm.bel (by omega) _,fun k A t hk ht=>?_⟩⟩;rw[Vz W _ _ _ (by have:=Qab hk;omega)];exact hm.keep k A t hk ht
theorem Qay {t:TypeId} (h:(t == 121 || t == 118 || t == 123 || t == 36 || t == 4)=false):¬Qku t:=by
 rintro (rfl | rfl | rfl | rfl | rfl) <;> simp at h
theorem Qib (w:World) (S A L:Array Value):∃w2,((w.alloc (.cells S 42)).alloc (.cells A 136)).alloc (.cells L 42)=w2∧Below w.heap.size w w2∧w2.heap[w.heap.size]?=some (.cells S 42 (0,0))∧w2.heap[w.heap.size+1]?=some (.cells A 136 (0,0))∧w2.heap[w.heap.size+1+1]?=some (.cells L 42 (0,0))∧w2.heap.size=w.heap.size+1+1+1:=by
 refine⟨_,rfl,(((Below.refl _ w).alloc (Va _) _).alloc (by simp) _).alloc (by simp;omega) _,?_,?_,?_,by simp⟩
 ·rw[Vc _ _ _ (by simp only[Vm];omega),Vc _ _ _ (by simp)];exact hNq _ _
 ·rw[Vc _ _ _ (by simp)];exact VV _ _ _
 ·have h:=hNq ((w.alloc (.cells S 42)).alloc (.cells A 136)) (.cells L 42)
  simp only[Vm]at h;exact h
theorem Qgm (w:World) (B:Nat) (s:Sta) (hs:Qac B w s) (hB:B≤w.heap.size) (e:Eda) (t:Nat) (w0:World) (h0:QaP w0 e) (h0B:w0.heap.size≤B) (hb0:Below w0.heap.size w0 w) (hg:Qlc s e t) :
  Calls Tryz.prog 98 #[.agg (qS s),.agg (qE e)] w fun e1 w'=>e1=.returned (.agg (qS s))∧Qac B w' (QcA s e)∧Qbv s (QcA s e)∧Mut B w w':=by
 have he:∀W,Below B w W→QaP W e:=fun W hW=>h0.below (hb0.trans (hW.mono h0B))
 have H0:=Qaa h0;obtain⟨w2,hw2,hb2,hx2,hy2,hz2,hsz2⟩:=Qib w (qS s) (qE e) qs;have HW2:=Qaa hw2;obtain⟨w3,hw3,hb3,hx3⟩:=Qag w2 (qA e.ac) 55;have HW3:=Qaa hw3;have hb23:Below w.heap.size w w3:=hb2.trans (hb3.mono hb2.size);rw[hsz2]at hx3;have hS3:=(hb3.block _ (Qab hx2)).trans hx2;have hE3:=(hb3.block _ (Qab hy2)).trans hy2;have hZ3:=(hb3.block _ (Qab hz2)).trans hz2;have ht:=hg.till
 have HX:Hid (∀W,Mut B w3 W→(W.cell? ⟨w.heap.size,0,none⟩=some (.int .u64 s.pos)∧W.cell? ⟨w.heap.size,1,none⟩=some (.slice s.pp s.pn s.pc)∧W.cell? ⟨w.heap.size,2,none⟩=some (.slice s.rp s.rn s.rc)∧W.cell? ⟨w.heap.size,3,none⟩=some (.slice s.lp s.ln s.lc)∧W.cell? ⟨w.heap.size,4,none⟩=some (.slice s.gp s.gn s.gc)∧W.cell? ⟨w.heap.size,5,none⟩=some (.slice s.op s.on s.oc)∧W.cell? ⟨w.heap.size+1+1+1,0,none⟩=some (.int .i64 t)∧W.cell? ⟨w.heap.size+1+1+1,1,none⟩=some (.int .u64 e.ac.num)∧W.cell? ⟨w.heap.size+1+1+1,2,none⟩=some (.int .i64 e.ac.kind)∧W.cell? ⟨w.heap.size+1+1+1,3,none⟩=some (.bool e.ac.sure)∧W.cell? ⟨w.heap.size+1+1+1,4,none⟩=some (.slice e.ac.lines.p e.ac.lines.n e.ac.lines.c)∧W.cell? ⟨w.heap.size+1+1+1,5,none⟩=some (.slice e.ac.guards.p e.ac.guards.n e.ac.guards.c)∧W.cell? ⟨w.heap.size+1+1+1,6,none⟩=some (.slice e.ac.sets.p e.ac.sets.n e.ac.sets.c)∧W.cell? ⟨w.heap.size+1+1+1,7,none⟩=some (.int .i64 e.ac.mg)∧W.cell? ⟨w.heap.size+1+1+1,8,none⟩=some (.slice e.ac.other.p e.ac.other.n e.ac.other.c)∧W.cell? ⟨w.heap.size+1+1+1,9,none⟩=some (.int .i64 e.ac.ra)∧W.cell? ⟨w.heap.size+1+1+1,10,none⟩=some (.int .i64 e.ac.rb)∧W.cell? ⟨w.heap.size+1+1+1,11,none⟩=some (.int .i64 e.ac.rd)∧W.cell? ⟨w.heap.size+1+1+1,12,none⟩=some (.int .i64 e.ac.to)∧W.cell? ⟨w.heap.size+1+1+1,13,none⟩=some (.int .u64 e.ac.gen)∧W.cell? ⟨w.heap.size+1+1+1,14,none⟩=some (.slice e.ac.rights.p e.ac.rights.n e.ac.rights.c)∧W.cell? ⟨w.heap.size+1,16,none⟩=some (.int .i64 e.oc)∧W.cell? ⟨w.heap.size+1,17,none⟩=some (.slice e.made.p e.made.n e.made.c)∧W.cell? ⟨w.heap.size+1,18,none⟩=some (.slice e.sets.p e.sets.n e.sets.c)∧W.cell? ⟨w.heap.size+1,19,none⟩=some (.int .i64 e.n))):=fun W hm=>by
  have s:=hm.cell hS3 (Qay rfl);have en:=hm.cell hE3 (Qay rfl);have ac:=hm.cell hx3 (Qay rfl);obtain⟨c0,c1,c2,c3,c4,c5⟩:=ac6 s;obtain⟨a0,a1,a2,a3,a4,a5,a6,a7,a8,a9,a10,a11,a12,a13,a14⟩:=QaA ac;rw[ht]at a0;exact⟨c0,c1,c2,c3,c4,c5,a0,a1,a2,a3,a4,a5,a6,a7,a8,a9,a10,a11,a12,a13,a14,by rw[cRq en];rfl,by rw[cRq en];rfl,by rw[cRq en];rfl,by rw[cRq en];rfl⟩
 have HH:Hid (∀W,Mut B w3 W→W.heap[w.heap.size]?=some (.cells (qS s) 42 (0,0))∧W.heap[w.heap.size+1]?=some (.cells (qE e) 136 (0,0))∧W.heap[w.heap.size+1+1+1]?=some (.cells (qA e.ac) 55 (0,0))):=fun W hm=>⟨hm.cell hS3 (Qay rfl),hm.cell hE3 (Qay rfl),hm.cell hx3 (Qay rfl)⟩
 have HZ3:Hid (∀W,Mut B w3 W→W.heap[w.heap.size+1+1]?=some (.cells qs 42 (0,0))):=fun W hm=>hm.cell hZ3 (Qay rfl)
 have HE0:Hid (EfW B s s w3 w3):=⟨hs.below hb23,Qbv.refl s,Mut.refl _ _⟩;have HM0:Hid (Mut B w w3):=Mut.of hb23 hB;obtain⟨HG,HEd⟩:=Qmj hg he;have hml:=(he w bR).made.most;have hsl:=(he w bR).sets.most;have y1:w2.cell? ⟨w.heap.size+1,1,none⟩=some (.int .i64 e.ac.till):=by rw[cRq hy2];rfl
 have y2:w2.cell? ⟨w.heap.size+1,2,none⟩=some (.int .u64 e.ac.num):=by rw[cRq hy2];rfl
 have y3:w2.cell? ⟨w.heap.size+1,3,none⟩=some (.int .i64 e.ac.kind):=by rw[cRq hy2];rfl
 have y4:w2.cell? ⟨w.heap.size+1,4,none⟩=some (.bool e.ac.sure):=by rw[cRq hy2];rfl
 have y5:w2.cell? ⟨w.heap.size+1,5,none⟩=some (.slice e.ac.lines.p e.ac.lines.n e.ac.lines.c):=by rw[cRq hy2];rfl
 have y6:w2.cell? ⟨w.heap.size+1,6,none⟩=some (.slice e.ac.guards.p e.ac.guards.n e.ac.guards.c):=by rw[cRq hy2];rfl
 have y7:w2.cell? ⟨w.heap.size+1,7,none⟩=some (.slice e.ac.sets.p e.ac.sets.n e.ac.sets.c):=by rw[cRq hy2];rfl
 have y8:w2.cell? ⟨w.heap.size+1,8,none⟩=some (.int .i64 e.ac.mg):=by rw[cRq hy2];rfl
 have y9:w2.cell? ⟨w.heap.size+1,9,none⟩=some (.slice e.ac.other.p e.ac.other.n e.ac.other.c):=by rw[cRq hy2];rfl
 have y10:w2.cell? ⟨w.heap.size+1,10,none⟩=some (.int .i64 e.ac.ra):=by rw[cRq hy2];rfl
 have y11:w2.cell? ⟨w.heap.size+1,11,none⟩=some (.int .i64 e.ac.rb):=by rw[cRq hy2];rfl
 have y12:w2.cell? ⟨w.heap.size+1,12,none⟩=some (.int .i64 e.ac.rd):=by rw[cRq hy2];rfl
 have y13:w2.cell? ⟨w.heap.size+1,13,none⟩=some (.int .i64 e.ac.to):=by rw[cRq hy2];rfl
 have y14:w2.cell? ⟨w.heap.size+1,14,none⟩=some (.int .u64 e.ac.gen):=by rw[cRq hy2];rfl
 have y15:w2.cell? ⟨w.heap.size+1,15,none⟩=some (.slice e.ac.rights.p e.ac.rights.n e.ac.rights.c):=by rw[cRq hy2];rfl
 have HT:=Qaa ht;clear hw2 hb2 hx2 hy2 hz2 hw3 hb3 hx3 hb23 hS3 hE3 hZ3 hs hg he ht h0 hb0;go_enter Tryz.func98,Tryz.ntmps98;go_upto_region 1 with (fail);rw[HW2.out];go_upto_region 2 with (fail);rw[HW3.out];clear y1 y2 y3 y4 y5 y6 y7 y8 y9 y10 y11 y12 y13 y14 y15;go_wp2_with fail
 go_loopw [6] (fun i wr=>∃j:Nat,j≤e.made.n∧i=.int .i64 j∧Hid (EfW B s ((e.made.xs.take j).foldl (fun s x=>s.lineAt x e.ac.sure t) s) w3 wr)) (fun i _=>e.made.n - (intOf i).toNat);case atStart=>exact⟨0,Vo _,rfl,HE0⟩
 case round =>
  obtain⟨j,hj,rfl,HE⟩:=hrel;obtain⟨c0,c1,c2,c3,c4,c5,a0,a1,a2,a3,a4,a5,a6,a7,a8,a9,a10,a11,a12,a13,a14,e16,e17,e18,e19⟩:=HX.out wr HE.out.mt;by_cases hlt:j<e.made.n
  ·have hlt':(j:Int)<(e.made.n:Int):=by omega
   have j0':(0:Int)≤(j:Int):=by omega
   have hEd:=HEd.out wr ((HM0.out.trans HE.out.mt).bel);obtain⟨x,hx⟩:∃x,e.made.xs[j]?=some x:=⟨_,gE (by rw[hEd.made.len];exact hlt)⟩;obtain⟨b,o,eb,hbl,hcl⟩:=(HEd.out w bR).made.cel.get (i:=j) (r:=Qal x) (by rw[Vb,hx];rfl);have hrx:=HE.out.same.rgL (HG.out.made x (mG hx));have HTk:Hid ((e.made.xs.take (j+1)).foldl (fun s x=>s.lineAt x e.ac.sure t) s=((e.made.xs.take j).foldl (fun s x=>s.lineAt x e.ac.sure t) s).lineAt x e.ac.sure t):=by show _=_;rw[Z.take_snoc hx,List.foldl_append];rfl
   generalize (e.made.xs.take j).foldl (fun s x=>s.lineAt x e.ac.sure t) s=s1 at HE HTk hrx;have HLn:Hid (Calls Tryz.prog 165 #[.agg (qS s),.agg (qA e.ac),.agg #[.int .i64 x.c,.int .i64 x.n]] wr.drew fun e1 w'=>e1=.returned (.tuple #[])∧Qac B w' (s1.lineAt x e.ac.sure t)∧Qbv s (s1.lineAt x e.ac.sure t)∧Mut B wr.drew w'):=QjW wr.drew B s s1 HE.out.drew.own HE.out.same e.ac t HT.out (HE.out.same.rgH HG.out.th) x hrx
   (try simp only[qA,qE]at HLn);rw[HT.out]at HLn
   obtain⟨xc,xn⟩:=x;rw[eb]at e17
   have HL:Hid (∀W,Mut B w3 W→W.cell? ⟨b,o+j*2,none⟩=some (.int .i64 xc)∧W.cell? ⟨b,o+j*2+1,none⟩=some (.int .i64 xn)):=fun W hm=>by
    obtain⟨b2,o2,eb2,_,hcl2⟩:=(HEd.out W (HM0.out.trans hm).bel).made.cel.get (i:=j) (r:=Qal ⟨xc,xn⟩) (by rw[Vb,hx];rfl);rw[eb]at eb2;cases eb2;exact⟨hcl2 0 _ rfl,hcl2 1 _ rfl⟩
   have HK:Hid (∀W,Mut B w3 W→W.cell? ⟨w.heap.size+1,17,none⟩=some (.slice (some ⟨b,o,none⟩) e.made.n e.made.c)):=fun W hm=>by obtain⟨c0,c1,c2,c3,c4,c5,a0,a1,a2,a3,a4,a5,a6,a7,a8,a9,a10,a11,a12,a13,a14,e16,e17,e18,e19⟩:=HX.out W hm;rw[eb]at e17;exact e17
   obtain⟨l0,l1⟩:=HL.out wr HE.out.mt;have HMd:=Qaa HE.out.drew.mt;clear hcl hx hrx eb hEd;go_upto_region 5 with (fail);go_region_held3 (fun W=>W.cell? ⟨w.heap.size,0,none⟩=some (.int .u64 s.pos)∧W.cell? ⟨w.heap.size,1,none⟩=some (.slice s.pp s.pn s.pc)∧W.cell? ⟨w.heap.size,2,none⟩=some (.slice s.rp s.rn s.rc)∧W.cell? ⟨w.heap.size,3,none⟩=some (.slice s.lp s.ln s.lc)∧W.cell? ⟨w.heap.size,4,none⟩=some (.slice s.gp s.gn s.gc)∧W.cell? ⟨w.heap.size,5,none⟩=some (.slice s.op s.on s.oc)∧W.cell? ⟨w.heap.size+1+1+1,0,none⟩=some (.int .i64 t)∧W.cell? ⟨w.heap.size+1+1+1,1,none⟩=some (.int .u64 e.ac.num)∧W.cell? ⟨w.heap.size+1+1+1,2,none⟩=some (.int .i64 e.ac.kind)∧W.cell? ⟨w.heap.size+1+1+1,3,none⟩=some (.bool e.ac.sure)∧W.cell? ⟨w.heap.size+1+1+1,4,none⟩=some (.slice e.ac.lines.p e.ac.lines.n e.ac.lines.c)∧W.cell? ⟨w.heap.size+1+1+1,5,none⟩=some (.slice e.ac.guards.p e.ac.guards.n e.ac.guards.c)∧W.cell? ⟨w.heap.size+1+1+1,6,none⟩=some (.slice e.ac.sets.p e.ac.sets.n e.ac.sets.c)∧W.cell? ⟨w.heap.size+1+1+1,7,none⟩=some (.int .i64 e.ac.mg)∧W.cell? ⟨w.heap.size+1+1+1,8,none⟩=some (.slice e.ac.other.p e.ac.other.n e.ac.other.c)∧W.cell? ⟨w.heap.size+1+1+1,9,none⟩=some (.int .i64 e.ac.ra)∧W.cell? ⟨w.heap.size+1+1+1,10,none⟩=some (.int .i64 e.ac.rb)∧W.cell? ⟨w.heap.size+1+1+1,11,none⟩=some (.int .i64 e.ac.rd)∧W.cell? ⟨w.heap.size+1+1+1,12,none⟩=some (.int .i64 e.ac.to)∧W.cell? ⟨w.heap.size+1+1+1,13,none⟩=some (.int .u64 e.ac.gen)∧W.cell? ⟨w.heap.size+1+1+1,14,none⟩=some (.slice e.ac.rights.p e.ac.rights.n e.ac.rights.c)∧W.cell? ⟨w.heap.size+1,17,none⟩=some (.slice (some ⟨b,o,none⟩) e.made.n e.made.c)∧W.cell? ⟨b,o+j*2,none⟩=some (.int .i64 xc)∧W.cell? ⟨b,o+j*2+1,none⟩=some (.int .i64 xn)) (go_keep) (first | (go_at_call 165;refine HLn.out.mono ?_;rintro e1 w5 ⟨rfl,hO5,hS5,hM5⟩;have HE5:Hid (EfW B s _ w3 w5):=⟨hO5,hS5,HMd.out.trans hM5⟩;clear c0 c1 c2 c3 c4 c5 a0 a1 a2 a3 a4 a5 a6 a7 a8 a9 a10 a11 a12 a13 a14 e16 e17 e18 e19 l0 l1 hO5 hS5 hM5;obtain⟨c0,c1,c2,c3,c4,c5,a0,a1,a2,a3,a4,a5,a6,a7,a8,a9,a10,a11,a12,a13,a14,e16,e17,e18,e19⟩:=HX.out w5 HE5.out.mt;clear e17;have e17:=HK.out w5 HE5.out.mt;obtain⟨l0,l1⟩:=HL.out w5 HE5.out.mt) | fail);go_wp2;go_roundw;case rel=>exact⟨j+1,by omega,by go_num,by rw[HTk.out];exact HE5⟩
   case measure=>simp[intOf];omega
  ·have hlt':¬(j:Int)<(e.made.n:Int):=by omega
   obtain rfl:j=e.made.n:=by omega
   have HM1:Hid (e.made.xs.take e.made.n=e.made.xs):=Vh (by rw[(HEd.out w bR).made.len];omega);rw[HM1.out]at HE;obtain⟨s1,hs1⟩:∃s1,e.made.xs.foldl (fun s x=>s.lineAt x e.ac.sure t) s=s1:=⟨_,rfl⟩;rw[hs1]at HE;have HS1:=Qaa hs1;clear hs1 HM1 hlt hj;go_wp2_with fail
   clear c0 c1 c2 c3 c4 c5 a0 a1 a2 a3 a4 a5 a6 a7 a8 a9 a10 a11 a12 a13 a14 e16 e17 e18 e19 hlt' HE0;go_loopw [7] (fun i wr=>∃j:Nat,j≤e.sets.n∧i=.int .i64 j∧Hid (EfW B s ((e.sets.xs.take j).foldl Sta.setPr s1) w3 wr)) (fun i _=>e.sets.n - (intOf i).toNat);case atStart=>exact⟨0,Vo _,rfl,HE⟩
   case round =>
    clear HE;obtain⟨j,hj,rfl,HE⟩:=hrel;obtain⟨c0,c1,c2,c3,c4,c5,a0,a1,a2,a3,a4,a5,a6,a7,a8,a9,a10,a11,a12,a13,a14,e16,e17,e18,e19⟩:=HX.out wr HE.out.mt;by_cases hlt:j<e.sets.n
    ·have hlt':(j:Int)<(e.sets.n:Int):=by omega
     have j0':(0:Int)≤(j:Int):=by omega
     obtain⟨x,hx⟩:∃x,e.sets.xs[j]?=some x:=⟨_,gE (by rw[(HEd.out w bR).sets.len];exact hlt)⟩;obtain⟨b,o,eb,hbl,-⟩:=H0.out.sets.cel.get (i:=j) (r:=Qar x) (by rw[Vb,hx];rfl);have hrx:=HE.out.same.rgP (HG.out.sets x (mG hx));have HTk:Hid ((e.sets.xs.take (j+1)).foldl Sta.setPr s1=((e.sets.xs.take j).foldl Sta.setPr s1).setPr x):=by show _=_;rw[Z.take_snoc hx,List.foldl_append];rfl
     generalize (e.sets.xs.take j).foldl Sta.setPr s1=s2 at HE HTk hrx
     have HL:Hid (∀W,Mut B w3 W→W.cell? ⟨b,o+j*3,none⟩=some (.int .i64 x.a)∧W.cell? ⟨b,o+j*3+1,none⟩=some (.int .i64 x.b)∧W.cell? ⟨b,o+j*3+2,none⟩=some (.int .i64 x.n)):=fun W hm=>by
       obtain⟨b2,o2,eb2,_,hcl2⟩:=(HEd.out W (HM0.out.trans hm).bel).sets.cel.get (i:=j) (r:=Qar x) (by rw[Vb,hx];rfl);rw[eb]at eb2;cases eb2;exact⟨hcl2 0 _ rfl,hcl2 1 _ rfl,hcl2 2 _ rfl⟩
     have HK:Hid (∀W,Mut B w3 W→W.cell? ⟨w.heap.size+1,18,none⟩=some (.slice (some ⟨b,o,none⟩) e.sets.n e.sets.c)):=fun W hm=>by obtain⟨c0,c1,c2,c3,c4,c5,a0,a1,a2,a3,a4,a5,a6,a7,a8,a9,a10,a11,a12,a13,a14,e16,e17,e18,e19⟩:=HX.out W hm;rw[eb]at e18;exact e18
     obtain⟨k,hk,hkn⟩:=hrx;obtain⟨q,hq⟩:∃q,s2.prices[k]?=some q:=⟨_,gE (by rw[HE.out.own.rn];exact hkn)⟩;obtain⟨gr,egr,hgrB,⟨Cr,hCr⟩,hfr,hcr,hstr⟩:=HE.out.drew.own.setR hq;have hrp:=HE.out.same.slices.2.1;rw[hrp]at egr;have hrn:=HE.out.same.rn;obtain⟨hh1,hh2,-⟩:=HH.out _ HE.out.drew.mt;have n1:¬gr=w.heap.size:=by rintro rfl;rw[hCr]at hh1;cases hh1
     have n2:¬gr=w.heap.size+1:=by rintro rfl;rw[hCr]at hh2;cases hh2
     have n3:¬gr=b:=by omega
     have hcr0:=hcr 0 _ rfl;have hcr1:=hcr 1 _ rfl;rw[Vr]at hcr0;have r0:wr.cell? ⟨gr,k*2,none⟩=some (.int .i64 q.c):=hcr0;have r1:wr.cell? ⟨gr,k*2+1,none⟩=some (.int .i64 q.n):=hcr1;have f0:wr.frozen? ⟨gr,k*2,none⟩=false:=hfr (k*2);have f1:wr.frozen? ⟨gr,k*2+1,none⟩=false:=hfr (k*2+1);clear hcr0 hcr1;obtain⟨xa,xb,xn⟩:=x;simp only at hk;subst hk;obtain⟨l0,l1,l2⟩:=HL.out wr HE.out.mt;clear e18 c2;have e18:=HK.out wr HE.out.mt;have c2:wr.cell? ⟨w.heap.size,2,none⟩=some (.slice (some ⟨gr,0,none⟩) s.rn s.rc):=by obtain⟨c0,c1,c2,c3,c4,c5,a0,a1,a2,a3,a4,a5,a6,a7,a8,a9,a10,a11,a12,a13,a14,e16,e17,e18,e19⟩:=HX.out wr HE.out.mt;rw[egr]at c2;exact c2
     have k1:(k:Int)<(s.rn:Int):=by omega
     have k0:(0:Int)≤(k:Int):=by omega
     have HN:Hid (EfW B s (s2.setPr ⟨k,xb,xn⟩) w3 ((wr.drew.setCell ⟨gr,k*2,none⟩ (.int .i64 xn)).setCell ⟨gr,k*2+1,none⟩ (.int .i64 xb))):=by
       refine HE.out.drew.by ?_ ?_ ?_
       ·have h:=hstr xn xb
        unfold Sta.setPr;simp only[Vv];exact h
       ·exact HE.out.same.trans ⟨rfl,rfl,rfl,rfl,fun _=>rfl⟩
       ·have h1:=Vx _ gr (k*2) _ _ (.int .i64 xn) hCr
        exact((Mut.refl B wr.drew).set hCr (Or.inr (Or.inr (Or.inl rfl))) hgrB _ _).set h1 (Or.inr (Or.inr (Or.inl rfl))) hgrB _ _
     clear hx eb hCr hfr hcr hstr hh1 hh2 hrp hrn egr hkn hq;go_upto_region 9 with (fail);go_region_held3 (fun W=>W.cell? ⟨w.heap.size,2,none⟩=some (.slice (some ⟨gr,0,none⟩) s.rn s.rc)∧W.cell? ⟨w.heap.size+1,18,none⟩=some (.slice (some ⟨b,o,none⟩) e.sets.n e.sets.c)∧W.cell? ⟨b,o+j*3,none⟩=some (.int .i64 k)∧W.cell? ⟨b,o+j*3+1,none⟩=some (.int .i64 xb)∧W.cell? ⟨b,o+j*3+2,none⟩=some (.int .i64 xn)) (go_keep) (first | fail);go_wp2;go_roundw;case rel=>exact⟨j+1,by omega,by go_num,by rw[HTk.out];exact HN⟩
     case measure=>simp[intOf];omega
    ·have hlt':¬(j:Int)<(e.sets.n:Int):=by omega
     obtain rfl:j=e.sets.n:=by omega
     have HM1:Hid (e.sets.xs.take e.sets.n=e.sets.xs):=Vh (by rw[(HEd.out w bR).sets.len];omega);rw[HM1.out]at HE;obtain⟨s2,hs2⟩:=exq (e.sets.xs.foldl Sta.setPr s1);rw[hs2]at HE;have HS2:=Qaa hs2;clear hs2 HM1 hlt hj;have HD:Hid (QcA s e=if ¬e.oc=5 then (if e.oc=4 then s2.shiftAt t e.ac.ra e.ac.rb e.n else s2) else if e.ac.kind=3 then (if e.oc=4 then s2.shiftAt t e.ac.ra e.ac.rb e.n else s2).shiftAt t e.ac.ra e.ac.rb (wrap64 (-e.ac.rd)) else if e.ac.kind=4 then ((if e.oc=4 then s2.shiftAt t e.ac.ra e.ac.rb e.n else s2).shiftAt t e.ac.ra e.ac.rb (wrap64 (-e.ac.rd))).shiftAt e.ac.to.toNat e.ac.ra e.ac.rb e.ac.rd else if e.ac.kind=5 then (e.ac.rights.xs.foldl (fun s x=>s.shiftAt t x.a x.b (wrap64 (-x.n))) (if e.oc=4 then s2.shiftAt t e.ac.ra e.ac.rb e.n else s2)).setOw t false else (if e.oc=4 then s2.shiftAt t e.ac.ra e.ac.rb e.n else s2)):=by show _=_;unfold QcA;simp only[HT.out,Vv,HS1.out,HS2.out]
     obtain⟨w5,hw5,hb5,hx5⟩:=Qag wr #[.int .i64 e.ac.ra,.int .i64 e.ac.rb,.int .i64 e.ac.rd] 52;have HW5:=Qaa hw5;have hBw:B≤wr.heap.size:=Vt hB (HM0.out.trans HE.out.mt).size;obtain⟨rb,hrb⟩:=exq wr.heap.size;have HRb:=Qaa hrb;rw[hrb]at hx5;have HE5:Hid (EfW B s s2 w3 w5):=⟨HE.out.own.below hb5,HE.out.same,HE.out.mt.trans (Mut.of hb5 hBw)⟩
     have HX5:Hid (∀W,Mut B w5 W→W.cell? ⟨rb,0,none⟩=some (.int .i64 e.ac.ra)∧W.cell? ⟨rb,1,none⟩=some (.int .i64 e.ac.rb)∧W.cell? ⟨rb,2,none⟩=some (.int .i64 e.ac.rd)):=fun W hm=>by
       have h:=hm.cell hx5 (Qay rfl);exact⟨by rw[cRq h];rfl,by rw[cRq h];rfl,by rw[cRq h];rfl⟩
     clear hw5 hb5 hx5 hBw hrb;go_upto_region 11 with (fail);rw[HW5.out,HRb.out];clear c0 c1 c2 c3 c4 c5 a0 a1 a2 a3 a4 a5 a6 a7 a8 a9 a10 a11 a12 a13 a14 e16 e17 e18 e19;obtain⟨c0,c1,c2,c3,c4,c5,a0,a1,a2,a3,a4,a5,a6,a7,a8,a9,a10,a11,a12,a13,a14,e16,e17,e18,e19⟩:=HX.out w5 HE5.out.mt;obtain⟨g0,g1,g2⟩:=HX5.out w5 (Mut.refl _ _);have HMF:Hid (Mut B w5 w5):=Mut.refl _ _;by_cases o4:e.oc=4
     ·have o4':(e.oc == 4)=true:=by simp[o4]
      have o5':(e.oc == 5)=false:=by simp[o4]
      have HO4:=Qaa o4;clear o4;go_upto_region 14 with (first | (go_at_call 166;refine(Qcu w5 B s _ HE5.out.own HE5.out.same t (HE5.out.same.rgH HG.out.th) e.ac.ra e.ac.rb e.n (HE5.out.same.rgT (HG.out.right (Or.inl HO4.out)))).mono ?_;rintro e1 w6 ⟨rfl,hO,hS,hM⟩;have Hw6:Hid (EfW B s _ w3 w6):=⟨hO,hS,HE5.out.mt.trans hM⟩;have HM5w6:Hid (Mut B w5 w6):=HMF.out.trans hM;clear c0 c1 c2 c3 c4 c5 a0 a1 a2 a3 a4 a5 a6 a7 a8 a9 a10 a11 a12 a13 a14 e16 e17 e18 e19 g0 g1 g2 hO hS hM;obtain⟨c0,c1,c2,c3,c4,c5,a0,a1,a2,a3,a4,a5,a6,a7,a8,a9,a10,a11,a12,a13,a14,e16,e17,e18,e19⟩:=HX.out w6 Hw6.out.mt;obtain⟨g0,g1,g2⟩:=HX5.out w6 HM5w6.out) | fail);obtain⟨hS,hR,hO,hM⟩:=Qdm (s:=s) (HM0.out.trans Hw6.out.mt) hB (HZ3.out _ Hw6.out.mt) Hw6.out.own;obtain⟨HSt,HR,HO,HM⟩:=hd4 hS hR hO hM;clear hS hR hO hM;go_wp2_with (first | ((with_reducible refine gsq 42 4 ?_);refine Z.lp_store (t:=42) (x:=.tmp 4) (some ⟨w.heap.size+1+1,0,none⟩) (.agg (qS s)) rfl rfl HSt.out ?_))
      refine bq rfl rfl HR.out Tryz.underlying42 rfl Tryz.sizeS rfl ?_;have HDv:Hid (QcA s e=s2.shiftAt t e.ac.ra e.ac.rb e.n):=by show _=_;rw[HD.out,if_pos (by rw[HO4.out];decide),if_pos HO4.out]
      exact⟨rfl,by rw[HDv.out];exact HO.out,by rw[HDv.out];exact Hw6.out.same,HM.out⟩
     by_cases o5:e.oc=5
     ·have o4':(e.oc == 4)=false:=by simp[o4]
      have o5':(e.oc == 5)=true:=by simp[o5]
      obtain⟨HO4,HO5⟩:=Qmj o4 o5;clear o4 o5;have HD5:Hid (QcA s e=if e.ac.kind=3 then s2.shiftAt t e.ac.ra e.ac.rb (wrap64 (-e.ac.rd)) else if e.ac.kind=4 then (s2.shiftAt t e.ac.ra e.ac.rb (wrap64 (-e.ac.rd))).shiftAt e.ac.to.toNat e.ac.ra e.ac.rb e.ac.rd else if e.ac.kind=5 then (e.ac.rights.xs.foldl (fun s x=>s.shiftAt t x.a x.b (wrap64 (-x.n))) s2).setOw t false else s2):=by show _=_;rw[HD.out,if_neg (show ¬ ¬e.oc=5 from fun h=>h HO5.out),if_neg HO4.out]
      by_cases k3:e.ac.kind=3
      ·have k3':(e.ac.kind == 3)=true:=by simp[k3]
       have HK3:=Qaa k3;clear k3;go_upto_region 27 with (first | (go_at_call 166;refine(Qcu w5 B s _ HE5.out.own HE5.out.same t (HE5.out.same.rgH HG.out.th) e.ac.ra e.ac.rb (wrap64 (-e.ac.rd)) (HE5.out.same.rgT (HG.out.right (Or.inr ⟨HO5.out,Or.inl HK3.out⟩)))).mono ?_;rintro e1 w6 ⟨rfl,hO,hS,hM⟩;have Hw6:Hid (EfW B s _ w3 w6):=⟨hO,hS,HE5.out.mt.trans hM⟩;have HM5w6:Hid (Mut B w5 w6):=HMF.out.trans hM;clear c0 c1 c2 c3 c4 c5 a0 a1 a2 a3 a4 a5 a6 a7 a8 a9 a10 a11 a12 a13 a14 e16 e17 e18 e19 g0 g1 g2 hO hS hM;obtain⟨c0,c1,c2,c3,c4,c5,a0,a1,a2,a3,a4,a5,a6,a7,a8,a9,a10,a11,a12,a13,a14,e16,e17,e18,e19⟩:=HX.out w6 Hw6.out.mt;obtain⟨g0,g1,g2⟩:=HX5.out w6 HM5w6.out) | fail);obtain⟨hS,hR,hO,hM⟩:=Qdm (s:=s) (HM0.out.trans Hw6.out.mt) hB (HZ3.out _ Hw6.out.mt) Hw6.out.own;obtain⟨HSt,HR,HO,HM⟩:=hd4 hS hR hO hM;clear hS hR hO hM;go_wp2_with (first | ((with_reducible refine gsq 42 4 ?_);refine Z.lp_store (t:=42) (x:=.tmp 4) (some ⟨w.heap.size+1+1,0,none⟩) (.agg (qS s)) rfl rfl HSt.out ?_))
       refine bq rfl rfl HR.out Tryz.underlying42 rfl Tryz.sizeS rfl ?_;have HDv:Hid (QcA s e=s2.shiftAt t e.ac.ra e.ac.rb (wrap64 (-e.ac.rd))):=by show _=_;rw[HD5.out,if_pos HK3.out]
       exact⟨rfl,by rw[HDv.out];exact HO.out,by rw[HDv.out];exact Hw6.out.same,HM.out⟩
      by_cases k4:e.ac.kind=4
      ·have k3':(e.ac.kind == 3)=false:=by simp[k4]
       have k4':(e.ac.kind == 4)=true:=by simp[k4]
       obtain⟨HK3,HK4⟩:=Qmj k3 k4;clear k3 k4;obtain⟨t2,ht2,hth2⟩:=HG.out.dest HO5.out HK4.out;obtain⟨HT2,HTh2⟩:=Qmj ht2 hth2;clear ht2 hth2
       have HSt2:Hid (∀W s',Qac B W s'→Qbv s s'→Calls Tryz.prog 166 #[.agg (qS s),.int .i64 e.ac.to,.int .i64 e.ac.ra,.int .i64 e.ac.rb,.int .i64 e.ac.rd] W fun e1 w'=>e1=.returned (.tuple #[])∧Qac B w' (s'.shiftAt e.ac.to.toNat e.ac.ra e.ac.rb e.ac.rd)∧Qbv s (s'.shiftAt e.ac.to.toNat e.ac.ra e.ac.rb e.ac.rd)∧Mut B W w'):=fun W s' ho hs=>by
        have h:=Qcu W B s s' ho hs t2 (hs.rgH HTh2.out) e.ac.ra e.ac.rb e.ac.rd (hs.rgT (HG.out.right (Or.inr ⟨HO5.out,Or.inr HK4.out⟩)));rw[←HT2.out]at h;rw[HT2.out,Vv,←HT2.out];exact h
       go_upto_region 20 with (first | (go_at_call 166;refine(Qcu w5 B s _ HE5.out.own HE5.out.same t (HE5.out.same.rgH HG.out.th) e.ac.ra e.ac.rb (wrap64 (-e.ac.rd)) (HE5.out.same.rgT (HG.out.right (Or.inr ⟨HO5.out,Or.inr HK4.out⟩)))).mono ?_;rintro e1 w6 ⟨rfl,hO,hS,hM⟩;have Hw6:Hid (EfW B s _ w3 w6):=⟨hO,hS,HE5.out.mt.trans hM⟩;have HM5w6:Hid (Mut B w5 w6):=HMF.out.trans hM;clear c0 c1 c2 c3 c4 c5 a0 a1 a2 a3 a4 a5 a6 a7 a8 a9 a10 a11 a12 a13 a14 e16 e17 e18 e19 g0 g1 g2 hO hS hM;obtain⟨c0,c1,c2,c3,c4,c5,a0,a1,a2,a3,a4,a5,a6,a7,a8,a9,a10,a11,a12,a13,a14,e16,e17,e18,e19⟩:=HX.out w6 Hw6.out.mt;obtain⟨g0,g1,g2⟩:=HX5.out w6 HM5w6.out) | fail);go_upto_region 27 with (first | (go_at_call 166;refine(HSt2.out w6 _ Hw6.out.own Hw6.out.same).mono ?_;rintro e1 w7 ⟨rfl,hO,hS,hM⟩;have Hw7:Hid (EfW B s _ w3 w7):=⟨hO,hS,Hw6.out.mt.trans hM⟩;have HM5w7:Hid (Mut B w5 w7):=HM5w6.out.trans hM;clear c0 c1 c2 c3 c4 c5 a0 a1 a2 a3 a4 a5 a6 a7 a8 a9 a10 a11 a12 a13 a14 e16 e17 e18 e19 g0 g1 g2 hO hS hM;obtain⟨c0,c1,c2,c3,c4,c5,a0,a1,a2,a3,a4,a5,a6,a7,a8,a9,a10,a11,a12,a13,a14,e16,e17,e18,e19⟩:=HX.out w7 Hw7.out.mt;obtain⟨g0,g1,g2⟩:=HX5.out w7 HM5w7.out) | fail);obtain⟨hS,hR,hO,hM⟩:=Qdm (s:=s) (HM0.out.trans Hw7.out.mt) hB (HZ3.out _ Hw7.out.mt) Hw7.out.own;obtain⟨HSt,HR,HO,HM⟩:=hd4 hS hR hO hM;clear hS hR hO hM;go_wp2_with (first | ((with_reducible refine gsq 42 4 ?_);refine Z.lp_store (t:=42) (x:=.tmp 4) (some ⟨w.heap.size+1+1,0,none⟩) (.agg (qS s)) rfl rfl HSt.out ?_))
       refine bq rfl rfl HR.out Tryz.underlying42 rfl Tryz.sizeS rfl ?_;have HDv:Hid (QcA s e=(s2.shiftAt t e.ac.ra e.ac.rb (wrap64 (-e.ac.rd))).shiftAt e.ac.to.toNat e.ac.ra e.ac.rb e.ac.rd):=by show _=_;rw[HD5.out,if_neg HK3.out,if_pos HK4.out]
       exact⟨rfl,by rw[HDv.out];exact HO.out,by rw[HDv.out];exact Hw7.out.same,HM.out⟩
      by_cases k5:e.ac.kind=5
      ·have k3':(e.ac.kind == 3)=false:=by simp[k5]
       have k4':(e.ac.kind == 4)=false:=by simp[k5]
       have k5':(e.ac.kind == 5)=true:=by simp[k5]
       obtain⟨HK3,HK4,HK5⟩:=Qmk k3 k4 k5;clear k3 k4 k5;have hrl:=H0.out.ac.rights.most;have HRg:=Qaa (HG.out.rights HO5.out HK5.out);go_wp2_with fail
       clear c0 c1 c2 c3 c4 c5 a0 a1 a2 a3 a4 a5 a6 a7 a8 a9 a10 a11 a12 a13 a14 e16 e17 e18 e19 g0 g1 g2;go_loopw [9] (fun i wr=>∃j:Nat,j≤e.ac.rights.n∧i=.int .i64 j∧Hid (EfW B s ((e.ac.rights.xs.take j).foldl (fun s x=>s.shiftAt t x.a x.b (wrap64 (-x.n))) s2) w3 wr)) (fun i _=>e.ac.rights.n - (intOf i).toNat);case atStart=>exact⟨0,Vo _,rfl,HE5⟩
       case round =>
        clear HE HE5;obtain⟨j,hj,rfl,HE⟩:=hrel;obtain⟨c0,c1,c2,c3,c4,c5,a0,a1,a2,a3,a4,a5,a6,a7,a8,a9,a10,a11,a12,a13,a14,e16,e17,e18,e19⟩:=HX.out wr HE.out.mt;by_cases hlt:j<e.ac.rights.n
        ·have hlt':(j:Int)<(e.ac.rights.n:Int):=by omega
         have j0':(0:Int)≤(j:Int):=by omega
         obtain⟨x,hx⟩:∃x,e.ac.rights.xs[j]?=some x:=⟨_,gE (by rw[H0.out.ac.rights.len];exact hlt)⟩;obtain⟨b,o,eb,hbl,-⟩:=H0.out.ac.rights.cel.get (i:=j) (r:=Qar x) (by rw[Vb,hx];rfl);have hrx:=HE.out.same.rgT (HRg.out x (mG hx));have HTk:Hid ((e.ac.rights.xs.take (j+1)).foldl (fun s x=>s.shiftAt t x.a x.b (wrap64 (-x.n))) s2=((e.ac.rights.xs.take j).foldl (fun s x=>s.shiftAt t x.a x.b (wrap64 (-x.n))) s2).shiftAt t x.a x.b (wrap64 (-x.n))):=by show _=_;rw[Z.take_snoc hx,List.foldl_append];rfl
         generalize (e.ac.rights.xs.take j).foldl (fun s x=>s.shiftAt t x.a x.b (wrap64 (-x.n))) s2=s3 at HE HTk hrx
         have HL:Hid (∀W,Mut B w3 W→W.cell? ⟨b,o+j*3,none⟩=some (.int .i64 x.a)∧W.cell? ⟨b,o+j*3+1,none⟩=some (.int .i64 x.b)∧W.cell? ⟨b,o+j*3+2,none⟩=some (.int .i64 x.n)):=fun W hm=>by
           obtain⟨b2,o2,eb2,_,hcl2⟩:=(HEd.out W (HM0.out.trans hm).bel).ac.rights.cel.get (i:=j) (r:=Qar x) (by rw[Vb,hx];rfl);rw[eb]at eb2;cases eb2;exact⟨hcl2 0 _ rfl,hcl2 1 _ rfl,hcl2 2 _ rfl⟩
         have HK:Hid (∀W,Mut B w3 W→W.cell? ⟨w.heap.size+1+1+1,14,none⟩=some (.slice (some ⟨b,o,none⟩) e.ac.rights.n e.ac.rights.c)):=fun W hm=>by obtain⟨c0,c1,c2,c3,c4,c5,a0,a1,a2,a3,a4,a5,a6,a7,a8,a9,a10,a11,a12,a13,a14,e16,e17,e18,e19⟩:=HX.out W hm;rw[eb]at a14;exact a14
         have HSh:=Qaa (Qcu wr.drew B s s3 HE.out.drew.own HE.out.same t (HE.out.same.rgH HG.out.th) x.a x.b (wrap64 (-x.n)) hrx);obtain⟨xa,xb,xn⟩:=x;simp only at HSh HTk HL;obtain⟨m,hm⟩:=exq (wrap64 (-xn));have hmw:IntKind.i64.wrap (-xn)=m:=by rw[←hm];exact Qaq _
         rw[hm]at HSh HTk;obtain⟨l0,l1,l2⟩:=HL.out wr HE.out.mt;clear a14;have a14:=HK.out wr HE.out.mt;have HMd:=Qaa HE.out.drew.mt;clear hx eb hrx hm;go_upto_region 25 with (fail);go_region_held3 (fun W=>W.cell? ⟨w.heap.size,0,none⟩=some (.int .u64 s.pos)∧W.cell? ⟨w.heap.size,1,none⟩=some (.slice s.pp s.pn s.pc)∧W.cell? ⟨w.heap.size,2,none⟩=some (.slice s.rp s.rn s.rc)∧W.cell? ⟨w.heap.size,3,none⟩=some (.slice s.lp s.ln s.lc)∧W.cell? ⟨w.heap.size,4,none⟩=some (.slice s.gp s.gn s.gc)∧W.cell? ⟨w.heap.size,5,none⟩=some (.slice s.op s.on s.oc)∧W.cell? ⟨w.heap.size+1+1+1,0,none⟩=some (.int .i64 t)∧W.cell? ⟨w.heap.size+1+1+1,14,none⟩=some (.slice (some ⟨b,o,none⟩) e.ac.rights.n e.ac.rights.c)∧W.cell? ⟨b,o+j*3,none⟩=some (.int .i64 xa)∧W.cell? ⟨b,o+j*3+1,none⟩=some (.int .i64 xb)∧W.cell? ⟨b,o+j*3+2,none⟩=some (.int .i64 xn)) (go_keep) (first | (go_at_call 166;refine HSh.out.mono ?_;rintro e1 w6 ⟨rfl,hO6,hS6,hM6⟩;have HE6:Hid (EfW B s _ w3 w6):=⟨hO6,hS6,HMd.out.trans hM6⟩;clear c0 c1 c2 c3 c4 c5 a0 a1 a2 a3 a4 a5 a6 a7 a8 a9 a10 a11 a12 a13 a14 e16 e17 e18 e19 l0 l1 l2 hO6 hS6 hM6;obtain⟨c0,c1,c2,c3,c4,c5,a0,a1,a2,a3,a4,a5,a6,a7,a8,a9,a10,a11,a12,a13,a14,e16,e17,e18,e19⟩:=HX.out w6 HE6.out.mt;clear a14;have a14:=HK.out w6 HE6.out.mt;obtain⟨l0,l1,l2⟩:=HL.out w6 HE6.out.mt) | fail);go_wp2;go_roundw;case rel=>exact⟨j+1,by omega,by go_num,by rw[HTk.out];exact HE6⟩
         case measure=>simp[intOf];omega
        ·have hlt':¬(j:Int)<(e.ac.rights.n:Int):=by omega
         obtain rfl:j=e.ac.rights.n:=by omega
         have HM1:Hid (e.ac.rights.xs.take e.ac.rights.n=e.ac.rights.xs):=Vh (by rw[H0.out.ac.rights.len];omega);rw[HM1.out]at HE;obtain⟨s3,hs3⟩:∃s3,e.ac.rights.xs.foldl (fun s x=>s.shiftAt t x.a x.b (wrap64 (-x.n))) s2=s3:=⟨_,rfl⟩;rw[hs3]at HE;have HS3:=Qaa hs3;clear hs3 HM1 hlt hj;have hon:=HE.out.same.on;have hto:t<s3.on:=by rw[hon];exact HG.out.owed HO5.out HK5.out
         obtain⟨q,hq⟩:∃q,s3.owed[t]?=some q:=⟨_,gE (by rw[HE.out.own.on];exact hto)⟩;obtain⟨go,ego,hgoB,⟨Co,hCo⟩,hfo,hco,hsto⟩:=HE.out.own.setO hq;rw[HE.out.same.slices.2.2.2.2]at ego;have q1:(t:Int)<(s.on:Int):=by omega
         have q0:(0:Int)≤(t:Int):=by omega
         have fo:=hfo t;have HEO:Hid (s.op=some ⟨go,0,none⟩):=ego;have c5o:=c5;rw[ego]at c5o;clear c5;have HF:Hid (EfW B s (s3.setOw t false) w3 (wr.setCell ⟨go,t,none⟩ (.bool false))):=HE.out.by (hsto false) (HE.out.same.trans ⟨rfl,rfl,rfl,rfl,fun _=>rfl⟩) ((Mut.refl B wr).set hCo (Or.inr (Or.inr (Or.inr (Or.inr rfl)))) hgoB _ _);clear hon hto hq hCo hfo hsto ego;go_upto_region 27 with (fail);obtain⟨w8,hw8⟩:=exq (wr.setCell ⟨go,t,none⟩ (.bool false));rw[hw8]at HF ⊢;clear hw8 fo hco c0 c1 c2 c3 c4 a0 a1 a2 a3 a4 a5 a6 a7 a8 a9 a10 a11 a12 a13 a14 e16 e17 e18 e19 c5o;obtain⟨c0,c1,c2,c3,c4,c5,a0,a1,a2,a3,a4,a5,a6,a7,a8,a9,a10,a11,a12,a13,a14,e16,e17,e18,e19⟩:=HX.out w8 HF.out.mt;obtain⟨hS,hR,hO,hM⟩:=Qdm (s:=s) (HM0.out.trans HF.out.mt) hB (HZ3.out _ HF.out.mt) HF.out.own;obtain⟨HSt,HR,HO,HM⟩:=hd4 hS hR hO hM;clear hS hR hO hM;go_wp2_with (first | ((with_reducible refine gsq 42 4 ?_);refine Z.lp_store (t:=42) (x:=.tmp 4) (some ⟨w.heap.size+1+1,0,none⟩) (.agg (qS s)) rfl rfl HSt.out ?_))
         refine bq rfl rfl HR.out Tryz.underlying42 rfl Tryz.sizeS rfl ?_;have HDv:Hid (QcA s e=(e.ac.rights.xs.foldl (fun s x=>s.shiftAt t x.a x.b (wrap64 (-x.n))) s2).setOw t false):=by show _=_;rw[HD5.out,if_neg HK3.out,if_neg HK4.out,if_pos HK5.out]
         exact⟨rfl,by rw[HDv.out,HS3.out];exact HO.out,by rw[HDv.out,HS3.out];exact HF.out.same,HM.out⟩
      have k3':(e.ac.kind == 3)=false:=by simp[k3]
      have k4':(e.ac.kind == 4)=false:=by simp[k4]
      have k5':(e.ac.kind == 5)=false:=by simp[k5]
      obtain⟨HK3,HK4,HK5⟩:=Qmk k3 k4 k5;clear k3 k4 k5;go_upto_region 27 with (fail);obtain⟨hS,hR,hO,hM⟩:=Qdm (s:=s) (HM0.out.trans HE5.out.mt) hB (HZ3.out _ HE5.out.mt) HE5.out.own;obtain⟨HSt,HR,HO,HM⟩:=hd4 hS hR hO hM;clear hS hR hO hM;go_wp2_with (first | ((with_reducible refine gsq 42 4 ?_);refine Z.lp_store (t:=42) (x:=.tmp 4) (some ⟨w.heap.size+1+1,0,none⟩) (.agg (qS s)) rfl rfl HSt.out ?_))
      refine bq rfl rfl HR.out Tryz.underlying42 rfl Tryz.sizeS rfl ?_;have HDv:Hid (QcA s e=s2):=by show _=_;rw[HD5.out,if_neg HK3.out,if_neg HK4.out,if_neg HK5.out]
      exact⟨rfl,by rw[HDv.out];exact HO.out,by rw[HDv.out];exact HE5.out.same,HM.out⟩
     have o4':(e.oc == 4)=false:=by simp[o4]
     have o5':(e.oc == 5)=false:=by simp[o5]
     obtain⟨HO4,HO5⟩:=Qmj o4 o5;clear o4 o5;go_upto_region 14 with (fail);obtain⟨hS,hR,hO,hM⟩:=Qdm (s:=s) (HM0.out.trans HE5.out.mt) hB (HZ3.out _ HE5.out.mt) HE5.out.own;obtain⟨HSt,HR,HO,HM⟩:=hd4 hS hR hO hM;clear hS hR hO hM;go_wp2_with (first | ((with_reducible refine gsq 42 4 ?_);refine Z.lp_store (t:=42) (x:=.tmp 4) (some ⟨w.heap.size+1+1,0,none⟩) (.agg (qS s)) rfl rfl HSt.out ?_))
     refine bq rfl rfl HR.out Tryz.underlying42 rfl Tryz.sizeS rfl ?_;have HDv:Hid (QcA s e=s2):=by show _=_;rw[HD.out,if_pos HO5.out,if_neg HO4.out]
     exact⟨rfl,by rw[HDv.out];exact HO.out,by rw[HDv.out];exact HE5.out.same,HM.out⟩
end Go.Proofs.YtiogibfhafoapaaGreat
