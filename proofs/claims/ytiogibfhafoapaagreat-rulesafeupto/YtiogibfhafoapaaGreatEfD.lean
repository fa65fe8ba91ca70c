import Derived.Test.YtiogibfhafoapaaGreatFoA
import Derived.Test.YtiogibfhafoapaaGreatDdB
import Derived.Test.YtiogibfhafoapaaGreatRwK
import Derived.Test.YtiogibfhafoapaaGreatTk
import Derived.Test.YtiogibfhafoapaaGreatAbA
set_option maxRecDepth 100000
set_option maxHeartbeats 8000000
set_option linter.unusedSimpArgs false
set_option linter.unusedVariables false
namespace Go.Proofs.YtiogibfhafoapaaGreat
open Go.RowKit
open Z (Sli QaE Elt)
def Qku (t:TypeId):Prop:=t=121∨t=118∨t=123∨t=36∨t=4
structure Mut (B:Nat) (W W':World):Prop where
 bel:Below B W W'
 keep:∀(k:Nat) (A:Array Value) (t:TypeId),W.heap[k]?=some (.cells A t (0,0))→¬Qku t→W'.heap[k]?=some (.cells A t (0,0))
theorem Mut.refl (B:Nat) (W:World):Mut B W W:=⟨bR,fun _ _ _ h _=>h⟩
theorem Mut.trans {B:Nat} {W W1 W2:World} (h:Mut B W W1) (h2:Mut B W1 W2):Mut B W W2:=⟨h.bel.trans h2.bel,fun k A t hk ht=>h2.keep k A t (h.keep k A t hk ht) ht⟩
theorem Mut.of {B:Nat} {W W':World} (hb:Below W.heap.size W W') (hB:B≤W.heap.size):Mut B W W':=⟨hb.mono hB,fun k _ _ hk _=>(hb.block k (Qab hk)).trans hk⟩
theorem Mut.set {B:Nat} {W W':World} (h:Mut B W W') {g:Nat} {C:Array Value} {t:TypeId} (hg:W'.heap[g]?=some (.cells C t (0,0))) (ht:Qku t) (hB:B≤g) (i:Nat) (v:Value):Mut B W (W'.setCell ⟨g,i,none⟩ v) :=
 ⟨h.bel.setCell (p:=⟨g,i,none⟩) hB v,fun k A t' hk ht'=>by
  have hk':=h.keep k A t' hk ht';rw[Ve _ _ _ _ (by show k≠g;rintro rfl;rw[hk']at hg;cases hg;exact ht' ht)];exact hk'⟩
theorem Mut.drew {B:Nat} {W W':World} (h:Mut B W W'):Mut B W W'.drew:=⟨h.bel.drew,h.keep⟩
theorem Mut.size {B:Nat} {W W':World} (h:Mut B W W'):W.heap.size≤W'.heap.size:=h.bel.size
theorem Mut.cell {B:Nat} {W W':World} (h:Mut B W W') {k:Nat} {A:Array Value} {t:TypeId} (hk:W.heap[k]?=some (.cells A t (0,0))) (ht:¬Qku t):W'.heap[k]?=some (.cells A t (0,0)):=h.keep k A t hk ht
def Sta.upP (s:Sta) (k:Nat) (P:Pl):Sta:={ s with pools:=s.pools.set k P }
theorem Qcs {s:Sta} {k:Nat} {P P':Pl} (hP:s.pools[k]?=some P):∀{i:Nat} {x:Pl},(s.upP k P').pools[i]?=some x→(i≠k∧s.pools[i]?=some x)∨(i=k∧x=P'):=fun {i x} hx=>by
 have hk:=(Vd.1 hP).1;unfold Sta.upP at hx;simp only at hx;by_cases h:k=i
 ·subst h
  rw[Vn hk]at hx;exact Or.inr ⟨rfl,(Option.some.inj hx).symm⟩
 ·rw[VR h]at hx
  exact Or.inl ⟨fun e=>h e.symm,hx⟩
theorem Qfz {s:Sta} {k:Nat} {P P':Pl} (hP:s.pools[k]?=some P) (hh:P'.hv=P.hv) (ha:∀(i j:Nat) (x y:Pl),s.pools[i]?=some x→s.pools[j]?=some y→i≠j→∀g,x.hv.ownBlock=some g→y.hv.ownBlock≠some g):∀(i j:Nat) (x y:Pl),(s.upP k P').pools[i]?=some x→(s.upP k P').pools[j]?=some y→i≠j→∀g,x.hv.ownBlock=some g→y.hv.ownBlock≠some g:=fun i j x y hx hy hij g hg=>by
 rcases Qcs hP hx with ⟨h1,h2⟩ | ⟨rfl,rfl⟩
 ·rcases Qcs hP hy with ⟨h3,h4⟩ | ⟨rfl,rfl⟩
  ·exact ha i j x y h2 h4 hij g hg
  ·rw[hh];exact ha i _ x P h2 hP hij g hg
 ·rcases Qcs hP hy with ⟨h3,h4⟩ | ⟨rfl,rfl⟩
  ·rw[hh]at hg;exact ha _ j P y hP h4 hij g hg
  ·exact absurd rfl hij
theorem Qdu {s:Sta} {k:Nat} {P' x:Pl} (h:x∈(s.upP k P').pools):x∈s.pools∨x=P':=List.mem_or_eq_of_mem_set h
theorem Qii {α:Type} {f:α→List Value} {xs:List α} {k:Nat} {x x':α} (hx:xs[k]?=some x) (e:f x'=f x):Z.flat f (xs.set k x')=Z.flat f xs:=by
 have h:(xs.set k x').map f=xs.map f:=by
  rw[List.map_set,e];apply List.ext_getElem?;intro i;by_cases h:k=i
  ·subst h;rw[Vn (by rw[VG];exact(Vd.1 hx).1),Vb,hx];rfl
  ·rw[VR h]
 show (xs.set k x').flatMap f=xs.flatMap f;rw[List.flatMap_def,List.flatMap_def,h]
theorem QbH {W:World} {B n c:Nat} {k:Nat} {t:TypeId} {p:Option Addr} {ys:List Value} {v:Value} (h:W.ownsRow B t k (.slice p n c) n ys) {i:Nat} (hv:ys[i]?=some v):∃g,p=some ⟨g,0,none⟩∧B≤g∧(∃C,W.heap[g]?=some (.cells C t (0,0)))∧(∀j,W.frozen? ⟨g,j,none⟩=false)∧W.cell? ⟨g,i,none⟩=some v:=by
 obtain⟨g,e,_,q⟩:=row_cell h hv;subst e;obtain⟨C,hC⟩:=Qf9 h (g:=g) rfl;exact⟨g,rfl,Z.owns_base h g rfl,⟨C,hC⟩,fun j=>VN _ _ _ _ _ hC,q⟩
theorem Qac.setP {B:Nat} {W:World} {s:Sta} (h:Qac B W s) {k:Nat} {P:Pl} (hP:s.pools[k]?=some P):∃g,s.pp=some ⟨g,0,none⟩∧B≤g∧(∃C,W.heap[g]?=some (.cells C 121 (0,0)))∧(∀j,W.frozen? ⟨g,j,none⟩=false)∧(∀j v,(plc P)[j]?=some v→W.cell? ⟨g,k*4+j,none⟩=some v) ∧
  ∀(j:Nat) (P':Pl) (v:Value),j<4→plc P'=(plc P).set j v→P'.hs=P.hs→P'.hp=P.hp→P'.hl=P.hl→P'.hc=P.hc→Qac B (W.setCell ⟨g,k*4+j,none⟩ v) (s.upP k P'):=by
 obtain⟨g,e,hB,⟨C,hC⟩,hf,_⟩:=QbH h.pools (QaF (f:=plc) (sz:=4) (fun _=>rfl) s.pools k 0 P _ hP rfl);refine⟨g,e,hB,⟨C,hC⟩,hf,fun j v hv=>?_,fun j P' v hj he h1 h2 h3 h4=>?_⟩
 ·obtain⟨g',e',_,_,_,q⟩:=QbH h.pools (QaF (f:=plc) (sz:=4) (fun _=>rfl) s.pools k j P v hP hv)
  rw[e]at e';cases e';exact q
 ·have hh:P'.hv=P.hv:=by unfold Pl.hv;rw[h2,h3,h4]
  have K:∀(B' k' n':Nat) (t:TypeId) (u:Value) (ys:List Value),W.ownsRow B' t k' u n' ys→121≠t→(W.setCell ⟨g,k*4+j,none⟩ v).ownsRow B' t k' u n' ys:=fun B' k' n' t u ys hr ht=>Z.owns_set hr hC ht
  refine⟨by unfold Sta.upP;simp only[VP];exact h.pn,?_,fun x hx=>?_,fun x hx=>?_,Qfz hP hh h.apart,h.rn,K _ _ _ _ _ _ h.prices (by decide),h.ln,K _ _ _ _ _ _ h.last (by decide),h.gn,K _ _ _ _ _ _ h.gen (by decide),h.on,K _ _ _ _ _ _ h.owed (by decide),h.lg⟩
  ·have h0:=h.pools
   rw[e]at h0;have h5:=Qbm (k:=k*4+j) h0 v;rw[QbC (f:=plc) (sz:=4) (fun _=>rfl) s.pools k j P P' v hP hj he,←e]at h5;exact h5
  ·rcases Qdu hx with hx | rfl
   ·exact h.hlen x hx
   ·rw[h1,h3];exact h.hlen P (mG hP)
  ·rcases Qdu hx with hx | rfl
   ·exact K _ _ _ _ _ _ (h.held x hx) (by decide)
   ·rw[hh,h1,h3];exact K _ _ _ _ _ _ (h.held P (mG hP)) (by decide)
theorem Qac.setH {B:Nat} {W:World} {s:Sta} (h:Qac B W s) {k t:Nat} {P:Pl} {l:Lin} (hP:s.pools[k]?=some P) (hl:P.hs[t]?=some l):∃g,P.hp=some ⟨g,0,none⟩∧B≤g∧(∃C,W.heap[g]?=some (.cells C 118 (0,0)))∧(∀j,W.frozen? ⟨g,j,none⟩=false)∧(∀j v,(Qal l)[j]?=some v→W.cell? ⟨g,t*2+j,none⟩=some v) ∧
  ∀(j:Nat) (l':Lin) (v:Value),j<2→Qal l'=(Qal l).set j v→Qac B (W.setCell ⟨g,t*2+j,none⟩ v) (s.upP k { P with hs:=P.hs.set t l' }):=by
 have hR:=h.held P (mG hP);obtain⟨g,e,hB,⟨C,hC⟩,hf,_⟩:=QbH hR (QaF (f:=Qal) (sz:=2) (fun _=>rfl) P.hs t 0 l _ hl rfl);refine⟨g,e,hB,⟨C,hC⟩,hf,fun j v hv=>?_,fun j l' v hj he=>?_⟩
 ·obtain⟨g',e',_,_,_,q⟩:=QbH hR (QaF (f:=Qal) (sz:=2) (fun _=>rfl) P.hs t j l v hl hv)
  rw[e]at e';cases e';exact q
 ·have hg:P.hv.ownBlock=some g:=by unfold Pl.hv;rw[e];rfl
  have K:∀(B' k' n':Nat) (t':TypeId) (u:Value) (ys:List Value),W.ownsRow B' t' k' u n' ys→118≠t'→(W.setCell ⟨g,t*2+j,none⟩ v).ownsRow B' t' k' u n' ys:=fun B' k' n' t' u ys hr ht=>Z.owns_set hr hC ht
  refine⟨by unfold Sta.upP;simp only[VP];exact h.pn,?_,fun x hx=>?_,fun x hx=>?_,Qfz (P':={ P with hs:=P.hs.set t l' }) hP rfl h.apart,h.rn,K _ _ _ _ _ _ h.prices (by decide),h.ln,K _ _ _ _ _ _ h.last (by decide),h.gn,K _ _ _ _ _ _ h.gen (by decide),h.on,K _ _ _ _ _ _ h.owed (by decide),h.lg⟩
  ·show World.ownsRow _ _ _ _ _ _ (Z.flat plc (s.pools.set k _))
   rw[Qii (f:=plc) (x:=P) (x':={ P with hs:=P.hs.set t l' }) hP rfl];exact K _ _ _ _ _ _ h.pools (by decide)
  ·rcases Qdu hx with hx | rfl
   ·exact h.hlen x hx
   ·simp only[VP];exact h.hlen P (mG hP)
  ·obtain⟨i,hi⟩:=List.mem_iff_getElem?.1 hx
   rcases Qcs (P':={ P with hs:=P.hs.set t l' }) hP hi with ⟨h1,h2⟩ | ⟨rfl,rfl⟩
   ·have hx':=h.held x (mG h2)
    exact Z.owns_grown hx' (Z.set_grown W g _ v) (fun g' e' e2=>by cases e2;exact h.apart k i P x hP h2 (fun e3=>h1 e3.symm) g hg e')
   ·have h0:=hR
    unfold Pl.hv at h0 ⊢;rw[e]at h0;have h5:=Qbm (k:=t*2+j) h0 v;rw[QbC (f:=Qal) (sz:=2) (fun _=>rfl) P.hs t j l l' v hl hj he]at h5;simp only;rw[e];exact h5
end Go.Proofs.YtiogibfhafoapaaGreat
namespace Go.Proofs.YtiogibfhafoapaaGreat
open Go.RowKit
open Z (Sli QaE Acd Qad Elt)
def Pl.shift (P:Pl) (t:Nat) (w:Int) (n:Int):Pl :=
 if w=0 then { P with f0:=wrap64 (P.f0 - n),hs:=P.hs.set t ⟨wrap64 ((P.hs[t]?.getD ⟨0,0⟩).c+n),(P.hs[t]?.getD ⟨0,0⟩).n⟩ }
 else { P with f1:=wrap64 (P.f1 - n),hs:=P.hs.set t ⟨(P.hs[t]?.getD ⟨0,0⟩).c,wrap64 ((P.hs[t]?.getD ⟨0,0⟩).n+n)⟩ }
theorem Qj1 (w:World) (B:Nat) (s:Sta) (hs:Qac B w s) (t k:Nat) (n:Int) (P:Pl) (hP:s.pools[k]?=some P) (l:Lin) (hl:P.hs[t]?=some l) :
  Calls Tryz.prog 166 #[.agg (qS s),.int .i64 t,.int .i64 k,.int .i64 0,.int .i64 n] w fun e w'=>e=.returned (.tuple #[])∧Qac B w' (s.upP k (P.shift t 0 n))∧Mut B w w':=by
 obtain⟨w2,hw2,hb2,hx2⟩:=Qag w (qS s) 42;have HW2:=Qaa hw2;have hs2:=hs.below hb2;obtain⟨g,eg,hgB,⟨C,hC⟩,hf,hc,hst⟩:=hs2.setP hP;obtain⟨gh,egh,hghB,⟨Ch,hCh⟩,hfh,hch,-⟩:=hs2.setH hP hl;have hlt:=Qab hx2;have hgl:g<w.heap.size:=by obtain⟨g2,e2,_,⟨C2,hC2⟩,_⟩:=hs.setP hP;rw[eg]at e2;cases e2;exact Qab hC2
 have hghl:gh<w.heap.size:=by obtain⟨g2,e2,_,⟨C2,hC2⟩,_⟩:=hs.setH hP hl;rw[egh]at e2;cases e2;exact Qab hC2
 obtain⟨c0,c1,c2,c3,c4,c5⟩:=ac6 hx2;rw[eg]at c1;have k1:(k:Int)<(s.pn:Int):=by have:=(Vd.1 hP).1;have:=hs.pn;omega
 have k0:(0:Int)≤(k:Int):=by omega
 have t1:(t:Int)<(P.hl:Int):=by have:=(Vd.1 hl).1;have:=hs.hlen P (mG hP);omega
 have t0:(0:Int)≤(t:Int):=by omega
 obtain⟨v0,hv0⟩:=exq (wrap64 (P.f0 - n));obtain⟨v1,hv1⟩:=exq (wrap64 (l.c+n));have hu0:IntKind.i64.wrap (P.f0 - n)=v0:=by rw[←hv0];exact Qaq _
 have hu1:IntKind.i64.wrap (l.c+n)=v1:=by rw[←hv1];exact Qaq _
 have f0:=hc 1 _ rfl;have fz:=hf (k*4+1);have hne:¬g=w.heap.size:=by omega
 have hne2:¬gh=w.heap.size:=by omega
 have hne3:¬gh=g:=by rintro rfl;rw[hC]at hCh;cases hCh
 have HS1:=Qaa ((hst 1 { P with f0:=v0 } (.int .i64 v0) (by omega) rfl rfl rfl rfl rfl).below (bR.drew));have HM1:Hid (Mut B w (w2.setCell ⟨g,k*4+1,none⟩ (.int .i64 v0)).drew):=(((Mut.of (hb2.mono (Va _)) (by omega)).set hC (Or.inl rfl) hgB _ _).drew);have hP1:(s.upP k { P with f0:=v0 }).pools[k]?=some { P with f0:=v0 }:=Vn (Vd.1 hP).1;have HX1:Hid ((w2.setCell ⟨g,k*4+1,none⟩ (.int .i64 v0)).drew.heap[w.heap.size]?=some (.cells (qS s) 42 (0,0))):=by show (w2.setCell ⟨g,k*4+1,none⟩ (.int .i64 v0)).heap[w.heap.size]?=_;rw[Ve _ _ _ _ (by show w.heap.size≠g;omega)];exact hx2
 have HFin:Hid (P.shift t 0 n={ { P with f0:=v0 } with hs:=P.hs.set t ⟨v1,l.n⟩ }):=by show _=_;unfold Pl.shift;rw[hv0,hl];simp only[Option.getD_some];rw[hv1];rfl
 have HUp:Hid ((s.upP k { P with f0:=v0 }).upP k (P.shift t 0 n)=s.upP k (P.shift t 0 n)):=by show _=_;unfold Sta.upP;simp only[List.set_set]
 obtain⟨HL,HEg,HEgh⟩:=Qmk hl eg egh;clear hw2 hb2 hx2 hs hs2 hst hc hch hf hfh hC hCh hlt hv0 hv1 hgl hghl eg egh;go_enter Tryz.func166,Tryz.ntmps166;go_upto_region 1 with (fail);rw[HW2.out];refine Vi ?_;refine Vf (S:=(fun w'=>w'.cell? ⟨w.heap.size,1,none⟩=some (.slice (some ⟨g,0,none⟩) s.pn s.pc))) (by kernel_rfl) (by go_keep) (fun hHeld=>?_);refine tkk 0 ?_;refine tkk 1 ?_;refine tkk 2 ?_;refine tkk 3 ?_;refine tkk 4 ?_;refine tkk 5 ?_;refine tkk 6 ?_;refine tkk 7 ?_;refine tkk 8 ?_;refine tkk 9 ?_;refine tkk 10 ?_;refine tkk 12 ?_;refine tkk 14 ?_;refine tkk 15 ?_;refine rdy 11 (fun KK hKK=>?_);go_simp;refine hKK.out _ _ (by(try dsimp only);go_keep) (fun hHeld=>?_);clear hKK KK;try simp only[Act.put,qzs,qz0,qz1]
 refine tkk 13 ?_;refine tkk 16 ?_;refine rdy 17 (fun KK hKK=>?_);go_simp;refine hKK.out _ _ (by(try dsimp only);go_keep) (fun hHeld=>?_);clear hKK KK;try simp only[Act.put,qzs,qz0,qz1]
 refine Vp (by kernel_rfl) (Vj ?_) _;go_upto_region 2 with (fail);obtain⟨w3,hw3⟩:=exq ((w2.setCell ⟨g,k*4+1,none⟩ (.int .i64 v0)).drew);rw[hw3]at HS1 HM1 HX1 ⊢;clear hw3 c0 c1 c2 c3 c4 c5 f0 fz;obtain⟨g2,eg2,-,⟨C2,hC2⟩,-,hc2,-⟩:=HS1.out.setP hP1;obtain rfl:g=g2:=by have h1:s.pp=some ⟨g2,0,none⟩:=eg2;rw[HEg.out]at h1;cases h1;rfl
 obtain⟨g3,eg3,hg3B,⟨C3,hC3⟩,hf3,hc3,hst3⟩:=HS1.out.setH hP1 (l:=l) (t:=t) HL.out;obtain rfl:gh=g3:=by have h1:P.hp=some ⟨g3,0,none⟩:=eg3;rw[HEgh.out]at h1;cases h1;rfl
 have b3:=hc2 3 _ rfl;simp only at b3;rw[HEgh.out]at b3;have q0:=hc3 0 _ rfl;have qz:=hf3 (t*2+0);obtain⟨c0,c1,c2,c3,c4,c5⟩:=ac6 HX1.out;rw[HEg.out]at c1;have HS2:=Qaa (hst3 0 ⟨v1,l.n⟩ (.int .i64 v1) (by omega) rfl);have HSE:Hid (Qac B (w3.setCell ⟨gh,t*2+0,none⟩ (.int .i64 v1)).drew (s.upP k (P.shift t 0 n))):=by have h:=HS2.out.below (bR.drew);rw[←HFin.out,HUp.out]at h;exact h
 have HM2:Hid (Mut B w (w3.setCell ⟨gh,t*2+0,none⟩ (.int .i64 v1)).drew):=(HM1.out.set hC3 (Or.inr (Or.inl rfl)) hg3B _ _).drew;clear hc2 hc3 hf3 hst3 hC2 hC3 eg2 eg3;rw[Vr]at q0 qz;refine Vi ?_;refine Vf (S:=(fun w'=>w'.cell? ⟨w.heap.size,1,none⟩=some (.slice (some ⟨g,0,none⟩) s.pn s.pc)∧w'.cell? ⟨g,k*4+3,none⟩=some (.slice (some ⟨gh,0,none⟩) P.hl P.hc))) (by kernel_rfl) (by go_keep) (fun hHeld=>?_);refine tkk 0 ?_;refine tkk 1 ?_;refine tkk 2 ?_;refine tkk 3 ?_;refine tkk 4 ?_;refine tkk 5 ?_;refine tkk 6 ?_;refine tkk 7 ?_;refine tkk 8 ?_;refine tkk 9 ?_;refine tkk 10 ?_;refine tkk 11 ?_;refine tkk 12 ?_;refine tkk 13 ?_;refine tkk 14 ?_;refine tkk 15 ?_;refine tkk 16 ?_;refine tkk 17 ?_;refine tkk 19 ?_;refine tkk 21 ?_;refine rdy 18 (fun KK hKK=>?_);go_simp;refine hKK.out _ _ (by(try dsimp only);go_keep) (fun hHeld=>?_);clear hKK KK;try simp only[Act.put,qzs,qz0,qz1]
 refine tkk 20 ?_;refine tkk 22 ?_;refine rdy 23 (fun KK hKK=>?_);go_simp;refine hKK.out _ _ (by(try dsimp only);go_keep) (fun hHeld=>?_);clear hKK KK;try simp only[Act.put,qzs,qz0,qz1]
 refine Vp (by kernel_rfl) (Vj ?_) _;go_wp2;go_end0;exact⟨rfl,HSE.out,HM2.out⟩
theorem QjX (w:World) (B:Nat) (s:Sta) (hs:Qac B w s) (t k:Nat) (n:Int) (P:Pl) (hP:s.pools[k]?=some P) (l:Lin) (hl:P.hs[t]?=some l) :
  Calls Tryz.prog 166 #[.agg (qS s),.int .i64 t,.int .i64 k,.int .i64 1,.int .i64 n] w fun e w'=>e=.returned (.tuple #[])∧Qac B w' (s.upP k (P.shift t 1 n))∧Mut B w w':=by
 obtain⟨w2,hw2,hb2,hx2⟩:=Qag w (qS s) 42;have HW2:=Qaa hw2;have hs2:=hs.below hb2;obtain⟨g,eg,hgB,⟨C,hC⟩,hf,hc,hst⟩:=hs2.setP hP;obtain⟨gh,egh,hghB,⟨Ch,hCh⟩,hfh,hch,-⟩:=hs2.setH hP hl;have hlt:=Qab hx2;have hgl:g<w.heap.size:=by obtain⟨g2,e2,_,⟨C2,hC2⟩,_⟩:=hs.setP hP;rw[eg]at e2;cases e2;exact Qab hC2
 have hghl:gh<w.heap.size:=by obtain⟨g2,e2,_,⟨C2,hC2⟩,_⟩:=hs.setH hP hl;rw[egh]at e2;cases e2;exact Qab hC2
 obtain⟨c0,c1,c2,c3,c4,c5⟩:=ac6 hx2;rw[eg]at c1;have k1:(k:Int)<(s.pn:Int):=by have:=(Vd.1 hP).1;have:=hs.pn;omega
 have k0:(0:Int)≤(k:Int):=by omega
 have t1:(t:Int)<(P.hl:Int):=by have:=(Vd.1 hl).1;have:=hs.hlen P (mG hP);omega
 have t0:(0:Int)≤(t:Int):=by omega
 obtain⟨v0,hv0⟩:=exq (wrap64 (P.f1 - n));obtain⟨v1,hv1⟩:=exq (wrap64 (l.n+n));have hu0:IntKind.i64.wrap (P.f1 - n)=v0:=by rw[←hv0];exact Qaq _
 have hu1:IntKind.i64.wrap (l.n+n)=v1:=by rw[←hv1];exact Qaq _
 have f0:=hc 2 _ rfl;have fz:=hf (k*4+2);have hne:¬g=w.heap.size:=by omega
 have hne2:¬gh=w.heap.size:=by omega
 have hne3:¬gh=g:=by rintro rfl;rw[hC]at hCh;cases hCh
 have HS1:=Qaa ((hst 2 { P with f1:=v0 } (.int .i64 v0) (by omega) rfl rfl rfl rfl rfl).below (bR.drew));have HM1:Hid (Mut B w (w2.setCell ⟨g,k*4+2,none⟩ (.int .i64 v0)).drew):=(((Mut.of (hb2.mono (Va _)) (by omega)).set hC (Or.inl rfl) hgB _ _).drew);have hP1:(s.upP k { P with f1:=v0 }).pools[k]?=some { P with f1:=v0 }:=Vn (Vd.1 hP).1;have HX1:Hid ((w2.setCell ⟨g,k*4+2,none⟩ (.int .i64 v0)).drew.heap[w.heap.size]?=some (.cells (qS s) 42 (0,0))):=by show (w2.setCell ⟨g,k*4+2,none⟩ (.int .i64 v0)).heap[w.heap.size]?=_;rw[Ve _ _ _ _ (by show w.heap.size≠g;omega)];exact hx2
 have HFin:Hid (P.shift t 1 n={ { P with f1:=v0 } with hs:=P.hs.set t ⟨l.c,v1⟩ }):=by show _=_;unfold Pl.shift;rw[hv0,hl];simp only[Option.getD_some];rw[hv1];rfl
 have HUp:Hid ((s.upP k { P with f1:=v0 }).upP k (P.shift t 1 n)=s.upP k (P.shift t 1 n)):=by show _=_;unfold Sta.upP;simp only[List.set_set]
 obtain⟨HL,HEg,HEgh⟩:=Qmk hl eg egh;clear hw2 hb2 hx2 hs hs2 hst hc hch hf hfh hC hCh hlt hv0 hv1 hgl hghl eg egh;go_enter Tryz.func166,Tryz.ntmps166;go_upto_region 1 with (fail);rw[HW2.out];refine Vi ?_;refine Vf (S:=(fun w'=>w'.cell? ⟨w.heap.size,1,none⟩=some (.slice (some ⟨g,0,none⟩) s.pn s.pc))) (by kernel_rfl) (by go_keep) (fun hHeld=>?_);refine tkk 0 ?_;refine tkk 1 ?_;refine tkk 2 ?_;refine tkk 3 ?_;refine tkk 4 ?_;refine tkk 5 ?_;refine tkk 6 ?_;refine tkk 7 ?_;refine tkk 8 ?_;refine tkk 9 ?_;refine tkk 10 ?_;refine tkk 12 ?_;refine tkk 14 ?_;refine tkk 15 ?_;refine rdy 11 (fun KK hKK=>?_);go_simp;refine hKK.out _ _ (by(try dsimp only);go_keep) (fun hHeld=>?_);clear hKK KK;try simp only[Act.put,qzs,qz0,qz1]
 refine tkk 13 ?_;refine tkk 16 ?_;refine rdy 17 (fun KK hKK=>?_);go_simp;refine hKK.out _ _ (by(try dsimp only);go_keep) (fun hHeld=>?_);clear hKK KK;try simp only[Act.put,qzs,qz0,qz1]
 refine Vp (by kernel_rfl) (Vj ?_) _;go_upto_region 2 with (fail);obtain⟨w3,hw3⟩:=exq ((w2.setCell ⟨g,k*4+2,none⟩ (.int .i64 v0)).drew);rw[hw3]at HS1 HM1 HX1 ⊢;clear hw3 c0 c1 c2 c3 c4 c5 f0 fz;obtain⟨g2,eg2,-,⟨C2,hC2⟩,-,hc2,-⟩:=HS1.out.setP hP1;obtain rfl:g=g2:=by have h1:s.pp=some ⟨g2,0,none⟩:=eg2;rw[HEg.out]at h1;cases h1;rfl
 obtain⟨g3,eg3,hg3B,⟨C3,hC3⟩,hf3,hc3,hst3⟩:=HS1.out.setH hP1 (l:=l) (t:=t) HL.out;obtain rfl:gh=g3:=by have h1:P.hp=some ⟨g3,0,none⟩:=eg3;rw[HEgh.out]at h1;cases h1;rfl
 have b3:=hc2 3 _ rfl;simp only at b3;rw[HEgh.out]at b3;have q0:=hc3 1 _ rfl;have qz:=hf3 (t*2+1);obtain⟨c0,c1,c2,c3,c4,c5⟩:=ac6 HX1.out;rw[HEg.out]at c1;have HS2:=Qaa (hst3 1 ⟨l.c,v1⟩ (.int .i64 v1) (by omega) rfl);have HSE:Hid (Qac B (w3.setCell ⟨gh,t*2+1,none⟩ (.int .i64 v1)).drew (s.upP k (P.shift t 1 n))):=by have h:=HS2.out.below (bR.drew);rw[←HFin.out,HUp.out]at h;exact h
 have HM2:Hid (Mut B w (w3.setCell ⟨gh,t*2+1,none⟩ (.int .i64 v1)).drew):=(HM1.out.set hC3 (Or.inr (Or.inl rfl)) hg3B _ _).drew;clear hc2 hc3 hf3 hst3 hC2 hC3 eg2 eg3;refine Vi ?_;refine Vf (S:=(fun w'=>w'.cell? ⟨w.heap.size,1,none⟩=some (.slice (some ⟨g,0,none⟩) s.pn s.pc)∧w'.cell? ⟨g,k*4+3,none⟩=some (.slice (some ⟨gh,0,none⟩) P.hl P.hc))) (by kernel_rfl) (by go_keep) (fun hHeld=>?_);refine tkk 0 ?_;refine tkk 1 ?_;refine tkk 2 ?_;refine tkk 3 ?_;refine tkk 4 ?_;refine tkk 5 ?_;refine tkk 6 ?_;refine tkk 7 ?_;refine tkk 8 ?_;refine tkk 9 ?_;refine tkk 10 ?_;refine tkk 11 ?_;refine tkk 12 ?_;refine tkk 13 ?_;refine tkk 14 ?_;refine tkk 15 ?_;refine tkk 16 ?_;refine tkk 17 ?_;refine tkk 19 ?_;refine tkk 21 ?_;refine rdy 18 (fun KK hKK=>?_);go_simp;refine hKK.out _ _ (by(try dsimp only);go_keep) (fun hHeld=>?_);clear hKK KK;try simp only[Act.put,qzs,qz0,qz1]
 refine tkk 20 ?_;refine tkk 22 ?_;refine rdy 23 (fun KK hKK=>?_);go_simp;refine hKK.out _ _ (by(try dsimp only);go_keep) (fun hHeld=>?_);clear hKK KK;try simp only[Act.put,qzs,qz0,qz1]
 refine Vp (by kernel_rfl) (Vj ?_) _;go_wp2;go_end0;exact⟨rfl,HSE.out,HM2.out⟩
theorem QhX (w:World) (B:Nat) (s:Sta) (hs:Qac B w s) (t k:Nat) (wy:Int) (hwy:wy=0∨wy=1) (n:Int) (P:Pl) (hP:s.pools[k]?=some P) (hl:t<P.hl) :
  Calls Tryz.prog 166 #[.agg (qS s),.int .i64 t,.int .i64 k,.int .i64 wy,.int .i64 n] w fun e w'=>e=.returned (.tuple #[])∧Qac B w' (s.upP k (P.shift t wy n))∧Mut B w w':=by
 obtain⟨l,hl⟩:∃l,P.hs[t]?=some l:=⟨_,gE (by rw[hs.hlen P (mG hP)];exact hl)⟩;rcases hwy with rfl | rfl
 ·exact Qj1 w B s hs t k n P hP l hl
 ·exact QjX w B s hs t k n P hP l hl
def Pl.line (P:Pl) (n:Int) (sure:Bool) (t:Nat):Pl :=
 if n<0 then
  (if sure=true then { P with v:=wrap64 (P.v+n),f1:=wrap64 (P.f1+wrap64 (-n)),hs:=P.hs.set t ⟨wrap64 ((P.hs[t]?.getD ⟨0,0⟩).c - wrap64 (-n)),(P.hs[t]?.getD ⟨0,0⟩).n⟩ }
   else { P with v:=wrap64 (P.v+n),f1:=wrap64 (P.f1+wrap64 (-n)),f0:=wrap64 (P.f0 - wrap64 (-n)) })
 else
  (if sure=true then { P with v:=wrap64 (P.v+n),f0:=wrap64 (P.f0+n),hs:=P.hs.set t ⟨(P.hs[t]?.getD ⟨0,0⟩).c,wrap64 ((P.hs[t]?.getD ⟨0,0⟩).n - n)⟩ }
   else { P with v:=wrap64 (P.v+n),f0:=wrap64 (P.f0+n),f1:=wrap64 (P.f1 - n) })
theorem Qev (w:World) (S A L:Array Value):∃w2,((w.alloc (.cells S 42)).alloc (.cells A 55)).alloc (.cells L 132)=w2∧Below w.heap.size w w2∧w2.heap[w.heap.size]?=some (.cells S 42 (0,0))∧w2.heap[w.heap.size+1]?=some (.cells A 55 (0,0))∧w2.heap[w.heap.size+1+1]?=some (.cells L 132 (0,0))∧w2.heap.size=w.heap.size+1+1+1:=by
 refine⟨_,rfl,(((Below.refl _ w).alloc (Va _) _).alloc (by simp) _).alloc (by simp;omega) _,?_,?_,?_,by simp⟩
 ·rw[Vc _ _ _ (by simp only[Vm];omega),Vc _ _ _ (by simp)];exact hNq _ _
 ·rw[Vc _ _ _ (by simp)];exact VV _ _ _
 ·have h:=hNq ((w.alloc (.cells S 42)).alloc (.cells A 55)) (.cells L 132)
  simp only[Vm]at h;exact h
theorem Mut.set4 {B:Nat} {W W':World} (h:Mut B W W') {g:Nat} {C:Array Value} {t:TypeId} (hg:W'.heap[g]?=some (.cells C t (0,0))) (ht:Qku t) (hB:B≤g) (i0 i1 i2 i3:Nat) (v0 v1 v2 v3:Value):Mut B W ((((W'.setCell ⟨g,i0,none⟩ v0).setCell ⟨g,i1,none⟩ v1).setCell ⟨g,i2,none⟩ v2).setCell ⟨g,i3,none⟩ v3):=by
 have h1:=Vx W' g i0 _ _ v0 hg;have h2:=Vx _ g i1 _ _ v1 h1;have h3:=Vx _ g i2 _ _ v2 h2;exact(((h.set hg ht hB i0 v0).set h1 ht hB i1 v1).set h2 ht hB i2 v2).set h3 ht hB i3 v3
theorem Qac.poolRow {B:Nat} {W:World} {s:Sta} (h:Qac B W s) {k:Nat} {P:Pl} (hP:s.pools[k]?=some P) {g:Nat} (hg:s.pp=some ⟨g,0,none⟩):B≤g∧(∃C,W.heap[g]?=some (.cells C 121 (0,0)))∧(∀j,W.frozen? ⟨g,j,none⟩=false)∧(∀j v,(plc P)[j]?=some v→W.cell? ⟨g,k*4+j,none⟩=some v):=by
 obtain⟨g',eg,hB,hC,hf,hc,_⟩:=h.setP hP;rw[hg]at eg;cases eg;exact⟨hB,hC,hf,hc⟩
theorem Qac.setAll {B:Nat} {W:World} {s:Sta} (h:Qac B W s) {k g:Nat} {P:Pl} (hP:s.pools[k]?=some P) (hg:s.pp=some ⟨g,0,none⟩) (v f0 f1:Int) :
  Qac B ((((W.setCell ⟨g,k*4,none⟩ (.int .i64 v)).setCell ⟨g,k*4+1,none⟩ (.int .i64 f0)).setCell ⟨g,k*4+2,none⟩ (.int .i64 f1)).setCell ⟨g,k*4+3,none⟩ P.hv) (s.upP k { P with v:=v,f0:=f0,f1:=f1 }):=by
 have up:∀(s:Sta) (P P' P2:Pl),(s.upP k P').upP k P2=s.upP k P2:=fun s P P' P2=>by unfold Sta.upP;simp only[List.set_set]
 have one:∀{W:World} {s:Sta} (h:Qac B W s) {P:Pl} (hP:s.pools[k]?=some P) (hg:s.pp=some ⟨g,0,none⟩) (j:Nat) (P':Pl) (u:Value),j<4→plc P'=(plc P).set j u→P'.hs=P.hs→P'.hp=P.hp→P'.hl=P.hl→P'.hc=P.hc→Qac B (W.setCell ⟨g,k*4+j,none⟩ u) (s.upP k P')∧(s.upP k P').pools[k]?=some P':=fun {W s} h {P} hP hg j P' u hj e e1 e2 e3 e4=>by
  obtain⟨g',eg,_,_,_,_,hst⟩:=h.setP hP;rw[hg]at eg;cases eg;exact⟨hst j P' u hj e e1 e2 e3 e4,Vn (Vd.1 hP).1⟩
 obtain⟨h1,p1⟩:=one h hP hg 0 { P with v:=v } (.int .i64 v) (by omega) rfl rfl rfl rfl rfl;obtain⟨h2,p2⟩:=one h1 p1 hg 1 { P with v:=v,f0:=f0 } (.int .i64 f0) (by omega) rfl rfl rfl rfl rfl;obtain⟨h3,p3⟩:=one h2 p2 hg 2 { P with v:=v,f0:=f0,f1:=f1 } (.int .i64 f1) (by omega) rfl rfl rfl rfl rfl;obtain⟨h4,_⟩:=one h3 p3 hg 3 { P with v:=v,f0:=f0,f1:=f1 } P.hv (by omega) rfl rfl rfl rfl rfl;rw[up _ P,up _ P,up _ P]at h4;exact h4
theorem Qig (w:World) (B:Nat) (s:Sta) (hs:Qac B w s) (a:Acd) (t:Nat) (ht:a.till=(t:Int)) (k:Nat) (n:Int) (hn:n<0) (P:Pl) (hP:s.pools[k]?=some P) (l:Lin) (hl:P.hs[t]?=some l) :
  Calls Tryz.prog 165 #[.agg (qS s),.agg (qA a),.agg #[.int .i64 k,.int .i64 n]] w fun e w'=>e=.returned (.tuple #[])∧Qac B w' (s.upP k (P.line n a.sure t))∧Mut B w w':=by
 obtain⟨w2,hw2,hb2,hx2,hy2,hz2,hsz2⟩:=Qev w (qS s) (qA a) #[.int .i64 k,.int .i64 n];obtain⟨HW2,HB2⟩:=Qmj hw2 hb2;obtain⟨gp,egp,hgB,⟨C,hC⟩,hf,hc,-⟩:=hs.setP hP;obtain⟨gh,egh,hghB,⟨Ch,hCh⟩,hfh,hch,-⟩:=hs.setH hP hl;have hgl:=Qab hC;have hghl:=Qab hCh;obtain⟨HN,HL⟩:=Qmj hn hl;have hgp2:=egp;have hgh2:=egh;obtain⟨HT,HS⟩:=Qmj ht hs;have HX:Hid (∀W,Below w2.heap.size w2 W→W.heap[w.heap.size]?=some (.cells (qS s) 42 (0,0))∧W.heap[w.heap.size+1]?=some (.cells (qA a) 55 (0,0))∧W.heap[w.heap.size+1+1]?=some (.cells #[.int .i64 k,.int .i64 n] 132 (0,0))):=fun W hb=>⟨(hb.block _ (Qab hx2)).trans hx2,(hb.block _ (Qab hy2)).trans hy2,(hb.block _ (Qab hz2)).trans hz2⟩
 obtain⟨c0,c1,c2,c3,c4,c5⟩:=ac6 hx2;obtain⟨a0,a1,a2,a3,a4,a5,a6,a7,a8,a9,a10,a11,a12,a13,a14⟩:=QaA hy2;obtain⟨z0,z1⟩:=ac2 hz2;rw[egp]at c1;rw[ht]at a0;have k1:(k:Int)<(s.pn:Int):=by have:=(Vd.1 hP).1;have:=hs.pn;omega
 have k0:(0:Int)≤(k:Int):=by omega
 have t1:(t:Int)<(P.hl:Int):=by have:=(Vd.1 hl).1;have:=hs.hlen P (mG hP);omega
 have t0:(0:Int)≤(t:Int):=by omega
 have hPc:=fun j v h=>(hb2.cell (p:=⟨gp,k*4+j,none⟩) hgl).trans (hc j v h)
 have p0:=hPc 0 _ rfl;have p1:=hPc 1 _ rfl;have p2:=hPc 2 _ rfl;have p3:=hPc 3 _ rfl;rw[Vr]at p0;simp only[egh]at p3;obtain⟨hl2,hhl2⟩:=exq P.hl;obtain⟨hc2,hhc2⟩:=exq P.hc;obtain⟨pv,hpv⟩:=exq P.v;obtain⟨f0,hf0⟩:=exq P.f0;obtain⟨f1,hf1⟩:=exq P.f1;have HP5:=Qaa (And.intro hhl2 (And.intro hhc2 (And.intro hpv (And.intro hf0 hf1))));rw[hpv]at p0;rw[hf0]at p1;rw[hf1]at p2;rw[hhl2,hhc2]at p3;rw[hhl2]at t1;obtain⟨w3,hw3,hb3,hx3⟩:=Qag w2 #[.int .i64 pv,.int .i64 f0,.int .i64 f1,.slice (some ⟨gh,0,none⟩) hl2 hc2] 121;obtain⟨HW3,HX3,HB3⟩:=Qmk hw3 hx3 hb3;clear hw2 hb2 hx2 hy2 hz2 hf hfh hch hC hCh hc hPc egp egh ht hs hhl2 hhc2 hpv hf0 hf1 hw3 hx3 hb3;have hBle:B≤w.heap.size:=by omega
 rw[hsz2]at HX3;obtain⟨HEgp,HEgh⟩:=Qmj hgp2 hgh2;clear hgp2 hgh2;obtain⟨m,hm⟩:=exq (wrap64 (-n));obtain⟨v0,hv0⟩:=exq (wrap64 (pv+n));obtain⟨v1,hv1⟩:=exq (wrap64 (f1+m));obtain⟨HV0,HV1,HM⟩:=Qmk hv0 hv1 hm;go_enter Tryz.func165,Tryz.ntmps165;go_upto_region 1 with (fail);rw[HW2.out];go_upto_region 7 with (fail);rw[HW3.out];clear c0 c1 c2 c3 c4 c5 a0 a1 a2 a3 a4 a5 a6 a7 a8 a9 a10 a11 a12 a13 a14 z0 z1 p0 p1 p2 p3;obtain⟨hx,hy,hz⟩:=HX.out w3 HB3.out;obtain⟨c0,c1,c2,c3,c4,c5⟩:=ac6 hx;obtain⟨a0,a1,a2,a3,a4,a5,a6,a7,a8,a9,a10,a11,a12,a13,a14⟩:=QaA hy;obtain⟨z0,z1⟩:=ac2 hz;rw[HEgp.out]at c1;rw[HT.out]at a0;clear hx hy hz;have x0:w3.cell? ⟨w.heap.size+1+1+1,0,none⟩=some (.int .i64 pv):=by rw[cRq HX3.out];rfl
 have x1:w3.cell? ⟨w.heap.size+1+1+1,1,none⟩=some (.int .i64 f0):=by rw[cRq HX3.out];rfl
 have x2:w3.cell? ⟨w.heap.size+1+1+1,2,none⟩=some (.int .i64 f1):=by rw[cRq HX3.out];rfl
 have x3:w3.cell? ⟨w.heap.size+1+1+1,3,none⟩=some (.slice (some ⟨gh,0,none⟩) hl2 hc2):=by rw[cRq HX3.out];rfl
 have xf:=VN w3 (w.heap.size+1+1+1) 0 _ _ HX3.out;have xf2:=VN w3 (w.heap.size+1+1+1) 2 _ _ HX3.out
 have HX4:Hid (((w3.setCell ⟨w.heap.size+1+1+1,0,none⟩ (.int .i64 v0)).setCell ⟨w.heap.size+1+1+1,2,none⟩ (.int .i64 v1)).heap[w.heap.size+1+1+1]?=some (.cells #[.int .i64 v0,.int .i64 f0,.int .i64 v1,.slice (some ⟨gh,0,none⟩) hl2 hc2] 121 (0,0))):=by
  have h1:=Vx w3 (w.heap.size+1+1+1) 0 _ _ (.int .i64 v0) HX3.out;exact Vx _ (w.heap.size+1+1+1) 2 _ _ (.int .i64 v1) h1
 have HB4:Hid (Below (w.heap.size+1+1+1) w2 ((w3.setCell ⟨w.heap.size+1+1+1,0,none⟩ (.int .i64 v0)).setCell ⟨w.heap.size+1+1+1,2,none⟩ (.int .i64 v1))):=by have h:=HB3.out;rw[hsz2]at h;exact(h.setCell (p:=⟨w.heap.size+1+1+1,0,none⟩) (Va _) _).setCell (p:=⟨w.heap.size+1+1+1,2,none⟩) (Va _) _
 go_upto_region 9 with (fail);obtain⟨w4,hw4⟩:=exq ((w3.setCell ⟨w.heap.size+1+1+1,0,none⟩ (.int .i64 v0)).setCell ⟨w.heap.size+1+1+1,2,none⟩ (.int .i64 v1));rw[hw4]at HX4 HB4 ⊢;clear hw4 x0 x1 x2 x3 xf xf2 hv0 hv1;have HBw:Hid (Below w.heap.size w w4):=HB2.out.trans (HB4.out.mono (by omega));have HS4:Hid (Qac B w4 s):=HS.out.below HBw.out;have HY4:=Qaa (HX.out w4 (by rw[hsz2];exact HB4.out));have hPhv:P.hv=.slice (some ⟨gh,0,none⟩) hl2 hc2:=by unfold Pl.hv;rw[HEgh.out,HP5.out.1,HP5.out.2.1]
 have HPhv:=Qaa hPhv;obtain⟨sv,hsv⟩:=exq a.sure;have HSv:=Qaa hsv;clear hPhv hsv c0 c1 c2 c3 c4 c5 a0 a1 a2 a3 a4 a5 a6 a7 a8 a9 a10 a11 a12 a13 a14 z0 z1
 cases sv with
 | false =>
  obtain⟨hx,hy,hz⟩:=HY4.out;obtain⟨c0,c1,c2,c3,c4,c5⟩:=ac6 hx;obtain⟨a0,a1,a2,a3,a4,a5,a6,a7,a8,a9,a10,a11,a12,a13,a14⟩:=QaA hy;obtain⟨z0,z1⟩:=ac2 hz;rw[HEgp.out]at c1;rw[HT.out]at a0;rw[HSv.out]at a3;clear hx hy hz;have x0:w4.cell? ⟨w.heap.size+1+1+1,0,none⟩=some (.int .i64 v0):=by rw[cRq HX4.out];rfl
  have x1:w4.cell? ⟨w.heap.size+1+1+1,1,none⟩=some (.int .i64 f0):=by rw[cRq HX4.out];rfl
  have x2:w4.cell? ⟨w.heap.size+1+1+1,2,none⟩=some (.int .i64 v1):=by rw[cRq HX4.out];rfl
  have x3:w4.cell? ⟨w.heap.size+1+1+1,3,none⟩=some (.slice (some ⟨gh,0,none⟩) hl2 hc2):=by rw[cRq HX4.out];rfl
  have xf:=VN w4 (w.heap.size+1+1+1) 1 _ _ HX4.out;obtain⟨v2,hv2⟩:=exq (wrap64 (f0 - m));have HV2:=Qaa hv2;go_upto_region 12 with (fail);obtain⟨w5,hw5⟩:=exq (w4.setCell ⟨w.heap.size+1+1+1,1,none⟩ (.int .i64 v2));have HX5:Hid (w5.heap[w.heap.size+1+1+1]?=some (.cells #[.int .i64 v0,.int .i64 v2,.int .i64 v1,.slice (some ⟨gh,0,none⟩) hl2 hc2] 121 (0,0))):=by show _=_;rw[←hw5];exact Vx w4 (w.heap.size+1+1+1) 1 _ _ (.int .i64 v2) HX4.out
  have HB5:Hid (Below (w.heap.size+1+1+1) w2 w5):=by show Below _ _ _;rw[←hw5];exact HB4.out.setCell (p:=⟨w.heap.size+1+1+1,1,none⟩) (Va _) _
  rw[hw5];clear hw5 x0 x1 x2 x3 xf hv2 c0 c1 c2 c3 c4 c5 a0 a1 a2 a3 a4 a5 a6 a7 a8 a9 a10 a11 a12 a13 a14 z0 z1;have HBx:Hid (Below w.heap.size w w5):=HB2.out.trans (HB5.out.mono (by omega));have HS5:Hid (Qac B w5 s):=HS.out.below HBx.out;have HY5:=Qaa (HX.out w5 (by rw[hsz2];exact HB5.out));have HM5:Hid (Mut B w w5):=⟨HBx.out.mono hBle,fun j _ _ hk _=>(HBx.out.block j (Qab hk)).trans hk⟩;obtain⟨hx,hy,hz⟩:=HY5.out;obtain⟨c0,c1,c2,c3,c4,c5⟩:=ac6 hx;obtain⟨a0,a1,a2,a3,a4,a5,a6,a7,a8,a9,a10,a11,a12,a13,a14⟩:=QaA hy;obtain⟨z0,z1⟩:=ac2 hz;rw[HEgp.out]at c1;rw[HT.out]at a0;rw[HSv.out]at a3;clear hx hy hz;have x0:w5.cell? ⟨w.heap.size+1+1+1,0,none⟩=some (.int .i64 v0):=by rw[cRq HX5.out];rfl
  have x1:w5.cell? ⟨w.heap.size+1+1+1,1,none⟩=some (.int .i64 v2):=by rw[cRq HX5.out];rfl
  have x2:w5.cell? ⟨w.heap.size+1+1+1,2,none⟩=some (.int .i64 v1):=by rw[cRq HX5.out];rfl
  have x3:w5.cell? ⟨w.heap.size+1+1+1,3,none⟩=some (.slice (some ⟨gh,0,none⟩) hl2 hc2):=by rw[cRq HX5.out];rfl
  obtain⟨-,⟨C5,hC5⟩,hf5,hc5⟩:=HS5.out.poolRow hP HEgp.out;have r0:=hc5 0 _ rfl;have r1:=hc5 1 _ rfl;have r2:=hc5 2 _ rfl;have r3:=hc5 3 _ rfl;rw[Vr]at r0;have e0:=hf5 (k*4);have e1:=hf5 (k*4+1);have e2:=hf5 (k*4+2);have e3:=hf5 (k*4+3);have HE:=Qaa (HS5.out.setAll hP HEgp.out v0 v2 v1);have hhv:(P).hv=.slice (some ⟨gh,0,none⟩) hl2 hc2:=HPhv.out;rw[hhv]at HE;have HMe:=Qaa (HM5.out.set4 hC5 (Or.inl rfl) hgB (k*4) (k*4+1) (k*4+2) (k*4+3) (.int .i64 v0) (.int .i64 v2) (.int .i64 v1) (.slice (some ⟨gh,0,none⟩) hl2 hc2));clear hf5 hc5 hC5 hhv;go_wp2;go_end0;refine⟨rfl,?_,HMe.out⟩;have h:=HE.out;have e:P.line n a.sure t={ P with v:=v0,f0:=v2,f1:=v1 }:=by unfold Pl.line;rw[if_pos HN.out,HSv.out,if_neg (by simp),HP5.out.2.2.1,HP5.out.2.2.2.1,HP5.out.2.2.2.2,HM.out,HV0.out,HV1.out,HV2.out]
  rw[e];exact h
 | true =>
  obtain⟨g2,eg2,-,⟨Ch2,hCh2⟩,hfh2,hch2,hsth⟩:=HS4.out.setH hP HL.out;obtain rfl:gh=g2:=by have h1:=eg2;rw[HEgh.out]at h1;cases h1;rfl
  have q0:=hch2 0 _ rfl;have qz:=hfh2 (t*2+0);rw[Vr]at q0 qz;obtain⟨v2,hv2⟩:=exq (wrap64 (l.c - m));have HV2:=Qaa hv2;have hu2:IntKind.i64.wrap (l.c - m)=v2:=by rw[←hv2];exact Qaq _
  have HS5:Hid (Qac B (w4.setCell ⟨gh,t*2,none⟩ (.int .i64 v2)).drew (s.upP k { P with hs:=P.hs.set t ⟨v2,l.n⟩ })):=(hsth 0 ⟨v2,l.n⟩ (.int .i64 v2) (by omega) rfl).below (bR.drew);have HM5:Hid (Mut B w (w4.setCell ⟨gh,t*2,none⟩ (.int .i64 v2)).drew):=(Mut.set (W:=w) ⟨HBw.out.mono hBle,fun j _ _ hk _=>(HBw.out.block j (Qab hk)).trans hk⟩ hCh2 (Or.inr (Or.inl rfl)) hghB _ _).drew;have HX5:Hid ((w4.setCell ⟨gh,t*2,none⟩ (.int .i64 v2)).drew.heap[w.heap.size+1+1+1]?=some (.cells #[.int .i64 v0,.int .i64 f0,.int .i64 v1,.slice (some ⟨gh,0,none⟩) hl2 hc2] 121 (0,0))):=by show (w4.setCell ⟨gh,t*2,none⟩ (.int .i64 v2)).heap[w.heap.size+1+1+1]?=_;rw[Ve _ _ _ _ (by show w.heap.size+1+1+1≠gh;omega)];exact HX4.out
  have HY5:Hid ((w4.setCell ⟨gh,t*2,none⟩ (.int .i64 v2)).drew.heap[w.heap.size]?=some (.cells (qS s) 42 (0,0))∧(w4.setCell ⟨gh,t*2,none⟩ (.int .i64 v2)).drew.heap[w.heap.size+1]?=some (.cells (qA a) 55 (0,0))∧(w4.setCell ⟨gh,t*2,none⟩ (.int .i64 v2)).drew.heap[w.heap.size+1+1]?=some (.cells #[.int .i64 k,.int .i64 n] 132 (0,0))):=⟨by show (w4.setCell ⟨gh,t*2,none⟩ (.int .i64 v2)).heap[_]?=_;rw[Ve _ _ _ _ (by show w.heap.size≠gh;omega)];exact HY4.out.1,by show (w4.setCell ⟨gh,t*2,none⟩ (.int .i64 v2)).heap[_]?=_;rw[Ve _ _ _ _ (by show w.heap.size+1≠gh;omega)];exact HY4.out.2.1,by show (w4.setCell ⟨gh,t*2,none⟩ (.int .i64 v2)).heap[_]?=_;rw[Ve _ _ _ _ (by show w.heap.size+1+1≠gh;omega)];exact HY4.out.2.2⟩;have hP1:(s.upP k { P with hs:=P.hs.set t ⟨v2,l.n⟩ }).pools[k]?=some { P with hs:=P.hs.set t ⟨v2,l.n⟩ }:=Vn (Vd.1 hP).1;have HP1:=Qaa hP1;obtain⟨hx,hy,hz⟩:=HY4.out;obtain⟨c0,c1,c2,c3,c4,c5⟩:=ac6 hx;obtain⟨a0,a1,a2,a3,a4,a5,a6,a7,a8,a9,a10,a11,a12,a13,a14⟩:=QaA hy;obtain⟨z0,z1⟩:=ac2 hz;rw[HEgp.out]at c1;rw[HT.out]at a0;rw[HSv.out]at a3;clear hx hy hz;have x0:w4.cell? ⟨w.heap.size+1+1+1,0,none⟩=some (.int .i64 v0):=by rw[cRq HX4.out];rfl
  have x1:w4.cell? ⟨w.heap.size+1+1+1,1,none⟩=some (.int .i64 f0):=by rw[cRq HX4.out];rfl
  have x2:w4.cell? ⟨w.heap.size+1+1+1,2,none⟩=some (.int .i64 v1):=by rw[cRq HX4.out];rfl
  have x3:w4.cell? ⟨w.heap.size+1+1+1,3,none⟩=some (.slice (some ⟨gh,0,none⟩) hl2 hc2):=by rw[cRq HX4.out];rfl
  have hne:¬gh=w.heap.size+1+1+1:=by omega
  have hne2:¬gh=w.heap.size+1:=by omega
  clear hsth hch2 hfh2 hCh2 eg2 hP1;go_upto_region 10 with (fail);refine Vi ?_;refine Vf (S:=(fun w'=>w'.cell? ⟨w.heap.size+1+1+1,3,none⟩=some (.slice (some ⟨gh,0,none⟩) hl2 hc2)∧w'.cell? ⟨w.heap.size+1,0,none⟩=some (.int .i64 t))) (by kernel_rfl) (by go_keep) (fun hHeld=>?_);refine tkk 0 ?_;refine tkk 1 ?_;refine tkk 2 ?_;refine tkk 3 ?_;refine tkk 4 ?_;refine tkk 5 ?_;refine tkk 6 ?_;refine tkk 7 ?_;refine tkk 8 ?_;refine tkk 9 ?_;refine tkk 10 ?_;refine tkk 11 ?_;refine tkk 12 ?_;refine tkk 13 ?_;refine tkk 15 ?_;refine tkk 17 ?_;refine rdy 14 (fun KK hKK=>?_);go_simp;refine hKK.out _ _ (by(try dsimp only);go_keep) (fun hHeld=>?_);clear hKK KK;try simp only[Act.put,qzs,qz0,qz1]
  refine tkk 16 ?_;refine tkk 18 ?_;refine rdy 19 (fun KK hKK=>?_);go_simp;refine hKK.out _ _ (by(try dsimp only);go_keep) (fun hHeld=>?_);clear hKK KK;try simp only[Act.put,qzs,qz0,qz1]
  refine Vp (by kernel_rfl) (Vj ?_) _;go_upto_region 12 with (fail);obtain⟨w5,hw5⟩:=exq ((w4.setCell ⟨gh,t*2,none⟩ (.int .i64 v2)).drew);rw[hw5]at HS5 HM5 HX5 HY5 ⊢;clear hw5 q0 qz hu2 x0 x1 x2 x3 hv2 c0 c1 c2 c3 c4 c5 a0 a1 a2 a3 a4 a5 a6 a7 a8 a9 a10 a11 a12 a13 a14 z0 z1;obtain⟨hx,hy,hz⟩:=HY5.out;obtain⟨c0,c1,c2,c3,c4,c5⟩:=ac6 hx;obtain⟨a0,a1,a2,a3,a4,a5,a6,a7,a8,a9,a10,a11,a12,a13,a14⟩:=QaA hy;obtain⟨z0,z1⟩:=ac2 hz;rw[HEgp.out]at c1;rw[HT.out]at a0;rw[HSv.out]at a3;clear hx hy hz;have x0:w5.cell? ⟨w.heap.size+1+1+1,0,none⟩=some (.int .i64 v0):=by rw[cRq HX5.out];rfl
  have x1:w5.cell? ⟨w.heap.size+1+1+1,1,none⟩=some (.int .i64 f0):=by rw[cRq HX5.out];rfl
  have x2:w5.cell? ⟨w.heap.size+1+1+1,2,none⟩=some (.int .i64 v1):=by rw[cRq HX5.out];rfl
  have x3:w5.cell? ⟨w.heap.size+1+1+1,3,none⟩=some (.slice (some ⟨gh,0,none⟩) hl2 hc2):=by rw[cRq HX5.out];rfl
  obtain⟨-,⟨C5,hC5⟩,hf5,hc5⟩:=HS5.out.poolRow HP1.out HEgp.out;have r0:=hc5 0 _ rfl;have r1:=hc5 1 _ rfl;have r2:=hc5 2 _ rfl;have r3:=hc5 3 _ rfl;rw[Vr]at r0;have e0:=hf5 (k*4);have e1:=hf5 (k*4+1);have e2:=hf5 (k*4+2);have e3:=hf5 (k*4+3);have HE:=Qaa (HS5.out.setAll HP1.out HEgp.out v0 f0 v1);have hhv:({ P with hs:=P.hs.set t ⟨v2,l.n⟩ }).hv=.slice (some ⟨gh,0,none⟩) hl2 hc2:=HPhv.out;rw[hhv]at HE;have HMe:=Qaa (HM5.out.set4 hC5 (Or.inl rfl) hgB (k*4) (k*4+1) (k*4+2) (k*4+3) (.int .i64 v0) (.int .i64 f0) (.int .i64 v1) (.slice (some ⟨gh,0,none⟩) hl2 hc2));clear hf5 hc5 hC5 hhv;go_wp2;go_end0;refine⟨rfl,?_,HMe.out⟩;have h:=HE.out;have e:P.line n a.sure t={ P with v:=v0,f0:=f0,f1:=v1,hs:=P.hs.set t ⟨v2,l.n⟩ }:=by unfold Pl.line;rw[if_pos HN.out,HSv.out,if_pos rfl,HP5.out.2.2.1,HP5.out.2.2.2.2,HL.out];simp only[Option.getD_some];rw[HM.out,HV0.out,HV1.out,HV2.out];rw[HP5.out.2.2.2.1]
  rw[e];have up:(s.upP k { P with hs:=P.hs.set t ⟨v2,l.n⟩ }).upP k { P with v:=v0,f0:=f0,f1:=v1,hs:=P.hs.set t ⟨v2,l.n⟩ } = s.upP k { P with v:=v0,f0:=f0,f1:=v1,hs:=P.hs.set t ⟨v2,l.n⟩ }:=by unfold Sta.upP;simp only[List.set_set]
  rw[←up];exact h
theorem Qir (w:World) (B:Nat) (s:Sta) (hs:Qac B w s) (a:Acd) (t:Nat) (ht:a.till=(t:Int)) (k:Nat) (n:Int) (hn:¬n<0) (P:Pl) (hP:s.pools[k]?=some P) (l:Lin) (hl:P.hs[t]?=some l) :
  Calls Tryz.prog 165 #[.agg (qS s),.agg (qA a),.agg #[.int .i64 k,.int .i64 n]] w fun e w'=>e=.returned (.tuple #[])∧Qac B w' (s.upP k (P.line n a.sure t))∧Mut B w w':=by
 obtain⟨w2,hw2,hb2,hx2,hy2,hz2,hsz2⟩:=Qev w (qS s) (qA a) #[.int .i64 k,.int .i64 n];obtain⟨HW2,HB2⟩:=Qmj hw2 hb2;obtain⟨gp,egp,hgB,⟨C,hC⟩,hf,hc,-⟩:=hs.setP hP;obtain⟨gh,egh,hghB,⟨Ch,hCh⟩,hfh,hch,-⟩:=hs.setH hP hl;have hgl:=Qab hC;have hghl:=Qab hCh;obtain⟨HN,HL⟩:=Qmj hn hl;have hgp2:=egp;have hgh2:=egh;obtain⟨HT,HS⟩:=Qmj ht hs;have HX:Hid (∀W,Below w2.heap.size w2 W→W.heap[w.heap.size]?=some (.cells (qS s) 42 (0,0))∧W.heap[w.heap.size+1]?=some (.cells (qA a) 55 (0,0))∧W.heap[w.heap.size+1+1]?=some (.cells #[.int .i64 k,.int .i64 n] 132 (0,0))):=fun W hb=>⟨(hb.block _ (Qab hx2)).trans hx2,(hb.block _ (Qab hy2)).trans hy2,(hb.block _ (Qab hz2)).trans hz2⟩
 obtain⟨c0,c1,c2,c3,c4,c5⟩:=ac6 hx2;obtain⟨a0,a1,a2,a3,a4,a5,a6,a7,a8,a9,a10,a11,a12,a13,a14⟩:=QaA hy2;obtain⟨z0,z1⟩:=ac2 hz2;rw[egp]at c1;rw[ht]at a0;have k1:(k:Int)<(s.pn:Int):=by have:=(Vd.1 hP).1;have:=hs.pn;omega
 have k0:(0:Int)≤(k:Int):=by omega
 have t1:(t:Int)<(P.hl:Int):=by have:=(Vd.1 hl).1;have:=hs.hlen P (mG hP);omega
 have t0:(0:Int)≤(t:Int):=by omega
 have hPc:=fun j v h=>(hb2.cell (p:=⟨gp,k*4+j,none⟩) hgl).trans (hc j v h)
 have p0:=hPc 0 _ rfl;have p1:=hPc 1 _ rfl;have p2:=hPc 2 _ rfl;have p3:=hPc 3 _ rfl;rw[Vr]at p0;simp only[egh]at p3;obtain⟨hl2,hhl2⟩:=exq P.hl;obtain⟨hc2,hhc2⟩:=exq P.hc;obtain⟨pv,hpv⟩:=exq P.v;obtain⟨f0,hf0⟩:=exq P.f0;obtain⟨f1,hf1⟩:=exq P.f1;have HP5:=Qaa (And.intro hhl2 (And.intro hhc2 (And.intro hpv (And.intro hf0 hf1))));rw[hpv]at p0;rw[hf0]at p1;rw[hf1]at p2;rw[hhl2,hhc2]at p3;rw[hhl2]at t1;obtain⟨w3,hw3,hb3,hx3⟩:=Qag w2 #[.int .i64 pv,.int .i64 f0,.int .i64 f1,.slice (some ⟨gh,0,none⟩) hl2 hc2] 121;obtain⟨HW3,HX3,HB3⟩:=Qmk hw3 hx3 hb3;clear hw2 hb2 hx2 hy2 hz2 hf hfh hch hC hCh hc hPc egp egh ht hs hhl2 hhc2 hpv hf0 hf1 hw3 hx3 hb3;have hBle:B≤w.heap.size:=by omega
 rw[hsz2]at HX3;obtain⟨HEgp,HEgh⟩:=Qmj hgp2 hgh2;clear hgp2 hgh2;obtain⟨m,hm⟩:=exq n;obtain⟨v0,hv0⟩:=exq (wrap64 (pv+n));obtain⟨v1,hv1⟩:=exq (wrap64 (f0+m));obtain⟨HV0,HV1,HM⟩:=Qmk hv0 hv1 hm;clear hm hv1;have hv1:wrap64 (f0+n)=v1:=by rw[HM.out];exact HV1.out
 go_enter Tryz.func165,Tryz.ntmps165;go_upto_region 1 with (fail);rw[HW2.out];go_upto_region 7 with (fail);rw[HW3.out];clear c0 c1 c2 c3 c4 c5 a0 a1 a2 a3 a4 a5 a6 a7 a8 a9 a10 a11 a12 a13 a14 z0 z1 p0 p1 p2 p3;obtain⟨hx,hy,hz⟩:=HX.out w3 HB3.out;obtain⟨c0,c1,c2,c3,c4,c5⟩:=ac6 hx;obtain⟨a0,a1,a2,a3,a4,a5,a6,a7,a8,a9,a10,a11,a12,a13,a14⟩:=QaA hy;obtain⟨z0,z1⟩:=ac2 hz;rw[HEgp.out]at c1;rw[HT.out]at a0;clear hx hy hz;have x0:w3.cell? ⟨w.heap.size+1+1+1,0,none⟩=some (.int .i64 pv):=by rw[cRq HX3.out];rfl
 have x1:w3.cell? ⟨w.heap.size+1+1+1,1,none⟩=some (.int .i64 f0):=by rw[cRq HX3.out];rfl
 have x2:w3.cell? ⟨w.heap.size+1+1+1,2,none⟩=some (.int .i64 f1):=by rw[cRq HX3.out];rfl
 have x3:w3.cell? ⟨w.heap.size+1+1+1,3,none⟩=some (.slice (some ⟨gh,0,none⟩) hl2 hc2):=by rw[cRq HX3.out];rfl
 have xf:=VN w3 (w.heap.size+1+1+1) 0 _ _ HX3.out;have xf2:=VN w3 (w.heap.size+1+1+1) 1 _ _ HX3.out
 have HX4:Hid (((w3.setCell ⟨w.heap.size+1+1+1,0,none⟩ (.int .i64 v0)).setCell ⟨w.heap.size+1+1+1,1,none⟩ (.int .i64 v1)).heap[w.heap.size+1+1+1]?=some (.cells #[.int .i64 v0,.int .i64 v1,.int .i64 f1,.slice (some ⟨gh,0,none⟩) hl2 hc2] 121 (0,0))):=by
  have h1:=Vx w3 (w.heap.size+1+1+1) 0 _ _ (.int .i64 v0) HX3.out;exact Vx _ (w.heap.size+1+1+1) 1 _ _ (.int .i64 v1) h1
 have HB4:Hid (Below (w.heap.size+1+1+1) w2 ((w3.setCell ⟨w.heap.size+1+1+1,0,none⟩ (.int .i64 v0)).setCell ⟨w.heap.size+1+1+1,1,none⟩ (.int .i64 v1))):=by have h:=HB3.out;rw[hsz2]at h;exact(h.setCell (p:=⟨w.heap.size+1+1+1,0,none⟩) (Va _) _).setCell (p:=⟨w.heap.size+1+1+1,1,none⟩) (Va _) _
 go_upto_region 9 with (fail);obtain⟨w4,hw4⟩:=exq ((w3.setCell ⟨w.heap.size+1+1+1,0,none⟩ (.int .i64 v0)).setCell ⟨w.heap.size+1+1+1,1,none⟩ (.int .i64 v1));rw[hw4]at HX4 HB4 ⊢;clear hw4 x0 x1 x2 x3 xf xf2 hv0 hv1;have HBw:Hid (Below w.heap.size w w4):=HB2.out.trans (HB4.out.mono (by omega));have HS4:Hid (Qac B w4 s):=HS.out.below HBw.out;have HY4:=Qaa (HX.out w4 (by rw[hsz2];exact HB4.out));have hPhv:P.hv=.slice (some ⟨gh,0,none⟩) hl2 hc2:=by unfold Pl.hv;rw[HEgh.out,HP5.out.1,HP5.out.2.1]
 have HPhv:=Qaa hPhv;obtain⟨sv,hsv⟩:=exq a.sure;have HSv:=Qaa hsv;clear hPhv hsv c0 c1 c2 c3 c4 c5 a0 a1 a2 a3 a4 a5 a6 a7 a8 a9 a10 a11 a12 a13 a14 z0 z1
 cases sv with
 | false =>
  obtain⟨hx,hy,hz⟩:=HY4.out;obtain⟨c0,c1,c2,c3,c4,c5⟩:=ac6 hx;obtain⟨a0,a1,a2,a3,a4,a5,a6,a7,a8,a9,a10,a11,a12,a13,a14⟩:=QaA hy;obtain⟨z0,z1⟩:=ac2 hz;rw[HEgp.out]at c1;rw[HT.out]at a0;rw[HSv.out]at a3;clear hx hy hz;have x0:w4.cell? ⟨w.heap.size+1+1+1,0,none⟩=some (.int .i64 v0):=by rw[cRq HX4.out];rfl
  have x1:w4.cell? ⟨w.heap.size+1+1+1,1,none⟩=some (.int .i64 v1):=by rw[cRq HX4.out];rfl
  have x2:w4.cell? ⟨w.heap.size+1+1+1,2,none⟩=some (.int .i64 f1):=by rw[cRq HX4.out];rfl
  have x3:w4.cell? ⟨w.heap.size+1+1+1,3,none⟩=some (.slice (some ⟨gh,0,none⟩) hl2 hc2):=by rw[cRq HX4.out];rfl
  have xf:=VN w4 (w.heap.size+1+1+1) 2 _ _ HX4.out;obtain⟨v2,hv2⟩:=exq (wrap64 (f1 - m));have HV2:=Qaa hv2;clear hv2;have hv2:wrap64 (f1 - n)=v2:=by rw[HM.out];exact HV2.out
  go_upto_region 12 with (fail);obtain⟨w5,hw5⟩:=exq (w4.setCell ⟨w.heap.size+1+1+1,2,none⟩ (.int .i64 v2));have HX5:Hid (w5.heap[w.heap.size+1+1+1]?=some (.cells #[.int .i64 v0,.int .i64 v1,.int .i64 v2,.slice (some ⟨gh,0,none⟩) hl2 hc2] 121 (0,0))):=by show _=_;rw[←hw5];exact Vx w4 (w.heap.size+1+1+1) 2 _ _ (.int .i64 v2) HX4.out
  have HB5:Hid (Below (w.heap.size+1+1+1) w2 w5):=by show Below _ _ _;rw[←hw5];exact HB4.out.setCell (p:=⟨w.heap.size+1+1+1,2,none⟩) (Va _) _
  rw[hw5];clear hw5 x0 x1 x2 x3 xf hv2 c0 c1 c2 c3 c4 c5 a0 a1 a2 a3 a4 a5 a6 a7 a8 a9 a10 a11 a12 a13 a14 z0 z1;have HBx:Hid (Below w.heap.size w w5):=HB2.out.trans (HB5.out.mono (by omega));have HS5:Hid (Qac B w5 s):=HS.out.below HBx.out;have HY5:=Qaa (HX.out w5 (by rw[hsz2];exact HB5.out));have HM5:Hid (Mut B w w5):=⟨HBx.out.mono hBle,fun j _ _ hk _=>(HBx.out.block j (Qab hk)).trans hk⟩;obtain⟨hx,hy,hz⟩:=HY5.out;obtain⟨c0,c1,c2,c3,c4,c5⟩:=ac6 hx;obtain⟨a0,a1,a2,a3,a4,a5,a6,a7,a8,a9,a10,a11,a12,a13,a14⟩:=QaA hy;obtain⟨z0,z1⟩:=ac2 hz;rw[HEgp.out]at c1;rw[HT.out]at a0;rw[HSv.out]at a3;clear hx hy hz;have x0:w5.cell? ⟨w.heap.size+1+1+1,0,none⟩=some (.int .i64 v0):=by rw[cRq HX5.out];rfl
  have x1:w5.cell? ⟨w.heap.size+1+1+1,1,none⟩=some (.int .i64 v1):=by rw[cRq HX5.out];rfl
  have x2:w5.cell? ⟨w.heap.size+1+1+1,2,none⟩=some (.int .i64 v2):=by rw[cRq HX5.out];rfl
  have x3:w5.cell? ⟨w.heap.size+1+1+1,3,none⟩=some (.slice (some ⟨gh,0,none⟩) hl2 hc2):=by rw[cRq HX5.out];rfl
  obtain⟨-,⟨C5,hC5⟩,hf5,hc5⟩:=HS5.out.poolRow hP HEgp.out;have r0:=hc5 0 _ rfl;have r1:=hc5 1 _ rfl;have r2:=hc5 2 _ rfl;have r3:=hc5 3 _ rfl;rw[Vr]at r0;have e0:=hf5 (k*4);have e1:=hf5 (k*4+1);have e2:=hf5 (k*4+2);have e3:=hf5 (k*4+3);have HE:=Qaa (HS5.out.setAll hP HEgp.out v0 v1 v2);have hhv:(P).hv=.slice (some ⟨gh,0,none⟩) hl2 hc2:=HPhv.out;rw[hhv]at HE;have HMe:=Qaa (HM5.out.set4 hC5 (Or.inl rfl) hgB (k*4) (k*4+1) (k*4+2) (k*4+3) (.int .i64 v0) (.int .i64 v1) (.int .i64 v2) (.slice (some ⟨gh,0,none⟩) hl2 hc2));clear hf5 hc5 hC5 hhv;go_wp2;go_end0;refine⟨rfl,?_,HMe.out⟩;have h:=HE.out;have e:P.line n a.sure t={ P with v:=v0,f0:=v1,f1:=v2 }:=by unfold Pl.line;rw[if_neg (show ¬n<0 from by have:=HN.out;omega),HSv.out,if_neg (by simp),HP5.out.2.2.1,HP5.out.2.2.2.1,HP5.out.2.2.2.2,HV0.out,HM.out,HV1.out,HV2.out]
  rw[e];exact h
 | true =>
  obtain⟨g2,eg2,-,⟨Ch2,hCh2⟩,hfh2,hch2,hsth⟩:=HS4.out.setH hP HL.out;obtain rfl:gh=g2:=by have h1:=eg2;rw[HEgh.out]at h1;cases h1;rfl
  have q0:=hch2 1 _ rfl;have qz:=hfh2 (t*2+1);obtain⟨v2,hv2⟩:=exq (wrap64 (l.n - m));have HV2:=Qaa hv2;have hu2:IntKind.i64.wrap (l.n - m)=v2:=by rw[←hv2];exact Qaq _
  clear hv2 hu2;have hu2:IntKind.i64.wrap (l.n - n)=v2:=by rw[←HV2.out,←HM.out];exact Qaq _
  have HS5:Hid (Qac B (w4.setCell ⟨gh,t*2+1,none⟩ (.int .i64 v2)).drew (s.upP k { P with hs:=P.hs.set t ⟨l.c,v2⟩ })):=(hsth 1 ⟨l.c,v2⟩ (.int .i64 v2) (by omega) rfl).below (bR.drew);have HM5:Hid (Mut B w (w4.setCell ⟨gh,t*2+1,none⟩ (.int .i64 v2)).drew):=(Mut.set (W:=w) ⟨HBw.out.mono hBle,fun j _ _ hk _=>(HBw.out.block j (Qab hk)).trans hk⟩ hCh2 (Or.inr (Or.inl rfl)) hghB _ _).drew;have HX5:Hid ((w4.setCell ⟨gh,t*2+1,none⟩ (.int .i64 v2)).drew.heap[w.heap.size+1+1+1]?=some (.cells #[.int .i64 v0,.int .i64 v1,.int .i64 f1,.slice (some ⟨gh,0,none⟩) hl2 hc2] 121 (0,0))):=by show (w4.setCell ⟨gh,t*2+1,none⟩ (.int .i64 v2)).heap[w.heap.size+1+1+1]?=_;rw[Ve _ _ _ _ (by show w.heap.size+1+1+1≠gh;omega)];exact HX4.out
  have HY5:Hid ((w4.setCell ⟨gh,t*2+1,none⟩ (.int .i64 v2)).drew.heap[w.heap.size]?=some (.cells (qS s) 42 (0,0))∧(w4.setCell ⟨gh,t*2+1,none⟩ (.int .i64 v2)).drew.heap[w.heap.size+1]?=some (.cells (qA a) 55 (0,0))∧(w4.setCell ⟨gh,t*2+1,none⟩ (.int .i64 v2)).drew.heap[w.heap.size+1+1]?=some (.cells #[.int .i64 k,.int .i64 n] 132 (0,0))):=⟨by show (w4.setCell ⟨gh,t*2+1,none⟩ (.int .i64 v2)).heap[_]?=_;rw[Ve _ _ _ _ (by show w.heap.size≠gh;omega)];exact HY4.out.1,by show (w4.setCell ⟨gh,t*2+1,none⟩ (.int .i64 v2)).heap[_]?=_;rw[Ve _ _ _ _ (by show w.heap.size+1≠gh;omega)];exact HY4.out.2.1,by show (w4.setCell ⟨gh,t*2+1,none⟩ (.int .i64 v2)).heap[_]?=_;rw[Ve _ _ _ _ (by show w.heap.size+1+1≠gh;omega)];exact HY4.out.2.2⟩;have hP1:(s.upP k { P with hs:=P.hs.set t ⟨l.c,v2⟩ }).pools[k]?=some { P with hs:=P.hs.set t ⟨l.c,v2⟩ }:=Vn (Vd.1 hP).1;have HP1:=Qaa hP1;obtain⟨hx,hy,hz⟩:=HY4.out;obtain⟨c0,c1,c2,c3,c4,c5⟩:=ac6 hx;obtain⟨a0,a1,a2,a3,a4,a5,a6,a7,a8,a9,a10,a11,a12,a13,a14⟩:=QaA hy;obtain⟨z0,z1⟩:=ac2 hz;rw[HEgp.out]at c1;rw[HT.out]at a0;rw[HSv.out]at a3;clear hx hy hz;have x0:w4.cell? ⟨w.heap.size+1+1+1,0,none⟩=some (.int .i64 v0):=by rw[cRq HX4.out];rfl
  have x1:w4.cell? ⟨w.heap.size+1+1+1,1,none⟩=some (.int .i64 v1):=by rw[cRq HX4.out];rfl
  have x2:w4.cell? ⟨w.heap.size+1+1+1,2,none⟩=some (.int .i64 f1):=by rw[cRq HX4.out];rfl
  have x3:w4.cell? ⟨w.heap.size+1+1+1,3,none⟩=some (.slice (some ⟨gh,0,none⟩) hl2 hc2):=by rw[cRq HX4.out];rfl
  have hne:¬gh=w.heap.size+1+1+1:=by omega
  have hne2:¬gh=w.heap.size+1:=by omega
  clear hsth hch2 hfh2 hCh2 eg2 hP1;go_upto_region 10 with (fail);refine Vi ?_;refine Vf (S:=(fun w'=>w'.cell? ⟨w.heap.size+1+1+1,3,none⟩=some (.slice (some ⟨gh,0,none⟩) hl2 hc2)∧w'.cell? ⟨w.heap.size+1,0,none⟩=some (.int .i64 t))) (by kernel_rfl) (by go_keep) (fun hHeld=>?_);refine tkk 0 ?_;refine tkk 1 ?_;refine tkk 2 ?_;refine tkk 3 ?_;refine tkk 4 ?_;refine tkk 5 ?_;refine tkk 6 ?_;refine tkk 7 ?_;refine tkk 8 ?_;refine tkk 9 ?_;refine tkk 10 ?_;refine tkk 11 ?_;refine tkk 12 ?_;refine tkk 13 ?_;refine tkk 15 ?_;refine tkk 17 ?_;refine rdy 14 (fun KK hKK=>?_);go_simp;refine hKK.out _ _ (by(try dsimp only);go_keep) (fun hHeld=>?_);clear hKK KK;try simp only[Act.put,qzs,qz0,qz1]
  refine tkk 16 ?_;refine tkk 18 ?_;refine rdy 19 (fun KK hKK=>?_);go_simp;refine hKK.out _ _ (by(try dsimp only);go_keep) (fun hHeld=>?_);clear hKK KK;try simp only[Act.put,qzs,qz0,qz1]
  refine Vp (by kernel_rfl) (Vj ?_) _;go_upto_region 12 with (fail);obtain⟨w5,hw5⟩:=exq ((w4.setCell ⟨gh,t*2+1,none⟩ (.int .i64 v2)).drew);rw[hw5]at HS5 HM5 HX5 HY5 ⊢;clear hw5 q0 qz hu2 x0 x1 x2 x3 c0 c1 c2 c3 c4 c5 a0 a1 a2 a3 a4 a5 a6 a7 a8 a9 a10 a11 a12 a13 a14 z0 z1;obtain⟨hx,hy,hz⟩:=HY5.out;obtain⟨c0,c1,c2,c3,c4,c5⟩:=ac6 hx;obtain⟨a0,a1,a2,a3,a4,a5,a6,a7,a8,a9,a10,a11,a12,a13,a14⟩:=QaA hy;obtain⟨z0,z1⟩:=ac2 hz;rw[HEgp.out]at c1;rw[HT.out]at a0;rw[HSv.out]at a3;clear hx hy hz;have x0:w5.cell? ⟨w.heap.size+1+1+1,0,none⟩=some (.int .i64 v0):=by rw[cRq HX5.out];rfl
  have x1:w5.cell? ⟨w.heap.size+1+1+1,1,none⟩=some (.int .i64 v1):=by rw[cRq HX5.out];rfl
  have x2:w5.cell? ⟨w.heap.size+1+1+1,2,none⟩=some (.int .i64 f1):=by rw[cRq HX5.out];rfl
  have x3:w5.cell? ⟨w.heap.size+1+1+1,3,none⟩=some (.slice (some ⟨gh,0,none⟩) hl2 hc2):=by rw[cRq HX5.out];rfl
  obtain⟨-,⟨C5,hC5⟩,hf5,hc5⟩:=HS5.out.poolRow HP1.out HEgp.out;have r0:=hc5 0 _ rfl;have r1:=hc5 1 _ rfl;have r2:=hc5 2 _ rfl;have r3:=hc5 3 _ rfl;rw[Vr]at r0;have e0:=hf5 (k*4);have e1:=hf5 (k*4+1);have e2:=hf5 (k*4+2);have e3:=hf5 (k*4+3);have HE:=Qaa (HS5.out.setAll HP1.out HEgp.out v0 v1 f1);have hhv:({ P with hs:=P.hs.set t ⟨l.c,v2⟩ }).hv=.slice (some ⟨gh,0,none⟩) hl2 hc2:=HPhv.out;rw[hhv]at HE;have HMe:=Qaa (HM5.out.set4 hC5 (Or.inl rfl) hgB (k*4) (k*4+1) (k*4+2) (k*4+3) (.int .i64 v0) (.int .i64 v1) (.int .i64 f1) (.slice (some ⟨gh,0,none⟩) hl2 hc2));clear hf5 hc5 hC5 hhv;go_wp2;go_end0;refine⟨rfl,?_,HMe.out⟩;have h:=HE.out;have e:P.line n a.sure t={ P with v:=v0,f0:=v1,f1:=f1,hs:=P.hs.set t ⟨l.c,v2⟩ }:=by unfold Pl.line;rw[if_neg (show ¬n<0 from by have:=HN.out;omega),HSv.out,if_pos rfl,HP5.out.2.2.1,HP5.out.2.2.2.1,HL.out];simp only[Option.getD_some];rw[HV0.out,HM.out,HV1.out,HV2.out];rw[HP5.out.2.2.2.2]
  rw[e];have up:(s.upP k { P with hs:=P.hs.set t ⟨l.c,v2⟩ }).upP k { P with v:=v0,f0:=v1,f1:=f1,hs:=P.hs.set t ⟨l.c,v2⟩ } = s.upP k { P with v:=v0,f0:=v1,f1:=f1,hs:=P.hs.set t ⟨l.c,v2⟩ }:=by unfold Sta.upP;simp only[List.set_set]
  rw[←up];exact h
theorem QiO (w:World) (B:Nat) (s:Sta) (hs:Qac B w s) (a:Acd) (t:Nat) (ht:a.till=(t:Int)) (k:Nat) (n:Int) (P:Pl) (hP:s.pools[k]?=some P) (hl:t<P.hl) :
  Calls Tryz.prog 165 #[.agg (qS s),.agg (qA a),.agg #[.int .i64 k,.int .i64 n]] w fun e w'=>e=.returned (.tuple #[])∧Qac B w' (s.upP k (P.line n a.sure t))∧Mut B w w':=by
 obtain⟨l,hl⟩:∃l,P.hs[t]?=some l:=⟨_,gE (by rw[hs.hlen P (mG hP)];exact hl)⟩;by_cases hn:n<0
 ·exact Qig w B s hs a t ht k n hn P hP l hl
 ·exact Qir w B s hs a t ht k n hn P hP l hl
end Go.Proofs.YtiogibfhafoapaaGreat
namespace Go.Proofs.YtiogibfhafoapaaGreat
open Go.RowKit
open Z (Sli QaE Acd Qad Eda QaP Elt)
def Sta.lineAt (s:Sta) (x:Lin) (sure:Bool) (t:Nat):Sta:=s.upP x.c.toNat ((s.pools.getD x.c.toNat pl0).line x.n sure t)
def Sta.shiftAt (s:Sta) (t:Nat) (c w n:Int):Sta:=s.upP c.toNat ((s.pools.getD c.toNat pl0).shift t w n)
def Sta.setPr (s:Sta) (x:Tri):Sta:={ s with prices:=s.prices.set x.a.toNat ⟨x.n,x.b⟩ }
def Sta.setOw (s:Sta) (t:Nat) (b:Bool):Sta:={ s with owed:=s.owed.set t b }
def Sta.setGen (s:Sta) (t:Nat) (g:Int):Sta:={ s with gen:=s.gen.set t g }
def Sta.setLast (s:Sta) (t:Nat) (g:Int):Sta:={ s with last:=s.last.set t g }
def QcA (s:Sta) (e:Eda):Sta :=
 let t:=e.ac.till.toNat;let s1:=e.made.xs.foldl (fun s x=>s.lineAt x e.ac.sure t) s;let s2:=e.sets.xs.foldl Sta.setPr s1;let s3:=if e.oc=4 then s2.shiftAt t e.ac.ra e.ac.rb e.n else s2
 if ¬e.oc=5 then s3
 else if e.ac.kind=3 then s3.shiftAt t e.ac.ra e.ac.rb (wrap64 (-e.ac.rd))
 else if e.ac.kind=4 then (s3.shiftAt t e.ac.ra e.ac.rb (wrap64 (-e.ac.rd))).shiftAt e.ac.to.toNat e.ac.ra e.ac.rb e.ac.rd
 else if e.ac.kind=5 then (e.ac.rights.xs.foldl (fun s x=>s.shiftAt t x.a x.b (wrap64 (-x.n))) s3).setOw t false
 else s3
structure Qbv (s s':Sta):Prop where
 arr:s'.arr=s.arr
 pn:s'.pn=s.pn
 rn:s'.rn=s.rn
 on:s'.on=s.on
 hl:∀k:Nat,(s'.pools[k]?).map Pl.hl=(s.pools[k]?).map Pl.hl
theorem Qbv.refl (s:Sta):Qbv s s:=⟨rfl,rfl,rfl,rfl,fun _=>rfl⟩
theorem Qbv.trans {s s1 s2:Sta} (h:Qbv s s1) (h2:Qbv s1 s2):Qbv s s2:=⟨h2.arr.trans h.arr,h2.pn.trans h.pn,h2.rn.trans h.rn,h2.on.trans h.on,fun k=>(h2.hl k).trans (h.hl k)⟩
theorem Qbv.up {s:Sta} {k:Nat} {P P':Pl} (hP:s.pools[k]?=some P) (hh:P'.hl=P.hl):Qbv s (s.upP k P'):=by
 refine⟨rfl,rfl,rfl,rfl,fun j=>?_⟩;unfold Sta.upP;simp only;by_cases h:k=j
 ·subst h;rw[Vn (Vd.1 hP).1,hP];simp[hh]
 ·rw[VR h]
theorem Qbv.rgH {s s':Sta} (h:Qbv s s') {t:Nat} (ht:RgH s t):RgH s' t:=fun p hp=>by
 obtain⟨k,hk⟩:=List.mem_iff_getElem?.1 hp;have h1:=h.hl k;rw[hk]at h1
 cases h2:s.pools[k]? with
 | none=>rw[h2]at h1;simp at h1
 | some q=>rw[h2]at h1;simp at h1;rw[h1];exact ht q (mG h2)
theorem Qbv.rgL {s s':Sta} (h:Qbv s s') {x:Lin} (hx:RgL s x):RgL s' x:=by obtain⟨k,e,hk⟩:=hx;exact⟨k,e,by rw[h.pn];exact hk⟩
theorem Qbv.rgT {s s':Sta} (h:Qbv s s') {x:Tri} (hx:RgT s x):RgT s' x:=by obtain⟨⟨k,e,hk⟩,hq⟩:=hx;exact⟨⟨k,e,by rw[h.pn];exact hk⟩,hq⟩
theorem Qbv.rgP {s s':Sta} (h:Qbv s s') {x:Tri} (hx:RgP s x):RgP s' x:=by obtain⟨k,e,hk⟩:=hx;exact⟨k,e,by rw[h.rn];exact hk⟩
theorem QkV (P:Pl) (n:Int) (sure:Bool) (t:Nat):(P.line n sure t).hl=P.hl:=by unfold Pl.line;split <;> split <;> rfl
theorem Qkq (P:Pl) (t:Nat) (w n:Int):(P.shift t w n).hl=P.hl:=by unfold Pl.shift;split <;> rfl
theorem Qi2 {s:Sta} (hpn:s.pools.length=s.pn) {k:Nat} (hk:k<s.pn):∃P,s.pools[k]?=some P∧s.pools.getD k pl0=P:=by
 refine⟨_,gE (by rw[hpn];exact hk),?_⟩;rw[Vu,gE (by rw[hpn];exact hk)];rfl
theorem QjW (w:World) (B:Nat) (s0 s:Sta) (hs:Qac B w s) (hsm:Qbv s0 s) (a:Acd) (t:Nat) (ht:a.till=(t:Int)) (hth:RgH s t) (x:Lin) (hx:RgL s x) :
  Calls Tryz.prog 165 #[.agg (qS s0),.agg (qA a),.agg #[.int .i64 x.c,.int .i64 x.n]] w fun e w'=>e=.returned (.tuple #[])∧Qac B w' (s.lineAt x a.sure t)∧Qbv s0 (s.lineAt x a.sure t)∧Mut B w w':=by
 obtain⟨k,hk,hkn⟩:=hx;obtain⟨P,hP,hD⟩:=Qi2 hs.pn hkn;have e:s.lineAt x a.sure t=s.upP k (P.line x.n a.sure t):=by unfold Sta.lineAt;rw[hk,Vv,hD]
 have h:=QiO w B s hs a t ht k x.n P hP (hth P (mG hP));rw[show (qS s)=s0.arr from hsm.arr,←hk]at h;exact h.mono (fun _ _ ⟨h1,h2,h3⟩=>⟨h1,by rw[e];exact h2,by rw[e];exact hsm.trans (Qbv.up hP (QkV _ _ _ _)),h3⟩)
theorem Qcu (w:World) (B:Nat) (s0 s:Sta) (hs:Qac B w s) (hsm:Qbv s0 s) (t:Nat) (hth:RgH s t) (c wy n:Int) (hx:RgT s ⟨c,wy,n⟩) :
  Calls Tryz.prog 166 #[.agg (qS s0),.int .i64 t,.int .i64 c,.int .i64 wy,.int .i64 n] w fun e w'=>e=.returned (.tuple #[])∧Qac B w' (s.shiftAt t c wy n)∧Qbv s0 (s.shiftAt t c wy n)∧Mut B w w':=by
 obtain⟨⟨k,hk,hkn⟩,hq⟩:=hx;simp only at hk hq;obtain⟨P,hP,hD⟩:=Qi2 hs.pn hkn;have e:s.shiftAt t c wy n=s.upP k (P.shift t wy n):=by unfold Sta.shiftAt;rw[hk,Vv,hD]
 have h:=QhX w B s hs t k wy hq n P hP (hth P (mG hP));rw[show (qS s)=s0.arr from hsm.arr,←hk]at h;exact h.mono (fun _ _ ⟨h1,h2,h3⟩=>⟨h1,by rw[e];exact h2,by rw[e];exact hsm.trans (Qbv.up hP (Qkq _ _ _ _)),h3⟩)
theorem Qac.setR {B:Nat} {W:World} {s:Sta} (h:Qac B W s) {k:Nat} {q:Lin} (hq:s.prices[k]?=some q):∃g,s.rp=some ⟨g,0,none⟩∧B≤g∧(∃C,W.heap[g]?=some (.cells C 123 (0,0)))∧(∀j,W.frozen? ⟨g,j,none⟩=false)∧(∀j v,(Qal q)[j]?=some v→W.cell? ⟨g,k*2+j,none⟩=some v) ∧
  ∀x n:Int,Qac B ((W.setCell ⟨g,k*2,none⟩ (.int .i64 x)).setCell ⟨g,k*2+1,none⟩ (.int .i64 n)) { s with prices:=s.prices.set k ⟨x,n⟩ }:=by
 obtain⟨g,e,hB,⟨C,hC⟩,hf,_⟩:=QbH h.prices (QaF (f:=Qal) (sz:=2) (fun _=>rfl) s.prices k 0 q _ hq rfl);refine⟨g,e,hB,⟨C,hC⟩,hf,fun j v hv=>?_,fun x n=>?_⟩
 ·obtain⟨g',e',_,_,_,p⟩:=QbH h.prices (QaF (f:=Qal) (sz:=2) (fun _=>rfl) s.prices k j q v hq hv)
  rw[e]at e';cases e';exact p
 ·have hC1:=Vx W g (k*2) _ _ (.int .i64 x) hC
  have K:∀(B' k' n':Nat) (t:TypeId) (u:Value) (ys:List Value),W.ownsRow B' t k' u n' ys→123≠t→((W.setCell ⟨g,k*2,none⟩ (.int .i64 x)).setCell ⟨g,k*2+1,none⟩ (.int .i64 n)).ownsRow B' t k' u n' ys:=fun B' k' n' t u ys hr ht=>Z.owns_set (Z.owns_set hr hC ht) hC1 ht
  refine⟨h.pn,K _ _ _ _ _ _ h.pools (by decide),h.hlen,fun y hy=>K _ _ _ _ _ _ (h.held y hy) (by decide),h.apart,by simp only[VP];exact h.rn,?_,h.ln,K _ _ _ _ _ _ h.last (by decide),h.gn,K _ _ _ _ _ _ h.gen (by decide),h.on,K _ _ _ _ _ _ h.owed (by decide),h.lg⟩;have h0:=h.prices;rw[e]at h0;have h1:=Qjg h0 hq x;have h2:=Qgh h1 (QdJ hq _) n;rw[List.set_set,←e]at h2;exact h2
theorem Qac.setO {B:Nat} {W:World} {s:Sta} (h:Qac B W s) {k:Nat} {q:Bool} (hq:s.owed[k]?=some q):∃g,s.op=some ⟨g,0,none⟩∧B≤g∧(∃C,W.heap[g]?=some (.cells C 4 (0,0)))∧(∀j,W.frozen? ⟨g,j,none⟩=false)∧W.cell? ⟨g,k,none⟩=some (.bool q) ∧
  ∀b:Bool,Qac B (W.setCell ⟨g,k,none⟩ (.bool b)) (s.setOw k b):=by
 have hg:=QaF (f:=QdE) (sz:=1) (fun _=>rfl) s.owed k 0 q _ hq rfl;rw[Nat.mul_one,Vr]at hg;obtain⟨g,e,hB,⟨C,hC⟩,hf,p⟩:=QbH h.owed hg;refine⟨g,e,hB,⟨C,hC⟩,hf,p,fun b=>?_⟩;have K:∀(B' k' n':Nat) (t:TypeId) (u:Value) (ys:List Value),W.ownsRow B' t k' u n' ys→4≠t→(W.setCell ⟨g,k,none⟩ (.bool b)).ownsRow B' t k' u n' ys:=fun B' k' n' t u ys hr ht=>Z.owns_set hr hC ht
 refine⟨h.pn,K _ _ _ _ _ _ h.pools (by decide),h.hlen,fun y hy=>K _ _ _ _ _ _ (h.held y hy) (by decide),h.apart,h.rn,K _ _ _ _ _ _ h.prices (by decide),h.ln,K _ _ _ _ _ _ h.last (by decide),h.gn,K _ _ _ _ _ _ h.gen (by decide),by unfold Sta.setOw;simp only[VP];exact h.on,?_,h.lg⟩;have h0:=h.owed;rw[e]at h0;have h1:=Qbm (k:=k) h0 (.bool b);have h2:=QbC (f:=QdE) (sz:=1) (fun _=>rfl) s.owed k 0 q b (.bool b) hq (by omega) rfl;rw[Nat.mul_one,Vr]at h2;rw[h2,←e]at h1;exact h1
theorem Qac.setG {B:Nat} {W:World} {s:Sta} (h:Qac B W s) {k:Nat} {q:Int} (hq:s.gen[k]?=some q):∃g,s.gp=some ⟨g,0,none⟩∧B≤g∧(∃C,W.heap[g]?=some (.cells C 36 (0,0)))∧(∀j,W.frozen? ⟨g,j,none⟩=false)∧W.cell? ⟨g,k,none⟩=some (.int .u64 q) ∧
  ∀n:Int,Qac B (W.setCell ⟨g,k,none⟩ (.int .u64 n)) (s.setGen k n):=by
 have hg:=QaF (f:=uc) (sz:=1) (fun _=>rfl) s.gen k 0 q _ hq rfl;rw[Nat.mul_one,Vr]at hg;obtain⟨g,e,hB,⟨C,hC⟩,hf,p⟩:=QbH h.gen hg;refine⟨g,e,hB,⟨C,hC⟩,hf,p,fun n=>?_⟩;have K:∀(B' k' n':Nat) (t:TypeId) (u:Value) (ys:List Value),W.ownsRow B' t k' u n' ys→36≠t→(W.setCell ⟨g,k,none⟩ (.int .u64 n)).ownsRow B' t k' u n' ys:=fun B' k' n' t u ys hr ht=>Z.owns_set hr hC ht
 refine⟨h.pn,K _ _ _ _ _ _ h.pools (by decide),h.hlen,fun y hy=>K _ _ _ _ _ _ (h.held y hy) (by decide),h.apart,h.rn,K _ _ _ _ _ _ h.prices (by decide),h.ln,Z.owns_grown h.last (Z.set_grown W g _ _) (fun g' e1 e2=>by cases e2;exact h.lg g e1 (by rw[e];rfl)),by unfold Sta.setGen;simp only[VP];exact h.gn,?_,h.on,K _ _ _ _ _ _ h.owed (by decide),h.lg⟩;have h0:=h.gen;rw[e]at h0;have h1:=Qbm (k:=k) h0 (.int .u64 n);have h2:=QbC (f:=uc) (sz:=1) (fun _=>rfl) s.gen k 0 q n (.int .u64 n) hq (by omega) rfl;rw[Nat.mul_one,Vr]at h2;rw[h2,←e]at h1;exact h1
theorem Qac.setL {B:Nat} {W:World} {s:Sta} (h:Qac B W s) {k:Nat} {q:Int} (hq:s.last[k]?=some q):∃g,s.lp=some ⟨g,0,none⟩∧B≤g∧(∃C,W.heap[g]?=some (.cells C 36 (0,0)))∧(∀j,W.frozen? ⟨g,j,none⟩=false)∧W.cell? ⟨g,k,none⟩=some (.int .u64 q) ∧
  ∀n:Int,Qac B (W.setCell ⟨g,k,none⟩ (.int .u64 n)) (s.setLast k n):=by
 have hg:=QaF (f:=uc) (sz:=1) (fun _=>rfl) s.last k 0 q _ hq rfl;rw[Nat.mul_one,Vr]at hg;obtain⟨g,e,hB,⟨C,hC⟩,hf,p⟩:=QbH h.last hg;refine⟨g,e,hB,⟨C,hC⟩,hf,p,fun n=>?_⟩;have K:∀(B' k' n':Nat) (t:TypeId) (u:Value) (ys:List Value),W.ownsRow B' t k' u n' ys→36≠t→(W.setCell ⟨g,k,none⟩ (.int .u64 n)).ownsRow B' t k' u n' ys:=fun B' k' n' t u ys hr ht=>Z.owns_set hr hC ht
 refine⟨h.pn,K _ _ _ _ _ _ h.pools (by decide),h.hlen,fun y hy=>K _ _ _ _ _ _ (h.held y hy) (by decide),h.apart,h.rn,K _ _ _ _ _ _ h.prices (by decide),by unfold Sta.setLast;simp only[VP];exact h.ln,?_,h.gn,Z.owns_grown h.gen (Z.set_grown W g _ _) (fun g' e1 e2=>by cases e2;exact h.lg g (by rw[e];rfl) e1),h.on,K _ _ _ _ _ _ h.owed (by decide),h.lg⟩;have h0:=h.last;rw[e]at h0;have h1:=Qbm (k:=k) h0 (.int .u64 n);have h2:=QbC (f:=uc) (sz:=1) (fun _=>rfl) s.last k 0 q n (.int .u64 n) hq (by omega) rfl;rw[Nat.mul_one,Vr]at h2;rw[h2,←e]at h1;exact h1
end Go.Proofs.YtiogibfhafoapaaGreat
