import Derived.Test.YtiogibfhafoapaaGreatJgE
import Derived.Test.YtiogibfhafoapaaGreatBh0
import Derived.Test.YtiogibfhafoapaaGreatDcR
import Derived.Test.YtiogibfhafoapaaGreatRtC
import Derived.ProofKit
import Derived.OpenShut
import Derived.SizedLaws
import Derived.Deep.Slices
import Derived.Test.YtiogibfhafoapaaGreatRows
set_option maxRecDepth 100000
set_option maxHeartbeats 8000000
set_option linter.unusedSimpArgs false
set_option linter.unusedVariables false
namespace Go.Proofs.YtiogibfhafoapaaGreat
open Go.RowKit
open Z (Sli QaE SlOwn Elt Acd Qad AcOwn Ctr ctc Qh4)
theorem Tryz.sizeO:(Tryz.prog.info? 57).map (·.size)=some 20:=by kernel_rfl
theorem Tryz.sizeW:(Tryz.prog.info? 61).map (·.size)=some 4:=by kernel_rfl
structure Scd where
 p:Z.Cnf
 st:Sli Stp
def Scd.arr (d:Scd):Array Value:=#[.int .i64 d.p.tills,.slice d.p.ctr.p d.p.ctr.n d.p.ctr.c,.slice d.p.prc.p d.p.prc.n d.p.prc.c,.int .i64 d.p.lease,.int .i64 d.p.watch,.int .i64 d.p.beat,.int .i64 d.p.window,.int .i64 d.p.cap,.int .i64 d.p.flight,.slice d.st.p d.st.n d.st.c]
structure Gs (w W:World) (P D:Array Value) (cb sb:Nat) (c:Cfg) (cs:List Ctr) (s:Sta):Prop where
 lb:W.heap[w.heap.size]?=some (.cells P 28 (0,0))
 kb:W.heap[cb]?=some (.cells D 34 (0,0))
 zb:W.heap[sb]?=some (.cells s.arr 42 (0,0))
 cf:∃w1,Qbp w1 c cs∧Below w1.heap.size w1 W∧w1.heap.size≤sb
 st:StG W c s
 ow:∃B,Qac B W s
 lt:w.heap.size≤sb
 bel:Below w.heap.size w W
theorem Gs.below {w W W':World} {P D:Array Value} {cb sb:Nat} {c:Cfg} {cs:List Ctr} {s:Sta} (h:Gs w W P D cb sb c cs s) (hb:Below W.heap.size W W'):Gs w W' P D cb sb c cs s:=by
 obtain⟨w1,h1,h2,h3⟩:=h.cf;obtain⟨B,h4⟩:=h.ow;exact⟨(hb.block _ (Qab h.lb)).trans h.lb,(hb.block _ (Qab h.kb)).trans h.kb,(hb.block _ (Qab h.zb)).trans h.zb,⟨w1,h1,h2.trans (hb.mono h2.size),h3⟩,h.st.below hb,⟨B,h4.below hb⟩,h.lt,h.bel.trans (hb.mono h.bel.size)⟩
theorem Gs.cfg {w W:World} {P D:Array Value} {cb sb:Nat} {c:Cfg} {cs:List Ctr} {s:Sta} (h:Gs w W P D cb sb c cs s):Qbp W c cs:=by
 obtain⟨w1,h1,h2,_⟩:=h.cf;exact h1.below h2
theorem Gs.put {w W:World} {P D:Array Value} {cb sb:Nat} {c:Cfg} {cs:List Ctr} {s r:Sta} (h:Gs w W P D cb sb c cs s) (hr:StG W c r) (ho:(∃B,Qac B W r)∨r=s):Gs w (W.setRow sb r.arr) P D cb sb c cs r:=by
 obtain⟨w1,h1,h2,h3⟩:=h.cf;obtain⟨B,h4⟩:∃B,Qac B W r:=by rcases ho with ho | rfl;exact ho;exact h.ow
 have h5:=h4.far (W':=W.setRow sb r.arr) (fun g C t hg ht=>Vz _ _ _ _ (by rintro rfl;rw[h.zb]at hg;cases hg;exact Qay rfl ht));refine⟨?_,?_,VB _ _ _ _ _ _ h.zb,⟨w1,h1,VA h2 h3 _,h3⟩,⟨h5.ok,hr.shp,hr.wf⟩,⟨B,h5⟩,h.lt,VA h.bel h.lt _⟩
 ·rw[Vz _ _ _ _ (by rintro rfl;have h6:=h.lb;rw[h.zb]at h6;cases h6)];exact h.lb
 ·rw[Vz _ _ _ _ (by rintro rfl;have h6:=h.kb;rw[h.zb]at h6;cases h6)];exact h.kb
theorem QbW {W:World} {B k n g:Nat} {e t:TypeId} {v:Value} {xs:List Value} {C:Array Value} (h:W.ownsRow B e k v n xs) (hg:W.heap[g]?=some (.cells C t (0,0))) (ht:t≠e) (E:Array Value):(W.setRow g E).ownsRow B e k v n xs :=
 Qas h (fun g2 e2=>Vz _ _ _ _ (by rintro rfl;exact Z.owns_ne h hg ht e2.symm))
theorem QhR (w:World) (s:Sta) (hs:Qae w s) (a:Acd) (ha:Qad w a) (hz:Qfe a) :
  Calls Tryz.prog 14 #[.agg s.arr,.agg a.arr] w fun e w'=>∃vp vn vc up un uc,e=.returned (.agg #[.int .i64 (Qan s a).1,.slice vp vn vc,.slice up un uc,.int .i64 (Qan s a).2.2.2])∧vn=(Qan s a).2.1.length∧un=(Qan s a).2.2.1.length∧QcS w.heap.size w' (.slice vp vn vc) (.slice up un uc) (Qan s a).2.1 (Qan s a).2.2.1∧Below w.heap.size w w':=by
 obtain⟨S,hS⟩:=exq s.arr;obtain⟨A,hA⟩:=exq a.arr;obtain⟨r,hr⟩:=exq (Qan s a);have HSz:Hid (S.size=6):=by show _=_;rw[←hS];rfl
 have HAz:Hid (A.size=15):=by show _=_;rw[←hA];rfl
 obtain⟨w2,hw2⟩:=exq (((w.alloc (.cells S 42)).alloc (.cells A 55)).alloc (.cells #[.int .i64 0,.slice none 0 0,.slice none 0 0,.int .i64 0] 61));have hb2:Below w.heap.size w w2:=by rw[←hw2];exact(((Below.refl _ w).alloc (Va _) _).alloc (by simp) _).alloc (by simp;omega) _
 have hx2:w2.heap[w.heap.size]?=some (.cells S 42 (0,0)):=by rw[←hw2,Vc _ _ _ (by simp only[Vm];omega),Vc _ _ _ (by simp)];exact hNq _ _
 have hy2:w2.heap[w.heap.size+1]?=some (.cells A 55 (0,0)):=by rw[←hw2,Vc _ _ _ (by simp)];exact VV _ _ _
 have hz2:w2.heap[w.heap.size+1+1]?=some (.cells #[.int .i64 0,.slice none 0 0,.slice none 0 0,.int .i64 0] 61 (0,0)):=by
  have h:=hNq ((w.alloc (.cells S 42)).alloc (.cells A 55)) (.cells #[.int .i64 0,.slice none 0 0,.slice none 0 0,.int .i64 0] 61);rw[hw2]at h;simp only[Vm]at h;exact h
 have HJ:=Qaa (Qiw w2 s (hs.below hb2) a (ha.below hb2) hz);rw[hS,hA,hr]at HJ;have HLs:=Qaa (lr42 hx2 (by rw[HSz.out];exact Tryz.sizeS));have HLa:=Qaa (lr55 hy2 (by rw[HAz.out];exact Z.Tryz.sizeA));obtain⟨HW2,HB2,HZ2⟩:=Qmk hw2 hb2 hz2;rw[hr,hS,hA];clear hr hS hA hs ha hz hw2 hb2 hx2 hy2 hz2;obtain⟨r1,L,M,r4⟩:=r;go_enter Tryz.func14,Tryz.ntmps14;go_upto_region 1 with (fail);rw[HW2.out]
 go_wp2_with (
  first
  | ((with_reducible refine glq 42 2 ?_);refine Z.lp_load w.heap.size 0 S rfl HLs.out ?_)
  | ((with_reducible refine glq 55 3 ?_);refine Z.lp_load (w.heap.size+1) 0 A rfl HLa.out ?_)
  | (go_at_call 42;refine HJ.out.mono ?_;rintro e w3 ⟨v,u,rfl,ht,hb3⟩;obtain⟨vp,vc,rfl⟩:=Qc0 ht.1;obtain⟨up,uc,rfl⟩:=Qc0 ht.2;obtain⟨HT,HB3⟩:=Qmj ht hb3;have HZ3:Hid (w3.heap[w.heap.size+1+1]?=some (.cells #[.int .i64 0,.slice none 0 0,.slice none 0 0,.int .i64 0] 61 (0,0))):=((hb3.block _ (Qab HZ2.out)).trans HZ2.out);have HSt:=Qaa (Z.storeAt_row (P:=Tryz.prog) (c':=#[.int .i64 r1,.slice vp L.length vc,.slice up M.length uc,.int .i64 r4]) HZ3.out Tryz.sizeW rfl (by simp[Value.oneCell']));clear ht hb3)
  | ((with_reducible refine gsq 61 4 ?_);refine Z.lp_store (t:=61) (x:=.tmp 4) (some ⟨w.heap.size+1+1,0,none⟩) (.agg #[.int .i64 r1,.slice vp L.length vc,.slice up M.length uc,.int .i64 r4]) rfl rfl HSt.out ?_)
  | fail)
 refine Vg (VF rfl _ _ (w.heap.size+1+1) 61 #[.int .i64 r1,.slice vp L.length vc,.slice up M.length uc,.int .i64 r4] (0,0) _ rfl (VB _ _ _ _ _ _ HZ3.out) Tryz.underlying61 rfl Tryz.sizeW) rfl ?_;exact⟨vp,_,vc,up,_,uc,rfl,rfl,rfl,⟨Z.owns_le (QbW HT.out.1 HZ3.out (by decide) _) HB2.out.size,Z.owns_le (QbW HT.out.2 HZ3.out (by decide) _) HB2.out.size⟩,VA (HB2.out.trans (HB3.out.mono HB2.out.size)) (by omega) _⟩
theorem Qlv {c:Cfg} {S:Sta} {B T:Nat} {W:World} {cs:List Ctr} {ps:List (ByteArray × Int)} (ho:Qac B W S) (hd:S.d=QfB T c.cl c.pl T cs ps) (hc:cs.length=c.cl) (hp:ps.length=c.pl) (ht:c.tills=(T:Int)):Shp c S:=by
 have h1:S.pools.map Pl.d=(cs.take c.cl).map (Qgc T):=Vl StP.pools hd;have h2:S.prices=(ps.take c.pl).map Qkz:=Vl StP.prices hd;have h3:S.last=List.replicate T 0:=Vl StP.last hd;have h4:S.gen=List.replicate T 0:=Vl StP.gen hd;have h5:S.owed=List.replicate T false:=Vl StP.owed hd;refine⟨?_,?_,?_,?_,?_,fun p hp'=>?_⟩
 ·have h:=Vl List.length h1
  rw[VG,VG,List.length_take,hc]at h;have:=ho.pn;omega
 ·have h:=Vl List.length h2
  rw[VG,List.length_take,hp]at h;have:=ho.rn;omega
 ·have h:=Vl List.length h3
  rw[List.length_replicate]at h;have:=ho.ln;omega
 ·have h:=Vl List.length h4
  rw[List.length_replicate]at h;have:=ho.gn;omega
 ·have h:=Vl List.length h5
  rw[List.length_replicate]at h;have:=ho.on;omega
 ·have h6:p.d∈(cs.take c.cl).map (Qgc T):=by rw[←h1];exact List.mem_map.2 ⟨p,hp',rfl⟩
  obtain⟨x,_,e⟩:=List.mem_map.1 h6;have h7:p.hs=List.replicate T ⟨0,0⟩:=(Vl PlP.hs e).symm;have h8:=ho.hlen p hp';rw[h7,List.length_replicate]at h8;omega
theorem Qlw {S:Sta} {T k m j:Nat} {cs:List Ctr} {ps:List (ByteArray × Int)} (hd:S.d=QfB T k m j cs ps) (hb:∀x∈cs,Qh4 x):Qd4 S.pools:=fun p hp=>by
 have h1:S.pools.map Pl.d=(cs.take k).map (Qgc T):=Vl StP.pools hd;have h6:p.d∈(cs.take k).map (Qgc T):=by rw[←h1];exact List.mem_map.2 ⟨p,hp,rfl⟩
 obtain⟨x,hx,e⟩:=List.mem_map.1 h6;obtain⟨b1,b2,b3,b4⟩:=hb x (List.mem_of_mem_take hx);have e1:x.st - x.lo=p.f0:=Vl PlP.f0 e;have e2:x.hi - x.st=p.f1:=Vl PlP.f1 e;exact⟨Qg9 (by show _≤p.f0∧p.f0≤_;omega),Qg9 (by show _≤p.f1∧p.f1≤_;omega)⟩
end Go.Proofs.YtiogibfhafoapaaGreat
namespace Go.Proofs.YtiogibfhafoapaaGreat.Z
open Go.RowKit Go.ChangeShapes Go.WideShapes Go.Deep
namespace Blk
theorem QlT {H:Type} (d:DataW H):1≤Rows.uptoBulk d:=by
 cases d with
 | lit l=>cases l <;> simp[Rows.uptoBulk]
 | nil=>simp[Rows.uptoBulk]
 | ptr d=>simp[Rows.uptoBulk]
 | slice elems spare=>simp[Rows.uptoBulk]
 | agg parts=>simp[Rows.uptoBulk]
 | iface t d=>simp[Rows.uptoBulk]
 | map entries=>simp[Rows.uptoBulk]
 | held h=>simp[Rows.uptoBulk]
theorem part_le {H:Type} {d:DataW H} {l:List (DataW H)} (h:d∈l):Rows.uptoBulk d≤Rows.uptoBulkAll l:=by
 induction l with
 | nil=>cases h
 | cons x r ih =>
  simp only[Rows.uptoBulkAll]
  cases List.mem_cons.1 h with
  | inl e=>subst e;omega
  | inr e=>have:=ih e;omega
theorem length_le {H:Type} (l:List (DataW H)):l.length≤Rows.uptoBulkAll l:=by
 induction l with
 | nil=>simp[Rows.uptoBulkAll]
 | cons x r ih=>have:=QlT x;simp only[Rows.uptoBulkAll,VO];omega
theorem all_sum {H:Type} (l:List (DataW H)):Rows.uptoBulkAll l=(l.map Rows.uptoBulk).sum:=by
 induction l with
 | nil=>rfl
 | cons x r ih=>simp[Rows.uptoBulkAll,ih]
theorem sum_le {α:Type} (f g:α→Nat):∀(l:List α),(∀x∈l,f x≤g x)→(l.map f).sum≤(l.map g).sum
 | [],_=>Va _
 | x :: r,h=>by
  have h1:=h x (VH);have h2:=sum_le f g r (fun y hy=>h y (Vy _ hy));simp only[List.map_cons,List.sum_cons];omega
end Blk
theorem QiH {w:World} {a:Addr} {v:Value} (h:w.cell? a=some v):∃g o,a=⟨g,o,none⟩:=by
 obtain⟨g,o,sp⟩:=a;unfold World.cell? at h
 cases sp with
 | none=>exact⟨g,o,rfl⟩
 | some x=>split at h <;> simp at h
theorem Qi6 {w:World} {p:Addr} {v:Value} (h:w.cell? p=some v):p.block<w.heap.size:=by
 unfold World.cell? at h;rcases Nat.lt_or_ge p.block w.heap.size with hl | hl
 ·exact hl
 ·rw[Array.getElem?_eq_none hl]at h;cases h
section
variable {H : Type} {enc : TypeId × Value → H} {w : World} {base : Nat} {held : Bool}
theorem Qcd {α:Type} [Inhabited α] {f:α→List Value} {sz:Nat} {t e:TypeId} (ht:Tryz.prog.underlying t=some (.slice e)) (hce:Tryz.prog.cellsOf e=sz) (hsz:0<sz) (hf:∀x,(f x).length=sz) (V:α→Prop) (g:α→Nat)
  (hopen:∀(fuel:Nat) (cs:List Value) (x:DataW H × List MemPlace),DataW.trod enc Tryz.prog w base (fun _=>true) held fuel e cs=some x→Rows.uptoBulk x.1≤1048576→∃a,cs=f a∧V a∧g a≤Rows.uptoBulk x.1)
  {fuel:Nat} {v:Value} {x:DataW H × List MemPlace} (h:DataW.trod enc Tryz.prog w base (fun _=>true) held fuel t [v]=some x) (hb:Rows.uptoBulk x.1≤1048576) :
  ∃s:Sli α,v=.slice s.p s.n s.c∧QaE w sz f s∧(∀a∈s.xs,V a)∧(s.xs.map g).sum≤Rows.uptoBulk x.1∧s.xs.length≤Rows.uptoBulk x.1∧s.n≤s.c:=by
 rcases open_slice ht h with ⟨hcs,hx⟩ | ⟨a,len,cap,m,n,D,Pl,hcs,_,hl,hm,hmm,hx,hel⟩
 ·simp at hcs
  exact⟨⟨none,0,0,[]⟩,hcs,⟨rfl,Vo _,Or.inl rfl⟩,fun a ha=>by simp at ha,Vo _,Vo _,Va _⟩
 ·simp at hcs hmm
  rw[hce]at hel;have hD:x.1=.slice ((List.range len).map D) ((List.range (m - len)).map fun j=>D (len+j)):=by rw[hx]
  have hbk:Rows.uptoBulk x.1=Rows.uptoBulkAll ((List.range len).map D)+Rows.uptoBulkAll ((List.range (m - len)).map fun j=>D (len+j))+1:=by rw[hD];rfl
  have hDb:∀i,i<len→Rows.uptoBulk (D i)≤1048576:=fun i hi=>by
   have:=Blk.part_le (List.mem_map.2 ⟨i,List.mem_range.2 hi,rfl⟩:D i∈(List.range len).map D);omega
  have hlen:len≤Rows.uptoBulk x.1:=by
   have:=Blk.length_le ((List.range len).map D);simp at this;omega
  obtain⟨q,hq⟩:=choose_lt (n:=len) (p:=fun i p=>w.cells? base (a.add (i*sz)) sz=some (f p)∧V p∧g p≤Rows.uptoBulk (D i)) (fun i hi=>by
   obtain⟨cs',h1,h2⟩:=hel i (by omega);obtain⟨p,rfl,hp,hg⟩:=hopen _ _ _ h2 (hDb i hi);exact⟨p,h1,hp,hg⟩)
  refine⟨⟨some a,len,cap,(List.range len).map q⟩,hcs,⟨by simp,by show len≤4194304;omega,?_⟩,fun z hz=>?_,?_,by simpa using hlen,hl⟩
  ·by_cases h0:len=0
   ·left;simp[h0]
   ·right
    have c0:=(World.cells?_some (hq 0 (by omega)).1).2.2 0 hsz;obtain⟨u,hu⟩:∃u,(f (q 0))[0]?=some u:=⟨_,gE (by rw[hf];exact hsz)⟩;rw[hu]at c0
    obtain⟨gg,oo,rfl⟩:∃g o,a=⟨g,o,none⟩:=by
     obtain⟨g,o,e⟩:=QiH c0;exact⟨g,o,by simpa[Addr.add] using e⟩
    refine⟨gg,oo,rfl,by have:=Qi6 c0;simpa[Addr.add_mid] using this,fun i r hr j v hv=>?_⟩
    have hi:i<len:=by
     have:=(Vd.1 hr).1;simpa using this
    rw[Vb,Vb,List.getElem?_range hi]at hr;simp at hr;subst hr
    have hj:j<sz:=by
     have:=(Vd.1 hv).1;rwa [hf]at this
    have e0:=(World.cells?_some (hq i hi).1).2.2 j hj;simp only[Addr.add_mid]at e0;rw[e0,hv]
  ·obtain⟨i,hi,rfl⟩:=List.mem_map.1 hz
   exact(hq i (List.mem_range.1 hi)).2.1
  ·have h1:=Blk.sum_le (fun i=>g (q i)) (fun i=>Rows.uptoBulk (D i)) (List.range len) (fun i hi=>(hq i (List.mem_range.1 hi)).2.2)
   have h2:Rows.uptoBulkAll ((List.range len).map D)=((List.range len).map (fun i=>Rows.uptoBulk (D i))).sum:=by rw[Blk.all_sum,List.map_map];rfl
   rw[List.map_map];show ((List.range len).map (fun i=>g (q i))).sum≤_;omega
theorem QeJ:Tryz.prog.cellsOf 3=1:=by kernel_rfl
theorem QcV:Tryz.prog.cellsOf 2=1:=by kernel_rfl
theorem QgL:Tryz.prog.cellsOf 36=1:=by kernel_rfl
theorem QlS:Tryz.prog.cellsOf 4=1:=by kernel_rfl
theorem Qfd:Tryz.prog.cellsOf 132=2:=by kernel_rfl
theorem Qef:Tryz.prog.cellsOf 73=3:=by kernel_rfl
theorem QgC:Tryz.prog.cellsOf 76=3:=by kernel_rfl
theorem Qdh:Tryz.prog.cellsOf 52=3:=by kernel_rfl
theorem Qcl:Tryz.prog.cellsOf 111=3:=by kernel_rfl
theorem Qeo:Tryz.prog.cellsOf 46=1:=by kernel_rfl
theorem QfU:Tryz.prog.cellsOf 47=1:=by kernel_rfl
theorem Qiv:Tryz.prog.cellsOf 48=1:=by kernel_rfl
theorem Qgi:Tryz.prog.cellsOf 53=1:=by kernel_rfl
theorem Qdl:Tryz.prog.cellsOf 22=1:=by kernel_rfl
theorem QkE:Tryz.prog.cellsOf 23=1:=by kernel_rfl
theorem Qe8:Tryz.prog.cellsOf 45=2:=by kernel_rfl
theorem Qex:Tryz.prog.cellsOf 50=2:=by kernel_rfl
theorem QgX:Tryz.prog.cellsOf 55=15:=by kernel_rfl
theorem QcM:Tryz.prog.cellsOf 25=9:=by kernel_rfl
theorem QcN:Tryz.prog.cellsOf 57=20:=by kernel_rfl
theorem QdP:Tryz.prog.cellsOf 26=1:=by kernel_rfl
theorem QdC:Tryz.prog.cellsOf 28=10:=by kernel_rfl
theorem len2 {l:List Value} (h:l.length=2):∃v0 v1,l=[v0,v1]:=by
 match l,h with
 | [v0,v1],_=>exact⟨v0,v1,rfl⟩
theorem Ql6 {l:List Value} (h:l.length=3):∃v0 v1 v2,l=[v0,v1,v2]:=by
 match l,h with
 | [v0,v1,v2],_=>exact⟨v0,v1,v2,rfl⟩
theorem len9 {l:List Value} (h:l.length=9):∃v0 v1 v2 v3 v4 v5 v6 v7 v8,l=[v0,v1,v2,v3,v4,v5,v6,v7,v8]:=by
 match l,h with
 | [v0,v1,v2,v3,v4,v5,v6,v7,v8],_=>exact⟨v0,v1,v2,v3,v4,v5,v6,v7,v8,rfl⟩
theorem len10 {l:List Value} (h:l.length=10):∃v0 v1 v2 v3 v4 v5 v6 v7 v8 v9,l=[v0,v1,v2,v3,v4,v5,v6,v7,v8,v9]:=by
 match l,h with
 | [v0,v1,v2,v3,v4,v5,v6,v7,v8,v9],_=>exact⟨v0,v1,v2,v3,v4,v5,v6,v7,v8,v9,rfl⟩
theorem len15 {l:List Value} (h:l.length=15):∃v0 v1 v2 v3 v4 v5 v6 v7 v8 v9 v10 v11 v12 v13 v14,l=[v0,v1,v2,v3,v4,v5,v6,v7,v8,v9,v10,v11,v12,v13,v14]:=by
 match l,h with
 | [v0,v1,v2,v3,v4,v5,v6,v7,v8,v9,v10,v11,v12,v13,v14],_=>exact⟨v0,v1,v2,v3,v4,v5,v6,v7,v8,v9,v10,v11,v12,v13,v14,rfl⟩
theorem len20 {l:List Value} (h:l.length=20):∃v0 v1 v2 v3 v4 v5 v6 v7 v8 v9 v10 v11 v12 v13 v14 v15 v16 v17 v18 v19,l=[v0,v1,v2,v3,v4,v5,v6,v7,v8,v9,v10,v11,v12,v13,v14,v15,v16,v17,v18,v19]:=by
 match l,h with
 | [v0,v1,v2,v3,v4,v5,v6,v7,v8,v9,v10,v11,v12,v13,v14,v15,v16,v17,v18,v19],_=>exact⟨v0,v1,v2,v3,v4,v5,v6,v7,v8,v9,v10,v11,v12,v13,v14,v15,v16,v17,v18,v19,rfl⟩
set_option linter.unusedVariables false
set_option linter.unusedSimpArgs false
theorem Qhr {fuel:Nat} {cs:List Value} {x:DataW H × List MemPlace} (h:DataW.trod enc Tryz.prog w base (fun _=>true) held fuel 2 cs=some x) (hb:Rows.uptoBulk x.1≤1048576):∃a:Int,cs=(fun n:Int=>[Value.int .i64 n]) a∧True∧0≤Rows.uptoBulk x.1:=by
 obtain⟨z,g,_,_⟩:=VD Tryz.underlying2 h;exact⟨z,g,trivial,Vo _⟩
theorem Qk2 {fuel:Nat} {v:Value} {x:DataW H × List MemPlace} (h:DataW.trod enc Tryz.prog w base (fun _=>true) held fuel 23 [v]=some x) (hb:Rows.uptoBulk x.1≤1048576):∃s:Sli Int,v=.slice s.p s.n s.c∧QaE w 1 (fun n:Int=>[Value.int .i64 n]) s∧(∀a∈s.xs,(fun _=>True) a)∧(s.xs.map (fun _=>0)).sum≤Rows.uptoBulk x.1∧s.xs.length≤Rows.uptoBulk x.1∧s.n≤s.c :=
 @Qcd H enc w base held Int ⟨0⟩ _ _ _ _ Tryz.underlying23 QcV (by omega) (fun _=>rfl) (V:=(fun _=>True)) (g:=(fun _=>0)) (fun _ _ _ h hb=>Qhr h hb) fuel v x h hb
theorem QiN {fuel:Nat} {cs:List Value} {x:DataW H × List MemPlace} (h:DataW.trod enc Tryz.prog w base (fun _=>true) held fuel 132 cs=some x) (hb:Rows.uptoBulk x.1≤1048576):∃a:Lin,cs=Qal a∧True∧0≤Rows.uptoBulk x.1:=by
 obtain⟨ys,n,_,rfl,hl,hlen,hf⟩:=DataW.trod_struct Tryz.underlying132 h;rw[Qfd]at hl;obtain⟨v0,v1,rfl⟩:=len2 hl;have f0:DataW.trod enc Tryz.prog w base (fun _=>true) held n 3 (([v0,v1].drop 0).take (Tryz.prog.cellsOf 3))=ys[0]?:=hf 0 _ rfl;have f1:DataW.trod enc Tryz.prog w base (fun _=>true) held n 2 (([v0,v1].drop 1).take (Tryz.prog.cellsOf 2))=ys[1]?:=hf 1 _ rfl;simp only[QeJ,QcV,List.drop_zero,List.drop_succ_cons,List.take_succ_cons,List.take_zero]at f0 f1;have hbk:Rows.uptoBulkAll (ys.map (·.1))+1≤1048576:=hb;have hy:∀i,i<2→∃y,ys[i]?=some y∧Rows.uptoBulk y.1≤Rows.uptoBulkAll (ys.map (·.1)):=fun i hi=>⟨ys[i]'(by rw[hlen];exact hi),gE _,Blk.part_le (List.mem_map.2 ⟨_,List.getElem_mem _,rfl⟩)⟩
 obtain⟨y0,e0,b0⟩:=hy 0 (by omega);rw[e0]at f0;obtain⟨z0,g0,_,w0⟩:=VD Tryz.underlying3 f0;simp only[Vw,and_true]at g0;subst g0;obtain⟨y1,e1,b1⟩:=hy 1 (by omega);rw[e1]at f1;obtain⟨z1,g1,_,w1⟩:=VD Tryz.underlying2 f1;simp only[Vw,and_true]at g1;subst g1;have htop:Rows.uptoBulk (DataW.agg (ys.map (·.1)))=Rows.uptoBulkAll (ys.map (·.1))+1:=rfl;exact⟨⟨z0,z1⟩,rfl,trivial,Vo _⟩
theorem QhI {fuel:Nat} {cs:List Value} {x:DataW H × List MemPlace} (h:DataW.trod enc Tryz.prog w base (fun _=>true) held fuel 73 cs=some x) (hb:Rows.uptoBulk x.1≤1048576):∃a:Tri,cs=Qar a∧True∧0≤Rows.uptoBulk x.1:=by
 obtain⟨ys,n,_,rfl,hl,hlen,hf⟩:=DataW.trod_struct Tryz.underlying73 h;rw[Qef]at hl;obtain⟨v0,v1,v2,rfl⟩:=Ql6 hl;have f0:DataW.trod enc Tryz.prog w base (fun _=>true) held n 3 (([v0,v1,v2].drop 0).take (Tryz.prog.cellsOf 3))=ys[0]?:=hf 0 _ rfl;have f1:DataW.trod enc Tryz.prog w base (fun _=>true) held n 3 (([v0,v1,v2].drop 1).take (Tryz.prog.cellsOf 3))=ys[1]?:=hf 1 _ rfl;have f2:DataW.trod enc Tryz.prog w base (fun _=>true) held n 2 (([v0,v1,v2].drop 2).take (Tryz.prog.cellsOf 2))=ys[2]?:=hf 2 _ rfl;simp only[QeJ,QcV,List.drop_zero,List.drop_succ_cons,List.take_succ_cons,List.take_zero]at f0 f1 f2;have hbk:Rows.uptoBulkAll (ys.map (·.1))+1≤1048576:=hb;have hy:∀i,i<3→∃y,ys[i]?=some y∧Rows.uptoBulk y.1≤Rows.uptoBulkAll (ys.map (·.1)):=fun i hi=>⟨ys[i]'(by rw[hlen];exact hi),gE _,Blk.part_le (List.mem_map.2 ⟨_,List.getElem_mem _,rfl⟩)⟩
 obtain⟨y0,e0,b0⟩:=hy 0 (by omega);rw[e0]at f0;obtain⟨z0,g0,_,w0⟩:=VD Tryz.underlying3 f0;simp only[Vw,and_true]at g0;subst g0;obtain⟨y1,e1,b1⟩:=hy 1 (by omega);rw[e1]at f1;obtain⟨z1,g1,_,w1⟩:=VD Tryz.underlying3 f1;simp only[Vw,and_true]at g1;subst g1;obtain⟨y2,e2,b2⟩:=hy 2 (by omega);rw[e2]at f2;obtain⟨z2,g2,_,w2⟩:=VD Tryz.underlying2 f2;simp only[Vw,and_true]at g2;subst g2;have htop:Rows.uptoBulk (DataW.agg (ys.map (·.1)))=Rows.uptoBulkAll (ys.map (·.1))+1:=rfl;exact⟨⟨z0,z1,z2⟩,rfl,trivial,Vo _⟩
theorem QkG {fuel:Nat} {cs:List Value} {x:DataW H × List MemPlace} (h:DataW.trod enc Tryz.prog w base (fun _=>true) held fuel 76 cs=some x) (hb:Rows.uptoBulk x.1≤1048576):∃a:Tri,cs=Qar a∧True∧0≤Rows.uptoBulk x.1:=by
 obtain⟨ys,n,_,rfl,hl,hlen,hf⟩:=DataW.trod_struct Tryz.underlying76 h;rw[QgC]at hl;obtain⟨v0,v1,v2,rfl⟩:=Ql6 hl;have f0:DataW.trod enc Tryz.prog w base (fun _=>true) held n 3 (([v0,v1,v2].drop 0).take (Tryz.prog.cellsOf 3))=ys[0]?:=hf 0 _ rfl;have f1:DataW.trod enc Tryz.prog w base (fun _=>true) held n 3 (([v0,v1,v2].drop 1).take (Tryz.prog.cellsOf 3))=ys[1]?:=hf 1 _ rfl;have f2:DataW.trod enc Tryz.prog w base (fun _=>true) held n 2 (([v0,v1,v2].drop 2).take (Tryz.prog.cellsOf 2))=ys[2]?:=hf 2 _ rfl;simp only[QeJ,QcV,List.drop_zero,List.drop_succ_cons,List.take_succ_cons,List.take_zero]at f0 f1 f2;have hbk:Rows.uptoBulkAll (ys.map (·.1))+1≤1048576:=hb;have hy:∀i,i<3→∃y,ys[i]?=some y∧Rows.uptoBulk y.1≤Rows.uptoBulkAll (ys.map (·.1)):=fun i hi=>⟨ys[i]'(by rw[hlen];exact hi),gE _,Blk.part_le (List.mem_map.2 ⟨_,List.getElem_mem _,rfl⟩)⟩
 obtain⟨y0,e0,b0⟩:=hy 0 (by omega);rw[e0]at f0;obtain⟨z0,g0,_,w0⟩:=VD Tryz.underlying3 f0;simp only[Vw,and_true]at g0;subst g0;obtain⟨y1,e1,b1⟩:=hy 1 (by omega);rw[e1]at f1;obtain⟨z1,g1,_,w1⟩:=VD Tryz.underlying3 f1;simp only[Vw,and_true]at g1;subst g1;obtain⟨y2,e2,b2⟩:=hy 2 (by omega);rw[e2]at f2;obtain⟨z2,g2,_,w2⟩:=VD Tryz.underlying2 f2;simp only[Vw,and_true]at g2;subst g2;have htop:Rows.uptoBulk (DataW.agg (ys.map (·.1)))=Rows.uptoBulkAll (ys.map (·.1))+1:=rfl;exact⟨⟨z0,z1,z2⟩,rfl,trivial,Vo _⟩
theorem Qee {fuel:Nat} {cs:List Value} {x:DataW H × List MemPlace} (h:DataW.trod enc Tryz.prog w base (fun _=>true) held fuel 52 cs=some x) (hb:Rows.uptoBulk x.1≤1048576):∃a:Tri,cs=Qar a∧True∧0≤Rows.uptoBulk x.1:=by
 obtain⟨ys,n,_,rfl,hl,hlen,hf⟩:=DataW.trod_struct Tryz.underlying52 h;rw[Qdh]at hl;obtain⟨v0,v1,v2,rfl⟩:=Ql6 hl;have f0:DataW.trod enc Tryz.prog w base (fun _=>true) held n 3 (([v0,v1,v2].drop 0).take (Tryz.prog.cellsOf 3))=ys[0]?:=hf 0 _ rfl;have f1:DataW.trod enc Tryz.prog w base (fun _=>true) held n 3 (([v0,v1,v2].drop 1).take (Tryz.prog.cellsOf 3))=ys[1]?:=hf 1 _ rfl;have f2:DataW.trod enc Tryz.prog w base (fun _=>true) held n 2 (([v0,v1,v2].drop 2).take (Tryz.prog.cellsOf 2))=ys[2]?:=hf 2 _ rfl;simp only[QeJ,QcV,List.drop_zero,List.drop_succ_cons,List.take_succ_cons,List.take_zero]at f0 f1 f2;have hbk:Rows.uptoBulkAll (ys.map (·.1))+1≤1048576:=hb;have hy:∀i,i<3→∃y,ys[i]?=some y∧Rows.uptoBulk y.1≤Rows.uptoBulkAll (ys.map (·.1)):=fun i hi=>⟨ys[i]'(by rw[hlen];exact hi),gE _,Blk.part_le (List.mem_map.2 ⟨_,List.getElem_mem _,rfl⟩)⟩
 obtain⟨y0,e0,b0⟩:=hy 0 (by omega);rw[e0]at f0;obtain⟨z0,g0,_,w0⟩:=VD Tryz.underlying3 f0;simp only[Vw,and_true]at g0;subst g0;obtain⟨y1,e1,b1⟩:=hy 1 (by omega);rw[e1]at f1;obtain⟨z1,g1,_,w1⟩:=VD Tryz.underlying3 f1;simp only[Vw,and_true]at g1;subst g1;obtain⟨y2,e2,b2⟩:=hy 2 (by omega);rw[e2]at f2;obtain⟨z2,g2,_,w2⟩:=VD Tryz.underlying2 f2;simp only[Vw,and_true]at g2;subst g2;have htop:Rows.uptoBulk (DataW.agg (ys.map (·.1)))=Rows.uptoBulkAll (ys.map (·.1))+1:=rfl;exact⟨⟨z0,z1,z2⟩,rfl,trivial,Vo _⟩
theorem QhP {fuel:Nat} {cs:List Value} {x:DataW H × List MemPlace} (h:DataW.trod enc Tryz.prog w base (fun _=>true) held fuel 111 cs=some x) (hb:Rows.uptoBulk x.1≤1048576):∃a:Tri,cs=Qar a∧True∧0≤Rows.uptoBulk x.1:=by
 obtain⟨ys,n,_,rfl,hl,hlen,hf⟩:=DataW.trod_struct Tryz.underlying111 h;rw[Qcl]at hl;obtain⟨v0,v1,v2,rfl⟩:=Ql6 hl;have f0:DataW.trod enc Tryz.prog w base (fun _=>true) held n 2 (([v0,v1,v2].drop 0).take (Tryz.prog.cellsOf 2))=ys[0]?:=hf 0 _ rfl;have f1:DataW.trod enc Tryz.prog w base (fun _=>true) held n 2 (([v0,v1,v2].drop 1).take (Tryz.prog.cellsOf 2))=ys[1]?:=hf 1 _ rfl;have f2:DataW.trod enc Tryz.prog w base (fun _=>true) held n 2 (([v0,v1,v2].drop 2).take (Tryz.prog.cellsOf 2))=ys[2]?:=hf 2 _ rfl;simp only[QcV,List.drop_zero,List.drop_succ_cons,List.take_succ_cons,List.take_zero]at f0 f1 f2;have hbk:Rows.uptoBulkAll (ys.map (·.1))+1≤1048576:=hb;have hy:∀i,i<3→∃y,ys[i]?=some y∧Rows.uptoBulk y.1≤Rows.uptoBulkAll (ys.map (·.1)):=fun i hi=>⟨ys[i]'(by rw[hlen];exact hi),gE _,Blk.part_le (List.mem_map.2 ⟨_,List.getElem_mem _,rfl⟩)⟩
 obtain⟨y0,e0,b0⟩:=hy 0 (by omega);rw[e0]at f0;obtain⟨z0,g0,_,w0⟩:=VD Tryz.underlying2 f0;simp only[Vw,and_true]at g0;subst g0;obtain⟨y1,e1,b1⟩:=hy 1 (by omega);rw[e1]at f1;obtain⟨z1,g1,_,w1⟩:=VD Tryz.underlying2 f1;simp only[Vw,and_true]at g1;subst g1;obtain⟨y2,e2,b2⟩:=hy 2 (by omega);rw[e2]at f2;obtain⟨z2,g2,_,w2⟩:=VD Tryz.underlying2 f2;simp only[Vw,and_true]at g2;subst g2;have htop:Rows.uptoBulk (DataW.agg (ys.map (·.1)))=Rows.uptoBulkAll (ys.map (·.1))+1:=rfl;exact⟨⟨z0,z1,z2⟩,rfl,trivial,Vo _⟩
theorem QgM {fuel:Nat} {v:Value} {x:DataW H × List MemPlace} (h:DataW.trod enc Tryz.prog w base (fun _=>true) held fuel 46 [v]=some x) (hb:Rows.uptoBulk x.1≤1048576):∃s:Sli Lin,v=.slice s.p s.n s.c∧QaE w 2 Qal s∧(∀a∈s.xs,(fun _=>True) a)∧(s.xs.map (fun _=>0)).sum≤Rows.uptoBulk x.1∧s.xs.length≤Rows.uptoBulk x.1∧s.n≤s.c :=
 @Qcd H enc w base held Lin ⟨⟨0,0⟩⟩ _ _ _ _ Tryz.underlying46 Qfd (by omega) (fun _=>rfl) (V:=(fun _=>True)) (g:=(fun _=>0)) (fun _ _ _ h hb=>QiN h hb) fuel v x h hb
theorem Qif {fuel:Nat} {v:Value} {x:DataW H × List MemPlace} (h:DataW.trod enc Tryz.prog w base (fun _=>true) held fuel 47 [v]=some x) (hb:Rows.uptoBulk x.1≤1048576):∃s:Sli Tri,v=.slice s.p s.n s.c∧QaE w 3 Qar s∧(∀a∈s.xs,(fun _=>True) a)∧(s.xs.map (fun _=>0)).sum≤Rows.uptoBulk x.1∧s.xs.length≤Rows.uptoBulk x.1∧s.n≤s.c :=
 @Qcd H enc w base held Tri ⟨⟨0,0,0⟩⟩ _ _ _ _ Tryz.underlying47 Qef (by omega) (fun _=>rfl) (V:=(fun _=>True)) (g:=(fun _=>0)) (fun _ _ _ h hb=>QhI h hb) fuel v x h hb
theorem Qld {fuel:Nat} {v:Value} {x:DataW H × List MemPlace} (h:DataW.trod enc Tryz.prog w base (fun _=>true) held fuel 48 [v]=some x) (hb:Rows.uptoBulk x.1≤1048576):∃s:Sli Tri,v=.slice s.p s.n s.c∧QaE w 3 Qar s∧(∀a∈s.xs,(fun _=>True) a)∧(s.xs.map (fun _=>0)).sum≤Rows.uptoBulk x.1∧s.xs.length≤Rows.uptoBulk x.1∧s.n≤s.c :=
 @Qcd H enc w base held Tri ⟨⟨0,0,0⟩⟩ _ _ _ _ Tryz.underlying48 QgC (by omega) (fun _=>rfl) (V:=(fun _=>True)) (g:=(fun _=>0)) (fun _ _ _ h hb=>QkG h hb) fuel v x h hb
theorem QiL {fuel:Nat} {v:Value} {x:DataW H × List MemPlace} (h:DataW.trod enc Tryz.prog w base (fun _=>true) held fuel 53 [v]=some x) (hb:Rows.uptoBulk x.1≤1048576):∃s:Sli Tri,v=.slice s.p s.n s.c∧QaE w 3 Qar s∧(∀a∈s.xs,(fun _=>True) a)∧(s.xs.map (fun _=>0)).sum≤Rows.uptoBulk x.1∧s.xs.length≤Rows.uptoBulk x.1∧s.n≤s.c :=
 @Qcd H enc w base held Tri ⟨⟨0,0,0⟩⟩ _ _ _ _ Tryz.underlying53 Qdh (by omega) (fun _=>rfl) (V:=(fun _=>True)) (g:=(fun _=>0)) (fun _ _ _ h hb=>Qee h hb) fuel v x h hb
theorem Qia {fuel:Nat} {v:Value} {x:DataW H × List MemPlace} (h:DataW.trod enc Tryz.prog w base (fun _=>true) held fuel 22 [v]=some x) (hb:Rows.uptoBulk x.1≤1048576):∃s:Sli Tri,v=.slice s.p s.n s.c∧QaE w 3 Qar s∧(∀a∈s.xs,(fun _=>True) a)∧(s.xs.map (fun _=>0)).sum≤Rows.uptoBulk x.1∧s.xs.length≤Rows.uptoBulk x.1∧s.n≤s.c :=
 @Qcd H enc w base held Tri ⟨⟨0,0,0⟩⟩ _ _ _ _ Tryz.underlying22 Qcl (by omega) (fun _=>rfl) (V:=(fun _=>True)) (g:=(fun _=>0)) (fun _ _ _ h hb=>QhP h hb) fuel v x h hb
theorem Qjb {fuel:Nat} {cs:List Value} {x:DataW H × List MemPlace} (h:DataW.trod enc Tryz.prog w base (fun _=>true) held fuel 45 cs=some x) (hb:Rows.uptoBulk x.1≤1048576):∃a b:Int,cs=[.int .i64 a,.int .u64 b]:=by
 obtain⟨ys,n,_,rfl,hl,hlen,hf⟩:=DataW.trod_struct Tryz.underlying45 h;rw[Qe8]at hl;obtain⟨v0,v1,rfl⟩:=len2 hl;have f0:DataW.trod enc Tryz.prog w base (fun _=>true) held n 3 (([v0,v1].drop 0).take (Tryz.prog.cellsOf 3))=ys[0]?:=hf 0 _ rfl;have f1:DataW.trod enc Tryz.prog w base (fun _=>true) held n 36 (([v0,v1].drop 1).take (Tryz.prog.cellsOf 36))=ys[1]?:=hf 1 _ rfl;simp only[QeJ,QgL,List.drop_zero,List.drop_succ_cons,List.take_succ_cons,List.take_zero]at f0 f1;have hbk:Rows.uptoBulkAll (ys.map (·.1))+1≤1048576:=hb;have hy:∀i,i<2→∃y,ys[i]?=some y∧Rows.uptoBulk y.1≤Rows.uptoBulkAll (ys.map (·.1)):=fun i hi=>⟨ys[i]'(by rw[hlen];exact hi),gE _,Blk.part_le (List.mem_map.2 ⟨_,List.getElem_mem _,rfl⟩)⟩
 obtain⟨y0,e0,b0⟩:=hy 0 (by omega);rw[e0]at f0;obtain⟨z0,g0,_,w0⟩:=VD Tryz.underlying3 f0;simp only[Vw,and_true]at g0;subst g0;obtain⟨y1,e1,b1⟩:=hy 1 (by omega);rw[e1]at f1;obtain⟨z1,g1,_,w1⟩:=VD Tryz.underlying36 f1;simp only[Vw,and_true]at g1;subst g1;have htop:Rows.uptoBulk (DataW.agg (ys.map (·.1)))=Rows.uptoBulkAll (ys.map (·.1))+1:=rfl;exact⟨z0,z1,rfl⟩
theorem QhF {fuel:Nat} {cs:List Value} {x:DataW H × List MemPlace} (h:DataW.trod enc Tryz.prog w base (fun _=>true) held fuel 50 cs=some x) (hb:Rows.uptoBulk x.1≤1048576):∃(a:Int) (s:Sli Lin),cs=[.int .i64 a,.slice s.p s.n s.c]∧QaE w 2 Qal s:=by
 obtain⟨ys,n,_,rfl,hl,hlen,hf⟩:=DataW.trod_struct Tryz.underlying50 h;rw[Qex]at hl;obtain⟨v0,v1,rfl⟩:=len2 hl;have f0:DataW.trod enc Tryz.prog w base (fun _=>true) held n 3 (([v0,v1].drop 0).take (Tryz.prog.cellsOf 3))=ys[0]?:=hf 0 _ rfl;have f1:DataW.trod enc Tryz.prog w base (fun _=>true) held n 46 (([v0,v1].drop 1).take (Tryz.prog.cellsOf 46))=ys[1]?:=hf 1 _ rfl;simp only[QeJ,Qeo,List.drop_zero,List.drop_succ_cons,List.take_succ_cons,List.take_zero]at f0 f1;have hbk:Rows.uptoBulkAll (ys.map (·.1))+1≤1048576:=hb;have hy:∀i,i<2→∃y,ys[i]?=some y∧Rows.uptoBulk y.1≤Rows.uptoBulkAll (ys.map (·.1)):=fun i hi=>⟨ys[i]'(by rw[hlen];exact hi),gE _,Blk.part_le (List.mem_map.2 ⟨_,List.getElem_mem _,rfl⟩)⟩
 obtain⟨y0,e0,b0⟩:=hy 0 (by omega);rw[e0]at f0;obtain⟨z0,g0,_,w0⟩:=VD Tryz.underlying3 f0;simp only[Vw,and_true]at g0;subst g0;obtain⟨y1,e1,b1⟩:=hy 1 (by omega);rw[e1]at f1;obtain⟨z1,rfl,k1,V1,m1,l1,c1⟩:=QgM f1 (by omega);have htop:Rows.uptoBulk (DataW.agg (ys.map (·.1)))=Rows.uptoBulkAll (ys.map (·.1))+1:=rfl;exact⟨z0,z1,rfl,k1⟩
theorem QkA {fuel:Nat} {cs:List Value} {x:DataW H × List MemPlace} (h:DataW.trod enc Tryz.prog w base (fun _=>true) held fuel 55 cs=some x) (hb:Rows.uptoBulk x.1≤1048576):∃a:Acd,cs=a.list∧Qad w a∧0≤Rows.uptoBulk x.1:=by
 obtain⟨ys,n,_,rfl,hl,hlen,hf⟩:=DataW.trod_struct Tryz.underlying55 h;rw[QgX]at hl;obtain⟨v0,v1,v2,v3,v4,v5,v6,v7,v8,v9,v10,v11,v12,v13,v14,rfl⟩:=len15 hl;have f0:DataW.trod enc Tryz.prog w base (fun _=>true) held n 45 (([v0,v1,v2,v3,v4,v5,v6,v7,v8,v9,v10,v11,v12,v13,v14].drop 0).take (Tryz.prog.cellsOf 45))=ys[0]?:=hf 0 _ rfl;have f1:DataW.trod enc Tryz.prog w base (fun _=>true) held n 3 (([v0,v1,v2,v3,v4,v5,v6,v7,v8,v9,v10,v11,v12,v13,v14].drop 2).take (Tryz.prog.cellsOf 3))=ys[1]?:=hf 1 _ rfl;have f2:DataW.trod enc Tryz.prog w base (fun _=>true) held n 4 (([v0,v1,v2,v3,v4,v5,v6,v7,v8,v9,v10,v11,v12,v13,v14].drop 3).take (Tryz.prog.cellsOf 4))=ys[2]?:=hf 2 _ rfl;have f3:DataW.trod enc Tryz.prog w base (fun _=>true) held n 46 (([v0,v1,v2,v3,v4,v5,v6,v7,v8,v9,v10,v11,v12,v13,v14].drop 4).take (Tryz.prog.cellsOf 46))=ys[3]?:=hf 3 _ rfl;have f4:DataW.trod enc Tryz.prog w base (fun _=>true) held n 47 (([v0,v1,v2,v3,v4,v5,v6,v7,v8,v9,v10,v11,v12,v13,v14].drop 5).take (Tryz.prog.cellsOf 47))=ys[4]?:=hf 4 _ rfl;have f5:DataW.trod enc Tryz.prog w base (fun _=>true) held n 48 (([v0,v1,v2,v3,v4,v5,v6,v7,v8,v9,v10,v11,v12,v13,v14].drop 6).take (Tryz.prog.cellsOf 48))=ys[5]?:=hf 5 _ rfl;have f6:DataW.trod enc Tryz.prog w base (fun _=>true) held n 50 (([v0,v1,v2,v3,v4,v5,v6,v7,v8,v9,v10,v11,v12,v13,v14].drop 7).take (Tryz.prog.cellsOf 50))=ys[6]?:=hf 6 _ rfl;have f7:DataW.trod enc Tryz.prog w base (fun _=>true) held n 52 (([v0,v1,v2,v3,v4,v5,v6,v7,v8,v9,v10,v11,v12,v13,v14].drop 9).take (Tryz.prog.cellsOf 52))=ys[7]?:=hf 7 _ rfl;have f8:DataW.trod enc Tryz.prog w base (fun _=>true) held n 3 (([v0,v1,v2,v3,v4,v5,v6,v7,v8,v9,v10,v11,v12,v13,v14].drop 12).take (Tryz.prog.cellsOf 3))=ys[8]?:=hf 8 _ rfl;have f9:DataW.trod enc Tryz.prog w base (fun _=>true) held n 36 (([v0,v1,v2,v3,v4,v5,v6,v7,v8,v9,v10,v11,v12,v13,v14].drop 13).take (Tryz.prog.cellsOf 36))=ys[9]?:=hf 9 _ rfl;have f10:DataW.trod enc Tryz.prog w base (fun _=>true) held n 53 (([v0,v1,v2,v3,v4,v5,v6,v7,v8,v9,v10,v11,v12,v13,v14].drop 14).take (Tryz.prog.cellsOf 53))=ys[10]?:=hf 10 _ rfl;simp only[Qe8,Qex,Qdh,QlS,QeJ,QfU,Qeo,Qgi,Qiv,QgL,List.drop_zero,List.drop_succ_cons,List.take_succ_cons,List.take_zero]at f0 f1 f2 f3 f4 f5 f6 f7 f8 f9 f10;have hbk:Rows.uptoBulkAll (ys.map (·.1))+1≤1048576:=hb;have hy:∀i,i<11→∃y,ys[i]?=some y∧Rows.uptoBulk y.1≤Rows.uptoBulkAll (ys.map (·.1)):=fun i hi=>⟨ys[i]'(by rw[hlen];exact hi),gE _,Blk.part_le (List.mem_map.2 ⟨_,List.getElem_mem _,rfl⟩)⟩
 obtain⟨y0,e0,b0⟩:=hy 0 (by omega);rw[e0]at f0;obtain⟨z0a,z0b,g0⟩:=Qjb f0 (by omega);simp only[Vw,and_true]at g0;obtain⟨rfl,rfl⟩:=g0;obtain⟨y1,e1,b1⟩:=hy 1 (by omega);rw[e1]at f1;obtain⟨z1,g1,_,w1⟩:=VD Tryz.underlying3 f1;simp only[Vw,and_true]at g1;subst g1;obtain⟨y2,e2,b2⟩:=hy 2 (by omega);rw[e2]at f2;obtain⟨z2,g2,_⟩:=DataW.trod_bool Tryz.underlying4 f2;simp only[Vw,and_true]at g2;subst g2;obtain⟨y3,e3,b3⟩:=hy 3 (by omega);rw[e3]at f3;obtain⟨z3,rfl,k3,V3,m3,l3,c3⟩:=QgM f3 (by omega);obtain⟨y4,e4,b4⟩:=hy 4 (by omega);rw[e4]at f4;obtain⟨z4,rfl,k4,V4,m4,l4,c4⟩:=Qif f4 (by omega);obtain⟨y5,e5,b5⟩:=hy 5 (by omega);rw[e5]at f5;obtain⟨z5,rfl,k5,V5,m5,l5,c5⟩:=Qld f5 (by omega);obtain⟨y6,e6,b6⟩:=hy 6 (by omega);rw[e6]at f6;obtain⟨z6a,z6b,g6,k6⟩:=QhF f6 (by omega);simp only[Vw,and_true]at g6;obtain⟨rfl,rfl⟩:=g6;obtain⟨y7,e7,b7⟩:=hy 7 (by omega);rw[e7]at f7;obtain⟨z7,g7,_,_⟩:=Qee f7 (by omega);simp only[Qar,Vw,and_true]at g7;obtain⟨rfl,rfl,rfl⟩:=g7;obtain⟨y8,e8,b8⟩:=hy 8 (by omega);rw[e8]at f8;obtain⟨z8,g8,_,w8⟩:=VD Tryz.underlying3 f8;simp only[Vw,and_true]at g8;subst g8;obtain⟨y9,e9,b9⟩:=hy 9 (by omega);rw[e9]at f9;obtain⟨z9,g9,_,w9⟩:=VD Tryz.underlying36 f9;simp only[Vw,and_true]at g9;subst g9;obtain⟨y10,e10,b10⟩:=hy 10 (by omega);rw[e10]at f10;obtain⟨z10,rfl,k10,V10,m10,l10,c10⟩:=QiL f10 (by omega);have htop:Rows.uptoBulk (DataW.agg (ys.map (·.1)))=Rows.uptoBulkAll (ys.map (·.1))+1:=rfl;exact⟨⟨z0a,z0b,z1,z2,z3,z4,z5,z6a,z6b,z7.a,z7.b,z7.n,z8,z9,z10⟩,rfl,⟨k3,k4,k5,k6,k10⟩,Vo _⟩
theorem Qio {fuel:Nat} {cs:List Value} {x:DataW H × List MemPlace} (h:DataW.trod enc Tryz.prog w base (fun _=>true) held fuel 57 cs=some x) (hb:Rows.uptoBulk x.1≤1048576):∃a:Stp,cs=a.list∧Qad w a.ac∧0≤Rows.uptoBulk x.1:=by
 obtain⟨ys,n,_,rfl,hl,hlen,hf⟩:=DataW.trod_struct Tryz.underlying57 h;rw[QcN]at hl;obtain⟨v0,v1,v2,v3,v4,v5,v6,v7,v8,v9,v10,v11,v12,v13,v14,v15,v16,v17,v18,v19,rfl⟩:=len20 hl;have f0:DataW.trod enc Tryz.prog w base (fun _=>true) held n 3 (([v0,v1,v2,v3,v4,v5,v6,v7,v8,v9,v10,v11,v12,v13,v14,v15,v16,v17,v18,v19].drop 0).take (Tryz.prog.cellsOf 3))=ys[0]?:=hf 0 _ rfl;have f1:DataW.trod enc Tryz.prog w base (fun _=>true) held n 55 (([v0,v1,v2,v3,v4,v5,v6,v7,v8,v9,v10,v11,v12,v13,v14,v15,v16,v17,v18,v19].drop 1).take (Tryz.prog.cellsOf 55))=ys[1]?:=hf 1 _ rfl;have f2:DataW.trod enc Tryz.prog w base (fun _=>true) held n 3 (([v0,v1,v2,v3,v4,v5,v6,v7,v8,v9,v10,v11,v12,v13,v14,v15,v16,v17,v18,v19].drop 16).take (Tryz.prog.cellsOf 3))=ys[2]?:=hf 2 _ rfl;have f3:DataW.trod enc Tryz.prog w base (fun _=>true) held n 3 (([v0,v1,v2,v3,v4,v5,v6,v7,v8,v9,v10,v11,v12,v13,v14,v15,v16,v17,v18,v19].drop 17).take (Tryz.prog.cellsOf 3))=ys[3]?:=hf 3 _ rfl;have f4:DataW.trod enc Tryz.prog w base (fun _=>true) held n 3 (([v0,v1,v2,v3,v4,v5,v6,v7,v8,v9,v10,v11,v12,v13,v14,v15,v16,v17,v18,v19].drop 18).take (Tryz.prog.cellsOf 3))=ys[4]?:=hf 4 _ rfl;have f5:DataW.trod enc Tryz.prog w base (fun _=>true) held n 2 (([v0,v1,v2,v3,v4,v5,v6,v7,v8,v9,v10,v11,v12,v13,v14,v15,v16,v17,v18,v19].drop 19).take (Tryz.prog.cellsOf 2))=ys[5]?:=hf 5 _ rfl;simp only[QgX,QeJ,QcV,List.drop_zero,List.drop_succ_cons,List.take_succ_cons,List.take_zero]at f0 f1 f2 f3 f4 f5;have hbk:Rows.uptoBulkAll (ys.map (·.1))+1≤1048576:=hb;have hy:∀i,i<6→∃y,ys[i]?=some y∧Rows.uptoBulk y.1≤Rows.uptoBulkAll (ys.map (·.1)):=fun i hi=>⟨ys[i]'(by rw[hlen];exact hi),gE _,Blk.part_le (List.mem_map.2 ⟨_,List.getElem_mem _,rfl⟩)⟩
 obtain⟨y0,e0,b0⟩:=hy 0 (by omega);rw[e0]at f0;obtain⟨z0,g0,_,w0⟩:=VD Tryz.underlying3 f0;simp only[Vw,and_true]at g0;subst g0;obtain⟨y1,e1,b1⟩:=hy 1 (by omega);rw[e1]at f1;obtain⟨z1,g1,k1,_⟩:=QkA f1 (by omega);simp only[Acd.list,Vw,and_true]at g1;obtain⟨rfl,rfl,rfl,rfl,rfl,rfl,rfl,rfl,rfl,rfl,rfl,rfl,rfl,rfl,rfl⟩:=g1;obtain⟨y2,e2,b2⟩:=hy 2 (by omega);rw[e2]at f2;obtain⟨z2,g2,_,w2⟩:=VD Tryz.underlying3 f2;simp only[Vw,and_true]at g2;subst g2;obtain⟨y3,e3,b3⟩:=hy 3 (by omega);rw[e3]at f3;obtain⟨z3,g3,_,w3⟩:=VD Tryz.underlying3 f3;simp only[Vw,and_true]at g3;subst g3;obtain⟨y4,e4,b4⟩:=hy 4 (by omega);rw[e4]at f4;obtain⟨z4,g4,_,w4⟩:=VD Tryz.underlying3 f4;simp only[Vw,and_true]at g4;subst g4;obtain⟨y5,e5,b5⟩:=hy 5 (by omega);rw[e5]at f5;obtain⟨z5,g5,_,w5⟩:=VD Tryz.underlying2 f5;simp only[Vw,and_true]at g5;subst g5;have htop:Rows.uptoBulk (DataW.agg (ys.map (·.1)))=Rows.uptoBulkAll (ys.map (·.1))+1:=rfl;exact⟨⟨z0,z1,z2,z3,z4,z5⟩,rfl,k1,Vo _⟩
theorem QkK {fuel:Nat} {v:Value} {x:DataW H × List MemPlace} (h:DataW.trod enc Tryz.prog w base (fun _=>true) held fuel 26 [v]=some x) (hb:Rows.uptoBulk x.1≤1048576):∃s:Sli Stp,v=.slice s.p s.n s.c∧QaE w 20 Stp.list s∧(∀a∈s.xs,(fun a=>Qad w a.ac) a)∧(s.xs.map (fun _=>0)).sum≤Rows.uptoBulk x.1∧s.xs.length≤Rows.uptoBulk x.1∧s.n≤s.c :=
 @Qcd H enc w base held Stp ⟨⟨0,⟨0,0,0,false,⟨none,0,0,[]⟩,⟨none,0,0,[]⟩,⟨none,0,0,[]⟩,0,⟨none,0,0,[]⟩,0,0,0,0,0,⟨none,0,0,[]⟩⟩,0,0,0,0⟩⟩ _ _ _ _ Tryz.underlying26 QcN (by omega) (fun _=>rfl) (V:=(fun a=>Qad w a.ac)) (g:=(fun _=>0)) (fun _ _ _ h hb=>Qio h hb) fuel v x h hb
theorem QiK {fuel:Nat} {cs:List Value} {x:DataW H × List MemPlace} (h:DataW.trod enc Tryz.prog w base (fun _=>true) held fuel 25 cs=some x) (hb:Rows.uptoBulk x.1≤1048576):∃p:Cnf,cs=p.arr.toList∧QaE w 3 Qar p.ctr∧QaE w 1 (fun n:Int=>[Value.int .i64 n]) p.prc:=by
 obtain⟨ys,n,_,rfl,hl,hlen,hf⟩:=DataW.trod_struct Tryz.underlying25 h;rw[QcM]at hl;obtain⟨v0,v1,v2,v3,v4,v5,v6,v7,v8,rfl⟩:=len9 hl;have f0:DataW.trod enc Tryz.prog w base (fun _=>true) held n 3 (([v0,v1,v2,v3,v4,v5,v6,v7,v8].drop 0).take (Tryz.prog.cellsOf 3))=ys[0]?:=hf 0 _ rfl;have f1:DataW.trod enc Tryz.prog w base (fun _=>true) held n 22 (([v0,v1,v2,v3,v4,v5,v6,v7,v8].drop 1).take (Tryz.prog.cellsOf 22))=ys[1]?:=hf 1 _ rfl;have f2:DataW.trod enc Tryz.prog w base (fun _=>true) held n 23 (([v0,v1,v2,v3,v4,v5,v6,v7,v8].drop 2).take (Tryz.prog.cellsOf 23))=ys[2]?:=hf 2 _ rfl;have f3:DataW.trod enc Tryz.prog w base (fun _=>true) held n 3 (([v0,v1,v2,v3,v4,v5,v6,v7,v8].drop 3).take (Tryz.prog.cellsOf 3))=ys[3]?:=hf 3 _ rfl;have f4:DataW.trod enc Tryz.prog w base (fun _=>true) held n 3 (([v0,v1,v2,v3,v4,v5,v6,v7,v8].drop 4).take (Tryz.prog.cellsOf 3))=ys[4]?:=hf 4 _ rfl;have f5:DataW.trod enc Tryz.prog w base (fun _=>true) held n 3 (([v0,v1,v2,v3,v4,v5,v6,v7,v8].drop 5).take (Tryz.prog.cellsOf 3))=ys[5]?:=hf 5 _ rfl;have f6:DataW.trod enc Tryz.prog w base (fun _=>true) held n 3 (([v0,v1,v2,v3,v4,v5,v6,v7,v8].drop 6).take (Tryz.prog.cellsOf 3))=ys[6]?:=hf 6 _ rfl;have f7:DataW.trod enc Tryz.prog w base (fun _=>true) held n 3 (([v0,v1,v2,v3,v4,v5,v6,v7,v8].drop 7).take (Tryz.prog.cellsOf 3))=ys[7]?:=hf 7 _ rfl;have f8:DataW.trod enc Tryz.prog w base (fun _=>true) held n 3 (([v0,v1,v2,v3,v4,v5,v6,v7,v8].drop 8).take (Tryz.prog.cellsOf 3))=ys[8]?:=hf 8 _ rfl;simp only[QeJ,QkE,Qdl,List.drop_zero,List.drop_succ_cons,List.take_succ_cons,List.take_zero]at f0 f1 f2 f3 f4 f5 f6 f7 f8;have hbk:Rows.uptoBulkAll (ys.map (·.1))+1≤1048576:=hb;have hy:∀i,i<9→∃y,ys[i]?=some y∧Rows.uptoBulk y.1≤Rows.uptoBulkAll (ys.map (·.1)):=fun i hi=>⟨ys[i]'(by rw[hlen];exact hi),gE _,Blk.part_le (List.mem_map.2 ⟨_,List.getElem_mem _,rfl⟩)⟩
 obtain⟨y0,e0,b0⟩:=hy 0 (by omega);rw[e0]at f0;obtain⟨z0,g0,_,w0⟩:=VD Tryz.underlying3 f0;simp only[Vw,and_true]at g0;subst g0;obtain⟨y1,e1,b1⟩:=hy 1 (by omega);rw[e1]at f1;obtain⟨z1,rfl,k1,V1,m1,l1,c1⟩:=Qia f1 (by omega);obtain⟨y2,e2,b2⟩:=hy 2 (by omega);rw[e2]at f2;obtain⟨z2,rfl,k2,V2,m2,l2,c2⟩:=Qk2 f2 (by omega);obtain⟨y3,e3,b3⟩:=hy 3 (by omega);rw[e3]at f3;obtain⟨z3,g3,_,w3⟩:=VD Tryz.underlying3 f3;simp only[Vw,and_true]at g3;subst g3;obtain⟨y4,e4,b4⟩:=hy 4 (by omega);rw[e4]at f4;obtain⟨z4,g4,_,w4⟩:=VD Tryz.underlying3 f4;simp only[Vw,and_true]at g4;subst g4;obtain⟨y5,e5,b5⟩:=hy 5 (by omega);rw[e5]at f5;obtain⟨z5,g5,_,w5⟩:=VD Tryz.underlying3 f5;simp only[Vw,and_true]at g5;subst g5;obtain⟨y6,e6,b6⟩:=hy 6 (by omega);rw[e6]at f6;obtain⟨z6,g6,_,w6⟩:=VD Tryz.underlying3 f6;simp only[Vw,and_true]at g6;subst g6;obtain⟨y7,e7,b7⟩:=hy 7 (by omega);rw[e7]at f7;obtain⟨z7,g7,_,w7⟩:=VD Tryz.underlying3 f7;simp only[Vw,and_true]at g7;subst g7;obtain⟨y8,e8,b8⟩:=hy 8 (by omega);rw[e8]at f8;obtain⟨z8,g8,_,w8⟩:=VD Tryz.underlying3 f8;simp only[Vw,and_true]at g8;subst g8;have htop:Rows.uptoBulk (DataW.agg (ys.map (·.1)))=Rows.uptoBulkAll (ys.map (·.1))+1:=rfl;exact⟨⟨z0,z1,z2,z3,z4,z5,z6,z7,z8⟩,rfl,k1,k2⟩
def scr9 (p:Cnf) (s:Sli Stp):List Value:=[.int .i64 p.tills,.slice p.ctr.p p.ctr.n p.ctr.c,.slice p.prc.p p.prc.n p.prc.c,.int .i64 p.lease,.int .i64 p.watch,.int .i64 p.beat,.int .i64 p.window,.int .i64 p.cap,.int .i64 p.flight,.slice s.p s.n s.c]
theorem script_open {fuel:Nat} {cs:List Value} {x:DataW H × List MemPlace} (h:DataW.trod enc Tryz.prog w base (fun _=>true) held fuel 28 cs=some x) (hb:Rows.uptoBulk x.1≤1048576):∃(p:Cnf) (s:Sli Stp),cs=scr9 p s∧QaE w 3 Qar p.ctr∧QaE w 1 (fun n:Int=>[Value.int .i64 n]) p.prc∧QaE w 20 Stp.list s∧∀o∈s.xs,Qad w o.ac:=by
 obtain⟨ys,n,_,rfl,hl,hlen,hf⟩:=DataW.trod_struct Tryz.underlying28 h;rw[QdC]at hl;obtain⟨v0,v1,v2,v3,v4,v5,v6,v7,v8,v9,rfl⟩:=len10 hl;have f0:DataW.trod enc Tryz.prog w base (fun _=>true) held n 25 (([v0,v1,v2,v3,v4,v5,v6,v7,v8,v9].drop 0).take (Tryz.prog.cellsOf 25))=ys[0]?:=hf 0 _ rfl;have f1:DataW.trod enc Tryz.prog w base (fun _=>true) held n 26 (([v0,v1,v2,v3,v4,v5,v6,v7,v8,v9].drop 9).take (Tryz.prog.cellsOf 26))=ys[1]?:=hf 1 _ rfl;simp only[QdP,QcM,List.drop_zero,List.drop_succ_cons,List.take_succ_cons,List.take_zero]at f0 f1;have hbk:Rows.uptoBulkAll (ys.map (·.1))+1≤1048576:=hb;have hy:∀i,i<2→∃y,ys[i]?=some y∧Rows.uptoBulk y.1≤Rows.uptoBulkAll (ys.map (·.1)):=fun i hi=>⟨ys[i]'(by rw[hlen];exact hi),gE _,Blk.part_le (List.mem_map.2 ⟨_,List.getElem_mem _,rfl⟩)⟩
 obtain⟨y0,e0,b0⟩:=hy 0 (by omega);rw[e0]at f0;obtain⟨z0,g0,k0a,k0b⟩:=QiK f0 (by omega);simp only[Cnf.arr,Vw,and_true]at g0;obtain⟨rfl,rfl,rfl,rfl,rfl,rfl,rfl,rfl,rfl⟩:=g0;obtain⟨y1,e1,b1⟩:=hy 1 (by omega);rw[e1]at f1;obtain⟨z1,rfl,k1,V1,m1,l1,c1⟩:=QkK f1 (by omega);have htop:Rows.uptoBulk (DataW.agg (ys.map (·.1)))=Rows.uptoBulkAll (ys.map (·.1))+1:=rfl;exact⟨z0,z1,rfl,k0a,k0b,k1,V1⟩
end
end Go.Proofs.YtiogibfhafoapaaGreat.Z
