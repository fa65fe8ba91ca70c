import Derived.Lib.SlBytesConst
import Derived.Test.YtcceejdaokoihaaGreatDoorXZa
import Derived.Test.YtcceejdaokoihaaGreatDoorXW
import Derived.Test.YtcceejdaokoihaaGreatDoorXY
import Derived.Test.YtcceejdaokoihaaGreatDoorJDec
import Derived.ProofKit
import Derived.Lib.SmallJoins
import Derived.LaidMore
import Derived.OpenShut
import Derived.SizedLaws
import Derived.Stop.Joined
import Derived.SevenTiedAt
import Derived.Test.YtcceejdaokoihaaGreatDoorRows
import Derived.Test.YtcceejdaokoihaaGreatDoorCards
import Derived.Test.YtcceejdaokoihaaGreatDoorTie
set_option maxRecDepth 100000
namespace Go.Proofs.YtcceejdaokoihaaGreatDoor
open Go.RowKit Go.Maps
theorem plays_all (w0 w:World) (K:Knd) (c b:Nat) (X:Sd) (k:Nat) (he:Ev w0 w K) (hT:C.Tab w0) (h:Sk w K c b X) (ho:Sok X k) (hk:k≤274000000000) (o:Opj) (hop:OpjOk w0 o) :
  Calls Tryz.prog 9 #[.pointer (some ⟨b,0,none⟩),.agg o.cells] w (SRes w K c b (X.play o) (.bool true)):=by
 by_cases d1:o.dv=1
 ·exact plays_open w0 w K c b X k he hT h ho hk o hop d1
 by_cases d2:o.dv=2
 ·cases hJ:X.j with
  | none=>exact plays_none2 w0 w K c b X k he hT h ho hk o hop d2 hJ
  | some J=>exact plays_addR w0 w K c b X k he hT h ho hk o hop d2 J hJ
 by_cases d3:o.dv=3
 ·cases hJ:X.j with
  | none=>exact plays_none3 w0 w K c b X k he hT h ho hk o hop d3 hJ
  | some J=>exact plays_chkR w0 w K c b X k he hT h ho hk o hop d3 J hJ
 by_cases d4:o.dv=4
 ·cases hJ:X.j with
  | none=>exact plays_none4 w0 w K c b X k he hT h ho hk o hop d4 hJ
  | some J=>exact plays_tell w0 w K c b X k he hT h ho hk o hop d4 J hJ
 by_cases d5:o.dv=5
 ·exact plays_plan w0 w K c b X k he hT h ho hk o hop d5
 by_cases d6:o.dv=6
 ·exact plays_crash w0 w K c b X k he hT h ho hk o hop d6
 by_cases d7:o.dv=7
 ·exact plays_lay w0 w K c b X k he hT h ho hk o hop d7
 by_cases d8:o.dv=8
 ·exact plays_cut w0 w K c b X k he hT h ho hk o hop d8
 by_cases d9:o.dv=9
 ·exact plays_beat w0 w K c b X k he hT h ho hk o hop d9
 exact plays_other w0 w K c b X k he hT h ho hk o hop d1 d2 d3 d4 d5 d6 d7 d8 d9
theorem plays_z (w:World) (K:Knd) (c b:Nat) (X:Sd) (k:Nat) (hT:C.Tab w) (hK0:K 0=(0,0)) (h:Sk w K c b X) (ho:Sok X k) (hk:k≤274000000000) (o:Opj) (hop:OpZ o) (hpt:PtK w K (0,0) o.pp o.parts) (hdo:o.dv=2) :
  Calls Tryz.prog 9 #[.pointer (some ⟨b,0,none⟩),.agg o.cells] w (SRes w K c b (X.play o) (.bool true)):=by
 cases hJ:X.j with
 | none=>exact plays_noneZ w K c b X k hT hK0 h ho hk o hop hpt hdo hJ
 | some J=>exact plays_addZ w K c b X k hT hK0 h ho hk o hop hpt hdo J hJ
def zOp (g:Nat):Opj:=⟨0,2,[],some ⟨g,0,none⟩,1,1,[[122]],none,0,0,[],0,0,0,0,none,0,0,[]⟩
def tOp:Opj:=⟨0,4,[],none,0,0,[],none,0,0,[],0,0,0,0,none,0,0,[]⟩
theorem zop_ok (g:Nat):OpZ (zOp g):=⟨rfl,by show 1≤_;omega,fun p hp x hx=>by simp[zOp]at hp;subst hp;simp at hx;omega⟩
theorem top_ok (w0:World):OpjOk w0 tOp:=by
 refine⟨?_,rfl,?_,⟨fun p hp=>(by cases hp),Or.inl rfl⟩,fun p hp=>(by cases hp),rfl,?_,⟨fun x hx=>(by cases hx),Or.inl rfl⟩,?_,rfl,?_,⟨Or.inl rfl⟩⟩
 ·show 0≤140737488351232;omega
 ·show 0≤5864062014805;omega
 ·show 0≤140737488355328;omega
 ·show -9223372036854775808≤(0:Int)∧(0:Int)≤9223372036854775807;omega
 ·show 0≤140737488355328;omega
theorem sok_z {X:Sd} {k:Nat} (h:Sok X k) (g:Nat):Sok (X.play (zOp g)) (k+25165830):=by
 have hd:(zOp g).dv=2:=rfl
 unfold Sd.play
 rw[if_neg (by rw[hd];omega),if_pos hd]
 cases hJ:X.j with
 | none=>exact h.mono (by omega)
 | some J=>exact sok_kept h hJ _ (zop_ok g).sb J.adds (adds_fit J)
theorem zop_pt {w:World} {K:Knd} {g1 g2:Nat} (h1:w.heap[g1]?=some (.cells #[.int .u8 122] 5 (1,2))) (h2:w.heap[g2]?=some (.cells #[.slice (some ⟨g1,0,none⟩) 1 1] 32 (0,0))) (k1:K g1=(0,0)) (k2:K g2=(0,0)):PtK w K (0,0) (some ⟨g2,0,none⟩) [[122]]:=by
 refine⟨fun p hp=>by simp at hp;subst hp;show 1≤_;omega,Or.inr ⟨g2,0,rfl,k2,lt_of_block h2,fun j p hp=>?_⟩⟩
 have hj:j=0:=by have:=(List.getElem?_eq_some_iff.1 hp).1;simpa using this
 subst hj
 simp at hp
 subst hp
 refine⟨some ⟨g1,0,none⟩,1,by simp[World.cell?,h2],⟨fun x hx=>by simp at hx;omega,Or.inr ⟨g1,0,rfl,lt_of_block h1,fun j hj=>?_⟩⟩,Or.inr ⟨_,rfl,k1,lt_of_block h1⟩⟩
 have hj:j=0:=by simpa using hj
 subst hj
 simp[World.cell?,h1]
set_option maxHeartbeats 2000000 in
theorem lives_any (w0 w:World) (K:Knd) (c b:Nat) (X:Sd) (k:Nat) (he:Ev w0 w K) (hT:C.Tab w0) (h:Sk w K c b X) (ho:Sok X k) (hk:k≤273000000000) :
  Calls Tryz.prog 10 #[.pointer (some ⟨b,0,none⟩)] w fun e w'=>∃K',e=.returned (.bool true)∧Kp (Os c) K K' w w':=by
 have HC:=hide (scrash_any w K c b X k h ho (by omega) (hT.below he.bel hT.pos) (he.k0 0 hT.pos) none 0 0 [] rfl (by omega) ⟨Or.inl rfl⟩)
 have hcb:=fun (w:World) (C:Array Value) (n c:Nat)=>Lib.run_convert_bytes_const (P:=Tryz.prog) w 32 5 C n c Tryz.underlying32 Tryz.underlying5
 have HE:=hide he
 have HT:=hide hT
 have HO:=hide ho
 clear he hT h ho
 go_enter Tryz.func10,Tryz.ntmps10
 go_wp2_with fail
 refine HC.out.mono ?_
 rintro e w1 ⟨K1,rfl,hs1,hk1⟩
 have HK1:=hide hk1
 have hE1:=HE.out.go hk1 (os_zero c)
 have HO1:=hide (sok_crashed HO.out [])
 generalize X.crashed []=X1 at *
 have hbA:Below w1.heap.size w1 ((w1.alloc (.cells #[.int .u8 122] 5 (1,2))).alloc (.cells #[.slice (some ⟨w1.heap.size,0,none⟩) 1 1] 32)):=((Below.refl _ _).alloc (Nat.le_refl _) _).alloc (by simp) _
 have hkA:=kp_below hbA (fun _=>False) K1 (0,0)
 have hg1:((w1.alloc (.cells #[.int .u8 122] 5 (1,2))).alloc (.cells #[.slice (some ⟨w1.heap.size,0,none⟩) 1 1] 32)).heap[w1.heap.size]?=some (.cells #[.int .u8 122] 5 (1,2)):=(Below.heap_alloc _ _ _ (by simp)).trans (heap_alloc_new w1 _)
 have hg2:((w1.alloc (.cells #[.int .u8 122] 5 (1,2))).alloc (.cells #[.slice (some ⟨w1.heap.size,0,none⟩) 1 1] 32)).heap[w1.heap.size+1]?=some (.cells #[.slice (some ⟨w1.heap.size,0,none⟩) 1 1] 32 (0,0)):=by
  have:=heap_alloc_new (w1.alloc (.cells #[.int .u8 122] 5 (1,2))) (.cells #[.slice (some ⟨w1.heap.size,0,none⟩) 1 1] 32)
  simpa using this
 have HP:=hide (plays_z _ _ c b X1 k (HT.out.below (hE1.go hkA (fun h=>h)).bel HT.out.pos) ((hE1.go hkA (fun h=>h)).k0 0 HT.out.pos) (hs1.still hkA) HO1.out (by omega) (zOp (w1.heap.size+1)) (zop_ok _) (zop_pt hg1 hg2 (ext_new K1 _ (Nat.le_refl _)) (ext_new K1 _ (by omega))) rfl)
 have HEA:=hide (hE1.go hkA (fun h=>h))
 have HKA:=hide (HK1.out.trans (kp_f hkA))
 have HC1:Hid ((zOp (w1.heap.size+1)).cells=#[.int .i64 0,.int .i64 2,.string ⟨#[]⟩,.slice (some ⟨w1.heap.size+1,0,none⟩) 1 1,.slice none 0 0,.int .i64 0,.int .i64 0,.int .i64 0,.int .i64 0,.slice none 0 0]):=rfl
 rw[HC1.out]at HP
 have HO2:=hide (sok_z HO1.out (w1.heap.size+1))
 generalize X1.play (zOp (w1.heap.size+1))=X2 at *
 generalize ext K1 w1.heap.size (0,0)=KA at *
 clear hs1 hk1 hE1 hbA hkA hg1 hg2 HC HC1
 go_wp2_with fail
 refine HP.out.mono ?_
 rintro e w2 ⟨K2,rfl,hs2,hk2⟩
 have HK2:=hide (HKA.out.trans hk2)
 have hE2:=HEA.out.go hk2 (os_zero c)
 have HP2:=hide (plays_all w0 w2 K2 c b X2 (k+25165830) hE2 HT.out hs2 HO2.out (by omega) tOp (top_ok w0))
 have HC2:Hid (tOp.cells=#[.int .i64 0,.int .i64 4,.string ⟨#[]⟩,.slice none 0 0,.slice none 0 0,.int .i64 0,.int .i64 0,.int .i64 0,.int .i64 0,.slice none 0 0]):=rfl
 rw[HC2.out]at HP2
 clear hs2 hk2 hE2 HP HC2
 go_wp2_with fail
 refine HP2.out.mono ?_
 rintro e w3 ⟨K3,rfl,hs3,hk3⟩
 have HK3:=hide (HK2.out.trans hk3)
 clear hs3 hk3
 go_wp2
 go_ret
 exact⟨K3,rfl,HK3.out⟩
theorem Tryz.bit1 (z:Int):∃i:Nat,i<2∧bits .and .i64 z 1=(i:Int):=by
 refine⟨(BitVec.ofInt 64 z).toNat % 2,Nat.mod_lt _ (by omega),?_⟩
 show IntKind.i64.wrap ((BitVec.ofInt 64 z &&& BitVec.ofInt 64 1).toNat:Int)=_
 have h1:(BitVec.ofInt 64 (1:Int)).toNat=1:=by decide
 rw[BitVec.toNat_and,h1,Nat.and_one_is_mod,IntKind.wrap_i64]
 omega
structure Opl (w:World) (sp:Option Addr) (l:List Opj):Prop where
 lie:l=[]∨∃g o,sp=some ⟨g,o,none⟩∧g<w.heap.size∧∀(j:Nat) (q:Opj),l[j]?=some q→∀i v,q.cells.toList[i]?=some v→w.cell? ⟨g,o+j*10+i,none⟩=some v
theorem Opl.below {w w':World} {sp:Option Addr} {l:List Opj} (h:Opl w sp l) (hb:Below w.heap.size w w'):Opl w' sp l:=by
 refine⟨h.lie.imp id ?_⟩
 rintro ⟨g,o,e,hg,hc⟩
 exact⟨g,o,e,Nat.lt_of_lt_of_le hg hb.size,fun j q hq i v hv=>by rw[hb.cell (p:=⟨g,o+j*10+i,none⟩) hg];exact hc j q hq i v hv⟩
theorem Opl.at {w:World} {sp:Option Addr} {l:List Opj} (h:Opl w sp l) {k:Nat} {q:Opj} (hq:l[k]?=some q) :
  ∃g o,sp=some ⟨g,o,none⟩∧g<w.heap.size∧w.cell? ⟨g,o+k*10,none⟩=some (.int .i64 q.on)∧w.cell? ⟨g,o+k*10+1,none⟩=some (.int .i64 q.dv)∧w.cell? ⟨g,o+k*10+2,none⟩=some (.string ⟨q.name.toArray⟩)∧w.cell? ⟨g,o+k*10+3,none⟩=some (.slice q.pp q.kp q.cp)∧w.cell? ⟨g,o+k*10+4,none⟩=some (.slice q.sp q.bl q.bc) ∧
   w.cell? ⟨g,o+k*10+5,none⟩=some (.int .i64 q.n)∧w.cell? ⟨g,o+k*10+6,none⟩=some (.int .i64 q.a1)∧w.cell? ⟨g,o+k*10+7,none⟩=some (.int .i64 q.a2)∧w.cell? ⟨g,o+k*10+8,none⟩=some (.int .i64 q.a3)∧w.cell? ⟨g,o+k*10+9,none⟩=some (.slice q.qp q.ql q.qc):=by
 rcases h.lie with h0 | ⟨g,o,e,hg,hc⟩
 ·subst h0;simp at hq
 ·have f:=hc k q hq
  exact⟨g,o,e,hg,f 0 _ rfl,f 1 _ rfl,f 2 _ rfl,f 3 _ rfl,f 4 _ rfl,f 5 _ rfl,f 6 _ rfl,f 7 _ rfl,f 8 _ rfl,f 9 _ rfl⟩
theorem OpjOk.below {w w':World} {o:Opj} (h:OpjOk w o) (hb:Below w.heap.size w w'):OpjOk w' o:=⟨h.nm,h.kp,h.kpl,h.pts.below hb,h.sb,h.bl,h.bll,h.by'.below hb,h.n,h.ql,h.qll,h.ins.below hb⟩
theorem os_far {c c' i k:Nat} (h:c+5<c'+1∨c'+5<c+1) (h1:1≤i) (h5:i≤5):¬Os c' (c+i,k):=by
 unfold Os
 rintro ⟨e1,e2⟩
 have e1':c'+1≤c+i:=e1
 have e2':c+i≤c'+5:=e2
 omega
theorem below_ev {w0 w:World} {K:Knd} (h:Ev w0 w K) {W:World} (hW:Below W.heap.size W w0):Below W.heap.size W w:=hW.trans (h.bel.mono hW.size)
set_option maxHeartbeats 4000000 in
theorem holds_any (W:World) (hT:C.Tab W) (r0 r1:Int) (sp:Option Addr) (m cap:Nat) (l:List Opj) (hm:l.length=m) (_hml:m≤140737488355328) (hI:Opl W sp l) (hO:∀q∈l,OpjOk W q) (lo hi:Int) :
  Calls Tryz.prog 6 #[.agg #[.int .i64 r0,.int .i64 r1,.slice sp m cap],.int .i64 lo,.int .i64 hi] W fun e w'=>e=.returned (.bool true)∧Below W.heap.size W w':=by
 obtain⟨w0,hw0⟩:∃w0,w0=W.alloc (.cells #[.int .i64 r0,.int .i64 r1,.slice sp m cap] 25):=⟨_,rfl⟩
 have hb1:Below W.heap.size W w0:=by rw[hw0];exact(Below.refl _ _).alloc (Nat.le_refl _) _
 have hx1:w0.heap[W.heap.size]?=some (.cells #[.int .i64 r0,.int .i64 r1,.slice sp m cap] 25 (0,0)):=by rw[hw0];exact heap_alloc_new _ _
 have hT1:=hT.below hb1 hT.pos
 have HT:=hide hT1
 have HB1:=hide hb1
 have HX1:=hide hx1
 have HI:=hide (hI.below hb1)
 have HO:Hid (∀q∈l,OpjOk w0 q):=fun q hq=>(hO q hq).below hb1
 have HM:=hide hm
 have HWk:=hide (wakes_any w0 hT1)
 obtain⟨s,hs⟩:∃s,W.heap.size=s:=⟨_,rfl⟩
 have HS:=hide hs
 have hxl:=lt_of_block hx1
 clear hb1 hx1 hT hT1 hI hO hm
 go_enter Tryz.func6,Tryz.ntmps6
 go_wp2_with fail
 rw[←hw0]
 rw[hs]at HX1 hxl
 clear hs hw0
 refine HWk.out.mono ?_
 rintro e w2 ⟨rfl,hb2⟩
 have hE2:Ev w0 w2 (fun _=>(0,0)):=⟨hb2,fun _ _=>rfl⟩
 have HE2:=hide hE2
 have hx2:=(hb2.block s hxl).trans HX1.out
 obtain⟨y0,y1,y2,yf⟩:=blk3 hx2
 have l2:=lt_of_block hx2
 have HBg:=hide (begin_any w2 (fun _=>(0,0)) 0 r0 (HT.out.below hb2 HT.out.pos) rfl)
 clear hb2 hE2 hx2 HWk
 go_wp2_with fail
 refine HBg.out.mono ?_
 rintro e w3 ⟨a,K3,rfl,hs3,hk3⟩
 have hE3:=HE2.out.go hk3 (os_zero 0)
 have hx3:=(hE3.bel.block s hxl).trans HX1.out
 have HS3:=hide hs3
 have HE3:=hide hE3
 have HBh:=hide (begin_any w3 K3 10 r1 (HT.out.below hE3.bel HT.out.pos) (hE3.k0 0 HT.out.pos))
 clear y0 y1 y2 yf l2
 obtain⟨y0,y1,y2,yf⟩:=blk3 hx3
 have l3:=lt_of_block hx3
 clear hs3 hk3 hE3 hx3 HBg
 go_wp2_with fail
 refine HBh.out.mono ?_
 rintro e w4 ⟨b,K4,rfl,hs4,hk4⟩
 have HS4:=hide hs4
 have HA4:=hide (HS3.out.kept hk4 (fun i k h1 h5=>os_far (by omega) h1 h5))
 have HE4:=hide (HE3.out.go hk4 (os_zero 10))
 have HR0:=hide (sok_opened (sok_new (r:=rm r0) (by have:=rm_le r0;omega)) jx0)
 have HR1:=hide (sok_opened (sok_new (r:=rm r1) (by have:=rm_le r1;omega)) jx0)
 generalize (Sd.new (rm r0)).opened jx0=X0 at *
 generalize (Sd.new (rm r1)).opened jx0=Y0 at *
 clear hs4 hk4 y0 y1 y2 yf l3 HBh HS3 HE3 HE2
 go_wp2
 go_loopw [9] (fun i wr=>∃(c:Nat) (K:Knd) (X Y:Sd),c≤m∧c≤200∧i=.int .i64 c∧Hid (Ev w0 wr K)∧Hid (Sk wr K 0 a X)∧Hid (Sk wr K 10 b Y)∧Hid (Sok X (c*25165830+100))∧Hid (Sok Y (c*25165830+100))) (fun i _=>200 - (intOf i).toNat)
 case atStart=>exact⟨0,K4,X0,Y0,Nat.zero_le _,by omega,rfl,HE4,HA4,HS4,hide (HR0.out.mono (by omega)),hide (HR1.out.mono (by omega))⟩
 case round =>
  obtain⟨c,K,X,Y,hc,hc2,rfl,HE,HX,HY,HOX,HOY⟩:=hrel
  have hxr:=(HE.out.bel.block s hxl).trans HX1.out
  obtain⟨y0,y1,y2,yf⟩:=blk3 hxr
  have lr:=lt_of_block hxr
  clear hxr
  by_cases hlt:c<m
  ·have hlt':(c:Int)<(m:Int):=by omega
   by_cases hlt2:c<200
   ·have hlt2':(c:Int)<200:=by omega
    obtain⟨q,hq⟩:∃q,l[c]?=some q:=⟨_,List.getElem?_eq_getElem (by have:=HM.out;omega)⟩
    obtain⟨g,o,hsp,hg,c0,c1,c2,c3,c4,c5,c6,c7,c8,c9⟩:=(HI.out.below HE.out.bel).at hq
    have hok:=HO.out q (List.mem_of_getElem? hq)
    subst hsp
    obtain⟨i,hi2,ei⟩:=Tryz.bit1 q.on
    obtain⟨wq,hwq⟩:∃wq,wq=wr.alloc (.cells q.cells 37):=⟨_,rfl⟩
    have hbq:Below wr.heap.size wr wq:=by rw[hwq];exact(Below.refl _ _).alloc (Nat.le_refl _) _
    have hkq:=kp_below hbq (fun _=>False) K (0,0)
    have hEq:=HE.out.go hkq (fun h=>h)
    have hXq:=HX.out.still hkq
    have hYq:=HY.out.still hkq
    have HEq:=hide hEq
    have HXq:=hide hXq
    have HYq:=hide hYq
    have HC1:Hid (q.cells=#[.int .i64 q.on,.int .i64 q.dv,.string ⟨q.name.toArray⟩,.slice q.pp q.kp q.cp,.slice q.sp q.bl q.bc,.int .i64 q.n,.int .i64 q.a1,.int .i64 q.a2,.int .i64 q.a3,.slice q.qp q.ql q.qc]):=rfl
    rw[HC1.out]at hwq
    by_cases hi1:i=1
    ·subst hi1
     have ei:bits .and .i64 q.on 1=1:=ei
     have HP:=hide (plays_all w0 wq _ 10 b Y _ hEq HT.out hYq HOY.out (by omega) q hok)
     have HOn:=hide (sok_play HOY.out hok)
     rw[HC1.out]at HP
     clear hok hbq hkq hEq hXq hYq hq
     go_wp2_with fail
     rw[←hwq]
     refine HP.out.mono ?_
     rintro e w5 ⟨K5,rfl,hs5,hk5⟩
     have HE5:=hide (HEq.out.go hk5 (os_zero 10))
     have HS5:=hide hs5
     have HF5:=hide (HXq.out.kept hk5 (fun i k h1 h5=>os_far (by omega) h1 h5))
     clear hs5 hk5
     go_wp2
     go_roundw
     case rel=>exact⟨c+1,K5,X,Y.play q,by omega,by omega,by go_num,HE5,HF5,HS5,hide (HOX.out.mono (by omega)),hide (HOn.out.mono (by omega))⟩
     case measure=>simp[intOf];omega
    ·have ei:bits .and .i64 q.on 1=0:=by rw[ei];omega
     have HP:=hide (plays_all w0 wq _ 0 a X _ hEq HT.out hXq HOX.out (by omega) q hok)
     have HOn:=hide (sok_play HOX.out hok)
     rw[HC1.out]at HP
     clear hok hbq hkq hEq hXq hYq hq
     go_wp2_with fail
     rw[←hwq]
     refine HP.out.mono ?_
     rintro e w5 ⟨K5,rfl,hs5,hk5⟩
     have HE5:=hide (HEq.out.go hk5 (os_zero 0))
     have HS5:=hide hs5
     have HF5:=hide (HYq.out.kept hk5 (fun i k h1 h5=>os_far (by omega) h1 h5))
     clear hs5 hk5
     go_wp2
     go_roundw
     case rel=>exact⟨c+1,K5,X.play q,Y,by omega,by omega,by go_num,HE5,HS5,HF5,hide (HOn.out.mono (by omega)),hide (HOY.out.mono (by omega))⟩
     case measure=>simp[intOf];omega
   ·have hlt2':¬(c:Int)<200:=by omega
    have HBe:=hide (below_ev HE.out HB1.out)
    by_cases h1:lo=1
    ·subst h1
     by_cases h9:hi=9
     ·subst h9
      have HL:=hide (lives_any w0 wr K 0 a X _ HE.out HT.out HX.out HOX.out (by omega))
      go_wp2_with fail
      refine HL.out.mono ?_
      rintro e w5 ⟨K5,rfl,hk5⟩
      have hE5:=HE.out.go hk5 (os_zero 0)
      have hY5:=HY.out.kept hk5 (fun i k h1 h5=>os_far (by omega) h1 h5)
      have HL2:=hide (lives_any w0 w5 K5 10 b Y _ hE5 HT.out hY5 HOY.out (by omega))
      have HE5:=hide hE5
      clear hk5 hE5 hY5
      go_wp2_with fail
      refine HL2.out.mono ?_
      rintro e w6 ⟨K6,rfl,hk6⟩
      have HE6:=hide (HE5.out.go hk6 (os_zero 10))
      clear hk6
      go_wp2
      go_ret
      exact⟨rfl,below_ev HE6.out HB1.out⟩
     ·go_wp2
      go_ret
      exact⟨rfl,HBe.out⟩
    ·go_wp2
     go_ret
     exact⟨rfl,HBe.out⟩
  ·have hlt':¬(c:Int)<(m:Int):=by omega
   have HBe:=hide (below_ev HE.out HB1.out)
   by_cases h1:lo=1
   ·subst h1
    by_cases h9:hi=9
    ·subst h9
     have HL:=hide (lives_any w0 wr K 0 a X _ HE.out HT.out HX.out HOX.out (by omega))
     go_wp2_with fail
     refine HL.out.mono ?_
     rintro e w5 ⟨K5,rfl,hk5⟩
     have hE5:=HE.out.go hk5 (os_zero 0)
     have hY5:=HY.out.kept hk5 (fun i k h1 h5=>os_far (by omega) h1 h5)
     have HL2:=hide (lives_any w0 w5 K5 10 b Y _ hE5 HT.out hY5 HOY.out (by omega))
     have HE5:=hide hE5
     clear hk5 hE5 hY5
     go_wp2_with fail
     refine HL2.out.mono ?_
     rintro e w6 ⟨K6,rfl,hk6⟩
     have HE6:=hide (HE5.out.go hk6 (os_zero 10))
     clear hk6
     go_wp2
     go_ret
     exact⟨rfl,below_ev HE6.out HB1.out⟩
    ·go_wp2
     go_ret
     exact⟨rfl,HBe.out⟩
   ·go_wp2
    go_ret
    exact⟨rfl,HBe.out⟩
open Go.RowKit Go.ChangeShapes Go.WideShapes Go.ChangeAt Go.Deep
theorem Tryz.cells32:Tryz.prog.cellsOf 172=1:=by kernel_rfl
theorem Tryz.own:ownKnob Tryz.prog.godebug=none:=by kernel_rfl
theorem Tryz.laidOut:laidOutB Tryz.prog=true:=by kernel_rfl
theorem Tryz.gT : Tryz.prog.globalNamed "till/code.sumSteps" = some 0 := by kernel_rfl
theorem Tryz.tT:(Tryz.prog.globals[0]?).map (·.type)=some 205:=by kernel_rfl
theorem door_met (os : Go.Os) (args : Array Value) : laidMetH Tryz.prog [("till/code.sumSteps", Rows.laid_till_code_sumSteps)] ((World.doorLaid Tryz.prog 400 os).forCall (fun _ _ => 0) ⟨#[], args, []⟩).memory :=
 laidMetH_of_parts3 (fuel:=8) (laidMet_of_run' 8 (by kernel_rfl) (by kernel_rfl)) (by kernel_rfl) (by kernel_rfl)
theorem tab_of_laid {W : World} (h : laidMetH Tryz.prog [("till/code.sumSteps", Rows.laid_till_code_sumSteps)] W) : C.Tab W := by
 rw[MakeChecks.laidMetH_plain _ _ _ (by kernel_rfl)]at h
 obtain⟨ps,⟨g0,t0,cs0,f0,p0,q0,hg0,ht0,hv0,hd0,_⟩,_⟩:=h
 obtain rfl:=Option.some.inj (Tryz.gT.symm.trans hg0)
 obtain rfl:=Option.some.inj (Tryz.tT.symm.trans ht0)
 obtain⟨xs,m1,rfl,hx1,hlen,hn3,hel⟩:=DataW.trod_array Tryz.underlying205 hd0
 have hm:C.tab.map (fun n:Nat=>(DataW.lit (.int .u32 (n:Int)):DataW Unit))=xs.map (fun x=>x.fst):=by
  have h1:=(Prod.mk.inj hx1).1
  exact DataW.agg.inj h1
 intro j hj
 have h0:=hel j hj
 obtain⟨x,hx⟩:∃x,xs[j]?=some x:=⟨xs[j]'(by rw[hn3];exact hj),List.getElem?_eq_getElem _⟩
 rw[hx,Tryz.cells32]at h0
 obtain⟨k,e1,e2,_⟩:=DataW.trod_int Tryz.underlying172 h0
 have ht:C.tab[j]?=some (C.tab.getD j 0):=by
  rw[List.getD,List.getElem?_eq_getElem (show j<C.tab.length from hj)];rfl
 have hk:(DataW.lit (.int .u32 ((C.tab.getD j 0:Nat):Int)):DataW Unit)=x.fst:=by
  have:=congrArg (fun l=>l[j]?) hm
  simp only[List.getElem?_map,hx,ht,Option.map_some,Option.some.injEq]at this
  exact this
 rw[e2]at hk
 have hk':((C.tab.getD j 0:Nat):Int)=k:=by simpa using hk
 have hc:=World.var?_cell hg0 hv0 j
 have hcs:cs0[j]?=some (.int .u32 k):=by
  have:=congrArg (fun l=>l[0]?) e1
  simp[List.getElem?_drop]at this
  simpa using this
 rw[hk',←hcs]
 exact hc
section
variable {H : Type} {enc : TypeId × Value → H} {w : World} {base : Nat} {held : Bool}
theorem Tryz.cells5:Tryz.prog.cellsOf 5=1:=by kernel_rfl
theorem Tryz.bytes5:Tryz.prog.bytesOf 5=1:=by kernel_rfl
theorem Tryz.cellsInt:Tryz.prog.cellsOf 3=1:=by kernel_rfl
theorem Tryz.bytesInt:Tryz.prog.bytesOf 3=8:=by kernel_rfl
theorem Tryz.cellsB:Tryz.prog.cellsOf 32=1:=by kernel_rfl
theorem Tryz.bytesB:Tryz.prog.bytesOf 32=24:=by kernel_rfl
theorem Tryz.cellsBB:Tryz.prog.cellsOf 31=1:=by kernel_rfl
theorem Tryz.cellsIs:Tryz.prog.cellsOf 35=1:=by kernel_rfl
theorem Tryz.cellsOp:Tryz.prog.cellsOf 37=10:=by kernel_rfl
theorem Tryz.bytesOp:Tryz.prog.bytesOf 37=136:=by kernel_rfl
theorem Tryz.cellsOps:Tryz.prog.cellsOf 23=1:=by kernel_rfl
theorem Tryz.cellsS:Tryz.prog.cellsOf 9=1:=by kernel_rfl
theorem Tryz.cellsPl:Tryz.prog.cellsOf 34=3:=by kernel_rfl
theorem Tryz.cellsRoom:Tryz.prog.cellsOf 22=2:=by kernel_rfl
theorem Tryz.cellsScript:Tryz.prog.cellsOf 25=3:=by kernel_rfl
theorem addr_plain {a:Addr} {v:Value} (h:w.cell? a=some v):∃g o,a=⟨g,o,none⟩:=by
 obtain⟨g,o,sp⟩:=a
 unfold World.cell? at h
 cases sp with
 | none=>exact⟨g,o,rfl⟩
 | some x=>split at h <;> simp at h
theorem add_plain (g o j:Nat):(⟨g,o,none⟩:Addr).add j=⟨g,o+j,none⟩:=by
 unfold Addr.add;split <;> simp_all
theorem bytes_open {fuel:Nat} {v:Value} {x:DataW H × List MemPlace} (h:DataW.trod enc Tryz.prog w base (fun _=>true) held fuel 32 [v]=some x) (hw:∀n∈x.1.weights Tryz.prog 32,n≤reachBytes) :
  ∃sp l c xs,v=.slice sp l c∧xs.length=l∧l≤c∧c≤140737488351232∧Bytes w sp xs∧(xs=[]∨∀g o,sp=some ⟨g,o,none⟩→g<w.heap.size):=by
 rcases open_ints Tryz.underlying32 Tryz.underlying5 Tryz.cells5 h with ⟨hcs,hx⟩ | ⟨a,len,cap,zs,hcs,_,hl,hm,hz,hx,hcell,hwz⟩
 ·simp at hcs
  exact⟨none,0,0,[],hcs,rfl,by omega,by omega,⟨fun _ h=>(by cases h),Or.inl rfl⟩,Or.inl rfl⟩
 ·simp at hcs hz
  have h1:=hw (cap*1) (by rw[hx];simp[DataW.weights,Tryz.underlying32,Tryz.bytes5,lits,hz];left;omega)
  have h2:cap≤140737488351232:=by simpa[reachBytes] using h1
  have hsm:∀y∈(zs.take len).map Int.toNat,y<256:=by
   intro y hy
   simp only[List.mem_map]at hy
   obtain⟨z,hz',rfl⟩:=hy
   have:=bounds_u8 (hwz z (List.mem_of_mem_take hz'))
   omega
  by_cases h0:len=0
  ·subst h0
   exact⟨some a,0,cap,[],hcs,rfl,hl,h2,⟨fun _ h=>(by cases h),Or.inl rfl⟩,Or.inl rfl⟩
  ·obtain⟨g,o,rfl⟩:∃g o,a=⟨g,o,none⟩:=by
    have:=hcell 0 (by omega)
    obtain⟨g,o,e⟩:=addr_plain this
    refine⟨g,o,?_⟩
    simpa[Addr.add] using e
   have hg:g<w.heap.size:=by have:=cell_block (hcell 0 (by omega));rw[add_plain]at this;exact this
   refine⟨some ⟨g,o,none⟩,len,cap,(zs.take len).map Int.toNat,hcs,by simp;omega,hl,h2,⟨hsm,Or.inr ⟨g,o,rfl,hg,fun j hj=>?_⟩⟩,Or.inr (fun g' o' e=>by cases e;exact hg)⟩
   simp at hj
   have:=hcell j (by omega)
   rw[add_plain]at this
   rw[this]
   have hb:=bounds_u8 (hwz _ (List.getElem_mem (show j<zs.length by omega)))
   simp[List.getD,show j<len by omega,List.getElem?_eq_getElem (show j<zs.length by omega)]
   omega
theorem weights_all {P:Program} {e:TypeId} : ∀{l:List (DataW H)} {d:DataW H},d∈l→∀n∈d.weights P e,n∈DataW.weightsAll P e l
 | d0 :: r,d,hd,n,hn=>by
  simp only[DataW.weightsAll,List.mem_append]
  rcases List.mem_cons.1 hd with rfl | h
  ·exact Or.inl hn
  ·exact Or.inr (weights_all h n hn)
 | [],_,hd,_,_=>by cases hd
theorem ints_open {fuel:Nat} {v:Value} {x:DataW H × List MemPlace} (h:DataW.trod enc Tryz.prog w base (fun _=>true) held fuel 35 [v]=some x) (hw:∀n∈x.1.weights Tryz.prog 35,n≤reachBytes) :
  ∃sp l c zs,v=.slice sp l c∧zs.length=l∧l≤140737488351232∧Ins w sp zs:=by
 rcases open_ints Tryz.underlying35 Tryz.underlying3 Tryz.cellsInt h with ⟨hcs,hx⟩ | ⟨a,len,cap,zs,hcs,_,hl,hm,hz,hx,hcell,hwz⟩
 ·simp at hcs
  exact⟨none,0,0,[],hcs,rfl,by omega,⟨Or.inl rfl⟩⟩
 ·simp at hcs hz
  have h1:=hw (cap*8) (by rw[hx];simp[DataW.weights,Tryz.underlying35,Tryz.bytesInt,lits,hz];left;omega)
  have h2:cap≤140737488351232:=by have h3:cap*8≤140737488351232:=by simpa[reachBytes] using h1
                                  omega
  by_cases h0:len=0
  ·subst h0
   exact⟨some a,0,cap,[],hcs,rfl,by omega,⟨Or.inl rfl⟩⟩
  ·obtain⟨g,o,rfl⟩:∃g o,a=⟨g,o,none⟩:=by
    have:=hcell 0 (by omega)
    obtain⟨g,o,e⟩:=addr_plain this
    refine⟨g,o,?_⟩
    simpa[Addr.add] using e
   have hg:g<w.heap.size:=by have:=cell_block (hcell 0 (by omega));rw[add_plain]at this;exact this
   refine⟨some ⟨g,o,none⟩,len,cap,zs.take len,hcs,by simp;omega,by omega,⟨Or.inr ⟨g,o,rfl,hg,fun j hj=>?_⟩⟩⟩
   simp at hj
   have:=hcell j (by omega)
   rw[add_plain]at this
   rw[this]
   simp[List.getD,show j<len by omega,List.getElem?_eq_getElem (show j<zs.length by omega)]
theorem parts_open {fuel:Nat} {v:Value} {x:DataW H × List MemPlace} (h:DataW.trod enc Tryz.prog w base (fun _=>true) held fuel 31 [v]=some x) (hw:∀n∈x.1.weights Tryz.prog 31,n≤reachBytes) :
  ∃pp k cap ps,v=.slice pp k cap∧ps.length=k∧k≤5864062014634∧Pts w pp ps∧∀p∈ps,∀y∈p,y<256:=by
 rcases open_slice Tryz.underlying31 h with ⟨hcs,hx⟩ | ⟨a,len,cap,m,n,D,Pl,hcs,_,hl,hm,hmm,hx,hel⟩
 ·simp at hcs
  exact⟨none,0,0,[],hcs,rfl,by omega,⟨fun _ h=>(by cases h),Or.inl rfl⟩,fun _ h=>(by cases h)⟩
 ·simp at hcs hmm
  rw[Tryz.cellsB]at hel
  have hD:x.1=.slice ((List.range len).map D) ((List.range (m - len)).map fun j=>D (len+j)):=by rw[hx]
  have hcap:cap≤5864062014634:=by
   have h1:=hw ((len+(m - len))*24) (by rw[hD];simp[DataW.weights,Tryz.underlying31,Tryz.bytesB])
   simp only[reachBytes]at h1
   omega
  have hDw:∀i,i<len→∀n∈(D i).weights Tryz.prog 32,n≤reachBytes:=fun i hi n hn=>hw n (by
   rw[hD]
   simp only[DataW.weights,Tryz.underlying31,List.mem_cons,List.mem_append]
   exact Or.inr (Or.inl (weights_all (List.mem_map.2 ⟨i,List.mem_range.2 hi,rfl⟩) n hn)))
  obtain⟨f,hf⟩:=@choose_lt (Option Addr × Nat × List Nat) ⟨(none,0,[])⟩ len (fun i p=>w.cells? base (a.add (i*1)) 1=some [.slice p.1 p.2.2.length p.2.1]∧p.2.2.length≤140737488351232∧Bytes w p.1 p.2.2) (fun i hi=>by
   obtain⟨cs',h1,h2⟩:=hel i (by omega)
   obtain⟨u,hu⟩:∃u,cs'=[u]:=List.length_eq_one_iff.1 (World.cells?_some h1).2.1
   subst hu
   obtain⟨sp,l,c,xs,rfl,q1,q2,q3,q4,_⟩:=bytes_open h2 (hDw i hi)
   exact⟨(sp,c,xs),by rw[h1,q1],by show xs.length≤_;omega,q4⟩)
  refine⟨some a,len,cap,(List.range len).map fun i=>(f i).2.2,hcs,by simp,by omega,⟨fun p hp=>?_,?_⟩,fun p hp y hy=>?_⟩
  ·simp only[List.mem_map,List.mem_range]at hp
   obtain⟨i,hi,rfl⟩:=hp
   exact(hf i hi).2.1
  ·by_cases h0:len=0
   ·left;simp[h0]
   ·right
    have c0:=(World.cells?_some (hf 0 (by omega)).1).2.2 0 (by omega)
    obtain⟨g,o,rfl⟩:∃g o,a=⟨g,o,none⟩:=by
     obtain⟨g,o,e⟩:=addr_plain (v:=.slice (f 0).1 (f 0).2.2.length (f 0).2.1) (by simpa using c0)
     exact⟨g,o,by simpa[Addr.add] using e⟩
    refine⟨g,o,rfl,?_,fun j p hj=>?_⟩
    ·have:=cell_block (v:=.slice (f 0).1 (f 0).2.2.length (f 0).2.1) (by simpa using c0)
     simpa[add_plain] using this
    ·have hjl:j<len:=by
      have:=(List.getElem?_eq_some_iff.1 hj).1
      simpa using this
     rw[List.getElem?_map,List.getElem?_range hjl]at hj
     simp at hj
     subst hj
     have e0:=(World.cells?_some (hf j hjl).1).2.2 0 (by omega)
     simp only[add_plain]at e0
     exact⟨(f j).1,(f j).2.1,by simpa using e0,(hf j hjl).2.2⟩
  ·simp only[List.mem_map,List.mem_range]at hp
   obtain⟨i,hi,rfl⟩:=hp
   exact(hf i hi).2.2.small y hy
theorem ten {l:List Value} (h:l.length=10):∃a b c d e f g i j k,l=[a,b,c,d,e,f,g,i,j,k]:=by
 match l,h with
 | [a,b,c,d,e,f,g,i,j,k],_=>exact⟨a,b,c,d,e,f,g,i,j,k,rfl⟩
theorem str_back (s:ByteArray):(⟨s.data.toList.toArray⟩:ByteArray)=s:=by cases s;simp
theorem op_open {fuel:Nat} {cs:List Value} {x:DataW H × List MemPlace} (h:DataW.trod enc Tryz.prog w base (fun _=>true) held fuel 37 cs=some x) (hw:∀n∈x.1.weights Tryz.prog 37,n≤reachBytes) :
  ∃q:Opj,cs=q.cells.toList∧OpjOk w q:=by
 obtain⟨ys,n,_,rfl,hl,hlen,hf⟩:=DataW.trod_struct Tryz.underlying37 h
 rw[Tryz.cellsOp]at hl
 obtain⟨a,b,c,d,e,f,g,i,j,k,rfl⟩:=ten hl
 have f0:DataW.trod enc Tryz.prog w base (fun _=>true) held n 3 (([a,b,c,d,e,f,g,i,j,k].drop 0).take (Tryz.prog.cellsOf 3))=ys[0]?:=hf 0 _ rfl
 have f1:DataW.trod enc Tryz.prog w base (fun _=>true) held n 3 (([a,b,c,d,e,f,g,i,j,k].drop 1).take (Tryz.prog.cellsOf 3))=ys[1]?:=hf 1 _ rfl
 have f2:DataW.trod enc Tryz.prog w base (fun _=>true) held n 9 (([a,b,c,d,e,f,g,i,j,k].drop 2).take (Tryz.prog.cellsOf 9))=ys[2]?:=hf 2 _ rfl
 have f3:DataW.trod enc Tryz.prog w base (fun _=>true) held n 31 (([a,b,c,d,e,f,g,i,j,k].drop 3).take (Tryz.prog.cellsOf 31))=ys[3]?:=hf 3 _ rfl
 have f4:DataW.trod enc Tryz.prog w base (fun _=>true) held n 32 (([a,b,c,d,e,f,g,i,j,k].drop 4).take (Tryz.prog.cellsOf 32))=ys[4]?:=hf 4 _ rfl
 have f5:DataW.trod enc Tryz.prog w base (fun _=>true) held n 3 (([a,b,c,d,e,f,g,i,j,k].drop 5).take (Tryz.prog.cellsOf 3))=ys[5]?:=hf 5 _ rfl
 have f6:DataW.trod enc Tryz.prog w base (fun _=>true) held n 34 (([a,b,c,d,e,f,g,i,j,k].drop 6).take (Tryz.prog.cellsOf 34))=ys[6]?:=hf 6 _ rfl
 have f7:DataW.trod enc Tryz.prog w base (fun _=>true) held n 35 (([a,b,c,d,e,f,g,i,j,k].drop 9).take (Tryz.prog.cellsOf 35))=ys[7]?:=hf 7 _ rfl
 simp only[Tryz.cellsInt,Tryz.cellsS,Tryz.cellsB,Tryz.cellsBB,Tryz.cellsPl,Tryz.cellsIs,List.drop_zero,List.drop_succ_cons,List.take_succ_cons,List.take_zero]at f0 f1 f2 f3 f4 f5 f6 f7
 have hy:∀i,i<8→∃y,ys[i]?=some y:=fun i hi=>⟨ys[i]'(by rw[hlen];exact hi),List.getElem?_eq_getElem _⟩
 obtain⟨y0,e0⟩:=hy 0 (by omega)
 obtain⟨y1,e1⟩:=hy 1 (by omega)
 obtain⟨y2,e2⟩:=hy 2 (by omega)
 obtain⟨y3,e3⟩:=hy 3 (by omega)
 obtain⟨y4,e4⟩:=hy 4 (by omega)
 obtain⟨y5,e5⟩:=hy 5 (by omega)
 obtain⟨y6,e6⟩:=hy 6 (by omega)
 obtain⟨y7,e7⟩:=hy 7 (by omega)
 rw[e0]at f0;rw[e1]at f1;rw[e2]at f2;rw[e3]at f3;rw[e4]at f4;rw[e5]at f5;rw[e6]at f6;rw[e7]at f7
 obtain⟨z0,g0,_,w0⟩:=DataW.trod_int Tryz.underlying3 f0
 obtain⟨z1,g1,_,w1⟩:=DataW.trod_int Tryz.underlying3 f1
 obtain⟨s2,g2,x2,_⟩:=DataW.trod_string Tryz.underlying9 f2
 obtain⟨z5,g5,_,w5⟩:=DataW.trod_int Tryz.underlying3 f5
 have hw2:∀n∈y2.1.weights Tryz.prog 9,n≤reachBytes:=fun n hn=>hw n (by
  simp only[DataW.weights,Tryz.underlying37]
  exact DataW.weights_mem_each (j:=2) (t:=9) rfl (by simp[e2]) n hn)
 have hw3:∀n∈y3.1.weights Tryz.prog 31,n≤reachBytes:=fun n hn=>hw n (by
  simp only[DataW.weights,Tryz.underlying37]
  exact DataW.weights_mem_each (j:=3) (t:=31) rfl (by simp[e3]) n hn)
 have hw4:∀n∈y4.1.weights Tryz.prog 32,n≤reachBytes:=fun n hn=>hw n (by
  simp only[DataW.weights,Tryz.underlying37]
  exact DataW.weights_mem_each (j:=4) (t:=32) rfl (by simp[e4]) n hn)
 have hw7:∀n∈y7.1.weights Tryz.prog 35,n≤reachBytes:=fun n hn=>hw n (by
  simp only[DataW.weights,Tryz.underlying37]
  exact DataW.weights_mem_each (j:=7) (t:=35) rfl (by simp[e7]) n hn)
 obtain⟨pp,kp,cp,ps,g3,p1,p2,p3,p4⟩:=parts_open f3 hw3
 obtain⟨sp,l,bc,xs,g4,b1,b2,b3,b4,_⟩:=bytes_open f4 hw4
 obtain⟨qp,ql,qc,zq,g7,q1,q2,q3⟩:=ints_open f7 hw7
 obtain⟨zs,m,_,x6,hl6,hlen6,hf6⟩:=DataW.trod_struct Tryz.underlying34 f6
 have k0:DataW.trod enc Tryz.prog w base (fun _=>true) held m 3 (([g,i,j].drop 0).take (Tryz.prog.cellsOf 3))=zs[0]?:=hf6 0 _ rfl
 have k1:DataW.trod enc Tryz.prog w base (fun _=>true) held m 3 (([g,i,j].drop 1).take (Tryz.prog.cellsOf 3))=zs[1]?:=hf6 1 _ rfl
 have k2:DataW.trod enc Tryz.prog w base (fun _=>true) held m 3 (([g,i,j].drop 2).take (Tryz.prog.cellsOf 3))=zs[2]?:=hf6 2 _ rfl
 simp only[Tryz.cellsInt,List.drop_zero,List.drop_succ_cons,List.take_succ_cons,List.take_zero]at k0 k1 k2
 have hz6:∀i,i<3→∃y,zs[i]?=some y:=fun i hi=>⟨zs[i]'(by rw[hlen6];exact hi),List.getElem?_eq_getElem _⟩
 obtain⟨v0,d0⟩:=hz6 0 (by omega)
 obtain⟨v1,d1⟩:=hz6 1 (by omega)
 obtain⟨v2,d2⟩:=hz6 2 (by omega)
 rw[d0]at k0;rw[d1]at k1;rw[d2]at k2
 obtain⟨r0,j0,_,_⟩:=DataW.trod_int Tryz.underlying3 k0
 obtain⟨r1,j1,_,_⟩:=DataW.trod_int Tryz.underlying3 k1
 obtain⟨r2,j2,_,_⟩:=DataW.trod_int Tryz.underlying3 k2
 simp at g0 g1 g2 g5 j0 j1 j2
 subst g0 g1 g2 g3 g4 g5 j0 j1 j2 g7
 have n2:s2.data.toList.length≤140737488351232:=by
  have:=hw2 s2.data.toList.length (by rw[x2];simp[DataW.weights])
  simp only[reachBytes]at this;omega
 refine⟨⟨z0,z1,s2.data.toList,pp,kp,cp,ps,sp,l,bc,xs,z5,r0,r1,r2,qp,ql,qc,zq⟩,?_,⟨n2,p1,by show kp≤_;omega,p3,p4,b1,by show l≤_;omega,b4,bounds_i64 w5,q1,by show ql≤_;omega,q3⟩⟩
 simp only[Opj.cells,str_back]
theorem ops_open {fuel:Nat} {v:Value} {x:DataW H × List MemPlace} (h:DataW.trod enc Tryz.prog w base (fun _=>true) held fuel 23 [v]=some x) (hw:∀n∈x.1.weights Tryz.prog 23,n≤reachBytes) :
  ∃sp l c ops,v=.slice sp l c∧ops.length=l∧l≤140737488351232∧Opl w sp ops∧∀q∈ops,OpjOk w q:=by
 rcases open_slice Tryz.underlying23 h with ⟨hcs,hx⟩ | ⟨a,len,cap,m,n,D,Pl,hcs,_,hl,hm,hmm,hx,hel⟩
 ·simp at hcs
  exact⟨none,0,0,[],hcs,rfl,by omega,⟨Or.inl rfl⟩,fun _ h=>(by cases h)⟩
 ·simp at hcs hmm
  rw[Tryz.cellsOp]at hel
  have hD:x.1=.slice ((List.range len).map D) ((List.range (m - len)).map fun j=>D (len+j)):=by rw[hx]
  have hcap:cap≤140737488351232:=by
   have h1:=hw ((len+(m - len))*136) (by rw[hD];simp[DataW.weights,Tryz.underlying23,Tryz.bytesOp])
   simp only[reachBytes]at h1
   omega
  have hDw:∀i,i<len→∀n∈(D i).weights Tryz.prog 37,n≤reachBytes:=fun i hi n hn=>hw n (by
   rw[hD]
   simp only[DataW.weights,Tryz.underlying23,List.mem_cons,List.mem_append]
   exact Or.inr (Or.inl (weights_all (List.mem_map.2 ⟨i,List.mem_range.2 hi,rfl⟩) n hn)))
  obtain⟨f,hf⟩:=@choose_lt Opj ⟨tOp⟩ len (fun i p=>w.cells? base (a.add (i*10)) 10=some p.cells.toList∧OpjOk w p) (fun i hi=>by
   obtain⟨cs',h1,h2⟩:=hel i (by omega)
   obtain⟨p,rfl,hp⟩:=op_open h2 (hDw i hi)
   exact⟨p,h1,hp⟩)
  refine⟨some a,len,cap,(List.range len).map f,hcs,by simp,by omega,⟨?_⟩,?_⟩
  ·by_cases h0:len=0
   ·left;simp[h0]
   ·right
    have c0:=(World.cells?_some (hf 0 (by omega)).1).2.2 0 (by omega)
    obtain⟨g,o,rfl⟩:∃g o,a=⟨g,o,none⟩:=by
     obtain⟨g,o,e⟩:=addr_plain (v:=.int .i64 (f 0).on) (by simpa[Opj.cells] using c0)
     exact⟨g,o,by simpa[Addr.add] using e⟩
    refine⟨g,o,rfl,?_,fun j q hj i u hu=>?_⟩
    ·have:=cell_block (v:=.int .i64 (f 0).on) (by simpa[Opj.cells] using c0)
     simpa[add_plain] using this
    ·have hjl:j<len:=by
      have:=(List.getElem?_eq_some_iff.1 hj).1
      simpa using this
     rw[List.getElem?_map,List.getElem?_range hjl]at hj
     simp at hj
     subst hj
     have hil:i<10:=(List.getElem?_eq_some_iff.1 hu).1
     have hc:=(World.cells?_some (hf j hjl).1).2.2 i hil
     simp only[add_plain]at hc
     exact hc.trans hu
  ·intro p hp
   simp only[List.mem_map,List.mem_range]at hp
   obtain⟨i,hi,rfl⟩:=hp
   exact(hf i hi).2
theorem arr3 {α:Type} {cs:Array α} (h:cs.size=3):∃c0 c1 c2,cs=#[c0,c1,c2]:=by
 obtain⟨l⟩:=cs
 match l,h with
 | [a,b,c],_=>exact⟨a,b,c,rfl⟩
theorem script_open {r:Reach} {b0:Nat} {v:Value} {d:DataW H} {pl:List MemPlace} (hv:Value.okWide Tryz.prog w r b0 25 v) (h:DataW.Trod enc Tryz.prog w base (fun _=>true) held 25 v d pl)
  (hw:∀n∈d.weights Tryz.prog 25,n≤reachBytes):∃z0 z1 sp l c ops,v=.agg #[.int .i64 z0,.int .i64 z1,.slice sp l c]∧ops.length=l∧l≤140737488351232∧Opl w sp ops∧∀q∈ops,OpjOk w q:=by
 obtain⟨cs,rfl,hsz⟩:=okWide_struct Tryz.underlying25 hv
 obtain⟨c0,c1,c2,rfl⟩:=arr3 (hsz.trans Tryz.cellsScript)
 obtain⟨fuel,hf0⟩:=h
 obtain⟨ys,n,_,hx,hl,hlen,hf⟩:=DataW.trod_struct Tryz.underlying25 hf0
 have f0:DataW.trod enc Tryz.prog w base (fun _=>true) held n 22 (([c0,c1,c2].drop 0).take (Tryz.prog.cellsOf 22))=ys[0]?:=hf 0 _ rfl
 have f1:DataW.trod enc Tryz.prog w base (fun _=>true) held n 23 (([c0,c1,c2].drop 2).take (Tryz.prog.cellsOf 23))=ys[1]?:=hf 1 _ rfl
 simp only[Tryz.cellsRoom,Tryz.cellsOps,List.drop_zero,List.drop_succ_cons,List.take_succ_cons,List.take_zero]at f0 f1
 have hy:∀i,i<2→∃y,ys[i]?=some y:=fun i hi=>⟨ys[i]'(by rw[hlen];exact hi),List.getElem?_eq_getElem _⟩
 obtain⟨y0,e0⟩:=hy 0 (by omega)
 obtain⟨y1,e1⟩:=hy 1 (by omega)
 rw[e0]at f0
 rw[e1]at f1
 simp only[Prod.mk.injEq]at hx
 obtain⟨rfl,_⟩:=hx
 have hw1:∀n∈y1.1.weights Tryz.prog 23,n≤reachBytes:=fun n hn=>hw n (by
  simp only[DataW.weights,Tryz.underlying25]
  exact DataW.weights_mem_each (j:=1) (t:=23) rfl (by simp[e1]) n hn)
 obtain⟨xs,m1,_,hx1,hlen1,hn3,hel⟩:=DataW.trod_array Tryz.underlying22 f0
 have hi:∀j,j<2→∃z:Int,([c0,c1].drop j).take 1=[Value.int .i64 z]:=fun j hj=>by
  have h0:=hel j hj
  obtain⟨x,hx⟩:∃x,xs[j]?=some x:=⟨xs[j]'(by rw[hn3];exact hj),List.getElem?_eq_getElem _⟩
  rw[hx,Tryz.cellsInt]at h0
  obtain⟨k,e1,_,_⟩:=DataW.trod_int Tryz.underlying3 h0
  exact⟨k,by simpa using e1⟩
 obtain⟨z0,g0⟩:=hi 0 (by omega)
 obtain⟨z1,g1⟩:=hi 1 (by omega)
 simp at g0 g1
 obtain⟨sp,l,c,ops,rfl,o1,o2,o3,o4⟩:=ops_open f1 hw1
 subst g0 g1
 exact⟨z0,z1,sp,l,c,ops,rfl,o1,o2,o3,o4⟩
end
end Go.Proofs.YtcceejdaokoihaaGreatDoor
