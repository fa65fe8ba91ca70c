import Derived.Test.YtcceejdaokoihaaGreatDoorXZa
set_option maxRecDepth 100000
namespace Go.Proofs.YtcceejdaokoihaaGreatDoor
open Go.RowKit Go.Maps
theorem cp_alien {w w2:World} {K:Knd} {o:Nat} (ho:o≠0) {a:Option Addr} {c n:Nat} {xs:List Nat} (hn:xs.length=n) (h:w2.ownsRow w.heap.size 5 1 (.slice a n c) n (vals xs)):Alien (ext K w.heap.size (0,0)) o a xs:=by
 rcases h.2 with ⟨_,e2⟩ | ⟨g,cap,cur,e1,e2,_⟩
 ·left;exact List.eq_nil_of_length_eq_zero (by rw[hn];exact e2)
 ·right
  intro g2 p e
  cases e1
  cases e
  rw[ext_new K _ e2]
  exact fun e=>ho e.symm
theorem cp_bytes {w2:World} {B:Nat} {a:Option Addr} {c n:Nat} {xs:List Nat} (hn:xs.length=n) (h:w2.ownsRow B 5 1 (.slice a n c) n (vals xs)) (hs:∀x∈xs,x<256):Bytes w2 a xs:=by
 subst hn
 exact owns_bytes h hs
set_option maxHeartbeats 4000000 in
theorem plays_lay (w0 w:World) (K:Knd) (c b:Nat) (X:Sd) (k:Nat) (he:Ev w0 w K) (hT:C.Tab w0) (h:Sk w K c b X) (ho:Sok X k) (hk:k≤274000000000) (o:Opj) (hop:OpjOk w0 o) (hdo:o.dv=7) :
  Calls Tryz.prog 9 #[.pointer (some ⟨b,0,none⟩),.agg o.cells] w (SRes w K c b (X.play o) (.bool true)):=by
 obtain⟨on,dv,nmx,pp,kp,cp,parts,sp,bl,bc,xs,n,a1,a2,a3,qp,ql,qc,picks⟩:=o
 simp only at hdo
 subst hdo
 have HX:Hid (X.play ⟨on,7,nmx,pp,kp,cp,parts,sp,bl,bc,xs,n,a1,a2,a3,qp,ql,qc,picks⟩=({ X with S:=(X.S.appendR X.name xs).2 } : Sd).opened X.name):=by show _=_;unfold Sd.play;simp
 have HOp:=hide hop
 have hpl:=pl_box h he ⟨on,7,nmx,pp,kp,cp,parts,sp,bl,bc,xs,n,a1,a2,a3,qp,ql,qc,picks⟩
 simp only[Opj.cells]at hpl ⊢
 generalize hwB:w.alloc (.cells #[.int .i64 on,.int .i64 7,.string ⟨nmx.toArray⟩,.slice pp kp cp,.slice sp bl bc,.int .i64 n,.int .i64 a1,.int .i64 a2,.int .i64 a3,.slice qp ql qc] 37)=wB at *
 generalize ext K w.heap.size (0,0)=KB at *
 have hbx:=hpl.box
 simp only[Opj.cells]at hbx
 obtain⟨bx,hbxe⟩:∃bx,w.heap.size=bx:=⟨_,rfl⟩
 rw[hbxe]at hbx
 obtain⟨o0,o1,o2,o3,o4,o5,o6,o7,o8,o9,of⟩:=blk10 hbx
 have hbxl:=lt_of_block hbx
 have HPl:=hide hpl
 have HBx:=hide hbx
 obtain⟨d,rd,jp,rp,hw⟩:=hpl.sk
 have HW:=hide hw
 obtain⟨q0,q1,q2,q3,q4,q5,qf⟩:=blk6 hw.blk
 have hbl:=lt_of_block hw.blk
 have htB:C.Tab wB:=hT.below hpl.ev.bel hT.pos
 have hk0:KB 0=(0,0):=hpl.ev.k0 0 hT.pos
 have HO:=hide ho
 have HT:=hide htB
 have HK0:=hide hk0
 have HT0:=hide hT
 have HKx:Hid (KB bx=(0,0)):=by rw[←hbxe];exact hpl.kbx
 have hnl:=(nm_len (nm_two ho.nm).1).2
 have hfb:=okd_fb0 ho.ok (by omega:k≤274877906944)
 have HFb:=hide hfb
 have hbll:=hop.bll
 have HCp:=hide (fun q=>copy_any (wB.drewN q) sp bl bc xs hop.bl ((hop.by'.below hpl.ev.bel).drewN q) hop.bll)
 obtain⟨S',hS'⟩:∃S',(X.S.appendR X.name xs).2=S':=⟨_,rfl⟩
 obtain⟨er,her⟩:∃er,(X.S.appendR X.name xs).1=er:=⟨_,rfl⟩
 have HS':=hide hS'
 have HEr:=hide her
 rw[hS']at HX
 generalize hsx:(⟨X.name.toArray⟩:ByteArray)=sx at *
 have HSx:=hide hsx
 clear hfb hS' her hsx
 obtain⟨jc,hjc⟩:∃jc:Option Nat,jp=jc.map (fun g=>(⟨g,0,none⟩:Addr)):=by
  cases hJ:X.j with
  | none=>exact⟨none,(hw.no hJ).1⟩
  | some J=>obtain⟨jb,rb,e1,_⟩:=hw.jk J hJ;exact⟨some jb,e1⟩
 clear hpl hbx hw htB hk0 h he hT ho hop
 cases jc
 all_goals
  simp only[Option.map_none,Option.map_some]at hjc
  subst hjc
  go_enter Tryz.func9,Tryz.ntmps9
  go_wp2
  go_region_held3 (fun w'=>w'.cell? ⟨b,2,none⟩=some (.pointer (some ⟨d,0,none⟩))∧w'.cell? ⟨b,1,none⟩=some (.string sx)∧w'.cell? ⟨bx,4,none⟩=some (.slice sp bl bc)) (first | (refine⟨?_,?_,?_⟩ <;> assumption) | go_keep)
   (first
    | (go_at_call 32;refine HAp.out.mono ?_;rintro e w3 ⟨K3,rfl,hd3,hk3⟩;have HD3:=hide hd3;have HK3:=hide hk3;have u2:=((HW2.out.cell hk3 (fun e=>by have e':c+5=c+1:=e;omega)).1 2).trans s2;have u1:=((HW2.out.cell hk3 (fun e=>by have e':c+5=c+1:=e;omega)).1 1).trans s1;have u4:=((HW2.out.cell hk3 (fun e=>by have e':c+5=c+1:=e;omega)).1 4).trans s4;have hbl3:=(HW2.out.cell hk3 (fun e=>by have e':c+5=c+1:=e;omega)).2;have v4:w3.cell? ⟨bx,4,none⟩=some (.slice sp bl bc):=(World.cell?_of_block (hk3.block bx hbx2 (by rw[HKx2.out];exact fun e=>by have e':0=c+1:=e;omega))).trans t4;rw[HEr.out];clear hd3 hk3)
    | (go_at_call 33;refine(HCp.out 1).mono ?_;rintro e w2 ⟨a2,c2,rfl,ho2,hb2⟩;have HB2:=hide (below_un3 hb2);have hk2:=kp_below HB2.out (fun _=>False) KB (0,0);have HPl2:=hide (HPl.out.still hk2);have HW2:=hide (HW.out.kept hk2 (fun _ _ _ _ h=>h));have s1:=(HB2.out.cell (p:=⟨b,1,none⟩) hbl).trans q1;have s2:=(HB2.out.cell (p:=⟨b,2,none⟩) hbl).trans q2;have s4:=(HB2.out.cell (p:=⟨b,4,none⟩) hbl).trans q4;have t4:=(HB2.out.cell (p:=⟨bx,4,none⟩) hbxl).trans o4;have hbl2:b<w2.heap.size:=Nat.lt_of_lt_of_le hbl HB2.out.size;have hbx2:bx<w2.heap.size:=Nat.lt_of_lt_of_le hbxl HB2.out.size;have HKx2:Hid (ext KB wB.heap.size (0,0) bx=(0,0)):=(ext_old KB _ hbxl).trans HKx.out;have hal:=cp_alien (K:=KB) (w:=wB) (o:=c+1) (by omega) HOp.out.bl ho2;have hby2:=cp_bytes HOp.out.bl ho2 HOp.out.by'.small;have hAp:=Append_all w2 _ (c+1) d X.S HW2.out.dk k X.name (by omega) a2 bl c2 xs HOp.out.bl HO.out.ok.inv HO.out.ok.sz (by omega) (by omega) hby2 hal;rw[HSx.out]at hAp;have HAp:=hide hAp;generalize ext KB wB.heap.size (0,0)=K2 at *;clear ho2 hb2 hk2 hal hby2 hAp HCp)
    | fail)
  have hT3:=HW2.out.tk.kept HK3.out (fun q e=>by have e':c+3=c+1:=e;omega)
  have hev3:=HPl2.out.ev.go HK3.out (fun e=>by have e':0=c+1:=e;omega)
  have hal3:Alien K3 (c+3) sp xs:=by
   rcases HOp.out.by'.lie with e | ⟨g,q,e,hg,_⟩
   ·exact Or.inl e
   ·right
    intro g2 p e2
    have e:sp=some ⟨g,q,none⟩:=e
    rw[e]at e2
    cases e2
    rw[hev3.k0 g hg]
    exact fun e=>by have e':0=c+3:=e;omega
  have hDp:=fun q=>tappend_all (w3.drewN q) K3 (c+3) rd X.S (tk_drew2 hT3 q) HO.out.ok.inv HFb.out (by have:=HO.out.ok.sz.st;omega) (by have:=HO.out.ok.sz.pl;omega) (by have:=HO.out.ok.fl;omega) X.name sp bl bc xs HOp.out.bl (by omega) ((HOp.out.by'.below hev3.bel).drewN q) hal3
  rw[HSx.out]at hDp
  have HDp:=hide hDp
  have hbx3:bx<w3.heap.size:=Nat.lt_of_lt_of_le hbx2 HK3.out.size
  have HKb3:Hid (K3 b=(c+5,0)):=(HK3.out.same b hbl2).trans HW2.out.kb
  have HKx3:Hid (K3 bx=(0,0)):=(HK3.out.same bx hbx2).trans HKx2.out
  clear hT3 hev3 hal3 hDp s1 s2 s4 t4 q0 q1 q2 q3 q4 q5 qf o0 o1 o2 o3 o4 o5 o6 o7 o8 o9 of
  go_wp2
  go_region_held3 (fun w'=>w'.cell? ⟨b,4,none⟩=some (.pointer (some ⟨rd,0,none⟩))∧w'.cell? ⟨b,1,none⟩=some (.string sx)∧w'.cell? ⟨bx,4,none⟩=some (.slice sp bl bc)) (first | (refine⟨?_,?_,?_⟩ <;> assumption) | go_keep)
   (first
    | (go_at_call 34;refine(HDp.out 1).mono ?_;rintro e w4 ⟨K4,rfl,ht4,hk4⟩;have HT4:=hide ht4;have HK4:=hide (kp_un2 hk4);have x4:w4.cell? ⟨b,4,none⟩=some (.pointer (some ⟨rd,0,none⟩)):=(World.cell?_of_block (HK4.out.block b hbl3 (by rw[HKb3.out];exact fun e=>by have e':c+5=c+3:=e;omega))).trans u4;have x1:w4.cell? ⟨b,1,none⟩=some (.string sx):=(World.cell?_of_block (HK4.out.block b hbl3 (by rw[HKb3.out];exact fun e=>by have e':c+5=c+3:=e;omega))).trans u1;have xb:w4.cell? ⟨bx,4,none⟩=some (.slice sp bl bc):=(World.cell?_of_block (HK4.out.block bx hbx3 (by rw[HKx3.out];exact fun e=>by have e':0=c+3:=e;omega))).trans v4;rw[HEr.out];clear ht4 hk4)
    | fail)
  have hd3:=HD3.out
  rw[HS'.out]at hd3
  have ht4:=HT4.out
  rw[HS'.out]at ht4
  have hsk4:Sk w4 K4 c b { X with S:=S' }:=⟨d,rd,_,_,HW2.out.two HK3.out hd3 HK4.out ht4⟩
  have HSk4:=hide hsk4
  have HKw:=hide ((HPl2.out.kp.trans (kp_os HK3.out (by omega) (by omega))).trans (kp_os HK4.out (by omega) (by omega)))
  have hkk:=(kp_os HK3.out (by omega:1≤1) (by omega)).trans (kp_os HK4.out (by omega:1≤3) (by omega))
  have hso:=sok_set HO.out (okd_app HO.out.ok X.name xs HOp.out.by'.small).1 (by omega)
  rw[HS'.out]at hso
  have htb4:=HT.out
  have HTb2:C.Tab w2:=htb4.below HB2.out htb4.pos
  have HOpn:=hide (sopen_any w4 K4 c b { X with S:=S' } (k+16777217) hsk4 hso (by omega) (tab_kq HTb2 hkk (by rw[HPl2.out.ev.k0 0 HT0.out.pos];exact os_zero c)) ((hkk.same 0 HTb2.pos).trans (HPl2.out.ev.k0 0 HT0.out.pos)) X.name (by omega))
  rw[HSx.out]at HOpn
  have hb4:b<w4.heap.size:=Nat.lt_of_lt_of_le hbl3 HK4.out.size
  clear hd3 ht4 hsk4 hkk hso htb4 HTb2 hb4
  go_wp2_with fail
  refine HOpn.out.mono ?_
  rintro e w6 ⟨K6,rfl,hs6,hk6⟩
  have HS6:=hide hs6
  have HK6:=hide hk6
  clear hs6 hk6
  go_wp2
  go_ret
  exact⟨K6,rfl,by rw[HX.out];exact HS6.out,HKw.out.trans HK6.out⟩
set_option maxHeartbeats 4000000 in
theorem plays_plan (w0 w:World) (K:Knd) (c b:Nat) (X:Sd) (k:Nat) (he:Ev w0 w K) (hT:C.Tab w0) (h:Sk w K c b X) (ho:Sok X k) (_hk:k≤274000000000) (o:Opj) (hop:OpjOk w0 o) (hdo:o.dv=5) :
  Calls Tryz.prog 9 #[.pointer (some ⟨b,0,none⟩),.agg o.cells] w (SRes w K c b (X.play o) (.bool true)):=by
 obtain⟨on,dv,nmx,pp,kp,cp,parts,sp,bl,bc,xs,n,a1,a2,a3,qp,ql,qc,picks⟩:=o
 simp only at hdo
 subst hdo
 have HX:Hid (X.play ⟨on,5,nmx,pp,kp,cp,parts,sp,bl,bc,xs,n,a1,a2,a3,qp,ql,qc,picks⟩={ X with S:=X.S.planR a1 a2 a3 }):=by show _=_;unfold Sd.play;simp
 have HOp:=hide hop
 have hpl:=pl_box h he ⟨on,5,nmx,pp,kp,cp,parts,sp,bl,bc,xs,n,a1,a2,a3,qp,ql,qc,picks⟩
 simp only[Opj.cells]at hpl ⊢
 generalize hwB:w.alloc (.cells #[.int .i64 on,.int .i64 5,.string ⟨nmx.toArray⟩,.slice pp kp cp,.slice sp bl bc,.int .i64 n,.int .i64 a1,.int .i64 a2,.int .i64 a3,.slice qp ql qc] 37)=wB at *
 generalize ext K w.heap.size (0,0)=KB at *
 have hbx:=hpl.box
 simp only[Opj.cells]at hbx
 obtain⟨bx,hbxe⟩:∃bx,w.heap.size=bx:=⟨_,rfl⟩
 rw[hbxe]at hbx
 obtain⟨o0,o1,o2,o3,o4,o5,o6,o7,o8,o9,of⟩:=blk10 hbx
 have hbxl:=lt_of_block hbx
 have HPl:=hide hpl
 have HBx:=hide hbx
 obtain⟨d,rd,jp,rp,hw⟩:=hpl.sk
 have HW:=hide hw
 obtain⟨q0,q1,q2,q3,q4,q5,qf⟩:=blk6 hw.blk
 have hbl:=lt_of_block hw.blk
 have htB:C.Tab wB:=hT.below hpl.ev.bel hT.pos
 have hk0:KB 0=(0,0):=hpl.ev.k0 0 hT.pos
 have HO:=hide ho
 have HT:=hide htB
 have HK0:=hide hk0
 have HKx:Hid (KB bx=(0,0)):=by rw[←hbxe];exact hpl.kbx
 have HP1:=hide (Plan_any wB.drew KB (c+1) d X.S (dk_drew hw.dk 1) a1 a2 a3)
 obtain⟨jc,hjc⟩:∃jc:Option Nat,jp=jc.map (fun g=>(⟨g,0,none⟩:Addr)):=by
  cases hJ:X.j with
  | none=>exact⟨none,(hw.no hJ).1⟩
  | some J=>obtain⟨jb,rb,e1,_⟩:=hw.jk J hJ;exact⟨some jb,e1⟩
 clear hpl hbx hw htB hk0 h he hT ho hop
 cases jc
 all_goals
  simp only[Option.map_none,Option.map_some]at hjc
  subst hjc
  go_enter Tryz.func9,Tryz.ntmps9
  go_wp2
  go_region_law (first | (go_simp;go_at_call 29;refine HP1.out.mono ?_;rintro e w3 ⟨K3,rfl,hd3,hk3⟩;have HD3:=hide hd3;have HK3:Hid (Kp (Ow (c+1)) KB K3 wB w3):=kp_un2 (q:=1) hk3;have u4:=((HW.out.cell HK3.out (fun e=>by have e':c+5=c+1:=e;omega)).1 4).trans q4;have hbl3:=(HW.out.cell HK3.out (fun e=>by have e':c+5=c+1:=e;omega)).2;have hb3:w3.heap[bx]?=_:=(HK3.out.block bx hbxl (by rw[HKx.out];exact fun e=>by have e':0=c+1:=e;omega)).trans HBx.out;obtain⟨v0,v1,v2,v3,v4,v5,v6,v7,v8,v9,vf⟩:=blk10 hb3;clear hd3 hk3 hb3))
  all_goals
   have hT3:=HW.out.tk.kept HK3.out (fun q e=>by have e':c+3=c+1:=e;omega)
   have HP2:=hide (tplan_any w3.drew K3 (c+3) rd X.S (tk_drew2 hT3 1) a1 a2 a3)
   have hbx3:bx<w3.heap.size:=Nat.lt_of_lt_of_le hbxl HK3.out.size
   clear hT3
   go_wp2
   go_region_law (first | (go_simp;go_at_call 30;refine HP2.out.mono ?_;rintro e w4 ⟨K4,rfl,ht4,hk4⟩;have HT4:=hide ht4;have HK4:Hid (Kp (Ow (c+3)) K3 K4 w3 w4):=kp_un2 (q:=1) hk4;clear ht4 hk4))
   all_goals
    go_wp2
    go_ret
    refine⟨K4,rfl,?_,(HPl.out.kp.trans (kp_os HK3.out (by omega) (by omega))).trans (kp_os HK4.out (by omega) (by omega))⟩
    rw[HX.out]
    exact⟨d,rd,_,_,HW.out.two HK3.out HD3.out HK4.out HT4.out⟩
end Go.Proofs.YtcceejdaokoihaaGreatDoor
