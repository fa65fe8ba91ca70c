import Derived.Test.YtcceejdaokoihaaGreatDoorXZa
import Derived.Test.YtcceejdaokoihaaGreatDoorXU
set_option maxRecDepth 100000
namespace Go.Proofs.YtcceejdaokoihaaGreatDoor
open Go.RowKit Go.Maps
set_option maxHeartbeats 4000000 in
theorem plays_open (w0 w:World) (K:Knd) (c b:Nat) (X:Sd) (k:Nat) (he:Ev w0 w K) (hT:C.Tab w0) (h:Sk w K c b X) (ho:Sok X k) (hk:k≤274000000000) (o:Opj) (hop:OpjOk w0 o) (hdo:o.dv=1) :
  Calls Tryz.prog 9 #[.pointer (some ⟨b,0,none⟩),.agg o.cells] w (SRes w K c b (X.play o) (.bool true)):=by
 obtain⟨on,dv,nmx,pp,kp,cp,parts,sp,bl,bc,xs,n,a1,a2,a3,qp,ql,qc,picks⟩:=o
 simp only at hdo
 subst hdo
 have HX:Hid (X.play ⟨on,1,nmx,pp,kp,cp,parts,sp,bl,bc,xs,n,a1,a2,a3,qp,ql,qc,picks⟩=X.opened nmx):=by show _=_;unfold Sd.play;simp
 have HOp:=hide hop
 have hpl:=pl_box h he ⟨on,1,nmx,pp,kp,cp,parts,sp,bl,bc,xs,n,a1,a2,a3,qp,ql,qc,picks⟩
 simp only[Opj.cells]at hpl ⊢
 generalize hwB:w.alloc (.cells #[.int .i64 on,.int .i64 1,.string ⟨nmx.toArray⟩,.slice pp kp cp,.slice sp bl bc,.int .i64 n,.int .i64 a1,.int .i64 a2,.int .i64 a3,.slice qp ql qc] 37)=wB at *
 generalize ext K w.heap.size (0,0)=KB at *
 have hbx:=hpl.box
 simp only[Opj.cells]at hbx
 obtain⟨bx,hbxe⟩:∃bx,w.heap.size=bx:=⟨_,rfl⟩
 rw[hbxe]at hbx
 obtain⟨o0,o1,o2,o3,o4,o5,o6,o7,o8,o9,of⟩:=blk10 hbx
 have hbxl:=lt_of_block hbx
 have HPl:=hide hpl
 have HBx:=hide hbx
 obtain⟨d,rd,jp,rp,hw⟩:=hpl.sk
 have HW:=hide hw
 obtain⟨q0,q1,q2,q3,q4,q5,qf⟩:=blk6 hw.blk
 have hbl:=lt_of_block hw.blk
 have htB:C.Tab wB:=hT.below hpl.ev.bel hT.pos
 have hk0:KB 0=(0,0):=hpl.ev.k0 0 hT.pos
 have HO:=hide ho
 have HT:=hide htB
 have HK0:=hide hk0
 obtain⟨jc,hjc⟩:∃jc:Option Nat,jp=jc.map (fun g=>(⟨g,0,none⟩:Addr)):=by
  cases hJ:X.j with
  | none=>exact⟨none,(hw.no hJ).1⟩
  | some J=>obtain⟨jb,rb,e1,_⟩:=hw.jk J hJ;exact⟨some jb,e1⟩
 have HC:=hide (sopen_any wB KB c b X k hpl.sk ho (by omega) htB hk0 nmx hop.nm)
 clear hpl hbx hw htB hk0 h he hT ho hop
 cases jc
 all_goals
  simp only[Option.map_none,Option.map_some]at hjc
  subst hjc
  go_enter Tryz.func9,Tryz.ntmps9
  go_wp2_with fail
  clear hwB hbxe
  refine HC.out.mono ?_
  rintro e w5 ⟨K5,rfl,hs5,hk5⟩
  have HS5:=hide hs5
  have HK5:=hide hk5
  clear hs5 hk5
  go_wp2
  go_ret
  exact⟨K5,rfl,by rw[HX.out];exact HS5.out,HPl.out.kp.trans HK5.out⟩
set_option maxHeartbeats 4000000 in
theorem plays_crash (w0 w:World) (K:Knd) (c b:Nat) (X:Sd) (k:Nat) (he:Ev w0 w K) (hT:C.Tab w0) (h:Sk w K c b X) (ho:Sok X k) (hk:k≤274000000000) (o:Opj) (hop:OpjOk w0 o) (hdo:o.dv=6) :
  Calls Tryz.prog 9 #[.pointer (some ⟨b,0,none⟩),.agg o.cells] w (SRes w K c b (X.play o) (.bool true)):=by
 obtain⟨on,dv,nmx,pp,kp,cp,parts,sp,bl,bc,xs,n,a1,a2,a3,qp,ql,qc,picks⟩:=o
 simp only at hdo
 subst hdo
 have HX:Hid (X.play ⟨on,6,nmx,pp,kp,cp,parts,sp,bl,bc,xs,n,a1,a2,a3,qp,ql,qc,picks⟩=X.crashed picks):=by show _=_;unfold Sd.play;simp
 have HOp:=hide hop
 have hpl:=pl_box h he ⟨on,6,nmx,pp,kp,cp,parts,sp,bl,bc,xs,n,a1,a2,a3,qp,ql,qc,picks⟩
 simp only[Opj.cells]at hpl ⊢
 generalize hwB:w.alloc (.cells #[.int .i64 on,.int .i64 6,.string ⟨nmx.toArray⟩,.slice pp kp cp,.slice sp bl bc,.int .i64 n,.int .i64 a1,.int .i64 a2,.int .i64 a3,.slice qp ql qc] 37)=wB at *
 generalize ext K w.heap.size (0,0)=KB at *
 have hbx:=hpl.box
 simp only[Opj.cells]at hbx
 obtain⟨bx,hbxe⟩:∃bx,w.heap.size=bx:=⟨_,rfl⟩
 rw[hbxe]at hbx
 obtain⟨o0,o1,o2,o3,o4,o5,o6,o7,o8,o9,of⟩:=blk10 hbx
 have hbxl:=lt_of_block hbx
 have HPl:=hide hpl
 have HBx:=hide hbx
 obtain⟨d,rd,jp,rp,hw⟩:=hpl.sk
 have HW:=hide hw
 obtain⟨q0,q1,q2,q3,q4,q5,qf⟩:=blk6 hw.blk
 have hbl:=lt_of_block hw.blk
 have htB:C.Tab wB:=hT.below hpl.ev.bel hT.pos
 have hk0:KB 0=(0,0):=hpl.ev.k0 0 hT.pos
 have HO:=hide ho
 have HT:=hide htB
 have HK0:=hide hk0
 obtain⟨jc,hjc⟩:∃jc:Option Nat,jp=jc.map (fun g=>(⟨g,0,none⟩:Addr)):=by
  cases hJ:X.j with
  | none=>exact⟨none,(hw.no hJ).1⟩
  | some J=>obtain⟨jb,rb,e1,_⟩:=hw.jk J hJ;exact⟨some jb,e1⟩
 have HC:=hide (scrash_any wB KB c b X k hpl.sk ho (by omega) htB hk0 qp ql qc picks hop.ql hop.qll (hop.ins.below hpl.ev.bel))
 clear hpl hbx hw htB hk0 h he hT ho hop
 cases jc
 all_goals
  simp only[Option.map_none,Option.map_some]at hjc
  subst hjc
  go_enter Tryz.func9,Tryz.ntmps9
  go_wp2_with fail
  clear hwB hbxe
  refine HC.out.mono ?_
  rintro e w5 ⟨K5,rfl,hs5,hk5⟩
  have HS5:=hide hs5
  have HK5:=hide hk5
  clear hs5 hk5
  go_wp2
  go_ret
  exact⟨K5,rfl,by rw[HX.out];exact HS5.out,HPl.out.kp.trans HK5.out⟩
set_option maxHeartbeats 4000000 in
theorem plays_beat (w0 w:World) (K:Knd) (c b:Nat) (X:Sd) (k:Nat) (he:Ev w0 w K) (hT:C.Tab w0) (h:Sk w K c b X) (ho:Sok X k) (hk:k≤274000000000) (o:Opj) (hop:OpjOk w0 o) (hdo:o.dv=9) :
  Calls Tryz.prog 9 #[.pointer (some ⟨b,0,none⟩),.agg o.cells] w (SRes w K c b (X.play o) (.bool true)):=by
 obtain⟨on,dv,nmx,pp,kp,cp,parts,sp,bl,bc,xs,n,a1,a2,a3,qp,ql,qc,picks⟩:=o
 simp only at hdo
 subst hdo
 have HX:Hid (X.play ⟨on,9,nmx,pp,kp,cp,parts,sp,bl,bc,xs,n,a1,a2,a3,qp,ql,qc,picks⟩=X.beat n):=by show _=_;unfold Sd.play;simp
 have HOp:=hide hop
 have hpl:=pl_box h he ⟨on,9,nmx,pp,kp,cp,parts,sp,bl,bc,xs,n,a1,a2,a3,qp,ql,qc,picks⟩
 simp only[Opj.cells]at hpl ⊢
 generalize hwB:w.alloc (.cells #[.int .i64 on,.int .i64 9,.string ⟨nmx.toArray⟩,.slice pp kp cp,.slice sp bl bc,.int .i64 n,.int .i64 a1,.int .i64 a2,.int .i64 a3,.slice qp ql qc] 37)=wB at *
 generalize ext K w.heap.size (0,0)=KB at *
 have hbx:=hpl.box
 simp only[Opj.cells]at hbx
 obtain⟨bx,hbxe⟩:∃bx,w.heap.size=bx:=⟨_,rfl⟩
 rw[hbxe]at hbx
 obtain⟨o0,o1,o2,o3,o4,o5,o6,o7,o8,o9,of⟩:=blk10 hbx
 have hbxl:=lt_of_block hbx
 have HPl:=hide hpl
 have HBx:=hide hbx
 obtain⟨d,rd,jp,rp,hw⟩:=hpl.sk
 have HW:=hide hw
 obtain⟨q0,q1,q2,q3,q4,q5,qf⟩:=blk6 hw.blk
 have hbl:=lt_of_block hw.blk
 have htB:C.Tab wB:=hT.below hpl.ev.bel hT.pos
 have hk0:KB 0=(0,0):=hpl.ev.k0 0 hT.pos
 have HO:=hide ho
 have HT:=hide htB
 have HK0:=hide hk0
 obtain⟨jc,hjc⟩:∃jc:Option Nat,jp=jc.map (fun g=>(⟨g,0,none⟩:Addr)):=by
  cases hJ:X.j with
  | none=>exact⟨none,(hw.no hJ).1⟩
  | some J=>obtain⟨jb,rb,e1,_⟩:=hw.jk J hJ;exact⟨some jb,e1⟩
 have HC:=hide (sbeat_any wB KB c b X k hpl.sk ho (by omega) n)
 clear hpl hbx hw htB hk0 h he hT ho hop
 cases jc
 all_goals
  simp only[Option.map_none,Option.map_some]at hjc
  subst hjc
  go_enter Tryz.func9,Tryz.ntmps9
  go_wp2_with fail
  clear hwB hbxe
  refine HC.out.mono ?_
  rintro e w5 ⟨K5,rfl,hs5,hk5⟩
  have HS5:=hide hs5
  have HK5:=hide hk5
  clear hs5 hk5
  go_wp2
  go_ret
  exact⟨K5,rfl,by rw[HX.out];exact HS5.out,HPl.out.kp.trans HK5.out⟩
set_option maxHeartbeats 4000000 in
theorem plays_cut (w0 w:World) (K:Knd) (c b:Nat) (X:Sd) (k:Nat) (he:Ev w0 w K) (hT:C.Tab w0) (h:Sk w K c b X) (ho:Sok X k) (hk:k≤274000000000) (o:Opj) (hop:OpjOk w0 o) (hdo:o.dv=8) :
  Calls Tryz.prog 9 #[.pointer (some ⟨b,0,none⟩),.agg o.cells] w (SRes w K c b (X.play o) (.bool true)):=by
 obtain⟨on,dv,nmx,pp,kp,cp,parts,sp,bl,bc,xs,n,a1,a2,a3,qp,ql,qc,picks⟩:=o
 simp only at hdo
 subst hdo
 have HX:Hid (X.play ⟨on,8,nmx,pp,kp,cp,parts,sp,bl,bc,xs,n,a1,a2,a3,qp,ql,qc,picks⟩=(X.cut n).opened X.name):=by show _=_;unfold Sd.play;simp
 have HOp:=hide hop
 have hpl:=pl_box h he ⟨on,8,nmx,pp,kp,cp,parts,sp,bl,bc,xs,n,a1,a2,a3,qp,ql,qc,picks⟩
 simp only[Opj.cells]at hpl ⊢
 generalize hwB:w.alloc (.cells #[.int .i64 on,.int .i64 8,.string ⟨nmx.toArray⟩,.slice pp kp cp,.slice sp bl bc,.int .i64 n,.int .i64 a1,.int .i64 a2,.int .i64 a3,.slice qp ql qc] 37)=wB at *
 generalize ext K w.heap.size (0,0)=KB at *
 have hbx:=hpl.box
 simp only[Opj.cells]at hbx
 obtain⟨bx,hbxe⟩:∃bx,w.heap.size=bx:=⟨_,rfl⟩
 rw[hbxe]at hbx
 obtain⟨o0,o1,o2,o3,o4,o5,o6,o7,o8,o9,of⟩:=blk10 hbx
 have hbxl:=lt_of_block hbx
 have HPl:=hide hpl
 have HBx:=hide hbx
 obtain⟨d,rd,jp,rp,hw⟩:=hpl.sk
 have HW:=hide hw
 obtain⟨q0,q1,q2,q3,q4,q5,qf⟩:=blk6 hw.blk
 have hbl:=lt_of_block hw.blk
 have htB:C.Tab wB:=hT.below hpl.ev.bel hT.pos
 have hk0:KB 0=(0,0):=hpl.ev.k0 0 hT.pos
 have HO:=hide ho
 have HT:=hide htB
 have HK0:=hide hk0
 obtain⟨jc,hjc⟩:∃jc:Option Nat,jp=jc.map (fun g=>(⟨g,0,none⟩:Addr)):=by
  cases hJ:X.j with
  | none=>exact⟨none,(hw.no hJ).1⟩
  | some J=>obtain⟨jb,rb,e1,_⟩:=hw.jk J hJ;exact⟨some jb,e1⟩
 have HC:=hide (scut_any wB KB c b X k hpl.sk ho (by omega) n hop.n)
 clear hpl hbx hw htB hk0 h he hT ho hop
 cases jc
 all_goals
  simp only[Option.map_none,Option.map_some]at hjc
  subst hjc
  go_enter Tryz.func9,Tryz.ntmps9
  go_wp2_with fail
  clear hwB hbxe
  refine HC.out.mono ?_
  rintro e w5 ⟨K5,rfl,hs5,hk5⟩
  have HPl5:=hide (HPl.out.go hk5 (fun _ e=>e) hs5)
  have HTb5:=hide (tab_kq HT.out hk5 (by rw[HK0.out];exact os_zero c))
  have HK05:Hid (K5 0=(0,0)):=(hk5.same 0 HT.out.pos).trans HK0.out
  have HS5:=hide hs5
  have HK5:=hide hk5
  obtain⟨d5,rd5,jp5,rp5,hw5⟩:=hs5
  obtain⟨y0,y1,y2,y3,y4,y5,yf⟩:=blk6 hw5.blk
  have hbl5:=lt_of_block hw5.blk
  have HOpn:=hide (sopen_any w5 K5 c b (X.cut n) (k+1) HS5.out (sok_cut HO.out n) (by omega) HTb5.out HK05.out X.name (by have:=(nm_len (nm_two HO.out.nm).1).2;omega))
  have y1':w5.cell? ⟨b,1,none⟩=some (.string ⟨X.name.toArray⟩):=y1
  clear hk5 hw5 y0 y1 y2 y3 y4 y5 yf
  go_wp2_with fail
  refine HOpn.out.mono ?_
  rintro e w6 ⟨K6,rfl,hs6,hk6⟩
  have HS6:=hide hs6
  have HK6:=hide hk6
  clear hs6 hk6
  go_wp2
  go_ret
  exact⟨K6,rfl,by rw[HX.out];exact HS6.out,(HPl.out.kp.trans HK5.out).trans HK6.out⟩
set_option maxHeartbeats 4000000 in
theorem plays_tell (w0 w:World) (K:Knd) (c b:Nat) (X:Sd) (k:Nat) (he:Ev w0 w K) (hT:C.Tab w0) (h:Sk w K c b X) (ho:Sok X k) (hk:k≤274000000000) (o:Opj) (hop:OpjOk w0 o) (hdo:o.dv=4)(J:Jr) (hJ:X.j=some J) :
  Calls Tryz.prog 9 #[.pointer (some ⟨b,0,none⟩),.agg o.cells] w (SRes w K c b (X.play o) (.bool true)):=by
 obtain⟨on,dv,nmx,pp,kp,cp,parts,sp,bl,bc,xs,n,a1,a2,a3,qp,ql,qc,picks⟩:=o
 simp only at hdo
 subst hdo
 have HX:Hid (X.play ⟨on,4,nmx,pp,kp,cp,parts,sp,bl,bc,xs,n,a1,a2,a3,qp,ql,qc,picks⟩=X):=by show _=_;unfold Sd.play;simp
 have HOp:=hide hop
 have hpl:=pl_box h he ⟨on,4,nmx,pp,kp,cp,parts,sp,bl,bc,xs,n,a1,a2,a3,qp,ql,qc,picks⟩
 simp only[Opj.cells]at hpl ⊢
 generalize hwB:w.alloc (.cells #[.int .i64 on,.int .i64 4,.string ⟨nmx.toArray⟩,.slice pp kp cp,.slice sp bl bc,.int .i64 n,.int .i64 a1,.int .i64 a2,.int .i64 a3,.slice qp ql qc] 37)=wB at *
 generalize ext K w.heap.size (0,0)=KB at *
 have hbx:=hpl.box
 simp only[Opj.cells]at hbx
 obtain⟨bx,hbxe⟩:∃bx,w.heap.size=bx:=⟨_,rfl⟩
 rw[hbxe]at hbx
 obtain⟨o0,o1,o2,o3,o4,o5,o6,o7,o8,o9,of⟩:=blk10 hbx
 have hbxl:=lt_of_block hbx
 have HPl:=hide hpl
 have HBx:=hide hbx
 obtain⟨d,rd,jp,rp,hw⟩:=hpl.sk
 have HW:=hide hw
 obtain⟨q0,q1,q2,q3,q4,q5,qf⟩:=blk6 hw.blk
 have hbl:=lt_of_block hw.blk
 have htB:C.Tab wB:=hT.below hpl.ev.bel hT.pos
 have hk0:KB 0=(0,0):=hpl.ev.k0 0 hT.pos
 have HO:=hide ho
 have HT:=hide htB
 have HK0:=hide hk0
 obtain⟨jb,rb,hjp,hrp,_,_⟩:=hw.jk J hJ
 subst hjp
 have HC:=hide (stell_any wB KB c b X k J hJ hpl.sk ho (by omega) htB)
 clear hpl hbx hw htB hk0 h he hT ho hop
 go_enter Tryz.func9,Tryz.ntmps9
 go_wp2_with fail
 clear hwB hbxe
 refine HC.out.mono ?_
 rintro e w5 ⟨rfl,hb5⟩
 have HPl5:=hide (HPl.out.still (kp_below hb5 (fun _=>False) KB (0,0)))
 clear hb5
 go_wp2
 go_ret
 exact⟨_,rfl,by rw[HX.out];exact HPl5.out.sk,HPl5.out.kp⟩
set_option maxHeartbeats 4000000 in
theorem plays_none2 (w0 w:World) (K:Knd) (c b:Nat) (X:Sd) (k:Nat) (he:Ev w0 w K) (hT:C.Tab w0) (h:Sk w K c b X) (ho:Sok X k) (_hk:k≤274000000000) (o:Opj) (hop:OpjOk w0 o) (hdo:o.dv=2)(hJ:X.j=none) :
  Calls Tryz.prog 9 #[.pointer (some ⟨b,0,none⟩),.agg o.cells] w (SRes w K c b (X.play o) (.bool true)):=by
 obtain⟨on,dv,nmx,pp,kp,cp,parts,sp,bl,bc,xs,n,a1,a2,a3,qp,ql,qc,picks⟩:=o
 simp only at hdo
 subst hdo
 have HX:Hid (X.play ⟨on,2,nmx,pp,kp,cp,parts,sp,bl,bc,xs,n,a1,a2,a3,qp,ql,qc,picks⟩=X):=by show _=_;unfold Sd.play;simp[hJ]
 have HOp:=hide hop
 have hpl:=pl_box h he ⟨on,2,nmx,pp,kp,cp,parts,sp,bl,bc,xs,n,a1,a2,a3,qp,ql,qc,picks⟩
 simp only[Opj.cells]at hpl ⊢
 generalize hwB:w.alloc (.cells #[.int .i64 on,.int .i64 2,.string ⟨nmx.toArray⟩,.slice pp kp cp,.slice sp bl bc,.int .i64 n,.int .i64 a1,.int .i64 a2,.int .i64 a3,.slice qp ql qc] 37)=wB at *
 generalize ext K w.heap.size (0,0)=KB at *
 have hbx:=hpl.box
 simp only[Opj.cells]at hbx
 obtain⟨bx,hbxe⟩:∃bx,w.heap.size=bx:=⟨_,rfl⟩
 rw[hbxe]at hbx
 obtain⟨o0,o1,o2,o3,o4,o5,o6,o7,o8,o9,of⟩:=blk10 hbx
 have hbxl:=lt_of_block hbx
 have HPl:=hide hpl
 have HBx:=hide hbx
 obtain⟨d,rd,jp,rp,hw⟩:=hpl.sk
 have HW:=hide hw
 obtain⟨q0,q1,q2,q3,q4,q5,qf⟩:=blk6 hw.blk
 have hbl:=lt_of_block hw.blk
 have htB:C.Tab wB:=hT.below hpl.ev.bel hT.pos
 have hk0:KB 0=(0,0):=hpl.ev.k0 0 hT.pos
 have HO:=hide ho
 have HT:=hide htB
 have HK0:=hide hk0
 obtain⟨hjp,hrp⟩:=hw.no hJ
 subst hjp
 clear hpl hbx hw htB hk0 h he hT ho hop
 go_enter Tryz.func9,Tryz.ntmps9
 go_wp2
 go_ret
 exact⟨KB,rfl,by rw[HX.out];exact HPl.out.sk,HPl.out.kp⟩
set_option maxHeartbeats 4000000 in
theorem plays_none3 (w0 w:World) (K:Knd) (c b:Nat) (X:Sd) (k:Nat) (he:Ev w0 w K) (hT:C.Tab w0) (h:Sk w K c b X) (ho:Sok X k) (_hk:k≤274000000000) (o:Opj) (hop:OpjOk w0 o) (hdo:o.dv=3)(hJ:X.j=none) :
  Calls Tryz.prog 9 #[.pointer (some ⟨b,0,none⟩),.agg o.cells] w (SRes w K c b (X.play o) (.bool true)):=by
 obtain⟨on,dv,nmx,pp,kp,cp,parts,sp,bl,bc,xs,n,a1,a2,a3,qp,ql,qc,picks⟩:=o
 simp only at hdo
 subst hdo
 have HX:Hid (X.play ⟨on,3,nmx,pp,kp,cp,parts,sp,bl,bc,xs,n,a1,a2,a3,qp,ql,qc,picks⟩=X):=by show _=_;unfold Sd.play;simp[hJ]
 have HOp:=hide hop
 have hpl:=pl_box h he ⟨on,3,nmx,pp,kp,cp,parts,sp,bl,bc,xs,n,a1,a2,a3,qp,ql,qc,picks⟩
 simp only[Opj.cells]at hpl ⊢
 generalize hwB:w.alloc (.cells #[.int .i64 on,.int .i64 3,.string ⟨nmx.toArray⟩,.slice pp kp cp,.slice sp bl bc,.int .i64 n,.int .i64 a1,.int .i64 a2,.int .i64 a3,.slice qp ql qc] 37)=wB at *
 generalize ext K w.heap.size (0,0)=KB at *
 have hbx:=hpl.box
 simp only[Opj.cells]at hbx
 obtain⟨bx,hbxe⟩:∃bx,w.heap.size=bx:=⟨_,rfl⟩
 rw[hbxe]at hbx
 obtain⟨o0,o1,o2,o3,o4,o5,o6,o7,o8,o9,of⟩:=blk10 hbx
 have hbxl:=lt_of_block hbx
 have HPl:=hide hpl
 have HBx:=hide hbx
 obtain⟨d,rd,jp,rp,hw⟩:=hpl.sk
 have HW:=hide hw
 obtain⟨q0,q1,q2,q3,q4,q5,qf⟩:=blk6 hw.blk
 have hbl:=lt_of_block hw.blk
 have htB:C.Tab wB:=hT.below hpl.ev.bel hT.pos
 have hk0:KB 0=(0,0):=hpl.ev.k0 0 hT.pos
 have HO:=hide ho
 have HT:=hide htB
 have HK0:=hide hk0
 obtain⟨hjp,hrp⟩:=hw.no hJ
 subst hjp
 clear hpl hbx hw htB hk0 h he hT ho hop
 go_enter Tryz.func9,Tryz.ntmps9
 go_wp2
 go_ret
 exact⟨KB,rfl,by rw[HX.out];exact HPl.out.sk,HPl.out.kp⟩
set_option maxHeartbeats 4000000 in
theorem plays_none4 (w0 w:World) (K:Knd) (c b:Nat) (X:Sd) (k:Nat) (he:Ev w0 w K) (hT:C.Tab w0) (h:Sk w K c b X) (ho:Sok X k) (_hk:k≤274000000000) (o:Opj) (hop:OpjOk w0 o) (hdo:o.dv=4)(hJ:X.j=none) :
  Calls Tryz.prog 9 #[.pointer (some ⟨b,0,none⟩),.agg o.cells] w (SRes w K c b (X.play o) (.bool true)):=by
 obtain⟨on,dv,nmx,pp,kp,cp,parts,sp,bl,bc,xs,n,a1,a2,a3,qp,ql,qc,picks⟩:=o
 simp only at hdo
 subst hdo
 have HX:Hid (X.play ⟨on,4,nmx,pp,kp,cp,parts,sp,bl,bc,xs,n,a1,a2,a3,qp,ql,qc,picks⟩=X):=by show _=_;unfold Sd.play;simp
 have HOp:=hide hop
 have hpl:=pl_box h he ⟨on,4,nmx,pp,kp,cp,parts,sp,bl,bc,xs,n,a1,a2,a3,qp,ql,qc,picks⟩
 simp only[Opj.cells]at hpl ⊢
 generalize hwB:w.alloc (.cells #[.int .i64 on,.int .i64 4,.string ⟨nmx.toArray⟩,.slice pp kp cp,.slice sp bl bc,.int .i64 n,.int .i64 a1,.int .i64 a2,.int .i64 a3,.slice qp ql qc] 37)=wB at *
 generalize ext K w.heap.size (0,0)=KB at *
 have hbx:=hpl.box
 simp only[Opj.cells]at hbx
 obtain⟨bx,hbxe⟩:∃bx,w.heap.size=bx:=⟨_,rfl⟩
 rw[hbxe]at hbx
 obtain⟨o0,o1,o2,o3,o4,o5,o6,o7,o8,o9,of⟩:=blk10 hbx
 have hbxl:=lt_of_block hbx
 have HPl:=hide hpl
 have HBx:=hide hbx
 obtain⟨d,rd,jp,rp,hw⟩:=hpl.sk
 have HW:=hide hw
 obtain⟨q0,q1,q2,q3,q4,q5,qf⟩:=blk6 hw.blk
 have hbl:=lt_of_block hw.blk
 have htB:C.Tab wB:=hT.below hpl.ev.bel hT.pos
 have hk0:KB 0=(0,0):=hpl.ev.k0 0 hT.pos
 have HO:=hide ho
 have HT:=hide htB
 have HK0:=hide hk0
 obtain⟨hjp,hrp⟩:=hw.no hJ
 subst hjp
 clear hpl hbx hw htB hk0 h he hT ho hop
 go_enter Tryz.func9,Tryz.ntmps9
 go_wp2
 go_ret
 exact⟨KB,rfl,by rw[HX.out];exact HPl.out.sk,HPl.out.kp⟩
set_option maxHeartbeats 4000000 in
theorem plays_other (w0 w:World) (K:Knd) (c b:Nat) (X:Sd) (k:Nat) (he:Ev w0 w K) (hT:C.Tab w0) (h:Sk w K c b X) (ho:Sok X k) (_hk:k≤274000000000) (o:Opj) (hop:OpjOk w0 o) (d1:¬o.dv=1) (d2:¬o.dv=2) (d3:¬o.dv=3) (d4:¬o.dv=4) (d5:¬o.dv=5) (d6:¬o.dv=6) (d7:¬o.dv=7) (d8:¬o.dv=8) (d9:¬o.dv=9) :
  Calls Tryz.prog 9 #[.pointer (some ⟨b,0,none⟩),.agg o.cells] w (SRes w K c b (X.play o) (.bool true)):=by
 obtain⟨on,dv,nmx,pp,kp,cp,parts,sp,bl,bc,xs,n,a1,a2,a3,qp,ql,qc,picks⟩:=o
 simp only at d1 d2 d3 d4 d5 d6 d7 d8 d9
 have HX:Hid (X.play ⟨on,dv,nmx,pp,kp,cp,parts,sp,bl,bc,xs,n,a1,a2,a3,qp,ql,qc,picks⟩=X):=by show _=_;unfold Sd.play;simp[d1,d2,d3,d5,d6,d7,d8,d9]
 have HOp:=hide hop
 have hpl:=pl_box h he ⟨on,dv,nmx,pp,kp,cp,parts,sp,bl,bc,xs,n,a1,a2,a3,qp,ql,qc,picks⟩
 simp only[Opj.cells]at hpl ⊢
 generalize hwB:w.alloc (.cells #[.int .i64 on,.int .i64 dv,.string ⟨nmx.toArray⟩,.slice pp kp cp,.slice sp bl bc,.int .i64 n,.int .i64 a1,.int .i64 a2,.int .i64 a3,.slice qp ql qc] 37)=wB at *
 generalize ext K w.heap.size (0,0)=KB at *
 have hbx:=hpl.box
 simp only[Opj.cells]at hbx
 obtain⟨bx,hbxe⟩:∃bx,w.heap.size=bx:=⟨_,rfl⟩
 rw[hbxe]at hbx
 obtain⟨o0,o1,o2,o3,o4,o5,o6,o7,o8,o9,of⟩:=blk10 hbx
 have hbxl:=lt_of_block hbx
 have HPl:=hide hpl
 have HBx:=hide hbx
 obtain⟨d,rd,jp,rp,hw⟩:=hpl.sk
 have HW:=hide hw
 obtain⟨q0,q1,q2,q3,q4,q5,qf⟩:=blk6 hw.blk
 have hbl:=lt_of_block hw.blk
 have htB:C.Tab wB:=hT.below hpl.ev.bel hT.pos
 have hk0:KB 0=(0,0):=hpl.ev.k0 0 hT.pos
 have HO:=hide ho
 have HT:=hide htB
 have HK0:=hide hk0
 have e1:(dv == 1)=false:=beq_eq_false_iff_ne.2 d1
 have e2:(dv == 2)=false:=beq_eq_false_iff_ne.2 d2
 have e3:(dv == 3)=false:=beq_eq_false_iff_ne.2 d3
 have e4:(dv == 4)=false:=beq_eq_false_iff_ne.2 d4
 have e5:(dv == 5)=false:=beq_eq_false_iff_ne.2 d5
 have e6:(dv == 6)=false:=beq_eq_false_iff_ne.2 d6
 have e7:(dv == 7)=false:=beq_eq_false_iff_ne.2 d7
 have e8:(dv == 8)=false:=beq_eq_false_iff_ne.2 d8
 have e9:(dv == 9)=false:=beq_eq_false_iff_ne.2 d9
 obtain⟨jc,hjc⟩:∃jc:Option Nat,jp=jc.map (fun g=>(⟨g,0,none⟩:Addr)):=by
  cases hJ:X.j with
  | none=>exact⟨none,(hw.no hJ).1⟩
  | some J=>obtain⟨jb,rb,e1,_⟩:=hw.jk J hJ;exact⟨some jb,e1⟩
 clear hpl hbx hw htB hk0 h he hT ho hop
 cases jc
 all_goals
  simp only[Option.map_none,Option.map_some]at hjc
  subst hjc
  go_enter Tryz.func9,Tryz.ntmps9
  go_wp2
  go_ret
  exact⟨KB,rfl,by rw[HX.out];exact HPl.out.sk,HPl.out.kp⟩
end Go.Proofs.YtcceejdaokoihaaGreatDoor
