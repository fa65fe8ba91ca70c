import Derived.Test.YtcceejdaokoihaaGreatDoorXI
import Derived.Test.YtcceejdaokoihaaGreatDoorXO
import Derived.Test.YtcceejdaokoihaaGreatDoorXP
import Derived.Test.YtcceejdaokoihaaGreatDoorDocJ
import Derived.Test.YtcceejdaokoihaaGreatDoorDocI
set_option maxRecDepth 100000
namespace Go.Proofs.YtcceejdaokoihaaGreatDoor
open Go.RowKit Go.Maps
theorem Sw.two {w w1 w2:World} {K K1 K2:Knd} {c b:Nat} {X:Sd} {d rd:Nat} {jp rp:Option Addr} {S':St} (h:Sw w K c b X d rd jp rp) (hk1:Kp (Ow (c+1)) K K1 w w1) (hd:Dk w1 K1 (c+1) d S') (hk2:Kp (Ow (c+3)) K1 K2 w1 w2) (ht:Tk w2 K2 (c+3) rd S'):Sw w2 K2 c b { X with S:=S' } d rd jp rp:=by
 have hl:=lt_of_block h.blk
 have hl1:b<w1.heap.size:=Nat.lt_of_lt_of_le hl hk1.size
 have n1:∀i q,i≠1→¬Ow (c+1) (c+i,q):=fun i q hi e=>by have e':c+i=c+1:=e;omega
 have n3:∀i q,i≠3→¬Ow (c+3) (c+i,q):=fun i q hi e=>by have e':c+i=c+3:=e;omega
 have k1:K1 b=(c+5,0):=(hk1.same b hl).trans h.kb
 refine⟨((hk2.block b hl1 (by rw[k1];exact n3 5 0 (by omega))).trans (hk1.block b hl (by rw[h.kb];exact n1 5 0 (by omega)))).trans h.blk,(hk2.same b hl1).trans k1,hd.kept hk2 (fun q=>n3 1 q (by omega)),ht,h.no,fun J e=>?_⟩
 obtain⟨jb,rb,e1,e2,h1,h2⟩:=h.jk J e
 exact⟨jb,rb,e1,e2,(h1.kept hk1 (fun q=>n1 2 q (by omega))).kept hk2 (fun q=>n3 2 q (by omega)),(h2.kept hk1 (fun q=>n1 4 q (by omega))).kept hk2 (fun q=>n3 4 q (by omega))⟩
theorem Sw.cell {p:Nat × Nat→Prop} {w w1:World} {K K1:Knd} {c b:Nat} {X:Sd} {d rd:Nat} {jp rp:Option Addr} (h:Sw w K c b X d rd jp rp) (hk:Kp p K K1 w w1) (hp:¬p (c+5,0)):(∀i,w1.cell? ⟨b,i,none⟩=w.cell? ⟨b,i,none⟩)∧b<w1.heap.size:=by
 have hl:=lt_of_block h.blk
 have hb:=hk.block b hl (by rw[h.kb];exact hp)
 exact⟨fun i=>World.cell?_of_block hb,Nat.lt_of_lt_of_le hl hk.size⟩
theorem sok_set {X:Sd} {k k':Nat} (h:Sok X k) {S':St} (hs:Okd S' k') (hk:k≤k'):Sok { X with S:=S' } k':=⟨hs,fun J e=>(h.jok J e).mono hk,h.nm,h.room⟩
theorem dk_drew {w:World} {K:Knd} {o d:Nat} {S:St} (h:Dk w K o d S) (q:Nat):Dk (w.drewN q) K o d S:=h.kept ((Kp.refl (fun _=>False) K w).drewN q) (fun _ h=>h)
theorem tk_drew2 {w:World} {K:Knd} {o d:Nat} {S:St} (h:Tk w K o d S) (q:Nat):Tk (w.drewN q) K o d S:=h.kept ((Kp.refl (fun _=>False) K w).drewN q) (fun _ h=>h)
theorem kp_un2 {p:Nat × Nat→Prop} {K K':Knd} {w w':World} {q:Nat} (h:Kp p K K' (w.drewN q) w'):Kp p K K' w w':=⟨h.os,h.tape,h.output,h.size,h.same,h.block⟩
def cutN (l:Nat) (n:Int):Int:=if n<0∧-(l:Int)≤n then (l:Int)+n else n
def Sd.cut (X:Sd) (n:Int):Sd:={ X with S:=(X.S.cutR X.name (cutN (X.S.bytes X.name).length n)).2 }
set_option maxHeartbeats 4000000 in
theorem scut_any (w:World) (K:Knd) (c b:Nat) (X:Sd) (k:Nat) (h:Sk w K c b X) (ho:Sok X k) (hk:k≤274877906000) (n:Int) (hn : -9223372036854775808≤n∧n≤9223372036854775807) :
  Calls Tryz.prog 35 #[.pointer (some ⟨b,0,none⟩),.int .i64 n] w (SRes w K c b (X.cut n) (.tuple #[])):=by
 obtain⟨d,rd,jp,rp,hw⟩:=h
 have hb:=hw.blk
 obtain⟨q0,q1,q2,q3,q4,q5,qf⟩:=blk6 hb
 have hbl:=lt_of_block hb
 have HW:=hide hw
 have HO:=hide ho
 have hnl:=(nm_len (nm_two ho.nm).1).2
 have hfb:=okd_fb0 ho.ok (by omega:k≤274877906944)
 have HFb:=hide hfb
 have HRd:=hide (fun q=>tread_any (w.drewN q) K (c+3) rd X.S (tk_drew2 hw.tk q) ho.ok.inv hfb X.name)
 have hby:=bytes_le ho.ok.inv X.name
 obtain⟨L,hL⟩:∃L,(X.S.bytes X.name).length=L:=⟨_,rfl⟩
 rw[hL]at HRd hby
 obtain⟨N,hN⟩:∃N,cutN L n=N:=⟨_,rfl⟩
 have HX:Hid (X.cut n={ X with S:=(X.S.cutR X.name N).2 }):=by show _=_;unfold Sd.cut;rw[hL,hN]
 have hNb : -9223372036854775808≤N∧N≤9223372036854775807:=by rw[←hN];unfold cutN;split <;> omega
 have HCd:=hide (fun w1 K1 h1=>Cut_any w1 K1 (c+1) d X.S h1 ho.ok.inv k ho.ok.sz (by omega) X.name (by omega) N hNb)
 have HCt:=hide (fun w1 K1 h1=>tcut_any w1 K1 (c+3) rd X.S h1 ho.ok.inv hfb (by have:=ho.ok.sz.st;omega) (by have:=ho.ok.sz.pl;omega) X.name N)
 have HNe:=hide hN
 obtain⟨er,her⟩:∃er,X.S.err X.name=er:=⟨_,rfl⟩
 rw[her]at HRd
 generalize hsx:(⟨X.name.toArray⟩:ByteArray)=sx at *
 clear hw hb ho hL hN her hsx hfb q0 q3 q5 qf
 go_enter Tryz.func35,Tryz.ntmps35
 go_wp2
 go_region_held3 (fun w'=>w'.cell? ⟨b,4,none⟩=some (.pointer (some ⟨rd,0,none⟩))∧w'.cell? ⟨b,1,none⟩=some (.string sx)) (first | (refine⟨?_,?_⟩ <;> assumption) | go_keep)
  (first | (go_at_call 63;refine(HRd.out 1).mono ?_;rintro e w1 ⟨a1,c1,rfl,hl1⟩;have HK1:=hide (kp_below (below_un3 hl1.bel) (fun _=>False) K (0,0));have y4:=((HW.out.cell HK1.out (fun h=>h)).1 4).trans q4;have y1:=((HW.out.cell HK1.out (fun h=>h)).1 1).trans q1;have y2:=((HW.out.cell HK1.out (fun h=>h)).1 2).trans q2;have hbl1:=(HW.out.cell HK1.out (fun h=>h)).2;clear hl1) | fail)
 have HW1:=hide (HW.out.kept HK1.out (fun _ _ _ _ h=>h))
 have HKa:=hide HK1.out
 generalize ext K w.heap.size (0,0)=K1 at *
 have HC1:=hide (fun q=>HCd.out (w1.drewN q) K1 (dk_drew HW1.out.dk q))
 have HC2:=hide HCt.out
 have hcases:(n<0∧-(L:Int)≤n∧N=(L:Int)+n)∨(n<0∧¬ -(L:Int)≤n∧N=n)∨(¬n<0∧N=n):=by
  have:=HNe.out
  unfold cutN at this
  by_cases h1:n<0
  ·by_cases h2 : -(L:Int)≤n
   ·rw[if_pos ⟨h1,h2⟩]at this;exact Or.inl ⟨h1,h2,this.symm⟩
   ·rw[if_neg (fun h=>h2 h.2)]at this;exact Or.inr (Or.inl ⟨h1,h2,this.symm⟩)
  ·rw[if_neg (fun h=>h1 h.1)]at this;exact Or.inr (Or.inr ⟨h1,this.symm⟩)
 clear HRd HNe
 rcases hcases with ⟨h1,h2,rfl⟩ | ⟨h1,h2,rfl⟩ | ⟨h1,rfl⟩
 ·have g2:decide (-(L:Int)≤n)=true:=decide_eq_true h2
  go_wp2
  go_region_held3 (fun w'=>w'.cell? ⟨b,2,none⟩=some (.pointer (some ⟨d,0,none⟩))∧w'.cell? ⟨b,1,none⟩=some (.string sx)) (first | (refine⟨?_,?_⟩ <;> assumption) | go_keep)
   (first | (go_at_call 84;refine(HC1.out 1).mono ?_;rintro e w2 ⟨K2,rfl,hd2,hk2⟩;have HD2:=hide hd2;have HK2:=hide (kp_un2 hk2);have x1:=((HW1.out.cell HK2.out (fun e=>by have e':c+5=c+1:=e;omega)).1 1).trans y1;have x2:=((HW1.out.cell HK2.out (fun e=>by have e':c+5=c+1:=e;omega)).1 2).trans y2;have x4:=((HW1.out.cell HK2.out (fun e=>by have e':c+5=c+1:=e;omega)).1 4).trans y4;have hbl2:=(HW1.out.cell HK2.out (fun e=>by have e':c+5=c+1:=e;omega)).2;clear hd2 hk2) | fail)
  have HC3:=hide (fun q=>HC2.out (w2.drewN q) K2 (tk_drew2 (HW1.out.tk.kept HK2.out (fun q e=>by have e':c+3=c+1:=e;omega)) q))
  go_wp2
  go_region_held3 (fun w'=>w'.cell? ⟨b,4,none⟩=some (.pointer (some ⟨rd,0,none⟩))∧w'.cell? ⟨b,1,none⟩=some (.string sx)) (first | (refine⟨?_,?_⟩ <;> assumption) | go_keep)
   (first | (go_at_call 56;refine(HC3.out 1).mono ?_;rintro e w3 ⟨K3,rfl,ht3,hk3⟩;have HT3:=hide ht3;have HK3:=hide (kp_un2 hk3);have z1:w3.cell? ⟨b,1,none⟩=some (.string sx):=(World.cell?_of_block (HK3.out.block b hbl2 (by rw[(HK2.out.same b hbl1).trans HW1.out.kb];exact fun e=>by have e':c+5=c+3:=e;omega))).trans x1;have z4:w3.cell? ⟨b,4,none⟩=some (.pointer (some ⟨rd,0,none⟩)):=(World.cell?_of_block (HK3.out.block b hbl2 (by rw[(HK2.out.same b hbl1).trans HW1.out.kb];exact fun e=>by have e':c+5=c+3:=e;omega))).trans x4;clear ht3 hk3) | fail)
  go_wp2
  go_end0
  refine⟨K3,rfl,?_,((kp_f HKa.out).trans (kp_os HK2.out (by omega) (by omega))).trans (kp_os HK3.out (by omega) (by omega))⟩
  rw[HX.out]
  exact⟨d,rd,jp,rp,HW1.out.two HK2.out HD2.out HK3.out HT3.out⟩
 ·have g2:decide (-(L:Int)≤N)=false:=decide_eq_false h2
  go_wp2
  go_region_held3 (fun w'=>w'.cell? ⟨b,2,none⟩=some (.pointer (some ⟨d,0,none⟩))∧w'.cell? ⟨b,1,none⟩=some (.string sx)) (first | (refine⟨?_,?_⟩ <;> assumption) | go_keep)
   (first | (go_at_call 84;refine(HC1.out 1).mono ?_;rintro e w2 ⟨K2,rfl,hd2,hk2⟩;have HD2:=hide hd2;have HK2:=hide (kp_un2 hk2);have x1:=((HW1.out.cell HK2.out (fun e=>by have e':c+5=c+1:=e;omega)).1 1).trans y1;have x2:=((HW1.out.cell HK2.out (fun e=>by have e':c+5=c+1:=e;omega)).1 2).trans y2;have x4:=((HW1.out.cell HK2.out (fun e=>by have e':c+5=c+1:=e;omega)).1 4).trans y4;have hbl2:=(HW1.out.cell HK2.out (fun e=>by have e':c+5=c+1:=e;omega)).2;clear hd2 hk2) | fail)
  have HC3:=hide (fun q=>HC2.out (w2.drewN q) K2 (tk_drew2 (HW1.out.tk.kept HK2.out (fun q e=>by have e':c+3=c+1:=e;omega)) q))
  go_wp2
  go_region_held3 (fun w'=>w'.cell? ⟨b,4,none⟩=some (.pointer (some ⟨rd,0,none⟩))∧w'.cell? ⟨b,1,none⟩=some (.string sx)) (first | (refine⟨?_,?_⟩ <;> assumption) | go_keep)
   (first | (go_at_call 56;refine(HC3.out 1).mono ?_;rintro e w3 ⟨K3,rfl,ht3,hk3⟩;have HT3:=hide ht3;have HK3:=hide (kp_un2 hk3);have z1:w3.cell? ⟨b,1,none⟩=some (.string sx):=(World.cell?_of_block (HK3.out.block b hbl2 (by rw[(HK2.out.same b hbl1).trans HW1.out.kb];exact fun e=>by have e':c+5=c+3:=e;omega))).trans x1;have z4:w3.cell? ⟨b,4,none⟩=some (.pointer (some ⟨rd,0,none⟩)):=(World.cell?_of_block (HK3.out.block b hbl2 (by rw[(HK2.out.same b hbl1).trans HW1.out.kb];exact fun e=>by have e':c+5=c+3:=e;omega))).trans x4;clear ht3 hk3) | fail)
  go_wp2
  go_end0
  refine⟨K3,rfl,?_,((kp_f HKa.out).trans (kp_os HK2.out (by omega) (by omega))).trans (kp_os HK3.out (by omega) (by omega))⟩
  rw[HX.out]
  exact⟨d,rd,jp,rp,HW1.out.two HK2.out HD2.out HK3.out HT3.out⟩
 ·have g2:decide (N<0)=false:=decide_eq_false h1
  go_wp2
  go_region_held3 (fun w'=>w'.cell? ⟨b,2,none⟩=some (.pointer (some ⟨d,0,none⟩))∧w'.cell? ⟨b,1,none⟩=some (.string sx)) (first | (refine⟨?_,?_⟩ <;> assumption) | go_keep)
   (first | (go_at_call 84;refine(HC1.out 1).mono ?_;rintro e w2 ⟨K2,rfl,hd2,hk2⟩;have HD2:=hide hd2;have HK2:=hide (kp_un2 hk2);have x1:=((HW1.out.cell HK2.out (fun e=>by have e':c+5=c+1:=e;omega)).1 1).trans y1;have x2:=((HW1.out.cell HK2.out (fun e=>by have e':c+5=c+1:=e;omega)).1 2).trans y2;have x4:=((HW1.out.cell HK2.out (fun e=>by have e':c+5=c+1:=e;omega)).1 4).trans y4;have hbl2:=(HW1.out.cell HK2.out (fun e=>by have e':c+5=c+1:=e;omega)).2;clear hd2 hk2) | fail)
  have HC3:=hide (fun q=>HC2.out (w2.drewN q) K2 (tk_drew2 (HW1.out.tk.kept HK2.out (fun q e=>by have e':c+3=c+1:=e;omega)) q))
  go_wp2
  go_region_held3 (fun w'=>w'.cell? ⟨b,4,none⟩=some (.pointer (some ⟨rd,0,none⟩))∧w'.cell? ⟨b,1,none⟩=some (.string sx)) (first | (refine⟨?_,?_⟩ <;> assumption) | go_keep)
   (first | (go_at_call 56;refine(HC3.out 1).mono ?_;rintro e w3 ⟨K3,rfl,ht3,hk3⟩;have HT3:=hide ht3;have HK3:=hide (kp_un2 hk3);have z1:w3.cell? ⟨b,1,none⟩=some (.string sx):=(World.cell?_of_block (HK3.out.block b hbl2 (by rw[(HK2.out.same b hbl1).trans HW1.out.kb];exact fun e=>by have e':c+5=c+3:=e;omega))).trans x1;have z4:w3.cell? ⟨b,4,none⟩=some (.pointer (some ⟨rd,0,none⟩)):=(World.cell?_of_block (HK3.out.block b hbl2 (by rw[(HK2.out.same b hbl1).trans HW1.out.kb];exact fun e=>by have e':c+5=c+3:=e;omega))).trans x4;clear ht3 hk3) | fail)
  go_wp2
  go_end0
  refine⟨K3,rfl,?_,((kp_f HKa.out).trans (kp_os HK2.out (by omega) (by omega))).trans (kp_os HK3.out (by omega) (by omega))⟩
  rw[HX.out]
  exact⟨d,rd,jp,rp,HW1.out.two HK2.out HD2.out HK3.out HT3.out⟩
def bsd:Nm:=[98,101,115,105,100,101]
def Sd.beat (X:Sd) (n:Int):Sd:=if X.name=bsd then X else if n<0 then { X with S:=(X.S.removeR bsd).2 } else { X with S:=(X.S.appendR bsd (List.replicate (min n.toNat 4096) 0)).2 }
theorem made_zero (n:Nat):madeCells #[Value.int .u8 0] n=(vals (List.replicate n 0)).toArray:=by
 apply Array.ext
 ·simp[madeCells,vals]
 ·intro i h1 h2
  simp[madeCells,vals,Nat.mod_one]
theorem zero_bytes (w:World) (n:Nat) (t:TypeId) (ht:t=5):Bytes (w.alloc (.cells (vals (List.replicate n 0)).toArray t)) (some ⟨w.heap.size,0,none⟩) (List.replicate n 0):=by
 subst ht
 refine⟨fun x hx=>by have:=(List.mem_replicate.1 hx).2;omega,Or.inr ⟨w.heap.size,0,rfl,by simp,fun j hj=>?_⟩⟩
 have hb:(w.alloc (.cells (vals (List.replicate n 0)).toArray 5)).heap[w.heap.size]?=some (.cells (vals (List.replicate n 0)).toArray 5 (0,0)):=heap_alloc_new _ _
 simp only[List.length_replicate]at hj
 have key:∀(w3:World) (g:Nat) (A:Array Value),w3.heap[g]?=some (.cells A 5 (0,0))→w3.cell? ⟨g,0+j,none⟩=A[j]?:=fun w3 g A hg=>by simp[World.cell?,hg]
 rw[key _ _ _ hb]
 simp[vals,List.getD,hj]
set_option maxHeartbeats 4000000 in
theorem sbeat_any (w:World) (K:Knd) (c b:Nat) (X:Sd) (k:Nat) (h:Sk w K c b X) (ho:Sok X k) (hk:k≤274877906000) (n:Int) :
  Calls Tryz.prog 36 #[.pointer (some ⟨b,0,none⟩),.int .i64 n] w (SRes w K c b (X.beat n) (.tuple #[])):=by
 have hmk:∀(m:Nat),m≤4096→∀w,Sem.run Tryz.prog (Instr.makeSlice 32 (Value.int IntKind.i64 (m:Int)) (Value.int IntKind.i64 (m:Int))) w=Result.ok (Value.slice (some { block:=w.heap.size,off:=0 }) m m) (w.alloc (.cells (vals (List.replicate m 0)).toArray 5)) :=
  fun m hm w=>by have h:=run_make_row' (P:=Tryz.prog) 32 5 (.int .u8 0) 1 Tryz.underlying32 Tryz.info5 rfl .i64 .i64 m (by omega) (by omega) w;rw[made_zero]at h;exact h
 obtain⟨d,rd,jp,rp,hw⟩:=h
 have hb:=hw.blk
 obtain⟨q0,q1,q2,q3,q4,q5,qf⟩:=blk6 hb
 have hbl:=lt_of_block hb
 have HW:=hide hw
 have HO:=hide ho
 have hfb:=okd_fb0 ho.ok (by omega:k≤274877906944)
 have hbs:(⟨bsd.toArray⟩:ByteArray)=⟨#[98,101,115,105,100,101]⟩:=rfl
 have hf5:¬Ow (c+1) (c+5,0):=fun e=>by have e':c+5=c+1:=e;omega
 by_cases hnm:X.name=bsd
 ·have HX:Hid (X.beat n=X):=by show _=_;unfold Sd.beat;rw[if_pos hnm]
  rw[hnm,hbs]at q1
  clear hw hb ho hfb q0 q2 q3 q4 q5 qf hnm hmk
  go_enter Tryz.func36,Tryz.ntmps36
  go_wp2
  go_end0
  exact⟨K,rfl,by rw[HX.out];exact⟨d,rd,jp,rp,HW.out⟩,Kp.refl _ _ _⟩
 have hne:(X.name == ([98,101,115,105,100,101]:List UInt8))=false:=by simpa[bsd] using hnm
 by_cases hn:n<0
 ·have HX:Hid (X.beat n={ X with S:=(X.S.removeR bsd).2 }):=by show _=_;unfold Sd.beat;rw[if_neg hnm,if_pos hn]
  have HRd:=hide (Remove_any w K (c+1) d X.S hw.dk ho.ok.inv k ho.ok.sz (by omega) bsd (by decide))
  have HRt:=hide (fun w1 K1 h1=>tremove_any w1 K1 (c+3) rd X.S h1 ho.ok.inv hfb (by have:=ho.ok.sz.st;omega) (by have:=ho.ok.sz.pl;omega) bsd)
  rw[hbs]at HRd HRt
  clear hw hb ho hfb q0 q3 q5 qf hnm hmk
  go_enter Tryz.func36,Tryz.ntmps36
  go_wp2_with fail
  refine HRd.out.mono ?_
  rintro e w2 ⟨K2,rfl,hd2,hk2⟩
  have HD2:=hide hd2
  have HK2:=hide hk2
  have x4:=((HW.out.cell hk2 hf5).1 4).trans q4
  have hbl2:=(HW.out.cell hk2 hf5).2
  have HR2:=hide (HRt.out w2 K2 (HW.out.tk.kept hk2 (fun q e=>by have e':c+3=c+1:=e;omega)))
  clear hd2 hk2 HRd HRt
  go_wp2_with fail
  refine HR2.out.mono ?_
  rintro e w3 ⟨K3,rfl,ht3,hk3⟩
  have HT3:=hide ht3
  have HK3:=hide hk3
  clear ht3 hk3
  go_wp2
  go_end0
  refine⟨K3,rfl,?_,(kp_os HK2.out (by omega) (by omega)).trans (kp_os HK3.out (by omega) (by omega))⟩
  rw[HX.out]
  exact⟨d,rd,jp,rp,HW.out.two HK2.out HD2.out HK3.out HT3.out⟩
 have hmin:min n.toNat 4096≤4096:=Nat.min_le_right _ _
 obtain⟨M,hM⟩:∃M,min n.toNat 4096=M:=⟨_,rfl⟩
 have HX:Hid (X.beat n={ X with S:=(X.S.appendR bsd (List.replicate M 0)).2 }):=by show _=_;unfold Sd.beat;rw[if_neg hnm,if_neg hn,hM]
 rw[hM]at hmin
 have hmk1:=hmk M hmin
 have HAd:=hide (fun w1 K1 h1 (sp:Option Addr) hb1 ha1=>Append_all w1 K1 (c+1) d X.S h1 k bsd (by decide) sp M M (List.replicate M 0) (by simp) ho.ok.inv ho.ok.sz (by omega) (by omega) hb1 ha1)
 have HAt:=hide (fun w1 K1 h1 (sp:Option Addr) hb1 ha1=>tappend_all w1 K1 (c+3) rd X.S h1 ho.ok.inv hfb (by have:=ho.ok.sz.st;omega) (by have:=ho.ok.sz.pl;omega) (by have:=ho.ok.fl;omega) bsd sp M M (List.replicate M 0) (by simp) (by omega) hb1 ha1)
 rw[hbs]at HAd HAt
 clear hw hb ho hfb q0 q3 q5 qf hnm hmk
 have hM2:(4096<n∧(M:Int)=4096)∨(¬4096<n∧n=(M:Int)):=by omega
 clear hM
 rcases hM2 with ⟨h1,h2⟩ | ⟨h1,h2⟩
 ·obtain rfl:M=4096:=by omega
  have hmk3:∀w,Sem.run Tryz.prog (Instr.makeSlice 32 (Value.int IntKind.i64 4096) (Value.int IntKind.i64 4096)) w=Result.ok (Value.slice (some { block:=w.heap.size,off:=0 }) 4096 4096) (w.alloc (.cells (vals (List.replicate 4096 0)).toArray 5)):=hmk1
  generalize hZ:(vals (List.replicate 4096 0)).toArray=Z at *
  clear h2 hmk1
  have hbz:Below w.heap.size w (w.drew.alloc (.cells Z 5)):=((Below.refl _ _).drew).alloc (Nat.le_refl _) _
  have hkz:=kp_below hbz (fun _=>False) K (0,0)
  have HKz:=hide hkz
  have HWz:=hide (HW.out.kept hkz (fun _ _ _ _ h=>h))
  have HA1:=hide (HAd.out (w.drew.alloc (.cells Z 5)) (ext K w.heap.size (0,0)) HWz.out.dk (some ⟨w.heap.size,0,none⟩) (by have:=zero_bytes w.drew 4096 _ rfl;rw[hZ]at this;exact this) (Or.inr (fun g p e=>by cases e;rw[ext_new K _ (Nat.le_refl _)];exact fun e=>by have e':0=c+1:=e;omega)))
  have z2:=((HW.out.cell hkz (fun h=>h)).1 2).trans q2
  have z4:=((HW.out.cell hkz (fun h=>h)).1 4).trans q4
  have hblz:=(HW.out.cell hkz (fun h=>h)).2
  generalize ext K w.heap.size (0,0)=Kz at *
  have HZ:=hide hZ
  clear hbz hkz HAd hZ
  go_enter Tryz.func36,Tryz.ntmps36
  go_wp2
  go_region_law (first | (go_simp;go_at_call 32;refine HA1.out.mono ?_;rintro e w2 ⟨K2,rfl,hd2,hk2⟩;have HD2:=hide hd2;have HK2:=hide hk2;have x4:=((HWz.out.cell hk2 hf5).1 4).trans z4;have hbl2:=(HWz.out.cell hk2 hf5).2;clear hd2 hk2))
  all_goals
   have hbz2:Below w2.heap.size w2 (w2.drew.alloc (.cells Z 5)):=((Below.refl _ _).drew).alloc (Nat.le_refl _) _
   have hkz2:=kp_below hbz2 (fun _=>False) K2 (0,0)
   have HKz2:=hide hkz2
   have htk2:=HWz.out.tk.kept HK2.out (fun q e=>by have e':c+3=c+1:=e;omega)
   have HA2:=hide (HAt.out (w2.drew.alloc (.cells Z 5)) (ext K2 w2.heap.size (0,0)) (htk2.kept hkz2 (fun _ h=>h)) (some ⟨w2.heap.size,0,none⟩) (by have:=zero_bytes w2.drew 4096 _ rfl;rw[HZ.out]at this;exact this) (Or.inr (fun g p e=>by cases e;rw[ext_new K2 _ (Nat.le_refl _)];exact fun e=>by have e':0=c+3:=e;omega)))
   have HD2z:=hide (HD2.out.kept hkz2 (fun _ h=>h))
   have v4:=(hbz2.cell (p:=⟨b,4,none⟩) hbl2).trans x4
   generalize ext K2 w2.heap.size (0,0)=K2z at *
   clear hbz2 hkz2 htk2
   go_wp2
   go_region_law (first | (go_simp;go_at_call 34;refine HA2.out.mono ?_;rintro e w3 ⟨K3,rfl,ht3,hk3⟩;have HT3:=hide ht3;have HK3:=hide hk3;clear ht3 hk3))
   all_goals
    go_wp2
    go_end0
    refine⟨K3,rfl,?_,(((kp_f HKz.out).trans (kp_os HK2.out (by omega) (by omega))).trans (kp_f HKz2.out)).trans (kp_os HK3.out (by omega) (by omega))⟩
    rw[HX.out]
    exact⟨d,rd,jp,rp,HWz.out.two (HK2.out.trans (kp_f HKz2.out)) HD2z.out HK3.out HT3.out⟩
 ·subst h2
  generalize hZ:(vals (List.replicate M 0)).toArray=Z at *
  have hbz:Below w.heap.size w (w.drew.alloc (.cells Z 5)):=((Below.refl _ _).drew).alloc (Nat.le_refl _) _
  have hkz:=kp_below hbz (fun _=>False) K (0,0)
  have HKz:=hide hkz
  have HWz:=hide (HW.out.kept hkz (fun _ _ _ _ h=>h))
  have HA1:=hide (HAd.out (w.drew.alloc (.cells Z 5)) (ext K w.heap.size (0,0)) HWz.out.dk (some ⟨w.heap.size,0,none⟩) (by have:=zero_bytes w.drew M _ rfl;rw[hZ]at this;exact this) (Or.inr (fun g p e=>by cases e;rw[ext_new K _ (Nat.le_refl _)];exact fun e=>by have e':0=c+1:=e;omega)))
  have z2:=((HW.out.cell hkz (fun h=>h)).1 2).trans q2
  have z4:=((HW.out.cell hkz (fun h=>h)).1 4).trans q4
  have hblz:=(HW.out.cell hkz (fun h=>h)).2
  generalize ext K w.heap.size (0,0)=Kz at *
  have HZ:=hide hZ
  clear hbz hkz HAd hZ
  go_enter Tryz.func36,Tryz.ntmps36
  go_wp2
  go_region_law (first | (go_simp;go_at_call 32;refine HA1.out.mono ?_;rintro e w2 ⟨K2,rfl,hd2,hk2⟩;have HD2:=hide hd2;have HK2:=hide hk2;have x4:=((HWz.out.cell hk2 hf5).1 4).trans z4;have hbl2:=(HWz.out.cell hk2 hf5).2;clear hd2 hk2))
  all_goals
   have hbz2:Below w2.heap.size w2 (w2.drew.alloc (.cells Z 5)):=((Below.refl _ _).drew).alloc (Nat.le_refl _) _
   have hkz2:=kp_below hbz2 (fun _=>False) K2 (0,0)
   have HKz2:=hide hkz2
   have htk2:=HWz.out.tk.kept HK2.out (fun q e=>by have e':c+3=c+1:=e;omega)
   have HA2:=hide (HAt.out (w2.drew.alloc (.cells Z 5)) (ext K2 w2.heap.size (0,0)) (htk2.kept hkz2 (fun _ h=>h)) (some ⟨w2.heap.size,0,none⟩) (by have:=zero_bytes w2.drew M _ rfl;rw[HZ.out]at this;exact this) (Or.inr (fun g p e=>by cases e;rw[ext_new K2 _ (Nat.le_refl _)];exact fun e=>by have e':0=c+3:=e;omega)))
   have HD2z:=hide (HD2.out.kept hkz2 (fun _ h=>h))
   have v4:=(hbz2.cell (p:=⟨b,4,none⟩) hbl2).trans x4
   generalize ext K2 w2.heap.size (0,0)=K2z at *
   clear hbz2 hkz2 htk2
   go_wp2
   go_region_law (first | (go_simp;go_at_call 34;refine HA2.out.mono ?_;rintro e w3 ⟨K3,rfl,ht3,hk3⟩;have HT3:=hide ht3;have HK3:=hide hk3;clear ht3 hk3))
   all_goals
    go_wp2
    go_end0
    refine⟨K3,rfl,?_,(((kp_f HKz.out).trans (kp_os HK2.out (by omega) (by omega))).trans (kp_f HKz2.out)).trans (kp_os HK3.out (by omega) (by omega))⟩
    rw[HX.out]
    exact⟨d,rd,jp,rp,HWz.out.two (HK2.out.trans (kp_f HKz2.out)) HD2z.out HK3.out HT3.out⟩
end Go.Proofs.YtcceejdaokoihaaGreatDoor
