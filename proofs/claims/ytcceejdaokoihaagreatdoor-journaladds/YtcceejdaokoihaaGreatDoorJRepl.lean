import Derived.Test.YtcceejdaokoihaaGreatDoorJAdd
set_option maxRecDepth 100000
namespace Go.Proofs.YtcceejdaokoihaaGreatDoor
open Go.RowKit Go.Maps
def Jr.second (J:Jr):Nm:=J.name++newE
def Jr.reps (J:Jr) (S:St) (r:List Nat):List Stk:=(if S.err J.second=0 then [.rem J.second] else [])++[.app J.second r,.sync J.second,.ren J.second J.name,.names,.drop]
theorem five_some {α:Type} {a b c d e:α} {i:Nat} {s:α} (h:[a,b,c,d,e][i]?=some s):(i=0∧s=a)∨(i=1∧s=b)∨(i=2∧s=c)∨(i=3∧s=d)∨(i=4∧s=e):=by
 match i,h with
 | 0,h=>simp at h;exact Or.inl ⟨rfl,h.symm⟩
 | 1,h=>simp at h;exact Or.inr (Or.inl ⟨rfl,h.symm⟩)
 | 2,h=>simp at h;exact Or.inr (Or.inr (Or.inl ⟨rfl,h.symm⟩))
 | 3,h=>simp at h;exact Or.inr (Or.inr (Or.inr (Or.inl ⟨rfl,h.symm⟩)))
 | 4,h=>simp at h;exact Or.inr (Or.inr (Or.inr (Or.inr ⟨rfl,h.symm⟩)))
 | _+5,h=>simp at h
set_option linter.unusedSimpArgs false in
set_option maxHeartbeats 2000000 in
theorem replacing_any (w:World) (K:Knd) (od o d jb:Nat) (S:St) (hdk:Dk w K od d S) (hv:Inv S) (J:Jr) (h:Jk w K o d jb J) (g q n c:Nat) (r:List Nat) (hr:r.length=n) (hrl:n≤4194304) (hg:K g=(o,3)) (D:Array Value) (fr:Nat × Nat) (hD:w.heap[g]?=some (.cells D 5 fr)) (hby:Bytes w (some ⟨g,q,none⟩) r) (hnm:J.second.length≤64) :
  Calls Tryz.prog 62 #[.pointer (some ⟨jb,0,none⟩),.slice (some ⟨g,q,none⟩) n c] w (RowOf w (ext K w.heap.size (o,4)) o d jb (J.reps S r)):=by
 obtain⟨i0,hi,hz0,hz1,hz2⟩:=info_parts Tryz.infoSk
 have hmf:∀(fn:Fn) (first cap:Array Value) (w:World),(Instr.makeFunc fn first cap).run Tryz.prog w=.ok (.func fn first cap) w:=fun _ _ _ _=>rfl
 have hnl:J.name.length≤60:=by unfold Jr.second at hnm;rw[List.length_append]at hnm;simp[newE]at hnm;omega
 have hb1:Below w.heap.size w (w.alloc (.cells #[.pointer (some ⟨jb,0,none⟩)] 43)):=(Below.refl _ _).alloc (Nat.le_refl _) _
 have kp1:=kp_below hb1 (fun _=>False) K (o,4)
 have hj1:=h.kept kp1 (fun _ h=>h)
 have hd1:=hdk.kept kp1 (fun _ h=>h)
 have HFi:=hide (files_any _ _ o d jb J (hj1.kept (kp_drw (fun _=>False) _ _) (fun _ h=>h)))
 have HSi:=hide (Size_any _ _ od d S (hd1.kept (kp_drw (fun _=>False) _ _) (fun _ h=>h)) hv J.second (by omega))
 have hbx:(w.alloc (.cells #[.pointer (some ⟨jb,0,none⟩)] 43)).heap[w.heap.size]?=some (.cells #[.pointer (some ⟨jb,0,none⟩)] 43 (0,0)):=heap_alloc_new _ _
 have w1z0:(w.alloc (.cells #[.pointer (some ⟨jb,0,none⟩)] 43)).cell? ⟨w.heap.size,0,none⟩=some (.pointer (some ⟨jb,0,none⟩)):=cell_blk1 hbx
 obtain⟨rv,vs,hm⟩:=hj1
 have hb:=hm.blk
 unfold jcells at hb
 obtain⟨q0,w1z1,q2,q3,q4,q5,q6,qf⟩:=blk7 hb
 have HB1:=hide hb1
 have HX1:=hide hbx
 have HJ1:=hide hb
 have HD:=hide hD
 have HR:=hide hr
 have HG:=hide hg
 have HBy:=hide hby
 have HNm:=hide hnm
 have HNl:=hide hnl
 have hRs:J.reps S r=(if S.err J.second=0 then [.rem J.second] else [])++[.app J.second r,.sync J.second,.ren J.second J.name,.names,.drop]:=rfl
 generalize J.reps S r=ss at *
 have HRs:=hide hRs
 clear hRs
 have HKg:Hid (ext K w.heap.size (o,4) g=(o,3)):=(ext_old K _ (lt_of_block hD)).trans hg
 have hsa:=str_add J.name
 have hsz:(⟨J.name.toArray⟩:ByteArray).size≤64:=by have e:(⟨J.name.toArray⟩:ByteArray).size=J.name.length:=by { simp[ByteArray.size] };omega
 rw[show J.name++newE=J.second from rfl]at hsa
 generalize hnme:(⟨J.name.toArray⟩:ByteArray)=nme at *
 generalize hsec:(⟨J.second.toArray⟩:ByteArray)=sec at *
 have hs4:¬9223372036854775807<nme.size+4:=by omega
 have HNe:=hide hnme
 have HSe:=hide hsec
 obtain⟨sl,hsl⟩:∃sl,(S.bytes J.second).length=sl:=⟨_,rfl⟩
 rw[hsl]at HSi
 clear hm hb kp1 h hr hg hD hby hnm hnl hnme hsec hbx hb1 q0 q2 q3 q4 q5 q6 qf hdk hd1 hv hsl
 by_cases he:S.err J.second=0
 ·have HEr:=hide he
  rw[he]at HSi
  clear he
  go_enter Tryz.func62,Tryz.ntmps62
  go_wp2
  generalize hw1:w.alloc (.cells #[.pointer (some ⟨jb,0,none⟩)] 43)=w1 at *
  clear hw1
  have w1S:Hid (Nst w1 w1.drew):=fun _ _ _ _ _ _=>rfl
  have w1B:=HB1.out.size
  refine wp_region_held_drew (S:=fun w'=>w'.cell? ⟨w.heap.size,0,none⟩=some (.pointer (some ⟨jb,0,none⟩))∧w'.cell? ⟨jb,1,none⟩=some (.string nme)) (by kernel_rfl) (by go_keep) (fun hHeld=>?_)
  refine wpAnyH_take (i:=0) (oi:=_) (v:=?vd0) rfl (by kernel_rfl) (by kernel_rfl) (by kernel_rfl) (fun _ _ _ h=>h) (Or.inl ⟨by rfl,?yd0⟩) (by assumption) ?rd0
  case yd0=>(intro w hSw;(try dsimp only at hSw);go_simp;try with_reducible rfl)
  try simp only[Act.put,List.setIfInBounds_toArray,List.set_cons_zero,List.set_cons_succ]
  refine wpAnyH_take (i:=2) (oi:=_) (v:=?vd2) rfl (by kernel_rfl) (by kernel_rfl) (by kernel_rfl) (fun _ _ _ h=>h) (Or.inl ⟨by rfl,?yd2⟩) (by assumption) ?rd2
  case yd2=>(intro w hSw;(try dsimp only at hSw);go_simp;try with_reducible rfl)
  try simp only[Act.put,List.setIfInBounds_toArray,List.set_cons_zero,List.set_cons_succ]
  refine wpAnyH_take (i:=3) (oi:=_) (v:=?vd3) rfl (by kernel_rfl) (by kernel_rfl) (by kernel_rfl) (fun _ _ _ h=>h) (Or.inl ⟨by rfl,?yd3⟩) (by assumption) ?rd3
  case yd3=>(intro w hSw;(try dsimp only at hSw);go_simp;try with_reducible rfl)
  try simp only[Act.put,List.setIfInBounds_toArray,List.set_cons_zero,List.set_cons_succ]
  refine wpAnyH_take (i:=4) (oi:=_) (v:=?vd4) rfl (by kernel_rfl) (by kernel_rfl) (by kernel_rfl) (fun _ _ _ h=>h) (Or.inl ⟨by rfl,?yd4⟩) (by assumption) ?rd4
  case yd4=>(intro w hSw;(try dsimp only at hSw);go_simp;try with_reducible rfl)
  try simp only[Act.put,List.setIfInBounds_toArray,List.set_cons_zero,List.set_cons_succ]
  refine wpAnyH_take (i:=5) (oi:=_) (v:=?vd5) rfl (by kernel_rfl) (by kernel_rfl) (by kernel_rfl) (fun _ _ _ h=>h) (Or.inl ⟨by rfl,?yd5⟩) (by assumption) ?rd5
  case yd5=>(intro w hSw;(try dsimp only at hSw);go_simp;try with_reducible rfl)
  try simp only[Act.put,List.setIfInBounds_toArray,List.set_cons_zero,List.set_cons_succ]
  refine wpAnyH_take (i:=6) (oi:=_) (v:=?vd6) rfl (by kernel_rfl) (by kernel_rfl) (by kernel_rfl) (fun _ _ _ h=>h) (Or.inl ⟨by rfl,?yd6⟩) (by assumption) ?rd6
  case yd6=>(intro w hSw;(try dsimp only at hSw);go_simp;try with_reducible rfl)
  try simp only[Act.put,List.setIfInBounds_toArray,List.set_cons_zero,List.set_cons_succ]
  refine wpAnyH_ready (rs:=[1]) (by kernel_rfl) (by simp) ?_
  refine AllReadyH.cons (o:=_) rfl (fun KK hKK=>?_) AllReadyH.nil
  go_simp
  (go_at_call 38;refine HFi.out.mono ?_;rintro e wg ⟨rfl,hwg⟩;subst hwg)
  try go_wp2_with fail
  refine hKK.out _ _ (by(try dsimp only);go_keep) (fun hHeld=>?_)
  clear hKK KK
  try simp only[Act.put,List.setIfInBounds_toArray,List.set_cons_zero,List.set_cons_succ]
  refine wpAnyH_take (i:=7) (oi:={ dst:=some 6,op:=Op.assign (Operand.tmp 11),type:=39,pos:=_,after:=_,guard:=none }) (v:=?vd7) rfl (by kernel_rfl) (by kernel_rfl) (by kernel_rfl) (fun _ _ _ h=>h) (Or.inl ⟨by rfl,?yd7⟩) (by assumption) ?rd7
  case yd7=>(intro w hSw;(try dsimp only at hSw);go_simp;try with_reducible rfl)
  try simp only[Act.put,List.setIfInBounds_toArray,List.set_cons_zero,List.set_cons_succ]
  refine wpAnyH_take (i:=8) (oi:={ dst:=some 7,op:=Op.assign (Operand.tmp 16),type:=9,pos:=_,after:=_,guard:=none }) (v:=?vd8) rfl (by kernel_rfl) (by kernel_rfl) (by kernel_rfl) (fun _ _ _ h=>h) (Or.inl ⟨by rfl,?yd8⟩) (by assumption) ?rd8
  case yd8=>(intro w hSw;(try dsimp only at hSw);go_simp;try with_reducible rfl)
  try simp only[Act.put,List.setIfInBounds_toArray,List.set_cons_zero,List.set_cons_succ]
  refine wpAnyH_done (by kernel_rfl) ?_ _
  go_wp2_with fail
  refine HSi.out.mono ?_
  rintro e w2 ⟨rfl,hw2⟩
  subst hw2
  have w1z0':w1.drew.cell? ⟨w.heap.size,0,none⟩=some (.pointer (some ⟨jb,0,none⟩)):=w1z0
  have w1z1':w1.drew.cell? ⟨jb,1,none⟩=some (.string nme):=w1z1
  have HBq:Hid (Below w.heap.size w w1.drew):=HB1.out.drew
  have wqS:Hid (Nst w1 w1.drew):=fun _ _ _ _ _ _=>rfl
  generalize hwq:w1.drew=wq at *
  clear hwq
  have sq:=HBq.out.size
  go_wp2_with (first | (go_at_call 97;refine(on_any wq 85 d sec).mono ?_;rintro e w4 ⟨w4b0,w4b1,rfl,w4n0,w4n1,w4h⟩;have W4N0:=hide w4n0;have W4N1:=hide w4n1;have W4H:=hide w4h;have w4S:Nst w1 w4:=wqS.out.trans (nst_below w4h);have w4z0:=cell_blk1 ((w4S _ _ _ _ HX1.out (by decide)).trans HX1.out);have w4z1:=(blk7 ((w4S _ _ _ _ HJ1.out (by decide)).trans HJ1.out)).2.1;have w4S:=hide w4S;clear w4n0 w4n1 w4h) | (at_builtin;refine wpList_append_lies _ rfl (.tmp 25) (.tmp 30) 157 rfl w.heap.size 158 i0 .nilFunc 1 8 Tryz.underlying157 hi hz0 hz1 hz2 rfl (by omega) (.slice none 0 0) 0 [] rfl ((srow_nil w.heap.size _ K o d jb).own) ⟨w4.heap.size,0,none⟩ 1 1 [.func (.func 140) #[] #[.pointer (some ⟨w4b0,0,none⟩),.pointer (some ⟨w4b1,0,none⟩)]] rfl rfl (World.news_of_block (heap_alloc_new w4 (.cells #[.func (.func 140) #[] #[.pointer (some ⟨w4b0,0,none⟩),.pointer (some ⟨w4b1,0,none⟩)]] 158))) (by simp[Value.oneCell']) (by omega) (by unfold maxLen;omega) (by omega) (by simp;have:=W4H.out.size;omega) _ rfl ?_;intro wrg wrc wr wro wrh wra wrt;have WRO:=hide wro;have WRH:=hide wrh;have wrS:Nst w1 wr:=w4S.out.trans ((nst_below ((Below.refl _ _).alloc (Nat.le_refl _) _)).trans (nst_grown wrh ((srow_nil w.heap.size _ K o d jb).own)));have wrz0:=cell_blk1 ((wrS _ _ _ _ HX1.out (by decide)).trans HX1.out);have wrz1:=(blk7 ((wrS _ _ _ _ HJ1.out (by decide)).trans HJ1.out)).2.1;have wrS:=hide wrS;clear wro wrh wra wrt) | fail)
  have s4:=W4H.out.size
  have sr:=WRH.out.size
  rw[World.size_alloc]at sr
  have n4r:Nst w4 wr:=(nst_below ((Below.refl _ _).alloc (Nat.le_refl _) _)).trans (nst_grown WRH.out ((srow_nil w.heap.size _ K o d jb).own))
  have nqr:Nst wq wr:=(nst_below W4H.out).trans n4r
  have HBr:Hid (Below w.heap.size w wr):=((HBq.out.trans (W4H.out.mono sq)).alloc (by omega) _).grown WRH.out (by simp;omega) (fun g2 e2=>by simp[Value.ownBlock]at e2)
  have x0:=(W4N0.out.box (K:=K) (w0:=w) sq o).same n4r (by decide)
  have x1:=(W4N1.out.box (K:=K) (w0:=w) sq o).same n4r (by decide)
  rw[←HSe.out]at x1
  have HBx:Hid (Below w.heap.size w wr.drew):=HBr.out.drew
  have HS4:Srow w.heap.size wr (ext K w.heap.size (o,4)) o d jb (some ⟨wrg,0,none⟩) (0+1) wrc ([]++[.rem J.second]) ([]++[.func (.func 140) #[] #[.pointer (some ⟨w4b0,0,none⟩),.pointer (some ⟨w4b1,0,none⟩)]]):=(srow_nil w.heap.size wq (ext K w.heap.size (o,4)) o d jb).more nqr (by omega) rfl WRO.out (fun i s hs=>by
   obtain⟨rfl,rfl⟩:=one_some hs
   exact⟨_,rfl,w4b0,w4b1,rfl,x0,x1,HNm.out⟩)
  have HSx:=hide (HS4.below ((Below.refl _ _).drew))
  clear HS4
  have hsz8:∀{a b c d:Nat},wr.drew.heap.size≤a→a≤b→b≤c→c≤d→w.heap.size≤d+1:=fun {a b c d} h1 h2 h3 h4=>by have:wr.heap.size≤a:=h1;omega
  clear x0 x1 n4r nqr W4N0 W4N1 W4H WRH WRO HBr
  have wrS':Hid (Nst w1 wr.drew):=wrS.out.trans (fun _ _ _ _ _ _=>rfl)
  clear wrS
  have wrS:=wrS'
  clear wrS'
  go_wp2
  refine wp_region_held_drew (S:=fun w'=>w'.cell? ⟨w.heap.size,0,none⟩=some (.pointer (some ⟨jb,0,none⟩))∧w'.cell? ⟨jb,1,none⟩=some (.string nme)) (by kernel_rfl) (by go_keep) (fun hHeld=>?_)
  refine wpAnyH_take (i:=0) (oi:=_) (v:=?ve0) rfl (by kernel_rfl) (by kernel_rfl) (by kernel_rfl) (fun _ _ _ h=>h) (Or.inl ⟨by rfl,?ye0⟩) (by assumption) ?re0
  case ye0=>(intro w hSw;(try dsimp only at hSw);go_simp;try with_reducible rfl)
  try simp only[Act.put,List.setIfInBounds_toArray,List.set_cons_zero,List.set_cons_succ]
  refine wpAnyH_take (i:=1) (oi:=_) (v:=?ve1) rfl (by kernel_rfl) (by kernel_rfl) (by kernel_rfl) (fun _ _ _ h=>h) (Or.inl ⟨by rfl,?ye1⟩) (by assumption) ?re1
  case ye1=>(intro w hSw;(try dsimp only at hSw);go_simp;try with_reducible rfl)
  try simp only[Act.put,List.setIfInBounds_toArray,List.set_cons_zero,List.set_cons_succ]
  refine wpAnyH_take (i:=2) (oi:=_) (v:=?ve2) rfl (by kernel_rfl) (by kernel_rfl) (by kernel_rfl) (fun _ _ _ h=>h) (Or.inl ⟨by rfl,?ye2⟩) (by assumption) ?re2
  case ye2=>(intro w hSw;(try dsimp only at hSw);go_simp;try with_reducible rfl)
  try simp only[Act.put,List.setIfInBounds_toArray,List.set_cons_zero,List.set_cons_succ]
  refine wpAnyH_take (i:=3) (oi:=_) (v:=?ve3) rfl (by kernel_rfl) (by kernel_rfl) (by kernel_rfl) (fun _ _ _ h=>h) (Or.inl ⟨by rfl,?ye3⟩) (by assumption) ?re3
  case ye3=>(intro w hSw;(try dsimp only at hSw);go_simp;try with_reducible rfl)
  try simp only[Act.put,List.setIfInBounds_toArray,List.set_cons_zero,List.set_cons_succ]
  refine wpAnyH_take (i:=4) (oi:=_) (v:=?ve4) rfl (by kernel_rfl) (by kernel_rfl) (by kernel_rfl) (fun _ _ _ h=>h) (Or.inl ⟨by rfl,?ye4⟩) (by assumption) ?re4
  case ye4=>(intro w hSw;(try dsimp only at hSw);go_simp;try with_reducible rfl)
  try simp only[Act.put,List.setIfInBounds_toArray,List.set_cons_zero,List.set_cons_succ]
  refine wpAnyH_take (i:=6) (oi:=_) (v:=?ve6) rfl (by kernel_rfl) (by kernel_rfl) (by kernel_rfl) (fun _ _ _ h=>h) (Or.inl ⟨by rfl,?ye6⟩) (by assumption) ?re6
  case ye6=>(intro w hSw;(try dsimp only at hSw);go_simp;try with_reducible rfl)
  try simp only[Act.put,List.setIfInBounds_toArray,List.set_cons_zero,List.set_cons_succ]
  refine wpAnyH_take (i:=7) (oi:=_) (v:=?ve7) rfl (by kernel_rfl) (by kernel_rfl) (by kernel_rfl) (fun _ _ _ h=>h) (Or.inl ⟨by rfl,?ye7⟩) (by assumption) ?re7
  case ye7=>(intro w hSw;(try dsimp only at hSw);go_simp;try with_reducible rfl)
  try simp only[Act.put,List.setIfInBounds_toArray,List.set_cons_zero,List.set_cons_succ]
  refine wpAnyH_take (i:=8) (oi:=_) (v:=?ve8) rfl (by kernel_rfl) (by kernel_rfl) (by kernel_rfl) (fun _ _ _ h=>h) (Or.inl ⟨by rfl,?ye8⟩) (by assumption) ?re8
  case ye8=>(intro w hSw;(try dsimp only at hSw);go_simp;try with_reducible rfl)
  try simp only[Act.put,List.setIfInBounds_toArray,List.set_cons_zero,List.set_cons_succ]
  refine wpAnyH_take (i:=10) (oi:=_) (v:=?ve10) rfl (by kernel_rfl) (by kernel_rfl) (by kernel_rfl) (fun _ _ _ h=>h) (Or.inl ⟨by rfl,?ye10⟩) (by assumption) ?re10
  case ye10=>(intro w hSw;(try dsimp only at hSw);go_simp;try with_reducible rfl)
  try simp only[Act.put,List.setIfInBounds_toArray,List.set_cons_zero,List.set_cons_succ]
  refine wpAnyH_take (i:=11) (oi:=_) (v:=?ve11) rfl (by kernel_rfl) (by kernel_rfl) (by kernel_rfl) (fun _ _ _ h=>h) (Or.inl ⟨by rfl,?ye11⟩) (by assumption) ?re11
  case ye11=>(intro w hSw;(try dsimp only at hSw);go_simp;try with_reducible rfl)
  try simp only[Act.put,List.setIfInBounds_toArray,List.set_cons_zero,List.set_cons_succ]
  refine wpAnyH_take (i:=12) (oi:=_) (v:=?ve12) rfl (by kernel_rfl) (by kernel_rfl) (by kernel_rfl) (fun _ _ _ h=>h) (Or.inl ⟨by rfl,?ye12⟩) (by assumption) ?re12
  case ye12=>(intro w hSw;(try dsimp only at hSw);go_simp;try with_reducible rfl)
  try simp only[Act.put,List.setIfInBounds_toArray,List.set_cons_zero,List.set_cons_succ]
  refine wpAnyH_take (i:=13) (oi:=_) (v:=?ve13) rfl (by kernel_rfl) (by kernel_rfl) (by kernel_rfl) (fun _ _ _ h=>h) (Or.inl ⟨by rfl,?ye13⟩) (by assumption) ?re13
  case ye13=>(intro w hSw;(try dsimp only at hSw);go_simp;try with_reducible rfl)
  try simp only[Act.put,List.setIfInBounds_toArray,List.set_cons_zero,List.set_cons_succ]
  refine wpAnyH_take (i:=14) (oi:=_) (v:=?ve14) rfl (by kernel_rfl) (by kernel_rfl) (by kernel_rfl) (fun _ _ _ h=>h) (Or.inl ⟨by rfl,?ye14⟩) (by assumption) ?re14
  case ye14=>(intro w hSw;(try dsimp only at hSw);go_simp;try with_reducible rfl)
  try simp only[Act.put,List.setIfInBounds_toArray,List.set_cons_zero,List.set_cons_succ]
  refine wpAnyH_take (i:=15) (oi:=_) (v:=?ve15) rfl (by kernel_rfl) (by kernel_rfl) (by kernel_rfl) (fun _ _ _ h=>h) (Or.inl ⟨by rfl,?ye15⟩) (by assumption) ?re15
  case ye15=>(intro w hSw;(try dsimp only at hSw);go_simp;try with_reducible rfl)
  try simp only[Act.put,List.setIfInBounds_toArray,List.set_cons_zero,List.set_cons_succ]
  refine wpAnyH_take (i:=16) (oi:=_) (v:=?ve16) rfl (by kernel_rfl) (by kernel_rfl) (by kernel_rfl) (fun _ _ _ h=>h) (Or.inl ⟨by rfl,?ye16⟩) (by assumption) ?re16
  case ye16=>(intro w hSw;(try dsimp only at hSw);go_simp;try with_reducible rfl)
  try simp only[Act.put,List.setIfInBounds_toArray,List.set_cons_zero,List.set_cons_succ]
  refine wpAnyH_take (i:=18) (oi:=_) (v:=?ve18) rfl (by kernel_rfl) (by kernel_rfl) (by kernel_rfl) (fun _ _ _ h=>h) (Or.inl ⟨by rfl,?ye18⟩) (by assumption) ?re18
  case ye18=>(intro w hSw;(try dsimp only at hSw);go_simp;try with_reducible rfl)
  try simp only[Act.put,List.setIfInBounds_toArray,List.set_cons_zero,List.set_cons_succ]
  refine wpAnyH_take (i:=19) (oi:=_) (v:=?ve19) rfl (by kernel_rfl) (by kernel_rfl) (by kernel_rfl) (fun _ _ _ h=>h) (Or.inl ⟨by rfl,?ye19⟩) (by assumption) ?re19
  case ye19=>(intro w hSw;(try dsimp only at hSw);go_simp;try with_reducible rfl)
  try simp only[Act.put,List.setIfInBounds_toArray,List.set_cons_zero,List.set_cons_succ]
  refine wpAnyH_take (i:=20) (oi:=_) (v:=?ve20) rfl (by kernel_rfl) (by kernel_rfl) (by kernel_rfl) (fun _ _ _ h=>h) (Or.inl ⟨by rfl,?ye20⟩) (by assumption) ?re20
  case ye20=>(intro w hSw;(try dsimp only at hSw);go_simp;try with_reducible rfl)
  try simp only[Act.put,List.setIfInBounds_toArray,List.set_cons_zero,List.set_cons_succ]
  refine wpAnyH_ready (rs:=[5]) (by kernel_rfl) (by simp) ?_
  refine AllReadyH.cons (o:=_) rfl (fun KK hKK=>?_) AllReadyH.nil
  go_simp
  (go_at_call 96;refine(withb_any wr.drew 32 d sec (some ⟨g,q,none⟩) n c).mono ?_;rintro e w5 ⟨w5b0,w5b1,w5b2,rfl,w5n0,w5n1,w5n2,w5h⟩;have W5N0:=hide w5n0;have W5N1:=hide w5n1;have W5N2:=hide w5n2;have W5H:=hide w5h;have w5S:Nst w1 w5:=wrS.out.trans (nst_below w5h);have w5z0:=cell_blk1 ((w5S _ _ _ _ HX1.out (by decide)).trans HX1.out);have w5z1:=(blk7 ((w5S _ _ _ _ HJ1.out (by decide)).trans HJ1.out)).2.1;have w5S:=hide w5S;clear w5n0 w5n1 w5n2 w5h)
  try go_wp2_with fail
  refine hKK.out _ _ (by(try dsimp only);go_keep) (fun hHeld=>?_)
  clear hKK KK
  try simp only[Act.put,List.setIfInBounds_toArray,List.set_cons_zero,List.set_cons_succ]
  refine wpAnyH_ready (rs:=[9]) (by kernel_rfl) (by simp) ?_
  refine AllReadyH.cons (o:=_) rfl (fun KK hKK=>?_) AllReadyH.nil
  go_simp
  (go_at_call 97;refine(on_any w5 98 d sec).mono ?_;rintro e w6 ⟨w6b0,w6b1,rfl,w6n0,w6n1,w6h⟩;have W6N0:=hide w6n0;have W6N1:=hide w6n1;have W6H:=hide w6h;have w6S:Nst w1 w6:=w5S.out.trans (nst_below w6h);have w6z0:=cell_blk1 ((w6S _ _ _ _ HX1.out (by decide)).trans HX1.out);have w6z1:=(blk7 ((w6S _ _ _ _ HJ1.out (by decide)).trans HJ1.out)).2.1;have w6S:=hide w6S;clear w6n0 w6n1 w6h)
  try go_wp2_with fail
  refine hKK.out _ _ (by(try dsimp only);go_keep) (fun hHeld=>?_)
  clear hKK KK
  try simp only[Act.put,List.setIfInBounds_toArray,List.set_cons_zero,List.set_cons_succ]
  refine wpAnyH_ready (rs:=[17]) (by kernel_rfl) (by simp) ?_
  refine AllReadyH.cons (o:=_) rfl (fun KK hKK=>?_) AllReadyH.nil
  go_simp
  (go_at_call 117;refine(withs_any w6 118 d sec nme).mono ?_;rintro e w7 ⟨w7b0,w7b1,w7b2,rfl,w7n0,w7n1,w7n2,w7h⟩;have W7N0:=hide w7n0;have W7N1:=hide w7n1;have W7N2:=hide w7n2;have W7H:=hide w7h;have w7S:Nst w1 w7:=w6S.out.trans (nst_below w7h);have w7z0:=cell_blk1 ((w7S _ _ _ _ HX1.out (by decide)).trans HX1.out);have w7z1:=(blk7 ((w7S _ _ _ _ HJ1.out (by decide)).trans HJ1.out)).2.1;have w7S:=hide w7S;clear w7n0 w7n1 w7n2 w7h)
  try go_wp2_with fail
  refine hKK.out _ _ (by(try dsimp only);go_keep) (fun hHeld=>?_)
  clear hKK KK
  try simp only[Act.put,List.setIfInBounds_toArray,List.set_cons_zero,List.set_cons_succ]
  refine wpAnyH_ready (rs:=[21]) (by kernel_rfl) (by simp) ?_
  refine AllReadyH.cons (o:=_) rfl (fun KK hKK=>?_) AllReadyH.nil
  go_simp
  (go_at_call 94;refine(noted_any w7 119 w.heap.size).mono ?_;rintro e w8 ⟨w8b0,rfl,w8n0,w8h⟩;have W8N0:=hide w8n0;have W8H:=hide w8h;have w8S:Nst w1 w8:=w7S.out.trans (nst_below w8h);have w8z0:=cell_blk1 ((w8S _ _ _ _ HX1.out (by decide)).trans HX1.out);have w8z1:=(blk7 ((w8S _ _ _ _ HJ1.out (by decide)).trans HJ1.out)).2.1;have w8S:=hide w8S;clear w8n0 w8h)
  try go_wp2_with fail
  refine hKK.out _ _ (by(try dsimp only);go_keep) (fun hHeld=>?_)
  clear hKK KK
  try simp only[Act.put,List.setIfInBounds_toArray,List.set_cons_zero,List.set_cons_succ]
  refine wpAnyH_ready (rs:=[22]) (by kernel_rfl) (by simp) ?_
  refine AllReadyH.cons (o:=_) rfl (fun KK hKK=>?_) AllReadyH.nil
  go_simp
  refine hKK.out _ _ (by(try dsimp only);go_keep) (fun hHeld=>?_)
  clear hKK KK
  try simp only[Act.put,List.setIfInBounds_toArray,List.set_cons_zero,List.set_cons_succ]
  refine wpAnyH_ready (rs:=[23]) (by kernel_rfl) (by simp) ?_
  refine AllReadyH.cons (o:={ dst:=some 55,op:=Op.call { callee:=Callee.builtin Builtin.append,args:=#[Operand.tmp 32,Operand.tmp 54],argTypes:=#[157,157] },type:=157,pos:=_,after:=_,guard:=none }) rfl (fun KK hKK=>?_) AllReadyH.nil
  (refine step_append_lies _ (by rfl) (.tmp 32) (.tmp 54) 157 (by rfl) w.heap.size 158 i0 .nilFunc 1 8 Tryz.underlying157 hi hz0 hz1 hz2 rfl (by omega) (.slice (some ⟨wrg,0,none⟩) (0+1) wrc) (0+1) ([]++[.func (.func 140) #[] #[.pointer (some ⟨w4b0,0,none⟩),.pointer (some ⟨w4b1,0,none⟩)]]) (by rfl) (((((HSx.out.below W5H.out).below W6H.out).below W7H.out).below W8H.out).own.alloc _) ⟨w8.heap.size,0,none⟩ 5 5 [.func (.func 139) #[] #[.pointer (some ⟨w5b0,0,none⟩),.pointer (some ⟨w5b1,0,none⟩),.pointer (some ⟨w5b2,0,none⟩)],.func (.func 140) #[] #[.pointer (some ⟨w6b0,0,none⟩),.pointer (some ⟨w6b1,0,none⟩)],.func (.func 157) #[] #[.pointer (some ⟨w7b0,0,none⟩),.pointer (some ⟨w7b1,0,none⟩),.pointer (some ⟨w7b2,0,none⟩)],.func (.func 99) #[.pointer (some ⟨d,0,none⟩)] #[],.func (.func 138) #[] #[.pointer (some ⟨w8b0,0,none⟩)]] (by rfl) rfl (World.news_of_block (heap_alloc_new w8 (.cells #[.func (.func 139) #[] #[.pointer (some ⟨w5b0,0,none⟩),.pointer (some ⟨w5b1,0,none⟩),.pointer (some ⟨w5b2,0,none⟩)],.func (.func 140) #[] #[.pointer (some ⟨w6b0,0,none⟩),.pointer (some ⟨w6b1,0,none⟩)],.func (.func 157) #[] #[.pointer (some ⟨w7b0,0,none⟩),.pointer (some ⟨w7b1,0,none⟩),.pointer (some ⟨w7b2,0,none⟩)],.func (.func 99) #[.pointer (some ⟨d,0,none⟩)] #[],.func (.func 138) #[] #[.pointer (some ⟨w8b0,0,none⟩)]] 158))) (by simp[Value.oneCell']) (by omega) (by unfold maxLen;omega) (by omega) (by simp;exact hsz8 W5H.out.size W6H.out.size W7H.out.size W8H.out.size) _ rfl ?_;intro w9g w9c w9 w9o w9h w9a w9t;have W9O:=hide w9o;have W9H:=hide w9h;have w9S:Nst w1 w9:=w8S.out.trans ((nst_below ((Below.refl _ _).alloc (Nat.le_refl _) _)).trans (nst_grown w9h (((((HSx.out.below W5H.out).below W6H.out).below W7H.out).below W8H.out).own.alloc _)));have w9z0:=cell_blk1 ((w9S _ _ _ _ HX1.out (by decide)).trans HX1.out);have w9z1:=(blk7 ((w9S _ _ _ _ HJ1.out (by decide)).trans HJ1.out)).2.1;have w9S:=hide w9S;clear w9o w9h w9a w9t)
  refine hKK.out _ _ (by(try dsimp only);go_keep) (fun hHeld=>?_)
  clear hKK KK
  try simp only[Act.put,List.setIfInBounds_toArray,List.set_cons_zero,List.set_cons_succ]
  refine wpAnyH_take (i:=24) (oi:={ dst:=some 4,op:=Op.assign (Operand.tmp 55),type:=157,pos:=_,after:=_,guard:=none }) (v:=?ve24) rfl (by kernel_rfl) (by kernel_rfl) (by kernel_rfl) (fun _ _ _ h=>h) (Or.inl ⟨by rfl,?ye24⟩) (by assumption) ?re24
  case ye24=>(intro w hSw;(try dsimp only at hSw);go_simp;try with_reducible rfl)
  try simp only[Act.put,List.setIfInBounds_toArray,List.set_cons_zero,List.set_cons_succ]
  refine wpAnyH_done (by kernel_rfl) ?_ _
  have s5:=W5H.out.size
  have s6:=W6H.out.size
  have s7:=W7H.out.size
  have s8:=W8H.out.size
  have s9:=W9H.out.size
  rw[World.size_alloc]at s9
  have sx:=HBx.out.size
  have n89:Nst w8 w9:=(nst_below ((Below.refl _ _).alloc (Nat.le_refl _) _)).trans (nst_grown W9H.out (((((HSx.out.below W5H.out).below W6H.out).below W7H.out).below W8H.out).own.alloc _))
  have n79:Nst w7 w9:=(nst_below W8H.out).trans n89
  have n69:Nst w6 w9:=(nst_below W7H.out).trans n79
  have n59:Nst w5 w9:=(nst_below W6H.out).trans n69
  have nx9:Nst wr.drew w9:=(nst_below W5H.out).trans n59
  have b5:=HBx.out.trans (W5H.out.mono sx)
  have b6:=b5.trans (W6H.out.mono b5.size)
  have b7:=b6.trans (W7H.out.mono b6.size)
  have b8:=b7.trans (W8H.out.mono b7.size)
  have HB9:Hid (Below w.heap.size w w9):=(b8.alloc b8.size _).grown W9H.out (by simp;exact Nat.le_succ_of_le b8.size) (fun g2 e2=>owns_ge (HSx.out.own) e2)
  have x0:=(W5N0.out.box (K:=K) (w0:=w) sx o).same n59 (by decide)
  have x1:=(W5N1.out.box (K:=K) (w0:=w) sx o).same n59 (by decide)
  have x2:=(W5N2.out.box (K:=K) (w0:=w) sx o).same n59 (by decide)
  have x3:=(W6N0.out.box (K:=K) (w0:=w) b5.size o).same n69 (by decide)
  have x4:=(W6N1.out.box (K:=K) (w0:=w) b5.size o).same n69 (by decide)
  have x5:=(W7N0.out.box (K:=K) (w0:=w) b6.size o).same n79 (by decide)
  have x6:=(W7N1.out.box (K:=K) (w0:=w) b6.size o).same n79 (by decide)
  have x7:=(W7N2.out.box (K:=K) (w0:=w) b6.size o).same n79 (by decide)
  have x8:=(W8N0.out.box (K:=K) (w0:=w) b7.size o).same n89 (by decide)
  have x9:Box w9 (ext K w.heap.size (o,4)) o w.heap.size (.pointer (some ⟨jb,0,none⟩)) 43:=⟨(w9S.out _ _ _ _ HX1.out (by decide)).trans HX1.out,ext_new K _ (Nat.le_refl _)⟩
  rw[←HSe.out]at x1 x4 x6
  rw[←HNe.out]at x7
  rw[←HR.out]at x2
  have hgw:w9.heap[g]?=w.heap[g]?:=HB9.out.block g (lt_of_block HD.out)
  have hnl2:J.name.length≤64:=Nat.le_trans HNl.out (by omega)
  have HS9:Hid (Srow w.heap.size w9 (ext K w.heap.size (o,4)) o d jb (some ⟨w9g,0,none⟩) ((0+1)+5) w9c (([]++[.rem J.second])++[.app J.second r,.sync J.second,.ren J.second J.name,.names,.drop]) (([]++[.func (.func 140) #[] #[.pointer (some ⟨w4b0,0,none⟩),.pointer (some ⟨w4b1,0,none⟩)]])++[.func (.func 139) #[] #[.pointer (some ⟨w5b0,0,none⟩),.pointer (some ⟨w5b1,0,none⟩),.pointer (some ⟨w5b2,0,none⟩)],.func (.func 140) #[] #[.pointer (some ⟨w6b0,0,none⟩),.pointer (some ⟨w6b1,0,none⟩)],.func (.func 157) #[] #[.pointer (some ⟨w7b0,0,none⟩),.pointer (some ⟨w7b1,0,none⟩),.pointer (some ⟨w7b2,0,none⟩)],.func (.func 99) #[.pointer (some ⟨d,0,none⟩)] #[],.func (.func 138) #[] #[.pointer (some ⟨w8b0,0,none⟩)]])):=HSx.out.more nx9 (by omega) rfl W9O.out (fun i s hs=>by
   rcases five_some hs with ⟨rfl,rfl⟩ | ⟨rfl,rfl⟩ | ⟨rfl,rfl⟩ | ⟨rfl,rfl⟩ | ⟨rfl,rfl⟩
   ·exact⟨_,rfl,w5b0,w5b1,w5b2,g,q,c,rfl,x0,x1,x2,HNm.out,HKg.out,⟨D,fr,hgw.trans HD.out⟩,bytes_kept HBy.out HB9.out.size (fun g' o' e hg=>by cases e;exact hgw),by rw[HR.out];exact hrl⟩
   ·exact⟨_,rfl,w6b0,w6b1,rfl,x3,x4,HNm.out⟩
   ·exact⟨_,rfl,w7b0,w7b1,w7b2,rfl,x5,x6,x7,HNm.out,hnl2⟩
   ·exact⟨_,rfl,rfl⟩
   ·exact⟨_,rfl,w8b0,w.heap.size,rfl,x8,x9⟩)
  clear s5 s6 s7 s8 s9 n89 n79 n69 n59 nx9 b5 b6 b7 b8 x0 x1 x2 x3 x4 x5 x6 x7 x8 x9 hgw hnl2 W5N0 W5N1 W5N2 W6N0 W6N1 W7N0 W7N1 W7N2 W8N0 W5H W6H W7H W8H W9H W9O HBx HSx
  have HE:Hid (ss=([]++[.rem J.second])++[.app J.second r,.sync J.second,.ren J.second J.name,.names,.drop]):=by show _=_;rw[HRs.out];simp[HEr.out]
  go_wp2
  go_ret
  rw[HE.out]
  exact⟨_,_,_,_,rfl,HS9.out,HB9.out⟩
 ·have HEr:=hide he
  obtain⟨er,her⟩:∃er,S.err J.second=er:=⟨_,rfl⟩
  rw[her]at HSi
  have he2:¬((er:Nat):Int)=0:=by omega
  clear her
  clear he
  go_enter Tryz.func62,Tryz.ntmps62
  go_wp2
  generalize hw1:w.alloc (.cells #[.pointer (some ⟨jb,0,none⟩)] 43)=w1 at *
  clear hw1
  have w1S:Hid (Nst w1 w1.drew):=fun _ _ _ _ _ _=>rfl
  have w1B:=HB1.out.size
  refine wp_region_held_drew (S:=fun w'=>w'.cell? ⟨w.heap.size,0,none⟩=some (.pointer (some ⟨jb,0,none⟩))∧w'.cell? ⟨jb,1,none⟩=some (.string nme)) (by kernel_rfl) (by go_keep) (fun hHeld=>?_)
  refine wpAnyH_take (i:=0) (oi:=_) (v:=?vf0) rfl (by kernel_rfl) (by kernel_rfl) (by kernel_rfl) (fun _ _ _ h=>h) (Or.inl ⟨by rfl,?yf0⟩) (by assumption) ?rf0
  case yf0=>(intro w hSw;(try dsimp only at hSw);go_simp;try with_reducible rfl)
  try simp only[Act.put,List.setIfInBounds_toArray,List.set_cons_zero,List.set_cons_succ]
  refine wpAnyH_take (i:=2) (oi:=_) (v:=?vf2) rfl (by kernel_rfl) (by kernel_rfl) (by kernel_rfl) (fun _ _ _ h=>h) (Or.inl ⟨by rfl,?yf2⟩) (by assumption) ?rf2
  case yf2=>(intro w hSw;(try dsimp only at hSw);go_simp;try with_reducible rfl)
  try simp only[Act.put,List.setIfInBounds_toArray,List.set_cons_zero,List.set_cons_succ]
  refine wpAnyH_take (i:=3) (oi:=_) (v:=?vf3) rfl (by kernel_rfl) (by kernel_rfl) (by kernel_rfl) (fun _ _ _ h=>h) (Or.inl ⟨by rfl,?yf3⟩) (by assumption) ?rf3
  case yf3=>(intro w hSw;(try dsimp only at hSw);go_simp;try with_reducible rfl)
  try simp only[Act.put,List.setIfInBounds_toArray,List.set_cons_zero,List.set_cons_succ]
  refine wpAnyH_take (i:=4) (oi:=_) (v:=?vf4) rfl (by kernel_rfl) (by kernel_rfl) (by kernel_rfl) (fun _ _ _ h=>h) (Or.inl ⟨by rfl,?yf4⟩) (by assumption) ?rf4
  case yf4=>(intro w hSw;(try dsimp only at hSw);go_simp;try with_reducible rfl)
  try simp only[Act.put,List.setIfInBounds_toArray,List.set_cons_zero,List.set_cons_succ]
  refine wpAnyH_take (i:=5) (oi:=_) (v:=?vf5) rfl (by kernel_rfl) (by kernel_rfl) (by kernel_rfl) (fun _ _ _ h=>h) (Or.inl ⟨by rfl,?yf5⟩) (by assumption) ?rf5
  case yf5=>(intro w hSw;(try dsimp only at hSw);go_simp;try with_reducible rfl)
  try simp only[Act.put,List.setIfInBounds_toArray,List.set_cons_zero,List.set_cons_succ]
  refine wpAnyH_take (i:=6) (oi:=_) (v:=?vf6) rfl (by kernel_rfl) (by kernel_rfl) (by kernel_rfl) (fun _ _ _ h=>h) (Or.inl ⟨by rfl,?yf6⟩) (by assumption) ?rf6
  case yf6=>(intro w hSw;(try dsimp only at hSw);go_simp;try with_reducible rfl)
  try simp only[Act.put,List.setIfInBounds_toArray,List.set_cons_zero,List.set_cons_succ]
  refine wpAnyH_ready (rs:=[1]) (by kernel_rfl) (by simp) ?_
  refine AllReadyH.cons (o:=_) rfl (fun KK hKK=>?_) AllReadyH.nil
  go_simp
  (go_at_call 38;refine HFi.out.mono ?_;rintro e wg ⟨rfl,hwg⟩;subst hwg)
  try go_wp2_with fail
  refine hKK.out _ _ (by(try dsimp only);go_keep) (fun hHeld=>?_)
  clear hKK KK
  try simp only[Act.put,List.setIfInBounds_toArray,List.set_cons_zero,List.set_cons_succ]
  refine wpAnyH_take (i:=7) (oi:={ dst:=some 6,op:=Op.assign (Operand.tmp 11),type:=39,pos:=_,after:=_,guard:=none }) (v:=?vf7) rfl (by kernel_rfl) (by kernel_rfl) (by kernel_rfl) (fun _ _ _ h=>h) (Or.inl ⟨by rfl,?yf7⟩) (by assumption) ?rf7
  case yf7=>(intro w hSw;(try dsimp only at hSw);go_simp;try with_reducible rfl)
  try simp only[Act.put,List.setIfInBounds_toArray,List.set_cons_zero,List.set_cons_succ]
  refine wpAnyH_take (i:=8) (oi:={ dst:=some 7,op:=Op.assign (Operand.tmp 16),type:=9,pos:=_,after:=_,guard:=none }) (v:=?vf8) rfl (by kernel_rfl) (by kernel_rfl) (by kernel_rfl) (fun _ _ _ h=>h) (Or.inl ⟨by rfl,?yf8⟩) (by assumption) ?rf8
  case yf8=>(intro w hSw;(try dsimp only at hSw);go_simp;try with_reducible rfl)
  try simp only[Act.put,List.setIfInBounds_toArray,List.set_cons_zero,List.set_cons_succ]
  refine wpAnyH_done (by kernel_rfl) ?_ _
  go_wp2_with fail
  refine HSi.out.mono ?_
  rintro e w2 ⟨rfl,hw2⟩
  subst hw2
  have HBx:Hid (Below w.heap.size w w1.drew.drew):=HB1.out.drew.drew
  have w1z0':w1.drew.cell? ⟨w.heap.size,0,none⟩=some (.pointer (some ⟨jb,0,none⟩)):=w1z0
  have w1z1':w1.drew.cell? ⟨jb,1,none⟩=some (.string nme):=w1z1
  have HSx:Hid (Srow w.heap.size w1.drew.drew (ext K w.heap.size (o,4)) o d jb none 0 0 [] []):=srow_nil _ _ _ _ _ _
  have hsz8:∀{a b c d:Nat},w1.drew.drew.heap.size≤a→a≤b→b≤c→c≤d→w.heap.size≤d+1:=fun {a b c d} h1 h2 h3 h4=>by have:w1.heap.size≤a:=h1;omega
  have wqS:Hid (Nst w1 w1.drew.drew):=fun _ _ _ _ _ _=>rfl
  generalize hwq:w1.drew=wq at *
  clear hwq
  go_wp2
  refine wp_region_held_drew (S:=fun w'=>w'.cell? ⟨w.heap.size,0,none⟩=some (.pointer (some ⟨jb,0,none⟩))∧w'.cell? ⟨jb,1,none⟩=some (.string nme)) (by kernel_rfl) (by go_keep) (fun hHeld=>?_)
  refine wpAnyH_take (i:=0) (oi:=_) (v:=?vg0) rfl (by kernel_rfl) (by kernel_rfl) (by kernel_rfl) (fun _ _ _ h=>h) (Or.inl ⟨by rfl,?yg0⟩) (by assumption) ?rg0
  case yg0=>(intro w hSw;(try dsimp only at hSw);go_simp;try with_reducible rfl)
  try simp only[Act.put,List.setIfInBounds_toArray,List.set_cons_zero,List.set_cons_succ]
  refine wpAnyH_take (i:=1) (oi:=_) (v:=?vg1) rfl (by kernel_rfl) (by kernel_rfl) (by kernel_rfl) (fun _ _ _ h=>h) (Or.inl ⟨by rfl,?yg1⟩) (by assumption) ?rg1
  case yg1=>(intro w hSw;(try dsimp only at hSw);go_simp;try with_reducible rfl)
  try simp only[Act.put,List.setIfInBounds_toArray,List.set_cons_zero,List.set_cons_succ]
  refine wpAnyH_take (i:=2) (oi:=_) (v:=?vg2) rfl (by kernel_rfl) (by kernel_rfl) (by kernel_rfl) (fun _ _ _ h=>h) (Or.inl ⟨by rfl,?yg2⟩) (by assumption) ?rg2
  case yg2=>(intro w hSw;(try dsimp only at hSw);go_simp;try with_reducible rfl)
  try simp only[Act.put,List.setIfInBounds_toArray,List.set_cons_zero,List.set_cons_succ]
  refine wpAnyH_take (i:=3) (oi:=_) (v:=?vg3) rfl (by kernel_rfl) (by kernel_rfl) (by kernel_rfl) (fun _ _ _ h=>h) (Or.inl ⟨by rfl,?yg3⟩) (by assumption) ?rg3
  case yg3=>(intro w hSw;(try dsimp only at hSw);go_simp;try with_reducible rfl)
  try simp only[Act.put,List.setIfInBounds_toArray,List.set_cons_zero,List.set_cons_succ]
  refine wpAnyH_take (i:=4) (oi:=_) (v:=?vg4) rfl (by kernel_rfl) (by kernel_rfl) (by kernel_rfl) (fun _ _ _ h=>h) (Or.inl ⟨by rfl,?yg4⟩) (by assumption) ?rg4
  case yg4=>(intro w hSw;(try dsimp only at hSw);go_simp;try with_reducible rfl)
  try simp only[Act.put,List.setIfInBounds_toArray,List.set_cons_zero,List.set_cons_succ]
  refine wpAnyH_take (i:=6) (oi:=_) (v:=?vg6) rfl (by kernel_rfl) (by kernel_rfl) (by kernel_rfl) (fun _ _ _ h=>h) (Or.inl ⟨by rfl,?yg6⟩) (by assumption) ?rg6
  case yg6=>(intro w hSw;(try dsimp only at hSw);go_simp;try with_reducible rfl)
  try simp only[Act.put,List.setIfInBounds_toArray,List.set_cons_zero,List.set_cons_succ]
  refine wpAnyH_take (i:=7) (oi:=_) (v:=?vg7) rfl (by kernel_rfl) (by kernel_rfl) (by kernel_rfl) (fun _ _ _ h=>h) (Or.inl ⟨by rfl,?yg7⟩) (by assumption) ?rg7
  case yg7=>(intro w hSw;(try dsimp only at hSw);go_simp;try with_reducible rfl)
  try simp only[Act.put,List.setIfInBounds_toArray,List.set_cons_zero,List.set_cons_succ]
  refine wpAnyH_take (i:=8) (oi:=_) (v:=?vg8) rfl (by kernel_rfl) (by kernel_rfl) (by kernel_rfl) (fun _ _ _ h=>h) (Or.inl ⟨by rfl,?yg8⟩) (by assumption) ?rg8
  case yg8=>(intro w hSw;(try dsimp only at hSw);go_simp;try with_reducible rfl)
  try simp only[Act.put,List.setIfInBounds_toArray,List.set_cons_zero,List.set_cons_succ]
  refine wpAnyH_take (i:=10) (oi:=_) (v:=?vg10) rfl (by kernel_rfl) (by kernel_rfl) (by kernel_rfl) (fun _ _ _ h=>h) (Or.inl ⟨by rfl,?yg10⟩) (by assumption) ?rg10
  case yg10=>(intro w hSw;(try dsimp only at hSw);go_simp;try with_reducible rfl)
  try simp only[Act.put,List.setIfInBounds_toArray,List.set_cons_zero,List.set_cons_succ]
  refine wpAnyH_take (i:=11) (oi:=_) (v:=?vg11) rfl (by kernel_rfl) (by kernel_rfl) (by kernel_rfl) (fun _ _ _ h=>h) (Or.inl ⟨by rfl,?yg11⟩) (by assumption) ?rg11
  case yg11=>(intro w hSw;(try dsimp only at hSw);go_simp;try with_reducible rfl)
  try simp only[Act.put,List.setIfInBounds_toArray,List.set_cons_zero,List.set_cons_succ]
  refine wpAnyH_take (i:=12) (oi:=_) (v:=?vg12) rfl (by kernel_rfl) (by kernel_rfl) (by kernel_rfl) (fun _ _ _ h=>h) (Or.inl ⟨by rfl,?yg12⟩) (by assumption) ?rg12
  case yg12=>(intro w hSw;(try dsimp only at hSw);go_simp;try with_reducible rfl)
  try simp only[Act.put,List.setIfInBounds_toArray,List.set_cons_zero,List.set_cons_succ]
  refine wpAnyH_take (i:=13) (oi:=_) (v:=?vg13) rfl (by kernel_rfl) (by kernel_rfl) (by kernel_rfl) (fun _ _ _ h=>h) (Or.inl ⟨by rfl,?yg13⟩) (by assumption) ?rg13
  case yg13=>(intro w hSw;(try dsimp only at hSw);go_simp;try with_reducible rfl)
  try simp only[Act.put,List.setIfInBounds_toArray,List.set_cons_zero,List.set_cons_succ]
  refine wpAnyH_take (i:=14) (oi:=_) (v:=?vg14) rfl (by kernel_rfl) (by kernel_rfl) (by kernel_rfl) (fun _ _ _ h=>h) (Or.inl ⟨by rfl,?yg14⟩) (by assumption) ?rg14
  case yg14=>(intro w hSw;(try dsimp only at hSw);go_simp;try with_reducible rfl)
  try simp only[Act.put,List.setIfInBounds_toArray,List.set_cons_zero,List.set_cons_succ]
  refine wpAnyH_take (i:=15) (oi:=_) (v:=?vg15) rfl (by kernel_rfl) (by kernel_rfl) (by kernel_rfl) (fun _ _ _ h=>h) (Or.inl ⟨by rfl,?yg15⟩) (by assumption) ?rg15
  case yg15=>(intro w hSw;(try dsimp only at hSw);go_simp;try with_reducible rfl)
  try simp only[Act.put,List.setIfInBounds_toArray,List.set_cons_zero,List.set_cons_succ]
  refine wpAnyH_take (i:=16) (oi:=_) (v:=?vg16) rfl (by kernel_rfl) (by kernel_rfl) (by kernel_rfl) (fun _ _ _ h=>h) (Or.inl ⟨by rfl,?yg16⟩) (by assumption) ?rg16
  case yg16=>(intro w hSw;(try dsimp only at hSw);go_simp;try with_reducible rfl)
  try simp only[Act.put,List.setIfInBounds_toArray,List.set_cons_zero,List.set_cons_succ]
  refine wpAnyH_take (i:=18) (oi:=_) (v:=?vg18) rfl (by kernel_rfl) (by kernel_rfl) (by kernel_rfl) (fun _ _ _ h=>h) (Or.inl ⟨by rfl,?yg18⟩) (by assumption) ?rg18
  case yg18=>(intro w hSw;(try dsimp only at hSw);go_simp;try with_reducible rfl)
  try simp only[Act.put,List.setIfInBounds_toArray,List.set_cons_zero,List.set_cons_succ]
  refine wpAnyH_take (i:=19) (oi:=_) (v:=?vg19) rfl (by kernel_rfl) (by kernel_rfl) (by kernel_rfl) (fun _ _ _ h=>h) (Or.inl ⟨by rfl,?yg19⟩) (by assumption) ?rg19
  case yg19=>(intro w hSw;(try dsimp only at hSw);go_simp;try with_reducible rfl)
  try simp only[Act.put,List.setIfInBounds_toArray,List.set_cons_zero,List.set_cons_succ]
  refine wpAnyH_take (i:=20) (oi:=_) (v:=?vg20) rfl (by kernel_rfl) (by kernel_rfl) (by kernel_rfl) (fun _ _ _ h=>h) (Or.inl ⟨by rfl,?yg20⟩) (by assumption) ?rg20
  case yg20=>(intro w hSw;(try dsimp only at hSw);go_simp;try with_reducible rfl)
  try simp only[Act.put,List.setIfInBounds_toArray,List.set_cons_zero,List.set_cons_succ]
  refine wpAnyH_ready (rs:=[5]) (by kernel_rfl) (by simp) ?_
  refine AllReadyH.cons (o:=_) rfl (fun KK hKK=>?_) AllReadyH.nil
  go_simp
  (go_at_call 96;refine(withb_any wq.drew 32 d sec (some ⟨g,q,none⟩) n c).mono ?_;rintro e w5 ⟨w5b0,w5b1,w5b2,rfl,w5n0,w5n1,w5n2,w5h⟩;have W5N0:=hide w5n0;have W5N1:=hide w5n1;have W5N2:=hide w5n2;have W5H:=hide w5h;have w5S:Nst w1 w5:=wqS.out.trans (nst_below w5h);have w5z0:=cell_blk1 ((w5S _ _ _ _ HX1.out (by decide)).trans HX1.out);have w5z1:=(blk7 ((w5S _ _ _ _ HJ1.out (by decide)).trans HJ1.out)).2.1;have w5S:=hide w5S;clear w5n0 w5n1 w5n2 w5h)
  try go_wp2_with fail
  refine hKK.out _ _ (by(try dsimp only);go_keep) (fun hHeld=>?_)
  clear hKK KK
  try simp only[Act.put,List.setIfInBounds_toArray,List.set_cons_zero,List.set_cons_succ]
  refine wpAnyH_ready (rs:=[9]) (by kernel_rfl) (by simp) ?_
  refine AllReadyH.cons (o:=_) rfl (fun KK hKK=>?_) AllReadyH.nil
  go_simp
  (go_at_call 97;refine(on_any w5 98 d sec).mono ?_;rintro e w6 ⟨w6b0,w6b1,rfl,w6n0,w6n1,w6h⟩;have W6N0:=hide w6n0;have W6N1:=hide w6n1;have W6H:=hide w6h;have w6S:Nst w1 w6:=w5S.out.trans (nst_below w6h);have w6z0:=cell_blk1 ((w6S _ _ _ _ HX1.out (by decide)).trans HX1.out);have w6z1:=(blk7 ((w6S _ _ _ _ HJ1.out (by decide)).trans HJ1.out)).2.1;have w6S:=hide w6S;clear w6n0 w6n1 w6h)
  try go_wp2_with fail
  refine hKK.out _ _ (by(try dsimp only);go_keep) (fun hHeld=>?_)
  clear hKK KK
  try simp only[Act.put,List.setIfInBounds_toArray,List.set_cons_zero,List.set_cons_succ]
  refine wpAnyH_ready (rs:=[17]) (by kernel_rfl) (by simp) ?_
  refine AllReadyH.cons (o:=_) rfl (fun KK hKK=>?_) AllReadyH.nil
  go_simp
  (go_at_call 117;refine(withs_any w6 118 d sec nme).mono ?_;rintro e w7 ⟨w7b0,w7b1,w7b2,rfl,w7n0,w7n1,w7n2,w7h⟩;have W7N0:=hide w7n0;have W7N1:=hide w7n1;have W7N2:=hide w7n2;have W7H:=hide w7h;have w7S:Nst w1 w7:=w6S.out.trans (nst_below w7h);have w7z0:=cell_blk1 ((w7S _ _ _ _ HX1.out (by decide)).trans HX1.out);have w7z1:=(blk7 ((w7S _ _ _ _ HJ1.out (by decide)).trans HJ1.out)).2.1;have w7S:=hide w7S;clear w7n0 w7n1 w7n2 w7h)
  try go_wp2_with fail
  refine hKK.out _ _ (by(try dsimp only);go_keep) (fun hHeld=>?_)
  clear hKK KK
  try simp only[Act.put,List.setIfInBounds_toArray,List.set_cons_zero,List.set_cons_succ]
  refine wpAnyH_ready (rs:=[21]) (by kernel_rfl) (by simp) ?_
  refine AllReadyH.cons (o:=_) rfl (fun KK hKK=>?_) AllReadyH.nil
  go_simp
  (go_at_call 94;refine(noted_any w7 119 w.heap.size).mono ?_;rintro e w8 ⟨w8b0,rfl,w8n0,w8h⟩;have W8N0:=hide w8n0;have W8H:=hide w8h;have w8S:Nst w1 w8:=w7S.out.trans (nst_below w8h);have w8z0:=cell_blk1 ((w8S _ _ _ _ HX1.out (by decide)).trans HX1.out);have w8z1:=(blk7 ((w8S _ _ _ _ HJ1.out (by decide)).trans HJ1.out)).2.1;have w8S:=hide w8S;clear w8n0 w8h)
  try go_wp2_with fail
  refine hKK.out _ _ (by(try dsimp only);go_keep) (fun hHeld=>?_)
  clear hKK KK
  try simp only[Act.put,List.setIfInBounds_toArray,List.set_cons_zero,List.set_cons_succ]
  refine wpAnyH_ready (rs:=[22]) (by kernel_rfl) (by simp) ?_
  refine AllReadyH.cons (o:=_) rfl (fun KK hKK=>?_) AllReadyH.nil
  go_simp
  refine hKK.out _ _ (by(try dsimp only);go_keep) (fun hHeld=>?_)
  clear hKK KK
  try simp only[Act.put,List.setIfInBounds_toArray,List.set_cons_zero,List.set_cons_succ]
  refine wpAnyH_ready (rs:=[23]) (by kernel_rfl) (by simp) ?_
  refine AllReadyH.cons (o:={ dst:=some 55,op:=Op.call { callee:=Callee.builtin Builtin.append,args:=#[Operand.tmp 32,Operand.tmp 54],argTypes:=#[157,157] },type:=157,pos:=_,after:=_,guard:=none }) rfl (fun KK hKK=>?_) AllReadyH.nil
  (refine step_append_lies _ (by rfl) (.tmp 32) (.tmp 54) 157 (by rfl) w.heap.size 158 i0 .nilFunc 1 8 Tryz.underlying157 hi hz0 hz1 hz2 rfl (by omega) (.slice none 0 0) 0 [] (by rfl) (((((HSx.out.below W5H.out).below W6H.out).below W7H.out).below W8H.out).own.alloc _) ⟨w8.heap.size,0,none⟩ 5 5 [.func (.func 139) #[] #[.pointer (some ⟨w5b0,0,none⟩),.pointer (some ⟨w5b1,0,none⟩),.pointer (some ⟨w5b2,0,none⟩)],.func (.func 140) #[] #[.pointer (some ⟨w6b0,0,none⟩),.pointer (some ⟨w6b1,0,none⟩)],.func (.func 157) #[] #[.pointer (some ⟨w7b0,0,none⟩),.pointer (some ⟨w7b1,0,none⟩),.pointer (some ⟨w7b2,0,none⟩)],.func (.func 99) #[.pointer (some ⟨d,0,none⟩)] #[],.func (.func 138) #[] #[.pointer (some ⟨w8b0,0,none⟩)]] (by rfl) rfl (World.news_of_block (heap_alloc_new w8 (.cells #[.func (.func 139) #[] #[.pointer (some ⟨w5b0,0,none⟩),.pointer (some ⟨w5b1,0,none⟩),.pointer (some ⟨w5b2,0,none⟩)],.func (.func 140) #[] #[.pointer (some ⟨w6b0,0,none⟩),.pointer (some ⟨w6b1,0,none⟩)],.func (.func 157) #[] #[.pointer (some ⟨w7b0,0,none⟩),.pointer (some ⟨w7b1,0,none⟩),.pointer (some ⟨w7b2,0,none⟩)],.func (.func 99) #[.pointer (some ⟨d,0,none⟩)] #[],.func (.func 138) #[] #[.pointer (some ⟨w8b0,0,none⟩)]] 158))) (by simp[Value.oneCell']) (by omega) (by unfold maxLen;omega) (by omega) (by simp;exact hsz8 W5H.out.size W6H.out.size W7H.out.size W8H.out.size) _ rfl ?_;intro w9g w9c w9 w9o w9h w9a w9t;have W9O:=hide w9o;have W9H:=hide w9h;have w9S:Nst w1 w9:=w8S.out.trans ((nst_below ((Below.refl _ _).alloc (Nat.le_refl _) _)).trans (nst_grown w9h (((((HSx.out.below W5H.out).below W6H.out).below W7H.out).below W8H.out).own.alloc _)));have w9z0:=cell_blk1 ((w9S _ _ _ _ HX1.out (by decide)).trans HX1.out);have w9z1:=(blk7 ((w9S _ _ _ _ HJ1.out (by decide)).trans HJ1.out)).2.1;have w9S:=hide w9S;clear w9o w9h w9a w9t)
  refine hKK.out _ _ (by(try dsimp only);go_keep) (fun hHeld=>?_)
  clear hKK KK
  try simp only[Act.put,List.setIfInBounds_toArray,List.set_cons_zero,List.set_cons_succ]
  refine wpAnyH_take (i:=24) (oi:={ dst:=some 4,op:=Op.assign (Operand.tmp 55),type:=157,pos:=_,after:=_,guard:=none }) (v:=?vg24) rfl (by kernel_rfl) (by kernel_rfl) (by kernel_rfl) (fun _ _ _ h=>h) (Or.inl ⟨by rfl,?yg24⟩) (by assumption) ?rg24
  case yg24=>(intro w hSw;(try dsimp only at hSw);go_simp;try with_reducible rfl)
  try simp only[Act.put,List.setIfInBounds_toArray,List.set_cons_zero,List.set_cons_succ]
  refine wpAnyH_done (by kernel_rfl) ?_ _
  have s5:=W5H.out.size
  have s6:=W6H.out.size
  have s7:=W7H.out.size
  have s8:=W8H.out.size
  have s9:=W9H.out.size
  rw[World.size_alloc]at s9
  have sx:=HBx.out.size
  have n89:Nst w8 w9:=(nst_below ((Below.refl _ _).alloc (Nat.le_refl _) _)).trans (nst_grown W9H.out (((((HSx.out.below W5H.out).below W6H.out).below W7H.out).below W8H.out).own.alloc _))
  have n79:Nst w7 w9:=(nst_below W8H.out).trans n89
  have n69:Nst w6 w9:=(nst_below W7H.out).trans n79
  have n59:Nst w5 w9:=(nst_below W6H.out).trans n69
  have nx9:Nst wq.drew w9:=(nst_below W5H.out).trans n59
  have b5:=HBx.out.trans (W5H.out.mono sx)
  have b6:=b5.trans (W6H.out.mono b5.size)
  have b7:=b6.trans (W7H.out.mono b6.size)
  have b8:=b7.trans (W8H.out.mono b7.size)
  have HB9:Hid (Below w.heap.size w w9):=(b8.alloc b8.size _).grown W9H.out (by simp;exact Nat.le_succ_of_le b8.size) (fun g2 e2=>owns_ge (HSx.out.own) e2)
  have x0:=(W5N0.out.box (K:=K) (w0:=w) sx o).same n59 (by decide)
  have x1:=(W5N1.out.box (K:=K) (w0:=w) sx o).same n59 (by decide)
  have x2:=(W5N2.out.box (K:=K) (w0:=w) sx o).same n59 (by decide)
  have x3:=(W6N0.out.box (K:=K) (w0:=w) b5.size o).same n69 (by decide)
  have x4:=(W6N1.out.box (K:=K) (w0:=w) b5.size o).same n69 (by decide)
  have x5:=(W7N0.out.box (K:=K) (w0:=w) b6.size o).same n79 (by decide)
  have x6:=(W7N1.out.box (K:=K) (w0:=w) b6.size o).same n79 (by decide)
  have x7:=(W7N2.out.box (K:=K) (w0:=w) b6.size o).same n79 (by decide)
  have x8:=(W8N0.out.box (K:=K) (w0:=w) b7.size o).same n89 (by decide)
  have x9:Box w9 (ext K w.heap.size (o,4)) o w.heap.size (.pointer (some ⟨jb,0,none⟩)) 43:=⟨(w9S.out _ _ _ _ HX1.out (by decide)).trans HX1.out,ext_new K _ (Nat.le_refl _)⟩
  rw[←HSe.out]at x1 x4 x6
  rw[←HNe.out]at x7
  rw[←HR.out]at x2
  have hgw:w9.heap[g]?=w.heap[g]?:=HB9.out.block g (lt_of_block HD.out)
  have hnl2:J.name.length≤64:=Nat.le_trans HNl.out (by omega)
  have HS9:Hid (Srow w.heap.size w9 (ext K w.heap.size (o,4)) o d jb (some ⟨w9g,0,none⟩) (0+5) w9c ([]++[.app J.second r,.sync J.second,.ren J.second J.name,.names,.drop]) ([]++[.func (.func 139) #[] #[.pointer (some ⟨w5b0,0,none⟩),.pointer (some ⟨w5b1,0,none⟩),.pointer (some ⟨w5b2,0,none⟩)],.func (.func 140) #[] #[.pointer (some ⟨w6b0,0,none⟩),.pointer (some ⟨w6b1,0,none⟩)],.func (.func 157) #[] #[.pointer (some ⟨w7b0,0,none⟩),.pointer (some ⟨w7b1,0,none⟩),.pointer (some ⟨w7b2,0,none⟩)],.func (.func 99) #[.pointer (some ⟨d,0,none⟩)] #[],.func (.func 138) #[] #[.pointer (some ⟨w8b0,0,none⟩)]])):=HSx.out.more nx9 (by omega) rfl W9O.out (fun i s hs=>by
   rcases five_some hs with ⟨rfl,rfl⟩ | ⟨rfl,rfl⟩ | ⟨rfl,rfl⟩ | ⟨rfl,rfl⟩ | ⟨rfl,rfl⟩
   ·exact⟨_,rfl,w5b0,w5b1,w5b2,g,q,c,rfl,x0,x1,x2,HNm.out,HKg.out,⟨D,fr,hgw.trans HD.out⟩,bytes_kept HBy.out HB9.out.size (fun g' o' e hg=>by cases e;exact hgw),by rw[HR.out];exact hrl⟩
   ·exact⟨_,rfl,w6b0,w6b1,rfl,x3,x4,HNm.out⟩
   ·exact⟨_,rfl,w7b0,w7b1,w7b2,rfl,x5,x6,x7,HNm.out,hnl2⟩
   ·exact⟨_,rfl,rfl⟩
   ·exact⟨_,rfl,w8b0,w.heap.size,rfl,x8,x9⟩)
  clear s5 s6 s7 s8 s9 n89 n79 n69 n59 nx9 b5 b6 b7 b8 x0 x1 x2 x3 x4 x5 x6 x7 x8 x9 hgw hnl2 W5N0 W5N1 W5N2 W6N0 W6N1 W7N0 W7N1 W7N2 W8N0 W5H W6H W7H W8H W9H W9O HBx HSx
  have HE:Hid (ss=[]++[.app J.second r,.sync J.second,.ren J.second J.name,.names,.drop]):=by show _=_;rw[HRs.out];simp[HEr.out]
  go_wp2
  go_ret
  rw[HE.out]
  exact⟨_,_,_,_,rfl,HS9.out,HB9.out⟩
end Go.Proofs.YtcceejdaokoihaaGreatDoor
