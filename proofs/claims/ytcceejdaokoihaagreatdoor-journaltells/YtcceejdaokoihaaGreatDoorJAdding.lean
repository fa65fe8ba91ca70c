import Derived.Test.YtcceejdaokoihaaGreatDoorJStk2
set_option maxRecDepth 100000
namespace Go.Proofs.YtcceejdaokoihaaGreatDoor
open Go.RowKit Go.Maps
theorem kp_drw (p:Nat × Nat→Prop) (K:Knd) (w:World):Kp p K K w w.drew:=⟨rfl,rfl,rfl,Nat.le_refl _,fun _ _=>rfl,fun _ _ _=>rfl⟩
theorem cell_blk1 {w:World} {b:Nat} {v:Value} {t:TypeId} {fr:Nat × Nat} (h:w.heap[b]?=some (.cells #[v] t fr)):w.cell? ⟨b,0,none⟩=some v:=by simp[World.cell?,h]
theorem owns_ge {w:World} {B n s:Nat} {t:TypeId} {v:Value} {xs:List Value} (h:w.ownsRow B t s v n xs) {g:Nat} (hg:v.ownBlock=some g):B≤g:=by
 rcases h.2 with ⟨e,_⟩ | ⟨g',_,_,e,h2,_⟩
 ·rw[e]at hg;simp[Value.ownBlock]at hg
 ·rw[e]at hg;simp[Value.ownBlock]at hg;omega
def RowOf (w:World) (K:Knd) (o d jb:Nat) (ss:List Stk) (e:Ending) (w':World):Prop:=∃a m c' vs,e=.returned (.slice a m c')∧Srow w.heap.size w' K o d jb a m c' ss vs∧Below w.heap.size w w'
def Jr.adds (J:Jr) (r:List Nat):List Stk:=(if J.torn then [.cut J.name (goodN J),.mend] else [])++[.app J.name r,.sync J.name]++(if J.named then [] else [.names])
theorem two_some {α:Type} {a b:α} {i:Nat} {s:α} (h:[a,b][i]?=some s):(i=0∧s=a)∨(i=1∧s=b):=by
 match i,h with
 | 0,h=>simp at h;exact Or.inl ⟨rfl,h.symm⟩
 | 1,h=>simp at h;exact Or.inr ⟨rfl,h.symm⟩
 | _+2,h=>simp at h
theorem one_some {α:Type} {a:α} {i:Nat} {s:α} (h:[a][i]?=some s):i=0∧s=a:=by
 match i,h with
 | 0,h=>simp at h;exact⟨rfl,h.symm⟩
 | _+1,h=>simp at h
set_option linter.unusedSimpArgs false in
set_option maxHeartbeats 2000000 in
theorem adding_any (w:World) (K:Knd) (o d jb:Nat) (J:Jr) (h:Jk w K o d jb J) (g q n c:Nat) (r:List Nat) (hr:r.length=n) (hrl:n≤4194304) (hg:K g=(o,3)) (D:Array Value) (fr:Nat × Nat) (hD:w.heap[g]?=some (.cells D 5 fr)) (hby:Bytes w (some ⟨g,q,none⟩) r) (hnm:J.name.length≤64) (hs:goodN J≤1099511627776) (hk:J.recs.length≤1099511627776) :
  Calls Tryz.prog 42 #[.pointer (some ⟨jb,0,none⟩),.slice (some ⟨g,q,none⟩) n c] w (RowOf w (ext K w.heap.size (o,4)) o d jb (J.adds r)):=by
 obtain⟨i0,hi,hz0,hz1,hz2⟩:=info_parts Tryz.infoSk
 have hmf:∀(fn:Fn) (first cap:Array Value) (w:World),(Instr.makeFunc fn first cap).run Tryz.prog w=.ok (.func fn first cap) w:=fun _ _ _ _=>rfl
 have hnot:∀(x:Bool) (w:World),(Op.unary .not (.bool x)).run Tryz.prog w=.ok (.bool (!x)) w:=fun _ _=>rfl
 have hb1:Below w.heap.size w (w.alloc (.cells #[.pointer (some ⟨jb,0,none⟩)] 43)):=(Below.refl _ _).alloc (Nat.le_refl _) _
 have kp1:=kp_below hb1 (fun _=>False) K (o,4)
 have hj1:=h.kept kp1 (fun _ h=>h)
 have HFi:=hide (files_any _ _ o d jb J hj1)
 have HGd:=hide (good_any _ _ o d jb J (hj1.kept (kp_drw (fun _=>False) _ _) (fun _ h=>h)) hs hk)
 have hbx:(w.alloc (.cells #[.pointer (some ⟨jb,0,none⟩)] 43)).heap[w.heap.size]?=some (.cells #[.pointer (some ⟨jb,0,none⟩)] 43 (0,0)):=heap_alloc_new _ _
 have w1z0:(w.alloc (.cells #[.pointer (some ⟨jb,0,none⟩)] 43)).cell? ⟨w.heap.size,0,none⟩=some (.pointer (some ⟨jb,0,none⟩)):=cell_blk1 hbx
 obtain⟨rv,vs,hm⟩:=hj1
 have hb:=hm.blk
 unfold jcells at hb
 obtain⟨q0,w1z1,q2,q3,q4,q5,q6,qf⟩:=blk7 hb
 have HB1:=hide hb1
 have HX1:=hide hbx
 have HJ1:=hide hb
 have HD:=hide hD
 have HR:=hide hr
 have HG:=hide hg
 have HBy:=hide hby
 have HNm:=hide hnm
 have hgo:goodN J≤1099511627776:=hs
 have hRs:J.adds r=(if J.torn then [.cut J.name (goodN J),.mend] else [])++[.app J.name r,.sync J.name]++(if J.named then [] else [.names]):=rfl
 generalize J.adds r=ss at *
 have HRs:=hide hRs
 clear hRs
 obtain⟨gn,hgn⟩:∃gn,goodN J=gn:=⟨_,rfl⟩
 rw[hgn]at HGd HRs hgo
 have HKg:Hid (ext K w.heap.size (o,4) g=(o,3)):=(ext_old K _ (lt_of_block hD)).trans hg
 generalize hnme:(⟨J.name.toArray⟩:ByteArray)=nme at *
 have HNe:=hide hnme
 cases ht:J.torn
 ·rw[ht]at q4 HRs
  clear hm hb kp1 h hr hg hD hby hnm hs hk hgn hnme hbx hb1 q0 q2 q3 q6 qf
  go_enter Tryz.func42,Tryz.ntmps42
  go_wp2_with fail
  generalize hw1:w.alloc (.cells #[.pointer (some ⟨jb,0,none⟩)] 43)=w0 at *
  clear hw1
  refine HFi.out.mono ?_
  rintro e w1 ⟨rfl,h1e⟩
  subst h1e
  have w1S:Hid (Nst w1 w1.drew):=fun _ _ _ _ _ _=>rfl
  have w1B:=HB1.out.size
  go_wp2
  have HBx:Hid (Below w.heap.size w w1.drew):=HB1.out.drew
  have HSx:Hid (Srow w.heap.size w1.drew (ext K w.heap.size (o,4)) o d jb none 0 0 [] []):=srow_nil _ _ _ _ _ _
  have hsz6:∀{a b:Nat},w1.drew.heap.size≤a→a≤b→w.heap.size≤b+1:=fun {a b} h1 h2=>by have:w1.heap.size≤a:=h1;omega
  refine wp_region_held_drew (S:=fun w'=>w'.cell? ⟨w.heap.size,0,none⟩=some (.pointer (some ⟨jb,0,none⟩))∧w'.cell? ⟨jb,1,none⟩=some (.string nme)) (by kernel_rfl) (by go_keep) (fun hHeld=>?_)
  refine wpAnyH_take (i:=0) (oi:=_) (v:=?va0) rfl (by kernel_rfl) (by kernel_rfl) (by kernel_rfl) (fun _ _ _ h=>h) (Or.inl ⟨by rfl,?ya0⟩) (by assumption) ?ra0
  case ya0=>(intro w hSw;(try dsimp only at hSw);go_simp;try with_reducible rfl)
  try simp only[Act.put,List.setIfInBounds_toArray,List.set_cons_zero,List.set_cons_succ]
  refine wpAnyH_take (i:=1) (oi:=_) (v:=?va1) rfl (by kernel_rfl) (by kernel_rfl) (by kernel_rfl) (fun _ _ _ h=>h) (Or.inl ⟨by rfl,?ya1⟩) (by assumption) ?ra1
  case ya1=>(intro w hSw;(try dsimp only at hSw);go_simp;try with_reducible rfl)
  try simp only[Act.put,List.setIfInBounds_toArray,List.set_cons_zero,List.set_cons_succ]
  refine wpAnyH_take (i:=2) (oi:=_) (v:=?va2) rfl (by kernel_rfl) (by kernel_rfl) (by kernel_rfl) (fun _ _ _ h=>h) (Or.inl ⟨by rfl,?ya2⟩) (by assumption) ?ra2
  case ya2=>(intro w hSw;(try dsimp only at hSw);go_simp;try with_reducible rfl)
  try simp only[Act.put,List.setIfInBounds_toArray,List.set_cons_zero,List.set_cons_succ]
  refine wpAnyH_take (i:=3) (oi:=_) (v:=?va3) rfl (by kernel_rfl) (by kernel_rfl) (by kernel_rfl) (fun _ _ _ h=>h) (Or.inl ⟨by rfl,?ya3⟩) (by assumption) ?ra3
  case ya3=>(intro w hSw;(try dsimp only at hSw);go_simp;try with_reducible rfl)
  try simp only[Act.put,List.setIfInBounds_toArray,List.set_cons_zero,List.set_cons_succ]
  refine wpAnyH_take (i:=4) (oi:=_) (v:=?va4) rfl (by kernel_rfl) (by kernel_rfl) (by kernel_rfl) (fun _ _ _ h=>h) (Or.inl ⟨by rfl,?ya4⟩) (by assumption) ?ra4
  case ya4=>(intro w hSw;(try dsimp only at hSw);go_simp;try with_reducible rfl)
  try simp only[Act.put,List.setIfInBounds_toArray,List.set_cons_zero,List.set_cons_succ]
  refine wpAnyH_take (i:=5) (oi:=_) (v:=?va5) rfl (by kernel_rfl) (by kernel_rfl) (by kernel_rfl) (fun _ _ _ h=>h) (Or.inl ⟨by rfl,?ya5⟩) (by assumption) ?ra5
  case ya5=>(intro w hSw;(try dsimp only at hSw);go_simp;try with_reducible rfl)
  try simp only[Act.put,List.setIfInBounds_toArray,List.set_cons_zero,List.set_cons_succ]
  refine wpAnyH_take (i:=6) (oi:=_) (v:=?va6) rfl (by kernel_rfl) (by kernel_rfl) (by kernel_rfl) (fun _ _ _ h=>h) (Or.inl ⟨by rfl,?ya6⟩) (by assumption) ?ra6
  case ya6=>(intro w hSw;(try dsimp only at hSw);go_simp;try with_reducible rfl)
  try simp only[Act.put,List.setIfInBounds_toArray,List.set_cons_zero,List.set_cons_succ]
  refine wpAnyH_take (i:=7) (oi:=_) (v:=?va7) rfl (by kernel_rfl) (by kernel_rfl) (by kernel_rfl) (fun _ _ _ h=>h) (Or.inl ⟨by rfl,?ya7⟩) (by assumption) ?ra7
  case ya7=>(intro w hSw;(try dsimp only at hSw);go_simp;try with_reducible rfl)
  try simp only[Act.put,List.setIfInBounds_toArray,List.set_cons_zero,List.set_cons_succ]
  refine wpAnyH_take (i:=9) (oi:=_) (v:=?va9) rfl (by kernel_rfl) (by kernel_rfl) (by kernel_rfl) (fun _ _ _ h=>h) (Or.inl ⟨by rfl,?ya9⟩) (by assumption) ?ra9
  case ya9=>(intro w hSw;(try dsimp only at hSw);go_simp;try with_reducible rfl)
  try simp only[Act.put,List.setIfInBounds_toArray,List.set_cons_zero,List.set_cons_succ]
  refine wpAnyH_take (i:=10) (oi:=_) (v:=?va10) rfl (by kernel_rfl) (by kernel_rfl) (by kernel_rfl) (fun _ _ _ h=>h) (Or.inl ⟨by rfl,?ya10⟩) (by assumption) ?ra10
  case ya10=>(intro w hSw;(try dsimp only at hSw);go_simp;try with_reducible rfl)
  try simp only[Act.put,List.setIfInBounds_toArray,List.set_cons_zero,List.set_cons_succ]
  refine wpAnyH_take (i:=11) (oi:=_) (v:=?va11) rfl (by kernel_rfl) (by kernel_rfl) (by kernel_rfl) (fun _ _ _ h=>h) (Or.inl ⟨by rfl,?ya11⟩) (by assumption) ?ra11
  case ya11=>(intro w hSw;(try dsimp only at hSw);go_simp;try with_reducible rfl)
  try simp only[Act.put,List.setIfInBounds_toArray,List.set_cons_zero,List.set_cons_succ]
  refine wpAnyH_take (i:=12) (oi:=_) (v:=?va12) rfl (by kernel_rfl) (by kernel_rfl) (by kernel_rfl) (fun _ _ _ h=>h) (Or.inl ⟨by rfl,?ya12⟩) (by assumption) ?ra12
  case ya12=>(intro w hSw;(try dsimp only at hSw);go_simp;try with_reducible rfl)
  try simp only[Act.put,List.setIfInBounds_toArray,List.set_cons_zero,List.set_cons_succ]
  refine wpAnyH_take (i:=13) (oi:=_) (v:=?va13) rfl (by kernel_rfl) (by kernel_rfl) (by kernel_rfl) (fun _ _ _ h=>h) (Or.inl ⟨by rfl,?ya13⟩) (by assumption) ?ra13
  case ya13=>(intro w hSw;(try dsimp only at hSw);go_simp;try with_reducible rfl)
  try simp only[Act.put,List.setIfInBounds_toArray,List.set_cons_zero,List.set_cons_succ]
  refine wpAnyH_take (i:=14) (oi:=_) (v:=?va14) rfl (by kernel_rfl) (by kernel_rfl) (by kernel_rfl) (fun _ _ _ h=>h) (Or.inl ⟨by rfl,?ya14⟩) (by assumption) ?ra14
  case ya14=>(intro w hSw;(try dsimp only at hSw);go_simp;try with_reducible rfl)
  try simp only[Act.put,List.setIfInBounds_toArray,List.set_cons_zero,List.set_cons_succ]
  refine wpAnyH_ready (rs:=[8]) (by kernel_rfl) (by simp) ?_
  refine AllReadyH.cons (o:=_) rfl (fun KK hKK=>?_) AllReadyH.nil
  go_simp
  (go_at_call 96;refine(withb_any w1.drew 32 d nme (some ⟨g,q,none⟩) n c).mono ?_;rintro e w5 ⟨w5b0,w5b1,w5b2,rfl,w5n0,w5n1,w5n2,w5h⟩;have W5N0:=hide w5n0;have W5N1:=hide w5n1;have W5N2:=hide w5n2;have W5H:=hide w5h;have w5S:Nst w1 w5:=w1S.out.trans (nst_below w5h);have w5z0:=cell_blk1 ((w5S _ _ _ _ HX1.out (by decide)).trans HX1.out);have w5z1:=(blk7 ((w5S _ _ _ _ HJ1.out (by decide)).trans HJ1.out)).2.1;have w5S:=hide w5S;clear w5n0 w5n1 w5n2 w5h)
  try go_wp2_with fail
  refine hKK.out _ _ (by(try dsimp only);go_keep) (fun hHeld=>?_)
  clear hKK KK
  try simp only[Act.put,List.setIfInBounds_toArray,List.set_cons_zero,List.set_cons_succ]
  refine wpAnyH_ready (rs:=[15]) (by kernel_rfl) (by simp) ?_
  refine AllReadyH.cons (o:=_) rfl (fun KK hKK=>?_) AllReadyH.nil
  go_simp
  (go_at_call 97;refine(on_any w5 98 d nme).mono ?_;rintro e w6 ⟨w6b0,w6b1,rfl,w6n0,w6n1,w6h⟩;have W6N0:=hide w6n0;have W6N1:=hide w6n1;have W6H:=hide w6h;have w6S:Nst w1 w6:=w5S.out.trans (nst_below w6h);have w6z0:=cell_blk1 ((w6S _ _ _ _ HX1.out (by decide)).trans HX1.out);have w6z1:=(blk7 ((w6S _ _ _ _ HJ1.out (by decide)).trans HJ1.out)).2.1;have w6S:=hide w6S;clear w6n0 w6n1 w6h)
  try go_wp2_with fail
  refine hKK.out _ _ (by(try dsimp only);go_keep) (fun hHeld=>?_)
  clear hKK KK
  try simp only[Act.put,List.setIfInBounds_toArray,List.set_cons_zero,List.set_cons_succ]
  refine wpAnyH_ready (rs:=[16]) (by kernel_rfl) (by simp) ?_
  refine AllReadyH.cons (o:=_) rfl (fun KK hKK=>?_) AllReadyH.nil
  go_simp
  refine hKK.out _ _ (by(try dsimp only);go_keep) (fun hHeld=>?_)
  clear hKK KK
  try simp only[Act.put,List.setIfInBounds_toArray,List.set_cons_zero,List.set_cons_succ]
  refine wpAnyH_ready (rs:=[17]) (by kernel_rfl) (by simp) ?_
  refine AllReadyH.cons (o:={ dst:=some 44,op:=Op.call { callee:=Callee.builtin Builtin.append,args:=#[Operand.tmp 27,Operand.tmp 43],argTypes:=#[157,157] },type:=157,pos:=_,after:=_,guard:=none }) rfl (fun KK hKK=>?_) AllReadyH.nil
  (refine step_append_lies _ (by rfl) (.tmp 27) (.tmp 43) 157 (by rfl) w.heap.size 158 i0 .nilFunc 1 8 Tryz.underlying157 hi hz0 hz1 hz2 rfl (by omega) (.slice none 0 0) 0 [] (by rfl) (((HSx.out.below W5H.out).below W6H.out).own.alloc _) ⟨w6.heap.size,0,none⟩ 2 2 [.func (.func 139) #[] #[.pointer (some ⟨w5b0,0,none⟩),.pointer (some ⟨w5b1,0,none⟩),.pointer (some ⟨w5b2,0,none⟩)],.func (.func 140) #[] #[.pointer (some ⟨w6b0,0,none⟩),.pointer (some ⟨w6b1,0,none⟩)]] (by rfl) rfl (World.news_of_block (heap_alloc_new w6 (.cells #[.func (.func 139) #[] #[.pointer (some ⟨w5b0,0,none⟩),.pointer (some ⟨w5b1,0,none⟩),.pointer (some ⟨w5b2,0,none⟩)],.func (.func 140) #[] #[.pointer (some ⟨w6b0,0,none⟩),.pointer (some ⟨w6b1,0,none⟩)]] 158))) (by simp[Value.oneCell']) (by omega) (by unfold maxLen;omega) (by omega) (by simp;exact hsz6 W5H.out.size W6H.out.size) _ rfl ?_;intro w7g w7c w7 w7o w7h w7a w7t;have W7O:=hide w7o;have W7H:=hide w7h;have w7S:Nst w1 w7:=w6S.out.trans ((nst_below ((Below.refl _ _).alloc (Nat.le_refl _) _)).trans (nst_grown w7h (((HSx.out.below W5H.out).below W6H.out).own.alloc _)));have w7z0:=cell_blk1 ((w7S _ _ _ _ HX1.out (by decide)).trans HX1.out);have w7z1:=(blk7 ((w7S _ _ _ _ HJ1.out (by decide)).trans HJ1.out)).2.1;have w7S:=hide w7S;clear w7o w7h w7a w7t)
  refine hKK.out _ _ (by(try dsimp only);go_keep) (fun hHeld=>?_)
  clear hKK KK
  try simp only[Act.put,List.setIfInBounds_toArray,List.set_cons_zero,List.set_cons_succ]
  refine wpAnyH_take (i:=18) (oi:={ dst:=some 5,op:=Op.assign (Operand.tmp 44),type:=157,pos:=_,after:=_,guard:=none }) (v:=?va18) rfl (by kernel_rfl) (by kernel_rfl) (by kernel_rfl) (fun _ _ _ h=>h) (Or.inl ⟨by rfl,?ya18⟩) (by assumption) ?ra18
  case ya18=>(intro w hSw;(try dsimp only at hSw);go_simp;try with_reducible rfl)
  try simp only[Act.put,List.setIfInBounds_toArray,List.set_cons_zero,List.set_cons_succ]
  refine wpAnyH_done (by kernel_rfl) ?_ _
  all_goals
   have s5:=W5H.out.size
   have s6:=W6H.out.size
   have s7:=W7H.out.size
   rw[World.size_alloc]at s7
   have sx:=HBx.out.size
   have n67:Nst w6 w7:=(nst_below ((Below.refl _ _).alloc (Nat.le_refl _) _)).trans (nst_grown W7H.out (((HSx.out.below W5H.out).below W6H.out).own.alloc _))
   have n57:Nst w5 w7:=(nst_below W6H.out).trans n67
   have nx7:Nst w1.drew w7:=(nst_below W5H.out).trans n57
   have HB7:Hid (Below w.heap.size w w7):=(((HBx.out.trans (W5H.out.mono sx)).trans (W6H.out.mono (by omega))).alloc (by omega) _).grown W7H.out (by simp;omega) (fun g2 e2=>owns_ge (HSx.out.own) e2)
   have x0:=(W5N0.out.box (K:=K) (w0:=w) sx o).same n57 (by decide)
   have x1:=(W5N1.out.box (K:=K) (w0:=w) sx o).same n57 (by decide)
   have x2:=(W5N2.out.box (K:=K) (w0:=w) sx o).same n57 (by decide)
   have x3:=(W6N0.out.box (K:=K) (w0:=w) (Nat.le_trans sx s5) o).same n67 (by decide)
   have x4:=(W6N1.out.box (K:=K) (w0:=w) (Nat.le_trans sx s5) o).same n67 (by decide)
   rw[←HNe.out]at x1 x4
   rw[←HR.out]at x2
   have hgw:w7.heap[g]?=w.heap[g]?:=HB7.out.block g (lt_of_block HD.out)
   have HS7:Hid (Srow w.heap.size w7 (ext K w.heap.size (o,4)) o d jb (some ⟨w7g,0,none⟩) (0+2) w7c ([]++[.app J.name r,.sync J.name]) ([]++[.func (.func 139) #[] #[.pointer (some ⟨w5b0,0,none⟩),.pointer (some ⟨w5b1,0,none⟩),.pointer (some ⟨w5b2,0,none⟩)],.func (.func 140) #[] #[.pointer (some ⟨w6b0,0,none⟩),.pointer (some ⟨w6b1,0,none⟩)]])):=HSx.out.more nx7 (by omega) rfl W7O.out (fun i s hs=>by
    rcases two_some hs with ⟨rfl,rfl⟩ | ⟨rfl,rfl⟩
    ·exact⟨_,rfl,w5b0,w5b1,w5b2,g,q,c,rfl,x0,x1,x2,HNm.out,HKg.out,⟨D,fr,hgw.trans HD.out⟩,bytes_kept HBy.out HB7.out.size (fun g' o' e hg=>by cases e;exact hgw),by rw[HR.out];exact hrl⟩
    ·exact⟨_,rfl,w6b0,w6b1,rfl,x3,x4,HNm.out⟩)
   have w7z5:=(blk7 ((w7S.out _ _ _ _ HJ1.out (by decide)).trans HJ1.out)).2.2.2.2.2.1
   clear s5 s6 s7 n67 n57 nx7 x0 x1 x2 x3 x4 hgw W5N0 W5N1 W5N2 W6N0 W6N1 W5H W6H W7H W7O HBx HSx
   cases hN:J.named
   ·rw[hN]at w7z5 HRs
    have HE:Hid (ss=([]++[.app J.name r,.sync J.name])++[.names]):=by show _=_;rw[HRs.out];simp
    have s7:=HB7.out.size
    go_wp2_with (at_builtin;refine wpList_append_lies _ rfl (.tmp 50) (.tmp 53) 157 rfl w.heap.size 158 i0 .nilFunc 1 8 Tryz.underlying157 hi hz0 hz1 hz2 rfl (by omega) (.slice (some ⟨w7g,0,none⟩) (0+2) w7c) (0+2) ([]++[.func (.func 139) #[] #[.pointer (some ⟨w5b0,0,none⟩),.pointer (some ⟨w5b1,0,none⟩),.pointer (some ⟨w5b2,0,none⟩)],.func (.func 140) #[] #[.pointer (some ⟨w6b0,0,none⟩),.pointer (some ⟨w6b1,0,none⟩)]]) rfl (HS7.out.own.alloc _) ⟨w7.heap.size,0,none⟩ 1 1 [.func (.func 99) #[.pointer (some ⟨d,0,none⟩)] #[]] rfl rfl (World.news_of_block (heap_alloc_new w7 (.cells #[.func (.func 99) #[.pointer (some ⟨d,0,none⟩)] #[]] 158))) (by simp[Value.oneCell']) (by omega) (by unfold maxLen;omega) (by omega) (by simp;omega) _ rfl ?_;intro w8g w8c w8 w8o w8h w8a w8t;have W8O:=hide w8o;have W8H:=hide w8h)
    have s8:=W8H.out.size
    rw[World.size_alloc]at s8
    have n78:Nst w7 w8:=(nst_below ((Below.refl _ _).alloc (Nat.le_refl _) _)).trans (nst_grown W8H.out (HS7.out.own.alloc _))
    have HB8:Hid (Below w.heap.size w w8):=(HB7.out.alloc s7 _).grown W8H.out (by simp;omega) (fun g2 e2=>owns_ge HS7.out.own e2)
    have HS8:=hide (HS7.out.more (ts:=[.names]) (us:=[.func (.func 99) #[.pointer (some ⟨d,0,none⟩)] #[]]) n78 (by omega) rfl W8O.out (fun i s hs=>by obtain⟨rfl,rfl⟩:=one_some hs;exact⟨_,rfl,rfl⟩))
    clear w8o w8h w8a w8t n78 s8
    go_wp2
    go_ret
    rw[HE.out]
    exact⟨_,_,_,_,rfl,HS8.out,HB8.out⟩
   ·rw[hN]at w7z5 HRs
    have HE:Hid (ss=[]++[.app J.name r,.sync J.name]):=by show _=_;rw[HRs.out];simp
    go_wp2
    go_ret
    rw[HE.out]
    exact⟨_,_,_,_,rfl,HS7.out,HB7.out⟩
 ·rw[ht]at q4 HRs
  clear hm hb kp1 h hr hg hD hby hnm hs hk hgn hnme hbx hb1 q0 q2 q3 q6 qf
  go_enter Tryz.func42,Tryz.ntmps42
  go_wp2_with fail
  generalize hw1:w.alloc (.cells #[.pointer (some ⟨jb,0,none⟩)] 43)=w0 at *
  clear hw1
  refine HFi.out.mono ?_
  rintro e w1 ⟨rfl,h1e⟩
  subst h1e
  have w1S:Hid (Nst w1 w1.drew):=fun _ _ _ _ _ _=>rfl
  have w1B:=HB1.out.size
  go_wp2
  have hsz3:∀{a b:Nat},w1.drew.heap.size≤a→a≤b→w.heap.size≤b+1:=fun {a b} h1 h2=>by have:w1.heap.size≤a:=h1;omega
  refine wp_region_held_drew (S:=fun w'=>w'.cell? ⟨w.heap.size,0,none⟩=some (.pointer (some ⟨jb,0,none⟩))∧w'.cell? ⟨jb,1,none⟩=some (.string nme)) (by kernel_rfl) (by go_keep) (fun hHeld=>?_)
  refine wpAnyH_take (i:=0) (oi:=_) (v:=?vb0) rfl (by kernel_rfl) (by kernel_rfl) (by kernel_rfl) (fun _ _ _ h=>h) (Or.inl ⟨by rfl,?yb0⟩) (by assumption) ?rb0
  case yb0=>(intro w hSw;(try dsimp only at hSw);go_simp;try with_reducible rfl)
  try simp only[Act.put,List.setIfInBounds_toArray,List.set_cons_zero,List.set_cons_succ]
  refine wpAnyH_take (i:=1) (oi:=_) (v:=?vb1) rfl (by kernel_rfl) (by kernel_rfl) (by kernel_rfl) (fun _ _ _ h=>h) (Or.inl ⟨by rfl,?yb1⟩) (by assumption) ?rb1
  case yb1=>(intro w hSw;(try dsimp only at hSw);go_simp;try with_reducible rfl)
  try simp only[Act.put,List.setIfInBounds_toArray,List.set_cons_zero,List.set_cons_succ]
  refine wpAnyH_take (i:=2) (oi:=_) (v:=?vb2) rfl (by kernel_rfl) (by kernel_rfl) (by kernel_rfl) (fun _ _ _ h=>h) (Or.inl ⟨by rfl,?yb2⟩) (by assumption) ?rb2
  case yb2=>(intro w hSw;(try dsimp only at hSw);go_simp;try with_reducible rfl)
  try simp only[Act.put,List.setIfInBounds_toArray,List.set_cons_zero,List.set_cons_succ]
  refine wpAnyH_take (i:=3) (oi:=_) (v:=?vb3) rfl (by kernel_rfl) (by kernel_rfl) (by kernel_rfl) (fun _ _ _ h=>h) (Or.inl ⟨by rfl,?yb3⟩) (by assumption) ?rb3
  case yb3=>(intro w hSw;(try dsimp only at hSw);go_simp;try with_reducible rfl)
  try simp only[Act.put,List.setIfInBounds_toArray,List.set_cons_zero,List.set_cons_succ]
  refine wpAnyH_take (i:=4) (oi:=_) (v:=?vb4) rfl (by kernel_rfl) (by kernel_rfl) (by kernel_rfl) (fun _ _ _ h=>h) (Or.inl ⟨by rfl,?yb4⟩) (by assumption) ?rb4
  case yb4=>(intro w hSw;(try dsimp only at hSw);go_simp;try with_reducible rfl)
  try simp only[Act.put,List.setIfInBounds_toArray,List.set_cons_zero,List.set_cons_succ]
  refine wpAnyH_take (i:=5) (oi:=_) (v:=?vb5) rfl (by kernel_rfl) (by kernel_rfl) (by kernel_rfl) (fun _ _ _ h=>h) (Or.inl ⟨by rfl,?yb5⟩) (by assumption) ?rb5
  case yb5=>(intro w hSw;(try dsimp only at hSw);go_simp;try with_reducible rfl)
  try simp only[Act.put,List.setIfInBounds_toArray,List.set_cons_zero,List.set_cons_succ]
  refine wpAnyH_take (i:=6) (oi:=_) (v:=?vb6) rfl (by kernel_rfl) (by kernel_rfl) (by kernel_rfl) (fun _ _ _ h=>h) (Or.inl ⟨by rfl,?yb6⟩) (by assumption) ?rb6
  case yb6=>(intro w hSw;(try dsimp only at hSw);go_simp;try with_reducible rfl)
  try simp only[Act.put,List.setIfInBounds_toArray,List.set_cons_zero,List.set_cons_succ]
  refine wpAnyH_take (i:=7) (oi:=_) (v:=?vb7) rfl (by kernel_rfl) (by kernel_rfl) (by kernel_rfl) (fun _ _ _ h=>h) (Or.inl ⟨by rfl,?yb7⟩) (by assumption) ?rb7
  case yb7=>(intro w hSw;(try dsimp only at hSw);go_simp;try with_reducible rfl)
  try simp only[Act.put,List.setIfInBounds_toArray,List.set_cons_zero,List.set_cons_succ]
  refine wpAnyH_take (i:=10) (oi:=_) (v:=?vb10) rfl (by kernel_rfl) (by kernel_rfl) (by kernel_rfl) (fun _ _ _ h=>h) (Or.inl ⟨by rfl,?yb10⟩) (by assumption) ?rb10
  case yb10=>(intro w hSw;(try dsimp only at hSw);go_simp;try with_reducible rfl)
  try simp only[Act.put,List.setIfInBounds_toArray,List.set_cons_zero,List.set_cons_succ]
  refine wpAnyH_ready (rs:=[8]) (by kernel_rfl) (by simp) ?_
  refine AllReadyH.cons (o:=_) rfl (fun KK hKK=>?_) AllReadyH.nil
  go_simp
  (go_at_call 93;refine HGd.out.mono ?_;rintro e wg ⟨rfl,hwg⟩;subst hwg)
  try go_wp2_with fail
  refine hKK.out _ _ (by(try dsimp only);go_keep) (fun hHeld=>?_)
  clear hKK KK
  try simp only[Act.put,List.setIfInBounds_toArray,List.set_cons_zero,List.set_cons_succ]
  refine wpAnyH_ready (rs:=[9]) (by kernel_rfl) (by simp) ?_
  refine AllReadyH.cons (o:=_) rfl (fun KK hKK=>?_) AllReadyH.nil
  go_simp
  (go_at_call 92;refine(withi_any w1.drew 84 d nme gn).mono ?_;rintro e w2 ⟨w2b0,w2b1,w2b2,rfl,w2n0,w2n1,w2n2,w2h⟩;have W2N0:=hide w2n0;have W2N1:=hide w2n1;have W2N2:=hide w2n2;have W2H:=hide w2h;have w2S:Nst w1 w2:=w1S.out.trans (nst_below w2h);have w2z0:=cell_blk1 ((w2S _ _ _ _ HX1.out (by decide)).trans HX1.out);have w2z1:=(blk7 ((w2S _ _ _ _ HJ1.out (by decide)).trans HJ1.out)).2.1;have w2S:=hide w2S;clear w2n0 w2n1 w2n2 w2h)
  try go_wp2_with fail
  refine hKK.out _ _ (by(try dsimp only);go_keep) (fun hHeld=>?_)
  clear hKK KK
  try simp only[Act.put,List.setIfInBounds_toArray,List.set_cons_zero,List.set_cons_succ]
  refine wpAnyH_ready (rs:=[11]) (by kernel_rfl) (by simp) ?_
  refine AllReadyH.cons (o:=_) rfl (fun KK hKK=>?_) AllReadyH.nil
  go_simp
  (go_at_call 94;refine(noted_any w2 95 w.heap.size).mono ?_;rintro e w3 ⟨w3b0,rfl,w3n0,w3h⟩;have W3N0:=hide w3n0;have W3H:=hide w3h;have w3S:Nst w1 w3:=w2S.out.trans (nst_below w3h);have w3z0:=cell_blk1 ((w3S _ _ _ _ HX1.out (by decide)).trans HX1.out);have w3z1:=(blk7 ((w3S _ _ _ _ HJ1.out (by decide)).trans HJ1.out)).2.1;have w3S:=hide w3S;clear w3n0 w3h)
  try go_wp2_with fail
  refine hKK.out _ _ (by(try dsimp only);go_keep) (fun hHeld=>?_)
  clear hKK KK
  try simp only[Act.put,List.setIfInBounds_toArray,List.set_cons_zero,List.set_cons_succ]
  refine wpAnyH_ready (rs:=[12]) (by kernel_rfl) (by simp) ?_
  refine AllReadyH.cons (o:=_) rfl (fun KK hKK=>?_) AllReadyH.nil
  go_simp
  refine hKK.out _ _ (by(try dsimp only);go_keep) (fun hHeld=>?_)
  clear hKK KK
  try simp only[Act.put,List.setIfInBounds_toArray,List.set_cons_zero,List.set_cons_succ]
  refine wpAnyH_ready (rs:=[13]) (by kernel_rfl) (by simp) ?_
  refine AllReadyH.cons (o:={ dst:=some 26,op:=Op.call { callee:=Callee.builtin Builtin.append,args:=#[Operand.tmp 13,Operand.tmp 25],argTypes:=#[157,157] },type:=157,pos:=_,after:=_,guard:=none }) rfl (fun KK hKK=>?_) AllReadyH.nil
  (refine step_append_lies _ (by rfl) (.tmp 13) (.tmp 25) 157 (by rfl) w.heap.size 158 i0 .nilFunc 1 8 Tryz.underlying157 hi hz0 hz1 hz2 rfl (by omega) (.slice none 0 0) 0 [] (by rfl) ((srow_nil w.heap.size _ K o d jb).own) ⟨w3.heap.size,0,none⟩ 2 2 [.func (.func 137) #[] #[.pointer (some ⟨w2b0,0,none⟩),.pointer (some ⟨w2b1,0,none⟩),.pointer (some ⟨w2b2,0,none⟩)],.func (.func 138) #[] #[.pointer (some ⟨w3b0,0,none⟩)]] (by rfl) rfl (World.news_of_block (heap_alloc_new w3 (.cells #[.func (.func 137) #[] #[.pointer (some ⟨w2b0,0,none⟩),.pointer (some ⟨w2b1,0,none⟩),.pointer (some ⟨w2b2,0,none⟩)],.func (.func 138) #[] #[.pointer (some ⟨w3b0,0,none⟩)]] 158))) (by simp[Value.oneCell']) (by omega) (by unfold maxLen;omega) (by omega) (by simp;exact hsz3 W2H.out.size W3H.out.size) _ rfl ?_;intro w4g w4c w4 w4o w4h w4a w4t;have W4O:=hide w4o;have W4H:=hide w4h;have w4S:Nst w1 w4:=w3S.out.trans ((nst_below ((Below.refl _ _).alloc (Nat.le_refl _) _)).trans (nst_grown w4h ((srow_nil w.heap.size _ K o d jb).own)));have w4z0:=cell_blk1 ((w4S _ _ _ _ HX1.out (by decide)).trans HX1.out);have w4z1:=(blk7 ((w4S _ _ _ _ HJ1.out (by decide)).trans HJ1.out)).2.1;have w4S:=hide w4S;clear w4o w4h w4a w4t)
  refine hKK.out _ _ (by(try dsimp only);go_keep) (fun hHeld=>?_)
  clear hKK KK
  try simp only[Act.put,List.setIfInBounds_toArray,List.set_cons_zero,List.set_cons_succ]
  refine wpAnyH_take (i:=14) (oi:={ dst:=some 5,op:=Op.assign (Operand.tmp 26),type:=157,pos:=_,after:=_,guard:=none }) (v:=?vb14) rfl (by kernel_rfl) (by kernel_rfl) (by kernel_rfl) (fun _ _ _ h=>h) (Or.inl ⟨by rfl,?yb14⟩) (by assumption) ?rb14
  case yb14=>(intro w hSw;(try dsimp only at hSw);go_simp;try with_reducible rfl)
  try simp only[Act.put,List.setIfInBounds_toArray,List.set_cons_zero,List.set_cons_succ]
  refine wpAnyH_done (by kernel_rfl) ?_ _
  have s2:=W2H.out.size
  have s3:=W3H.out.size
  have s4:=W4H.out.size
  rw[World.size_alloc]at s4
  have s1:w1.heap.size≤w2.heap.size:=s2
  have n34:Nst w3 w4:=(nst_below ((Below.refl _ _).alloc (Nat.le_refl _) _)).trans (nst_grown W4H.out ((srow_nil w.heap.size _ K o d jb).own))
  have n24:Nst w2 w4:=(nst_below W3H.out).trans n34
  have nx4:Nst w1.drew w4:=(nst_below W2H.out).trans n24
  have HB4:Hid (Below w.heap.size w w4):=(((HB1.out.drew.trans (W2H.out.mono w1B)).trans (W3H.out.mono (by omega))).alloc (by omega) _).grown W4H.out (by simp;omega) (fun g2 e2=>by simp[Value.ownBlock]at e2)
  have x0:=(W2N0.out.box (K:=K) (w0:=w) w1B o).same n24 (by decide)
  have x1:=(W2N1.out.box (K:=K) (w0:=w) w1B o).same n24 (by decide)
  have x2:=(W2N2.out.box (K:=K) (w0:=w) w1B o).same n24 (by decide)
  have x3:=(W3N0.out.box (K:=K) (w0:=w) (Nat.le_trans w1B s2) o).same n34 (by decide)
  have x4:Box w4 (ext K w.heap.size (o,4)) o w.heap.size (.pointer (some ⟨jb,0,none⟩)) 43:=⟨(w4S.out _ _ _ _ HX1.out (by decide)).trans HX1.out,ext_new K _ (Nat.le_refl _)⟩
  rw[←HNe.out]at x1
  have HBx:Hid (Below w.heap.size w w4.drew):=HB4.out.drew
  have HS4:Srow w.heap.size w4 (ext K w.heap.size (o,4)) o d jb (some ⟨w4g,0,none⟩) (0+2) w4c ([]++[.cut J.name gn,.mend]) ([]++[.func (.func 137) #[] #[.pointer (some ⟨w2b0,0,none⟩),.pointer (some ⟨w2b1,0,none⟩),.pointer (some ⟨w2b2,0,none⟩)],.func (.func 138) #[] #[.pointer (some ⟨w3b0,0,none⟩)]]):=(srow_nil w.heap.size w1.drew (ext K w.heap.size (o,4)) o d jb).more nx4 (by omega) rfl W4O.out (fun i s hs=>by
   rcases two_some hs with ⟨rfl,rfl⟩ | ⟨rfl,rfl⟩
   ·exact⟨_,rfl,w2b0,w2b1,w2b2,rfl,x0,x1,x2,HNm.out,by omega⟩
   ·exact⟨_,rfl,w3b0,w.heap.size,rfl,x3,x4⟩)
  have HSx:=hide (HS4.below ((Below.refl _ _).drew))
  clear HS4
  have hsz6:∀{a b:Nat},w4.drew.heap.size≤a→a≤b→w.heap.size≤b+1:=fun {a b} h1 h2=>by have:w4.heap.size≤a:=h1;omega
  clear x0 x1 x2 x3 x4 n34 n24 nx4 W2N0 W2N1 W2N2 W3N0 W2H W3H W4H W4O HB4
  have w4S':Hid (Nst w1 w4.drew):=w4S.out.trans (fun _ _ _ _ _ _=>rfl)
  clear w4S
  have w4S:=w4S'
  clear w4S'
  go_wp2
  refine wp_region_held_drew (S:=fun w'=>w'.cell? ⟨w.heap.size,0,none⟩=some (.pointer (some ⟨jb,0,none⟩))∧w'.cell? ⟨jb,1,none⟩=some (.string nme)) (by kernel_rfl) (by go_keep) (fun hHeld=>?_)
  refine wpAnyH_take (i:=0) (oi:=_) (v:=?vc0) rfl (by kernel_rfl) (by kernel_rfl) (by kernel_rfl) (fun _ _ _ h=>h) (Or.inl ⟨by rfl,?yc0⟩) (by assumption) ?rc0
  case yc0=>(intro w hSw;(try dsimp only at hSw);go_simp;try with_reducible rfl)
  try simp only[Act.put,List.setIfInBounds_toArray,List.set_cons_zero,List.set_cons_succ]
  refine wpAnyH_take (i:=1) (oi:=_) (v:=?vc1) rfl (by kernel_rfl) (by kernel_rfl) (by kernel_rfl) (fun _ _ _ h=>h) (Or.inl ⟨by rfl,?yc1⟩) (by assumption) ?rc1
  case yc1=>(intro w hSw;(try dsimp only at hSw);go_simp;try with_reducible rfl)
  try simp only[Act.put,List.setIfInBounds_toArray,List.set_cons_zero,List.set_cons_succ]
  refine wpAnyH_take (i:=2) (oi:=_) (v:=?vc2) rfl (by kernel_rfl) (by kernel_rfl) (by kernel_rfl) (fun _ _ _ h=>h) (Or.inl ⟨by rfl,?yc2⟩) (by assumption) ?rc2
  case yc2=>(intro w hSw;(try dsimp only at hSw);go_simp;try with_reducible rfl)
  try simp only[Act.put,List.setIfInBounds_toArray,List.set_cons_zero,List.set_cons_succ]
  refine wpAnyH_take (i:=3) (oi:=_) (v:=?vc3) rfl (by kernel_rfl) (by kernel_rfl) (by kernel_rfl) (fun _ _ _ h=>h) (Or.inl ⟨by rfl,?yc3⟩) (by assumption) ?rc3
  case yc3=>(intro w hSw;(try dsimp only at hSw);go_simp;try with_reducible rfl)
  try simp only[Act.put,List.setIfInBounds_toArray,List.set_cons_zero,List.set_cons_succ]
  refine wpAnyH_take (i:=4) (oi:=_) (v:=?vc4) rfl (by kernel_rfl) (by kernel_rfl) (by kernel_rfl) (fun _ _ _ h=>h) (Or.inl ⟨by rfl,?yc4⟩) (by assumption) ?rc4
  case yc4=>(intro w hSw;(try dsimp only at hSw);go_simp;try with_reducible rfl)
  try simp only[Act.put,List.setIfInBounds_toArray,List.set_cons_zero,List.set_cons_succ]
  refine wpAnyH_take (i:=5) (oi:=_) (v:=?vc5) rfl (by kernel_rfl) (by kernel_rfl) (by kernel_rfl) (fun _ _ _ h=>h) (Or.inl ⟨by rfl,?yc5⟩) (by assumption) ?rc5
  case yc5=>(intro w hSw;(try dsimp only at hSw);go_simp;try with_reducible rfl)
  try simp only[Act.put,List.setIfInBounds_toArray,List.set_cons_zero,List.set_cons_succ]
  refine wpAnyH_take (i:=6) (oi:=_) (v:=?vc6) rfl (by kernel_rfl) (by kernel_rfl) (by kernel_rfl) (fun _ _ _ h=>h) (Or.inl ⟨by rfl,?yc6⟩) (by assumption) ?rc6
  case yc6=>(intro w hSw;(try dsimp only at hSw);go_simp;try with_reducible rfl)
  try simp only[Act.put,List.setIfInBounds_toArray,List.set_cons_zero,List.set_cons_succ]
  refine wpAnyH_take (i:=7) (oi:=_) (v:=?vc7) rfl (by kernel_rfl) (by kernel_rfl) (by kernel_rfl) (fun _ _ _ h=>h) (Or.inl ⟨by rfl,?yc7⟩) (by assumption) ?rc7
  case yc7=>(intro w hSw;(try dsimp only at hSw);go_simp;try with_reducible rfl)
  try simp only[Act.put,List.setIfInBounds_toArray,List.set_cons_zero,List.set_cons_succ]
  refine wpAnyH_take (i:=9) (oi:=_) (v:=?vc9) rfl (by kernel_rfl) (by kernel_rfl) (by kernel_rfl) (fun _ _ _ h=>h) (Or.inl ⟨by rfl,?yc9⟩) (by assumption) ?rc9
  case yc9=>(intro w hSw;(try dsimp only at hSw);go_simp;try with_reducible rfl)
  try simp only[Act.put,List.setIfInBounds_toArray,List.set_cons_zero,List.set_cons_succ]
  refine wpAnyH_take (i:=10) (oi:=_) (v:=?vc10) rfl (by kernel_rfl) (by kernel_rfl) (by kernel_rfl) (fun _ _ _ h=>h) (Or.inl ⟨by rfl,?yc10⟩) (by assumption) ?rc10
  case yc10=>(intro w hSw;(try dsimp only at hSw);go_simp;try with_reducible rfl)
  try simp only[Act.put,List.setIfInBounds_toArray,List.set_cons_zero,List.set_cons_succ]
  refine wpAnyH_take (i:=11) (oi:=_) (v:=?vc11) rfl (by kernel_rfl) (by kernel_rfl) (by kernel_rfl) (fun _ _ _ h=>h) (Or.inl ⟨by rfl,?yc11⟩) (by assumption) ?rc11
  case yc11=>(intro w hSw;(try dsimp only at hSw);go_simp;try with_reducible rfl)
  try simp only[Act.put,List.setIfInBounds_toArray,List.set_cons_zero,List.set_cons_succ]
  refine wpAnyH_take (i:=12) (oi:=_) (v:=?vc12) rfl (by kernel_rfl) (by kernel_rfl) (by kernel_rfl) (fun _ _ _ h=>h) (Or.inl ⟨by rfl,?yc12⟩) (by assumption) ?rc12
  case yc12=>(intro w hSw;(try dsimp only at hSw);go_simp;try with_reducible rfl)
  try simp only[Act.put,List.setIfInBounds_toArray,List.set_cons_zero,List.set_cons_succ]
  refine wpAnyH_take (i:=13) (oi:=_) (v:=?vc13) rfl (by kernel_rfl) (by kernel_rfl) (by kernel_rfl) (fun _ _ _ h=>h) (Or.inl ⟨by rfl,?yc13⟩) (by assumption) ?rc13
  case yc13=>(intro w hSw;(try dsimp only at hSw);go_simp;try with_reducible rfl)
  try simp only[Act.put,List.setIfInBounds_toArray,List.set_cons_zero,List.set_cons_succ]
  refine wpAnyH_take (i:=14) (oi:=_) (v:=?vc14) rfl (by kernel_rfl) (by kernel_rfl) (by kernel_rfl) (fun _ _ _ h=>h) (Or.inl ⟨by rfl,?yc14⟩) (by assumption) ?rc14
  case yc14=>(intro w hSw;(try dsimp only at hSw);go_simp;try with_reducible rfl)
  try simp only[Act.put,List.setIfInBounds_toArray,List.set_cons_zero,List.set_cons_succ]
  refine wpAnyH_ready (rs:=[8]) (by kernel_rfl) (by simp) ?_
  refine AllReadyH.cons (o:=_) rfl (fun KK hKK=>?_) AllReadyH.nil
  go_simp
  (go_at_call 96;refine(withb_any w4.drew 32 d nme (some ⟨g,q,none⟩) n c).mono ?_;rintro e w5 ⟨w5b0,w5b1,w5b2,rfl,w5n0,w5n1,w5n2,w5h⟩;have W5N0:=hide w5n0;have W5N1:=hide w5n1;have W5N2:=hide w5n2;have W5H:=hide w5h;have w5S:Nst w1 w5:=w4S.out.trans (nst_below w5h);have w5z0:=cell_blk1 ((w5S _ _ _ _ HX1.out (by decide)).trans HX1.out);have w5z1:=(blk7 ((w5S _ _ _ _ HJ1.out (by decide)).trans HJ1.out)).2.1;have w5S:=hide w5S;clear w5n0 w5n1 w5n2 w5h)
  try go_wp2_with fail
  refine hKK.out _ _ (by(try dsimp only);go_keep) (fun hHeld=>?_)
  clear hKK KK
  try simp only[Act.put,List.setIfInBounds_toArray,List.set_cons_zero,List.set_cons_succ]
  refine wpAnyH_ready (rs:=[15]) (by kernel_rfl) (by simp) ?_
  refine AllReadyH.cons (o:=_) rfl (fun KK hKK=>?_) AllReadyH.nil
  go_simp
  (go_at_call 97;refine(on_any w5 98 d nme).mono ?_;rintro e w6 ⟨w6b0,w6b1,rfl,w6n0,w6n1,w6h⟩;have W6N0:=hide w6n0;have W6N1:=hide w6n1;have W6H:=hide w6h;have w6S:Nst w1 w6:=w5S.out.trans (nst_below w6h);have w6z0:=cell_blk1 ((w6S _ _ _ _ HX1.out (by decide)).trans HX1.out);have w6z1:=(blk7 ((w6S _ _ _ _ HJ1.out (by decide)).trans HJ1.out)).2.1;have w6S:=hide w6S;clear w6n0 w6n1 w6h)
  try go_wp2_with fail
  refine hKK.out _ _ (by(try dsimp only);go_keep) (fun hHeld=>?_)
  clear hKK KK
  try simp only[Act.put,List.setIfInBounds_toArray,List.set_cons_zero,List.set_cons_succ]
  refine wpAnyH_ready (rs:=[16]) (by kernel_rfl) (by simp) ?_
  refine AllReadyH.cons (o:=_) rfl (fun KK hKK=>?_) AllReadyH.nil
  go_simp
  refine hKK.out _ _ (by(try dsimp only);go_keep) (fun hHeld=>?_)
  clear hKK KK
  try simp only[Act.put,List.setIfInBounds_toArray,List.set_cons_zero,List.set_cons_succ]
  refine wpAnyH_ready (rs:=[17]) (by kernel_rfl) (by simp) ?_
  refine AllReadyH.cons (o:={ dst:=some 44,op:=Op.call { callee:=Callee.builtin Builtin.append,args:=#[Operand.tmp 27,Operand.tmp 43],argTypes:=#[157,157] },type:=157,pos:=_,after:=_,guard:=none }) rfl (fun KK hKK=>?_) AllReadyH.nil
  (refine step_append_lies _ (by rfl) (.tmp 27) (.tmp 43) 157 (by rfl) w.heap.size 158 i0 .nilFunc 1 8 Tryz.underlying157 hi hz0 hz1 hz2 rfl (by omega) (.slice (some ⟨w4g,0,none⟩) (0+2) w4c) (0+2) ([]++[.func (.func 137) #[] #[.pointer (some ⟨w2b0,0,none⟩),.pointer (some ⟨w2b1,0,none⟩),.pointer (some ⟨w2b2,0,none⟩)],.func (.func 138) #[] #[.pointer (some ⟨w3b0,0,none⟩)]]) (by rfl) (((HSx.out.below W5H.out).below W6H.out).own.alloc _) ⟨w6.heap.size,0,none⟩ 2 2 [.func (.func 139) #[] #[.pointer (some ⟨w5b0,0,none⟩),.pointer (some ⟨w5b1,0,none⟩),.pointer (some ⟨w5b2,0,none⟩)],.func (.func 140) #[] #[.pointer (some ⟨w6b0,0,none⟩),.pointer (some ⟨w6b1,0,none⟩)]] (by rfl) rfl (World.news_of_block (heap_alloc_new w6 (.cells #[.func (.func 139) #[] #[.pointer (some ⟨w5b0,0,none⟩),.pointer (some ⟨w5b1,0,none⟩),.pointer (some ⟨w5b2,0,none⟩)],.func (.func 140) #[] #[.pointer (some ⟨w6b0,0,none⟩),.pointer (some ⟨w6b1,0,none⟩)]] 158))) (by simp[Value.oneCell']) (by omega) (by unfold maxLen;omega) (by omega) (by simp;exact hsz6 W5H.out.size W6H.out.size) _ rfl ?_;intro w7g w7c w7 w7o w7h w7a w7t;have W7O:=hide w7o;have W7H:=hide w7h;have w7S:Nst w1 w7:=w6S.out.trans ((nst_below ((Below.refl _ _).alloc (Nat.le_refl _) _)).trans (nst_grown w7h (((HSx.out.below W5H.out).below W6H.out).own.alloc _)));have w7z0:=cell_blk1 ((w7S _ _ _ _ HX1.out (by decide)).trans HX1.out);have w7z1:=(blk7 ((w7S _ _ _ _ HJ1.out (by decide)).trans HJ1.out)).2.1;have w7S:=hide w7S;clear w7o w7h w7a w7t)
  refine hKK.out _ _ (by(try dsimp only);go_keep) (fun hHeld=>?_)
  clear hKK KK
  try simp only[Act.put,List.setIfInBounds_toArray,List.set_cons_zero,List.set_cons_succ]
  refine wpAnyH_take (i:=18) (oi:={ dst:=some 5,op:=Op.assign (Operand.tmp 44),type:=157,pos:=_,after:=_,guard:=none }) (v:=?vc18) rfl (by kernel_rfl) (by kernel_rfl) (by kernel_rfl) (fun _ _ _ h=>h) (Or.inl ⟨by rfl,?yc18⟩) (by assumption) ?rc18
  case yc18=>(intro w hSw;(try dsimp only at hSw);go_simp;try with_reducible rfl)
  try simp only[Act.put,List.setIfInBounds_toArray,List.set_cons_zero,List.set_cons_succ]
  refine wpAnyH_done (by kernel_rfl) ?_ _
  all_goals
   have s5:=W5H.out.size
   have s6:=W6H.out.size
   have s7:=W7H.out.size
   rw[World.size_alloc]at s7
   have sx:=HBx.out.size
   have n67:Nst w6 w7:=(nst_below ((Below.refl _ _).alloc (Nat.le_refl _) _)).trans (nst_grown W7H.out (((HSx.out.below W5H.out).below W6H.out).own.alloc _))
   have n57:Nst w5 w7:=(nst_below W6H.out).trans n67
   have nx7:Nst w4.drew w7:=(nst_below W5H.out).trans n57
   have HB7:Hid (Below w.heap.size w w7):=(((HBx.out.trans (W5H.out.mono sx)).trans (W6H.out.mono (by omega))).alloc (by omega) _).grown W7H.out (by simp;omega) (fun g2 e2=>owns_ge (HSx.out.own) e2)
   have x0:=(W5N0.out.box (K:=K) (w0:=w) sx o).same n57 (by decide)
   have x1:=(W5N1.out.box (K:=K) (w0:=w) sx o).same n57 (by decide)
   have x2:=(W5N2.out.box (K:=K) (w0:=w) sx o).same n57 (by decide)
   have x3:=(W6N0.out.box (K:=K) (w0:=w) (Nat.le_trans sx s5) o).same n67 (by decide)
   have x4:=(W6N1.out.box (K:=K) (w0:=w) (Nat.le_trans sx s5) o).same n67 (by decide)
   rw[←HNe.out]at x1 x4
   rw[←HR.out]at x2
   have hgw:w7.heap[g]?=w.heap[g]?:=HB7.out.block g (lt_of_block HD.out)
   have HS7:Hid (Srow w.heap.size w7 (ext K w.heap.size (o,4)) o d jb (some ⟨w7g,0,none⟩) ((0+2)+2) w7c (([]++[.cut J.name gn,.mend])++[.app J.name r,.sync J.name]) (([]++[.func (.func 137) #[] #[.pointer (some ⟨w2b0,0,none⟩),.pointer (some ⟨w2b1,0,none⟩),.pointer (some ⟨w2b2,0,none⟩)],.func (.func 138) #[] #[.pointer (some ⟨w3b0,0,none⟩)]])++[.func (.func 139) #[] #[.pointer (some ⟨w5b0,0,none⟩),.pointer (some ⟨w5b1,0,none⟩),.pointer (some ⟨w5b2,0,none⟩)],.func (.func 140) #[] #[.pointer (some ⟨w6b0,0,none⟩),.pointer (some ⟨w6b1,0,none⟩)]])):=HSx.out.more nx7 (by omega) rfl W7O.out (fun i s hs=>by
    rcases two_some hs with ⟨rfl,rfl⟩ | ⟨rfl,rfl⟩
    ·exact⟨_,rfl,w5b0,w5b1,w5b2,g,q,c,rfl,x0,x1,x2,HNm.out,HKg.out,⟨D,fr,hgw.trans HD.out⟩,bytes_kept HBy.out HB7.out.size (fun g' o' e hg=>by cases e;exact hgw),by rw[HR.out];exact hrl⟩
    ·exact⟨_,rfl,w6b0,w6b1,rfl,x3,x4,HNm.out⟩)
   have w7z5:=(blk7 ((w7S.out _ _ _ _ HJ1.out (by decide)).trans HJ1.out)).2.2.2.2.2.1
   clear s5 s6 s7 n67 n57 nx7 x0 x1 x2 x3 x4 hgw W5N0 W5N1 W5N2 W6N0 W6N1 W5H W6H W7H W7O HBx HSx
   cases hN:J.named
   ·rw[hN]at w7z5 HRs
    have HE:Hid (ss=(([]++[.cut J.name gn,.mend])++[.app J.name r,.sync J.name])++[.names]):=by show _=_;rw[HRs.out];simp
    have s7:=HB7.out.size
    go_wp2_with (at_builtin;refine wpList_append_lies _ rfl (.tmp 50) (.tmp 53) 157 rfl w.heap.size 158 i0 .nilFunc 1 8 Tryz.underlying157 hi hz0 hz1 hz2 rfl (by omega) (.slice (some ⟨w7g,0,none⟩) ((0+2)+2) w7c) ((0+2)+2) (([]++[.func (.func 137) #[] #[.pointer (some ⟨w2b0,0,none⟩),.pointer (some ⟨w2b1,0,none⟩),.pointer (some ⟨w2b2,0,none⟩)],.func (.func 138) #[] #[.pointer (some ⟨w3b0,0,none⟩)]])++[.func (.func 139) #[] #[.pointer (some ⟨w5b0,0,none⟩),.pointer (some ⟨w5b1,0,none⟩),.pointer (some ⟨w5b2,0,none⟩)],.func (.func 140) #[] #[.pointer (some ⟨w6b0,0,none⟩),.pointer (some ⟨w6b1,0,none⟩)]]) rfl (HS7.out.own.alloc _) ⟨w7.heap.size,0,none⟩ 1 1 [.func (.func 99) #[.pointer (some ⟨d,0,none⟩)] #[]] rfl rfl (World.news_of_block (heap_alloc_new w7 (.cells #[.func (.func 99) #[.pointer (some ⟨d,0,none⟩)] #[]] 158))) (by simp[Value.oneCell']) (by omega) (by unfold maxLen;omega) (by omega) (by simp;omega) _ rfl ?_;intro w8g w8c w8 w8o w8h w8a w8t;have W8O:=hide w8o;have W8H:=hide w8h)
    have s8:=W8H.out.size
    rw[World.size_alloc]at s8
    have n78:Nst w7 w8:=(nst_below ((Below.refl _ _).alloc (Nat.le_refl _) _)).trans (nst_grown W8H.out (HS7.out.own.alloc _))
    have HB8:Hid (Below w.heap.size w w8):=(HB7.out.alloc s7 _).grown W8H.out (by simp;omega) (fun g2 e2=>owns_ge HS7.out.own e2)
    have HS8:=hide (HS7.out.more (ts:=[.names]) (us:=[.func (.func 99) #[.pointer (some ⟨d,0,none⟩)] #[]]) n78 (by omega) rfl W8O.out (fun i s hs=>by obtain⟨rfl,rfl⟩:=one_some hs;exact⟨_,rfl,rfl⟩))
    clear w8o w8h w8a w8t n78 s8
    go_wp2
    go_ret
    rw[HE.out]
    exact⟨_,_,_,_,rfl,HS8.out,HB8.out⟩
   ·rw[hN]at w7z5 HRs
    have HE:Hid (ss=([]++[.cut J.name gn,.mend])++[.app J.name r,.sync J.name]):=by show _=_;rw[HRs.out];simp
    go_wp2
    go_ret
    rw[HE.out]
    exact⟨_,_,_,_,rfl,HS7.out,HB7.out⟩
end Go.Proofs.YtcceejdaokoihaaGreatDoor
