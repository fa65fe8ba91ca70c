import Derived.Test.YtiogibfhafoapaaGreatJgE
import Derived.Test.YtiogibfhafoapaaGreatBh0
import Derived.Test.YtiogibfhafoapaaGreatDcJ
import Derived.Test.YtiogibfhafoapaaGreatFsB
set_option maxRecDepth 100000
set_option maxHeartbeats 8000000
set_option linter.unusedSimpArgs false
set_option linter.unusedVariables false
namespace Go.Proofs.YtiogibfhafoapaaGreat
open Go.RowKit
open Z (Sli SlOk SlOwn Elt Acd AcdOk AcOwn Ctr ctc CtrB)
theorem Tryz.sizeO:(Tryz.prog.info? 57).map (·.size)=some 20:=by kernel_rfl
theorem Tryz.sizeW:(Tryz.prog.info? 61).map (·.size)=some 4:=by kernel_rfl
structure Scd where
 p:Z.Cnf
 st:Sli Stp
def Scd.arr (d:Scd):Array Value:=#[.int .i64 d.p.tills,.slice d.p.ctr.p d.p.ctr.n d.p.ctr.c,.slice d.p.prc.p d.p.prc.n d.p.prc.c,.int .i64 d.p.lease,.int .i64 d.p.watch,.int .i64 d.p.beat,.int .i64 d.p.window,.int .i64 d.p.cap,.int .i64 d.p.flight,.slice d.st.p d.st.n d.st.c]
structure Gs (w W:World) (P D:Array Value) (cb sb:Nat) (c:Cfg) (cs:List Ctr) (s:Sta):Prop where
 lb:W.heap[w.heap.size]?=some (.cells P 28 (0,0))
 kb:W.heap[cb]?=some (.cells D 34 (0,0))
 zb:W.heap[sb]?=some (.cells s.arr 42 (0,0))
 cf:∃w1,CfgOk w1 c cs∧Below w1.heap.size w1 W∧w1.heap.size≤sb
 st:StG W c s
 ow:∃B,StaOw B W s
 lt:w.heap.size≤sb
 bel:Below w.heap.size w W
theorem Gs.below {w W W':World} {P D:Array Value} {cb sb:Nat} {c:Cfg} {cs:List Ctr} {s:Sta} (h:Gs w W P D cb sb c cs s) (hb:Below W.heap.size W W'):Gs w W' P D cb sb c cs s:=by
 obtain⟨w1,h1,h2,h3⟩:=h.cf;obtain⟨B,h4⟩:=h.ow;exact⟨(hb.block _ (ac_lt h.lb)).trans h.lb,(hb.block _ (ac_lt h.kb)).trans h.kb,(hb.block _ (ac_lt h.zb)).trans h.zb,⟨w1,h1,h2.trans (hb.mono h2.size),h3⟩,h.st.below hb,⟨B,h4.below hb⟩,h.lt,h.bel.trans (hb.mono h.bel.size)⟩
theorem Gs.cfg {w W:World} {P D:Array Value} {cb sb:Nat} {c:Cfg} {cs:List Ctr} {s:Sta} (h:Gs w W P D cb sb c cs s):CfgOk W c cs:=by
 obtain⟨w1,h1,h2,_⟩:=h.cf;exact h1.below h2
theorem Gs.put {w W:World} {P D:Array Value} {cb sb:Nat} {c:Cfg} {cs:List Ctr} {s r:Sta} (h:Gs w W P D cb sb c cs s) (hr:StG W c r) (ho:(∃B,StaOw B W r)∨r=s):Gs w (W.setRow sb r.arr) P D cb sb c cs r:=by
 obtain⟨w1,h1,h2,h3⟩:=h.cf;obtain⟨B,h4⟩:∃B,StaOw B W r:=by rcases ho with ho | rfl;exact ho;exact h.ow
 have h5:=h4.far (W':=W.setRow sb r.arr) (fun g C t hg ht=>setRow_other _ _ _ _ (by rintro rfl;rw[h.zb]at hg;cases hg;exact not_mut rfl ht));refine⟨?_,?_,setRow_heap _ _ _ _ _ _ h.zb,⟨w1,h1,below_setRow h2 h3 _,h3⟩,⟨h5.ok,hr.shp,hr.wf⟩,⟨B,h5⟩,h.lt,below_setRow h.bel h.lt _⟩
 ·rw[setRow_other _ _ _ _ (by rintro rfl;have h6:=h.lb;rw[h.zb]at h6;cases h6)];exact h.lb
 ·rw[setRow_other _ _ _ _ (by rintro rfl;have h6:=h.kb;rw[h.zb]at h6;cases h6)];exact h.kb
theorem own_row {W:World} {B k n g:Nat} {e t:TypeId} {v:Value} {xs:List Value} {C:Array Value} (h:W.ownsRow B e k v n xs) (hg:W.heap[g]?=some (.cells C t (0,0))) (ht:t≠e) (E:Array Value):(W.setRow g E).ownsRow B e k v n xs :=
 owns_same h (fun g2 e2=>setRow_other _ _ _ _ (by rintro rfl;exact Z.owns_ne h hg ht e2.symm))
theorem own_cell {W:World} {B k n g i:Nat} {e t:TypeId} {v u:Value} {xs:List Value} {C:Array Value} (h:W.ownsRow B e k v n xs) (hg:W.heap[g]?=some (.cells C t (0,0))) (ht:t≠e):(W.setCell ⟨g,i,none⟩ u).ownsRow B e k v n xs:=by
 rw[setCell_eq_setRow _ _ _ _ _ _ _ hg];exact own_row h hg ht _
theorem judge9_any (w:World) (s:Sta) (hs:StaOk w s) (a:Acd) (ha:AcdOk w a) (hz:AcWf a) :
  Calls Tryz.prog 14 #[.agg s.arr,.agg a.arr] w fun e w'=>∃vp vn vc up un uc,e=.returned (.agg #[.int .i64 (judgeT s a).1,.slice vp vn vc,.slice up un uc,.int .i64 (judgeT s a).2.2.2])∧vn=(judgeT s a).2.1.length∧un=(judgeT s a).2.2.1.length∧TwoRows w.heap.size w' (.slice vp vn vc) (.slice up un uc) (judgeT s a).2.1 (judgeT s a).2.2.1∧Below w.heap.size w w':=by
 obtain⟨S,hS⟩:∃S,s.arr=S:=⟨_,rfl⟩;obtain⟨A,hA⟩:∃A,a.arr=A:=⟨_,rfl⟩;obtain⟨r,hr⟩:∃r,judgeT s a=r:=⟨_,rfl⟩;have HSz:Hid (S.size=6):=by show _=_;rw[←hS];rfl
 have HAz:Hid (A.size=15):=by show _=_;rw[←hA];rfl
 obtain⟨w2,hw2⟩:∃W,((w.alloc (.cells S 42)).alloc (.cells A 55)).alloc (.cells #[.int .i64 0,.slice none 0 0,.slice none 0 0,.int .i64 0] 61)=W:=⟨_,rfl⟩;have hb2:Below w.heap.size w w2:=by rw[←hw2];exact(((Below.refl _ w).alloc (Nat.le_refl _) _).alloc (by simp) _).alloc (by simp;omega) _
 have hx2:w2.heap[w.heap.size]?=some (.cells S 42 (0,0)):=by rw[←hw2,Below.heap_alloc _ _ _ (by simp only[World.size_alloc];omega),Below.heap_alloc _ _ _ (by simp)];exact heap_alloc_new _ _
 have hy2:w2.heap[w.heap.size+1]?=some (.cells A 55 (0,0)):=by rw[←hw2,Below.heap_alloc _ _ _ (by simp)];exact heap_alloc2_new _ _ _
 have hz2:w2.heap[w.heap.size+1+1]?=some (.cells #[.int .i64 0,.slice none 0 0,.slice none 0 0,.int .i64 0] 61 (0,0)):=by
  have h:=heap_alloc_new ((w.alloc (.cells S 42)).alloc (.cells A 55)) (.cells #[.int .i64 0,.slice none 0 0,.slice none 0 0,.int .i64 0] 61);rw[hw2]at h;simp only[World.size_alloc]at h;exact h
 have HJ:=hide (judge_any w2 s (hs.below hb2) a (ha.below hb2) hz);rw[hS,hA,hr]at HJ;have HLs:=hide (Z.loadAt_row (P:=Tryz.prog) (ty:=42) hx2 Tryz.underlying42 rfl (by rw[HSz.out];exact Tryz.sizeS));have HLa:=hide (Z.loadAt_row (P:=Tryz.prog) (ty:=55) hy2 Tryz.underlying55 rfl (by rw[HAz.out];exact Z.Tryz.sizeA));have HW2:=hide hw2;have HB2:=hide hb2;have HZ2:=hide hz2;rw[hr,hS,hA];clear hr hS hA hs ha hz hw2 hb2 hx2 hy2 hz2;obtain⟨r1,L,M,r4⟩:=r;go_enter Tryz.func14,Tryz.ntmps14;go_upto_region 1 with (fail);rw[HW2.out]
 go_wp2_with (
  first
  | ((with_reducible show wpList _ _ _ (⟨_,.load 42 (.tmp 2),_,_,_,_⟩ :: _) _ _);refine Z.lp_load w.heap.size 0 S rfl HLs.out ?_)
  | ((with_reducible show wpList _ _ _ (⟨_,.load 55 (.tmp 3),_,_,_,_⟩ :: _) _ _);refine Z.lp_load (w.heap.size+1) 0 A rfl HLa.out ?_)
  | (go_at_call 42;refine HJ.out.mono ?_;rintro e w3 ⟨v,u,rfl,ht,hb3⟩;obtain⟨vp,vc,rfl⟩:=own_form ht.1;obtain⟨up,uc,rfl⟩:=own_form ht.2;have HT:=hide ht;have HB3:=hide hb3;have HZ3:Hid (w3.heap[w.heap.size+1+1]?=some (.cells #[.int .i64 0,.slice none 0 0,.slice none 0 0,.int .i64 0] 61 (0,0))):=((hb3.block _ (ac_lt HZ2.out)).trans HZ2.out);have HSt:=hide (Z.storeAt_row (P:=Tryz.prog) (c':=#[.int .i64 r1,.slice vp L.length vc,.slice up M.length uc,.int .i64 r4]) HZ3.out Tryz.sizeW rfl (by simp[Value.oneCell']));clear ht hb3)
  | ((with_reducible show wpList _ _ _ (⟨_,.store 61 (.tmp 4) _,_,_,_,_⟩ :: _) _ _);refine Z.lp_store (t:=61) (x:=.tmp 4) (some ⟨w.heap.size+1+1,0,none⟩) (.agg #[.int .i64 r1,.slice vp L.length vc,.slice up M.length uc,.int .i64 r4]) rfl rfl HSt.out ?_)
  | fail)
 refine bodyPost_ret (results_cell_row rfl _ _ (w.heap.size+1+1) 61 #[.int .i64 r1,.slice vp L.length vc,.slice up M.length uc,.int .i64 r4] (0,0) _ rfl (setRow_heap _ _ _ _ _ _ HZ3.out) Tryz.underlying61 rfl Tryz.sizeW) rfl ?_;exact⟨vp,_,vc,up,_,uc,rfl,rfl,rfl,⟨Z.owns_le (own_row HT.out.1 HZ3.out (by decide) _) HB2.out.size,Z.owns_le (own_row HT.out.2 HZ3.out (by decide) _) HB2.out.size⟩,below_setRow (HB2.out.trans (HB3.out.mono HB2.out.size)) (by omega) _⟩
def plainA (q:Acd) (st g:Sli Tri) (m:Int):Acd:={ q with guards:=g,sets:=st,mg:=m,other:=⟨none,0,0,[]⟩ }
def nilT:Sli Tri:=⟨none,0,0,[]⟩
theorem plain_judge (s:Sta) (q:Acd) (st g:Sli Tri) (hk:q.kind=1) (hs:q.sure=false) (F G:Bool) (hF:(s.fits q.lines.xs && s.opens st.xs)=F) (hG:s.guards g.xs=G) :
  judgeT s (plainA q st nilT 0)=(if F then (1,q.lines.xs,st.xs.map s.raise,0) else (3,[],[],0)) ∧
  judgeT s (plainA q st g 3)=(if G && F then (1,q.lines.xs,st.xs.map s.raise,0) else if F then (2,q.lines.xs,st.xs.map s.raise,0) else (3,[],[],0)) ∧
  judgeT s (plainA q st g 0)=(if G && F then (1,q.lines.xs,st.xs.map s.raise,0) else (3,[],[],0)):=by
 have hn:s.guards nilT.xs=true:=rfl;refine⟨?_,?_,?_⟩ <;> · unfold judgeT writeT mergeT plainA;simp only[hk,hs,hn,hG,Bool.and_assoc,hF];cases F <;> cases G <;> simp
theorem three_rules (s:Sta) (q:Acd) (st g:Sli Tri) (hk:q.kind=1) (hs:q.sure=false) (F G:Bool) (hF:(s.fits q.lines.xs && s.opens st.xs)=F) (hG:s.guards g.xs=G) :
  ∃(t u v:Int) (tl vl:List Lin) (ts vs:List Tri),judgeT s (plainA q st nilT 0)=(t,tl,ts,0)∧judgeT s (plainA q st g 3)=(u,tl,ts,0)∧judgeT s (plainA q st g 0)=(v,vl,vs,0)∧(t == 1)=F∧(u != 3)=F∧(v == 1)=(G && F)∧(u == 1)=(G && F)∧tl.length≤q.lines.xs.length∧ts.length≤st.xs.length:=by
 obtain⟨h1,h2,h3⟩:=plain_judge s q st g hk hs F G hF hG;cases F <;> cases G
 ·exact⟨3,3,3,[],[],[],[],h1,h2,h3,rfl,rfl,rfl,rfl,Nat.zero_le _,Nat.zero_le _⟩
 ·exact⟨3,3,3,[],[],[],[],h1,h2,h3,rfl,rfl,rfl,rfl,Nat.zero_le _,Nat.zero_le _⟩
 ·exact⟨1,2,3,_,_,_,_,h1,h2,h3,rfl,rfl,rfl,rfl,Nat.le_refl _,by simp⟩
 ·exact⟨1,1,1,_,_,_,_,h1,h2,h3,rfl,rfl,rfl,rfl,Nat.le_refl _,by simp⟩
def anyV (x:Tri):Tri:=⟨x.a,-1,x.n⟩
def verR (k:Nat) (xs:List Tri):List Tri:=(xs.take k).map anyV++xs.drop k
theorem verR_len (k:Nat) (xs:List Tri):(verR k xs).length=xs.length:=by unfold verR;simp;omega
theorem verR_get {k:Nat} {xs:List Tri} {x:Tri} (h:xs[k]?=some x):(verR k xs)[k]?=some x:=by
 have hk:=(List.getElem?_eq_some_iff.1 h).1;unfold verR;rw[List.getElem?_append_right (by simp;omega),List.length_map,List.length_take,List.getElem?_drop];rw[show k+(k - min k xs.length)=k by omega];exact h
theorem verR_set {k:Nat} {xs:List Tri} {x:Tri} (h:xs[k]?=some x):(verR k xs).set k (anyV x)=verR (k+1) xs:=by
 have hk:=(List.getElem?_eq_some_iff.1 h).1;have e:xs.drop k=x :: xs.drop (k+1):=by rw[List.drop_eq_getElem_cons hk];congr 1;exact Option.some.inj ((List.getElem?_eq_getElem hk).symm.trans h)
 unfold verR;rw[Z.take_snoc h,e,List.set_append_right _ _ (by simp;omega)];simp[Nat.min_eq_left (Nat.le_of_lt hk)]
theorem tri_set (xs:List Tri):∀(k:Nat) (x:Tri),xs[k]?=some x→(Z.flat tric xs).set (k*3+1) (.int .i64 (-1))=Z.flat tric (xs.set k (anyV x)):=by
 induction xs with
 | nil=>intro k x h;simp at h
 | cons y ys ih =>
  intro k x h
  cases k with
  | zero =>
   simp only[List.getElem?_cons_zero,Option.some.injEq]at h;subst h;simp[Z.flat,tric,anyV]
  | succ k =>
   have:=ih k x (by simpa using h);rw[show (k+1)*3+1=(k*3+1)+1+1+1 by omega];simp only[Z.flat,List.flatMap_cons,List.set_cons_succ]at this ⊢;show tric y++_=_;simp[tric,this]
theorem guard_less {s:Sta} {k:Nat} (hk:k<s.pools.length) (n:Int):s.guard 2 k (n - 1) = !s.guard 1 k n:=by
 unfold Sta.guard;have h:hasAt s.pools (k:Int)=true:=by unfold hasAt;simp;omega
 simp[h];by_cases h2:n≤(getAt s.pools pl0 (k:Int)).v
 ·simp[h2];omega
 ·simp[h2];omega
theorem guard_more {s:Sta} {k:Nat} (hk:k<s.pools.length) (n:Int):s.guard 1 k (n+1) = !s.guard 2 k n:=by
 unfold Sta.guard;have h:hasAt s.pools (k:Int)=true:=by unfold hasAt;simp;omega
 simp[h];by_cases h2:(getAt s.pools pl0 (k:Int)).v≤n
 ·simp[h2];omega
 ·simp[h2];omega
theorem fir_shp {c:Cfg} {S:Sta} {B T:Nat} {W:World} {cs:List Ctr} {ps:List (ByteArray × Int)} (ho:StaOw B W S) (hd:S.d=firD T c.cl c.pl T cs ps) (hc:cs.length=c.cl) (hp:ps.length=c.pl) (ht:c.tills=(T:Int)):Shp c S:=by
 have h1:S.pools.map Pl.d=(cs.take c.cl).map (firPl T):=congrArg StP.pools hd;have h2:S.prices=(ps.take c.pl).map firPr:=congrArg StP.prices hd;have h3:S.last=List.replicate T 0:=congrArg StP.last hd;have h4:S.gen=List.replicate T 0:=congrArg StP.gen hd;have h5:S.owed=List.replicate T false:=congrArg StP.owed hd;refine⟨?_,?_,?_,?_,?_,fun p hp'=>?_⟩
 ·have h:=congrArg List.length h1
  rw[List.length_map,List.length_map,List.length_take,hc]at h;have:=ho.pn;omega
 ·have h:=congrArg List.length h2
  rw[List.length_map,List.length_take,hp]at h;have:=ho.rn;omega
 ·have h:=congrArg List.length h3
  rw[List.length_replicate]at h;have:=ho.ln;omega
 ·have h:=congrArg List.length h4
  rw[List.length_replicate]at h;have:=ho.gn;omega
 ·have h:=congrArg List.length h5
  rw[List.length_replicate]at h;have:=ho.on;omega
 ·have h6:p.d∈(cs.take c.cl).map (firPl T):=by rw[←h1];exact List.mem_map.2 ⟨p,hp',rfl⟩
  obtain⟨x,_,e⟩:=List.mem_map.1 h6;have h7:p.hs=List.replicate T ⟨0,0⟩:=(congrArg PlP.hs e).symm;have h8:=ho.hlen p hp';rw[h7,List.length_replicate]at h8;omega
theorem fir_frw {S:Sta} {T k m j:Nat} {cs:List Ctr} {ps:List (ByteArray × Int)} (hd:S.d=firD T k m j cs ps) (hb:∀x∈cs,CtrB x):FrWf S.pools:=fun p hp=>by
 have h1:S.pools.map Pl.d=(cs.take k).map (firPl T):=congrArg StP.pools hd;have h6:p.d∈(cs.take k).map (firPl T):=by rw[←h1];exact List.mem_map.2 ⟨p,hp,rfl⟩
 obtain⟨x,hx,e⟩:=List.mem_map.1 h6;obtain⟨b1,b2,b3,b4⟩:=hb x (List.mem_of_mem_take hx);have e1:x.st - x.lo=p.f0:=congrArg PlP.f0 e;have e2:x.hi - x.st=p.f1:=congrArg PlP.f1 e;exact⟨lwf_of (by show _≤p.f0∧p.f0≤_;omega),lwf_of (by show _≤p.f1∧p.f1≤_;omega)⟩
end Go.Proofs.YtiogibfhafoapaaGreat
namespace Go.Proofs.YtiogibfhafoapaaGreat
open Go.RowKit
open Z (Sli SlOk SlOwn Elt Acd AcdOk AcOwn Ctr ctc)
theorem chk_guards {c:Cfg} {a:Acd} (h:ChkV c a 0) (h1:a.kind=1):guardsOk c.cl c.pl a.guards.xs=true:=by
 by_cases hK:KindOk a
 ·by_cases hH:HeadOk c a
  ·have hw:=h.write hK hH h1
   unfold writeChk at hw;by_cases g1:(!linesOk c.cl a.lines.xs || decide (a.lines.xs.length+a.sets.xs.length=0))=true
   ·rw[if_pos g1]at hw;omega
   rw[if_neg g1]at hw;by_cases g2:(!guardsOk c.cl c.pl a.guards.xs)=true
   ·rw[if_pos g2]at hw;omega
   simpa using g2
  ·have:=h.head hK hH;omega
 ·have:=h.kind hK;omega
theorem guard_num {c:Cfg} {xs:List Tri} (h:guardsOk c.cl c.pl xs=true) {x:Tri} (hx:x∈xs) (hk:x.a=1∨x.a=2):∃k:Nat,x.b=(k:Int)∧k<c.cl∧-9007199254740992≤x.n∧x.n≤9007199254740992:=by
 unfold guardsOk at h;simp only[Bool.and_eq_true,List.all_eq_true]at h;have h1:=h.2 x hx;unfold guardOk at h1;rw[if_pos (by omega)]at h1;simp at h1;obtain⟨⟨⟨h2,h3⟩,h4⟩,h5⟩:=h1;exact⟨x.b.toNat,by omega,by omega,by omega,by omega⟩
theorem cells4 {W:World} {b:Nat} {t:TypeId} {x0 x1 x2 x3:Value} (h:W.heap[b]?=some (.cells #[x0,x1,x2,x3] t (0,0))):W.cell? ⟨b,0,none⟩=some x0∧W.cell? ⟨b,1,none⟩=some x1∧W.cell? ⟨b,2,none⟩=some x2∧W.cell? ⟨b,3,none⟩=some x3:=⟨by rw[cell_of_row _ _ _ _ _ _ h];rfl,by rw[cell_of_row _ _ _ _ _ _ h];rfl,by rw[cell_of_row _ _ _ _ _ _ h];rfl,by rw[cell_of_row _ _ _ _ _ _ h];rfl⟩
theorem own_len {W:World} {B k n m:Nat} {e:TypeId} {v:Value} {xs:List Value} (h:W.ownsRow B e k v n xs) (hn:m=n):W.ownsRow B e k v m xs:=by rw[hn];exact h
structure Gb (B:Nat) (w W:World) (q:Acd) (st g:Sli Tri) (m:Int) (bb:Nat):Prop where
 bx:W.heap[bb]?=some (.cells (plainA q st g m).arr 55 (0,0))
 lt:B≤bb
 bel:Below B w W
 ln:SlOwn B W 132 2 linc q.lines
 st:SlOwn B W 76 3 tric st
 rt:SlOwn B W 52 3 tric q.rights
theorem Gb.below {B:Nat} {w W W':World} {q:Acd} {st g:Sli Tri} {m:Int} {bb:Nat} (h:Gb B w W q st g m bb) (hB:B≤W.heap.size) (hb:Below W.heap.size W W'):Gb B w W' q st g m bb :=
 ⟨(hb.block _ (ac_lt h.bx)).trans h.bx,h.lt,h.bel.trans (hb.mono hB),h.ln.below hb,h.st.below hb,h.rt.below hb⟩
theorem sl_row {α:Type} {B:Nat} {W:World} {e t:TypeId} {k:Nat} {f:α→List Value} {s:Sli α} {g:Nat} {C:Array Value} (h:SlOwn B W e k f s) (hg:W.heap[g]?=some (.cells C t (0,0))) (ht:t≠e) (E:Array Value):SlOwn B (W.setRow g E) e k f s:=⟨own_row h.1 hg ht E,h.2⟩
theorem Gb.put {B:Nat} {w W:World} {q:Acd} {st g:Sli Tri} {m:Int} {bb:Nat} (h:Gb B w W q st g m bb) (g':Sli Tri) (m':Int):Gb B w (W.setRow bb (plainA q st g' m').arr) q st g' m' bb :=
 ⟨setRow_heap _ _ _ _ _ _ h.bx,h.lt,below_setRow h.bel h.lt _,sl_row h.ln h.bx (by decide) _,sl_row h.st h.bx (by decide) _,sl_row h.rt h.bx (by decide) _⟩
theorem Gb.ok {B:Nat} {w W:World} {q:Acd} {st g:Sli Tri} {m:Int} {bb:Nat} (h:Gb B w W q st g m bb) (hg:SlOk W 3 tric g):AcdOk W (plainA q st g m) :=
 ⟨h.ln.ok (fun _=>rfl),hg,h.st.ok (fun _=>rfl),⟨rfl,Nat.zero_le _,Or.inl rfl⟩,h.rt.ok (fun _=>rfl)⟩
theorem Gb.setV {B:Nat} {w W:World} {q:Acd} {st g:Sli Tri} {m:Int} {bb:Nat} (h:Gb B w W q st g m bb) {k:Nat} {x:Tri} (hx:st.xs[k]?=some x):∃b,st.p=some ⟨b,0,none⟩∧W.frozen? ⟨b,k*3+1,none⟩=false∧W.cell? ⟨b,k*3+1,none⟩=some (.int .i64 x.b) ∧
  Gb B w (W.setCell ⟨b,k*3+1,none⟩ (.int .i64 (-1))) q ⟨st.p,st.n,st.c,st.xs.set k (anyV x)⟩ g m bb:=by
 obtain⟨b,hp,hlt,⟨C,hC⟩,hf,hc⟩:=row_own h.st.1 (i:=k*3+1) (v:=.int .i64 x.b) (flat_get (f:=tric) (sz:=3) (fun _=>rfl) st.xs k 1 x _ hx rfl);have h1:=h.st.1;rw[hp]at h1;have h2:=(h1.stored (k*3+1) (.int .i64 (-1))).1;rw[tri_set _ k x hx]at h2;have ne:b≠bb:=by rintro rfl;rw[h.bx]at hC;cases hC
 refine⟨b,hp,hf _,hc,?_,h.lt,h.bel.setCell (p:=⟨b,k*3+1,none⟩) hlt _,⟨own_cell h.ln.1 hC (by decide),h.ln.2⟩,⟨?_,?_,h.st.2.2⟩,⟨own_cell h.rt.1 hC (by decide),h.rt.2⟩⟩
 ·rw[setCell_eq_setRow _ _ _ _ _ _ _ hC,setRow_other _ _ _ _ (Ne.symm ne)];exact h.bx
 ·rw[hp];exact h2
 ·simp;exact h.st.2.1
end Go.Proofs.YtiogibfhafoapaaGreat
