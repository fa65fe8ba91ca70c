import Derived.Test.YtcceejdaokoihaaGreatDoorXO
import Derived.Test.YtcceejdaokoihaaGreatDoorXC
import Derived.Test.YtcceejdaokoihaaGreatDoorXH
import Derived.Test.YtcceejdaokoihaaGreatDoorJDec
import Derived.Test.YtcceejdaokoihaaGreatDoorDocI
set_option maxRecDepth 100000
namespace Go.Proofs.YtcceejdaokoihaaGreatDoor
open Go.RowKit Go.Maps
set_option maxHeartbeats 1000000 in
theorem rcopies_any (w:World) (h0:0<w.heap.size) (pp:Option Addr) (k cap:Nat) (ps:List (List Nat)) (hk:ps.length=k) (hkl:k≤4096) (hP:Pts w pp ps) :
  Calls Tryz.prog 61 #[.slice pp k cap] w fun e w'=>∃a c,e=.returned (.slice a k c)∧PtsIn w.heap.size w'.heap.size w' a ps∧Below w.heap.size w w':=by
 obtain⟨i0,hi,hz0,hz1,hz2⟩:=info_parts Tryz.infoRw
 have HP:=hide hP
 have HK:=hide hk
 obtain⟨b,hb⟩:∃b,w.heap.size=b+1:=⟨w.heap.size - 1,by omega⟩
 have HBs:=hide hb
 clear hP hk hb
 go_enter Tryz.func61,Tryz.ntmps61
 go_wp2
 go_loopw [3,4] (fun l i wr=>∃(j c:Nat) (a:Option Addr),j≤k∧i=.int .i64 (j:Int)∧l=.slice a j c∧Hid (Dr wr b a j c (ps.take j))∧Hid (Below w.heap.size w wr)) (fun _ i _=>k - (intOf i).toNat)
 case atStart=>exact⟨0,0,none,Nat.zero_le _,rfl,rfl,hide (by simpa using dr_nil w b),hide (Below.refl _ _)⟩
 case round =>
  obtain⟨j,c,a,hj,rfl,rfl,HDr,HB⟩:=hrel
  by_cases hlt:j<k
  ·have i1:(0:Int)≤(j:Int):=by omega
   have i2:(j:Int)<(k:Int):=by omega
   obtain⟨p,hp⟩:∃p,ps[j]?=some p:=⟨_,List.getElem?_eq_getElem (by rw[HK.out];exact hlt)⟩
   obtain⟨g,o,ap,cp,e1,hg,c0,c1⟩:=(HP.out.below HB.out).at hp
   subst e1
   have hsm:=HP.out.small p (List.mem_of_getElem? hp)
   have HTk:=hide (take_snoc' ps j p hp)
   have HC:=hide (copy_any wr ap p.length cp p rfl c1 (by omega))
   have HSp:=hide c1.small
   obtain⟨pl,hpl⟩:∃pl,p.length=pl:=⟨_,rfl⟩
   rw[hpl]at HC c0
   have HPl:=hide hpl
   have hsz:=HB.out.size
   have hbw:b<wr.heap.size:=by have:=HBs.out;omega
   clear hp c1 hpl
   go_wp2_with fail
   refine HC.out.mono ?_
   rintro e w5 ⟨s,c5,rfl,ho5,hb5⟩
   have HB5:=hide hb5
   have HY5:=hide (owns_bytes ho5 HSp.out)
   have hs5:=hb5.size
   have HN5:Hid (∀q,s=some q→wr.heap.size≤q.block):=fun q e=>by
    rcases ho5.2 with ⟨e1,_⟩ | ⟨g2,_,_,e1,e2,_⟩
    ·rw[e]at e1;cases e1
    ·rw[e]at e1;cases e1;exact e2
   have hbut:C.But b wr w5:=⟨hb5.os,hb5.tape,hb5.output,hb5.size,fun c hc _=>hb5.block c hc⟩
   obtain⟨vs,hv1,hv2⟩:=(HDr.out.but hbut).row
   have HV1:=hide hv1
   have HV2:=hide hv2
   have HRl:Hid (∀g,(Value.slice a j c).ownBlock=some g→g<wr.heap.size):=fun g e=>by
    obtain⟨_,q1,_⟩:=HDr.out.row
    exact rk_lt q1 e
   have HLn:=hide HDr.out.len
   clear ho5 hb5 hbut hv1 hv2 HC
   go_wp2_with (at_builtin;refine wpList_append_lies _ rfl (.tmp 11) (.tmp 17) 31 rfl (b+1) 32 i0 (.slice none 0 0) 1 24 Tryz.underlying31 hi hz0 hz1 hz2 rfl (by omega) (.slice a j c) j vs rfl (HV1.out.alloc _) ⟨w5.heap.size,0,none⟩ 1 1 [.slice s pl c5] rfl rfl (World.news_of_block (heap_alloc_new w5 (.cells #[.slice s pl c5] 32))) (by simp[Value.oneCell']) (by omega) (by unfold maxLen;omega) (by omega) (by simp;omega) _ rfl ?_;intro g' cap' w6 ho6 hg6 hat6 hlt6;have HO6:=hide ho6;have HG6:=hide hg6;have HA6:=hide hat6;clear ho6 hg6 hat6 hlt6)
   have HD6:Hid (Dr w6 b (some ⟨g',0,none⟩) (j+1) cap' (ps.take (j+1))):=by
    show Dr _ _ _ _ _ _
    rw[HTk.out]
    have ho:=HO6.out
    rw[←HPl.out]at ho
    exact Dr.put (wr:=wr) HLn.out HV1.out HV2.out hbw HRl.out HY5.out HN5.out _ ho HG6.out HA6.out
   have HB6:Hid (Below w.heap.size w w6):=((HB.out.trans (HB5.out.mono HB.out.size)).alloc (by omega) _).grown HG6.out (by simp;omega) (fun _ e=>by have:=C.owns_bs HV1.out e;have:=HBs.out;omega)
   go_wp2
   go_roundw
   case rel=>exact⟨j+1,cap',some ⟨g',0,none⟩,by omega,by go_num,rfl,HD6,HB6⟩
   case measure=>simp[intOf];omega
  ·have i2:¬(j:Int)<(k:Int):=by omega
   have ej:j=k:=by omega
   have HD:=HDr.out
   rw[List.take_of_length_le (by rw[HK.out];omega)]at HD
   have hin:=HD.into2 HP.out.small
   rw[←HBs.out]at hin
   have HIn:=hide hin
   subst ej
   clear HD hin
   go_wp2
   go_ret
   exact⟨a,⟨c,rfl⟩,HIn.out,HB.out⟩
set_option maxHeartbeats 1000000 in
theorem rwrong_any (w:World) (K:Knd) (o d jb:Nat) (J:Jr) (h:Rj w K o d jb J) (_hlast:J.last≤1099511627776) (pp:Option Addr) (k cap:Nat) (ps:List (List Nat)) (hk:ps.length=k) (hkl:k≤140737488355328) (hP:Pts w pp ps) :
  Calls Tryz.prog 55 #[.pointer (some ⟨jb,0,none⟩),.slice pp k cap] w fun e w'=>e=.returned (.int .i64 ((if J.off then 52 else if recOk (J.last+1) ps=false then 51 else 0:Nat):Int))∧Below w.heap.size w w':=by
 obtain⟨tv,vs,hm⟩:=h
 have hb:=hm.blk
 have hjl:=lt_of_block hb
 unfold rcells at hb
 obtain⟨q0,q1,q2,q3,q4,q5,q6,q7,q8,qf⟩:=blk9 hb
 have hS:=rsmall_all w pp k cap ps hk hkl hP
 have hrk:recOk (J.last+1) ps=((decide (k≤4096) && decide (25+(partsB ps).length≤4194304)) && decide (J.last+1≤1099511627776)):=by
  unfold recOk
  rw[bodyB_len,hk]
  rw[show decide (12+(partsB ps).length≤4194291)=decide (25+(partsB ps).length≤4194304) from decide_eq_decide.2 (by omega)]
  cases decide (k≤4096) <;> cases decide (25+(partsB ps).length≤4194304) <;> cases decide (J.last+1≤1099511627776) <;> rfl
 rw[hrk]
 generalize (decide (k≤4096) && decide (25+(partsB ps).length≤4194304))=sm at *
 have HS:=hide hS
 clear hS hm hb hP hrk q0 q1 q2 q3 q5 q6 q8
 generalize hN:J.last+1=N at *
 have HN:=hide hN
 clear hN
 cases hof:J.off with
 | true =>
  rw[hof]at q7
  go_enter Tryz.func55,Tryz.ntmps55
  go_wp2
  go_ret
  exact⟨rfl,Below.refl _ _⟩
 | false =>
  rw[hof]at q7
  cases sm with
  | false =>
   go_enter Tryz.func55,Tryz.ntmps55
   go_wp2_with fail
   refine HS.out.mono ?_
   rintro e w1 ⟨rfl,hb1⟩
   have HB1:=hide hb1
   have hc4:=(hb1.cell (p:=⟨jb,4,none⟩) hjl).trans q4
   clear hb1
   go_wp2
   go_ret
   exact⟨rfl,HB1.out⟩
  | true =>
   by_cases hl:N≤1099511627776
   ·have hl':¬(1099511627776:Int)<(N:Int):=by omega
    have hd:decide (N≤1099511627776)=true:=decide_eq_true hl
    rw[hd]
    clear hd
    go_enter Tryz.func55,Tryz.ntmps55
    go_wp2_with fail
    refine HS.out.mono ?_
    rintro e w1 ⟨rfl,hb1⟩
    have HB1:=hide hb1
    have hc4:=(hb1.cell (p:=⟨jb,4,none⟩) hjl).trans q4
    clear hb1
    go_wp2
    go_ret
    exact⟨rfl,HB1.out⟩
   ·have hl':(1099511627776:Int)<(N:Int):=by omega
    have hd:decide (N≤1099511627776)=false:=decide_eq_false hl
    rw[hd]
    clear hd
    go_enter Tryz.func55,Tryz.ntmps55
    go_wp2_with fail
    refine HS.out.mono ?_
    rintro e w1 ⟨rfl,hb1⟩
    have HB1:=hide hb1
    have hc4:=(hb1.cell (p:=⟨jb,4,none⟩) hjl).trans q4
    clear hb1
    go_wp2
    go_ret
    exact⟨rfl,HB1.out⟩
set_option maxHeartbeats 1000000 in
theorem rends_any (w:World) (K:Knd) (o d jb:Nat) (J:Jr) (h:Rj w K o d jb J) (hof:J.off=false) (e:Nat) :
  Calls Tryz.prog 57 #[.pointer (some ⟨jb,0,none⟩),.int .i64 (e:Int)] w fun r w'=>r=.returned (.int .i64 (e:Int))∧Rj w' K o d jb { J with off:=decide (e=45) }∧Kp (fun k=>k=(o,1)) K K w w':=by
 obtain⟨tv,vs,hm⟩:=h
 have hb:=hm.blk
 have HM:=hide hm
 have HBl:=hide hb
 unfold rcells at hb
 obtain⟨q0,q1,q2,q3,q4,q5,q6,q7,q8,qf⟩:=blk9 hb
 have f7:=qf 7
 clear hm hb q0 q1 q2 q3 q4 q5 q6 q8
 by_cases he:e=45
 ·subst he
  go_enter Tryz.func57,Tryz.ntmps57
  go_wp2
  go_ret
  have kp:Kp (fun k=>k=(o,1)) K K w (w.setCell ⟨jb,7,none⟩ (.bool true)):=(Kp.refl _ K w).setCell (b:=jb) (Or.inr HM.out.kj) _ _
  exact⟨rfl,⟨tv,vs,HM.out.turn kp (by rw[block_set HBl.out];rfl) rfl⟩,kp⟩
 ·have he':¬(e:Int)=45:=by omega
  have he2:((e:Int) == 45)=false:=by simp;omega
  go_enter Tryz.func57,Tryz.ntmps57
  go_wp2
  go_ret
  have e2:({ J with off:=decide (e=45) } : Jr)=J:=by
   rw[decide_eq_false he,←hof]
  rw[e2]
  exact⟨rfl,⟨tv,vs,HM.out⟩,Kp.refl _ _ _⟩
theorem rname_any (w:World) (x:Nm) (hxl:x.length≤140737488351232):Calls Tryz.prog 109 #[.string ⟨x.toArray⟩] w fun e w'=>e=.returned (.bool (nmOk x))∧∃q,w'=w.drewN q:=by
 have hsa:=str_add x
 have hsz:(⟨x.toArray⟩:ByteArray).size≤140737488351232:=by simpa[ByteArray.size] using hxl
 have H1:=hide (fun w=>isName_any w x)
 have H2:=hide (fun w=>isName_any w (x++newE))
 have HE:Hid (nmOk x=(isNm x && isNm (x++newE))):=rfl
 generalize nmOk x=B at *
 generalize hs1:(⟨x.toArray⟩:ByteArray)=s1 at *
 generalize hs2:(⟨(x++newE).toArray⟩:ByteArray)=s2 at *
 clear hs1 hs2
 cases hn:isNm x with
 | false =>
  obtain rfl:B=false:=by rw[HE.out,hn];rfl
  rw[hn]at H1
  clear hn HE
  go_enter Tryz.func109,Tryz.ntmps109
  go_wp2_with (go_at_call 120;refine(H1.out _).mono ?_;rintro e w1 ⟨rfl,rfl⟩)
  go_ret
  exact⟨rfl,0,rfl⟩
 | true =>
  obtain⟨b2,hb2⟩:∃b2,isNm (x++newE)=b2:=⟨_,rfl⟩
  obtain rfl:B=b2:=by rw[HE.out,hn,hb2];rfl
  rw[hn]at H1
  rw[hb2]at H2
  clear hn HE hb2
  go_enter Tryz.func109,Tryz.ntmps109
  go_wp2_with fail
  refine(H1.out _).mono ?_
  rintro e w1 ⟨rfl,rfl⟩
  go_wp2_with fail
  refine(H2.out _).mono ?_
  rintro e w1 ⟨rfl,rfl⟩
  go_wp2
  go_ret
  exact⟨rfl,0,rfl⟩
def ROpened (w:World) (K:Knd) (o d:Nat) (S:St) (x:Nm) (e:Ending) (w':World):Prop :=
 ∃K',Kp (fun _=>False) K K' w w'∧((openE S x=0∧∃jb,e=.returned (.tuple #[.pointer (some ⟨jb,0,none⟩),.int .i64 0])∧Rj w' K' o d jb (jnew x (S.found x)))∨(openE S x≠0∧e=.returned (.tuple #[.pointer none,.int .i64 (openE S x:Int)])))
theorem below_un3 {w w3:World} {q:Nat} (h:Below (w.drewN q).heap.size (w.drewN q) w3):Below w.heap.size w w3:=⟨h.os,h.tape,h.output,h.size,h.block⟩
def okK (K:Knd) (n jb:Nat) (v:Value) (o:Nat):Knd:=fun b=>if b<n then K b else if b=jb then (o,1) else if v.ownBlock=some b then (o,2) else (o,3)
theorem ropen_made {w w2 w3:World} {K:Knd} {o d:Nat} {x:Nm} {R:List (List Nat) × Nat × Bool × Nat} {rp:Option Addr} {k c:Nat} (hk:R.1.length=k) (h2:Below w.heap.size w w2) (h3:Below w2.heap.size w2 w3) (hT:Tr2 w2.heap.size w3 rp k c (allOf R.1)) :
  Kp (fun _=>False) K (okK K w.heap.size w3.heap.size (.slice rp k c) o) w (w3.alloc (.cells (rcells d (jnew x R) (.slice rp k c)) 116))∧Rj (w3.alloc (.cells (rcells d (jnew x R) (.slice rp k c)) 116)) (okK K w.heap.size w3.heap.size (.slice rp k c) o) o d w3.heap.size (jnew x R):=by
 have hb:Below w.heap.size w (w3.alloc (.cells (rcells d (jnew x R) (.slice rp k c)) 116)):=(h2.trans (h3.mono h2.size)).alloc (Nat.le_trans h2.size h3.size) _
 have hs2:=h2.size
 have hs3:=h3.size
 obtain⟨vs,hv1,hv2⟩:=hT.row
 have hlt:∀g,(Value.slice rp k c).ownBlock=some g→w2.heap.size≤g∧g<w3.heap.size:=fun g e=>⟨C.owns_bs hv1 e,rk_lt hv1 e⟩
 refine⟨⟨hb.os,hb.tape,hb.output,hb.size,fun b hlb=>by unfold okK;rw[if_pos hlb],fun b hlb _=>hb.block b hlb⟩,.slice rp k c,vs,?_⟩
 refine⟨heap_alloc_new _ _,?_,⟨?_,fun g e=>?_⟩,fun i r hr=>?_⟩
 ·unfold okK
  rw[if_neg (by omega),if_pos rfl]
 ·have:=hv1.alloc (.cells (rcells d (jnew x R) (.slice rp k c)) 116)
  have hr:(jnew x R).recs.length=k:=hk
  rw[hr]
  exact⟨this.1,this.2.imp id fun ⟨g,cap,cur,e1,_,r⟩=>⟨g,cap,cur,e1,Nat.zero_le _,r⟩⟩
 ·have:=hlt g e
  unfold okK
  rw[if_neg (by omega),if_neg (by omega),if_pos e]
 ·have hr':R.1[i]?=some r:=hr
  obtain⟨pp,cp,lo,hi,q1,qB,q2,q3,q4⟩:=hv2 i (partsOf r) (by unfold allOf;rw[List.getElem?_map,hr'];rfl)
  refine⟨pp,cp,q1,(q2.kept (w':=w3.alloc (.cells (rcells d (jnew x R) (.slice rp k c)) 116)) (by simp) (fun b _ hb2=>Below.heap_alloc _ _ _ (by omega))).ptk (by simp;omega) (fun b hb1 hb2=>?_)⟩
  unfold okK
  rw[if_neg (by omega),if_neg (by omega),if_neg (fun e=>by rcases q4 b e with h | h <;> omega)]
set_option maxHeartbeats 2000000 in
theorem ropen_any (w:World) (K:Knd) (od o d:Nat) (S:St) (h:Tk w K od d S) (hv:Inv S) (hb:Fb S) (x:Nm) (hxl:x.length≤140737488351232) :
  Calls Tryz.prog 54 #[.pointer (some ⟨d,0,none⟩),.string ⟨x.toArray⟩] w (ROpened w K o d S x):=by
 have HN:=hide (rname_any w x hxl)
 have HT:=hide h
 have HRd:=hide (fun w1 K1 h1=>tread_any w1 K1 od d S h1 hv hb x)
 have HX:Hid ((⟨x.toArray⟩:ByteArray)=⟨x.toArray⟩):=rfl
 have HF:=hide (goB_facts2 ((S.bytes x).length+1) (S.bytes x) [] 0 (by simp) (by omega))
 have HBl:=hide (bytes_le hv x)
 cases hn:nmOk x with
 | false =>
  have HE:Hid (openE S x=50):=by show _=_;unfold openE;rw[if_pos hn]
  rw[hn]at HN
  clear h hv hb hn
  go_enter Tryz.func54,Tryz.ntmps54
  go_wp2_with fail
  refine HN.out.mono ?_
  rintro e w1 ⟨rfl,hq⟩
  have HQ:=hide hq
  clear hq
  go_wp2
  go_ret2
  obtain⟨q,rfl⟩:=HQ.out
  exact⟨K,(Kp.refl _ K w).drewN q,Or.inr ⟨by rw[HE.out];omega,by rw[HE.out];rfl⟩⟩
 | true =>
  obtain⟨n1,n2⟩:=nm_two hn
  rw[hn]at HN
  cases hoff:S.off with
  | true =>
   have HE:Hid (openE S x=45):=by show _=_;unfold openE;rw[if_neg (by rw[hn];simp),if_pos hoff]
   have he:S.err x=45:=by unfold St.err;rw[if_pos hoff]
   have hby:S.bytes x=[]:=by unfold St.bytes;rw[if_neg (by omega)]
   rw[he,hby]at HRd
   clear h hv hb hn n1 n2 he hby hoff
   go_enter Tryz.func54,Tryz.ntmps54
   go_wp2_with fail
   refine HN.out.mono ?_
   rintro e w1 ⟨rfl,hq⟩
   have HQ:Hid (∃q,w1=w.drewN q):=hq
   have HT1:Hid (Tk w1 K od d S):=by
    obtain⟨q,rfl⟩:=hq
    exact HT.out.kept ((Kp.refl (fun _=>False) K w).drewN q) (fun _ h=>h)
   clear hq
   go_wp2_with fail
   refine(HRd.out _ K HT1.out).mono ?_
   rintro e w2 ⟨a,c,rfl,hl⟩
   have HB2:=hide hl.bel
   clear hl
   go_wp2
   go_ret2
   obtain⟨q,hq⟩:=HQ.out
   subst hq
   exact⟨_,((Kp.refl (fun _=>False) K w).drewN q).trans (kp_below HB2.out _ K (0,0)),Or.inr ⟨by rw[HE.out];omega,by rw[HE.out];rfl⟩⟩
  | false =>
   have HE:Hid (openE S x=(S.found x).2.2.2):=by show _=_;unfold openE;rw[if_neg (by rw[hn];simp),if_neg (by rw[hoff];simp)]
   have her:S.err x=0∨S.err x=42:=by
    unfold St.err
    rw[hoff,n1]
    simp only[Bool.false_eq_true,if_false,if_true]
    split
    ·exact Or.inr rfl
    ·exact Or.inl rfl
   have HFd:Hid (S.found x=goB ((S.bytes x).length+1) (S.bytes x) [] 0):=rfl
   obtain⟨R,hRe⟩:∃R,S.found x=R:=⟨_,rfl⟩
   rw[hRe]at HFd HE
   have HRe:=hide hRe
   clear hRe
   obtain⟨er,heq⟩:∃er,S.err x=er:=⟨_,rfl⟩
   rw[heq]at HRd her
   obtain⟨xs,hxs⟩:∃xs,S.bytes x=xs:=⟨_,rfl⟩
   rw[hxs]at HRd HF HBl HFd
   obtain⟨n,hnl⟩:∃n,xs.length=n:=⟨_,rfl⟩
   have HNl:=hide hnl
   rw[hnl]at HRd HF HBl HFd
   rw[←HFd.out]at HF
   have hbl:=HBl.out
   obtain⟨HE2,HRd2⟩:Hid (openE S x=R.2.2.2)∧True:=⟨HE,trivial⟩
   clear HRd2 h hv hb hn n1 n2 heq hxs hnl hoff
   have hn0:((er:Int) != 0 && (er:Int) != 42)=false:=by rcases her with rfl | rfl <;> rfl
   rcases her with rfl | rfl
   all_goals
    clear hn0
    go_enter Tryz.func54,Tryz.ntmps54
    go_wp2_with fail
    refine HN.out.mono ?_
    rintro e w1 ⟨rfl,hq⟩
    have HQ:Hid (∃q,w1=w.drewN q):=hq
    have HT1:Hid (Tk w1 K od d S):=by
     obtain⟨q,rfl⟩:=hq
     exact HT.out.kept ((Kp.refl (fun _=>False) K w).drewN q) (fun _ h=>h)
    clear hq
    go_wp2_with fail
    refine(HRd.out _ K HT1.out).mono ?_
    rintro e w2 ⟨a,c,rfl,hl⟩
    have HL:=hide hl
    have hcc:=owns_form hl.own
    obtain⟨_,_,hqe,hqc,hqm⟩:=hcc
    cases hqe
    unfold maxLen at hqm
    have HWk:=hide (rwalk_at w2 a n c xs HNl.out hqc (by omega) (by omega) (owns_bytes hl.own hl.small))
    rw[←HFd.out]at HWk
    clear hl
    go_wp2_with fail
    refine HWk.out.mono ?_
    rintro e w3 ⟨rp,c3,rfl,hT3,hb3⟩
    have HT3:=hide hT3
    have HB3:=hide hb3
    clear hT3 hb3 HWk
    obtain⟨k,hk⟩:∃k,R.1.length=k:=⟨_,rfl⟩
    rw[hk]at HT3
    rw[hk]
    have HK:=hide hk
    have HBw:Hid (Below w.heap.size w w2):=by
     obtain⟨q,hq⟩:=HQ.out
     subst hq
     exact below_un3 HL.out.bel
    have HMd:=hide (fun (dd:Nat)=>ropen_made (K:=K) (o:=o) (d:=dd) (x:=x) HK.out HBw.out HB3.out HT3.out)
    have hla:=HF.out.2.1
    clear hk
    rcases HF.out.2.2.2 with h53 | h53
    ·have HZ:=hide h53
     cases ht:R.2.2.1 with
     | true =>
      have hhow:how R=1:=by unfold how;rw[h53,ht];rfl
      rw[hhow]
      have HTt:=hide ht
      have HJ:Hid (rcells d (jnew x R) (.slice rp k c3)=#[.pointer (some ⟨d,0,none⟩),.string ⟨x.toArray⟩,.slice rp k c3,.int .i64 (((R.1.map List.length).sum:Nat):Int),.int .u64 ((R.2.1+1:Nat):Int),.bool true,.bool false,.bool false,.int .i64 0]):=by show _=_;unfold rcells jnew;simp only[ht];rfl
      obtain⟨L,hL⟩:∃L,R.2.1=L:=⟨_,rfl⟩
      rw[hL]at hla HJ
      rw[hL]
      generalize (R.1.map List.length).sum=G at *
      have hL1:(L:Int)+1=((L+1:Nat):Int):=by omega
      have hL2:L+1<18446744073709551616:=by omega
      generalize L+1=L1 at *
      clear hL h53 ht hhow
      go_wp2
      go_ret2
      have:=HMd.out d
      rw[HJ.out]at this
      exact⟨_,this.1,Or.inl ⟨by rw[HE.out];exact HZ.out,_,rfl,by rw[HRe.out];exact this.2⟩⟩
     | false =>
      have hhow:how R=0:=by unfold how;rw[h53,ht];rfl
      rw[hhow]
      have HTt:=hide ht
      have HJ:Hid (rcells d (jnew x R) (.slice rp k c3)=#[.pointer (some ⟨d,0,none⟩),.string ⟨x.toArray⟩,.slice rp k c3,.int .i64 (((R.1.map List.length).sum:Nat):Int),.int .u64 ((R.2.1+1:Nat):Int),.bool false,.bool false,.bool false,.int .i64 0]):=by show _=_;unfold rcells jnew;simp only[ht];rfl
      obtain⟨L,hL⟩:∃L,R.2.1=L:=⟨_,rfl⟩
      rw[hL]at hla HJ
      rw[hL]
      generalize (R.1.map List.length).sum=G at *
      have hL1:(L:Int)+1=((L+1:Nat):Int):=by omega
      have hL2:L+1<18446744073709551616:=by omega
      generalize L+1=L1 at *
      clear hL h53 ht hhow
      go_wp2
      go_ret2
      have:=HMd.out d
      rw[HJ.out]at this
      exact⟨_,this.1,Or.inl ⟨by rw[HE.out];exact HZ.out,_,rfl,by rw[HRe.out];exact this.2⟩⟩
    ·have hhow:how R=2:=by unfold how;rw[h53];rfl
     rw[hhow]
     have HZ:=hide h53
     have HKp:Hid (Kp (fun _=>False) K (ext K w.heap.size (0,0)) w w3):=kp_below (HBw.out.trans (HB3.out.mono HBw.out.size)) _ K (0,0)
     generalize (R.1.map List.length).sum=G at *
     generalize R.2.1=L at *
     clear h53 hhow
     go_wp2
     go_ret2
     exact⟨_,HKp.out,Or.inr ⟨by rw[HE.out,HZ.out];omega,by rw[HE.out,HZ.out];rfl⟩⟩
structure Sd where
 room:Nat
 name:Nm
 S:St
 j:Option Jr
structure Sw (w:World) (K:Knd) (c b:Nat) (X:Sd) (d rd:Nat) (jp rp:Option Addr):Prop where
 blk:w.heap[b]?=some (.cells #[.int .i64 (X.room:Int),.string ⟨X.name.toArray⟩,.pointer (some ⟨d,0,none⟩),.pointer jp,.pointer (some ⟨rd,0,none⟩),.pointer rp] 60 (0,0))
 kb:K b=(c+5,0)
 dk:Dk w K (c+1) d X.S
 tk:Tk w K (c+3) rd X.S
 no:X.j=none→jp=none∧rp=none
 jk:∀J,X.j=some J→∃jb rb,jp=some ⟨jb,0,none⟩∧rp=some ⟨rb,0,none⟩∧Jk w K (c+2) d jb J∧Rj w K (c+4) rd rb J
def Sk (w:World) (K:Knd) (c b:Nat) (X:Sd):Prop:=∃d rd jp rp,Sw w K c b X d rd jp rp
def Os (c:Nat) (k:Nat × Nat):Prop:=c+1≤k.1∧k.1≤c+5
structure Sok (X:Sd) (k:Nat):Prop where
 ok:Okd X.S k
 jok:∀J,X.j=some J→Okj J k
 nm:nmOk X.name=true
 room:X.room≤16777216
theorem Sok.mono {X:Sd} {k k':Nat} (h:Sok X k) (hk:k≤k'):Sok X k':=⟨h.ok.mono hk,fun J e=>(h.jok J e).mono hk,h.nm,h.room⟩
theorem Sw.kept {p:Nat × Nat→Prop} {K K':Knd} {w w':World} {c b:Nat} {X:Sd} {d rd:Nat} {jp rp:Option Addr} (h:Sw w K c b X d rd jp rp) (hk:Kp p K K' w w') (hp:∀i k,1≤i→i≤5→¬p (c+i,k)):Sw w' K' c b X d rd jp rp:=by
 have hl:=lt_of_block h.blk
 refine⟨(hk.block b hl (by rw[h.kb];exact hp 5 0 (by omega) (by omega))).trans h.blk,(hk.same b hl).trans h.kb,h.dk.kept hk (fun k=>hp 1 k (by omega) (by omega)),h.tk.kept hk (fun k=>hp 3 k (by omega) (by omega)),h.no,fun J e=>?_⟩
 obtain⟨jb,rb,e1,e2,h1,h2⟩:=h.jk J e
 exact⟨jb,rb,e1,e2,h1.kept hk (fun k=>hp 2 k (by omega) (by omega)),h2.kept hk (fun k=>hp 4 k (by omega) (by omega))⟩
theorem Sk.kept {p:Nat × Nat→Prop} {K K':Knd} {w w':World} {c b:Nat} {X:Sd} (h:Sk w K c b X) (hk:Kp p K K' w w') (hp:∀i k,1≤i→i≤5→¬p (c+i,k)):Sk w' K' c b X:=by
 obtain⟨d,rd,jp,rp,h⟩:=h
 exact⟨d,rd,jp,rp,h.kept hk hp⟩
theorem Sk.still {K K':Knd} {w w':World} {c b:Nat} {X:Sd} (h:Sk w K c b X) (hk:Kp (fun _=>False) K K' w w'):Sk w' K' c b X:=h.kept hk (fun _ _ _ _ h=>h)
theorem blk6 {w:World} {b:Nat} {x0 x1 x2 x3 x4 x5:Value} {t:TypeId} (h:w.heap[b]?=some (.cells #[x0,x1,x2,x3,x4,x5] t (0,0))) :
  w.cell? ⟨b,0,none⟩=some x0∧w.cell? ⟨b,1,none⟩=some x1∧w.cell? ⟨b,2,none⟩=some x2∧w.cell? ⟨b,3,none⟩=some x3∧w.cell? ⟨b,4,none⟩=some x4∧w.cell? ⟨b,5,none⟩=some x5∧(∀o,w.frozen? ⟨b,o,none⟩=false) :=
 ⟨by simp[World.cell?,h],by simp[World.cell?,h],by simp[World.cell?,h],by simp[World.cell?,h],by simp[World.cell?,h],by simp[World.cell?,h],fun o=>by simp[World.frozen?,h]⟩
def Sd.opened (X:Sd) (x:Nm):Sd:=if openE X.S x=0 then { X with name:=x,j:=some (jnew x (X.S.found x)) } else if openE X.S x=53 then { X with name:=x,j:=none } else X
theorem openE_nm {S:St} {x:Nm} (h:openE S x=0∨openE S x=53):nmOk x=true:=by
 cases e:nmOk x with
 | true=>rfl
 | false=>unfold openE at h;rw[if_pos e]at h;omega
theorem sok_opened {X:Sd} {k:Nat} (h:Sok X k) (x:Nm):Sok (X.opened x) k:=by
 unfold Sd.opened
 split
 ·rename_i e
  exact⟨h.ok,fun J eJ=>by cases eJ;exact okj_open h.ok.inv x (nm_two (openE_nm (Or.inl e))) k,openE_nm (Or.inl e),h.room⟩
 split
 ·rename_i e
  exact⟨h.ok,fun J eJ=>(by cases eJ),openE_nm (Or.inr e),h.room⟩
 ·exact h
theorem okd_fb0 {S:St} {k:Nat} (h:Okd S k) (hk:k≤274877906944):Fb S:=sz_fb h.inv h.sz (by omega)
def SRes (w:World) (K:Knd) (c b:Nat) (Y:Sd) (v:Value) (e:Ending) (w':World):Prop:=∃K',e=.returned v∧Sk w' K' c b Y∧Kp (Os c) K K' w w'
theorem kp_os {c i:Nat} {K K':Knd} {w w':World} (h:Kp (Ow (c+i)) K K' w w') (h1:1≤i) (h2:i≤5):Kp (Os c) K K' w w':=h.mono (fun k e=>by
 have e':k.1=c+i:=e
 unfold Os
 omega)
theorem kp_f {p:Nat × Nat→Prop} {K K':Knd} {w w':World} (h:Kp (fun _=>False) K K' w w'):Kp p K K' w w':=h.mono (fun _ e=>e.elim)
set_option maxHeartbeats 2000000 in
theorem sopen_any (w:World) (K:Knd) (c b:Nat) (X:Sd) (k:Nat) (h:Sk w K c b X) (ho:Sok X k) (hk:k≤274877906944) (hT:C.Tab w) (hK0:K 0=(0,0)) (x:Nm) (hxl:x.length≤140737488351232) :
  Calls Tryz.prog 23 #[.pointer (some ⟨b,0,none⟩),.string ⟨x.toArray⟩] w (SRes w K c b (X.opened x) (.bool true)):=by
 obtain⟨d,rd,jp,rp,hw⟩:=h
 have hb:=hw.blk
 obtain⟨q0,q1,q2,q3,q4,q5,qf⟩:=blk6 hb
 have hbl:=lt_of_block hb
 have HW:=hide hw
 have HO:=hide (Open_all w K (c+1) (c+2) d (by omega) (by omega) X.S hw.dk ho.ok.inv k ho.ok.sz (by omega) x hxl hT hK0)
 have HFb:=hide (okd_fb0 ho.ok hk)
 have HIv:=hide ho.ok.inv
 clear hw hb hT ho
 generalize hsx:(⟨x.toArray⟩:ByteArray)=sx at *
 have HSx:=hide hsx
 clear hsx
 go_enter Tryz.func23,Tryz.ntmps23
 go_wp2_with fail
 refine HO.out.mono ?_
 rintro e w1 ⟨K1,hc⟩
 rcases hc with ⟨he,⟨jb,rfl,hj1⟩,hk1⟩ | ⟨he,rfl,hk1⟩ | ⟨he,rfl,hk1⟩
 ·have HB1:Hid (w1.heap[b]?=_):=(hk1.block b hbl (by rw[HW.out.kb];exact fun e=>by have e':c+5=c+2:=e;omega)).trans HW.out.blk
  obtain⟨y0,y1,y2,y3,y4,y5,yf⟩:=blk6 HB1.out
  have hbl1:=lt_of_block HB1.out
  have HRo:=hide (ropen_any w1 K1 (c+3) (c+4) rd X.S (HW.out.tk.kept hk1 (fun k e=>by have e':c+3=c+2:=e;omega)) HIv.out HFb.out x hxl)
  rw[HSx.out]at HRo
  have HK1:=hide hk1
  have HJ1:=hide hj1
  have HE:=hide he
  clear hk1 hj1 he q0 q1 q2 q3 q4 q5 qf HO
  go_wp2_with fail
  refine HRo.out.mono ?_
  rintro e w2 ⟨K2,hk2,hc2⟩
  rcases hc2 with ⟨_,rb,rfl,hr2⟩ | ⟨hbad,_⟩
  rotate_left
  ·exact absurd HE.out hbad
  have HB2:Hid (w2.heap[b]?=_):=(hk2.block b hbl1 (fun h=>h)).trans HB1.out
  obtain⟨z0,z1,z2,z3,z4,z5,zf⟩:=blk6 HB2.out
  have hbl2:=lt_of_block HB2.out
  have f1:=zf 1
  have f3:=zf 3
  have f5:=zf 5
  have HK2:=hide hk2
  have HR2:=hide hr2
  clear hk2 hr2 y0 y1 y2 y3 y4 y5 yf HRo
  go_wp2
  go_ret
  have hX:X.opened x={ X with name:=x,j:=some (jnew x (X.S.found x)) }:=by unfold Sd.opened;rw[if_pos HE.out]
  have hkb:K2 b=(c+5,0):=(HK2.out.same b hbl1).trans ((HK1.out.same b hbl).trans HW.out.kb)
  have k3:Kp (fun k=>k=(c+5,0)) K2 K2 w2 (((w2.setCell ⟨b,3,none⟩ (.pointer (some ⟨jb,0,none⟩))).setCell ⟨b,5,none⟩ (.pointer (some ⟨rb,0,none⟩))).setCell ⟨b,1,none⟩ (.string sx)):=(((Kp.refl _ K2 w2).setCell (b:=b) (Or.inr hkb) _ _).setCell (b:=b) (Or.inr hkb) _ _).setCell (b:=b) (Or.inr hkb) _ _
  refine⟨K2,rfl,⟨d,rd,some ⟨jb,0,none⟩,some ⟨rb,0,none⟩,?_⟩,((kp_os HK1.out (by omega) (by omega)).trans (kp_f HK2.out)).trans (k3.mono (fun k e=>by rw[e];unfold Os;exact⟨by show c+1≤c+5;omega,by show c+5≤c+5;omega⟩))⟩
  rw[hX]
  have n3:∀i k,i≠5→¬((c+i,k)=(c+5,0)):=fun i k hi e=>by simp at e;omega
  refine⟨?_,hkb,?_,?_,fun e=>(by cases e),fun J e=>?_⟩
  ·rw[block_set (block_set (block_set HB2.out _) _) _,←HSx.out]
   rfl
  ·exact((HW.out.dk.kept HK1.out (fun k e=>by have e':c+1=c+2:=e;omega)).kept HK2.out (fun _ h=>h)).kept k3 (fun k=>n3 1 k (by omega))
  ·exact((HW.out.tk.kept HK1.out (fun k e=>by have e':c+3=c+2:=e;omega)).kept HK2.out (fun _ h=>h)).kept k3 (fun k=>n3 3 k (by omega))
  ·cases e
   exact⟨jb,rb,rfl,rfl,(HJ1.out.kept HK2.out (fun _ h=>h)).kept k3 (fun k=>n3 2 k (by omega)),HR2.out.kept k3 (fun k=>n3 4 k (by omega))⟩
 ·have HB1:Hid (w1.heap[b]?=_):=(hk1.block b hbl (by rw[HW.out.kb];exact fun e=>by have e':c+5=c+2:=e;omega)).trans HW.out.blk
  obtain⟨y0,y1,y2,y3,y4,y5,yf⟩:=blk6 HB1.out
  have hbl1:=lt_of_block HB1.out
  have HRo:=hide (ropen_any w1 K1 (c+3) (c+4) rd X.S (HW.out.tk.kept hk1 (fun k e=>by have e':c+3=c+2:=e;omega)) HIv.out HFb.out x hxl)
  rw[HSx.out]at HRo
  have HK1:=hide hk1
  have HE:=hide he
  clear hk1 he q0 q1 q2 q3 q4 q5 qf HO
  go_wp2_with fail
  refine HRo.out.mono ?_
  rintro e w2 ⟨K2,hk2,hc2⟩
  rcases hc2 with ⟨hbad,_⟩ | ⟨_,rfl⟩
  ·exact absurd (hbad.symm.trans HE.out) (by omega)
  rw[HE.out]
  have HB2:Hid (w2.heap[b]?=_):=(hk2.block b hbl1 (fun h=>h)).trans HB1.out
  obtain⟨z0,z1,z2,z3,z4,z5,zf⟩:=blk6 HB2.out
  have hbl2:=lt_of_block HB2.out
  have f1:=zf 1
  have f3:=zf 3
  have f5:=zf 5
  have HK2:=hide hk2
  clear hk2 y0 y1 y2 y3 y4 y5 yf HRo
  go_wp2
  go_ret
  have hX:X.opened x={ X with name:=x,j:=none }:=by unfold Sd.opened;rw[if_neg (by rw[HE.out];omega),if_pos HE.out]
  have hkb:K2 b=(c+5,0):=(HK2.out.same b hbl1).trans ((HK1.out.same b hbl).trans HW.out.kb)
  have k3:Kp (fun k=>k=(c+5,0)) K2 K2 w2 (((w2.setCell ⟨b,3,none⟩ (.pointer none)).setCell ⟨b,5,none⟩ (.pointer none)).setCell ⟨b,1,none⟩ (.string sx)):=(((Kp.refl _ K2 w2).setCell (b:=b) (Or.inr hkb) _ _).setCell (b:=b) (Or.inr hkb) _ _).setCell (b:=b) (Or.inr hkb) _ _
  refine⟨K2,rfl,⟨d,rd,none,none,?_⟩,((kp_os HK1.out (by omega) (by omega)).trans (kp_f HK2.out)).trans (k3.mono (fun k e=>by rw[e];unfold Os;exact⟨by show c+1≤c+5;omega,by show c+5≤c+5;omega⟩))⟩
  rw[hX]
  have n3:∀i k,i≠5→¬((c+i,k)=(c+5,0)):=fun i k hi e=>by simp at e;omega
  refine⟨?_,hkb,?_,?_,fun _=>⟨rfl,rfl⟩,fun J e=>by cases e⟩
  ·rw[block_set (block_set (block_set HB2.out _) _) _,←HSx.out]
   rfl
  ·exact((HW.out.dk.kept HK1.out (fun k e=>by have e':c+1=c+2:=e;omega)).kept HK2.out (fun _ h=>h)).kept k3 (fun k=>n3 1 k (by omega))
  ·exact((HW.out.tk.kept HK1.out (fun k e=>by have e':c+3=c+2:=e;omega)).kept HK2.out (fun _ h=>h)).kept k3 (fun k=>n3 3 k (by omega))
 ·have HB1:Hid (w1.heap[b]?=_):=(hk1.block b hbl (fun h=>h)).trans HW.out.blk
  obtain⟨y0,y1,y2,y3,y4,y5,yf⟩:=blk6 HB1.out
  have hbl1:=lt_of_block HB1.out
  have HRo:=hide (ropen_any w1 K1 (c+3) (c+4) rd X.S (HW.out.tk.kept hk1 (fun _ h=>h)) HIv.out HFb.out x hxl)
  rw[HSx.out]at HRo
  have HK1:=hide hk1
  have HX:Hid (X.opened x=X):=by
   show _=_
   unfold Sd.opened
   rw[if_neg (by omega),if_neg (by omega)]
  obtain⟨er,her⟩:∃er,openE X.S x=er:=⟨_,rfl⟩
  rw[her]at he
  have HE:=hide her
  rw[her]
  clear hk1 q0 q1 q2 q3 q4 q5 qf HO her
  rcases he with rfl | rfl
  all_goals
   go_wp2_with fail
   refine HRo.out.mono ?_
   rintro e w2 ⟨K2,hk2,hc2⟩
   rcases hc2 with ⟨hbad,_⟩ | ⟨_,rfl⟩
   ·exact absurd (hbad.symm.trans HE.out) (by omega)
   rw[HE.out]
   have HK2:=hide hk2
   clear hk2 y0 y1 y2 y3 y4 y5 yf HRo
   go_wp2
   go_ret
   refine⟨K2,rfl,?_,(kp_f HK1.out).trans (kp_f HK2.out)⟩
   rw[HX.out]
   exact Sk.still (Sk.still (w:=w) (K:=K) ⟨d,rd,jp,rp,HW.out⟩ HK1.out) HK2.out
theorem tab_kq {p:Nat × Nat→Prop} {K K':Knd} {w w':World} (h:C.Tab w) (hk:Kp p K K' w w') (h0:¬p (K 0)):C.Tab w':=fun j hj=>by
 rw[←h j hj]
 exact World.cell?_of_block (hk.block 0 h.pos h0)
theorem os_zero (c:Nat):¬Os c (0,0):=by unfold Os;simp
def rm (z:Int):Nat:=if z<0∨1048576<z then 4096 else z.toNat
theorem rm_le (z:Int):rm z≤1048576:=by unfold rm;split <;> omega
theorem room_any (w:World) (z:Int):Calls Tryz.prog 21 #[.int .i64 z] w fun e w'=>e=.returned (.int .i64 (rm z:Int))∧w'=w:=by
 by_cases h1:z<0
 ·have HR:Hid (rm z=4096):=by show _=_;unfold rm;rw[if_pos (Or.inl h1)]
  go_enter Tryz.func21,Tryz.ntmps21
  go_wp2
  go_ret
  exact⟨by rw[HR.out];rfl,rfl⟩
 ·by_cases h2:1048576<z
  ·have HR:Hid (rm z=4096):=by show _=_;unfold rm;rw[if_pos (Or.inr h2)]
   go_enter Tryz.func21,Tryz.ntmps21
   go_wp2
   go_ret
   exact⟨by rw[HR.out];rfl,rfl⟩
  ·have HR:Hid ((rm z:Int)=z):=by show _=_;unfold rm;rw[if_neg (by omega)];omega
   go_enter Tryz.func21,Tryz.ntmps21
   go_wp2
   go_ret
   exact⟨by rw[HR.out];rfl,rfl⟩
def jx0:Nm:=[106]
theorem jx0_ok:nmOk jx0=true:=by unfold nmOk;rw[show isNm jx0=true from by kernel_rfl,show isNm (jx0++newE)=true from by kernel_rfl];rfl
def Sd.new (r:Nat):Sd:=⟨r,jx0,St.new r,none⟩
theorem sok_new {r:Nat} (hr:r≤16777216):Sok (Sd.new r) 0:=⟨okd_new hr,fun J e=>(by cases e),jx0_ok,hr⟩
set_option maxHeartbeats 2000000 in
theorem begin_any (w:World) (K:Knd) (c:Nat) (z:Int) (hT:C.Tab w) (hK0:K 0=(0,0)) :
  Calls Tryz.prog 8 #[.int .i64 z] w fun e w'=>∃b K',e=.returned (.pointer (some ⟨b,0,none⟩))∧Sk w' K' c b ((Sd.new (rm z)).opened jx0)∧Kp (Os c) K K' w w':=by
 have HR:=hide (room_any w z)
 have hr:=rm_le z
 obtain⟨r,hre⟩:∃r,rm z=r:=⟨_,rfl⟩
 rw[hre]at HR hr
 rw[hre]
 have HT:=hide hT
 have HK0:=hide hK0
 clear hre hT hK0
 go_enter Tryz.func8,Tryz.ntmps8
 go_wp2_with fail
 refine HR.out.mono ?_
 rintro e w0 ⟨rfl,h0⟩
 rw[h0]
 clear h0 w0
 have ha:(w.alloc (.cells #[.int .i64 (r:Int),.string ⟨#[106]⟩,.pointer none,.pointer none,.pointer none,.pointer none] 60)).heap[w.heap.size]?=some (.cells #[.int .i64 (r:Int),.string ⟨#[106]⟩,.pointer none,.pointer none,.pointer none,.pointer none] 60 (0,0)):=heap_alloc_new _ _
 have hba:Below w.heap.size w (w.alloc (.cells #[.int .i64 (r:Int),.string ⟨#[106]⟩,.pointer none,.pointer none,.pointer none,.pointer none] 60)):=(Below.refl _ _).alloc (Nat.le_refl _) _
 obtain⟨q0,q1,q2,q3,q4,q5,qf⟩:=blk6 ha
 have hbl:=lt_of_block ha
 have HA:=hide ha
 have HBa:=hide hba
 obtain⟨b,hbe⟩:∃b,w.heap.size=b:=⟨_,rfl⟩
 have HBe:=hide hbe
 clear ha hba HR
 go_wp2_with fail
 generalize w.alloc (.cells #[.int .i64 (r:Int),.string ⟨#[106]⟩,.pointer none,.pointer none,.pointer none,.pointer none] 60)=wa at *
 rw[hbe]at q0 q1 q2 q3 q4 q5 qf hbl HA
 clear hbe
 refine(New_ok wa r (by omega)).mono ?_
 rintro e w1 ⟨rfl,rfl⟩
 have hk1:Kp (fun _=>False) K (newK K b (c+5,0)) w wa:=⟨HBa.out.os,HBa.out.tape,HBa.out.output,HBa.out.size,fun x hx=>by unfold newK;rw[if_neg (by have:=HBe.out;omega)],fun x hx _=>HBa.out.block x hx⟩
 have hD:=new_dk wa (newK K b (c+5,0)) (c+1) r
 have hbb:Below wa.heap.size wa (wa.alloc (.cells (dcells (St.new r) (.map none) (.map none) (.slice none 0 0)) 76)):=(Below.refl _ _).alloc (Nat.le_refl _) _
 have hk2:Kp (fun _=>False) (newK K b (c+5,0)) (newK (newK K b (c+5,0)) wa.heap.size (c+1,1)) wa (wa.alloc (.cells (dcells (St.new r) (.map none) (.map none) (.slice none 0 0)) 76)):=⟨hbb.os,hbb.tape,hbb.output,hbb.size,fun x hx=>by unfold newK;rw[if_neg (by omega)],fun x hx _=>hbb.block x hx⟩
 have hkb:newK (newK K b (c+5,0)) wa.heap.size (c+1,1) b=(c+5,0):=by unfold newK;rw[if_neg (by omega),if_pos rfl]
 have HK2:=hide (hk1.trans hk2)
 have HD:=hide hD
 have hA2:(wa.alloc (.cells (dcells (St.new r) (.map none) (.map none) (.slice none 0 0)) 76)).heap[b]?=_:=(hbb.block b hbl).trans HA.out
 have HA2:=hide hA2
 obtain⟨x0,x1,x2,x3,x4,x5,xf⟩:=blk6 hA2
 have hbl2:=lt_of_block hA2
 have HKb:=hide hkb
 obtain⟨d,hd⟩:∃d,wa.heap.size=d:=⟨_,rfl⟩
 rw[hd]at HD HKb HK2
 rw[hd]
 clear hk1 hD hbb hk2 hkb hA2 hd
 generalize wa.alloc (.cells (dcells (St.new r) (.map none) (.map none) (.slice none 0 0)) 76)=w2 at *
 generalize newK (newK K b (c+5,0)) d (c+1,1)=K2 at *
 have HN2:=hide (tnew_any w2 K2 (c+3) r (by omega))
 go_wp2_with fail
 refine HN2.out.mono ?_
 rintro e w3 ⟨rd,rfl,ht3,hb3⟩
 have HK3:=hide (HK2.out.trans (kp_below hb3 (fun _=>False) K2 (c+3,1)))
 have HT3:=hide ht3
 have HD3:=hide (HD.out.kept (kp_below hb3 (fun _=>False) K2 (c+3,1)) (fun _ h=>h))
 have hA3:w3.heap[b]?=_:=(hb3.block b hbl2).trans HA2.out
 have HA3:=hide hA3
 have hkb3:ext K2 w2.heap.size (c+3,1) b=(c+5,0):=(ext_old K2 _ hbl2).trans HKb.out
 have HKb3:=hide hkb3
 generalize ext K2 w2.heap.size (c+3,1)=K3 at *
 obtain⟨y0,y1,y2,y3,y4,y5,yf⟩:=blk6 hA3
 have hbl3:=lt_of_block hA3
 have f2:=yf 2
 have f4:=yf 4
 have k3:Kp (fun k=>k=(c+5,0)) K3 K3 w3 ((w3.setCell ⟨b,2,none⟩ (.pointer (some ⟨d,0,none⟩))).setCell ⟨b,4,none⟩ (.pointer (some ⟨rd,0,none⟩))):=((Kp.refl _ K3 w3).setCell (b:=b) (Or.inr hkb3) _ _).setCell (b:=b) (Or.inr hkb3) _ _
 have n3:∀i k,i≠5→¬((c+i,k)=(c+5,0)):=fun i k hi e=>by simp at e;omega
 have HSk:Hid (Sk ((w3.setCell ⟨b,2,none⟩ (.pointer (some ⟨d,0,none⟩))).setCell ⟨b,4,none⟩ (.pointer (some ⟨rd,0,none⟩))) K3 c b (Sd.new r)) :=
  ⟨d,rd,none,none,by rw[block_set (block_set hA3 _) _];rfl,hkb3,HD3.out.kept k3 (fun k=>n3 1 k (by omega)),HT3.out.kept k3 (fun k=>n3 3 k (by omega)),fun _=>⟨rfl,rfl⟩,fun J e=>(by cases e)⟩
 have HK4:Hid (Kp (Os c) K K3 w ((w3.setCell ⟨b,2,none⟩ (.pointer (some ⟨d,0,none⟩))).setCell ⟨b,4,none⟩ (.pointer (some ⟨rd,0,none⟩)))):=(kp_f HK3.out).trans (k3.mono (fun k e=>by rw[e];unfold Os;exact⟨by show c+1≤c+5;omega,by show c+5≤c+5;omega⟩))
 have HOp:=hide (sopen_any _ K3 c b (Sd.new r) 0 HSk.out (sok_new (by omega)) (by omega) (tab_kq HT.out HK4.out (by rw[HK0.out];exact os_zero c)) ((HK4.out.same 0 HT.out.pos).trans HK0.out) jx0 (by decide))
 have HJx:Hid ((⟨jx0.toArray⟩:ByteArray)=⟨#[106]⟩):=rfl
 rw[HJx.out]at HOp
 clear ht3 hb3 hA3 hkb3 k3 n3 HN2 x0 x1 x2 x3 x4 x5 xf q0 q1 q2 q3 q4 q5 qf y0 y1 y3 y5 yf
 go_wp2_with fail
 refine HOp.out.mono ?_
 rintro e w5 ⟨K5,rfl,hs5,hk5⟩
 have HS5:=hide hs5
 have HK5:=hide (HK4.out.trans hk5)
 clear hs5 hk5
 go_wp2
 go_ret
 exact⟨b,K5,rfl,HS5.out,HK5.out⟩
set_option maxHeartbeats 1000000 in
theorem rrec_lr (w:World) (num:Nat) (hnum:num<18446744073709551616) (pp:Option Addr) (k cap:Nat) (ps:List (List Nat)) (hk:ps.length=k) (hkl:k≤4096) (hP:Pts w pp ps) (hlen:(partsB ps).length≤4194304) :
  Calls Tryz.prog 58 #[.int .u64 (num:Int),.slice pp k cap] w fun e w'=>∃sp n c,n=(recB num ps).length∧e=.returned (.slice sp n c)∧C.Lr w w' sp n c (recB num ps):=by
 have HP:=hide hP
 have HK:=hide hk
 have HLen:=hide hlen
 clear hP hk hlen
 go_enter Tryz.func58,Tryz.ntmps58
 go_wp2_with fail
 refine(C.ref_u64 w num hnum).mono ?_
 rintro e w1 ⟨rfl,rfl⟩
 obtain⟨m1,m2⟩:=C.made_lr w (C.beOf num 8) (be_small _ _)
 have HL1:=hide ((C.lr_nil w).below m2)
 have HM1:=hide m1
 clear m1 m2
 generalize w.alloc (.cells (C.vals (C.beOf num 8)).toArray 5)=w1 at *
 go_wp2_with (at_builtin;refine C.wpList_append_row rfl (.tmp 8) (.tmp 10) rfl w.heap.size none 0 0 _ rfl HL1.out.own _ 8 8 (C.beOf num 8) rfl (be_len _ _) HM1.out (by omega) HL1.out.bel.size ?_;intro s2 c2 w2 ho2 hg2)
 have HL2:=hide (HL1.out.app (be_len _ _) (be_small _ _) ho2 hg2)
 clear ho2 hg2 HL1 HM1
 have hk32:(k:Int) % 4294967296=(k:Int):=by omega
 have HU:=hide (C.ref_u32 w2 k (by omega))
 go_wp2_with fail
 refine HU.out.mono ?_
 rintro e w3 ⟨rfl,rfl⟩
 obtain⟨m1,m2⟩:=C.made_lr w2 (C.beOf k 4) (be_small _ _)
 have HL3:=hide (HL2.out.below m2)
 have HM3:=hide m1
 clear m1 m2 HL2 HU
 generalize w2.alloc (.cells (C.vals (C.beOf k 4)).toArray 5)=w3 at *
 go_wp2_with (at_builtin;refine C.wpList_append_row rfl (.tmp 12) (.tmp 16) rfl w.heap.size _ _ _ _ rfl HL3.out.own _ 4 4 (C.beOf k 4) rfl (be_len _ _) HM3.out (by omega) HL3.out.bel.size ?_;intro s4 c4 w4 ho4 hg4)
 have HL4:Hid (C.Lr w w4 s4 12 c4 ((C.beOf num 8++C.beOf k 4)++partsB (ps.take 0))):=by
  have:=HL3.out.app (be_len _ _) (be_small _ _) ho4 hg4
  show C.Lr _ _ _ _ _ _
  simpa[partsB] using this
 clear ho4 hg4 HL3 HM3
 go_wp2
 go_loopw [5,6] (fun b i wr=>∃(j n c:Nat) (sp:Option Addr),j≤k∧i=.int .i64 (j:Int)∧b=.slice sp n c∧n=12+(partsB (ps.take j)).length∧Hid (C.Lr w wr sp n c ((C.beOf num 8++C.beOf k 4)++partsB (ps.take j)))) (fun _ i _=>k - (intOf i).toNat)
 case atStart=>exact⟨0,12,c4,s4,Nat.zero_le _,rfl,rfl,by simp[partsB],HL4⟩
 case round =>
  obtain⟨j,n,c,sp,hj,rfl,rfl,hn,HL⟩:=hrel
  clear HL4
  have hle:=partsB_le (ps:=ps) (k:=j)
  have hlt12:=HLen.out
  by_cases hlt:j<k
  ·have i1:(0:Int)≤(j:Int):=by omega
   have i2:(j:Int)<(k:Int):=by omega
   obtain⟨p,hp⟩:∃p,ps[j]?=some p:=⟨_,List.getElem?_eq_getElem (by rw[HK.out];exact hlt)⟩
   obtain⟨g,o,ap,cp,e1,hg,c0,c1⟩:=(HP.out.below HL.out.bel).at hp
   have hsm:=HP.out.small p (List.mem_of_getElem? hp)
   have HTx:=hide (C.ref_text wr ap p.length cp p rfl c1.c hsm)
   have HPi:=hide (part_in ps j p hp)
   have HTk:=hide (take_snoc' ps j p hp)
   have hpl:=partB_len2 p (by omega)
   have HPb:Hid (C.varOf p.length (C.vs p.length - 1)++p=partB p):=rfl
   rw[HPb.out]at HTx
   have hle2:=partsB_le (ps:=ps) (k:=j+1)
   have HPs:Hid (∀x∈partB p,x<256):=partB_small c1.small (by omega)
   obtain⟨q,hq⟩:∃q,C.vs p.length+p.length=q:=⟨_,rfl⟩
   rw[hq]at HTx hpl
   have HPl:=hide hpl
   have hb1:n+q≤140737488355328:=by have:=HPi.out;omega
   have HN2:Hid (n+q=12+(partsB (ps.take (j+1))).length):=by show _=_;have:=HPi.out;omega
   clear c1 hq hsm hp hpl hle hle2 hlt12 hn
   generalize p.length=pl at *
   subst e1
   go_wp2_with fail
   refine HTx.out.mono ?_
   rintro e w5 ⟨g5,c5,rfl,ho5,hb5⟩
   have HL5:=hide (HL.out.below hb5)
   have HB5:Hid (C.Bytes w5 (some ⟨g5,0,none⟩) (partB p)):=by
    have h5:C.Lr wr w5 (some ⟨g5,0,none⟩) q c5 (partB p):=⟨HPl.out,ho5,hb5,HPs.out⟩
    exact h5.bytes
   clear ho5 hb5 HTx
   go_wp2_with (at_builtin;refine C.wpList_append_row rfl (.tmp 24) (.tmp 29) rfl w.heap.size _ _ _ _ rfl HL5.out.own _ q c5 (partB p) rfl HPl.out HB5.out hb1 HL5.out.bel.size ?_;intro s6 c6 w6 ho6 hg6)
   have HL6:Hid (C.Lr w w6 s6 (n+q) c6 ((C.beOf num 8++C.beOf k 4)++partsB (ps.take (j+1)))):=by
    have:=HL5.out.app HPl.out HPs.out ho6 hg6
    show C.Lr _ _ _ _ _ _
    rw[HTk.out,partsB_snoc,←List.append_assoc]
    exact this
   clear ho6 hg6 HL5 HB5
   go_wp2
   go_roundw
   case rel=>exact⟨j+1,n+q,c6,s6,by omega,by go_num,rfl,HN2.out,HL6⟩
   case measure=>simp[intOf];omega
  ·have i2:¬(j:Int)<(k:Int):=by omega
   have ej:j=k:=by omega
   subst ej
   have HLb:Hid (C.Lr w wr sp n c (bodyB num ps)):=by
    have:=HL.out
    rw[List.take_of_length_le (by rw[HK.out];exact Nat.le_refl _)]at this
    show C.Lr _ _ _ _ _ _
    unfold bodyB
    rw[HK.out]
    exact this
   have hbl:(bodyB num ps).length=n:=HLb.out.len
   have hn2:n≤4194316:=by omega
   have HBd:=hide (HLb.out.bytes)
   have HBe:=hide (HLb.out.bel)
   have HBl:=hide hbl
   have HBs:=hide (HLb.out.small)
   have HRe:Hid (recB num ps=((([167]++C.beOf n 4)++C.beOf (C.sumOf ([167]++C.beOf n 4)) 4)++bodyB num ps)++C.beOf (C.sumOf (bodyB num ps)) 4):=by
    show _=_
    unfold recB framedB headB hd5
    rw[hbl,pow_small]
   have hs2:=sum_lt _ (HLb.out.small)
   have hs1:=sum_lt ([167]++C.beOf n 4) (fun x hx=>by
    rcases List.mem_append.1 hx with h | h
    ·simp at h;omega
    ·exact be_small _ _ x h)
   clear HL hbl hle hlt12 hn HLb hlt
   generalize bodyB num ps=body at *
   have hn32:(n:Int) % 4294967296=(n:Int):=by omega
   have H1:=hide (C.one_lr wr 167 (by omega))
   go_wp2_with fail
   generalize wr.alloc (.cells #[.int .u8 167] 5)=v1 at *
   refine(C.ref_u32 v1 n (by omega)).mono ?_
   rintro e w3 ⟨rfl,rfl⟩
   obtain⟨m1,m2⟩:=C.made_lr v1 (C.beOf n 4) (be_small _ _)
   have H2:=hide (H1.out.below m2)
   have HM2:=hide m1
   clear m1 m2 H1
   generalize v1.alloc (.cells (C.vals (C.beOf n 4)).toArray 5)=v2 at *
   go_wp2_with (at_builtin;refine C.wpList_append_row rfl (.tmp 32) (.tmp 36) rfl wr.heap.size _ _ _ _ rfl H2.out.own _ 4 4 (C.beOf n 4) rfl (be_len _ _) HM2.out (by omega) H2.out.bel.size ?_;intro s3 c3 v3 ho3 hg3)
   have H3:=hide (H2.out.app (be_len _ _) (be_small _ _) ho3 hg3)
   clear ho3 hg3 H2 HM2
   have HSm:=hide (C.refsum_any v3 s3 5 c3 ([167]++C.beOf n 4) (H3.out.len) H3.out.bytes (by omega))
   generalize hR1:C.sumOf ([167]++C.beOf n 4)=r1 at *
   generalize hX1:[167]++C.beOf n 4=x1 at *
   clear hR1 hX1
   go_wp2_with fail
   refine HSm.out.mono ?_
   rintro e w4 ⟨rfl,q4,rfl⟩
   have H4:=hide (H3.out.below (below_drewN (Below.refl _ v3) q4))
   clear H3 HSm
   generalize v3.drewN q4=v4 at *
   go_wp2_with fail
   refine(C.ref_u32 v4 r1 hs1).mono ?_
   rintro e w5 ⟨rfl,rfl⟩
   obtain⟨m1,m2⟩:=C.made_lr v4 (C.beOf r1 4) (be_small _ _)
   have H5:=hide (H4.out.below m2)
   have HM5:=hide m1
   clear m1 m2 H4
   generalize v4.alloc (.cells (C.vals (C.beOf r1 4)).toArray 5)=v5 at *
   go_wp2_with (first
    | (at_builtin;refine C.wpList_append_row rfl (.tmp 38) (.tmp 41) rfl wr.heap.size _ _ _ _ rfl H5.out.own _ 4 4 (C.beOf r1 4) rfl (be_len _ _) HM5.out (by omega) H5.out.bel.size ?_;intro s6 c6 v6 ho6 hg6;have H6:=hide (H5.out.app (be_len _ _) (be_small _ _) ho6 hg6);clear ho6 hg6 H5 HM5)
    | (at_builtin;refine C.wpList_append_row rfl (.tmp 43) (.tmp 44) rfl wr.heap.size _ _ _ _ rfl H6.out.own _ n c body rfl HBl.out (HBd.out.below H6.out.bel) (by omega) H6.out.bel.size ?_;intro s7 c7 v7 ho7 hg7;have H7:=hide (H6.out.app HBl.out HBs.out ho7 hg7);clear ho7 hg7 H6))
   have HSm:=hide (C.refsum_any v7 sp n c body HBl.out (HBd.out.below H7.out.bel) (by omega))
   generalize C.sumOf body=r2 at *
   go_wp2_with fail
   refine HSm.out.mono ?_
   rintro e w8 ⟨rfl,q8,rfl⟩
   have H8:=hide (H7.out.below (below_drewN (Below.refl _ v7) q8))
   clear H7 HSm
   generalize v7.drewN q8=v8 at *
   go_wp2_with fail
   refine(C.ref_u32 v8 r2 hs2).mono ?_
   rintro e w9 ⟨rfl,rfl⟩
   obtain⟨m1,m2⟩:=C.made_lr v8 (C.beOf r2 4) (be_small _ _)
   have H9:=hide (H8.out.below m2)
   have HM9:=hide m1
   clear m1 m2 H8
   generalize v8.alloc (.cells (C.vals (C.beOf r2 4)).toArray 5)=v9 at *
   go_wp2_with (at_builtin;refine C.wpList_append_row rfl (.tmp 46) (.tmp 49) rfl wr.heap.size _ _ _ _ rfl H9.out.own _ 4 4 (C.beOf r2 4) rfl (be_len _ _) HM9.out (by omega) H9.out.bel.size ?_;intro s10 c10 v10 ho10 hg10)
   have H10:=hide (H9.out.app (be_len _ _) (be_small _ _) ho10 hg10)
   clear ho10 hg10 H9 HM9
   go_wp2
   go_ret
   rw[HRe.out]
   exact⟨s10,_,c10,H10.out.len.symm,rfl,H10.out.base HBe.out⟩
def tailS (J:Jr) (r:List Nat):List Stk:=[.app J.name r,.sync J.name]++(if J.named then [] else [.names])
theorem keep_of {S:St} {J:Jr} {ps:List (List Nat)} {ss:List Nat→List Stk} {X:Nat × St × Jr} (hof:J.off=false) (hok:recOk (J.last+1) ps=true) (h:runs S J (ss (recB (J.last+1) ps))=X) :
  keepR S J ps ss=if X.1=0 then (0,X.2.1,X.2.2.took (recB (J.last+1) ps)) else (X.1,X.2.1,{ X.2.2 with off:=decide (X.1=45) }):=by
 unfold keepR
 rw[if_neg (by rw[hof];simp),if_neg (by rw[hok];simp),h]
theorem runs_cons {S:St} {J:Jr} {s:Stk} {l:List Stk} (h:(s.run S J).1=0):runs S J (s :: l)=runs (s.run S J).2.1 (s.run S J).2.2 l:=by
 rw[runs,if_pos h]
theorem runs_stop {S:St} {J:Jr} {s:Stk} {l:List Stk} (h:(s.run S J).1≠0):runs S J (s :: l)=s.run S J:=by
 rw[runs,if_neg h]
def RKept (w:World) (K:Knd) (od o d jb:Nat) (R:Nat × St × Jr) (e:Ending) (w':World):Prop :=
 ∃K',e=.returned (.int .i64 (R.1:Int))∧Tk w' K' od d R.2.1∧Rj w' K' o d jb R.2.2∧Kp (fun k=>Ow od k∨Ow o k) K K' w w'
theorem okd_fb {S:St} {k:Nat} (h:Okd S k) (hk:k≤274877906944):Fb S:=sz_fb h.inv h.sz (by omega)
theorem Rm.cells {w:World} {K:Knd} {o d jb:Nat} {tv:Value} {vs:List Value} {J:Jr} (h:Rm w K o d jb tv vs J):w.heap[jb]?=some (.cells #[.pointer (some ⟨d,0,none⟩),.string ⟨J.name.toArray⟩,tv,.int .i64 (goodN J:Int),.int .u64 ((J.last+1:Nat):Int),.bool J.torn,.bool J.named,.bool J.off,.int .i64 0] 116 (0,0)):=h.blk
theorem Rm.took {w w1:World} {K:Knd} {o d jb:Nat} {tv pv:Value} {vs:List Value} {J:Jr} (h:Rm w K o d jb tv vs J) {r:List Nat} {pp:Option Addr} {cp:Nat} (hpv:pv=.slice pp (partsOf r).length cp) (hp:PtK w K (o,3) pp (partsOf r)) {u:Obj} {g' cap':Nat}
  (ho:w1.ownsRow 0 31 1 (.slice (some ⟨g',0,none⟩) (J.recs.length+1) cap') (J.recs.length+1) (vs++[pv])) (hg:(w.alloc u).grownBy w1 tv.ownBlock) (hat:tv.ownBlock=some g'∨g'=(w.alloc u).heap.size) (w2:World) (hk:Kp (fun k=>k=(o,1)) (ext K w.heap.size (o,2)) (ext K w.heap.size (o,2)) w1 w2)
  (hb:w2.heap[jb]?=some (.cells (rcells d (J.took r) (.slice (some ⟨g',0,none⟩) (J.recs.length+1) cap')) 116 (0,0))) :
  Rj w2 (ext K w.heap.size (o,2)) o d jb (J.took r)∧Kp (Ow o) K (ext K w.heap.size (o,2)) w w2:=by
 have k1:=kp_row h.row hg
 have hjl:=lt_of_block h.blk
 have kk:=(k1.mono (q:=fun q=>q=(o,2)∨q=(o,1)) (fun _ e=>Or.inl e)).trans (hk.mono (fun _ e=>Or.inr e))
 have hvl:vs.length=J.recs.length:=by have:=h.row.own.1;simpa using this
 refine⟨⟨_,vs++[pv],hb,(ext_old K _ hjl).trans h.kj,?_,fun i q hq=>?_⟩,kk.mono (fun k e=>by rcases e with e | e <;> rw[e])⟩
 ·have hr:=rk_grew h.row ho hat
  have e:(J.took r).recs.length=J.recs.length+1:=by simp[Jr.took]
  rw[e]
  exact hr.kept hk (by simp)
 ·have hq':(J.recs++[r])[i]?=some q:=hq
  by_cases hi:i<J.recs.length
  ·rw[List.getElem?_append_left hi]at hq'
   obtain⟨pp',cp',h1,h2⟩:=h.tr i q hq'
   exact⟨pp',cp',by rw[List.getElem?_append_left (by omega)];exact h1,h2.kept kk (by simp)⟩
  ·rw[List.getElem?_append_right (by omega)]at hq'
   obtain⟨e0,rfl⟩:i - J.recs.length=0∧r=q:=by
    cases hz:i - J.recs.length with
    | zero=>rw[hz]at hq';simp at hq';exact⟨rfl,hq'⟩
    | succ m=>rw[hz]at hq';simp at hq'
   exact⟨pp,cp,by rw[List.getElem?_append_right (by omega),hvl,e0,hpv];rfl,hp.kept kk (by simp)⟩
end Go.Proofs.YtcceejdaokoihaaGreatDoor
