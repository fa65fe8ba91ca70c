import Derived.Test.YtcceejdaokoihaaGreatDoorJEq
set_option maxRecDepth 100000
namespace Go.Proofs.YtcceejdaokoihaaGreatDoor
open Go.RowKit
theorem Tryz.infoRr:(Tryz.prog.info? 31).map (fun i=>(i.zero,i.size,i.bytes))=some (some (.slice none 0 0),1,24):=by kernel_rfl
def partsOf (r:List Nat):List (List Nat):=match readR r with
 | some (_,ps)=>ps
 | none=>[]
def allOf (recs:List (List Nat)):List (List (List Nat)):=recs.map partsOf
theorem got_len (xs:List Nat) (a:Nat) (x:C.It × Nat × Nat):(C.got xs a x).length≤xs.length:=by
 unfold C.got
 simp only[List.length_take,List.length_drop]
 omega
theorem readR_parts {xs:List Nat} {num:Nat} {ps:List (List Nat)} (h:readR xs=some (num,ps)):ps.length≤4096∧∀p∈ps,p.length≤xs.length:=by
 unfold readR at h
 split at h
 ·cases h
 ·unfold readB at h
  split at h
  ·cases h
  ·rename_i hn
   split at h
   ·cases h
   ·simp only[Option.some.injEq,Prod.mk.injEq]at h
    rw[←h.2]
    refine⟨by rw[bParts_len];omega,fun p hp=>?_⟩
    simp only[bParts,List.mem_map]at hp
    obtain⟨j,_,rfl⟩:=hp
    have:=got_len (bodyOf xs) (rA (bodyOf xs) (bCnt (bodyOf xs)).2.1 (bCnt (bodyOf xs)).2.2 j).1 (C.rText 4194291 (bodyOf xs) (rA (bodyOf xs) (bCnt (bodyOf xs)).2.1 (bCnt (bodyOf xs)).2.2 j).1 (rA (bodyOf xs) (bCnt (bodyOf xs)).2.1 (bCnt (bodyOf xs)).2.2 j).2)
    have h2:(bodyOf xs).length≤xs.length:=by unfold bodyOf;simp only[List.length_take,List.length_drop];omega
    unfold rP
    omega
theorem partsOf_small (r:List Nat):(partsOf r).length≤4096∧∀p∈partsOf r,p.length≤r.length:=by
 unfold partsOf
 cases h:readR r with
 | none=>simp
 | some v=>obtain⟨num,ps⟩:=v;exact readR_parts h
def Ukk (w w':World):Prop:=∀(g:Nat) (D:Array Value) (t:TypeId) (fr:Nat × Nat),w.heap[g]?=some (.cells D t fr)→t≠31→w'.heap[g]?=w.heap[g]?
theorem Ukk.trans {a b c:World} (h:Ukk a b) (k:Ukk b c):Ukk a c:=fun g D t fr e ht=>(k g D t fr ((h g D t fr e ht).trans e) ht).trans (h g D t fr e ht)
theorem ukk_below {w w':World} (h:Below w.heap.size w w'):Ukk w w':=fun g _ _ _ e _=>h.block g (lt_of_block e)
theorem ukk_grown {w w':World} {v:Value} {B n s:Nat} {xs:List Value} (h:w.grownBy w' v.ownBlock) (ho:w.ownsRow B 31 s v n xs):Ukk w w':=fun g _ _ _ e ht=>h.block g (lt_of_block e) (owns_ne ho e ht)
theorem Prow.kept {B:Nat} {w w':World} {a:Option Addr} {j c:Nat} {ps:List (List Nat)} (h:Prow B w a j c ps) (hk:Ukk w w'):Prow B w' a j c ps:=by
 obtain⟨vs,h1,h2⟩:=h.row
 refine⟨h.len,vs,⟨h1.1,h1.2.imp id ?_⟩,fun i p hp=>?_⟩
 ·rintro ⟨g,cap,cur,e1,e2,e3,r⟩
  exact⟨g,cap,cur,e1,e2,(hk g _ _ _ e3 (by decide)).trans e3,r⟩
 ·obtain⟨sp,q1,q2,q3⟩:=h2 i p hp
  exact⟨sp,q1,mine_kept q2 (fun g D fr e=>hk g D _ fr e (by decide)),q3⟩
theorem prow_nil (B:Nat) (w:World):Prow B w none 0 0 []:=⟨rfl,[],⟨rfl,Or.inl ⟨rfl,rfl⟩⟩,fun i p hp=>by simp at hp⟩
structure Tro (B:Nat) (w:World) (a:Option Addr) (k c:Nat) (ts:List (List (List Nat))):Prop where
 len:ts.length=k
 row:∃tvs:List Value,w.ownsRow B 31 1 (Value.slice a k c) k tvs∧∀(i:Nat) (ps:List (List Nat)),ts[i]?=some ps→∃(pp:Option Addr) (cp:Nat),tvs[i]?=some (Value.slice pp ps.length cp)∧Prow B w pp ps.length cp ps
theorem Tro.trs {B:Nat} {w:World} {a:Option Addr} {k c:Nat} {ts:List (List (List Nat))} (h:Tro B w a k c ts) (hs:∀ps∈ts,ps.length≤4096∧∀p∈ps,p.length≤140737488351232):Trs w a ts:=by
 obtain⟨vs,h1,h2⟩:=h.row
 refine⟨fun ps hp=>by have:=(hs ps hp).1;omega,?_⟩
 rcases h1.2 with ⟨_,e2⟩ | ⟨g,cap,cur,e1,_,hg,e3,e4,e5,e6⟩
 ·left;exact List.eq_nil_of_length_eq_zero (by rw[h.len];exact e2)
 ·cases e1
  right
  refine⟨g,0,rfl,lt_of_block hg,fun i ps hp=>?_⟩
  obtain⟨pp,cp,hv,hm⟩:=h2 i ps hp
  refine⟨pp,cp,?_,hm.pts (hs ps (List.mem_of_getElem? hp)).2⟩
  have hi:i<k:=by rw[←h.len];exact(List.getElem?_eq_some_iff.1 hp).1
  rw[←e6,List.getElem?_take,if_pos (by omega)]at hv
  simp only[World.cell?,hg,Nat.zero_add]
  simpa using hv
set_option maxHeartbeats 1000000 in
theorem All_any (w:World) (K:Knd) (o d jb:Nat) (J:Jr) (h:Jk w K o d jb J) (hs:∀r∈J.recs,25≤r.length∧r.length≤4194304) (hk:J.recs.length≤1099511627776) (hT:C.Tab w) :
  Calls Tryz.prog 20 #[.pointer (some ⟨jb,0,none⟩)] w fun e w'=>∃a c,e=.returned (.slice a J.recs.length c)∧Tro w.heap.size w' a J.recs.length c (allOf J.recs)∧Below w.heap.size w w':=by
 obtain⟨rv,vs,hm⟩:=h
 have hb:=hm.blk
 unfold jcells at hb
 obtain⟨ra,rc,hrv,_,_⟩:=hm.row.form
 subst hrv
 obtain⟨k,hkk⟩:∃k,J.recs.length=k:=⟨_,rfl⟩
 rw[hkk]at hb hk ⊢
 have HK:=hide hkk
 have HM:=hide hm
 have HT:=hide hT
 have HS:=hide hs
 obtain⟨q0,q1,q2,q3,q4,q5,q6,qf⟩:=blk7 hb
 have hjl:=lt_of_block hb
 have HB:=hide hb
 clear hm hb hT hs hkk
 obtain⟨i0,hi,hz0,hz1,hz2⟩:=info_parts Tryz.infoRr
 obtain⟨w1,hmk,hown1,hgr1⟩:=run_make_own (P:=Tryz.prog) w w.heap.size 54 31 i0 (.slice none 0 0) 1 Tryz.underlying54 hi hz0 hz1 .i64 .i64 k (by rw[hz2];omega) (by unfold maxLen;omega) (Nat.le_refl _)
 have hb1:Below w.heap.size w w1:=(Below.refl _ _).grown hgr1 (Nat.le_refl _) (fun k e=>by cases e)
 have hj1:w1.heap[jb]?=_:=(hb1.block _ hjl).trans HB.out
 obtain⟨y0,y1,y2,y3,y4,y5,y6,yf⟩:=blk7 hj1
 have HT1:Hid (Tro w.heap.size w1 (some ⟨w.heap.size,0,none⟩) 0 k (allOf (J.recs.take 0))):=⟨rfl,[],hown1,fun i p hp=>by simp[allOf]at hp⟩
 have HB1:=hide hb1
 clear hown1 hgr1 hb1 hj1
 go_enter Tryz.func20,Tryz.ntmps20
 go_wp2
 clear hmk y0 y1 y2 y3 y4 y5 y6 yf q0 q1 q2 q3 q4 q5 q6 qf
 go_loopw [3,19] (fun l i wr=>∃(j:Nat) (a:Option Addr) (c:Nat),j≤k∧i=.int .i64 j∧l=.slice a j c∧Hid (Tro w.heap.size wr a j c (allOf (J.recs.take j)))∧Hid (Below w.heap.size w wr)) (fun _ i _=>k - (intOf i).toNat)
 case atStart=>exact⟨0,_,k,Nat.zero_le _,rfl,rfl,HT1,HB1⟩
 case round =>
  obtain⟨j,a,c,hj,rfl,rfl,HR,HBr⟩:=hrel
  clear HT1 HB1
  by_cases hlt:j<k
  ·have i1:(0:Int)≤(j:Int):=by omega
   have i2:(j:Int)<(k:Int):=by omega
   obtain⟨r,hr⟩:∃r,J.recs[j]?=some r:=⟨_,List.getElem?_eq_getElem (by rw[HK.out];exact hlt)⟩
   have HTk:=hide (take_snoc' J.recs j r hr)
   have hsz:=HS.out r (List.mem_of_getElem? hr)
   obtain⟨g,q,rc2,u1,u2,u3,u4,u5,u6⟩:=HM.out.recs j r hr
   obtain⟨rg,e1,c0⟩:∃rg,ra=some ⟨rg,0,none⟩∧wr.cell? ⟨rg,j,none⟩=some (.slice (some ⟨g,q,none⟩) r.length rc2):=by
    have hro:=HM.out.row.own
    rw[HK.out]at hro
    rcases hro.2 with ⟨_,e2⟩ | ⟨g',cap,cur,e1,_,hg,e3,e4,e5,e6⟩
    ·omega
    ·cases e1
     refine⟨g',rfl,?_⟩
     rw[HBr.out.cell (p:=⟨g',j,none⟩) (lt_of_block hg)]
     rw[←e6,List.getElem?_take,if_pos (by omega)]at u1
     simp only[World.cell?,hg]
     simpa using u1
   subst e1
   have HRd:=hide (readRecord_any wr (some ⟨g,q,none⟩) r.length rc2 r rfl hsz.1 hsz.2 u2 u3 (u6.below HBr.out) (HT.out.below HBr.out HT.out.pos))
   have HPo:Hid ((∃num ps,readR r=some (num,ps)∧partsOf r=ps)∨(readR r=none∧partsOf r=[])):=by
    show _∨_
    unfold partsOf
    cases readR r with
    | none=>exact Or.inr ⟨rfl,rfl⟩
    | some v=>obtain⟨n1,p1⟩:=v;exact Or.inl ⟨n1,p1,rfl,rfl⟩
   have HAl:Hid (allOf (J.recs.take (j+1))=allOf (J.recs.take j)++[partsOf r]):=by show _=_;rw[HTk.out];simp[allOf]
   obtain⟨rl,hrl⟩:∃rl,r.length=rl:=⟨_,rfl⟩
   rw[hrl]at c0 HRd
   clear hr u1 u4 u6 hrl hsz
   go_wp2_with fail
   refine HRd.out.mono ?_
   rintro e w2 hcase
   obtain⟨num,ok,pp,pk,pc,rfl,hpk,hp2,hb2⟩:∃(num:Nat) (ok:Bool) (pp:Option Addr) (pk pc:Nat),e=.returned (.tuple #[.agg #[.int .u64 (num:Int),.slice pp pk pc],.bool ok])∧pk=(partsOf r).length∧Prow wr.heap.size w2 pp pk pc (partsOf r)∧Below wr.heap.size wr w2:=by
    rcases hcase with ⟨num,ps,he,pp,pc,rfl,hp,hb⟩ | ⟨he,rfl,hb⟩
    ·rcases HPo.out with ⟨n1,p1,e1,e2⟩ | ⟨e1,_⟩
     ·rw[e1]at he
      cases he
      exact⟨num,true,pp,ps.length,pc,rfl,by rw[e2],by rw[e2];exact hp,hb⟩
     ·rw[e1]at he;cases he
    ·rcases HPo.out with ⟨n1,p1,e1,e2⟩ | ⟨e1,e2⟩
     ·rw[e1]at he;cases he
     ·exact⟨0,false,none,0,0,rfl,by rw[e2];rfl,by rw[e2];exact prow_nil _ _,hb⟩
   have hpk4:pk≤4096:=by rw[hpk];exact(partsOf_small r).1
   have HPk:=hide hpk
   have HP2:=hide hp2
   have HB2:=hide hb2
   obtain⟨tvs,hv1,hv2⟩:=HR.out.row
   have hv3:w2.ownsRow w.heap.size 31 1 (.slice a j c) j tvs:=owns_same hv1 (fun g hg=>hb2.block g (rk_lt hv1 hg))
   have HV1:=hide hv1
   have HV2:=hide hv2
   have hX3:(w2.alloc (.cells #[.int .u64 (num:Int),.slice pp pk pc] 105)).heap[w2.heap.size]?=some (.cells #[.int .u64 (num:Int),.slice pp pk pc] 105 (0,0)):=heap_alloc_new _ _
   have hb3:Below wr.heap.size wr (w2.alloc (.cells #[.int .u64 (num:Int),.slice pp pk pc] 105)):=hb2.alloc hb2.size _
   have hv4:(w2.alloc (.cells #[.int .u64 (num:Int),.slice pp pk pc] 105)).ownsRow w.heap.size 31 1 (.slice a j c) j tvs:=hv3.alloc _
   have hu3:Ukk w2 (w2.alloc (.cells #[.int .u64 (num:Int),.slice pp pk pc] 105)):=ukk_below ((Below.refl _ _).alloc (Nat.le_refl _) _)
   have hsl3:w.heap.size≤((w2.alloc (.cells #[.int .u64 (num:Int),.slice pp pk pc] 105)).alloc (.cells #[.slice pp pk pc] 31)).heap.size:=by
    have h1:=hb3.size
    have h2:=HBr.out.size
    rw[World.size_alloc]
    omega
   have HV4:=hide hv4
   have HB3:=hide hb3
   have HU3:=hide hu3
   have HX3:=hide hX3
   clear hpk hp2 hb2 hv1 hv2 hv3 hv4 hX3 hb3 hu3 hcase HRd
   go_wp2_with (at_builtin;refine wpList_append_lies _ rfl (.tmp 28) (.tmp 31) 54 rfl w.heap.size 31 i0 (.slice none 0 0) 1 24 Tryz.underlying54 hi hz0 hz1 hz2 rfl (by omega) (.slice a j c) j tvs rfl (HV4.out.alloc _) ⟨w2.heap.size+1,0,none⟩ 1 1 [.slice pp pk pc] rfl rfl (World.news_of_block (heap_alloc2_new w2 (.cells #[.int .u64 (num:Int),.slice pp pk pc] 105) (.cells #[.slice pp pk pc] 31))) (by simp[Value.oneCell']) (by omega) (by unfold maxLen;omega) (by omega) hsl3 _ rfl ?_;intro g' cap' w5 hown5 hgrow5 hat5 hltg)
   have HB5:Hid (Below w.heap.size w w5):=by
    have h1:Below w.heap.size w (w2.alloc (.cells #[.int .u64 (num:Int),.slice pp pk pc] 105)):=HBr.out.trans (HB3.out.mono HBr.out.size)
    exact(h1.alloc (Nat.le_trans HBr.out.size HB3.out.size) _).grown hgrow5 hsl3 (fun g2 e2=>by
     rcases HV4.out.2 with ⟨e3,_⟩ | ⟨g3,_,_,e3,e4,_⟩
     ·rw[e3]at e2;simp[Value.ownBlock]at e2
     ·rw[e3]at e2;simp[Value.ownBlock]at e2;omega)
   have HUa:Hid (Ukk w2 w5):=HU3.out.trans ((ukk_below ((Below.refl _ _).alloc (Nat.le_refl _) _)).trans (ukk_grown hgrow5 (HV4.out.alloc _)))
   have HR5:Hid (Tro w.heap.size w5 (some ⟨g',0,none⟩) (j+1) cap' (allOf (J.recs.take (j+1)))):=by
    have hvl:tvs.length=j:=by have:=HV1.out.1;omega
    have hal:(allOf (J.recs.take j)).length=j:=by simp[allOf,HK.out];omega
    refine⟨by rw[HAl.out,List.length_append,hal];rfl,tvs++[.slice pp pk pc],hown5,fun i ps hp=>?_⟩
    rw[HAl.out]at hp
    by_cases hi2:i<j
    ·rw[List.getElem?_append_left (by rw[hal];exact hi2)]at hp
     obtain⟨p2,c2,u1,u2⟩:=HV2.out i ps hp
     exact⟨p2,c2,by rw[List.getElem?_append_left (by omega)];exact u1,u2.kept ((ukk_below HB2.out).trans HUa.out)⟩
    ·have hij:i=j:=by
      have:=(List.getElem?_eq_some_iff.1 hp).1
      rw[List.length_append,hal]at this
      simp at this;omega
     subst hij
     rw[List.getElem?_append_right (by rw[hal];exact Nat.le_refl _),hal,Nat.sub_self]at hp
     simp at hp
     subst hp
     exact⟨pp,pc,by rw[List.getElem?_append_right (by omega),hvl,Nat.sub_self,HPk.out];rfl,by
      have:=(HP2.out.mono HBr.out.size).kept HUa.out
      rw[HPk.out]at this
      exact this⟩
   clear hown5 hgrow5 hat5
   go_wp2
   go_roundw
   case rel=>exact⟨j+1,_,cap',by omega,by go_num,rfl,HR5,HB5⟩
   case measure=>simp[intOf];omega
  ·obtain rfl:j=k:=by omega
   have HRe:Hid (Tro w.heap.size wr a j c (allOf J.recs)):=by
    have:=HR.out
    rwa [List.take_of_length_le (by rw[HK.out];exact Nat.le_refl _)]at this
   go_wp2
   go_ret
   exact⟨a,c,rfl,HRe.out,HBr.out⟩
open Go.RowKit Go.Maps
def newE:Nm:=[46,110,101,119]
theorem zero_disk:(#[.int .i64 0,.map none,.map none,.slice none 0 0,.int .i64 0,.int .i64 0,.int .i64 0,.int .i64 0,.int .i64 0,.bool false]:Array Value)=dcells (St.new 0) (.map none) (.map none) (.slice none 0 0):=rfl
set_option maxHeartbeats 400000 in
theorem jname_any (w:World) (x:Nm) (hx:x.length≤140737488355328) :
  Calls Tryz.prog 37 #[.string ⟨x.toArray⟩] w fun e w'=>e=.returned (.bool (isNm x))∧Below w.heap.size w w':=by
 have hd:=new_dk w (fun _=>(0,0)) 9 0
 rw[←zero_disk]at hd
 have HS:=hide (Size_any _ _ 9 w.heap.size (St.new 0) hd (new_inv (by omega)) x hx)
 have hb:Below w.heap.size w (w.alloc (.cells #[.int .i64 0,.map none,.map none,.slice none 0 0,.int .i64 0,.int .i64 0,.int .i64 0,.int .i64 0,.int .i64 0,.bool false] 76)):=(Below.refl _ _).alloc (Nat.le_refl _) _
 have HB:=hide hb
 have he:(St.new 0).err x=if isNm x then 42 else 41:=by unfold St.err;simp[St.new,lookN]
 have HBy:Hid ((St.new 0).bytes x=[]):=by
  show _=_
  unfold St.bytes
  rw[he]
  cases isNm x <;> rfl
 rw[HBy.out,he]at HS
 clear hd he hb
 cases hn:isNm x with
 | false =>
  rw[hn]at HS
  go_enter Tryz.func37,Tryz.ntmps37
  go_wp2_with fail
  refine HS.out.mono ?_
  rintro e w1 ⟨rfl,rfl⟩
  go_wp2
  go_ret
  exact⟨rfl,HB.out⟩
 | true =>
  rw[hn]at HS
  go_enter Tryz.func37,Tryz.ntmps37
  go_wp2_with fail
  refine HS.out.mono ?_
  rintro e w1 ⟨rfl,rfl⟩
  go_wp2
  go_ret
  exact⟨rfl,HB.out⟩
def St.found (S:St) (x:Nm):List (List Nat) × Nat × Bool × Nat:=goB ((S.bytes x).length+1) (S.bytes x) [] 0
def jnew (x:Nm) (R:List (List Nat) × Nat × Bool × Nat):Jr:=⟨x,R.1,R.2.1,R.2.2.1,false,false⟩
theorem str_add (x:Nm):(⟨x.toArray⟩:ByteArray)++(⟨#[46,110,101,119]⟩:ByteArray)=⟨(x++newE).toArray⟩:=by
 apply ByteArray.ext
 rw[ByteArray.data_append]
 simp[newE]
theorem bytes_le {S:St} (hv:Inv S) (x:Nm):(S.bytes x).length≤16777216:=by
 unfold St.bytes
 split
 ·rename_i he
  obtain⟨_,_,i,hi⟩:=err_zero he
  rw[hi]
  exact S.file_le hv hi
 ·simp
theorem bytes_small {S:St} (hv:Inv S) {k:Nat} (hz:Sz S k) (x:Nm):∀y∈S.bytes x,y<256:=by
 unfold St.bytes
 split
 ·rename_i he
  obtain⟨_,_,i,hi⟩:=err_zero he
  rw[hi]
  exact(hz.file (St.seen_file hv hi)).1.allSmall
 ·intro y hy;cases hy
set_option maxHeartbeats 1000000 in
theorem Open_any (w:World) (K:Knd) (od o d:Nat) (ho:o≠0) (_hod:o≠od) (S:St) (h:Dk w K od d S) (hv:Inv S) (k:Nat) (hz:Sz S k) (hk:k≤549755813888) (hoff:S.off=false) (x:Nm) (hx1:isNm x=true) (hx2:isNm (x++newE)=true) (hT:C.Tab w) (hK0:K 0=(0,0)) :
  Calls Tryz.prog 12 #[.pointer (some ⟨d,0,none⟩),.string ⟨x.toArray⟩] w fun e w'=>∃K',Kp (Ow o) K K' w w' ∧
   (((S.found x).2.2.2=0∧∃jb,e=.returned (.tuple #[.pointer (some ⟨jb,0,none⟩),.int .i64 0])∧Jk w' K' o d jb (jnew x (S.found x))) ∨
    ((S.found x).2.2.2≠0∧e=.returned (.tuple #[.pointer none,.int .i64 ((S.found x).2.2.2:Int)]))):=by
 have HD:=hide h
 have HV:=hide hv
 have HZ:=hide hz
 have HT:=hide hT
 have HK0:=hide hK0
 have hxl:x.length≤64:=(nm_len hx1).2
 have HN1:=hide (jname_any w x (by omega))
 rw[hx1]at HN1
 have hsz:(⟨x.toArray⟩:ByteArray).size≤64:=by simpa[ByteArray.size] using hxl
 have hsa:=str_add x
 have HN2:=hide (fun w'=>jname_any w' (x++newE) (by rw[List.length_append];simp[newE];omega))
 rw[hx2]at HN2
 have HRd:=hide (fun w' K' hd'=>Read_any w' K' od d S hd' HV.out k HZ.out hk x (by omega))
 have HEr:Hid (S.err x=0∨(S.err x=42∧S.bytes x=[])):=by
  show _∨_
  unfold St.bytes St.err
  rw[hoff,hx1]
  simp only[Bool.false_eq_true,if_false,if_true]
  split
  ·right;exact⟨rfl,by simp⟩
  ·left;rfl
 generalize hs1:(⟨x.toArray⟩:ByteArray)=s1 at *
 generalize hs2:(⟨(x++newE).toArray⟩:ByteArray)=s2 at *
 have HS1:=hide hs1
 clear hs1 hs2 h hv hz hT hK0 hx1 hx2
 obtain⟨R,hR⟩:∃R,S.found x=R:=⟨_,rfl⟩
 rw[hR]
 have HRf:=hide hR
 clear hR
 go_enter Tryz.func12,Tryz.ntmps12
 go_wp2_with fail
 refine HN1.out.mono ?_
 rintro e w1 ⟨rfl,hb1⟩
 go_wp2_with fail
 refine(HN2.out _).mono ?_
 rintro e w2 ⟨rfl,hb2⟩
 have hbw2:Below w.heap.size w w2:=hb1.trans (hb2.mono hb1.size)
 have hjb:(w2.alloc (.cells #[.pointer (some ⟨d,0,none⟩),.string s1,.slice none 0 0,.int .u64 0,.bool false,.bool false,.bool false] 78)).heap[w2.heap.size]?=some (.cells #[.pointer (some ⟨d,0,none⟩),.string s1,.slice none 0 0,.int .u64 0,.bool false,.bool false,.bool false] 78 (0,0)):=heap_alloc_new _ _
 have hb3:Below w.heap.size w (w2.alloc (.cells #[.pointer (some ⟨d,0,none⟩),.string s1,.slice none 0 0,.int .u64 0,.bool false,.bool false,.bool false] 78)):=hbw2.alloc hbw2.size _
 have hszb:=hbw2.size
 generalize hw3:w2.alloc (.cells #[.pointer (some ⟨d,0,none⟩),.string s1,.slice none 0 0,.int .u64 0,.bool false,.bool false,.bool false] 78)=w3 at *
 obtain⟨jb,hjbe⟩:∃jb,w2.heap.size=jb:=⟨_,rfl⟩
 rw[hjbe]at hjb hszb
 have kp3:∀p,Kp p K (newK (ext K w.heap.size (0,0)) jb (o,1)) w w3:=fun p=>⟨hb3.os,hb3.tape,hb3.output,hb3.size,fun c hc=>by unfold newK;rw[if_neg (by omega)];exact ext_old K _ hc,fun c hc _=>hb3.block c hc⟩
 have HJ3:Hid (Jk w3 (newK (ext K w.heap.size (0,0)) jb (o,1)) o d jb (jnew x ([],0,false,0))) :=
  ⟨.slice none 0 0,[],⟨by rw[hjb,←HS1.out];rfl,by simp[newK],rk_nil _ _ _ _ _,fun i r hr=>by simp[jnew]at hr⟩⟩
 have HK3:=hide (kp3 (Ow o))
 have HD3:=hide (HD.out.kept (kp3 (fun _=>False)) (fun _ h=>h))
 have HT3:=hide (HT.out.below hb3 HT.out.pos)
 have HZ3:Hid (newK (ext K w.heap.size (0,0)) jb (o,1) 0=(0,0)):=((kp3 (Ow o)).same 0 HT.out.pos).trans HK0.out
 generalize newK (ext K w.heap.size (0,0)) jb (o,1)=K3 at *
 have HFi:=hide (files_any w3 K3 o d jb _ HJ3.out)
 clear hb1 hb2 hbw2 hb3 kp3 hjb hszb HN1 HN2
 go_wp2_with fail
 clear hw3 hjbe
 refine HFi.out.mono ?_
 rintro e w3' ⟨rfl,rfl⟩
 go_wp2_with fail
 refine(HRd.out _ K3 HD3.out).mono ?_
 rintro e w4 ⟨a,c,rfl,hr4,hb4⟩
 obtain⟨_,_,hqe,hqc,hqm⟩:=owns_form hr4
 cases hqe
 unfold maxLen at hqm
 have hbl:=bytes_le HV.out x
 have hJ4:=HJ3.out.kept (kp_below hb4 (fun _=>False) K3 (o,3)) (fun _ h=>h)
 have HK4:=hide (HK3.out.trans (kp_below hb4 (Ow o) K3 (o,3)))
 have hY4:=owns_bytes hr4 (bytes_small HV.out HZ.out x)
 have hsp:0<(S.bytes x).length→∃g q,a=some ⟨g,q,none⟩∧ext K3 w3'.heap.size (o,3) g=(o,3):=fun h0=>by
  rcases hr4.2 with ⟨_,e2⟩ | ⟨g,cap,cur,e1,e2,_⟩
  ·omega
  ·cases e1
   exact⟨g,0,rfl,ext_new _ _ e2⟩
 have hT4:=HT3.out.below hb4 HT3.out.pos
 have hz4:ext K3 w3'.heap.size (o,3) 0=(0,0):=(ext_old K3 _ HT3.out.pos).trans HZ3.out
 have HGo:=hide (goThrough_any w4 _ o d jb ho _ hJ4 rfl rfl rfl a (S.bytes x).length c (S.bytes x) rfl hqc (by omega) (by omega) hY4 hsp hT4 hz4)
 rw[show goB ((S.bytes x).length+1) (S.bytes x) [] 0=S.found x from rfl]at HGo
 have hwent:∀R:List (List Nat) × Nat × Bool × Nat,(jnew x ([],0,false,0)).went R=jnew x R:=fun R=>rfl
 rw[hwent]at HGo
 rw[HRf.out]at HGo
 obtain⟨bl,hble⟩:∃bl,(S.bytes x).length=bl:=⟨_,rfl⟩
 rw[hble]at HGo ⊢
 obtain⟨er,her⟩:∃er,S.err x=er:=⟨_,rfl⟩
 have her2:er=0∨er=42:=by rw[←her];rcases HEr.out with h | ⟨h,_⟩ <;> simp[h]
 rw[her]
 clear hr4 hb4 hJ4 hY4 hsp hT4 hz4 hwent hble her HRd HFi hbl hqc hqm
 rcases her2 with rfl | rfl
 ·skip
  go_wp2_with fail
  refine HGo.out.mono ?_
  rintro e w5 ⟨K5,rfl,hj5,hk5⟩
  have HJ5:=hide hj5
  have HK5:=hide (HK4.out.trans hk5)
  clear hj5 hk5
  by_cases hE:R.2.2.2=0
  ·have hE':((R.2.2.2:Nat):Int)=0:=by omega
   go_wp2
   go_ret2
   exact⟨K5,HK5.out,Or.inl ⟨hE,_,rfl,HJ5.out⟩⟩
  ·have hE':¬((R.2.2.2:Nat):Int)=0:=by omega
   go_wp2
   go_ret2
   exact⟨K5,HK5.out,Or.inr ⟨hE,rfl⟩⟩
 ·skip
  go_wp2_with fail
  refine HGo.out.mono ?_
  rintro e w5 ⟨K5,rfl,hj5,hk5⟩
  have HJ5:=hide hj5
  have HK5:=hide (HK4.out.trans hk5)
  clear hj5 hk5
  by_cases hE:R.2.2.2=0
  ·have hE':((R.2.2.2:Nat):Int)=0:=by omega
   go_wp2
   go_ret2
   exact⟨K5,HK5.out,Or.inl ⟨hE,_,rfl,HJ5.out⟩⟩
  ·have hE':¬((R.2.2.2:Nat):Int)=0:=by omega
   go_wp2
   go_ret2
   exact⟨K5,HK5.out,Or.inr ⟨hE,rfl⟩⟩
inductive Stk where
 | app (x:Nm) (r:List Nat)
 | cut (x:Nm) (n:Nat)
 | sync (x:Nm)
 | names
 | ren (x y:Nm)
 | rem (x:Nm)
 | mend
 | drop
def Stk.run (S:St) (J:Jr):Stk→Nat × St × Jr
 | .app x r=>((S.appendR x r).1,(S.appendR x r).2,J)
 | .cut x n=>((S.cutR x n).1,(S.cutR x n).2,J)
 | .sync x=>((S.syncR x).1,(S.syncR x).2,J)
 | .names=>(S.namesR.1,S.namesR.2,J)
 | .ren x y=>((S.renameR x y).1,(S.renameR x y).2,J)
 | .rem x=>((S.removeR x).1,(S.removeR x).2,J)
 | .mend=>(0,S,{ J with torn:=false })
 | .drop=>(0,S,{ J with recs:=[],torn:=false })
structure Box (w:World) (K:Knd) (o b:Nat) (v:Value) (t:TypeId):Prop where
 blk:w.heap[b]?=some (.cells #[v] t (0,0))
 kd:K b=(o,4)
theorem Box.cell {w:World} {K:Knd} {o b:Nat} {v:Value} {t:TypeId} (h:Box w K o b v t):w.cell? ⟨b,0,none⟩=some v:=by simp[World.cell?,h.blk]
theorem Box.kept {p:Nat × Nat→Prop} {K K':Knd} {w w':World} {o b:Nat} {v:Value} {t:TypeId} (h:Box w K o b v t) (hk:Kp p K K' w w') (hp:¬p (o,4)):Box w' K' o b v t:=by
 have hl:=lt_of_block h.blk
 exact⟨(hk.block b hl (by rw[h.kd];exact hp)).trans h.blk,(hk.same b hl).trans h.kd⟩
def Sv (w:World) (K:Knd) (o d jb:Nat) (v:Value):Stk→Prop
 | .app x r=>∃b0 b1 b2 g q c,v=.func (.func 139) #[] #[.pointer (some ⟨b0,0,none⟩),.pointer (some ⟨b1,0,none⟩),.pointer (some ⟨b2,0,none⟩)]∧Box w K o b0 (.func (.func 32) #[.pointer (some ⟨d,0,none⟩)] #[]) 68∧Box w K o b1 (.string ⟨x.toArray⟩) 9∧Box w K o b2 (.slice (some ⟨g,q,none⟩) r.length c) 32∧x.length≤64∧K g=(o,3)∧(∃D fr,w.heap[g]?=some (.cells D 5 fr))∧Bytes w (some ⟨g,q,none⟩) r∧r.length≤4194304
 | .cut x n=>∃b0 b1 b2,v=.func (.func 137) #[] #[.pointer (some ⟨b0,0,none⟩),.pointer (some ⟨b1,0,none⟩),.pointer (some ⟨b2,0,none⟩)]∧Box w K o b0 (.func (.func 84) #[.pointer (some ⟨d,0,none⟩)] #[]) 146∧Box w K o b1 (.string ⟨x.toArray⟩) 9∧Box w K o b2 (.int .i64 (n:Int)) 3∧x.length≤64∧n≤9223372036854775807
 | .sync x=>∃b0 b1,v=.func (.func 140) #[] #[.pointer (some ⟨b0,0,none⟩),.pointer (some ⟨b1,0,none⟩)]∧Box w K o b0 (.func (.func 98) #[.pointer (some ⟨d,0,none⟩)] #[]) 147∧Box w K o b1 (.string ⟨x.toArray⟩) 9∧x.length≤64
 | .names=>v=.func (.func 99) #[.pointer (some ⟨d,0,none⟩)] #[]
 | .ren x y=>∃b0 b1 b2,v=.func (.func 157) #[] #[.pointer (some ⟨b0,0,none⟩),.pointer (some ⟨b1,0,none⟩),.pointer (some ⟨b2,0,none⟩)]∧Box w K o b0 (.func (.func 118) #[.pointer (some ⟨d,0,none⟩)] #[]) 181∧Box w K o b1 (.string ⟨x.toArray⟩) 9∧Box w K o b2 (.string ⟨y.toArray⟩) 9∧x.length≤64∧y.length≤64
 | .rem x=>∃b0 b1,v=.func (.func 140) #[] #[.pointer (some ⟨b0,0,none⟩),.pointer (some ⟨b1,0,none⟩)]∧Box w K o b0 (.func (.func 85) #[.pointer (some ⟨d,0,none⟩)] #[]) 147∧Box w K o b1 (.string ⟨x.toArray⟩) 9∧x.length≤64
 | .mend=>∃b0 b1,v=.func (.func 138) #[] #[.pointer (some ⟨b0,0,none⟩)]∧Box w K o b0 (.func (.func 95) #[] #[.pointer (some ⟨b1,0,none⟩)]) 1∧Box w K o b1 (.pointer (some ⟨jb,0,none⟩)) 43
 | .drop=>∃b0 b1,v=.func (.func 138) #[] #[.pointer (some ⟨b0,0,none⟩)]∧Box w K o b0 (.func (.func 119) #[] #[.pointer (some ⟨b1,0,none⟩)]) 1∧Box w K o b1 (.pointer (some ⟨jb,0,none⟩)) 43
theorem Sv.kept {p:Nat × Nat→Prop} {K K':Knd} {w w':World} {o d jb:Nat} {v:Value} {s:Stk} (h:Sv w K o d jb v s) (hk:Kp p K K' w w') (h3:¬p (o,3)) (h4:¬p (o,4)):Sv w' K' o d jb v s:=by
 cases s with
 | app x r =>
  obtain⟨b0,b1,b2,g,q,c,e,x0,x1,x2,x3,x4,x5,x6,x7⟩:=h
  obtain⟨D,fr,hD⟩:=x5
  have x5:=lt_of_block hD
  exact⟨b0,b1,b2,g,q,c,e,x0.kept hk h4,x1.kept hk h4,x2.kept hk h4,x3,(hk.same g x5).trans x4,⟨D,fr,(hk.block g x5 (by rw[x4];exact h3)).trans hD⟩,bytes_kept x6 hk.size (fun g' o' e hg=>by cases e;exact hk.block g hg (by rw[x4];exact h3)),x7⟩
 | cut x n =>
  obtain⟨b0,b1,b2,e,x0,x1,x2,x3⟩:=h
  exact⟨b0,b1,b2,e,x0.kept hk h4,x1.kept hk h4,x2.kept hk h4,x3⟩
 | sync x =>
  obtain⟨b0,b1,e,x0,x1,x3⟩:=h
  exact⟨b0,b1,e,x0.kept hk h4,x1.kept hk h4,x3⟩
 | names=>exact h
 | ren x y =>
  obtain⟨b0,b1,b2,e,x0,x1,x2,x3⟩:=h
  exact⟨b0,b1,b2,e,x0.kept hk h4,x1.kept hk h4,x2.kept hk h4,x3⟩
 | rem x =>
  obtain⟨b0,b1,e,x0,x1,x3⟩:=h
  exact⟨b0,b1,e,x0.kept hk h4,x1.kept hk h4,x3⟩
 | mend =>
  obtain⟨b0,b1,e,x0,x1⟩:=h
  exact⟨b0,b1,e,x0.kept hk h4,x1.kept hk h4⟩
 | drop =>
  obtain⟨b0,b1,e,x0,x1⟩:=h
  exact⟨b0,b1,e,x0.kept hk h4,x1.kept hk h4⟩
def Ps (od o:Nat) (k:Nat × Nat):Prop:=Ow od k∨k=(o,1)
def Does (w:World) (K:Knd) (od o d jb:Nat) (S:St) (J:Jr) (s:Stk) (e:Ending) (w':World):Prop :=
 ∃K',e=.returned (.int .i64 ((s.run S J).1:Int))∧Dk w' K' od d (s.run S J).2.1∧Jk w' K' o d jb (s.run S J).2.2∧Kp (Ps od o) K K' w w'
set_option maxHeartbeats 400000 in
theorem app_stroke (w:World) (K:Knd) (od o d jb:Nat) (hne:o≠od) (S:St) (J:Jr) (hd:Dk w K od d S) (hv:Inv S) (k:Nat) (hz:Sz S k) (hk:k+4194304≤549755813888) (hj:Jk w K o d jb J) (x:Nm) (r:List Nat) (b0 b1 b2 g q c n:Nat) (hn:r.length=n) (x0:Box w K o b0 (.func (.func 32) #[.pointer (some ⟨d,0,none⟩)] #[]) 68) (x1:Box w K o b1 (.string ⟨x.toArray⟩) 9) (x2:Box w K o b2 (.slice (some ⟨g,q,none⟩) n c) 32) (hx:x.length≤64) (hg:K g=(o,3)) (hgl:g<w.heap.size) (hb:Bytes w (some ⟨g,q,none⟩) r) (hr:r.length≤4194304) :
  Calls Tryz.prog 139 #[.pointer (some ⟨b0,0,none⟩),.pointer (some ⟨b1,0,none⟩),.pointer (some ⟨b2,0,none⟩)] w (Does w K od o d jb S J (.app x r)):=by
 have HC:=hide (Append_any w K od d S hd k x (by omega) (some ⟨g,q,none⟩) n c r hn ⟨hv,hz,by omega,hb,Or.inr (fun g' p e=>by cases e;rw[hg];exact hne),Or.inr (fun g' p e=>by cases e;exact hgl)⟩)
 have c0:=x0.cell
 have c1:=x1.cell
 have c2:=x2.cell
 clear hb hg hgl hr
 clear x0 x1 x2 hd hv hz
 have HJ:=hide hj
 clear hj
 go_enter Tryz.func139,Tryz.ntmps139
 go_wp2_with fail
 refine HC.out.mono ?_
 rintro e w1 ⟨K1,rfl,hd1,hk1⟩
 have HD1:=hide hd1
 have HJ1:=hide (HJ.out.kept hk1 (fun n hn=>hne hn))
 have HK1:=hide (hk1.mono (q:=Ps od o) (fun k h=>Or.inl h))
 clear hd1 hk1
 go_wp2
 go_ret
 exact⟨K1,rfl,HD1.out,HJ1.out,HK1.out⟩
set_option maxHeartbeats 400000 in
theorem cut_stroke (w:World) (K:Knd) (od o d jb:Nat) (hne:o≠od) (S:St) (J:Jr) (hd:Dk w K od d S) (hv:Inv S) (k:Nat) (hz:Sz S k) (hk:k+4194304≤549755813888) (hj:Jk w K o d jb J) (x:Nm) (b0 b1 b2 n:Nat) (x0:Box w K o b0 (.func (.func 84) #[.pointer (some ⟨d,0,none⟩)] #[]) 146) (x1:Box w K o b1 (.string ⟨x.toArray⟩) 9) (x2:Box w K o b2 (.int .i64 (n:Int)) 3) (hx:x.length≤64) (hn:n≤9223372036854775807) :
  Calls Tryz.prog 137 #[.pointer (some ⟨b0,0,none⟩),.pointer (some ⟨b1,0,none⟩),.pointer (some ⟨b2,0,none⟩)] w (Does w K od o d jb S J (.cut x n)):=by
 have HC:=hide (Cut_any w K od d S hd hv k hz (by omega) x (by omega) (n:Int) (by omega))
 have c0:=x0.cell
 have c1:=x1.cell
 have c2:=x2.cell
 clear x0 x1 x2 hd hv hz
 have HJ:=hide hj
 clear hj
 go_enter Tryz.func137,Tryz.ntmps137
 go_wp2_with fail
 refine HC.out.mono ?_
 rintro e w1 ⟨K1,rfl,hd1,hk1⟩
 have HD1:=hide hd1
 have HJ1:=hide (HJ.out.kept hk1 (fun n hn=>hne hn))
 have HK1:=hide (hk1.mono (q:=Ps od o) (fun k h=>Or.inl h))
 clear hd1 hk1
 go_wp2
 go_ret
 exact⟨K1,rfl,HD1.out,HJ1.out,HK1.out⟩
set_option maxHeartbeats 400000 in
theorem sync_stroke (w:World) (K:Knd) (od o d jb:Nat) (hne:o≠od) (S:St) (J:Jr) (hd:Dk w K od d S) (hv:Inv S) (k:Nat) (hz:Sz S k) (hk:k+4194304≤549755813888) (hj:Jk w K o d jb J) (x:Nm) (b0 b1:Nat) (x0:Box w K o b0 (.func (.func 98) #[.pointer (some ⟨d,0,none⟩)] #[]) 147) (x1:Box w K o b1 (.string ⟨x.toArray⟩) 9) (hx:x.length≤64) :
  Calls Tryz.prog 140 #[.pointer (some ⟨b0,0,none⟩),.pointer (some ⟨b1,0,none⟩)] w (Does w K od o d jb S J (.sync x)):=by
 have HC:=hide (Sync_any w K od d S hd hv k hz (by omega) x (by omega))
 have c0:=x0.cell
 have c1:=x1.cell
 clear x0 x1 hd hv hz
 have HJ:=hide hj
 clear hj
 go_enter Tryz.func140,Tryz.ntmps140
 go_wp2_with fail
 refine HC.out.mono ?_
 rintro e w1 ⟨K1,rfl,hd1,hk1⟩
 have HD1:=hide hd1
 have HJ1:=hide (HJ.out.kept hk1 (fun n hn=>hne hn))
 have HK1:=hide (hk1.mono (q:=Ps od o) (fun k h=>Or.inl h))
 clear hd1 hk1
 go_wp2
 go_ret
 exact⟨K1,rfl,HD1.out,HJ1.out,HK1.out⟩
set_option maxHeartbeats 400000 in
theorem ren_stroke (w:World) (K:Knd) (od o d jb:Nat) (hne:o≠od) (S:St) (J:Jr) (hd:Dk w K od d S) (hv:Inv S) (k:Nat) (hz:Sz S k) (hk:k+4194304≤549755813888) (hj:Jk w K o d jb J) (x y:Nm) (b0 b1 b2:Nat) (x0:Box w K o b0 (.func (.func 118) #[.pointer (some ⟨d,0,none⟩)] #[]) 181) (x1:Box w K o b1 (.string ⟨x.toArray⟩) 9) (x2:Box w K o b2 (.string ⟨y.toArray⟩) 9) (hx:x.length≤64) (hy:y.length≤64) :
  Calls Tryz.prog 157 #[.pointer (some ⟨b0,0,none⟩),.pointer (some ⟨b1,0,none⟩),.pointer (some ⟨b2,0,none⟩)] w (Does w K od o d jb S J (.ren x y)):=by
 have HC:=hide (Rename_any w K od d S hd hv k hz (by omega) x y (by omega) (by omega))
 have c0:=x0.cell
 have c1:=x1.cell
 have c2:=x2.cell
 clear x0 x1 x2 hd hv hz
 have HJ:=hide hj
 clear hj
 go_enter Tryz.func157,Tryz.ntmps157
 go_wp2_with fail
 refine HC.out.mono ?_
 rintro e w1 ⟨K1,rfl,hd1,hk1⟩
 have HD1:=hide hd1
 have HJ1:=hide (HJ.out.kept hk1 (fun n hn=>hne hn))
 have HK1:=hide (hk1.mono (q:=Ps od o) (fun k h=>Or.inl h))
 clear hd1 hk1
 go_wp2
 go_ret
 exact⟨K1,rfl,HD1.out,HJ1.out,HK1.out⟩
set_option maxHeartbeats 400000 in
theorem rem_stroke (w:World) (K:Knd) (od o d jb:Nat) (hne:o≠od) (S:St) (J:Jr) (hd:Dk w K od d S) (hv:Inv S) (k:Nat) (hz:Sz S k) (hk:k+4194304≤549755813888) (hj:Jk w K o d jb J) (x:Nm) (b0 b1:Nat) (x0:Box w K o b0 (.func (.func 85) #[.pointer (some ⟨d,0,none⟩)] #[]) 147) (x1:Box w K o b1 (.string ⟨x.toArray⟩) 9) (hx:x.length≤64) :
  Calls Tryz.prog 140 #[.pointer (some ⟨b0,0,none⟩),.pointer (some ⟨b1,0,none⟩)] w (Does w K od o d jb S J (.rem x)):=by
 have HC:=hide (Remove_any w K od d S hd hv k hz (by omega) x (by omega))
 have c0:=x0.cell
 have c1:=x1.cell
 clear x0 x1 hd hv hz
 have HJ:=hide hj
 clear hj
 go_enter Tryz.func140,Tryz.ntmps140
 go_wp2_with fail
 refine HC.out.mono ?_
 rintro e w1 ⟨K1,rfl,hd1,hk1⟩
 have HD1:=hide hd1
 have HJ1:=hide (HJ.out.kept hk1 (fun n hn=>hne hn))
 have HK1:=hide (hk1.mono (q:=Ps od o) (fun k h=>Or.inl h))
 clear hd1 hk1
 go_wp2
 go_ret
 exact⟨K1,rfl,HD1.out,HJ1.out,HK1.out⟩
theorem names_stroke (w:World) (K:Knd) (od o d jb:Nat) (hne:o≠od) (S:St) (J:Jr) (hd:Dk w K od d S) (hv:Inv S) (k:Nat) (hz:Sz S k) (hk:k+4194304≤549755813888) (hj:Jk w K o d jb J):Calls Tryz.prog 99 #[.pointer (some ⟨d,0,none⟩)] w (Does w K od o d jb S J .names):=by
 refine(SyncNames_any w K od d S hd hv k hz (by omega)).mono ?_
 rintro e w1 ⟨K1,rfl,hd1,hk1⟩
 exact⟨K1,rfl,hd1,hj.kept hk1 (fun n hn=>hne hn),hk1.mono (fun k h=>Or.inl h)⟩
theorem Jk.flags {w:World} {K:Knd} {o d jb:Nat} {J:Jr} (h:Jk w K o d jb J) (b:Bool):Jk (w.setCell ⟨jb,4,none⟩ (.bool b)) K o d jb { J with torn:=b }:=by
 obtain⟨rv,vs,hm⟩:=h
 have hne:∀b c,K b=(o,c)→c≠1→b≠jb:=fun b c hb hc e=>by rw[e,hm.kj]at hb;cases hb;exact hc rfl
 refine⟨rv,vs,⟨by rw[block_set hm.blk];rfl,hm.kj,⟨owns_set hm.row.own (fun e=>hne jb 2 (hm.row.kind jb e.symm) (by decide) rfl),hm.row.kind⟩,fun i r hr=>?_⟩⟩
 obtain⟨g,q,c,h1,h2,h3,h4,h5,h6⟩:=hm.recs i r hr
 exact⟨g,q,c,h1,h2,h3,h4,by simpa using h5,bytes_kept h6 (by simp) (fun g' o' e hg=>by cases e;exact Below.heap_setCell _ _ _ _ (hne g 3 h4 (by decide)))⟩
theorem Jk.dropped {w:World} {K:Knd} {o d jb:Nat} {J:Jr} (h:Jk w K o d jb J):Jk (w.setCell ⟨jb,2,none⟩ (.slice none 0 0)) K o d jb { J with recs:=[] }:=by
 obtain⟨rv,vs,hm⟩:=h
 exact⟨.slice none 0 0,[],⟨by rw[block_set hm.blk];rfl,hm.kj,rk_nil _ _ _ _ _,fun i r hr=>by simp at hr⟩⟩
set_option maxHeartbeats 400000 in
theorem mend_fn (w:World) (jb b:Nat) (c0:w.cell? ⟨b,0,none⟩=some (.pointer (some ⟨jb,0,none⟩))) (bt:Bool) (c4:w.cell? ⟨jb,4,none⟩=some (.bool bt)) (hf:∀i,w.frozen? ⟨jb,i,none⟩=false) :
  Calls Tryz.prog 95 #[.pointer (some ⟨b,0,none⟩)] w fun e w'=>e=.returned (.tuple #[])∧w'=w.setCell ⟨jb,4,none⟩ (.bool false):=by
 have f4:=hf 4
 clear hf
 go_enter Tryz.func95,Tryz.ntmps95
 go_wp2
 go_end0
 exact⟨rfl,rfl⟩
set_option maxHeartbeats 400000 in
theorem drop_fn (w:World) (jb b:Nat) (c0:w.cell? ⟨b,0,none⟩=some (.pointer (some ⟨jb,0,none⟩))) (x2:Value) (c2:w.cell? ⟨jb,2,none⟩=some x2) (bt:Bool) (c4:w.cell? ⟨jb,4,none⟩=some (.bool bt)) (hf:∀i,w.frozen? ⟨jb,i,none⟩=false) :
  Calls Tryz.prog 119 #[.pointer (some ⟨b,0,none⟩)] w fun e w'=>e=.returned (.tuple #[])∧w'=((w.setCell ⟨jb,2,none⟩ (.slice none 0 0)).setCell ⟨jb,4,none⟩ (.bool false)).drew:=by
 have f4:=hf 4
 have f2:=hf 2
 clear hf
 go_enter Tryz.func119,Tryz.ntmps119
 go_region
 go_end0
 exact⟨rfl,rfl⟩
set_option maxHeartbeats 400000 in
theorem mend_stroke (w:World) (K:Knd) (od o d jb:Nat) (hne:o≠od) (S:St) (J:Jr) (hd:Dk w K od d S) (hj:Jk w K o d jb J) (b0 b1:Nat) (x0:Box w K o b0 (.func (.func 95) #[] #[.pointer (some ⟨b1,0,none⟩)]) 1) (x1:Box w K o b1 (.pointer (some ⟨jb,0,none⟩)) 43) :
  Calls Tryz.prog 138 #[.pointer (some ⟨b0,0,none⟩)] w (Does w K od o d jb S J .mend):=by
 obtain⟨rv,vs,hm⟩:=hj
 have hb:=hm.blk
 unfold jcells at hb
 obtain⟨q0,q1,q2,q3,q4,q5,q6,qf⟩:=blk7 hb
 have HF:=hide (mend_fn w jb b1 x1.cell _ q4 qf)
 have hkp:Kp (Ps od o) K K w w:=⟨rfl,rfl,rfl,Nat.le_refl _,fun _ _=>rfl,fun _ _ _=>rfl⟩
 have HK:Hid (Kp (Ps od o) K K w (w.setCell ⟨jb,4,none⟩ (.bool false))):=hkp.setCell (Or.inr (Or.inr hm.kj)) _ _
 have HJ:Hid (Jk (w.setCell ⟨jb,4,none⟩ (.bool false)) K o d jb { J with torn:=false }):=Jk.flags ⟨rv,vs,hm⟩ false
 have HD:Hid (Dk (w.setCell ⟨jb,4,none⟩ (.bool false)) K od d S):=hd.kept (p:=fun k=>k=(o,1)) ((⟨rfl,rfl,rfl,Nat.le_refl _,fun _ _=>rfl,fun _ _ _=>rfl⟩:Kp (fun k=>k=(o,1)) K K w w).setCell (Or.inr hm.kj) _ _) (fun n hn=>hne (by cases hn;rfl))
 have c0:=x0.cell
 clear hm hb q0 q1 q2 q3 q4 q5 q6 qf hd x0 x1 hkp
 go_enter Tryz.func138,Tryz.ntmps138
 go_wp2_with fail
 refine HF.out.mono ?_
 rintro e w1 ⟨rfl,hw1⟩
 rw[←hw1]at HK HJ HD
 clear hw1 HF
 go_wp2
 go_ret
 exact⟨K,rfl,HD.out,HJ.out,HK.out⟩
set_option maxHeartbeats 400000 in
theorem drop_stroke (w:World) (K:Knd) (od o d jb:Nat) (hne:o≠od) (S:St) (J:Jr) (hd:Dk w K od d S) (hj:Jk w K o d jb J) (b0 b1:Nat) (x0:Box w K o b0 (.func (.func 119) #[] #[.pointer (some ⟨b1,0,none⟩)]) 1) (x1:Box w K o b1 (.pointer (some ⟨jb,0,none⟩)) 43) :
  Calls Tryz.prog 138 #[.pointer (some ⟨b0,0,none⟩)] w (Does w K od o d jb S J .drop):=by
 obtain⟨rv,vs,hm⟩:=hj
 have hb:=hm.blk
 unfold jcells at hb
 obtain⟨q0,q1,q2,q3,q4,q5,q6,qf⟩:=blk7 hb
 have HF:=hide (drop_fn w jb b1 x1.cell _ q2 _ q4 qf)
 have hkp:Kp (Ps od o) K K w w:=⟨rfl,rfl,rfl,Nat.le_refl _,fun _ _=>rfl,fun _ _ _=>rfl⟩
 have HK:Hid (Kp (Ps od o) K K w (((w.setCell ⟨jb,2,none⟩ (.slice none 0 0)).setCell ⟨jb,4,none⟩ (.bool false)).drew)):=((hkp.setCell (Or.inr (Or.inr hm.kj)) _ _).setCell (Or.inr (Or.inr hm.kj)) _ _).drew
 have HJ:Hid (Jk (((w.setCell ⟨jb,2,none⟩ (.slice none 0 0)).setCell ⟨jb,4,none⟩ (.bool false)).drew) K o d jb { J with recs:=[],torn:=false }):=(Jk.flags (Jk.dropped ⟨rv,vs,hm⟩) false).kept (p:=fun _=>False) ⟨rfl,rfl,rfl,Nat.le_refl _,fun _ _=>rfl,fun _ _ _=>rfl⟩ (fun _ h=>h)
 have HD:Hid (Dk (((w.setCell ⟨jb,2,none⟩ (.slice none 0 0)).setCell ⟨jb,4,none⟩ (.bool false)).drew) K od d S):=hd.kept (p:=fun k=>k=(o,1)) ((((⟨rfl,rfl,rfl,Nat.le_refl _,fun _ _=>rfl,fun _ _ _=>rfl⟩:Kp (fun k=>k=(o,1)) K K w w).setCell (Or.inr hm.kj) _ _).setCell (Or.inr hm.kj) _ _).drew) (fun n hn=>hne (by cases hn;rfl))
 have c0:=x0.cell
 clear hm hb q0 q1 q2 q3 q4 q5 q6 qf hd x0 x1 hkp
 go_enter Tryz.func138,Tryz.ntmps138
 go_wp2_with fail
 refine HF.out.mono ?_
 rintro e w1 ⟨rfl,hw1⟩
 rw[←hw1]at HK HJ HD
 clear hw1 HF
 go_wp2
 go_ret
 exact⟨K,rfl,HD.out,HJ.out,HK.out⟩
theorem step_any (w:World) (K:Knd) (od o d jb:Nat) (hne:o≠od) (S:St) (J:Jr) (hd:Dk w K od d S) (hv:Inv S) (k:Nat) (hz:Sz S k) (hk:k+4194304≤549755813888) (hj:Jk w K o d jb J) (v:Value) (s:Stk) (hs:Sv w K o d jb v s):∃(N:Nat) (b c:Array Value),v=.func (.func N) b c∧Calls Tryz.prog N (b++c) w (Does w K od o d jb S J s):=by
 cases s with
 | app x r =>
  obtain⟨b0,b1,b2,g,q,c,e,x0,x1,x2,x3,x4,x5,x6,x7⟩:=hs
  obtain⟨D,fr,hD⟩:=x5
  have x5:=lt_of_block hD
  exact⟨_,_,_,e,app_stroke w K od o d jb hne S J hd hv k hz hk hj x r b0 b1 b2 g q c _ rfl x0 x1 x2 x3 x4 x5 x6 x7⟩
 | cut x n =>
  obtain⟨b0,b1,b2,e,x0,x1,x2,x3,x4⟩:=hs
  exact⟨_,_,_,e,cut_stroke w K od o d jb hne S J hd hv k hz hk hj x b0 b1 b2 n x0 x1 x2 x3 x4⟩
 | sync x =>
  obtain⟨b0,b1,e,x0,x1,x3⟩:=hs
  exact⟨_,_,_,e,sync_stroke w K od o d jb hne S J hd hv k hz hk hj x b0 b1 x0 x1 x3⟩
 | names=>exact⟨_,_,_,hs,names_stroke w K od o d jb hne S J hd hv k hz hk hj⟩
 | ren x y =>
  obtain⟨b0,b1,b2,e,x0,x1,x2,x3,x4⟩:=hs
  exact⟨_,_,_,e,ren_stroke w K od o d jb hne S J hd hv k hz hk hj x y b0 b1 b2 x0 x1 x2 x3 x4⟩
 | rem x =>
  obtain⟨b0,b1,e,x0,x1,x3⟩:=hs
  exact⟨_,_,_,e,rem_stroke w K od o d jb hne S J hd hv k hz hk hj x b0 b1 x0 x1 x3⟩
 | mend =>
  obtain⟨b0,b1,e,x0,x1⟩:=hs
  exact⟨_,_,_,e,mend_stroke w K od o d jb hne S J hd hj b0 b1 x0 x1⟩
 | drop =>
  obtain⟨b0,b1,e,x0,x1⟩:=hs
  exact⟨_,_,_,e,drop_stroke w K od o d jb hne S J hd hj b0 b1 x0 x1⟩
theorem Tryz.infoSk:(Tryz.prog.info? 158).map (fun i=>(i.zero,i.size,i.bytes))=some (some .nilFunc,1,8):=by kernel_rfl
def Nst (w w':World):Prop:=∀(g:Nat) (D:Array Value) (t:TypeId) (fr:Nat × Nat),w.heap[g]?=some (.cells D t fr)→t≠158→w'.heap[g]?=w.heap[g]?
theorem Nst.trans {a b c:World} (h:Nst a b) (k:Nst b c):Nst a c:=fun g D t fr e ht=>(k g D t fr ((h g D t fr e ht).trans e) ht).trans (h g D t fr e ht)
theorem nst_below {w w':World} (h:Below w.heap.size w w'):Nst w w':=fun g _ _ _ e _=>h.block g (lt_of_block e)
theorem nst_grown {w w':World} {v:Value} {B n s:Nat} {xs:List Value} (h:w.grownBy w' v.ownBlock) (ho:w.ownsRow B 158 s v n xs):Nst w w':=fun g _ _ _ e ht=>h.block g (lt_of_block e) (owns_ne ho e ht)
theorem Box.same {w w':World} {K:Knd} {o b:Nat} {v:Value} {t:TypeId} (h:Box w K o b v t) (hn:Nst w w') (ht:t≠158):Box w' K o b v t:=⟨(hn b _ _ _ h.blk ht).trans h.blk,h.kd⟩
theorem Sv.same {w w':World} {K:Knd} {o d jb:Nat} {v:Value} {s:Stk} (h:Sv w K o d jb v s) (hn:Nst w w') (hs:w.heap.size≤w'.heap.size):Sv w' K o d jb v s:=by
 cases s with
 | app x r =>
  obtain⟨b0,b1,b2,g,q,c,e,x0,x1,x2,x3,x4,x5,x6,x7⟩:=h
  obtain⟨D,fr,hD⟩:=x5
  exact⟨b0,b1,b2,g,q,c,e,x0.same hn (by decide),x1.same hn (by decide),x2.same hn (by decide),x3,x4,⟨D,fr,(hn g _ _ _ hD (by decide)).trans hD⟩,bytes_kept x6 hs (fun g' o' e hg=>by cases e;exact hn g _ _ _ hD (by decide)),x7⟩
 | cut x n =>
  obtain⟨b0,b1,b2,e,x0,x1,x2,x3⟩:=h
  exact⟨b0,b1,b2,e,x0.same hn (by decide),x1.same hn (by decide),x2.same hn (by decide),x3⟩
 | sync x =>
  obtain⟨b0,b1,e,x0,x1,x3⟩:=h
  exact⟨b0,b1,e,x0.same hn (by decide),x1.same hn (by decide),x3⟩
 | names=>exact h
 | ren x y =>
  obtain⟨b0,b1,b2,e,x0,x1,x2,x3⟩:=h
  exact⟨b0,b1,b2,e,x0.same hn (by decide),x1.same hn (by decide),x2.same hn (by decide),x3⟩
 | rem x =>
  obtain⟨b0,b1,e,x0,x1,x3⟩:=h
  exact⟨b0,b1,e,x0.same hn (by decide),x1.same hn (by decide),x3⟩
 | mend =>
  obtain⟨b0,b1,e,x0,x1⟩:=h
  exact⟨b0,b1,e,x0.same hn (by decide),x1.same hn (by decide)⟩
 | drop =>
  obtain⟨b0,b1,e,x0,x1⟩:=h
  exact⟨b0,b1,e,x0.same hn (by decide),x1.same hn (by decide)⟩
structure Srow (B:Nat) (w:World) (K:Knd) (o d jb:Nat) (a:Option Addr) (n c:Nat) (ss:List Stk) (vs:List Value):Prop where
 len:ss.length=n
 own:w.ownsRow B 158 1 (.slice a n c) n vs
 each:∀(i:Nat) (s:Stk),ss[i]?=some s→∃v,vs[i]?=some v∧Sv w K o d jb v s
theorem srow_nil (B:Nat) (w:World) (K:Knd) (o d jb:Nat):Srow B w K o d jb none 0 0 [] []:=⟨rfl,⟨rfl,Or.inl ⟨rfl,rfl⟩⟩,fun i s hs=>by simp at hs⟩
theorem Srow.below {B:Nat} {w w':World} {K:Knd} {o d jb n c:Nat} {a:Option Addr} {ss:List Stk} {vs:List Value} (h:Srow B w K o d jb a n c ss vs) (hb:Below w.heap.size w w'):Srow B w' K o d jb a n c ss vs :=
 ⟨h.len,owns_same h.own (fun g hg=>hb.block g (rk_lt h.own hg)),fun i s hs=>by
  obtain⟨v,h1,h2⟩:=h.each i s hs
  exact⟨v,h1,h2.same (nst_below hb) hb.size⟩⟩
theorem Srow.more {B:Nat} {w w':World} {K:Knd} {o d jb n c m c':Nat} {a a':Option Addr} {ss ts:List Stk} {vs us:List Value} (h:Srow B w K o d jb a n c ss vs) (hn:Nst w w') (hs:w.heap.size≤w'.heap.size) (hm:n+ts.length=m) (ho:w'.ownsRow B 158 1 (.slice a' m c') m (vs++us)) (hu:∀(i:Nat) (s:Stk),ts[i]?=some s→∃v,us[i]?=some v∧Sv w' K o d jb v s):Srow B w' K o d jb a' m c' (ss++ts) (vs++us):=by
 have hl:vs.length=n:=by have:=h.own.1;omega
 refine⟨by rw[List.length_append,h.len];exact hm,ho,fun i s hi=>?_⟩
 by_cases hin:i<n
 ·rw[List.getElem?_append_left (by rw[h.len];exact hin)]at hi
  obtain⟨v,h1,h2⟩:=h.each i s hi
  exact⟨v,by rw[List.getElem?_append_left (by omega)];exact h1,h2.same hn hs⟩
 ·rw[List.getElem?_append_right (by rw[h.len];omega),h.len]at hi
  obtain⟨v,h1,h2⟩:=hu _ s hi
  exact⟨v,by rw[List.getElem?_append_right (by omega),hl];exact h1,h2⟩
structure Nb (w w':World) (b:Nat) (v:Value) (t:TypeId):Prop where
 ge:w.heap.size≤b
 blk:w'.heap[b]?=some (.cells #[v] t (0,0))
theorem Nb.box {w0 w w':World} {K:Knd} {b:Nat} {v:Value} {t:TypeId} (h:Nb w w' b v t) (hb:w0.heap.size≤w.heap.size) (o:Nat):Box w' (ext K w0.heap.size (o,4)) o b v t:=⟨h.blk,ext_new K _ (Nat.le_trans hb h.ge)⟩
theorem below3 (w:World) (X Y Z:Obj):Below w.heap.size w (((w.alloc X).alloc Y).alloc Z):=(((Below.refl _ _).alloc (Nat.le_refl _) _).alloc (by first | omega | (simp;done) | (simp;omega)) _).alloc (by simp;omega) _
theorem below2 (w:World) (X Y:Obj):Below w.heap.size w ((w.alloc X).alloc Y):=((Below.refl _ _).alloc (Nat.le_refl _) _).alloc (by first | omega | (simp;done) | (simp;omega)) _
set_option maxHeartbeats 400000 in
theorem withb_any (w:World) (N d:Nat) (s:ByteArray) (sp:Option Addr) (n c:Nat) :
  Calls Tryz.prog 96 #[.func (.func N) #[.pointer (some ⟨d,0,none⟩)] #[],.string s,.slice sp n c] w fun e w'=>∃b0 b1 b2,e=.returned (.func (.func 139) #[] #[.pointer (some ⟨b0,0,none⟩),.pointer (some ⟨b1,0,none⟩),.pointer (some ⟨b2,0,none⟩)])∧Nb w w' b0 (.func (.func N) #[.pointer (some ⟨d,0,none⟩)] #[]) 68∧Nb w w' b1 (.string s) 9∧Nb w w' b2 (.slice sp n c) 32∧Below w.heap.size w w':=by
 have hmf:∀(fn:Fn) (first cap:Array Value) (w:World),(Instr.makeFunc fn first cap).run Tryz.prog w=.ok (.func fn first cap) w:=fun _ _ _ _=>rfl
 go_enter Tryz.func96,Tryz.ntmps96
 go_wp2
 go_ret
 refine⟨_,_,_,rfl,⟨Nat.le_refl _,?_⟩,⟨?_,?_⟩,⟨?_,?_⟩,below3 _ _ _ _⟩
 ·rw[Below.heap_alloc _ _ _ (by first | omega | (simp;done) | (simp;omega)),Below.heap_alloc _ _ _ (by first | omega | (simp;done) | (simp;omega))];exact heap_alloc_new _ _
 ·first | omega | (simp;done) | (simp;omega)
 ·rw[Below.heap_alloc _ _ _ (by first | omega | (simp;done) | (simp;omega))];simpa using heap_alloc_new (w.alloc (.cells #[.func (.func N) #[.pointer (some ⟨d,0,none⟩)] #[]] 68)) (.cells #[.string s] 9)
 ·first | omega | (simp;done) | (simp;omega)
 ·simpa[Nat.add_assoc] using heap_alloc_new ((w.alloc (.cells #[.func (.func N) #[.pointer (some ⟨d,0,none⟩)] #[]] 68)).alloc (.cells #[.string s] 9)) (.cells #[.slice sp n c] 32)
set_option maxHeartbeats 400000 in
theorem withi_any (w:World) (N d:Nat) (s:ByteArray) (n:Int) :
  Calls Tryz.prog 92 #[.func (.func N) #[.pointer (some ⟨d,0,none⟩)] #[],.string s,.int .i64 n] w fun e w'=>∃b0 b1 b2,e=.returned (.func (.func 137) #[] #[.pointer (some ⟨b0,0,none⟩),.pointer (some ⟨b1,0,none⟩),.pointer (some ⟨b2,0,none⟩)])∧Nb w w' b0 (.func (.func N) #[.pointer (some ⟨d,0,none⟩)] #[]) 146∧Nb w w' b1 (.string s) 9∧Nb w w' b2 (.int .i64 n) 3∧Below w.heap.size w w':=by
 have hmf:∀(fn:Fn) (first cap:Array Value) (w:World),(Instr.makeFunc fn first cap).run Tryz.prog w=.ok (.func fn first cap) w:=fun _ _ _ _=>rfl
 go_enter Tryz.func92,Tryz.ntmps92
 go_wp2
 go_ret
 refine⟨_,_,_,rfl,⟨Nat.le_refl _,?_⟩,⟨?_,?_⟩,⟨?_,?_⟩,below3 _ _ _ _⟩
 ·rw[Below.heap_alloc _ _ _ (by first | omega | (simp;done) | (simp;omega)),Below.heap_alloc _ _ _ (by first | omega | (simp;done) | (simp;omega))];exact heap_alloc_new _ _
 ·first | omega | (simp;done) | (simp;omega)
 ·rw[Below.heap_alloc _ _ _ (by first | omega | (simp;done) | (simp;omega))];simpa using heap_alloc_new (w.alloc (.cells #[.func (.func N) #[.pointer (some ⟨d,0,none⟩)] #[]] 146)) (.cells #[.string s] 9)
 ·first | omega | (simp;done) | (simp;omega)
 ·simpa[Nat.add_assoc] using heap_alloc_new ((w.alloc (.cells #[.func (.func N) #[.pointer (some ⟨d,0,none⟩)] #[]] 146)).alloc (.cells #[.string s] 9)) (.cells #[.int .i64 n] 3)
set_option maxHeartbeats 400000 in
theorem withs_any (w:World) (N d:Nat) (s:ByteArray) (y:ByteArray) :
  Calls Tryz.prog 117 #[.func (.func N) #[.pointer (some ⟨d,0,none⟩)] #[],.string s,.string y] w fun e w'=>∃b0 b1 b2,e=.returned (.func (.func 157) #[] #[.pointer (some ⟨b0,0,none⟩),.pointer (some ⟨b1,0,none⟩),.pointer (some ⟨b2,0,none⟩)])∧Nb w w' b0 (.func (.func N) #[.pointer (some ⟨d,0,none⟩)] #[]) 181∧Nb w w' b1 (.string s) 9∧Nb w w' b2 (.string y) 9∧Below w.heap.size w w':=by
 have hmf:∀(fn:Fn) (first cap:Array Value) (w:World),(Instr.makeFunc fn first cap).run Tryz.prog w=.ok (.func fn first cap) w:=fun _ _ _ _=>rfl
 go_enter Tryz.func117,Tryz.ntmps117
 go_wp2
 go_ret
 refine⟨_,_,_,rfl,⟨Nat.le_refl _,?_⟩,⟨?_,?_⟩,⟨?_,?_⟩,below3 _ _ _ _⟩
 ·rw[Below.heap_alloc _ _ _ (by first | omega | (simp;done) | (simp;omega)),Below.heap_alloc _ _ _ (by first | omega | (simp;done) | (simp;omega))];exact heap_alloc_new _ _
 ·first | omega | (simp;done) | (simp;omega)
 ·rw[Below.heap_alloc _ _ _ (by first | omega | (simp;done) | (simp;omega))];simpa using heap_alloc_new (w.alloc (.cells #[.func (.func N) #[.pointer (some ⟨d,0,none⟩)] #[]] 181)) (.cells #[.string s] 9)
 ·first | omega | (simp;done) | (simp;omega)
 ·simpa[Nat.add_assoc] using heap_alloc_new ((w.alloc (.cells #[.func (.func N) #[.pointer (some ⟨d,0,none⟩)] #[]] 181)).alloc (.cells #[.string s] 9)) (.cells #[.string y] 9)
set_option maxHeartbeats 400000 in
theorem on_any (w:World) (N d:Nat) (s:ByteArray) :
  Calls Tryz.prog 97 #[.func (.func N) #[.pointer (some ⟨d,0,none⟩)] #[],.string s] w fun e w'=>∃b0 b1,e=.returned (.func (.func 140) #[] #[.pointer (some ⟨b0,0,none⟩),.pointer (some ⟨b1,0,none⟩)])∧Nb w w' b0 (.func (.func N) #[.pointer (some ⟨d,0,none⟩)] #[]) 147∧Nb w w' b1 (.string s) 9∧Below w.heap.size w w':=by
 have hmf:∀(fn:Fn) (first cap:Array Value) (w:World),(Instr.makeFunc fn first cap).run Tryz.prog w=.ok (.func fn first cap) w:=fun _ _ _ _=>rfl
 go_enter Tryz.func97,Tryz.ntmps97
 go_wp2
 go_ret
 refine⟨_,_,rfl,⟨Nat.le_refl _,?_⟩,⟨?_,?_⟩,below2 _ _ _⟩
 ·rw[Below.heap_alloc _ _ _ (by first | omega | (simp;done) | (simp;omega))];exact heap_alloc_new _ _
 ·first | omega | (simp;done) | (simp;omega)
 ·simpa using heap_alloc_new (w.alloc (.cells #[.func (.func N) #[.pointer (some ⟨d,0,none⟩)] #[]] 147)) (.cells #[.string s] 9)
set_option maxHeartbeats 400000 in
theorem noted_any (w:World) (N b:Nat) :
  Calls Tryz.prog 94 #[.func (.func N) #[] #[.pointer (some ⟨b,0,none⟩)]] w fun e w'=>∃b0,e=.returned (.func (.func 138) #[] #[.pointer (some ⟨b0,0,none⟩)])∧Nb w w' b0 (.func (.func N) #[] #[.pointer (some ⟨b,0,none⟩)]) 1∧Below w.heap.size w w':=by
 have hmf:∀(fn:Fn) (first cap:Array Value) (w:World),(Instr.makeFunc fn first cap).run Tryz.prog w=.ok (.func fn first cap) w:=fun _ _ _ _=>rfl
 go_enter Tryz.func94,Tryz.ntmps94
 go_wp2
 go_ret
 exact⟨_,rfl,⟨Nat.le_refl _,heap_alloc_new _ _⟩,(Below.refl _ _).alloc (Nat.le_refl _) _⟩
def goodN (J:Jr):Nat:=(J.recs.map List.length).sum
theorem sum_take (l:List Nat) (j x:Nat) (h:l[j]?=some x):(l.take (j+1)).sum=(l.take j).sum+x:=by
 rw[List.take_add_one,h]
 simp
theorem sum_take_le:∀(l:List Nat) (j:Nat),(l.take j).sum≤l.sum
 | [],j=>by simp
 | a :: l,0=>by simp
 | a :: l,j+1=>by simp;exact sum_take_le l j
set_option maxHeartbeats 400000 in
theorem good_any (w:World) (K:Knd) (o d jb:Nat) (J:Jr) (h:Jk w K o d jb J) (hs:goodN J≤1099511627776) (hk:J.recs.length≤1099511627776) :
  Calls Tryz.prog 93 #[.pointer (some ⟨jb,0,none⟩)] w fun e w'=>e=.returned (.int .i64 (goodN J:Int))∧w'=w:=by
 obtain⟨rv,vs,hm⟩:=h
 have hb:=hm.blk
 unfold jcells at hb
 obtain⟨ra,rc,hrv,_,_⟩:=hm.row.form
 subst hrv
 obtain⟨k,hkk⟩:∃k,J.recs.length=k:=⟨_,rfl⟩
 rw[hkk]at hb hk
 have HK:=hide hkk
 have HM:=hide hm
 have HS:=hide hs
 obtain⟨q0,q1,q2,q3,q4,q5,q6,qf⟩:=blk7 hb
 clear hm hb hkk hs
 go_enter Tryz.func93,Tryz.ntmps93
 go_wp2
 clear q0 q1 q2 q3 q4 q5 q6 qf
 go_loop [3,11] (fun l i=>∃(j n:Nat),j≤k∧i=.int .i64 (j:Int)∧l=.int .i64 (n:Int)∧Hid (n=((J.recs.map List.length).take j).sum)) (fun _ i=>k - (intOf i).toNat)
 case atStart=>exact⟨0,0,Nat.zero_le _,rfl,rfl,by show _=_;simp⟩
 case round =>
  obtain⟨j,n,hj,rfl,rfl,HN⟩:=hrel
  by_cases hlt:j<k
  ·have i1:(0:Int)≤(j:Int):=by omega
   have i2:(j:Int)<(k:Int):=by omega
   obtain⟨r,hr⟩:∃r,J.recs[j]?=some r:=⟨_,List.getElem?_eq_getElem (by rw[HK.out];exact hlt)⟩
   obtain⟨g,q,rc2,u1,u2,u3,u4,u5,u6⟩:=HM.out.recs j r hr
   obtain⟨rg,e1,c0⟩:∃rg,ra=some ⟨rg,0,none⟩∧w.cell? ⟨rg,j,none⟩=some (.slice (some ⟨g,q,none⟩) r.length rc2):=by
    have hro:=HM.out.row.own
    rw[HK.out]at hro
    rcases hro.2 with ⟨_,e2⟩ | ⟨g',cap,cur,e1,_,hg,e3,e4,e5,e6⟩
    ·omega
    ·cases e1
     refine⟨g',rfl,?_⟩
     rw[←e6,List.getElem?_take,if_pos (by omega)]at u1
     simp only[World.cell?,hg]
     simpa using u1
   subst e1
   have HNx:Hid (n+r.length=((J.recs.map List.length).take (j+1)).sum):=by
    show _=_
    rw[sum_take _ j r.length (by rw[List.getElem?_map,hr];rfl),HN.out]
   have hnb:n+r.length≤1099511627776:=by
    have h1:=HNx.out
    have h2:=sum_take_le (J.recs.map List.length) (j+1)
    have h3:(J.recs.map List.length).sum≤1099511627776:=HS.out
    omega
   obtain⟨rl,hrl⟩:∃rl,r.length=rl:=⟨_,rfl⟩
   rw[hrl]at c0 HNx hnb
   clear hr u1 u2 u3 u4 u5 u6 hrl
   have hsum:((n+rl:Nat):Int)=(n:Int)+(rl:Int):=by omega
   go_wp2
   go_round
   case rel=>exact⟨j+1,n+rl,by omega,by go_num,by go_num,HNx⟩
   case measure=>simp[intOf];omega
  ·obtain rfl:j=k:=by omega
   have e0:n=goodN J:=by
    have:=HN.out
    rw[List.take_of_length_le (by rw[List.length_map,HK.out];exact Nat.le_refl _)]at this
    exact this
   go_wp2
   go_ret
   exact⟨rfl,rfl⟩
end Go.Proofs.YtcceejdaokoihaaGreatDoor
