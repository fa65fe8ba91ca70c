import Derived.Test.YtcceejdaokoihaaGreatDoorDocC
import Derived.Test.YtcceejdaokoihaaGreatDoorXH
import Derived.Test.YtcceejdaokoihaaGreatDoorAppB
import Derived.Test.YtcceejdaokoihaaGreatDoorDiskA
set_option maxRecDepth 100000
namespace Go.Proofs.YtcceejdaokoihaaGreatDoor.C
open Go.RowKit
theorem Lr.cut {w0 w:World} {sp:Option Addr} {n c:Nat} {ys:List Nat} (h:Lr w0 w sp n c ys) (m:Nat) (hm:m≤n):Lr w0 w sp m c (ys.take m):=by
 refine⟨by rw[List.length_take,h.len];omega,⟨by rw[vals_len,List.length_take,h.len];omega,?_⟩,h.bel,fun y hy=>h.small y (List.mem_of_mem_take hy)⟩
 rcases h.own.2 with ⟨h1,h2⟩ | ⟨g,cap,cur,h1,h2,hg,h3,h4,h5,h6⟩
 ·left
  obtain rfl:m=0:=by omega
  cases h1
  exact⟨rfl,rfl⟩
 ·right
  cases h1
  refine⟨g,_,cur,rfl,h2,hg,by omega,h4,h5,?_⟩
  have e:vals (ys.take m)=(vals ys).take m:=by simp[vals,List.map_take]
  rw[e,←h6,List.take_take,Nat.min_eq_left (by omega),Nat.mul_one]
theorem Lr.base {w w0 w':World} {sp:Option Addr} {n c:Nat} {l:List Nat} (h:Lr w0 w' sp n c l) (hb:Below w.heap.size w w0):Lr w w' sp n c l :=
 ⟨h.len,⟨h.own.1,h.own.2.imp id fun ⟨g,cap,cur,e1,e2,r⟩=>⟨g,cap,cur,e1,Nat.le_trans hb.size e2,r⟩⟩,hb.trans (h.bel.mono hb.size),h.small⟩
end Go.Proofs.YtcceejdaokoihaaGreatDoor.C
namespace Go.Proofs.YtcceejdaokoihaaGreatDoor
open Go.RowKit Go.Maps
set_option maxHeartbeats 400000 in
theorem Seen_any (w:World) (K:Knd) (o d:Nat) (S:St) (h:Tk w K o d S) (hv:Inv S) (hb:S.safe.length+S.chg.length≤549755813888) :
  Calls Tryz.prog 81 #[.pointer (some ⟨d,0,none⟩)] w fun e w'=>∃a c,e=.returned (.slice a S.seen.length c)∧Rk w' (ext K w.heap.size (o,3)) (o,3) 183 2 (.slice a S.seen.length c) S.seen.length (nvs S.seen)∧Below w.heap.size w w':=by
 have hN:=names_any w K o d S h (fun p hp=>by have:=(hv.inf p hp).2;intro e;rw[e]at this;exact absurd this (by decide)) hb S.chg.length (Nat.le_refl _)
 rw[List.take_of_length_le (Nat.le_refl _),←hv.fold]at hN
 have HN:=hide hN
 obtain⟨fv,sv,cv,fs,hm⟩:=h
 obtain⟨a4,c4,rfl,_,_⟩:=hm.chgs.form
 have hbl:=hm.blk
 unfold tcells at hbl
 obtain⟨q0,q1,q2,q3,q4,q5,q6,q7,q8,q9,qf⟩:=blk10 hbl
 have hdl:=lt_of_block hbl
 generalize S.chg.length=nc at *
 clear hm hbl hN hv
 go_enter Tryz.func81,Tryz.ntmps81
 go_wp2_with fail
 refine HN.out.mono ?_
 rintro e w1 ⟨a,c,rfl,hr,hb1⟩
 have HR:=hide hr
 have HB:=hide hb1
 clear hr hb1
 go_wp2
 go_ret
 exact⟨a,c,rfl,HR.out,HB.out⟩
theorem left_succ (f:Fil) (j:Nat) (u:Int) (h:f.units[j]?=some u):f.left (j+1)=stepU (f.left j) u:=by
 unfold Fil.left
 rw[take_snoc' f.units j u h,carry_snoc]
set_option maxHeartbeats 1000000 in
theorem content_any (w:World) (K:Knd) (o d:Nat) (S:St) (h:Tk w K o d S) (i:Nat) (f:Fil) (hf:S.files[i]?=some f) (hok:f.ok) (hsl:f.safe.length≤16777216) (hul:f.units.length≤1099511627776) (n:Nat) (hn:n≤f.units.length) :
  Calls Tryz.prog 123 #[.pointer (some ⟨d,0,none⟩),.int .i64 (i:Int),.int .i64 (n:Int)] w fun e w'=>∃a c,e=.returned (.slice a (f.left n).length c)∧C.Lr w w' a (f.left n).length c (f.left n):=by
 obtain⟨fv,sv,cv,fs,hm⟩:=h
 have hil:i<S.files.length:=(List.getElem?_eq_some_iff.1 hf).1
 obtain⟨p,hp⟩:∃p,fs[i]?=some p:=⟨_,List.getElem?_eq_getElem (by rw[hm.flen];exact hil)⟩
 obtain⟨r1,r2⟩:=hm.file i f p hf hp
 obtain⟨sv',uv'⟩:=p
 simp only at r1 r2
 obtain⟨asf,cs,rfl,hcs1,hcs2⟩:=r1.form
 obtain⟨au,cu,rfl,hcu1,hcu2⟩:=r2.form
 obtain⟨af,cf,rfl,_,_⟩:=hm.files.form
 have hbl:=hm.blk
 unfold tcells at hbl
 obtain⟨q0,q1,q2,q3,q4,q5,q6,q7,q8,q9,qf⟩:=blk10 hbl
 have hdl:=lt_of_block hbl
 have hfc:(fvs fs).length=S.files.length*2:=by rw[←hm.flen];exact flat_len _ 2 (fun _=>rfl) _
 obtain⟨gf,e1,hkg,hgf,hcl⟩:∃g,af=some ⟨g,0,none⟩∧K g=(o,2)∧g<w.heap.size∧∀(j:Nat) (u:Value),(fvs fs)[j]?=some u→w.cell? ⟨g,j,none⟩=some u:=by
  rcases rk_cells hm.files hfc with e | h
  ·rw[e]at hfc;simp at hfc;omega
  ·exact h
 subst e1
 have z0:=hcl (i*2+0) _ (by unfold fvs;rw[flat_at _ 2 (fun _=>rfl) fs i _ hp 0 (by omega)];rfl)
 have z1:=hcl (i*2+1) _ (by unfold fvs;rw[flat_at _ 2 (fun _=>rfl) fs i _ hp 1 (by omega)];rfl)
 rw[Nat.add_zero]at z0
 have hsb:Bytes w asf f.safe:=owns_bytes r1.own hok.small
 have HUc:Hid (f.units=[]∨∃g,au=some ⟨g,0,none⟩∧K g=(o,11+2*i)∧g<w.heap.size∧∀(j:Nat) (u:Value),(uvs f.units)[j]?=some u→w.cell? ⟨g,j,none⟩=some u):=by
  have hl:(uvs f.units).length=f.units.length*3:=flat_len uv 3 uv_len _
  rcases rk_cells r2 hl with e | h
  ·left;rw[e]at hl;simp at hl;exact List.eq_nil_of_length_eq_zero (by omega)
  ·exact Or.inr h
 have hB0:Below w.heap.size w (w.alloc (.cells #[.slice asf f.safe.length cs,.slice au f.units.length cu] 141)):=(Below.refl _ _).alloc (Nat.le_refl _) _
 have hX0:(w.alloc (.cells #[.slice asf f.safe.length cs,.slice au f.units.length cu] 141)).heap[w.heap.size]?=some (.cells #[.slice asf f.safe.length cs,.slice au f.units.length cu] 141 (0,0)):=heap_alloc_new _ _
 have HCp:=hide (C.copy_any _ asf f.safe.length cs f.safe rfl (hsb.below hB0).c (by omega))
 have i1:(0:Int)≤(i:Int):=by omega
 have i2:(i:Int)<(S.files.length:Int):=by omega
 have HB0:=hide hB0
 have HX0:=hide hX0
 have HOk:=hide hok
 have HSf:Hid (f.left 0=f.safe):=by show _=_;simp[Fil.left,carryL]
 generalize hnu:f.units.length=nu at *
 have HNu:=hide hnu
 generalize hnsf:f.safe.length=nsf at *
 have HNsf:=hide hnsf
 generalize S.files.length=nf at *
 clear hm r1 r2 hbl hcl hfc hp hsb hB0 hX0 hnu hnsf hf hok
 go_enter Tryz.func123,Tryz.ntmps123
 go_wp2_with fail
 generalize w.alloc (.cells #[.slice asf nsf cs,.slice au nu cu] 141)=w0 at *
 refine HCp.out.mono ?_
 rintro e w1 ⟨v1,rfl,ho1,hb1⟩
 obtain⟨a1,c1,rfl⟩:∃a c,v1=.slice a nsf c:=by
  rcases ho1.2 with ⟨h1,h2⟩ | ⟨g,cap,cur,h1,_⟩
  ·exact⟨none,0,by rw[h1,h2]⟩
  ·exact⟨_,_,h1⟩
 have HL1:Hid (C.Lr w0 w1 a1 nsf c1 (f.left 0)):=by rw[HSf.out];exact⟨HNsf.out,ho1,hb1,HOk.out.small⟩
 have hw0:=lt_of_block HX0.out
 clear ho1 hb1 HCp z0 z1 q0 q1 q2 q3 q4 q5 q6 q7 q8 q9 qf
 go_wp2
 go_loopw [8,9] (fun b x wr=>∃(j m c:Nat) (sp:Option Addr),j≤n∧m≤nsf+j∧x=.int .i64 (j:Int)∧b=.slice sp m c∧Hid (C.Lr w0 wr sp m c (f.left j))) (fun _ x _=>n - (intOf x).toNat)
 case atStart=>exact⟨0,nsf,c1,a1,Nat.zero_le _,by omega,rfl,rfl,HL1⟩
 case round =>
  obtain⟨j,m,c,sp,hj,hmj,rfl,rfl,HL⟩:=hrel
  have hlx:=(HL.out.bel.block _ hw0).trans HX0.out
  obtain⟨x0,x1⟩:=box_cells hlx
  clear HL1 hlx
  by_cases hlt:j<n
  ·have j1:(0:Int)≤(j:Int):=by omega
   have j2:(j:Int)<(n:Int):=by omega
   have j3:(j:Int)<(nu:Int):=by omega
   obtain⟨u,hu⟩:∃u,f.units[j]?=some u:=⟨_,List.getElem?_eq_getElem (by rw[HNu.out];omega)⟩
   obtain⟨g,e1,_,hg,hcl⟩:∃g,au=some ⟨g,0,none⟩∧K g=(o,11+2*i)∧g<w.heap.size∧∀(j:Nat) (u:Value),(uvs f.units)[j]?=some u→w.cell? ⟨g,j,none⟩=some u:=by
    rcases HUc.out with e | h
    ·rw[e]at hu;simp at hu
    ·exact h
   subst e1
   have hcell:∀(t:Nat) (y:Value),t<3→(uv u)[t]?=some y→wr.cell? ⟨g,j*3+t,none⟩=some y:=fun t y ht hy=>by
    rw[(HB0.out.trans (HL.out.bel.mono HB0.out.size)).cell (p:=⟨g,j*3+t,none⟩) hg]
    exact hcl _ _ (by unfold uvs;rw[flat_at uv 3 uv_len f.units j u hu t ht];exact hy)
   have huo:=HOk.out.units j u hu
   have HSu:=hide (left_succ f j u hu)
   have hcar:(carryL f.safe (f.units.take j)).length=m:=HL.out.len
   have huo':(u<0→(-1 - u).toNat≤m)∧u<256:=by
    unfold uOk at huo
    exact⟨fun h=>by have:=(huo.1 h).1;rw[hcar]at this;exact this,huo.2⟩
   clear huo hcar hu hcl
   by_cases hneg:u<0
   ·have e3:uv u=[.bool true,.int .u8 0,.int .i64 (-1 - u)]:=by unfold uv;rw[if_pos hneg]
    obtain⟨t,ht⟩:∃t,(-1 - u).toNat=t:=⟨_,rfl⟩
    have htu : -1 - u=(t:Int):=by omega
    have htm:t≤m:=by rw[←ht];exact huo'.1 hneg
    have z0:=hcell 0 _ (by omega) (by rw[e3];rfl)
    have z2:=hcell 2 _ (by omega) (by rw[e3];rfl)
    rw[Nat.add_zero]at z0
    rw[htu]at z2
    have HL2:Hid (C.Lr w0 wr sp t c (f.left (j+1))):=by
     have hst:f.left (j+1)=(f.left j).take t:=by rw[HSu.out];unfold stepU;rw[if_pos hneg,ht]
     rw[hst]
     exact HL.out.cut t htm
    have t0:(0:Int)≤(t:Int):=by omega
    have t1:(t:Int)≤(c:Int):=by have:=HL.out.le.1;omega
    clear e3 hcell huo' ht htu
    rcases HL.out.own.2 with ⟨e1,e2⟩ | ⟨g2,cap,cur,e1,_⟩
    ·cases e1
     obtain rfl:t=0:=by omega
     go_wp2
     go_roundw
     case rel=>exact⟨j+1,0,0,none,by omega,by omega,by go_num,rfl,HL2⟩
     case measure=>simp[intOf];omega
    ·cases e1
     go_wp2
     go_roundw
     case rel=>exact⟨j+1,t,c,_,by omega,by omega,by go_num,rfl,HL2⟩
     case measure=>simp[intOf];omega
   ·have e3:uv u=[.bool false,.int .u8 u,.int .i64 0]:=by unfold uv;rw[if_neg hneg]
    obtain⟨t,rfl⟩:∃t:Nat,u=(t:Int):=⟨u.toNat,by omega⟩
    have z0:=hcell 0 _ (by omega) (by rw[e3];rfl)
    have z1:=hcell 1 _ (by omega) (by rw[e3];rfl)
    rw[Nat.add_zero]at z0
    have ht256:t<256:=by omega
    have HSt:Hid (f.left (j+1)=f.left j++[t]):=by show _=_;rw[HSu.out];unfold stepU;rw[if_neg hneg];rfl
    clear e3 hcell huo'
    have H1:=hide (C.one_lr wr t ht256)
    go_wp2_with (at_builtin;refine C.wpList_append_row rfl (.tmp 39) (.tmp 46) rfl w0.heap.size _ _ _ _ rfl (HL.out.below H1.out.bel).own _ 1 1 [t] rfl rfl H1.out.bytes (by omega) (HL.out.below H1.out.bel).bel.size ?_;intro s2 c2 w2 ho2 hg2;have HL2:=hide ((HL.out.below H1.out.bel).app rfl (by simpa using ht256) ho2 hg2);clear ho2 hg2)
    go_roundw
    case rel=>exact⟨j+1,m+1,c2,s2,by omega,by omega,by go_num,rfl,by rw[HSt.out];exact HL2⟩
    case measure=>simp[intOf];omega
  ·have j2:¬(j:Int)<(n:Int):=by omega
   obtain rfl:j=n:=by omega
   have HLe:=hide HL.out.len
   have HLb:=hide (HL.out.base HB0.out)
   go_wp2
   go_ret
   exact⟨sp,c,by rw[HLe.out];rfl,by rw[HLe.out];exact HLb.out⟩
open Go.RowKit
set_option maxHeartbeats 1000000 in
theorem isName_s (w:World) (s:ByteArray):Calls Tryz.prog 120 #[.string s] w fun e w'=>e=.returned (.bool (isNm s.data.toList))∧w'=w:=by
 have hsz:s.data.toList.length=s.size:=rfl
 by_cases h0:s.size<1
 ·have h0':(s.size:Int)<1:=by omega
  have hr:isNm s.data.toList=false:=by unfold isNm;rw[hsz];simp;omega
  rw[hr]
  clear hr hsz h0
  go_enter Tryz.func120,Tryz.ntmps120
  go_wp2
  go_ret
  exact⟨rfl,rfl⟩
 by_cases h1:64<s.size
 ·have h0':¬(s.size:Int)<1:=by omega
  have h1':(64:Int)<(s.size:Int):=by omega
  have hr:isNm s.data.toList=false:=by unfold isNm;rw[hsz];simp;omega
  rw[hr]
  clear hr hsz h0 h1
  go_enter Tryz.func120,Tryz.ntmps120
  go_wp2
  go_ret
  exact⟨rfl,rfl⟩
 have h0':¬(s.size:Int)<1:=by omega
 have h1':¬(64:Int)<(s.size:Int):=by omega
 have HR:Hid (isNm s.data.toList=s.data.toList.all fun c=>fby c.toNat):=by
  show _=_
  unfold isNm
  have a1:decide (1≤s.data.toList.length)=true:=by rw[hsz];simp;omega
  have a2:decide (s.data.toList.length≤64)=true:=by rw[hsz];simp;omega
  rw[a1,a2];simp
 obtain⟨n,hn⟩:∃n,s.size=n:=⟨_,rfl⟩
 have HN:=hide hn
 have hn64:n≤64:=by omega
 clear hsz h0 h1
 rw[HR.out]
 obtain⟨R,hR⟩:∃R,(s.data.toList.all fun c=>fby c.toNat)=R:=⟨_,rfl⟩
 rw[hR]
 have HRr:=hide hR
 clear hR
 rw[hn]at h0' h1'
 go_enter Tryz.func120,Tryz.ntmps120
 go_wp2
 clear hn
 go_loopw [3] (fun i wr=>∃k:Nat,k≤n∧i=.int .i64 k∧Hid ((s.data.toList.take k).all (fun c=>fby c.toNat)=true)∧wr=w) (fun i _=>n - (intOf i).toNat)
 case atStart=>exact⟨0,Nat.zero_le _,rfl,rfl,rfl⟩
 case round =>
  obtain⟨k,hk,rfl,HA,rfl⟩:=hrel
  by_cases hlt:k<n
  ·have hlt':(k:Int)<(n:Int):=by omega
   have hszn:(s.size:Int)=(n:Int):=by rw[HN.out]
   have hks:k<s.size:=by rw[HN.out];exact hlt
   have hget:=get_at s k hks
   have HG:=hide hget
   have HS:=hide (take_snoc' s.data.toList k _ hget)
   have hsz:(k:Int)<(s.size:Int):=by rw[HN.out];exact hlt'
   have hnn:(0:Int)≤(k:Int):=by omega
   have hc:=(s[k]'hks).toNat_lt
   clear hget
   generalize hgc:(s[k]'hks)=c at *
   have HGood:Hid (fby c.toNat=true→(s.data.toList.take (k+1)).all (fun c=>fby c.toNat)=true):=fun hb=>by rw[HS.out,List.all_append,HA.out];simp[hb]
   have HBad:Hid (fby c.toNat=false→R=false):=fun hb=>by
    rw[←HRr.out,List.all_eq_false]
    exact⟨c,List.mem_of_getElem? HG.out,by simp[hb]⟩
   clear HA HS HG
   by_cases hA:97≤c.toNat
   ·have a1:(97:Int)≤(c.toNat:Int):=by omega
    have a2:(48:Int)≤(c.toNat:Int):=by omega
    have a3:¬(c.toNat:Int)≤57:=by omega
    have e1:((c.toNat:Int) != 46)=true:=by simp;omega
    have e2:((c.toNat:Int) != 45)=true:=by simp;omega
    have e3:((c.toNat:Int) != 95)=true:=by simp;omega
    by_cases hB:c.toNat≤122
    ·have b1:(c.toNat:Int)≤122:=by omega
     have HA2:=hide (HGood.out (by unfold fby;simp;omega))
     clear HGood HBad
     go_wp2
     go_roundw
     case rel=>exact⟨k+1,by omega,by go_num,HA2,by first | rfl | trivial⟩
     case measure=>simp[intOf];omega
    ·have b1:¬(c.toNat:Int)≤122:=by omega
     have HRes:=hide (HBad.out (by unfold fby;simp;omega))
     clear HGood HBad
     go_wp2
     go_ret
     exact⟨congrArg (fun b=>Ending.returned (Value.bool b)) HRes.out.symm,rfl⟩
   ·have a1:¬(97:Int)≤(c.toNat:Int):=by omega
    by_cases hB:48≤c.toNat
    ·have a2:(48:Int)≤(c.toNat:Int):=by omega
     have e1:((c.toNat:Int) != 46)=true:=by simp;omega
     have e2:((c.toNat:Int) != 45)=true:=by simp;omega
     by_cases hC:c.toNat≤57
     ·have b1:(c.toNat:Int)≤57:=by omega
      have HA2:=hide (HGood.out (by unfold fby;simp;omega))
      clear HGood HBad
      go_wp2
      go_roundw
      case rel=>exact⟨k+1,by omega,by go_num,HA2,by first | rfl | trivial⟩
      case measure=>simp[intOf];omega
     ·have b1:¬(c.toNat:Int)≤57:=by omega
      by_cases hD:c.toNat=95
      ·have e3:((c.toNat:Int) != 95)=false:=by simp;omega
       have HA2:=hide (HGood.out (by unfold fby;simp;omega))
       clear HGood HBad
       go_wp2
       go_roundw
       case rel=>exact⟨k+1,by omega,by go_num,HA2,by first | rfl | trivial⟩
       case measure=>simp[intOf];omega
      ·have e3:((c.toNat:Int) != 95)=true:=by simp;omega
       have HRes:=hide (HBad.out (by unfold fby;simp;omega))
       clear HGood HBad
       go_wp2
       go_ret
       exact⟨congrArg (fun b=>Ending.returned (Value.bool b)) HRes.out.symm,rfl⟩
    ·have a2:¬(48:Int)≤(c.toNat:Int):=by omega
     have e3:((c.toNat:Int) != 95)=true:=by simp;omega
     by_cases hC:c.toNat=46
     ·have e1:((c.toNat:Int) != 46)=false:=by simp;omega
      have HA2:=hide (HGood.out (by unfold fby;simp;omega))
      clear HGood HBad
      go_wp2
      go_roundw
      case rel=>exact⟨k+1,by omega,by go_num,HA2,by first | rfl | trivial⟩
      case measure=>simp[intOf];omega
     ·have e1:((c.toNat:Int) != 46)=true:=by simp;omega
      by_cases hD:c.toNat=45
      ·have e2:((c.toNat:Int) != 45)=false:=by simp;omega
       have HA2:=hide (HGood.out (by unfold fby;simp;omega))
       clear HGood HBad
       go_wp2
       go_roundw
       case rel=>exact⟨k+1,by omega,by go_num,HA2,by first | rfl | trivial⟩
       case measure=>simp[intOf];omega
      ·have e2:((c.toNat:Int) != 45)=true:=by simp;omega
       have HRes:=hide (HBad.out (by unfold fby;simp;omega))
       clear HGood HBad
       go_wp2
       go_ret
       exact⟨congrArg (fun b=>Ending.returned (Value.bool b)) HRes.out.symm,rfl⟩
  ·obtain rfl:k=n:=by omega
   have HRes:Hid (R=true):=by
    show _=_
    rw[←HRr.out]
    have:=HA.out
    rwa [List.take_of_length_le (by show s.size≤k;rw[HN.out];exact Nat.le_refl _)]at this
   have hszn:(s.size:Int)=(k:Int):=by rw[HN.out]
   go_wp2
   go_ret
   exact⟨congrArg (fun b=>Ending.returned (Value.bool b)) HRes.out.symm,rfl⟩
theorem isName_any (w:World) (x:Nm):Calls Tryz.prog 120 #[.string ⟨x.toArray⟩] w fun e w'=>e=.returned (.bool (isNm x))∧w'=w:=by
 have:=isName_s w ⟨x.toArray⟩
 simpa using this
open Go.RowKit Go.Maps
theorem left_all (f:Fil):f.left f.units.length=f.all:=by unfold Fil.left Fil.all;rw[List.take_of_length_le (Nat.le_refl _)]
structure Fb (S:St):Prop where
 fl:∀f∈S.files,f.ok∧f.safe.length≤16777216∧f.units.length≤549755813888
 nm:S.safe.length+S.chg.length≤549755813888
 ns:S.seen.length≤64
theorem sz_fb {S:St} {k:Nat} (hv:Inv S) (hz:Sz S k) (hk:k≤549755813000):Fb S :=
 ⟨fun f hf=>⟨(hz.fl f hf).1,(hz.fl f hf).2.1,by have:=(hz.fl f hf).2.2;omega⟩,by have:=hv.mosts;have:=hz.ch;omega,hv.most⟩
set_option maxHeartbeats 400000 in
theorem bytesOf_any (w:World) (K:Knd) (o d:Nat) (S:St) (h:Tk w K o d S) (i:Nat) (f:Fil) (hf:S.files[i]?=some f) (hb:Fb S) :
  Calls Tryz.prog 112 #[.pointer (some ⟨d,0,none⟩),.int .i64 (i:Int)] w fun e w'=>∃a c,e=.returned (.slice a f.all.length c)∧C.Lr w w' a f.all.length c f.all:=by
 have hfb:=hb.fl f (List.mem_of_getElem? hf)
 have hC:=content_any w K o d S h i f hf hfb.1 hfb.2.1 (by omega) f.units.length (Nat.le_refl _)
 rw[left_all]at hC
 have HC:=hide hC
 obtain⟨fv,sv,cv,fs,hm⟩:=h
 have hil:i<S.files.length:=(List.getElem?_eq_some_iff.1 hf).1
 obtain⟨p,hp⟩:∃p,fs[i]?=some p:=⟨_,List.getElem?_eq_getElem (by rw[hm.flen];exact hil)⟩
 obtain⟨r1,r2⟩:=hm.file i f p hf hp
 obtain⟨sv',uv'⟩:=p
 simp only at r1 r2
 obtain⟨au,cu,rfl,hcu1,hcu2⟩:=r2.form
 obtain⟨af,cf,rfl,_,_⟩:=hm.files.form
 have hbl:=hm.blk
 unfold tcells at hbl
 obtain⟨q0,q1,q2,q3,q4,q5,q6,q7,q8,q9,qf⟩:=blk10 hbl
 have hdl:=lt_of_block hbl
 have hfc:(fvs fs).length=S.files.length*2:=by rw[←hm.flen];exact flat_len _ 2 (fun _=>rfl) _
 obtain⟨gf,e1,hkg,hgf,hcl⟩:∃g,af=some ⟨g,0,none⟩∧K g=(o,2)∧g<w.heap.size∧∀(j:Nat) (u:Value),(fvs fs)[j]?=some u→w.cell? ⟨g,j,none⟩=some u:=by
  rcases rk_cells hm.files hfc with e | h
  ·rw[e]at hfc;simp at hfc;omega
  ·exact h
 subst e1
 have z1:=hcl (i*2+1) _ (by unfold fvs;rw[flat_at _ 2 (fun _=>rfl) fs i _ hp 1 (by omega)];rfl)
 have i1:(0:Int)≤(i:Int):=by omega
 have i2:(i:Int)<(S.files.length:Int):=by omega
 generalize f.units.length=nu at *
 generalize S.files.length=nf at *
 clear hm r1 r2 hbl hcl hfc hp hC
 go_enter Tryz.func112,Tryz.ntmps112
 go_wp2_with fail
 refine HC.out.mono ?_
 rintro e w1 ⟨a,c,rfl,hl⟩
 have HL:=hide hl
 clear hl
 go_wp2
 go_ret
 exact⟨a,c,rfl,HL.out⟩
def sumD (S:St) (l:List (Nm × Nat)):Nat:=(l.map fun p=>(S.file p.2).all.length).sum
theorem all_len (f:Fil):f.all.length≤f.safe.length+f.units.length:=carry_len f.safe f.units
set_option maxHeartbeats 1000000 in
theorem used_any (w:World) (K:Knd) (o d:Nat) (S:St) (h:Tk w K o d S) (hv:Inv S) (hb:Fb S) :
  Calls Tryz.prog 82 #[.pointer (some ⟨d,0,none⟩)] w fun e w'=>e=.returned (.int .i64 (S.used:Int))∧Below w.heap.size w w':=by
 have HS:=hide (Seen_any w K o d S h hv hb.nm)
 have HT:=hide h
 have HB:=hide hb
 have HI:=hide hv.ins
 have hns:=hb.ns
 have HU:Hid (S.used=sumD S S.seen):=rfl
 have HUs:Hid (∀j,sumD S (S.seen.take j)≤j*1099528404992):=fun j=>by
  induction j with
  | zero=>simp[sumD]
  | succ j ih =>
   by_cases hj:j<S.seen.length
   ·obtain⟨p,hp⟩:∃p,S.seen[j]?=some p:=⟨_,List.getElem?_eq_getElem hj⟩
    rw[take_snoc' S.seen j p hp]
    have e:sumD S (S.seen.take j++[p])=sumD S (S.seen.take j)+(S.file p.2).all.length:=by simp[sumD]
    rw[e]
    have h1:=all_len (S.file p.2)
    have h2:(S.file p.2).safe.length≤16777216∧(S.file p.2).units.length≤549755813888:=by
     unfold St.file
     cases hq:S.files[p.2]? with
     | none=>simp
     | some f=>simpa using (hb.fl f (List.mem_of_getElem? hq)).2
    omega
   ·rw[List.take_of_length_le (by omega)]at ih ⊢
    exact Nat.le_trans ih (Nat.mul_le_mul_right _ (Nat.le_succ j))
 obtain⟨ns,hnse⟩:∃ns,S.seen.length=ns:=⟨_,rfl⟩
 rw[hnse]at HS hns
 have HNs:=hide hnse
 rw[HU.out]
 clear h hv hb hnse
 go_enter Tryz.func82,Tryz.ntmps82
 go_wp2_with fail
 refine HS.out.mono ?_
 rintro e w1 ⟨a,c,rfl,hr1,hb1⟩
 have HNr:=hide (rk_nr HNs.out hr1)
 have HB1:=hide hb1
 clear hr1 hb1 HS
 go_wp2
 go_loopw [3,5] (fun m x wr=>∃(j:Nat),j≤ns∧x=.int .i64 (j:Int)∧m=.int .i64 (sumD S (S.seen.take j):Int)∧Hid (Below w1.heap.size w1 wr)) (fun _ x _=>ns - (intOf x).toNat)
 case atStart=>exact⟨0,Nat.zero_le _,rfl,by simp[sumD],hide (Below.refl _ _)⟩
 case round =>
  obtain⟨j,hj,rfl,rfl,HBr⟩:=hrel
  by_cases hlt:j<ns
  ·have j1:(0:Int)≤(j:Int):=by omega
   have j2:(j:Int)<(ns:Int):=by omega
   obtain⟨p,hp⟩:∃p,S.seen[j]?=some p:=⟨_,List.getElem?_eq_getElem (by rw[HNs.out];exact hlt)⟩
   obtain⟨g,o',e1,hg,q0,q1⟩:=(HNr.out.below HBr.out).at hp
   obtain⟨f,hf⟩:∃f,S.files[p.2]?=some f:=⟨_,List.getElem?_eq_getElem (HI.out p (List.mem_of_getElem? hp)).1⟩
   have hbw:Below w.heap.size w wr:=HB1.out.trans (HBr.out.mono HB1.out.size)
   have HBy:=hide (bytesOf_any wr (ext K w.heap.size (0,0)) o d S (HT.out.kept (kp_below hbw (fun _=>False) K (0,0)) (fun _ h=>h)) p.2 f hf HB.out)
   have HSu:Hid (sumD S (S.seen.take (j+1))=sumD S (S.seen.take j)+f.all.length):=by
    show _=_
    rw[take_snoc' S.seen j p hp]
    have:(S.file p.2)=f:=by unfold St.file;rw[hf];rfl
    simp[sumD,this]
   have hu1:=HUs.out (j+1)
   rw[HSu.out]at hu1
   have hu2:sumD S (S.seen.take j)+f.all.length≤70369817919488:=by omega
   subst e1
   clear hp hf hbw hu1
   generalize sumD S (S.seen.take j)=sj at *
   generalize f.all.length=fl at *
   go_wp2_with fail
   refine HBy.out.mono ?_
   rintro e w2 ⟨a2,c2,rfl,hl2⟩
   have HB2:=hide (HBr.out.trans (hl2.bel.mono HBr.out.size))
   clear hl2
   go_wp2
   go_roundw
   case rel=>exact⟨j+1,by omega,by go_num,by rw[HSu.out];go_num,HB2⟩
   case measure=>simp[intOf];omega
  ·have j2:¬(j:Int)<(ns:Int):=by omega
   have HE:Hid (S.seen.take j=S.seen):=List.take_of_length_le (by rw[HNs.out];omega)
   go_wp2
   go_ret
   exact⟨by rw[HE.out];rfl,HB1.out.trans (HBr.out.mono HB1.out.size)⟩
def St.fnd (S:St) (x:Nm):Int:=if S.err x=0 then ((lookN S.seen x).getD 0:Nat) else -1
theorem look_at (l:List (Nm × Nat)) (x:Nm) (j:Nat) (p:Nm × Nat) (hp:l[j]?=some p) (hb:∀(i:Nat) (q:Nm × Nat),i<j→l[i]?=some q→q.1≠x) (hx:p.1=x):lookN l x=some p.2:=by
 unfold lookN
 have hj:j<l.length:=(List.getElem?_eq_some_iff.1 hp).1
 have e:l=l.take j++p :: l.drop (j+1):=by
  have h1:=List.take_append_drop j l
  have h2:l.drop j=p :: l.drop (j+1):=by
   rw[List.drop_eq_getElem_cons hj]
   congr 1
   have:=(List.getElem?_eq_some_iff.1 hp).2
   exact this
  rw[←h2];exact h1.symm
 rw[e,List.find?_append]
 have h0:(l.take j).find? (fun p=>p.1 == x)=none:=by
  rw[List.find?_eq_none]
  intro q hq
  obtain⟨i,hi⟩:=List.getElem?_of_mem hq
  have hij:i<j:=by have:=(List.getElem?_eq_some_iff.1 hi).1;rw[List.length_take]at this;omega
  rw[List.getElem?_take,if_pos hij]at hi
  have:=hb i q hij hi
  simpa using this
 rw[h0]
 simp[hx]
theorem look_no (l:List (Nm × Nat)) (x:Nm) (hb:∀(i:Nat) (q:Nm × Nat),i<l.length→l[i]?=some q→q.1≠x):lookN l x=none:=by
 rw[look_none]
 intro p hp
 obtain⟨i,hi⟩:=List.getElem?_of_mem hp
 exact hb i p (List.getElem?_eq_some_iff.1 hi).1 hi
set_option maxHeartbeats 1000000 in
theorem rfind_any (w:World) (K:Knd) (o d:Nat) (S:St) (h:Tk w K o d S) (hv:Inv S) (hb:Fb S) (x:Nm) :
  Calls Tryz.prog 80 #[.pointer (some ⟨d,0,none⟩),.string ⟨x.toArray⟩] w fun e w'=>e=.returned (.tuple #[.int .i64 (S.fnd x),.int .i64 (S.err x:Int)])∧Below w.heap.size w w':=by
 have HS:=hide (Seen_any w K o d S h hv hb.nm)
 have hns:=hb.ns
 obtain⟨fv,sv,cv,fs,hm⟩:=h
 have hbl:=hm.blk
 unfold tcells at hbl
 obtain⟨q0,q1,q2,q3,q4,q5,q6,q7,q8,q9,qf⟩:=blk10 hbl
 have hdl:=lt_of_block hbl
 obtain⟨ns,hnse⟩:∃ns,S.seen.length=ns:=⟨_,rfl⟩
 rw[hnse]at HS hns
 have HNs:=hide hnse
 have HF:Hid (S.fnd x=if S.err x=0 then (((lookN S.seen x).getD 0:Nat):Int) else -1):=rfl
 have HEr:Hid (S.err x=if S.off then 45 else if isNm x then (if lookN S.seen x=none then 42 else 0) else 41):=rfl
 generalize S.fnd x=F at *
 generalize S.err x=E at *
 clear hm hbl hnse hv hb
 cases hoff:S.off with
 | true =>
  rw[hoff]at q1 HEr
  obtain rfl:E=45:=HEr.out
  obtain rfl:F = -1:=by have:=HF.out;simpa using this
  go_enter Tryz.func80,Tryz.ntmps80
  go_wp2
  go_ret2
  exact⟨rfl,Below.refl _ _⟩
 | false =>
  rw[hoff]at q1 HEr
  have HIs:=hide (isName_any w x)
  cases hnm:isNm x with
  | false =>
   rw[hnm]at HIs HEr
   obtain rfl:E=41:=HEr.out
   obtain rfl:F = -1:=by have:=HF.out;simpa using this
   clear hnm
   go_enter Tryz.func80,Tryz.ntmps80
   go_wp2_with fail
   refine HIs.out.mono ?_
   rintro e w1 ⟨rfl,h1⟩
   subst h1
   go_wp2
   go_ret2
   exact⟨rfl,Below.refl _ _⟩
  | true =>
   rw[hnm]at HIs HEr
   clear hnm
   go_enter Tryz.func80,Tryz.ntmps80
   go_wp2_with fail
   refine HIs.out.mono ?_
   rintro e w1 ⟨rfl,h1⟩
   subst h1
   go_wp2_with fail
   refine HS.out.mono ?_
   rintro e w2 ⟨a,c,rfl,hr1,hb1⟩
   have HNr:=hide (rk_nr HNs.out hr1)
   have HB1:=hide hb1
   clear hr1 hb1 HS q0 q1 q2 q3 q4 q5 q6 q7 q8 q9 qf
   go_wp2
   go_loopw [7] (fun i wr=>∃(j:Nat),j≤ns∧i=.int .i64 (j:Int)∧Hid (wr=w2)∧Hid (∀(t:Nat) (q:Nm × Nat),t<j→S.seen[t]?=some q→q.1≠x)) (fun i _=>ns - (intOf i).toNat)
   case atStart=>exact⟨0,Nat.zero_le _,rfl,rfl,hide (fun t q h=>by omega)⟩
   case round =>
    obtain⟨j,hj,rfl,HWr,HNo⟩:=hrel
    obtain rfl:=HWr.out.symm
    by_cases hlt:j<ns
    ·have j1:(0:Int)≤(j:Int):=by omega
     have j2:(j:Int)<(ns:Int):=by omega
     obtain⟨p,hp⟩:∃p,S.seen[j]?=some p:=⟨_,List.getElem?_eq_getElem (by rw[HNs.out];exact hlt)⟩
     obtain⟨g,o',e1,hg,q0,q1⟩:=HNr.out.at hp
     have HP:=hide hp
     subst e1
     clear hp
     by_cases hx:p.1=x
     ·have hse:(p.1 == x)=true:=by simpa using hx
      have hlk:=look_at S.seen x j p HP.out HNo.out hx
      rw[hlk]at HEr HF
      obtain rfl:E=0:=by have:=HEr.out;simpa using this
      obtain rfl:F=(p.2:Int):=by have:=HF.out;simpa using this
      clear hx hlk
      go_wp2
      go_ret2
      exact⟨rfl,HB1.out⟩
     ·have hse:(p.1 == x)=false:=by simpa using hx
      have HNo2:Hid (∀(t:Nat) (q:Nm × Nat),t<j+1→S.seen[t]?=some q→q.1≠x):=fun t q ht hq=>by
       by_cases e:t=j
       ·subst e;rw[HP.out]at hq;cases hq;exact hx
       ·exact HNo.out t q (by omega) hq
      clear hx
      go_wp2
      go_roundw
      case rel=>exact⟨j+1,by omega,by go_num,by first | rfl | trivial,HNo2⟩
      case measure=>simp[intOf];omega
    ·have j2:¬(j:Int)<(ns:Int):=by omega
     have hlk:=look_no S.seen x (fun t q ht hq=>HNo.out t q (by rw[HNs.out]at ht;omega) hq)
     rw[hlk]at HEr HF
     obtain rfl:E=42:=by have:=HEr.out;simpa using this
     obtain rfl:F = -1:=by have:=HF.out;simpa using this
     clear hlk
     go_wp2
     go_ret2
     exact⟨rfl,HB1.out⟩
theorem snd_ne {o a b:Nat} (h:a≠b):¬((o,a)=(o,b)):=fun e=>h (congrArg Prod.snd e)
theorem Tm.turnD {K K':Knd} {w w':World} {o d:Nat} {fv sv cv:Value} {fs:List (Value × Value)} {S S':St} (h:Tm w K o d fv sv cv fs S) (hk:Kp (fun k=>k=(o,1)) K K' w w') (hb:w'.heap[d]?=some (.cells (tcells S' fv sv cv) 112 (0,0))) (e1:S'.files=S.files) (e2:S'.safe=S.safe) (e3:S'.chg=S.chg):Tm w' K' o d fv sv cv fs S':=by
 refine⟨hb,(hk.same d (lt_of_block h.blk)).trans h.kd,by rw[e1];exact h.flen,by rw[e1];exact h.files.kept hk (snd_ne (by omega)),fun i f p h1 h2=>?_,by rw[e2];exact h.sure.kept hk (snd_ne (by omega)),by rw[e3];exact h.chgs.kept hk (snd_ne (by omega)),by rw[e3];exact h.real⟩
 rw[e1]at h1
 exact⟨(h.file i f p h1 h2).1.kept hk (snd_ne (by omega)),(h.file i f p h1 h2).2.kept hk (snd_ne (by omega))⟩
set_option maxHeartbeats 1000000 in
theorem tstroke_any (w:World) (K:Knd) (o d:Nat) (S:St) (h:Tk w K o d S) (hoff:S.off=false) (h1:S.strokes≤1099511627776) (h2:S.planned≤1099511627776) :
  Calls Tryz.prog 83 #[.pointer (some ⟨d,0,none⟩)] w fun e w'=>e=.returned (.int .i64 (S.power:Int))∧Tk w' K o d S.stroked∧Kp (fun k=>k=(o,1)) K K w w':=by
 obtain⟨fv,sv,cv,fs,hm⟩:=h
 have hbl:=hm.blk
 unfold tcells at hbl
 obtain⟨q0,q1,q2,q3,q4,q5,q6,q7,q8,q9,qf⟩:=blk10 hbl
 have hdl:=lt_of_block hbl
 have HBl:=hide hbl
 have HM:=hide hm
 have HP:Hid (S.power=if ((S.planned+1:Nat):Int)=S.pOff then 45 else 0):=rfl
 have HSo:Hid (S.stroked={ S with strokes:=S.strokes+1,planned:=S.planned+1,off:=S.off || decide (((S.planned+1:Nat):Int)=S.pOff) }):=rfl
 generalize S.stroked=S' at *
 generalize S.power=P at *
 have kp:∀q,Kp (fun k=>k=(o,1)) K K w (((w.setCell ⟨d,5,none⟩ (.int .i64 ((S.strokes:Int)+1))).setCell ⟨d,6,none⟩ (.int .i64 ((S.planned:Int)+1))).drewN q):=fun q=>(((Kp.refl _ K w).setCell (Or.inr hm.kd) _ _).setCell (Or.inr hm.kd) _ _).drewN q
 have HKp:=hide kp
 have hb2:((w.setCell ⟨d,5,none⟩ (.int .i64 ((S.strokes:Int)+1))).setCell ⟨d,6,none⟩ (.int .i64 ((S.planned:Int)+1))).heap[d]?=some (.cells #[.int .i64 (S.room:Int),.bool S.off,fv,sv,cv,.int .i64 ((S.strokes:Int)+1),.int .i64 ((S.planned:Int)+1),.int .i64 S.pOff,.int .i64 S.pFrom,.int .i64 S.pTo] 112 (0,0)):=by
  rw[block_set (block_set hbl _)]
  rfl
 have HB2:=hide hb2
 obtain⟨y0,y1,y2,y3,y4,y5,y6,y7,y8,y9,yf⟩:=blk10 hb2
 have hdl2:=lt_of_block hb2
 clear hm hbl kp hb2
 by_cases hc:((S.planned+1:Nat):Int)=S.pOff
 ·have hc1:(1:Int)≤S.pOff:=by omega
  have hc2:((S.planned:Int)+1 == S.pOff)=true:=by simp;omega
  have hc3:(S.planned:Int)+1=S.pOff:=by omega
  obtain rfl:P=45:=by rw[HP.out,if_pos hc]
  have HS2:Hid (S'={ S with strokes:=S.strokes+1,planned:=S.planned+1,off:=true }):=by show _=_;rw[HSo.out,hoff,decide_eq_true hc];rfl
  have HC3:=hide hc3
  clear hc hc3 HP HSo
  go_enter Tryz.func83,Tryz.ntmps83
  go_wp2
  go_quiet (fail)
  go_wp2
  go_ret
  refine⟨rfl,⟨fv,sv,cv,fs,HM.out.turnD ((HKp.out nq).setCell (Or.inr HM.out.kd) _ _) ?_ (by rw[HS2.out]) (by rw[HS2.out]) (by rw[HS2.out])⟩,(HKp.out nq).setCell (Or.inr HM.out.kd) _ _⟩
  rw[block_set (show (((w.setCell ⟨d,5,none⟩ (.int .i64 ((S.strokes:Int)+1))).setCell ⟨d,6,none⟩ (.int .i64 ((S.planned:Int)+1))).drewN nq).heap[d]?=_ from HB2.out),HS2.out]
  simp[tcells]
 ·have hc3:¬(S.planned:Int)+1=S.pOff:=by omega
  have hc2:((S.planned:Int)+1 == S.pOff)=false:=by simp;omega
  obtain rfl:P=0:=by rw[HP.out,if_neg hc]
  have HS2:Hid (S'={ S with strokes:=S.strokes+1,planned:=S.planned+1,off:=false }):=by show _=_;rw[HSo.out,hoff,decide_eq_false hc];rfl
  clear hc HP HSo
  by_cases hc1:(1:Int)≤S.pOff
  ·go_enter Tryz.func83,Tryz.ntmps83
   go_wp2
   go_quiet (fail)
   go_wp2
   go_ret
   refine⟨rfl,⟨fv,sv,cv,fs,HM.out.turnD (HKp.out nq) ?_ (by rw[HS2.out]) (by rw[HS2.out]) (by rw[HS2.out])⟩,HKp.out nq⟩
   rw[show (((w.setCell ⟨d,5,none⟩ (.int .i64 ((S.strokes:Int)+1))).setCell ⟨d,6,none⟩ (.int .i64 ((S.planned:Int)+1))).drewN nq).heap[d]?=_ from HB2.out,HS2.out]
   simp[tcells,hoff]
  ·have hd1:decide ((1:Int)≤S.pOff)=false:=decide_eq_false hc1
   go_enter Tryz.func83,Tryz.ntmps83
   go_wp2
   go_quiet (fail)
   go_wp2
   go_ret
   refine⟨rfl,⟨fv,sv,cv,fs,HM.out.turnD (HKp.out nq) ?_ (by rw[HS2.out]) (by rw[HS2.out]) (by rw[HS2.out])⟩,HKp.out nq⟩
   rw[show (((w.setCell ⟨d,5,none⟩ (.int .i64 ((S.strokes:Int)+1))).setCell ⟨d,6,none⟩ (.int .i64 ((S.planned:Int)+1))).drewN nq).heap[d]?=_ from HB2.out,HS2.out]
   simp[tcells,hoff]
theorem new_tm (w:World) (K:Knd) (o r:Nat):Tk (w.alloc (.cells #[.int .i64 (r:Int),.bool false,.slice none 0 0,.slice none 0 0,.slice none 0 0,.int .i64 0,.int .i64 0,.int .i64 0,.int .i64 0,.int .i64 0] 112)) (ext K w.heap.size (o,1)) o w.heap.size (St.new r) :=
 ⟨.slice none 0 0,.slice none 0 0,.slice none 0 0,[],heap_alloc_new _ _,ext_new _ _ (Nat.le_refl _),rfl,⟨⟨rfl,Or.inl ⟨rfl,rfl⟩⟩,fun g e=>by simp[Value.ownBlock]at e⟩,fun i f p h1=>by simp[St.new]at h1,⟨⟨rfl,Or.inl ⟨rfl,rfl⟩⟩,fun g e=>by simp[Value.ownBlock]at e⟩,⟨⟨rfl,Or.inl ⟨rfl,rfl⟩⟩,fun g e=>by simp[Value.ownBlock]at e⟩,fun c hc=>by simp[St.new]at hc⟩
set_option maxHeartbeats 400000 in
theorem tnew_any (w:World) (K:Knd) (o r:Nat) (hr:r≤16777216) :
  Calls Tryz.prog 22 #[.int .i64 (r:Int)] w fun e w'=>∃d,e=.returned (.tuple #[.pointer (some ⟨d,0,none⟩),.int .i64 0])∧Tk w' (ext K w.heap.size (o,1)) o d (St.new r)∧Below w.heap.size w w':=by
 have HT:=hide (new_tm w K o r)
 have HB:Hid (Below w.heap.size w (w.alloc (.cells #[.int .i64 (r:Int),.bool false,.slice none 0 0,.slice none 0 0,.slice none 0 0,.int .i64 0,.int .i64 0,.int .i64 0,.int .i64 0,.int .i64 0] 112))):=(Below.refl _ _).alloc (Nat.le_refl _) _
 have r1:¬(r:Int)<0:=by omega
 have r2:¬(16777216:Int)<(r:Int):=by omega
 go_enter Tryz.func22,Tryz.ntmps22
 go_wp2
 go_ret2
 exact⟨w.heap.size,rfl,HT.out,HB.out⟩
set_option maxHeartbeats 400000 in
theorem tread_any (w:World) (K:Knd) (o d:Nat) (S:St) (h:Tk w K o d S) (hv:Inv S) (hb:Fb S) (x:Nm) :
  Calls Tryz.prog 63 #[.pointer (some ⟨d,0,none⟩),.string ⟨x.toArray⟩] w fun e w'=>∃a c,e=.returned (.tuple #[.slice a (S.bytes x).length c,.int .i64 (S.err x:Int)])∧C.Lr w w' a (S.bytes x).length c (S.bytes x):=by
 have HF:=hide (rfind_any w K o d S h hv hb x)
 have HT:=hide h
 have HB:=hide hb
 by_cases he:S.err x=0
 ·obtain⟨_,_,i,hl⟩:=err_zero he
  have hi:i<S.files.length:=(hv.ins (x,i) ((look_mem hv.srt).1 hl)).1
  obtain⟨f,hf⟩:∃f,S.files[i]?=some f:=⟨_,List.getElem?_eq_getElem hi⟩
  have hby:S.bytes x=f.all:=by unfold St.bytes;rw[if_pos he,hl];show (S.file i).all=_;unfold St.file;rw[hf];rfl
  have hfn:S.fnd x=(i:Int):=by unfold St.fnd;rw[if_pos he,hl];rfl
  have HBy:=hide (fun w1 K1 h1=>bytesOf_any w1 K1 o d S h1 i f hf HB.out)
  rw[hfn,he]at HF
  rw[hby,he]
  clear h hv hb he hl hf hby hfn
  go_enter Tryz.func63,Tryz.ntmps63
  go_wp2_with fail
  refine HF.out.mono ?_
  rintro e w1 ⟨rfl,hb1⟩
  have HB1:=hide hb1
  have HC:=hide (HBy.out w1 _ (HT.out.kept (kp_below hb1 (fun _=>False) K (0,0)) (fun _ h=>h)))
  clear hb1
  go_wp2_with fail
  refine HC.out.mono ?_
  rintro e w2 ⟨a,c,rfl,hl2⟩
  have HL:=hide (hl2.base HB1.out)
  clear hl2
  go_wp2
  go_ret2
  exact⟨a,c,rfl,HL.out⟩
 ·have hby:S.bytes x=[]:=by unfold St.bytes;rw[if_neg he]
  rw[hby]
  have hne:((S.err x:Int) != 0)=true:=by simp;omega
  have hne2:¬(S.err x:Int)=0:=by omega
  clear h hv hb hby he
  generalize S.err x=E at *
  generalize S.fnd x=F at *
  go_enter Tryz.func63,Tryz.ntmps63
  go_wp2_with fail
  refine HF.out.mono ?_
  rintro e w1 ⟨rfl,hb1⟩
  have HL:=hide ((C.lr_nil w).below hb1)
  clear hb1
  go_wp2
  go_ret2
  exact⟨none,0,rfl,HL.out⟩
theorem Tryz.infoTc:(Tryz.prog.info? 143).map (fun i=>(i.zero,i.size,i.bytes))=some (some (.agg #[.int .u8 0,.string ⟨#[]⟩,.string ⟨#[]⟩,.int .i64 0]),4,48):=by kernel_rfl
theorem kp_row {w w1:World} {K:Knd} {k:Nat × Nat} {e:TypeId} {s n:Nat} {v:Value} {xs:List Value} (h:Rk w K k e s v n xs) {u:Obj} (hg:(w.alloc u).grownBy w1 v.ownBlock):Kp (fun q=>q=k) K (ext K w.heap.size k) w w1:=by
 have hsz:(w.alloc u).heap.size=w.heap.size+1:=by simp
 refine⟨hg.os,hg.tape,hg.output,by have:=hg.size;omega,fun b hb=>ext_old K k hb,fun b hb hn=>?_⟩
 exact(hg.block b (by omega) (fun e=>hn (h.kind b e.symm))).trans (Below.heap_alloc _ _ _ hb)
theorem rk_grew {w w1:World} {K:Knd} {k:Nat × Nat} {e:TypeId} {s n:Nat} {v:Value} {xs:List Value} (h:Rk w K k e s v n xs) {u:Obj} {g' n' cap':Nat} {ys:List Value} (ho:w1.ownsRow 0 e s (.slice (some ⟨g',0,none⟩) n' cap') n' ys) (hat:v.ownBlock=some g'∨g'=(w.alloc u).heap.size):Rk w1 (ext K w.heap.size k) k e s (.slice (some ⟨g',0,none⟩) n' cap') n' ys:=by
 have hsz:(w.alloc u).heap.size=w.heap.size+1:=by simp
 refine⟨ho,fun g e=>?_⟩
 simp[Value.ownBlock]at e
 subst e
 rcases hat with e | e
 ·exact(ext_old K k (rk_lt h.own e)).trans (h.kind _ e)
 ·exact ext_new K k (by omega)
theorem Tm.chged {w w1:World} {K:Knd} {o d:Nat} {fv sv cv:Value} {fs:List (Value × Value)} {S:St} (h:Tm w K o d fv sv cv fs S) {u:Obj} {g' cap':Nat} {ch:Chg}
  (ho:w1.ownsRow 0 143 4 (.slice (some ⟨g',0,none⟩) (S.chg.length+1) cap') (S.chg.length+1) (cvs S.chg++cv4 ch)) (hg:(w.alloc u).grownBy w1 cv.ownBlock) (hat:cv.ownBlock=some g'∨g'=(w.alloc u).heap.size) (hre:ch.frm≠[]∨ch.to≠[]) :
  Tk (w1.setCell ⟨d,4,none⟩ (.slice (some ⟨g',0,none⟩) (S.chg.length+1) cap')) (ext K w.heap.size (o,4)) o d (S.ren ch)∧Kp (Ow o) K (ext K w.heap.size (o,4)) w (w1.setCell ⟨d,4,none⟩ (.slice (some ⟨g',0,none⟩) (S.chg.length+1) cap')):=by
 have hdl:=lt_of_block h.blk
 have k1:=kp_row h.chgs hg
 have hd1:w1.heap[d]?=_:=(k1.block d hdl (by rw[h.kd];exact snd_ne (by omega))).trans h.blk
 have hkd:ext K w.heap.size (o,4) d=(o,1):=(ext_old K _ hdl).trans h.kd
 have k2:Kp (fun q=>q=(o,1)) (ext K w.heap.size (o,4)) (ext K w.heap.size (o,4)) w1 (w1.setCell ⟨d,4,none⟩ (.slice (some ⟨g',0,none⟩) (S.chg.length+1) cap')):=(Kp.refl (fun q=>q=(o,1)) (ext K w.heap.size (o,4)) w1).setCell (b:=d) (Or.inr hkd) _ _
 have kk:=(k1.mono (q:=fun q=>q=(o,4)∨q=(o,1)) (fun _ e=>Or.inl e)).trans (k2.mono (fun _ e=>Or.inr e))
 refine⟨⟨fv,sv,.slice (some ⟨g',0,none⟩) (S.chg.length+1) cap',fs,⟨?_,hkd,h.flen,h.files.kept kk (by simp),fun i f p h1 h2=>⟨(h.file i f p h1 h2).1.kept kk (by simp;omega),(h.file i f p h1 h2).2.kept kk (by simp;omega)⟩,h.sure.kept kk (by simp),?_,?_⟩⟩,kk.mono (fun k e=>by rcases e with e | e <;> rw[e])⟩
 ·rw[block_set hd1]
  rfl
 ·have hr:=rk_grew h.chgs ho hat
  have e:(S.ren ch).chg.length=S.chg.length+1:=by simp[St.ren]
  have e2:cvs (S.ren ch).chg=cvs S.chg++cv4 ch:=by simp[St.ren,cvs]
  rw[e,e2]
  exact hr.kept k2 (by simp)
 ·intro c hc
  rcases List.mem_append.1 hc with q | q
  ·exact h.real c q
  ·simp at q;subst q;exact hre
set_option maxHeartbeats 1000000 in
theorem tremove_any (w:World) (K:Knd) (o d:Nat) (S:St) (h:Tk w K o d S) (hv:Inv S) (hb:Fb S) (h1:S.strokes≤1099511627776) (h2:S.planned≤1099511627776) (x:Nm) :
  Calls Tryz.prog 64 #[.pointer (some ⟨d,0,none⟩),.string ⟨x.toArray⟩] w fun e w'=>∃K',e=.returned (.int .i64 ((S.removeR x).1:Int))∧Tk w' K' o d (S.removeR x).2∧Kp (Ow o) K K' w w':=by
 obtain⟨i0,hi,hz0,hz1,hz2⟩:=info_parts Tryz.infoTc
 have HF:=hide (rfind_any w K o d S h hv hb x)
 have HT:=hide h
 have hcl:=hb.nm
 by_cases he:S.err x=0
 ·obtain⟨hoff,hnm,i,hl⟩:=err_zero he
  have hr:S.removeR x=(S.power,S.stroked.ren ⟨x,[],0⟩):=by unfold St.removeR;rw[if_neg (by omega)]
  have hx0:x≠[]:=fun e=>by rw[e]at hnm;exact absurd hnm (by decide)
  rw[hr]
  rw[he]at HF
  have HX0:=hide hx0
  have hcv:cv4 ⟨x,[],0⟩=[.int .u8 71,.string ⟨x.toArray⟩,.string ⟨#[]⟩,.int .i64 0]:=by unfold cv4;rw[if_neg hx0,if_pos rfl]
  have HCv:=hide hcv
  clear h hv hb hl hr hx0 hcv he hnm
  generalize S.fnd x=F at *
  go_enter Tryz.func64,Tryz.ntmps64
  go_wp2_with fail
  refine HF.out.mono ?_
  rintro e w1 ⟨rfl,hb1⟩
  have HK1:=hide (kp_below hb1 (Ow o) K (0,0))
  obtain⟨fv,sv,cv,fs,hm⟩:=HT.out.kept (kp_below hb1 (fun _=>False) K (0,0)) (fun _ h=>h)
  obtain⟨a4,c4,rfl,_,_⟩:=hm.chgs.form
  have hbl:=hm.blk
  unfold tcells at hbl
  obtain⟨q0,q1,q2,q3,q4,q5,q6,q7,q8,q9,qf⟩:=blk10 hbl
  have hdl:=lt_of_block hbl
  have HM:=hide hm
  generalize ext K w.heap.size (0,0)=K1 at *
  have HBl:=hide hbl
  obtain⟨nc,hnc⟩:∃nc,S.chg.length=nc:=⟨_,rfl⟩
  have hch:=hm.chgs
  rw[hnc]at hch hcl q4 HBl
  have HCh:=hide hch
  have HNc:=hide hnc
  clear hb1 hm hbl HF hnc hch
  go_wp2_with (at_builtin;refine wpList_append_lies _ rfl (.tmp 20) (.tmp 23) 110 rfl 0 143 i0 _ 4 48 Tryz.underlying110 hi hz0 hz1 hz2 rfl (by omega) (.slice a4 nc c4) nc (cvs S.chg) rfl (HCh.out.own.alloc _) ⟨w1.heap.size,0,none⟩ 1 1 [.int .u8 71,.string ⟨x.toArray⟩,.string ⟨#[]⟩,.int .i64 0] rfl rfl (World.news_of_block (heap_alloc_new w1 (.cells #[.int .u8 71,.string ⟨x.toArray⟩,.string ⟨#[]⟩,.int .i64 0] 143))) (by simp[Value.oneCell']) (by omega) (by unfold maxLen;omega) (by omega) (Nat.zero_le _) _ rfl ?_;intro g' cap' w2 ho2 hg2 hat2 hlt2;have HO:=hide ho2;have HG:=hide hg2;have HA:=hide hat2;have hd2:=((kp_row HCh.out hg2).block d hdl (by rw[HM.out.kd];exact snd_ne (by omega))).trans HBl.out;have hdl2:=lt_of_block hd2;obtain⟨y0,y1,y2,y3,y4,y5,y6,y7,y8,y9,yf⟩:=blk10 hd2;clear ho2 hg2 hat2 hlt2 hd2)
  have hres:=HM.out.chged (u:=.cells #[.int .u8 71,.string ⟨x.toArray⟩,.string ⟨#[]⟩,.int .i64 0] 143) (ch:=⟨x,[],0⟩) (by rw[HNc.out,HCv.out];exact HO.out) (by rw[HNc.out];exact HG.out) (by rw[HNc.out];exact HA.out) (Or.inl HX0.out)
  obtain⟨ht3,hk3⟩:=hres
  rw[HNc.out]at ht3 hk3
  have HSt:=hide (tstroke_any _ _ o d _ ht3 hoff h1 h2)
  have HK3:=hide hk3
  clear ht3 hk3 HO HG HA y0 y1 y2 y3 y4 y5 y6 y7 y8 y9 yf q0 q1 q2 q3 q4 q5 q6 q7 q8 q9 qf
  refine HSt.out.mono ?_
  rintro e w4 ⟨rfl,ht4,hk4⟩
  have HT4:=hide ht4
  have HK4:=hide (hk4.mono (q:=Ow o) (fun k e=>by rw[e]))
  clear ht4 hk4
  go_wp2
  go_ret
  exact⟨_,rfl,HT4.out,(HK1.out.trans HK3.out).trans HK4.out⟩
 ·have hr:S.removeR x=(S.err x,S):=by unfold St.removeR;rw[if_pos he]
  rw[hr]
  have hne:((S.err x:Int) != 0)=true:=by simp;omega
  have hne2:¬(S.err x:Int)=0:=by omega
  clear h hv hb he hr
  generalize S.err x=E at *
  generalize S.fnd x=F at *
  go_enter Tryz.func64,Tryz.ntmps64
  go_wp2_with fail
  refine HF.out.mono ?_
  rintro e w1 ⟨rfl,hb1⟩
  have HK1:=hide (kp_below hb1 (Ow o) K (0,0))
  have HT1:=hide (HT.out.kept (kp_below hb1 (fun _=>False) K (0,0)) (fun _ h=>h))
  clear hb1
  go_wp2
  go_ret
  exact⟨_,rfl,HT1.out,HK1.out⟩
theorem err_cases (S:St) (x:Nm):(S.off=true∧S.err x=45)∨(S.off=false∧isNm x=false∧S.err x=41)∨(S.off=false∧isNm x=true∧lookN S.seen x=none∧S.err x=42)∨(S.off=false∧isNm x=true∧(∃i,lookN S.seen x=some i)∧S.err x=0):=by
 unfold St.err
 cases S.off
 ·cases isNm x
  ·right;left;exact⟨rfl,rfl,rfl⟩
  ·cases h:lookN S.seen x with
   | none=>right;right;left;exact⟨rfl,rfl,rfl,by simp⟩
   | some i=>right;right;right;exact⟨rfl,rfl,⟨i,rfl⟩,by simp⟩
 ·left;exact⟨rfl,rfl⟩
set_option maxHeartbeats 2000000 in
theorem trename_any (w:World) (K:Knd) (o d:Nat) (S:St) (h:Tk w K o d S) (hv:Inv S) (hb:Fb S) (h1:S.strokes≤1099511627776) (h2:S.planned≤1099511627776) (x y:Nm) :
  Calls Tryz.prog 65 #[.pointer (some ⟨d,0,none⟩),.string ⟨x.toArray⟩,.string ⟨y.toArray⟩] w fun e w'=>∃K',e=.returned (.int .i64 ((S.renameR x y).1:Int))∧Tk w' K' o d (S.renameR x y).2∧Kp (Ow o) K K' w w':=by
 obtain⟨i0,hi,hz0,hz1,hz2⟩:=info_parts Tryz.infoTc
 have HF:=hide (rfind_any w K o d S h hv hb x)
 have HT:=hide h
 have hcl:=hb.nm
 have HR:Hid (S.renameR x y=if S.err x≠45∧isNm y=false then (41,S) else if S.err x≠0 then (S.err x,S) else (S.power,if x=y then S.stroked else S.stroked.ren ⟨x,y,(lookN S.seen x).getD 0⟩)):=rfl
 have HFn:Hid (S.fnd x=if S.err x=0 then (((lookN S.seen x).getD 0:Nat):Int) else -1):=rfl
 have HIs:=hide (fun w=>isName_any w y)
 have hec:=err_cases S x
 generalize S.renameR x y=R at *
 generalize S.fnd x=F at *
 generalize S.err x=E at *
 clear h hv hb
 rcases hec with ⟨hoff,rfl⟩ | ⟨hoff,_,rfl⟩ | ⟨hoff,_,_,rfl⟩ | ⟨hoff,hnm,⟨i,hl⟩,rfl⟩
 ·obtain rfl:R=(45,S):=by rw[HR.out];simp
  obtain rfl:F = -1:=by rw[HFn.out];rfl
  go_enter Tryz.func65,Tryz.ntmps65
  go_wp2_with fail
  refine HF.out.mono ?_
  rintro e w1 ⟨rfl,hb1⟩
  have HK1:=hide (kp_below hb1 (Ow o) K (0,0))
  have HT1:=hide (HT.out.kept (kp_below hb1 (fun _=>False) K (0,0)) (fun _ h=>h))
  obtain⟨fv,sv,cv,fs,hm⟩:=HT1.out
  have hbl:=hm.blk
  unfold tcells at hbl
  obtain⟨q0,q1,q2,q3,q4,q5,q6,q7,q8,q9,qf⟩:=blk10 hbl
  have hdl:=lt_of_block hbl
  rw[hoff]at q1
  clear hb1 hm hbl
  go_wp2
  go_ret
  exact⟨_,rfl,HT1.out,HK1.out⟩
 ·obtain rfl:R=(41,S):=by rw[HR.out];simp
  obtain rfl:F = -1:=by rw[HFn.out];rfl
  go_enter Tryz.func65,Tryz.ntmps65
  go_wp2_with fail
  refine HF.out.mono ?_
  rintro e w1 ⟨rfl,hb1⟩
  have HK1:=hide (kp_below hb1 (Ow o) K (0,0))
  have HT1:=hide (HT.out.kept (kp_below hb1 (fun _=>False) K (0,0)) (fun _ h=>h))
  obtain⟨fv,sv,cv,fs,hm⟩:=HT1.out
  have hbl:=hm.blk
  unfold tcells at hbl
  obtain⟨q0,q1,q2,q3,q4,q5,q6,q7,q8,q9,qf⟩:=blk10 hbl
  have hdl:=lt_of_block hbl
  rw[hoff]at q1
  clear hb1 hm hbl
  go_wp2
  go_ret
  exact⟨_,rfl,HT1.out,HK1.out⟩
 ·cases hy:isNm y with
  | false =>
   obtain rfl:R=(41,S):=by rw[HR.out,hy];simp
   obtain rfl:F = -1:=by rw[HFn.out];rfl
   go_enter Tryz.func65,Tryz.ntmps65
   go_wp2_with fail
   refine HF.out.mono ?_
   rintro e w1 ⟨rfl,hb1⟩
   have HK1:=hide (kp_below hb1 (Ow o) K (0,0))
   have HT1:=hide (HT.out.kept (kp_below hb1 (fun _=>False) K (0,0)) (fun _ h=>h))
   obtain⟨fv,sv,cv,fs,hm⟩:=HT1.out
   have hbl:=hm.blk
   unfold tcells at hbl
   obtain⟨q0,q1,q2,q3,q4,q5,q6,q7,q8,q9,qf⟩:=blk10 hbl
   have hdl:=lt_of_block hbl
   rw[hoff]at q1
   clear hb1 hm hbl
   have HI1:=hide (HIs.out w1)
   rw[hy]at HI1
   clear hy HR HIs
   go_wp2_with fail
   refine HI1.out.mono ?_
   rintro e w2 ⟨rfl,h3⟩
   subst h3
   go_wp2
   go_ret
   exact⟨_,rfl,HT1.out,HK1.out⟩
  | true =>
   obtain rfl:R=(42,S):=by rw[HR.out,hy];simp
   obtain rfl:F = -1:=by rw[HFn.out];rfl
   go_enter Tryz.func65,Tryz.ntmps65
   go_wp2_with fail
   refine HF.out.mono ?_
   rintro e w1 ⟨rfl,hb1⟩
   have HK1:=hide (kp_below hb1 (Ow o) K (0,0))
   have HT1:=hide (HT.out.kept (kp_below hb1 (fun _=>False) K (0,0)) (fun _ h=>h))
   obtain⟨fv,sv,cv,fs,hm⟩:=HT1.out
   have hbl:=hm.blk
   unfold tcells at hbl
   obtain⟨q0,q1,q2,q3,q4,q5,q6,q7,q8,q9,qf⟩:=blk10 hbl
   have hdl:=lt_of_block hbl
   rw[hoff]at q1
   clear hb1 hm hbl
   have HI1:=hide (HIs.out w1)
   rw[hy]at HI1
   clear hy HR HIs
   go_wp2_with fail
   refine HI1.out.mono ?_
   rintro e w2 ⟨rfl,h3⟩
   subst h3
   go_wp2
   go_ret
   exact⟨_,rfl,HT1.out,HK1.out⟩
 ·cases hy:isNm y with
  | false =>
   obtain rfl:R=(41,S):=by rw[HR.out,hy];simp
   obtain rfl:F=(i:Int):=by rw[HFn.out,hl];rfl
   go_enter Tryz.func65,Tryz.ntmps65
   go_wp2_with fail
   refine HF.out.mono ?_
   rintro e w1 ⟨rfl,hb1⟩
   have HK1:=hide (kp_below hb1 (Ow o) K (0,0))
   have HT1:=hide (HT.out.kept (kp_below hb1 (fun _=>False) K (0,0)) (fun _ h=>h))
   obtain⟨fv,sv,cv,fs,hm⟩:=HT1.out
   have hbl:=hm.blk
   unfold tcells at hbl
   obtain⟨q0,q1,q2,q3,q4,q5,q6,q7,q8,q9,qf⟩:=blk10 hbl
   have hdl:=lt_of_block hbl
   rw[hoff]at q1
   clear hb1 hm hbl
   have HI1:=hide (HIs.out w1)
   rw[hy]at HI1
   clear hy HR HIs
   go_wp2_with fail
   refine HI1.out.mono ?_
   rintro e w2 ⟨rfl,h3⟩
   subst h3
   go_wp2
   go_ret
   exact⟨_,rfl,HT1.out,HK1.out⟩
  | true =>
   obtain rfl:R=(S.power,if x=y then S.stroked else S.stroked.ren ⟨x,y,i⟩):=by rw[HR.out,hy,hl];simp
   by_cases hxy:x=y
   ·have hse:(x == y)=true:=by simpa using hxy
    have hsn:(x != y)=false:=by simpa using hxy
    rw[if_pos hxy]
    clear hxy
    obtain rfl:F=(i:Int):=by rw[HFn.out,hl];rfl
    go_enter Tryz.func65,Tryz.ntmps65
    go_wp2_with fail
    refine HF.out.mono ?_
    rintro e w1 ⟨rfl,hb1⟩
    have HK1:=hide (kp_below hb1 (Ow o) K (0,0))
    have HT1:=hide (HT.out.kept (kp_below hb1 (fun _=>False) K (0,0)) (fun _ h=>h))
    obtain⟨fv,sv,cv,fs,hm⟩:=HT1.out
    have hbl:=hm.blk
    unfold tcells at hbl
    obtain⟨q0,q1,q2,q3,q4,q5,q6,q7,q8,q9,qf⟩:=blk10 hbl
    have hdl:=lt_of_block hbl
    rw[hoff]at q1
    clear hb1 hm hbl
    have HI1:=hide (HIs.out w1)
    rw[hy]at HI1
    have HSt:=hide (tstroke_any w1 _ o d S HT1.out hoff h1 h2)
    clear hy HR HIs
    go_wp2_with fail
    refine HI1.out.mono ?_
    rintro e w2 ⟨rfl,h3⟩
    subst h3
    go_wp2_with fail
    refine HSt.out.mono ?_
    rintro e w4 ⟨rfl,ht4,hk4⟩
    have HT4:=hide ht4
    have HK4:=hide (hk4.mono (q:=Ow o) (fun k e=>by rw[e]))
    clear ht4 hk4
    go_wp2
    go_ret
    exact⟨_,rfl,HT4.out,HK1.out.trans HK4.out⟩
   ·have hse:(x == y)=false:=by simpa using hxy
    have hsn:(x != y)=true:=by simpa using hxy
    rw[if_neg hxy]
    have hx0:x≠[]:=fun e=>by rw[e]at hnm;exact absurd hnm (by decide)
    have hy0:y≠[]:=fun e=>by rw[e]at hy;exact absurd hy (by decide)
    have HX0:=hide hx0
    have HCv:Hid (cv4 ⟨x,y,i⟩=[.int .u8 82,.string ⟨x.toArray⟩,.string ⟨y.toArray⟩,.int .i64 (i:Int)]):=by show _=_;unfold cv4;rw[if_neg hx0,if_neg hy0]
    clear hxy hx0 hy0
    obtain rfl:F=(i:Int):=by rw[HFn.out,hl];rfl
    go_enter Tryz.func65,Tryz.ntmps65
    go_wp2_with fail
    refine HF.out.mono ?_
    rintro e w1 ⟨rfl,hb1⟩
    have HI1:=hide (HIs.out w1)
    rw[hy]at HI1
    clear hy HR HIs hl hnm
    have HK1:=hide (kp_below hb1 (Ow o) K (0,0))
    obtain⟨fv,sv,cv,fs,hm⟩:=HT.out.kept (kp_below hb1 (fun _=>False) K (0,0)) (fun _ h=>h)
    obtain⟨a4,c4,rfl,_,_⟩:=hm.chgs.form
    have hbl:=hm.blk
    unfold tcells at hbl
    obtain⟨q0,q1,q2,q3,q4,q5,q6,q7,q8,q9,qf⟩:=blk10 hbl
    have hdl:=lt_of_block hbl
    have HM:=hide hm
    generalize ext K w.heap.size (0,0)=K1 at *
    have HBl:=hide hbl
    obtain⟨nc,hnc⟩:∃nc,S.chg.length=nc:=⟨_,rfl⟩
    have hch:=hm.chgs
    rw[hnc]at hch hcl q4 HBl
    have HCh:=hide hch
    have HNc:=hide hnc
    clear hb1 hm hbl hnc hch
    rw[hoff]at q1 HBl
    go_wp2_with fail
    refine HI1.out.mono ?_
    rintro e w2' ⟨rfl,h3⟩
    rw[h3]
    clear h3 w2'
    go_wp2_with (at_builtin;refine wpList_append_lies _ rfl (.tmp 39) (.tmp 44) 110 rfl 0 143 i0 _ 4 48 Tryz.underlying110 hi hz0 hz1 hz2 rfl (by omega) (.slice a4 nc c4) nc (cvs S.chg) rfl (HCh.out.own.alloc _) ⟨w1.heap.size,0,none⟩ 1 1 [.int .u8 82,.string ⟨x.toArray⟩,.string ⟨y.toArray⟩,.int .i64 (i:Int)] rfl rfl (World.news_of_block (heap_alloc_new w1 (.cells #[.int .u8 82,.string ⟨x.toArray⟩,.string ⟨y.toArray⟩,.int .i64 (i:Int)] 143))) (by simp[Value.oneCell']) (by omega) (by unfold maxLen;omega) (by omega) (Nat.zero_le _) _ rfl ?_;intro g' cap' w2 ho2 hg2 hat2 hlt2;have HO:=hide ho2;have HG:=hide hg2;have HA:=hide hat2;have hd2:=((kp_row HCh.out hg2).block d hdl (by rw[HM.out.kd];exact snd_ne (by omega))).trans HBl.out;have hdl2:=lt_of_block hd2;obtain⟨y0,y1,y2,y3,y4,y5,y6,y7,y8,y9,yf⟩:=blk10 hd2;clear ho2 hg2 hat2 hlt2 hd2)
    have hres:=HM.out.chged (u:=.cells #[.int .u8 82,.string ⟨x.toArray⟩,.string ⟨y.toArray⟩,.int .i64 (i:Int)] 143) (ch:=⟨x,y,i⟩) (by rw[HNc.out,HCv.out];exact HO.out) (by rw[HNc.out];exact HG.out) (by rw[HNc.out];exact HA.out) (Or.inl HX0.out)
    obtain⟨ht3,hk3⟩:=hres
    rw[HNc.out]at ht3 hk3
    have HSt:=hide (tstroke_any _ _ o d _ ht3 hoff h1 h2)
    have HK3:=hide hk3
    clear ht3 hk3 HO HG HA y0 y1 y2 y3 y4 y5 y6 y7 y8 y9 yf q0 q1 q2 q3 q4 q5 q6 q7 q8 q9 qf
    refine HSt.out.mono ?_
    rintro e w4 ⟨rfl,ht4,hk4⟩
    have HT4:=hide ht4
    have HK4:=hide (hk4.mono (q:=Ow o) (fun k e=>by rw[e]))
    clear ht4 hk4
    go_wp2
    go_ret
    exact⟨_,rfl,HT4.out,(HK1.out.trans HK3.out).trans HK4.out⟩
set_option maxHeartbeats 1000000 in
theorem tplan_any (w:World) (K:Knd) (o d:Nat) (S:St) (h:Tk w K o d S) (a b c:Int) :
  Calls Tryz.prog 30 #[.pointer (some ⟨d,0,none⟩),.agg #[.int .i64 a,.int .i64 b,.int .i64 c]] w fun e w'=>∃K',e=.returned (.tuple #[])∧Tk w' K' o d (S.planR a b c)∧Kp (Ow o) K K' w w':=by
 have hb1:Below w.heap.size w (w.alloc (.cells #[.int .i64 a,.int .i64 b,.int .i64 c] 34)):=(Below.refl _ _).alloc (Nat.le_refl _) _
 have hX:(w.alloc (.cells #[.int .i64 a,.int .i64 b,.int .i64 c] 34)).heap[w.heap.size]?=some (.cells #[.int .i64 a,.int .i64 b,.int .i64 c] 34 (0,0)):=heap_alloc_new _ _
 have HT1:=hide (h.kept (kp_below hb1 (fun _=>False) K (0,0)) (fun _ h=>h))
 have HK1:=hide (kp_below hb1 (Ow o) K (0,0))
 obtain⟨p0,p1,p2,pf⟩:=C.blk3 hX
 obtain⟨fv,sv,cv,fs,hm⟩:=HT1.out
 have hbl:=hm.blk
 unfold tcells at hbl
 obtain⟨q0,q1,q2,q3,q4,q5,q6,q7,q8,q9,qf⟩:=blk10 hbl
 have hdl:=lt_of_block hbl
 have HM:=hide hm
 have HBl:=hide hbl
 clear h hX hm hbl hb1
 cases hoff:S.off with
 | true =>
  rw[hoff]at q1
  have hr:S.planR a b c=S:=by unfold St.planR;rw[hoff];rfl
  rw[hr]
  go_enter Tryz.func30,Tryz.ntmps30
  go_wp2
  go_end0
  exact⟨_,rfl,HT1.out,HK1.out⟩
 | false =>
  rw[hoff]at q1
  have HR:Hid (S.planR a b c={ S with pOff:=a,pFrom:=b,pTo:=c,planned:=0 }):=by show _=_;unfold St.planR;rw[hoff];rfl
  rw[HR.out]
  go_enter Tryz.func30,Tryz.ntmps30
  go_wp2
  go_end0
  generalize w.alloc (.cells #[.int .i64 a,.int .i64 b,.int .i64 c] 34)=w1 at *
  generalize ext K w.heap.size (0,0)=K1 at *
  have kk:Kp (fun k=>k=(o,1)) K1 K1 w1 ((((w1.setCell ⟨d,7,none⟩ (.int .i64 a)).setCell ⟨d,8,none⟩ (.int .i64 b)).setCell ⟨d,9,none⟩ (.int .i64 c)).setCell ⟨d,6,none⟩ (.int .i64 0)):=((((Kp.refl _ K1 w1).setCell (Or.inr HM.out.kd) _ _).setCell (Or.inr HM.out.kd) _ _).setCell (Or.inr HM.out.kd) _ _).setCell (Or.inr HM.out.kd) _ _
  refine⟨K1,rfl,⟨fv,sv,cv,fs,HM.out.turnD kk ?_ rfl rfl rfl⟩,HK1.out.trans (kk.mono (fun k e=>by rw[e]))⟩
  rw[block_set (block_set (block_set (block_set HBl.out _) _) _)]
  simp[tcells,hoff]
theorem Tm.named {w w1 w2:World} {K:Knd} {o d:Nat} {fv sv cv:Value} {fs:List (Value × Value)} {S:St} (h:Tm w K o d fv sv cv fs S) (hv:Inv S) {a:Option Addr} {c:Nat} (hr:Rk w1 (ext K w.heap.size (o,3)) (o,3) 183 2 (.slice a S.seen.length c) S.seen.length (nvs S.seen)) (hb:Below w.heap.size w w1)
  (hw:w2=(w1.setCell ⟨d,3,none⟩ (.slice a S.seen.length c)).setCell ⟨d,4,none⟩ (.slice none 0 0)):Tk w2 (ext K w.heap.size (o,3)) o d S.settledN∧Kp (Ow o) K (ext K w.heap.size (o,3)) w w2:=by
 subst hw
 have hdl:=lt_of_block h.blk
 have k1:=kp_below hb (fun q=>q=(o,1)) K (o,3)
 have hd1:w1.heap[d]?=_:=(hb.block d hdl).trans h.blk
 have hkd:ext K w.heap.size (o,3) d=(o,1):=(ext_old K _ hdl).trans h.kd
 have k2:Kp (fun q=>q=(o,1)) (ext K w.heap.size (o,3)) (ext K w.heap.size (o,3)) w1 ((w1.setCell ⟨d,3,none⟩ (.slice a S.seen.length c)).setCell ⟨d,4,none⟩ (.slice none 0 0)):=((Kp.refl (fun q=>q=(o,1)) (ext K w.heap.size (o,3)) w1).setCell (b:=d) (Or.inr hkd) _ _).setCell (b:=d) (Or.inr hkd) _ _
 have kk:=k1.trans k2
 have e:S.settledN.safe=S.seen:=hv.fold.symm
 refine⟨⟨fv,.slice a S.seen.length c,.slice none 0 0,fs,⟨?_,hkd,h.flen,h.files.kept kk (by simp),fun i f p h1 h2=>⟨(h.file i f p h1 h2).1.kept kk (by simp;omega),(h.file i f p h1 h2).2.kept kk (by simp;omega)⟩,by rw[e];exact hr.kept k2 (by simp),⟨⟨rfl,Or.inl ⟨rfl,rfl⟩⟩,fun g e=>by simp[Value.ownBlock]at e⟩,fun c hc=>by simp[St.settledN]at hc⟩⟩,kk.mono (fun k e=>by rw[e])⟩
 rw[block_set (block_set hd1 _)]
 rfl
set_option maxHeartbeats 1000000 in
theorem tsyncNames_any (w:World) (K:Knd) (o d:Nat) (S:St) (h:Tk w K o d S) (hv:Inv S) (hb:Fb S) (h1:S.strokes≤1099511627776) (h2:S.planned≤1099511627776) :
  Calls Tryz.prog 60 #[.pointer (some ⟨d,0,none⟩)] w fun e w'=>∃K',e=.returned (.int .i64 (S.namesR.1:Int))∧Tk w' K' o d S.namesR.2∧Kp (Ow o) K K' w w':=by
 have HT:=hide h
 obtain⟨fv,sv,cv,fs,hm⟩:=h
 have hbl:=hm.blk
 unfold tcells at hbl
 obtain⟨q0,q1,q2,q3,q4,q5,q6,q7,q8,q9,qf⟩:=blk10 hbl
 have hdl:=lt_of_block hbl
 clear hm hbl
 cases hoff:S.off with
 | true =>
  rw[hoff]at q1
  have hr:S.namesR=(45,S):=by unfold St.namesR;rw[hoff];rfl
  rw[hr]
  go_enter Tryz.func60,Tryz.ntmps60
  go_wp2
  go_ret
  exact⟨_,rfl,HT.out,Kp.refl _ _ _⟩
 | false =>
  rw[hoff]at q1
  have hr:S.namesR=(S.power,if S.power=0 then S.stroked.settledN else S.stroked):=by unfold St.namesR;rw[hoff];rfl
  rw[hr]
  have HSt:=hide (tstroke_any w K o d S HT.out hoff h1 h2)
  have HV:=hide hv.stroked
  have HNm:Hid (S.stroked.safe.length+S.stroked.chg.length≤549755813888):=hb.nm
  clear hr hv hb
  generalize S.stroked=S1 at *
  by_cases hp:S.power=0
  ·rw[if_pos hp]
   rw[hp]at HSt
   rw[hp]
   clear hp
   go_enter Tryz.func60,Tryz.ntmps60
   go_wp2_with fail
   refine HSt.out.mono ?_
   rintro e w1 ⟨rfl,ht1,hk1⟩
   have HSe:=hide (Seen_any w1 K o d S1 ht1 HV.out HNm.out)
   obtain⟨fv1,sv1,cv1,fs1,hm1⟩:=ht1
   have HM1:=hide hm1
   have HK1:=hide (hk1.mono (q:=Ow o) (fun k e=>by rw[e]))
   have hdl1:=lt_of_block hm1.blk
   clear hk1 hm1 q0 q1 q2 q3 q4 q5 q6 q7 q8 q9 qf
   go_wp2_with fail
   refine HSe.out.mono ?_
   rintro e w2 ⟨a,c,rfl,hr2,hb2⟩
   have hres:=fun w3 hw=>HM1.out.named (w2:=w3) HV.out hr2 hb2 hw
   have HRes:=hide hres
   have hbl2:=(hb2.block d hdl1).trans HM1.out.blk
   unfold tcells at hbl2
   obtain⟨y0,y1,y2,y3,y4,y5,y6,y7,y8,y9,yf⟩:=blk10 hbl2
   have hdl2:=lt_of_block hbl2
   generalize S1.seen.length=sl at *
   clear hr2 hb2 hres hbl2
   go_wp2
   go_ret
   obtain⟨t1,t2⟩:=HRes.out _ rfl
   exact⟨_,rfl,t1,HK1.out.trans t2⟩
  ·rw[if_neg hp]
   have hne:((S.power:Int) == 0)=false:=by simp;omega
   have hne2:¬(S.power:Int)=0:=by omega
   clear hp
   generalize S.power=P at *
   go_enter Tryz.func60,Tryz.ntmps60
   go_wp2_with fail
   refine HSt.out.mono ?_
   rintro e w1 ⟨rfl,ht1,hk1⟩
   have HT1:=hide ht1
   have HK1:=hide (hk1.mono (q:=Ow o) (fun k e=>by rw[e]))
   clear ht1 hk1
   go_wp2
   go_ret
   exact⟨_,rfl,HT1.out,HK1.out⟩
end Go.Proofs.YtcceejdaokoihaaGreatDoor
