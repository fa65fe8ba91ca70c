import Derived.Deep.RegionHeld3
import Derived.Deep.RegionLaw
import Derived.Deep.QuietTactic
import Derived.Deep.DrawnRows
import Derived.Deep.CutRange
import Derived.Deep.DeepCutAuto
import Derived.Test.YtcceejdaokoihaaGreatDoorCMir
import Derived.Test.YtcceejdaokoihaaGreatDoorCBase
import Derived.Test.YtcceejdaokoihaaGreatDoorCReader4
import Derived.Test.YtcceejdaokoihaaGreatDoorDiskA
import Derived.Test.YtcceejdaokoihaaGreatDoorJRead
import Derived.Test.YtcceejdaokoihaaGreatDoorCWriter
import Derived.BigQuiet
set_option maxRecDepth 100000
namespace Go.Proofs.YtcceejdaokoihaaGreatDoor.C
open Go.RowKit
set_option maxHeartbeats 400000 in
theorem power_any (w:World) (k:Nat) (hk:k<8) :
  Calls Tryz.prog 155 #[.int .i64 k] w fun e w'=>e=.returned (.int .u32 (2 ^ k:Nat))∧w'=w:=by
 go_enter Tryz.func155,Tryz.ntmps155
 go_wp2
 go_loop [3,4] (fun n i=>∃(j N:Nat),j≤k∧i=.int .i64 j∧n=.int .u32 (N:Int)∧Hid (N=2 ^ j)∧N≤256) (fun _ i=>k - (intOf i).toNat)
 case atStart=>exact⟨0,1,Nat.zero_le _,rfl,rfl,rfl,by omega⟩
 case round =>
  obtain⟨j,N,hj,rfl,rfl,HN,hN⟩:=hrel
  by_cases hlt:j<k
  ·have HN2:Hid (N*2=2 ^ (j+1)):=by show _=_;rw[HN.out,Nat.pow_succ]
   have hN2:N*2≤256:=by
    rw[HN2.out]
    exact Nat.le_trans (Nat.pow_le_pow_right (by omega) (by omega:j+1≤8)) (by omega)
   go_wp2
   go_round
   case rel=>exact⟨j+1,N*2,by omega,by go_num,by simp,HN2,hN2⟩
   case measure=>simp[intOf];omega
  ·obtain rfl:j=k:=by omega
   go_wp2
   go_ret
   exact⟨ret_int (by rw[HN.out];simp),rfl⟩
structure MirInv (n j N M:Nat):Prop where
 lt:M<2 ^ j
 eq:rv 32 n=2 ^ (32 - j)*M+rv (32 - j) N
theorem MirInv.start (n:Nat):MirInv n 0 n 0:=⟨by simp,by simp⟩
theorem MirInv.small {n j N M:Nat} (h:MirInv n j N M) (hj:j<32):M<2147483648:=Nat.lt_of_lt_of_le h.lt (Nat.le_trans (Nat.pow_le_pow_right (by omega) (by omega:j≤31)) (by omega))
theorem MirInv.step {n j N M:Nat} (h:MirInv n j N M) (hj:j<32):MirInv n (j+1) (N / 2) (M*2+N % 2):=by
 refine⟨?_,?_⟩
 ·have:=h.lt;rw[Nat.pow_succ];omega
 ·obtain⟨q,hq⟩:∃q,32 - j=q+1:=⟨31 - j,by omega⟩
  have hq2:32 - (j+1)=q:=by omega
  rw[h.eq,hq,hq2,rv,Nat.pow_succ,Nat.mul_add,←Nat.add_assoc,Nat.mul_assoc,Nat.mul_comm 2 M]
theorem MirInv.last {n N M:Nat} (h:MirInv n 32 N M):M=rv 32 n:=by
 have:=h.eq
 rw[this]
 simp[rv]
set_option maxHeartbeats 400000 in
theorem mirrored_any (w:World) (n:Nat) (hn:n<4294967296) :
  Calls Tryz.prog 156 #[.int .u32 n] w fun e w'=>e=.returned (.int .u32 (rv 32 n:Nat))∧w'=w:=by
 go_enter Tryz.func156,Tryz.ntmps156
 go_wp2
 go_loop [0,3,4] (fun nn mm i=>∃(j N M:Nat),j≤32∧i=.int .i64 j∧nn=.int .u32 (N:Int)∧mm=.int .u32 (M:Int)∧N<4294967296∧Hid (MirInv n j N M)) (fun _ _ i=>32 - (intOf i).toNat)
 case atStart=>exact⟨0,n,0,Nat.zero_le _,rfl,rfl,rfl,hn,MirInv.start n⟩
 case round =>
  obtain⟨j,N,M,hj,rfl,rfl,rfl,hN,HM⟩:=hrel
  by_cases hlt:j<32
  ·have hMb:=HM.out.small hlt
   have HM2:=hide (HM.out.step hlt)
   have e1:(M:Int)*2+(N:Int) % 2=((M*2+N % 2:Nat):Int):=by omega
   have e2:(N:Int) / 2=((N / 2:Nat):Int):=by omega
   have b1:M*2+N % 2<4294967296:=by omega
   have b2:N / 2<4294967296:=by omega
   generalize M*2+N % 2=M2 at *
   generalize N / 2=N2 at *
   go_wp2
   go_round
   case rel=>exact⟨j+1,N2,M2,by omega,by go_num,rfl,rfl,b2,HM2⟩
   case measure=>simp[intOf];omega
  ·obtain rfl:j=32:=by omega
   go_wp2
   go_ret
   exact⟨ret_int (by rw[HM.out.last]),rfl⟩
structure SumInv (V M N:Nat):Prop where
 lt:N<4294967296
 eq:rv 32 N=far V M
theorem SumInv.start (V:Nat):SumInv V 0 0:=⟨by omega,by rw[far_zero];decide⟩
theorem SumInv.step {V M N:Nat} (h:SumInv V M N):SumInv V (M+1) (shl1 N (V / 2 ^ M % 2)) :=
 ⟨shl1_lt _ _,by rw[rv_shl1 N _ h.lt (Nat.mod_lt _ (by omega)),far_step,h.eq]⟩
theorem shl_top (N z:Nat) (_hN:N<4294967296) (hz:z<2) (ht:N / 2147483648=1):bits .xor .u32 ((N:Int)*2 % 4294967296+(z:Int)) 79764919=((shl1 N z:Nat):Int):=by
 have e:(N:Int)*2 % 4294967296+(z:Int)=(((N*2+z) % 4294967296:Nat):Int):=by omega
 have:=u32_xor_nat ((N*2+z) % 4294967296) 79764919 (by omega) (by omega)
 rw[show ((79764919:Nat):Int)=79764919 from rfl]at this
 rw[e,this,shl1,if_pos ht]
theorem shl_low (N z:Nat) (_hN:N<4294967296) (hz:z<2) (ht:¬N / 2147483648=1):(N:Int)*2+(z:Int)=((shl1 N z:Nat):Int):=by
 rw[shl1,if_neg ht]
 omega
set_option maxHeartbeats 2000000 in
theorem refsum_any (w:World) (sp:Option Addr) (len cap:Nat) (xs:List Nat) (hl:xs.length=len) (hB:Bytes w sp xs) (hlen:len≤140737488351232) :
  Calls Tryz.prog 116 #[.slice sp len cap] w fun e w'=>e=.returned (.int .u32 (sumOf xs:Nat))∧∃m,w'=w.drewN m:=by
 have HX:=hide hB.small
 have HL:=hide hl
 have HC:Hid (∀j,j<len→∃g o,sp=some ⟨g,o,none⟩∧w.cell? ⟨g,o+j,none⟩=some (.int .u8 (xs.getD j 0))):=fun j hj=>by
  rcases hB.lie with h | ⟨g,o,e,_,hc⟩
  ·subst h;simp at hl;omega
  ·exact⟨g,o,e,hc j (by omega)⟩
 clear hl hB
 go_enter Tryz.func116,Tryz.ntmps116
 go_wp2
 go_loopw [3,4] (fun r i wr=>∃(a N q:Nat),a≤len+4∧i=.int .i64 a∧r=.int .u32 (N:Int)∧Hid (wr=w.drewN q)∧Hid (SumInv (docV xs) (8*a) N)) (fun _ i _=>len+4 - (intOf i).toNat)
 case atStart=>exact⟨0,0,0,Nat.zero_le _,rfl,rfl,rfl,SumInv.start _⟩
 case round =>
  obtain⟨a,N0,q0,ha,rfl,rfl,HW0,HS0⟩:=hrel
  obtain⟨wo,rfl⟩:∃wo,wo=wr:=⟨_,rfl⟩
  by_cases hlt:a<len+4
  ·have l1:(a:Int)<(len:Int)+4:=by omega
   go_wp2
   go_loopw [3,5] (fun r i wr=>∃(b N q:Nat),b≤8∧i=.int .i64 b∧r=.int .u32 (N:Int)∧Hid (wr=w.drewN q)∧Hid (SumInv (docV xs) (8*a+b) N)) (fun _ i _=>8 - (intOf i).toNat)
   case atStart=>exact⟨0,N0,q0,Nat.zero_le _,rfl,rfl,HW0,HS0⟩
   case round =>
    obtain⟨b,N,q,hb,rfl,rfl,HW,HS⟩:=hrel
    by_cases hb8:b<8
    ·have HS2:=hide HS.out.step
     have HD:=hide (doc_bit xs a b hb8 HX.out)
     have hN:=HS.out.lt
     by_cases hal:a<len
     ·obtain⟨g,o,rfl,hca⟩:=HC.out a hal
      have hcx:wr.cell? ⟨g,o+a,none⟩=some (.int .u8 (xs.getD a 0:Nat)):=by rw[HW.out];exact hca
      clear hca
      have hx:xs.getD a 0<256:=getD_small HX.out a
      generalize xs.getD a 0=x at *
      have HP:=hide (fun w=>power_any w b hb8)
      have hp0:0<2 ^ b:=Nat.two_pow_pos b
      generalize 2 ^ b=pb at *
      have l2:(a:Int)<(len:Int):=by omega
      have l3:(0:Int)≤(a:Int):=by omega
      have l4:((pb:Int) == 0)=false:=by simp;omega
      have hwx:IntKind.u32.wrap (x:Int)=(x:Int):=by rw[IntKind.wrap_u32];omega
      have d0:¬pb=0:=by omega
      have d1:(x:Int).tdiv (pb:Int)=((x / pb:Nat):Int):=rfl
      have hz2:x / pb % 2<2:=Nat.mod_lt _ (by omega)
      have hy:x / pb<256:=Nat.lt_of_le_of_lt (Nat.div_le_self _ _) hx
      have d3:((x / pb:Nat):Int).tmod 2=((x / pb % 2:Nat):Int):=rfl
      have d4:((x / pb:Nat):Int) % 2=((x / pb % 2:Nat):Int):=rfl
      generalize x / pb % 2=z at *
      generalize x / pb=y at *
      have d2:IntKind.u32.wrap (y:Int)=(y:Int):=by rw[IntKind.wrap_u32];omega
      go_wp2
      go_quiet (first | (go_at_call 155;exact Calls.quiet_of_same (HP.out _)))
      obtain⟨zz,hzz⟩:∃zz,zz=docV xs / 2 ^ (8*a+b) % 2:=⟨_,rfl⟩
      rw[←hzz]at HD HS2
      have HW2:Hid (wr.drewN nq=w.drewN (q+nq)):=by show _=_;rw[HW.out,World.drewN_drewN]
      generalize hwn:wr.drewN nq=wn at *
      clear hzz HP HW hwn
      by_cases ha4:a<4
      ·have hz3:zz=1 - z:=by have:=HD.out;rw[if_pos ha4]at this;exact this
       have f1:(1:Int) - (z:Int)=(zz:Int):=by omega
       have l5:(a:Int)<4:=by omega
       have hzl:zz<2:=by omega
       clear hz3 HD
       by_cases ht:N / 2147483648=1
       ·have f2:((N:Int) / 2147483648 == 1)=true:=by simp;omega
        have f3:(2147483648:Int)≤(N:Int):=by omega
        go_wp2
        go_roundw
        case rel=>exact⟨b+1,shl1 N zz,q+nq,by omega,by go_num,by rw[shl_top N zz hN hzl ht],HW2,HS2⟩
        case measure=>simp[intOf];omega
       ·have f2:((N:Int) / 2147483648 == 1)=false:=by simp;omega
        have f3:(N:Int)<2147483648:=by omega
        go_wp2
        go_roundw
        case rel=>exact⟨b+1,shl1 N zz,q+nq,by omega,by go_num,by rw[shl_low N zz hN hzl ht],HW2,HS2⟩
        case measure=>simp[intOf];omega
      ·obtain rfl:zz=z:=by have:=HD.out;rw[if_neg ha4]at this;exact this
       have l5:¬(a:Int)<4:=by omega
       have hzl:zz<2:=by omega
       clear HD
       by_cases ht:N / 2147483648=1
       ·have f2:((N:Int) / 2147483648 == 1)=true:=by simp;omega
        have f3:(2147483648:Int)≤(N:Int):=by omega
        go_wp2
        go_roundw
        case rel=>exact⟨b+1,shl1 N zz,q+nq,by omega,by go_num,by rw[shl_top N zz hN hzl ht],HW2,HS2⟩
        case measure=>simp[intOf];omega
       ·have f2:((N:Int) / 2147483648 == 1)=false:=by simp;omega
        have f3:(N:Int)<2147483648:=by omega
        go_wp2
        go_roundw
        case rel=>exact⟨b+1,shl1 N zz,q+nq,by omega,by go_num,by rw[shl_low N zz hN hzl ht],HW2,HS2⟩
        case measure=>simp[intOf];omega
     ·have l2:¬(a:Int)<(len:Int):=by omega
      have hx0:xs.getD a 0=0:=by rw[List.getD,List.getElem?_eq_none (by rw[HL.out];omega)];rfl
      rw[hx0,Nat.zero_div,Nat.zero_mod]at HD
      clear hx0
      by_cases ha4:a<4
      ·have hz3:=HD.out
       rw[if_pos ha4]at hz3
       rw[hz3]at HS2
       have l5:(a:Int)<4:=by omega
       clear hz3 HD
       by_cases ht:N / 2147483648=1
       ·have f2:((N:Int) / 2147483648 == 1)=true:=by simp;omega
        have f3:(2147483648:Int)≤(N:Int):=by omega
        go_wp2
        go_roundw
        case rel=>exact⟨b+1,shl1 N 1,q,by omega,by go_num,by rw[←shl_top N 1 hN (by omega) ht];simp,HW,HS2⟩
        case measure=>simp[intOf];omega
       ·have f2:((N:Int) / 2147483648 == 1)=false:=by simp;omega
        have G1:Hid ((N:Int)*2 % 4294967296+1=((shl1 N 1:Nat):Int)):=by show _=_;rw[←shl_low N 1 hN (by omega) ht];simp;omega
        clear ht
        generalize shl1 N 1=S at *
        go_wp2
        go_roundw
        case rel=>exact⟨b+1,S,q,by omega,by go_num,by rw[G1.out],HW,HS2⟩
        case measure=>simp[intOf];omega
      ·have hz3:=HD.out
       rw[if_neg ha4]at hz3
       rw[hz3]at HS2
       have l5:¬(a:Int)<4:=by omega
       clear hz3 HD
       by_cases ht:N / 2147483648=1
       ·have f2:((N:Int) / 2147483648 == 1)=true:=by simp;omega
        have f3:(2147483648:Int)≤(N:Int):=by omega
        go_wp2
        go_roundw
        case rel=>exact⟨b+1,shl1 N 0,q,by omega,by go_num,by rw[←shl_top N 0 hN (by omega) ht];simp,HW,HS2⟩
        case measure=>simp[intOf];omega
       ·have f2:((N:Int) / 2147483648 == 1)=false:=by simp;omega
        have G1:Hid ((N:Int)*2 % 4294967296=((shl1 N 0:Nat):Int)):=by show _=_;rw[←shl_low N 0 hN (by omega) ht];simp;omega
        clear ht
        generalize shl1 N 0=S at *
        go_wp2
        go_roundw
        case rel=>exact⟨b+1,S,q,by omega,by go_num,by rw[G1.out],HW,HS2⟩
        case measure=>simp[intOf];omega
    ·obtain rfl:b=8:=by omega
     have HS8:Hid (SumInv (docV xs) (8*(a+1)) N):=by have:=HS.out;rw[show 8*a+8=8*(a+1) by omega]at this;exact this
     go_wp2
     go_roundw
     case rel=>exact⟨a+1,N,q,by omega,by go_num,rfl,HW,HS8⟩
     case measure=>simp[intOf];omega
  ·obtain rfl:a=len+4:=by omega
   have HE:Hid (rv 32 N0=reg xs):=by
    have e:=HS0.out.eq
    rw[show 8*(len+4)=32+8*xs.length by rw[HL.out];omega,doc_end xs HX.out]at e
    exact e
   have hN:=HS0.out.lt
   have HR:=hide (reg_lt xs HX.out)
   have HM:Hid (∀w:World,Calls Tryz.prog 156 #[.int .u32 N0] w fun e w'=>e=.returned (.int .u32 (reg xs:Nat))∧w'=w):=fun w=>by
    have:=mirrored_any w N0 hN
    rw[HE.out]at this
    exact this
   clear HE HS0
   go_wp2_with fail
   refine(HM.out _).mono ?_
   rintro e w2 ⟨rfl,rfl⟩
   go_wp2
   go_ret
   refine⟨?_,q0,HW0.out⟩
   have e:bits .xor .u32 IntKind.u32.max ((reg xs:Nat):Int)=((4294967295 ^^^ reg xs:Nat):Int):=u32_xor_nat 4294967295 _ (by omega) HR.out
   simp only[e]
   rfl
end Go.Proofs.YtcceejdaokoihaaGreatDoor.C
namespace Go.Proofs.YtcceejdaokoihaaGreatDoor
open Go.RowKit Go.Maps
theorem Tryz.infoNm:(Tryz.prog.info? 183).map (fun i=>(i.zero,i.size,i.bytes))=some (some (.agg #[.string ⟨#[]⟩,.int .i64 0]),2,24):=by kernel_rfl
theorem flat_len {α β:Type} (f:α→List β) (s:Nat) (hf:∀a,(f a).length=s) (l:List α):(l.flatMap f).length=l.length*s:=by
 induction l with
 | nil=>simp
 | cons a l ih=>rw[List.flatMap_cons,List.length_append,ih,hf,List.length_cons,Nat.add_mul,Nat.one_mul,Nat.add_comm]
theorem flat_at {α β:Type} (f:α→List β) (s:Nat) (hf:∀a,(f a).length=s):∀(l:List α) (k:Nat) (p:α),l[k]?=some p→∀j,j<s→(l.flatMap f)[k*s+j]?=(f p)[j]?
 | [],k,p,h,_,_=>by simp at h
 | a :: l,0,p,h,j,hj=>by
  simp at h
  subst h
  rw[List.flatMap_cons,List.getElem?_append_left (by rw[hf];omega)]
  simp
 | a :: l,k+1,p,h,j,hj=>by
  have:=flat_at f s hf l k p (by simpa using h) j hj
  have e:(k+1)*s+j=s+(k*s+j):=by rw[Nat.add_mul,Nat.one_mul];omega
  rw[List.flatMap_cons,e,List.getElem?_append_right (by rw[hf];omega),hf,Nat.add_sub_cancel_left]
  exact this
def nv (p:Nm × Nat):List Value:=[.string ⟨p.1.toArray⟩,.int .i64 (p.2:Int)]
def nvs (l:List (Nm × Nat)):List Value:=l.flatMap nv
theorem nvs_len (l:List (Nm × Nat)):(nvs l).length=l.length*2:=flat_len nv 2 (fun _=>rfl) l
theorem nvs_app (l m:List (Nm × Nat)):nvs (l++m)=nvs l++nvs m:=by simp[nvs]
theorem nvs_at (l:List (Nm × Nat)) (k:Nat) (p:Nm × Nat) (h:l[k]?=some p) (j:Nat) (hj:j<2):(nvs l)[k*2+j]?=(nv p)[j]?:=flat_at nv 2 (fun _=>rfl) l k p h j hj
theorem nvs_one (l:List (Nm × Nat)):∀u∈nvs l,u.oneCell'=true:=fun u hu=>by
 unfold nvs at hu
 obtain⟨p,_,h⟩:=List.mem_flatMap.1 hu
 simp[nv]at h
 rcases h with rfl | rfl <;> rfl
structure Nr (w:World) (sp:Option Addr) (l:List (Nm × Nat)):Prop where
 lie:l=[]∨∃g o,sp=some ⟨g,o,none⟩∧g<w.heap.size∧∀(j:Nat) (u:Value),(nvs l)[j]?=some u→w.cell? ⟨g,o+j,none⟩=some u
theorem Nr.below {w w':World} {sp:Option Addr} {l:List (Nm × Nat)} (h:Nr w sp l) (hb:Below w.heap.size w w'):Nr w' sp l :=
 ⟨h.lie.imp id fun ⟨g,o,e,hg,hc⟩=>⟨g,o,e,Nat.lt_of_lt_of_le hg hb.size,fun j u hu=>by rw[hb.cell (p:=⟨g,o+j,none⟩) hg];exact hc j u hu⟩⟩
theorem Nr.at {w:World} {sp:Option Addr} {l:List (Nm × Nat)} (h:Nr w sp l) {j:Nat} {p:Nm × Nat} (hp:l[j]?=some p):∃g o,sp=some ⟨g,o,none⟩∧g<w.heap.size∧w.cell? ⟨g,o+j*2,none⟩=some (.string ⟨p.1.toArray⟩)∧w.cell? ⟨g,o+j*2+1,none⟩=some (.int .i64 (p.2:Int)):=by
 rcases h.lie with e | ⟨g,o,e,hg,hc⟩
 ·rw[e]at hp;simp at hp
 ·exact⟨g,o,e,hg,hc _ _ (nvs_at l j p hp 0 (by omega)),by rw[Nat.add_assoc];exact hc _ _ (nvs_at l j p hp 1 (by omega))⟩
theorem Nr.drop {w:World} {g o:Nat} {l:List (Nm × Nat)} (h:Nr w (some ⟨g,o,none⟩) l) (a:Nat):Nr w (some ⟨g,o+a*2,none⟩) (l.drop a):=by
 rcases h.lie with e | ⟨g',o',e,hg,hc⟩
 ·exact⟨Or.inl (by rw[e];simp)⟩
 ·cases e
  refine⟨Or.inr ⟨g,o+a*2,rfl,hg,fun j u hu=>?_⟩⟩
  by_cases ha:a≤l.length
  ·have e1:nvs l=nvs (l.take a)++nvs (l.drop a):=by rw[←nvs_app,List.take_append_drop]
   have e2:(nvs (l.take a)).length=a*2:=by rw[nvs_len,List.length_take,Nat.min_eq_left ha]
   have:=hc (a*2+j) u (by rw[e1,List.getElem?_append_right (by omega),e2,Nat.add_sub_cancel_left];exact hu)
   rw[Nat.add_assoc]
   exact this
  ·rw[List.drop_of_length_le (by omega)]at hu
   simp[nvs]at hu
theorem Nr.take {w:World} {sp:Option Addr} {l:List (Nm × Nat)} (h:Nr w sp l) (a:Nat):Nr w sp (l.take a):=by
 rcases h.lie with e | ⟨g,o,e,hg,hc⟩
 ·exact⟨Or.inl (by rw[e];simp)⟩
 ·refine⟨Or.inr ⟨g,o,e,hg,fun j u hu=>hc j u ?_⟩⟩
  have e1:nvs l=nvs (l.take a)++nvs (l.drop a):=by rw[←nvs_app,List.take_append_drop]
  rw[e1,List.getElem?_append_left (List.getElem?_eq_some_iff.1 hu).1]
  exact hu
structure Ln (w0 w:World) (sp:Option Addr) (n c:Nat) (l:List (Nm × Nat)):Prop where
 len:l.length=n
 own:w.ownsRow w0.heap.size 183 2 (.slice sp n c) n (nvs l)
 bel:Below w0.heap.size w0 w
theorem ln_nil (w:World):Ln w w none 0 0 []:=⟨rfl,⟨rfl,Or.inl ⟨rfl,rfl⟩⟩,Below.refl _ _⟩
theorem owns_bs2 {w:World} {B n k s:Nat} {t:TypeId} {v:Value} {ys:List Value} (h:w.ownsRow B t s v n ys) (e:v.ownBlock=some k):B≤k:=by
 rcases h.2 with ⟨h1,_⟩ | ⟨g,cap,cur,h1,h2,hg,h3,_⟩
 ·rw[h1]at e;simp[Value.ownBlock]at e
 ·rw[h1]at e;simp[Value.ownBlock]at e;omega
theorem owns_bel2 {w w':World} {B n s:Nat} {e:TypeId} {v:Value} {xs:List Value} (h:w.ownsRow B e s v n xs) (hb:Below w.heap.size w w'):w'.ownsRow B e s v n xs :=
 ⟨h.1,h.2.imp id fun ⟨g,cap,cur,e1,e2,e3,r⟩=>⟨g,cap,cur,e1,e2,(hb.block g (lt_of_block e3)).trans e3,r⟩⟩
theorem Ln.below {w0 w w':World} {sp:Option Addr} {n c:Nat} {l:List (Nm × Nat)} (h:Ln w0 w sp n c l) (hb:Below w.heap.size w w'):Ln w0 w' sp n c l :=
 ⟨h.len,owns_bel2 h.own hb,h.bel.trans (hb.mono h.bel.size)⟩
theorem Ln.nr {w0 w:World} {sp:Option Addr} {n c:Nat} {l:List (Nm × Nat)} (h:Ln w0 w sp n c l):Nr w sp l:=by
 rcases h.own.2 with ⟨h1,h2⟩ | ⟨g,cap,cur,h1,h2,hg,h3,h4,h5,h6⟩
 ·exact⟨Or.inl (List.eq_nil_of_length_eq_zero (by rw[h.len];exact h2))⟩
 ·cases h1
  refine⟨Or.inr ⟨g,0,rfl,lt_of_block hg,fun j u hu=>?_⟩⟩
  have hj:j<n*2:=by have:=(List.getElem?_eq_some_iff.1 hu).1;rw[nvs_len,h.len]at this;exact this
  rw[←h6,List.getElem?_take,if_pos (by omega)]at hu
  simp only[World.cell?,hg,Nat.zero_add]
  simpa using hu
theorem Ln.le {w0 w:World} {sp:Option Addr} {n c:Nat} {l:List (Nm × Nat)} (h:Ln w0 w sp n c l):n≤c:=by
 rcases h.own.2 with ⟨h1,h2⟩ | ⟨g,cap,cur,h1,h2,hg,h3,h4,h5,h6⟩
 ·cases h1;omega
 ·cases h1;exact h3
theorem wpList_append_names {w:World} {ops:Array Oper} {rest:List Oper} {o:Oper} {a:Act} {Q:Exit→Act→World→Prop} (hgd:o.guard=none) (s x:Operand)
  (ho:o.op=.call { callee:=.builtin .append,args:=#[s,x],argTypes:=#[109,109] }) {w0:World} {s0:Option Addr} {n c0:Nat} {l:List (Nm × Nat)}
  (hs:a.eval s=.slice s0 n c0) (hL:Ln w0 w s0 n c0 l) (sp:Option Addr) (m c:Nat) (xs:List (Nm × Nat)) (hx:a.eval x=.slice sp m c) (hm:xs.length=m) (hb:Nr w sp xs)
  (h63:n+m≤1099511627776)
  (h:∀s' c' w',Ln w0 w' s' (n+m) c' (l++xs)→wpList Tryz.prog ops Q rest (a.put o.dst (.slice s' (n+m) c')) w') :
  wpList Tryz.prog ops Q (o :: rest) a w:=by
 obtain⟨i0,hi,hz0,hz1,hz2⟩:=info_parts Tryz.infoNm
 by_cases h0:m=0
 ·subst h0
  have hxs:xs=[]:=List.eq_nil_of_length_eq_zero hm
  subst hxs
  refine C.wpList_append_zero hgd s x 109 ho 183 i0 Tryz.underlying109 hi s0 n c0 hL.le hs sp c hx ?_
  exact h _ _ w (by simpa using hL)
 ·rcases hb.lie with h' | ⟨g,o',rfl,hg,hc⟩
  ·subst h';simp at hm;omega
  ·refine wpList_append_lies _ hgd s x 109 ho w0.heap.size 183 i0 _ 2 24 Tryz.underlying109 hi hz0 hz1 hz2 rfl (by omega) _ n (nvs l) hs hL.own ⟨g,o',none⟩ m c (nvs xs) hx (by rw[nvs_len,hm]) (fun j u hu=>by
    have e:(⟨g,o',none⟩:Addr).add j=⟨g,o'+j,none⟩:=by unfold Addr.add;split <;> simp_all
    rw[e];exact hc j u hu) (nvs_one xs) (by omega) (by unfold maxLen;omega) (by omega) hL.bel.size _ rfl ?_
   intro g' cap w' h1 h2 _ _
   exact h _ _ w' ⟨by rw[List.length_append,hL.len,hm],by rw[nvs_app];exact h1,hL.bel.grown h2 hL.bel.size (fun _ e=>owns_bs2 hL.own e)⟩
theorem one_nr (w:World) (p:Nm × Nat):Nr (w.alloc (.cells #[.string ⟨p.1.toArray⟩,.int .i64 (p.2:Int)] 183)) (some ⟨w.heap.size,0,none⟩) [p]:=by
 have hb:(w.alloc (.cells #[.string ⟨p.1.toArray⟩,.int .i64 (p.2:Int)] 183)).heap[w.heap.size]?=some (.cells #[.string ⟨p.1.toArray⟩,.int .i64 (p.2:Int)] 183 (0,0)):=heap_alloc_new _ _
 refine⟨Or.inr ⟨_,0,rfl,lt_of_block hb,fun j u hu=>?_⟩⟩
 have e:nvs [p]=[.string ⟨p.1.toArray⟩,.int .i64 (p.2:Int)]:=rfl
 rw[e]at hu
 simp only[World.cell?,hb,Nat.zero_add]
 simpa using hu
set_option maxHeartbeats 1000000 in
theorem without_any (w:World) (sp:Option Addr) (n c:Nat) (l:List (Nm × Nat)) (hn:l.length=n) (hnl:n≤1099511627776) (hl:Nr w sp l) (x:Nm) :
  Calls Tryz.prog 158 #[.slice sp n c,.string ⟨x.toArray⟩] w fun e w'=>∃sp' c',e=.returned (.slice sp' (delN x l).length c')∧Ln w w' sp' (delN x l).length c' (delN x l):=by
 have HL:=hide hl
 have HN:=hide hn
 clear hl hn
 go_enter Tryz.func158,Tryz.ntmps158
 go_wp2
 go_loopw [5,6] (fun m i wr=>∃(j k c:Nat) (sp':Option Addr),j≤n∧k≤j∧i=.int .i64 (j:Int)∧m=.slice sp' k c∧Hid (Ln w wr sp' k c (delN x (l.take j)))) (fun _ i _=>n - (intOf i).toNat)
 case atStart=>exact⟨0,0,0,none,Nat.zero_le _,Nat.zero_le _,rfl,rfl,hide (by simpa[delN] using ln_nil w)⟩
 case round =>
  obtain⟨j,k,c1,sp1,hj,hk,rfl,rfl,HM⟩:=hrel
  by_cases hlt:j<n
  ·have i1:(0:Int)≤(j:Int):=by omega
   have i2:(j:Int)<(n:Int):=by omega
   obtain⟨p,hp⟩:∃p,l[j]?=some p:=⟨_,List.getElem?_eq_getElem (by rw[HN.out];exact hlt)⟩
   obtain⟨g,o,e1,hg,q0,q1⟩:=(HL.out.below HM.out.bel).at hp
   have HTk:=hide (take_snoc' l j p hp)
   have HLp:=hide HL.out
   subst e1
   clear HL hp
   by_cases hx:p.1=x
   ·have hse:(p.1 == x)=true:=by simpa using hx
    have hsn:(p.1 != x)=false:=by simpa using hx
    have HM2:Hid (Ln w wr sp1 k c1 (delN x (l.take (j+1)))):=by
     show Ln _ _ _ _ _ _
     rw[HTk.out]
     unfold delN
     rw[List.filter_append]
     simp only[List.filter_cons,hse,Bool.not_true,List.filter_nil,Bool.false_eq_true,if_false,List.append_nil]
     exact HM.out
    clear hx
    go_wp2
    go_roundw
    case rel=>exact⟨j+1,k,c1,sp1,by omega,by omega,by go_num,rfl,HM2⟩
    case measure=>simp[intOf];omega
   ·have hse:(p.1 == x)=false:=by simpa using hx
    have hsn:(p.1 != x)=true:=by simpa using hx
    have HDe:Hid (delN x (l.take (j+1))=delN x (l.take j)++[p]):=by
     show _=_
     rw[HTk.out]
     unfold delN
     rw[List.filter_append]
     simp only[List.filter_cons,hse,Bool.not_false,List.filter_nil,if_true]
    clear hx
    go_wp2_with (at_builtin;refine wpList_append_names rfl (.tmp 20) (.tmp 25) rfl rfl (HM.out.below ((Below.refl _ _).alloc (Nat.le_refl _) _)) _ 1 1 [p] rfl rfl (one_nr wr p) (by omega) ?_;intro s' c' w' hl';have HM2:=hide hl';clear hl')
    go_roundw
    case rel=>exact⟨j+1,k+1,c',s',by omega,by omega,by go_num,rfl,by rw[HDe.out];exact HM2⟩
    case measure=>simp[intOf];omega
  ·have i2:¬(j:Int)<(n:Int):=by omega
   have HM2:Hid (Ln w wr sp1 k c1 (delN x l)):=by
    have:=HM.out
    rw[List.take_of_length_le (by rw[HN.out];omega)]at this
    exact this
   go_wp2
   go_ret
   have e:=HM2.out.len
   exact⟨sp1,c1,by rw[e];rfl,by rw[e];exact HM2.out⟩
theorem ins_at (x:Nm × Nat):∀(l:List (Nm × Nat)) (k:Nat),(∀p∈l,p.1≠x.1)→k≤l.length→(∀(j:Nat) (p:Nm × Nat),j<k→l[j]?=some p→bytesBefore p.1 x.1=true)→(∀p,l[k]?=some p→bytesBefore p.1 x.1=false)→insN x l=l.take k++[x]++l.drop k
 | [],k,_,hk,_,_=>by simp at hk;subst hk;rfl
 | p :: l,0,hne,_,_,h2=>by
  have h3:=before_total (h2 p rfl) (hne p (by simp))
  simp[insN,h3]
 | p :: l,k+1,hne,hk,h1,h2=>by
  have h0:=before_asymm (h1 0 p (by omega) rfl)
  have ih:=ins_at x l k (fun q hq=>hne q (List.mem_cons_of_mem _ hq)) (by simpa using hk) (fun j q hj hq=>h1 (j+1) q (by omega) (by simpa using hq)) (fun q hq=>h2 q (by simpa using hq))
  simp[insN,h0,ih]
theorem Ln.base {w w0 w':World} {sp:Option Addr} {n c:Nat} {l:List (Nm × Nat)} (h:Ln w0 w' sp n c l) (hb:Below w.heap.size w w0):Ln w w' sp n c l :=
 ⟨h.len,⟨h.own.1,h.own.2.imp id fun ⟨g,cap,cur,e1,e2,r⟩=>⟨g,cap,cur,e1,Nat.le_trans hb.size e2,r⟩⟩,hb.trans (h.bel.mono hb.size)⟩
theorem box_cells {w:World} {b:Nat} {x y:Value} {t:TypeId} {fr:Nat × Nat} (h:w.heap[b]?=some (.cells #[x,y] t fr)):w.cell? ⟨b,0,none⟩=some x∧w.cell? ⟨b,1,none⟩=some y:=by
 constructor
 ·unfold World.cell?;rw[h];rfl
 ·unfold World.cell?;rw[h];rfl
set_option maxHeartbeats 1000000 in
theorem rwith_any (w:World) (sp:Option Addr) (n c:Nat) (l:List (Nm × Nat)) (hn:l.length=n) (hnl:n≤549755813888) (hl:Nr w sp l) (x:Nm) (v:Nat) :
  Calls Tryz.prog 159 #[.slice sp n c,.agg #[.string ⟨x.toArray⟩,.int .i64 (v:Int)]] w fun e w'=>∃sp' c',e=.returned (.slice sp' (putN x v l).length c')∧Ln w w' sp' (putN x v l).length c' (putN x v l):=by
 have hB0:Below w.heap.size w (w.alloc (.cells #[.string ⟨x.toArray⟩,.int .i64 (v:Int)] 183)):=(Below.refl _ _).alloc (Nat.le_refl _) _
 have hX0:(w.alloc (.cells #[.string ⟨x.toArray⟩,.int .i64 (v:Int)] 183)).heap[w.heap.size]?=some (.cells #[.string ⟨x.toArray⟩,.int .i64 (v:Int)] 183 (0,0)):=heap_alloc_new _ _
 have HW:=hide (without_any _ sp n c l hn (by omega) (hl.below hB0) x)
 have hdl:(delN x l).length≤n:=by rw[←hn];exact len_del x l
 have HNe:Hid (∀p∈delN x l,p.1≠x):=fun p hp=>(mem_del.1 hp).2
 have HPe:Hid (putN x v l=insN (x,v) (delN x l)):=rfl
 have HB0:=hide hB0
 have HX0:=hide hX0
 have x0:(w.alloc (.cells #[.string ⟨x.toArray⟩,.int .i64 (v:Int)] 183)).cell? ⟨w.heap.size,0,none⟩=some (.string ⟨x.toArray⟩):=by unfold World.cell?;rw[hX0];rfl
 generalize putN x v l=L at *
 generalize delN x l=dl at *
 clear hl hn hB0 hX0
 go_enter Tryz.func159,Tryz.ntmps159
 go_wp2_with fail
 generalize w.alloc (.cells #[.string ⟨x.toArray⟩,.int .i64 (v:Int)] 183)=w0 at *
 refine HW.out.mono ?_
 rintro e w1 ⟨s1,c1,rfl,hl1⟩
 have HL1:=hide hl1
 obtain⟨m,hm⟩:∃m,dl.length=m:=⟨_,rfl⟩
 rw[hm]at HL1 hdl
 rw[hm]
 have HM:=hide hm
 have hc1:=HL1.out.le
 have HX1:Hid (w1.heap[w.heap.size]?=some (.cells #[.string ⟨x.toArray⟩,.int .i64 (v:Int)] 183 (0,0))):=(HL1.out.bel.block _ (lt_of_block HX0.out)).trans HX0.out
 have HB1:=hide (HB0.out.trans (HL1.out.bel.mono HB0.out.size))
 clear hl1 hm HW HX0 HB0 x0
 go_wp2
 go_loopw [6] (fun i wr=>∃(k:Nat),k≤m∧i=.int .i64 (k:Int)∧Hid (∃q,wr=w1.drewN q)∧Hid (∀(j:Nat) (p:Nm × Nat),j<k→dl[j]?=some p→bytesBefore p.1 x=true)) (fun i _=>m - (intOf i).toNat)
 case atStart=>exact⟨0,Nat.zero_le _,rfl,hide ⟨0,rfl⟩,hide (fun j p hj=>by omega)⟩
 case round =>
  obtain⟨k,hk,rfl,HQ,HBf⟩:=hrel
  obtain⟨q,hq⟩:=HQ.out
  have HL2:Hid (Ln w0 wr s1 m c1 dl):=by rw[hq];exact HL1.out.below (below_drewN (Below.refl _ _) q)
  have HX2:Hid (wr.heap[w.heap.size]?=some (.cells #[.string ⟨x.toArray⟩,.int .i64 (v:Int)] 183 (0,0))):=by rw[hq];exact HX1.out
  have HBw:Hid (Below w.heap.size w wr):=by rw[hq];exact below_drewN HB1.out q
  have HWq:=hide hq
  have hx2:=HX2.out
  have z0:wr.cell? ⟨w.heap.size,0,none⟩=some (.string ⟨x.toArray⟩):=by simp[World.cell?,hx2]
  have z1:wr.cell? ⟨w.heap.size,1,none⟩=some (.int .i64 (v:Int)):=by simp[World.cell?,hx2]
  clear hq HQ hx2
  by_cases hlt:k<m
  ·have i1:(0:Int)≤(k:Int):=by omega
   have i2:(k:Int)<(m:Int):=by omega
   obtain⟨p,hp⟩:∃p,dl[k]?=some p:=⟨_,List.getElem?_eq_getElem (by rw[HM.out];exact hlt)⟩
   obtain⟨g,o,e1,hg,q0,q1⟩:=HL2.out.nr.at hp
   have HP:=hide hp
   subst e1
   have hless:Op.bytesLess (⟨p.1.toArray⟩:ByteArray).toList (⟨x.toArray⟩:ByteArray).toList=bytesBefore p.1 x:=by
    rw[less_eq]
    simp
   have hless2:Op.bytesLess p.1 x=bytesBefore p.1 x:=less_eq _ _
   clear hp
   cases hbb:bytesBefore p.1 x with
   | true =>
    have HBf2:Hid (∀(j:Nat) (p:Nm × Nat),j<k+1→dl[j]?=some p→bytesBefore p.1 x=true):=fun j p' hj hp'=>by
     by_cases e:j=k
     ·subst e;rw[HP.out]at hp';cases hp';exact hbb
     ·exact HBf.out j p' (by omega) hp'
    rw[hbb]at hless hless2
    clear hbb
    go_wp2
    go_quiet (fail)
    go_wp2
    go_roundw
    case rel=>exact⟨k+1,by omega,by go_num,hide (by rw[HWq.out];exact⟨q+nq,by rw[World.drewN_drewN]⟩),HBf2⟩
    case measure=>simp[intOf];omega
   | false =>
    have HIn:Hid (L=dl.take k++[(x,v)]++dl.drop k):=by
     show _=_
     rw[HPe.out]
     exact ins_at (x,v) dl k HNe.out (by rw[HM.out];omega) HBf.out (fun p' hp'=>by rw[HP.out]at hp';cases hp';exact hbb)
    rw[hbb]at hless hless2
    clear hbb
    go_wp2
    go_quiet (fail)
    have HWn:Hid (Below wr.heap.size wr (wr.drewN nq)):=below_drewN (Below.refl _ _) nq
    generalize wr.drewN nq=wq at *
    have HL3:Hid (Ln w0 wq (some ⟨g,o,none⟩) m c1 dl):=HL2.out.below HWn.out
    have HX3:Hid (wq.heap[w.heap.size]?=some (.cells #[.string ⟨x.toArray⟩,.int .i64 (v:Int)] 183 (0,0))):=(HWn.out.block _ (lt_of_block HX2.out)).trans HX2.out
    have HB3:Hid (Below w.heap.size w wq):=HBw.out.trans (HWn.out.mono HBw.out.size)
    have HTl:Hid ((dl.take k).length=k):=by show _=_;rw[List.length_take,HM.out];omega
    have HDl:Hid ((dl.drop k).length=m - k):=by show _=_;rw[List.length_drop,HM.out]
    clear z0 z1 q0 q1 hless hless2
    go_wp2_with (first
     | (at_builtin;refine wpList_append_names rfl (.tmp 27) (.tmp 30) rfl rfl (ln_nil wq) _ k _ (dl.take k) rfl HTl.out (HL3.out.nr.take k) (by omega) ?_;intro s4 c4 w4 h4;rw[Nat.zero_add,List.nil_append]at h4;have HM4:=hide h4;have HX4:=hide ((h4.bel.block _ (lt_of_block HX3.out)).trans HX3.out);obtain⟨y0,y1⟩:=box_cells HX4.out;clear h4)
     | (at_builtin;refine wpList_append_names rfl (.tmp 32) (.tmp 34) rfl rfl (HM4.out.below ((Below.refl _ _).alloc (Nat.le_refl _) _)) _ 1 1 [(x,v)] rfl rfl (one_nr w4 (x,v)) (by omega) ?_;intro s5 c5 w5 h5;have HM5:=hide h5;clear h5)
     | (at_builtin;refine wpList_append_names rfl (.tmp 36) (.tmp 39) rfl rfl HM5.out _ (m - k) _ (dl.drop k) rfl HDl.out ((HL3.out.nr.drop k).below HM5.out.bel) (by omega) ?_;intro s6 c6 w6 h6;have HM6:=hide h6;clear h6))
    go_ret
    have e:=HM6.out.len
    rw[←HIn.out]at e
    have h6:=HM6.out.base HB3.out
    rw[←HIn.out]at h6
    exact⟨s6,c6,by rw[e];rfl,by rw[e];exact h6⟩
  ·have i2:¬(k:Int)<(m:Int):=by omega
   have ek:k=m:=by omega
   have HIn:Hid (L=dl.take k++[(x,v)]++dl.drop k):=by
    show _=_
    rw[HPe.out]
    exact ins_at (x,v) dl k HNe.out (by rw[HM.out];omega) HBf.out (fun p' hp'=>by rw[List.getElem?_eq_none (by rw[HM.out];omega)]at hp';cases hp')
   have i3:(0:Int)≤(k:Int):=by omega
   have i4:(k:Int)≤(m:Int):=by omega
   have i5:(k:Int)≤(c1:Int):=by omega
   rcases HL2.out.own.2 with ⟨e1,e2⟩ | ⟨g,cap,cur,e1,_⟩
   ·cases e1
    subst ek
    clear i2 i3 i4 i5
    go_wp2
    go_quiet (fail)
    have HWn:Hid (Below wr.heap.size wr (wr.drewN nq)):=below_drewN (Below.refl _ _) nq
    generalize wr.drewN nq=wq at *
    have HL3:Hid (Ln w0 wq none 0 0 dl):=HL2.out.below HWn.out
    have HX3:Hid (wq.heap[w.heap.size]?=some (.cells #[.string ⟨x.toArray⟩,.int .i64 (v:Int)] 183 (0,0))):=(HWn.out.block _ (lt_of_block HX2.out)).trans HX2.out
    have HB3:Hid (Below w.heap.size w wq):=HBw.out.trans (HWn.out.mono HBw.out.size)
    have HTl:Hid ((dl.take 0).length=0):=by show _=_;rw[List.length_take,HM.out];omega
    have HDl:Hid ((dl.drop 0).length=0):=by show _=_;rw[List.length_drop,HM.out]
    clear z0 z1
    go_wp2_with (first
     | (at_builtin;refine wpList_append_names rfl (.tmp 27) (.tmp 30) rfl rfl (ln_nil wq) _ 0 _ (dl.take 0) rfl HTl.out (HL3.out.nr.take 0) (by omega) ?_;intro s4 c4 w4 h4;rw[Nat.zero_add,List.nil_append]at h4;have HM4:=hide h4;have HX4:=hide ((h4.bel.block _ (lt_of_block HX3.out)).trans HX3.out);obtain⟨y0,y1⟩:=box_cells HX4.out;clear h4)
     | (at_builtin;refine wpList_append_names rfl (.tmp 32) (.tmp 34) rfl rfl (HM4.out.below ((Below.refl _ _).alloc (Nat.le_refl _) _)) _ 1 1 [(x,v)] rfl rfl (one_nr w4 (x,v)) (by omega) ?_;intro s5 c5 w5 h5;have HM5:=hide h5;clear h5)
     | (at_builtin;refine wpList_append_names rfl (.tmp 36) (.tmp 39) rfl rfl HM5.out _ 0 _ (dl.drop 0) rfl HDl.out ⟨Or.inl (List.eq_nil_of_length_eq_zero HDl.out)⟩ (by omega) ?_;intro s6 c6 w6 h6;have HM6:=hide h6;clear h6))
    go_ret
    have e:=HM6.out.len
    rw[←HIn.out]at e
    have h6:=HM6.out.base HB3.out
    rw[←HIn.out]at h6
    exact⟨s6,c6,by rw[e];rfl,by rw[e];exact h6⟩
   ·cases e1
    subst ek
    by_cases hcc:c1=k
    ·subst hcc
     go_wp2
     go_quiet (fail)
     have HWn:Hid (Below wr.heap.size wr (wr.drewN nq)):=below_drewN (Below.refl _ _) nq
     generalize wr.drewN nq=wq at *
     have HL3:Hid (Ln w0 wq (some ⟨g,0,none⟩) c1 c1 dl):=HL2.out.below HWn.out
     have HX3:Hid (wq.heap[w.heap.size]?=some (.cells #[.string ⟨x.toArray⟩,.int .i64 (v:Int)] 183 (0,0))):=(HWn.out.block _ (lt_of_block HX2.out)).trans HX2.out
     have HB3:Hid (Below w.heap.size w wq):=HBw.out.trans (HWn.out.mono HBw.out.size)
     have HTl:Hid ((dl.take c1).length=c1):=by show _=_;rw[List.length_take,HM.out];omega
     have HDl:Hid ((dl.drop c1).length=0):=by show _=_;rw[List.length_drop,HM.out];omega
     clear z0 z1
     go_wp2_with (first
      | (at_builtin;refine wpList_append_names rfl (.tmp 27) (.tmp 30) rfl rfl (ln_nil wq) _ c1 _ (dl.take c1) rfl HTl.out (HL3.out.nr.take c1) (by omega) ?_;intro s4 c4 w4 h4;rw[Nat.zero_add,List.nil_append]at h4;have HM4:=hide h4;have HX4:=hide ((h4.bel.block _ (lt_of_block HX3.out)).trans HX3.out);obtain⟨y0,y1⟩:=box_cells HX4.out;clear h4)
      | (at_builtin;refine wpList_append_names rfl (.tmp 32) (.tmp 34) rfl rfl (HM4.out.below ((Below.refl _ _).alloc (Nat.le_refl _) _)) _ 1 1 [(x,v)] rfl rfl (one_nr w4 (x,v)) (by omega) ?_;intro s5 c5 w5 h5;have HM5:=hide h5;clear h5)
      | (at_builtin;refine wpList_append_names rfl (.tmp 36) (.tmp 39) rfl rfl HM5.out _ 0 _ (dl.drop c1) rfl HDl.out ⟨Or.inl (List.eq_nil_of_length_eq_zero HDl.out)⟩ (by omega) ?_;intro s6 c6 w6 h6;have HM6:=hide h6;clear h6))
     go_ret
     have e:=HM6.out.len
     rw[←HIn.out]at e
     have h6:=HM6.out.base HB3.out
     rw[←HIn.out]at h6
     exact⟨s6,c6,by rw[e];rfl,by rw[e];exact h6⟩
    ·go_wp2
     go_quiet (fail)
     have HWn:Hid (Below wr.heap.size wr (wr.drewN nq)):=below_drewN (Below.refl _ _) nq
     generalize wr.drewN nq=wq at *
     have HL3:Hid (Ln w0 wq (some ⟨g,0,none⟩) k c1 dl):=HL2.out.below HWn.out
     have HX3:Hid (wq.heap[w.heap.size]?=some (.cells #[.string ⟨x.toArray⟩,.int .i64 (v:Int)] 183 (0,0))):=(HWn.out.block _ (lt_of_block HX2.out)).trans HX2.out
     have HB3:Hid (Below w.heap.size w wq):=HBw.out.trans (HWn.out.mono HBw.out.size)
     have HTl:Hid ((dl.take k).length=k):=by show _=_;rw[List.length_take,HM.out];omega
     have HDl:Hid ((dl.drop k).length=0):=by show _=_;rw[List.length_drop,HM.out];omega
     clear z0 z1
     go_wp2_with (first
      | (at_builtin;refine wpList_append_names rfl (.tmp 27) (.tmp 30) rfl rfl (ln_nil wq) _ k _ (dl.take k) rfl HTl.out (HL3.out.nr.take k) (by omega) ?_;intro s4 c4 w4 h4;rw[Nat.zero_add,List.nil_append]at h4;have HM4:=hide h4;have HX4:=hide ((h4.bel.block _ (lt_of_block HX3.out)).trans HX3.out);obtain⟨y0,y1⟩:=box_cells HX4.out;clear h4)
      | (at_builtin;refine wpList_append_names rfl (.tmp 32) (.tmp 34) rfl rfl (HM4.out.below ((Below.refl _ _).alloc (Nat.le_refl _) _)) _ 1 1 [(x,v)] rfl rfl (one_nr w4 (x,v)) (by omega) ?_;intro s5 c5 w5 h5;have HM5:=hide h5;clear h5)
      | (at_builtin;refine wpList_append_names rfl (.tmp 36) (.tmp 39) rfl rfl HM5.out _ 0 _ (dl.drop k) rfl HDl.out ⟨Or.inl (List.eq_nil_of_length_eq_zero HDl.out)⟩ (by omega) ?_;intro s6 c6 w6 h6;have HM6:=hide h6;clear h6))
     go_ret
     have e:=HM6.out.len
     rw[←HIn.out]at e
     have h6:=HM6.out.base HB3.out
     rw[←HIn.out]at h6
     exact⟨s6,c6,by rw[e];rfl,by rw[e];exact h6⟩
def uv (u:Int):List Value:=if u<0 then [.bool true,.int .u8 0,.int .i64 (-1 - u)] else [.bool false,.int .u8 u,.int .i64 0]
theorem uv_len (u:Int):(uv u).length=3:=by unfold uv;split <;> rfl
def uvs (l:List Int):List Value:=l.flatMap uv
def cv4 (c:Chg):List Value:=if c.frm=[] then [.int .u8 77,.string ⟨c.to.toArray⟩,.string ⟨#[]⟩,.int .i64 (c.file:Int)] else if c.to=[] then [.int .u8 71,.string ⟨c.frm.toArray⟩,.string ⟨#[]⟩,.int .i64 0] else [.int .u8 82,.string ⟨c.frm.toArray⟩,.string ⟨c.to.toArray⟩,.int .i64 (c.file:Int)]
theorem cv4_len (c:Chg):(cv4 c).length=4:=by unfold cv4;split;rfl;split <;> rfl
def cvs (l:List Chg):List Value:=l.flatMap cv4
def fvs (l:List (Value × Value)):List Value:=l.flatMap fun p=>[p.1,p.2]
def tcells (S:St) (fv sv cv:Value):Array Value:=#[.int .i64 (S.room:Int),.bool S.off,fv,sv,cv,.int .i64 (S.strokes:Int),.int .i64 (S.planned:Int),.int .i64 S.pOff,.int .i64 S.pFrom,.int .i64 S.pTo]
structure Tm (w:World) (K:Knd) (o d:Nat) (fv sv cv:Value) (fs:List (Value × Value)) (S:St):Prop where
 blk:w.heap[d]?=some (.cells (tcells S fv sv cv) 112 (0,0))
 kd:K d=(o,1)
 flen:fs.length=S.files.length
 files:Rk w K (o,2) 141 2 fv S.files.length (fvs fs)
 file:∀(i:Nat) (f:Fil) (p:Value × Value),S.files[i]?=some f→fs[i]?=some p→Rk w K (o,10+2*i) 5 1 p.1 f.safe.length (vals f.safe)∧Rk w K (o,11+2*i) 145 3 p.2 f.units.length (uvs f.units)
 sure:Rk w K (o,3) 183 2 sv S.safe.length (nvs S.safe)
 chgs:Rk w K (o,4) 143 4 cv S.chg.length (cvs S.chg)
 real:∀c∈S.chg,c.frm≠[]∨c.to≠[]
def Tk (w:World) (K:Knd) (o d:Nat) (S:St):Prop:=∃fv sv cv fs,Tm w K o d fv sv cv fs S
theorem Tm.kept {p:Nat × Nat→Prop} {K K':Knd} {w w':World} {o d:Nat} {fv sv cv:Value} {fs:List (Value × Value)} {S:St} (h:Tm w K o d fv sv cv fs S) (hk:Kp p K K' w w') (hp:∀k,¬p (o,k)):Tm w' K' o d fv sv cv fs S:=by
 have hl:=lt_of_block h.blk
 exact⟨(hk.block d hl (by rw[h.kd];exact hp _)).trans h.blk,(hk.same d hl).trans h.kd,h.flen,h.files.kept hk (hp _),fun i f q h1 h2=>⟨(h.file i f q h1 h2).1.kept hk (hp _),(h.file i f q h1 h2).2.kept hk (hp _)⟩,h.sure.kept hk (hp _),h.chgs.kept hk (hp _),h.real⟩
theorem Tk.kept {p:Nat × Nat→Prop} {K K':Knd} {w w':World} {o d:Nat} {S:St} (h:Tk w K o d S) (hk:Kp p K K' w w') (hp:∀k,¬p (o,k)):Tk w' K' o d S:=by
 obtain⟨fv,sv,cv,fs,hm⟩:=h
 exact⟨fv,sv,cv,fs,hm.kept hk hp⟩
theorem rk_cells {w:World} {K:Knd} {k:Nat × Nat} {e:TypeId} {s n:Nat} {a:Option Addr} {c:Nat} {xs:List Value} (h:Rk w K k e s (.slice a n c) n xs) (hx:xs.length=n*s):xs=[]∨∃g,a=some ⟨g,0,none⟩∧K g=k∧g<w.heap.size∧∀(j:Nat) (u:Value),xs[j]?=some u→w.cell? ⟨g,j,none⟩=some u:=by
 rcases h.own.2 with ⟨h1,h2⟩ | ⟨g,cap,cur,h1,h2,hg,h3,h4,h5,h6⟩
 ·left
  exact List.eq_nil_of_length_eq_zero (by rw[hx,h2,Nat.zero_mul])
 ·cases h1
  refine Or.inr ⟨g,rfl,h.kind g rfl,lt_of_block hg,fun j u hu=>?_⟩
  have hj:j<n*s:=by have:=(List.getElem?_eq_some_iff.1 hu).1;omega
  rw[←h6,List.getElem?_take,if_pos hj]at hu
  simp only[World.cell?,hg]
  simpa using hu
theorem rk_nr {w:World} {K:Knd} {k:Nat × Nat} {n:Nat} {a:Option Addr} {c:Nat} {l:List (Nm × Nat)} (hl:l.length=n) (h:Rk w K k 183 2 (.slice a n c) n (nvs l)):Nr w a l:=by
 rcases rk_cells h (by rw[nvs_len,hl]) with e | ⟨g,rfl,_,hg,hc⟩
 ·exact⟨Or.inl (List.eq_nil_of_length_eq_zero (by have:=nvs_len l;rw[e]at this;simp at this;omega))⟩
 ·exact⟨Or.inr ⟨g,0,rfl,hg,fun j u hu=>by rw[Nat.zero_add];exact hc j u hu⟩⟩
theorem ln_rk {w w0 w':World} {K:Knd} {o:Nat × Nat} {sp:Option Addr} {n c:Nat} {l:List (Nm × Nat)} (h:Ln w0 w' sp n c l) (hb:w.heap.size≤w0.heap.size):Rk w' (ext K w.heap.size o) o 183 2 (.slice sp n c) n (nvs l) :=
 ⟨⟨h.own.1,h.own.2.imp id fun ⟨g,cap,cur,e1,_,r⟩=>⟨g,cap,cur,e1,Nat.zero_le _,r⟩⟩,fun _ e=>ext_new _ _ (Nat.le_trans hb (owns_bs2 h.own e))⟩
theorem del_nil {l:List (Nm × Nat)} (h:∀p∈l,p.1≠[]):delN [] l=l:=by
 unfold delN
 rw[List.filter_eq_self]
 intro p hp
 have:=h p hp
 simpa using this
theorem fold_real {l:List (Nm × Nat)} (h:∀p∈l,p.1≠[]):∀(cs:List Chg),∀p∈cs.foldl withN l,p.1≠[]:=by
 intro cs
 induction cs generalizing l with
 | nil=>exact h
 | cons c cs ih =>
  refine ih (l:=withN l c) ?_
  intro p hp
  unfold withN at hp
  split at hp
  ·exact h p (mem_del.1 hp).1
  ·rename_i hne
   rcases mem_put.1 hp with rfl | ⟨h1,_⟩
   ·exact hne
   ·exact h p (mem_del.1 h1).1
theorem fold_len (l:List (Nm × Nat)):∀(cs:List Chg),(cs.foldl withN l).length≤l.length+cs.length:=by
 intro cs
 induction cs generalizing l with
 | nil=>simp
 | cons c cs ih =>
  have h1:=ih (withN l c)
  have h2:(withN l c).length≤l.length+1:=by
   unfold withN
   split
   ·have:=len_del c.frm l;omega
   ·unfold putN
    rw[len_ins]
    have:=len_del c.to (delN c.frm l)
    have:=len_del c.frm l
    omega
  simp only[List.foldl_cons,List.length_cons]
  omega
theorem blk4 {w:World} {b:Nat} {x0 x1 x2 x3:Value} {t:TypeId} (h:w.heap[b]?=some (.cells #[x0,x1,x2,x3] t (0,0))):w.cell? ⟨b,0,none⟩=some x0∧w.cell? ⟨b,1,none⟩=some x1∧w.cell? ⟨b,2,none⟩=some x2∧w.cell? ⟨b,3,none⟩=some x3∧(∀o,w.frozen? ⟨b,o,none⟩=false) :=
 ⟨by simp[World.cell?,h],by simp[World.cell?,h],by simp[World.cell?,h],by simp[World.cell?,h],fun o=>by simp[World.frozen?,h]⟩
set_option maxHeartbeats 1000000 in
theorem names_any (w:World) (K:Knd) (o d:Nat) (S:St) (h:Tk w K o d S) (hr:∀p∈S.safe,p.1≠[]) (hb:S.safe.length+S.chg.length≤549755813888) (n:Nat) (hn:n≤S.chg.length) :
  Calls Tryz.prog 121 #[.pointer (some ⟨d,0,none⟩),.int .i64 (n:Int)] w fun e w'=>∃a c,e=.returned (.slice a ((S.chg.take n).foldl withN S.safe).length c)∧Rk w' (ext K w.heap.size (o,3)) (o,3) 183 2 (.slice a ((S.chg.take n).foldl withN S.safe).length c) ((S.chg.take n).foldl withN S.safe).length (nvs ((S.chg.take n).foldl withN S.safe))∧Below w.heap.size w w':=by
 obtain⟨fv,sv,cv,fs,hm⟩:=h
 obtain⟨a0,c0,rfl,_,_⟩:=hm.sure.form
 obtain⟨a4,c4,rfl,_,_⟩:=hm.chgs.form
 have hbl:=hm.blk
 unfold tcells at hbl
 obtain⟨q0,q1,q2,q3,q4,q5,q6,q7,q8,q9,qf⟩:=blk10 hbl
 have HM:=hide hm
 have HR:=hide hr
 have hdl:=lt_of_block hbl
 have HBl:=hide hbl
 obtain⟨nc,hnc⟩:∃nc,S.chg.length=nc:=⟨_,rfl⟩
 rw[hnc]at hn hb q4 HBl
 have HNc:=hide hnc
 obtain⟨ns,hns⟩:∃ns,S.safe.length=ns:=⟨_,rfl⟩
 rw[hns]at hb q3 HBl
 have HNs:=hide hns
 clear hm hr hbl hnc hns
 go_enter Tryz.func121,Tryz.ntmps121
 go_wp2
 go_loopw [5,6] (fun l i wr=>∃(j k c:Nat) (a:Option Addr),j≤n∧k≤ns+j∧i=.int .i64 (j:Int)∧l=.slice a k c∧Hid (((S.chg.take j).foldl withN S.safe).length=k)∧Hid (Rk wr (ext K w.heap.size (o,3)) (o,3) 183 2 (.slice a k c) k (nvs ((S.chg.take j).foldl withN S.safe)))∧Hid (Below w.heap.size w wr)) (fun _ i _=>n - (intOf i).toNat)
 case atStart=>exact⟨0,ns,c0,a0,Nat.zero_le _,by omega,rfl,rfl,hide (by simpa using HNs.out),hide (by
  have:=HM.out.sure.kept (kp_below (Below.refl w.heap.size w) (fun _=>False) K (o,3)) (fun h=>h)
  rw[HNs.out]at this
  simpa using this),hide (Below.refl _ _)⟩
 case round =>
  obtain⟨j,k,c,a,hj,hk,rfl,rfl,HK,HRk,HB⟩:=hrel
  by_cases hlt:j<n
  ·have i1:(0:Int)≤(j:Int):=by omega
   have i2:(j:Int)<(n:Int):=by omega
   have i3:(j:Int)<(nc:Int):=by omega
   obtain⟨ch,hch⟩:∃ch,S.chg[j]?=some ch:=⟨_,List.getElem?_eq_getElem (by rw[HNc.out];omega)⟩
   have hbr:=(HB.out.block d hdl).trans HBl.out
   obtain⟨q0,q1,q2,q3,q4,q5,q6,q7,q8,q9,qf⟩:=blk10 hbr
   have hcs:(cvs S.chg).length=nc*4:=by rw[←HNc.out];exact flat_len cv4 4 cv4_len _
   have hrk:=HM.out.chgs
   rw[HNc.out]at hrk
   obtain⟨g,e1,hkg,hg,hcl⟩:∃g,a4=some ⟨g,0,none⟩∧K g=(o,4)∧g<w.heap.size∧∀(j:Nat) (u:Value),(cvs S.chg)[j]?=some u→w.cell? ⟨g,j,none⟩=some u:=by
    rcases rk_cells hrk hcs with e | h
    ·rw[e]at hcs;simp at hcs;omega
    ·exact h
   subst e1
   have hcell:∀(i:Nat) (u:Value),i<4→(cv4 ch)[i]?=some u→wr.cell? ⟨g,j*4+i,none⟩=some u:=fun i u hi hu=>by
    rw[HB.out.cell (p:=⟨g,j*4+i,none⟩) hg]
    exact hcl _ _ (by unfold cvs;rw[flat_at cv4 4 cv4_len S.chg j ch hch i hi];exact hu)
   have HLn:Hid (((S.chg.take (j+1)).foldl withN S.safe).length≤ns+(j+1)):=by
    show _≤_
    have h1:=fold_len S.safe (S.chg.take (j+1))
    rw[HNs.out,List.length_take]at h1
    omega
   have HSt0:Hid ((S.chg.take (j+1)).foldl withN S.safe=withN ((S.chg.take j).foldl withN S.safe) ch):=by
    show _=_
    rw[take_snoc' S.chg j ch hch,List.foldl_append]
    rfl
   have HRe:=hide (HM.out.real ch (List.mem_of_getElem? hch))
   have HFr:=hide (fold_real HR.out (S.chg.take j))
   have HCe:=hide hcell
   clear hch hrk hcs hcl hcell hbr
   generalize (S.chg.take j).foldl withN S.safe=lst at *
   by_cases h1:ch.frm=[]
   ·have e4:cv4 ch=[.int .u8 77,.string ⟨ch.to.toArray⟩,.string ⟨#[]⟩,.int .i64 (ch.file:Int)]:=by unfold cv4;rw[if_pos h1]
    have z0:=HCe.out 0 _ (by omega) (by rw[e4];rfl)
    have z1:=HCe.out 1 _ (by omega) (by rw[e4];rfl)
    have z2:=HCe.out 2 _ (by omega) (by rw[e4];rfl)
    have z3:=HCe.out 3 _ (by omega) (by rw[e4];rfl)
    rw[Nat.add_zero]at z0
    have HSt:Hid ((S.chg.take (j+1)).foldl withN S.safe=putN ch.to ch.file lst):=by
     show _=_
     rw[HSt0.out]
     unfold withN
     rw[if_neg (by rcases HRe.out with h | h;exact absurd h1 h;exact h),h1,del_nil HFr.out]
    clear e4
    have hlb:Below wr.heap.size wr (wr.alloc (.cells #[.int .u8 77,.string ⟨ch.to.toArray⟩,.string ⟨#[]⟩,.int .i64 (ch.file:Int)] 143)):=(Below.refl _ _).alloc (Nat.le_refl _) _
    have hlx:(wr.alloc (.cells #[.int .u8 77,.string ⟨ch.to.toArray⟩,.string ⟨#[]⟩,.int .i64 (ch.file:Int)] 143)).heap[wr.heap.size]?=some (.cells #[.int .u8 77,.string ⟨ch.to.toArray⟩,.string ⟨#[]⟩,.int .i64 (ch.file:Int)] 143 (0,0)):=heap_alloc_new _ _
    have HN1:=hide ((rk_nr HK.out HRk.out).below hlb)
    have HB1:=hide (HB.out.trans (hlb.mono HB.out.size))
    have HLx:=hide hlx
    have hls:wr.heap.size<(wr.alloc (.cells #[.int .u8 77,.string ⟨ch.to.toArray⟩,.string ⟨#[]⟩,.int .i64 (ch.file:Int)] 143)).heap.size:=lt_of_block hlx
    have hwl:=HB.out.size
    clear hlb hlx HCe
    go_wp2_with fail
    generalize wr.alloc (.cells #[.int .u8 77,.string ⟨ch.to.toArray⟩,.string ⟨#[]⟩,.int .i64 (ch.file:Int)] 143)=w1 at *
    refine(rwith_any w1 a k c lst HK.out (by omega) HN1.out ch.to ch.file).mono ?_
    rintro e w2 ⟨sN,cN,rfl,hl2⟩
    obtain⟨y0,y1,y2,y3,yf⟩:=blk4 ((hl2.bel.block _ hls).trans HLx.out)
    have HL2:=hide hl2
    have HKN:Hid (((S.chg.take (j+1)).foldl withN S.safe).length=(putN ch.to ch.file lst).length):=by show _=_;rw[HSt.out]
    have HRN:Hid (Rk w2 (ext K w.heap.size (o,3)) (o,3) 183 2 (.slice sN (putN ch.to ch.file lst).length cN) (putN ch.to ch.file lst).length (nvs ((S.chg.take (j+1)).foldl withN S.safe))):=by rw[HSt.out];exact ln_rk HL2.out (by omega)
    have HBN:Hid (Below w.heap.size w w2):=HB1.out.trans (HL2.out.bel.mono HB1.out.size)
    have hkN:(putN ch.to ch.file lst).length≤ns+(j+1):=by have:=HLn.out;rw[HKN.out]at this;exact this
    clear hl2 z0 z1 z2 z3
    go_wp2
    go_roundw
    case rel=>exact⟨j+1,_,cN,sN,by omega,hkN,by go_num,rfl,HKN,HRN,HBN⟩
    case measure=>simp[intOf];omega
   by_cases h2:ch.to=[]
   ·have e4:cv4 ch=[.int .u8 71,.string ⟨ch.frm.toArray⟩,.string ⟨#[]⟩,.int .i64 0]:=by unfold cv4;rw[if_neg h1,if_pos h2]
    have z0:=HCe.out 0 _ (by omega) (by rw[e4];rfl)
    have z1:=HCe.out 1 _ (by omega) (by rw[e4];rfl)
    have z2:=HCe.out 2 _ (by omega) (by rw[e4];rfl)
    have z3:=HCe.out 3 _ (by omega) (by rw[e4];rfl)
    rw[Nat.add_zero]at z0
    have HSt:Hid ((S.chg.take (j+1)).foldl withN S.safe=delN ch.frm lst):=by
     show _=_
     rw[HSt0.out]
     unfold withN
     rw[if_pos h2]
    clear e4
    have hlb:Below wr.heap.size wr (wr.alloc (.cells #[.int .u8 71,.string ⟨ch.frm.toArray⟩,.string ⟨#[]⟩,.int .i64 0] 143)):=(Below.refl _ _).alloc (Nat.le_refl _) _
    have hlx:(wr.alloc (.cells #[.int .u8 71,.string ⟨ch.frm.toArray⟩,.string ⟨#[]⟩,.int .i64 0] 143)).heap[wr.heap.size]?=some (.cells #[.int .u8 71,.string ⟨ch.frm.toArray⟩,.string ⟨#[]⟩,.int .i64 0] 143 (0,0)):=heap_alloc_new _ _
    have HN1:=hide ((rk_nr HK.out HRk.out).below hlb)
    have HB1:=hide (HB.out.trans (hlb.mono HB.out.size))
    have HLx:=hide hlx
    have hls:wr.heap.size<(wr.alloc (.cells #[.int .u8 71,.string ⟨ch.frm.toArray⟩,.string ⟨#[]⟩,.int .i64 0] 143)).heap.size:=lt_of_block hlx
    have hwl:=HB.out.size
    clear hlb hlx HCe
    go_wp2_with fail
    generalize wr.alloc (.cells #[.int .u8 71,.string ⟨ch.frm.toArray⟩,.string ⟨#[]⟩,.int .i64 0] 143)=w1 at *
    refine(without_any w1 a k c lst HK.out (by omega) HN1.out ch.frm).mono ?_
    rintro e w2 ⟨sN,cN,rfl,hl2⟩
    obtain⟨y0,y1,y2,y3,yf⟩:=blk4 ((hl2.bel.block _ hls).trans HLx.out)
    have HL2:=hide hl2
    have HKN:Hid (((S.chg.take (j+1)).foldl withN S.safe).length=(delN ch.frm lst).length):=by show _=_;rw[HSt.out]
    have HRN:Hid (Rk w2 (ext K w.heap.size (o,3)) (o,3) 183 2 (.slice sN (delN ch.frm lst).length cN) (delN ch.frm lst).length (nvs ((S.chg.take (j+1)).foldl withN S.safe))):=by rw[HSt.out];exact ln_rk HL2.out (by omega)
    have HBN:Hid (Below w.heap.size w w2):=HB1.out.trans (HL2.out.bel.mono HB1.out.size)
    have hkN:(delN ch.frm lst).length≤ns+(j+1):=by have:=HLn.out;rw[HKN.out]at this;exact this
    clear hl2 z0 z1 z2 z3
    go_wp2
    go_roundw
    case rel=>exact⟨j+1,_,cN,sN,by omega,hkN,by go_num,rfl,HKN,HRN,HBN⟩
    case measure=>simp[intOf];omega
   ·have e4:cv4 ch=[.int .u8 82,.string ⟨ch.frm.toArray⟩,.string ⟨ch.to.toArray⟩,.int .i64 (ch.file:Int)]:=by unfold cv4;rw[if_neg h1,if_neg h2]
    have z0:=HCe.out 0 _ (by omega) (by rw[e4];rfl)
    have z1:=HCe.out 1 _ (by omega) (by rw[e4];rfl)
    have z2:=HCe.out 2 _ (by omega) (by rw[e4];rfl)
    have z3:=HCe.out 3 _ (by omega) (by rw[e4];rfl)
    rw[Nat.add_zero]at z0
    have HSt:Hid ((S.chg.take (j+1)).foldl withN S.safe=putN ch.to ch.file (delN ch.frm lst)):=by
     show _=_
     rw[HSt0.out]
     unfold withN
     rw[if_neg h2]
    clear e4
    have hlb:Below wr.heap.size wr (wr.alloc (.cells #[.int .u8 82,.string ⟨ch.frm.toArray⟩,.string ⟨ch.to.toArray⟩,.int .i64 (ch.file:Int)] 143)):=(Below.refl _ _).alloc (Nat.le_refl _) _
    have hlx:(wr.alloc (.cells #[.int .u8 82,.string ⟨ch.frm.toArray⟩,.string ⟨ch.to.toArray⟩,.int .i64 (ch.file:Int)] 143)).heap[wr.heap.size]?=some (.cells #[.int .u8 82,.string ⟨ch.frm.toArray⟩,.string ⟨ch.to.toArray⟩,.int .i64 (ch.file:Int)] 143 (0,0)):=heap_alloc_new _ _
    have HN1:=hide ((rk_nr HK.out HRk.out).below hlb)
    have HB1:=hide (HB.out.trans (hlb.mono HB.out.size))
    have HLx:=hide hlx
    have hls:wr.heap.size<(wr.alloc (.cells #[.int .u8 82,.string ⟨ch.frm.toArray⟩,.string ⟨ch.to.toArray⟩,.int .i64 (ch.file:Int)] 143)).heap.size:=lt_of_block hlx
    have hwl:=HB.out.size
    clear hlb hlx HCe
    go_wp2_with fail
    generalize wr.alloc (.cells #[.int .u8 82,.string ⟨ch.frm.toArray⟩,.string ⟨ch.to.toArray⟩,.int .i64 (ch.file:Int)] 143)=w1 at *
    refine(without_any w1 a k c lst HK.out (by omega) HN1.out ch.frm).mono ?_
    rintro e w2 ⟨s2,c2,rfl,hl2⟩
    obtain⟨y0,y1,y2,y3,yf⟩:=blk4 ((hl2.bel.block _ hls).trans HLx.out)
    have HLx2:=hide ((hl2.bel.block _ hls).trans HLx.out)
    have HL2:=hide hl2
    have hdl2:(delN ch.frm lst).length≤k:=by rw[←HK.out];exact len_del _ _
    have HB2:=hide (HB1.out.trans (HL2.out.bel.mono HB1.out.size))
    have hw2:=hl2.bel.size
    have HWi:=hide (rwith_any w2 s2 (delN ch.frm lst).length c2 (delN ch.frm lst) rfl (by omega) hl2.nr ch.to ch.file)
    clear hl2 z0 z1 z2 z3
    generalize hD:delN ch.frm lst=dl at *
    obtain⟨dn,hdn⟩:∃dn,dl.length=dn:=⟨_,rfl⟩
    rw[hdn]at HWi HL2
    rw[hdn]
    clear hD
    go_wp2_with fail
    refine HWi.out.mono ?_
    rintro e w3 ⟨sN,cN,rfl,hl3⟩
    obtain⟨x0,x1,x2,x3,xf⟩:=blk4 ((hl3.bel.block _ (by omega)).trans HLx2.out)
    have HL3:=hide hl3
    have HKN:Hid (((S.chg.take (j+1)).foldl withN S.safe).length=(putN ch.to ch.file dl).length):=by show _=_;rw[HSt.out]
    have HRN:Hid (Rk w3 (ext K w.heap.size (o,3)) (o,3) 183 2 (.slice sN (putN ch.to ch.file dl).length cN) (putN ch.to ch.file dl).length (nvs ((S.chg.take (j+1)).foldl withN S.safe))):=by rw[HSt.out];exact ln_rk HL3.out (by omega)
    have HBN:Hid (Below w.heap.size w w3):=HB2.out.trans (HL3.out.bel.mono HB2.out.size)
    have hkN:(putN ch.to ch.file dl).length≤ns+(j+1):=by have:=HLn.out;rw[HKN.out]at this;exact this
    clear hl3 y0 y1 y2 y3
    go_wp2
    go_roundw
    case rel=>exact⟨j+1,_,cN,sN,by omega,hkN,by go_num,rfl,HKN,HRN,HBN⟩
    case measure=>simp[intOf];omega
  ·have i2:¬(j:Int)<(n:Int):=by omega
   obtain rfl:j=n:=by omega
   have e:=HK.out
   have HKe:=hide HK.out
   clear e
   go_wp2
   go_ret
   exact⟨a,c,by rw[HKe.out];rfl,by rw[HKe.out];exact HRk.out,HB.out⟩
end Go.Proofs.YtcceejdaokoihaaGreatDoor
