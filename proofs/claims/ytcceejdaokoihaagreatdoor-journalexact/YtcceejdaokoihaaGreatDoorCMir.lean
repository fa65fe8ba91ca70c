import Derived.WalkKit
import Derived.WalkSpells
import Derived.WalkLawsBesides
import Derived.Deep.OwnRows
import Derived.Laws.BitsAllLaws
import Derived.Test.YtcceejdaokoihaaGreatDoorCPure
import Derived.Test.YtcceejdaokoihaaGreatDoorCFind4
import Derived.Deep.RegionLaw
import Derived.RegionTactic
import Derived.BigRegion
import Derived.Test.YtcceejdaokoihaaGreatDoorCWriter
import Derived.Test.YtcceejdaokoihaaGreatDoorCLen
set_option maxRecDepth 100000
namespace Go.Proofs.YtcceejdaokoihaaGreatDoor.C
open Go.RowKit
def tab:List Nat:=[0,498536548,997073096,651767980,1994146192,1802195444,1303535960,1342533948,3988292384,4027552580,3604390888,3412177804,2607071920,2262029012,2685067896,3183342108]
def four (r:Nat):Nat:=(r / 16) ^^^ tab.getD (r % 16) 0
def eat (r c:Nat):Nat:=four (four (r ^^^ c))
def reg (xs:List Nat):Nat:=xs.foldl eat 4294967295
def sumOf (xs:List Nat):Nat:=4294967295 ^^^ reg xs
theorem reg_snoc (xs:List Nat) (x:Nat):reg (xs++[x])=eat (reg xs) x:=by simp[reg]
theorem tab_lt:∀i,i<16→tab.getD i 0<4294967296:=by decide
theorem xor_lt {a b:Nat} (ha:a<4294967296) (hb:b<4294967296):a ^^^ b<4294967296:=Nat.xor_lt_two_pow (n:=32) ha hb
theorem four_lt {r:Nat} (h:r<4294967296):four r<4294967296:=xor_lt (by omega) (tab_lt _ (by omega))
theorem eat_lt {r c:Nat} (h:r<4294967296) (hc:c<256):eat r c<4294967296:=four_lt (four_lt (xor_lt h (by omega)))
def Tab (w:World):Prop:=∀j,j<16→w.cell? ⟨0,j,none⟩=some (.int .u32 (tab.getD j 0:Nat))
theorem reg_lt (xs:List Nat) (h:∀x∈xs,x<256):reg xs<4294967296:=by
 unfold reg
 have:∀(l:List Nat) (r:Nat),(∀x∈l,x<256)→r<4294967296→l.foldl eat r<4294967296:=by
  intro l
  induction l with
  | nil=>intro r _ hr;exact hr
  | cons a l ih=>intro r hl hr;exact ih _ (fun x hx=>hl x (List.mem_cons_of_mem _ hx)) (eat_lt hr (hl a (List.mem_cons_self ..)))
 exact this xs _ h (by omega)
theorem four_walk (w:World) (hT:Tab w) (M:Nat) (hM:M<4294967296):∃J T:Nat,bits .and .u32 (M:Int) 15=(J:Int)∧J<16∧w.cell? ⟨0,J,none⟩=some (.int .u32 (T:Int))∧bits .xor .u32 ((M:Int) / 16) (T:Int)=((four M:Nat):Int):=by
 refine⟨M % 16,tab.getD (M % 16) 0,?_,by omega,hT _ (by omega),?_⟩
 ·have:=u32_and_nat M 15 hM (by omega)
  rw[show ((15:Nat):Int)=15 from rfl]at this
  rw[this]
  have:=Nat.and_two_pow_sub_one_eq_mod M 4
  simp at this
  rw[this]
 ·have e:(M:Int) / 16=((M / 16:Nat):Int):=by omega
  rw[e,u32_xor_nat _ _ (by omega) (tab_lt _ (by omega))]
  rfl
theorem Tab.pos {w:World} (h:Tab w):0<w.heap.size:=cell_block (h 0 (by omega))
theorem Tab.below {w w':World} {B:Nat} (h:Tab w) (hb:Below B w w') (hB:0<B):Tab w':=fun j hj=>by rw[hb.cell (p:=⟨0,j,none⟩) hB];exact h j hj
set_option maxHeartbeats 400000 in
theorem sum_there (w:World) (g o len cap:Nat) (xs:List Nat) (hX:∀x∈xs,x<256) (hl:xs.length=len) (hc:∀j,j<xs.length→w.cell? ⟨g,o+j,none⟩=some (.int .u8 (xs.getD j 0))) (hlen:len≤140737488355328) (hT:Tab w) :
  Calls Tryz.prog 107 #[.slice (some ⟨g,o,none⟩) len cap] w fun e w'=>e=.returned (.int .u32 (sumOf xs:Nat))∧w'=w:=by
 have HX:Hid (∀x∈xs,x<256):=hX
 have HL:Hid (xs.length=len):=hl
 have HC:Hid (∀j,j<len→w.cell? ⟨g,o+j,none⟩=some (.int .u8 (xs.getD j 0))):=fun j hj=>hc j (by omega)
 have HT:Hid (Tab w):=hT
 clear hX hl hc hT
 go_enter Tryz.func107,Tryz.ntmps107
 go_wp2
 go_loop [3,8] (fun n i=>∃(k N:Nat),k≤len∧i=.int .i64 k∧n=.int .u32 (N:Int)∧Hid (N=reg (xs.take k))∧N<4294967296) (fun _ i=>len - (intOf i).toNat)
 case atStart=>exact⟨0,4294967295,Nat.zero_le _,rfl,rfl,rfl,by omega⟩
 case round =>
  obtain⟨k,N,hk,rfl,rfl,HN,hN⟩:=hrel
  by_cases hlt:k<len
  ·have hcx:=HC.out k (by omega)
   have hx:xs.getD k 0<256:=getD_small HX.out k
   have HR:Hid (eat N (xs.getD k 0)=reg (xs.take (k+1))):=by
    show _=_
    rw[take_snoc xs k (by rw[HL.out];exact hlt),reg_snoc,HN.out]
   generalize xs.getD k 0=x at *
   have hA:=u32_xor_nat N x hN (by omega)
   have hM:N ^^^ x<4294967296:=xor_lt hN (by omega)
   unfold eat at HR
   generalize N ^^^ x=M at *
   obtain⟨J,T,j1,j2,j3,j4⟩:=four_walk w HT.out M hM
   have hM2:four M<4294967296:=four_lt hM
   generalize four M=M2 at *
   obtain⟨J2,T2,k1,k2,k3,k4⟩:=four_walk w HT.out M2 hM2
   have hM3:four M2<4294967296:=four_lt hM2
   generalize four M2=M3 at *
   go_wp2
   go_round
   case rel=>exact⟨k+1,M3,by omega,by go_num,rfl,HR,hM3⟩
   case measure=>simp[intOf];omega
  ·obtain rfl:k=len:=by omega
   have HS:Hid (4294967295 ^^^ N=sumOf xs):=by show _=_;rw[HN.out,List.take_of_length_le (by rw[HL.out];omega)];rfl
   go_wp2
   go_ret
   refine⟨?_,rfl⟩
   have e:bits .xor .u32 IntKind.u32.max (N:Int)=((4294967295 ^^^ N:Nat):Int):=u32_xor_nat 4294967295 N (by omega) hN
   rw[HS.out]at e
   simp only[e]
   rfl
theorem sum_none (w:World) (sp:Option Addr) (cap:Nat) :
  Calls Tryz.prog 107 #[.slice sp 0 cap] w fun e w'=>e=.returned (.int .u32 0)∧w'=w:=by
 go_enter Tryz.func107,Tryz.ntmps107
 go_wp2
 refine wp_loop_rounds 1 ?_
 rw[rounds_succ]
 go_wp2
 go_ret
 exact⟨rfl,rfl⟩
theorem sum_any (w:World) (sp:Option Addr) (len cap:Nat) (xs:List Nat) (hl:xs.length=len) (hB:Bytes w sp xs) (hlen:len≤140737488355328) (hT:Tab w) :
  Calls Tryz.prog 107 #[.slice sp len cap] w fun e w'=>e=.returned (.int .u32 (sumOf xs:Nat))∧w'=w:=by
 rcases hB.lie with h' | ⟨g,o,rfl,hg,hc⟩
 ·subst h';simp at hl;subst hl
  exact sum_none w sp cap
 ·exact sum_there w g o len cap xs hB.small hl hc hlen hT
end Go.Proofs.YtcceejdaokoihaaGreatDoor.C
namespace Go.Proofs.YtcceejdaokoihaaGreatDoor.C
open Go.RowKit
attribute [local go_sem ↓] Go.wp_at_zero Go.wp_at_succ
def beOf (n size:Nat):List Nat:=(List.range size).map fun i=>n / 256 ^ (size - 1 - i) % 256
theorem be_take (n size j:Nat) (h:j<size):(beOf n size).take (j+1)=(beOf n size).take j++[n / 256 ^ (size - 1 - j) % 256]:=by
 rw[List.take_succ_eq_append_getElem (by simpa[beOf] using h)]
 simp[beOf]
theorem shr_byte (n size j:Nat) (hs:size≤8) (hj:j<size):Op.shift .shr .u64 (n:Int) .i64 (IntKind.i64.wrap (8*IntKind.i64.wrap (IntKind.i64.wrap ((size:Int) - 1) - (j:Int))))=pure (.int .u64 ((n / 256 ^ (size - 1 - j):Nat):Int)):=by
 have e:IntKind.i64.wrap (8*IntKind.i64.wrap (IntKind.i64.wrap ((size:Int) - 1) - (j:Int)))=((8*(size - 1 - j):Nat):Int):=by
  simp only[IntKind.wrap_i64];omega
 rw[e,shift_shr .u64 .i64 (n:Int) ((8*(size - 1 - j):Nat):Int) (by omega) (by simp[IntKind.bits];omega)]
 congr 2
 rw[Int.toNat_natCast,show (256:Nat) ^ (size - 1 - j)=2 ^ (8*(size - 1 - j)) by rw[Nat.pow_mul]]
 simp
structure Half (w wn:World) (b:Nat) (v vr:Value) (ws new:List Nat):Prop where
 wr:Wr wn b vr (ws++new)
 at_:vr.ownBlock=v.ownBlock∨∃g,vr.ownBlock=some g∧w.heap.size≤g
 wrote:Wrote b v.ownBlock w wn
theorem Half.step {w wr w0 w1:World} {b:Nat} {v vr:Value} {ws new:List Nat} {x:Nat} {g cap:Nat} (h:Half w wr b v vr ws new) (hx:x<256) (h0:Below wr.heap.size wr w0)
  (hown:w1.ownsRow 0 5 1 (.slice (some ⟨g,0,none⟩) ((ws++new).length+1) cap) ((ws++new).length+1) (vals (ws++new)++[.int .u8 (x:Int)])) (hg:w0.grownBy w1 vr.ownBlock) (hat:vr.ownBlock=some g∨wr.heap.size≤g) :
  Half w (w1.setCell ⟨b,0,none⟩ (.slice (some ⟨g,0,none⟩) ((ws++new).length+1) cap)) b v (.slice (some ⟨g,0,none⟩) ((ws++new).length+1) cap) ws (new++[x]):=by
 obtain⟨v',h1,h2,h3⟩:=laid_store (new:=[x]) h.wr (by simpa using hx) h0 hown hg hat
 have hv:v'=.slice (some ⟨g,0,none⟩) ((ws++new).length+1) cap:=by
  have e1:=h1.blk
  have hb1:w1.heap[b]?=some (.cells #[vr] 216 (0,0)):=by
   rw[hg.block b (Nat.lt_of_lt_of_le h.wr.lt h0.size) h.wr.apart,h0.block b h.wr.lt];exact h.wr.blk
  rw[setCell_eq_setRow w1 b 0 _ _ _ _ hb1,setRow_heap w1 b _ _ _ _ hb1]at e1
  simpa using e1.symm
 subst hv
 refine⟨by rw[←List.append_assoc];exact h1,?_,h.wrote.trans h3 h.at_⟩
 rcases h2 with e | ⟨g',e,hg'⟩
 ·rw[e];exact h.at_
 ·exact Or.inr ⟨g',e,Nat.le_trans h.wrote.size hg'⟩
set_option maxHeartbeats 1000000 in
theorem fixed_lays (w:World) (b:Nat) (v:Value) (ws:List Nat) (n:Nat) (k:Int) (hw:Wr w b v ws) (_hn:n<18446744073709551616) (hlen:ws.length+8≤140737488355328) :
  Calls Tryz.prog 162 #[.pointer (some ⟨b,0,none⟩),.int .u64 n,.int .i64 k] w fun e w'=>e=.returned (.tuple #[])∧Laid w w' b v ws (beOf n (width k)):=by
 obtain⟨i0,hi,hz0,hz1,hz2⟩:=info_parts Tryz.info5'
 have hs8:=width_le k
 have hs0:=width_pos k
 have HS:Hid (Half w w b v v ws []):=⟨by simpa using hw,Or.inl rfl,Wrote.refl _ _ _⟩
 have HWd:Hid (∀w,Calls Tryz.prog 175 #[.int .i64 k] w fun e w'=>e=.returned (.int .i64 (width k:Nat))∧w'=w):=fun w=>width_any w k
 clear hw
 generalize width k=size at *
 go_enter Tryz.func162,Tryz.ntmps162
 go_wp2_with fail
 refine(HWd.out _).mono ?_
 rintro e w' ⟨rfl,rfl⟩
 go_wp2
 go_loopw [11] (fun i wr=>∃(j:Nat) (vr:Value),j≤size∧i=.int .i64 j∧Hid (Half w' wr b v vr ws ((beOf n size).take j))) (fun i _=>size - (intOf i).toNat)
 case atStart=>exact⟨0,v,Nat.zero_le _,rfl,by simpa using HS⟩
 case round =>
  obtain⟨j,vr,hj,rfl,HH⟩:=hrel
  clear HS
  by_cases hlt:j<size
  ·obtain⟨a,c,hv,hc⟩:=HH.out.wr.form
   obtain⟨q0,qf⟩:=blk1 HH.out.wr.blk
   have hblt:=HH.out.wr.lt
   have HB:Hid (some b≠vr.ownBlock):=HH.out.wr.apart
   have HO:Hid (wr.ownsRow 0 5 1 vr (ws++(beOf n size).take j).length (vals (ws++(beOf n size).take j))):=HH.out.wr.own
   have hLL:(ws++(beOf n size).take j).length≤ws.length+7:=by simp[beOf];omega
   have hsh:Op.shift .shr .u64 (n:Int) .i64 (IntKind.i64.wrap (8*IntKind.i64.wrap (IntKind.i64.wrap ((size:Int) - 1) - (j:Int))))=pure (.int .u64 ((n / 256 ^ (size - 1 - j):Nat):Int)):=shr_byte n size j hs8 hlt
   have hX1:((n / 256 ^ (size - 1 - j):Nat):Int) % 256=((n / 256 ^ (size - 1 - j) % 256:Nat):Int):=by omega
   have hX2:IntKind.u8.wrap ((n / 256 ^ (size - 1 - j):Nat):Int)=((n / 256 ^ (size - 1 - j) % 256:Nat):Int):=by rw[IntKind.wrap_u8'];omega
   have hx:n / 256 ^ (size - 1 - j) % 256<256:=Nat.mod_lt _ (by omega)
   have HT:Hid ((beOf n size).take (j+1)=(beOf n size).take j++[n / 256 ^ (size - 1 - j) % 256]):=be_take n size j hlt
   generalize n / 256 ^ (size - 1 - j) % 256=x at *
   generalize n / 256 ^ (size - 1 - j)=Y at *
   subst hv
   generalize hLe:(ws++(beOf n size).take j).length=L at *
   have HLe:=hLe
   have HLE:Hid ((ws++(beOf n size).take j).length=L):=hLe
   clear hLe HLe
   go_wp2
   go_region_law ((refine step_append_lies _ (by rfl) (.tmp 18) (.tmp 27) 32 (by rfl) 0 5 i0 (.int .u8 0) 1 1 Tryz.underlying32 hi hz0 hz1 hz2 rfl (by omega) (.slice a L c) L (vals (ws++(beOf n size).take j)) (by rfl) ((HO.out.alloc _).drew) ⟨wr.heap.size,0,none⟩ 1 1 [.int .u8 (x:Int)] (by rfl) rfl (World.news_of_block (heap_alloc_new wr (.cells #[.int .u8 (x:Int)] 5))) (by simp[Value.oneCell']) (by omega) (by unfold maxLen;omega) (by omega) (by omega) _ rfl ?_;intro g cap w1 hown hgrow hat hltg;have r0:=(hgrow.cell_far ⟨b,0,none⟩ (by simp;omega) HB.out);have rf:=fun o=>(hgrow.frozen_far ⟨b,o,none⟩ (by simp;omega) HB.out)))
   all_goals go_wp2
   all_goals
    have hL:=HLE.out
    subst hL
    have HF:=HH.out.step hx (((Below.refl _ _).alloc (Nat.le_refl _) _).drew) hown hgrow (by rcases hat with h | h;exact Or.inl h;exact Or.inr (by simp at h;omega))
    rw[←HT.out]at HF
    go_roundw
    case rel=>exact⟨j+1,_,by omega,by go_num,HF⟩
    case measure=>simp[intOf];omega
  ·obtain rfl:j=size:=by omega
   go_wp2
   go_end0
   have HF:=HH.out
   rw[List.take_of_length_le (by simp[beOf])]at HF
   exact⟨rfl,vr,HF.wr,HF.at_,HF.wrote⟩
end Go.Proofs.YtcceejdaokoihaaGreatDoor.C
namespace Go.Proofs.YtcceejdaokoihaaGreatDoor.C
open Go.RowKit
theorem hide1 {p:Prop} (h:p):Hid p:=h
def vs (n:Nat):Nat:=max 1 ((Lib.bitLen n+6) / 7)
theorem vs_bounds (n:Nat) (h:n<18446744073709551616):1≤vs n∧vs n≤10:=by
 have:=(bit_bounds n h).2.2.2
 unfold vs;omega
set_option maxHeartbeats 400000 in
theorem vsize_any (w:World) (n:Nat) (hn:n<18446744073709551616) :
  Calls Tryz.prog 176 #[.int .u64 n] w fun e w'=>e=.returned (.int .i64 (vs n:Nat))∧w'=w:=by
 have HC:Hid (Calls Tryz.prog 187 #[.int .u64 n] w fun e w'=>e=.returned (.int .i64 (Lib.bitLen n))∧w'=w):=len_any w n hn
 have hb:=(bit_bounds n hn).2.2.2
 have HV:Hid (vs n=max 1 ((Lib.bitLen n+6) / 7)):=rfl
 generalize vs n=V at *
 generalize Lib.bitLen n=L at *
 have he:Hid (max 1 (((L:Int)+7 - 1) / 7)=(V:Int)):=by show _=_;rw[HV.out];omega
 go_enter Tryz.func176,Tryz.ntmps176
 go_wp2_with fail
 refine HC.out.mono ?_
 rintro e w' ⟨rfl,rfl⟩
 go_wp2
 go_ret
 exact⟨ret_int he.out,rfl⟩
def varOf (n s:Nat):List Nat:=(List.range s).map (fun i=>n / 128 ^ i % 128+128)++[n / 128 ^ s]
def varHd (n s:Nat):List Nat:=(List.range s).map (fun i=>n / 128 ^ i % 128+128)
theorem hd_take (n s j:Nat) (h:j<s):(varHd n s).take (j+1)=(varHd n s).take j++[n / 128 ^ j % 128+128]:=by
 rw[List.take_succ_eq_append_getElem (by simpa[varHd] using h)]
 simp[varHd]
theorem or_128 (N:Nat):bits .or .u8 ((N:Int) % 256) 128=((N % 128+128:Nat):Int):=by
 have e:(N:Int) % 256=((N % 256:Nat):Int):=by omega
 have h:=u8_or_nat (N % 256) 128 (by omega) (by omega)
 rw[show ((128:Nat):Int)=128 from rfl]at h
 rw[e,h]
 have:∀y:Fin 256,y.val ||| 128=y.val % 128+128:=by decide +kernel
 rw[this ⟨N % 256,by omega⟩]
 simp only
 omega
theorem fits_small (n s:Nat) (h:n<128 ^ (s+1)):n / 128 ^ s<128:=by
 rw[Nat.div_lt_iff_lt_mul (Nat.pow_pos (by omega))]
 rw[Nat.pow_succ]at h;omega
theorem vs_fits (n:Nat) (h:n<18446744073709551616):n<128 ^ vs n:=by
 obtain⟨h1,h2,h3,h4⟩:=bit_bounds n h
 refine Nat.lt_of_lt_of_le h1 ?_
 rw[←pow7]
 exact Nat.pow_le_pow_right (by omega) (by unfold vs;omega)
theorem vs_least (n:Nat) (h:n<18446744073709551616) (h1:1<vs n):128 ^ (vs n - 1)≤n:=by
 obtain⟨a1,a2,a3,a4⟩:=bit_bounds n h
 by_cases h0:n=0
 ·rw[vs,a3 h0]at h1;simp at h1
 ·obtain⟨b1,b2⟩:=a2 h0
  refine Nat.le_trans ?_ b2
  rw[←pow7]
  exact Nat.pow_le_pow_right (by omega) (by unfold vs at h1 ⊢;omega)
set_option maxHeartbeats 1000000 in
theorem var_lays (w:World) (b:Nat) (v:Value) (ws:List Nat) (n:Nat) (hw:Wr w b v ws) (hn:n<18446744073709551616) (hlen:ws.length+10≤140737488355328) :
  Calls Tryz.prog 163 #[.pointer (some ⟨b,0,none⟩),.int .u64 n] w fun e w'=>e=.returned (.tuple #[])∧Laid w w' b v ws (varOf n (vs n - 1)):=by
 obtain⟨i0,hi,hz0,hz1,hz2⟩:=info_parts Tryz.info5'
 obtain⟨hv1,hv2⟩:=vs_bounds n hn
 have hfit:=vs_fits n hn
 have HS:Hid (Half w w b v v ws []):=⟨by simpa using hw,Or.inl rfl,Wrote.refl _ _ _⟩
 have HV:Hid (Calls Tryz.prog 176 #[.int .u64 n] w fun e w'=>e=.returned (.int .i64 (vs n:Nat))∧w'=w):=vsize_any w n hn
 clear hw
 generalize hV:vs n=V at *
 clear hV
 obtain⟨s,rfl⟩:∃s,V=s+1:=⟨V - 1,by omega⟩
 simp only[Nat.add_sub_cancel]
 have HFit:Hid (n<128 ^ (s+1)):=hfit
 clear hfit hv1
 go_enter Tryz.func163,Tryz.ntmps163
 go_wp2_with fail
 refine HV.out.mono ?_
 rintro e w' ⟨rfl,rfl⟩
 go_wp2
 go_loopw [1,7] (fun nn i wr=>∃(j N:Nat) (vr:Value),j≤s∧i=.int .i64 j∧nn=.int .u64 (N:Int)∧Hid (N=n / 128 ^ j)∧Hid (Half w' wr b v vr ws ((varHd n s).take j))) (fun _ i _=>s - (intOf i).toNat)
 case atStart=>exact⟨0,n,v,Nat.zero_le _,rfl,rfl,by simp[Hid],by simpa using HS⟩
 case round =>
  obtain⟨j,N,vr,hj,rfl,rfl,HN,HH⟩:=hrel
  clear HS
  obtain⟨a,c,hv,hc⟩:=HH.out.wr.form
  obtain⟨q0,qf⟩:=blk1 HH.out.wr.blk
  have hblt:=HH.out.wr.lt
  have HB:Hid (some b≠vr.ownBlock):=HH.out.wr.apart
  have HO:Hid (wr.ownsRow 0 5 1 vr (ws++(varHd n s).take j).length (vals (ws++(varHd n s).take j))):=HH.out.wr.own
  have hLL:(ws++(varHd n s).take j).length≤ws.length+9:=by simp[varHd];omega
  subst hv
  generalize hLe:(ws++(varHd n s).take j).length=L at *
  have HLE:Hid ((ws++(varHd n s).take j).length=L):=hLe
  clear hLe
  by_cases hlt:j<s
  ·have HT:Hid ((varHd n s).take (j+1)=(varHd n s).take j++[N % 128+128]):=by rw[HN.out];exact hd_take n s j hlt
   have HN':Hid (N / 128=n / 128 ^ (j+1)):=by show _=_;rw[HN.out,Nat.div_div_eq_div_mul,Nat.pow_succ]
   have hor:=or_128 N
   have hx:N % 128+128<256:=by omega
   generalize N % 128+128=x at *
   go_wp2_with (at_builtin;refine wpList_append_lies _ rfl (.tmp 13) (.tmp 17) 32 rfl 0 5 i0 (.int .u8 0) 1 1 Tryz.underlying32 hi hz0 hz1 hz2 rfl (by omega) _ _ _ rfl (HO.out.alloc _) ⟨wr.heap.size,0,none⟩ 1 1 [.int .u8 (x:Int)] rfl rfl (World.news_of_block (heap_alloc_new wr (.cells #[.int .u8 (x:Int)] 5))) (by simp[Value.oneCell']) (by omega) (by unfold maxLen;omega) (by omega) (by omega) _ rfl ?_;intro g cap w1 hown hgrow hat hltg;have r0:=(hgrow.cell_far ⟨b,0,none⟩ (by simp;omega) HB.out);have rf:=fun o=>(hgrow.frozen_far ⟨b,o,none⟩ (by simp;omega) HB.out))
   have hL:=HLE.out
   subst hL
   have HF:=HH.out.step hx ((Below.refl _ _).alloc (Nat.le_refl _) _) hown hgrow (by rcases hat with h | h;exact Or.inl h;exact Or.inr (by simp at h;omega))
   rw[←HT.out]at HF
   go_roundw
   case rel=>exact⟨j+1,N / 128,_,by omega,by go_num,by simp,HN',HF⟩
   case measure=>simp[intOf];omega
  ·obtain rfl:j=s:=by omega
   have hNs:N<128:=by rw[HN.out];exact fits_small n j HFit.out
   have hmod:(N:Int) % 256=(N:Int):=by omega
   go_wp2_with (at_builtin;refine wpList_append_lies _ rfl (.tmp 28) (.tmp 31) 32 rfl 0 5 i0 (.int .u8 0) 1 1 Tryz.underlying32 hi hz0 hz1 hz2 rfl (by omega) _ _ _ rfl (HO.out.alloc _) ⟨wr.heap.size,0,none⟩ 1 1 [.int .u8 (N:Int)] rfl rfl (World.news_of_block (heap_alloc_new wr (.cells #[.int .u8 (N:Int)] 5))) (by simp[Value.oneCell']) (by omega) (by unfold maxLen;omega) (by omega) (by omega) _ rfl ?_;intro g cap w1 hown hgrow hat hltg;have r0:=(hgrow.cell_far ⟨b,0,none⟩ (by simp;omega) HB.out);have rf:=fun o=>(hgrow.frozen_far ⟨b,o,none⟩ (by simp;omega) HB.out))
   go_end0
   have hL:=HLE.out
   subst hL
   have HF:=HH.out.step (show N<256 by omega) ((Below.refl _ _).alloc (Nat.le_refl _) _) hown hgrow (by rcases hat with h | h;exact Or.inl h;exact Or.inr (by simp at h;omega))
   have e:(varHd n j).take j++[N]=varOf n j:=by rw[List.take_of_length_le (by simp[varHd]),HN.out];rfl
   rw[e]at HF
   exact⟨rfl,_,HF.wr,HF.at_,HF.wrote⟩
theorem varOf_small (n s:Nat) (h:n<128 ^ (s+1)):∀x∈varOf n s,x<256:=by
 intro x hx
 simp only[varOf,List.mem_append,List.mem_map,List.mem_range,List.mem_singleton]at hx
 rcases hx with ⟨i,_,rfl⟩ | rfl
 ·omega
 ·have:=fits_small n s h;omega
theorem varOf_length (n s:Nat):(varOf n s).length=s+1:=by simp[varOf]
set_option maxHeartbeats 400000 in
theorem wbytes_any (w:World) (b:Nat) (v:Value) (ws:List Nat) (sp:Option Addr) (m cap:Nat) (xs:List Nat) (hw:Wr w b v ws) (hm:xs.length=m) (hx:Bytes w sp xs) (hlen:ws.length+10+m≤140737488355328) (hsep:∀g o,sp=some ⟨g,o,none⟩→0<m→g≠b∧some g≠v.ownBlock) :
  Calls Tryz.prog 134 #[.pointer (some ⟨b,0,none⟩),.slice sp m cap] w fun e w'=>e=.returned (.tuple #[])∧Laid w w' b v ws (varOf m (vs m - 1)++xs):=by
 have hm64:m<18446744073709551616:=by omega
 have HV:=hide1 (var_lays w b v ws m hw hm64 (by omega))
 have hvl:(varOf m (vs m - 1)).length≤10:=by rw[varOf_length];have:=vs_bounds m hm64;omega
 have HR:Hid (∀w1,Laid w w1 b v ws (varOf m (vs m - 1))→Calls Tryz.prog 164 #[.pointer (some ⟨b,0,none⟩),.slice sp m cap] w1 fun e w'=>e=.returned (.tuple #[])∧Laid w w' b v ws (varOf m (vs m - 1)++xs)):=by
  intro w1 hl
  obtain⟨v1,h1,h2,h3⟩:=hl
  have hB:Bytes w1 sp xs:=by
   refine⟨hx.small,?_⟩
   rcases hx.lie with h0 | ⟨g,o,e,hg,hc⟩
   ·exact Or.inl h0
   ·by_cases h0:xs=[]
    ·exact Or.inl h0
    ·have hpos:0<m:=by rw[←hm];exact List.length_pos_iff.2 h0
     obtain⟨n1,n2⟩:=hsep g o e hpos
     exact Or.inr ⟨g,o,e,Nat.lt_of_lt_of_le hg h3.size,fun j hj=>by rw[World.cell?_of_block (w:=w) (h3.block g hg n1 n2)];exact hc j hj⟩
  refine(wraw_any w1 b v1 (ws++varOf m (vs m - 1)) sp m cap xs h1 hm hB (by rw[List.length_append];omega)).mono ?_
  rintro e w2 ⟨rfl,hl2⟩
  refine⟨rfl,?_⟩
  obtain⟨v2,k1,k2,k3⟩:=hl2
  refine⟨v2,by rw[←List.append_assoc];exact k1,?_,h3.trans k3 h2⟩
  rcases k2 with e | ⟨g,e,hg⟩
  ·rw[e];exact h2
  ·exact Or.inr ⟨g,e,Nat.le_trans h3.size hg⟩
 clear hw hx hsep hm
 generalize varOf m (vs m - 1)=A at *
 go_enter Tryz.func134,Tryz.ntmps134
 go_wp2_with fail
 refine HV.out.mono ?_
 rintro e w1 ⟨rfl,hl1⟩
 have HL1:=hide1 hl1
 clear hl1
 go_wp2_with fail
 refine(HR.out _ HL1.out).mono ?_
 rintro e w2 ⟨rfl,hl2⟩
 have HL2:=hide1 hl2
 clear hl2
 go_wp2
 go_end0
 exact⟨rfl,HL2.out⟩
end Go.Proofs.YtcceejdaokoihaaGreatDoor.C
namespace Go.Proofs.YtcceejdaokoihaaGreatDoor.C
open Go.RowKit
set_option maxHeartbeats 400000 in
theorem wu8_any (w:World) (b:Nat) (v:Value) (ws:List Nat) (n:Nat) (hw:Wr w b v ws) (hn:n<256) (hlen:ws.length+8≤140737488355328) :
  Calls Tryz.prog 161 #[.pointer (some ⟨b,0,none⟩),.int .u8 n] w fun e w'=>e=.returned (.tuple #[])∧Laid w w' b v ws (beOf n 1):=by
 have HC:=hide1 (fixed_lays w b v ws n 0 hw (by omega) hlen)
 rw[show width 0=1 by simp[width]]at HC
 clear hw
 generalize beOf n 1=A at *
 go_enter Tryz.func161,Tryz.ntmps161
 go_wp2_with fail
 refine HC.out.mono ?_
 rintro e w1 ⟨rfl,hl1⟩
 have HL1:=hide1 hl1
 clear hl1
 go_wp2
 go_end0
 exact⟨rfl,HL1.out⟩
set_option maxHeartbeats 400000 in
theorem wu32_any (w:World) (b:Nat) (v:Value) (ws:List Nat) (n:Nat) (hw:Wr w b v ws) (hn:n<4294967296) (hlen:ws.length+8≤140737488355328) :
  Calls Tryz.prog 132 #[.pointer (some ⟨b,0,none⟩),.int .u32 n] w fun e w'=>e=.returned (.tuple #[])∧Laid w w' b v ws (beOf n 4):=by
 have HC:=hide1 (fixed_lays w b v ws n 1 hw (by omega) hlen)
 rw[show width 1=4 by simp[width]]at HC
 clear hw
 generalize beOf n 4=A at *
 go_enter Tryz.func132,Tryz.ntmps132
 go_wp2_with fail
 refine HC.out.mono ?_
 rintro e w1 ⟨rfl,hl1⟩
 have HL1:=hide1 hl1
 clear hl1
 go_wp2
 go_end0
 exact⟨rfl,HL1.out⟩
set_option maxHeartbeats 400000 in
theorem wu64_any (w:World) (b:Nat) (v:Value) (ws:List Nat) (n:Nat) (hw:Wr w b v ws) (hn:n<18446744073709551616) (hlen:ws.length+8≤140737488355328) :
  Calls Tryz.prog 131 #[.pointer (some ⟨b,0,none⟩),.int .u64 n] w fun e w'=>e=.returned (.tuple #[])∧Laid w w' b v ws (beOf n 8):=by
 have HC:=hide1 (fixed_lays w b v ws n 2 hw (by omega) hlen)
 rw[show width 2=8 by simp[width]]at HC
 clear hw
 generalize beOf n 8=A at *
 go_enter Tryz.func131,Tryz.ntmps131
 go_wp2_with fail
 refine HC.out.mono ?_
 rintro e w1 ⟨rfl,hl1⟩
 have HL1:=hide1 hl1
 clear hl1
 go_wp2
 go_end0
 exact⟨rfl,HL1.out⟩
set_option maxHeartbeats 400000 in
theorem new_any (w:World) :
  Calls Tryz.prog 130 #[] w fun e w'=>e=.returned (.pointer (some ⟨w.heap.size,0,none⟩))∧w'=w.alloc (.cells #[.slice none 0 0] 216):=by
 go_enter Tryz.func130,Tryz.ntmps130
 go_wp2
 go_ret
 exact⟨rfl,rfl⟩
theorem new_wr (w:World):Wr (w.alloc (.cells #[.slice none 0 0] 216)) w.heap.size (.slice none 0 0) [] :=
 ⟨heap_alloc_new _ _,⟨rfl,Or.inl ⟨rfl,rfl⟩⟩,by simp⟩
set_option maxHeartbeats 400000 in
theorem wlen_any (w:World) (b:Nat) (v:Value) (ws:List Nat) (hw:Wr w b v ws) :
  Calls Tryz.prog 133 #[.pointer (some ⟨b,0,none⟩)] w fun e w'=>e=.returned (.int .i64 (ws.length:Int))∧w'=w:=by
 obtain⟨a,c,rfl,hc⟩:=hw.form
 obtain⟨q0,qf⟩:=blk1 hw.blk
 clear hw
 generalize ws.length=n at *
 go_enter Tryz.func133,Tryz.ntmps133
 go_wp2
 go_ret
 exact⟨rfl,rfl⟩
theorem Wr.bytes {w:World} {b:Nat} {ws:List Nat} {a:Option Addr} {n c:Nat} (hw:Wr w b (.slice a n c) ws):Bytes w a ws:=by
 refine⟨hw.small,?_⟩
 rcases hw.own.2 with ⟨h1,h2⟩ | ⟨g,cap,cur,h1,_,hg,h2,h3,h4,h5⟩
 ·exact Or.inl (List.eq_nil_of_length_eq_zero h2)
 ·simp at h1
  refine Or.inr ⟨g,0,h1.1,(Array.getElem?_eq_some_iff.1 hg).1,fun j hj=>?_⟩
  simp only[World.cell?,hg]
  have e:(cur.toList.take (ws.length*1))[j]?=(vals ws)[j]?:=by rw[h5]
  rw[List.getElem?_take]at e
  simp only[Nat.mul_one,if_pos hj]at e
  simp only[Nat.zero_add]
  rw[←Array.getElem?_toList]
  simp[e,vals,List.getD,List.getElem?_eq_getElem hj]
set_option maxHeartbeats 400000 in
theorem out_any (w:World) (b:Nat) (v:Value) (ws:List Nat) (hw:Wr w b v ws) (hlen:ws.length≤140737488355328) :
  Calls Tryz.prog 136 #[.pointer (some ⟨b,0,none⟩)] w fun e w'=>e=.returned (.slice (some ⟨w.heap.size,0,none⟩) ws.length ws.length)∧w'=w.alloc (.cells (vals ws).toArray 5):=by
 obtain⟨a,c,rfl,hc⟩:=hw.form
 obtain⟨q0,qf⟩:=blk1 hw.blk
 have HC:=hide1 (copied_bytes w a ws.length c ws rfl hlen hw.bytes)
 clear hw
 generalize vals ws=V at *
 generalize ws.length=n at *
 go_enter Tryz.func136,Tryz.ntmps136
 go_wp2_with fail
 refine HC.out.mono ?_
 rintro e w1 ⟨rfl,rfl⟩
 go_wp2
 go_ret
 exact⟨rfl,rfl⟩
end Go.Proofs.YtcceejdaokoihaaGreatDoor.C
namespace Go.Proofs.YtcceejdaokoihaaGreatDoor.C
open Go.RowKit
theorem beOf_snoc (N y s:Nat) (hy:y<256):beOf (N*256+y) (s+1)=beOf N s++[y]:=by
 unfold beOf
 rw[List.range_succ,List.map_append]
 congr 1
 ·refine List.map_congr_left fun i hi=>?_
  have hi:=List.mem_range.1 hi
  have e:s+1 - 1 - i=(s - 1 - i)+1:=by omega
  rw[e,Nat.pow_succ',←Nat.div_div_eq_div_mul,show (N*256+y) / 256=N by omega]
 ·simp;omega
theorem varOf_cons (V k:Nat):varOf V (k+1)=(V % 128+128) :: varOf (V / 128) k:=by
 unfold varOf
 rw[List.range_succ_eq_map,List.map_cons,List.map_map]
 simp only[Nat.pow_zero,Nat.div_one,List.cons_append]
 congr 2
 ·refine List.map_congr_left fun i _=>?_
  simp only[Function.comp,Nat.succ_eq_add_one]
  rw[Nat.pow_succ',←Nat.div_div_eq_div_mul]
 ·rw[Nat.pow_succ',←Nat.div_div_eq_div_mul]
theorem pv_back (most:Nat):∀(k V i acc:Nat) (rest:List Nat),V<128 ^ (k+1)→((i=0∧k=0)∨128 ^ k≤V)→acc+128 ^ i*V≤most→i+k≤9→(i+k=9→V / 128 ^ k≤1) →
  pVar most (varOf V k++rest) i acc=⟨acc+128 ^ i*V,0,0,i+k+1,0⟩:=by
 intro k
 induction k with
 | zero =>
  intro V i acc rest hV hs hm hi h9
  have e:varOf V 0++rest=V :: rest:=by simp[varOf]
  rw[e]
  have h1:¬(i=9∧1<V):=by
   rintro ⟨rfl,h⟩
   have:=h9 (by omega)
   simp at this;omega
  have h3:¬(V=0∧0<i):=by
   rintro ⟨rfl,h⟩
   rcases hs with ⟨h',_⟩ | h'
   ·omega
   ·simp at h'
  rw[pVar,if_neg h1,if_neg (by omega),if_neg h3,if_neg (by rw[Nat.mul_comm];omega),Nat.mul_comm V]
 | succ k ih =>
  intro V i acc rest hV hs hm hi h9
  rw[varOf_cons,List.cons_append]
  have h1:¬(i=9∧1<V % 128+128):=by omega
  rw[pVar,if_neg h1,if_pos (by omega),Nat.add_sub_cancel]
  have hV':V / 128<128 ^ (k+1):=by rw[Nat.div_lt_iff_lt_mul (by omega)];rw[Nat.pow_succ]at hV;omega
  have hk:128 ^ k≤V / 128:=by
   rcases hs with ⟨_,h⟩ | h
   ·omega
   ·rw[Nat.le_div_iff_mul_le (by omega)];rw[Nat.pow_succ]at h;exact h
  have hsum:acc+V % 128*128 ^ i+128 ^ (i+1)*(V / 128)=acc+128 ^ i*V:=by
   have:128 ^ i*V=128 ^ i*(V % 128+128*(V / 128)):=by congr 1;omega
   rw[this,Nat.mul_add,Nat.pow_succ,Nat.mul_comm (V % 128),Nat.mul_assoc];omega
  have h9':i+1+k=9→V / 128 / 128 ^ k≤1:=by
   intro h
   have:=h9 (by omega)
   rw[Nat.div_div_eq_div_mul,←Nat.pow_succ'];exact this
  rw[ih (V / 128) (i+1) (acc+V % 128*128 ^ i) rest hV' (Or.inr hk) (by rw[hsum];exact hm) (by omega) h9',hsum]
  congr 1
  omega
theorem vs_nine (n:Nat) (hn:n<18446744073709551616) (_h:vs n - 1=9):n / 128 ^ 9≤1:=by
 rw[show (128:Nat) ^ 9=9223372036854775808 from rfl];omega
theorem var_ok (n most:Nat) (rest:List Nat) (hn:n<18446744073709551616) (hm:n≤most):pVar most (varOf n (vs n - 1)++rest) 0 0=⟨n,0,0,vs n,0⟩:=by
 have hb:=vs_bounds n hn
 have hf:=vs_fits n hn
 have e:vs n - 1+1=vs n:=by omega
 have:=pv_back most (vs n - 1) n 0 0 rest (by rw[e];exact hf) (by
  by_cases h:vs n - 1=0
  ·exact Or.inl ⟨rfl,h⟩
  ·exact Or.inr (vs_least n hn (by omega))) (by simpa using hm) (by omega) (fun h=>by
   have h9:vs n - 1=9:=by omega
   rw[h9];exact vs_nine n hn h9)
 rw[this]
 simp;omega
theorem be_beOf (n:Nat):∀s,be (beOf n s)=n % 256 ^ s:=by
 intro s
 induction s generalizing n with
 | zero=>simp[beOf,be,Nat.mod_one]
 | succ s ih =>
  have h:=beOf_snoc (n / 256) (n % 256) s (Nat.mod_lt _ (by omega))
  rw[show n / 256*256+n % 256=n by omega]at h
  rw[h,be_snoc,ih,Nat.pow_succ']
  have:=Nat.mod_mul (x:=n) (a:=256) (b:=256 ^ s)
  omega
theorem rn_of (k:Int) (bound:Nat) (xs:List Nat) (a:Nat) (it:It) (h:pFind k bound (xs.drop a)=it) (hf:it.fault=0):rNext k bound xs a 0=(it,a+it.size,0):=by
 rw[rNext,if_neg (by omega),h,if_neg (by omega)]
theorem fx_ok (k:Int) (s n:Nat) (ys rest:List Nat) (hk:width k=s) (h3:k≠3) (h4:k≠4) (h5:k≠5) (hy:ys=beOf n s++rest) (hn:n<256 ^ s):pFind k 0 ys=⟨n,0,0,s,0⟩:=by
 simp only[pFind,if_neg h3,if_neg h4,if_neg h5,hk,pFixed]
 have hl:(beOf n s).length=s:=by simp[beOf]
 rw[if_neg (by rw[hy,List.length_append,hl];omega),hy,List.take_append_of_le_length (by omega),List.take_of_length_le (by omega),be_beOf,Nat.mod_eq_of_lt hn]
theorem by_most (most:Nat) (ys bs rest:List Nat) (hb:bs.length<18446744073709551616) (hm:bs.length≤most) (hy:ys=(varOf bs.length (vs bs.length - 1)++bs)++rest):pFind 4 most ys=⟨0,vs bs.length,bs.length,vs bs.length+bs.length,0⟩:=by
 simp only[pFind,show ¬(4:Int)=3 by omega,if_false,if_true]
 rw[List.append_assoc]at hy
 have e:=var_ok bs.length most (bs++rest) hb hm
 rw[←hy]at e
 have hv:=vs_bounds bs.length hb
 have hl:ys.length=vs bs.length+bs.length+rest.length:=by rw[hy];simp[varOf_length];omega
 unfold pBytes
 rw[e]
 simp only[ne_eq,not_true_eq_false,if_false]
 rw[if_neg (by rw[hl];omega)]
end Go.Proofs.YtcceejdaokoihaaGreatDoor.C
namespace Go.Proofs.YtcceejdaokoihaaGreatDoor.C
open Go.RowKit
theorem xor4 (a b c d:Nat):(a ^^^ b) ^^^ (c ^^^ d)=(a ^^^ c) ^^^ (b ^^^ d):=by
 rw[Nat.xor_assoc,Nat.xor_assoc,←Nat.xor_assoc b c d,Nat.xor_comm b c,Nat.xor_assoc]
end Go.Proofs.YtcceejdaokoihaaGreatDoor.C
namespace Go.Proofs.YtcceejdaokoihaaGreatDoor.C
def T (r:Nat):Nat:=(r / 2) ^^^ (if r % 2=1 then 3988292384 else 0)
def Tn:Nat→Nat→Nat
 | 0,r=>r
 | m+1,r=>Tn m (T r)
theorem xor_div2 (a b:Nat):(a ^^^ b) / 2=a / 2 ^^^ b / 2:=by simpa using Nat.xor_div_two_pow (a:=a) (b:=b) (n:=1)
theorem xor_mod2 (a b:Nat):(a ^^^ b) % 2=a % 2 ^^^ b % 2:=by simpa using Nat.xor_mod_two_pow (a:=a) (b:=b) (n:=1)
theorem T_xor (a b:Nat):T (a ^^^ b)=T a ^^^ T b:=by
 unfold T
 rw[xor_div2,xor_mod2,xor4]
 congr 1
 rcases Nat.mod_two_eq_zero_or_one a with h | h <;> rcases Nat.mod_two_eq_zero_or_one b with k | k <;> simp[h,k]
theorem Tn_xor (m:Nat):∀a b,Tn m (a ^^^ b)=Tn m a ^^^ Tn m b:=by
 induction m with
 | zero=>intro a b;rfl
 | succ m ih=>intro a b;simp only[Tn];rw[T_xor,ih]
theorem Tn_add (m n:Nat):∀r,Tn (m+n) r=Tn n (Tn m r):=by
 induction m with
 | zero=>intro r;simp[Tn]
 | succ m ih=>intro r;rw[Nat.add_right_comm];simp only[Tn];exact ih _
theorem T_two (a:Nat):T (2*a)=a:=by simp[T]
theorem Tn_pow (k a:Nat):Tn k (2 ^ k*a)=a:=by
 induction k generalizing a with
 | zero=>simp[Tn]
 | succ k ih =>
  simp only[Tn]
  rw[Nat.pow_succ,Nat.mul_comm (2 ^ k) 2,Nat.mul_assoc,T_two]
  exact ih a
theorem split_xor (k q i:Nat) (h:i<2 ^ k):(2 ^ k*q) ^^^ i=2 ^ k*q+i:=by
 have h0:0<2 ^ k:=Nat.two_pow_pos k
 have h1:((2 ^ k*q) ^^^ i) / 2 ^ k=q:=by
  rw[Nat.xor_div_two_pow,Nat.mul_div_cancel_left _ h0,Nat.div_eq_of_lt h,Nat.xor_zero]
 have h2:((2 ^ k*q) ^^^ i) % 2 ^ k=i:=by
  rw[Nat.xor_mod_two_pow,Nat.mul_mod_right,Nat.mod_eq_of_lt h,Nat.zero_xor]
 have:=Nat.div_add_mod ((2 ^ k*q) ^^^ i) (2 ^ k)
 rw[h1,h2]at this
 exact this.symm
theorem mul_xor (k a b:Nat):2 ^ k*(a ^^^ b)=(2 ^ k*a) ^^^ (2 ^ k*b):=by
 have:=Nat.shiftLeft_xor_distrib (i:=k) (a:=a) (b:=b)
 simpa[Nat.shiftLeft_eq,Nat.mul_comm] using this
theorem tab_T:∀i,i<16→Tn 4 i=tab.getD i 0:=by decide +kernel
theorem four_T (r:Nat):four r=Tn 4 r:=by
 have h:r=(2 ^ 4*(r / 16)) ^^^ (r % 16):=by
  rw[split_xor 4 _ _ (by omega)];omega
 have e:Tn 4 r=Tn 4 (2 ^ 4*(r / 16)) ^^^ Tn 4 (r % 16):=by rw[←Tn_xor,←h]
 rw[e,Tn_pow,tab_T _ (by omega)]
 rfl
theorem eat_T (r c:Nat):eat r c=Tn 8 (r ^^^ c):=by
 unfold eat
 rw[four_T,four_T,←Tn_add]
def val:List Nat→Nat
 | []=>0
 | c :: e=>c+256*val e
theorem val_cons (c:Nat) (e:List Nat) (h:c<256):val (c :: e)=(2 ^ 8*val e) ^^^ c:=by
 rw[split_xor 8 _ _ (by omega)];simp only[val];omega
theorem fold_T:∀(e:List Nat) (r:Nat),(∀x∈e,x<256)→e.foldl eat r=Tn (8*e.length) (r ^^^ val e)
 | [],r,_=>by simp[val,Tn]
 | c :: e,r,h=>by
  rw[List.foldl_cons,fold_T e _ (fun x hx=>h x (List.mem_cons_of_mem _ hx)),val_cons c e (h c (List.mem_cons_self ..)),List.length_cons,Nat.mul_add,Nat.mul_one,Nat.add_comm,Tn_add,eat_T]
  congr 1
  rw[Nat.xor_comm (2 ^ 8*val e) c,←Nat.xor_assoc,Tn_xor 8 (r ^^^ c),Tn_pow]
end Go.Proofs.YtcceejdaokoihaaGreatDoor.C
namespace Go.Proofs.YtcceejdaokoihaaGreatDoor.C
def rv:Nat→Nat→Nat
 | 0,_=>0
 | k+1,n=>2 ^ k*(n % 2)+rv k (n / 2)
theorem rv_lt:∀(k n:Nat),rv k n<2 ^ k
 | 0,_=>by simp[rv]
 | k+1,n=>by
  have:=rv_lt k (n / 2)
  have h:=Nat.mod_two_eq_zero_or_one n
  simp only[rv,Nat.pow_succ]
  rcases h with h | h <;> rw[h] <;> omega
theorem rv_xor:∀(k a b:Nat),rv k (a ^^^ b)=rv k a ^^^ rv k b
 | 0,_,_=>by simp[rv]
 | k+1,a,b=>by
  simp only[rv]
  rw[xor_mod2,xor_div2,rv_xor k,←split_xor k _ _ (Nat.xor_lt_two_pow (rv_lt k _) (rv_lt k _)),←split_xor k _ _ (rv_lt k _),←split_xor k _ _ (rv_lt k _),mul_xor,xor4]
theorem rv_top:∀(k low top:Nat),low<2 ^ k→top<2→rv (k+1) (low+2 ^ k*top)=2*rv k low+top
 | 0,low,top,h,ht=>by
  have:low=0:=by simpa using h
  subst this
  simp[rv]
  omega
 | k+1,low,top,h,ht=>by
  have e1:(low+2 ^ (k+1)*top) % 2=low % 2:=by rw[Nat.pow_succ,Nat.mul_comm (2 ^ k) 2,Nat.mul_assoc];omega
  have e2:(low+2 ^ (k+1)*top) / 2=low / 2+2 ^ k*top:=by rw[Nat.pow_succ,Nat.mul_comm (2 ^ k) 2,Nat.mul_assoc];omega
  have ih:=rv_top k (low / 2) top (by rw[Nat.pow_succ]at h;omega) ht
  rw[rv,e1,e2,ih,rv,Nat.pow_succ]
  have:2 ^ k*2*(low % 2)=2*(2 ^ k*(low % 2)):=by rw[Nat.mul_comm (2 ^ k) 2,Nat.mul_assoc]
  omega
def shl1 (r bit:Nat):Nat:=if r / 2147483648=1 then ((r*2+bit) % 4294967296) ^^^ 79764919 else (r*2+bit) % 4294967296
theorem shl1_lt (r bit:Nat):shl1 r bit<4294967296:=by
 unfold shl1
 split
 ·exact xor_lt (by omega) (by omega)
 ·omega
theorem rv_poly:rv 32 79764919=3988292384:=by decide +kernel
theorem rv_low (low bit:Nat) (hb:bit<2):rv 32 (2*low+bit)=rv 31 low ^^^ (2 ^ 31*bit):=by
 have e1:(2*low+bit) % 2=bit:=by omega
 have e2:(2*low+bit) / 2=low:=by omega
 have h31:=rv_lt 31 low
 have e:rv 32 (2*low+bit)=2 ^ 31*((2*low+bit) % 2)+rv 31 ((2*low+bit) / 2):=rfl
 rw[e,e1,e2,Nat.xor_comm,split_xor 31 _ _ h31]
theorem T_rv (low top:Nat) (hl:low<2 ^ 31) (ht:top<2):T (rv 32 (low+2 ^ 31*top))=rv 31 low ^^^ (if top=1 then 3988292384 else 0):=by
 rw[rv_top 31 low top hl ht]
 generalize rv 31 low=z
 unfold T
 have e1:(2*z+top) / 2=z:=by omega
 have e2:(2*z+top) % 2=top:=by omega
 rw[e1,e2]
theorem rv_shl1 (r bit:Nat) (hr:r<4294967296) (hb:bit<2):rv 32 (shl1 r bit)=T (rv 32 r) ^^^ (2 ^ 31*bit):=by
 obtain⟨low,top,hl,ht,he,h1,h2⟩:∃low top,low<2 ^ 31∧top<2∧r=low+2 ^ 31*top∧r / 2147483648=top∧(r*2+bit) % 4294967296=2*low+bit :=
  ⟨r % 2147483648,r / 2147483648,by omega,by omega,by omega,rfl,by omega⟩
 have hT:=T_rv low top hl ht
 rw[←he]at hT
 unfold shl1
 rw[h1,h2,hT]
 split
 ·rw[rv_xor,rv_poly,rv_low low bit hb,Nat.xor_assoc,Nat.xor_comm (2 ^ 31*bit),←Nat.xor_assoc]
 ·rw[rv_low low bit hb,Nat.xor_zero]
def far (V M:Nat):Nat:=Tn M (2 ^ 32*(V % 2 ^ M))
theorem far_zero (V:Nat):far V 0=0:=by simp[far,Nat.mod_one,Tn]
theorem Tn_succ' (m r:Nat):Tn (m+1) r=T (Tn m r):=by rw[Tn_add];rfl
theorem far_step (V M:Nat):far V (M+1)=T (far V M) ^^^ (2 ^ 31*(V / 2 ^ M % 2)):=by
 unfold far
 rw[Nat.mod_pow_succ,Nat.add_comm (V % 2 ^ M),←split_xor M _ _ (Nat.mod_lt _ (Nat.two_pow_pos M)),mul_xor,Tn_xor,Nat.xor_comm,Tn_succ' M (2 ^ 32*(V % 2 ^ M))]
 congr 1
 rw[←Nat.mul_assoc,←Nat.pow_add,show 32+M=M+1+31 by omega,Nat.pow_add _ (M+1),Nat.mul_assoc,Tn_pow]
theorem far_end (V M:Nat) (h:V<2 ^ (32+M)):far V (32+M)=Tn M V:=by
 unfold far
 rw[Nat.mod_eq_of_lt h,Tn_add,Tn_pow]
theorem val_lt:∀(xs:List Nat),(∀x∈xs,x<256)→val xs<2 ^ (8*xs.length)
 | [],_=>by simp[val]
 | c :: e,h=>by
  have h1:=val_lt e (fun x hx=>h x (List.mem_cons_of_mem _ hx))
  have h2:=h c (List.mem_cons_self ..)
  rw[List.length_cons,Nat.mul_add,Nat.pow_add]
  simp only[val]
  omega
theorem val_bitat:∀(xs:List Nat) (i k:Nat),k<8→(∀x∈xs,x<256)→val xs / 2 ^ (8*i+k) % 2=xs.getD i 0 / 2 ^ k % 2
 | [],i,k,_,_=>by simp[val]
 | c :: e,0,k,hk,h=>by
  simp only[List.getD_cons_zero,Nat.mul_zero,Nat.zero_add,val]
  have e1:256*val e=2 ^ k*(2*(2 ^ (7 - k)*val e)):=by
   have:(256:Nat)=2 ^ k*(2*2 ^ (7 - k)):=by
    rw[←Nat.pow_succ',←Nat.pow_add,show k+(7 - k+1)=8 by omega]
   rw[this]
   simp only[Nat.mul_assoc]
  rw[e1,Nat.add_mul_div_left _ _ (Nat.two_pow_pos k)]
  omega
 | c :: e,i+1,k,hk,h=>by
  have ih:=val_bitat e i k hk (fun x hx=>h x (List.mem_cons_of_mem _ hx))
  have hc:=h c (List.mem_cons_self ..)
  simp only[List.getD_cons_succ,val]
  rw[show 8*(i+1)+k=8+(8*i+k) by omega,Nat.pow_add,←Nat.div_div_eq_div_mul,show (c+256*val e) / 2 ^ 8=val e by omega]
  exact ih
def docV (xs:List Nat):Nat:=4294967295 ^^^ val xs
theorem doc_bit (xs:List Nat) (i k:Nat) (hk:k<8) (hs:∀x∈xs,x<256):docV xs / 2 ^ (8*i+k) % 2=if i<4 then 1 - xs.getD i 0 / 2 ^ k % 2 else xs.getD i 0 / 2 ^ k % 2:=by
 rw[←val_bitat xs i k hk hs]
 have h1:(docV xs).testBit (8*i+k)=((4294967295:Nat).testBit (8*i+k) ^^ (val xs).testBit (8*i+k)):=Nat.testBit_xor ..
 have h2:(4294967295:Nat).testBit (8*i+k)=decide (8*i+k<32):=by
  have:=Nat.testBit_two_pow_sub_one 32 (8*i+k)
  simpa using this
 rw[h2]at h1
 simp only[Nat.testBit_eq_decide_div_mod_eq]at h1
 have p:=Nat.mod_two_eq_zero_or_one (docV xs / 2 ^ (8*i+k))
 have q:=Nat.mod_two_eq_zero_or_one (val xs / 2 ^ (8*i+k))
 by_cases hi:i<4
 ·have h4:8*i+k<32:=by omega
  rcases p with p | p <;> rcases q with q | q <;> simp[p,q,h4,hi]at h1 ⊢
 ·have h4:¬8*i+k<32:=by omega
  rcases p with p | p <;> rcases q with q | q <;> simp[p,q,h4,hi]at h1 ⊢
theorem doc_end (xs:List Nat) (hs:∀x∈xs,x<256):far (docV xs) (32+8*xs.length)=reg xs:=by
 rw[far_end _ _ ?_]
 ·unfold reg docV
  rw[fold_T _ _ hs]
 ·apply Nat.xor_lt_two_pow
  ·exact Nat.lt_of_lt_of_le (by omega:4294967295<2 ^ 32) (Nat.pow_le_pow_right (by omega) (by omega))
  ·exact Nat.lt_of_lt_of_le (val_lt xs hs) (Nat.pow_le_pow_right (by omega) (by omega))
end Go.Proofs.YtcceejdaokoihaaGreatDoor.C
