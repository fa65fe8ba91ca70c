import Derived.Lib.AppendZerosOnto
import Derived.Test.YtcceejdaokoihaaGreatDoorDP
set_option maxRecDepth 100000
namespace Go.Proofs.YtcceejdaokoihaaGreatDoor
open Go.RowKit
theorem Tryz.infoU8:(Tryz.prog.info? 5).map (fun i=>(i.zero,i.size,i.bytes))=some (some (.int .u8 0),1,1):=by kernel_rfl
theorem Tryz.infoUn:(Tryz.prog.info? 189).map (fun i=>(i.zero,i.size,i.bytes))=some (some (.int .i32 0),1,4):=by kernel_rfl
theorem vals_len (xs:List Nat):(vals xs).length=xs.length:=by simp[vals]
theorem vals_take (xs:List Nat) (n:Nat):vals (xs.take n)=(vals xs).take n:=by simp[vals,List.map_take]
theorem vals_app (xs ys:List Nat):vals (xs++ys)=vals xs++vals ys:=by simp[vals]
theorem vals_one (xs:List Nat):∀u∈vals xs,u.oneCell'=true:=fun u hu=>by
 simp only[vals,List.mem_map]at hu
 obtain⟨x,_,rfl⟩:=hu
 rfl
def uvals (us:List Int):List Value:=us.map fun u=>Value.int .i32 u
theorem uvals_len (us:List Int):(uvals us).length=us.length:=by simp[uvals]
theorem owns_cut {w:World} {B:Nat} {e:TypeId} {a:Option Addr} {n c:Nat} {xs:List Value} (h:w.ownsRow B e 1 (.slice a n c) n xs) (m:Nat) (hm:m≤n):w.ownsRow B e 1 (.slice a m c) m (xs.take m):=by
 have h1:=h.1
 refine⟨by simp;omega,?_⟩
 rcases h.2 with ⟨h2,h3⟩ | ⟨g,cap,cur,h2,h3,h4,h5,h6,h7,h8⟩
 ·cases h2
  left
  have:m=0:=by omega
  subst this
  exact⟨rfl,rfl⟩
 ·cases h2
  refine Or.inr ⟨g,c,cur,rfl,h3,h4,by omega,h6,h7,?_⟩
  rw[←h8,List.take_take]
  congr 1;omega
theorem owns_form {w:World} {B:Nat} {e:TypeId} {v:Value} {s n:Nat} {xs:List Value} (h:w.ownsRow B e s v n xs):∃a c,v=.slice a n c∧n≤c∧c≤maxLen:=by
 rcases h.2 with ⟨h1,h2⟩ | ⟨g,cap,cur,h1,_,_,h3,h4,_⟩
 ·exact⟨none,0,by rw[h1,h2],by omega,by unfold maxLen;omega⟩
 ·exact⟨_,cap,h1,h3,h4⟩
structure Us (w:World) (up:Option Addr) (us:List Int):Prop where
 lie:us=[]∨∃g,up=some ⟨g,0,none⟩∧g<w.heap.size∧∀j,j<us.length→w.cell? ⟨g,j,none⟩=some (.int .i32 (us.getD j 0))
theorem owns_us {w:World} {a:Option Addr} {n c:Nat} {us:List Int} (h:w.ownsRow 0 189 1 (.slice a n c) n (uvals us)):Us w a us:=by
 rcases h.2 with ⟨h2,h3⟩ | ⟨g,cap,cur,h2,h3,h4,h5,h6,h7,h8⟩
 ·refine⟨Or.inl ?_⟩
  have:=h.1
  rw[uvals_len]at this
  exact List.eq_nil_of_length_eq_zero (by omega)
 ·cases h2
  refine⟨Or.inr ⟨g,rfl,lt_of_block h4,fun j hj=>?_⟩⟩
  simp only[World.cell?,h4]
  have hl:=h.1
  rw[uvals_len]at hl
  have:(uvals us)[j]?=some (.int .i32 (us.getD j 0)):=by simp[uvals,List.getD,hj]
  rw[←h8,List.getElem?_take,if_pos (by omega)]at this
  simpa using this
theorem owns_us_take {w:World} {a:Option Addr} {n c m:Nat} {us:List Int} (h:w.ownsRow 0 189 1 (.slice a n c) n (uvals us)) (hm:m≤n):Us w a (us.take m):=by
 have:=owns_cut h m hm
 rw[show (uvals us).take m=uvals (us.take m) from by simp[uvals,List.map_take]]at this
 exact owns_us this
theorem owns_bytes {w:World} {B:Nat} {a:Option Addr} {n c:Nat} {xs:List Nat} (h:w.ownsRow B 5 1 (.slice a n c) n (vals xs)) (hs:∀x∈xs,x<256):Bytes w a xs:=by
 refine⟨hs,?_⟩
 rcases h.2 with ⟨h2,h3⟩ | ⟨g,cap,cur,h2,h3,h4,h5,h6,h7,h8⟩
 ·left
  have:=h.1
  rw[vals_len]at this
  exact List.eq_nil_of_length_eq_zero (by omega)
 ·cases h2
  refine Or.inr ⟨g,0,rfl,lt_of_block h4,fun j hj=>?_⟩
  simp only[World.cell?,h4,Nat.zero_add]
  have hl:=h.1
  rw[vals_len]at hl
  have:(vals xs)[j]?=some (.int .u8 (xs.getD j 0)):=by simp[vals,List.getD,hj]
  rw[←h8,List.getElem?_take,if_pos (by omega)]at this
  simpa using this
theorem length_neg (w:World) (n:Nat) (hn:n<2147483648) :
  Calls Tryz.prog 145 #[.int .i32 (-1 - (n:Int))] w fun e w'=>e=.returned (.tuple #[.int .i64 n,.bool true])∧w'=w:=by
 have h1:(-1 - (-1 - (n:Int)))=(n:Int):=by omega
 have h2:(-1 - (n:Int))<0:=by omega
 generalize (-1 - (n:Int))=u at *
 go_enter Tryz.func145,Tryz.ntmps145
 go_wp2
 exact bodyPost_ret (v:=.tuple #[.int .i64 n,.bool true]) (by simp[results,Tryz.results145,go_sem]) rfl ⟨rfl,rfl⟩
theorem length_pos (w:World) (n:Nat) (hn:n<256) :
  Calls Tryz.prog 145 #[.int .i32 (n:Int)] w fun e w'=>e=.returned (.tuple #[.int .i64 (-1 - (n:Int)),.bool false])∧w'=w:=by
 have h1:∀x,-1 - (n:Int)=x→-256≤x∧x≤-1:=fun x hx=>by omega
 obtain⟨x,hx⟩:∃x,-1 - (n:Int)=x:=⟨_,rfl⟩
 have:=h1 x hx
 go_enter Tryz.func145,Tryz.ntmps145
 go_wp2
 exact bodyPost_ret (v:=.tuple #[.int .i64 (-1 - (n:Int)),.bool false]) (by simp[results,Tryz.results145,go_sem,hx]) rfl ⟨rfl,rfl⟩
theorem cutTo_any (w:World) (n:Nat) (hn:n<2147483648) :
  Calls Tryz.prog 160 #[.int .i64 (n:Int)] w fun e w'=>e=.returned (.int .i32 (-1 - (n:Int)))∧w'=w:=by
 obtain⟨x,hx⟩:∃x,-1 - (n:Int)=x:=⟨_,rfl⟩
 have h1 : -2147483648≤x∧x≤-1:=by omega
 go_enter Tryz.func160,Tryz.ntmps160
 go_wp2
 go_ret
 exact⟨by simp[hx],rfl⟩
def Lies (w:World) (v v':Value):Prop:=v'.ownBlock=v.ownBlock∨∃g,v'.ownBlock=some g∧w.heap.size≤g
theorem own_len (a:Option Addr) (l m c d:Nat):(Value.slice a l c).ownBlock=(Value.slice a m d).ownBlock:=by cases a <;> rfl
theorem Lies.len {w:World} {v:Value} {a:Option Addr} {l c:Nat} (h:Lies w v (.slice a l c)) (m:Nat):Lies w v (.slice a m c):=by
 unfold Lies at *
 rw[own_len a m l c c]
 exact h
theorem Us.grown {w w':World} {up:Option Addr} {us:List Int} {r:Option Nat} (h:Us w up us) (hg:w.grownBy w' r) (hr:∀g o,up=some ⟨g,o,none⟩→some g≠r):Us w' up us:=by
 refine⟨h.lie.imp id ?_⟩
 rintro ⟨g,e,hlt,hc⟩
 exact⟨g,e,Nat.lt_of_lt_of_le hlt hg.size,fun j hj=>by rw[World.cell?_of_block (hg.block g hlt (hr g 0 e))];exact hc j hj⟩
set_option maxHeartbeats 1000000 in
theorem carry_any (w:World) (v:Value) (n:Nat) (xs:List Nat) (up:Option Addr) (m c:Nat) (us:List Int) (hm:us.length=m) (hs:∀x∈xs,x<256)
  (ho:w.ownsRow 0 5 1 v n (vals xs)) (hu:Us w up us) (hok:okU xs us) (hfar:∀g o,up=some ⟨g,o,none⟩→some g≠v.ownBlock) (hn:n+m≤1099511627776) :
  Calls Tryz.prog 104 #[v,.slice up m c] w fun e w'=>∃v',e=.returned v'∧w'.ownsRow 0 5 1 v' (carryL xs us).length (vals (carryL xs us))∧w.grownBy w' v.ownBlock∧Lies w v v':=by
 obtain⟨i0,hi,hz0,hz1,hz2⟩:=info_parts Tryz.infoU8
 have hnl:n=xs.length:=by have:=ho.1;rw[vals_len]at this;omega
 subst hnl
 obtain⟨a0,c0,hv0,hc0,hc1⟩:=owns_form ho
 subst hv0
 have HO:=hide ho
 have HU:=hide hu
 have HOK:=hide hok
 have HF:=hide hfar
 have HS:=hide hs
 have HM:=hide hm
 have hml:m≤1099511627776:=by omega
 have HN:=hide hn
 clear ho hu hok hfar hs hc0 hc1 hn
 go_enter Tryz.func104,Tryz.ntmps104
 go_wp2
 go_loopw [0,11] (fun b i wr=>∃(k:Nat) (a:Option Addr) (l c:Nat) (ys:List Nat),k≤m∧i=.int .i64 k∧b=.slice a l c∧Hid (ys=carryL xs (us.take k))∧Hid (wr.ownsRow 0 5 1 (.slice a l c) l (vals ys))∧Hid (w.grownBy wr (Value.slice a0 xs.length c0).ownBlock)∧Hid (Lies w (.slice a0 xs.length c0) (.slice a l c))) (fun _ i _=>m - (intOf i).toNat)
 case atStart=>exact⟨0,a0,xs.length,c0,xs,Nat.zero_le _,rfl,rfl,rfl,HO,⟨rfl,rfl,rfl,Nat.le_refl _,fun _ _ _=>rfl⟩,Or.inl rfl⟩
 case round =>
  obtain⟨k,a,l,cc,ys,hk,rfl,rfl,HY,HR,HG,HL⟩:=hrel
  have hyl:ys.length=l:=by have:=HR.out.1;rw[vals_len]at this;omega
  obtain⟨_,_,e1,hlc,hcm⟩:=owns_form HR.out
  cases e1
  by_cases hlt:k<m
  ·have hlt':(k:Int)<(m:Int):=by omega
   have hget:us[k]?=some (us.getD k 0):=by rw[List.getD,List.getElem?_eq_getElem (by omega)];rfl
   have hyb:ys.length≤1099511627776 - 1:=by
    have e1:=carry_len xs (us.take k)
    have e2:(us.take k).length=k:=by rw[List.length_take];have:=HM.out;omega
    have:=HN.out
    have e3:=HY.out
    rw[←e3]at e1
    omega
   have HUr:=hide (HU.out.grown HG.out HF.out)
   obtain⟨g,e,hg,hc⟩:∃g,up=some ⟨g,0,none⟩∧g<wr.heap.size∧∀j,j<us.length→wr.cell? ⟨g,j,none⟩=some (.int .i32 (us.getD j 0)):=by
    rcases HUr.out.lie with h | h
    ·have:=HM.out;rw[h]at this;simp at this;omega
    ·exact h
   subst e
   have hcell:=hc k (by have:=HM.out;omega)
   have HStep:Hid (carryL xs (us.take (k+1))=stepU ys (us.getD k 0)):=by
    show _=_
    rw[take_snoc' us k _ hget,carry_snoc,←HY.out]
   have hu1:=HOK.out k _ hget
   rw[←HY.out]at hu1
   have HU1:=hide hu1
   clear hu1 hc hget
   generalize us.getD k 0=u at *
   by_cases hneg:u<0
   ·obtain⟨q,hq⟩:∃q:Nat,u = -1 - (q:Int):=⟨(-1 - u).toNat,by omega⟩
    subst hq
    have hq1:=HU1.out.1 hneg
    have hq2:q≤l:=by have:=hq1.1;omega
    have hq3:q<2147483648:=by have:=hq1.2;omega
    have HT:Hid (stepU ys (-1 - (q:Int))=ys.take q):=by
     show _=_
     unfold stepU
     rw[if_pos hneg]
     congr 1;omega
    clear hq1
    have HLen:=hide (fun w=>length_neg w q hq3)
    generalize (-1 - (q:Int))=u at *
    go_wp2_with fail
    refine(HLen.out _).mono ?_
    rintro e w2 ⟨rfl,rfl⟩
    have hqc:(q:Int)≤(cc:Int):=by omega
    go_wp2
    go_roundw
    case rel=>exact⟨k+1,a,q,cc,ys.take q,by omega,by go_num,rfl,by show _=_;rw[HStep.out,HT.out],by show World.ownsRow _ _ _ _ _ _ _;rw[vals_take];exact owns_cut HR.out q hq2,HG,HL.out.len q⟩
    case measure=>simp[intOf];omega
   ·obtain⟨x,hx⟩:∃x:Nat,u=(x:Int):=⟨u.toNat,by omega⟩
    subst hx
    have hx2:x<256:=by have:=HU1.out.2;omega
    have HT:Hid (stepU ys (x:Int)=ys++[x]):=by
     show _=_
     unfold stepU
     rw[if_neg hneg]
     simp
    have HLen:=hide (fun w=>length_pos w x hx2)
    obtain⟨z,hz⟩:∃z,-1 - (x:Int)=z:=⟨_,rfl⟩
    rw[hz]at HLen
    clear hz
    go_wp2_with fail
    refine(HLen.out _).mono ?_
    rintro e w2 ⟨rfl,rfl⟩
    go_wp2_with (at_builtin;refine wpList_append_lies _ rfl (.tmp 24) (.tmp 27) 99 rfl 0 5 i0 (.int .u8 0) 1 1 Tryz.underlying99 hi hz0 hz1 hz2 rfl (by omega) (.slice a l cc) l (vals ys) rfl (HR.out.alloc _) ⟨w2.heap.size,0,none⟩ 1 1 [.int .u8 (x:Int)] rfl rfl (World.news_of_block (heap_alloc_new w2 (.cells #[.int .u8 (x:Int)] 5))) (by simp[Value.oneCell']) (by omega) (by unfold maxLen;omega) (by omega) (by omega) _ rfl ?_;intro g' cap' w4 hown4 hgrow4 hat4 hltg)
    have HO4:Hid (w4.ownsRow 0 5 1 (.slice (some ⟨g',0,none⟩) (l+1) cap') (l+1) (vals (ys++[x]))):=by
     show World.ownsRow _ _ _ _ _ _ _
     rw[vals_app];exact hown4
    have HG4:Hid (w.grownBy w4 (Value.slice a0 xs.length c0).ownBlock):=by
     refine(HG.out.andThen (World.grownBy_alloc w2 (.cells #[.int .u8 (x:Int)] 5) none) (fun j hj=>by cases hj)).andThen hgrow4 (fun j hj=>?_)
     rcases HL.out with h | ⟨g2,h,h2⟩
     ·right;rw[←h];exact hj
     ·left;rw[h]at hj;cases hj;exact h2
    have HL4:Hid (Lies w (.slice a0 xs.length c0) (.slice (some ⟨g',0,none⟩) (l+1) cap')):=by
     show Lies _ _ _
     rcases hat4 with h | h
     ·rcases HL.out with h1 | ⟨g2,h1,h2⟩
      ·left;rw[←h1,h];rfl
      ·right;rw[h1]at h;cases h;exact⟨_,rfl,h2⟩
     ·right
      refine⟨g',rfl,?_⟩
      have:=HG.out.size
      simp at h;omega
    clear hown4 hgrow4 hat4
    go_wp2
    go_roundw
    case rel=>exact⟨k+1,_,l+1,cap',ys++[x],by omega,by go_num,rfl,by show _=_;rw[HStep.out,HT.out],HO4,HG4,HL4⟩
    case measure=>simp[intOf];omega
  ·obtain rfl:k=m:=by omega
   have HYe:Hid (ys=carryL xs us):=by
    show _=_
    rw[HY.out,List.take_of_length_le (by have:=HM.out;omega)]
   go_wp2
   go_ret
   have e:=HYe.out
   subst e
   exact⟨_,rfl,by rw[hyl];exact HR.out,HG.out,HL.out⟩
theorem blk3 {w:World} {b:Nat} {x y z:Value} {t:TypeId} (h:w.heap[b]?=some (.cells #[x,y,z] t (0,0))):w.cell? ⟨b,0,none⟩=some x∧w.cell? ⟨b,1,none⟩=some y∧w.cell? ⟨b,2,none⟩=some z∧(∀o,w.frozen? ⟨b,o,none⟩=false) :=
 ⟨by simp[World.cell?,h],by simp[World.cell?,h],by simp[World.cell?,h],fun o=>by simp[World.frozen?,h]⟩
theorem block_set {w:World} {g i:Nat} {cs:Array Value} {t:TypeId} {fr:Nat × Nat} (h:w.heap[g]?=some (.cells cs t fr)) (v:Value):(w.setCell ⟨g,i,none⟩ v).heap[g]?=some (.cells (cs.setIfInBounds i v) t fr):=by
 rw[setCell_eq_setRow w g i cs t fr v h]
 exact setRow_heap w g _ _ t _ h
theorem owns_ne {w:World} {B n k s:Nat} {t t':TypeId} {v:Value} {xs:List Value} {C:Array Value} {fr:Nat × Nat} (h:w.ownsRow B t s v n xs) (hk:w.heap[k]?=some (.cells C t' fr)) (ht:t'≠t):some k≠v.ownBlock:=by
 intro e
 rcases h.2 with ⟨h1,h2⟩ | ⟨g',cap,cur,h1,_,hg,_⟩
 ·rw[h1]at e;simp[Value.ownBlock]at e
 ·rw[h1]at e;simp[Value.ownBlock]at e;subst e
  rw[hg]at hk;simp at hk;exact ht hk.2.1.symm
theorem owns_apart {w:World} {B B' n m s s':Nat} {t t':TypeId} {v v':Value} {xs ys:List Value} (h:w.ownsRow B t s v n xs) (h':w.ownsRow B' t' s' v' m ys) (ht:t≠t'):∀g,v.ownBlock=some g→some g≠v'.ownBlock:=by
 intro g hg
 rcases h.2 with ⟨h1,_⟩ | ⟨g',cap,cur,h1,_,hb,_⟩
 ·rw[h1]at hg;simp[Value.ownBlock]at hg
 ·rw[h1]at hg;simp[Value.ownBlock]at hg;subst hg
  exact owns_ne h' hb ht
structure Wr2 (b:Nat) (r:Option Nat) (w w':World):Prop where
 os:w'.os=w.os
 tape:w'.tape=w.tape
 output:w'.output=w.output
 size:w.heap.size≤w'.heap.size
 block:∀k,k<w.heap.size→k≠b→some k≠r→w'.heap[k]?=w.heap[k]?
theorem Wr2.refl (b:Nat) (r:Option Nat) (w:World):Wr2 b r w w:=⟨rfl,rfl,rfl,Nat.le_refl _,fun _ _ _ _=>rfl⟩
theorem Wr2.grown {b:Nat} {r r':Option Nat} {w w1 w2:World} (h:Wr2 b r w w1) (k:w1.grownBy w2 r') (hr:∀j,r'=some j→w.heap.size≤j∨r=some j∨j=b):Wr2 b r w w2 :=
 ⟨k.os.trans h.os,k.tape.trans h.tape,k.output.trans h.output,Nat.le_trans h.size k.size,fun i hi h1 h2=>(k.block i (Nat.lt_of_lt_of_le hi h.size) (fun e=>by
  rcases hr i e.symm with h3 | h3 | h3
  ·omega
  ·exact h2 h3.symm
  ·exact h1 h3)).trans (h.block i hi h1 h2)⟩
theorem Wr2.set {b:Nat} {r:Option Nat} {w w1:World} (h:Wr2 b r w w1) (i:Nat) (v:Value):Wr2 b r w (w1.setCell ⟨b,i,none⟩ v) :=
 ⟨h.os,h.tape,h.output,by simpa[World.setCell] using h.size,fun k hk h1 h2=>by rw[Below.heap_setCell _ _ _ _ h1];exact h.block k hk h1 h2⟩
theorem Wr2.below {b:Nat} {r:Option Nat} {w w1 w2:World} (h:Wr2 b r w w1) (k:Below w1.heap.size w1 w2):Wr2 b r w w2 :=
 ⟨k.os.trans h.os,k.tape.trans h.tape,k.output.trans h.output,Nat.le_trans h.size k.size,fun i hi h1 h2=>(k.block i (Nat.lt_of_lt_of_le hi h.size)).trans (h.block i hi h1 h2)⟩
theorem Wr2.drew {b:Nat} {r:Option Nat} {w w1:World} (h:Wr2 b r w w1):Wr2 b r w w1.drew:=⟨h.os,h.tape,h.output,h.size,h.block⟩
structure Flw (w:World) (b:Nat) (sv uv:Value) (f:Fil):Prop where
 blk:w.heap[b]?=some (.cells #[sv,uv,.int .i64 (f.all.length:Int)] 102 (0,0))
 safe:w.ownsRow 0 5 1 sv f.safe.length (vals f.safe)
 unit:w.ownsRow 0 189 1 uv f.units.length (uvals f.units)
 ok:f.ok
theorem Lies.refl (w:World) (v:Value):Lies w v v:=Or.inl rfl
theorem Lies.trans {w w1:World} {v v1 v2:Value} (h:Lies w v v1) (k:Lies w1 v1 v2) (hs:w.heap.size≤w1.heap.size):Lies w v v2:=by
 rcases k with k | ⟨g,k1,k2⟩
 ·rcases h with h | ⟨g,h1,h2⟩
  ·exact Or.inl (k.trans h)
  ·exact Or.inr ⟨g,k.trans h1,h2⟩
 ·exact Or.inr ⟨g,k1,Nat.le_trans hs k2⟩
theorem zero_cells (k:Nat):(Builtin.zeroCells (Value.int .i32 0).cells k).size=k:=by rw[size_zeroCells];simp[Value.cells]
theorem wpList_app_run {w:World} {ops:Array Oper} {rest:List Oper} {o:Oper} {a:Act} {Q:Exit→Act→World→Prop} (hgd:o.guard=none) (s x:Operand) (t tn:TypeId)
  (ho:o.op=.call { callee:=.builtin .append,args:=#[s,x],argTypes:=#[t,tn] }) (v1 v2 v':Value) (w':World) (hs:a.eval s=v1) (hx:a.eval x=v2)
  (hr:(Builtin.append_ #[t,tn] o.type #[v1,v2]).run Tryz.prog w=.ok v' w') (h:wpList Tryz.prog ops Q rest (a.put o.dst v') w'):wpList Tryz.prog ops Q (o :: rest) a w:=by
 refine wpList_plain hgd fun K hK=>?_
 unfold Oper.wp execOp
 simp only[ho,resolve,invoke,builtin,Sem.run_bind,Sem.run_pure,Result.andThen_ok,List.map_toArray,List.map_cons,List.map_nil,hs,hx,hr]
 exact hK _ _ h
set_option maxHeartbeats 1000000 in
theorem grow_any (w:World) (v:Value) (n m:Nat) (us:List Int) (ho:w.ownsRow 0 189 1 v n (uvals us)) (hn:n+m≤1099511627776) :
  Calls Tryz.prog 125 #[v,.int .i64 (m:Int)] w fun e w'=>∃a c,e=.returned (.slice a n c)∧w'.ownsRow 0 189 1 (.slice a n c) n (uvals us)∧Below w.heap.size w w'∧Lies w v (.slice a n c):=by
 obtain⟨i0,hi,hz0,hz1,hz2⟩:=info_parts Tryz.infoUn
 obtain⟨a,c,rfl,hnc,hcm⟩:=owns_form ho
 have hnc':(n:Int)≤(c:Int):=by omega
 have hcm':c≤9223372036854775807:=by unfold maxLen at hcm;omega
 by_cases hroom:m≤c - n
 ·have HO:=hide ho
  clear ho hz0 hz1 hz2 hi
  have hr:(m:Int)≤(c:Int) - (n:Int):=by omega
  clear hroom
  go_enter Tryz.func125,Tryz.ntmps125
  go_wp2
  go_ret
  exact⟨a,c,rfl,HO.out,Below.refl _ _,Or.inl rfl⟩
 ·obtain⟨q,hq⟩:∃q:Nat,q=m - (c - n):=⟨_,rfl⟩
  have hq0:0<q:=by omega
  have hcq:c+q=n+m:=by omega
  have hfull:∃olds:List Value,olds.length=c∧olds.take n=uvals us∧(∀w',w'.heap=w.heap→(Builtin.firstCells i0.size c (.slice a c c)).run Tryz.prog w'=.ok olds.toArray w'):=by
   rcases ho.2 with ⟨h1,h2⟩ | ⟨g,cap,cur,h1,_,h3,h4,h5,h6,h7⟩
   ·cases h1
    have:us=[]:=List.eq_nil_of_length_eq_zero (by have:=ho.1;rw[uvals_len]at this;omega)
    subst this
    exact⟨[],rfl,rfl,fun w' _=>run_firstCells_none (P:=Tryz.prog) (w:=w') _ _ _ _⟩
   ·cases h1
    refine⟨cur.toList,by simp;omega,by rw[←h7];simp,fun w' e=>?_⟩
    refine run_firstCells_some (P:=Tryz.prog) (w:=w') _ _ _ _ _ cur.toList (by rw[hz1];simp;omega) (fun j u hj=>?_)
    have hb:w'.heap[g]?=some (.cells cur 189 (0,0)):=by rw[e];exact h3
    unfold Addr.add
    simp at hj
    by_cases h0:j=0
    ·subst h0;simp[World.cell?,hb];simpa using hj
    ·simp[h0,World.cell?,hb];simpa using hj
  obtain⟨olds,hol,hot,hof⟩:=hfull
  have hrun:=Lib.run_append_grow_zeros (P:=Tryz.prog) w 100 3 100 189 i0 (.int .i32 0) .i64 .i64 Tryz.underlying100 Tryz.underlying3 hi hz0 a c c olds (hof _ rfl) q hq0 (by omega) (by omega) (by omega) (by rw[hz2];omega) (by
   rw[hz2];exact growslice_fits (by omega) (by omega))
  obtain⟨cap,hcap⟩:∃cap,grownCap w (c+q) c 189=cap:=⟨_,rfl⟩
  have hge:=grownCap_ge w (c+q) c 189
  have hle:=grownCap_le_maxLen w (c+q) c 189 (by unfold maxLen;omega)
  rw[hcap]at hrun hge hle
  have HR:Hid ((w.drew.alloc (.cells (olds.toArray++Builtin.zeroCells (Value.int .i32 0).cells q++Builtin.zeroCells (Value.int .i32 0).cells (cap - (c+q))) 189)).ownsRow 0 189 1 (.slice (some ⟨w.heap.size,0,none⟩) n cap) n (uvals us)):=by
   refine⟨ho.1,Or.inr ⟨w.heap.size,cap,_,rfl,Nat.zero_le _,heap_alloc_new w.drew _,by omega,hle,?_,?_⟩⟩
   ·simp only[Array.size_append,List.size_toArray,zero_cells,hol];omega
   ·simp only[Array.toList_append,List.append_assoc,Nat.mul_one]
    rw[List.take_append_of_le_length (by omega)]
    exact hot
  have HB:Hid (Below w.heap.size w (w.drew.alloc (.cells (olds.toArray++Builtin.zeroCells (Value.int .i32 0).cells q++Builtin.zeroCells (Value.int .i32 0).cells (cap - (c+q))) 189))):=((Below.refl _ w).drew).alloc (Nat.le_refl _) _
  generalize w.drew.alloc (.cells (olds.toArray++Builtin.zeroCells (Value.int .i32 0).cells q++Builtin.zeroCells (Value.int .i32 0).cells (cap - (c+q))) 189)=w9 at *
  have hncap:(n:Int)≤(cap:Int):=by omega
  have hr:(c:Int) - (n:Int)<(m:Int):=by omega
  have hcq1:(n:Int)≤((c+q:Nat):Int):=by omega
  have hc2:(c:Int)≤1099511627776:=by omega
  have HRun:Hid (∀z:Int,z=(m:Int) - ((c:Int) - (n:Int))→Sem.run Tryz.prog (Builtin.append_ #[100,3] 100 #[Value.slice a c c,Value.int IntKind.i64 z]) w=Result.ok (Value.slice (some { block:=w.heap.size,off:=0 }) (c+q) cap) w9):=fun z hz=>by
   have:z=(q:Int):=by omega
   rw[this];exact hrun
  clear hof hot hol ho hge hle hcap hz0 hz1 hz2 hi hrun hq hroom hcq hq0
  generalize c+q=cq at *
  go_enter Tryz.func125,Tryz.ntmps125
  go_wp2_with (at_builtin;refine wpList_app_run rfl (.tmp 20) (.tmp 21) 100 3 rfl (.slice a c c) _ _ _ rfl rfl (HRun.out _ (by first | rfl | (simp <;> omega) | omega)) ?_)
  go_wp2
  go_ret
  exact⟨_,cap,rfl,HR.out,HB.out,Or.inr ⟨_,rfl,Nat.le_refl _⟩⟩
theorem bytes_kept {w w':World} {sp:Option Addr} {xs:List Nat} (h:Bytes w sp xs) (hs:w.heap.size≤w'.heap.size) (hk:∀g o,sp=some ⟨g,o,none⟩→g<w.heap.size→w'.heap[g]?=w.heap[g]?):Bytes w' sp xs:=by
 refine⟨h.small,?_⟩
 rcases h.lie with h0 | ⟨g,o,e,hg,hc⟩
 ·exact Or.inl h0
 ·exact Or.inr ⟨g,o,e,Nat.lt_of_lt_of_le hg hs,fun j hj=>by rw[World.cell?_of_block (hk g o e hg)];exact hc j hj⟩
theorem uvals_app (a b:List Int):uvals (a++b)=uvals a++uvals b:=by simp[uvals]
theorem bus_take (xs:List Nat) (k:Nat) (h:k<xs.length):bus (xs.take (k+1))=bus (xs.take k)++[((xs.getD k 0:Nat):Int)]:=by
 rw[take_snoc' xs k (xs.getD k 0) (by rw[List.getD,List.getElem?_eq_getElem h];rfl)]
 simp[bus]
theorem Wr2.grown0 {b:Nat} {r r':Option Nat} {w w1 w2:World} {v v1:Value} (h:Wr2 b r w w1) (hl:Lies w v v1) (hr:r=v.ownBlock) (k:w1.grownBy w2 r') (hk:r'=v1.ownBlock∨r'=none):Wr2 b r w w2 :=
 h.grown k (fun j hj=>by
  rcases hk with hk | hk
  ·rw[hk]at hj
   rcases hl with h1 | ⟨g,h1,h2⟩
   ·rw[h1]at hj;exact Or.inr (Or.inl (hr.trans hj))
   ·rw[h1]at hj;cases hj;exact Or.inl h2
  ·rw[hk]at hj;cases hj)
theorem owns_set {w:World} {B n s b i:Nat} {t:TypeId} {v u:Value} {xs:List Value} (h:w.ownsRow B t s v n xs) (hb:some b≠v.ownBlock):(w.setCell ⟨b,i,none⟩ u).ownsRow B t s v n xs :=
 owns_same h (fun g hg=>Below.heap_setCell _ _ _ _ (by rintro rfl;exact hb hg.symm))
set_option maxHeartbeats 1000000 in
theorem add_any (w:World) (b:Nat) (sv uv:Value) (f:Fil) (h:Flw w b sv uv f) (sp:Option Addr) (m cap:Nat) (xs:List Nat) (hm:xs.length=m) (hx:Bytes w sp xs)
  (hfar:xs=[]∨∀g o,sp=some ⟨g,o,none⟩→g≠b∧some g≠uv.ownBlock) (hn:f.all.length+f.units.length+m≤1099511627776) :
  Calls Tryz.prog 79 #[.pointer (some ⟨b,0,none⟩),.slice sp m cap] w fun e w'=>∃uv',e=.returned (.tuple #[])∧Flw w' b sv uv' (f.add xs)∧Wr2 b uv.ownBlock w w'∧Lies w uv uv':=by
 obtain⟨i0,hi,hz0,hz1,hz2⟩:=info_parts Tryz.infoUn
 have HFl:=hide h
 have HX:=hide hx
 have HF:=hide hfar
 have HM:=hide hm
 obtain⟨q0,q1,q2,qf⟩:=blk3 h.blk
 have hbl:=lt_of_block h.blk
 obtain⟨N,hN⟩:∃N,f.all.length=N:=⟨_,rfl⟩
 obtain⟨U,hU⟩:∃U,f.units.length=U:=⟨_,rfl⟩
 have HG:=hide (grow_any w uv f.units.length m f.units h.unit (by omega))
 have HA:=hide hN
 have HU:=hide hU
 rw[hN]at q2 hn
 rw[hU]at hn
 clear h hx hfar hm hN hU
 go_enter Tryz.func79,Tryz.ntmps79
 go_wp2_with fail
 refine HG.out.mono ?_
 rintro e w1 ⟨a1,c1,rfl,hown1,hb1,hl1⟩
 rw[HU.out]at hown1 hl1
 rw[HU.out]
 have HB1:Hid (w1.heap[b]?=some (.cells #[sv,uv,.int .i64 (N:Int)] 102 (0,0))):=by
  show _=_
  rw[hb1.block b hbl,HFl.out.blk,HA.out]
 obtain⟨r0,r1,r2,rf⟩:=blk3 HB1.out
 have hbl1:=lt_of_block HB1.out
 have HO1:=hide hown1
 have HW1:=hide hb1
 have HL1:=hide hl1
 clear hown1 hb1 hl1 q0 q1 q2 qf
 have HNe:Hid (some b≠(Value.slice a1 U c1).ownBlock):=owns_ne HO1.out HB1.out (by decide)
 go_wp2
 go_loopw [18] (fun i wr=>∃(k:Nat) (a:Option Addr) (c:Nat),k≤m∧i=.int .i64 k∧Hid (wr.heap[b]?=some (.cells #[sv,.slice a (U+k) c,.int .i64 (N:Int)] 102 (0,0)))∧Hid (wr.ownsRow 0 189 1 (.slice a (U+k) c) (U+k) (uvals (f.units++bus (xs.take k))))∧Hid (Wr2 b uv.ownBlock w wr)∧Hid (Lies w uv (.slice a (U+k) c))) (fun i _=>m - (intOf i).toNat)
 case atStart =>
  refine⟨0,a1,c1,Nat.zero_le _,rfl,?_,?_,?_,HL1⟩
  ·show _=_
   rw[block_set HB1.out];rfl
  ·show World.ownsRow _ _ _ _ _ _ _
   simpa[bus] using owns_set HO1.out HNe.out
  ·exact((Wr2.refl b _ w).below HW1.out).set _ _
 case round =>
  obtain⟨k,a,c,hk,rfl,HB,HO,HW,HL⟩:=hrel
  obtain⟨s0,s1,s2,sf⟩:=blk3 HB.out
  have hbl2:=lt_of_block HB.out
  have HNe2:Hid (some b≠(Value.slice a (U+k) c).ownBlock):=owns_ne HO.out HB.out (by decide)
  clear r0 r1 r2 rf
  by_cases hlt:k<m
  ·have hlt':(k:Int)<(m:Int):=by omega
   have HXr:Hid (Bytes wr sp xs):=by
    rcases HF.out with h0 | hf
    ·exact⟨HX.out.small,Or.inl h0⟩
    ·exact bytes_kept HX.out HW.out.size (fun g o e hg=>HW.out.block g hg (hf g o e).1 (hf g o e).2)
   obtain⟨g,o,e,hg,hc⟩:∃g o,sp=some ⟨g,o,none⟩∧g<wr.heap.size∧∀j,j<xs.length→wr.cell? ⟨g,o+j,none⟩=some (.int .u8 (xs.getD j 0)):=by
    rcases HXr.out.lie with h | h
    ·have:=HM.out;rw[h]at this;simp at this;omega
    ·exact h
   subst e
   have hkx:k<xs.length:=by have:=HM.out;omega
   have hcell:=hc k hkx
   have HT:Hid (uvals (f.units++bus (xs.take (k+1)))=uvals (f.units++bus (xs.take k))++[.int .i32 ((xs.getD k 0:Nat):Int)]):=by
    show _=_
    rw[bus_take xs k hkx,←List.append_assoc,uvals_app]
    rfl
   have hx2:xs.getD k 0<256:=HX.out.small _ (by rw[List.getD,List.getElem?_eq_getElem hkx];exact List.getElem_mem hkx)
   clear hc
   generalize xs.getD k 0=x at *
   go_wp2_with (at_builtin;refine wpList_append_lies _ rfl (.tmp 26) (.tmp 29) 100 rfl 0 189 i0 (.int .i32 0) 1 4 Tryz.underlying100 hi hz0 hz1 hz2 rfl (by omega) (.slice a (U+k) c) (U+k) (uvals (f.units++bus (xs.take k))) rfl (HO.out.alloc _) ⟨wr.heap.size,0,none⟩ 1 1 [.int .i32 (x:Int)] rfl rfl (World.news_of_block (heap_alloc_new wr (.cells #[.int .i32 (x:Int)] 189))) (by simp[Value.oneCell']) (by omega) (by unfold maxLen;omega) (by omega) (by omega) _ rfl ?_;intro g' cap' w4 hown4 hgrow4 hat4 hltg;have HB4:Hid (w4.heap[b]?=some (.cells #[sv,.slice a (U+k) c,.int .i64 (N:Int)] 102 (0,0))):=(hgrow4.block b (by simp;omega) HNe2.out).trans ((Below.heap_alloc _ _ _ hbl2).trans HB.out);obtain⟨z0,z1,z2,zf⟩:=blk3 HB4.out;have hbl4:=lt_of_block HB4.out)
   rw[←HT.out]at hown4
   have HO4:=hide hown4
   have HW4:Hid (Wr2 b uv.ownBlock w w4):=(HW.out.below ((Below.refl _ _).alloc (Nat.le_refl _) (.cells #[.int .i32 (x:Int)] 189))).grown0 HL.out rfl hgrow4 (Or.inl rfl)
   have HL4:Hid (Lies w uv (.slice (some ⟨g',0,none⟩) (U+k+1) cap')):=HL.out.trans (w1:=wr) (by
    rcases hat4 with h | h
    ·exact Or.inl h.symm
    ·exact Or.inr ⟨g',rfl,by simp at h;omega⟩) HW.out.size
   clear hown4 hgrow4 hat4 s0 s1 s2 sf
   have HNe4:Hid (some b≠(Value.slice (some ⟨g',0,none⟩) (U+k+1) cap').ownBlock):=owns_ne HO4.out HB4.out (by decide)
   go_wp2
   go_roundw
   case rel =>
    refine⟨k+1,_,cap',by omega,by go_num,?_,owns_set HO4.out HNe4.out,HW4.out.set _ _,HL4⟩
    show _=_
    rw[block_set HB4.out];rfl
   case measure=>simp[intOf];omega
  ·obtain rfl:k=m:=by omega
   go_wp2
   go_end0
   have e1:xs.take k=xs:=List.take_of_length_le (by have:=HM.out;omega)
   have eA:(f.add xs).all.length=N+k:=by rw[Fil.all_add,List.length_append,HA.out,HM.out]
   have eU:(f.add xs).units.length=U+k:=by simp[Fil.add,bus,HU.out,HM.out]
   refine⟨.slice a (U+k) c,rfl,⟨?_,?_,?_,HFl.out.ok.add HX.out.small⟩,HW.out.set _ _,HL.out⟩
   ·rw[block_set HB.out,eA];simp
   ·refine owns_set (owns_same HFl.out.safe (fun g hg=>HW.out.block g (rk_lt HFl.out.safe hg) ?_ (owns_apart HFl.out.safe HFl.out.unit (by decide) g hg))) (owns_ne HFl.out.safe HFl.out.blk (by decide))
    rintro rfl
    exact owns_ne HFl.out.safe HFl.out.blk (by decide) hg.symm
   ·have:=owns_set (i:=2) (u:=.int .i64 ((N:Int)+(k:Int))) HO.out HNe2.out
    rw[eU]
    rw[e1]at this
    exact this
end Go.Proofs.YtcceejdaokoihaaGreatDoor
