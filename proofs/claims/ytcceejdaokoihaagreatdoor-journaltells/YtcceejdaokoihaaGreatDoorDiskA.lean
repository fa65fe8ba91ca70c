import Derived.Deep.RegionLaw
import Derived.Test.YtcceejdaokoihaaGreatDoorFileC
import Derived.Test.YtcceejdaokoihaaGreatDoorIter
import Derived.Shelf.AbstractIn
set_option maxRecDepth 100000
namespace Go.Proofs.YtcceejdaokoihaaGreatDoor
open Go.RowKit
set_option maxHeartbeats 1000000 in
theorem cut_less (w:World) (b:Nat) (sv uv:Value) (f:Fil) (h:Flw w b sv uv f) (n:Nat) (hlt:n<f.all.length) (hn2:f.all.length<2147483648) (hu:f.units.length<1099511627776) :
  Calls Tryz.prog 126 #[.pointer (some ⟨b,0,none⟩),.int .i64 (n:Int)] w fun e w'=>∃uv',e=.returned (.tuple #[])∧Flw w' b sv uv' (f.cut n)∧Wr2 b uv.ownBlock w w'∧Lies w uv uv':=by
 obtain⟨i0,hi,hz0,hz1,hz2⟩:=info_parts Tryz.infoUn
 have HFl:=hide h
 obtain⟨q0,q1,q2,qf⟩:=blk3 h.blk
 have hbl:=lt_of_block h.blk
 obtain⟨N,hN⟩:∃N,f.all.length=N:=⟨_,rfl⟩
 obtain⟨U,hU⟩:∃U,f.units.length=U:=⟨_,rfl⟩
 have HA:=hide hN
 have HU:=hide hU
 have HO:Hid (w.ownsRow 0 189 1 uv U (uvals f.units)):=by rw[←hU];exact h.unit
 have HB:Hid (w.heap[b]?=some (.cells #[sv,uv,.int .i64 (N:Int)] 102 (0,0))):=by rw[←hN];exact h.blk
 rw[hN]at q2 hlt hn2
 rw[hU]at hu
 have hlt':(n:Int)<(N:Int):=by omega
 clear h hN hU
 obtain⟨a,c,rfl,_,_⟩:=owns_form HO.out
 have HNe:Hid (some b≠(Value.slice a U c).ownBlock):=owns_ne HO.out HB.out (by decide)
 have HK:=hide (fun w=>cutTo_any w n (by omega))
 obtain⟨z,hz⟩:∃z,-1 - (n:Int)=z:=⟨_,rfl⟩
 rw[hz]at HK
 have HZ:=hide hz
 clear hz
 go_enter Tryz.func126,Tryz.ntmps126
 go_wp2
 go_region_law (first | (refine step_append_lies _ (by rfl) (.tmp 14) (.tmp 17) 100 (by rfl) 0 189 i0 (.int .i32 0) 1 4 Tryz.underlying100 hi hz0 hz1 hz2 rfl (by omega) (.slice a U c) U (uvals f.units) (by rfl) ((HO.out.alloc _).drew) ⟨w.heap.size,0,none⟩ 1 1 [.int .i32 z] (by rfl) rfl (World.news_of_block (heap_alloc_new w (.cells #[.int .i32 z] 189))) (by simp[Value.oneCell']) (by omega) (by unfold maxLen;omega) (by omega) (by omega) _ rfl ?_;intro g' cap' w4 hown4 hgrow4 hat4 hltg;have HB4:Hid (w4.heap[b]?=some (.cells #[sv,.slice a U c,.int .i64 (N:Int)] 102 (0,0))):=(hgrow4.block b (by simp;omega) HNe.out).trans ((Below.heap_alloc _ _ _ hbl).trans HB.out);obtain⟨z0,z1,z2,zf⟩:=blk3 HB4.out;have hbl4:=lt_of_block HB4.out) | (go_simp;go_at_call 160;refine(HK.out _).mono ?_;rintro e w2 ⟨rfl,rfl⟩))
 all_goals go_wp2
 all_goals
  go_end0
  have HW4:Hid (Wr2 b (Value.slice a U c).ownBlock w w4):=(((Wr2.refl b _ w).below ((Below.refl _ _).alloc (Nat.le_refl _) (.cells #[.int .i32 z] 189))).drew).grown0 (Lies.refl w (.slice a U c)) rfl hgrow4 (Or.inl rfl)
  have HL4:Hid (Lies w (.slice a U c) (.slice (some ⟨g',0,none⟩) (U+1) cap')):=by
   rcases hat4 with h | h
   ·exact Or.inl h.symm
   ·exact Or.inr ⟨g',rfl,by simp at h;omega⟩
  have HNe4:Hid (some b≠(Value.slice (some ⟨g',0,none⟩) (U+1) cap').ownBlock):=owns_ne hown4 HB4.out (by decide)
  have ec:f.cut n=⟨f.safe,f.units++[z]⟩:=by unfold Fil.cut;rw[if_pos (by rw[HA.out];exact hlt),HZ.out]
  have el:(f.cut n).all.length=n:=by rw[Fil.all_cut,List.length_take,HA.out];omega
  refine⟨.slice (some ⟨g',0,none⟩) (U+1) cap',rfl,⟨?_,?_,?_,HFl.out.ok.cut n (by omega)⟩,(HW4.out.set _ _).set _ _,HL4.out⟩
  ·rw[block_set (block_set HB4.out _),el];rfl
  ·rw[ec]
   refine owns_set (owns_set (owns_same HFl.out.safe (fun g hg=>HW4.out.block g (rk_lt HFl.out.safe hg) ?_ (owns_apart HFl.out.safe HFl.out.unit (by decide) g hg))) (owns_ne HFl.out.safe HFl.out.blk (by decide))) (owns_ne HFl.out.safe HFl.out.blk (by decide))
   rintro rfl
   exact owns_ne HFl.out.safe HFl.out.blk (by decide) hg.symm
  ·rw[ec]
   have e2:(f.units++[z]).length=U+1:=by simp[HU.out]
   rw[show (Fil.mk f.safe (f.units++[z])).units.length=U+1 from e2]
   exact owns_set (owns_set (by show World.ownsRow _ _ _ _ _ _ (uvals (f.units++[z]));rw[uvals_app];exact hown4) HNe4.out) HNe4.out
set_option maxHeartbeats 1000000 in
theorem cut_any (w:World) (b:Nat) (sv uv:Value) (f:Fil) (h:Flw w b sv uv f) (n:Nat) (hle:n≤f.all.length) (hn2:f.all.length<2147483648) (hu:f.units.length<1099511627776) :
  Calls Tryz.prog 126 #[.pointer (some ⟨b,0,none⟩),.int .i64 (n:Int)] w fun e w'=>∃uv',e=.returned (.tuple #[])∧Flw w' b sv uv' (f.cut n)∧Wr2 b uv.ownBlock w w'∧Lies w uv uv':=by
 by_cases hlt:n<f.all.length
 ·exact cut_less w b sv uv f h n hlt hn2 hu
 ·have HFl:=hide h
  obtain⟨q0,q1,q2,qf⟩:=blk3 h.blk
  have e:f.all.length=n:=by omega
  have ec:f.cut n=f:=by unfold Fil.cut;rw[if_neg hlt]
  rw[e]at q2
  clear h
  rw[ec]
  clear ec e hle hlt
  go_enter Tryz.func126,Tryz.ntmps126
  go_wp2
  go_end0
  exact⟨uv,rfl,HFl.out,Wr2.refl _ _ _,Lies.refl _ _⟩
theorem owns_drew {w:World} {B:Nat} {e:TypeId} {s n:Nat} {v:Value} {xs:List Value} (h:w.ownsRow B e s v n xs):w.drew.ownsRow B e s v n xs:=h
theorem Us.drew {w:World} {up:Option Addr} {us:List Int} (h:Us w up us):Us w.drew up us:=⟨h.lie⟩
set_option maxHeartbeats 1000000 in
theorem settle_any (w:World) (b:Nat) (sv uv:Value) (f:Fil) (h:Flw w b sv uv f) (hn:f.safe.length+f.units.length≤1099511627776) :
  Calls Tryz.prog 141 #[.pointer (some ⟨b,0,none⟩)] w fun e w'=>∃sv',e=.returned (.tuple #[])∧Flw w' b sv' (.slice none 0 0) f.settled∧Wr2 b sv.ownBlock w w'∧Lies w sv sv':=by
 have HFl:=hide h
 obtain⟨q0,q1,q2,qf⟩:=blk3 h.blk
 have hbl:=lt_of_block h.blk
 obtain⟨a,c,hv,_,_⟩:=owns_form h.unit
 subst hv
 obtain⟨N,hN⟩:∃N,f.all.length=N:=⟨_,rfl⟩
 have HA:=hide hN
 have HB:Hid (w.heap[b]?=some (.cells #[sv,.slice a f.units.length c,.int .i64 (N:Int)] 102 (0,0))):=by rw[←hN];exact h.blk
 have HNe:Hid (some b≠sv.ownBlock):=owns_ne h.safe h.blk (by decide)
 have HC:=hide (carry_any w.drew sv f.safe.length f.safe a f.units.length c f.units rfl h.ok.small (owns_drew h.safe) (owns_us h.unit).drew h.ok.units (fun g o e=>by
  have:=owns_apart h.unit h.safe (by decide) g (by rw[e];rfl)
  exact this) hn)
 obtain⟨U,hU⟩:∃U,f.units.length=U:=⟨_,rfl⟩
 rw[hU]at q1 HC HB
 rw[hN]at q2
 clear h hN hU
 obtain⟨a0,c0,hs0,_,_⟩:=owns_form HFl.out.safe
 subst hs0
 generalize f.safe.length=L at *
 go_enter Tryz.func141,Tryz.ntmps141
 go_wp2
 go_region_law (first | (go_simp;go_at_call 104;refine HC.out.mono ?_;rintro e w2 ⟨sv2,rfl,hown2,hgrow2,hl2⟩;have HB2:Hid (w2.heap[b]?=some (.cells #[.slice a0 L c0,.slice a U c,.int .i64 (N:Int)] 102 (0,0))):=(hgrow2.block b hbl HNe.out).trans HB.out;obtain⟨z0,z1,z2,zf⟩:=blk3 HB2.out;have hbl2:=lt_of_block HB2.out;obtain⟨a2,c2,hs2,_,_⟩:=owns_form hown2;subst hs2;have HO2:=hide hown2;have HG2:=hide hgrow2;have HL2:=hide hl2;have HNe2:Hid (some b≠Value.ownBlock _):=(owns_ne hown2 HB2.out (by decide));clear hown2 hgrow2 hl2))
 all_goals go_wp2
 all_goals
  go_end0
  have HW:Hid (Wr2 b (Value.slice a0 L c0).ownBlock w w2):=((Wr2.refl b _ w).drew).grown HG2.out (fun j hj=>Or.inr (Or.inl hj))
  refine⟨_,rfl,⟨?_,?_,?_,HFl.out.ok.settled⟩,(HW.out.set _ _).set _ _,HL2.out⟩
  ·rw[block_set (block_set HB2.out _),Fil.all_settled,HA.out];rfl
  ·exact owns_set (owns_set HO2.out HNe2.out) HNe2.out
  ·exact⟨rfl,Or.inl ⟨rfl,rfl⟩⟩
set_option maxHeartbeats 1000000 in
theorem left_any (w:World) (b:Nat) (sv uv:Value) (f:Fil) (h:Flw w b sv uv f) (n:Nat) (hle:n≤f.units.length) (hn:f.safe.length+f.units.length≤1099511627776) :
  Calls Tryz.prog 51 #[.pointer (some ⟨b,0,none⟩),.int .i64 (n:Int)] w fun e w'=>∃a c,e=.returned (.slice a (f.left n).length c)∧w'.ownsRow w.heap.size 5 1 (.slice a (f.left n).length c) (f.left n).length (vals (f.left n))∧Below w.heap.size w w':=by
 have HFl:=hide h
 obtain⟨q0,q1,q2,qf⟩:=blk3 h.blk
 have hbl:=lt_of_block h.blk
 obtain⟨a,c,hv,hc1,hc2⟩:=owns_form h.unit
 subst hv
 obtain⟨a0,c0,hs0,hc3,hc4⟩:=owns_form h.safe
 subst hs0
 have hnc:(n:Int)≤(c:Int):=by omega
 have hn0:(0:Int)≤(n:Int):=by omega
 have HC1:=hide (copied_bytes w.drew a0 f.safe.length c0 f.safe rfl (by omega) (owns_bytes (owns_drew h.safe) h.ok.small))
 have HB2:Hid (Below w.heap.size w (w.drew.alloc (.cells (vals f.safe).toArray 5))):=((Below.refl _ w).drew).alloc (Nat.le_refl _) _
 have HC2:=hide (carry_any (w.drew.alloc (.cells (vals f.safe).toArray 5)) (.slice (some ⟨w.heap.size,0,none⟩) f.safe.length f.safe.length) f.safe.length f.safe a n c (f.units.take n) (by rw[List.length_take];omega) h.ok.small
  ⟨by rw[vals_len];omega,Or.inr ⟨w.heap.size,_,_,rfl,Nat.zero_le _,heap_alloc_new w.drew _,Nat.le_refl _,by unfold maxLen;omega,by simp[vals_len],by rw[Nat.mul_one];exact List.take_of_length_le (by simp[vals_len])⟩⟩
  ((owns_us_take h.unit hle).drew.grown (World.grownBy_alloc w.drew _ none) (fun _ _ _=>by simp)) (okU_take h.ok.units n)
  (fun g o e=>by
   subst e
   have:=rk_lt h.unit (g:=g) rfl
   intro e2
   simp[Value.ownBlock]at e2
   omega) (by omega))
 have HE:Hid (carryL f.safe (f.units.take n)=f.left n):=rfl
 rw[HE.out]at HC2
 generalize hw2:w.drew.alloc (.cells (vals f.safe).toArray 5)=w2 at *
 have HBk:Hid (w2.heap[b]?=some (.cells #[.slice a0 f.safe.length c0,.slice a f.units.length c,.int .i64 (f.all.length:Int)] 102 (0,0))):=by
  show _=_
  rw[HB2.out.block b hbl];exact h.blk
 have HW2:Hid (w.heap.size<w2.heap.size):=by rw[←hw2];show _<_;simp
 obtain⟨y0,y1,y2,yf⟩:=blk3 HBk.out
 generalize f.safe.length=L at *
 generalize f.units.length=U at *
 clear h hc2 hc4 hc1 hc3 hw2
 go_enter Tryz.func51,Tryz.ntmps51
 go_wp2
 go_region_law (first | (go_simp;go_at_call 100;refine HC1.out.mono ?_;rintro e w3 ⟨rfl,rfl⟩) | (go_simp;go_at_call 104;refine HC2.out.mono ?_;rintro e w4 ⟨sv2,rfl,hown2,hgrow2,hl2⟩))
 all_goals go_wp2
 all_goals
  go_ret
  obtain⟨a2,c2,rfl,_,_⟩:=owns_form hown2
  refine⟨a2,c2,rfl,⟨hown2.1,hown2.2.imp id ?_⟩,?_⟩
  ·rintro ⟨g,cap,cur,e1,_,r⟩
   refine⟨g,cap,cur,e1,?_,r⟩
   cases e1
   rcases hl2 with h2 | ⟨g2,h2,h3⟩
   ·simp[Value.ownBlock]at h2;omega
   ·simp[Value.ownBlock]at h2;have:=HW2.out;omega
  ·exact⟨hgrow2.os.trans HB2.out.os,hgrow2.tape.trans HB2.out.tape,hgrow2.output.trans HB2.out.output,Nat.le_trans HB2.out.size hgrow2.size,fun k hk=>(hgrow2.block k (by have:=HW2.out;omega) (by simp[Value.ownBlock];omega)).trans (HB2.out.block k hk)⟩
open Go.RowKit Go.Maps Go.Sort Go.Shelf Go.WideMaps
open Go.Proofs (encStr)
def fel:Value→Option (DataW Unit × List MemPlace)
 | .pointer (some ⟨b,0,none⟩)=>some (.lit (.int .i64 b),[])
 | .pointer none=>some (.lit (.int .i64 (-1)),[])
 | _=>none
theorem fel_at (b:Nat):fel (.pointer (some ⟨b,0,none⟩))=some (.lit (.int .i64 b),[]):=rfl
theorem fel_inv {v:Value} {y:DataW Unit × List MemPlace} (h:fel v=some y):(∃b:Nat,v=.pointer (some ⟨b,0,none⟩)∧y.1=.lit (.int .i64 b))∨(v=.pointer none∧y.1=.lit (.int .i64 (-1))):=by
 unfold fel at h
 split at h
 ·cases h;exact Or.inl ⟨_,rfl,rfl⟩
 ·cases h;exact Or.inr ⟨rfl,rfl⟩
 ·cases h
def toD (l:List (Nm × Nat)):DataW Unit:=.map (l.map fun p=>(Lit.string p.1,.lit (.int .i64 p.2)))
theorem toD_ins (x:Nm × Nat):∀l:List (Nm × Nat),DataW.insert (Lit.string x.1,(.lit (.int .i64 x.2):DataW Unit)) (l.map fun p=>(Lit.string p.1,.lit (.int .i64 p.2)))=(insN x l).map fun p=>(Lit.string p.1,.lit (.int .i64 p.2))
 | []=>rfl
 | y :: r=>by
  have ih:=toD_ins x r
  by_cases hb:bytesBefore x.1 y.1=true
  ·simp[DataW.insert,insN,Lit.before,hb]
  ·simp[DataW.insert,insN,Lit.before,hb,ih]
theorem toD_del (k:Nm) (l:List (Nm × Nat)):(toD l).del (.string k)=toD (delN k l):=by
 show DataW.map _=DataW.map _
 unfold delN
 rw[List.filter_map]
 rfl
theorem toD_put (k:Nm) (v:Nat) (l:List (Nm × Nat)):(toD l).put (.string k) (.lit (.int .i64 v))=toD (putN k v l):=by
 have h:=toD_del k l
 have h':List.filter (fun p:Lit × DataW Unit=>!p.1.sameKey (Lit.string k)) (l.map fun p=>(Lit.string p.1,.lit (.int .i64 p.2)))=(delN k l).map fun p=>(Lit.string p.1,.lit (.int .i64 p.2)):=DataW.map.inj h
 show DataW.map (DataW.insert _ _)=DataW.map _
 rw[h']
 exact congrArg DataW.map (toD_ins (k,v) _)
theorem toD_at (k:Nm) (l:List (Nm × Nat)) (z:DataW Unit):(toD l).atKey (.string k) z=match lookN l k with | some b=>.lit (.int .i64 b) | none=>z:=by
 unfold toD DataW.atKey lookN
 simp only[List.find?_map]
 have:((fun p:Lit × DataW Unit=>p.1.sameKey (Lit.string k)) ∘ fun p:Nm × Nat=>(Lit.string p.1,(.lit (.int .i64 p.2):DataW Unit)))=fun p:Nm × Nat=>p.1 == k:=by
  funext p;rfl
 rw[this]
 cases l.find? (fun p=>p.1 == k) <;> rfl
theorem toD_size (l:List (Nm × Nat)):Maps.size (toD l)=l.length:=by simp[toD,Maps.size]
theorem toD_keys (l:List (Nm × Nat)):strKeys (toD l)=l.map (·.1):=by simp[toD,strKeys,strOf,Function.comp_def]
theorem kS:Keyed Tryz.prog 9:=string_keyed Tryz.underlying9
theorem zF (w:World):(zeroValue 89).run Tryz.prog w=.ok (.pointer none) w:=by kernel_rfl
theorem key_of (x:Nm) (h:x.length≤maxLen):keyOf Tryz.prog 9 (.string ⟨x.toArray⟩)=some (.string x):=by
 have:=keyOf_string_mk (P:=Tryz.prog) Tryz.underlying9 (s:=⟨x.toArray⟩) (by simpa[ByteArray.size] using h)
 simpa using this
def Mp (w:World) (v:Value) (l:List (Nm × Nat)):Prop:=(v=.map none∧l=[])∨∃b,v=.map (some b)∧w.ownsMap Tryz.prog 9 fel b l.length (toD l)
def mblk:Value→Option Nat
 | .map o=>o
 | _=>none
theorem owns_tight {w:World} {b n:Nat} {l:List (Nm × Nat)} (h:w.ownsMap Tryz.prog 9 fel b n (toD l)):w.ownsMap Tryz.prog 9 fel b l.length (toD l):=by
 obtain⟨es,clock,hb,F,hs,hD⟩:=h
 refine⟨es,clock,hb,F,?_,hD⟩
 have:Maps.size (toD l)=es.size:=by rw[hD];simp[Maps.size,length_sorted]
 rw[toD_size]at this
 omega
theorem Mp.same {w w':World} {v:Value} {l:List (Nm × Nat)} (h:Mp w v l) (hs:∀b,mblk v=some b→w'.heap[b]?=w.heap[b]?):Mp w' v l:=by
 refine h.imp id ?_
 rintro ⟨b,e,es,clock,hb,r⟩
 exact⟨b,e,es,clock,(hs b (by rw[e];rfl)).trans hb,r⟩
theorem Mp.lt {w:World} {v:Value} {l:List (Nm × Nat)} (h:Mp w v l) {b:Nat} (e:mblk v=some b):b<w.heap.size:=by
 rcases h with ⟨h,_⟩ | ⟨b',h,ho⟩
 ·rw[h]at e;simp[mblk]at e
 ·rw[h]at e;simp[mblk]at e;subst e;exact ho.lt
theorem Mp.ne {w:World} {v:Value} {l:List (Nm × Nat)} (h:Mp w v l) {k:Nat} {C:Array Value} {t:TypeId} {fr:Nat × Nat} (hk:w.heap[k]?=some (.cells C t fr)):some k≠mblk v:=by
 intro e
 rcases h with ⟨h,_⟩ | ⟨b',h,es,clock,hb,_⟩
 ·rw[h]at e;simp[mblk]at e
 ·rw[h]at e;simp[mblk]at e;subst e;rw[hb]at hk;cases hk
set_option maxHeartbeats 1000000 in
theorem with_map (w:World) (b:Nat) (l:List (Nm × Nat)) (c:Chg) (fp:Value) (hfp:c.to≠[]→fp=.pointer (some ⟨c.file,0,none⟩)) (ho:w.ownsMap Tryz.prog 9 fel b l.length (toD l)) (h1:c.frm.length≤maxLen) (h2:c.to.length≤maxLen) (hl:l.length<maxLen) (hv:∃p,fp=.pointer p) :
  Calls Tryz.prog 49 #[.map (some b),.agg #[.string ⟨c.frm.toArray⟩,.string ⟨c.to.toArray⟩,fp]] w fun e w'=>e=.returned (.map (some b))∧w'.ownsMap Tryz.prog 9 fel b (withN l c).length (toD (withN l c))∧w.grownBy w' (some b):=by
 obtain⟨p,rfl⟩:=hv
 have hq:=fun w=>run_eql_map_nil_sl (P:=Tryz.prog) w 73 _ _ (some b) Tryz.underlying73
 have hbl:=ho.lt
 have HO:=hide (ho.alloc (.cells #[.string ⟨c.frm.toArray⟩,.string ⟨c.to.toArray⟩,.pointer p] 92))
 have HK1:=hide (key_of c.frm h1)
 have HK2:=hide (key_of c.to h2)
 have hne:b≠w.heap.size:=by omega
 have HF:=hide hfp
 have HL:=hide hl
 clear ho hfp hl h1 h2
 obtain⟨frm,to,file⟩:=c
 simp only at *
 by_cases hto:to=[]
 ·subst hto
  go_enter Tryz.func49,Tryz.ntmps49
  go_wp2_with (first
   | (at_delete;refine wpList_delete_own _ rfl _ _ 73 9 rfl 89 kS Tryz.underlying73 fel b _ _ rfl HO.out _ _ rfl HK1.out ?_;intro w1 hown1 hturn1;have HG1:=hide hturn1.grown;have HB1:Hid (w1.heap[w.heap.size]?=some (.cells #[.string ⟨frm.toArray⟩,.string ⟨([]:Nm).toArray⟩,.pointer p] 92 (0,0))):=(hturn1.grown.block w.heap.size (by simp) (by simp;omega)).trans (heap_alloc_new _ _);obtain⟨z0,z1,z2,zf⟩:=blk3 HB1.out;have HO1:=hide hown1;clear hown1 hturn1)
   | go_in)
  go_wp2
  go_ret
  refine⟨rfl,?_,(World.grownBy_alloc w _ (some b)).andThen HG1.out (fun j hj=>Or.inr hj)⟩
  rw[toD_del]at HO1
  exact owns_tight HO1.out
 ·obtain⟨x,r,rfl⟩:∃x r,to=x :: r:=by
   cases to with
   | nil=>exact absurd rfl hto
   | cons x r=>exact⟨x,r,rfl⟩
  have e:=HF.out hto
  cases e
  have hdec:(⟨(x :: r).toArray⟩:ByteArray).toList.isEmpty=false:=by rw[ByteArray.toList_eq];rfl
  have HD:Hid (Maps.size ((toD l).del (.string frm))≤l.length):=by
   show _≤_
   rw[toD_del,toD_size];exact len_del _ _
  generalize hS:(⟨(x :: r).toArray⟩:ByteArray)=S at *
  go_enter Tryz.func49,Tryz.ntmps49
  go_wp2_with (first
   | (at_delete;refine wpList_delete_own _ rfl _ _ 73 9 rfl 89 kS Tryz.underlying73 fel b _ _ rfl HO.out _ _ rfl HK1.out ?_;intro w1 hown1 hturn1;have HG1:=hide hturn1.grown;have HB1:Hid (w1.heap[w.heap.size]?=some (.cells #[.string ⟨frm.toArray⟩,.string S,.pointer (some ⟨file,0,none⟩)] 92 (0,0))):=(hturn1.grown.block w.heap.size (by simp) (by simp;omega)).trans (heap_alloc_new _ _);obtain⟨z0,z1,z2,zf⟩:=blk3 HB1.out;have HO1:=hide hown1;clear hown1 hturn1)
   | (at_mapUpdate;refine wpList_mapUpdate_own _ rfl _ _ _ 73 rfl 9 89 kS Tryz.underlying73 fel b _ _ rfl HO1.out HL.out _ _ _ rfl rfl HK2.out _ [] (fel_at file) ?_;intro w2 hown2 hgrow2)
   | go_in)
  go_wp2
  go_ret
  refine⟨rfl,?_,((World.grownBy_alloc w _ (some b)).andThen HG1.out (fun j hj=>Or.inr hj)).andThen hgrow2 (fun j hj=>Or.inr hj)⟩
  rw[toD_del,toD_put]at hown2
  unfold withN
  rw[if_neg hto]
  exact owns_tight hown2
set_option maxHeartbeats 1000000 in
theorem with_nil (w:World) (c:Chg) (fp:Value) (hfp:c.to≠[]→fp=.pointer (some ⟨c.file,0,none⟩)) (h1:c.frm.length≤maxLen) (h2:c.to.length≤maxLen) (hv:∃p,fp=.pointer p) :
  Calls Tryz.prog 49 #[.map none,.agg #[.string ⟨c.frm.toArray⟩,.string ⟨c.to.toArray⟩,fp]] w fun e w'=>∃b,e=.returned (.map (some b))∧w'.ownsMap Tryz.prog 9 fel b (withN [] c).length (toD (withN [] c))∧Below w.heap.size w w'∧w.heap.size≤b:=by
 obtain⟨p,rfl⟩:=hv
 have hq:=fun w=>run_eql_map_nil_sl (P:=Tryz.prog) w 73 _ _ none Tryz.underlying73
 have hmm:=@run_makeMap Tryz.prog
 have HK1:=hide (key_of c.frm h1)
 have HK2:=hide (key_of c.to h2)
 have HF:=hide hfp
 clear hfp h1 h2
 obtain⟨frm,to,file⟩:=c
 simp only at *
 by_cases hto:to=[]
 ·subst hto
  have HO:Hid (((w.alloc (.cells #[.string ⟨frm.toArray⟩,.string ⟨#[]⟩,.pointer p] 92)).alloc (.map #[] 0)).ownsMap Tryz.prog 9 fel (w.heap.size+1) 0 (toD [])):=by
   have:=World.ownsMap_made (w.alloc (.cells #[.string ⟨frm.toArray⟩,.string ⟨#[]⟩,.pointer p] 92)) Tryz.prog 9 fel
   rw[show (w.alloc (.cells #[.string ⟨frm.toArray⟩,.string ⟨#[]⟩,.pointer p] 92)).heap.size=w.heap.size+1 by simp]at this
   exact this
  go_enter Tryz.func49,Tryz.ntmps49
  go_wp2_with (first
   | (at_delete;refine wpList_delete_own _ rfl _ _ 73 9 rfl 89 kS Tryz.underlying73 fel (w.heap.size+1) _ _ rfl HO.out _ _ rfl HK1.out ?_;intro w1 hown1 hturn1;have HG1:=hide hturn1.grown;have HB1:Hid (w1.heap[w.heap.size]?=some (.cells #[.string ⟨frm.toArray⟩,.string ⟨([]:Nm).toArray⟩,.pointer p] 92 (0,0))):=(hturn1.grown.block w.heap.size (by simp;omega) (by simp)).trans ((Below.heap_alloc _ _ _ (by simp)).trans (heap_alloc_new _ _));obtain⟨z0,z1,z2,zf⟩:=blk3 HB1.out;have HO1:=hide hown1;clear hown1 hturn1)
   | go_in)
  go_wp2
  go_ret
  refine⟨_,rfl,?_,(((Below.refl _ w).alloc (Nat.le_refl _) _).alloc (by simp) _).grown HG1.out (by simp;omega) (fun j hj=>by cases hj;omega),by omega⟩
  rw[toD_del]at HO1
  exact owns_tight HO1.out
 ·obtain⟨x,r,rfl⟩:∃x r,to=x :: r:=by
   cases to with
   | nil=>exact absurd rfl hto
   | cons x r=>exact⟨x,r,rfl⟩
  have e:=HF.out hto
  cases e
  have hdec:(⟨(x :: r).toArray⟩:ByteArray).toList.isEmpty=false:=by rw[ByteArray.toList_eq];rfl
  generalize hS:(⟨(x :: r).toArray⟩:ByteArray)=S at *
  have HO:Hid (((w.alloc (.cells #[.string ⟨frm.toArray⟩,.string S,.pointer (some ⟨file,0,none⟩)] 92)).alloc (.map #[] 0)).ownsMap Tryz.prog 9 fel (w.heap.size+1) 0 (toD [])):=by
   have:=World.ownsMap_made (w.alloc (.cells #[.string ⟨frm.toArray⟩,.string S,.pointer (some ⟨file,0,none⟩)] 92)) Tryz.prog 9 fel
   rw[show (w.alloc (.cells #[.string ⟨frm.toArray⟩,.string S,.pointer (some ⟨file,0,none⟩)] 92)).heap.size=w.heap.size+1 by simp]at this
   exact this
  go_enter Tryz.func49,Tryz.ntmps49
  go_wp2_with (first
   | (at_delete;refine wpList_delete_own _ rfl _ _ 73 9 rfl 89 kS Tryz.underlying73 fel (w.heap.size+1) _ _ rfl HO.out _ _ rfl HK1.out ?_;intro w1 hown1 hturn1;have HG1:=hide hturn1.grown;have HB1:Hid (w1.heap[w.heap.size]?=some (.cells #[.string ⟨frm.toArray⟩,.string S,.pointer (some ⟨file,0,none⟩)] 92 (0,0))):=(hturn1.grown.block w.heap.size (by simp;omega) (by simp)).trans ((Below.heap_alloc _ _ _ (by simp)).trans (heap_alloc_new _ _));obtain⟨z0,z1,z2,zf⟩:=blk3 HB1.out;have HO1:=hide hown1;clear hown1 hturn1)
   | (at_mapUpdate;refine wpList_mapUpdate_own _ rfl _ _ _ 73 rfl 9 89 kS Tryz.underlying73 fel (w.heap.size+1) _ _ rfl HO1.out (by unfold maxLen;omega) _ _ _ rfl rfl HK2.out _ [] (fel_at file) ?_;intro w2 hown2 hgrow2)
   | go_in)
  go_wp2
  go_ret
  refine⟨_,rfl,?_,((((Below.refl _ w).alloc (Nat.le_refl _) _).alloc (by simp) _).grown HG1.out (by simp;omega) (fun j hj=>by cases hj;omega)).grown hgrow2 (by have:=HG1.out.size;simp at this;omega) (fun j hj=>by cases hj;omega),by omega⟩
  rw[toD_del,toD_put]at hown2
  unfold withN
  rw[if_neg hto]
  exact owns_tight hown2
theorem with_any (w:World) (v:Value) (l:List (Nm × Nat)) (c:Chg) (fp:Value) (hfp:c.to≠[]→fp=.pointer (some ⟨c.file,0,none⟩)) (ho:Mp w v l) (h1:c.frm.length≤64) (h2:c.to.length≤64) (hl:l.length<1099511627776) (hv:∃p,fp=.pointer p) :
  Calls Tryz.prog 49 #[v,.agg #[.string ⟨c.frm.toArray⟩,.string ⟨c.to.toArray⟩,fp]] w fun e w'=>∃b,e=.returned (.map (some b))∧Mp w' (.map (some b)) (withN l c)∧w.grownBy w' (mblk v)∧(some b=mblk v∨w.heap.size≤b):=by
 rcases ho with ⟨rfl,rfl⟩ | ⟨b,rfl,ho⟩
 ·refine(with_nil w c fp hfp (by unfold maxLen;omega) (by unfold maxLen;omega) hv).mono ?_
  rintro e w' ⟨b,rfl,h,hb,hle⟩
  exact⟨b,rfl,Or.inr ⟨b,rfl,h⟩,⟨hb.os,hb.tape,hb.output,hb.size,fun k hk _=>hb.block k hk⟩,Or.inr hle⟩
 ·refine(with_map w b l c fp hfp ho (by unfold maxLen;omega) (by unfold maxLen;omega) (by unfold maxLen;omega) hv).mono ?_
  rintro e w' ⟨rfl,h,hg⟩
  exact⟨b,rfl,Or.inr ⟨b,rfl,h⟩,hg,Or.inl rfl⟩
open Go.RowKit Go.Maps Go.Sort Go.Shelf Go.WideMaps
open Go.Proofs (encStr)
def strs (l:List Nm):List Value:=l.map fun x=>Value.string ⟨x.toArray⟩
theorem before_le {a b:Nm} (h:bytesBefore a b=true):a≤b:=by
 induction a generalizing b with
 | nil=>exact List.nil_le b
 | cons x a ih =>
  cases b with
  | nil=>simp[bytesBefore]at h
  | cons y b =>
   simp only[bytesBefore,Bool.or_eq_true,decide_eq_true_eq,Bool.and_eq_true,beq_iff_eq]at h
   rcases h with h | ⟨rfl,h⟩
   ·exact List.le_of_lt (List.Lex.rel h)
   ·exact List.cons_le_cons_iff.2 (Or.inr ⟨rfl,ih h⟩)
theorem sorted_names {l:List (Nm × Nat)} (h:Srt l) {ss:List Nm} (hp:ss.Perm (l.map (·.1))):ss.mergeSort (fun x y=>decide (x≤y))=l.map (·.1):=by
 have h1:ss.mergeSort leB=(l.map (·.1)).mergeSort leB:=mergeSort_of_perm hp
 show ss.mergeSort leB=_
 rw[h1]
 apply List.mergeSort_of_pairwise
 exact List.pairwise_map.2 (List.Pairwise.imp (fun {_ _} hb=>by simpa[leB] using before_le hb) h)
set_option maxHeartbeats 1000000 in
theorem sorted_any (w:World) (v:Value) (l:List (Nm × Nat)) (h:Mp w v l) (hs:Srt l) (hl:l.length≤1099511627776) :
  Calls Tryz.prog 50 #[v] w fun e w'=>∃a c,e=.returned (.slice a l.length c)∧w'.ownsRow w.heap.size 9 1 (.slice a l.length c) l.length (strs (l.map (·.1)))∧Below w.heap.size w w':=by
 rcases h with ⟨rfl,rfl⟩ | ⟨b,rfl,ho⟩
 ·refine(callsIn_wide (n:=6)).1 ?_
  have hfK:Fence.wide.fn 103:=trivial
  have hfS:Fence.wide.fn 102:=trivial
  refine callsIn_of_wp Tryz.func50 rfl trivial ?_ rfl
  simp only[Tryz.ntmps50,List.size_toArray,List.length_cons,List.length_nil,Nat.reduceAdd,Nat.reduceSub,Array.replicate_succ,Array.replicate_zero,List.push_toArray,List.append_toArray,List.nil_append,List.cons_append]
  gi_wp2_with (first
   | (gi_at_call 103;refine(Tryz.maps_Keys_103 _ _).mono ?_;rintro e w' ⟨rfl,rfl⟩)
   | (gi_at_call 102;refine(Tryz.slices_Sorted_keys_nil_102_103 w).mono ?_;rintro e w' ⟨v,ss,rfl,hS,hrow,hnil,hb⟩))
  go_ret
  subst hS
  refine⟨none,0,by rw[hnil.2 rfl];rfl,⟨rfl,Or.inl ⟨rfl,rfl⟩⟩,((Below.refl _ w).alloc (Nat.le_refl _) _).trans (hb.mono (by simp))⟩
 ·have hmax:Maps.size (toD l)≤maxLen:=by rw[toD_size];unfold maxLen;omega
  have hbytes:Maps.size (toD l)*16≤140737488355328:=by rw[toD_size];omega
  refine(callsIn_wide (n:=6)).1 ?_
  have hfK:Fence.wide.fn 103:=trivial
  have hfS:Fence.wide.fn 102:=trivial
  refine callsIn_of_wp Tryz.func50 rfl trivial ?_ rfl
  simp only[Tryz.ntmps50,List.size_toArray,List.length_cons,List.length_nil,Nat.reduceAdd,Nat.reduceSub,Array.replicate_succ,Array.replicate_zero,List.push_toArray,List.append_toArray,List.nil_append,List.cons_append]
  gi_wp2_with (first
   | (gi_at_call 103;refine(Tryz.maps_Keys_103 _ _).mono ?_;rintro e w' ⟨rfl,rfl⟩)
   | (gi_at_call 102;refine(Tryz.slices_Sorted_keys_102_103 b l.length (toD l) fel w ho hmax hbytes).mono ?_;rintro e w' ⟨v,ss,rfl,hS,hrow,hnil,hb⟩))
  go_ret
  rw[toD_keys]at hS
  have hlen:ss.length=l.length:=by rw[hS.length_eq];simp
  rw[sorted_names hs hS,hlen]at hrow
  obtain⟨a,c,rfl,_,_⟩:=owns_form hrow
  refine⟨a,c,rfl,?_,((Below.refl _ w).alloc (Nat.le_refl _) _).trans (hb.mono (by simp))⟩
  exact ownsRow_base_a hrow (by simp)
theorem clone_any (w:World) (v:Value) (l:List (Nm × Nat)) (h:Mp w v l) :
  Calls Tryz.prog 47 #[v] w fun e w'=>∃o,e=.returned (.map o)∧Mp w' (.map o) l∧Below w.heap.size w w'∧∀b,o=some b→w.heap.size≤b:=by
 rcases h with ⟨rfl,rfl⟩ | ⟨b,rfl,ho⟩
 ·exact(AnyW.maps_Clone_nil Tryz.clone w).mono fun e w' ⟨he,hw⟩=>⟨none,he,Or.inl ⟨rfl,rfl⟩,by rw[hw];exact Below.refl _ _,fun b hb=>by cases hb⟩
 ·exact(AnyW.maps_Clone_owns Tryz.clone 9 fel b l.length (toD l) w ho).mono fun e w' ⟨he,h1,_,h3⟩=>⟨_,he,Or.inr ⟨_,rfl,h1⟩,h3,fun b hb=>by cases hb;exact Nat.le_refl _⟩
theorem Mp.look {w:World} {v:Value} {l:List (Nm × Nat)} (h:Mp w v l) (x:Nm) (hx:x.length≤maxLen) :
  (Instr.lookup 73 v (.string ⟨x.toArray⟩) false).run Tryz.prog w=.ok (.pointer ((lookN l x).map fun b=>⟨b,0,none⟩)) w:=by
 rcases h with ⟨rfl,rfl⟩ | ⟨b,rfl,ho⟩
 ·have:=Maps.look_nil (P:=Tryz.prog) (w:=w) false kS Tryz.underlying73 (zF w) (key_of x hx)
  simpa[lookN] using this
 ·obtain⟨v,ps,hr,hR⟩:=ho.lookup kS Tryz.underlying73 (zF w) (zd:=.lit (.int .i64 (-1))) (zp:=[]) rfl (key_of x hx)
  rw[toD_at]at hR
  rw[hr]
  refine congrArg (fun v=>Result.ok v w) ?_
  rcases fel_inv hR with ⟨c,rfl,hc⟩ | ⟨rfl,hc⟩
  ·cases hl:lookN l x with
   | none=>rw[hl]at hc;simp at hc
   | some d=>rw[hl]at hc;simp at hc;rw[←Int.ofNat_inj.1 hc];rfl
  ·cases hl:lookN l x with
   | none=>rfl
   | some d=>rw[hl]at hc;simp at hc
theorem Mp.len {w:World} {v:Value} {l:List (Nm × Nat)} (h:Mp w v l) (ty:TypeId):(Builtin.len_ #[73] ty #[v]).run Tryz.prog w=.ok (.int .i64 l.length) w:=by
 rcases h with ⟨rfl,rfl⟩ | ⟨b,rfl,ho⟩
 ·exact Maps.len_nil (P:=Tryz.prog) (w:=w) Tryz.underlying73 ty
 ·have:=ho.len Tryz.underlying73 ty
  rw[toD_size]at this
  exact this
open Go.RowKit
def fby (c:Nat):Bool:=c == 46 || c == 45 || c == 95 || (97≤c && c≤122) || (48≤c && c≤57)
def isNm (x:Nm):Bool:=decide (1≤x.length) && decide (x.length≤64) && x.all fun c=>fby c.toNat
set_option maxHeartbeats 400000 in
theorem fileByte_any (w:World) (c:Nat) (hc:c<256):Calls Tryz.prog 124 #[.int .u8 (c:Int)] w fun e w'=>e=.returned (.bool (fby c))∧w'=w:=by
 by_cases h1:c=46
 ·subst h1
  go_enter Tryz.func124,Tryz.ntmps124
  go_wp2
  go_ret
  exact⟨rfl,rfl⟩
 by_cases h2:c=45
 ·subst h2
  go_enter Tryz.func124,Tryz.ntmps124
  go_wp2
  go_ret
  exact⟨rfl,rfl⟩
 by_cases h3:c=95
 ·subst h3
  go_enter Tryz.func124,Tryz.ntmps124
  go_wp2
  go_ret
  exact⟨rfl,rfl⟩
 have e1:¬(c:Int)=46:=by omega
 have e2:¬(c:Int)=45:=by omega
 have e3:¬(c:Int)=95:=by omega
 have hf:fby c=((97≤c && c≤122) || (48≤c && c≤57)):=by
  have i1:(c == 46)=false:=by simpa using h1
  have i2:(c == 45)=false:=by simpa using h2
  have i3:(c == 95)=false:=by simpa using h3
  unfold fby
  rw[i1,i2,i3];simp
 by_cases a1:97≤c
 ·have b1:(97:Int)≤(c:Int):=by omega
  by_cases a2:c≤122
  ·have b2:(c:Int)≤122:=by omega
   have hr:fby c=true:=by rw[hf];simp[a1,a2]
   rw[hr]
   clear hf hr h1 h2 h3 a1 a2
   go_enter Tryz.func124,Tryz.ntmps124
   go_wp2
   go_ret
   exact⟨rfl,rfl⟩
  ·have b2:¬(c:Int)≤122:=by omega
   have b3:(48:Int)≤(c:Int):=by omega
   have b4:¬(c:Int)≤57:=by omega
   have hr:fby c=false:=by rw[hf];simp;omega
   rw[hr]
   clear hf hr h1 h2 h3 a1 a2
   go_enter Tryz.func124,Tryz.ntmps124
   go_wp2
   go_ret
   exact⟨rfl,rfl⟩
 ·have b1:¬(97:Int)≤(c:Int):=by omega
  by_cases a2:48≤c
  ·have b2:(48:Int)≤(c:Int):=by omega
   by_cases a3:c≤57
   ·have b3:(c:Int)≤57:=by omega
    have hr:fby c=true:=by rw[hf];simp[a2,a3]
    rw[hr]
    clear hf hr h1 h2 h3 a1 a2 a3
    go_enter Tryz.func124,Tryz.ntmps124
    go_wp2
    go_ret
    exact⟨rfl,rfl⟩
   ·have b3:¬(c:Int)≤57:=by omega
    have hr:fby c=false:=by rw[hf];simp;omega
    rw[hr]
    clear hf hr h1 h2 h3 a1 a2 a3
    go_enter Tryz.func124,Tryz.ntmps124
    go_wp2
    go_ret
    exact⟨rfl,rfl⟩
  ·have b2:¬(48:Int)≤(c:Int):=by omega
   have hr:fby c=false:=by rw[hf];simp;omega
   rw[hr]
   clear hf hr h1 h2 h3 a1 a2
   go_enter Tryz.func124,Tryz.ntmps124
   go_wp2
   go_ret
   exact⟨rfl,rfl⟩
theorem get_at (s:ByteArray) (k:Nat) (h:k<s.size):s.data.toList[k]?=some (s[k]'h):=by
 have h':k<s.data.toList.length:=h
 rw[List.getElem?_eq_getElem h']
 rfl
set_option maxHeartbeats 400000 in
theorem fileName_s (w:World) (s:ByteArray) (hs:s.size≤140737488355328):Calls Tryz.prog 75 #[.string s] w fun e w'=>e=.returned (.bool (isNm s.data.toList))∧w'=w:=by
 have hsz:s.data.toList.length=s.size:=rfl
 by_cases h0:s.size<1
 ·have h0':(s.size:Int)<1:=by omega
  have hr:isNm s.data.toList=false:=by unfold isNm;rw[hsz];simp;omega
  rw[hr]
  clear hr hsz h0
  go_enter Tryz.func75,Tryz.ntmps75
  go_wp2
  go_ret
  exact⟨rfl,rfl⟩
 by_cases h1:64<s.size
 ·have h0':¬(s.size:Int)<1:=by omega
  have h1':(64:Int)<(s.size:Int):=by omega
  have hr:isNm s.data.toList=false:=by unfold isNm;rw[hsz];simp;omega
  rw[hr]
  clear hr hsz h0 h1
  go_enter Tryz.func75,Tryz.ntmps75
  go_wp2
  go_ret
  exact⟨rfl,rfl⟩
 have h0':¬(s.size:Int)<1:=by omega
 have h1':¬(64:Int)<(s.size:Int):=by omega
 have HR:Hid (isNm s.data.toList=s.data.toList.all fun c=>fby c.toNat):=by
  show _=_
  unfold isNm
  have a1:decide (1≤s.data.toList.length)=true:=by rw[hsz];simp;omega
  have a2:decide (s.data.toList.length≤64)=true:=by rw[hsz];simp;omega
  rw[a1,a2];simp
 obtain⟨n,hn⟩:∃n,s.size=n:=⟨_,rfl⟩
 have HN:=hide hn
 have hn64:n≤64:=by omega
 clear hsz h0 h1 hs
 rw[HR.out]
 rw[hn]at h0' h1'
 go_enter Tryz.func75,Tryz.ntmps75
 go_wp2
 clear hn
 go_loopw [14] (fun i wr=>∃k:Nat,k≤n∧i=.int .i64 k∧Hid ((s.data.toList.take k).all (fun c=>fby c.toNat)=true)∧wr=w) (fun i _=>n - (intOf i).toNat)
 case atStart=>exact⟨0,Nat.zero_le _,rfl,rfl,rfl⟩
 case round =>
  obtain⟨k,hk,rfl,HA,rfl⟩:=hrel
  by_cases hlt:k<n
  ·have hlt':(k:Int)<(n:Int):=by omega
   have hks:k<s.size:=by rw[HN.out];exact hlt
   have hget:=get_at s k hks
   have HG:=hide hget
   have HS:=hide (take_snoc' s.data.toList k _ hget)
   have hsz:(k:Int)<(s.size:Int):=by rw[HN.out];exact hlt'
   have hnn:(0:Int)≤(k:Int):=by omega
   have hc:=(s[k]'hks).toNat_lt
   clear hget
   have HK:=hide (fun w=>fileByte_any w (s[k]'hks).toNat hc)
   generalize hgc:(s[k]'hks)=c at *
   by_cases hb:fby c.toNat=true
   ·rw[hb]at HK
    have HA2:Hid ((s.data.toList.take (k+1)).all (fun c=>fby c.toNat)=true):=hide (by rw[HS.out,List.all_append,HA.out];simp[hb])
    clear HA HS HG
    go_wp2_with fail
    refine(HK.out _).mono ?_
    rintro e w2 ⟨rfl,rfl⟩
    go_wp2
    go_roundw
    case rel=>exact⟨k+1,by omega,by go_num,HA2,by first | rfl | trivial⟩
    case measure=>simp[intOf];omega
   ·have hb':fby c.toNat=false:=by simpa using hb
    rw[hb']at HK
    have HRes:Hid ((s.data.toList.all fun c=>fby c.toNat)=false):=by
     show _=_
     rw[List.all_eq_false]
     exact⟨c,List.mem_of_getElem? HG.out,by simp[hb']⟩
    go_wp2_with fail
    refine(HK.out _).mono ?_
    rintro e w2 ⟨rfl,rfl⟩
    go_wp2
    go_ret
    exact⟨congrArg (fun b=>Ending.returned (Value.bool b)) HRes.out.symm,rfl⟩
  ·obtain rfl:k=n:=by omega
   have HRes:Hid ((s.data.toList.all fun c=>fby c.toNat)=true):=by
    show _=_
    have:=HA.out
    rwa [List.take_of_length_le (by show s.size≤k;rw[HN.out];exact Nat.le_refl _)]at this
   go_wp2
   go_ret
   exact⟨congrArg (fun b=>Ending.returned (Value.bool b)) HRes.out.symm,rfl⟩
theorem fileName_any (w:World) (x:Nm) (hs:x.length≤140737488355328):Calls Tryz.prog 75 #[.string ⟨x.toArray⟩] w fun e w'=>e=.returned (.bool (isNm x))∧w'=w:=by
 have:=fileName_s w ⟨x.toArray⟩ (by simpa[ByteArray.size] using hs)
 simpa using this
open Go.RowKit Go.Maps
structure St where
 room:Nat
 strokes:Nat
 planned:Nat
 pOff:Int
 pFrom:Int
 pTo:Int
 off:Bool
 safe:List (Nm × Nat)
 seen:List (Nm × Nat)
 chg:List Chg
 files:List Fil
def St.file (S:St) (i:Nat):Fil:=(S.files[i]?).getD ⟨[],[]⟩
def St.used (S:St):Nat:=(S.seen.map fun p=>(S.file p.2).all.length).sum
def St.stroked (S:St):St:={ S with strokes:=S.strokes+1,planned:=S.planned+1,off:=S.off || decide (((S.planned+1:Nat):Int)=S.pOff) }
def St.power (S:St):Nat:=if ((S.planned+1:Nat):Int)=S.pOff then 45 else 0
def St.fullP (S:St):Bool:=decide (1≤S.pFrom) && decide (S.pFrom≤S.planned) && decide ((S.planned:Int)≤S.pTo)
def St.full (S:St) (more:Nat):Bool:=S.fullP || decide (S.room<more+S.used)
def St.turn (S:St) (i:Nat) (f:Fil):St:={ S with files:=S.files.set i f }
def St.ren (S:St) (c:Chg):St:={ S with seen:=withN S.seen c,chg:=S.chg++[c] }
def St.made (S:St) (f:Fil):St:={ S with files:=S.files++[f] }
def St.settledN (S:St):St:={ S with safe:=S.chg.foldl withN S.safe,chg:=[] }
def lc (loc:Nat→Nat) (c:Chg):Chg:=⟨c.frm,c.to,loc c.file⟩
theorem mapN_with (loc:Nat→Nat) (l:List (Nm × Nat)) (c:Chg):mapN loc (withN l c)=withN (mapN loc l) (lc loc c):=by
 unfold withN lc
 split
 ·rw[mapN_del]
 ·rw[mapN_put,mapN_del]
def chv (loc:Nat→Nat) (c:Chg):List Value:=[.string ⟨c.frm.toArray⟩,.string ⟨c.to.toArray⟩,.pointer (if c.to=[] then none else some ⟨loc c.file,0,none⟩)]
def chvs (loc:Nat→Nat) (l:List Chg):List Value:=l.flatMap (chv loc)
theorem chvs_len (loc:Nat→Nat) (l:List Chg):(chvs loc l).length=l.length*3:=by
 unfold chvs
 induction l with
 | nil=>rfl
 | cons c l ih=>simp[List.flatMap_cons,chv,ih]at *;omega
theorem chvs_app (loc:Nat→Nat) (l:List Chg) (c:Chg):chvs loc (l++[c])=chvs loc l++chv loc c:=by simp[chvs]
theorem chvs_at (loc:Nat→Nat):∀(l:List Chg) (k:Nat) (c:Chg),l[k]?=some c→∀j,j<3→(chvs loc l)[3*k+j]?=(chv loc c)[j]?
 | [],k,c,h,_,_=>by simp at h
 | a :: l,0,c,h,j,hj=>by
  simp at h;subst h
  show (chv loc a++chvs loc l)[3*0+j]?=_
  rw[Nat.mul_zero,Nat.zero_add,List.getElem?_append_left (by simpa[chv] using hj)]
 | a :: l,k+1,c,h,j,hj=>by
  have ih:=chvs_at loc l k c (by simpa using h) j hj
  show (chv loc a++chvs loc l)[3*(k+1)+j]?=_
  rw[List.getElem?_append_right (by simp[chv];omega),←ih]
  congr 1
  simp[chv];omega
theorem chvs_cong {loc loc':Nat→Nat} {l:List Chg} (h:∀c∈l,c.to≠[]→loc c.file=loc' c.file):chvs loc l=chvs loc' l:=by
 unfold chvs
 induction l with
 | nil=>rfl
 | cons c l ih =>
  rw[List.flatMap_cons,List.flatMap_cons,ih (fun d hd=>h d (List.mem_cons_of_mem _ hd))]
  congr 1
  unfold chv
  by_cases e:c.to=[]
  ·simp[e]
  ·rw[h c (List.mem_cons_self ..) e]
def dcells (S:St) (sv nv cv:Value):Array Value:=#[.int .i64 (S.room:Int),sv,nv,cv,.int .i64 (S.strokes:Int),.int .i64 S.pOff,.int .i64 S.pFrom,.int .i64 S.pTo,.int .i64 (S.planned:Int),.bool S.off]
structure Mk (w:World) (K:Knd) (k:Nat × Nat) (v:Value) (l:List (Nm × Nat)):Prop where
 mp:Mp w v l
 kind:∀b,mblk v=some b→K b=k
structure Fk (w:World) (K:Knd) (o i b:Nat) (f:Fil):Prop where
 kb:K b=(o,5+3*i)
 fl:∃sv uv,Flw w b sv uv f∧(∀g,sv.ownBlock=some g→K g=(o,6+3*i))∧(∀g,uv.ownBlock=some g→K g=(o,7+3*i))
structure Dm (w:World) (K:Knd) (o d:Nat) (loc:Nat→Nat) (sv nv cv:Value) (S:St):Prop where
 blk:w.heap[d]?=some (.cells (dcells S sv nv cv) 76 (0,0))
 kd:K d=(o,1)
 sf:Mk w K (o,2) sv (mapN loc S.safe)
 sn:Mk w K (o,3) nv (mapN loc S.seen)
 ch:Rk w K (o,4) 92 3 cv S.chg.length (chvs loc S.chg)
 fl:∀i f,S.files[i]?=some f→Fk w K o i (loc i) f
theorem Mk.kept {p:Nat × Nat→Prop} {K K':Knd} {w w':World} {k:Nat × Nat} {v:Value} {l:List (Nm × Nat)} (h:Mk w K k v l) (hk:Kp p K K' w w') (hp:¬p k):Mk w' K' k v l :=
 ⟨h.mp.same (fun b hb=>hk.block b (h.mp.lt hb) (by rw[h.kind b hb];exact hp)),fun b hb=>(hk.same b (h.mp.lt hb)).trans (h.kind b hb)⟩
theorem Flw.kept {w w':World} {b:Nat} {sv uv:Value} {f:Fil} (h:Flw w b sv uv f) (h1:w'.heap[b]?=w.heap[b]?) (h2:∀g,sv.ownBlock=some g→w'.heap[g]?=w.heap[g]?) (h3:∀g,uv.ownBlock=some g→w'.heap[g]?=w.heap[g]?):Flw w' b sv uv f :=
 ⟨h1.trans h.blk,owns_same h.safe h2,owns_same h.unit h3,h.ok⟩
theorem Fk.lt {w:World} {K:Knd} {o i b:Nat} {f:Fil} (h:Fk w K o i b f):b<w.heap.size:=by
 obtain⟨sv,uv,h1,_⟩:=h.fl
 exact lt_of_block h1.blk
theorem Fk.kept {p:Nat × Nat→Prop} {K K':Knd} {w w':World} {o i b:Nat} {f:Fil} (h:Fk w K o i b f) (hk:Kp p K K' w w') (hp:¬p (o,5+3*i)∧¬p (o,6+3*i)∧¬p (o,7+3*i)):Fk w' K' o i b f:=by
 have hlt:=h.lt
 obtain⟨sv,uv,h1,h2,h3⟩:=h.fl
 exact⟨(hk.same b hlt).trans h.kb,sv,uv,h1.kept (hk.block b hlt (by rw[h.kb];exact hp.1)) (fun g hg=>hk.block g (rk_lt h1.safe hg) (by rw[h2 g hg];exact hp.2.1)) (fun g hg=>hk.block g (rk_lt h1.unit hg) (by rw[h3 g hg];exact hp.2.2)),
  fun g hg=>(hk.same g (rk_lt h1.safe hg)).trans (h2 g hg),fun g hg=>(hk.same g (rk_lt h1.unit hg)).trans (h3 g hg)⟩
theorem Dm.lt {w:World} {K:Knd} {o d:Nat} {loc:Nat→Nat} {sv nv cv:Value} {S:St} (h:Dm w K o d loc sv nv cv S):d<w.heap.size:=lt_of_block h.blk
theorem Dm.kept {p:Nat × Nat→Prop} {K K':Knd} {w w':World} {o d:Nat} {loc:Nat→Nat} {sv nv cv:Value} {S:St} (h:Dm w K o d loc sv nv cv S) (hk:Kp p K K' w w') (hp:∀k,¬p (o,k)):Dm w' K' o d loc sv nv cv S :=
 ⟨(hk.block d h.lt (by rw[h.kd];exact hp _)).trans h.blk,(hk.same d h.lt).trans h.kd,h.sf.kept hk (hp _),h.sn.kept hk (hp _),h.ch.kept hk (hp _),fun i f hf=>(h.fl i f hf).kept hk ⟨hp _,hp _,hp _⟩⟩
theorem Dm.turnD {K K':Knd} {w w':World} {o d:Nat} {loc:Nat→Nat} {sv nv cv:Value} {S S':St} (h:Dm w K o d loc sv nv cv S) (hk:Kp (fun k=>k=(o,1)) K K' w w') (hb:w'.heap[d]?=some (.cells (dcells S' sv nv cv) 76 (0,0)))
  (e1:S'.safe=S.safe) (e2:S'.seen=S.seen) (e3:S'.chg=S.chg) (e4:S'.files=S.files):Dm w' K' o d loc sv nv cv S' :=
 ⟨hb,(hk.same d h.lt).trans h.kd,by rw[e1];exact h.sf.kept hk (by simp),by rw[e2];exact h.sn.kept hk (by simp),by rw[e3];exact h.ch.kept hk (by simp),fun i f hf=>(h.fl i f (by rw[←e4];exact hf)).kept hk ⟨by simp;omega,by simp;omega,by simp;omega⟩⟩
theorem Dm.turnF {p:Nat × Nat→Prop} {K K':Knd} {w w':World} {o d:Nat} {loc:Nat→Nat} {sv nv cv:Value} {S:St} (h:Dm w K o d loc sv nv cv S) {i:Nat} (hk:Kp p K K' w w') (hp:∀k,p k→k=(o,5+3*i)∨k=(o,6+3*i)∨k=(o,7+3*i))
  {f:Fil} (hf:Fk w' K' o i (loc i) f):Dm w' K' o d loc sv nv cv (S.turn i f):=by
 have np:∀k,k≠5+3*i→k≠6+3*i→k≠7+3*i→¬p (o,k):=fun k h1 h2 h3 hpk=>by
  rcases hp _ hpk with e | e | e <;> simp at e <;> omega
 refine⟨(hk.block d h.lt (by rw[h.kd];exact np 1 (by omega) (by omega) (by omega))).trans h.blk,(hk.same d h.lt).trans h.kd,h.sf.kept hk (np 2 (by omega) (by omega) (by omega)),h.sn.kept hk (np 3 (by omega) (by omega) (by omega)),h.ch.kept hk (np 4 (by omega) (by omega) (by omega)),fun j g hg=>?_⟩
 by_cases e:i=j
 ·subst e
  have:g=f:=by
   have h1:(S.files.set i f)[i]?=some g:=hg
   rw[List.getElem?_set]at h1
   split at h1
   ·split at h1
    ·exact(Option.some.inj h1).symm
    ·cases h1
   ·rename_i hne;exact absurd rfl hne
  rw[this];exact hf
 ·have h1:(S.files.set i f)[j]?=some g:=hg
  rw[List.getElem?_set_ne e]at h1
  exact(h.fl j g h1).kept hk ⟨np _ (by omega) (by omega) (by omega),np _ (by omega) (by omega) (by omega),np _ (by omega) (by omega) (by omega)⟩
theorem blk10 {w:World} {b:Nat} {x0 x1 x2 x3 x4 x5 x6 x7 x8 x9:Value} {t:TypeId} (h:w.heap[b]?=some (.cells #[x0,x1,x2,x3,x4,x5,x6,x7,x8,x9] t (0,0))) :
  w.cell? ⟨b,0,none⟩=some x0∧w.cell? ⟨b,1,none⟩=some x1∧w.cell? ⟨b,2,none⟩=some x2∧w.cell? ⟨b,3,none⟩=some x3∧w.cell? ⟨b,4,none⟩=some x4∧w.cell? ⟨b,5,none⟩=some x5∧w.cell? ⟨b,6,none⟩=some x6∧w.cell? ⟨b,7,none⟩=some x7∧w.cell? ⟨b,8,none⟩=some x8∧w.cell? ⟨b,9,none⟩=some x9∧(∀o,w.frozen? ⟨b,o,none⟩=false) :=
 ⟨by simp[World.cell?,h],by simp[World.cell?,h],by simp[World.cell?,h],by simp[World.cell?,h],by simp[World.cell?,h],by simp[World.cell?,h],by simp[World.cell?,h],by simp[World.cell?,h],by simp[World.cell?,h],by simp[World.cell?,h],fun o=>by simp[World.frozen?,h]⟩
abbrev Own1 (o:Nat):Nat × Nat→Prop:=fun k=>k=(o,1)
theorem Kp.drewN {p:Nat × Nat→Prop} {K K':Knd} {w w':World} (h:Kp p K K' w w') (n:Nat):Kp p K K' w (w'.drewN n):=⟨h.os,h.tape,h.output,h.size,h.same,h.block⟩
theorem drewN_block (w:World) (n b:Nat):(w.drewN n).heap[b]?=w.heap[b]?:=rfl
set_option maxHeartbeats 1000000 in
theorem stroke_any (w:World) (K:Knd) (o d:Nat) (loc:Nat→Nat) (sv nv cv:Value) (S:St) (h:Dm w K o d loc sv nv cv S) (hs:S.strokes<1099511627776) (hp:S.planned<1099511627776) :
  Calls Tryz.prog 76 #[.pointer (some ⟨d,0,none⟩)] w fun e w'=>e=.returned (.int .i64 (S.power:Int))∧Dm w' K o d loc sv nv cv S.stroked∧Kp (Own1 o) K K w w':=by
 have HD:=hide h
 have hb:=h.blk
 have HK:=hide h.kd
 unfold dcells at hb
 have HB:=hide hb
 obtain⟨q0,q1,q2,q3,q4,q5,q6,q7,q8,q9,qf⟩:=blk10 hb
 have hbl:=lt_of_block hb
 clear hb h
 have hst:((S.strokes+1:Nat):Int)=(S.strokes:Int)+1:=by omega
 have hpl:((S.planned+1:Nat):Int)=(S.planned:Int)+1:=by omega
 have HKp:∀(w2:World),Hid (Kp (Own1 o) K K w w2)→Hid (∀i v,Kp (Own1 o) K K w (w2.setCell ⟨d,i,none⟩ v)):=fun w2 h i v=>h.out.setCell (Or.inr (by rw[HK.out])) i v
 obtain⟨st,hst0⟩:∃st,S.strokes=st:=⟨_,rfl⟩
 obtain⟨pl,hpl0⟩:∃pl,S.planned=pl:=⟨_,rfl⟩
 obtain⟨po,hpo0⟩:∃po,S.pOff=po:=⟨_,rfl⟩
 have HE:Hid (S.strokes=st∧S.planned=pl∧S.pOff=po):=⟨hst0,hpl0,hpo0⟩
 rw[hst0]at q4 hs
 rw[hpl0]at q8 hp
 rw[hpo0]at q5
 have HPw:Hid (S.power=if ((pl+1:Nat):Int)=po then 45 else 0):=by show _=_;unfold St.power;rw[hpl0,hpo0]
 rw[HPw.out]
 clear hst hpl hst0 hpl0 hpo0
 by_cases hoff:(pl:Int)+1=po
 ·have hif:(if ((pl+1:Nat):Int)=po then (45:Nat) else 0)=45:=if_pos (by omega)
  rw[hif]
  have HO:=hide hoff
  subst hoff
  go_enter Tryz.func76,Tryz.ntmps76
  go_wp2
  go_quiet (fail)
  go_wp2
  go_ret
  refine⟨rfl,?_⟩
  have hp1:w.heap.size≤d∨Own1 o (K d):=Or.inr HK.out
  have k3:=(((((Kp.refl (Own1 o) K w).setCell hp1 4 (.int .i64 ((st:Int)+1))).setCell hp1 8 (.int .i64 ((pl:Int)+1))).drewN nq).setCell hp1 9 (.bool true))
  refine⟨HD.out.turnD k3 ?_ rfl rfl rfl rfl,k3⟩
  rw[block_set ((drewN_block _ _ _).trans (block_set (block_set HB.out _) _))]
  obtain⟨e1,e2,e3⟩:=HE.out
  simp[dcells,St.stroked,e1,e2,e3]
 ·have hif:(if ((pl+1:Nat):Int)=po then (45:Nat) else 0)=0:=if_neg (by omega)
  rw[hif]
  have HO:=hide hoff
  go_enter Tryz.func76,Tryz.ntmps76
  go_wp2
  go_quiet (fail)
  go_wp2
  go_ret
  refine⟨rfl,?_⟩
  have k1:=(HKp _ (Kp.refl _ K w)).out 4 (.int .i64 ((st:Int)+1))
  have k2:=(HKp _ k1).out 8 (.int .i64 ((pl:Int)+1))
  have k3:Kp (Own1 o) K K w (((w.setCell ⟨d,4,none⟩ (.int .i64 ((st:Int)+1))).setCell ⟨d,8,none⟩ (.int .i64 ((pl:Int)+1))).drewN nq):=⟨k2.os,k2.tape,k2.output,k2.size,k2.same,k2.block⟩
  refine⟨HD.out.turnD k3 ?_ rfl rfl rfl rfl,k3⟩
  show (((w.setCell ⟨d,4,none⟩ (.int .i64 ((st:Int)+1))).setCell ⟨d,8,none⟩ (.int .i64 ((pl:Int)+1)))).heap[d]?=_
  rw[block_set (block_set HB.out _) _]
  obtain⟨e1,e2,e3⟩:=HE.out
  simp[dcells,St.stroked,e1,e2,e3,HO.out]
end Go.Proofs.YtcceejdaokoihaaGreatDoor
