import Derived.Test.YtcceejdaokoihaaGreatDoorAppB
import Derived.Test.YtcceejdaokoihaaGreatDoorCrash
import Derived.Test.YtcceejdaokoihaaGreatDoorCMir
import Derived.Test.YtcceejdaokoihaaGreatDoorCReader4
import Derived.Laws.BytesArg
import Derived.Lib.JoinLaws
set_option maxRecDepth 100000
namespace Go.Proofs.YtcceejdaokoihaaGreatDoor
open Go.RowKit Go.Maps
def cnt (e:Nat):Nat:=if e=0∨e=44∨e=45 then 1 else 0
structure Past (S:St):Prop where
 nod:∀k,(((S.chg.take k).foldl withN S.safe).map (·.2)).Nodup
 most:∀k,((S.chg.take k).foldl withN S.safe).length≤64
def Nexts (S S':St):Prop:=(S'.safe=S.safe∧(S'.chg=S.chg∨∃c,S'.chg=S.chg++[c]))∨S'.chg=[]
theorem past_new (r:Nat):Past (St.new r):=⟨fun k=>by simp[St.new],fun k=>by simp[St.new]⟩
theorem Past.next {S S':St} (h:Past S) (hv:Inv S') (hn:Nexts S S'):Past S':=by
 have key:∀k,(S'.chg.take k).foldl withN S'.safe=S'.seen∨∃k',(S'.chg.take k).foldl withN S'.safe=(S.chg.take k').foldl withN S.safe:=by
  intro k
  rcases hn with ⟨e1,e2 | ⟨c,e2⟩⟩ | e
  ·exact Or.inr ⟨k,by rw[e1,e2]⟩
  ·by_cases hk:k≤S.chg.length
   ·refine Or.inr ⟨k,?_⟩
    rw[e1,e2,List.take_append_of_le_length hk]
   ·refine Or.inl ?_
    rw[List.take_of_length_le (by rw[e2];simp;omega)]
    exact hv.fold.symm
  ·refine Or.inl ?_
   have:=hv.fold
   rw[e]at this ⊢
   simpa using this.symm
 refine⟨fun k=>?_,fun k=>?_⟩
 ·rcases key k with e | ⟨k',e⟩
  ·rw[e];exact hv.nod
  ·rw[e];exact h.nod k'
 ·rcases key k with e | ⟨k',e⟩
  ·rw[e];exact hv.most
  ·rw[e];exact h.most k'
theorem nexts_self (S:St):Nexts S S:=Or.inl ⟨rfl,Or.inl rfl⟩
theorem nexts_play (S:St) (p:Opx):Nexts S (S.play p).2:=by
 unfold St.play
 split
 ·unfold St.appendR
  split
  ·exact nexts_self S
  split
  ·exact nexts_self S
  split
  ·exact Or.inl ⟨rfl,Or.inl rfl⟩
  split
  ·exact Or.inl ⟨rfl,Or.inl rfl⟩
  ·exact Or.inl ⟨rfl,Or.inr ⟨_,rfl⟩⟩
 split
 ·unfold St.cutR
  split
  ·exact nexts_self S
  simp only
  split
  ·exact nexts_self S
  ·exact Or.inl ⟨rfl,Or.inl rfl⟩
 split
 ·unfold St.syncR
  split
  ·exact nexts_self S
  simp only
  split
  ·exact Or.inl ⟨rfl,Or.inl rfl⟩
  ·exact Or.inl ⟨rfl,Or.inl rfl⟩
 split
 ·unfold St.namesR
  split
  ·exact nexts_self S
  simp only
  split
  ·exact Or.inr rfl
  ·exact Or.inl ⟨rfl,Or.inl rfl⟩
 split
 ·unfold St.renameR
  split
  ·exact nexts_self S
  split
  ·exact nexts_self S
  simp only
  split
  ·exact Or.inl ⟨rfl,Or.inl rfl⟩
  ·exact Or.inl ⟨rfl,Or.inr ⟨_,rfl⟩⟩
 split
 ·unfold St.removeR
  split
  ·exact nexts_self S
  ·exact Or.inl ⟨rfl,Or.inr ⟨_,rfl⟩⟩
 ·exact nexts_self S
def imgN (img:List (Nm × List Nat)):List (Nm × Nat):=img.mapIdx fun i p=>(p.1,i)
def St.laid (r:Nat) (img:List (Nm × List Nat)):St:=⟨r,0,0,0,0,0,false,imgN img,imgN img,[],img.map fun p=>⟨p.2,[]⟩⟩
theorem laid_file (r:Nat) (img:List (Nm × List Nat)) {i:Nat} {p:Nm × List Nat} (h:img[i]?=some p):(St.laid r img).file i=⟨p.2,[]⟩:=by
 unfold St.file St.laid
 simp[h]
theorem laid_image (r:Nat) (img:List (Nm × List Nat)):(St.laid r img).image=img:=by
 unfold St.image
 show (imgN img).map _=_
 refine List.ext_getElem? fun i=>?_
 simp only[imgN,List.getElem?_map,List.getElem?_mapIdx]
 cases h:img[i]? with
 | none=>rfl
 | some p =>
  simp only[Option.map_some]
  rw[laid_file r img h]
  rfl
open Go.RowKit Go.Maps Go.WideAt Go.WideShapes
set_option maxHeartbeats 400000 in
theorem loaded_any (w:World) (sp:Option Addr) (m cap:Nat) (xs:List Nat) (hm:xs.length=m) (hx:Bytes w sp xs) (hlen:m≤140737488355328) :
  Calls Tryz.prog 45 #[.slice sp m cap] w fun e w'=>e=.returned (.pointer (some ⟨w.heap.size+1,0,none⟩))∧w'=(w.alloc (.cells (vals xs).toArray 5)).alloc (.cells #[.slice (some ⟨w.heap.size,0,none⟩) m m,.slice none 0 0,.int .i64 (m:Int)] 102):=by
 have HC:=hide (copied_any w sp m cap (vals xs) (by rw[vals_len,hm]) hlen hx.holds)
 clear hx
 go_enter Tryz.func45,Tryz.ntmps45
 go_wp2_with fail
 refine HC.out.mono ?_
 rintro e w1 ⟨rfl,rfl⟩
 go_wp2
 go_ret
 exact⟨by simp,rfl⟩
theorem fk_laid (w:World) (K:Knd) (o i:Nat) (xs:List Nat) (m:Nat) (hm:xs.length=m) (hs:∀x∈xs,x<256) (hml:m≤maxLen) :
  Fk ((w.alloc (.cells (vals xs).toArray 5)).alloc (.cells #[.slice (some ⟨w.heap.size,0,none⟩) m m,.slice none 0 0,.int .i64 (m:Int)] 102)) (fun c=>if c<w.heap.size then K c else if c=w.heap.size+1 then (o,5+3*i) else (o,6+3*i)) o i (w.heap.size+1) ⟨xs,[]⟩:=by
 subst hm
 have h1:(w.alloc (.cells (vals xs).toArray 5)).heap.size=w.heap.size+1:=by simp
 have hb:((w.alloc (.cells (vals xs).toArray 5)).alloc (.cells #[.slice (some ⟨w.heap.size,0,none⟩) xs.length xs.length,.slice none 0 0,.int .i64 (xs.length:Int)] 102)).heap[w.heap.size+1]?=some (.cells #[.slice (some ⟨w.heap.size,0,none⟩) xs.length xs.length,.slice none 0 0,.int .i64 (xs.length:Int)] 102 (0,0)):=by
  have:=heap_alloc_new (w.alloc (.cells (vals xs).toArray 5)) (.cells #[.slice (some ⟨w.heap.size,0,none⟩) xs.length xs.length,.slice none 0 0,.int .i64 (xs.length:Int)] 102)
  rw[h1]at this
  exact this
 have hd:((w.alloc (.cells (vals xs).toArray 5)).alloc (.cells #[.slice (some ⟨w.heap.size,0,none⟩) xs.length xs.length,.slice none 0 0,.int .i64 (xs.length:Int)] 102)).heap[w.heap.size]?=some (.cells (vals xs).toArray 5 (0,0)):=(Below.heap_alloc _ _ _ (by simp)).trans (heap_alloc_new _ _)
 refine⟨by rw[if_neg (by omega),if_pos rfl],.slice (some ⟨w.heap.size,0,none⟩) xs.length xs.length,.slice none 0 0,⟨hb,⟨by simp[vals_len],Or.inr ⟨w.heap.size,xs.length,(vals xs).toArray,rfl,Nat.zero_le _,hd,Nat.le_refl _,hml,by simp[vals_len],List.take_of_length_le (by simp[vals_len])⟩⟩,⟨rfl,Or.inl ⟨rfl,rfl⟩⟩,⟨hs,fun k u hu=>by simp at hu⟩⟩,fun g hg=>?_,fun g hg=>by simp[Value.ownBlock]at hg⟩
 simp[Value.ownBlock]at hg
 subst hg
 simp
theorem less_eq:∀a b:List UInt8,Op.bytesLess a b=bytesBefore a b
 | [],[]=>rfl
 | _ :: _,[]=>rfl
 | [],_ :: _=>rfl
 | a :: x,b :: y=>by
  show (decide (a<b) || (a == b && Op.bytesLess x y))=(decide (a<b) || (a == b && bytesBefore x y))
  rw[less_eq x y]
theorem before_asymm {a b:Nm} (h:bytesBefore a b=true):bytesBefore b a=false:=by
 cases e:bytesBefore b a with
 | false=>rfl
 | true =>
  have:=bytes_trans a b a h e
  rw[bytes_irrefl]at this
  cases this
theorem leq_eq (a b:Nm):(Op.bytesLess a b || a == b) = !bytesBefore b a:=by
 rw[less_eq]
 by_cases h:a=b
 ·subst h;simp[bytes_irrefl]
 ·rcases bytes_total a b h with h1 | h1
  ·rw[h1,before_asymm h1];rfl
  ·rw[h1,before_asymm h1]
   simpa using h
def chn:Nm→Image→Bool
 | _,[]=>true
 | a,p :: l=>isNm p.1 && bytesBefore a p.1 && chn p.1 l
def lastN (l:Image):Nm:=((l.getLast?).map (·.1)).getD []
theorem chn_snoc:∀(a:Nm) (l:Image) (p:Nm × List Nat),chn a (l++[p])=(chn a l && isNm p.1 && bytesBefore (((l.getLast?).map (·.1)).getD a) p.1)
 | a,[],p=>by simp[chn]
 | a,q :: l,p=>by
  show (isNm q.1 && bytesBefore a q.1 && chn q.1 (l++[p]))=(isNm q.1 && bytesBefore a q.1 && chn q.1 l && isNm p.1 && _)
  rw[chn_snoc q.1 l p]
  have e:(((q :: l).getLast?).map (·.1)).getD a=((l.getLast?).map (·.1)).getD q.1:=by
   cases h:l.getLast? with
   | none=>rw[List.getLast?_eq_none_iff]at h;subst h;rfl
   | some x=>rw[List.getLast?_cons,h];rfl
  rw[e]
  simp only[Bool.and_assoc]
theorem chn_pre:∀(a:Nm) (l t:Image),chn a (l++t)=true→chn a l=true
 | _,[],_,_=>rfl
 | a,q :: l,t,h=>by
  simp only[List.cons_append,chn,Bool.and_eq_true]at h ⊢
  exact⟨h.1,chn_pre q.1 l t h.2⟩
theorem chn_take {img:Image} (h:chn [] img=true) (k:Nat):chn [] (img.take k)=true:=chn_pre [] _ (img.drop k) (by rw[List.take_append_drop];exact h)
def sumI (l:Image):Nat:=(l.map fun p=>p.2.length).sum
def okB (img:Image) (r:Nat):Bool:=decide (img.length≤64) && chn [] img && decide (sumI img≤r)
theorem sumI_snoc (l:Image) (p:Nm × List Nat):sumI (l++[p])=sumI l+p.2.length:=by simp[sumI]
theorem lastN_snoc (l:Image) (p:Nm × List Nat):lastN (l++[p])=p.1:=by simp[lastN]
theorem chn_srt:∀(a:Nm) (l:Image),chn a l=true→(∀p∈l,bytesBefore a p.1=true∧isNm p.1=true)∧l.Pairwise fun p q=>bytesBefore p.1 q.1=true
 | _,[],_=>⟨fun _ h=>(by cases h),List.Pairwise.nil⟩
 | a,q :: l,h=>by
  simp only[chn,Bool.and_eq_true]at h
  obtain⟨h1,h2⟩:=chn_srt q.1 l h.2
  refine⟨fun p hp=>?_,List.pairwise_cons.2 ⟨fun p hp=>(h1 p hp).1,h2⟩⟩
  rcases List.mem_cons.1 hp with rfl | hp
  ·exact⟨h.1.2,h.1.1⟩
  ·exact⟨bytes_trans _ _ _ h.1.2 (h1 p hp).1,(h1 p hp).2⟩
theorem chn_of {l:Image} (h1:∀p∈l,isNm p.1=true) (h2:l.Pairwise fun p q=>bytesBefore p.1 q.1=true):∀a,(∀p∈l,bytesBefore a p.1=true)→chn a l=true:=by
 induction l with
 | nil=>intros;rfl
 | cons q l ih =>
  intro a ha
  obtain⟨p1,p2⟩:=List.pairwise_cons.1 h2
  simp only[chn,Bool.and_eq_true]
  exact⟨⟨h1 q (List.mem_cons_self ..),ha q (List.mem_cons_self ..)⟩,ih (fun p hp=>h1 p (List.mem_cons_of_mem _ hp)) p2 q.1 p1⟩
set_option maxHeartbeats 1000000 in
theorem loadable_any (w:World) (K:Knd) (v:Value) (img:Image) (r:Int) (h:Im w K v img) (hn:∀p∈img,p.1.length≤140737488355328) (hr:0≤r∧r≤16777216) :
  Calls Tryz.prog 43 #[v,.int .i64 r] w fun e w'=>e=.returned (.bool (okB img r.toNat))∧Below w.heap.size w w':=by
 obtain⟨a,c,rfl,hle,hmx⟩:=h.form
 have HI:=hide h
 have HNm:=hide hn
 obtain⟨n,hnl⟩:∃n,img.length=n:=⟨_,rfl⟩
 have HL:=hide hnl
 rw[hnl]at hle HI ⊢
 unfold maxLen at hmx
 clear h hn hnl
 by_cases h64:64<n
 ·have h64':(64:Int)<(n:Int):=by omega
  have e0:okB img r.toNat=false:=by unfold okB;rw[decide_eq_false (by rw[HL.out];omega)];rfl
  rw[e0]
  go_enter Tryz.func43,Tryz.ntmps43
  go_wp2
  go_ret
  exact⟨rfl,Below.refl _ _⟩
 have h64':¬(64:Int)<(n:Int):=by omega
 go_enter Tryz.func43,Tryz.ntmps43
 go_wp2
 go_loopw [5,6,14] (fun tot last i wr=>∃(j t:Nat),j≤n∧i=.int .i64 (j:Int)∧tot=.int .i64 (t:Int)∧t≤j*1099511627776∧last=.string ⟨(lastN (img.take j)).toArray⟩∧Hid (t=sumI (img.take j))∧Hid (chn [] (img.take j)=true)∧Hid (Below w.heap.size w wr)) (fun _ _ i _=>n - (intOf i).toNat)
 case atStart=>exact⟨0,0,Nat.zero_le _,rfl,rfl,Nat.zero_le _,rfl,rfl,rfl,Below.refl _ _⟩
 case round =>
  obtain⟨j,t,hj,rfl,rfl,ht,rfl,HT,HC,HB⟩:=hrel
  by_cases hlt:j<n
  ·have hlt':(j:Int)<(n:Int):=by omega
   have hj0:(0:Int)≤(j:Int):=by omega
   obtain⟨p,hp⟩:∃p,img[j]?=some p:=⟨_,List.getElem?_eq_getElem (by rw[HL.out];exact hlt)⟩
   have HTk:=hide (take_snoc' img j p hp)
   have hpm:=List.mem_of_getElem? hp
   have HSm:=hide (HI.out.small p hpm).2
   obtain⟨g,ap,cp,ha,hg,c0,c1,hby,hrp⟩:=(HI.out.kept (p:=fun _=>False) (K':=ext K w.heap.size (0,0)) (kp_below HB.out _ K _) (fun h=>h)).at hp
   subst ha
   have HFn:=hide (fun w=>fileName_any w p.1 (HNm.out p hpm))
   have HLq:Hid (lastN (img.take (j+1))=p.1):=by show _=_;rw[HTk.out,lastN_snoc]
   have HSq:Hid (sumI (img.take (j+1))=t+p.2.length):=by show _=_;rw[HTk.out,sumI_snoc,HT.out]
   have HCq:Hid (chn [] (img.take (j+1))=(isNm p.1 && bytesBefore (lastN (img.take j)) p.1)):=by
    show _=_
    rw[HTk.out,chn_snoc,HC.out,Bool.true_and]
    rfl
   have hleq:(Op.bytesLess (⟨p.1.toArray⟩:ByteArray).toList (⟨(lastN (img.take j)).toArray⟩:ByteArray).toList || (⟨p.1.toArray⟩:ByteArray).toList == (⟨(lastN (img.take j)).toArray⟩:ByteArray).toList) = !bytesBefore (lastN (img.take j)) p.1:=by
    rw[ByteArray.toList_eq,ByteArray.toList_eq]
    exact leq_eq _ _
   have HFalse:Hid (chn [] (img.take (j+1))=false→okB img r.toNat=false):=fun e=>by
    have:chn [] img=false:=by
     cases e2:chn [] img with
     | false=>rfl
     | true=>rw[chn_take e2 (j+1)]at e;cases e
    unfold okB
    rw[this]
    simp
   obtain⟨pl,hpl⟩:∃pl,p.2.length=pl:=⟨_,rfl⟩
   rw[hpl]at c1 HSq HSm
   have hpl2:pl≤1099511627776:=HSm.out
   generalize lastN (img.take j)=lst at *
   generalize hsl:(⟨lst.toArray⟩:ByteArray)=sl at *
   generalize hsp:(⟨p.1.toArray⟩:ByteArray)=sp at *
   generalize isNm p.1=nm at *
   generalize bytesBefore lst p.1=bb at *
   clear hp hpm hby hrp hsl hpl
   have HSp:=hide hsp
   clear hsp
   cases nm with
   | false =>
    have e0:okB img r.toNat=false:=HFalse.out (by rw[HCq.out];rfl)
    go_wp2_with fail
    refine(HFn.out _).mono ?_
    rintro e w2 ⟨rfl,rfl⟩
    go_wp2
    go_ret
    exact⟨by rw[e0];rfl,HB.out.alloc HB.out.size _⟩
   | true =>
    cases bb with
    | false =>
     have e0:okB img r.toNat=false:=HFalse.out (by rw[HCq.out];rfl)
     go_wp2_with fail
     refine(HFn.out _).mono ?_
     rintro e w2 ⟨rfl,rfl⟩
     go_wp2
     go_ret
     exact⟨by rw[e0];rfl,HB.out.alloc HB.out.size _⟩
    | true =>
     go_wp2_with fail
     refine(HFn.out _).mono ?_
     rintro e w2 ⟨rfl,rfl⟩
     go_wp2
     go_roundw
     case rel=>exact⟨j+1,t+pl,by omega,by go_num,by go_num,by omega,by rw[HLq.out,HSp.out],HSq.out.symm,HCq.out,HB.out.alloc HB.out.size _⟩
     case measure=>simp[intOf];omega
  ·obtain rfl:j=n:=by omega
   have e1:img.take j=img:=List.take_of_length_le (by rw[HL.out];exact Nat.le_refl _)
   have hS:t=sumI img:=by rw[HT.out,e1]
   have hO:okB img r.toNat=decide ((t:Int)≤r):=by
    have hc:chn [] img=true:=by rw[←e1];exact HC.out
    unfold okB
    rw[hc,←hS,HL.out,decide_eq_true (by omega),Bool.true_and,Bool.true_and]
    exact decide_eq_decide.2 (by omega)
   have HO:=hide hO
   clear hO hS e1
   go_wp2
   go_ret
   exact⟨by rw[HO.out];rfl,HB.out⟩
def chgI (img:Image):List Chg:=img.mapIdx fun i p=>⟨[],p.1,i⟩
def St.part (r:Nat) (img:Image):St:=⟨r,0,0,0,0,0,false,[],(chgI img).foldl withN [],chgI img,img.map fun p=>⟨p.2,[]⟩⟩
theorem chgI_snoc (l:Image) (p:Nm × List Nat):chgI (l++[p])=chgI l++[⟨[],p.1,l.length⟩]:=by simp[chgI,List.mapIdx_append]
theorem chgI_len (l:Image):(chgI l).length=l.length:=by simp[chgI]
theorem imgN_snoc (l:Image) (p:Nm × List Nat):imgN (l++[p])=imgN l++[(p.1,l.length)]:=by simp[imgN,List.mapIdx_append]
theorem part_next (r:Nat) (l:Image) (p:Nm × List Nat):((St.part r l).made ⟨p.2,[]⟩).ren ⟨[],p.1,l.length⟩=St.part r (l++[p]):=by
 unfold St.part St.made St.ren
 simp only[chgI_snoc,List.foldl_append,List.foldl_cons,List.foldl_nil,List.map_append,List.map_cons,List.map_nil]
theorem ins_last {x:Nm × Nat} : ∀{l:List (Nm × Nat)},(∀q∈l,bytesBefore x.1 q.1=false)→insN x l=l++[x]
 | [],_=>rfl
 | y :: r,h=>by
  unfold insN
  rw[h y (List.mem_cons_self ..)]
  simp only[Bool.false_eq_true,if_false]
  rw[ins_last (fun q hq=>h q (List.mem_cons_of_mem _ hq))]
  rfl
theorem mem_imgN {l:Image} {q:Nm × Nat} (h:q∈imgN l):∃p∈l,q.1=p.1∧q.2<l.length:=by
 unfold imgN at h
 obtain⟨i,hi,rfl⟩:=List.mem_mapIdx.1 h
 exact⟨l[i],List.getElem_mem hi,rfl,hi⟩
theorem nm_ne {x:Nm} (h:isNm x=true):x≠[]:=by rintro rfl;have:=(nm_len h).1;simp at this
theorem fold_imgN {img:Image} (h:chn [] img=true):∀k,(chgI (img.take k)).foldl withN []=imgN (img.take k)
 | 0=>by simp[chgI,imgN]
 | k+1=>by
  have ih:=fold_imgN h k
  cases hp:img[k]? with
  | none =>
   have:img.length≤k:=List.getElem?_eq_none_iff.1 hp
   rw[List.take_of_length_le this]at ih
   rw[List.take_of_length_le (by omega)]
   exact ih
  | some p =>
   have ht:=take_snoc' img k p hp
   have hc:=chn_take h (k+1)
   rw[ht]at hc ⊢
   obtain⟨h1,h2⟩:=chn_srt [] _ hc
   have h3:=(List.pairwise_append.1 h2).2.2
   have hnp:=(h1 p (by simp)).2
   rw[chgI_snoc,List.foldl_append,ih,imgN_snoc]
   show withN (imgN (img.take k)) ⟨[],p.1,(img.take k).length⟩=_
   unfold withN
   rw[if_neg (nm_ne hnp)]
   unfold putN
   have e1:delN [] (imgN (img.take k))=imgN (img.take k):=del_none fun q hq=>by
    obtain⟨s,hs,e,_⟩:=mem_imgN hq
    rw[e];exact nm_ne (h1 s (List.mem_append_left _ hs)).2
   have e2:delN p.1 (imgN (img.take k))=imgN (img.take k):=del_none fun q hq=>by
    obtain⟨s,hs,e,_⟩:=mem_imgN hq
    intro e3
    have:=h3 s hs p (by simp)
    rw[←e,e3,bytes_irrefl]at this
    cases this
   show insN (p.1,(img.take k).length) (delN p.1 (delN [] (imgN (img.take k))))=_
   rw[e1,e2]
   refine ins_last fun q hq=>?_
   obtain⟨s,hs,e,_⟩:=mem_imgN hq
   rw[e]
   exact before_asymm (h3 s hs p (by simp))
theorem fold_img {img:Image} (h:chn [] img=true):(chgI img).foldl withN []=imgN img:=by
 have:=fold_imgN h img.length
 rwa [List.take_length]at this
theorem part_end (r:Nat) {img:Image} (h:chn [] img=true):(St.part r img).settledN=St.laid r img:=by
 unfold St.part St.settledN St.laid
 simp only[fold_img h]
theorem part_seen (r:Nat) {img:Image} (h:chn [] img=true):(St.part r img).seen=imgN img:=fold_img h
theorem laid_inv {r:Nat} {img:Image} (hr:r≤16777216) (h:okB img r=true):Inv (St.laid r img):=by
 simp only[okB,Bool.and_eq_true,decide_eq_true_eq]at h
 obtain⟨⟨h1,h2⟩,h3⟩:=h
 have hs:Srt (imgN img):=by rw[←fold_img h2];exact fold_srt List.Pairwise.nil _
 have hin:∀p∈imgN img,p.2<(St.laid r img).files.length∧isNm p.1=true:=fun p hp=>by
  obtain⟨s,hs,e,e2⟩:=mem_imgN hp
  refine⟨by simpa[St.laid] using e2,?_⟩
  rw[e];exact((chn_srt [] _ h2).1 s hs).2
 have hl:(imgN img).length≤64:=by simpa[imgN] using h1
 have hnod:((imgN img).map (·.2)).Nodup:=by
  have e:(imgN img).map (·.2)=List.range img.length:=by
   refine List.ext_getElem? fun i=>?_
   simp only[imgN,List.getElem?_map,List.getElem?_mapIdx]
   by_cases hi:i<img.length
   ·rw[List.getElem?_eq_getElem hi,List.getElem?_range hi];rfl
   ·rw[List.getElem?_eq_none (by omega),List.getElem?_eq_none (by simpa using hi)];rfl
  rw[e];exact List.nodup_range
 have hu:(St.laid r img).used=sumI img:=by
  have e:=laid_image r img
  unfold St.image at e
  have e2:(St.laid r img).off=false:=rfl
  rw[e2]at e
  simp only[Bool.false_eq_true,if_false]at e
  unfold St.used sumI
  have:=congrArg (fun l:Image=>l.map fun p=>p.2.length) e
  simp only[List.map_map]at this
  rw[←this]
  rfl
 exact⟨hr,hs,hs,hin,hin,fun c hc=>(by cases hc),hnod,hl,hl,by rw[hu];exact h3,rfl⟩
theorem laid_sz {r:Nat} {img:Image} (hr:r≤16777216) (h:okB img r=true) (hs:∀p∈img,∀x∈p.2,x<256):Sz (St.laid r img) 0:=by
 simp only[okB,Bool.and_eq_true,decide_eq_true_eq]at h
 refine⟨Nat.le_refl _,Nat.le_refl _,Nat.le_refl _,fun f hf=>?_⟩
 simp only[St.laid,List.mem_map]at hf
 obtain⟨p,hp,rfl⟩:=hf
 refine⟨⟨hs p hp,fun k u hu=>by simp at hu⟩,?_,Nat.le_refl _⟩
 have h1:=sum_mem_le (fun p:Nm × List Nat=>p.2.length) hp
 have h2:=h.2
 unfold sumI at h2
 show p.2.length≤_
 omega
set_option maxHeartbeats 2000000 in
theorem Load_any (w:World) (K:Knd) (o:Nat) (ho:o≠0) (v:Value) (img:Image) (r:Nat) (h:Im w K v img) (hn:∀p∈img,p.1.length≤140737488355328) (hr:r≤16777216) (hok:okB img r=true) :
  Calls Tryz.prog 17 #[v,.int .i64 (r:Int)] w fun e w'=>∃d K',e=.returned (.tuple #[.pointer (some ⟨d,0,none⟩),.int .i64 0])∧Dk w' K' o d (St.laid r img)∧Kp (Ow o) K K' w w':=by
 obtain⟨a,c,rfl,hle,hmx⟩:=h.form
 unfold maxLen at hmx
 have HNw:=hide (New_ok w r hr)
 have HI:=hide h
 have HNm:=hide hn
 have HOk:=hide hok
 have hch:chn [] img=true∧img.length≤64:=by
  simp only[okB,Bool.and_eq_true,decide_eq_true_eq]at hok
  exact⟨hok.1.2,hok.1.1⟩
 have HCh:=hide hch.1
 obtain⟨n,hnl⟩:∃n,img.length=n:=⟨_,rfl⟩
 have HL:=hide hnl
 have hn64:n≤64:=by rw[←hnl];exact hch.2
 rw[hnl]at hle HI ⊢
 clear h hn hok hnl hch
 go_enter Tryz.func17,Tryz.ntmps17
 go_wp2_with fail
 refine HNw.out.mono ?_
 rintro e w1 ⟨rfl,hw1⟩
 have hd1:=new_dk w K o r
 rw[←hw1]at hd1
 have hb1:Below w.heap.size w w1:=by rw[hw1];exact(Below.refl _ _).alloc (Nat.le_refl _) _
 have hk1:Kp (fun _=>False) K (newK K w.heap.size (o,1)) w w1:=⟨hb1.os,hb1.tape,hb1.output,hb1.size,fun c hc=>by unfold newK;rw[if_neg (by omega)],fun c hc _=>hb1.block c hc⟩
 clear hw1 hb1 HNw
 obtain⟨d,hd⟩:∃d,w.heap.size=d:=⟨_,rfl⟩
 rw[hd]at hd1 hk1 ⊢
 generalize newK K d (o,1)=K1 at *
 have HK1:=hide hk1
 have HI1:=hide (HI.out.kept hk1 (fun h=>h))
 have HLd:=hide (loadable_any w1 K1 _ img (r:Int) HI1.out HNm.out ⟨by omega,by omega⟩)
 rw[show ((r:Int)).toNat=r by omega,HOk.out]at HLd
 have HD1:=hide hd1
 clear hd1 hk1
 go_wp2_with fail
 refine HLd.out.mono ?_
 rintro e w2 ⟨rfl,hb2⟩
 have HK2:=hide (HK1.out.trans (kp_below hb2 (fun _=>False) K1 (0,0)))
 have HI2:=hide (HI1.out.kept (kp_below hb2 (fun _=>False) K1 (0,0)) (fun h=>h))
 have HD2:Hid (∃loc sv nv cv,Dm w2 (ext K1 w1.heap.size (0,0)) o d loc sv nv cv (St.part r [])):=by
  obtain⟨loc,sv,nv,cv,hm⟩:=HD1.out
  exact⟨loc,sv,nv,cv,hm.kept (kp_below hb2 (fun _=>False) K1 (0,0)) (fun _ h=>h)⟩
 generalize ext K1 w1.heap.size (0,0)=K2 at *
 clear hb2 HLd HI1 HK1 HD1
 go_wp2
 go_loopw [24] (fun i wr=>∃(j:Nat) (K':Knd),j≤n∧i=.int .i64 (j:Int)∧Hid (∃loc sv nv cv,Dm wr K' o d loc sv nv cv (St.part r (img.take j)))∧Hid (Im wr K' (.slice a n c) img)∧Hid (Kp (Ow o) K K' w wr)) (fun i _=>n - (intOf i).toNat)
 case atStart=>exact⟨0,K2,Nat.zero_le _,rfl,HD2,HI2,hide (HK2.out.mono (fun _ h=>h.elim))⟩
 case round =>
  obtain⟨j,K',hj,rfl,HD,HIr,HKr⟩:=hrel
  clear HD2 HI2 HK2
  by_cases hlt:j<n
  ·have hlt':(j:Int)<(n:Int):=by omega
   have hj0:(0:Int)≤(j:Int):=by omega
   obtain⟨p,hp⟩:∃p,img[j]?=some p:=⟨_,List.getElem?_eq_getElem (by rw[HL.out];exact hlt)⟩
   have HTk:=hide (take_snoc' img j p hp)
   have hpm:=List.mem_of_getElem? hp
   have HSm:=hide (HIr.out.small p hpm)
   have HPn:=hide ((chn_srt [] _ HCh.out).1 p hpm).2
   obtain⟨g,ap,cp,ha,hg,c0,c1,hby,hrp⟩:=HIr.out.at hp
   subst ha
   obtain⟨pl,hpl⟩:∃pl,p.2.length=pl:=⟨_,rfl⟩
   have HPl:=hide hpl
   rw[hpl]at c1
   have HBy:=hide hby
   have HLj:Hid ((img.take j).length=j):=by show _=_;rw[List.length_take,HL.out];omega
   obtain⟨sp,hsp⟩:∃sp:ByteArray,(⟨p.1.toArray⟩:ByteArray)=sp:=⟨_,rfl⟩
   rw[hsp]at c0
   have HSp:=hide hsp
   clear hp hpm hby hrp hpl hsp
   go_wp2
   have hx1:Below wr.heap.size wr (wr.alloc (.cells #[.string sp,.slice ap pl cp] 87)):=(Below.refl _ _).alloc (Nat.le_refl _) _
   have hx2:(wr.alloc (.cells #[.string sp,.slice ap pl cp] 87)).heap[wr.heap.size]?=some (.cells #[.string sp,.slice ap pl cp] 87 (0,0)):=heap_alloc_new _ _
   generalize wr.alloc (.cells #[.string sp,.slice ap pl cp] 87)=wq at *
   have y0:wq.cell? ⟨wr.heap.size,0,none⟩=some (.string sp):=by simp[World.cell?,hx2]
   have y1:wq.cell? ⟨wr.heap.size,1,none⟩=some (.slice ap pl cp):=by simp[World.cell?,hx2]
   have hbx:=lt_of_block hx2
   have HKq:Hid (Kp (fun _=>False) K' (ext K' wr.heap.size (0,0)) wr wq.drew):=(kp_below hx1 (fun _=>False) K' (0,0)).drew
   have HLo:=hide (loaded_any wq.drew ap pl cp p.2 HPl.out (HBy.out.below hx1.drew) (by have:=HSm.out.2;have:=HPl.out;omega))
   have HCq:=hide (chn_take HCh.out j)
   have HFl:Hid ((St.part r (img.take j)).files.length=j):=by show _=_;rw[←HLj.out];simp[St.part]
   have HNx:Hid (((St.part r (img.take j)).made ⟨p.2,[]⟩).ren ⟨[],p.1,j⟩=St.part r (img.take (j+1))):=by
    have:=part_next r (img.take j) p
    rw[HLj.out]at this
    show _=_
    rw[HTk.out]
    exact this
   have HRn:Hid (∀w3,w3=(wq.drew.alloc (.cells (vals p.2).toArray 5)).alloc (.cells #[.slice (some ⟨wq.drew.heap.size,0,none⟩) pl pl,.slice none 0 0,.int .i64 (pl:Int)] 102)→Calls Tryz.prog 44 #[.pointer (some ⟨d,0,none⟩),.agg #[.string ⟨#[]⟩,.string sp,.pointer (some ⟨wq.drew.heap.size+1,0,none⟩)]] w3 fun e w'=>∃K4,e=.returned (.tuple #[])∧(∃loc sv nv cv,Dm w' K4 o d loc sv nv cv (St.part r (img.take (j+1))))∧Kp (Ow o) K' K4 wr w'∧w'.heap[wr.heap.size]?=wq.heap[wr.heap.size]?):=by
    intro w3 hw3
    obtain⟨loc,sv,nv,cv,hD⟩:=HD.out
    have hDq:=hD.kept HKq.out (fun _ h=>h)
    have hb3:Below wq.drew.heap.size wq.drew w3:=by rw[hw3];exact((Below.refl _ _).alloc (Nat.le_refl _) _).alloc (by simp) _
    have hfk:=fk_laid wq.drew (ext K' wr.heap.size (0,0)) o (St.part r (img.take j)).files.length p.2 pl HPl.out HSm.out.1 (by have:=HSm.out.2;have:=HPl.out;unfold maxLen;omega)
    rw[←hw3]at hfk
    have hin:∀q∈(St.part r (img.take j)).seen,q.2<(St.part r (img.take j)).files.length:=fun q hq=>by
     rw[part_seen r HCq.out]at hq
     obtain⟨_,_,_,e⟩:=mem_imgN hq
     rw[HFl.out,←HLj.out];exact e
    have hM:=hDq.madeF hb3 hfk (fun q hq=>(by cases hq)) hin (fun x hx _=>by
     have:x∈chgI (img.take j):=hx
     unfold chgI at this
     obtain⟨i,hi,rfl⟩:=List.mem_mapIdx.1 this
     have hi2:=hi
     rw[HLj.out]at hi2
     rw[HFl.out];exact hi2)
    have hR:=rename_any w3 _ o d _ sv nv cv _ hM.1 ⟨[],p.1,j⟩ (some ⟨wq.drew.heap.size+1,0,none⟩) (by rw[if_neg (nm_ne HPn.out)];simp only;rw[HFl.out,upd_same]) (by simp) (nm_len HPn.out).2 (by show (St.part r (img.take j)).seen.length<_;rw[part_seen r HCq.out];unfold imgN;rw[List.length_mapIdx,HLj.out];omega) (by show (chgI (img.take j)).length<_;rw[chgI_len,HLj.out];omega)
    simp only[HSp.out]at hR
    refine hR.mono ?_
    rintro e w4 ⟨nv4,cv4,K4,rfl,hd4,hk4⟩
    rw[HNx.out]at hd4
    exact⟨K4,rfl,⟨_,_,_,_,hd4⟩,(HKq.out.mono (fun _ h=>h.elim)).trans (hM.2.trans hk4),(hM.2.trans hk4).block _ hbx (by rw[ext_new _ _ (Nat.le_refl _)];exact fun e=>ho e.symm)⟩
   clear hx1 hx2
   go_region_held3 (fun w'=>w'.cell? ⟨wr.heap.size,0,none⟩=some (.string sp)∧w'.cell? ⟨wr.heap.size,1,none⟩=some (.slice ap pl cp)) (go_keep) (first | (go_at_call 44;refine(HRn.out w3 HW3.out).mono ?_;rintro e w4 ⟨K4,rfl,hd4,hk4,hx4⟩;have z4:w4.cell? ⟨wr.heap.size,0,none⟩=some (.string sp):=by { rw[World.cell?_of_block hx4];exact y0 };have z5:w4.cell? ⟨wr.heap.size,1,none⟩=some (.slice ap pl cp):=by { rw[World.cell?_of_block hx4];exact y1 }) | (go_at_call 45;refine HLo.out.mono ?_;rintro e w3 ⟨rfl,hw3⟩;have hb3:Below wq.heap.size wq w3:=by { rw[hw3];exact((Below.refl _ _).drew.alloc (Nat.le_refl _) _).alloc (by simp) _ };have z0:w3.cell? ⟨wr.heap.size,0,none⟩=some (.string sp):=(hb3.cell (p:=⟨wr.heap.size,0,none⟩) hbx).trans y0;have z1:w3.cell? ⟨wr.heap.size,1,none⟩=some (.slice ap pl cp):=(hb3.cell (p:=⟨wr.heap.size,1,none⟩) hbx).trans y1;have HW3:=hide hw3;clear hw3 hb3))
   all_goals
    have HD4:=hide hd4
    have HK4:=hide (HKr.out.trans hk4)
    have HI4:=hide (HIr.out.kept hk4 (fun e=>ho e.symm))
    clear hd4 hk4 hx4
    go_wp2
    go_roundw
    case rel=>exact⟨j+1,K4,by omega,by go_num,HD4,HI4,HK4⟩
    case measure=>simp[intOf];omega
  ·obtain rfl:n=j:=by omega
   have e1:img.take n=img:=List.take_of_length_le (by rw[HL.out];exact Nat.le_refl _)
   rw[e1]at HD
   obtain⟨loc,sv,nv,cv,hD⟩:=HD.out
   have HSt:=hide (settleNames_any wr K' o d loc sv nv cv _ hD (fun x hx=>by
    have:x∈chgI img:=hx
    unfold chgI at this
    obtain⟨i,hi,rfl⟩:=List.mem_mapIdx.1 this
    exact⟨by simp,(nm_len ((chn_srt [] _ HCh.out).1 _ (List.getElem_mem hi)).2).2⟩) (by show 0+(chgI img).length<_;rw[chgI_len,HL.out];omega))
   clear hD e1
   go_wp2_with fail
   refine HSt.out.mono ?_
   rintro e w5 ⟨sv5,cv5,K5,rfl,hd5,hk5⟩
   have HD5:=hide hd5
   have HK5:=hide (HKr.out.trans hk5)
   clear hd5 hk5
   go_wp2
   go_ret2
   rw[part_end r HCh.out]at HD5
   exact⟨d,K5,rfl,⟨_,_,_,_,HD5.out⟩,HK5.out⟩
open Go.RowKit
theorem Bytes.c {w:World} {sp:Option Addr} {xs:List Nat} (h:Bytes w sp xs):C.Bytes w sp xs:=⟨h.small,h.lie⟩
theorem Bytes.of_c {w:World} {sp:Option Addr} {xs:List Nat} (h:C.Bytes w sp xs):Bytes w sp xs:=⟨h.small,h.lie⟩
theorem be_small (n s:Nat):∀x∈C.beOf n s,x<256:=fun x hx=>by
 simp only[C.beOf,List.mem_map]at hx
 obtain⟨i,_,rfl⟩:=hx
 exact Nat.mod_lt _ (by omega)
theorem be_len (n s:Nat):(C.beOf n s).length=s:=by simp[C.beOf]
theorem sum_lt (xs:List Nat) (h:∀x∈xs,x<256):C.sumOf xs<4294967296:=C.xor_lt (by omega) (C.reg_lt xs h)
def hd5 (n:Nat):List Nat:=C.beOf 167 1++C.beOf n 4
def headB (n:Nat):List Nat:=hd5 n++C.beOf (C.sumOf (hd5 n)) 4
def framedB (body:List Nat):List Nat:=(headB body.length++body)++C.beOf (C.sumOf body) 4
def partB (p:List Nat):List Nat:=C.varOf p.length (C.vs p.length - 1)++p
def partsB (ps:List (List Nat)):List Nat:=(ps.map partB).flatten
def bodyB (num:Nat) (ps:List (List Nat)):List Nat:=(C.beOf num 8++C.beOf ps.length 4)++partsB ps
def recB (num:Nat) (ps:List (List Nat)):List Nat:=framedB (bodyB num ps)
theorem hd5_small (n:Nat):∀x∈hd5 n,x<256:=fun x hx=>by
 rcases List.mem_append.1 hx with h | h
 ·exact be_small _ _ x h
 ·exact be_small _ _ x h
theorem headB_len (n:Nat):(headB n).length=9:=by simp[headB,hd5,be_len]
theorem headB_small (n:Nat):∀x∈headB n,x<256:=fun x hx=>by
 rcases List.mem_append.1 hx with h | h
 ·exact hd5_small _ x h
 ·exact be_small _ _ x h
theorem framedB_len (b:List Nat):(framedB b).length=b.length+13:=by simp[framedB,headB_len,be_len];omega
theorem framedB_small {b:List Nat} (hb:∀x∈b,x<256):∀x∈framedB b,x<256:=fun x hx=>by
 rcases List.mem_append.1 hx with h | h
 ·rcases List.mem_append.1 h with h | h
  ·exact headB_small _ x h
  ·exact hb x h
 ·exact be_small _ _ x h
structure Wl (B:Nat) (w0 w:World) (b:Nat) (v:Value) (ws:List Nat):Prop where
 wr:C.Wr w b v ws
 lo:B≤b
 row:∀g,v.ownBlock=some g→B≤g
 bel:Below B w0 w
theorem Wl.size {B:Nat} {w0 w:World} {b:Nat} {v:Value} {ws:List Nat} (h:Wl B w0 w b v ws):B≤w.heap.size:=Nat.le_of_lt (Nat.lt_of_le_of_lt h.lo h.wr.lt)
theorem Wl.laid {B:Nat} {w0 w w':World} {b:Nat} {v:Value} {ws new:List Nat} (h:Wl B w0 w b v ws) (hl:C.Laid w w' b v ws new):∃v',Wl B w0 w' b v' (ws++new):=by
 obtain⟨v',h1,h2,h3⟩:=hl
 refine⟨v',h1,h.lo,fun g e=>?_,h3.below h.bel h.lo h.size h.row⟩
 rcases h2 with e2 | ⟨g2,e2,h4⟩
 ·exact h.row g (by rw[←e2];exact e)
 ·rw[e2]at e;cases e;exact Nat.le_trans h.size h4
theorem Wl.below {B:Nat} {w0 w w':World} {b:Nat} {v:Value} {ws:List Nat} (h:Wl B w0 w b v ws) (hb:Below w.heap.size w w'):Wl B w0 w' b v ws :=
 ⟨h.wr.below hb,h.lo,h.row,h.bel.trans (hb.mono h.size)⟩
theorem wl_new (w:World):Wl w.heap.size w (w.alloc (.cells #[.slice none 0 0] 216)) w.heap.size (.slice none 0 0) [] :=
 ⟨C.new_wr w,Nat.le_refl _,fun g e=>by simp[Value.ownBlock]at e,(Below.refl _ _).alloc (Nat.le_refl _) _⟩
theorem made_by (w:World) (xs:List Nat) (hs:∀x∈xs,x<256):C.Bytes (w.alloc (.cells (C.vals xs).toArray 5)) (some ⟨w.heap.size,0,none⟩) xs:=by
 have key:∀(w3:World) (g j:Nat),j<xs.length→w3.heap[g]?=some (.cells (C.vals xs).toArray 5 (0,0))→w3.cell? ⟨g,0+j,none⟩=some (.int .u8 ((xs.getD j 0:Nat):Int)):=fun w3 g j hj hb=>by
  simp only[World.cell?,hb]
  simp[C.vals,List.getD,hj]
 exact⟨hs,Or.inr ⟨w.heap.size,0,rfl,by simp,fun j hj=>key _ _ j hj (heap_alloc_new _ _)⟩⟩
structure Fresh (B:Nat) (w:World) (sp:Option Addr) (n c:Nat) (xs:List Nat):Prop where
 len:xs.length=n
 blk:∃g,sp=some ⟨g,0,none⟩∧B≤g∧w.heap[g]?=some (.cells (vals xs).toArray 5 (0,0))∧c=n
 small:∀x∈xs,x<256
set_option maxHeartbeats 400000 in
theorem head_any (w:World) (n:Nat) (hn:n<4294967296) (hT:C.Tab w) :
  Calls Tryz.prog 129 #[.int .u32 (n:Int)] w fun e w'=>∃g,e=.returned (.slice (some ⟨g,0,none⟩) 9 9)∧Fresh w.heap.size w' (some ⟨g,0,none⟩) 9 9 (headB n)∧Below w.heap.size w w':=by
 have HT:=hide hT
 clear hT
 go_enter Tryz.func129,Tryz.ntmps129
 go_wp2_with fail
 refine(C.new_any w).mono ?_
 rintro e w1 ⟨rfl,hw1⟩
 have H1:=hide (wl_new w)
 rw[←hw1]at H1
 clear hw1
 go_wp2_with fail
 refine(C.wu8_any w1 _ _ _ 167 H1.out.wr (by omega) (by simp)).mono ?_
 rintro e w2 ⟨rfl,hl2⟩
 obtain⟨v2,h2⟩:=H1.out.laid hl2
 have H2:=hide h2
 clear hl2 h2
 go_wp2_with fail
 refine(C.wu32_any w2 _ _ _ n H2.out.wr hn (by simp[be_len])).mono ?_
 rintro e w3 ⟨rfl,hl3⟩
 obtain⟨v3,h3⟩:=H2.out.laid hl3
 have H3:Hid (Wl w.heap.size w w3 w.heap.size v3 (hd5 n)):=h3
 have h5:(hd5 n).length=5:=by simp[hd5,be_len]
 have HO:=hide (C.out_any w3 _ _ _ H3.out.wr (by omega))
 rw[h5]at HO
 clear hl3 h3
 go_wp2_with fail
 refine HO.out.mono ?_
 rintro e w4 ⟨rfl,hw4⟩
 have hb4:Below w3.heap.size w3 w4:=by rw[hw4];exact(Below.refl _ _).alloc (Nat.le_refl _) _
 have H4:=hide (H3.out.below hb4)
 have HT4:=hide (HT.out.below H4.out.bel HT.out.pos)
 have HS:=hide (C.sum_any w4 (some ⟨w3.heap.size,0,none⟩) 5 5 (hd5 n) h5 (by rw[hw4];exact made_by _ _ (hd5_small n)) (by omega) HT4.out)
 clear hw4 hb4 HO H3
 go_wp2_with fail
 refine HS.out.mono ?_
 rintro e w5 ⟨rfl,rfl⟩
 have HU:=hide (C.wu32_any w5 _ _ _ (C.sumOf (hd5 n)) H4.out.wr (sum_lt _ (hd5_small n)) (by omega))
 go_wp2_with fail
 refine HU.out.mono ?_
 rintro e w6 ⟨rfl,hl6⟩
 obtain⟨v6,h6⟩:=H4.out.laid hl6
 have H6:Hid (Wl w.heap.size w w6 w.heap.size v6 (headB n)):=h6
 have h9:=headB_len n
 have HO:=hide (C.out_any w6 _ _ _ H6.out.wr (by omega))
 rw[h9]at HO
 clear hl6 h6 HU HS
 go_wp2_with fail
 refine HO.out.mono ?_
 rintro e w7 ⟨rfl,hw7⟩
 have HF:Hid (Fresh w.heap.size w7 (some ⟨w6.heap.size,0,none⟩) 9 9 (headB n)):=⟨h9,⟨_,rfl,H6.out.size,by rw[hw7];exact heap_alloc_new _ _,rfl⟩,headB_small n⟩
 have HB:Hid (Below w.heap.size w w7):=by show Below _ _ _;rw[hw7];exact H6.out.bel.alloc H6.out.size _
 clear hw7
 go_wp2
 go_ret
 exact⟨_,rfl,HF.out,HB.out⟩
theorem Fresh.bytes {B:Nat} {w:World} {sp:Option Addr} {n c:Nat} {xs:List Nat} (h:Fresh B w sp n c xs):Bytes w sp xs:=by
 obtain⟨g,rfl,_,hb,_⟩:=h.blk
 refine⟨h.small,Or.inr ⟨g,0,rfl,lt_of_block hb,fun j hj=>?_⟩⟩
 simp only[World.cell?,hb]
 simp[vals,List.getD,hj]
theorem Fresh.mono {B B':Nat} {w:World} {sp:Option Addr} {n c:Nat} {xs:List Nat} (h:Fresh B w sp n c xs) (hB:B'≤B):Fresh B' w sp n c xs:=by
 obtain⟨g,e,h1,h2,h3⟩:=h.blk
 exact⟨h.len,⟨g,e,Nat.le_trans hB h1,h2,h3⟩,h.small⟩
set_option maxHeartbeats 400000 in
theorem framed_any (w:World) (sp:Option Addr) (m cap:Nat) (xs:List Nat) (hm:xs.length=m) (hml:m≤4194291) (hx:Bytes w sp xs) (hT:C.Tab w) :
  Calls Tryz.prog 135 #[.slice sp m cap] w fun e w'=>∃g,e=.returned (.slice (some ⟨g,0,none⟩) (m+13) (m+13))∧Fresh w.heap.size w' (some ⟨g,0,none⟩) (m+13) (m+13) (framedB xs)∧Below w.heap.size w w':=by
 have HT:=hide hT
 have HX:=hide hx
 have HM:=hide hm
 clear hT hx hm
 go_enter Tryz.func135,Tryz.ntmps135
 go_wp2_with fail
 refine(C.new_any w).mono ?_
 rintro e w1 ⟨rfl,hw1⟩
 have H1:=hide (wl_new w)
 rw[←hw1]at H1
 have HH:=hide (head_any w1 m (by omega) (HT.out.below H1.out.bel HT.out.pos))
 clear hw1
 go_wp2_with fail
 refine HH.out.mono ?_
 rintro e w2 ⟨g2,rfl,hf2,hb2⟩
 have H2:=hide (H1.out.below hb2)
 have HR:=hide (C.wraw_any w2 _ _ _ (some ⟨g2,0,none⟩) 9 9 (headB m) H2.out.wr (headB_len m) hf2.bytes.c (by simp))
 clear hf2 hb2 HH H1
 go_wp2_with fail
 refine HR.out.mono ?_
 rintro e w3 ⟨rfl,hl3⟩
 obtain⟨v3,h3⟩:=H2.out.laid hl3
 have H3:Hid (Wl w.heap.size w w3 w.heap.size v3 (headB m)):=h3
 have HR:=hide (C.wraw_any w3 _ _ _ sp m cap xs H3.out.wr HM.out (HX.out.below H3.out.bel).c (by rw[headB_len];omega))
 clear hl3 h3 H2
 go_wp2_with fail
 refine HR.out.mono ?_
 rintro e w4 ⟨rfl,hl4⟩
 obtain⟨v4,h4⟩:=H3.out.laid hl4
 have H4:=hide h4
 have HS:=hide (C.sum_any w4 sp m cap xs HM.out (HX.out.below H4.out.bel).c (by omega) (HT.out.below H4.out.bel HT.out.pos))
 clear hl4 h4 H3 HR
 go_wp2_with fail
 refine HS.out.mono ?_
 rintro e w5 ⟨rfl,rfl⟩
 have HU:=hide (C.wu32_any w5 _ _ _ (C.sumOf xs) H4.out.wr (sum_lt _ HX.out.small) (by rw[List.length_append,headB_len,HM.out];omega))
 go_wp2_with fail
 refine HU.out.mono ?_
 rintro e w6 ⟨rfl,hl6⟩
 obtain⟨v6,h6⟩:=H4.out.laid hl6
 have H6:Hid (Wl w.heap.size w w6 w.heap.size v6 (framedB xs)):=by show Wl _ _ _ _ _ _;unfold framedB;rw[HM.out];exact h6
 have h9:(framedB xs).length=m+13:=by rw[framedB_len,HM.out]
 have HO:=hide (C.out_any w6 _ _ _ H6.out.wr (by omega))
 rw[h9]at HO
 clear hl6 h6 HU HS
 go_wp2_with fail
 refine HO.out.mono ?_
 rintro e w7 ⟨rfl,hw7⟩
 have HF:Hid (Fresh w.heap.size w7 (some ⟨w6.heap.size,0,none⟩) (m+13) (m+13) (framedB xs)):=⟨h9,⟨_,rfl,H6.out.size,by rw[hw7];exact heap_alloc_new _ _,rfl⟩,framedB_small HX.out.small⟩
 have HB:Hid (Below w.heap.size w w7):=by show Below _ _ _;rw[hw7];exact H6.out.bel.alloc H6.out.size _
 clear hw7
 go_wp2
 go_ret
 exact⟨_,rfl,HF.out,HB.out⟩
structure Pts (w:World) (pp:Option Addr) (ps:List (List Nat)):Prop where
 small:∀p∈ps,p.length≤140737488351232
 lie:ps=[]∨∃g o,pp=some ⟨g,o,none⟩∧g<w.heap.size∧∀j p,ps[j]?=some p→∃ap cp,w.cell? ⟨g,o+j,none⟩=some (.slice ap p.length cp)∧Bytes w ap p
theorem Pts.below {w w':World} {pp:Option Addr} {ps:List (List Nat)} (h:Pts w pp ps) (hb:Below w.heap.size w w'):Pts w' pp ps:=by
 refine⟨h.small,h.lie.imp id ?_⟩
 rintro ⟨g,o,e,hg,hc⟩
 refine⟨g,o,e,Nat.lt_of_lt_of_le hg hb.size,fun j p hp=>?_⟩
 obtain⟨ap,cp,c0,c1⟩:=hc j p hp
 exact⟨ap,cp,(hb.cell (p:=⟨g,o+j,none⟩) hg).trans c0,c1.below hb⟩
theorem Pts.at {w:World} {pp:Option Addr} {ps:List (List Nat)} (h:Pts w pp ps) {j:Nat} {p:List Nat} (hp:ps[j]?=some p):∃g o ap cp,pp=some ⟨g,o,none⟩∧g<w.heap.size∧w.cell? ⟨g,o+j,none⟩=some (.slice ap p.length cp)∧Bytes w ap p:=by
 rcases h.lie with h0 | ⟨g,o,e,hg,hc⟩
 ·subst h0;simp at hp
 ·obtain⟨ap,cp,c0,c1⟩:=hc j p hp
  exact⟨g,o,ap,cp,e,hg,c0,c1⟩
theorem partsB_snoc (ps:List (List Nat)) (p:List Nat):partsB (ps++[p])=partsB ps++partB p:=by simp[partsB]
theorem partB_len (p:List Nat):(partB p).length=C.vs p.length - 1+1+p.length:=by simp[partB,C.varOf_length]
theorem partsB_le {ps:List (List Nat)} {k:Nat} : (partsB (ps.take k)).length≤(partsB ps).length:=by
 have:partsB ps=partsB (ps.take k)++partsB (ps.drop k):=by unfold partsB;rw[←List.flatten_append,←List.map_append,List.take_append_drop]
 rw[this];simp
theorem bodyB_len (num:Nat) (ps:List (List Nat)):(bodyB num ps).length=12+(partsB ps).length:=by simp[bodyB,be_len];omega
theorem partB_small {p:List Nat} (h:∀x∈p,x<256) (hl:p.length<18446744073709551616):∀x∈partB p,x<256:=fun x hx=>by
 rcases List.mem_append.1 hx with e | e
 ·have h1:=C.vs_bounds p.length hl
  have h2:=C.vs_fits p.length hl
  exact C.varOf_small _ _ (by rw[show C.vs p.length - 1+1=C.vs p.length by omega];exact h2) x e
 ·exact h x e
def recOk (num:Nat) (ps:List (List Nat)):Bool:=decide (ps.length≤4096) && decide (num≤1099511627776) && decide ((bodyB num ps).length≤4194291)
set_option maxHeartbeats 1000000 in
theorem record_any (w:World) (num:Nat) (hnum:num<18446744073709551616) (pp:Option Addr) (k cap:Nat) (ps:List (List Nat)) (hk:ps.length=k) (hkl:k≤140737488355328) (hP:Pts w pp ps) (hT:C.Tab w) :
  Calls Tryz.prog 90 #[.agg #[.int .u64 (num:Int),.slice pp k cap]] w fun e w' =>
   (recOk num ps=true∧∃g n,n=(recB num ps).length∧e=.returned (.tuple #[.slice (some ⟨g,0,none⟩) n n,.bool true])∧Fresh w.heap.size w' (some ⟨g,0,none⟩) n n (recB num ps)∧Below w.heap.size w w') ∨
   (recOk num ps=false∧e=.returned (.tuple #[.slice none 0 0,.bool false])∧Below w.heap.size w w'):=by
 have HT:=hide hT
 have HP:=hide hP
 have HK:=hide hk
 clear hT hP hk
 by_cases h1:4096<k
 ·have h1':(4096:Int)<(k:Int):=by omega
  have e0:Hid (recOk num ps=false):=by show _=_;unfold recOk;rw[HK.out,decide_eq_false (by omega)];rfl
  go_enter Tryz.func90,Tryz.ntmps90
  go_wp2
  go_ret2
  exact Or.inr ⟨e0.out,rfl,(Below.refl _ _).alloc (Nat.le_refl _) _⟩
 have h1':¬(4096:Int)<(k:Int):=by omega
 by_cases h2:1099511627776<num
 ·have h2':(1099511627776:Int)<(num:Int):=by omega
  have e0:Hid (recOk num ps=false):=by show _=_;unfold recOk;rw[decide_eq_false (p:=num≤1099511627776) (by omega)];simp
  go_enter Tryz.func90,Tryz.ntmps90
  go_wp2
  go_ret2
  exact Or.inr ⟨e0.out,rfl,(Below.refl _ _).alloc (Nat.le_refl _) _⟩
 have h2':¬(1099511627776:Int)<(num:Int):=by omega
 have HOk:Hid (recOk num ps=decide (12+(partsB ps).length≤4194291)):=by
  show _=_
  unfold recOk
  rw[HK.out,decide_eq_true (p:=k≤4096) (by omega),decide_eq_true (p:=num≤1099511627776) (by omega),bodyB_len];rfl
 go_enter Tryz.func90,Tryz.ntmps90
 go_wp2_with fail
 refine(C.new_any _).mono ?_
 rintro e w2 ⟨rfl,hw2⟩
 have hX:(w.alloc (.cells #[.int .u64 (num:Int),.slice pp k cap] 105)).heap[w.heap.size]?=some (.cells #[.int .u64 (num:Int),.slice pp k cap] 105 (0,0)):=heap_alloc_new _ _
 have hB0:Below w.heap.size w (w.alloc (.cells #[.int .u64 (num:Int),.slice pp k cap] 105)):=(Below.refl _ _).alloc (Nat.le_refl _) _
 have hsz:(w.alloc (.cells #[.int .u64 (num:Int),.slice pp k cap] 105)).heap.size=w.heap.size+1:=by simp
 generalize w.alloc (.cells #[.int .u64 (num:Int),.slice pp k cap] 105)=w1 at *
 have H2:=hide (wl_new w1)
 rw[←hw2]at H2
 have HX:Hid (∀w',Below w1.heap.size w1 w'→w'.cell? ⟨w.heap.size,0,none⟩=some (.int .u64 (num:Int))∧w'.cell? ⟨w.heap.size,1,none⟩=some (.slice pp k cap)):=fun w' hb=>by
  have:w'.heap[w.heap.size]?=_:=(hb.block _ (by omega)).trans hX
  exact⟨by simp[World.cell?,this],by simp[World.cell?,this]⟩
 have HB0:=hide hB0
 have HSz:=hide hsz
 clear hw2 hX hB0 hsz
 obtain⟨x0,x1⟩:=HX.out w2 H2.out.bel
 have HU:=hide (C.wu64_any w2 _ _ _ num H2.out.wr hnum (by simp))
 go_wp2_with fail
 refine HU.out.mono ?_
 rintro e w3 ⟨rfl,hl3⟩
 obtain⟨v3,h3⟩:=H2.out.laid hl3
 have H3:=hide h3
 clear hl3 h3 x0 x1 HU H2
 obtain⟨x0,x1⟩:=HX.out w3 H3.out.bel
 have HU:=hide (C.wu32_any w3 _ _ _ k H3.out.wr (by omega) (by simp[be_len]))
 go_wp2_with fail
 refine HU.out.mono ?_
 rintro e w4 ⟨rfl,hl4⟩
 obtain⟨v4,h4⟩:=H3.out.laid hl4
 have H4:Hid (Wl w1.heap.size w1 w4 w1.heap.size v4 ((C.beOf num 8++C.beOf k 4)++partsB (ps.take 0))):=by show Wl _ _ _ _ _ _;simpa[partsB] using h4
 clear hl4 h4 x0 x1 HU H3
 obtain⟨x0,x1⟩:=HX.out w4 H4.out.bel
 go_wp2
 go_loopw [30] (fun i wr=>∃(j:Nat) (v:Value),j≤k∧i=.int .i64 (j:Int)∧Hid (Wl w1.heap.size w1 wr w1.heap.size v ((C.beOf num 8++C.beOf k 4)++partsB (ps.take j)))∧Hid ((partsB (ps.take j)).length≤4194300)) (fun i _=>k - (intOf i).toNat)
 case atStart=>exact⟨0,v4,Nat.zero_le _,rfl,H4,hide (by simp[partsB])⟩
 case round =>
  obtain⟨j,v,hj,rfl,HW,HLe⟩:=hrel
  clear H4 x0 x1
  have HLw:Hid (((C.beOf num 8++C.beOf k 4)++partsB (ps.take j)).length=12+(partsB (ps.take j)).length):=by show _=_;simp[be_len];omega
  have HLn:=hide (fun w' hw'=>C.wlen_any w' w1.heap.size v ((C.beOf num 8++C.beOf k 4)++partsB (ps.take j)) hw')
  rw[HLw.out]at HLn
  by_cases hlt:j<k
  ·have i1:(0:Int)≤(j:Int):=by omega
   have i2:(j:Int)<(k:Int):=by omega
   obtain⟨p,hp⟩:∃p,ps[j]?=some p:=⟨_,List.getElem?_eq_getElem (by rw[HK.out];exact hlt)⟩
   have HTk:=hide (take_snoc' ps j p hp)
   have hbw:Below w.heap.size w wr:=HB0.out.trans (HW.out.bel.mono HB0.out.size)
   obtain⟨g,o,ap,cp,e1,hg,c0,c1⟩:=(HP.out.below hbw).at hp
   have hsm:=HP.out.small p (List.mem_of_getElem? hp)
   have HAo:Hid (∀g o,ap=some ⟨g,o,none⟩→0<p.length→g<w.heap.size):=by
    obtain⟨g',o',ap',cp',e1',hg',c0',c1'⟩:=HP.out.at hp
    rw[e1]at e1'
    cases e1'
    have:ap'=ap:=by
     have h:=(hbw.cell (p:=⟨g,o+j,none⟩) hg').trans c0'
     rw[c0]at h
     have h':ap'=ap∧cp'=cp:=by simpa using h.symm
     exact h'.1
    subst this
    intro g2 o2 e2 h0
    rcases c1'.lie with h | ⟨g3,o3,e3,h3,_⟩
    ·subst h;simp at h0
    ·rw[e2]at e3;cases e3;exact h3
   subst e1
   have HPs:Hid ((partsB (ps.take (j+1))).length=(partsB (ps.take j)).length+(C.vs p.length - 1+1+p.length)):=by show _=_;rw[HTk.out,partsB_snoc,List.length_append,partB_len]
   have HVs:=hide (C.vs_bounds p.length (by omega))
   have HCm:=hide (partsB_le (ps:=ps) (k:=j+1))
   obtain⟨q,hq⟩:∃q,(partsB (ps.take j)).length=q:=⟨_,rfl⟩
   rw[hq]at HLn HLe HPs HLw
   obtain⟨pl,hpl⟩:∃pl,p.length=pl:=⟨_,rfl⟩
   have hq1:q≤4194300:=HLe.out
   have hql:((12+q:Nat):Int)=12+(q:Int):=by omega
   have HC1:=hide c1
   have HPl:=hide hpl
   rw[hpl]at c0 HPs hsm HAo HVs
   clear hp c1 hbw hpl hq
   by_cases hbig:4194279<(q:Int)+(pl:Int)
   ·have hbig':(4194279:Int) - (q:Int)<(pl:Int):=by omega
    have e0:Hid (recOk num ps=false):=by
     show _=_
     rw[HOk.out,decide_eq_false]
     have:=HPs.out
     have:=HCm.out
     omega
    go_wp2_with fail
    refine(HLn.out _ HW.out.wr).mono ?_
    rintro e w6 ⟨rfl,rfl⟩
    go_wp2
    go_ret2
    exact Or.inr ⟨e0.out,rfl,HB0.out.trans (HW.out.bel.mono HB0.out.size)⟩
   ·have hbig':¬(4194279:Int) - (q:Int)<(pl:Int):=by omega
    have HWb:=hide (C.wbytes_any wr w1.heap.size v ((C.beOf num 8++C.beOf k 4)++partsB (ps.take j)) ap pl cp p HW.out.wr HPl.out HC1.out.c (by rw[HLw.out];omega) (fun g2 o2 e2 h0=>by
     have h3:=HAo.out g2 o2 e2 h0
     have h4:=HSz.out
     refine⟨by omega,fun e3=>?_⟩
     have:=HW.out.row g2 e3.symm
     omega))
    have HLe2:Hid ((partsB (ps.take (j+1))).length≤4194300):=by
     show _≤_
     have:=HPs.out
     have:=HVs.out
     omega
    have HNx:Hid (((C.beOf num 8++C.beOf k 4)++partsB (ps.take j))++(C.varOf pl (C.vs pl - 1)++p)=(C.beOf num 8++C.beOf k 4)++partsB (ps.take (j+1))):=by
     show _=_
     rw[HTk.out,partsB_snoc,←HPl.out,List.append_assoc]
     rfl
    go_wp2_with fail
    refine(HLn.out _ HW.out.wr).mono ?_
    rintro e w6 ⟨rfl,rfl⟩
    go_wp2_with fail
    refine HWb.out.mono ?_
    rintro e w7 ⟨rfl,hl7⟩
    obtain⟨v7,h7⟩:=HW.out.laid hl7
    rw[HNx.out]at h7
    have H7:=hide h7
    clear hl7 h7
    go_wp2
    go_roundw
    case rel=>exact⟨j+1,v7,by omega,by go_num,H7,HLe2⟩
    case measure=>simp[intOf];omega
  ·obtain rfl:j=k:=by omega
   have e1:ps.take j=ps:=List.take_of_length_le (by rw[HK.out];exact Nat.le_refl _)
   rw[e1]at HW HLn HLw HLe
   have HWo:Hid (Wl w1.heap.size w1 wr w1.heap.size v (bodyB num ps)):=by show Wl _ _ _ _ _ _;unfold bodyB;rw[HK.out];exact HW.out
   have HBl:Hid ((bodyB num ps).length=12+(partsB ps).length):=bodyB_len num ps
   obtain⟨q,hq⟩:∃q,(partsB ps).length=q:=⟨_,rfl⟩
   rw[hq]at HLn HLe HLw HBl HOk
   have hq1:q≤4194300:=HLe.out
   have hql:((12+q:Nat):Int)=12+(q:Int):=by omega
   clear e1 hq
   by_cases hbig:4194291<(12:Int)+(q:Int)
   ·have e0:Hid (recOk num ps=false):=by
     show _=_
     rw[HOk.out,decide_eq_false]
     omega
    go_wp2_with fail
    refine(HLn.out _ HW.out.wr).mono ?_
    rintro e w6 ⟨rfl,rfl⟩
    go_wp2
    go_ret2
    exact Or.inr ⟨e0.out,rfl,HB0.out.trans (HW.out.bel.mono HB0.out.size)⟩
   ·have e0:Hid (recOk num ps=true):=by
     show _=_
     rw[HOk.out,decide_eq_true]
     omega
    have HO:=hide (C.out_any wr w1.heap.size v (bodyB num ps) HWo.out.wr (by rw[HBl.out];omega))
    rw[HBl.out]at HO
    go_wp2_with fail
    refine(HLn.out _ HW.out.wr).mono ?_
    rintro e w6 ⟨rfl,rfl⟩
    go_wp2_with fail
    refine HO.out.mono ?_
    rintro e w7 ⟨rfl,hw7⟩
    have hb7:Below w6.heap.size w6 w7:=by rw[hw7];exact(Below.refl _ _).alloc (Nat.le_refl _) _
    have H7:=hide (HWo.out.below hb7)
    have HB7:=hide (HB0.out.trans (H7.out.bel.mono HB0.out.size))
    have hy7:Bytes w7 (some ⟨w6.heap.size,0,none⟩) (bodyB num ps):=by rw[hw7];exact Bytes.of_c (made_by _ _ HWo.out.wr.small)
    have HFr:=hide (framed_any w7 (some ⟨w6.heap.size,0,none⟩) (12+q) (12+q) (bodyB num ps) HBl.out (by omega) hy7 (HT.out.below HB7.out HT.out.pos))
    have HRl:Hid ((recB num ps).length=12+q+13):=by show _=_;unfold recB;rw[framedB_len,HBl.out]
    clear hw7 hb7 hy7 HO
    go_wp2_with fail
    refine HFr.out.mono ?_
    rintro e w8 ⟨g8,rfl,hf8,hb8⟩
    have HF8:Hid (Fresh w.heap.size w8 (some ⟨g8,0,none⟩) (12+q+13) (12+q+13) (recB num ps)):=hf8.mono HB7.out.size
    have HB8:=hide (HB7.out.trans (hb8.mono HB7.out.size))
    clear hf8 hb8
    go_wp2
    go_ret2
    exact Or.inl ⟨e0.out,g8,12+q+13,HRl.out.symm,rfl,HF8.out,HB8.out⟩
def str (xs:List Nat):ByteArray:=strOfNums (xs.map fun (x:Nat)=>(x:Int))
theorem conv_str {w:World} {sp:Option Addr} {xs:List Nat} {m:Nat} (h:Bytes w sp xs) (hm:xs.length=m) (c:Nat) :
  (convert 32 9 (.slice sp m c)).run Tryz.prog w=.ok (.string (str xs)) w:=by
 subst hm
 have hz:∀a:Option Addr,(convert 32 9 (.slice a 0 c)).run Tryz.prog w=.ok (.string (str [])) w:=fun a=>by
  rw[run_convert_bytes_string w 32 9 5 a 0 c Tryz.underlying32 Tryz.underlying5 Tryz.underlying9]
  cases a with
  | none=>simp[Conv.bytesToString];rfl
  | some a =>
   rw[run_bytesToString w a 0 c [] (by simpa using run_loadCells_list (P:=Tryz.prog) w a [] (by simp))]
   rfl
 rcases h.lie with h0 | ⟨g,o,rfl,hg,hc⟩
 ·subst h0;exact hz sp
 ·refine run_convert_bytes_arg w 32 5 Tryz.underlying32 Tryz.underlying5 g o _ c _ (by simp) (fun i hi=>?_) 9 Tryz.underlying9
  rw[hc i hi]
  simp[List.getD,hi]
theorem str_eq {xs ys:List Nat} (hx:∀x∈xs,x<256) (hy:∀x∈ys,x<256):((str xs).toList == (str ys).toList)=decide (xs=ys):=by
 have e:∀zs:List Nat,(str zs).toList=zs.map fun x=>UInt8.ofNat x:=fun zs=>by
  rw[ByteArray.toList_eq]
  show (strOfNums _).data.toList=_
  rw[strOfNums_data,List.map_map]
  exact List.map_congr_left fun x _=>by simp
 rw[e,e]
 have inj:∀(aa bs:List Nat),(∀x∈aa,x<256)→(∀x∈bs,x<256)→(aa.map (fun x=>UInt8.ofNat x)=bs.map fun x=>UInt8.ofNat x)→aa=bs:=by
  intro aa
  induction aa with
  | nil=>intro bs _ _ h;cases bs with
   | nil=>rfl
   | cons b bs=>simp at h
  | cons a aa ih =>
   intro bs ha hb h
   cases bs with
   | nil=>simp at h
   | cons b bs =>
    simp only[List.map_cons,List.cons.injEq]at h
    have h1:a=b:=by
     have:=congrArg UInt8.toNat h.1
     have ha':=ha a (List.mem_cons_self ..)
     have hb':=hb b (List.mem_cons_self ..)
     simp only[UInt8.toNat_ofNat']at this
     omega
    rw[h1,ih bs (fun x hx=>ha x (List.mem_cons_of_mem _ hx)) (fun x hx=>hb x (List.mem_cons_of_mem _ hx)) h.2]
 by_cases h:xs=ys
 ·subst h;simp
 ·rw[decide_eq_false h]
  cases hb:(xs.map (fun x=>UInt8.ofNat x) == ys.map fun x=>UInt8.ofNat x) with
  | false=>rfl
  | true=>exact absurd (inj xs ys hx hy (by simpa using hb)) h
set_option maxHeartbeats 400000 in
theorem equal_any (w:World) (s1 s2:Option Addr) (n m c1 c2:Nat) (xs ys:List Nat) (h1:xs.length=n) (h2:ys.length=m) (hx:Bytes w s1 xs) (hy:Bytes w s2 ys) :
  Calls Tryz.prog 128 #[.slice s1 n c1,.slice s2 m c2] w fun e w'=>e=.returned (.bool (decide (xs=ys)))∧w'=w:=by
 have v1:=conv_str hx h1 c1
 have v2:=conv_str hy h2 c2
 have he:=str_eq hx.small hy.small
 generalize str xs=S1 at *
 generalize str ys=S2 at *
 generalize decide (xs=ys)=d at *
 clear hx hy
 go_enter Tryz.func128,Tryz.ntmps128
 go_wp2
 go_ret
 exact⟨rfl,rfl⟩
def hdN (xs:List Nat):Nat:=C.be ((xs.drop 1).take 4)
def hdOk (xs:List Nat):Bool:=decide (12≤hdN xs) && decide (hdN xs≤4194291) && decide (xs.take 9=headB (hdN xs))
def hdRes (xs:List Nat):Value:=.tuple #[.int .i64 ((if hdOk xs then hdN xs+13 else 0:Nat):Int),.bool (hdOk xs)]
theorem hdRes_no {xs:List Nat} (h:hdOk xs=false):hdRes xs=.tuple #[.int .i64 0,.bool false]:=by unfold hdRes;rw[h];rfl
theorem hdRes_ok {xs:List Nat} (h:hdOk xs=true):hdRes xs=.tuple #[.int .i64 ((hdN xs+13:Nat):Int),.bool true]:=by unfold hdRes;rw[h];rfl
theorem rn_first {ys:List Nat} (h:ys.length=9):C.rNext 0 0 ys 0 0=(⟨C.be (ys.take 1),0,0,1,0⟩,1,0):=by
 have e:C.pFind 0 0 (ys.drop 0)=⟨C.be (ys.take 1),0,0,1,0⟩:=by
  simp only[C.pFind,List.drop_zero,C.pFixed,C.width]
  simp[h]
 unfold C.rNext
 rw[e];simp
theorem rn_second {ys:List Nat} (h:ys.length=9):C.rNext 1 0 ys 1 0=(⟨C.be ((ys.drop 1).take 4),0,0,4,0⟩,5,0):=by
 have e:C.pFind 1 0 (ys.drop 1)=⟨C.be ((ys.drop 1).take 4),0,0,4,0⟩:=by
  simp only[C.pFind,C.pFixed,C.width]
  simp[h]
 unfold C.rNext
 rw[e];simp
theorem but_below {B b:Nat} {w0 w w':World} (h:C.But b w w') (k:Below B w0 w) (hb:B≤b) (hB:B≤w.heap.size):Below B w0 w' :=
 ⟨h.os.trans k.os,h.tape.trans k.tape,h.output.trans k.output,Nat.le_trans k.size h.size,fun i hi=>by
  exact(h.block i (Nat.lt_of_lt_of_le hi hB) (by omega)).trans (k.block i hi)⟩
set_option maxHeartbeats 400000 in
theorem recordSize_any (w:World) (sp:Option Addr) (n cap:Nat) (xs:List Nat) (hn:xs.length=n) (h9:9≤n) (hcap:n≤cap) (hc2:cap≤9223372036854775807) (hx:Bytes w sp xs) (hT:C.Tab w) :
  Calls Tryz.prog 88 #[.slice sp n cap] w fun e w'=>e=.returned (hdRes xs)∧Below w.heap.size w w':=by
 have HT:=hide hT
 have HX:=hide hx
 have HN:=hide hn
 have hc9:9≤cap:=by omega
 have HYl:Hid ((xs.take 9).length=9):=by show _=_;rw[List.length_take,hn];omega
 have HY:=hide (bytes_take hx 9)
 have HRd:=hide (C.read_any w sp 9 9 (xs.take 9) HYl.out (by omega) HY.out.c)
 clear hT hx hn
 go_enter Tryz.func88,Tryz.ntmps88
 go_wp2_with fail
 refine HRd.out.mono ?_
 rintro e w1 ⟨rfl,hr1,hb1⟩
 have HU:=hide (C.u8_any w1 _ _ _ _ _ hr1)
 rw[rn_first HYl.out]at HU
 have HB1:=hide hb1
 clear hr1 hb1 HRd
 go_wp2_with fail
 refine HU.out.mono ?_
 rintro e w2 ⟨rfl,hr2,hb2⟩
 have HB2:=hide (but_below hb2 HB1.out (by omega) HB1.out.size)
 have HU:=hide (C.u32_any w2 _ _ _ _ _ hr2)
 rw[rn_second HYl.out,show ((xs.take 9).drop 1).take 4=(xs.drop 1).take 4 by rw[List.drop_take,List.take_take];rfl]at HU
 clear hr2 hb2
 go_wp2_with fail
 refine HU.out.mono ?_
 rintro e w3 ⟨rfl,hr3,hb3⟩
 have HB3:=hide (but_below hb3 HB2.out (by omega) HB2.out.size)
 have HNn:Hid (C.be ((xs.drop 1).take 4)=hdN xs):=rfl
 have hlt:hdN xs<4294967296:=by
  have h1:=C.be_lt ((xs.drop 1).take 4) (fun x hx=>HX.out.small x (List.mem_of_mem_drop (List.mem_of_mem_take hx)))
  have h2:((xs.drop 1).take 4).length≤4:=by rw[List.length_take];omega
  have h3:256 ^ ((xs.drop 1).take 4).length≤256 ^ 4:=Nat.pow_le_pow_right (by omega) h2
  unfold hdN
  omega
 simp only[HNn.out]
 clear hr3 hb3 HU
 by_cases q1:hdN xs<12
 ·have q1':((hdN xs:Nat):Int)<12:=by omega
  have e0:Hid (hdOk xs=false):=by show _=_;unfold hdOk;rw[decide_eq_false (by omega)];rfl
  generalize hdN xs=N at *
  go_wp2
  go_ret2
  exact⟨by rw[hdRes_no e0.out];rfl,HB3.out⟩
 have q1':¬((hdN xs:Nat):Int)<12:=by omega
 by_cases q2:4194291<hdN xs
 ·have q2':(4194291:Int)<((hdN xs:Nat):Int):=by omega
  have e0:Hid (hdOk xs=false):=by show _=_;unfold hdOk;rw[decide_eq_false (p:=hdN xs≤4194291) (by omega)];simp
  generalize hdN xs=N at *
  go_wp2
  go_ret2
  exact⟨by rw[hdRes_no e0.out];rfl,HB3.out⟩
 have q2':¬(4194291:Int)<((hdN xs:Nat):Int):=by omega
 have HOk:Hid (hdOk xs=decide (xs.take 9=headB (hdN xs))):=by show _=_;unfold hdOk;rw[decide_eq_true (p:=12≤hdN xs) (by omega),decide_eq_true (p:=hdN xs≤4194291) (by omega)];rfl
 have HH:=hide (head_any w3 (hdN xs) hlt (HT.out.below HB3.out HT.out.pos))
 obtain⟨N,hN⟩:∃N,hdN xs=N:=⟨_,rfl⟩
 have HNe:=hide hN
 rw[hN]at HH HOk hlt q1 q2 q1' q2' ⊢
 clear hN
 go_wp2_with fail
 refine HH.out.mono ?_
 rintro e w4 ⟨g4,rfl,hf4,hb4⟩
 have HB4:=hide (HB3.out.trans (hb4.mono HB3.out.size))
 have HE:=hide (equal_any w4 sp (some ⟨g4,0,none⟩) 9 9 9 9 (xs.take 9) (headB N) HYl.out (headB_len N) (HY.out.below HB4.out) hf4.bytes)
 rw[←HOk.out]at HE
 clear hf4 hb4 HH
 obtain⟨d,hd⟩:∃d,hdOk xs=d:=⟨_,rfl⟩
 rw[hd]at HE
 have HD:=hide hd
 clear hd
 cases d with
 | false =>
  go_wp2_with fail
  refine HE.out.mono ?_
  rintro e w5 ⟨rfl,rfl⟩
  go_wp2
  go_ret2
  exact⟨by rw[hdRes_no HD.out];rfl,HB4.out⟩
 | true =>
  go_wp2_with fail
  refine HE.out.mono ?_
  rintro e w5 ⟨rfl,rfl⟩
  go_wp2
  go_ret2
  exact⟨by rw[hdRes_ok HD.out,HNe.out];simp;omega,HB4.out⟩
end Go.Proofs.YtcceejdaokoihaaGreatDoor
