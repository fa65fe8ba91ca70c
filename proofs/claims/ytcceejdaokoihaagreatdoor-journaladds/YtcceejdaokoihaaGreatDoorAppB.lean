import Derived.Test.YtcceejdaokoihaaGreatDoorDiskI
set_option maxRecDepth 100000
namespace Go.Proofs.YtcceejdaokoihaaGreatDoor
open Go.RowKit Go.Maps
theorem ins_perm (x:Nm × Nat):∀l:List (Nm × Nat),(insN x l).Perm (x :: l)
 | []=>List.Perm.refl _
 | y :: r=>by
  unfold insN
  split
  ·exact List.Perm.refl _
  ·exact((ins_perm x r).cons y).trans (List.Perm.swap x y r)
theorem del_none {k:Nm} {l:List (Nm × Nat)} (h:∀p∈l,p.1≠k):delN k l=l:=by
 unfold delN;exact List.filter_eq_self.2 fun p hp=>by simpa using h p hp
theorem del_perm {k:Nm} {v:Nat} : ∀{l:List (Nm × Nat)},l.Pairwise (fun p q=>p.1≠q.1)→(k,v)∈l→l.Perm ((k,v) :: delN k l)
 | [],_,h=>by cases h
 | y :: r,hp,h=>by
  obtain⟨h1,h2⟩:=List.pairwise_cons.1 hp
  rcases List.mem_cons.1 h with rfl | h
  ·have:delN k ((k,v) :: r)=r:=by
    unfold delN
    rw[List.filter_cons]
    simp only[beq_self_eq_true,Bool.not_true,Bool.false_eq_true,if_false]
    exact List.filter_eq_self.2 fun p hp=>by simpa using (h1 p hp).symm
   rw[this]
  ·have e:delN k (y :: r)=y :: delN k r:=by
    unfold delN
    rw[List.filter_cons]
    have:(y.1 == k)=false:=by simpa using h1 _ h
    simp[this]
   rw[e]
   exact((del_perm h2 h).cons y).trans (List.Perm.swap _ _ _)
theorem sum_sub {g:Nm × Nat→Nat} {l l':List (Nm × Nat)} (h:l.Sublist l'):(l.map g).sum≤(l'.map g).sum:=by
 induction h with
 | slnil=>exact Nat.le_refl _
 | cons a _ ih=>simp only[List.map_cons,List.sum_cons];omega
 | cons_cons a _ ih=>simp only[List.map_cons,List.sum_cons];omega
theorem St.turn_file {S:St} {i:Nat} {f:Fil} (hi:i<S.files.length) (j:Nat):(S.turn i f).file j=if j=i then f else S.file j:=by
 unfold St.file St.turn
 simp only
 rw[List.getElem?_set]
 by_cases e:i=j
 ·subst e;simp[hi]
 ·simp[e,Ne.symm e]
theorem sum_turn {S:St} {i:Nat} {f:Fil} (hi:i<S.files.length):∀{l:List (Nm × Nat)} {x:Nm},(l.map (·.2)).Nodup→(x,i)∈l→(l.map fun p=>((S.turn i f).file p.2).all.length).sum+(S.file i).all.length=(l.map fun p=>(S.file p.2).all.length).sum+f.all.length
 | [],_,_,h=>by cases h
 | p :: l,x,hn,h=>by
  rw[List.map_cons]at hn
  obtain⟨h1,h2⟩:=List.nodup_cons.1 hn
  simp only[List.map_cons,List.sum_cons]
  rcases List.mem_cons.1 h with rfl | h
  ·have e:(l.map fun p=>((S.turn i f).file p.2).all.length)=l.map fun p=>(S.file p.2).all.length:=List.map_congr_left fun q hq=>by
    rw[St.turn_file hi,if_neg (fun e=>h1 (List.mem_map.2 ⟨q,hq,e⟩))]
   rw[e,St.turn_file hi,if_pos rfl]
   simp only
   omega
  ·have ih:=sum_turn hi (f:=f) h2 h
   have e:p.2≠i:=fun e=>h1 (List.mem_map.2 ⟨(x,i),h,e.symm⟩)
   rw[St.turn_file hi,if_neg e]
   omega
theorem used_turn {S:St} (h:Inv S) {x:Nm} {i:Nat} {f:Fil} (hl:lookN S.seen x=some i):(S.turn i f).used+(S.file i).all.length=S.used+f.all.length :=
 sum_turn (S.seen_file h hl) h.nod ((look_mem h.srt).1 hl)
theorem Inv.turn {S:St} (h:Inv S) {i:Nat} {f:Fil} (hu:(S.turn i f).used≤S.room):Inv (S.turn i f):=by
 have hl:(S.files.set i f).length=S.files.length:=by simp
 refine⟨h.room,h.srt,h.srts,fun p hp=>?_,fun p hp=>?_,fun c hc=>?_,h.nod,h.most,h.mosts,hu,h.fold⟩
 ·show p.2<(S.files.set i f).length∧_;rw[hl];exact h.ins p hp
 ·show p.2<(S.files.set i f).length∧_;rw[hl];exact h.inf p hp
 ·show _∧(_∨_∧c.file<(S.files.set i f).length);rw[hl];exact h.chg c hc
theorem Inv.stroked {S:St} (h:Inv S):Inv S.stroked:=⟨h.room,h.srt,h.srts,h.ins,h.inf,h.chg,h.nod,h.most,h.mosts,h.used,h.fold⟩
theorem Inv.plan {S:St} (h:Inv S) (a b c:Int):Inv (S.planR a b c):=by
 unfold St.planR
 split
 ·exact h
 ·exact⟨h.room,h.srt,h.srts,h.ins,h.inf,h.chg,h.nod,h.most,h.mosts,h.used,h.fold⟩
theorem Inv.settledN {S:St} (h:Inv S):Inv S.settledN:=by
 have e:S.chg.foldl withN S.safe=S.seen:=h.fold.symm
 have a1:Srt (S.chg.foldl withN S.safe):=by rw[e];exact h.srt
 have a2:∀p∈S.chg.foldl withN S.safe,p.2<S.files.length∧isNm p.1=true:=by rw[e];exact h.ins
 have a3:(S.chg.foldl withN S.safe).length≤64:=by rw[e];exact h.most
 exact⟨h.room,h.srt,a1,h.ins,a2,fun c hc=>(by cases hc),h.nod,h.most,a3,h.used,h.fold⟩
theorem Inv.ren {S:St} (h:Inv S) (c:Chg) (hi:∀p∈withN S.seen c,p.2<S.files.length∧isNm p.1=true) (hc:(c.frm=[]∨isNm c.frm=true)∧(c.to=[]∨(isNm c.to=true∧c.file<S.files.length)))
  (hn:((withN S.seen c).map (·.2)).Nodup) (hm:(withN S.seen c).length≤64) (hu:((withN S.seen c).map fun p=>(S.file p.2).all.length).sum≤S.room):Inv (S.ren c) :=
 ⟨h.room,h.srt.withN c,h.srts,hi,h.inf,fun d hd=>by
  rcases List.mem_append.1 hd with e | e
  ·exact h.chg d e
  ·simp at e;subst e;exact hc,hn,hm,h.mosts,hu,by show withN S.seen c=(S.chg++[c]).foldl withN S.safe;rw[List.foldl_append,←h.fold];rfl⟩
theorem Inv.del {S:St} (h:Inv S) {x:Nm} {i:Nat} (hl:lookN S.seen x=some i):Inv (S.ren ⟨x,[],0⟩):=by
 have hm:=(look_mem h.srt).1 hl
 have hp:=del_perm h.srt.nodup hm
 have e:withN S.seen ⟨x,[],0⟩=delN x S.seen:=rfl
 have hnx:=(h.ins _ hm).2
 refine h.ren _ ?_ ⟨Or.inr hnx,Or.inl rfl⟩ ?_ ?_ ?_ <;> rw[e]
 ·exact fun p hp=>h.ins p (mem_del.1 hp).1
 ·have:=(hp.map (·.2)).nodup_iff.1 h.nod
  rw[List.map_cons]at this
  exact(List.nodup_cons.1 this).2
 ·exact Nat.le_trans (len_del _ _) h.most
 ·have:=(hp.map fun p=>(S.file p.2).all.length).sum_nat
  rw[List.map_cons,List.sum_cons]at this
  have hu:=h.used
  unfold St.used at hu
  omega
theorem Inv.mv {S:St} (h:Inv S) {x y:Nm} {i:Nat} (hl:lookN S.seen x=some i) (hy:isNm y=true):Inv (S.ren ⟨x,y,i⟩):=by
 have hm:=(look_mem h.srt).1 hl
 have hp:=del_perm h.srt.nodup hm
 have hy0:y≠[]:=by rintro rfl;have:=(nm_len hy).1;simp at this
 have e:withN S.seen ⟨x,y,i⟩=insN (y,i) (delN y (delN x S.seen)):=by unfold withN;rw[if_neg hy0];rfl
 have hnx:=(h.ins _ hm).2
 have hq:=ins_perm (y,i) (delN y (delN x S.seen))
 have hsub:(delN y (delN x S.seen)).Sublist (delN x S.seen):=List.filter_sublist
 have hnod:=(hp.map (·.2)).nodup_iff.1 h.nod
 rw[List.map_cons]at hnod
 obtain⟨n1,n2⟩:=List.nodup_cons.1 hnod
 refine h.ren _ ?_ ⟨Or.inr hnx,Or.inr ⟨hy,(h.ins _ hm).1⟩⟩ ?_ ?_ ?_ <;> rw[e]
 ·intro p hp
  rcases mem_ins.1 hp with rfl | hp
  ·exact⟨(h.ins _ hm).1,hy⟩
  ·exact h.ins p (mem_del.1 (mem_del.1 hp).1).1
 ·refine(hq.map (·.2)).nodup_iff.2 ?_
  rw[List.map_cons]
  exact List.nodup_cons.2 ⟨fun hc=>n1 ((hsub.map (·.2)).subset hc),n2.sublist (hsub.map (·.2))⟩
 ·have h1:=hq.length_eq
  have h2:=hsub.length_le
  have h3:=hp.length_eq
  have h4:=h.most
  simp only[List.length_cons]at h1 h3
  omega
 ·have h1:=(hq.map fun p=>(S.file p.2).all.length).sum_nat
  have h2:=(hp.map fun p=>(S.file p.2).all.length).sum_nat
  rw[List.map_cons,List.sum_cons]at h1 h2
  have h3:((delN y (delN x S.seen)).map fun p=>(S.file p.2).all.length).sum≤((delN x S.seen).map fun p=>(S.file p.2).all.length).sum:=sum_sub hsub
  have hu:=h.used
  unfold St.used at hu
  simp only at h1 h2
  omega
theorem made_file {S:St} {f:Fil} {j:Nat} (h:j<S.files.length):(S.made f).file j=S.file j:=by
 unfold St.file St.made
 simp only
 rw[List.getElem?_append_left h]
theorem Inv.make {S:St} (h:Inv S) {x:Nm} (hl:lookN S.seen x=none) (hx:isNm x=true) (hm:S.seen.length<64):Inv ((S.made ⟨[],[]⟩).ren ⟨[],x,S.files.length⟩):=by
 have hx0:x≠[]:=by rintro rfl;have:=(nm_len hx).1;simp at this
 have hne:∀p∈S.seen,p.1≠[]:=fun p hp e=>by have:=(nm_len (h.ins p hp).2).1;rw[e]at this;simp at this
 have e:withN S.seen ⟨[],x,S.files.length⟩=insN (x,S.files.length) S.seen:=by
  unfold withN putN
  rw[if_neg hx0,del_none hne,del_none (look_none.1 hl)]
 have hlen:(S.made ⟨[],[]⟩).files.length=S.files.length+1:=by simp[St.made]
 have hS:Inv (S.made ⟨[],[]⟩):=by
  refine⟨h.room,h.srt,h.srts,fun p hp=>⟨by rw[hlen];have:=(h.ins p hp).1;omega,(h.ins p hp).2⟩,fun p hp=>⟨by rw[hlen];have:=(h.inf p hp).1;omega,(h.inf p hp).2⟩,fun c hc=>⟨(h.chg c hc).1,(h.chg c hc).2.imp id fun e=>⟨e.1,by rw[hlen];omega⟩⟩,h.nod,h.most,h.mosts,?_,h.fold⟩
  have:(S.made ⟨[],[]⟩).used=S.used:=by
   unfold St.used
   show (S.seen.map fun p=>((S.made ⟨[],[]⟩).file p.2).all.length).sum=_
   congr 1
   exact List.map_congr_left fun p hp=>by rw[made_file (h.ins p hp).1]
  rw[this];exact h.used
 have hq:=ins_perm (x,S.files.length) S.seen
 have e':withN (S.made ⟨[],[]⟩).seen ⟨[],x,S.files.length⟩=insN (x,S.files.length) S.seen:=e
 refine hS.ren _ ?_ ⟨Or.inl rfl,Or.inr ⟨hx,by rw[hlen];exact Nat.lt_succ_self _⟩⟩ ?_ ?_ ?_ <;> rw[e']
 ·intro p hp
  rcases mem_ins.1 hp with rfl | hp
  ·exact⟨by rw[hlen];exact Nat.lt_succ_self _,hx⟩
  ·exact hS.ins p hp
 ·refine(hq.map (·.2)).nodup_iff.2 ?_
  rw[List.map_cons]
  refine List.nodup_cons.2 ⟨fun hc=>?_,h.nod⟩
  obtain⟨p,hp,e2⟩:=List.mem_map.1 hc
  have:=(h.ins p hp).1
  simp at e2;omega
 ·rw[hq.length_eq];simp;omega
 ·rw[(hq.map fun p=>((S.made ⟨[],[]⟩).file p.2).all.length).sum_nat,List.map_cons,List.sum_cons]
  have h1:((S.made ⟨[],[]⟩).file S.files.length).all.length=0:=by
   unfold St.file St.made;simp[Fil.all,carryL]
  have h2:=hS.used
  unfold St.used at h2
  rw[h1]
  show 0+(S.seen.map fun p=>((S.made ⟨[],[]⟩).file p.2).all.length).sum≤S.room
  have h3:(S.seen.map fun p=>((S.made ⟨[],[]⟩).file p.2).all.length).sum≤S.room:=h2
  omega
theorem Sz.stroked {S:St} {k:Nat} (h:Sz S k):Sz S.stroked (k+1):=⟨by have:=h.st;show S.strokes+1≤k+1;omega,by have:=h.pl;show S.planned+1≤k+1;omega,Nat.le_succ_of_le h.ch,fun f hf=>⟨(h.fl f hf).1,(h.fl f hf).2.1,Nat.le_succ_of_le (h.fl f hf).2.2⟩⟩
theorem Sz.mono {S:St} {k k':Nat} (h:Sz S k) (hk:k≤k'):Sz S k':=⟨Nat.le_trans h.st hk,Nat.le_trans h.pl hk,Nat.le_trans h.ch hk,fun f hf=>⟨(h.fl f hf).1,(h.fl f hf).2.1,Nat.le_trans (h.fl f hf).2.2 hk⟩⟩
theorem Sz.turn {S:St} {k:Nat} (h:Sz S k) {i:Nat} {f:Fil} (hf:f.ok∧f.safe.length≤16777216∧f.units.length≤k):Sz (S.turn i f) k :=
 ⟨h.st,h.pl,h.ch,fun g hg=>by
  rcases List.mem_or_eq_of_mem_set hg with e | e
  ·exact h.fl g e
  ·rw[e];exact hf⟩
theorem Sz.ren {S:St} {k:Nat} (h:Sz S k) (c:Chg) (hc:S.chg.length<k):Sz (S.ren c) k:=⟨h.st,h.pl,by show (S.chg++[c]).length≤k;simp;omega,h.fl⟩
theorem Sz.made {S:St} {k:Nat} (h:Sz S k):Sz (S.made ⟨[],[]⟩) k :=
 ⟨h.st,h.pl,h.ch,fun g hg=>by
  rcases List.mem_append.1 hg with e | e
  ·exact h.fl g e
  ·simp at e;subst e;exact⟨⟨fun _ hx=>(by cases hx),fun k u hu=>(by simp at hu)⟩,Nat.zero_le _,Nat.zero_le _⟩⟩
theorem Sz.settledN {S:St} {k:Nat} (h:Sz S k):Sz S.settledN k:=⟨h.st,h.pl,Nat.zero_le _,h.fl⟩
theorem Sz.file {S:St} {k:Nat} (h:Sz S k) {i:Nat} (hi:i<S.files.length):(S.file i).ok∧(S.file i).safe.length≤16777216∧(S.file i).units.length≤k:=h.fl _ (List.mem_of_getElem? (St.file_some hi))
structure Opx where
 kind:Int
 n:Int
 name:Nm
 to:Nm
 b:List Nat
def St.play (S:St) (p:Opx):Nat × St :=
 if p.kind=1 then S.appendR p.name p.b else if p.kind=2 then S.cutR p.name p.n else if p.kind=3 then S.syncR p.name else if p.kind=4 then S.namesR else if p.kind=5 then S.renameR p.name p.to else if p.kind=6 then S.removeR p.name else (0,S)
structure Good (S S':St) (k':Nat):Prop where
 inv:Inv S'
 sz:Sz S' k'
 room:S'.room=S.room
theorem good_self {S:St} {k:Nat} (hv:Inv S) (hz:Sz S k) (m:Nat):Good S S (k+m+1):=⟨hv,hz.mono (by omega),rfl⟩
theorem good_stroked {S:St} {k:Nat} (hv:Inv S) (hz:Sz S k) (m:Nat):Good S S.stroked (k+m+1):=⟨hv.stroked,hz.stroked.mono (by omega),rfl⟩
theorem good_append {S:St} {k:Nat} (hv:Inv S) (hz:Sz S k) (x:Nm) (b:List Nat) (hb:∀y∈b,y<256):Good S (S.appendR x b).2 (k+b.length+1):=by
 unfold St.appendR
 split
 ·exact good_self hv hz _
 split
 ·exact good_self hv hz _
 rename_i hn
 split
 ·exact good_stroked hv hz _
 rename_i hf
 have hroom:b.length+S.used≤S.room:=by
  have h1:S.stroked.full b.length=false:=by simpa using hf
  unfold St.full at h1
  simp only[Bool.or_eq_false_iff,decide_eq_false_iff_not]at h1
  have:=h1.2
  rw[used_stroked]at this
  have e:S.stroked.room=S.room:=rfl
  omega
 have hnm:isNm x=true:=by
  cases h:isNm x
  ·exact absurd (Or.inl h) hn
  ·rfl
 cases hl:lookN S.seen x with
 | some i =>
  have hi:=S.seen_file hv hl
  have hfz:=hz.file hi
  have hu:=used_turn hv.stroked (S:=S.stroked) (f:=(S.file i).add b) hl
  have hr:S.stroked.room=S.room:=rfl
  have e1:S.stroked.file i=S.file i:=rfl
  rw[Fil.all_add,List.length_append,e1,used_stroked]at hu
  refine⟨hv.stroked.turn (by omega),(hz.stroked.mono (k':=k+b.length+1) (by omega)).turn ⟨hfz.1.add hb,hfz.2.1,?_⟩,rfl⟩
  simp[Fil.add,bus];omega
 | none =>
  have hlt:S.seen.length<64:=by
   rcases Nat.lt_or_ge S.seen.length 64 with h | h
   ·exact h
   ·exact absurd (Or.inr ⟨hl,h⟩) hn
  have hI:Inv ((S.stroked.made ⟨[],[]⟩).ren ⟨[],x,S.files.length⟩):=hv.stroked.make (S:=S.stroked) hl hnm hlt
  have hlook:lookN (((S.stroked.made ⟨[],[]⟩).ren ⟨[],x,S.files.length⟩)).seen x=some S.files.length:=by
   refine(look_mem hI.srt).2 ?_
   show (x,S.files.length)∈withN S.seen ⟨[],x,S.files.length⟩
   unfold withN
   rw[if_neg (by intro e;simp only at e;rw[e]at hnm;have:=(nm_len hnm).1;simp at this)]
   exact mem_put.2 (Or.inl rfl)
  have hu:=used_turn hI (f:=(⟨[],[]⟩:Fil).add b) hlook
  have hf0:(((S.stroked.made ⟨[],[]⟩).ren ⟨[],x,S.files.length⟩)).file S.files.length=⟨[],[]⟩:=by
   unfold St.file St.ren St.made;simp[St.stroked]
  have hus:(((S.stroked.made ⟨[],[]⟩).ren ⟨[],x,S.files.length⟩)).used≤S.used:=by
   have hx0:x≠[]:=by rintro rfl;have:=(nm_len hnm).1;simp at this
   have hne:∀p∈S.seen,p.1≠[]:=fun p hp e=>by have:=(nm_len (hv.ins p hp).2).1;rw[e]at this;simp at this
   have e:withN S.seen ⟨[],x,S.files.length⟩=insN (x,S.files.length) S.seen:=by
    unfold withN putN
    rw[if_neg hx0,del_none hne,del_none (look_none.1 hl)]
   show ((withN S.seen ⟨[],x,S.files.length⟩).map fun p=>((S.stroked.made ⟨[],[]⟩).file p.2).all.length).sum≤_
   rw[e,((ins_perm (x,S.files.length) S.seen).map _).sum_nat,List.map_cons,List.sum_cons]
   have h1:((S.stroked.made ⟨[],[]⟩).file S.files.length).all.length=0:=by unfold St.file St.made;simp[St.stroked,Fil.all,carryL]
   have h2:(S.seen.map fun p=>((S.stroked.made ⟨[],[]⟩).file p.2).all.length)=S.seen.map fun p=>(S.file p.2).all.length:=List.map_congr_left fun p hp=>by rw[made_file (S:=S.stroked) (hv.ins p hp).1];rfl
   simp only[h1,h2]
   unfold St.used;omega
  rw[hf0,Fil.all_add,List.length_append]at hu
  have h0:(⟨[],[]⟩:Fil).all.length=0:=rfl
  refine⟨hI.turn ?_,?_,rfl⟩
  ·show _≤S.room
   omega
  ·refine Sz.turn (Sz.ren ((hz.stroked.mono (k':=k+b.length+1) (by omega)).made) _ (by have:=hz.ch;show S.chg.length<_;omega)) ⟨(⟨fun _ hx=>(by cases hx),fun k u hu=>(by simp at hu)⟩:(⟨[],[]⟩:Fil).ok).add hb,Nat.zero_le _,?_⟩
   simp[Fil.add,bus];omega
theorem look_get {S:St} {x:Nm} (h:S.err x=0):lookN S.seen x=some ((lookN S.seen x).getD 0):=by
 obtain⟨_,_,i,hi⟩:=err_zero h
 rw[hi];rfl
theorem good_cut {S:St} {k:Nat} (hv:Inv S) (hz:Sz S k) (x:Nm) (n:Int):Good S (S.cutR x n).2 (k+0+1):=by
 unfold St.cutR
 split
 ·exact good_self hv hz 0
 rename_i he
 have he:S.err x=0:=by simpa using he
 have hl:=look_get he
 generalize (lookN S.seen x).getD 0=i at *
 simp only
 split
 ·exact good_self hv hz 0
 rename_i hn
 have hi:=S.seen_file hv hl
 have hfz:=hz.file hi
 have hle:=S.file_le hv hl
 have hu:=used_turn hv.stroked (S:=S.stroked) (f:=(S.file i).cut n.toNat) hl
 have e1:S.stroked.file i=S.file i:=rfl
 rw[Fil.all_cut,List.length_take,e1,used_stroked]at hu
 have hr:S.stroked.room=S.room:=rfl
 have hus:=hv.used
 refine⟨hv.stroked.turn (by omega),hz.stroked.turn ⟨hfz.1.cut _ (by omega),?_,?_⟩,rfl⟩
 ·unfold Fil.cut;split <;> exact hfz.2.1
 ·unfold Fil.cut
  split
  ·simp;omega
  ·omega
theorem good_sync {S:St} {k:Nat} (hv:Inv S) (hz:Sz S k) (x:Nm):Good S (S.syncR x).2 (k+0+1):=by
 unfold St.syncR
 split
 ·exact good_self hv hz 0
 rename_i he
 have he:S.err x=0:=by simpa using he
 have hl:=look_get he
 generalize (lookN S.seen x).getD 0=i at *
 simp only
 split
 ·have hi:=S.seen_file hv hl
  have hfz:=hz.file hi
  have hle:=S.file_le hv hl
  have hu:=used_turn hv.stroked (S:=S.stroked) (f:=(S.file i).settled) hl
  have e1:S.stroked.file i=S.file i:=rfl
  rw[Fil.all_settled,e1,used_stroked]at hu
  have hr:S.stroked.room=S.room:=rfl
  have hus:=hv.used
  exact⟨hv.stroked.turn (by omega),hz.stroked.turn ⟨hfz.1.settled,hle,Nat.zero_le _⟩,rfl⟩
 ·exact good_stroked hv hz 0
theorem good_names {S:St} {k:Nat} (hv:Inv S) (hz:Sz S k):Good S S.namesR.2 (k+0+1):=by
 unfold St.namesR
 split
 ·exact good_self hv hz 0
 simp only
 split
 ·exact⟨hv.stroked.settledN,hz.stroked.settledN,rfl⟩
 ·exact good_stroked hv hz 0
theorem good_rename {S:St} {k:Nat} (hv:Inv S) (hz:Sz S k) (x y:Nm):Good S (S.renameR x y).2 (k+0+1):=by
 unfold St.renameR
 split
 ·exact good_self hv hz 0
 rename_i hy
 split
 ·exact good_self hv hz 0
 rename_i he
 have he:S.err x=0:=by simpa using he
 have hl:=look_get he
 generalize (lookN S.seen x).getD 0=i at *
 simp only
 split
 ·exact good_stroked hv hz 0
 ·have hny:isNm y=true:=by
   cases h:isNm y
   ·exact absurd ⟨by omega,h⟩ hy
   ·rfl
  exact⟨hv.stroked.mv (S:=S.stroked) hl hny,hz.stroked.ren _ (by have:=hz.ch;show S.chg.length<_;omega),rfl⟩
theorem good_remove {S:St} {k:Nat} (hv:Inv S) (hz:Sz S k) (x:Nm):Good S (S.removeR x).2 (k+0+1):=by
 unfold St.removeR
 split
 ·exact good_self hv hz 0
 rename_i he
 have he:S.err x=0:=by simpa using he
 obtain⟨_,_,i,hl⟩:=err_zero he
 exact⟨hv.stroked.del (S:=S.stroked) hl,hz.stroked.ren _ (by have:=hz.ch;show S.chg.length<_;omega),rfl⟩
theorem Good.mono {S S':St} {k k':Nat} (h:Good S S' k) (hk:k≤k'):Good S S' k':=⟨h.inv,h.sz.mono hk,h.room⟩
theorem good_play {S:St} {k:Nat} (hv:Inv S) (hz:Sz S k) (p:Opx) (hb:∀y∈p.b,y<256):Good S (S.play p).2 (k+p.b.length+1):=by
 unfold St.play
 split
 ·exact good_append hv hz _ _ hb
 split
 ·exact(good_cut hv hz _ _).mono (by omega)
 split
 ·exact(good_sync hv hz _).mono (by omega)
 split
 ·exact(good_names hv hz).mono (by omega)
 split
 ·exact(good_rename hv hz _ _).mono (by omega)
 split
 ·exact(good_remove hv hz _).mono (by omega)
 ·exact good_self hv hz _
theorem Tryz.infoFb:(Tryz.prog.info? 87).map (fun i=>(i.zero,i.size,i.bytes))=some (some (.agg #[.string ⟨#[]⟩,.slice none 0 0]),2,40):=by kernel_rfl
abbrev Image:=List (Nm × List Nat)
def imv (img:Image) (ds:List (Option Addr × Nat)):List Value:=(img.zip ds).flatMap fun q=>[.string ⟨q.1.1.toArray⟩,.slice q.2.1 q.1.2.length q.2.2]
theorem imv_snoc {img:Image} {ds:List (Option Addr × Nat)} (h:ds.length=img.length) (p:Nm × List Nat) (d:Option Addr × Nat):imv (img++[p]) (ds++[d])=imv img ds++[.string ⟨p.1.toArray⟩,.slice d.1 p.2.length d.2]:=by
 unfold imv
 rw[List.zip_append h.symm]
 simp
theorem imv_at {img:Image} {ds:List (Option Addr × Nat)} {k:Nat} {p:Nm × List Nat} {d:Option Addr × Nat} (hp:img[k]?=some p) (hd:ds[k]?=some d):(imv img ds)[k*2]?=some (.string ⟨p.1.toArray⟩)∧(imv img ds)[k*2+1]?=some (.slice d.1 p.2.length d.2):=by
 induction img generalizing ds k with
 | nil=>simp at hp
 | cons q img ih =>
  cases ds with
  | nil=>simp at hd
  | cons e ds =>
   have hs:imv (q :: img) (e :: ds)=[.string ⟨q.1.toArray⟩,.slice e.1 q.2.length e.2]++imv img ds:=by simp[imv]
   rw[hs]
   cases k with
   | zero=>simp at hp hd;subst hp;subst hd;exact⟨rfl,rfl⟩
   | succ k =>
    have:=ih (k:=k) (by simpa using hp) (by simpa using hd)
    rw[List.getElem?_append_right (by simp;omega),List.getElem?_append_right (by simp;omega)]
    simp only[List.length_cons,List.length_nil]
    rw[show (k+1)*2 - (0+1+1)=k*2 by omega,show (k+1)*2+1 - (0+1+1)=k*2+1 by omega]
    exact this
structure Im (w:World) (K:Knd) (v:Value) (img:Image):Prop where
 small:∀p∈img,(∀x∈p.2,x<256)∧p.2.length≤1099511627776
 row:∃ds:List (Option Addr × Nat),ds.length=img.length∧Rk w K (0,0) 87 2 v img.length (imv img ds)∧∀(j:Nat) (p:Nm × List Nat) (d:Option Addr × Nat),img[j]?=some p→ds[j]?=some d→Rk w K (0,0) 5 1 (.slice d.1 p.2.length d.2) p.2.length (vals p.2)
theorem Im.kept {p:Nat × Nat→Prop} {K K':Knd} {w w':World} {v:Value} {img:Image} (h:Im w K v img) (hk:Kp p K K' w w') (hp:¬p (0,0)):Im w' K' v img:=by
 obtain⟨ds,h1,h2,h3⟩:=h.row
 exact⟨h.small,ds,h1,h2.kept hk hp,fun j q d hq hd=>(h3 j q d hq hd).kept hk hp⟩
theorem Im.form {K:Knd} {w:World} {v:Value} {img:Image} (h:Im w K v img):∃a c,v=.slice a img.length c∧img.length≤c∧c≤maxLen:=by
 obtain⟨ds,h1,h2,h3⟩:=h.row
 exact h2.form
theorem im_nil (w:World) (K:Knd):Im w K (.slice none 0 0) []:=⟨fun _ h=>(by cases h),[],rfl,rk_nil _ _ _ _ _,fun j p d h=>(by simp at h)⟩
theorem Im.at {K:Knd} {w:World} {a:Option Addr} {n c:Nat} {img:Image} (h:Im w K (.slice a n c) img) {k:Nat} {p:Nm × List Nat} (hp:img[k]?=some p) :
  ∃g ap cp,a=some ⟨g,0,none⟩∧g<w.heap.size∧w.cell? ⟨g,k*2,none⟩=some (.string ⟨p.1.toArray⟩)∧w.cell? ⟨g,k*2+1,none⟩=some (.slice ap p.2.length cp)∧Bytes w ap p.2∧Rk w K (0,0) 5 1 (.slice ap p.2.length cp) p.2.length (vals p.2):=by
 obtain⟨ds,h1,h2,h3⟩:=h.row
 have hkl:=(List.getElem?_eq_some_iff.1 hp).1
 obtain⟨d,hd⟩:∃d,ds[k]?=some d:=⟨_,List.getElem?_eq_getElem (by omega)⟩
 have hc:=imv_at hp hd
 have hr:=h3 k p d hp hd
 rcases h2.own.2 with ⟨_,e2⟩ | ⟨g,cap,cur,e1,_,hg,e3,e4,e5,e6⟩
 ·omega
 ·cases e1
  refine⟨g,d.1,d.2,rfl,lt_of_block hg,?_,?_,owns_bytes hr.own (h.small p (List.mem_of_getElem? hp)).1,hr⟩
  ·have:=hc.1
   rw[←e6,List.getElem?_take,if_pos (by omega)]at this
   simp only[World.cell?,hg]
   simpa using this
  ·have:=hc.2
   rw[←e6,List.getElem?_take,if_pos (by omega)]at this
   simp only[World.cell?,hg]
   simpa using this
set_option maxHeartbeats 400000 in
theorem eq_same (w:World) (sp sq:Option Addr) (n c1 c2:Nat) (xs:List Nat) (hl:xs.length=n) (hn:n≤140737488355328) (h1:Bytes w sp xs) (h2:Bytes w sq xs) :
  Calls Tryz.prog 70 #[.slice sp n c1,.slice sq n c2] w fun e w'=>e=.returned (.bool true)∧∃q,w'=w.drewN q:=by
 by_cases h0:n=0
 ·subst h0
  go_enter Tryz.func70,Tryz.ntmps70
  go_wp2
  refine wp_loop_rounds 1 ?_
  rw[rounds_succ]
  go_wp2
  go_ret
  exact⟨rfl,0,rfl⟩
 ·obtain⟨g,o,rfl,hg,hc⟩:∃g o,sp=some ⟨g,o,none⟩∧g<w.heap.size∧∀j,j<xs.length→w.cell? ⟨g,o+j,none⟩=some (.int .u8 (xs.getD j 0)):=by
   rcases h1.lie with h | h
   ·subst h;simp at hl;omega
   ·exact h
  obtain⟨g',o',rfl,hg',hc'⟩:∃g o,sq=some ⟨g,o,none⟩∧g<w.heap.size∧∀j,j<xs.length→w.cell? ⟨g,o+j,none⟩=some (.int .u8 (xs.getD j 0)):=by
   rcases h2.lie with h | h
   ·subst h;simp at hl;omega
   ·exact h
  rw[hl]at hc hc'
  have HC:=hide hc
  have HC':=hide hc'
  clear hc hc' h1 h2 hl
  go_enter Tryz.func70,Tryz.ntmps70
  go_wp2
  go_loopw [5] (fun i wr=>∃k q:Nat,k≤n∧i=.int .i64 k∧Hid (wr=w.drewN q)) (fun i _=>n - (intOf i).toNat)
  case atStart=>exact⟨0,0,Nat.zero_le _,rfl,rfl⟩
  case round =>
   obtain⟨k,q,hk,rfl,HW⟩:=hrel
   by_cases hlt:k<n
   ·have d1:wr.cell? ⟨g,o+k,none⟩=some (.int .u8 (xs.getD k 0)):=by rw[HW.out];exact HC.out k hlt
    have d2:wr.cell? ⟨g',o'+k,none⟩=some (.int .u8 (xs.getD k 0)):=by rw[HW.out];exact HC'.out k hlt
    have i1:(0:Int)≤(k:Int):=by omega
    have i2:(k:Int)<(n:Int):=by omega
    generalize xs.getD k 0=x at *
    go_wp2
    go_quiet (fail)
    go_wp2
    go_roundw
    case rel=>exact⟨k+1,q+nq,by omega,by go_num,by show _=_;rw[HW.out,World.drewN_drewN]⟩
    case measure=>simp[intOf];omega
   ·obtain rfl:k=n:=by omega
    go_wp2
    go_ret
    exact⟨rfl,q,HW.out⟩
theorem im_drewN {w:World} {K:Knd} {v:Value} {img:Image} (h:Im w K v img) (n:Nat):Im (w.drewN n) K v img:=h.kept (p:=fun _=>False) ((Kp.refl _ K w).drewN n) (fun h=>h)
set_option maxHeartbeats 2000000 in
theorem eqImage_same (w:World) (K:Knd) (va vb:Value) (img:Image) (ha:Im w K va img) (hb:Im w K vb img) (hn:img.length≤1099511627776) :
  Calls Tryz.prog 72 #[va,vb] w fun e w'=>e=.returned (.bool true)∧∃q,w'=w.drewN q:=by
 obtain⟨a1,c1,rfl,_,_⟩:=ha.form
 obtain⟨a2,c2,rfl,_,_⟩:=hb.form
 have HA:=hide ha
 have HB:=hide hb
 obtain⟨n,hnl⟩:∃n,img.length=n:=⟨_,rfl⟩
 have HN:=hide hnl
 rw[hnl]at hn HA HB ⊢
 clear ha hb hnl
 go_enter Tryz.func72,Tryz.ntmps72
 go_wp2
 go_loopw [5] (fun i wr=>∃k q:Nat,k≤n∧i=.int .i64 k∧Hid (wr=w.drewN q)) (fun i _=>n - (intOf i).toNat)
 case atStart=>exact⟨0,0,Nat.zero_le _,rfl,rfl⟩
 case round =>
  obtain⟨k,q,hk,rfl,HW⟩:=hrel
  by_cases hlt:k<n
  ·obtain⟨p,hp⟩:∃p,img[k]?=some p:=⟨_,List.getElem?_eq_getElem (by rw[HN.out];exact hlt)⟩
   have hA:Im wr K (.slice a1 n c1) img:=by rw[HW.out];exact im_drewN HA.out q
   have hB:Im wr K (.slice a2 n c2) img:=by rw[HW.out];exact im_drewN HB.out q
   obtain⟨g1,p1,d1,rfl,l1,x1,y1,b1,_⟩:=hA.at hp
   obtain⟨g2,p2,d2,rfl,l2,x2,y2,b2,_⟩:=hB.at hp
   have hsm:=HA.out.small p (List.mem_of_getElem? hp)
   have HQ:=hide (fun q=>eq_same (wr.drewN q) p1 p2 p.2.length d1 d2 p.2 rfl (by omega) ⟨b1.small,b1.lie⟩ ⟨b2.small,b2.lie⟩)
   have i1:(0:Int)≤(k:Int):=by omega
   have i2:(k:Int)<(n:Int):=by omega
   clear hp hA hB b1 b2 hsm
   generalize hs1:(⟨p.1.toArray⟩:ByteArray)=s1 at *
   clear hs1
   generalize p.2.length=pl at *
   go_wp2
   go_quiet (first | (go_at_call 70;exact Calls.quiet_of (HQ.out _)))
   go_wp2
   go_roundw
   case rel=>exact⟨k+1,q+nq,by omega,by go_num,by show _=_;rw[HW.out,World.drewN_drewN]⟩
   case measure=>simp[intOf];omega
  ·obtain rfl:k=n:=by omega
   go_wp2
   go_ret
   exact⟨rfl,q,HW.out⟩
def St.image (S:St):Image:=if S.off then [] else S.seen.map fun p=>(p.1,(S.file p.2).all)
theorem look_of_mem {l:List (Nm × Nat)} (h:Srt l) {p:Nm × Nat} (hp:p∈l):lookN l p.1=some p.2:=(look_mem h).2 hp
theorem image_read {S:St} (hv:Inv S) {p:Nm × List Nat} (hp:p∈S.image):S.err p.1=0∧S.bytes p.1=p.2∧isNm p.1=true:=by
 unfold St.image at hp
 split at hp
 ·cases hp
 ·rename_i ho
  obtain⟨q,hq,rfl⟩:=List.mem_map.1 hp
  have hl:=look_of_mem hv.srt hq
  have hn:=(hv.ins q hq).2
  have he:S.err q.1=0:=by unfold St.err;rw[if_neg ho,if_pos hn,if_neg (by rw[hl];simp)]
  exact⟨he,by unfold St.bytes;rw[if_pos he,hl];rfl,hn⟩
theorem image_small {S:St} (hv:Inv S) {k:Nat} (hz:Sz S k):∀p∈S.image,(∀x∈p.2,x<256)∧p.2.length≤16777216:=by
 intro p hp
 unfold St.image at hp
 split at hp
 ·cases hp
 ·obtain⟨q,hq,rfl⟩:=List.mem_map.1 hp
  exact⟨(hz.file (hv.ins q hq).1).1.allSmall,S.file_le hv (look_of_mem hv.srt hq)⟩
theorem Im.push {w w':World} {K:Knd} {v v':Value} {img:Image} {ds:List (Option Addr × Nat)} {p:Nm × List Nat} {ap:Option Addr} {cp:Nat} (hs:∀q∈img,(∀x∈q.2,x<256)∧q.2.length≤1099511627776) (h1:ds.length=img.length) (h2:Rk w K (0,0) 87 2 v img.length (imv img ds))
  (h3:∀(j:Nat) (p:Nm × List Nat) (d:Option Addr × Nat),img[j]?=some p→ds[j]?=some d→Rk w K (0,0) 5 1 (.slice d.1 p.2.length d.2) p.2.length (vals p.2))
  (hp:(∀x∈p.2,x<256)∧p.2.length≤1099511627776) (hr:Rk w K (0,0) 5 1 (.slice ap p.2.length cp) p.2.length (vals p.2))
  (ho:w'.ownsRow 0 87 2 v' (img.length+1) (imv img ds++[.string ⟨p.1.toArray⟩,.slice ap p.2.length cp])) (hg:∀g,g<w.heap.size→some g≠v.ownBlock→w'.heap[g]?=w.heap[g]?) (hk:∀g,v'.ownBlock=some g→K g=(0,0)):Im w' K v' (img++[p]):=by
 have hkeep:∀{u:Value} {n:Nat} {xs:List Value},Rk w K (0,0) 5 1 u n xs→Rk w' K (0,0) 5 1 u n xs:=fun hu =>
  ⟨owns_same hu.own (fun g e=>hg g (rk_lt hu.own e) (owns_apart hu.own h2.own (by decide) g e)),hu.kind⟩
 refine⟨fun q hq=>?_,ds++[(ap,cp)],by simp[h1],⟨?_,hk⟩,fun j q d hq hd=>?_⟩
 ·rcases List.mem_append.1 hq with e | e
  ·exact hs q e
  ·simp at e;subst e;exact hp
 ·rw[imv_snoc h1,List.length_append];exact ho
 ·by_cases e:j<img.length
  ·rw[List.getElem?_append_left e]at hq
   rw[List.getElem?_append_left (by omega)]at hd
   exact hkeep (h3 j q d hq hd)
  ·have hj:j=img.length:=by
    have:=(List.getElem?_eq_some_iff.1 hq).1
    simp at this;omega
   subst hj
   rw[←h1]at hd
   simp at hq hd
   subst hq;subst hd
   exact hkeep hr
def imgFind (img:Image) (x:Nm):Option (List Nat):=(img.find? fun p=>p.1 == x).map (·.2)
theorem Dk.kept {p:Nat × Nat→Prop} {K K':Knd} {w w':World} {o d:Nat} {S:St} (h:Dk w K o d S) (hk:Kp p K K' w w') (hp:∀k,¬p (o,k)):Dk w' K' o d S:=by
 obtain⟨loc,sv,nv,cv,hm⟩:=h
 exact⟨loc,sv,nv,cv,hm.kept hk hp⟩
theorem bytes_take {w:World} {sp:Option Addr} {xs:List Nat} (h:Bytes w sp xs) (n:Nat):Bytes w sp (xs.take n):=by
 refine⟨fun x hx=>h.small x (List.mem_of_mem_take hx),?_⟩
 rcases h.lie with h0 | ⟨g,o,e,hg,hc⟩
 ·left;rw[h0];simp
 ·refine Or.inr ⟨g,o,e,hg,fun j hj=>?_⟩
  rw[List.length_take]at hj
  rw[hc j (by omega)]
  simp only[List.getD,List.getElem?_take,if_pos (show j<n by omega)]
theorem image_find {S:St} (ho:S.off=false) (x:Nm):imgFind S.image x=(lookN S.seen x).map fun i=>(S.file i).all:=by
 unfold imgFind St.image lookN
 rw[if_neg (by simp[ho]),List.find?_map]
 simp[Function.comp_def,Option.map_map]
theorem image_used {S:St} (ho:S.off=false):(S.image.map fun p=>p.2.length).sum=S.used:=by
 unfold St.image St.used
 rw[if_neg (by simp[ho]),List.map_map]
 rfl
theorem bytes_cells {w:World} {g o:Nat} {xs:List Nat} (hx:Bytes w (some ⟨g,o,none⟩) xs):∀j u,(vals xs)[j]?=some u→w.cell? ((⟨g,o,none⟩:Addr).add j)=some u:=by
 intro j u hj
 simp only[vals,List.getElem?_map,Option.map_eq_some_iff]at hj
 obtain⟨x,hx',rfl⟩:=hj
 have hlt:j<xs.length:=(List.getElem?_eq_some_iff.1 hx').1
 rcases hx.lie with h0 | ⟨g',o',e,hg,hc⟩
 ·subst h0;simp at hlt
 ·cases e
  have:=hc j hlt
  simp only[List.getD,hx',Option.getD_some]at this
  unfold Addr.add
  by_cases h0:j=0
  ·subst h0;simpa using this
  ·simpa[h0] using this
theorem run_app_bytes {w:World} {v:Value} {n:Nat} {ys:List Value} (hown:w.ownsRow 0 5 1 v n ys) {sp:Option Addr} {m c:Nat} {xs:List Nat} (hm:xs.length=m) (hb:Bytes w sp xs) (h63:n+m≤140737488355328) (ty:TypeId) :
  ∃a' c' w',(Builtin.append_ #[32,32] ty #[v,.slice sp m c]).run Tryz.prog w=.ok (.slice a' (n+m) c') w'∧w'.ownsRow 0 5 1 (.slice a' (n+m) c') (n+m) (ys++vals xs)∧w.grownBy w' v.ownBlock∧Lies w v (.slice a' (n+m) c'):=by
 obtain⟨i0,hi,hz0,hz1,hz2⟩:=info_parts Tryz.infoU8
 have go:∀(g o:Nat),Bytes w (some ⟨g,o,none⟩) xs→∃a' c' w',(Builtin.append_ #[32,32] ty #[v,.slice (some ⟨g,o,none⟩) m c]).run Tryz.prog w=.ok (.slice a' (n+m) c') w'∧w'.ownsRow 0 5 1 (.slice a' (n+m) c') (n+m) (ys++vals xs)∧w.grownBy w' v.ownBlock∧Lies w v (.slice a' (n+m) c'):=fun g o hb=>by
  obtain⟨v',w',hr,h2,h3,_,h5⟩:=run_append_own_at (P:=Tryz.prog) w 0 32 ty 5 i0 (.int .u8 0) 1 1 Tryz.underlying32 hi hz0 hz1 hz2 rfl (by omega) v n ys hown ⟨g,o,none⟩ m c (vals xs) (by rw[vals_len,hm,Nat.mul_one]) (bytes_cells hb) (vals_one xs) (by unfold maxLen;omega) (by omega) (Nat.zero_le _)
  obtain⟨a',c',rfl,_,_⟩:=owns_form h2
  exact⟨a',c',w',hr,h2,h3,h5.imp id (fun e=>⟨_,e,Nat.le_refl _⟩)⟩
 rcases hb.lie with h0 | ⟨g,o,rfl,hg,hc⟩
 ·cases sp with
  | none =>
   subst h0
   simp at hm
   subst hm
   obtain⟨a,c',rfl,hle,_⟩:=owns_form hown
   refine⟨a,c',w,?_,by simpa[vals] using hown,⟨rfl,rfl,rfl,Nat.le_refl _,fun _ _ _=>rfl⟩,Or.inl rfl⟩
   simp[Builtin.append_,run_underlying Tryz.underlying32,sizeOf,typeInfo,hi,Builtin.lenOf,Builtin.firstCells,hle]
   cases a <;> simp[storeCells]
  | some ad =>
   obtain⟨v',w',hr,h2,h3,_,h5⟩:=run_append_own_at (P:=Tryz.prog) w 0 32 ty 5 i0 (.int .u8 0) 1 1 Tryz.underlying32 hi hz0 hz1 hz2 rfl (by omega) v n ys hown ad m c (vals xs) (by rw[vals_len,hm,Nat.mul_one]) (by rw[h0];intro j u hj;simp[vals]at hj) (vals_one xs) (by unfold maxLen;omega) (by omega) (Nat.zero_le _)
   obtain⟨a',c',rfl,_,_⟩:=owns_form h2
   exact⟨a',c',w',hr,h2,h3,h5.imp id (fun e=>⟨_,e,Nat.le_refl _⟩)⟩
 ·exact go g o ⟨hb.small,Or.inr ⟨g,o,rfl,hg,hc⟩⟩
set_option maxHeartbeats 400000 in
theorem copy_any (w:World) (sp:Option Addr) (m cap:Nat) (xs:List Nat) (hm:xs.length=m) (hx:Bytes w sp xs) (hlen:m≤140737488355328) :
  Calls Tryz.prog 33 #[.slice sp m cap] w fun e w'=>∃a c,e=.returned (.slice a m c)∧w'.ownsRow w.heap.size 5 1 (.slice a m c) m (vals xs)∧Below w.heap.size w w':=by
 obtain⟨a',c',w1,hr,ho,hg,hl⟩:=run_app_bytes (w:=w) (v:=.slice none 0 0) (n:=0) (ys:=[]) ⟨rfl,Or.inl ⟨rfl,rfl⟩⟩ (c:=cap) hm hx (by omega) 32
 simp only[Nat.zero_add,List.nil_append]at hr ho hl
 have HO:Hid (w1.ownsRow w.heap.size 5 1 (.slice a' m c') m (vals xs)):=by
  refine⟨ho.1,ho.2.imp id ?_⟩
  rintro ⟨g,cap,cur,h1,_,r⟩
  refine⟨g,cap,cur,h1,?_,r⟩
  cases h1
  rcases hl with e | ⟨g2,e,e2⟩
  ·simp[Value.ownBlock]at e
  ·simp[Value.ownBlock]at e;omega
 have HB:Hid (Below w.heap.size w w1):=(Below.refl _ _).grown hg (Nat.le_refl _) (fun k e=>by simp[Value.ownBlock]at e)
 clear ho hg hl hx
 go_enter Tryz.func33,Tryz.ntmps33
 go_wp2_with (at_builtin;refine wpList_app_run rfl (.tmp 4) (.tmp 5) 32 32 rfl (.slice none 0 0) (.slice sp m cap) _ _ rfl rfl hr ?_)
 go_wp2
 go_ret
 exact⟨a',c',rfl,HO.out,HB.out⟩
end Go.Proofs.YtcceejdaokoihaaGreatDoor
