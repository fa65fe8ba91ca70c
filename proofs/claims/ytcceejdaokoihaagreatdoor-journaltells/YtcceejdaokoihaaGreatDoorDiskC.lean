import Derived.Laws.IdiomRangeMap
import Derived.Test.YtcceejdaokoihaaGreatDoorDiskA
set_option maxRecDepth 100000
namespace Go.Proofs.YtcceejdaokoihaaGreatDoor
open Go.RowKit Go.Maps
def St.err (S:St) (x:Nm):Nat:=if S.off then 45 else if isNm x then (if lookN S.seen x=none then 42 else 0) else 41
def St.ptr (S:St) (loc:Nat→Nat) (x:Nm):Value:=.pointer (if S.err x=0 then (lookN S.seen x).map (fun i=>⟨loc i,0,none⟩) else none)
set_option maxHeartbeats 1000000 in
theorem find_any (w:World) (K:Knd) (o d:Nat) (loc:Nat→Nat) (sv nv cv:Value) (S:St) (h:Dm w K o d loc sv nv cv S) (x:Nm) (hx:x.length≤140737488355328) :
  Calls Tryz.prog 87 #[.pointer (some ⟨d,0,none⟩),.string ⟨x.toArray⟩] w fun e w'=>e=.returned (.tuple #[S.ptr loc x,.int .i64 (S.err x:Int)])∧w'=w:=by
 have hb:=h.blk
 unfold dcells at hb
 obtain⟨q0,q1,q2,q3,q4,q5,q6,q7,q8,q9,qf⟩:=blk10 hb
 have hbl:=lt_of_block hb
 have HN:=hide (fileName_any w x hx)
 have HL:=hide (h.sn.mp.look x (by unfold maxLen;omega))
 clear hb h
 by_cases ho:S.off=true
 ·have e1:S.err x=45:=by unfold St.err;rw[if_pos ho]
  have e2:S.ptr loc x=.pointer none:=by unfold St.ptr;rw[e1];rfl
  rw[e1,e2]
  rw[ho]at q9
  clear HL HN e1 e2
  go_enter Tryz.func87,Tryz.ntmps87
  go_wp2
  go_ret2
  exact⟨rfl,rfl⟩
 have ho':S.off=false:=by simpa using ho
 rw[ho']at q9
 by_cases hn:isNm x=true
 ·rw[hn]at HN
  rw[mapN_look]at HL
  cases hl:lookN S.seen x with
  | none =>
   have e1:S.err x=42:=by unfold St.err;rw[if_neg ho,if_pos hn,if_pos hl]
   have e2:S.ptr loc x=.pointer none:=by unfold St.ptr;rw[e1];rfl
   rw[e1,e2]
   rw[hl]at HL
   have hlk:=HL.out
   simp only[Option.map_none]at hlk
   clear HL e1 e2 hl
   go_enter Tryz.func87,Tryz.ntmps87
   go_wp2_with fail
   refine HN.out.mono ?_
   rintro e w2 ⟨rfl,rfl⟩
   go_wp2
   go_ret2
   exact⟨rfl,rfl⟩
  | some i =>
   have e1:S.err x=0:=by unfold St.err;rw[if_neg ho,if_pos hn,if_neg (by rw[hl];simp)]
   have e2:S.ptr loc x=.pointer (some ⟨loc i,0,none⟩):=by unfold St.ptr;rw[e1,hl];rfl
   rw[e1,e2]
   rw[hl]at HL
   have hlk:=HL.out
   simp only[Option.map_some]at hlk
   clear HL e1 e2 hl
   go_enter Tryz.func87,Tryz.ntmps87
   go_wp2_with fail
   refine HN.out.mono ?_
   rintro e w2 ⟨rfl,rfl⟩
   go_wp2
   go_ret2
   exact⟨rfl,rfl⟩
 ·have hn':isNm x=false:=by simpa using hn
  rw[hn']at HN
  have e1:S.err x=41:=by unfold St.err;rw[if_neg ho,if_neg hn]
  have e2:S.ptr loc x=.pointer none:=by unfold St.ptr;rw[e1];rfl
  rw[e1,e2]
  clear HL e1 e2
  go_enter Tryz.func87,Tryz.ntmps87
  go_wp2_with fail
  refine HN.out.mono ?_
  rintro e w2 ⟨rfl,rfl⟩
  go_wp2
  go_ret2
  exact⟨rfl,rfl⟩
def sumL (g:Nat→Nat) (left:Lit→Bool) (l:List (Nm × Nat)):Nat:=(l.map fun p=>if left (.string p.1) then 0 else g p.2).sum
theorem sumL_all (g:Nat→Nat) {left:Lit→Bool} (l:List (Nm × Nat)) (h:∀kl,left kl=false):sumL g left l=(l.map fun p=>g p.2).sum:=by
 unfold sumL;congr 1;exact List.map_congr_left fun p _=>by rw[h];rfl
theorem sumL_none (g:Nat→Nat) {left:Lit→Bool} : ∀(l:List (Nm × Nat)),(∀p∈l,left (.string p.1)=true)→sumL g left l=0
 | [],_=>rfl
 | p :: l,h=>by
  have ih:=sumL_none g l (fun q hq=>h q (List.mem_cons_of_mem _ hq))
  unfold sumL at ih ⊢
  rw[List.map_cons,List.sum_cons,ih,h p (List.mem_cons_self ..)];rfl
theorem sumL_same (g:Nat→Nat) {left:Lit→Bool} (x:Nm):∀(l:List (Nm × Nat)),(∀p∈l,p.1≠x)→sumL g (fun z=>left z && !z.sameKey (.string x)) l=sumL g left l:=fun l h=>by
 unfold sumL;congr 1;exact List.map_congr_left fun p hp=>by
  have:(Lit.string p.1).sameKey (.string x)=false:=by simpa[Lit.sameKey] using h p hp
  simp only[this];simp
theorem sumL_step (g:Nat→Nat) {left:Lit→Bool} {x:Nm} {i:Nat} (hx:left (.string x)=true):∀(l:List (Nm × Nat)),l.Pairwise (fun p q=>p.1≠q.1)→(x,i)∈l→sumL g (fun z=>left z && !z.sameKey (.string x)) l=sumL g left l+g i
 | [],_,h=>by cases h
 | p :: l,hp,h=>by
  obtain⟨h1,h2⟩:=List.pairwise_cons.1 hp
  rcases List.mem_cons.1 h with rfl | h
  ·have e:=sumL_same g (left:=left) x l (fun q hq=>(h1 q hq).symm)
   unfold sumL at e ⊢
   rw[List.map_cons,List.sum_cons,e,List.map_cons,List.sum_cons,hx]
   simp[Lit.sameKey];omega
  ·have ih:=sumL_step g hx l h2 h
   have:(Lit.string p.1).sameKey (.string x)=false:=by simpa[Lit.sameKey] using h1 _ h
   unfold sumL at ih ⊢
   rw[List.map_cons,List.sum_cons,ih,List.map_cons,List.sum_cons]
   simp only[this]
   simp;omega
theorem sumL_le (g:Nat→Nat) (left:Lit→Bool):∀l:List (Nm × Nat),sumL g left l≤(l.map fun p=>g p.2).sum
 | []=>Nat.le_refl _
 | p :: l=>by
  have ih:=sumL_le g left l
  unfold sumL at ih ⊢
  rw[List.map_cons,List.sum_cons,List.map_cons,List.sum_cons]
  split <;> omega
theorem St.file_some {S:St} {i:Nat} (h:i<S.files.length):S.files[i]?=some (S.file i):=by
 unfold St.file;rw[List.getElem?_eq_getElem h];rfl
theorem has_seen {loc:Nat→Nat} {l:List (Nm × Nat)} {p:Nm × Nat} (hp:p∈l):Maps.has (toD (mapN loc l)) (.string p.1)=true:=by
 refine List.any_eq_true.2 ⟨(Lit.string p.1,.lit (.int .i64 (loc p.2))),?_,by simp[Lit.sameKey]⟩
 simp only[mapN,List.map_map,List.mem_map]
 exact⟨p,hp,rfl⟩
theorem below_drewN {B:Nat} {w w':World} (h:Below B w w') (n:Nat):Below B w (w'.drewN n):=⟨h.os,h.tape,h.output,h.size,h.block⟩
set_option maxHeartbeats 2000000 in
theorem full_any (w:World) (K:Knd) (o d:Nat) (loc:Nat→Nat) (sv nv cv:Value) (S:St) (h:Dm w K o d loc sv nv cv S) (more:Nat) (hsr:Srt S.seen) (hin:∀p∈S.seen,p.2<S.files.length) (hm:more+S.used≤1099511627776) :
  Calls Tryz.prog 77 #[.pointer (some ⟨d,0,none⟩),.int .i64 (more:Int)] w fun e w'=>e=.returned (.bool (S.full more))∧Below w.heap.size w w':=by
 have HD:=hide h
 have hb:=h.blk
 unfold dcells at hb
 have HB:=hide hb
 obtain⟨q0,q1,q2,q3,q4,q5,q6,q7,q8,q9,qf⟩:=blk10 hb
 have hbl:=lt_of_block hb
 clear hb
 have HI:=hide hin
 have HS:=hide hsr
 have HM:=hide hm
 have HU:Hid (S.used=(S.seen.map fun p=>(S.file p.2).all.length).sum):=rfl
 obtain⟨R,hR⟩:∃R,S.room=R:=⟨_,rfl⟩
 obtain⟨P,hP⟩:∃P,S.planned=P:=⟨_,rfl⟩
 obtain⟨F,hF⟩:∃F,S.pFrom=F:=⟨_,rfl⟩
 obtain⟨T,hT⟩:∃T,S.pTo=T:=⟨_,rfl⟩
 rw[hR]at q0
 rw[hP]at q8
 rw[hF]at q6
 rw[hT]at q7
 have HFull:Hid (S.full more=((decide (1≤F) && decide (F≤P) && decide ((P:Int)≤T)) || decide (R<more+S.used))):=by
  show _=_
  unfold St.full St.fullP
  rw[hR,hP,hF,hT]
 have HRm:=hide hR
 clear hin hsr hm hR hP hF hT
 have HEnd:Hid (¬(1≤F∧F≤P∧(P:Int)≤T)→S.full more=decide (R<more+S.used)):=hide (fun hn=>by
  rw[HFull.out]
  have:(decide (1≤F) && decide (F≤P) && decide ((P:Int)≤T))=false:=by
   simp only[Bool.and_eq_false_iff,decide_eq_false_iff_not]
   by_cases a:1≤F
   ·by_cases b:F≤P
    ·exact Or.inr (fun c=>hn ⟨a,b,c⟩)
    ·exact Or.inl (Or.inr b)
   ·exact Or.inl (Or.inl a)
  rw[this];simp)
 -- the ways
 rcases h.sn.mp with ⟨e,hl⟩ | ⟨b,e,ho⟩
 ·subst e
  have hl0:S.seen=[]:=by
   have:=congrArg List.length hl
   rw[mapN_len]at this
   exact List.eq_nil_of_length_eq_zero this
  have hu0:S.used=0:=by unfold St.used;rw[hl0];rfl
  have HU0:=hide hu0
  clear h hl hl0 hu0
  by_cases c1:1≤F
  ·by_cases c2:F≤(P:Int)
   ·by_cases c3:(P:Int)≤T
    ·have er:S.full more=true:=by rw[HFull.out];simp[c1,c2,c3]
     rw[er]
     go_enter Tryz.func77,Tryz.ntmps77
     go_wp2
     go_quiet (fail)
     go_wp2
     go_ret
     exact⟨rfl,below_drewN (Below.refl _ _) _⟩
    ·have er:S.full more=decide (R<more):=by rw[HEnd.out (by omega),HU0.out];rfl
     rw[er]
     have hrg:=run_range_nilMap (P:=Tryz.prog) w.drew 73 _ _ Tryz.underlying73
     go_enter Tryz.func77,Tryz.ntmps77
     go_wp2
     go_quiet (fail)
     have hrg2:=run_range_nilMap (P:=Tryz.prog) (w.drewN nq) 73 _ _ Tryz.underlying73
     have hnx:∀ty,(Instr.next (.pointer (some ⟨w.heap.size,0,none⟩)) false ty).run Tryz.prog ((w.drewN nq).alloc (.mapIter none 0 #[] 0))=_:=fun ty=>run_next_nilMap (w.drewN nq) ty 0 0 #[]
     clear hrg
     have hdd:(w.drewN nq).heap.size=w.heap.size:=rfl
     rw[hdd]at hrg2
     clear hdd
     have y0:((w.drewN nq).alloc (.mapIter none 0 #[] 0)).cell? ⟨d,0,none⟩=some (.int .i64 (R:Int)):=(World.cell?_of_block (w:=w.drewN nq) (Below.heap_alloc _ _ _ hbl)).trans q0
     go_wp2
     refine wp_loop_rounds 1 ?_
     rw[rounds_succ]
     go_wp2
     go_ret
     exact⟨by first | rfl | simp[decide_eq_decide] | (congr 2;simp;omega),(below_drewN (Below.refl _ w) nq).alloc (Nat.le_refl _) _⟩
   ·have er:S.full more=decide (R<more):=by rw[HEnd.out (by omega),HU0.out];rfl
    rw[er]
    have hrg:=run_range_nilMap (P:=Tryz.prog) w.drew 73 _ _ Tryz.underlying73
    go_enter Tryz.func77,Tryz.ntmps77
    go_wp2
    go_quiet (fail)
    have hrg2:=run_range_nilMap (P:=Tryz.prog) (w.drewN nq) 73 _ _ Tryz.underlying73
    have hnx:∀ty,(Instr.next (.pointer (some ⟨w.heap.size,0,none⟩)) false ty).run Tryz.prog ((w.drewN nq).alloc (.mapIter none 0 #[] 0))=_:=fun ty=>run_next_nilMap (w.drewN nq) ty 0 0 #[]
    clear hrg
    have hdd:(w.drewN nq).heap.size=w.heap.size:=rfl
    rw[hdd]at hrg2
    clear hdd
    have y0:((w.drewN nq).alloc (.mapIter none 0 #[] 0)).cell? ⟨d,0,none⟩=some (.int .i64 (R:Int)):=(World.cell?_of_block (w:=w.drewN nq) (Below.heap_alloc _ _ _ hbl)).trans q0
    go_wp2
    refine wp_loop_rounds 1 ?_
    rw[rounds_succ]
    go_wp2
    go_ret
    exact⟨by first | rfl | simp[decide_eq_decide] | (congr 2;simp;omega),(below_drewN (Below.refl _ w) nq).alloc (Nat.le_refl _) _⟩
  ·have er:S.full more=decide (R<more):=by rw[HEnd.out (by omega),HU0.out];rfl
   rw[er]
   have hrg:=run_range_nilMap (P:=Tryz.prog) w.drew 73 _ _ Tryz.underlying73
   go_enter Tryz.func77,Tryz.ntmps77
   go_wp2
   go_quiet (fail)
   have hrg2:=run_range_nilMap (P:=Tryz.prog) (w.drewN nq) 73 _ _ Tryz.underlying73
   have hnx:∀ty,(Instr.next (.pointer (some ⟨w.heap.size,0,none⟩)) false ty).run Tryz.prog ((w.drewN nq).alloc (.mapIter none 0 #[] 0))=_:=fun ty=>run_next_nilMap (w.drewN nq) ty 0 0 #[]
   clear hrg
   have hdd:(w.drewN nq).heap.size=w.heap.size:=rfl
   rw[hdd]at hrg2
   clear hdd
   have y0:((w.drewN nq).alloc (.mapIter none 0 #[] 0)).cell? ⟨d,0,none⟩=some (.int .i64 (R:Int)):=(World.cell?_of_block (w:=w.drewN nq) (Below.heap_alloc _ _ _ hbl)).trans q0
   go_wp2
   refine wp_loop_rounds 1 ?_
   rw[rounds_succ]
   go_wp2
   go_ret
   exact⟨by first | rfl | simp[decide_eq_decide] | (congr 2;simp;omega),(below_drewN (Below.refl _ w) nq).alloc (Nat.le_refl _) _⟩
 ·subst e
  have HO:=hide ho
  clear h ho
  by_cases c1:1≤F
  ·by_cases c2:F≤(P:Int)
   ·by_cases c3:(P:Int)≤T
    ·have er:S.full more=true:=by rw[HFull.out];simp[c1,c2,c3]
     rw[er]
     go_enter Tryz.func77,Tryz.ntmps77
     go_wp2
     go_quiet (fail)
     go_wp2
     go_ret
     exact⟨rfl,below_drewN (Below.refl _ _) _⟩
    ·have HEr:Hid (S.full more=decide (R<more+S.used)):=hide (HEnd.out (by omega))
     rw[HEr.out]
     go_enter Tryz.func77,Tryz.ntmps77
     go_wp2
     go_quiet (fail)
     have HO2:Hid ((w.drewN nq).ownsMap Tryz.prog 9 fel b (mapN loc S.seen).length (toD (mapN loc S.seen))):=HO.out
     go_wp2_with (first
      | (at_range;refine wpList_range_own _ rfl _ 73 rfl 9 89 kS Tryz.underlying73 fel b _ _ rfl HO2.out ?_;intro w0 hrg0 hg0 hs0)
      | go_in)
     try go_frame
     have HR0:=hide hrg0
     have HB0:Hid (Below w.heap.size w w0):=(below_drewN (Below.refl _ w) nq).grown hg0 (Nat.le_refl _) (fun _ e=>by cases e)
     clear hrg0 hg0 hs0
     go_loopw [1] (fun mv wr=>∃(left:Lit→Bool) (cnt m:Nat),mv=.int .i64 (m:Int)∧Hid (wr.ranges Tryz.prog 9 fel b w.heap.size (mapN loc S.seen).length (toD (mapN loc S.seen)) left cnt)∧Hid (m=more+sumL (fun i=>(S.file i).all.length) left S.seen)∧Hid (Below w.heap.size w wr)) (fun _ wr=>wr.rangeLeft b w.heap.size)
     case atStart =>
      refine⟨_,_,more,rfl,HR0,?_,HB0⟩
      show _=_
      rw[sumL_none _ _ (fun p hp=>has_seen hp)];rfl
     case round =>
      obtain⟨left,cnt,m,rfl,HR,HSum,HB2⟩:=hrel
      have hmb:m≤1099511627776:=by
       have e1:=HSum.out
       have e2:=sumL_le (fun i=>(S.file i).all.length) left S.seen
       have e3:=HM.out
       rw[HU.out]at e3
       omega
      go_wp2_with (first
       | (at_next;refine wpList_next_ranges _ rfl _ rfl 9 kS fel Go.Proofs.encStr (fun q:Option Nat=>Value.pointer (q.map fun b=>⟨b,0,none⟩)) (fun key kl hk=>by obtain⟨x,hx,_⟩:=Maps.keyOf_str Tryz.underlying9 hk;exact⟨x,hx⟩) (fun v y hv=>by rcases fel_inv hv with ⟨q,rfl,_⟩ | ⟨rfl,_⟩;exact⟨some q,rfl⟩;exact⟨none,rfl⟩) b w.heap.size _ _ _ _ rfl HR.out ?_ ?_)
       | go_in)
      ·intro hc0 hl0
       have HE:Hid (more+S.used=m):=by
        show _=_
        rw[HSum.out,sumL_all _ _ hl0];rfl
       obtain⟨s0,s1,s2,s3,s4,s5,s6,s7,s8,s9,sf⟩:=blk10 ((HB2.out.block d hbl).trans HB.out)
       rw[HRm.out]at s0
       go_wp2
       go_ret
       refine⟨?_,HB2.out⟩
       rw[HE.out]
       first | rfl | simp[decide_eq_decide] | (congr 2;simp;omega)
      ·intro x q kl yd yp w2 cnt2 hkey hlk hv hat hrg2 hlt hg2 hs2 hen
       clear hs2
       obtain⟨x',ex,rfl,_⟩:=Maps.keyOf_str Tryz.underlying9 hkey
       obtain rfl:x=x':=encStr_inj ex
       obtain⟨i,hi,rfl⟩:∃i,lookN S.seen x=some i∧q=some (loc i):=by
        have h1:=hat (.lit (.int .i64 (-2)))
        rw[toD_at,mapN_look]at h1
        cases hlo:lookN S.seen x with
        | none=>rw[hlo]at h1;rcases fel_inv hv with ⟨c,_,h2⟩ | ⟨_,h2⟩ <;> (rw[←h1]at h2;simp at h2;try omega)
        | some i =>
         rw[hlo]at h1
         refine⟨i,rfl,?_⟩
         rcases fel_inv hv with ⟨c,h3,h2⟩ | ⟨_,h2⟩
         ·rw[←h1]at h2
          simp at h2
          cases q with
          | none=>simp at h3
          | some q=>simp at h3;rw[h3];congr 1;omega
         ·rw[←h1]at h2;simp at h2
       have hmem:=(look_mem HS.out).1 hi
       have HF:=hide (HD.out.fl i _ (S.file_some (HI.out _ hmem)))
       have hll:=HF.out.lt
       obtain⟨fs,fu,hfl,_,_⟩:=HF.out.fl
       have HB3:Hid (Below w.heap.size w w2):=HB2.out.grown hg2 HB2.out.size (fun j e=>by cases e;exact Nat.le_refl _)
       obtain⟨z0,z1,z2,zf⟩:=blk3 ((HB3.out.block (loc i) hll).trans hfl.blk)
       have HS2:=hide (sumL_step (fun i=>(S.file i).all.length) hlk S.seen HS.out.nodup hmem)
       have HLe:=hide (sumL_le (fun i=>(S.file i).all.length) (fun z=>left z && !z.sameKey (.string x)) S.seen)
       have hsz2:m+(S.file i).all.length≤1099511627776:=by
        have e1:=HS2.out
        have e2:=HLe.out
        have e3:=HM.out
        have e4:=HSum.out
        rw[HU.out]at e3
        omega
       have HSum2:Hid (m+(S.file i).all.length=more+sumL (fun i=>(S.file i).all.length) (fun z=>left z && !z.sameKey (.string x)) S.seen):=by
        show _=_
        have e1:=HS2.out
        have e4:=HSum.out
        omega
       have HRn:=hide hrg2
       have HLt:=hide hlt
       clear hat hv hkey hlk hrg2 hlt hg2 hmem hfl z0 z1
       generalize (S.file i).all.length=n at *
       have hll2:=Nat.lt_of_lt_of_le hll HB3.out.size
       go_wp2
       go_roundw
       case rel =>
        first
         | exact⟨_,cnt2,m+n,by go_num,HRn,HSum2,HB3⟩
         | exact⟨_,cnt2,m+n,by omega,HRn,HSum2⟩
       case measure=>rw[HRn.out.left_eq,HR.out.left_eq];exact HLt.out
   ·have HEr:Hid (S.full more=decide (R<more+S.used)):=hide (HEnd.out (by omega))
    rw[HEr.out]
    go_enter Tryz.func77,Tryz.ntmps77
    go_wp2
    go_quiet (fail)
    have HO2:Hid ((w.drewN nq).ownsMap Tryz.prog 9 fel b (mapN loc S.seen).length (toD (mapN loc S.seen))):=HO.out
    go_wp2_with (first
     | (at_range;refine wpList_range_own _ rfl _ 73 rfl 9 89 kS Tryz.underlying73 fel b _ _ rfl HO2.out ?_;intro w0 hrg0 hg0 hs0)
     | go_in)
    try go_frame
    have HR0:=hide hrg0
    have HB0:Hid (Below w.heap.size w w0):=(below_drewN (Below.refl _ w) nq).grown hg0 (Nat.le_refl _) (fun _ e=>by cases e)
    clear hrg0 hg0 hs0
    go_loopw [1] (fun mv wr=>∃(left:Lit→Bool) (cnt m:Nat),mv=.int .i64 (m:Int)∧Hid (wr.ranges Tryz.prog 9 fel b w.heap.size (mapN loc S.seen).length (toD (mapN loc S.seen)) left cnt)∧Hid (m=more+sumL (fun i=>(S.file i).all.length) left S.seen)∧Hid (Below w.heap.size w wr)) (fun _ wr=>wr.rangeLeft b w.heap.size)
    case atStart =>
     refine⟨_,_,more,rfl,HR0,?_,HB0⟩
     show _=_
     rw[sumL_none _ _ (fun p hp=>has_seen hp)];rfl
    case round =>
     obtain⟨left,cnt,m,rfl,HR,HSum,HB2⟩:=hrel
     have hmb:m≤1099511627776:=by
      have e1:=HSum.out
      have e2:=sumL_le (fun i=>(S.file i).all.length) left S.seen
      have e3:=HM.out
      rw[HU.out]at e3
      omega
     go_wp2_with (first
      | (at_next;refine wpList_next_ranges _ rfl _ rfl 9 kS fel Go.Proofs.encStr (fun q:Option Nat=>Value.pointer (q.map fun b=>⟨b,0,none⟩)) (fun key kl hk=>by obtain⟨x,hx,_⟩:=Maps.keyOf_str Tryz.underlying9 hk;exact⟨x,hx⟩) (fun v y hv=>by rcases fel_inv hv with ⟨q,rfl,_⟩ | ⟨rfl,_⟩;exact⟨some q,rfl⟩;exact⟨none,rfl⟩) b w.heap.size _ _ _ _ rfl HR.out ?_ ?_)
      | go_in)
     ·intro hc0 hl0
      have HE:Hid (more+S.used=m):=by
       show _=_
       rw[HSum.out,sumL_all _ _ hl0];rfl
      obtain⟨s0,s1,s2,s3,s4,s5,s6,s7,s8,s9,sf⟩:=blk10 ((HB2.out.block d hbl).trans HB.out)
      rw[HRm.out]at s0
      go_wp2
      go_ret
      refine⟨?_,HB2.out⟩
      rw[HE.out]
      first | rfl | simp[decide_eq_decide] | (congr 2;simp;omega)
     ·intro x q kl yd yp w2 cnt2 hkey hlk hv hat hrg2 hlt hg2 hs2 hen
      clear hs2
      obtain⟨x',ex,rfl,_⟩:=Maps.keyOf_str Tryz.underlying9 hkey
      obtain rfl:x=x':=encStr_inj ex
      obtain⟨i,hi,rfl⟩:∃i,lookN S.seen x=some i∧q=some (loc i):=by
       have h1:=hat (.lit (.int .i64 (-2)))
       rw[toD_at,mapN_look]at h1
       cases hlo:lookN S.seen x with
       | none=>rw[hlo]at h1;rcases fel_inv hv with ⟨c,_,h2⟩ | ⟨_,h2⟩ <;> (rw[←h1]at h2;simp at h2;try omega)
       | some i =>
        rw[hlo]at h1
        refine⟨i,rfl,?_⟩
        rcases fel_inv hv with ⟨c,h3,h2⟩ | ⟨_,h2⟩
        ·rw[←h1]at h2
         simp at h2
         cases q with
         | none=>simp at h3
         | some q=>simp at h3;rw[h3];congr 1;omega
        ·rw[←h1]at h2;simp at h2
      have hmem:=(look_mem HS.out).1 hi
      have HF:=hide (HD.out.fl i _ (S.file_some (HI.out _ hmem)))
      have hll:=HF.out.lt
      obtain⟨fs,fu,hfl,_,_⟩:=HF.out.fl
      have HB3:Hid (Below w.heap.size w w2):=HB2.out.grown hg2 HB2.out.size (fun j e=>by cases e;exact Nat.le_refl _)
      obtain⟨z0,z1,z2,zf⟩:=blk3 ((HB3.out.block (loc i) hll).trans hfl.blk)
      have HS2:=hide (sumL_step (fun i=>(S.file i).all.length) hlk S.seen HS.out.nodup hmem)
      have HLe:=hide (sumL_le (fun i=>(S.file i).all.length) (fun z=>left z && !z.sameKey (.string x)) S.seen)
      have hsz2:m+(S.file i).all.length≤1099511627776:=by
       have e1:=HS2.out
       have e2:=HLe.out
       have e3:=HM.out
       have e4:=HSum.out
       rw[HU.out]at e3
       omega
      have HSum2:Hid (m+(S.file i).all.length=more+sumL (fun i=>(S.file i).all.length) (fun z=>left z && !z.sameKey (.string x)) S.seen):=by
       show _=_
       have e1:=HS2.out
       have e4:=HSum.out
       omega
      have HRn:=hide hrg2
      have HLt:=hide hlt
      clear hat hv hkey hlk hrg2 hlt hg2 hmem hfl z0 z1
      generalize (S.file i).all.length=n at *
      have hll2:=Nat.lt_of_lt_of_le hll HB3.out.size
      go_wp2
      go_roundw
      case rel =>
       first
        | exact⟨_,cnt2,m+n,by go_num,HRn,HSum2,HB3⟩
        | exact⟨_,cnt2,m+n,by omega,HRn,HSum2⟩
      case measure=>rw[HRn.out.left_eq,HR.out.left_eq];exact HLt.out
  ·have HEr:Hid (S.full more=decide (R<more+S.used)):=hide (HEnd.out (by omega))
   rw[HEr.out]
   go_enter Tryz.func77,Tryz.ntmps77
   go_wp2
   go_quiet (fail)
   have HO2:Hid ((w.drewN nq).ownsMap Tryz.prog 9 fel b (mapN loc S.seen).length (toD (mapN loc S.seen))):=HO.out
   go_wp2_with (first
    | (at_range;refine wpList_range_own _ rfl _ 73 rfl 9 89 kS Tryz.underlying73 fel b _ _ rfl HO2.out ?_;intro w0 hrg0 hg0 hs0)
    | go_in)
   try go_frame
   have HR0:=hide hrg0
   have HB0:Hid (Below w.heap.size w w0):=(below_drewN (Below.refl _ w) nq).grown hg0 (Nat.le_refl _) (fun _ e=>by cases e)
   clear hrg0 hg0 hs0
   go_loopw [1] (fun mv wr=>∃(left:Lit→Bool) (cnt m:Nat),mv=.int .i64 (m:Int)∧Hid (wr.ranges Tryz.prog 9 fel b w.heap.size (mapN loc S.seen).length (toD (mapN loc S.seen)) left cnt)∧Hid (m=more+sumL (fun i=>(S.file i).all.length) left S.seen)∧Hid (Below w.heap.size w wr)) (fun _ wr=>wr.rangeLeft b w.heap.size)
   case atStart =>
    refine⟨_,_,more,rfl,HR0,?_,HB0⟩
    show _=_
    rw[sumL_none _ _ (fun p hp=>has_seen hp)];rfl
   case round =>
    obtain⟨left,cnt,m,rfl,HR,HSum,HB2⟩:=hrel
    have hmb:m≤1099511627776:=by
     have e1:=HSum.out
     have e2:=sumL_le (fun i=>(S.file i).all.length) left S.seen
     have e3:=HM.out
     rw[HU.out]at e3
     omega
    go_wp2_with (first
     | (at_next;refine wpList_next_ranges _ rfl _ rfl 9 kS fel Go.Proofs.encStr (fun q:Option Nat=>Value.pointer (q.map fun b=>⟨b,0,none⟩)) (fun key kl hk=>by obtain⟨x,hx,_⟩:=Maps.keyOf_str Tryz.underlying9 hk;exact⟨x,hx⟩) (fun v y hv=>by rcases fel_inv hv with ⟨q,rfl,_⟩ | ⟨rfl,_⟩;exact⟨some q,rfl⟩;exact⟨none,rfl⟩) b w.heap.size _ _ _ _ rfl HR.out ?_ ?_)
     | go_in)
    ·intro hc0 hl0
     have HE:Hid (more+S.used=m):=by
      show _=_
      rw[HSum.out,sumL_all _ _ hl0];rfl
     obtain⟨s0,s1,s2,s3,s4,s5,s6,s7,s8,s9,sf⟩:=blk10 ((HB2.out.block d hbl).trans HB.out)
     rw[HRm.out]at s0
     go_wp2
     go_ret
     refine⟨?_,HB2.out⟩
     rw[HE.out]
     first | rfl | simp[decide_eq_decide] | (congr 2;simp;omega)
    ·intro x q kl yd yp w2 cnt2 hkey hlk hv hat hrg2 hlt hg2 hs2 hen
     clear hs2
     obtain⟨x',ex,rfl,_⟩:=Maps.keyOf_str Tryz.underlying9 hkey
     obtain rfl:x=x':=encStr_inj ex
     obtain⟨i,hi,rfl⟩:∃i,lookN S.seen x=some i∧q=some (loc i):=by
      have h1:=hat (.lit (.int .i64 (-2)))
      rw[toD_at,mapN_look]at h1
      cases hlo:lookN S.seen x with
      | none=>rw[hlo]at h1;rcases fel_inv hv with ⟨c,_,h2⟩ | ⟨_,h2⟩ <;> (rw[←h1]at h2;simp at h2;try omega)
      | some i =>
       rw[hlo]at h1
       refine⟨i,rfl,?_⟩
       rcases fel_inv hv with ⟨c,h3,h2⟩ | ⟨_,h2⟩
       ·rw[←h1]at h2
        simp at h2
        cases q with
        | none=>simp at h3
        | some q=>simp at h3;rw[h3];congr 1;omega
       ·rw[←h1]at h2;simp at h2
     have hmem:=(look_mem HS.out).1 hi
     have HF:=hide (HD.out.fl i _ (S.file_some (HI.out _ hmem)))
     have hll:=HF.out.lt
     obtain⟨fs,fu,hfl,_,_⟩:=HF.out.fl
     have HB3:Hid (Below w.heap.size w w2):=HB2.out.grown hg2 HB2.out.size (fun j e=>by cases e;exact Nat.le_refl _)
     obtain⟨z0,z1,z2,zf⟩:=blk3 ((HB3.out.block (loc i) hll).trans hfl.blk)
     have HS2:=hide (sumL_step (fun i=>(S.file i).all.length) hlk S.seen HS.out.nodup hmem)
     have HLe:=hide (sumL_le (fun i=>(S.file i).all.length) (fun z=>left z && !z.sameKey (.string x)) S.seen)
     have hsz2:m+(S.file i).all.length≤1099511627776:=by
      have e1:=HS2.out
      have e2:=HLe.out
      have e3:=HM.out
      have e4:=HSum.out
      rw[HU.out]at e3
      omega
     have HSum2:Hid (m+(S.file i).all.length=more+sumL (fun i=>(S.file i).all.length) (fun z=>left z && !z.sameKey (.string x)) S.seen):=by
      show _=_
      have e1:=HS2.out
      have e4:=HSum.out
      omega
     have HRn:=hide hrg2
     have HLt:=hide hlt
     clear hat hv hkey hlk hrg2 hlt hg2 hmem hfl z0 z1
     generalize (S.file i).all.length=n at *
     have hll2:=Nat.lt_of_lt_of_le hll HB3.out.size
     go_wp2
     go_roundw
     case rel =>
      first
       | exact⟨_,cnt2,m+n,by go_num,HRn,HSum2,HB3⟩
       | exact⟨_,cnt2,m+n,by omega,HRn,HSum2⟩
     case measure=>rw[HRn.out.left_eq,HR.out.left_eq];exact HLt.out
theorem Tryz.infoCh:(Tryz.prog.info? 92).map (fun i=>(i.zero,i.size,i.bytes))=some (some (.agg #[.string ⟨#[]⟩,.string ⟨#[]⟩,.pointer none]),3,40):=by kernel_rfl
theorem Dm.turnG {p:Nat × Nat→Prop} {K K':Knd} {w w':World} {o d:Nat} {loc:Nat→Nat} {sv nv cv sv' nv' cv':Value} {S S':St} (h:Dm w K o d loc sv nv cv S) (hk:Kp p K K' w w') (hp:∀k,p k→∃j,j≤4∧k=(o,j))
  (hb:w'.heap[d]?=some (.cells (dcells S' sv' nv' cv') 76 (0,0))) (sf:Mk w' K' (o,2) sv' (mapN loc S'.safe)) (sn:Mk w' K' (o,3) nv' (mapN loc S'.seen)) (ch:Rk w' K' (o,4) 92 3 cv' S'.chg.length (chvs loc S'.chg)) (e4:S'.files=S.files) :
  Dm w' K' o d loc sv' nv' cv' S':=by
 have np:∀k,5≤k→¬p (o,k):=fun k hk5 hpk=>by
  obtain⟨j,hj,e⟩:=hp _ hpk
  simp at e;omega
 exact⟨hb,(hk.same d h.lt).trans h.kd,sf,sn,ch,fun i f hf=>(h.fl i f (by rw[←e4];exact hf)).kept hk ⟨np _ (by omega),np _ (by omega),np _ (by omega)⟩⟩
theorem Kp.alloc {p:Nat × Nat→Prop} {K K':Knd} {w w':World} (h:Kp p K K' w w') (ob:Obj):Kp p K K' w (w'.alloc ob) :=
 ⟨h.os,h.tape,h.output,Nat.le_trans h.size (by simp),h.same,fun b hb hn=>(Below.heap_alloc _ _ _ (Nat.lt_of_lt_of_le hb h.size)).trans (h.block b hb hn)⟩
theorem Kp.grown {p:Nat × Nat→Prop} {K K':Knd} {w w1 w2:World} {r:Option Nat} (h:Kp p K K' w w1) (k:w1.grownBy w2 r) (hr:∀g,r=some g→w.heap.size≤g∨p (K g)):Kp p K K' w w2 :=
 ⟨k.os.trans h.os,k.tape.trans h.tape,k.output.trans h.output,Nat.le_trans h.size k.size,h.same,fun b hb hn=>(k.block b (Nat.lt_of_lt_of_le hb h.size) (fun e=>by
  rcases hr b e.symm with h1 | h1
  ·omega
  ·exact hn h1)).trans (h.block b hb hn)⟩
theorem mk_set {w:World} {K:Knd} {k:Nat × Nat} {v:Value} {l:List (Nm × Nat)} (h:Mk w K k v l) {d i:Nat} {u:Value} {C:Array Value} {t:TypeId} {fr:Nat × Nat} (hd:w.heap[d]?=some (.cells C t fr)):Mk (w.setCell ⟨d,i,none⟩ u) K k v l :=
 ⟨h.mp.same (fun b hb=>Below.heap_setCell _ _ _ _ (by rintro rfl;exact h.mp.ne hd hb.symm)),h.kind⟩
theorem rk_set {w:World} {K:Knd} {k:Nat × Nat} {e:TypeId} {s n:Nat} {v:Value} {xs:List Value} (h:Rk w K k e s v n xs) {d i:Nat} {u:Value} {C:Array Value} {t:TypeId} {fr:Nat × Nat} (hd:w.heap[d]?=some (.cells C t fr)) (ht:t≠e):Rk (w.setCell ⟨d,i,none⟩ u) K k e s v n xs :=
 ⟨owns_set h.own (owns_ne h.own hd ht),h.kind⟩
theorem seen_turned {w w2:World} {K:Knd} {o d b:Nat} {loc:Nat→Nat} {sv nv cv:Value} {S:St} {c:Chg} {ob:Obj} (h:Dm w K o d loc sv nv cv S) (hm:Mp w2 (.map (some b)) (withN (mapN loc S.seen) (lc loc c))) (hg:(w.alloc ob).drew.grownBy w2 (mblk nv)) (hat:some b=mblk nv∨w.heap.size+1≤b) :
  Dm (w2.setCell ⟨d,2,none⟩ (.map (some b))) (ext K w.heap.size (o,3)) o d loc sv (.map (some b)) cv { S with seen:=withN S.seen c }∧Kp (fun k=>k=(o,1)∨k=(o,3)) K (ext K w.heap.size (o,3)) w (w2.setCell ⟨d,2,none⟩ (.map (some b))):=by
 have k0:Kp (fun k=>k=(o,1)∨k=(o,3)) K (ext K w.heap.size (o,3)) w w:=⟨rfl,rfl,rfl,Nat.le_refl _,fun _ hb=>ext_old K _ hb,fun _ _ _=>rfl⟩
 have k1:=((k0.alloc ob).drew).grown hg (fun g e=>Or.inr (Or.inr (h.sn.kind g e)))
 have hdb:w2.heap[d]?=some (.cells (dcells S sv nv cv) 76 (0,0)):=(hg.block d (by have:=h.lt;simp;omega) (h.sn.mp.ne h.blk)).trans ((Below.heap_alloc _ _ _ h.lt).trans h.blk)
 have k2:=k1.setCell (b:=d) (Or.inr (Or.inl h.kd)) 2 (.map (some b))
 have kk:Kp (fun k=>k=(o,3)) K (ext K w.heap.size (o,3)) w w2:=((Kp.alloc (p:=fun k=>k=(o,3)) (K':=ext K w.heap.size (o,3)) ⟨rfl,rfl,rfl,Nat.le_refl _,fun _ hb=>ext_old K _ hb,fun _ _ _=>rfl⟩ ob).drew).grown hg (fun g e=>Or.inr (h.sn.kind g e))
 refine⟨h.turnG k2 (fun k hk=>?_) ?_ ?_ ?_ ?_ rfl,k2⟩
 ·rcases hk with e | e
  ·exact⟨1,by omega,e⟩
  ·exact⟨3,by omega,e⟩
 ·rw[block_set hdb];rfl
 ·exact mk_set (h.sf.kept kk (by simp)) hdb
 ·refine mk_set ⟨by rw[mapN_with];exact hm,fun g e=>?_⟩ hdb
  simp[mblk]at e
  subst e
  rcases hat with h1 | h1
  ·rw[ext_old K _ (h.sn.mp.lt h1.symm)];exact h.sn.kind _ h1.symm
  ·exact ext_new K _ (by omega)
 ·exact rk_set (h.ch.kept kk (by simp)) hdb (by decide)
theorem chg_turned {w w2:World} {K:Knd} {o d g cap:Nat} {loc:Nat→Nat} {sv nv cv:Value} {S:St} {c:Chg} {ob:Obj} (h:Dm w K o d loc sv nv cv S)
  (ho:w2.ownsRow 0 92 3 (.slice (some ⟨g,0,none⟩) (S.chg.length+1) cap) (S.chg.length+1) (chvs loc S.chg++chv loc c)) (hg:(w.alloc ob).drew.grownBy w2 cv.ownBlock) (hat:cv.ownBlock=some g∨w.heap.size≤g) :
  Dm (w2.setCell ⟨d,3,none⟩ (.slice (some ⟨g,0,none⟩) (S.chg.length+1) cap)) (ext K w.heap.size (o,4)) o d loc sv nv (.slice (some ⟨g,0,none⟩) (S.chg.length+1) cap) { S with chg:=S.chg++[c] }∧Kp (fun k=>k=(o,1)∨k=(o,4)) K (ext K w.heap.size (o,4)) w (w2.setCell ⟨d,3,none⟩ (.slice (some ⟨g,0,none⟩) (S.chg.length+1) cap)):=by
 have k0:Kp (fun k=>k=(o,1)∨k=(o,4)) K (ext K w.heap.size (o,4)) w w:=⟨rfl,rfl,rfl,Nat.le_refl _,fun _ hb=>ext_old K _ hb,fun _ _ _=>rfl⟩
 have k1:=((k0.alloc ob).drew).grown hg (fun g e=>Or.inr (Or.inr (h.ch.kind g e)))
 have hdb:w2.heap[d]?=some (.cells (dcells S sv nv cv) 76 (0,0)):=(hg.block d (by have:=h.lt;simp;omega) (owns_ne h.ch.own h.blk (by decide))).trans ((Below.heap_alloc _ _ _ h.lt).trans h.blk)
 have k2:=k1.setCell (b:=d) (Or.inr (Or.inl h.kd)) 3 (.slice (some ⟨g,0,none⟩) (S.chg.length+1) cap)
 have kk:Kp (fun k=>k=(o,4)) K (ext K w.heap.size (o,4)) w w2:=((Kp.alloc (p:=fun k=>k=(o,4)) (K':=ext K w.heap.size (o,4)) ⟨rfl,rfl,rfl,Nat.le_refl _,fun _ hb=>ext_old K _ hb,fun _ _ _=>rfl⟩ ob).drew).grown hg (fun g e=>Or.inr (h.ch.kind g e))
 refine⟨h.turnG k2 (fun k hk=>?_) ?_ ?_ ?_ ?_ rfl,k2⟩
 ·rcases hk with e | e
  ·exact⟨1,by omega,e⟩
  ·exact⟨4,by omega,e⟩
 ·rw[block_set hdb];rfl
 ·exact mk_set (h.sf.kept kk (by simp)) hdb
 ·exact mk_set (h.sn.kept kk (by simp)) hdb
 ·refine rk_set ⟨?_,fun g' e=>?_⟩ hdb (by decide)
  ·rw[chvs_app]
   simpa using ho
  ·simp[Value.ownBlock]at e
   subst e
   rcases hat with h1 | h1
   ·rw[ext_old K _ (rk_lt h.ch.own h1)];exact h.ch.kind _ h1
   ·exact ext_new K _ h1
set_option maxHeartbeats 2000000 in
theorem rename_any (w:World) (K:Knd) (o d:Nat) (loc:Nat→Nat) (sv nv cv:Value) (S:St) (h:Dm w K o d loc sv nv cv S) (c:Chg) (fp:Option Addr) (hfp:fp=if c.to=[] then none else some ⟨loc c.file,0,none⟩) (h1:c.frm.length≤64) (h2:c.to.length≤64) (hl:S.seen.length<1099511627776) (hc:S.chg.length<1099511627776) :
  Calls Tryz.prog 44 #[.pointer (some ⟨d,0,none⟩),.agg #[.string ⟨c.frm.toArray⟩,.string ⟨c.to.toArray⟩,.pointer fp]] w fun e w'=>∃nv' cv' K',e=.returned (.tuple #[])∧Dm w' K' o d loc sv nv' cv' (S.ren c)∧Kp (fun k=>k.1=o) K K' w w':=by
 obtain⟨i0,hi,hz0,hz1,hz2⟩:=info_parts Tryz.infoCh
 have HD:=hide h
 have hb:=h.blk
 unfold dcells at hb
 have HB:=hide hb
 obtain⟨q0,q1,q2,q3,q4,q5,q6,q7,q8,q9,qf⟩:=blk10 hb
 have hbl:=lt_of_block hb
 obtain⟨ca,cc,hcv,_,_⟩:=h.ch.form
 subst hcv
 have HFp:=hide hfp
 have HC:=hide hc
 have HBx:Hid ((w.alloc (.cells #[.string ⟨c.frm.toArray⟩,.string ⟨c.to.toArray⟩,.pointer fp] 92)).heap[w.heap.size]?=some (.cells #[.string ⟨c.frm.toArray⟩,.string ⟨c.to.toArray⟩,.pointer fp] 92 (0,0))):=heap_alloc_new _ _
 have HW:=hide (with_any (w.alloc (.cells #[.string ⟨c.frm.toArray⟩,.string ⟨c.to.toArray⟩,.pointer fp] 92)).drew nv (mapN loc S.seen) (lc loc c) (.pointer fp) (fun hne=>by rw[hfp,if_neg (show ¬c.to=[] from hne)];rfl) (h.sn.mp.same (fun b hb=>Below.heap_alloc _ _ _ (h.sn.mp.lt hb))) h1 h2 (by rw[mapN_len];exact hl) ⟨_,rfl⟩)
 have HNd:Hid (some w.heap.size≠mblk nv):=hide (fun e=>by have:=h.sn.mp.lt e.symm;omega)
 have HWl:Hid ((w.alloc (.cells #[.string ⟨c.frm.toArray⟩,.string ⟨c.to.toArray⟩,.pointer fp] 92)).drew.heap.size=w.heap.size+1):=by show _=_;simp[World.drew]
 rw[show lc loc c=⟨c.frm,c.to,loc c.file⟩ from rfl]at HW
 simp only at HW
 have HE:Hid ([.string ⟨c.frm.toArray⟩,.string ⟨c.to.toArray⟩,.pointer fp]=chv loc c):=by show _=_;unfold chv;rw[hfp]
 clear h hb hfp h1 h2 hl hc
 generalize hsA:(⟨c.frm.toArray⟩:ByteArray)=sA at *
 generalize hsB:(⟨c.to.toArray⟩:ByteArray)=sB at *
 clear hsA hsB
 go_enter Tryz.func44,Tryz.ntmps44
 go_wp2
 go_region_law (first | (go_simp;go_at_call 49;refine HW.out.mono ?_;rintro e w2 ⟨b,rfl,hmp,hgr,hat⟩;have HT:=hide (seen_turned HD.out hmp hgr (by rw[HWl.out]at hat;exact hat));have HX:Hid (w2.heap[w.heap.size]?=_):=(hgr.block w.heap.size (by rw[HWl.out];omega) HNd.out).trans HBx.out;obtain⟨x0,x1,x2,xf⟩:=blk3 HX.out;have hdb:w2.heap[d]?=_:=(hgr.block d (by rw[HWl.out];omega) (HD.out.sn.mp.ne HD.out.blk)).trans ((Below.heap_alloc _ _ _ hbl).trans HB.out);obtain⟨y0,y1,y2,y3,y4,y5,y6,y7,y8,y9,yf⟩:=blk10 hdb;have hd2:=lt_of_block hdb;have hx2:=lt_of_block HX.out;clear hmp hgr hat hdb))
 all_goals
  have n1:¬d=w.heap.size:=by omega
  have n2:¬w.heap.size=d:=by omega
  have HD2:=hide HT.out.1
  have HK2:=hide HT.out.2
  have hw3:(w2.setCell ⟨d,2,none⟩ (.map (some b))).heap[d]?=some (.cells #[.int .i64 (S.room:Int),sv,.map (some b),.slice ca S.chg.length cc,.int .i64 (S.strokes:Int),.int .i64 S.pOff,.int .i64 S.pFrom,.int .i64 S.pTo,.int .i64 (S.planned:Int),.bool S.off] 76 (0,0)):=HD2.out.blk
  have hx3:(w2.setCell ⟨d,2,none⟩ (.map (some b))).heap[w.heap.size]?=_:=(Below.heap_setCell _ _ _ _ n2).trans HX.out
  generalize w2.setCell ⟨d,2,none⟩ (.map (some b))=w3 at *
  have HB3:=hide hw3
  obtain⟨t0,t1,t2,t3,t4,t5,t6,t7,t8,t9,tf⟩:=blk10 hw3
  obtain⟨p0,p1,p2,pf⟩:=blk3 hx3
  have hd3:=lt_of_block hw3
  have hx4:=lt_of_block hx3
  have HNe:Hid (some d≠(Value.slice ca S.chg.length cc).ownBlock):=owns_ne HD2.out.ch.own hw3 (by decide)
  clear hw3 hx3 y0 y1 y2 y3 y4 y5 y6 y7 y8 y9 yf x0 x1 x2 xf q0 q1 q2 q3 q4 q5 q6 q7 q8 q9 qf
  go_wp2
  go_region_law ((refine step_append_lies _ (by rfl) (.tmp 17) (.tmp 19) 74 (by rfl) 0 92 i0 (.agg #[.string ⟨#[]⟩,.string ⟨#[]⟩,.pointer none]) 3 40 Tryz.underlying74 hi hz0 hz1 hz2 rfl (by omega) (.slice ca S.chg.length cc) S.chg.length (chvs loc S.chg) (by rfl) ((HD2.out.ch.own.alloc _).drew) ⟨w3.heap.size,0,none⟩ 1 1 [.string sA,.string sB,.pointer fp] (by rfl) rfl (World.news_of_block (heap_alloc_new w3 (.cells #[.string sA,.string sB,.pointer fp] 92))) (by simp[Value.oneCell']) (by omega) (by have:=HC.out;unfold maxLen;omega) (by have:=HC.out;omega) (by omega) _ rfl ?_;intro g' cap' w4 hown4 hgrow4 hat4 hltg;have HT4:=hide (chg_turned HD2.out (c:=c) (by rw[←HE.out];exact hown4) hgrow4 (by rcases hat4 with h | h;exact Or.inl h;right;simp at h;omega));have hdb:w4.heap[d]?=_:=(hgrow4.block d (by simp;omega) HNe.out).trans ((Below.heap_alloc _ _ _ hd3).trans HB3.out);obtain⟨y0,y1,y2,y3,y4,y5,y6,y7,y8,y9,yf⟩:=blk10 hdb;have hd4:=lt_of_block hdb;clear hdb hown4 hgrow4 hat4))
  all_goals go_wp2
  all_goals
   go_end0
   exact⟨rfl,_,_,_,HT4.out.1,(HK2.out.mono (fun k hk=>by rcases hk with e | e <;> (subst e;rfl))).trans (HT4.out.2.mono (fun k hk=>by rcases hk with e | e <;> (subst e;rfl)))⟩
end Go.Proofs.YtcceejdaokoihaaGreatDoor
