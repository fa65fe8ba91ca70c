import Derived.Deep.CutRange
import Derived.Test.YtfbegfapoijbnaaGreatDcX
import Derived.Test.YtfbegfapoijbnaaGreatDcW
import Derived.Test.YtfbegfapoijbnaaGreatAppB0
set_option maxRecDepth 100000
namespace Go.Proofs.YtfbegfapoijbnaaGreat
open Go.RowKit
open Z (Sli SlOk Acd AcdOk Elt)
structure ActRg (s:Sta) (a:Acd):Prop where
 lwf:∀x∈a.lines.xs,LinWf x
 lines:∀x∈a.lines.xs,RgL s x
 guards:∀x∈a.guards.xs,RgG s x
 sets:∀x∈a.sets.xs,RgP s x
 owf:∀x∈a.other.xs,LinWf x
 other:∀x∈a.other.xs,RgL s x
def otherD (s:Sta) (a:Acd):Int × List Lin × List Tri × Int :=
 if (s.guards a.guards.xs && (s.fits a.lines.xs && s.opens a.sets.xs))=true then (1,a.lines.xs,a.sets.xs.map s.raise,0)
 else if a.mg=1 then clampD s a.lines.xs a.sets.xs
 else if a.mg=2 then (if s.fits a.other.xs=true then (2,a.other.xs,[],0) else (3,[],[],0))
 else if a.mg=3 then (if (s.fits a.lines.xs && s.opens a.sets.xs)=true then (2,a.lines.xs,a.sets.xs.map s.raise,0) else (3,[],[],0))
 else (3,[],[],0)
theorem told4 {w W:World} {s:Sta} {a:Acd} (h:Jb w s a W):W.cell? ⟨w.heap.size+1+1,0,none⟩=some (.int .i64 0)∧W.cell? ⟨w.heap.size+1+1,1,none⟩=some (.slice none 0 0)∧W.cell? ⟨w.heap.size+1+1,2,none⟩=some (.slice none 0 0)∧W.cell? ⟨w.heap.size+1+1,3,none⟩=some (.int .i64 0):=⟨by rw[cell_of_row _ _ _ _ _ _ h.tl];rfl,by rw[cell_of_row _ _ _ _ _ _ h.tl];rfl,by rw[cell_of_row _ _ _ _ _ _ h.tl];rfl,by rw[cell_of_row _ _ _ _ _ _ h.tl];rfl⟩
theorem four_set {W:World} {b:Nat} {t:TypeId} {x0 x1 x2 x3:Value} (h:W.heap[b]?=some (.cells #[x0,x1,x2,x3] t (0,0))) (y0 y1 y2 y3:Value):(((W.setCell ⟨b,0,none⟩ y0).setCell ⟨b,1,none⟩ y1).setCell ⟨b,2,none⟩ y2).setCell ⟨b,3,none⟩ y3=W.setRow b #[y0,y1,y2,y3]:=by
 rw[setCell_eq_setRow _ _ _ _ _ _ _ h,setCell_eq_setRow _ _ _ _ _ _ _ (setRow_heap _ _ _ _ _ _ h),setRow_setRow,setCell_eq_setRow _ _ _ _ _ _ _ (setRow_heap _ _ _ _ _ _ h),setRow_setRow,setCell_eq_setRow _ _ _ _ _ _ _ (setRow_heap _ _ _ _ _ _ h),setRow_setRow]
 rfl
theorem sl_own {B:Nat} {w:World} {q:Option Addr} {n c k:Nat} {t:TypeId} {α:Type} {f:α→List Value} {xs:List α} (hf:∀x,(f x).length=k) (h:w.ownsRow B t k (.slice q n c) n (Z.flat f xs)) (hl:xs.length=n) (hn:n≤4194304):SlOk w k f ⟨q,n,c,xs⟩:=⟨hl,hn,Z.cel_row hf h hl⟩
set_option maxHeartbeats 4000000 in
theorem rother_any (w:World) (s:Sta) (hs:StaOk w s) (hpm:s.pn≤4194304) (hpw:∀p∈s.pools,LinWf (frL p)) (a:Acd) (hok:AcdOk w a) (hrg:ActRg s a) :
  Calls Tryz.prog 83 #[.agg #[.int .u64 s.pos,.slice s.pp s.pn s.pc,.slice s.rp s.rn s.rc,.slice s.lp s.ln s.lc,.slice s.gp s.gn s.gc,.slice s.op s.on s.oc],.agg #[.int .i64 a.till,.int .u64 a.num,.int .i64 a.kind,.bool a.sure,.slice a.lines.p a.lines.n a.lines.c,.slice a.guards.p a.guards.n a.guards.c,.slice a.sets.p a.sets.n a.sets.c,.int .i64 a.mg,.slice a.other.p a.other.n a.other.c,.int .i64 a.ra,.int .i64 a.rb,.int .i64 a.rd,.int .i64 a.to,.int .u64 a.gen,.slice a.rights.p a.rights.n a.rights.c]] w fun e w'=>∃T:Tld,e=.returned (.agg T.arr)∧T.d=otherD s a∧TldOk w' T∧T.far w.heap.size a∧Below w.heap.size w w':=by
 obtain⟨w2,hw2,hJ⟩:=jb_new w s a
 have HW2:=hide hw2
 have HJ:=hide hJ
 obtain⟨⟨c0,c1,c2,c3,c4,c5⟩,⟨a0,a1,a2,a3,a4,a5,a6,a7,a8,a9,a10,a11,a12,a13,a14⟩⟩:=hJ.cells
 have HFl:=hide (fun (W:World) (hb:Below w.heap.size w W)=>rfree_any W s (hs.below hb) a.lines.p a.lines.n a.lines.c a.lines.xs hok.lines.len (by have:=hok.lines.most;omega) hrg.lwf (hok.lines.below hb).cel hrg.lines)
 unfold Sta.arr at HFl
 have HFo:=hide (fun (W:World) (hb:Below w.heap.size w W)=>rfree_any W s (hs.below hb) a.other.p a.other.n a.other.c a.other.xs hok.other.len (by have:=hok.other.most;omega) hrg.owf (hok.other.below hb).cel hrg.other)
 unfold Sta.arr at HFo
 have HOp:=hide (fun (W:World) (hb:Below w.heap.size w W)=>ropen_any W s (hs.below hb) a.sets.p a.sets.n a.sets.c a.sets.xs hok.sets.len (by have:=hok.sets.most;omega) (hok.sets.below hb).cel hrg.sets)
 unfold Sta.arr at HOp
 have HGu:=hide (fun (W:World) (hb:Below w.heap.size w W)=>rguarded_any W s (hs.below hb) a.guards.p a.guards.n a.guards.c a.guards.xs hok.guards.len (by have:=hok.guards.most;omega) (hok.guards.below hb).cel hrg.guards)
 unfold Sta.arr at HGu
 have HMd:=hide (fun (W:World) (hb:Below w.heap.size w W)=>rmade_any W s (hs.below hb) a.sets.p a.sets.n a.sets.c a.sets.xs hok.sets.len (by have:=hok.sets.most;omega) (hok.sets.below hb).cel hrg.sets)
 unfold Sta.arr at HMd
 have HCm:=hide (fun (W:World) (hb:Below w.heap.size w W)=>rclamp_any W s (hs.below hb) hpm hpw a (hok.below hb) hrg.lwf hrg.lines hrg.sets)
 obtain⟨bl,hbl⟩:∃b,s.fits a.lines.xs=b:=⟨_,rfl⟩
 obtain⟨bo,hbo⟩:∃b,s.opens a.sets.xs=b:=⟨_,rfl⟩
 obtain⟨bg,hbg⟩:∃b,s.guards a.guards.xs=b:=⟨_,rfl⟩
 obtain⟨bx,hbx⟩:∃b,s.fits a.other.xs=b:=⟨_,rfl⟩
 have HFl:Hid (∀W,Below w.heap.size w W→Calls Tryz.prog 11 #[.agg #[.int .u64 s.pos,.slice s.pp s.pn s.pc,.slice s.rp s.rn s.rc,.slice s.lp s.ln s.lc,.slice s.gp s.gn s.gc,.slice s.op s.on s.oc],.slice a.lines.p a.lines.n a.lines.c] W fun e w'=>e=.returned (.bool bl)∧Below W.heap.size W w'):=fun W hb=>by have h:=HFl.out W hb;rw[show ((needT a.lines.xs).all fun x=>decide (x.n≤s.free x.a x.b))=bl from hbl]at h;exact h
 have HFo:Hid (∀W,Below w.heap.size w W→Calls Tryz.prog 11 #[.agg #[.int .u64 s.pos,.slice s.pp s.pn s.pc,.slice s.rp s.rn s.rc,.slice s.lp s.ln s.lc,.slice s.gp s.gn s.gc,.slice s.op s.on s.oc],.slice a.other.p a.other.n a.other.c] W fun e w'=>e=.returned (.bool bx)∧Below W.heap.size W w'):=fun W hb=>by have h:=HFo.out W hb;rw[show ((needT a.other.xs).all fun x=>decide (x.n≤s.free x.a x.b))=bx from hbx]at h;exact h
 have HOp:Hid (∀W,Below w.heap.size w W→Calls Tryz.prog 20 #[.agg #[.int .u64 s.pos,.slice s.pp s.pn s.pc,.slice s.rp s.rn s.rc,.slice s.lp s.ln s.lc,.slice s.gp s.gn s.gc,.slice s.op s.on s.oc],.slice a.sets.p a.sets.n a.sets.c] W fun e w'=>e=.returned (.bool bo)∧Below W.heap.size W w'):=fun W hb=>by have h:=HOp.out W hb;rw[show (a.sets.xs.all fun x=>s.isOpen x.a)=bo from hbo]at h;exact h
 have HGu:Hid (∀W,Below w.heap.size w W→Calls Tryz.prog 18 #[.agg #[.int .u64 s.pos,.slice s.pp s.pn s.pc,.slice s.rp s.rn s.rc,.slice s.lp s.ln s.lc,.slice s.gp s.gn s.gc,.slice s.op s.on s.oc],.slice a.guards.p a.guards.n a.guards.c] W fun e w'=>e=.returned (.bool bg)∧Below W.heap.size W w'):=fun W hb=>by have h:=HGu.out W hb;rw[show (a.guards.xs.all fun x=>s.guard x.a x.b x.n)=bg from hbg]at h;exact h
 have HD:Hid (otherD s a=if (bg && (bl && bo))=true then (1,a.lines.xs,a.sets.xs.map s.raise,0) else if a.mg=1 then clampD s a.lines.xs a.sets.xs else if a.mg=2 then (if bx=true then (2,a.other.xs,[],0) else (3,[],[],0)) else if a.mg=3 then (if (bl && bo)=true then (2,a.lines.xs,a.sets.xs.map s.raise,0) else (3,[],[],0)) else (3,[],[],0)):=by show _=_;unfold otherD;rw[hbl,hbo,hbg,hbx]
 have HOk:=hide hok
 clear hw2 hJ hs hok hrg hpw hbl hbo hbg hbx
 go_enter Tryz.func83,Tryz.ntmps83
 go_upto_region 1 with (fail)
 rw[HW2.out]
 obtain⟨fr,hfr⟩:∃f,(bl && bo)=f:=⟨_,rfl⟩
 have HFr:=hide hfr
 rw[hfr]at HD
 go_cut [5] from 6 to 15 (fun s5 wc=>s5=.bool fr∧Hid (Jb w s a wc))
 case first =>
  cases bl with
  | false =>
   have hf:fr=false:=by rw[←hfr];rfl
   subst hf
   clear hfr
   go_wp2_with (first | (go_at_call 11;refine(HFl.out _ HJ.out.bel).mono ?_;rintro e w3 ⟨rfl,hbw3⟩;have HJw3:=hide (HJ.out.below hbw3);clear c0 c1 c2 c3 c4 c5 a0 a1 a2 a3 a4 a5 a6 a7 a8 a9 a10 a11 a12 a13 a14 hbw3;obtain⟨⟨c0,c1,c2,c3,c4,c5⟩,⟨a0,a1,a2,a3,a4,a5,a6,a7,a8,a9,a10,a11,a12,a13,a14⟩⟩:=HJw3.out.cells) | fail)
   go_meet
   exact⟨rfl,HJw3⟩
  | true =>
   cases bo with
   | false =>
    have hf:fr=false:=by rw[←hfr];rfl
    subst hf
    clear hfr
    go_wp2_with (first | (go_at_call 20;refine(HOp.out _ HJw3.out.bel).mono ?_;rintro e w4 ⟨rfl,hbw4⟩;have HJw4:=hide (HJw3.out.below hbw4);clear c0 c1 c2 c3 c4 c5 a0 a1 a2 a3 a4 a5 a6 a7 a8 a9 a10 a11 a12 a13 a14 hbw4;obtain⟨⟨c0,c1,c2,c3,c4,c5⟩,⟨a0,a1,a2,a3,a4,a5,a6,a7,a8,a9,a10,a11,a12,a13,a14⟩⟩:=HJw4.out.cells) | (go_at_call 11;refine(HFl.out _ HJ.out.bel).mono ?_;rintro e w3 ⟨rfl,hbw3⟩;have HJw3:=hide (HJ.out.below hbw3);clear c0 c1 c2 c3 c4 c5 a0 a1 a2 a3 a4 a5 a6 a7 a8 a9 a10 a11 a12 a13 a14 hbw3;obtain⟨⟨c0,c1,c2,c3,c4,c5⟩,⟨a0,a1,a2,a3,a4,a5,a6,a7,a8,a9,a10,a11,a12,a13,a14⟩⟩:=HJw3.out.cells) | fail)
    go_meet
    exact⟨rfl,HJw4⟩
   | true =>
    have hf:fr=true:=by rw[←hfr];rfl
    subst hf
    clear hfr
    go_wp2_with (first | (go_at_call 20;refine(HOp.out _ HJw3.out.bel).mono ?_;rintro e w4 ⟨rfl,hbw4⟩;have HJw4:=hide (HJw3.out.below hbw4);clear c0 c1 c2 c3 c4 c5 a0 a1 a2 a3 a4 a5 a6 a7 a8 a9 a10 a11 a12 a13 a14 hbw4;obtain⟨⟨c0,c1,c2,c3,c4,c5⟩,⟨a0,a1,a2,a3,a4,a5,a6,a7,a8,a9,a10,a11,a12,a13,a14⟩⟩:=HJw4.out.cells) | (go_at_call 11;refine(HFl.out _ HJ.out.bel).mono ?_;rintro e w3 ⟨rfl,hbw3⟩;have HJw3:=hide (HJ.out.below hbw3);clear c0 c1 c2 c3 c4 c5 a0 a1 a2 a3 a4 a5 a6 a7 a8 a9 a10 a11 a12 a13 a14 hbw3;obtain⟨⟨c0,c1,c2,c3,c4,c5⟩,⟨a0,a1,a2,a3,a4,a5,a6,a7,a8,a9,a10,a11,a12,a13,a14⟩⟩:=HJw3.out.cells) | fail)
    go_meet
    exact⟨rfl,HJw4⟩
 case rest =>
  obtain⟨rfl,HJc⟩:=hcut
  clear c0 c1 c2 c3 c4 c5 a0 a1 a2 a3 a4 a5 a6 a7 a8 a9 a10 a11 a12 a13 a14 HW2 HJ hfr
  obtain⟨⟨c0,c1,c2,c3,c4,c5⟩,⟨a0,a1,a2,a3,a4,a5,a6,a7,a8,a9,a10,a11,a12,a13,a14⟩⟩:=HJc.out.cells
  cases bg with
  | true =>
   cases fr with
   | true =>
    go_upto_region 3 with (first | (go_at_call 18;refine(HGu.out _ HJc.out.bel).mono ?_;rintro e w5 ⟨rfl,hbw5⟩;have HJw5:=hide (HJc.out.below hbw5);clear c0 c1 c2 c3 c4 c5 a0 a1 a2 a3 a4 a5 a6 a7 a8 a9 a10 a11 a12 a13 a14 hbw5;obtain⟨⟨c0,c1,c2,c3,c4,c5⟩,⟨a0,a1,a2,a3,a4,a5,a6,a7,a8,a9,a10,a11,a12,a13,a14⟩⟩:=HJw5.out.cells) | fail)
    have hq1:¬w.heap.size+1+1=w.heap.size:=by omega
    have HJd:Hid (Jb w s a w5.drew):=HJw5.out.below ((Below.refl _ w5).drew)
    go_region_held3 (fun w'=>w'.cell? ⟨w.heap.size,0,none⟩=some (.int .u64 s.pos)∧w'.cell? ⟨w.heap.size,1,none⟩=some (.slice s.pp s.pn s.pc)∧w'.cell? ⟨w.heap.size,2,none⟩=some (.slice s.rp s.rn s.rc)∧w'.cell? ⟨w.heap.size,3,none⟩=some (.slice s.lp s.ln s.lc)∧w'.cell? ⟨w.heap.size,4,none⟩=some (.slice s.gp s.gn s.gc)∧w'.cell? ⟨w.heap.size,5,none⟩=some (.slice s.op s.on s.oc)∧w'.cell? ⟨w.heap.size+1,4,none⟩=some (.slice a.lines.p a.lines.n a.lines.c)∧w'.cell? ⟨w.heap.size+1,6,none⟩=some (.slice a.sets.p a.sets.n a.sets.c)) (go_keep) (first | (go_at_call 99;refine(HMd.out _ HJd.out.bel).mono ?_;rintro e w9 ⟨v9,rfl,ho9,hb9⟩;obtain⟨q9,d9,rfl⟩:=slice_form ho9;have HO9:=hide ho9;have HB9:=hide hb9;have HJ9:=hide (HJd.out.below hb9);clear c0 c1 c2 c3 c4 c5 a0 a1 a2 a3 a4 a5 a6 a7 a8 a9 a10 a11 a12 a13 a14 ho9 hb9;obtain⟨⟨c0,c1,c2,c3,c4,c5⟩,⟨a0,a1,a2,a3,a4,a5,a6,a7,a8,a9,a10,a11,a12,a13,a14⟩⟩:=HJ9.out.cells;obtain⟨x0,x1,x2,x3⟩:=told4 HJ9.out;have ct:=RB.bk_thaw HJ9.out.tl) | fail)
    rw[four_set HJ9.out.tl]
    clear ct x0 x1 x2 x3 c0 c1 c2 c3 c4 c5 a0 a1 a2 a3 a4 a5 a6 a7 a8 a9 a10 a11 a12 a13 a14 hq1
    have HSl:Hid (SlOk w9 3 tric ⟨q9,a.sets.n,d9,a.sets.xs.map s.raise⟩):=sl_own (fun _=>rfl) (by rw[←rcells_flat];exact HO9.out) (by rw[List.length_map];exact HOk.out.sets.len) HOk.out.sets.most
    have HHi:Hid (∀g,q9=some g→w.heap.size+1+1<g.block):=fun g e=>by have h1:=Z.owns_base HO9.out g.block (by rw[e];rfl);have h2:=ac_lt HJd.out.tl;omega
    obtain⟨_,hE,hB,hT⟩:=HJ9.out.store (⟨1,a.lines,⟨q9,a.sets.n,d9,a.sets.xs.map s.raise⟩,0⟩:Tld)
    have HE:=hide hE
    have HBe:=hide hB
    have HT:=hide (hT ⟨HOk.out.lines.below HJ9.out.bel,HSl.out⟩ (slok_off HOk.out.lines _ (by omega)) (fun _ g e=>by have:=HHi.out g e;omega))
    clear hE hB hT
    go_wp2
    refine bodyPost_ret (results_cell_row rfl _ _ (w.heap.size+1+1) 137 _ (0,0) _ rfl HE.out Tryz.underlying137 rfl Tryz.sizeT) rfl ?_
    exact⟨(⟨1,a.lines,⟨q9,a.sets.n,d9,a.sets.xs.map s.raise⟩,0⟩:Tld),rfl,by rw[HD.out];rfl,HT.out,⟨fun h g e=>Or.inr (Or.inl ⟨e,h⟩),fun _ g e=>by have:=HHi.out g e;omega⟩,HBe.out⟩
   | false =>
    go_upto_region 4 with (first | (go_at_call 18;refine(HGu.out _ HJc.out.bel).mono ?_;rintro e w5 ⟨rfl,hbw5⟩;have HJw5:=hide (HJc.out.below hbw5);clear c0 c1 c2 c3 c4 c5 a0 a1 a2 a3 a4 a5 a6 a7 a8 a9 a10 a11 a12 a13 a14 hbw5;obtain⟨⟨c0,c1,c2,c3,c4,c5⟩,⟨a0,a1,a2,a3,a4,a5,a6,a7,a8,a9,a10,a11,a12,a13,a14⟩⟩:=HJw5.out.cells) | fail)
    have HD2:Hid (otherD s a=if a.mg=1 then clampD s a.lines.xs a.sets.xs else if a.mg=2 then (if bx=true then (2,a.other.xs,[],0) else (3,[],[],0)) else if a.mg=3 then (if false=true then (2,a.lines.xs,a.sets.xs.map s.raise,0) else (3,[],[],0)) else (3,[],[],0)):=by show _=_;rw[HD.out];simp
    by_cases m1:a.mg=1
    ·have m1':(a.mg == 1)=true:=by simp[m1]
     have HD3:=hide (HD2.out.trans (if_pos m1))
     clear m1
     go_wp2_with (first | (go_at_call 100;refine(HCm.out _ HJw5.out.bel).mono ?_;rintro e w6 ⟨T,rfl,hTd,hTk,hFa,hb6⟩;have HJ6:=hide (HJw5.out.below hb6);obtain⟨hf1,hf2⟩:=hFa.off HOk.out (w.heap.size+1+1) (by omega) (ac_lt HJw5.out.tl);obtain⟨hS,hE,hB,hT⟩:=HJ6.out.store T;have HS:=hide hS;have HE:=hide hE;have HBe:=hide hB;have HT:=hide (hT hTk hf1 hf2);have HTd:=hide hTd;have HFa:=hide (hFa.le (show w.heap.size≤w5.heap.size from HJw5.out.bel.size));clear hS hE hB hT hTk hf1 hf2 hTd hFa hb6) | ((with_reducible show wpList _ _ _ (⟨_,.store 137 (.tmp 4) _,_,_,_,_⟩ :: _) _ _);refine Z.lp_store (t:=137) (x:=.tmp 4) (some ⟨w.heap.size+1+1,0,none⟩) (.agg T.arr) rfl rfl HS.out ?_) | fail)
     refine bodyPost_ret (results_cell_row rfl _ _ (w.heap.size+1+1) 137 _ (0,0) _ rfl HE.out Tryz.underlying137 rfl Tryz.sizeT) rfl ?_
     exact⟨T,rfl,by rw[HTd.out,HD3.out],HT.out,HFa.out,HBe.out⟩
    by_cases m2:a.mg=2
    ·have m1':(a.mg == 1)=false:=by simp[m1]
     have m2':(a.mg == 2)=true:=by simp[m2]
     have HD3:=hide ((HD2.out.trans (if_neg m1)).trans (if_pos m2))
     clear m1 m2
     cases bx with
     | true =>
      go_wp2_with (first | (go_at_call 11;refine(HFo.out _ HJw5.out.bel).mono ?_;rintro e w6 ⟨rfl,hb6⟩;have HJ6:=hide (HJw5.out.below hb6);clear c0 c1 c2 c3 c4 c5 a0 a1 a2 a3 a4 a5 a6 a7 a8 a9 a10 a11 a12 a13 a14 hb6;obtain⟨⟨c0,c1,c2,c3,c4,c5⟩,⟨a0,a1,a2,a3,a4,a5,a6,a7,a8,a9,a10,a11,a12,a13,a14⟩⟩:=HJ6.out.cells;obtain⟨hS,hE,hB,hT⟩:=HJ6.out.store (⟨2,a.other,⟨none,0,0,[]⟩,0⟩:Tld);have HS:=hide hS;have HE:=hide hE;have HBe:=hide hB;have HT:=hide (hT ⟨HOk.out.other.below HJ6.out.bel,sl_nil _ _ _⟩ (slok_off HOk.out.other _ (by omega)) (fun h=>absurd rfl h));clear hS hE hB hT) | ((with_reducible show wpList _ _ _ (⟨_,.store 137 (.tmp 4) _,_,_,_,_⟩ :: _) _ _);refine Z.lp_store (t:=137) (x:=.tmp 4) (some ⟨w.heap.size+1+1,0,none⟩) (.agg (⟨2,a.other,⟨none,0,0,[]⟩,0⟩:Tld).arr) rfl rfl HS.out ?_) | fail)
      refine bodyPost_ret (results_cell_row rfl _ _ (w.heap.size+1+1) 137 _ (0,0) _ rfl HE.out Tryz.underlying137 rfl Tryz.sizeT) rfl ?_
      exact⟨(⟨2,a.other,⟨none,0,0,[]⟩,0⟩:Tld),rfl,by rw[HD3.out];rfl,HT.out,⟨fun h g e=>Or.inr (Or.inr ⟨e,h⟩),fun h=>absurd rfl h⟩,HBe.out⟩
     | false =>
      go_wp2_with (first | (go_at_call 11;refine(HFo.out _ HJw5.out.bel).mono ?_;rintro e w6 ⟨rfl,hb6⟩;have HJ6:=hide (HJw5.out.below hb6);clear c0 c1 c2 c3 c4 c5 a0 a1 a2 a3 a4 a5 a6 a7 a8 a9 a10 a11 a12 a13 a14 hb6;obtain⟨⟨c0,c1,c2,c3,c4,c5⟩,⟨a0,a1,a2,a3,a4,a5,a6,a7,a8,a9,a10,a11,a12,a13,a14⟩⟩:=HJ6.out.cells;obtain⟨hS,hE,hB,hT⟩:=HJ6.out.store (tld0 3 0);have HS:=hide hS;have HE:=hide hE;have HBe:=hide hB;have HT:=hide (hT (tld0_ok _ _ _) (fun h=>absurd rfl h) (fun h=>absurd rfl h));clear hS hE hB hT) | ((with_reducible show wpList _ _ _ (⟨_,.store 137 (.tmp 4) _,_,_,_,_⟩ :: _) _ _);refine Z.lp_store (t:=137) (x:=.tmp 4) (some ⟨w.heap.size+1+1,0,none⟩) (.agg (tld0 3 0).arr) rfl rfl HS.out ?_) | fail)
      refine bodyPost_ret (results_cell_row rfl _ _ (w.heap.size+1+1) 137 _ (0,0) _ rfl HE.out Tryz.underlying137 rfl Tryz.sizeT) rfl ?_
      exact⟨(tld0 3 0),rfl,by rw[HD3.out];rfl,HT.out,tld0_far _ _ _ _,HBe.out⟩
    by_cases m3:a.mg=3
    ·have m1':(a.mg == 1)=false:=by simp[m1]
     have m2':(a.mg == 2)=false:=by simp[m2]
     have m3':(a.mg == 3)=true:=by simp[m3]
     have HD3:=hide (((HD2.out.trans (if_neg m1)).trans (if_neg m2)).trans (if_pos m3))
     clear m1 m2 m3
     obtain⟨hS,hE,hB,hT⟩:=HJw5.out.store (tld0 3 0)
     have HS:=hide hS
     have HE:=hide hE
     have HBe:=hide hB
     have HT:=hide (hT (tld0_ok _ _ _) (fun h=>absurd rfl h) (fun h=>absurd rfl h))
     clear hS hE hB hT
     go_wp2_with (first | ((with_reducible show wpList _ _ _ (⟨_,.store 137 (.tmp 4) _,_,_,_,_⟩ :: _) _ _);refine Z.lp_store (t:=137) (x:=.tmp 4) (some ⟨w.heap.size+1+1,0,none⟩) (.agg (tld0 3 0).arr) rfl rfl HS.out ?_) | fail)
     refine bodyPost_ret (results_cell_row rfl _ _ (w.heap.size+1+1) 137 _ (0,0) _ rfl HE.out Tryz.underlying137 rfl Tryz.sizeT) rfl ?_
     exact⟨(tld0 3 0),rfl,by rw[HD3.out];rfl,HT.out,tld0_far _ _ _ _,HBe.out⟩
    have m1':(a.mg == 1)=false:=by simp[m1]
    have m2':(a.mg == 2)=false:=by simp[m2]
    have m3':(a.mg == 3)=false:=by simp[m3]
    have HD3:=hide (((HD2.out.trans (if_neg m1)).trans (if_neg m2)).trans (if_neg m3))
    clear m1 m2 m3
    obtain⟨hS,hE,hB,hT⟩:=HJw5.out.store (tld0 3 0)
    have HS:=hide hS
    have HE:=hide hE
    have HBe:=hide hB
    have HT:=hide (hT (tld0_ok _ _ _) (fun h=>absurd rfl h) (fun h=>absurd rfl h))
    clear hS hE hB hT
    go_wp2_with (first | ((with_reducible show wpList _ _ _ (⟨_,.store 137 (.tmp 4) _,_,_,_,_⟩ :: _) _ _);refine Z.lp_store (t:=137) (x:=.tmp 4) (some ⟨w.heap.size+1+1,0,none⟩) (.agg (tld0 3 0).arr) rfl rfl HS.out ?_) | fail)
    refine bodyPost_ret (results_cell_row rfl _ _ (w.heap.size+1+1) 137 _ (0,0) _ rfl HE.out Tryz.underlying137 rfl Tryz.sizeT) rfl ?_
    exact⟨(tld0 3 0),rfl,by rw[HD3.out];rfl,HT.out,tld0_far _ _ _ _,HBe.out⟩
  | false =>
   cases fr with
   | true =>
    go_upto_region 4 with (first | (go_at_call 18;refine(HGu.out _ HJc.out.bel).mono ?_;rintro e w5 ⟨rfl,hbw5⟩;have HJw5:=hide (HJc.out.below hbw5);clear c0 c1 c2 c3 c4 c5 a0 a1 a2 a3 a4 a5 a6 a7 a8 a9 a10 a11 a12 a13 a14 hbw5;obtain⟨⟨c0,c1,c2,c3,c4,c5⟩,⟨a0,a1,a2,a3,a4,a5,a6,a7,a8,a9,a10,a11,a12,a13,a14⟩⟩:=HJw5.out.cells) | fail)
    have HD2:Hid (otherD s a=if a.mg=1 then clampD s a.lines.xs a.sets.xs else if a.mg=2 then (if bx=true then (2,a.other.xs,[],0) else (3,[],[],0)) else if a.mg=3 then (if true=true then (2,a.lines.xs,a.sets.xs.map s.raise,0) else (3,[],[],0)) else (3,[],[],0)):=by show _=_;rw[HD.out];simp
    by_cases m1:a.mg=1
    ·have m1':(a.mg == 1)=true:=by simp[m1]
     have HD3:=hide (HD2.out.trans (if_pos m1))
     clear m1
     go_wp2_with (first | (go_at_call 100;refine(HCm.out _ HJw5.out.bel).mono ?_;rintro e w6 ⟨T,rfl,hTd,hTk,hFa,hb6⟩;have HJ6:=hide (HJw5.out.below hb6);obtain⟨hf1,hf2⟩:=hFa.off HOk.out (w.heap.size+1+1) (by omega) (ac_lt HJw5.out.tl);obtain⟨hS,hE,hB,hT⟩:=HJ6.out.store T;have HS:=hide hS;have HE:=hide hE;have HBe:=hide hB;have HT:=hide (hT hTk hf1 hf2);have HTd:=hide hTd;have HFa:=hide (hFa.le (show w.heap.size≤w5.heap.size from HJw5.out.bel.size));clear hS hE hB hT hTk hf1 hf2 hTd hFa hb6) | ((with_reducible show wpList _ _ _ (⟨_,.store 137 (.tmp 4) _,_,_,_,_⟩ :: _) _ _);refine Z.lp_store (t:=137) (x:=.tmp 4) (some ⟨w.heap.size+1+1,0,none⟩) (.agg T.arr) rfl rfl HS.out ?_) | fail)
     refine bodyPost_ret (results_cell_row rfl _ _ (w.heap.size+1+1) 137 _ (0,0) _ rfl HE.out Tryz.underlying137 rfl Tryz.sizeT) rfl ?_
     exact⟨T,rfl,by rw[HTd.out,HD3.out],HT.out,HFa.out,HBe.out⟩
    by_cases m2:a.mg=2
    ·have m1':(a.mg == 1)=false:=by simp[m1]
     have m2':(a.mg == 2)=true:=by simp[m2]
     have HD3:=hide ((HD2.out.trans (if_neg m1)).trans (if_pos m2))
     clear m1 m2
     cases bx with
     | true =>
      go_wp2_with (first | (go_at_call 11;refine(HFo.out _ HJw5.out.bel).mono ?_;rintro e w6 ⟨rfl,hb6⟩;have HJ6:=hide (HJw5.out.below hb6);clear c0 c1 c2 c3 c4 c5 a0 a1 a2 a3 a4 a5 a6 a7 a8 a9 a10 a11 a12 a13 a14 hb6;obtain⟨⟨c0,c1,c2,c3,c4,c5⟩,⟨a0,a1,a2,a3,a4,a5,a6,a7,a8,a9,a10,a11,a12,a13,a14⟩⟩:=HJ6.out.cells;obtain⟨hS,hE,hB,hT⟩:=HJ6.out.store (⟨2,a.other,⟨none,0,0,[]⟩,0⟩:Tld);have HS:=hide hS;have HE:=hide hE;have HBe:=hide hB;have HT:=hide (hT ⟨HOk.out.other.below HJ6.out.bel,sl_nil _ _ _⟩ (slok_off HOk.out.other _ (by omega)) (fun h=>absurd rfl h));clear hS hE hB hT) | ((with_reducible show wpList _ _ _ (⟨_,.store 137 (.tmp 4) _,_,_,_,_⟩ :: _) _ _);refine Z.lp_store (t:=137) (x:=.tmp 4) (some ⟨w.heap.size+1+1,0,none⟩) (.agg (⟨2,a.other,⟨none,0,0,[]⟩,0⟩:Tld).arr) rfl rfl HS.out ?_) | fail)
      refine bodyPost_ret (results_cell_row rfl _ _ (w.heap.size+1+1) 137 _ (0,0) _ rfl HE.out Tryz.underlying137 rfl Tryz.sizeT) rfl ?_
      exact⟨(⟨2,a.other,⟨none,0,0,[]⟩,0⟩:Tld),rfl,by rw[HD3.out];rfl,HT.out,⟨fun h g e=>Or.inr (Or.inr ⟨e,h⟩),fun h=>absurd rfl h⟩,HBe.out⟩
     | false =>
      go_wp2_with (first | (go_at_call 11;refine(HFo.out _ HJw5.out.bel).mono ?_;rintro e w6 ⟨rfl,hb6⟩;have HJ6:=hide (HJw5.out.below hb6);clear c0 c1 c2 c3 c4 c5 a0 a1 a2 a3 a4 a5 a6 a7 a8 a9 a10 a11 a12 a13 a14 hb6;obtain⟨⟨c0,c1,c2,c3,c4,c5⟩,⟨a0,a1,a2,a3,a4,a5,a6,a7,a8,a9,a10,a11,a12,a13,a14⟩⟩:=HJ6.out.cells;obtain⟨hS,hE,hB,hT⟩:=HJ6.out.store (tld0 3 0);have HS:=hide hS;have HE:=hide hE;have HBe:=hide hB;have HT:=hide (hT (tld0_ok _ _ _) (fun h=>absurd rfl h) (fun h=>absurd rfl h));clear hS hE hB hT) | ((with_reducible show wpList _ _ _ (⟨_,.store 137 (.tmp 4) _,_,_,_,_⟩ :: _) _ _);refine Z.lp_store (t:=137) (x:=.tmp 4) (some ⟨w.heap.size+1+1,0,none⟩) (.agg (tld0 3 0).arr) rfl rfl HS.out ?_) | fail)
      refine bodyPost_ret (results_cell_row rfl _ _ (w.heap.size+1+1) 137 _ (0,0) _ rfl HE.out Tryz.underlying137 rfl Tryz.sizeT) rfl ?_
      exact⟨(tld0 3 0),rfl,by rw[HD3.out];rfl,HT.out,tld0_far _ _ _ _,HBe.out⟩
    by_cases m3:a.mg=3
    ·have m1':(a.mg == 1)=false:=by simp[m1]
     have m2':(a.mg == 2)=false:=by simp[m2]
     have m3':(a.mg == 3)=true:=by simp[m3]
     have HD3:=hide (((HD2.out.trans (if_neg m1)).trans (if_neg m2)).trans (if_pos m3))
     clear m1 m2 m3
     go_upto_region 12 with (fail)
     have hq1:¬w.heap.size+1+1=w.heap.size:=by omega
     have HJd:Hid (Jb w s a w5.drew):=HJw5.out.below ((Below.refl _ w5).drew)
     go_region_held3 (fun w'=>w'.cell? ⟨w.heap.size,0,none⟩=some (.int .u64 s.pos)∧w'.cell? ⟨w.heap.size,1,none⟩=some (.slice s.pp s.pn s.pc)∧w'.cell? ⟨w.heap.size,2,none⟩=some (.slice s.rp s.rn s.rc)∧w'.cell? ⟨w.heap.size,3,none⟩=some (.slice s.lp s.ln s.lc)∧w'.cell? ⟨w.heap.size,4,none⟩=some (.slice s.gp s.gn s.gc)∧w'.cell? ⟨w.heap.size,5,none⟩=some (.slice s.op s.on s.oc)∧w'.cell? ⟨w.heap.size+1,4,none⟩=some (.slice a.lines.p a.lines.n a.lines.c)∧w'.cell? ⟨w.heap.size+1,6,none⟩=some (.slice a.sets.p a.sets.n a.sets.c)) (go_keep) (first | (go_at_call 99;refine(HMd.out _ HJd.out.bel).mono ?_;rintro e w9 ⟨v9,rfl,ho9,hb9⟩;obtain⟨q9,d9,rfl⟩:=slice_form ho9;have HO9:=hide ho9;have HB9:=hide hb9;have HJ9:=hide (HJd.out.below hb9);clear c0 c1 c2 c3 c4 c5 a0 a1 a2 a3 a4 a5 a6 a7 a8 a9 a10 a11 a12 a13 a14 ho9 hb9;obtain⟨⟨c0,c1,c2,c3,c4,c5⟩,⟨a0,a1,a2,a3,a4,a5,a6,a7,a8,a9,a10,a11,a12,a13,a14⟩⟩:=HJ9.out.cells;obtain⟨x0,x1,x2,x3⟩:=told4 HJ9.out;have ct:=RB.bk_thaw HJ9.out.tl) | fail)
     rw[four_set HJ9.out.tl]
     clear ct x0 x1 x2 x3 c0 c1 c2 c3 c4 c5 a0 a1 a2 a3 a4 a5 a6 a7 a8 a9 a10 a11 a12 a13 a14 hq1
     have HSl:Hid (SlOk w9 3 tric ⟨q9,a.sets.n,d9,a.sets.xs.map s.raise⟩):=sl_own (fun _=>rfl) (by rw[←rcells_flat];exact HO9.out) (by rw[List.length_map];exact HOk.out.sets.len) HOk.out.sets.most
     have HHi:Hid (∀g,q9=some g→w.heap.size+1+1<g.block):=fun g e=>by have h1:=Z.owns_base HO9.out g.block (by rw[e];rfl);have h2:=ac_lt HJd.out.tl;omega
     obtain⟨_,hE,hB,hT⟩:=HJ9.out.store (⟨2,a.lines,⟨q9,a.sets.n,d9,a.sets.xs.map s.raise⟩,0⟩:Tld)
     have HE:=hide hE
     have HBe:=hide hB
     have HT:=hide (hT ⟨HOk.out.lines.below HJ9.out.bel,HSl.out⟩ (slok_off HOk.out.lines _ (by omega)) (fun _ g e=>by have:=HHi.out g e;omega))
     clear hE hB hT
     go_wp2
     refine bodyPost_ret (results_cell_row rfl _ _ (w.heap.size+1+1) 137 _ (0,0) _ rfl HE.out Tryz.underlying137 rfl Tryz.sizeT) rfl ?_
     exact⟨(⟨2,a.lines,⟨q9,a.sets.n,d9,a.sets.xs.map s.raise⟩,0⟩:Tld),rfl,by rw[HD3.out];rfl,HT.out,⟨fun h g e=>Or.inr (Or.inl ⟨e,h⟩),fun _ g e=>by have:=HHi.out g e;omega⟩,HBe.out⟩
    have m1':(a.mg == 1)=false:=by simp[m1]
    have m2':(a.mg == 2)=false:=by simp[m2]
    have m3':(a.mg == 3)=false:=by simp[m3]
    have HD3:=hide (((HD2.out.trans (if_neg m1)).trans (if_neg m2)).trans (if_neg m3))
    clear m1 m2 m3
    obtain⟨hS,hE,hB,hT⟩:=HJw5.out.store (tld0 3 0)
    have HS:=hide hS
    have HE:=hide hE
    have HBe:=hide hB
    have HT:=hide (hT (tld0_ok _ _ _) (fun h=>absurd rfl h) (fun h=>absurd rfl h))
    clear hS hE hB hT
    go_wp2_with (first | ((with_reducible show wpList _ _ _ (⟨_,.store 137 (.tmp 4) _,_,_,_,_⟩ :: _) _ _);refine Z.lp_store (t:=137) (x:=.tmp 4) (some ⟨w.heap.size+1+1,0,none⟩) (.agg (tld0 3 0).arr) rfl rfl HS.out ?_) | fail)
    refine bodyPost_ret (results_cell_row rfl _ _ (w.heap.size+1+1) 137 _ (0,0) _ rfl HE.out Tryz.underlying137 rfl Tryz.sizeT) rfl ?_
    exact⟨(tld0 3 0),rfl,by rw[HD3.out];rfl,HT.out,tld0_far _ _ _ _,HBe.out⟩
   | false =>
    go_upto_region 4 with (first | (go_at_call 18;refine(HGu.out _ HJc.out.bel).mono ?_;rintro e w5 ⟨rfl,hbw5⟩;have HJw5:=hide (HJc.out.below hbw5);clear c0 c1 c2 c3 c4 c5 a0 a1 a2 a3 a4 a5 a6 a7 a8 a9 a10 a11 a12 a13 a14 hbw5;obtain⟨⟨c0,c1,c2,c3,c4,c5⟩,⟨a0,a1,a2,a3,a4,a5,a6,a7,a8,a9,a10,a11,a12,a13,a14⟩⟩:=HJw5.out.cells) | fail)
    have HD2:Hid (otherD s a=if a.mg=1 then clampD s a.lines.xs a.sets.xs else if a.mg=2 then (if bx=true then (2,a.other.xs,[],0) else (3,[],[],0)) else if a.mg=3 then (if false=true then (2,a.lines.xs,a.sets.xs.map s.raise,0) else (3,[],[],0)) else (3,[],[],0)):=by show _=_;rw[HD.out];simp
    by_cases m1:a.mg=1
    ·have m1':(a.mg == 1)=true:=by simp[m1]
     have HD3:=hide (HD2.out.trans (if_pos m1))
     clear m1
     go_wp2_with (first | (go_at_call 100;refine(HCm.out _ HJw5.out.bel).mono ?_;rintro e w6 ⟨T,rfl,hTd,hTk,hFa,hb6⟩;have HJ6:=hide (HJw5.out.below hb6);obtain⟨hf1,hf2⟩:=hFa.off HOk.out (w.heap.size+1+1) (by omega) (ac_lt HJw5.out.tl);obtain⟨hS,hE,hB,hT⟩:=HJ6.out.store T;have HS:=hide hS;have HE:=hide hE;have HBe:=hide hB;have HT:=hide (hT hTk hf1 hf2);have HTd:=hide hTd;have HFa:=hide (hFa.le (show w.heap.size≤w5.heap.size from HJw5.out.bel.size));clear hS hE hB hT hTk hf1 hf2 hTd hFa hb6) | ((with_reducible show wpList _ _ _ (⟨_,.store 137 (.tmp 4) _,_,_,_,_⟩ :: _) _ _);refine Z.lp_store (t:=137) (x:=.tmp 4) (some ⟨w.heap.size+1+1,0,none⟩) (.agg T.arr) rfl rfl HS.out ?_) | fail)
     refine bodyPost_ret (results_cell_row rfl _ _ (w.heap.size+1+1) 137 _ (0,0) _ rfl HE.out Tryz.underlying137 rfl Tryz.sizeT) rfl ?_
     exact⟨T,rfl,by rw[HTd.out,HD3.out],HT.out,HFa.out,HBe.out⟩
    by_cases m2:a.mg=2
    ·have m1':(a.mg == 1)=false:=by simp[m1]
     have m2':(a.mg == 2)=true:=by simp[m2]
     have HD3:=hide ((HD2.out.trans (if_neg m1)).trans (if_pos m2))
     clear m1 m2
     cases bx with
     | true =>
      go_wp2_with (first | (go_at_call 11;refine(HFo.out _ HJw5.out.bel).mono ?_;rintro e w6 ⟨rfl,hb6⟩;have HJ6:=hide (HJw5.out.below hb6);clear c0 c1 c2 c3 c4 c5 a0 a1 a2 a3 a4 a5 a6 a7 a8 a9 a10 a11 a12 a13 a14 hb6;obtain⟨⟨c0,c1,c2,c3,c4,c5⟩,⟨a0,a1,a2,a3,a4,a5,a6,a7,a8,a9,a10,a11,a12,a13,a14⟩⟩:=HJ6.out.cells;obtain⟨hS,hE,hB,hT⟩:=HJ6.out.store (⟨2,a.other,⟨none,0,0,[]⟩,0⟩:Tld);have HS:=hide hS;have HE:=hide hE;have HBe:=hide hB;have HT:=hide (hT ⟨HOk.out.other.below HJ6.out.bel,sl_nil _ _ _⟩ (slok_off HOk.out.other _ (by omega)) (fun h=>absurd rfl h));clear hS hE hB hT) | ((with_reducible show wpList _ _ _ (⟨_,.store 137 (.tmp 4) _,_,_,_,_⟩ :: _) _ _);refine Z.lp_store (t:=137) (x:=.tmp 4) (some ⟨w.heap.size+1+1,0,none⟩) (.agg (⟨2,a.other,⟨none,0,0,[]⟩,0⟩:Tld).arr) rfl rfl HS.out ?_) | fail)
      refine bodyPost_ret (results_cell_row rfl _ _ (w.heap.size+1+1) 137 _ (0,0) _ rfl HE.out Tryz.underlying137 rfl Tryz.sizeT) rfl ?_
      exact⟨(⟨2,a.other,⟨none,0,0,[]⟩,0⟩:Tld),rfl,by rw[HD3.out];rfl,HT.out,⟨fun h g e=>Or.inr (Or.inr ⟨e,h⟩),fun h=>absurd rfl h⟩,HBe.out⟩
     | false =>
      go_wp2_with (first | (go_at_call 11;refine(HFo.out _ HJw5.out.bel).mono ?_;rintro e w6 ⟨rfl,hb6⟩;have HJ6:=hide (HJw5.out.below hb6);clear c0 c1 c2 c3 c4 c5 a0 a1 a2 a3 a4 a5 a6 a7 a8 a9 a10 a11 a12 a13 a14 hb6;obtain⟨⟨c0,c1,c2,c3,c4,c5⟩,⟨a0,a1,a2,a3,a4,a5,a6,a7,a8,a9,a10,a11,a12,a13,a14⟩⟩:=HJ6.out.cells;obtain⟨hS,hE,hB,hT⟩:=HJ6.out.store (tld0 3 0);have HS:=hide hS;have HE:=hide hE;have HBe:=hide hB;have HT:=hide (hT (tld0_ok _ _ _) (fun h=>absurd rfl h) (fun h=>absurd rfl h));clear hS hE hB hT) | ((with_reducible show wpList _ _ _ (⟨_,.store 137 (.tmp 4) _,_,_,_,_⟩ :: _) _ _);refine Z.lp_store (t:=137) (x:=.tmp 4) (some ⟨w.heap.size+1+1,0,none⟩) (.agg (tld0 3 0).arr) rfl rfl HS.out ?_) | fail)
      refine bodyPost_ret (results_cell_row rfl _ _ (w.heap.size+1+1) 137 _ (0,0) _ rfl HE.out Tryz.underlying137 rfl Tryz.sizeT) rfl ?_
      exact⟨(tld0 3 0),rfl,by rw[HD3.out];rfl,HT.out,tld0_far _ _ _ _,HBe.out⟩
    by_cases m3:a.mg=3
    ·have m1':(a.mg == 1)=false:=by simp[m1]
     have m2':(a.mg == 2)=false:=by simp[m2]
     have m3':(a.mg == 3)=true:=by simp[m3]
     have HD3:=hide (((HD2.out.trans (if_neg m1)).trans (if_neg m2)).trans (if_pos m3))
     clear m1 m2 m3
     obtain⟨hS,hE,hB,hT⟩:=HJw5.out.store (tld0 3 0)
     have HS:=hide hS
     have HE:=hide hE
     have HBe:=hide hB
     have HT:=hide (hT (tld0_ok _ _ _) (fun h=>absurd rfl h) (fun h=>absurd rfl h))
     clear hS hE hB hT
     go_wp2_with (first | ((with_reducible show wpList _ _ _ (⟨_,.store 137 (.tmp 4) _,_,_,_,_⟩ :: _) _ _);refine Z.lp_store (t:=137) (x:=.tmp 4) (some ⟨w.heap.size+1+1,0,none⟩) (.agg (tld0 3 0).arr) rfl rfl HS.out ?_) | fail)
     refine bodyPost_ret (results_cell_row rfl _ _ (w.heap.size+1+1) 137 _ (0,0) _ rfl HE.out Tryz.underlying137 rfl Tryz.sizeT) rfl ?_
     exact⟨(tld0 3 0),rfl,by rw[HD3.out];rfl,HT.out,tld0_far _ _ _ _,HBe.out⟩
    have m1':(a.mg == 1)=false:=by simp[m1]
    have m2':(a.mg == 2)=false:=by simp[m2]
    have m3':(a.mg == 3)=false:=by simp[m3]
    have HD3:=hide (((HD2.out.trans (if_neg m1)).trans (if_neg m2)).trans (if_neg m3))
    clear m1 m2 m3
    obtain⟨hS,hE,hB,hT⟩:=HJw5.out.store (tld0 3 0)
    have HS:=hide hS
    have HE:=hide hE
    have HBe:=hide hB
    have HT:=hide (hT (tld0_ok _ _ _) (fun h=>absurd rfl h) (fun h=>absurd rfl h))
    clear hS hE hB hT
    go_wp2_with (first | ((with_reducible show wpList _ _ _ (⟨_,.store 137 (.tmp 4) _,_,_,_,_⟩ :: _) _ _);refine Z.lp_store (t:=137) (x:=.tmp 4) (some ⟨w.heap.size+1+1,0,none⟩) (.agg (tld0 3 0).arr) rfl rfl HS.out ?_) | fail)
    refine bodyPost_ret (results_cell_row rfl _ _ (w.heap.size+1+1) 137 _ (0,0) _ rfl HE.out Tryz.underlying137 rfl Tryz.sizeT) rfl ?_
    exact⟨(tld0 3 0),rfl,by rw[HD3.out];rfl,HT.out,tld0_far _ _ _ _,HBe.out⟩
end Go.Proofs.YtfbegfapoijbnaaGreat
namespace Go.Proofs.YtfbegfapoijbnaaGreat
open Go.RowKit
open Z (Sli SlOk Acd AcdOk Elt)
structure JudgeRg (s:Sta) (a:Acd):Prop where
 act:ActRg s a
 kind:1≤a.kind∧a.kind≤5
 till:∃t:Nat,a.till=(t:Int)∧RgH s t∧t<s.gn∧t<s.on
 right:2≤a.kind→a.kind≤4→RgT s ⟨a.ra,a.rb,a.rd⟩
 dest:a.kind=4→∃t:Nat,a.to=(t:Int)∧RgH s t
 rights:a.kind=5→∀x∈a.rights.xs,RgT s x
def doneD (b:Bool):Int:=if b then 5 else 3
def judgeD (s:Sta) (a:Acd):Int × List Lin × List Tri × Int :=
 if a.kind=1 then (if a.sure=true then (if s.keeps a.till a.lines.xs then (1,a.lines.xs,[],0) else (3,[],[],0)) else otherD s a)
 else if a.kind=2 then (4,[],[],min a.rd (min (s.free a.ra a.rb) (wrap64 (18014398509481984 - s.held a.till a.ra a.rb))))
 else if a.kind=3 then (doneD (decide (a.rd≤s.held a.till a.ra a.rb)),[],[],0)
 else if a.kind=4 then (doneD (decide (a.rd≤s.held a.till a.ra a.rb) && decide (s.held a.to a.ra a.rb≤wrap64 (18014398509481984 - a.rd))),[],[],0)
 else (doneD (s.owes a.till a.gen && s.hasAll a.till a.rights.xs),[],[],0)
theorem rdone_lit (w:World) (b:Bool):Calls Tryz.prog 84 #[.bool b] w fun e w'=>e=.returned (.agg #[.int .i64 (doneD b),.slice none 0 0,.slice none 0 0,.int .i64 0])∧Below w.heap.size w w':=(rdone_any w b).mono (fun _ _ ⟨h1,h2⟩=>⟨by rw[h1];cases b <;> rfl,h2⟩)
structure PlAt (w:World) (s:Sta) (k t:Nat) (P:Pl) (l:Lin) (pb po hb ho:Nat):Prop where
 at_:s.pools[k]?=some P
 pair:P.hs[t]?=some l
 pp:s.pp=some ⟨pb,po,none⟩
 hp:P.hp=some ⟨hb,ho,none⟩
 kn:(k:Int)<(s.pn:Int)
 tn:(t:Int)<(P.hl:Int)
 pl:pb<w.heap.size
 hl:hb<w.heap.size
 cells:∀W,Below w.heap.size w W→W.cell? ⟨pb,po+k*4,none⟩=some (.int .i64 P.v)∧W.cell? ⟨pb,po+k*4+1,none⟩=some (.int .i64 P.f0)∧W.cell? ⟨pb,po+k*4+2,none⟩=some (.int .i64 P.f1)∧W.cell? ⟨pb,po+k*4+3,none⟩=some (.slice (some ⟨hb,ho,none⟩) P.hl P.hc)∧W.cell? ⟨hb,ho+t*2,none⟩=some (.int .i64 l.c)∧W.cell? ⟨hb,ho+t*2+1,none⟩=some (.int .i64 l.n)
theorem pl_at {w:World} {s:Sta} (hs:StaOk w s) {k t:Nat} (hk:k<s.pn) (ht:RgH s t):∃P l pb po hb ho,PlAt w s k t P l pb po hb ho:=by
 obtain⟨P,hP⟩:∃P,s.pools[k]?=some P:=⟨_,List.getElem?_eq_getElem (by rw[hs.pn];exact hk)⟩
 have hm:=List.mem_of_getElem? hP
 have hPk:=hs.held P hm
 have hth:=ht P hm
 obtain⟨l,hl⟩:∃l,P.hs[t]?=some l:=⟨_,List.getElem?_eq_getElem (by rw[hPk.len];exact hth)⟩
 obtain⟨pb,po,ep,hpb,hpc⟩:=hs.pools.get (i:=k) (r:=plc P) (by rw[List.getElem?_map,hP];rfl)
 obtain⟨hb,ho,eh,hhb,hhc⟩:=hPk.cel.get (i:=t) (r:=linc l) (by rw[List.getElem?_map,hl];rfl)
 refine⟨P,l,pb,po,hb,ho,hP,hl,ep,eh,by omega,by omega,hpb,hhb,fun W hW=>⟨?_,?_,?_,?_,?_,?_⟩⟩
 ·exact(hW.cell (p:=⟨pb,po+k*4,none⟩) hpb).trans (hpc 0 _ rfl)
 ·exact(hW.cell (p:=⟨pb,po+k*4+1,none⟩) hpb).trans (hpc 1 _ rfl)
 ·exact(hW.cell (p:=⟨pb,po+k*4+2,none⟩) hpb).trans (hpc 2 _ rfl)
 ·rw[←eh];exact(hW.cell (p:=⟨pb,po+k*4+3,none⟩) hpb).trans (hpc 3 _ rfl)
 ·exact(hW.cell (p:=⟨hb,ho+t*2,none⟩) hhb).trans (hhc 0 _ rfl)
 ·exact(hW.cell (p:=⟨hb,ho+t*2+1,none⟩) hhb).trans (hhc 1 _ rfl)
set_option maxHeartbeats 4000000 in
theorem rjudge_1 (w:World) (s:Sta) (hs:StaOk w s) (hpm:s.pn≤4194304) (hpw:∀p∈s.pools,LinWf (frL p)) (a:Acd) (hok:AcdOk w a) (hrg:JudgeRg s a) (hk1:a.kind=1) :
  Calls Tryz.prog 58 #[.agg #[.int .u64 s.pos,.slice s.pp s.pn s.pc,.slice s.rp s.rn s.rc,.slice s.lp s.ln s.lc,.slice s.gp s.gn s.gc,.slice s.op s.on s.oc],.agg #[.int .i64 a.till,.int .u64 a.num,.int .i64 a.kind,.bool a.sure,.slice a.lines.p a.lines.n a.lines.c,.slice a.guards.p a.guards.n a.guards.c,.slice a.sets.p a.sets.n a.sets.c,.int .i64 a.mg,.slice a.other.p a.other.n a.other.c,.int .i64 a.ra,.int .i64 a.rb,.int .i64 a.rd,.int .i64 a.to,.int .u64 a.gen,.slice a.rights.p a.rights.n a.rights.c]] w fun e w'=>∃T:Tld,e=.returned (.agg T.arr)∧T.d=judgeD s a∧TldOk w' T∧T.far w.heap.size a∧Below w.heap.size w w':=by
 obtain⟨w2,hw2,hJ⟩:=jb_new w s a
 have HW2:=hide hw2
 have HJ:=hide hJ
 have HOk:=hide hok
 obtain⟨t,ht,hth,htg,hto⟩:=hrg.till
 have HSu:=hide (rsure_any w2 s (hs.below hJ.bel) a (hok.below hJ.bel) hrg.act.lwf t ht hth hrg.act.lines)
 have HOt:=hide (rother_any w2 s (hs.below hJ.bel) hpm hpw a (hok.below hJ.bel) hrg.act)
 obtain⟨⟨c0,c1,c2,c3,c4,c5⟩,⟨a0,a1,a2,a3,a4,a5,a6,a7,a8,a9,a10,a11,a12,a13,a14⟩⟩:=hJ.cells
 have e1:(a.kind == 1)=true:=by simp[hk1]
 have e2:(a.kind == 2)=false:=by simp[hk1]
 have e3:(a.kind == 3)=false:=by simp[hk1]
 have e4:(a.kind == 4)=false:=by simp[hk1]
 have HD:Hid (judgeD s a=if a.sure=true then (if s.keeps a.till a.lines.xs then (1,a.lines.xs,[],0) else (3,[],[],0)) else otherD s a):=by show _=_;unfold judgeD;rw[if_pos hk1]
 clear hw2 hJ hs hok hrg hpw hth htg hto ht hk1
 obtain⟨sv,hsv⟩:∃b,a.sure=b:=⟨_,rfl⟩
 have HSv:=hide hsv
 rw[hsv]at a3 HSu HOt
 clear hsv
 cases sv with
 | true =>
  go_enter Tryz.func58,Tryz.ntmps58
  go_upto_region 1 with (fail)
  rw[HW2.out]
  go_wp2_with (first | (go_at_call 82;refine HSu.out.mono ?_;rintro e w6 ⟨T,rfl,hTd,hTk,hFa,hb6⟩;have HJ6:=hide (HJ.out.below hb6);obtain⟨hf1,hf2⟩:=hFa.off HOk.out (w.heap.size+1+1) (by omega) (ac_lt HJ.out.tl);obtain⟨hS,hE,hB,hT⟩:=HJ6.out.store T;have HS:=hide hS;have HE:=hide hE;have HBe:=hide hB;have HT:=hide (hT hTk hf1 hf2);have HTd:=hide hTd;have HFa:=hide (hFa.le (show w.heap.size≤w2.heap.size from HJ.out.bel.size));clear hS hE hB hT hTk hf1 hf2 hTd hFa hb6) | ((with_reducible show wpList _ _ _ (⟨_,.store 137 (.tmp 4) _,_,_,_,_⟩ :: _) _ _);refine Z.lp_store (t:=137) (x:=.tmp 4) (some ⟨w.heap.size+1+1,0,none⟩) (.agg T.arr) rfl rfl HS.out ?_) | fail)
  refine bodyPost_ret (results_cell_row rfl _ _ (w.heap.size+1+1) 137 _ (0,0) _ rfl HE.out Tryz.underlying137 rfl Tryz.sizeT) rfl ?_
  exact⟨T,rfl,by rw[HTd.out,HD.out,if_pos HSv.out],HT.out,HFa.out,HBe.out⟩
 | false =>
  go_enter Tryz.func58,Tryz.ntmps58
  go_upto_region 1 with (fail)
  rw[HW2.out]
  go_wp2_with (first | (go_at_call 83;refine HOt.out.mono ?_;rintro e w6 ⟨T,rfl,hTd,hTk,hFa,hb6⟩;have HJ6:=hide (HJ.out.below hb6);obtain⟨hf1,hf2⟩:=hFa.off HOk.out (w.heap.size+1+1) (by omega) (ac_lt HJ.out.tl);obtain⟨hS,hE,hB,hT⟩:=HJ6.out.store T;have HS:=hide hS;have HE:=hide hE;have HBe:=hide hB;have HT:=hide (hT hTk hf1 hf2);have HTd:=hide hTd;have HFa:=hide (hFa.le (show w.heap.size≤w2.heap.size from HJ.out.bel.size));clear hS hE hB hT hTk hf1 hf2 hTd hFa hb6) | ((with_reducible show wpList _ _ _ (⟨_,.store 137 (.tmp 4) _,_,_,_,_⟩ :: _) _ _);refine Z.lp_store (t:=137) (x:=.tmp 4) (some ⟨w.heap.size+1+1,0,none⟩) (.agg T.arr) rfl rfl HS.out ?_) | fail)
  refine bodyPost_ret (results_cell_row rfl _ _ (w.heap.size+1+1) 137 _ (0,0) _ rfl HE.out Tryz.underlying137 rfl Tryz.sizeT) rfl ?_
  exact⟨T,rfl,by rw[HTd.out,HD.out,if_neg (by rw[HSv.out];simp)],HT.out,HFa.out,HBe.out⟩
end Go.Proofs.YtfbegfapoijbnaaGreat
namespace Go.Proofs.YtfbegfapoijbnaaGreat
open Go.RowKit
open Z (Sli SlOk Acd AcdOk Elt)
set_option maxHeartbeats 4000000 in
theorem rjudge_2 (w:World) (s:Sta) (hs:StaOk w s) (_hpm:s.pn≤4194304) (_hpw:∀p∈s.pools,LinWf (frL p)) (a:Acd) (_hok:AcdOk w a) (hrg:JudgeRg s a) (hk1:a.kind=2) :
  Calls Tryz.prog 58 #[.agg #[.int .u64 s.pos,.slice s.pp s.pn s.pc,.slice s.rp s.rn s.rc,.slice s.lp s.ln s.lc,.slice s.gp s.gn s.gc,.slice s.op s.on s.oc],.agg #[.int .i64 a.till,.int .u64 a.num,.int .i64 a.kind,.bool a.sure,.slice a.lines.p a.lines.n a.lines.c,.slice a.guards.p a.guards.n a.guards.c,.slice a.sets.p a.sets.n a.sets.c,.int .i64 a.mg,.slice a.other.p a.other.n a.other.c,.int .i64 a.ra,.int .i64 a.rb,.int .i64 a.rd,.int .i64 a.to,.int .u64 a.gen,.slice a.rights.p a.rights.n a.rights.c]] w fun e w'=>∃T:Tld,e=.returned (.agg T.arr)∧T.d=judgeD s a∧TldOk w' T∧T.far w.heap.size a∧Below w.heap.size w w':=by
 have e1:(a.kind == 1)=false:=by simp[hk1]
 have e2:(a.kind == 2)=true:=by simp[hk1]
 have e3:(a.kind == 3)=false:=by simp[hk1]
 have e4:(a.kind == 4)=false:=by simp[hk1]
 obtain⟨w2,hw2,hJ⟩:=jb_new w s a
 have HW2:=hide hw2
 have HJ:=hide hJ
 obtain⟨t,ht,hth,-,-⟩:=hrg.till
 obtain⟨⟨k,hka,hkn⟩,hq⟩:=hrg.right (by omega) (by omega)
 simp only at hka hq
 obtain⟨P,l,pb,po,hb,ho,hPA⟩:=pl_at hs hkn hth
 obtain⟨v0,v1⟩:=free_at hPA.at_
 obtain⟨u0,u1⟩:=held_at hPA.at_ hPA.pair
 have HZ:=hide hPA.cells
 have k1:=hPA.kn
 have t1:=hPA.tn
 have k0:(0:Int)≤(k:Int):=by omega
 have t0:(0:Int)≤(t:Int):=by omega
 have HD:Hid (judgeD s a=(4,[],[],min a.rd (min (s.free k a.rb) (wrap64 (18014398509481984 - s.held t k a.rb))))):=by show _=_;unfold judgeD;rw[if_neg (by omega),if_pos hk1,ht,hka]
 obtain⟨rd,hrd⟩:∃r,a.rd=r:=⟨_,rfl⟩
 rw[hrd]at HD
 have HJa:Hid (∀W,Jb w s a W→W.cell? ⟨w.heap.size,1,none⟩=some (.slice (some ⟨pb,po,none⟩) s.pn s.pc)∧W.cell? ⟨w.heap.size+1,0,none⟩=some (.int .i64 t)∧W.cell? ⟨w.heap.size+1,9,none⟩=some (.int .i64 k)∧W.cell? ⟨w.heap.size+1,10,none⟩=some (.int .i64 a.rb)∧W.cell? ⟨w.heap.size+1,11,none⟩=some (.int .i64 rd)∧W.cell? ⟨w.heap.size+1,2,none⟩=some (.int .i64 a.kind)):=fun W hW=>by
  obtain⟨⟨c0,c1,c2,c3,c4,c5⟩,⟨a0,a1,a2,a3,a4,a5,a6,a7,a8,a9,a10,a11,a12,a13,a14⟩⟩:=hW.cells
  rw[hPA.pp]at c1
  rw[ht]at a0
  rw[hka]at a9
  rw[hrd]at a11
  exact⟨c1,a0,a9,a10,a11,a2⟩
 obtain⟨rb,hrb⟩:∃r,a.rb=r:=⟨_,rfl⟩
 rw[hrb]at HD HJa hq
 obtain⟨hl,hhl⟩:∃r,P.hl=r:=⟨_,rfl⟩
 obtain⟨hc,hhc⟩:∃r,P.hc=r:=⟨_,rfl⟩
 obtain⟨pv,hpv⟩:∃r,P.v=r:=⟨_,rfl⟩
 obtain⟨f0,hf0⟩:∃r,P.f0=r:=⟨_,rfl⟩
 obtain⟨f1,hf1⟩:∃r,P.f1=r:=⟨_,rfl⟩
 obtain⟨lc,hlc⟩:∃r,l.c=r:=⟨_,rfl⟩
 obtain⟨ln,hln⟩:∃r,l.n=r:=⟨_,rfl⟩
 rw[hhl,hhc,hpv,hf0,hf1,hlc,hln]at HZ
 rw[hhl]at t1
 rw[hf0]at v0
 rw[hf1]at v1
 rw[hlc]at u0
 rw[hln]at u1
 obtain⟨w3,hw3,hb3,hx3⟩:=box_one w2 #[.int .i64 pv,.int .i64 f0,.int .i64 f1,.slice (some ⟨hb,ho,none⟩) hl hc] 81
 have HW3:=hide hw3
 have HJ3:=hide (hJ.below hb3)
 have HX3:=hide hx3
 obtain⟨c1,a0,a9,a10,a11,a2⟩:=HJa.out w2 hJ
 obtain⟨z0,z1,z2,z3,z4,z5⟩:=HZ.out w2 hJ.bel
 clear hw2 hJ hs _hok hrg _hpw hth ht hka hkn hPA hrd hrb hhl hhc hpv hf0 hf1 hlc hln hw3 hb3 hx3 hk1
 rcases hq with rfl | rfl
 ·rw[v0,u0]at HD
  obtain⟨rm,hrm⟩:∃r,wrap64 (18014398509481984 - lc)=r:=⟨_,rfl⟩
  have hrw:IntKind.i64.wrap (18014398509481984 - lc)=rm:=by rw[←hrm];exact wrap_i64 _
  rw[hrm]at HD
  clear hrm v0 v1 u0 u1
  go_enter Tryz.func58,Tryz.ntmps58
  go_upto_region 1 with (fail)
  rw[HW2.out]
  go_upto_region 8 with (fail)
  rw[HW3.out]
  clear c1 a0 a9 a10 a11 a2 z0 z1 z2 z3 z4 z5
  obtain⟨c1,a0,a9,a10,a11,a2⟩:=HJa.out w3 HJ3.out
  obtain⟨z0,z1,z2,z3,z4,z5⟩:=HZ.out w3 HJ3.out.bel
  have p1:w3.cell? ⟨w2.heap.size,1,none⟩=some (.int .i64 f0):=by rw[cell_of_row _ _ _ _ _ _ HX3.out];rfl
  have p2:w3.cell? ⟨w2.heap.size,2,none⟩=some (.int .i64 f1):=by rw[cell_of_row _ _ _ _ _ _ HX3.out];rfl
  have p3:w3.cell? ⟨w2.heap.size,3,none⟩=some (.slice (some ⟨hb,ho,none⟩) hl hc):=by rw[cell_of_row _ _ _ _ _ _ HX3.out];rfl
  have HJd:Hid (Jb w s a w3.drew):=HJ3.out.below ((Below.refl _ w3).drew)
  by_cases q1:f0<rd
  ·skip
   go_upto_region 11 with (fail)
   go_region_held3 (fun w'=>w'.cell? ⟨w2.heap.size,3,none⟩=some (.slice (some ⟨hb,ho,none⟩) hl hc)∧w'.cell? ⟨w.heap.size+1,0,none⟩=some (.int .i64 t)∧w'.cell? ⟨w.heap.size+1,10,none⟩=some (.int .i64 0)∧w'.cell? ⟨hb,ho+t*2,none⟩=some (.int .i64 lc)) (go_keep) (first | fail)
   by_cases q2:rm<f0
   ·obtain⟨hS,hE,hB,hT⟩:=HJd.out.store (tld0 4 rm)
    have HS:=hide hS
    have HE:=hide hE
    have HBe:=hide hB
    have HT:=hide (hT (tld0_ok _ _ _) (fun h=>absurd rfl h) (fun h=>absurd rfl h))
    clear hS hE hB hT
    go_wp2_with (first | ((with_reducible show wpList _ _ _ (⟨_,.store 137 (.tmp 4) _,_,_,_,_⟩ :: _) _ _);refine Z.lp_store (t:=137) (x:=.tmp 4) (some ⟨w.heap.size+1+1,0,none⟩) (.agg (tld0 4 rm).arr) rfl rfl HS.out ?_) | fail)
    refine bodyPost_ret (results_cell_row rfl _ _ (w.heap.size+1+1) 137 _ (0,0) _ rfl HE.out Tryz.underlying137 rfl Tryz.sizeT) rfl ?_
    exact⟨(tld0 4 rm),rfl,by rw[HD.out];unfold Tld.d tld0;simp only;congr 3;omega,HT.out,tld0_far _ _ _ _,HBe.out⟩
   ·obtain⟨hS,hE,hB,hT⟩:=HJd.out.store (tld0 4 f0)
    have HS:=hide hS
    have HE:=hide hE
    have HBe:=hide hB
    have HT:=hide (hT (tld0_ok _ _ _) (fun h=>absurd rfl h) (fun h=>absurd rfl h))
    clear hS hE hB hT
    go_wp2_with (first | ((with_reducible show wpList _ _ _ (⟨_,.store 137 (.tmp 4) _,_,_,_,_⟩ :: _) _ _);refine Z.lp_store (t:=137) (x:=.tmp 4) (some ⟨w.heap.size+1+1,0,none⟩) (.agg (tld0 4 f0).arr) rfl rfl HS.out ?_) | fail)
    refine bodyPost_ret (results_cell_row rfl _ _ (w.heap.size+1+1) 137 _ (0,0) _ rfl HE.out Tryz.underlying137 rfl Tryz.sizeT) rfl ?_
    exact⟨(tld0 4 f0),rfl,by rw[HD.out];unfold Tld.d tld0;simp only;congr 3;omega,HT.out,tld0_far _ _ _ _,HBe.out⟩
  ·skip
   go_upto_region 11 with (fail)
   go_region_held3 (fun w'=>w'.cell? ⟨w2.heap.size,3,none⟩=some (.slice (some ⟨hb,ho,none⟩) hl hc)∧w'.cell? ⟨w.heap.size+1,0,none⟩=some (.int .i64 t)∧w'.cell? ⟨w.heap.size+1,10,none⟩=some (.int .i64 0)∧w'.cell? ⟨hb,ho+t*2,none⟩=some (.int .i64 lc)) (go_keep) (first | fail)
   by_cases q2:rm<rd
   ·obtain⟨hS,hE,hB,hT⟩:=HJd.out.store (tld0 4 rm)
    have HS:=hide hS
    have HE:=hide hE
    have HBe:=hide hB
    have HT:=hide (hT (tld0_ok _ _ _) (fun h=>absurd rfl h) (fun h=>absurd rfl h))
    clear hS hE hB hT
    go_wp2_with (first | ((with_reducible show wpList _ _ _ (⟨_,.store 137 (.tmp 4) _,_,_,_,_⟩ :: _) _ _);refine Z.lp_store (t:=137) (x:=.tmp 4) (some ⟨w.heap.size+1+1,0,none⟩) (.agg (tld0 4 rm).arr) rfl rfl HS.out ?_) | fail)
    refine bodyPost_ret (results_cell_row rfl _ _ (w.heap.size+1+1) 137 _ (0,0) _ rfl HE.out Tryz.underlying137 rfl Tryz.sizeT) rfl ?_
    exact⟨(tld0 4 rm),rfl,by rw[HD.out];unfold Tld.d tld0;simp only;congr 3;omega,HT.out,tld0_far _ _ _ _,HBe.out⟩
   ·obtain⟨hS,hE,hB,hT⟩:=HJd.out.store (tld0 4 rd)
    have HS:=hide hS
    have HE:=hide hE
    have HBe:=hide hB
    have HT:=hide (hT (tld0_ok _ _ _) (fun h=>absurd rfl h) (fun h=>absurd rfl h))
    clear hS hE hB hT
    go_wp2_with (first | ((with_reducible show wpList _ _ _ (⟨_,.store 137 (.tmp 4) _,_,_,_,_⟩ :: _) _ _);refine Z.lp_store (t:=137) (x:=.tmp 4) (some ⟨w.heap.size+1+1,0,none⟩) (.agg (tld0 4 rd).arr) rfl rfl HS.out ?_) | fail)
    refine bodyPost_ret (results_cell_row rfl _ _ (w.heap.size+1+1) 137 _ (0,0) _ rfl HE.out Tryz.underlying137 rfl Tryz.sizeT) rfl ?_
    exact⟨(tld0 4 rd),rfl,by rw[HD.out];unfold Tld.d tld0;simp only;congr 3;omega,HT.out,tld0_far _ _ _ _,HBe.out⟩
 ·rw[v1,u1]at HD
  obtain⟨rm,hrm⟩:∃r,wrap64 (18014398509481984 - ln)=r:=⟨_,rfl⟩
  have hrw:IntKind.i64.wrap (18014398509481984 - ln)=rm:=by rw[←hrm];exact wrap_i64 _
  rw[hrm]at HD
  clear hrm v0 v1 u0 u1
  go_enter Tryz.func58,Tryz.ntmps58
  go_upto_region 1 with (fail)
  rw[HW2.out]
  go_upto_region 8 with (fail)
  rw[HW3.out]
  clear c1 a0 a9 a10 a11 a2 z0 z1 z2 z3 z4 z5
  obtain⟨c1,a0,a9,a10,a11,a2⟩:=HJa.out w3 HJ3.out
  obtain⟨z0,z1,z2,z3,z4,z5⟩:=HZ.out w3 HJ3.out.bel
  have p1:w3.cell? ⟨w2.heap.size,1,none⟩=some (.int .i64 f0):=by rw[cell_of_row _ _ _ _ _ _ HX3.out];rfl
  have p2:w3.cell? ⟨w2.heap.size,2,none⟩=some (.int .i64 f1):=by rw[cell_of_row _ _ _ _ _ _ HX3.out];rfl
  have p3:w3.cell? ⟨w2.heap.size,3,none⟩=some (.slice (some ⟨hb,ho,none⟩) hl hc):=by rw[cell_of_row _ _ _ _ _ _ HX3.out];rfl
  have HJd:Hid (Jb w s a w3.drew):=HJ3.out.below ((Below.refl _ w3).drew)
  by_cases q1:f1<rd
  ·skip
   go_upto_region 11 with (fail)
   go_region_held3 (fun w'=>w'.cell? ⟨w2.heap.size,3,none⟩=some (.slice (some ⟨hb,ho,none⟩) hl hc)∧w'.cell? ⟨w.heap.size+1,0,none⟩=some (.int .i64 t)∧w'.cell? ⟨w.heap.size+1,10,none⟩=some (.int .i64 1)∧w'.cell? ⟨hb,ho+t*2+1,none⟩=some (.int .i64 ln)) (go_keep) (first | fail)
   by_cases q2:rm<f1
   ·obtain⟨hS,hE,hB,hT⟩:=HJd.out.store (tld0 4 rm)
    have HS:=hide hS
    have HE:=hide hE
    have HBe:=hide hB
    have HT:=hide (hT (tld0_ok _ _ _) (fun h=>absurd rfl h) (fun h=>absurd rfl h))
    clear hS hE hB hT
    go_wp2_with (first | ((with_reducible show wpList _ _ _ (⟨_,.store 137 (.tmp 4) _,_,_,_,_⟩ :: _) _ _);refine Z.lp_store (t:=137) (x:=.tmp 4) (some ⟨w.heap.size+1+1,0,none⟩) (.agg (tld0 4 rm).arr) rfl rfl HS.out ?_) | fail)
    refine bodyPost_ret (results_cell_row rfl _ _ (w.heap.size+1+1) 137 _ (0,0) _ rfl HE.out Tryz.underlying137 rfl Tryz.sizeT) rfl ?_
    exact⟨(tld0 4 rm),rfl,by rw[HD.out];unfold Tld.d tld0;simp only;congr 3;omega,HT.out,tld0_far _ _ _ _,HBe.out⟩
   ·obtain⟨hS,hE,hB,hT⟩:=HJd.out.store (tld0 4 f1)
    have HS:=hide hS
    have HE:=hide hE
    have HBe:=hide hB
    have HT:=hide (hT (tld0_ok _ _ _) (fun h=>absurd rfl h) (fun h=>absurd rfl h))
    clear hS hE hB hT
    go_wp2_with (first | ((with_reducible show wpList _ _ _ (⟨_,.store 137 (.tmp 4) _,_,_,_,_⟩ :: _) _ _);refine Z.lp_store (t:=137) (x:=.tmp 4) (some ⟨w.heap.size+1+1,0,none⟩) (.agg (tld0 4 f1).arr) rfl rfl HS.out ?_) | fail)
    refine bodyPost_ret (results_cell_row rfl _ _ (w.heap.size+1+1) 137 _ (0,0) _ rfl HE.out Tryz.underlying137 rfl Tryz.sizeT) rfl ?_
    exact⟨(tld0 4 f1),rfl,by rw[HD.out];unfold Tld.d tld0;simp only;congr 3;omega,HT.out,tld0_far _ _ _ _,HBe.out⟩
  ·skip
   go_upto_region 11 with (fail)
   go_region_held3 (fun w'=>w'.cell? ⟨w2.heap.size,3,none⟩=some (.slice (some ⟨hb,ho,none⟩) hl hc)∧w'.cell? ⟨w.heap.size+1,0,none⟩=some (.int .i64 t)∧w'.cell? ⟨w.heap.size+1,10,none⟩=some (.int .i64 1)∧w'.cell? ⟨hb,ho+t*2+1,none⟩=some (.int .i64 ln)) (go_keep) (first | fail)
   by_cases q2:rm<rd
   ·obtain⟨hS,hE,hB,hT⟩:=HJd.out.store (tld0 4 rm)
    have HS:=hide hS
    have HE:=hide hE
    have HBe:=hide hB
    have HT:=hide (hT (tld0_ok _ _ _) (fun h=>absurd rfl h) (fun h=>absurd rfl h))
    clear hS hE hB hT
    go_wp2_with (first | ((with_reducible show wpList _ _ _ (⟨_,.store 137 (.tmp 4) _,_,_,_,_⟩ :: _) _ _);refine Z.lp_store (t:=137) (x:=.tmp 4) (some ⟨w.heap.size+1+1,0,none⟩) (.agg (tld0 4 rm).arr) rfl rfl HS.out ?_) | fail)
    refine bodyPost_ret (results_cell_row rfl _ _ (w.heap.size+1+1) 137 _ (0,0) _ rfl HE.out Tryz.underlying137 rfl Tryz.sizeT) rfl ?_
    exact⟨(tld0 4 rm),rfl,by rw[HD.out];unfold Tld.d tld0;simp only;congr 3;omega,HT.out,tld0_far _ _ _ _,HBe.out⟩
   ·obtain⟨hS,hE,hB,hT⟩:=HJd.out.store (tld0 4 rd)
    have HS:=hide hS
    have HE:=hide hE
    have HBe:=hide hB
    have HT:=hide (hT (tld0_ok _ _ _) (fun h=>absurd rfl h) (fun h=>absurd rfl h))
    clear hS hE hB hT
    go_wp2_with (first | ((with_reducible show wpList _ _ _ (⟨_,.store 137 (.tmp 4) _,_,_,_,_⟩ :: _) _ _);refine Z.lp_store (t:=137) (x:=.tmp 4) (some ⟨w.heap.size+1+1,0,none⟩) (.agg (tld0 4 rd).arr) rfl rfl HS.out ?_) | fail)
    refine bodyPost_ret (results_cell_row rfl _ _ (w.heap.size+1+1) 137 _ (0,0) _ rfl HE.out Tryz.underlying137 rfl Tryz.sizeT) rfl ?_
    exact⟨(tld0 4 rd),rfl,by rw[HD.out];unfold Tld.d tld0;simp only;congr 3;omega,HT.out,tld0_far _ _ _ _,HBe.out⟩
end Go.Proofs.YtfbegfapoijbnaaGreat
namespace Go.Proofs.YtfbegfapoijbnaaGreat
open Go.RowKit
open Z (Sli SlOk Elt CpS)
structure Cst (w wr:World) (s:Sta) (A Y X:Array Value) (p:Option Addr) (n cc j:Nat) (R:List Pl):Prop where
 cps:CpS w wr 45 A Y X
 len:R.length=n
 row:wr.ownsRow (w.heap.size+1+1+1) 81 4 (.slice p n cc) n (Z.flat plc R)
 same:R.map Pl.d=s.pools.map Pl.d
 rest:∀i,j≤i→R[i]?=s.pools[i]?
 held:∀(i:Nat) (x:Pl),i<j→R[i]?=some x→wr.ownsRow (w.heap.size+1+1+1) 78 2 x.hv x.hl (Z.flat linc x.hs)∧x.hs.length=x.hl
 apart:∀(i k:Nat) (x y:Pl),i<j→k<j→i≠k→R[i]?=some x→R[k]?=some y→∀g,x.hv.ownBlock=some g→y.hv.ownBlock≠some g
theorem map_set_d {R:List Pl} {j:Nat} {x y:Pl} (hx:R[j]?=some x) (hd:y.d=x.d):(R.set j y).map Pl.d=R.map Pl.d:=by
 apply List.ext_getElem?
 intro i
 rw[List.getElem?_map,List.getElem?_map,List.getElem?_set]
 by_cases h:j=i
 ·subst h
  have hl:=(List.getElem?_eq_some_iff.1 hx).1
  rw[if_pos rfl,if_pos hl,hx]
  simp[hd]
 ·rw[if_neg h]
theorem Cst.step {w wr w4:World} {s:Sta} {A Y X:Array Value} {g n cc j:Nat} {R:List Pl} {P:Pl} (h:Cst w wr s A Y X (some ⟨g,0,none⟩) n cc j R) (hP:R[j]?=some P) (hb:Below wr.heap.size wr w4) (q:Option Addr) (d:Nat) (hq:w4.ownsRow wr.heap.size 78 2 (.slice q P.hl d) P.hl (Z.flat linc P.hs)) (hl:P.hs.length=P.hl) :
  (∃u,w4.cell? ⟨g,j*4+3,none⟩=some u)∧w4.frozen? ⟨g,j*4+3,none⟩=false∧Cst w (w4.setCell ⟨g,j*4+3,none⟩ (.slice q P.hl d)) s A Y X (some ⟨g,0,none⟩) n cc (j+1) (R.set j ⟨P.v,P.f0,P.f1,q,P.hl,d,P.hs⟩):=by
 have hr4:=Z.owns_keep h.row hb
 have hjl:=(List.getElem?_eq_some_iff.1 hP).1
 obtain⟨g',e,hgl,hc⟩:=row_cell hr4 (flat_get (f:=plc) (sz:=4) (fun _=>rfl) R j 3 P _ hP rfl)
 cases e
 have hgB:w.heap.size+1+1+1≤g:=Z.owns_base hr4 g rfl
 obtain⟨cur,hcur⟩:∃cur,w4.heap[g]?=some (.cells cur 81 (0,0)):=by
  rcases hr4.2 with ⟨h1,_⟩ | ⟨g',cap,cur,h1,_,hg',_⟩
  ·cases h1
  ·cases h1;exact⟨cur,hg'⟩
 have hoth:∀k,k≠g→(w4.setCell ⟨g,j*4+3,none⟩ (.slice q P.hl d)).heap[k]?=w4.heap[k]?:=fun k hk=>Below.heap_setCell _ _ _ _ hk
 have hkeep:∀{B sz m:Nat} {v:Value} {xs:List Value},w4.ownsRow B 78 sz v m xs→(w4.setCell ⟨g,j*4+3,none⟩ (.slice q P.hl d)).ownsRow B 78 sz v m xs:=fun hv=>RB.owns_kept' hv (fun k e=>hoth k (fun e'=>Z.owns_ne hv hcur (by decide) (by rw[e,e'])))
 have hnew:∀k,(Value.slice q P.hl d).ownBlock=some k→wr.heap.size≤k:=fun k e=>Z.owns_base hq k e
 have hold:∀(i:Nat) (x:Pl),i<j→R[i]?=some x→∀k,x.hv.ownBlock=some k→k<wr.heap.size:=fun i x hi hx k e=>RB.owns_lt (h.held i x hi hx).1 k e
 refine⟨⟨_,hc⟩,frozen_of_row _ _ _ _ _ hcur,⟨⟨(hoth _ (by omega)).trans ((hb.block _ (ac_lt h.cps.a)).trans h.cps.a),(hoth _ (by omega)).trans ((hb.block _ (ac_lt h.cps.z)).trans h.cps.z),(hoth _ (by omega)).trans ((hb.block _ (ac_lt h.cps.x)).trans h.cps.x),(h.cps.bel.trans (hb.mono h.cps.bel.size)).setCell (p:=⟨g,j*4+3,none⟩) (by show w.heap.size≤g;omega) _⟩,by rw[List.length_set];exact h.len,?_,?_,?_,?_,?_⟩⟩
 ·have h1:=owns_setg (k:=j*4+3) hr4 (.slice q P.hl d)
  rw[flat_set (f:=plc) (sz:=4) (fun _=>rfl) R j 3 P ⟨P.v,P.f0,P.f1,q,P.hl,d,P.hs⟩ (.slice q P.hl d) hP (by omega) rfl]at h1
  exact h1
 ·rw[map_set_d (y:=⟨P.v,P.f0,P.f1,q,P.hl,d,P.hs⟩) hP rfl];exact h.same
 ·intro i hi
  rw[List.getElem?_set_ne (by omega)]
  exact h.rest i (by omega)
 ·intro i x hi hx
  rcases Nat.lt_or_ge i j with hij | hij
  ·rw[List.getElem?_set_ne (by omega)]at hx
   exact⟨hkeep (Z.owns_keep (h.held i x hij hx).1 hb),(h.held i x hij hx).2⟩
  ·obtain rfl:i=j:=by omega
   rw[List.getElem?_set_self hjl]at hx
   cases hx
   exact⟨hkeep (Z.owns_le hq (by have:=hb.size;have:=ac_lt h.cps.x;omega)),hl⟩
 ·intro i k x y hi hk hik hx hy g' e1 e2
  rcases Nat.lt_or_ge i j with hij | hij
  ·rw[List.getElem?_set_ne (by omega)]at hx
   rcases Nat.lt_or_ge k j with hkj | hkj
   ·rw[List.getElem?_set_ne (by omega)]at hy
    exact h.apart i k x y hij hkj hik hx hy g' e1 e2
   ·obtain rfl:k=j:=by omega
    rw[List.getElem?_set_self hjl]at hy
    cases hy
    have:=hold i x hij hx g' e1
    have:=hnew g' e2
    omega
  ·obtain rfl:i=j:=by omega
   rw[List.getElem?_set_self hjl]at hx
   cases hx
   rw[List.getElem?_set_ne (by omega)]at hy
   have:=hold k y (by omega) hy g' e2
   have:=hnew g' e1
   omega
end Go.Proofs.YtfbegfapoijbnaaGreat
namespace Go.Proofs.YtfbegfapoijbnaaGreat
open Go.RowKit
open Z (Sli SlOk Elt CpS)
theorem cp_seg2 {α:Type} {f:α→List Value} {sz by_:Nat} {t e ty:TypeId} (E:Elt f sz by_ t e) {w wr:World} {A Y X:Array Value} (h:CpS w wr ty A Y X) (hte:ty≠e) (s:Sli α) (hs:SlOk w sz f s) (i:Nat) (hi:i<X.size) (tt:TypeId) :
  ∃(c:Sli α) (w4:World),(Builtin.append_ #[t,t] tt #[.slice (some ⟨wr.heap.size,0,none⟩) 0 0,.slice s.p s.n s.c]).run Tryz.prog (wr.alloc (.cells #[] e))=.ok (.slice c.p c.n c.c) w4∧c.xs=s.xs ∧
   (∃u,w4.cell? ⟨w.heap.size+1+1,i,none⟩=some u)∧w4.frozen? ⟨w.heap.size+1+1,i,none⟩=false ∧
   CpS w (w4.setCell ⟨w.heap.size+1+1,i,none⟩ (.slice c.p c.n c.c)) ty A Y (X.setIfInBounds i (.slice c.p c.n c.c)) ∧
   Z.SlOwn (w.heap.size+1+1+1) (w4.setCell ⟨w.heap.size+1+1,i,none⟩ (.slice c.p c.n c.c)) e sz f c ∧
   (∀B e' sz' v n xs,w.heap.size+1+1+1≤B→wr.ownsRow B e' sz' v n xs→(w4.setCell ⟨w.heap.size+1+1,i,none⟩ (.slice c.p c.n c.c)).ownsRow B e' sz' v n xs)∧(∀g,(Value.slice c.p c.n c.c).ownBlock=some g→wr.heap.size≤g)∧wr.heap.size≤w4.heap.size:=by
 have hlt:=Z.cp_lt h
 have hal:Below wr.heap.size wr (wr.alloc (.cells #[] e)):=(Below.refl _ wr).alloc (Nat.le_refl _) _
 have hrow:(wr.alloc (.cells #[] e)).ownsRow wr.heap.size e sz (.slice (some ⟨wr.heap.size,0,none⟩) 0 0) 0 []:=⟨by simp,.inr ⟨wr.heap.size,0,#[],rfl,Nat.le_refl _,heap_alloc_new _ _,Nat.le_refl _,by unfold maxLen;omega,by simp,by simp⟩⟩
 have hcel:Cel (wr.alloc (.cells #[] e)) s.p sz (s.xs.map f):=hs.cel.below (h.bel.trans (hal.mono h.bel.size))
 have hm:=hs.most
 obtain⟨v',w4,hr,ho,hg,_⟩:=E.run_append (wr.alloc (.cells #[] e)) tt wr.heap.size 0 (.slice (some ⟨wr.heap.size,0,none⟩) 0 0) [] hrow s.p s.n s.c s.xs hs.len hcel (by omega) (by simp)
 rw[Nat.zero_add,List.nil_append]at ho
 obtain⟨p,c,rfl,_⟩:=Z.slice_form ho
 have hg':Below wr.heap.size wr w4:=hal.grown hg (by simp) (fun k e=>by cases e;exact Nat.le_refl _)
 have ha4:w4.heap[w.heap.size]?=some (.cells A ty (0,0)):=(hg'.block _ (by omega)).trans h.a
 have hz4:w4.heap[w.heap.size+1]?=some (.cells Y ty (0,0)):=(hg'.block _ (by omega)).trans h.z
 have hx4:w4.heap[w.heap.size+1+1]?=some (.cells X ty (0,0)):=(hg'.block _ (by omega)).trans h.x
 refine⟨⟨p,s.n,c,s.xs⟩,w4,hr,rfl,⟨X[i],?_⟩,frozen_of_row _ _ _ _ _ hx4,⟨?_,?_,heap_setCell_same _ _ _ _ _ _ hx4,?_⟩,⟨?_,hs.len,hs.most⟩,?_,fun g e=>Z.owns_base ho g e,hg'.size⟩
 ·rw[cell_of_row _ _ _ _ _ _ hx4];exact Array.getElem?_eq_getElem hi
 ·rw[heap_setCell_other _ _ _ _ (by show w.heap.size≠w.heap.size+1+1;omega)];exact ha4
 ·rw[heap_setCell_other _ _ _ _ (by show w.heap.size+1≠w.heap.size+1+1;omega)];exact hz4
 ·exact(h.bel.trans (hg'.mono h.bel.size)).setCell (p:=⟨w.heap.size+1+1,i,none⟩) (by show w.heap.size≤w.heap.size+1+1;omega) _
 ·exact Z.owns_set (Z.owns_le ho (by omega)) hx4 hte
 ·intro B e' sz' v n xs hB hown
  exact Z.owns_low_set (Z.owns_keep hown hg') (by omega)
theorem Tryz.sizeS:(Tryz.prog.info? 45).map (·.size)=some 6:=by kernel_rfl
set_option maxHeartbeats 4000000 in
theorem copyState_any (w:World) (s:Sta) (hs:StaOk w s) (hsm:StSm s) :
  Calls Tryz.prog 55 #[.agg #[.int .u64 s.pos,.slice s.pp s.pn s.pc,.slice s.rp s.rn s.rc,.slice s.lp s.ln s.lc,.slice s.gp s.gn s.gc,.slice s.op s.on s.oc]] w fun e w'=>∃r:Sta,e=.returned (.agg r.arr)∧r.d=s.d∧StaOw w.heap.size w' r∧Below w.heap.size w w':=by
 obtain⟨w3,hw3,hC0⟩:=on_boxes w 45 #[.int .u64 s.pos,.slice s.pp s.pn s.pc,.slice s.rp s.rn s.rc,.slice s.lp s.ln s.lc,.slice s.gp s.gn s.gc,.slice s.op s.on s.oc] #[.int .u64 0,.slice none 0 0,.slice none 0 0,.slice none 0 0,.slice none 0 0,.slice none 0 0] #[.int .u64 s.pos,.slice s.pp s.pn s.pc,.slice s.rp s.rn s.rc,.slice s.lp s.ln s.lc,.slice s.gp s.gn s.gc,.slice s.op s.on s.oc]
 have HW3:=hide hw3
 have HS:=hide hs
 have HSm:=hide hsm
 obtain⟨⟨cp,cn,ccap,cxs⟩,v0,hr0,hx0,⟨u0,hu0⟩,hf0,hC1,ho0,hk0,hn0,hz0⟩:=cp_seg2 elt_pool hC0 (by decide) ⟨s.pp,s.pn,s.pc,s.pools⟩ ⟨hs.pn,hsm.pn,hs.pools⟩ 1 (by simp) 40
 simp only at hx0 hr0 hC1 ho0 hk0 hn0 hu0 hf0
 subst hx0
 have hcn:cn=s.pn:=by have:=ho0.2.1;simp only at this;rw[←this];exact hs.pn
 subst hcn
 obtain⟨w4,hw4⟩:∃w',v0.setCell ⟨w.heap.size+1+1,1,none⟩ (.slice cp s.pn ccap)=w':=⟨_,rfl⟩
 rw[hw4]at hC1 ho0 hk0
 have HI:Hid (Cst w w4 s #[.int .u64 s.pos,.slice s.pp s.pn s.pc,.slice s.rp s.rn s.rc,.slice s.lp s.ln s.lc,.slice s.gp s.gn s.gc,.slice s.op s.on s.oc] #[.int .u64 0,.slice none 0 0,.slice none 0 0,.slice none 0 0,.slice none 0 0,.slice none 0 0] #[.int .u64 s.pos,.slice cp s.pn ccap,.slice s.rp s.rn s.rc,.slice s.lp s.ln s.lc,.slice s.gp s.gn s.gc,.slice s.op s.on s.oc] cp s.pn ccap 0 s.pools):=⟨hC1,hs.pn,ho0.1,rfl,fun _ _=>rfl,fun i x h=>by omega,fun i k x y h=>by omega⟩
 have HR0:=hide hr0
 have HW4:=hide hw4
 have d0:(w3.alloc (.cells #[] 81)).cell? ⟨w.heap.size,1,none⟩=some (.slice s.pp s.pn s.pc):=by rw[World.cell?_of_block (w:=w3) (Below.heap_alloc _ _ _ (ac_lt hC0.a)),cell_of_row _ _ _ _ _ _ hC0.a];rfl
 have hA1:((w.alloc (.cells #[.int .u64 s.pos,.slice s.pp s.pn s.pc,.slice s.rp s.rn s.rc,.slice s.lp s.ln s.lc,.slice s.gp s.gn s.gc,.slice s.op s.on s.oc] 45)).alloc (.cells #[.int .u64 0,.slice none 0 0,.slice none 0 0,.slice none 0 0,.slice none 0 0,.slice none 0 0] 45)).heap[w.heap.size]?=some (.cells #[.int .u64 s.pos,.slice s.pp s.pn s.pc,.slice s.rp s.rn s.rc,.slice s.lp s.ln s.lc,.slice s.gp s.gn s.gc,.slice s.op s.on s.oc] 45 (0,0)):=by rw[Below.heap_alloc _ _ _ (by simp)];exact heap_alloc_new _ _
 obtain⟨b0,b1,b2,b3,b4,b5⟩:=ac6 hA1
 have hpm:=hsm.pn
 clear hw3 hs hsm hC0 hr0 hC1 ho0 hk0 hn0 hz0 hw4 hA1
 go_enter Tryz.func55,Tryz.ntmps55
 go_upto_region 2 with (fail)
 rw[HW3.out]
 clear b0 b1 b2 b3 b4 b5
 go_upto_region 3 with (at_builtin;refine Z.lp_append (.slice (some ⟨w3.heap.size,0,none⟩) 0 0) (.slice s.pp s.pn s.pc) rfl rfl ⟨_,v0,HR0.out,?_⟩)
 rw[HW4.out]
 clear hu0 hf0 d0 HR0 HW4
 go_wp2_with fail
 go_loopw [4] (fun i wr=>∃(j:Nat) (R:List Pl),j≤s.pn∧i=.int .i64 j∧Hid (Cst w wr s #[.int .u64 s.pos,.slice s.pp s.pn s.pc,.slice s.rp s.rn s.rc,.slice s.lp s.ln s.lc,.slice s.gp s.gn s.gc,.slice s.op s.on s.oc] #[.int .u64 0,.slice none 0 0,.slice none 0 0,.slice none 0 0,.slice none 0 0,.slice none 0 0] #[.int .u64 s.pos,.slice cp s.pn ccap,.slice s.rp s.rn s.rc,.slice s.lp s.ln s.lc,.slice s.gp s.gn s.gc,.slice s.op s.on s.oc] cp s.pn ccap j R)) (fun i _=>s.pn - (intOf i).toNat)
 case atStart=>exact⟨0,s.pools,Nat.zero_le _,rfl,HI⟩
 case round =>
  clear HI
  obtain⟨j,R,hj,rfl,HI⟩:=hrel
  obtain⟨-,x1,-,-,-,-⟩:=ac6 HI.out.cps.x
  obtain⟨-,a1,-,-,-,-⟩:=ac6 HI.out.cps.a
  by_cases hlt:j<s.pn
  ·have hlt':(j:Int)<(s.pn:Int):=by omega
   have j0':(0:Int)≤(j:Int):=by omega
   have hPs:=HI.out.rest j (Nat.le_refl _)
   obtain⟨P,hP⟩:∃P,s.pools[j]?=some P:=⟨_,List.getElem?_eq_getElem (by rw[HS.out.pn];exact hlt)⟩
   rw[hP]at hPs
   have hPm:=List.mem_of_getElem? hP
   have hOk:=HS.out.below HI.out.cps.bel
   obtain⟨pb,po,ep,hpb0,hpc⟩:=HS.out.pools.get (i:=j) (r:=plc P) (by rw[List.getElem?_map,hP];rfl)
   have b3:=(HI.out.cps.bel.cell (p:=⟨pb,po+j*4+3,none⟩) hpb0).trans (hpc 3 _ rfl)
   have hpb:pb<wr.heap.size:=Nat.lt_of_lt_of_le hpb0 HI.out.cps.bel.size
   rw[ep]at a1
   obtain⟨g,eg,hgl,hgc⟩:=row_cell HI.out.row (flat_get (f:=plc) (sz:=4) (fun _=>rfl) R j 3 P _ hPs rfl)
   subst eg
   have hrow:(wr.alloc (.cells #[] 78)).drew.ownsRow wr.heap.size 78 2 (.slice (some ⟨wr.heap.size,0,none⟩) 0 0) 0 []:=⟨by simp,.inr ⟨wr.heap.size,0,#[],rfl,Nat.le_refl _,heap_alloc_new _ _,Nat.le_refl _,by unfold maxLen;omega,by simp,by simp⟩⟩
   have hbA:Below wr.heap.size wr (wr.alloc (.cells #[] 78)).drew:=((Below.refl _ wr).alloc (Nat.le_refl _) _).drew
   have hPo:=hOk.held P hPm
   have hPl:=HSm.out.hl P hPm
   obtain⟨v',w5,hr,ho,hg,_⟩:=elt_two.run_append (wr.alloc (.cells #[] 78)).drew 79 wr.heap.size 0 (.slice (some ⟨wr.heap.size,0,none⟩) 0 0) [] hrow P.hp P.hl P.hc P.hs hPo.len (hPo.cel.below hbA) (by omega) hbA.size
   rw[Nat.zero_add,List.nil_append]at ho
   obtain⟨q,d,rfl,_⟩:=Z.slice_form ho
   have hb5:Below wr.heap.size wr w5:=hbA.grown hg hbA.size (fun k e=>by cases e;exact Nat.le_refl _)
   obtain⟨⟨u,hu⟩,hfz,hst⟩:=HI.out.step hPs hb5 q d ho hPo.len
   have HR:=hide hr
   have HSt:=hide hst
   have z1:=(hb5.cell (p:=⟨w.heap.size+1+1,1,none⟩) (ac_lt HI.out.cps.x)).trans x1
   have z2:=(hb5.cell (p:=⟨w.heap.size,1,none⟩) (ac_lt HI.out.cps.a)).trans a1
   have z3:=(hb5.cell (p:=⟨pb,po+j*4+3,none⟩) hpb).trans b3
   have n1:=World.new_ne wr _ x1
   have n2:=World.new_ne wr _ a1
   have n3:=World.new_ne wr _ b3
   have hgx:g≠w.heap.size+1+1:=by have:=Z.owns_base HI.out.row g rfl;omega
   have hgp:g≠pb:=by have:=Z.owns_base HI.out.row g rfl;omega
   have hgp':pb≠g:=fun e=>hgp e.symm
   have hga:g≠w.heap.size:=by have:=Z.owns_base HI.out.row g rfl;omega
   obtain⟨pn,hpn⟩:∃pn,s.pn=pn:=⟨_,rfl⟩
   clear hpc hP hPs hPm hOk hPo hr hst ho hg hrow hbA ep hgc hpn pn
   go_upto_region 6 with (fail)
   go_region_held3 (fun w'=>w'.cell? ⟨w.heap.size+1+1,1,none⟩=some (.slice (some ⟨g,0,none⟩) s.pn ccap)∧w'.cell? ⟨w.heap.size,1,none⟩=some (.slice (some ⟨pb,po,none⟩) s.pn s.pc)∧w'.cell? ⟨pb,po+j*4+3,none⟩=some (.slice P.hp P.hl P.hc)) (go_keep) (first | (refine wp_app_run (.tmp 21) (.tmp 27) 79 79 (by rfl) (.slice (some ⟨wr.heap.size,0,none⟩) 0 0) (.slice P.hp P.hl P.hc) (.slice q P.hl d) w5 (by rfl) (by rfl) HR.out ?_) | fail)
   go_wp2
   go_roundw
   case rel=>exact⟨j+1,_,by omega,by go_num,HSt⟩
   case measure=>simp[intOf];omega
  ·have hlt':¬(j:Int)<(s.pn:Int):=by omega
   obtain rfl:j=s.pn:=by omega
   have hOk:=HS.out
   have hsm:=HSm.out
   obtain⟨⟨p1,m1,e1,l1⟩,v1,hr1,hx1,⟨u1,hu1⟩,hf1,hD1,ho1,hk1,hn1,hz1⟩:=cp_seg2 elt_priced HI.out.cps (by decide) ⟨s.rp,s.rn,s.rc,s.prices⟩ ⟨hOk.rn,hsm.rn,hOk.prices⟩ 2 (by simp) 41
   simp only at hx1 hr1 hD1 ho1 hk1 hn1 hu1 hf1
   subst hx1
   obtain⟨y1,hy1⟩:∃w',v1.setCell ⟨w.heap.size+1+1,2,none⟩ (.slice p1 m1 e1)=w':=⟨_,rfl⟩
   rw[hy1]at hD1 ho1 hk1
   have t1:(wr.alloc (.cells #[] 83)).cell? ⟨w.heap.size,2,none⟩=some (.slice s.rp s.rn s.rc):=by rw[World.cell?_of_block (w:=wr) (Below.heap_alloc _ _ _ (ac_lt (HI.out.cps).a)),cell_of_row _ _ _ _ _ _ (HI.out.cps).a];rfl
   obtain⟨⟨p2,m2,e2,l2⟩,v2,hr2,hx2,⟨u2,hu2⟩,hf2,hD2,ho2,hk2,hn2,hz2⟩:=cp_seg2 elt_u64 hD1 (by decide) ⟨s.lp,s.ln,s.lc,s.last⟩ ⟨hOk.ln,hsm.ln,hOk.last⟩ 3 (by simp) 42
   simp only at hx2 hr2 hD2 ho2 hk2 hn2 hu2 hf2
   subst hx2
   obtain⟨y2,hy2⟩:∃w',v2.setCell ⟨w.heap.size+1+1,3,none⟩ (.slice p2 m2 e2)=w':=⟨_,rfl⟩
   rw[hy2]at hD2 ho2 hk2
   have t2:(y1.alloc (.cells #[] 39)).cell? ⟨w.heap.size,3,none⟩=some (.slice s.lp s.ln s.lc):=by rw[World.cell?_of_block (w:=y1) (Below.heap_alloc _ _ _ (ac_lt (hD1).a)),cell_of_row _ _ _ _ _ _ (hD1).a];rfl
   obtain⟨⟨p3,m3,e3,l3⟩,v3,hr3,hx3,⟨u3,hu3⟩,hf3,hD3,ho3,hk3,hn3,hz3⟩:=cp_seg2 elt_u64 hD2 (by decide) ⟨s.gp,s.gn,s.gc,s.gen⟩ ⟨hOk.gn,hsm.gn,hOk.gen⟩ 4 (by simp) 42
   simp only at hx3 hr3 hD3 ho3 hk3 hn3 hu3 hf3
   subst hx3
   obtain⟨y3,hy3⟩:∃w',v3.setCell ⟨w.heap.size+1+1,4,none⟩ (.slice p3 m3 e3)=w':=⟨_,rfl⟩
   rw[hy3]at hD3 ho3 hk3
   have t3:(y2.alloc (.cells #[] 39)).cell? ⟨w.heap.size,4,none⟩=some (.slice s.gp s.gn s.gc):=by rw[World.cell?_of_block (w:=y2) (Below.heap_alloc _ _ _ (ac_lt (hD2).a)),cell_of_row _ _ _ _ _ _ (hD2).a];rfl
   obtain⟨⟨p4,m4,e4,l4⟩,v4,hr4,hx4,⟨u4,hu4⟩,hf4,hD4,ho4,hk4,hn4,hz4⟩:=cp_seg2 elt_flag hD3 (by decide) ⟨s.op,s.on,s.oc,s.owed⟩ ⟨hOk.on,hsm.on,hOk.owed⟩ 5 (by simp) 43
   simp only at hx4 hr4 hD4 ho4 hk4 hn4 hu4 hf4
   subst hx4
   obtain⟨y4,hy4⟩:∃w',v4.setCell ⟨w.heap.size+1+1,5,none⟩ (.slice p4 m4 e4)=w':=⟨_,rfl⟩
   rw[hy4]at hD4 ho4 hk4
   have t4:(y3.alloc (.cells #[] 4)).cell? ⟨w.heap.size,5,none⟩=some (.slice s.op s.on s.oc):=by rw[World.cell?_of_block (w:=y3) (Below.heap_alloc _ _ _ (ac_lt (hD3).a)),cell_of_row _ _ _ _ _ _ (hD3).a];rfl
   have HI1:=HI.out
   have hOw:StaOw (w.heap.size+1+1+1) y4 ⟨s.pos,cp,s.pn,ccap,p1,m1,e1,p2,m2,e2,p3,m3,e3,p4,m4,e4,R,s.prices,s.last,s.gen,s.owed⟩:=by
    have K:∀e' sz' v n xs,wr.ownsRow (w.heap.size+1+1+1) e' sz' v n xs→y4.ownsRow (w.heap.size+1+1+1) e' sz' v n xs:=fun e' sz' v n xs h=>hk4 _ _ _ _ _ _ (Nat.le_refl _) (hk3 _ _ _ _ _ _ (Nat.le_refl _) (hk2 _ _ _ _ _ _ (Nat.le_refl _) (hk1 _ _ _ _ _ _ (Nat.le_refl _) h)))
    have hin:∀x∈R,∃i,i<s.pn∧R[i]?=some x:=fun x hx=>by
     obtain⟨i,hi,e⟩:=List.mem_iff_getElem.1 hx
     exact⟨i,by rw[←HI1.len];exact hi,by rw[←e];exact List.getElem?_eq_getElem hi⟩
    refine⟨HI1.len,K _ _ _ _ _ HI1.row,fun x hx=>?_,fun x hx=>?_,fun i k x y hx hy hik=>?_,ho1.2.1,hk4 _ _ _ _ _ _ (Nat.le_refl _) (hk3 _ _ _ _ _ _ (Nat.le_refl _) (hk2 _ _ _ _ _ _ (Nat.le_refl _) ho1.1)),ho2.2.1,hk4 _ _ _ _ _ _ (Nat.le_refl _) (hk3 _ _ _ _ _ _ (Nat.le_refl _) ho2.1),ho3.2.1,hk4 _ _ _ _ _ _ (Nat.le_refl _) ho3.1,ho4.2.1,ho4.1,fun g e1' e2'=>?_⟩
    ·obtain⟨i,hi,hx'⟩:=hin x hx
     exact(HI1.held i x hi hx').2
    ·obtain⟨i,hi,hx'⟩:=hin x hx
     exact K _ _ _ _ _ (HI1.held i x hi hx').1
    ·exact HI1.apart i k x y (by rw[←HI1.len];exact(List.getElem?_eq_some_iff.1 hx).1) (by rw[←HI1.len];exact(List.getElem?_eq_some_iff.1 hy).1) hik hx hy
    ·have q1:=RB.owns_lt ho2.1 g e1'
     have q2:=hn3 g e2'
     omega
   obtain⟨X,hX⟩:∃X:Array Value,#[.int .u64 s.pos,.slice cp s.pn ccap,.slice p1 m1 e1,.slice p2 m2 e2,.slice p3 m3 e3,.slice p4 m4 e4]=X:=⟨_,rfl⟩
   have hDX:CpS w y4 45 #[.int .u64 s.pos,.slice s.pp s.pn s.pc,.slice s.rp s.rn s.rc,.slice s.lp s.ln s.lc,.slice s.gp s.gn s.gc,.slice s.op s.on s.oc] #[.int .u64 0,.slice none 0 0,.slice none 0 0,.slice none 0 0,.slice none 0 0,.slice none 0 0] X:=by rw[←hX];exact hD4
   have HXs:Hid (X.size=6):=by show _=_;rw[←hX];rfl
   have HXo:Hid (X.all (·.oneCell')=true):=by show _=_;rw[←hX];simp[Value.oneCell']
   have HL:=hide (Z.loadAt_row (P:=Tryz.prog) (ty:=45) hDX.x Tryz.underlying45 rfl (by rw[HXs.out];exact Tryz.sizeS))
   have HSX:=hide (Z.storeAt_row (P:=Tryz.prog) (c':=X) hDX.z (by rw[HXs.out];exact Tryz.sizeS) (by rw[HXs.out];rfl) HXo.out)
   have HEnd:Hid ((y4.setRow (w.heap.size+1) X).heap[w.heap.size+1]?=some (.cells X 45 (0,0))∧StaOw w.heap.size (y4.setRow (w.heap.size+1) X) ⟨s.pos,cp,s.pn,ccap,p1,m1,e1,p2,m2,e2,p3,m3,e3,p4,m4,e4,R,s.prices,s.last,s.gen,s.owed⟩∧Below w.heap.size w (y4.setRow (w.heap.size+1) X)):=by
    have hg:y4.grownBy (y4.setRow (w.heap.size+1) X) (some (w.heap.size+1)):=⟨rfl,rfl,rfl,by simp,fun k _ hne=>setRow_other y4 _ _ X (fun e=>hne (by rw[e]))⟩
    exact⟨setRow_heap _ _ _ _ _ _ hDX.z,hOw.by (fun e' sz' v n xs h=>Z.owns_le (Z.owns_grown h hg (fun g e e'=>by have:=Z.owns_base h g e;cases e';omega)) (by omega)),below_setRow hDX.bel (by omega) X⟩
   have HXb:Hid (X=(⟨s.pos,cp,s.pn,ccap,p1,m1,e1,p2,m2,e2,p3,m3,e3,p4,m4,e4,R,s.prices,s.last,s.gen,s.owed⟩:Sta).arr):=by show _=_;rw[←hX];rfl
   have HDd:Hid ((⟨s.pos,cp,s.pn,ccap,p1,m1,e1,p2,m2,e2,p3,m3,e3,p4,m4,e4,R,s.prices,s.last,s.gen,s.owed⟩:Sta).d=s.d):=by show _=_;unfold Sta.d;simp only;rw[HI1.same]
   have HR1:=hide hr1
   have HR2:=hide hr2
   have HR3:=hide hr3
   have HR4:=hide hr4
   have HY1:=hide hy1
   have HY2:=hide hy2
   have HY3:=hide hy3
   have HY4:=hide hy4
   clear hOw hDX hX hD1 hD2 hD3 hD4 ho1 ho2 ho3 ho4 hk1 hk2 hk3 hk4 hn1 hn2 hn3 hn4 hz1 hz2 hz3 hz4 hr1 hr2 hr3 hr4 hy1 hy2 hy3 hy4 hOk hsm HI1
   go_upto_region 8 with (at_builtin;refine Z.lp_append (.slice (some ⟨wr.heap.size,0,none⟩) 0 0) (.slice s.rp s.rn s.rc) rfl rfl ⟨_,v1,HR1.out,?_⟩)
   rw[HY1.out]
   clear hu1 hf1 t1
   go_upto_region 9 with (at_builtin;refine Z.lp_append (.slice (some ⟨y1.heap.size,0,none⟩) 0 0) (.slice s.lp s.ln s.lc) rfl rfl ⟨_,v2,HR2.out,?_⟩)
   rw[HY2.out]
   clear hu2 hf2 t2
   go_upto_region 10 with (at_builtin;refine Z.lp_append (.slice (some ⟨y2.heap.size,0,none⟩) 0 0) (.slice s.gp s.gn s.gc) rfl rfl ⟨_,v3,HR3.out,?_⟩)
   rw[HY3.out]
   clear hu3 hf3 t3
   go_upto_region 11 with (at_builtin;refine Z.lp_append (.slice (some ⟨y3.heap.size,0,none⟩) 0 0) (.slice s.op s.on s.oc) rfl rfl ⟨_,v4,HR4.out,?_⟩)
   rw[HY4.out]
   clear hu4 hf4 t4
   go_wp2_with (first | ((with_reducible show wpList _ _ _ (⟨_,.load 45 (.tmp 3),_,_,_,_⟩ :: _) _ _);refine Z.lp_load (w.heap.size+1+1) 0 X rfl HL.out ?_) | ((with_reducible show wpList _ _ _ (⟨_,.store 45 (.tmp 2) _,_,_,_,_⟩ :: _) _ _);refine Z.lp_store (t:=45) (x:=.tmp 2) (some ⟨w.heap.size+1,0,none⟩) (.agg X) rfl rfl HSX.out ?_))
   refine bodyPost_ret (results_cell_row rfl _ _ (w.heap.size+1) 45 X (0,0) _ rfl HEnd.out.1 Tryz.underlying45 rfl (by rw[HXs.out];exact Tryz.sizeS)) rfl ?_
   exact⟨⟨s.pos,cp,s.pn,ccap,p1,m1,e1,p2,m2,e2,p3,m3,e3,p4,m4,e4,R,s.prices,s.last,s.gen,s.owed⟩,by rw[HXb.out],HDd.out,HEnd.out.2.1,HEnd.out.2.2⟩
end Go.Proofs.YtfbegfapoijbnaaGreat
