import Derived.Lib.SlBytesConst
import Derived.Test.YtcceejdaokoihaaGreatDoorJWakeP
import Derived.Laws.OwnMore
import Derived.Test.YtcceejdaokoihaaGreatDoorJEq
set_option maxRecDepth 100000
namespace Go.Proofs.YtcceejdaokoihaaGreatDoor
open Go.RowKit Go.Maps
theorem good_jj1:goodN jj1≤1099511627776:=by
 show ([recB 1 ps1].map List.length).sum≤_
 simp[len1]
def NZ (k:Nat × Nat):Prop:=k.1≠0
structure Jw (W w:World) (K:Knd) (od o d jb:Nat) (S:St) (J:Jr):Prop where
 dk:Dk w K od d S
 jk:Jk w K o d jb J
 tab:C.Tab w
 k0:K 0=(0,0)
 kp:Kp NZ (fun _=>(0,0)) K W w
theorem tab_kp {p:Nat × Nat→Prop} {K K':Knd} {w w':World} (h:C.Tab w) (hk:Kp p K K' w w') (h0:K 0=(0,0)) (ho:¬p (0,0)):C.Tab w':=fun j hj=>by
 rw[World.cell?_of_block (w:=w) (hk.block 0 h.pos (by rw[h0];exact ho))];exact h j hj
theorem Jw.below {W w w':World} {K:Knd} {od o d jb:Nat} {S:St} {J:Jr} (h:Jw W w K od o d jb S J) (hb:Below w.heap.size w w'):Jw W w' (ext K w.heap.size (0,0)) od o d jb S J:=by
 have hk:=kp_below hb (fun _=>False) K (0,0)
 exact⟨h.dk.kept hk (fun _ h=>h),h.jk.kept hk (fun _ h=>h),tab_kp h.tab hk h.k0 (fun h=>h),(ext_old K _ h.tab.pos).trans h.k0,h.kp.trans (hk.mono (fun _ h=>h.elim))⟩
theorem Jw.kept {W w w':World} {K K':Knd} {od o d jb:Nat} {S S':St} {J J':Jr} (h:Jw W w K od o d jb S J) (hod:od≠0) (ho:o≠0) (hd:Dk w' K' od d S') (hj:Jk w' K' o d jb J') (hk:Kp (Pk od o) K K' w w'):Jw W w' K' od o d jb S' J':=by
 have hn:¬Pk od o (0,0):=by
  rintro (e | e | e)
  ·exact hod e.symm
  ·exact ho (congrArg Prod.fst e).symm
  ·exact ho (congrArg Prod.fst e).symm
 refine⟨hd,hj,tab_kp h.tab hk h.k0 hn,(hk.same 0 h.tab.pos).trans h.k0,h.kp.trans (hk.mono (fun k hk=>?_))⟩
 rcases hk with e | e | e
 ·exact fun e2=>hod (by rw[←e2];exact e.symm)
 ·rw[e];exact ho
 ·rw[e];exact ho
theorem byte_blk {w:World} {g:Nat} {xs:List Nat} {fr:Nat × Nat} (h:w.heap[g]?=some (.cells (vals xs).toArray 5 fr)) (hs:∀x∈xs,x<256):Bytes w (some ⟨g,0,none⟩) xs:=by
 refine⟨hs,Or.inr ⟨g,0,rfl,lt_of_block h,fun j hj=>?_⟩⟩
 simp only[World.cell?,h]
 simp[vals,List.getD,hj]
theorem pts_one {w:World} {g gp:Nat} {xs:List Nat} {fr fr2:Nat × Nat} {c:Nat} (hp:w.heap[gp]?=some (.cells #[.slice (some ⟨g,0,none⟩) xs.length c] 32 fr2)) (h:w.heap[g]?=some (.cells (vals xs).toArray 5 fr)) (hs:∀x∈xs,x<256) (hl:xs.length≤140737488351232):Pts w (some ⟨gp,0,none⟩) [xs]:=by
 refine⟨fun p hp=>by simp at hp;subst hp;exact hl,Or.inr ⟨gp,0,rfl,lt_of_block hp,fun j p hj=>?_⟩⟩
 obtain⟨rfl,rfl⟩:=one_some hj
 exact⟨some ⟨g,0,none⟩,c,by simp[World.cell?,hp],byte_blk h hs⟩
theorem pts_two {w:World} {g1 g2 gp:Nat} {xs ys:List Nat} {fr1 fr2 fr3:Nat × Nat} {c1 c2:Nat} (hp:w.heap[gp]?=some (.cells #[.slice (some ⟨g1,0,none⟩) xs.length c1,.slice (some ⟨g2,0,none⟩) ys.length c2] 32 fr3)) (h1:w.heap[g1]?=some (.cells (vals xs).toArray 5 fr1)) (h2:w.heap[g2]?=some (.cells (vals ys).toArray 5 fr2)) (hs1:∀x∈xs,x<256) (hs2:∀x∈ys,x<256) (hl1:xs.length≤140737488351232) (hl2:ys.length≤140737488351232):Pts w (some ⟨gp,0,none⟩) [xs,ys]:=by
 refine⟨fun p hp=>by simp at hp;rcases hp with rfl | rfl <;> assumption,Or.inr ⟨gp,0,rfl,lt_of_block hp,fun j p hj=>?_⟩⟩
 rcases two_some hj with ⟨rfl,rfl⟩ | ⟨rfl,rfl⟩
 ·exact⟨some ⟨g1,0,none⟩,c1,by simp[World.cell?,hp],byte_blk h1 hs1⟩
 ·exact⟨some ⟨g2,0,none⟩,c2,by simp[World.cell?,hp],byte_blk h2 hs2⟩
theorem heap3 (w:World) (X Y Z:Obj):(((w.alloc X).alloc Y).alloc Z).heap[w.heap.size]?=some X∧(((w.alloc X).alloc Y).alloc Z).heap[w.heap.size+1]?=some Y∧(((w.alloc X).alloc Y).alloc Z).heap[w.heap.size+2]?=some Z:=by
 have hX:(w.alloc X).heap[w.heap.size]?=some X:=heap_alloc_new _ _
 have hY:((w.alloc X).alloc Y).heap[w.heap.size+1]?=some Y:=by simpa using heap_alloc_new (w.alloc X) Y
 refine⟨?_,?_,?_⟩
 ·rw[Below.heap_alloc _ _ _ (by simp;omega),Below.heap_alloc _ _ _ (by simp)];exact hX
 ·rw[Below.heap_alloc _ _ _ (by simp)];exact hY
 ·simpa[Nat.add_assoc] using heap_alloc_new ((w.alloc X).alloc Y) Z
theorem laid_found {S:St} (ho:S.off=false) {x:Nm} (hx:isNm x=true) {l:List (List (List Nat))} (hl:Trns 1 l) (r:Nat) (h:S.v x=some (recsOf 1 l).flatten):(St.laid r S.image).found x=(recsOf 1 l,l.length,false,0) :=
 found_recs rfl hx hl (by rw[laid_v ho,h];rfl)
theorem recs_len2:∀r∈recsOf 1 [ps1,ps2],25≤r.length∧r.length≤4194304:=fun r hr=>by
 simp[recsOf]at hr
 rcases hr with rfl | rfl
 ·rw[len1];omega
 ·rw[len2];omega
theorem few2:∀ps∈[ps1,ps2],ps.length≤4096∧∀p∈ps,p.length≤140737488351232:=fun ps hp=>by
 simp at hp
 rcases hp with rfl | rfl
 ·exact⟨by decide,fun p hp=>by simp[ps1]at hp;subst hp;decide⟩
 ·exact⟨by decide,fun p hp=>by simp[ps2]at hp;rcases hp with rfl | rfl <;> decide⟩
theorem heap6 (w:World) (A B C D E F:Obj) (W:World) (hW:W=(((((w.alloc A).alloc B).alloc C).alloc D).alloc E).alloc F):W.heap[w.heap.size]?=some A∧W.heap[w.heap.size+1]?=some B∧W.heap[w.heap.size+2]?=some C∧W.heap[w.heap.size+3]?=some D∧W.heap[w.heap.size+4]?=some E∧W.heap[w.heap.size+5]?=some F:=by
 subst hW
 have h1:=heap3 w A B C
 have h2:=heap3 (((w.alloc A).alloc B).alloc C) D E F
 have hb:=below3 (((w.alloc A).alloc B).alloc C) D E F
 have hz:(((w.alloc A).alloc B).alloc C).heap.size=w.heap.size+3:=by rw[World.size_alloc,World.size_alloc,World.size_alloc]
 rw[hz]at h2
 refine⟨(hb.block _ (by omega)).trans h1.1,(hb.block _ (by omega)).trans h1.2.1,(hb.block _ (by omega)).trans h1.2.2,h2.1,h2.2.1,h2.2.2⟩
theorem below6 (w:World) (A B C D E F:Obj):Below w.heap.size w ((((((w.alloc A).alloc B).alloc C).alloc D).alloc E).alloc F):=by
 have h1:=below3 w A B C
 have h2:=below3 (((w.alloc A).alloc B).alloc C) D E F
 exact h1.trans (h2.mono h1.size)
theorem heap1 (w:World) (X Y:Obj) (c:Array Value) (t:TypeId) (f:Nat × Nat) (e:X=.cells c t f):((w.alloc X).alloc Y).heap[w.heap.size]?=some (.cells c t f):=by
 subst e
 rw[Below.heap_alloc _ _ _ (by simp)]
 exact heap_alloc_new _ _
theorem heap2 (w:World) (X Y:Obj):((w.alloc X).alloc Y).heap[w.heap.size+1]?=some Y:=by
 simpa using heap_alloc_new (w.alloc X) Y
set_option linter.unusedSimpArgs false in
set_option maxHeartbeats 1000000 in
theorem wakes_any (w:World) (hT:C.Tab w) :
  Calls Tryz.prog 7 #[] w fun e w'=>e=.returned (.bool true)∧Below w.heap.size w w':=by
 obtain⟨S1,S2,hA1,hS1,hA2,hS2,hJ2,hst,hus,hvj⟩:=wake_two
 have HA1:=hide hA1
 have HA2:=hide hA2
 have HS1:=hide hS1
 have HS2:=hide hS2
 have HJ2:=hide hJ2
 have HVj:=hide hvj
 have HSt:=hide hst
 have HUs:=hide hus
 have HT:=hide hT
 clear hA1 hA2 hS1 hS2 hJ2 hvj hst hus hT
 have hNw:=New_ok w 1000 (by omega)
 rw[show ((1000:Nat):Int)=1000 from rfl]at hNw
 have HNw:=hide hNw
 clear hNw
 have hcb:=fun (w:World) (C:Array Value) (n c:Nat)=>Lib.run_convert_bytes_const (P:=Tryz.prog) w 32 5 C n c Tryz.underlying32 Tryz.underlying5
 go_enter Tryz.func7,Tryz.ntmps7
 go_wp2_with fail
 refine HNw.out.mono ?_
 rintro e w1 ⟨rfl,hw1⟩
 have hb1:Below w.heap.size w w1:=by rw[hw1];exact(Below.refl _ _).alloc (Nat.le_refl _) _
 have hd1:=new_dk w (fun _=>(0,0)) 1 1000
 rw[←hw1]at hd1
 have kp1:Kp NZ (fun _=>(0,0)) (newK (fun _=>(0,0)) w.heap.size (1,1)) w w1:=⟨hb1.os,hb1.tape,hb1.output,hb1.size,fun c hc=>by unfold newK;rw[if_neg (by omega)],fun c hc _=>hb1.block c hc⟩
 have hk10:newK (fun _=>(0,0)) w.heap.size (1,1) 0=(0,0):=by unfold newK;rw[if_neg (by have:=HT.out.pos;omega)]
 generalize newK (fun _=>((0:Nat),(0:Nat))) w.heap.size (1,1)=K1 at *
 have hT1:=HT.out.below hb1 HT.out.pos
 have HOp:=hide (Open_any w1 K1 1 2 w.heap.size (by omega) (by omega) (St.new 1000) hd1 (new_inv (by omega)) 0 (new_sz _) (by omega) rfl nj nm_j nm_j2 hT1 hk10)
 rw[new_found 1000 nj nm_j,show (⟨nj.toArray⟩:ByteArray)=⟨#[106]⟩ from rfl]at HOp
 have HD1:=hide hd1
 have HK1:=hide kp1
 have HT1:=hide hT1
 have HK10:=hide hk10
 clear hb1 hd1 kp1 hk10 hT1 hw1 HNw
 go_wp2_with fail
 refine HOp.out.mono ?_
 rintro e w2 ⟨K2,hk2,hcase⟩
 obtain⟨jb,rfl,hj2⟩:∃jb,e=.returned (.tuple #[.pointer (some ⟨jb,0,none⟩),.int .i64 0])∧Jk w2 K2 2 w.heap.size jb jj0:=by
  rcases hcase with ⟨_,jb,he,hj⟩ | ⟨h,_⟩
  ·exact⟨jb,he,hj⟩
  ·first | exact absurd rfl h | exact h.elim | simp at h
 have hJw:Jw w w2 K2 1 2 w.heap.size jb (St.new 1000) jj0:=⟨HD1.out.kept hk2 (fun n hn=>by cases hn),hj2,tab_kept HT1.out hk2 HK10.out (by omega),(hk2.same 0 HT1.out.pos).trans HK10.out,HK1.out.trans (hk2.mono (fun k hk=>by unfold NZ;rw[show k.1=2 from hk];omega))⟩
 have HJw:=hide hJw
 clear hk2 hcase hj2 hJw HD1 HK1 HT1 HK10 HOp
 have hb3:=below2 w2 (.cells #[.int .u8 97] 5 (1,2)) (.cells #[.slice (some ⟨w2.heap.size,0,none⟩) 1 1] 32)
 have hP1:Pts ((w2.alloc (.cells #[.int .u8 97] 5 (1,2))).alloc (.cells #[.slice (some ⟨w2.heap.size,0,none⟩) 1 1] 32)) (some ⟨w2.heap.size+1,0,none⟩) ps1:=pts_one (heap2 _ _ _) (heap1 _ _ _ _ _ _ rfl) (by simp) (by simp)
 have hJ3:=HJw.out.below hb3
 have HAd:=hide (Add_any _ _ 1 2 w.heap.size jb (by omega) (St.new 1000) jj0 hJ3.dk (new_inv (by omega)) 0 (new_sz _) (by omega) hJ3.jk (by decide) (by decide) (by decide) (by decide) (some ⟨w2.heap.size+1,0,none⟩) 1 1 ps1 rfl (by omega) hP1 hJ3.tab)
 rw[HA1.out]at HAd
 have HJ3:=hide hJ3
 clear hb3 hP1 hJ3
 go_wp2_with fail
 refine HAd.out.mono ?_
 rintro e w4 ⟨K4,rfl,hd4,hj4,hk4⟩
 have HJ4:=hide (HJ3.out.kept (by omega) (by omega) hd4 hj4 hk4)
 clear hd4 hj4 hk4 HAd HJw
 have hb5:=below3 w4 (.cells #[.int .u8 98] 5 (1,2)) (.cells #[.int .u8 99,.int .u8 100] 5 (2,3)) (.cells #[.slice (some ⟨w4.heap.size,0,none⟩) 1 1,.slice (some ⟨w4.heap.size+1,0,none⟩) 2 2] 32)
 have h5:=heap3 w4 (.cells #[.int .u8 98] 5 (1,2)) (.cells #[.int .u8 99,.int .u8 100] 5 (2,3)) (.cells #[.slice (some ⟨w4.heap.size,0,none⟩) 1 1,.slice (some ⟨w4.heap.size+1,0,none⟩) 2 2] 32)
 have hP2:=pts_two (xs:=[98]) (ys:=[99,100]) h5.2.2 h5.1 h5.2.1 (by simp) (by simp) (by simp) (by simp)
 have hJ5:=HJ4.out.below hb5
 have HAd2:=hide (Add_any _ _ 1 2 w.heap.size jb (by omega) S1 jj1 hJ5.dk HS1.out.inv 12582915 HS1.out.sz (by omega) hJ5.jk (by decide) good_jj1 (by decide) (by decide) (some ⟨w4.heap.size+2,0,none⟩) 2 2 ps2 rfl (by omega) hP2 hJ5.tab)
 rw[HA2.out]at HAd2
 have HJ5:=hide hJ5
 have hcb2:=hcb (w4.alloc (.cells #[.int .u8 98] 5 (1,2))) #[.int .u8 99,.int .u8 100] 2 2
 rw[World.size_alloc]at hcb2
 clear hb5 h5 hP2 hJ5
 go_wp2_with fail
 refine HAd2.out.mono ?_
 rintro e w6 ⟨K6,rfl,hd6,hj6,hk6⟩
 have HJ6:=hide (HJ5.out.kept (by omega) (by omega) hd6 hj6 hk6)
 clear hd6 hj6 hk6 HAd2 HJ3 HJ4 HJ5
 have HLn:=hide (jlen_any w6 K6 2 w.heap.size jb jj2 HJ6.out.jk)
 rw[show ((jj2.recs.length:Nat):Int)=2 from rfl]at HLn
 have HNx:=hide (next_any w6 K6 2 w.heap.size jb jj2 HJ6.out.jk (by decide))
 rw[show ((jj2.last+1:Nat):Int)=3 from rfl]at HNx
 have HSk:=hide (Strokes_any w6 K6 1 w.heap.size S2 HJ6.out.dk)
 rw[HSt.out,show ((5:Nat):Int)=5 from rfl]at HSk
 go_wp2_with fail
 refine HLn.out.mono ?_
 rintro e w6a ⟨rfl,h6a⟩
 subst h6a
 go_wp2_with fail
 refine HNx.out.mono ?_
 rintro e w6b ⟨rfl,h6b⟩
 subst h6b
 go_wp2_with fail
 refine HSk.out.mono ?_
 rintro e w6c ⟨rfl,h6c⟩
 subst h6c
 have HCr:=hide (Crash_any w6c K6 1 w.heap.size S2 HJ6.out.dk HS2.out.inv 25165830 HS2.out.sz (by omega) none 0 0 [] rfl ⟨Or.inl rfl⟩ (by omega))
 rw[stl_crash HS2.out []]at HCr
 clear HLn HNx HSk
 go_wp2_with fail
 refine HCr.out.mono ?_
 rintro e w7 ⟨v,rfl,him,hb7⟩
 have kp7:=kp_below hb7 (fun _=>False) K6 (0,0)
 have hL:=Load_any w7 _ 3 (by omega) v S2.image 1000 him (fun p hp=>by have:=(nm_len (image_read HS2.out.inv hp).2.2).2;omega) (by omega) (image_ok HS2.out.inv HS2.out.on.off HUs.out)
 rw[show ((1000:Nat):Int)=1000 from rfl]at hL
 have HLd:=hide hL
 have hT7:=tab_kp HJ6.out.tab kp7 HJ6.out.k0 (fun h=>h)
 have hk7:ext K6 w6c.heap.size (0,0) 0=(0,0):=(ext_old K6 _ HJ6.out.tab.pos).trans HJ6.out.k0
 have HK7:=hide (HJ6.out.kp.trans (kp7.mono (fun _ h=>h.elim)))
 have HT7:=hide hT7
 have HK70:=hide hk7
 clear hL him hb7 kp7 hT7 hk7 HCr
 go_wp2_with fail
 refine HLd.out.mono ?_
 rintro e w8 ⟨d2,K8,rfl,hd8,hk8⟩
 have hT8:=tab_kept HT7.out hk8 HK70.out (by omega)
 have hk80:=(hk8.same 0 HT7.out.pos).trans HK70.out
 have hSl:=laid_stl HS2.out.inv HS2.out.sz HS2.out.on.off HUs.out (by omega)
 have HOp:=hide (Open_any w8 K8 3 4 d2 (by omega) (by omega) (St.laid 1000 S2.image) hd8 hSl.inv 0 hSl.sz (by omega) rfl nj nm_j nm_j2 hT8 hk80)
 rw[laid_found HS2.out.on.off nm_j trns2 1000 HVj.out,show (⟨nj.toArray⟩:ByteArray)=⟨#[106]⟩ from rfl]at HOp
 have HK8:=hide (HK7.out.trans (hk8.mono (q:=NZ) (fun k hk=>by unfold NZ;rw[show k.1=3 from hk];omega)))
 have HT8:=hide hT8
 have HK80:=hide hk80
 clear hd8 hk8 hT8 hk80 hSl HLd HK7
 go_wp2_with fail
 refine HOp.out.mono ?_
 rintro e w9 ⟨K9,hk9,hcase⟩
 obtain⟨jb2,rfl,hj9⟩:∃jb2,e=.returned (.tuple #[.pointer (some ⟨jb2,0,none⟩),.int .i64 0])∧Jk w9 K9 4 d2 jb2 (jnew nj (recsOf 1 [ps1,ps2],[ps1,ps2].length,false,0)):=by
  rcases hcase with ⟨_,jb2,he,hj⟩ | ⟨h,_⟩
  ·exact⟨jb2,he,hj⟩
  ·first | exact absurd rfl h | exact h.elim | simp at h
 have hT9:=tab_kept HT8.out hk9 HK80.out (by omega)
 have HAl:=hide (All_any w9 K9 4 d2 jb2 _ hj9 recs_len2 (by decide) hT9)
 rw[show (jnew nj (recsOf 1 [ps1,ps2],[ps1,ps2].length,false,0)).recs=recsOf 1 [ps1,ps2] from rfl,allOf_recs _ 1 trns2,show (recsOf 1 [ps1,ps2]).length=2 from rfl]at HAl
 have HK9:=hide (HK8.out.trans (hk9.mono (q:=NZ) (fun k hk=>by unfold NZ;rw[show k.1=4 from hk];omega)))
 clear hk9 hcase hj9 hT9 HOp HK8
 go_wp2_with fail
 refine HAl.out.mono ?_
 rintro e w10 ⟨a,c,rfl,htr,hb10⟩
 have HTr:=hide htr
 have HB10:=hide hb10
 clear htr hb10 HAl
 have hb16:=below6 w10 (.cells #[.int .u8 97] 5 (1,2)) (.cells #[.slice (some ⟨w10.heap.size,0,none⟩) 1 1] 32) (.cells #[.int .u8 98] 5 (1,2)) (.cells #[.int .u8 99,.int .u8 100] 5 (2,3)) (.cells #[.slice (some ⟨w10.heap.size+2,0,none⟩) 1 1,.slice (some ⟨w10.heap.size+3,0,none⟩) 2 2] 32) (.cells #[.slice (some ⟨w10.heap.size+1,0,none⟩) 1 1,.slice (some ⟨w10.heap.size+4,0,none⟩) 2 2] 31)
 have h16:=heap6 w10 (.cells #[.int .u8 97] 5 (1,2)) (.cells #[.slice (some ⟨w10.heap.size,0,none⟩) 1 1] 32) (.cells #[.int .u8 98] 5 (1,2)) (.cells #[.int .u8 99,.int .u8 100] 5 (2,3)) (.cells #[.slice (some ⟨w10.heap.size+2,0,none⟩) 1 1,.slice (some ⟨w10.heap.size+3,0,none⟩) 2 2] 32) (.cells #[.slice (some ⟨w10.heap.size+1,0,none⟩) 1 1,.slice (some ⟨w10.heap.size+4,0,none⟩) 2 2] 31) _ rfl
 have hcb3:=hcb ((w10.alloc (.cells #[.int .u8 97] 5 (1,2))).alloc (.cells #[.slice (some ⟨w10.heap.size,0,none⟩) 1 1] 32)) #[.int .u8 98] 1 1
 rw[World.size_alloc,World.size_alloc]at hcb3
 have hcb4:=hcb (((w10.alloc (.cells #[.int .u8 97] 5 (1,2))).alloc (.cells #[.slice (some ⟨w10.heap.size,0,none⟩) 1 1] 32)).alloc (.cells #[.int .u8 98] 5 (1,2))) #[.int .u8 99,.int .u8 100] 2 2
 rw[World.size_alloc,World.size_alloc,World.size_alloc]at hcb4
 have hcb3':=hcb3
 have hcb4':=hcb4
 rw[show w10.heap.size+1+1=w10.heap.size+2 from rfl]at hcb3'
 rw[show w10.heap.size+1+1+1=w10.heap.size+3 from rfl]at hcb4'
 have hP1:=pts_one (xs:=[97]) h16.2.1 h16.1 (by simp) (by simp)
 have hP2:=pts_two (xs:=[98]) (ys:=[99,100]) h16.2.2.2.2.1 h16.2.2.1 h16.2.2.2.1 (by simp) (by simp) (by simp) (by simp)
 have hTs:Trs ((((((w10.alloc (.cells #[.int .u8 97] 5 (1,2))).alloc (.cells #[.slice (some ⟨w10.heap.size,0,none⟩) 1 1] 32)).alloc (.cells #[.int .u8 98] 5 (1,2))).alloc (.cells #[.int .u8 99,.int .u8 100] 5 (2,3))).alloc (.cells #[.slice (some ⟨w10.heap.size+2,0,none⟩) 1 1,.slice (some ⟨w10.heap.size+3,0,none⟩) 2 2] 32)).alloc (.cells #[.slice (some ⟨w10.heap.size+1,0,none⟩) 1 1,.slice (some ⟨w10.heap.size+4,0,none⟩) 2 2] 31)) (some ⟨w10.heap.size+5,0,none⟩) [ps1,ps2]:=by
  refine⟨fun ps hp=>by have:=(few2 ps hp).1;omega,Or.inr ⟨w10.heap.size+5,0,rfl,lt_of_block h16.2.2.2.2.2,fun j ps hj=>?_⟩⟩
  rcases two_some hj with ⟨rfl,rfl⟩ | ⟨rfl,rfl⟩
  ·exact⟨some ⟨w10.heap.size+1,0,none⟩,1,by simp only[World.cell?,h16.2.2.2.2.2];rfl,hP1⟩
  ·exact⟨some ⟨w10.heap.size+4,0,none⟩,2,by simp only[World.cell?,h16.2.2.2.2.2];rfl,hP2⟩
 have HTn:=hide (trans_same _ a (some ⟨w10.heap.size+5,0,none⟩) 2 c 2 [ps1,ps2] rfl (by omega) ((HTr.out.trs few2).below hb16) hTs)
 have HB16:=hide hb16
 clear hb16 h16 hP1 hP2 hTs
 go_wp2_with fail
 refine HTn.out.mono ?_
 rintro e w17 ⟨rfl,q,hw17⟩
 have HB17:Hid (Below w.heap.size w w17):=by
  rw[hw17]
  have k1:Kp NZ (fun _=>(0,0)) _ w w10:=HK9.out.trans ((kp_below HB10.out (fun _=>False) K9 (0,0)).mono (fun _ h=>h.elim))
  have b1:Below w.heap.size w w10:=k1.below (Below.refl _ _) (fun b _ h=>h rfl)
  have b2:=b1.trans (HB16.out.mono b1.size)
  exact⟨b2.os,b2.tape,b2.output,b2.size,b2.block⟩
 clear hw17 HTn
 go_wp2
 go_ret
 exact⟨rfl,HB17.out⟩
def El (w:World) (v:Value) (p:List Nat):Prop:=∃a c,v=.slice a p.length c∧w.ownsRow 0 5 1 (.slice a p.length c) p.length (vals p)
theorem El.kept {w w':World} {v:Value} {p:List Nat} (h:El w v p) (hk:U8k w w'):El w' v p:=by
 obtain⟨a,c,e,ho⟩:=h
 refine⟨a,c,e,ho.1,ho.2.imp id ?_⟩
 rintro ⟨g,cap,cur,h1,h2,h3,r⟩
 exact⟨g,cap,cur,h1,h2,(hk g _ _ h3).trans h3,r⟩
theorem made_rep5 (z:Value) (n:Nat):madeCells #[z] n=(List.replicate n z).toArray:=by
 apply Array.ext
 ·simp[madeCells]
 ·intro i h1 h2
  simp[madeCells,Nat.mod_one]
def TwinOf (w:World) (k:Nat) (ps:List (List Nat)) (e:Ending) (w':World):Prop:=∃a c,e=.returned (.slice a k c)∧Pts w' a ps∧Below w.heap.size w w'
set_option maxHeartbeats 1000000 in
theorem twins_all (w:World) (pp:Option Addr) (k cap:Nat) (ps:List (List Nat)) (hk:ps.length=k) (hkl:k≤5864062014805) (hP:Pts w pp ps) (hs:∀p∈ps,∀x∈p,x<256) :
  Calls Tryz.prog 24 #[.slice pp k cap] w (TwinOf w k ps):=by
 have qe:∀(w:World) (a:Option Addr) (n c n' c':Nat),(binOp .eql 31 (.slice a n c) (.slice none n' c')).run Tryz.prog w=.ok (.bool a.isNone) w:=fun w a n c n' c'=>Lib.run_eql_slice_nil w _ _ a n c n' c' Tryz.underlying31
 have qn:∀(w:World) (a:Option Addr) (n c n' c':Nat),(binOp .neq 32 (.slice a n c) (.slice none n' c')).run Tryz.prog w=.ok (.bool (!a.isNone)) w:=fun w a n c n' c'=>run_neq_slice_nil_any w _ _ a n c n' c' Tryz.underlying32
 obtain⟨i0,hi,hz0,hz1,hz2⟩:=info_parts Tryz.infoRw
 have HP:=hide hP
 have HK:=hide hk
 clear hP hk
 cases pp with
 | none =>
  have h0:Hid (k=0∧ps=[]):=by
   rcases HP.out.lie with h | ⟨g,o,e,_⟩
   ·exact⟨by rw[←HK.out,h];rfl,h⟩
   ·cases e
  obtain⟨rfl,rfl⟩:=h0.out
  go_enter Tryz.func24,Tryz.ntmps24
  go_wp2
  go_ret
  exact⟨none,0,rfl,HP.out,Below.refl _ _⟩
 | some ad =>
  obtain⟨w1,hmk,hown1,hgr1⟩:=run_make_full (P:=Tryz.prog) w w.heap.size 31 32 i0 (.slice none 0 0) 1 Tryz.underlying31 hi hz0 hz1 .i64 .i64 k (by rw[hz2];omega) (by unfold maxLen;omega) (Nat.le_refl _)
  have hb1:Below w.heap.size w w1:=(Below.refl _ _).grown hgr1 (Nat.le_refl _) (fun k e=>by cases e)
  have hmc:(madeCells (Value.slice none 0 0).cells (k*1)).toList=List.replicate k (.slice none 0 0):=by
   rw[Nat.mul_one,show (Value.slice none 0 0).cells=#[.slice none 0 0] from rfl,made_rep5]
  rw[hmc]at hown1
  have HO1:=hide hown1
  have HB1:=hide hb1
  clear hown1 hgr1 hb1 hmc
  go_enter Tryz.func24,Tryz.ntmps24
  go_wp2
  clear hmk
  go_loopw [4] (fun i wr=>∃(j:Nat),j≤k∧i=.int .i64 j∧Hid (Below w.heap.size w wr)∧Hid (∃vs,wr.ownsRow w.heap.size 32 1 (.slice (some ⟨w.heap.size,0,none⟩) k k) k vs∧(∀i p,i<j→ps[i]?=some p→∃v,vs[i]?=some v∧El wr v p)∧∀i,j≤i→i<k→vs[i]?=some (.slice none 0 0))) (fun i _=>k - (intOf i).toNat)
  case atStart=>exact⟨0,Nat.zero_le _,rfl,HB1,⟨_,HO1.out,fun i p h=>by omega,fun i _ h=>by simp[h]⟩⟩
  case round =>
   obtain⟨j,hj,rfl,HBr,HR⟩:=hrel
   by_cases hlt:j<k
   ·have i1:(0:Int)≤(j:Int):=by omega
    have i2:(j:Int)<(k:Int):=by omega
    obtain⟨vs,hv1,hv2,hv3⟩:=HR.out
    obtain⟨p,hp⟩:∃p,ps[j]?=some p:=⟨_,List.getElem?_eq_getElem (by rw[HK.out];exact hlt)⟩
    obtain⟨g,o,e1,hgl,hc⟩:∃g o,some ad=some ⟨g,o,none⟩∧g<w.heap.size∧∀j p,ps[j]?=some p→∃ap cp,w.cell? ⟨g,o+j,none⟩=some (.slice ap p.length cp)∧Bytes w ap p:=by
     rcases HP.out.lie with h | h
     ·rw[h]at hp;simp at hp
     ·exact h
    cases e1
    obtain⟨ap,cp,hcell,hby⟩:=hc j p hp
    have c0:wr.cell? ⟨g,o+j,none⟩=some (.slice ap p.length cp):=(HBr.out.cell (p:=⟨g,o+j,none⟩) hgl).trans hcell
    have hpl:=HP.out.small p (List.mem_of_getElem? hp)
    have HV1:=hide hv1
    have HV2:=hide hv2
    have HV3:=hide hv3
    have HPj:=hide hp
    have hvl:vs.length=k:=by have:=hv1.1;omega
    have HVl:=hide hvl
    obtain⟨pl,hpe⟩:∃pl,p.length=pl:=⟨_,rfl⟩
    have HPl:=hide hpe
    rw[hpe]at c0 hpl
    cases ap with
    | none =>
     have hnil:p=[]:=by
      rcases hby.lie with h | ⟨g',o',e,_⟩
      ·exact h
      ·cases e
     have HNil:=hide hnil
     clear hv1 hv2 hv3 hp hc hcell hby hvl hpe hnil HR
     go_wp2
     go_roundw
     case rel=>exact⟨j+1,by omega,by go_num,HBr,⟨vs,HV1.out,fun i p' hi hp'=>by
      by_cases hij:i<j
      ·exact HV2.out i p' hij hp'
      ·obtain rfl:i=j:=by omega
       rw[HPj.out]at hp'
       cases hp'
       refine⟨_,HV3.out i (Nat.le_refl _) hlt,none,0,?_,?_⟩
       ·rw[HNil.out];rfl
       ·rw[HNil.out];exact⟨rfl,Or.inl ⟨rfl,rfl⟩⟩,fun i hi hik=>HV3.out i (by omega) hik⟩⟩
     case measure=>simp[intOf];omega
    | some a2 =>
     have HCp:=hide (copy_any wr (some a2) pl cp p HPl.out (hby.below HBr.out) (by omega))
     clear hv1 hv2 hv3 hp hc hcell hby hvl hpe HR
     go_wp2_with fail
     refine HCp.out.mono ?_
     rintro e w2 ⟨ra,rc,rfl,hr2,hb2⟩
     have hrow:w2.ownsRow w.heap.size 32 1 (.slice (some ⟨w.heap.size,0,none⟩) k k) k vs:=owns_same HV1.out (fun g hg=>hb2.block g (rk_lt HV1.out hg))
     have hst:=hrow.stored j (.slice ra pl rc)
     obtain⟨cv,fz⟩:(∃v,w2.cell? ⟨w.heap.size,j,none⟩=some v)∧w2.frozen? ⟨w.heap.size,j,none⟩=false:=by
      rcases hrow.2 with ⟨e,_⟩ | ⟨g',cap',cur,e1,_,hg,e3,e4,e5,e6⟩
      ·cases e
      ·cases e1
       have hjc:j<cur.size:=by omega
       exact⟨⟨cur[j],by simp[World.cell?,hg,hjc]⟩,by simp[World.frozen?,hg]⟩
     obtain⟨v0,hv0⟩:=cv
     have HU:Hid (U8k w2 (w2.setCell ⟨w.heap.size,j,none⟩ (.slice ra pl rc))):=u8k_grown (v:=.slice (some ⟨w.heap.size,0,none⟩) k k) hst.2 hrow (by decide)
     have HU1:Hid (U8k wr w2):=u8k_below hb2
     have HSt:=hide hst
     have HR2:=hide hr2
     have HB2:=hide hb2
     clear hrow hst hr2 hb2 HCp
     go_wp2
     go_roundw
     case rel =>
      refine⟨j+1,by omega,by go_num,?_,⟨vs.set j (.slice ra pl rc),HSt.out.1,fun i p' hi hp'=>?_,fun i hi hik=>?_⟩⟩
      ·have b2:=HBr.out.trans (HB2.out.mono HBr.out.size)
       exact b2.grown HSt.out.2 b2.size (fun g e=>by cases e;exact Nat.le_refl _)
      ·by_cases hij:i<j
       ·obtain⟨v,h1,h2⟩:=HV2.out i p' hij hp'
        exact⟨v,by rw[List.getElem?_set_ne (by omega)];exact h1,(h2.kept HU1.out).kept HU.out⟩
       ·obtain rfl:i=j:=by omega
        rw[HPj.out]at hp'
        cases hp'
        refine⟨.slice ra pl rc,by rw[List.getElem?_set_self (by rw[HVl.out];exact hlt)],?_⟩
        have h3:El w2 (.slice ra pl rc) p:=⟨ra,rc,by rw[HPl.out],by rw[HPl.out];exact owns_zero HR2.out⟩
        exact h3.kept HU.out
      ·rw[List.getElem?_set_ne (by omega)]
       exact HV3.out i (by omega) hik
     case measure=>simp[intOf];omega
   ·obtain rfl:j=k:=by omega
    obtain⟨vs,hv1,hv2,hv3⟩:=HR.out
    have HPt:Hid (Pts wr (some ⟨w.heap.size,0,none⟩) ps):=by
     refine⟨HP.out.small,?_⟩
     rcases hv1.2 with ⟨e,_⟩ | ⟨g',cap',cur,e1,_,hg,e3,e4,e5,e6⟩
     ·cases e
     ·cases e1
      refine Or.inr ⟨w.heap.size,0,rfl,lt_of_block hg,fun i p hp=>?_⟩
      have hi:i<j:=by rw[←HK.out];exact(List.getElem?_eq_some_iff.1 hp).1
      obtain⟨v,h1,a2,c2,rfl,ho⟩:=hv2 i p hi hp
      refine⟨a2,c2,?_,owns_bytes ho (hs p (List.mem_of_getElem? hp))⟩
      rw[←e6,List.getElem?_take,if_pos (by omega)]at h1
      simp only[World.cell?,hg,Nat.zero_add]
      simpa using h1
    clear hv1 hv2 hv3 HR
    go_wp2
    go_ret
    exact⟨_,_,rfl,HPt.out,HBr.out⟩
open Go.RowKit
theorem ext_getD {xs ys:List Nat} (h:xs.length=ys.length) (he:∀j,j<xs.length→xs.getD j 0=ys.getD j 0):xs=ys:=by
 apply List.ext_getElem h
 intro j h1 h2
 have:=he j h1
 simpa[List.getD,h1,h2] using this
set_option maxHeartbeats 400000 in
theorem eq_dec (w:World) (sp sq:Option Addr) (n m c1 c2:Nat) (xs ys:List Nat) (hl:xs.length=n) (hm:ys.length=m) (hn:n≤140737488355328) (hn2:m≤140737488355328) (h1:Bytes w sp xs) (h2:Bytes w sq ys) :
  Calls Tryz.prog 70 #[.slice sp n c1,.slice sq m c2] w fun e w'=>∃r,e=.returned (.bool r)∧(r=true↔xs=ys)∧∃q,w'=w.drewN q:=by
 by_cases hnm:n=m
 ·subst hnm
  by_cases h0:n=0
  ·subst h0
   have hx:xs=[]:=List.eq_nil_of_length_eq_zero hl
   have hy:ys=[]:=List.eq_nil_of_length_eq_zero hm
   go_enter Tryz.func70,Tryz.ntmps70
   go_wp2
   refine wp_loop_rounds 1 ?_
   rw[rounds_succ]
   go_wp2
   go_ret
   exact⟨true,rfl,by simp[hx,hy],0,rfl⟩
  ·obtain⟨g,o,rfl,hg,hc⟩:∃g o,sp=some ⟨g,o,none⟩∧g<w.heap.size∧∀j,j<xs.length→w.cell? ⟨g,o+j,none⟩=some (.int .u8 (xs.getD j 0)):=by
    rcases h1.lie with h | h
    ·subst h;simp at hl;omega
    ·exact h
   obtain⟨g',o',rfl,hg',hc'⟩:∃g o,sq=some ⟨g,o,none⟩∧g<w.heap.size∧∀j,j<ys.length→w.cell? ⟨g,o+j,none⟩=some (.int .u8 (ys.getD j 0)):=by
    rcases h2.lie with h | h
    ·subst h;simp at hm;omega
    ·exact h
   rw[hl]at hc
   rw[hm]at hc'
   have HC:=hide hc
   have HC':=hide hc'
   have HL:Hid (xs.length=n∧ys.length=n):=⟨hl,hm⟩
   clear hc hc' h1 h2 hl hm
   go_enter Tryz.func70,Tryz.ntmps70
   go_wp2
   go_loopw [5] (fun i wr=>∃k q:Nat,k≤n∧i=.int .i64 k∧Hid (wr=w.drewN q)∧Hid (∀j,j<k→xs.getD j 0=ys.getD j 0)) (fun i _=>n - (intOf i).toNat)
   case atStart=>exact⟨0,0,Nat.zero_le _,rfl,rfl,fun j hj=>by omega⟩
   case round =>
    obtain⟨k,q,hk,rfl,HW,HA⟩:=hrel
    by_cases hlt:k<n
    ·have d1:wr.cell? ⟨g,o+k,none⟩=some (.int .u8 (xs.getD k 0)):=by rw[HW.out];exact HC.out k hlt
     have d2:wr.cell? ⟨g',o'+k,none⟩=some (.int .u8 (ys.getD k 0)):=by rw[HW.out];exact HC'.out k hlt
     have i1:(0:Int)≤(k:Int):=by omega
     have i2:(k:Int)<(n:Int):=by omega
     have HE:Hid (xs=ys→xs.getD k 0=ys.getD k 0):=fun e=>by rw[e]
     have HA2:Hid (xs.getD k 0=ys.getD k 0→∀j,j<k+1→xs.getD j 0=ys.getD j 0):=fun h j hj=>by
      by_cases e:j=k
      ·subst e;exact h
      ·exact HA.out j (by omega)
     generalize xs.getD k 0=x at *
     generalize ys.getD k 0=y at *
     by_cases hxy:x=y
     ·subst hxy
      have HA3:=hide (HA2.out rfl)
      clear HA2 HE
      go_wp2
      go_quiet (fail)
      go_wp2
      go_roundw
      case rel=>exact⟨k+1,q+nq,by omega,by go_num,by show _=_;rw[HW.out,World.drewN_drewN],HA3⟩
      case measure=>simp[intOf];omega
     ·have hb:((x:Int) != (y:Int))=true:=by simp;omega
      have HX:=hide hxy
      clear hxy
      go_wp2
      go_quiet (fail)
      go_wp2
      go_ret
      exact⟨false,rfl,⟨fun e=>(by cases e),fun e=>absurd (HE.out e) HX.out⟩,q+nq,by rw[HW.out,World.drewN_drewN]⟩
    ·obtain rfl:k=n:=by omega
     have HY:Hid (xs=ys):=ext_getD (by rw[HL.out.1,HL.out.2]) (fun j hj=>HA.out j (by rw[HL.out.1]at hj;exact hj))
     go_wp2
     go_ret
     exact⟨true,rfl,⟨fun _=>HY.out,fun _=>rfl⟩,q,HW.out⟩
 ·have hb:((n:Int) != (m:Int))=true:=by simp;omega
  have HX:Hid (xs≠ys):=fun e=>hnm (by rw[←hl,←hm,e])
  clear h1 h2 hl hm hnm
  go_enter Tryz.func70,Tryz.ntmps70
  go_wp2
  go_ret
  exact⟨false,rfl,⟨fun e=>(by cases e),fun e=>absurd e HX.out⟩,0,rfl⟩
end Go.Proofs.YtcceejdaokoihaaGreatDoor
