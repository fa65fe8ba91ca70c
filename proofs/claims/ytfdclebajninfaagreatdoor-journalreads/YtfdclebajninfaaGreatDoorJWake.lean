import Derived.Test.YtfdclebajninfaaGreatDoorJWakeP
import Derived.Lib.SlBytesConst
namespace Go.Proofs.YtfdclebajninfaaGreatDoor
open Go.RowKit Go.Maps

theorem good_jj1 : goodN jj1 ≤ 1099511627776 := by
  show ([recB 1 ps1].map List.length).sum ≤ _
  simp [len1]
def NZ (k : Nat × Nat) : Prop := k.1 ≠ 0
structure Jw (W w : World) (K : Knd) (od o d jb : Nat) (S : St) (J : Jr) : Prop where
  dk : Dk w K od d S
  jk : Jk w K o d jb J
  tab : C.Tab w
  k0 : K 0 = (0, 0)
  kp : Kp NZ (fun _ => (0, 0)) K W w
theorem tab_kp {p : Nat × Nat → Prop} {K K' : Knd} {w w' : World} (h : C.Tab w) (hk : Kp p K K' w w') (h0 : K 0 = (0, 0)) (ho : ¬ p (0, 0)) : C.Tab w' := fun j hj => by
  rw [World.cell?_of_block (w := w) (hk.block 0 h.pos (by rw [h0]; exact ho))]; exact h j hj
theorem Jw.below {W w w' : World} {K : Knd} {od o d jb : Nat} {S : St} {J : Jr} (h : Jw W w K od o d jb S J) (hb : Below w.heap.size w w') : Jw W w' (ext K w.heap.size (0, 0)) od o d jb S J := by
  have hk := kp_below hb (fun _ => False) K (0, 0)
  exact ⟨h.dk.kept hk (fun _ h => h), h.jk.kept hk (fun _ h => h), tab_kp h.tab hk h.k0 (fun h => h), (ext_old K _ h.tab.pos).trans h.k0, h.kp.trans (hk.mono (fun _ h => h.elim))⟩
theorem Jw.kept {W w w' : World} {K K' : Knd} {od o d jb : Nat} {S S' : St} {J J' : Jr} (h : Jw W w K od o d jb S J) (hod : od ≠ 0) (ho : o ≠ 0) (hd : Dk w' K' od d S') (hj : Jk w' K' o d jb J') (hk : Kp (Pk od o) K K' w w') : Jw W w' K' od o d jb S' J' := by
  have hn : ¬ Pk od o (0, 0) := by
    rintro (e | e | e)
    · exact hod e.symm
    · exact ho (congrArg Prod.fst e).symm
    · exact ho (congrArg Prod.fst e).symm
  refine ⟨hd, hj, tab_kp h.tab hk h.k0 hn, (hk.same 0 h.tab.pos).trans h.k0, h.kp.trans (hk.mono (fun k hk => ?_))⟩
  rcases hk with e | e | e
  · exact fun e2 => hod (by rw [← e2]; exact e.symm)
  · rw [e]; exact ho
  · rw [e]; exact ho
theorem byte_blk {w : World} {g : Nat} {xs : List Nat} {fr : Nat × Nat} (h : w.heap[g]? = some (.cells (vals xs).toArray 5 fr)) (hs : ∀ x ∈ xs, x < 256) : Bytes w (some ⟨g, 0, none⟩) xs := by
  refine ⟨hs, Or.inr ⟨g, 0, rfl, lt_of_block h, fun j hj => ?_⟩⟩
  simp only [World.cell?, h]
  simp [vals, List.getD, hj]
/-- One part, written out. -/
theorem pts_one {w : World} {g gp : Nat} {xs : List Nat} {fr fr2 : Nat × Nat} {c : Nat} (hp : w.heap[gp]? = some (.cells #[.slice (some ⟨g, 0, none⟩) xs.length c] 22 fr2)) (h : w.heap[g]? = some (.cells (vals xs).toArray 5 fr)) (hs : ∀ x ∈ xs, x < 256) (hl : xs.length ≤ 140737488351232) : Pts w (some ⟨gp, 0, none⟩) [xs] := by
  refine ⟨fun p hp => by simp at hp; subst hp; exact hl, Or.inr ⟨gp, 0, rfl, lt_of_block hp, fun j p hj => ?_⟩⟩
  obtain ⟨rfl, rfl⟩ := one_some hj
  exact ⟨some ⟨g, 0, none⟩, c, by simp [World.cell?, hp], byte_blk h hs⟩
theorem pts_two {w : World} {g1 g2 gp : Nat} {xs ys : List Nat} {fr1 fr2 fr3 : Nat × Nat} {c1 c2 : Nat} (hp : w.heap[gp]? = some (.cells #[.slice (some ⟨g1, 0, none⟩) xs.length c1, .slice (some ⟨g2, 0, none⟩) ys.length c2] 22 fr3)) (h1 : w.heap[g1]? = some (.cells (vals xs).toArray 5 fr1)) (h2 : w.heap[g2]? = some (.cells (vals ys).toArray 5 fr2)) (hs1 : ∀ x ∈ xs, x < 256) (hs2 : ∀ x ∈ ys, x < 256) (hl1 : xs.length ≤ 140737488351232) (hl2 : ys.length ≤ 140737488351232) : Pts w (some ⟨gp, 0, none⟩) [xs, ys] := by
  refine ⟨fun p hp => by simp at hp; rcases hp with rfl | rfl <;> assumption, Or.inr ⟨gp, 0, rfl, lt_of_block hp, fun j p hj => ?_⟩⟩
  rcases two_some hj with ⟨rfl, rfl⟩ | ⟨rfl, rfl⟩
  · exact ⟨some ⟨g1, 0, none⟩, c1, by simp [World.cell?, hp], byte_blk h1 hs1⟩
  · exact ⟨some ⟨g2, 0, none⟩, c2, by simp [World.cell?, hp], byte_blk h2 hs2⟩
theorem heap3 (w : World) (X Y Z : Obj) : (((w.alloc X).alloc Y).alloc Z).heap[w.heap.size]? = some X ∧ (((w.alloc X).alloc Y).alloc Z).heap[w.heap.size + 1]? = some Y ∧ (((w.alloc X).alloc Y).alloc Z).heap[w.heap.size + 2]? = some Z := by
  have hX : (w.alloc X).heap[w.heap.size]? = some X := heap_alloc_new _ _
  have hY : ((w.alloc X).alloc Y).heap[w.heap.size + 1]? = some Y := by simpa using heap_alloc_new (w.alloc X) Y
  refine ⟨?_, ?_, ?_⟩
  · rw [Below.heap_alloc _ _ _ (by simp; omega), Below.heap_alloc _ _ _ (by simp)]; exact hX
  · rw [Below.heap_alloc _ _ _ (by simp)]; exact hY
  · simpa [Nat.add_assoc] using heap_alloc_new ((w.alloc X).alloc Y) Z
theorem laid_found {S : St} (ho : S.off = false) {x : Nm} (hx : isNm x = true) {l : List (List (List Nat))} (hl : Trns 1 l) (r : Nat) (h : S.v x = some (recsOf 1 l).flatten) : (St.laid r S.image).found x = (recsOf 1 l, l.length, false, 0) :=
  found_recs rfl hx hl (by rw [laid_v ho, h]; rfl)
theorem recs_len2 : ∀ r ∈ recsOf 1 [ps1, ps2], 25 ≤ r.length ∧ r.length ≤ 4194304 := fun r hr => by
  simp [recsOf] at hr
  rcases hr with rfl | rfl
  · rw [len1]; omega
  · rw [len2]; omega
theorem few2 : ∀ ps ∈ [ps1, ps2], ps.length ≤ 4096 ∧ ∀ p ∈ ps, p.length ≤ 140737488351232 := fun ps hp => by
  simp at hp
  rcases hp with rfl | rfl
  · exact ⟨by decide, fun p hp => by simp [ps1] at hp; subst hp; decide⟩
  · exact ⟨by decide, fun p hp => by simp [ps2] at hp; rcases hp with rfl | rfl <;> decide⟩
theorem heap6 (w : World) (A B C D E F : Obj) (W : World) (hW : W = (((((w.alloc A).alloc B).alloc C).alloc D).alloc E).alloc F) : W.heap[w.heap.size]? = some A ∧ W.heap[w.heap.size + 1]? = some B ∧ W.heap[w.heap.size + 2]? = some C ∧ W.heap[w.heap.size + 3]? = some D ∧ W.heap[w.heap.size + 4]? = some E ∧ W.heap[w.heap.size + 5]? = some F := by
  subst hW
  have h1 := heap3 w A B C
  have h2 := heap3 (((w.alloc A).alloc B).alloc C) D E F
  have hb := below3 (((w.alloc A).alloc B).alloc C) D E F
  have hz : (((w.alloc A).alloc B).alloc C).heap.size = w.heap.size + 3 := by rw [World.size_alloc, World.size_alloc, World.size_alloc]
  rw [hz] at h2
  refine ⟨(hb.block _ (by omega)).trans h1.1, (hb.block _ (by omega)).trans h1.2.1, (hb.block _ (by omega)).trans h1.2.2, h2.1, h2.2.1, h2.2.2⟩
theorem below6 (w : World) (A B C D E F : Obj) : Below w.heap.size w ((((((w.alloc A).alloc B).alloc C).alloc D).alloc E).alloc F) := by
  have h1 := below3 w A B C
  have h2 := below3 (((w.alloc A).alloc B).alloc C) D E F
  exact h1.trans (h2.mono h1.size)
theorem heap1 (w : World) (X Y : Obj) (c : Array Value) (t : TypeId) (f : Nat × Nat) (e : X = .cells c t f) : ((w.alloc X).alloc Y).heap[w.heap.size]? = some (.cells c t f) := by
  subst e
  rw [Below.heap_alloc _ _ _ (by simp)]
  exact heap_alloc_new _ _
theorem heap2 (w : World) (X Y : Obj) : ((w.alloc X).alloc Y).heap[w.heap.size + 1]? = some Y := by
  simpa using heap_alloc_new (w.alloc X) Y

set_option linter.unusedSimpArgs false in
set_option maxRecDepth 100000 in
set_option maxHeartbeats 1000000 in
theorem wakes_any (w : World) (hT : C.Tab w) :
    Calls Tryz.prog 5 #[] w fun e w' => e = .returned (.bool true) ∧ Below w.heap.size w w' := by
  obtain ⟨S1, S2, hA1, hS1, hA2, hS2, hJ2, hst, hus, hvj⟩ := wake_two
  have HA1 := hide hA1
  have HA2 := hide hA2
  have HS1 := hide hS1
  have HS2 := hide hS2
  have HJ2 := hide hJ2
  have HVj := hide hvj
  have HSt := hide hst
  have HUs := hide hus
  have HT := hide hT
  clear hA1 hA2 hS1 hS2 hJ2 hvj hst hus hT
  have hNw := New_ok w 1000 (by omega)
  rw [show ((1000 : Nat) : Int) = 1000 from rfl] at hNw
  have HNw := hide hNw
  clear hNw
  have hcb := fun (w : World) (C : Array Value) (n c : Nat) => Lib.run_convert_bytes_const (P := Tryz.prog) w 22 5 C n c Tryz.underlying22 Tryz.underlying5
  go_enter Tryz.func5, Tryz.ntmps5
  go_wp2_with fail
  refine HNw.out.mono ?_
  rintro e w1 ⟨rfl, hw1⟩
  have hb1 : Below w.heap.size w w1 := by rw [hw1]; exact (Below.refl _ _).alloc (Nat.le_refl _) _
  have hd1 := new_dk w (fun _ => (0, 0)) 1 1000
  rw [← hw1] at hd1
  have kp1 : Kp NZ (fun _ => (0, 0)) (newK (fun _ => (0, 0)) w.heap.size (1, 1)) w w1 := ⟨hb1.os, hb1.tape, hb1.output, hb1.size, fun c hc => by unfold newK; rw [if_neg (by omega)], fun c hc _ => hb1.block c hc⟩
  have hk10 : newK (fun _ => (0, 0)) w.heap.size (1, 1) 0 = (0, 0) := by unfold newK; rw [if_neg (by have := HT.out.pos; omega)]
  generalize newK (fun _ => ((0 : Nat), (0 : Nat))) w.heap.size (1, 1) = K1 at *
  have hT1 := HT.out.below hb1 HT.out.pos
  have HOp := hide (Open_any w1 K1 1 2 w.heap.size (by omega) (by omega) (St.new 1000) hd1 (new_inv (by omega)) 0 (new_sz _) (by omega) rfl nj nm_j nm_j2 hT1 hk10)
  rw [new_found 1000 nj nm_j, show (⟨nj.toArray⟩ : ByteArray) = ⟨#[106]⟩ from rfl] at HOp
  have HD1 := hide hd1
  have HK1 := hide kp1
  have HT1 := hide hT1
  have HK10 := hide hk10
  clear hb1 hd1 kp1 hk10 hT1 hw1 HNw
  go_wp2_with fail
  refine HOp.out.mono ?_
  rintro e w2 ⟨K2, hk2, hcase⟩
  obtain ⟨jb, rfl, hj2⟩ : ∃ jb, e = .returned (.tuple #[.pointer (some ⟨jb, 0, none⟩), .int .i64 0]) ∧ Jk w2 K2 2 w.heap.size jb jj0 := by
    rcases hcase with ⟨_, jb, he, hj⟩ | ⟨h, _⟩
    · exact ⟨jb, he, hj⟩
    · first | exact absurd rfl h | exact h.elim | simp at h
  have hJw : Jw w w2 K2 1 2 w.heap.size jb (St.new 1000) jj0 := ⟨HD1.out.kept hk2 (fun n hn => by cases hn), hj2, tab_kept HT1.out hk2 HK10.out (by omega), (hk2.same 0 HT1.out.pos).trans HK10.out, HK1.out.trans (hk2.mono (fun k hk => by unfold NZ; rw [show k.1 = 2 from hk]; omega))⟩
  have HJw := hide hJw
  clear hk2 hcase hj2 hJw HD1 HK1 HT1 HK10 HOp
  have hb3 := below2 w2 (.cells #[.int .u8 97] 5 (1, 2)) (.cells #[.slice (some ⟨w2.heap.size, 0, none⟩) 1 1] 22)
  have hP1 : Pts ((w2.alloc (.cells #[.int .u8 97] 5 (1, 2))).alloc (.cells #[.slice (some ⟨w2.heap.size, 0, none⟩) 1 1] 22)) (some ⟨w2.heap.size + 1, 0, none⟩) ps1 := pts_one (heap2 _ _ _) (heap1 _ _ _ _ _ _ rfl) (by simp) (by simp)
  have hJ3 := HJw.out.below hb3
  have HAd := hide (Add_any _ _ 1 2 w.heap.size jb (by omega) (St.new 1000) jj0 hJ3.dk (new_inv (by omega)) 0 (new_sz _) (by omega) hJ3.jk (by decide) (by decide) (by decide) (by decide) (some ⟨w2.heap.size + 1, 0, none⟩) 1 1 ps1 rfl (by omega) hP1 hJ3.tab)
  rw [HA1.out] at HAd
  have HJ3 := hide hJ3
  clear hb3 hP1 hJ3
  go_wp2_with fail
  refine HAd.out.mono ?_
  rintro e w4 ⟨K4, rfl, hd4, hj4, hk4⟩
  have HJ4 := hide (HJ3.out.kept (by omega) (by omega) hd4 hj4 hk4)
  clear hd4 hj4 hk4 HAd HJw
  have hb5 := below3 w4 (.cells #[.int .u8 98] 5 (1, 2)) (.cells #[.int .u8 99, .int .u8 100] 5 (2, 3)) (.cells #[.slice (some ⟨w4.heap.size, 0, none⟩) 1 1, .slice (some ⟨w4.heap.size + 1, 0, none⟩) 2 2] 22)
  have h5 := heap3 w4 (.cells #[.int .u8 98] 5 (1, 2)) (.cells #[.int .u8 99, .int .u8 100] 5 (2, 3)) (.cells #[.slice (some ⟨w4.heap.size, 0, none⟩) 1 1, .slice (some ⟨w4.heap.size + 1, 0, none⟩) 2 2] 22)
  have hP2 := pts_two (xs := [98]) (ys := [99, 100]) h5.2.2 h5.1 h5.2.1 (by simp) (by simp) (by simp) (by simp)
  have hJ5 := HJ4.out.below hb5
  have HAd2 := hide (Add_any _ _ 1 2 w.heap.size jb (by omega) S1 jj1 hJ5.dk HS1.out.inv 12582915 HS1.out.sz (by omega) hJ5.jk (by decide) good_jj1 (by decide) (by decide) (some ⟨w4.heap.size + 2, 0, none⟩) 2 2 ps2 rfl (by omega) hP2 hJ5.tab)
  rw [HA2.out] at HAd2
  have HJ5 := hide hJ5
  have hcb2 := hcb (w4.alloc (.cells #[.int .u8 98] 5 (1, 2))) #[.int .u8 99, .int .u8 100] 2 2
  rw [World.size_alloc] at hcb2
  clear hb5 h5 hP2 hJ5
  go_wp2_with fail
  refine HAd2.out.mono ?_
  rintro e w6 ⟨K6, rfl, hd6, hj6, hk6⟩
  have HJ6 := hide (HJ5.out.kept (by omega) (by omega) hd6 hj6 hk6)
  clear hd6 hj6 hk6 HAd2 HJ3 HJ4 HJ5
  have HLn := hide (jlen_any w6 K6 2 w.heap.size jb jj2 HJ6.out.jk)
  rw [show ((jj2.recs.length : Nat) : Int) = 2 from rfl] at HLn
  have HNx := hide (next_any w6 K6 2 w.heap.size jb jj2 HJ6.out.jk (by decide))
  rw [show ((jj2.last + 1 : Nat) : Int) = 3 from rfl] at HNx
  have HSk := hide (Strokes_any w6 K6 1 w.heap.size S2 HJ6.out.dk)
  rw [HSt.out, show ((5 : Nat) : Int) = 5 from rfl] at HSk
  go_wp2_with fail
  refine HLn.out.mono ?_
  rintro e w6a ⟨rfl, h6a⟩
  subst h6a
  go_wp2_with fail
  refine HNx.out.mono ?_
  rintro e w6b ⟨rfl, h6b⟩
  subst h6b
  go_wp2_with fail
  refine HSk.out.mono ?_
  rintro e w6c ⟨rfl, h6c⟩
  subst h6c
  have HCr := hide (Crash_any w6c K6 1 w.heap.size S2 HJ6.out.dk HS2.out.inv 25165830 HS2.out.sz (by omega) none 0 0 [] rfl ⟨Or.inl rfl⟩ (by omega))
  rw [stl_crash HS2.out []] at HCr
  clear HLn HNx HSk
  go_wp2_with fail
  refine HCr.out.mono ?_
  rintro e w7 ⟨v, rfl, him, hb7⟩
  have kp7 := kp_below hb7 (fun _ => False) K6 (0, 0)
  have hL := Load_any w7 _ 3 (by omega) v S2.image 1000 him (fun p hp => by have := (nm_len (image_read HS2.out.inv hp).2.2).2; omega) (by omega) (image_ok HS2.out.inv HS2.out.on.off HUs.out)
  rw [show ((1000 : Nat) : Int) = 1000 from rfl] at hL
  have HLd := hide hL
  have hT7 := tab_kp HJ6.out.tab kp7 HJ6.out.k0 (fun h => h)
  have hk7 : ext K6 w6c.heap.size (0, 0) 0 = (0, 0) := (ext_old K6 _ HJ6.out.tab.pos).trans HJ6.out.k0
  have HK7 := hide (HJ6.out.kp.trans (kp7.mono (fun _ h => h.elim)))
  have HT7 := hide hT7
  have HK70 := hide hk7
  clear hL him hb7 kp7 hT7 hk7 HCr
  go_wp2_with fail
  refine HLd.out.mono ?_
  rintro e w8 ⟨d2, K8, rfl, hd8, hk8⟩
  have hT8 := tab_kept HT7.out hk8 HK70.out (by omega)
  have hk80 := (hk8.same 0 HT7.out.pos).trans HK70.out
  have hSl := laid_stl HS2.out.inv HS2.out.sz HS2.out.on.off HUs.out (by omega)
  have HOp := hide (Open_any w8 K8 3 4 d2 (by omega) (by omega) (St.laid 1000 S2.image) hd8 hSl.inv 0 hSl.sz (by omega) rfl nj nm_j nm_j2 hT8 hk80)
  rw [laid_found HS2.out.on.off nm_j trns2 1000 HVj.out, show (⟨nj.toArray⟩ : ByteArray) = ⟨#[106]⟩ from rfl] at HOp
  have HK8 := hide (HK7.out.trans (hk8.mono (q := NZ) (fun k hk => by unfold NZ; rw [show k.1 = 3 from hk]; omega)))
  have HT8 := hide hT8
  have HK80 := hide hk80
  clear hd8 hk8 hT8 hk80 hSl HLd HK7
  go_wp2_with fail
  refine HOp.out.mono ?_
  rintro e w9 ⟨K9, hk9, hcase⟩
  obtain ⟨jb2, rfl, hj9⟩ : ∃ jb2, e = .returned (.tuple #[.pointer (some ⟨jb2, 0, none⟩), .int .i64 0]) ∧ Jk w9 K9 4 d2 jb2 (jnew nj (recsOf 1 [ps1, ps2], [ps1, ps2].length, false, 0)) := by
    rcases hcase with ⟨_, jb2, he, hj⟩ | ⟨h, _⟩
    · exact ⟨jb2, he, hj⟩
    · first | exact absurd rfl h | exact h.elim | simp at h
  have hT9 := tab_kept HT8.out hk9 HK80.out (by omega)
  have HAl := hide (All_any w9 K9 4 d2 jb2 _ hj9 recs_len2 (by decide) hT9)
  rw [show (jnew nj (recsOf 1 [ps1, ps2], [ps1, ps2].length, false, 0)).recs = recsOf 1 [ps1, ps2] from rfl, allOf_recs _ 1 trns2, show (recsOf 1 [ps1, ps2]).length = 2 from rfl] at HAl
  have HK9 := hide (HK8.out.trans (hk9.mono (q := NZ) (fun k hk => by unfold NZ; rw [show k.1 = 4 from hk]; omega)))
  clear hk9 hcase hj9 hT9 HOp HK8
  go_wp2_with fail
  refine HAl.out.mono ?_
  rintro e w10 ⟨a, c, rfl, htr, hb10⟩
  have HTr := hide htr
  have HB10 := hide hb10
  clear htr hb10 HAl
  have hb16 := below6 w10 (.cells #[.int .u8 97] 5 (1, 2)) (.cells #[.slice (some ⟨w10.heap.size, 0, none⟩) 1 1] 22) (.cells #[.int .u8 98] 5 (1, 2)) (.cells #[.int .u8 99, .int .u8 100] 5 (2, 3)) (.cells #[.slice (some ⟨w10.heap.size + 2, 0, none⟩) 1 1, .slice (some ⟨w10.heap.size + 3, 0, none⟩) 2 2] 22) (.cells #[.slice (some ⟨w10.heap.size + 1, 0, none⟩) 1 1, .slice (some ⟨w10.heap.size + 4, 0, none⟩) 2 2] 56)
  have h16 := heap6 w10 (.cells #[.int .u8 97] 5 (1, 2)) (.cells #[.slice (some ⟨w10.heap.size, 0, none⟩) 1 1] 22) (.cells #[.int .u8 98] 5 (1, 2)) (.cells #[.int .u8 99, .int .u8 100] 5 (2, 3)) (.cells #[.slice (some ⟨w10.heap.size + 2, 0, none⟩) 1 1, .slice (some ⟨w10.heap.size + 3, 0, none⟩) 2 2] 22) (.cells #[.slice (some ⟨w10.heap.size + 1, 0, none⟩) 1 1, .slice (some ⟨w10.heap.size + 4, 0, none⟩) 2 2] 56) _ rfl
  have hcb3 := hcb ((w10.alloc (.cells #[.int .u8 97] 5 (1, 2))).alloc (.cells #[.slice (some ⟨w10.heap.size, 0, none⟩) 1 1] 22)) #[.int .u8 98] 1 1
  rw [World.size_alloc, World.size_alloc] at hcb3
  have hcb4 := hcb (((w10.alloc (.cells #[.int .u8 97] 5 (1, 2))).alloc (.cells #[.slice (some ⟨w10.heap.size, 0, none⟩) 1 1] 22)).alloc (.cells #[.int .u8 98] 5 (1, 2))) #[.int .u8 99, .int .u8 100] 2 2
  rw [World.size_alloc, World.size_alloc, World.size_alloc] at hcb4
  have hcb3' := hcb3
  have hcb4' := hcb4
  rw [show w10.heap.size + 1 + 1 = w10.heap.size + 2 from rfl] at hcb3'
  rw [show w10.heap.size + 1 + 1 + 1 = w10.heap.size + 3 from rfl] at hcb4'
  have hP1 := pts_one (xs := [97]) h16.2.1 h16.1 (by simp) (by simp)
  have hP2 := pts_two (xs := [98]) (ys := [99, 100]) h16.2.2.2.2.1 h16.2.2.1 h16.2.2.2.1 (by simp) (by simp) (by simp) (by simp)
  have hTs : Trs ((((((w10.alloc (.cells #[.int .u8 97] 5 (1, 2))).alloc (.cells #[.slice (some ⟨w10.heap.size, 0, none⟩) 1 1] 22)).alloc (.cells #[.int .u8 98] 5 (1, 2))).alloc (.cells #[.int .u8 99, .int .u8 100] 5 (2, 3))).alloc (.cells #[.slice (some ⟨w10.heap.size + 2, 0, none⟩) 1 1, .slice (some ⟨w10.heap.size + 3, 0, none⟩) 2 2] 22)).alloc (.cells #[.slice (some ⟨w10.heap.size + 1, 0, none⟩) 1 1, .slice (some ⟨w10.heap.size + 4, 0, none⟩) 2 2] 56)) (some ⟨w10.heap.size + 5, 0, none⟩) [ps1, ps2] := by
    refine ⟨fun ps hp => by have := (few2 ps hp).1; omega, Or.inr ⟨w10.heap.size + 5, 0, rfl, lt_of_block h16.2.2.2.2.2, fun j ps hj => ?_⟩⟩
    rcases two_some hj with ⟨rfl, rfl⟩ | ⟨rfl, rfl⟩
    · exact ⟨some ⟨w10.heap.size + 1, 0, none⟩, 1, by simp only [World.cell?, h16.2.2.2.2.2]; rfl, hP1⟩
    · exact ⟨some ⟨w10.heap.size + 4, 0, none⟩, 2, by simp only [World.cell?, h16.2.2.2.2.2]; rfl, hP2⟩
  have HTn := hide (trans_same _ a (some ⟨w10.heap.size + 5, 0, none⟩) 2 c 2 [ps1, ps2] rfl (by omega) ((HTr.out.trs few2).below hb16) hTs)
  have HB16 := hide hb16
  clear hb16 h16 hP1 hP2 hTs
  go_wp2_with fail
  refine HTn.out.mono ?_
  rintro e w17 ⟨rfl, q, hw17⟩
  have HB17 : Hid (Below w.heap.size w w17) := by
    rw [hw17]
    have k1 : Kp NZ (fun _ => (0, 0)) _ w w10 := HK9.out.trans ((kp_below HB10.out (fun _ => False) K9 (0, 0)).mono (fun _ h => h.elim))
    have b1 : Below w.heap.size w w10 := k1.below (Below.refl _ _) (fun b _ h => h rfl)
    have b2 := b1.trans (HB16.out.mono b1.size)
    exact ⟨b2.os, b2.tape, b2.output, b2.size, b2.block⟩
  clear hw17 HTn
  go_wp2
  go_ret
  exact ⟨rfl, HB17.out⟩

end Go.Proofs.YtfdclebajninfaaGreatDoor
