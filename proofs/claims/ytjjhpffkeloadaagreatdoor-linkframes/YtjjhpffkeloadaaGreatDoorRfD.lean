import Derived.Test.YtjjhpffkeloadaaGreatDoorRfA
import Derived.Test.YtjjhpffkeloadaaGreatDoorCWrites
import Derived.Test.YtjjhpffkeloadaaGreatDoorCRefSum
import Derived.Test.YtjjhpffkeloadaaGreatDoorCEye5
namespace Go.Proofs.YtjjhpffkeloadaaGreatDoor
open Go.RowKit

/-- What Encode has in hand: its frame's box, its list. -/
structure En (w w' : World) (cs : Array Value) (g q c : Nat) (ys : List Nat) : Prop where
  bel : Below w.heap.size w w'
  fr : w'.heap[w.heap.size]? = some (.cells cs 57 (0, 0))
  own : w'.ownsRow (w.heap.size + 1) 5 1 (.slice (some ⟨g, 0, none⟩) q c) q (C.vals ys)
theorem En.below {w w' wd : World} {cs : Array Value} {g q c : Nat} {ys : List Nat} (h : En w w' cs g q c ys) (hb : Below w'.heap.size w' wd) : En w wd cs g q c ys :=
  ⟨h.bel.trans (hb.mono h.bel.size), (hb.block _ (C.lt_of_block h.fr)).trans h.fr, C.owns_below h.own hb⟩
theorem En.app {w w' w2 : World} {cs : Array Value} {g q c g2 q2 c2 : Nat} {ys zs : List Nat} (h : En w w' cs g q c ys) (hg : w'.grownBy w2 (some g)) (ho : w2.ownsRow (w.heap.size + 1) 5 1 (.slice (some ⟨g2, 0, none⟩) q2 c2) q2 (C.vals ys ++ C.vals zs)) : En w w2 cs g2 q2 c2 (ys ++ zs) := by
  have hl := (C.owns_le h.own).2.1
  refine ⟨h.bel.grown hg h.bel.size (fun k e => by cases e; omega), (hg.block _ (C.lt_of_block h.fr) (fun e => ?_)).trans h.fr, by rw [C.vals_app]; exact ho⟩
  simp at e
  omega
theorem En.size {w w' : World} {cs : Array Value} {g q c : Nat} {ys : List Nat} (h : En w w' cs g q c ys) : w.heap.size + 1 ≤ w'.heap.size := C.lt_of_block h.fr
theorem owns_low {w : World} {B B' n s : Nat} {e : TypeId} {v : Value} {xs : List Value} (h : w.ownsRow B e s v n xs) (hB : B' ≤ B) : w.ownsRow B' e s v n xs := by
  refine ⟨h.1, h.2.imp id ?_⟩
  rintro ⟨g, cap, cur, e1, e2, r⟩
  exact ⟨g, cap, cur, e1, Nat.le_trans hB e2, r⟩
theorem owns_two (w : World) (x y : Value) : (w.alloc (.cells #[x, y] 5)).ownsRow w.heap.size 5 1 (.slice (some ⟨w.heap.size, 0, none⟩) 2 2) 2 [x, y] :=
  ⟨rfl, Or.inr ⟨w.heap.size, 2, #[x, y], rfl, Nat.le_refl _, heap_alloc_new _ _, Nat.le_refl _, by unfold maxLen; omega, rfl, rfl⟩⟩
theorem be_one (a : Nat) (h : a < 256) : C.beOf a 1 = [a] := by simp [C.beOf, Nat.mod_eq_of_lt h]

set_option maxRecDepth 100000 in
set_option maxHeartbeats 4000000 in
theorem renc_go (w : World) (a b mine yours seq ack n c : Nat) (sp : Option Addr) (body : List Nat) (hn : body.length = n) (hx : C.Bytes w sp body) (hf : (⟨(a : Int), (b : Int), mine, yours, seq, ack, body⟩ : Fr).fit) :
    Calls Tryz.prog 5 #[.agg #[.int .i64 (a : Int), .int .i64 (b : Int), .int .u64 (mine : Int), .int .u64 (yours : Int), .int .u64 (seq : Int), .int .u64 (ack : Int), .slice sp n c]] w fun e w' =>
      ∃ g q cc, e = .returned (.slice (some ⟨g, 0, none⟩) q cc) ∧ w'.ownsRow w.heap.size 5 1 (.slice (some ⟨g, 0, none⟩) q cc) q (C.vals (⟨(a : Int), (b : Int), mine, yours, seq, ack, body⟩ : Fr).bytes) ∧ Below w.heap.size w w' := by
  obtain ⟨f, hfe⟩ : ∃ f : Fr, f = ⟨(a : Int), (b : Int), mine, yours, seq, ack, body⟩ := ⟨_, rfl⟩
  rw [← hfe] at hf ⊢
  have hsm : f.small := by rw [hfe]; exact hx.small
  have HM := hide (fun w => rfit_any w f sp c)
  rw [decide_eq_true hf, hfe] at HM
  simp only [frV, hn] at HM
  have HHs := hide (Fr.head_small hf hsm)
  have HHd : Hid (f.head = (((((C.beOf a 1 ++ C.beOf b 1) ++ vB mine) ++ vB yours) ++ vB seq) ++ vB ack) ++ tB body) := by
    show _ = _
    rw [hfe]; unfold Fr.head; simp [List.append_assoc]
  obtain ⟨k1, k2, k3, k4, k5, k6, k7, -⟩ := hf
  rw [hfe] at k1 k2 k3 k4 k5 k6 k7
  simp only [hn] at k1 k2 k3 k4 k5 k6 k7
  have a8 : (a : Int) % 256 = (a : Int) := by omega
  have b8 : (b : Int) % 256 = (b : Int) := by omega
  have HV0 : Hid (C.vals (C.beOf a 1 ++ C.beOf b 1) = [.int .u8 (a : Int), .int .u8 (b : Int)]) := by
    show _ = _
    rw [be_one a (by omega), be_one b (by omega)]
    rfl
  have HBy : Hid (f.bytes = f.head ++ C.beOf (C.sumOf f.head) 4) := rfl
  have HX := hide hx
  have HN := hide hn
  have hvs := hide (sum_lt f.head HHs.out)
  clear hsm hfe hx hn k1 k2
  have HV1 := hide (fun w => C.ref_var_any mine (by omega) w)
  have hl1 : C.vs mine ≤ 10 := (C.vs_bounds mine (by omega)).2
  have Hl1 := hide (vB_len (show mine < 18446744073709551616 by omega))
  have Hs1 := hide (vB_small (show mine < 18446744073709551616 by omega))
  have HV2 := hide (fun w => C.ref_var_any yours (by omega) w)
  have hl2 : C.vs yours ≤ 10 := (C.vs_bounds yours (by omega)).2
  have Hl2 := hide (vB_len (show yours < 18446744073709551616 by omega))
  have Hs2 := hide (vB_small (show yours < 18446744073709551616 by omega))
  have HV3 := hide (fun w => C.ref_var_any seq (by omega) w)
  have hl3 : C.vs seq ≤ 10 := (C.vs_bounds seq (by omega)).2
  have Hl3 := hide (vB_len (show seq < 18446744073709551616 by omega))
  have Hs3 := hide (vB_small (show seq < 18446744073709551616 by omega))
  have HV4 := hide (fun w => C.ref_var_any ack (by omega) w)
  have hl4 : C.vs ack ≤ 10 := (C.vs_bounds ack (by omega)).2
  have Hl4 := hide (vB_len (show ack < 18446744073709551616 by omega))
  have Hs4 := hide (vB_small (show ack < 18446744073709551616 by omega))
  have hl5 : C.vs n ≤ 10 := (C.vs_bounds n (by omega)).2
  have Hl5 : Hid ((tB body).length = C.vs n + n) := by show _ = _; rw [tB_len (by have := HN.out; omega), HN.out]
  have Hs5 : Hid (∀ x ∈ tB body, x < 256) := tB_small (by have := HN.out; omega) HX.out.small
  have HTx := hide (fun w h => C.ref_text w sp n c body HN.out h (by omega))
  have HTv : Hid (C.varOf n (C.vs n - 1) ++ body = tB body) := by show _ = _; unfold tB vB; rw [HN.out]
  rw [HTv.out] at HTx
  clear HTv
  unfold C.Vared at HV1 HV2 HV3 HV4
  rw [show C.varOf mine (C.vs mine - 1) = vB mine from rfl] at HV1
  rw [show C.varOf yours (C.vs yours - 1) = vB yours from rfl] at HV2
  rw [show C.varOf seq (C.vs seq - 1) = vB seq from rfl] at HV3
  rw [show C.varOf ack (C.vs ack - 1) = vB ack from rfl] at HV4
  generalize vB mine = B1 at *
  generalize vB yours = B2 at *
  generalize vB seq = B3 at *
  generalize vB ack = B4 at *
  generalize tB body = B5 at *
  generalize C.vs mine = s1 at *
  generalize C.vs yours = s2 at *
  generalize C.vs seq = s3 at *
  generalize C.vs ack = s4 at *
  generalize C.vs n = s5 at *
  generalize C.beOf a 1 ++ C.beOf b 1 = B0 at *
  obtain ⟨cs, hcs⟩ : ∃ cs : Array Value, cs = #[.int .i64 (a : Int), .int .i64 (b : Int), .int .u64 (mine : Int), .int .u64 (yours : Int), .int .u64 (seq : Int), .int .u64 (ack : Int), .slice sp n c] := ⟨_, rfl⟩
  obtain ⟨w1, hw1⟩ : ∃ w1, w.alloc (.cells #[.int .i64 (a : Int), .int .i64 (b : Int), .int .u64 (mine : Int), .int .u64 (yours : Int), .int .u64 (seq : Int), .int .u64 (ack : Int), .slice sp n c] 57) = w1 := ⟨_, rfl⟩
  have hB1 : Below w.heap.size w w1 := by rw [← hw1]; exact (Below.refl _ _).alloc (Nat.le_refl _) _
  have hK1 : w1.heap[w.heap.size]? = some (.cells cs 57 (0, 0)) := by rw [← hw1, hcs]; exact heap_alloc_new _ _
  have hC : ∀ w' : World, w'.heap[w.heap.size]? = some (.cells cs 57 (0, 0)) → w'.cell? ⟨w.heap.size, 0, none⟩ = some (.int .i64 (a : Int)) ∧ w'.cell? ⟨w.heap.size, 1, none⟩ = some (.int .i64 (b : Int)) ∧ w'.cell? ⟨w.heap.size, 2, none⟩ = some (.int .u64 (mine : Int)) ∧ w'.cell? ⟨w.heap.size, 3, none⟩ = some (.int .u64 (yours : Int)) ∧ w'.cell? ⟨w.heap.size, 4, none⟩ = some (.int .u64 (seq : Int)) ∧ w'.cell? ⟨w.heap.size, 5, none⟩ = some (.int .u64 (ack : Int)) ∧ w'.cell? ⟨w.heap.size, 6, none⟩ = some (.slice sp n c) := fun w' h => by
    rw [hcs] at h
    obtain ⟨d0, d1, d2, d3, d4, d5, d6, -⟩ := blk7 h
    exact ⟨d0, d1, d2, d3, d4, d5, d6⟩
  have HC := hide hC
  obtain ⟨c0, c1, c2, c3, c4, c5, c6⟩ := hC w1 hK1
  have HK1 := hide hK1
  have HB1 := hide hB1
  have HW := hide hw1
  clear hcs hw1 hK1 hB1 hC
  go_enter Tryz.func5, Tryz.ntmps5
  go_upto_region 1 with (fail)
  rw [HW.out]
  go_wp2_with fail
  refine (HM.out _).mono ?_
  rintro e w2 ⟨rfl, hb2⟩
  have hk2 := (hb2.block _ (C.lt_of_block HK1.out)).trans HK1.out
  have hs2 := C.lt_of_block hk2
  obtain ⟨w3, hw3⟩ : ∃ w3, w2.alloc (.cells #[.int .u8 (a : Int), .int .u8 (b : Int)] 5) = w3 := ⟨_, rfl⟩
  have he3 : En w w3 cs w2.heap.size 2 2 B0 := by
    have h3 : Below w2.heap.size w2 w3 := by rw [← hw3]; exact (Below.refl _ _).alloc (Nat.le_refl _) _
    refine ⟨HB1.out.trans ((hb2.mono HB1.out.size).trans (h3.mono (by omega))), (h3.block _ hs2).trans hk2, ?_⟩
    rw [HV0.out, ← hw3]
    exact owns_low (owns_two w2 _ _) hs2
  clear c0 c1 c2 c3 c4 c5 c6
  obtain ⟨c0, c1, -⟩ := HC.out w2 hk2
  obtain ⟨-, -, c2, -⟩ := HC.out w3 he3.fr
  have HE3 := hide he3
  have HW3 := hide hw3
  clear hb2 hk2 hs2 hw3 he3 HM
  go_upto_region 4 with (fail)
  rw [HW3.out]
  go_wp2_with fail
  refine (HV1.out _).mono ?_
  rintro e v1 ⟨h1, d1, rfl, ho1, hb1⟩
  have HF1 := hide (HE3.out.below hb1)
  have HO1 := hide (C.owns_bytes ho1 Hs1.out)
  have hz1 := HF1.out.size
  clear ho1 hb1
  clear c0 c1 c2
  go_wp2_with (at_builtin; refine C.wpList_append_bytes rfl (.tmp 14) (.tmp 17) rfl (w.heap.size + 1) w2.heap.size (2) 2 (C.vals (B0)) rfl HF1.out.own (some ⟨h1, 0, none⟩) s1 d1 B1 rfl Hl1.out HO1.out (by omega) hz1 ?_; intro g1 k1 u1 hown1 hgrow1 hat1; have he4 := En.app HF1.out hgrow1 hown1; obtain ⟨c0, c1, c2, c3, c4, c5, c6⟩ := HC.out u1 he4.fr; have HE4 := hide he4; clear he4 hown1 hgrow1 hat1)
  refine (HV2.out _).mono ?_
  rintro e v2 ⟨h2, d2, rfl, ho2, hb2⟩
  have HF2 := hide (HE4.out.below hb2)
  have HO2 := hide (C.owns_bytes ho2 Hs2.out)
  have hz2 := HF2.out.size
  clear ho2 hb2
  clear c0 c1 c2 c3 c4 c5 c6
  go_wp2_with (at_builtin; refine C.wpList_append_bytes rfl (.tmp 19) (.tmp 22) rfl (w.heap.size + 1) g1 (2 + s1) k1 (C.vals ((B0) ++ B1)) rfl HF2.out.own (some ⟨h2, 0, none⟩) s2 d2 B2 rfl Hl2.out HO2.out (by omega) hz2 ?_; intro g2 k2 u2 hown2 hgrow2 hat2; have he5 := En.app HF2.out hgrow2 hown2; obtain ⟨c0, c1, c2, c3, c4, c5, c6⟩ := HC.out u2 he5.fr; have HE5 := hide he5; clear he5 hown2 hgrow2 hat2)
  refine (HV3.out _).mono ?_
  rintro e v3 ⟨h3, d3, rfl, ho3, hb3⟩
  have HF3 := hide (HE5.out.below hb3)
  have HO3 := hide (C.owns_bytes ho3 Hs3.out)
  have hz3 := HF3.out.size
  clear ho3 hb3
  clear c0 c1 c2 c3 c4 c5 c6
  go_wp2_with (at_builtin; refine C.wpList_append_bytes rfl (.tmp 24) (.tmp 27) rfl (w.heap.size + 1) g2 (2 + s1 + s2) k2 (C.vals (((B0) ++ B1) ++ B2)) rfl HF3.out.own (some ⟨h3, 0, none⟩) s3 d3 B3 rfl Hl3.out HO3.out (by omega) hz3 ?_; intro g3 k3 u3 hown3 hgrow3 hat3; have he6 := En.app HF3.out hgrow3 hown3; obtain ⟨c0, c1, c2, c3, c4, c5, c6⟩ := HC.out u3 he6.fr; have HE6 := hide he6; clear he6 hown3 hgrow3 hat3)
  refine (HV4.out _).mono ?_
  rintro e v4 ⟨h4, d4, rfl, ho4, hb4⟩
  have HF4 := hide (HE6.out.below hb4)
  have HO4 := hide (C.owns_bytes ho4 Hs4.out)
  have hz4 := HF4.out.size
  clear ho4 hb4
  clear c0 c1 c2 c3 c4 c5 c6
  go_wp2_with (at_builtin; refine C.wpList_append_bytes rfl (.tmp 29) (.tmp 32) rfl (w.heap.size + 1) g3 (2 + s1 + s2 + s3) k3 (C.vals ((((B0) ++ B1) ++ B2) ++ B3)) rfl HF4.out.own (some ⟨h4, 0, none⟩) s4 d4 B4 rfl Hl4.out HO4.out (by omega) hz4 ?_; intro g4 k4 u4 hown4 hgrow4 hat4; have he7 := En.app HF4.out hgrow4 hown4; obtain ⟨c0, c1, c2, c3, c4, c5, c6⟩ := HC.out u4 he7.fr; have HE7 := hide he7; clear he7 hown4 hgrow4 hat4)
  refine (HTx.out _ (HX.out.below HE7.out.bel)).mono ?_
  rintro e v5 ⟨h5, d5, rfl, ho5, hb5⟩
  have HF5 := hide (HE7.out.below hb5)
  have HO5 := hide (C.owns_bytes ho5 Hs5.out)
  have hz5 := HF5.out.size
  clear ho5 hb5
  clear c0 c1 c2 c3 c4 c5 c6
  go_wp2_with (at_builtin; refine C.wpList_append_bytes rfl (.tmp 34) (.tmp 37) rfl (w.heap.size + 1) g4 (2 + s1 + s2 + s3 + s4) k4 (C.vals (((((B0) ++ B1) ++ B2) ++ B3) ++ B4)) rfl HF5.out.own (some ⟨h5, 0, none⟩) (s5 + n) d5 B5 rfl Hl5.out HO5.out (by omega) hz5 ?_; intro g5 k5 u5 hown5 hgrow5 hat5; have he8 := En.app HF5.out hgrow5 hown5; obtain ⟨c0, c1, c2, c3, c4, c5, c6⟩ := HC.out u5 he8.fr; have HE8 := hide he8; clear he8 hown5 hgrow5 hat5)
  rw [← HHd.out] at HE8
  refine (C.refsum_any _ (some ⟨g5, 0, none⟩) _ _ f.head (by have := HE8.out.own.1; simpa [C.vals] using this) (C.owns_bytes HE8.out.own HHs.out) (by omega)).mono ?_
  rintro e v6 ⟨rfl, m6, hw6⟩
  have he6 := HE8.out.below (show Below u5.heap.size u5 v6 by rw [hw6]; exact C.bad_drews u5 m6)
  have HE6 := hide he6
  clear hw6 he6 c0 c1 c2 c3 c4 c5 c6
  go_wp2_with fail
  refine (C.ref_u32 _ _ hvs.out).mono ?_
  rintro e v7 ⟨rfl, hw7⟩
  have hb7 : Below v6.heap.size v6 v7 := by rw [hw7]; exact (Below.refl _ _).alloc (Nat.le_refl _) _
  have HE7 := hide (HE6.out.below hb7)
  have HO7 : Hid (C.Bytes v7 (some ⟨v6.heap.size, 0, none⟩) (C.beOf (C.sumOf f.head) 4)) := by
    show C.Bytes _ _ _
    rw [hw7]
    exact made_by v6 _ (be_small _ _)
  have Hl7 := hide (be_len (C.sumOf f.head) 4)
  have hz7 := HE7.out.size
  clear hw7 hb7
  go_wp2_with (at_builtin; refine C.wpList_append_bytes rfl (.tmp 39) (.tmp 42) rfl (w.heap.size + 1) g5 (2 + s1 + s2 + s3 + s4 + (s5 + n)) k5 (C.vals f.head) rfl HE7.out.own (some ⟨v6.heap.size, 0, none⟩) 4 4 (C.beOf (C.sumOf f.head) 4) rfl Hl7.out HO7.out (by omega) hz7 ?_; intro g8 k8 w8 hown8 hgrow8 hat8; have he9 := En.app HE7.out hgrow8 hown8; have HE9 := hide he9; clear he9 hown8 hgrow8 hat8)
  go_ret
  rw [HBy.out]
  exact ⟨g8, _, k8, rfl, owns_low HE9.out.own (Nat.le_succ _), HE9.out.bel⟩
set_option maxRecDepth 100000 in
theorem renc_no (w : World) (f : Fr) (sp : Option Addr) (c : Nat) (hf : ¬ f.fit) :
    Calls Tryz.prog 5 #[frV f sp c] w fun e w' => e = .returned (.slice none 0 0) ∧ Below w.heap.size w w' := by
  have HM := hide (fun w => rfit_any w f sp c)
  rw [decide_eq_false hf] at HM
  obtain ⟨w1, hw1⟩ : ∃ w1, w.alloc (.cells (frC f sp c) 57) = w1 := ⟨_, rfl⟩
  have hB1 : Below w.heap.size w w1 := by rw [← hw1]; exact (Below.refl _ _).alloc (Nat.le_refl _) _
  have hK1 : w1.heap[w.heap.size]? = some (.cells (frC f sp c) 57 (0, 0)) := by rw [← hw1]; exact heap_alloc_new _ _
  unfold frC at hK1 hw1
  obtain ⟨c0, c1, c2, c3, c4, c5, c6, -⟩ := blk7 hK1
  unfold frV at HM ⊢
  have HB1 := hide hB1
  have HW := hide hw1
  clear hw1 hK1 hB1 hf
  go_enter Tryz.func5, Tryz.ntmps5
  go_upto_region 1 with (fail)
  rw [HW.out]
  go_wp2_with fail
  refine (HM.out _).mono ?_
  rintro e w2 ⟨rfl, hb2⟩
  have HB2 : Hid (Below w.heap.size w w2) := HB1.out.trans (hb2.mono HB1.out.size)
  clear hb2 c0 c1 c2 c3 c4 c5 c6
  go_wp2
  go_ret
  exact ⟨rfl, HB2.out⟩
/-- THE DOCUMENT's ENCODE. -/
theorem renc_any (w : World) (f : Fr) (sp : Option Addr) (c : Nat) (hx : C.Bytes w sp f.body) :
    Calls Tryz.prog 5 #[frV f sp c] w fun e w' => ∃ a q cc, e = .returned (.slice a q cc) ∧ w'.ownsRow w.heap.size 5 1 (.slice a q cc) q (C.vals (encB f)) ∧ Below w.heap.size w w' := by
  by_cases hf : f.fit
  · obtain ⟨fr, tt, mine, yours, seq, ack, body⟩ := f
    have h1 := hf.1
    have h2 := hf.2.1
    simp only at h1 h2
    obtain ⟨a, rfl⟩ := Int.eq_ofNat_of_zero_le h1.1
    obtain ⟨b, rfl⟩ := Int.eq_ofNat_of_zero_le h2.1
    refine (renc_go w a b mine yours seq ack body.length c sp body rfl hx hf).mono ?_
    rintro e w' ⟨g, q, cc, he, ho, hb⟩
    refine ⟨_, q, cc, he, ?_, hb⟩
    unfold encB
    rw [if_pos hf]
    exact ho
  · refine (renc_no w f sp c hf).mono ?_
    rintro e w' ⟨he, hb⟩
    refine ⟨none, 0, 0, he, ?_, hb⟩
    unfold encB
    rw [if_neg hf]
    exact ⟨rfl, Or.inl ⟨rfl, rfl⟩⟩
end Go.Proofs.YtjjhpffkeloadaaGreatDoor
namespace Go.Proofs.YtjjhpffkeloadaaGreatDoor
open Go.RowKit

theorem bytes_off {w w' : World} {s : Option Addr} {ys : List Nat} {B : Nat} (h : C.Bytes w s ys) (hlo : ∀ p, s = some p → B ≤ p.block) (hk : ∀ g, B ≤ g → g < w.heap.size → w'.heap[g]? = w.heap[g]?) (hsz : w.heap.size ≤ w'.heap.size) : C.Bytes w' s ys := by
  refine ⟨h.small, h.lie.imp id ?_⟩
  rintro ⟨g, o, e, hg, hc⟩
  refine ⟨g, o, e, Nat.lt_of_lt_of_le hg hsz, fun j hj => ?_⟩
  rw [← hc j hj]
  exact World.cell?_of_block (a := ⟨g, o + j, none⟩) (hk g (hlo _ e) hg)
/-- What Decode has in hand: its result's box, its Eye, its frame's box. -/
structure Dr (w w' : World) (sp : Option Addr) (c : Nat) (xs : List Nat) (a f : Nat) (cs : Array Value) : Prop where
  bel : Below w.heap.size w w'
  res : w'.heap[w.heap.size]? = some (.cells z7 57 (0, 0))
  ey : C.Ey w' (w.heap.size + 1) sp c xs a f
  fr : w'.heap[w.heap.size + 2]? = some (.cells cs 57 (0, 0))
  hx : C.Bytes w sp xs
section
variable {w w' w2 : World} {sp : Option Addr} {c : Nat} {xs : List Nat} {a f a2 f2 : Nat} {cs : Array Value}
theorem Dr.but (d : Dr w w' sp c xs a f cs) (hr : C.Ey w2 (w.heap.size + 1) sp c xs a2 f2) (hb : C.But (w.heap.size + 1) w' w2) : Dr w w2 sp c xs a2 f2 cs := by
  have h1 := C.lt_of_block d.res
  have h2 := C.lt_of_block d.fr
  exact ⟨hb.below d.bel (by omega) d.bel.size, (hb.block _ h1 (by omega)).trans d.res, hr, (hb.block _ h2 (by omega)).trans d.fr, d.hx⟩
theorem Dr.below (d : Dr w w' sp c xs a f cs) (hb : Below w'.heap.size w' w2) : Dr w w2 sp c xs a f cs := d.but (d.ey.below hb) (C.but_of hb _)
theorem Dr.set (d : Dr w w' sp c xs a f cs) (i : Nat) (v : Value) : Dr w (w'.setCell ⟨w.heap.size + 2, i, none⟩ v) sp c xs a f (cs.setIfInBounds i v) := by
  have hb := d.bel.setCell (p := ⟨w.heap.size + 2, i, none⟩) (by show _ ≤ w.heap.size + 2; omega) v
  exact ⟨hb, (Below.heap_setCell _ _ _ _ (by simp)).trans d.res, ⟨(Below.heap_setCell _ _ _ _ (by simp)).trans d.ey.blk, d.hx.below hb, d.ey.form, d.ey.len, d.ey.cap, d.ey.most, d.ey.le⟩, C.block_set d.fr v, d.hx⟩
theorem Dr.lt (d : Dr w w' sp c xs a f cs) : w.heap.size + 2 < w'.heap.size := C.lt_of_block d.fr
end
/-- The result's box, written over. -/
theorem end7 {w w' : World} (hb : Below w.heap.size w w') (hr : w'.heap[w.heap.size]? = some (.cells z7 57 (0, 0))) (y0 y1 y2 y3 y4 y5 y6 : Value) :
    ∃ wz, (((((((w'.setCell ⟨w.heap.size, 0, none⟩ y0).setCell ⟨w.heap.size, 1, none⟩ y1).setCell ⟨w.heap.size, 2, none⟩ y2).setCell ⟨w.heap.size, 3, none⟩ y3).setCell ⟨w.heap.size, 4, none⟩ y4).setCell ⟨w.heap.size, 5, none⟩ y5).setCell ⟨w.heap.size, 6, none⟩ y6) = wz ∧ wz.heap[w.heap.size]? = some (.cells #[y0, y1, y2, y3, y4, y5, y6] 57 (0, 0)) ∧ Below w.heap.size w wz ∧ (∀ g, w.heap.size < g → wz.heap[g]? = w'.heap[g]?) ∧ wz.heap.size = w'.heap.size := by
  refine ⟨_, rfl, put7 hr y0 y1 y2 y3 y4 y5 y6, ((((((hb.setCell (Nat.le_refl _) _).setCell (Nat.le_refl _) _).setCell (Nat.le_refl _) _).setCell (Nat.le_refl _) _).setCell (Nat.le_refl _) _).setCell (Nat.le_refl _) _).setCell (Nat.le_refl _) _, fun g hg => ?_, ?_⟩
  · have hs : ∀ (W : World) (i : Nat) (v : Value), (W.setCell ⟨w.heap.size, i, none⟩ v).heap[g]? = W.heap[g]? := fun W i v => Below.heap_setCell _ _ _ _ (by show g ≠ w.heap.size; omega)
    rw [hs, hs, hs, hs, hs, hs, hs]
  · simp [World.setCell]
def RdPost (w : World) (f : Fr) (r : Bool) (e : Ending) (w' : World) : Prop :=
  ∃ sq k, e = .returned (.tuple #[if r = true then frV f sq k else frV fr0 none 0, .bool r]) ∧ C.Bytes w' sq f.body ∧ (∀ p, sq = some p → w.heap.size ≤ p.block) ∧ Below w.heap.size w w'

set_option maxRecDepth 100000 in
set_option maxHeartbeats 4000000 in
theorem rdec_go (w : World) (sp : Option Addr) (n cap : Nat) (xs : List Nat) (hl : xs.length = n) (hcap : n ≤ cap) (hc : cap ≤ 9223372036854775807) (hn : n ≤ 140737488351232) (hx : C.Bytes w sp xs) (hform : (cap = 0 ∧ xs = []) ∨ ∃ g o, sp = some ⟨g, o, none⟩) (x1 x2 x3 x4 x5 x6 x7 : C.It × Nat × Nat)
    (e1 : x1 = C.rNext 0 0 xs 0 0) (e2 : x2 = C.rNext 0 0 xs x1.2.1 x1.2.2) (e3 : x3 = C.rNext 3 1099511627776 xs x2.2.1 x2.2.2) (e4 : x4 = C.rNext 3 1099511627776 xs x3.2.1 x3.2.2) (e5 : x5 = C.rNext 3 1099511627776 xs x4.2.1 x4.2.2)
    (e6 : x6 = C.rNext 3 1099511627776 xs x5.2.1 x5.2.2) (e7 : x7 = C.rText 2048 xs x6.2.1 x6.2.2) (f : Fr) (hf : f = ⟨x1.1.num, x2.1.num, x3.1.num, x4.1.num, x5.1.num, x6.1.num, C.got xs x6.2.1 x7⟩) (r : Bool) (hr : r = decide (x7.2.2 = 0 ∧ f.fit ∧ encB f = xs)) :
    Calls Tryz.prog 16 #[.slice sp n cap] w (RdPost w f r) := by
  have HX := hide hx
  have HL := hide hl
  have HR := hide hr
  have HF := hide hf
  have E1 := hide e1
  have E2 := hide e2
  have E3 := hide e3
  have E4 := hide e4
  have E5 := hide e5
  have E6 := hide e6
  have E7 := hide e7
  have HForm := hide hform
  clear hx hl hr hf hform e1 e2 e3 e4 e5 e6 e7
  obtain ⟨w0, hw0⟩ : ∃ w0, w.alloc (.cells z7 57) = w0 := ⟨_, rfl⟩
  obtain ⟨w1, hw1⟩ : ∃ w1, w0.alloc (.cells #[.slice sp n cap, .int .i64 0, .int .i64 0] 95) = w1 := ⟨_, rfl⟩
  obtain ⟨w2, hw2⟩ : ∃ w2, w1.alloc (.cells z7 57) = w2 := ⟨_, rfl⟩
  have hs0 : w0.heap.size = w.heap.size + 1 := by rw [← hw0]; simp
  have hs1 : w1.heap.size = w.heap.size + 2 := by rw [← hw1]; simp [hs0]
  have hD : Dr w w2 sp cap xs 0 0 z7 := by
    have b0 : Below w.heap.size w w0 := by rw [← hw0]; exact (Below.refl _ _).alloc (Nat.le_refl _) _
    have b1 : Below w0.heap.size w0 w1 := by rw [← hw1]; exact (Below.refl _ _).alloc (Nat.le_refl _) _
    have b2 : Below w1.heap.size w1 w2 := by rw [← hw2]; exact (Below.refl _ _).alloc (Nat.le_refl _) _
    have k0 : w0.heap[w.heap.size]? = some (.cells z7 57 (0, 0)) := by rw [← hw0]; exact heap_alloc_new _ _
    have k1 : w1.heap[w.heap.size + 1]? = some (.cells #[.slice sp n cap, .int .i64 0, .int .i64 0] 95 (0, 0)) := by rw [← hs0, ← hw1]; exact heap_alloc_new _ _
    have k2 : w2.heap[w.heap.size + 2]? = some (.cells z7 57 (0, 0)) := by rw [← hs1, ← hw2]; exact heap_alloc_new _ _
    have b : Below w.heap.size w w2 := b0.trans ((b1.mono (by omega)).trans (b2.mono (by omega)))
    exact ⟨b, (b2.block _ (by omega)).trans ((b1.block _ (by omega)).trans k0), ⟨by rw [HL.out]; exact (b2.block _ (by omega)).trans k1, HX.out.below b, HForm.out, by rw [HL.out]; exact hn, by rw [HL.out]; exact hcap, hc, Nat.zero_le _⟩, k2, HX.out⟩
  have H2 := hide hD
  have HW0 := hide hw0
  have HW1 := hide hw1
  have HW2 := hide hw2
  have HS0 := hide hs0
  have HS1 := hide hs1
  clear hw0 hw1 hw2 hs0 hs1 hD
  unfold z7 at HW0 HW2 H2
  go_enter Tryz.func16, Tryz.ntmps16
  go_upto_region 1 with (fail)
  rw [HW0.out]
  go_upto_region 2 with (fail)
  rw [HW1.out, HS0.out]
  go_upto_region 3 with (fail)
  rw [HW2.out, HS1.out]
  have HU := hide (C.eu8_any w2 _ _ _ _ _ _ H2.out.ey)
  rw [← E1.out] at HU
  have hs1 := C.num_small1 xs HX.out.small 0 0 0 0 (by simp [C.width])
  rw [← E1.out] at hs1
  go_wp2_with fail
  refine HU.out.mono ?_
  rintro e a0 ⟨rfl, hr0, hb0⟩
  have G0 := hide (H2.out.but hr0 hb0)
  clear hr0 hb0 HU H2
  obtain ⟨c0, c1, c2, c3, c4, c5, c6, cf⟩ := blk7 G0.out.fr
  have hlt := G0.out.lt
  go_upto_region 4 with (fail)
  obtain ⟨b0, hb0⟩ : ∃ v, a0.setCell ⟨w.heap.size + 2, 0, none⟩ (.int .i64 (x1.1.num : Int)) = v := ⟨_, rfl⟩
  rw [hb0]
  have K0 := hide (G0.out.set 0 (.int .i64 (x1.1.num : Int)))
  rw [hb0] at K0
  simp only [List.setIfInBounds_toArray, List.set_cons_zero] at K0
  clear hb0 G0 c0 c1 c2 c3 c4 c5 c6 cf hlt
  have HU := hide (C.eu8_any b0 _ _ _ _ _ _ K0.out.ey)
  rw [← E2.out] at HU
  have hs2 := C.num_small1 xs HX.out.small 0 0 x1.2.1 x1.2.2 (by simp [C.width])
  rw [← E2.out] at hs2
  go_wp2_with fail
  refine HU.out.mono ?_
  rintro e a1 ⟨rfl, hr1, hb1⟩
  have G1 := hide (K0.out.but hr1 hb1)
  clear hr1 hb1 HU K0
  obtain ⟨c0, c1, c2, c3, c4, c5, c6, cf⟩ := blk7 G1.out.fr
  have hlt := G1.out.lt
  go_upto_region 5 with (fail)
  obtain ⟨b1, hb1⟩ : ∃ v, a1.setCell ⟨w.heap.size + 2, 1, none⟩ (.int .i64 (x2.1.num : Int)) = v := ⟨_, rfl⟩
  rw [hb1]
  have K1 := hide (G1.out.set 1 (.int .i64 (x2.1.num : Int)))
  rw [hb1] at K1
  simp only [List.setIfInBounds_toArray, List.set_cons_succ, List.set_cons_zero] at K1
  clear hb1 G1 c0 c1 c2 c3 c4 c5 c6 cf hlt
  have HU := hide (C.evar_any b1 _ _ _ _ _ _ 1099511627776 (by omega) K1.out.ey)
  rw [← E3.out] at HU
  go_wp2_with fail
  refine HU.out.mono ?_
  rintro e a2 ⟨rfl, hr2, hb2⟩
  have G2 := hide (K1.out.but hr2 hb2)
  clear hr2 hb2 HU K1
  obtain ⟨c0, c1, c2, c3, c4, c5, c6, cf⟩ := blk7 G2.out.fr
  have hlt := G2.out.lt
  go_upto_region 6 with (fail)
  obtain ⟨b2, hb2⟩ : ∃ v, a2.setCell ⟨w.heap.size + 2, 2, none⟩ (.int .u64 (x3.1.num : Int)) = v := ⟨_, rfl⟩
  rw [hb2]
  have K2 := hide (G2.out.set 2 (.int .u64 (x3.1.num : Int)))
  rw [hb2] at K2
  simp only [List.setIfInBounds_toArray, List.set_cons_succ, List.set_cons_zero] at K2
  clear hb2 G2 c0 c1 c2 c3 c4 c5 c6 cf hlt
  have HU := hide (C.evar_any b2 _ _ _ _ _ _ 1099511627776 (by omega) K2.out.ey)
  rw [← E4.out] at HU
  go_wp2_with fail
  refine HU.out.mono ?_
  rintro e a3 ⟨rfl, hr3, hb3⟩
  have G3 := hide (K2.out.but hr3 hb3)
  clear hr3 hb3 HU K2
  obtain ⟨c0, c1, c2, c3, c4, c5, c6, cf⟩ := blk7 G3.out.fr
  have hlt := G3.out.lt
  go_upto_region 7 with (fail)
  obtain ⟨b3, hb3⟩ : ∃ v, a3.setCell ⟨w.heap.size + 2, 3, none⟩ (.int .u64 (x4.1.num : Int)) = v := ⟨_, rfl⟩
  rw [hb3]
  have K3 := hide (G3.out.set 3 (.int .u64 (x4.1.num : Int)))
  rw [hb3] at K3
  simp only [List.setIfInBounds_toArray, List.set_cons_succ, List.set_cons_zero] at K3
  clear hb3 G3 c0 c1 c2 c3 c4 c5 c6 cf hlt
  have HU := hide (C.evar_any b3 _ _ _ _ _ _ 1099511627776 (by omega) K3.out.ey)
  rw [← E5.out] at HU
  go_wp2_with fail
  refine HU.out.mono ?_
  rintro e a4 ⟨rfl, hr4, hb4⟩
  have G4 := hide (K3.out.but hr4 hb4)
  clear hr4 hb4 HU K3
  obtain ⟨c0, c1, c2, c3, c4, c5, c6, cf⟩ := blk7 G4.out.fr
  have hlt := G4.out.lt
  go_upto_region 8 with (fail)
  obtain ⟨b4, hb4⟩ : ∃ v, a4.setCell ⟨w.heap.size + 2, 4, none⟩ (.int .u64 (x5.1.num : Int)) = v := ⟨_, rfl⟩
  rw [hb4]
  have K4 := hide (G4.out.set 4 (.int .u64 (x5.1.num : Int)))
  rw [hb4] at K4
  simp only [List.setIfInBounds_toArray, List.set_cons_succ, List.set_cons_zero] at K4
  clear hb4 G4 c0 c1 c2 c3 c4 c5 c6 cf hlt
  have HU := hide (C.evar_any b4 _ _ _ _ _ _ 1099511627776 (by omega) K4.out.ey)
  rw [← E6.out] at HU
  go_wp2_with fail
  refine HU.out.mono ?_
  rintro e a5 ⟨rfl, hr5, hb5⟩
  have G5 := hide (K4.out.but hr5 hb5)
  clear hr5 hb5 HU K4
  obtain ⟨c0, c1, c2, c3, c4, c5, c6, cf⟩ := blk7 G5.out.fr
  have hlt := G5.out.lt
  go_upto_region 9 with (fail)
  obtain ⟨b5, hb5⟩ : ∃ v, a5.setCell ⟨w.heap.size + 2, 5, none⟩ (.int .u64 (x6.1.num : Int)) = v := ⟨_, rfl⟩
  rw [hb5]
  have K5 := hide (G5.out.set 5 (.int .u64 (x6.1.num : Int)))
  rw [hb5] at K5
  simp only [List.setIfInBounds_toArray, List.set_cons_succ, List.set_cons_zero] at K5
  clear hb5 G5 c0 c1 c2 c3 c4 c5 c6 cf hlt
  have HG := hide (C.etext_any b5 _ _ _ _ _ _ 2048 (by omega) K5.out.ey)
  rw [← E7.out] at HG
  have HGs := hide (C.got_small HX.out.small x6.2.1 x7)
  obtain ⟨bd, hbd⟩ : ∃ bd, C.got xs x6.2.1 x7 = bd := ⟨_, rfl⟩
  rw [hbd] at HG HGs HF
  obtain ⟨bl, hbl⟩ : ∃ bl, bd.length = bl := ⟨_, rfl⟩
  have HBL := hide hbl
  clear hbl hbd
  unfold C.EyeBytes at HG
  rw [HBL.out] at HG
  go_wp2_with fail
  refine HG.out.mono ?_
  rintro e a6 ⟨sq, k, rfl, hy6, hlo6, hr6, hb6⟩
  have G6 := hide (K5.out.but hr6 hb6)
  have HLo : Hid (∀ p, sq = some p → w.heap.size + 3 ≤ p.block) := fun p hp => Nat.le_trans K5.out.lt (hlo6 p hp)
  have HY6 := hide hy6
  clear hr6 hb6 HG K5 hlo6 hy6
  obtain ⟨c0, c1, c2, c3, c4, c5, c6, cf⟩ := blk7 G6.out.fr
  have hlt := G6.out.lt
  go_upto_region 10 with (fail)
  obtain ⟨b6, hb6⟩ : ∃ v, a6.setCell ⟨w.heap.size + 2, 6, none⟩ (.slice sq bl k) = v := ⟨_, rfl⟩
  rw [hb6]
  have K6 := hide (G6.out.set 6 (.slice sq bl k))
  have HY : Hid (C.Bytes b6 sq bd) := by
    show C.Bytes _ _ _
    rw [← hb6]
    exact bytes_off HY6.out HLo.out (fun g hg _ => Below.heap_setCell _ _ _ _ (by show g ≠ w.heap.size + 2; omega)) (by simp [World.setCell])
  rw [hb6] at K6
  simp only [List.setIfInBounds_toArray, List.set_cons_succ, List.set_cons_zero] at K6
  clear hb6 G6 HY6 c0 c1 c2 c3 c4 c5 c6 cf hlt
  have HFt := hide (fun w => rfit_any w f sq k)
  have HEn := hide (fun w h => renc_any w f sq k h)
  have HFv : Hid (frV f sq k = .agg #[.int .i64 (x1.1.num : Int), .int .i64 (x2.1.num : Int), .int .u64 (x3.1.num : Int), .int .u64 (x4.1.num : Int), .int .u64 (x5.1.num : Int), .int .u64 (x6.1.num : Int), .slice sq bl k]) := by
    show _ = _
    rw [HF.out]; unfold frV; rw [HBL.out]
  have HFb : Hid (f.body = bd) := by show _ = _; rw [HF.out]
  rw [HFv.out] at HFt HEn
  rw [HFb.out] at HEn
  have HEs : Hid (∀ x ∈ encB f, x < 256) := encB_small (by unfold Fr.small; rw [HFb.out]; exact HGs.out)
  have HEl := hide (encB_len f)
  clear HF
  unfold RdPost
  rw [HFb.out]
  obtain ⟨c0, c1, c2, c3, c4, c5, c6, cf⟩ := blk7 K6.out.fr
  obtain ⟨-, -, d2, -⟩ := C.blk3 K6.out.ey.blk
  have hlt := K6.out.lt
  have hlt1 : w.heap.size + 1 < b6.heap.size := by omega
  by_cases hbad : x7.2.2 = 0
  · have hb' : ((x7.2.2 : Int) != 0) = false := by simp [hbad]
    by_cases hfit : f.fit
    · rw [decide_eq_true hfit] at HFt
      go_wp2_with fail
      refine (HFt.out _).mono ?_
      rintro e a7 ⟨rfl, hb7⟩
      have K7 := hide (K6.out.below hb7)
      have HY7 : Hid (C.Bytes a7 sq bd) := HY.out.below hb7
      clear hb7 K6 HY HFt c0 c1 c2 c3 c4 c5 c6 cf d2 hlt hlt1
      obtain ⟨c0, c1, c2, c3, c4, c5, c6, cf⟩ := blk7 K7.out.fr
      have hlt := K7.out.lt
      go_wp2_with fail
      refine (HEn.out _ HY7.out).mono ?_
      rintro e a8 ⟨sa, q, cc, rfl, ho8, hb8⟩
      have K8 := hide (K7.out.below hb8)
      have HY8 : Hid (C.Bytes a8 sq bd) := HY7.out.below hb8
      have HQ : Hid ((encB f).length = q) := by show _ = _; have := ho8.1; simpa [C.vals] using this
      have HO8 := hide (C.owns_bytes ho8 HEs.out)
      clear ho8 hb8 K7 HY7 HEn c0 c1 c2 c3 c4 c5 c6 cf hlt
      go_wp2_with fail
      refine (C.eq_dec _ sa sp q n cc cap (encB f) xs HQ.out HL.out (by have := HQ.out; have := HEl.out; omega) (by omega) HO8.out (HX.out.below K8.out.bel)).mono ?_
      rintro e a9 ⟨r9, rfl, hr9, q9, hw9⟩
      have hb9 : Below a8.heap.size a8 a9 := by rw [hw9]; exact C.bad_drews a8 q9
      have K9 := hide (K8.out.below hb9)
      have HY9 : Hid (C.Bytes a9 sq bd) := HY8.out.below hb9
      clear hb9 hw9 K8 HY8 HO8
      cases r9 with
      | true =>
        have HR0 : Hid (r = true) := by show _ = _; rw [HR.out]; exact decide_eq_true ⟨hbad, hfit, hr9.1 rfl⟩
        clear hr9 hbad
        obtain ⟨r0, r1, r2, r3, r4, r5, r6, rf⟩ := blk7 (show a9.heap[w.heap.size]? = some (.cells #[.int .i64 0, .int .i64 0, .int .u64 0, .int .u64 0, .int .u64 0, .int .u64 0, .slice none 0 0] 57 (0, 0)) from K9.out.res)
        obtain ⟨c0, c1, c2, c3, c4, c5, c6, cf⟩ := blk7 K9.out.fr
        have hltr := C.lt_of_block K9.out.res
        have hltf := C.lt_of_block K9.out.fr
        go_wp2
        obtain ⟨wz, hz, hp, hbz, hkz, hsz⟩ := end7 K9.out.bel K9.out.res (.int .i64 (x1.1.num : Int)) (.int .i64 (x2.1.num : Int)) (.int .u64 (x3.1.num : Int)) (.int .u64 (x4.1.num : Int)) (.int .u64 (x5.1.num : Int)) (.int .u64 (x6.1.num : Int)) (.slice sq bl k)
        rw [hz]
        refine bodyPost_ret (results_row_tmp rfl _ _ w.heap.size 57 _ (0, 0) _ rfl hp Tryz.underlying57 rfl (by kernel_rfl)) rfl ?_
        exact ⟨sq, k, by rw [HR0.out, if_pos rfl, HFv.out]; rfl, (by rw [HFb.out]; exact bytes_off HY9.out HLo.out (fun g hg _ => hkz g (by omega)) (by omega)), fun p hp => by have := HLo.out p hp; omega, hbz⟩
      | false =>
        have HR0 : Hid (r = false) := by show _ = _; rw [HR.out]; exact decide_eq_false (fun h => by have := hr9.2 h.2.2; cases this)
        clear hr9 hbad
        obtain ⟨r0, r1, r2, r3, r4, r5, r6, rf⟩ := blk7 (show a9.heap[w.heap.size]? = some (.cells #[.int .i64 0, .int .i64 0, .int .u64 0, .int .u64 0, .int .u64 0, .int .u64 0, .slice none 0 0] 57 (0, 0)) from K9.out.res)
        have hltr := C.lt_of_block K9.out.res
        go_wp2
        obtain ⟨wz, hz, hp, hbz, hkz, hsz⟩ := end7 K9.out.bel K9.out.res (.int .i64 0) (.int .i64 0) (.int .u64 0) (.int .u64 0) (.int .u64 0) (.int .u64 0) (.slice none 0 0)
        rw [hz]
        refine bodyPost_ret (results_row_tmp rfl _ _ w.heap.size 57 _ (0, 0) _ rfl hp Tryz.underlying57 rfl (by kernel_rfl)) rfl ?_
        exact ⟨sq, k, by rw [HR0.out]; rfl, (by rw [HFb.out]; exact bytes_off HY9.out HLo.out (fun g hg _ => hkz g (by omega)) (by omega)), fun p hp => by have := HLo.out p hp; omega, hbz⟩
    · rw [decide_eq_false hfit] at HFt
      have HR0 : Hid (r = false) := by show _ = _; rw [HR.out]; exact decide_eq_false (fun h => hfit h.2.1)
      go_wp2_with fail
      refine (HFt.out _).mono ?_
      rintro e a7 ⟨rfl, hb7⟩
      have K7 := hide (K6.out.below hb7)
      have HY7 : Hid (C.Bytes a7 sq bd) := HY.out.below hb7
      clear hb7 K6 HY HFt c0 c1 c2 c3 c4 c5 c6 cf d2 hlt hlt1
      obtain ⟨r0, r1, r2, r3, r4, r5, r6, rf⟩ := blk7 (show a7.heap[w.heap.size]? = some (.cells #[.int .i64 0, .int .i64 0, .int .u64 0, .int .u64 0, .int .u64 0, .int .u64 0, .slice none 0 0] 57 (0, 0)) from K7.out.res)
      have hltr := C.lt_of_block K7.out.res
      go_wp2
      obtain ⟨wz, hz, hp, hbz, hkz, hsz⟩ := end7 K7.out.bel K7.out.res (.int .i64 0) (.int .i64 0) (.int .u64 0) (.int .u64 0) (.int .u64 0) (.int .u64 0) (.slice none 0 0)
      rw [hz]
      refine bodyPost_ret (results_row_tmp rfl _ _ w.heap.size 57 _ (0, 0) _ rfl hp Tryz.underlying57 rfl (by kernel_rfl)) rfl ?_
      exact ⟨sq, k, by rw [HR0.out]; rfl, (by rw [HFb.out]; exact bytes_off HY7.out HLo.out (fun g hg _ => hkz g (by omega)) (by omega)), fun p hp => by have := HLo.out p hp; omega, hbz⟩
  · have hb' : ((x7.2.2 : Int) != 0) = true := by simp; omega
    have HR0 : Hid (r = false) := by show _ = _; rw [HR.out]; exact decide_eq_false (fun h => hbad h.1)
    obtain ⟨r0, r1, r2, r3, r4, r5, r6, rf⟩ := blk7 (show b6.heap[w.heap.size]? = some (.cells #[.int .i64 0, .int .i64 0, .int .u64 0, .int .u64 0, .int .u64 0, .int .u64 0, .slice none 0 0] 57 (0, 0)) from K6.out.res)
    have hltr := C.lt_of_block K6.out.res
    go_wp2
    obtain ⟨wz, hz, hp, hbz, hkz, hsz⟩ := end7 K6.out.bel K6.out.res (.int .i64 0) (.int .i64 0) (.int .u64 0) (.int .u64 0) (.int .u64 0) (.int .u64 0) (.slice none 0 0)
    rw [hz]
    refine bodyPost_ret (results_row_tmp rfl _ _ w.heap.size 57 _ (0, 0) _ rfl hp Tryz.underlying57 rfl (by kernel_rfl)) rfl ?_
    exact ⟨sq, k, by rw [HR0.out]; rfl, (by rw [HFb.out]; exact bytes_off HY.out HLo.out (fun g hg _ => hkz g (by omega)) (by omega)), fun p hp => by have := HLo.out p hp; omega, hbz⟩
end Go.Proofs.YtjjhpffkeloadaaGreatDoor
namespace Go.Proofs.YtjjhpffkeloadaaGreatDoor
open Go.RowKit

/-- The document's reading and the program's agree. -/
theorem rdec_pure {xs : List Nat} (hs : ∀ x ∈ xs, x < 256) : ((q7 xs).2.2 = 0 ∧ (frOf xs).fit ∧ encB (frOf xs) = xs → decB xs = some (frOf xs)) ∧ (¬ ((q7 xs).2.2 = 0 ∧ (frOf xs).fit ∧ encB (frOf xs) = xs) → decB xs = none) := by
  have hg := C.got_small hs (q6 xs).2.1 (q7 xs)
  have hsm : (frOf xs).small := by
    unfold Fr.small frOf
    generalize q7 xs = x7 at *
    generalize q6 xs = x6 at *
    exact hg
  clear hg
  refine ⟨fun ⟨_, h2, h3⟩ => ?_, fun h => ?_⟩
  · have h4 := dec_bytes h2 hsm
    unfold encB at h3
    rw [if_pos h2] at h3
    rw [h3] at h4
    exact h4
  · cases e : decB xs with
    | none => rfl
    | some f =>
      obtain ⟨h1, h2, h3⟩ := dec_some hs e
      obtain ⟨h4, h5⟩ := read_bytes h1 h2
      rw [h3] at h4 h5
      refine absurd ⟨?_, ?_, ?_⟩ h
      · obtain ⟨_, h6, _⟩ := h5
        have e8 : q8 xs = C.rNext 1 0 xs (q7 xs).2.1 (q7 xs).2.2 := by unfold q8; rfl
        have h7 := (end_zero h6).1
        rw [e8] at h7
        exact rn_stays 1 0 xs _ _ h7
      · rw [h4]; exact h1
      · rw [h4]; unfold encB; rw [if_pos h1]; exact h3
/-- THE DOCUMENT's DECODE. -/
theorem rdec_any (w : World) (sp : Option Addr) (n cap : Nat) (xs : List Nat) (hl : xs.length = n) (hcap : n ≤ cap) (hc : cap ≤ 9223372036854775807) (hn : n ≤ 140737488351232) (hx : C.Bytes w sp xs) (hform : (cap = 0 ∧ xs = []) ∨ ∃ g o, sp = some ⟨g, o, none⟩) :
    Calls Tryz.prog 16 #[.slice sp n cap] w fun e w' =>
      (∃ f sq k, decB xs = some f ∧ e = .returned (.tuple #[frV f sq k, .bool true]) ∧ C.Bytes w' sq f.body ∧ (∀ p, sq = some p → w.heap.size ≤ p.block) ∧ Below w.heap.size w w') ∨
      (decB xs = none ∧ e = .returned (.tuple #[frV fr0 none 0, .bool false]) ∧ Below w.heap.size w w') := by
  obtain ⟨p1, p2⟩ := rdec_pure hx.small
  have e1 : q1 xs = C.rNext 0 0 xs 0 0 := by unfold q1; rfl
  have e2 : q2 xs = C.rNext 0 0 xs (q1 xs).2.1 (q1 xs).2.2 := by unfold q2; rfl
  have e3 : q3 xs = C.rNext 3 1099511627776 xs (q2 xs).2.1 (q2 xs).2.2 := by unfold q3; rfl
  have e4 : q4 xs = C.rNext 3 1099511627776 xs (q3 xs).2.1 (q3 xs).2.2 := by unfold q4; rfl
  have e5 : q5 xs = C.rNext 3 1099511627776 xs (q4 xs).2.1 (q4 xs).2.2 := by unfold q5; rfl
  have e6 : q6 xs = C.rNext 3 1099511627776 xs (q5 xs).2.1 (q5 xs).2.2 := by unfold q6; rfl
  have e7 : q7 xs = C.rText 2048 xs (q6 xs).2.1 (q6 xs).2.2 := by unfold q7; rfl
  have ef : frOf xs = ⟨(q1 xs).1.num, (q2 xs).1.num, (q3 xs).1.num, (q4 xs).1.num, (q5 xs).1.num, (q6 xs).1.num, C.got xs (q6 xs).2.1 (q7 xs)⟩ := by unfold frOf; rfl
  refine (rdec_go w sp n cap xs hl hcap hc hn hx hform (q1 xs) (q2 xs) (q3 xs) (q4 xs) (q5 xs) (q6 xs) (q7 xs) e1 e2 e3 e4 e5 e6 e7 (frOf xs) ef _ rfl).mono ?_
  clear e1 e2 e3 e4 e5 e6 e7 ef
  generalize frOf xs = f at *
  generalize q7 xs = x7 at *
  rintro e w' ⟨sq, k, he, hy, hlo, hb⟩
  by_cases ho : x7.2.2 = 0 ∧ f.fit ∧ encB f = xs
  · rw [decide_eq_true ho, if_pos rfl] at he
    exact Or.inl ⟨f, sq, k, p1 ho, he, hy, hlo, hb⟩
  · rw [decide_eq_false ho, if_neg (by decide)] at he
    exact Or.inr ⟨p2 ho, he, hb⟩
end Go.Proofs.YtjjhpffkeloadaaGreatDoor
