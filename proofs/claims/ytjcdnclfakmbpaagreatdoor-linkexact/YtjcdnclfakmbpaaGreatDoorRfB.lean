import Derived.Test.YtjcdnclfakmbpaaGreatDoorRfA
import Derived.Test.YtjcdnclfakmbpaaGreatDoorCWrites
import Derived.Test.YtjcdnclfakmbpaaGreatDoorCRefSum
import Derived.Test.YtjcdnclfakmbpaaGreatDoorCEye5
namespace Go.Proofs.YtjcdnclfakmbpaaGreatDoor
open Go.RowKit
structure En (w w' : World) (cs : Array Value) (g q c : Nat) (ys : List Nat) : Prop where
  bel : Below w.heap.size w w'
  fr : w'.heap[w.heap.size]? = some (.cells cs 33 (0, 0))
  own : w'.ownsRow (w.heap.size + 1) 5 1 (.slice (some ⟨g, 0, none⟩) q c) q (C.vals ys)
theorem En.below {w w' wd : World} {cs : Array Value} {g q c : Nat} {ys : List Nat} (h : En w w' cs g q c ys) (hb : Below w'.heap.size w' wd) : En w wd cs g q c ys :=
  ⟨h.bel.trans (hb.mono h.bel.size), (hb.block _ (C.lt_of_block h.fr)).trans h.fr, C.owns_below h.own hb⟩
theorem En.app {w w' w2 : World} {cs : Array Value} {g q c g2 q2 c2 : Nat} {ys zs : List Nat} (h : En w w' cs g q c ys) (hg : w'.grownBy w2 (some g)) (ho : w2.ownsRow (w.heap.size + 1) 5 1 (.slice (some ⟨g2, 0, none⟩) q2 c2) q2 (C.vals ys ++ C.vals zs)) : En w w2 cs g2 q2 c2 (ys ++ zs) := by
  have hl := (C.owns_le h.own).2.1
  refine ⟨h.bel.grown hg h.bel.size (fun k e => by cases e; omega), (hg.block _ (C.lt_of_block h.fr) (fun e => ?_)).trans h.fr, by rw [C.vals_app]; exact ho⟩
  simp at e
  omega
theorem En.size {w w' : World} {cs : Array Value} {g q c : Nat} {ys : List Nat} (h : En w w' cs g q c ys) : w.heap.size + 1 ≤ w'.heap.size := C.lt_of_block h.fr
theorem owns_low {w : World} {B B' n s : Nat} {e : TypeId} {v : Value} {xs : List Value} (h : w.ownsRow B e s v n xs) (hB : B' ≤ B) : w.ownsRow B' e s v n xs := by
  refine ⟨h.1, h.2.imp id ?_⟩
  rintro ⟨g, cap, cur, e1, e2, r⟩
  exact ⟨g, cap, cur, e1, Nat.le_trans hB e2, r⟩
theorem owns_two (w : World) (x y : Value) : (w.alloc (.cells #[x, y] 5)).ownsRow w.heap.size 5 1 (.slice (some ⟨w.heap.size, 0, none⟩) 2 2) 2 [x, y] :=
  ⟨rfl, Or.inr ⟨w.heap.size, 2, #[x, y], rfl, Nat.le_refl _, heap_alloc_new _ _, Nat.le_refl _, by unfold maxLen; omega, rfl, rfl⟩⟩
theorem be_one (a : Nat) (h : a < 256) : C.beOf a 1 = [a] := by simp [C.beOf, Nat.mod_eq_of_lt h]
set_option maxRecDepth 100000 in
set_option maxHeartbeats 4000000 in
theorem renc_go (w : World) (a b mine yours seq ack n c : Nat) (sp : Option Addr) (body : List Nat) (hn : body.length = n) (hx : C.Bytes w sp body) (hf : (⟨(a : Int), (b : Int), mine, yours, seq, ack, body⟩ : Fr).fit) :
    Calls Tryz.prog 106 #[.agg #[.int .i64 (a : Int), .int .i64 (b : Int), .int .u64 (mine : Int), .int .u64 (yours : Int), .int .u64 (seq : Int), .int .u64 (ack : Int), .slice sp n c]] w fun e w' =>
      ∃ g q cc, e = .returned (.slice (some ⟨g, 0, none⟩) q cc) ∧ w'.ownsRow w.heap.size 5 1 (.slice (some ⟨g, 0, none⟩) q cc) q (C.vals (⟨(a : Int), (b : Int), mine, yours, seq, ack, body⟩ : Fr).bytes) ∧ Below w.heap.size w w' := by
  obtain ⟨f, hfe⟩ : ∃ f : Fr, f = ⟨(a : Int), (b : Int), mine, yours, seq, ack, body⟩ := ⟨_, rfl⟩
  rw [← hfe] at hf ⊢
  have hsm : f.small := by rw [hfe]; exact hx.small
  have HM := hide (fun w => rfit_any w f sp c)
  rw [decide_eq_true hf, hfe] at HM
  simp only [frV, hn] at HM
  have HHs := hide (Fr.head_small hf hsm)
  have HHd : Hid (f.head = (((((C.beOf a 1 ++ C.beOf b 1) ++ vB mine) ++ vB yours) ++ vB seq) ++ vB ack) ++ tB body) := by
    show _ = _
    rw [hfe]; unfold Fr.head; simp [List.append_assoc]
  obtain ⟨k1, k2, k3, k4, k5, k6, k7, -⟩ := hf
  rw [hfe] at k1 k2 k3 k4 k5 k6 k7
  simp only [hn] at k1 k2 k3 k4 k5 k6 k7
  have a8 : (a : Int) % 256 = (a : Int) := by omega
  have b8 : (b : Int) % 256 = (b : Int) := by omega
  have HV0 : Hid (C.vals (C.beOf a 1 ++ C.beOf b 1) = [.int .u8 (a : Int), .int .u8 (b : Int)]) := by
    show _ = _
    rw [be_one a (by omega), be_one b (by omega)]
    rfl
  have HBy : Hid (f.bytes = f.head ++ C.beOf (C.sumOf f.head) 4) := rfl
  have HX := hide hx
  have HN := hide hn
  have hvs := hide (sum_lt f.head HHs.out)
  clear hsm hfe hx hn k1 k2
  have HV1 := hide (fun w => C.ref_var_any mine (by omega) w)
  have hl1 : C.vs mine ≤ 10 := (C.vs_bounds mine (by omega)).2
  have Hl1 := hide (vB_len (show mine < 18446744073709551616 by omega))
  have Hs1 := hide (vB_small (show mine < 18446744073709551616 by omega))
  have HV2 := hide (fun w => C.ref_var_any yours (by omega) w)
  have hl2 : C.vs yours ≤ 10 := (C.vs_bounds yours (by omega)).2
  have Hl2 := hide (vB_len (show yours < 18446744073709551616 by omega))
  have Hs2 := hide (vB_small (show yours < 18446744073709551616 by omega))
  have HV3 := hide (fun w => C.ref_var_any seq (by omega) w)
  have hl3 : C.vs seq ≤ 10 := (C.vs_bounds seq (by omega)).2
  have Hl3 := hide (vB_len (show seq < 18446744073709551616 by omega))
  have Hs3 := hide (vB_small (show seq < 18446744073709551616 by omega))
  have HV4 := hide (fun w => C.ref_var_any ack (by omega) w)
  have hl4 : C.vs ack ≤ 10 := (C.vs_bounds ack (by omega)).2
  have Hl4 := hide (vB_len (show ack < 18446744073709551616 by omega))
  have Hs4 := hide (vB_small (show ack < 18446744073709551616 by omega))
  have hl5 : C.vs n ≤ 10 := (C.vs_bounds n (by omega)).2
  have Hl5 : Hid ((tB body).length = C.vs n + n) := by show _ = _; rw [tB_len (by have := HN.out; omega), HN.out]
  have Hs5 : Hid (∀ x ∈ tB body, x < 256) := tB_small (by have := HN.out; omega) HX.out.small
  have HTx := hide (fun w h => C.ref_text w sp n c body HN.out h (by omega))
  have HTv : Hid (C.varOf n (C.vs n - 1) ++ body = tB body) := by show _ = _; unfold tB vB; rw [HN.out]
  rw [HTv.out] at HTx
  clear HTv
  unfold C.Vared at HV1 HV2 HV3 HV4
  rw [show C.varOf mine (C.vs mine - 1) = vB mine from rfl] at HV1
  rw [show C.varOf yours (C.vs yours - 1) = vB yours from rfl] at HV2
  rw [show C.varOf seq (C.vs seq - 1) = vB seq from rfl] at HV3
  rw [show C.varOf ack (C.vs ack - 1) = vB ack from rfl] at HV4
  generalize vB mine = B1 at *
  generalize vB yours = B2 at *
  generalize vB seq = B3 at *
  generalize vB ack = B4 at *
  generalize tB body = B5 at *
  generalize C.vs mine = s1 at *
  generalize C.vs yours = s2 at *
  generalize C.vs seq = s3 at *
  generalize C.vs ack = s4 at *
  generalize C.vs n = s5 at *
  generalize C.beOf a 1 ++ C.beOf b 1 = B0 at *
  obtain ⟨cs, hcs⟩ : ∃ cs : Array Value, cs = #[.int .i64 (a : Int), .int .i64 (b : Int), .int .u64 (mine : Int), .int .u64 (yours : Int), .int .u64 (seq : Int), .int .u64 (ack : Int), .slice sp n c] := ⟨_, rfl⟩
  obtain ⟨w1, hw1⟩ : ∃ w1, w.alloc (.cells #[.int .i64 (a : Int), .int .i64 (b : Int), .int .u64 (mine : Int), .int .u64 (yours : Int), .int .u64 (seq : Int), .int .u64 (ack : Int), .slice sp n c] 33) = w1 := ⟨_, rfl⟩
  have hB1 : Below w.heap.size w w1 := by rw [← hw1]; exact (Below.refl _ _).alloc (Nat.le_refl _) _
  have hK1 : w1.heap[w.heap.size]? = some (.cells cs 33 (0, 0)) := by rw [← hw1, hcs]; exact heap_alloc_new _ _
  have hC : ∀ w' : World, w'.heap[w.heap.size]? = some (.cells cs 33 (0, 0)) → w'.cell? ⟨w.heap.size, 0, none⟩ = some (.int .i64 (a : Int)) ∧ w'.cell? ⟨w.heap.size, 1, none⟩ = some (.int .i64 (b : Int)) ∧ w'.cell? ⟨w.heap.size, 2, none⟩ = some (.int .u64 (mine : Int)) ∧ w'.cell? ⟨w.heap.size, 3, none⟩ = some (.int .u64 (yours : Int)) ∧ w'.cell? ⟨w.heap.size, 4, none⟩ = some (.int .u64 (seq : Int)) ∧ w'.cell? ⟨w.heap.size, 5, none⟩ = some (.int .u64 (ack : Int)) ∧ w'.cell? ⟨w.heap.size, 6, none⟩ = some (.slice sp n c) := fun w' h => by
    rw [hcs] at h
    obtain ⟨d0, d1, d2, d3, d4, d5, d6, -⟩ := blk7 h
    exact ⟨d0, d1, d2, d3, d4, d5, d6⟩
  have HC := hide hC
  obtain ⟨c0, c1, c2, c3, c4, c5, c6⟩ := hC w1 hK1
  have HK1 := hide hK1
  have HB1 := hide hB1
  have HW := hide hw1
  clear hcs hw1 hK1 hB1 hC
  go_enter Tryz.func106, Tryz.ntmps106
  go_upto_region 1 with (fail)
  rw [HW.out]
  go_wp2_with fail
  refine (HM.out _).mono ?_
  rintro e w2 ⟨rfl, hb2⟩
  have hk2 := (hb2.block _ (C.lt_of_block HK1.out)).trans HK1.out
  have hs2 := C.lt_of_block hk2
  obtain ⟨w3, hw3⟩ : ∃ w3, w2.alloc (.cells #[.int .u8 (a : Int), .int .u8 (b : Int)] 5) = w3 := ⟨_, rfl⟩
  have he3 : En w w3 cs w2.heap.size 2 2 B0 := by
    have h3 : Below w2.heap.size w2 w3 := by rw [← hw3]; exact (Below.refl _ _).alloc (Nat.le_refl _) _
    refine ⟨HB1.out.trans ((hb2.mono HB1.out.size).trans (h3.mono (by omega))), (h3.block _ hs2).trans hk2, ?_⟩
    rw [HV0.out, ← hw3]
    exact owns_low (owns_two w2 _ _) hs2
  clear c0 c1 c2 c3 c4 c5 c6
  obtain ⟨c0, c1, -⟩ := HC.out w2 hk2
  obtain ⟨-, -, c2, -⟩ := HC.out w3 he3.fr
  have HE3 := hide he3
  have HW3 := hide hw3
  clear hb2 hk2 hs2 hw3 he3 HM
  go_upto_region 4 with (fail)
  rw [HW3.out]
  go_wp2_with fail
  refine (HV1.out _).mono ?_
  rintro e v1 ⟨h1, d1, rfl, ho1, hb1⟩
  have HF1 := hide (HE3.out.below hb1)
  have HO1 := hide (C.owns_bytes ho1 Hs1.out)
  have hz1 := HF1.out.size
  clear ho1 hb1
  clear c0 c1 c2
  go_wp2_with (at_builtin; refine C.wpList_append_bytes rfl (.tmp 14) (.tmp 17) rfl (w.heap.size + 1) w2.heap.size (2) 2 (C.vals (B0)) rfl HF1.out.own (some ⟨h1, 0, none⟩) s1 d1 B1 rfl Hl1.out HO1.out (by omega) hz1 ?_; intro g1 k1 u1 hown1 hgrow1 hat1; have he4 := En.app HF1.out hgrow1 hown1; obtain ⟨c0, c1, c2, c3, c4, c5, c6⟩ := HC.out u1 he4.fr; have HE4 := hide he4; clear he4 hown1 hgrow1 hat1)
  refine (HV2.out _).mono ?_
  rintro e v2 ⟨h2, d2, rfl, ho2, hb2⟩
  have HF2 := hide (HE4.out.below hb2)
  have HO2 := hide (C.owns_bytes ho2 Hs2.out)
  have hz2 := HF2.out.size
  clear ho2 hb2
  clear c0 c1 c2 c3 c4 c5 c6
  go_wp2_with (at_builtin; refine C.wpList_append_bytes rfl (.tmp 19) (.tmp 22) rfl (w.heap.size + 1) g1 (2 + s1) k1 (C.vals ((B0) ++ B1)) rfl HF2.out.own (some ⟨h2, 0, none⟩) s2 d2 B2 rfl Hl2.out HO2.out (by omega) hz2 ?_; intro g2 k2 u2 hown2 hgrow2 hat2; have he5 := En.app HF2.out hgrow2 hown2; obtain ⟨c0, c1, c2, c3, c4, c5, c6⟩ := HC.out u2 he5.fr; have HE5 := hide he5; clear he5 hown2 hgrow2 hat2)
  refine (HV3.out _).mono ?_
  rintro e v3 ⟨h3, d3, rfl, ho3, hb3⟩
  have HF3 := hide (HE5.out.below hb3)
  have HO3 := hide (C.owns_bytes ho3 Hs3.out)
  have hz3 := HF3.out.size
  clear ho3 hb3
  clear c0 c1 c2 c3 c4 c5 c6
  go_wp2_with (at_builtin; refine C.wpList_append_bytes rfl (.tmp 24) (.tmp 27) rfl (w.heap.size + 1) g2 (2 + s1 + s2) k2 (C.vals (((B0) ++ B1) ++ B2)) rfl HF3.out.own (some ⟨h3, 0, none⟩) s3 d3 B3 rfl Hl3.out HO3.out (by omega) hz3 ?_; intro g3 k3 u3 hown3 hgrow3 hat3; have he6 := En.app HF3.out hgrow3 hown3; obtain ⟨c0, c1, c2, c3, c4, c5, c6⟩ := HC.out u3 he6.fr; have HE6 := hide he6; clear he6 hown3 hgrow3 hat3)
  refine (HV4.out _).mono ?_
  rintro e v4 ⟨h4, d4, rfl, ho4, hb4⟩
  have HF4 := hide (HE6.out.below hb4)
  have HO4 := hide (C.owns_bytes ho4 Hs4.out)
  have hz4 := HF4.out.size
  clear ho4 hb4
  clear c0 c1 c2 c3 c4 c5 c6
  go_wp2_with (at_builtin; refine C.wpList_append_bytes rfl (.tmp 29) (.tmp 32) rfl (w.heap.size + 1) g3 (2 + s1 + s2 + s3) k3 (C.vals ((((B0) ++ B1) ++ B2) ++ B3)) rfl HF4.out.own (some ⟨h4, 0, none⟩) s4 d4 B4 rfl Hl4.out HO4.out (by omega) hz4 ?_; intro g4 k4 u4 hown4 hgrow4 hat4; have he7 := En.app HF4.out hgrow4 hown4; obtain ⟨c0, c1, c2, c3, c4, c5, c6⟩ := HC.out u4 he7.fr; have HE7 := hide he7; clear he7 hown4 hgrow4 hat4)
  refine (HTx.out _ (HX.out.below HE7.out.bel)).mono ?_
  rintro e v5 ⟨h5, d5, rfl, ho5, hb5⟩
  have HF5 := hide (HE7.out.below hb5)
  have HO5 := hide (C.owns_bytes ho5 Hs5.out)
  have hz5 := HF5.out.size
  clear ho5 hb5
  clear c0 c1 c2 c3 c4 c5 c6
  go_wp2_with (at_builtin; refine C.wpList_append_bytes rfl (.tmp 34) (.tmp 37) rfl (w.heap.size + 1) g4 (2 + s1 + s2 + s3 + s4) k4 (C.vals (((((B0) ++ B1) ++ B2) ++ B3) ++ B4)) rfl HF5.out.own (some ⟨h5, 0, none⟩) (s5 + n) d5 B5 rfl Hl5.out HO5.out (by omega) hz5 ?_; intro g5 k5 u5 hown5 hgrow5 hat5; have he8 := En.app HF5.out hgrow5 hown5; obtain ⟨c0, c1, c2, c3, c4, c5, c6⟩ := HC.out u5 he8.fr; have HE8 := hide he8; clear he8 hown5 hgrow5 hat5)
  rw [← HHd.out] at HE8
  refine (C.refsum_any _ (some ⟨g5, 0, none⟩) _ _ f.head (by have := HE8.out.own.1; simpa [C.vals] using this) (C.owns_bytes HE8.out.own HHs.out) (by omega)).mono ?_
  rintro e v6 ⟨rfl, m6, hw6⟩
  have he6 := HE8.out.below (show Below u5.heap.size u5 v6 by rw [hw6]; exact C.bad_drews u5 m6)
  have HE6 := hide he6
  clear hw6 he6 c0 c1 c2 c3 c4 c5 c6
  go_wp2_with fail
  refine (C.ref_u32 _ _ hvs.out).mono ?_
  rintro e v7 ⟨rfl, hw7⟩
  have hb7 : Below v6.heap.size v6 v7 := by rw [hw7]; exact (Below.refl _ _).alloc (Nat.le_refl _) _
  have HE7 := hide (HE6.out.below hb7)
  have HO7 : Hid (C.Bytes v7 (some ⟨v6.heap.size, 0, none⟩) (C.beOf (C.sumOf f.head) 4)) := by
    show C.Bytes _ _ _
    rw [hw7]
    exact made_by v6 _ (be_small _ _)
  have Hl7 := hide (be_len (C.sumOf f.head) 4)
  have hz7 := HE7.out.size
  clear hw7 hb7
  go_wp2_with (at_builtin; refine C.wpList_append_bytes rfl (.tmp 39) (.tmp 42) rfl (w.heap.size + 1) g5 (2 + s1 + s2 + s3 + s4 + (s5 + n)) k5 (C.vals f.head) rfl HE7.out.own (some ⟨v6.heap.size, 0, none⟩) 4 4 (C.beOf (C.sumOf f.head) 4) rfl Hl7.out HO7.out (by omega) hz7 ?_; intro g8 k8 w8 hown8 hgrow8 hat8; have he9 := En.app HE7.out hgrow8 hown8; have HE9 := hide he9; clear he9 hown8 hgrow8 hat8)
  go_ret
  rw [HBy.out]
  exact ⟨g8, _, k8, rfl, owns_low HE9.out.own (Nat.le_succ _), HE9.out.bel⟩
set_option maxRecDepth 100000 in
theorem renc_no (w : World) (f : Fr) (sp : Option Addr) (c : Nat) (hf : ¬ f.fit) :
    Calls Tryz.prog 106 #[frV f sp c] w fun e w' => e = .returned (.slice none 0 0) ∧ Below w.heap.size w w' := by
  have HM := hide (fun w => rfit_any w f sp c)
  rw [decide_eq_false hf] at HM
  obtain ⟨w1, hw1⟩ : ∃ w1, w.alloc (.cells (frC f sp c) 33) = w1 := ⟨_, rfl⟩
  have hB1 : Below w.heap.size w w1 := by rw [← hw1]; exact (Below.refl _ _).alloc (Nat.le_refl _) _
  have hK1 : w1.heap[w.heap.size]? = some (.cells (frC f sp c) 33 (0, 0)) := by rw [← hw1]; exact heap_alloc_new _ _
  unfold frC at hK1 hw1
  obtain ⟨c0, c1, c2, c3, c4, c5, c6, -⟩ := blk7 hK1
  unfold frV at HM ⊢
  have HB1 := hide hB1
  have HW := hide hw1
  clear hw1 hK1 hB1 hf
  go_enter Tryz.func106, Tryz.ntmps106
  go_upto_region 1 with (fail)
  rw [HW.out]
  go_wp2_with fail
  refine (HM.out _).mono ?_
  rintro e w2 ⟨rfl, hb2⟩
  have HB2 : Hid (Below w.heap.size w w2) := HB1.out.trans (hb2.mono HB1.out.size)
  clear hb2 c0 c1 c2 c3 c4 c5 c6
  go_wp2
  go_ret
  exact ⟨rfl, HB2.out⟩
theorem renc_any (w : World) (f : Fr) (sp : Option Addr) (c : Nat) (hx : C.Bytes w sp f.body) :
    Calls Tryz.prog 106 #[frV f sp c] w fun e w' => ∃ a q cc, e = .returned (.slice a q cc) ∧ w'.ownsRow w.heap.size 5 1 (.slice a q cc) q (C.vals (encB f)) ∧ Below w.heap.size w w' := by
  by_cases hf : f.fit
  · obtain ⟨fr, tt, mine, yours, seq, ack, body⟩ := f
    have h1 := hf.1
    have h2 := hf.2.1
    simp only at h1 h2
    obtain ⟨a, rfl⟩ := Int.eq_ofNat_of_zero_le h1.1
    obtain ⟨b, rfl⟩ := Int.eq_ofNat_of_zero_le h2.1
    refine (renc_go w a b mine yours seq ack body.length c sp body rfl hx hf).mono ?_
    rintro e w' ⟨g, q, cc, he, ho, hb⟩
    refine ⟨_, q, cc, he, ?_, hb⟩
    unfold encB
    rw [if_pos hf]
    exact ho
  · refine (renc_no w f sp c hf).mono ?_
    rintro e w' ⟨he, hb⟩
    refine ⟨none, 0, 0, he, ?_, hb⟩
    unfold encB
    rw [if_neg hf]
    exact ⟨rfl, Or.inl ⟨rfl, rfl⟩⟩
end Go.Proofs.YtjcdnclfakmbpaaGreatDoor
