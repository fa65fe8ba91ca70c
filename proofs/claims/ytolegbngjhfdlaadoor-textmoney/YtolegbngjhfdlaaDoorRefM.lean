import Derived.Test.YtolegbngjhfdlaaDoorRefA
namespace Go.Proofs.YtolegbngjhfdlaaDoor
open Go.RowKit

theorem three_bytes (W : World) (x y z : Nat) (hx : x < 256) (hy : y < 256) (hz : z < 256) : ∃ t, (convert 39 9 (.slice (some ⟨W.heap.size, 0, none⟩) 3 3)).run Tryd.prog (W.alloc (.cells #[.int .u8 (x : Int), .int .u8 (y : Int), .int .u8 (z : Int)] 5)) = .ok (.string t) (W.alloc (.cells #[.int .u8 (x : Int), .int .u8 (y : Int), .int .u8 (z : Int)] 5)) ∧ nums t = [x, y, z] := by
  have h := World.alloc_heap_new W (.cells #[.int .u8 (x : Int), .int .u8 (y : Int), .int .u8 (z : Int)] 5)
  refine bytes_back _ W.heap.size 3 [x, y, z] (fun j hj => ?_) (by simp; exact ⟨hx, hy, hz⟩) 3 rfl
  have hj' : j = 0 ∨ j = 1 ∨ j = 2 := by simp at hj; omega
  rcases hj' with rfl | rfl | rfl
  all_goals exact ⟨by unfold World.cell?; simp only [h]; rfl, by unfold World.frozen?; simp only [h]; rfl⟩

theorem mrk_app3 (a b c : Nat) : ∀ (l : List Nat) (B : Bool), (l ≠ [] ∨ B = false) → mrk B (l ++ [a, b, c]) = mrk B l ++ [39, a, b, c]
  | [], B, h => by
    have hB : B = false := by simpa using h
    subst hB
    simp [mrk]
  | x :: r, B, _ => by
    have ih := mrk_app3 a b c r false (Or.inr rfl)
    rw [List.cons_append]
    simp only [mrk]
    rw [ih]
    have e : ((r ++ [a, b, c]).length + 1) % 3 = (r.length + 1) % 3 := by simp; omega
    rw [e]
    simp

theorem mrk_short : ∀ (l : List Nat) (B : Bool), l.length ≤ (if B then 3 else 2) → mrk B l = l
  | [], _, _ => rfl
  | x :: r, B, h => by
    rw [List.length_cons] at h
    have h2 : r.length ≤ 2 := by cases B <;> simp at h <;> omega
    simp only [mrk]
    rw [mrk_short r false (by simpa using h2), if_neg]
    · rfl
    · rintro ⟨hB, h3⟩
      subst hB
      simp at h
      omega

theorem dn_short {u : Nat} (h : u < 1000) : (dn u).length ≤ 3 := by
  by_cases h1 : u < 10
  · rw [dn_one h1]; simp
  · by_cases h2 : u < 100
    · rw [dn_more h1, dn_one (by omega)]; simp
    · rw [dn_more h1, dn_more (by omega), dn_one (by omega)]; simp

theorem dn_three {u : Nat} (h : 1000 ≤ u) : dn u = dn (u / 1000) ++ [48 + u % 1000 / 100, 48 + u % 1000 / 10 % 10, 48 + u % 1000 % 10] := by
  rw [dn_more (by omega), dn_more (u := u / 10) (by omega), dn_more (u := u / 10 / 10) (by omega), show u / 10 / 10 / 10 = u / 1000 by omega,
    show u / 10 / 10 % 10 = u % 1000 / 100 by omega, show u / 10 % 10 = u % 1000 / 10 % 10 by omega, show u % 10 = u % 1000 % 10 by omega]
  simp

theorem nums_39 (a : ByteArray) : nums ((⟨#[39]⟩ : ByteArray) ++ a) = 39 :: nums a := by rw [nums_app]; rfl
theorem size_39 (a : ByteArray) : ((⟨#[39]⟩ : ByteArray) ++ a).size = a.size + 1 := by rw [← nums_len, nums_39, List.length_cons, nums_len]

set_option maxRecDepth 100000 in
set_option maxHeartbeats 400000 in
theorem rmoney_any (w : World) (n : Int) (h0 : -9223372036854775808 ≤ n) (h1 : n ≤ 9223372036854775807) :
    Calls Tryd.prog 20 #[.int .i64 n] w fun e w' => e = .returned (.string (str (mny n))) ∧ Below w.heap.size w w' := by
  obtain ⟨D, hD⟩ : ∃ D, str (mny n) = D := ⟨_, rfl⟩
  rw [hD]
  have HZ := hide (size_any w n h0 h1)
  obtain ⟨u, hu⟩ : ∃ u, n.natAbs = u := ⟨_, rfl⟩
  rw [hu] at HZ
  have hub : u < 18446744073709551616 := by omega
  obtain ⟨p, hp⟩ : ∃ p, u / 100 = p := ⟨_, rfl⟩
  obtain ⟨v, hv⟩ : ∃ v, u % 100 = v := ⟨_, rfl⟩
  obtain ⟨a, ha⟩ : ∃ a, v / 10 = a := ⟨_, rfl⟩
  obtain ⟨b, hb⟩ : ∃ b, v % 10 = b := ⟨_, rfl⟩
  obtain ⟨x, hx⟩ : ∃ x, 48 + a = x := ⟨_, rfl⟩
  obtain ⟨y, hy⟩ : ∃ y, 48 + b = y := ⟨_, rfl⟩
  have HD : Hid (∀ t, nums t = (if n < 0 then [45] else []) ++ (mrk true (dn p) ++ [46, x, y]) → t = D) := fun t ht => by
    rw [← hD, str_of ht, mny, hu, hp, hv, ha, hx, show u % 10 = b by omega, hy, List.append_assoc]
  obtain ⟨pp, hpp⟩ : ∃ pp, pp = 100 * p := ⟨_, rfl⟩
  have f1 : (u : Int) / 100 = (p : Int) := by omega
  have f2 : 100 * (p : Int) = (pp : Int) := by omega
  have f3 : (u : Int) - (pp : Int) = (v : Int) := by omega
  have f4 : (v : Int) / 10 = (a : Int) := by omega
  have f5 : (v : Int) % 10 = (b : Int) := by omega
  have f6 : 48 + (a : Int) = (x : Int) := by omega
  have f7 : 48 + (b : Int) = (y : Int) := by omega
  have g1 : p ≤ 184467440737095516 := by omega
  have g2 : pp ≤ 18446744073709551615 := by omega
  have g3 : v < 100 := by omega
  have g4 : x < 58 := by omega
  have g5 : y < 58 := by omega
  have g6 : a < 10 := by omega
  have g7 : b < 10 := by omega
  obtain ⟨t0, hcv, ht0⟩ := three_bytes w 46 x y (by omega) (by omega) (by omega)
  have HT0 := hide ht0
  rw [show ((46 : Nat) : Int) = 46 from rfl] at hcv
  have HB0 : Hid (Below w.heap.size w (w.alloc (.cells #[.int .u8 46, .int .u8 (x : Int), .int .u8 (y : Int)] 5))) := (Below.refl _ w).alloc (Nat.le_refl _) _
  have hpd := dn_len p (by omega)
  clear hD hu hp hv ha hb hx hy hpp ht0
  go_enter Tryd.func20, Tryd.ntmps20
  go_wp2_with fail
  refine HZ.out.mono ?_
  rintro e w1 ⟨rfl, hb⟩
  obtain rfl := hb.symm
  clear hb HZ
  go_wp2
  clear hcv f1 f2 f3 f4 f5 f6 f7
  go_loopw [4, 6] (fun A B wr => ∃ (m : Nat) (S : ByteArray), m ≤ p ∧ A = .int .u64 (m : Int) ∧ B = .string S ∧ Hid (mrk true (dn m) ++ nums S = mrk true (dn p) ++ [46, x, y]) ∧ Hid (Below w.heap.size w wr)) (fun A _ _ => (intOf A).toNat)
  case atStart => exact ⟨p, t0, Nat.le_refl _, rfl, rfl, hide (by rw [HT0.out]), HB0⟩
  case round =>
    clear HB0 HT0
    obtain ⟨m, S, hm, rfl, rfl, HS, HB⟩ := hrel
    have hSs : S.size ≤ 60 := by
      have h1 := congrArg List.length HS.out
      have h2 := mrk_len (dn p) true
      rw [List.length_append, List.length_append, nums_len] at h1
      simp at h1
      omega
    by_cases h10 : 1000 ≤ m
    · have z0 : (1000 : Int) ≤ (m : Int) := by omega
      have HQ := hide (dn_three h10)
      obtain ⟨g, hg⟩ : ∃ g, m % 1000 = g := ⟨_, rfl⟩
      obtain ⟨q, hq⟩ : ∃ q, m / 1000 = q := ⟨_, rfl⟩
      obtain ⟨a1, ha1⟩ : ∃ a1, g / 100 = a1 := ⟨_, rfl⟩
      obtain ⟨b0, hb0⟩ : ∃ b0, g / 10 = b0 := ⟨_, rfl⟩
      obtain ⟨b1, hb1⟩ : ∃ b1, b0 % 10 = b1 := ⟨_, rfl⟩
      obtain ⟨c1, hc1⟩ : ∃ c1, g % 10 = c1 := ⟨_, rfl⟩
      obtain ⟨X, hX⟩ : ∃ X, 48 + a1 = X := ⟨_, rfl⟩
      obtain ⟨Y, hY⟩ : ∃ Y, 48 + b1 = Y := ⟨_, rfl⟩
      obtain ⟨Z, hZ⟩ : ∃ Z, 48 + c1 = Z := ⟨_, rfl⟩
      rw [hg, hq, ha1, hb0, hb1, hc1, hX, hY, hZ] at HQ
      have r1 : (m : Int) % 1000 = (g : Int) := by omega
      have r2 : (m : Int) / 1000 = (q : Int) := by omega
      have r3 : (g : Int) / 100 = (a1 : Int) := by omega
      have r4 : (g : Int) / 10 = (b0 : Int) := by omega
      have r5 : (b0 : Int) % 10 = (b1 : Int) := by omega
      have r6 : (g : Int) % 10 = (c1 : Int) := by omega
      have r7 : 48 + (a1 : Int) = (X : Int) := by omega
      have r8 : 48 + (b1 : Int) = (Y : Int) := by omega
      have r9 : 48 + (c1 : Int) = (Z : Int) := by omega
      have k1 : g < 1000 := by omega
      have k2 : q < m := by omega
      have k3 : X < 58 := by omega
      have k4 : Y < 58 := by omega
      have k5 : Z < 58 := by omega
      have k6 : b0 < 100 := by omega
      clear hg hq ha1 hb0 hb1 hc1 hX hY hZ
      obtain ⟨t, hcv, ht⟩ := three_bytes wr X Y Z (by omega) (by omega) (by omega)
      have hts : t.size ≤ 3 := by rw [← nums_len, ht]; simp
      have hts2 : ((⟨#[39]⟩ : ByteArray) ++ t).size ≤ 4 := by rw [size_39]; omega
      have HS2 : Hid (mrk true (dn q) ++ nums ((⟨#[39]⟩ ++ t) ++ S) = mrk true (dn p) ++ [46, x, y]) := by
        show _ = _
        rw [nums_app, nums_39, ht, ← HS.out, HQ.out, mrk_app3 _ _ _ _ _ (Or.inl (dn_ne q)), List.append_assoc]
      have HB2 : Hid (Below w.heap.size w (wr.alloc (.cells #[.int .u8 (X : Int), .int .u8 (Y : Int), .int .u8 (Z : Int)] 5))) := HB.out.alloc HB.out.size _
      clear ht HQ HS HB
      go_wp2
      go_roundw
      case rel => exact ⟨q, (⟨#[39]⟩ ++ t) ++ S, by omega, by go_num, rfl, HS2, HB2⟩
      case measure => simp [intOf]; omega
    · have z0 : decide ((1000 : Int) ≤ (m : Int)) = false := decide_eq_false (by omega)
      have z0b : decide (1000 ≤ m) = false := decide_eq_false (by omega)
      have HDg := hide (rdigits_any wr (m : Int) (by omega) (by omega))
      rw [dz_pos _ (by omega), show (m : Int).natAbs = m by omega] at HDg
      have hnd := nums_str (dn m) (fun x hx => by have := dn_dig m x hx; simp [isDig] at this; omega)
      have hsh := dn_short (u := m) (by omega)
      rw [mrk_short _ true (by simpa using hsh)] at HS
      obtain ⟨t, ht⟩ : ∃ t, str (dn m) = t := ⟨_, rfl⟩
      rw [ht] at HDg hnd
      have hts : t.size ≤ 3 := by rw [← nums_len, hnd]; exact hsh
      have HS2 : Hid (nums (t ++ S) = mrk true (dn p) ++ [46, x, y]) := by
        show _ = _
        rw [nums_app, hnd, HS.out]
      have hts2 : (t ++ S).size ≤ 100 := by rw [← nums_len, nums_app, List.length_append, nums_len, nums_len]; omega
      clear ht hnd hsh HS
      by_cases hn : n < 0
      · have HF := hide (HD.out (⟨#[45]⟩ ++ (t ++ S)) (by rw [nums_45, HS2.out, if_pos hn]; rfl))
        go_wp2_with fail
        refine HDg.out.mono ?_
        rintro e w2 ⟨rfl, b2⟩
        have HB2 : Hid (Below w.heap.size w w2) := HB.out.trans (b2.mono HB.out.size)
        clear b2
        go_wp2
        go_ret
        exact ⟨ret_strs HF.out, HB2.out⟩
      · have zn : decide (n < 0) = false := decide_eq_false (by omega)
        have HF := hide (HD.out (t ++ S) (by rw [HS2.out, if_neg hn]; rfl))
        go_wp2_with fail
        refine HDg.out.mono ?_
        rintro e w2 ⟨rfl, b2⟩
        have HB2 : Hid (Below w.heap.size w w2) := HB.out.trans (b2.mono HB.out.size)
        clear b2
        go_wp2
        go_ret
        exact ⟨ret_strs HF.out, HB2.out⟩

end Go.Proofs.YtolegbngjhfdlaaDoor
