import Derived.Test.YtfjhbbekeibpkaaDoorCEye3
namespace Go.Proofs.YtfjhbbekeibpkaaDoor.C
open Go.RowKit

theorem getD_drop (xs : List Nat) (a j : Nat) : (xs.drop a).getD j 0 = xs.getD (a + j) 0 := by simp [List.getD]

theorem ext_getD {xs ys : List Nat} (h : xs.length = ys.length) (he : ∀ j, j < xs.length → xs.getD j 0 = ys.getD j 0) : xs = ys := by
  apply List.ext_getElem h
  intro j h1 h2
  have := he j h1
  simpa [List.getD, h1, h2] using this

set_option maxRecDepth 100000 in
set_option maxHeartbeats 400000 in
/-- Eq tells whether two lists are alike. -/
theorem eq_dec (w : World) (sp sq : Option Addr) (n m c1 c2 : Nat) (xs ys : List Nat) (hl : xs.length = n) (hm : ys.length = m) (hn : n ≤ 140737488355328) (hn2 : m ≤ 140737488355328) (h1 : Bytes w sp xs) (h2 : Bytes w sq ys) :
    Calls Tryd.prog 27 #[.slice sp n c1, .slice sq m c2] w fun e w' => ∃ r, e = .returned (.bool r) ∧ (r = true ↔ xs = ys) ∧ ∃ q, w' = w.drewN q := by
  by_cases hnm : n = m
  · subst hnm
    by_cases h0 : n = 0
    · subst h0
      have hx : xs = [] := List.eq_nil_of_length_eq_zero hl
      have hy : ys = [] := List.eq_nil_of_length_eq_zero hm
      go_enter Tryd.func27, Tryd.ntmps27
      go_wp2
      refine wp_loop_rounds 1 ?_
      rw [rounds_succ]
      go_wp2
      go_ret
      exact ⟨true, rfl, by simp [hx, hy], 0, rfl⟩
    · obtain ⟨g, o, rfl, hg, hc⟩ : ∃ g o, sp = some ⟨g, o, none⟩ ∧ g < w.heap.size ∧ ∀ j, j < xs.length → w.cell? ⟨g, o + j, none⟩ = some (.int .u8 (xs.getD j 0)) := by
        rcases h1.lie with h | h
        · subst h; simp at hl; omega
        · exact h
      obtain ⟨g', o', rfl, hg', hc'⟩ : ∃ g o, sq = some ⟨g, o, none⟩ ∧ g < w.heap.size ∧ ∀ j, j < ys.length → w.cell? ⟨g, o + j, none⟩ = some (.int .u8 (ys.getD j 0)) := by
        rcases h2.lie with h | h
        · subst h; simp at hm; omega
        · exact h
      rw [hl] at hc
      rw [hm] at hc'
      have HC := hide hc
      have HC' := hide hc'
      have HL : Hid (xs.length = n ∧ ys.length = n) := ⟨hl, hm⟩
      clear hc hc' h1 h2 hl hm
      go_enter Tryd.func27, Tryd.ntmps27
      go_wp2
      go_loopw [5] (fun i wr => ∃ k q : Nat, k ≤ n ∧ i = .int .i64 k ∧ Hid (wr = w.drewN q) ∧ Hid (∀ j, j < k → xs.getD j 0 = ys.getD j 0)) (fun i _ => n - (intOf i).toNat)
      case atStart => exact ⟨0, 0, Nat.zero_le _, rfl, rfl, fun j hj => by omega⟩
      case round =>
        obtain ⟨k, q, hk, rfl, HW, HA⟩ := hrel
        by_cases hlt : k < n
        · have d1 : wr.cell? ⟨g, o + k, none⟩ = some (.int .u8 (xs.getD k 0)) := by rw [HW.out]; exact HC.out k hlt
          have d2 : wr.cell? ⟨g', o' + k, none⟩ = some (.int .u8 (ys.getD k 0)) := by rw [HW.out]; exact HC'.out k hlt
          have i1 : (0 : Int) ≤ (k : Int) := by omega
          have i2 : (k : Int) < (n : Int) := by omega
          have HE : Hid (xs = ys → xs.getD k 0 = ys.getD k 0) := fun e => by rw [e]
          have HA2 : Hid (xs.getD k 0 = ys.getD k 0 → ∀ j, j < k + 1 → xs.getD j 0 = ys.getD j 0) := fun h j hj => by
            by_cases e : j = k
            · subst e; exact h
            · exact HA.out j (by omega)
          generalize xs.getD k 0 = x at *
          generalize ys.getD k 0 = y at *
          by_cases hxy : x = y
          · subst hxy
            have HA3 := hide (HA2.out rfl)
            clear HA2 HE
            go_wp2
            go_quiet (fail)
            go_wp2
            go_roundw
            case rel => exact ⟨k + 1, q + nq, by omega, by go_num, by show _ = _; rw [HW.out, World.drewN_drewN], HA3⟩
            case measure => simp [intOf]; omega
          · have hb : ((x : Int) != (y : Int)) = true := by simp; omega
            have HX := hide hxy
            clear hxy
            go_wp2
            go_quiet (fail)
            go_wp2
            go_ret
            exact ⟨false, rfl, ⟨fun e => (by cases e), fun e => absurd (HE.out e) HX.out⟩, q + nq, by rw [HW.out, World.drewN_drewN]⟩
        · obtain rfl : k = n := by omega
          have HY : Hid (xs = ys) := ext_getD (by rw [HL.out.1, HL.out.2]) (fun j hj => HA.out j (by rw [HL.out.1] at hj; exact hj))
          go_wp2
          go_ret
          exact ⟨true, rfl, ⟨fun _ => HY.out, fun _ => rfl⟩, q, HW.out⟩
  · have hb : ((n : Int) != (m : Int)) = true := by simp; omega
    have HX : Hid (xs ≠ ys) := fun e => hnm (by rw [← hl, ← hm, e])
    clear h1 h2 hl hm hnm
    go_enter Tryd.func27, Tryd.ntmps27
    go_wp2
    go_ret
    exact ⟨false, rfl, ⟨fun e => (by cases e), fun e => absurd e HX.out⟩, 0, rfl⟩

/-- The number that the document reckons. -/
theorem hv_step (ys : List Nat) (k j : Nat) (hk : k < ys.length) (hj : j ≤ k) : hv ((ys.take (k + 1)).drop j) = hv ((ys.take (k + 1)).drop (j + 1)) * 128 + ys.getD j 0 % 128 := by
  rw [drop_cons (ys.take (k + 1)) j (by rw [List.length_take]; omega), hv]
  have : (ys.take (k + 1)).getD j 0 = ys.getD j 0 := by simp [List.getD, show j < k + 1 by omega]
  rw [this]

/-- rNext of a number, by what last tells. -/
theorem rn_var (most : Nat) (xs : List Nat) (a : Nat) : rNext 3 most xs a 0 = if (pVar most (xs.drop a) 0 0).fault ≠ 0 then (no 0, a, (pVar most (xs.drop a) 0 0).fault) else (pVar most (xs.drop a) 0 0, a + (pVar most (xs.drop a) 0 0).size, 0) := by
  simp [rNext, pFind]
theorem rn_var_bad (most : Nat) (xs : List Nat) (a f : Nat) (hf : f ≠ 0) (h : pVar most (xs.drop a) 0 0 = no f) : rNext 3 most xs a 0 = (no 0, a, f) := by
  rw [rn_var, h, if_pos (by simpa [no] using hf)]
  rfl

set_option maxRecDepth 100000 in
set_option maxHeartbeats 400000 in
theorem evar_done (w : World) (b : Nat) (sp : Option Addr) (c : Nat) (xs : List Nat) (a f most : Nat) (hf : f ≠ 0) (hr : Ey w b sp c xs a f) :
    Calls Tryd.prog 24 #[.pointer (some ⟨b, 0, none⟩), .int .u64 most] w fun e w' => EyeNum .u64 w w' b sp c xs (no 0, a, f) e := by
  obtain ⟨q0, q1, q2, qf⟩ := blk3 hr.blk
  have HR := hide hr
  clear hr
  have hb : ((f : Int) != 0) = true := by simp; omega
  go_enter Tryd.func24, Tryd.ntmps24
  go_wp2
  go_ret
  exact ⟨rfl, HR.out, But.refl _ _⟩

theorem bad_drews (w : World) (n : Nat) : Below w.heap.size w (w.drewN n) := below_draws2 (Below.refl _ _) n

set_option maxRecDepth 100000 in
set_option maxHeartbeats 1000000 in
theorem evar_open (w : World) (b : Nat) (sp : Option Addr) (c : Nat) (xs : List Nat) (a most : Nat) (_hm : most < 18446744073709551616) (hr : Ey w b sp c xs a 0) :
    Calls Tryd.prog 24 #[.pointer (some ⟨b, 0, none⟩), .int .u64 most] w fun e w' => EyeNum .u64 w w' b sp c xs (rNext 3 most xs a 0) e := by
  obtain ⟨q0, q1, q2, qf⟩ := blk3 hr.blk
  have HR := hide hr
  have h4 := hr.le
  have h5 := hr.len
  have h6 := hr.cap
  have h7 := hr.most
  have HS : Hid (∀ x ∈ xs.drop a, x < 256) := fun x hx => hr.held.small x (List.mem_of_mem_drop hx)
  have HSx := hide hr.held.small
  have HC := hide (elast_any w b sp c xs a 0 hr)
  have HDl : Hid ((xs.drop a).length = xs.length - a) := List.length_drop
  clear hr
  go_enter Tryd.func24, Tryd.ntmps24
  go_wp2_with fail
  refine HC.out.mono ?_
  rintro e w1 ⟨r, rfl, hlast, q, rfl⟩
  have HE := hide (HR.out.below (bad_drews w q))
  have HB := hide (but_of (bad_drews w q) b)
  clear HC HR q0 q1 q2 qf
  generalize w.drewN q = w1 at *
  obtain ⟨q0, q1, q2, qf⟩ := blk3 HE.out.blk
  rcases hlast with ⟨rfl, hall⟩ | ⟨k, hk, hka, rfl, hc8, hall⟩
  · by_cases hsh : xs.length - a < 10
    · have HN : Hid (rNext 3 most xs a 0 = (no 0, a, 10)) := rn_var_bad most xs a 10 (by omega) (eye_short most _ HS.out (by rw [HDl.out]; exact hsh) (fun j hj => by rw [getD_drop]; rw [HDl.out] at hj; exact hall j (by omega) (by omega)))
      clear hall
      have h8 : ((xs.length - a : Nat) : Int) < 10 := by omega
      have HE2 := hide (HE.out.fault 11)
      go_wp2_with fail
      refine (eleft_any _ b sp c xs a 11 HE2.out).mono ?_
      rintro e w2 ⟨rfl, rfl⟩
      have HE3 := hide ((HE2.out.below (Below.refl _ _).drew).fault 10)
      obtain ⟨s0, s1, s2, sf⟩ := blk3 (HE2.out.below (Below.refl _ _).drew).blk
      generalize xs.length - a = L at *
      go_wp2
      go_ret
      refine ⟨by rw [HN.out]; rfl, by rw [HN.out]; exact HE3.out, ?_⟩
      exact (((HB.out.setCell (p := ⟨b, 2, none⟩) (Or.inl rfl) _).drew).setCell (p := ⟨b, 2, none⟩) (Or.inl rfl) _)
    · have HN : Hid (rNext 3 most xs a 0 = (no 0, a, 11)) := rn_var_bad most xs a 11 (by omega) (eye_long most _ HS.out (by rw [HDl.out]; omega) (fun j hj => by rw [getD_drop]; exact hall j hj (by omega)))
      clear hall
      have h8 : ¬ ((xs.length - a : Nat) : Int) < 10 := by omega
      have HE2 := hide (HE.out.fault 11)
      go_wp2_with fail
      refine (eleft_any _ b sp c xs a 11 HE2.out).mono ?_
      rintro e w2 ⟨rfl, rfl⟩
      generalize xs.length - a = L at *
      go_wp2
      go_ret
      refine ⟨by rw [HN.out]; rfl, by rw [HN.out]; exact HE2.out.below (Below.refl _ _).drew, ?_⟩
      exact ((HB.out.setCell (p := ⟨b, 2, none⟩) (Or.inl rfl) _).drew)
  · obtain ⟨g, o, rfl⟩ : ∃ g o, sp = some ⟨g, o, none⟩ := by
      rcases HE.out.form with ⟨_, h⟩ | h
      · subst h; simp at hka
      · exact h
    have HCell : Hid (∀ j, j < k + 1 → w1.cell? ⟨g, o + (a + j), none⟩ = some (.int .u8 (xs.getD (a + j) 0))) := fun j hj => by
      rcases HE.out.held.lie with h | ⟨g', o', e, _, hc⟩
      · subst h; simp at hka
      · cases e; exact hc (a + j) (by omega)
    have HK : Hid (k < (xs.drop a).length) := by show _ < _; rw [HDl.out]; omega
    have HFo := hide (eye_form (xs.drop a) HS.out k hk HK.out (fun j hj => by rw [getD_drop]; exact hall j hj) (by rw [getD_drop]; exact hc8))
    have HFd := hide (eye_found most (xs.drop a) HS.out k hk HK.out (fun j hj => by rw [getD_drop]; exact hall j hj) (by rw [getD_drop]; exact hc8))
    have HFi := hide (eye_fits (xs.drop a) HS.out k hk HK.out)
    clear hall
    obtain ⟨P, hP, hPn⟩ : ∃ P : Nat, ((a + k : Nat) : Int) = (P : Int) ∧ P = a + k := ⟨a + k, rfl, rfl⟩
    have HPn := hide hPn
    have hP0 : ¬ (P : Int) < 0 := by omega
    have hPx : P + 1 ≤ xs.length := by omega
    rw [hP]
    clear hP hPn
    go_wp2
    go_loop [6, 7] (fun n i => ∃ (j N : Nat), j ≤ k + 1 ∧ i = .int .i64 ((a : Int) + (j : Int) - 1) ∧ n = .int .u64 (N : Int) ∧ Hid (N = hv (((xs.drop a).take (k + 1)).drop j) % 18446744073709551616)) (fun _ i => (intOf i - (a : Int) + 1).toNat)
    case atStart => exact ⟨k + 1, 0, Nat.le_refl _, by rw [HPn.out]; go_num, rfl, by show _ = _; rw [List.drop_of_length_le (by rw [List.length_take]; omega)]; rfl⟩
    case round =>
      obtain ⟨j, N, hj, rfl, rfl, HN⟩ := hrel
      by_cases hj0 : 0 < j
      · obtain ⟨i, rfl⟩ : ∃ i, j = i + 1 := ⟨j - 1, by omega⟩
        have hcx := HCell.out i (by omega)
        have hx : xs.getD (a + i) 0 < 256 := getD_small HSx.out _
        have HN2 : Hid ((N * 128 + xs.getD (a + i) 0 % 128) % 18446744073709551616 = hv (((xs.drop a).take (k + 1)).drop i) % 18446744073709551616) := by
          show _ = _
          rw [hv_step (xs.drop a) k i HK.out (by omega), getD_drop, HN.out]
          omega
        have hN64 : N < 18446744073709551616 := by rw [HN.out]; exact Nat.mod_lt _ (by omega)
        generalize xs.getD (a + i) 0 = x at *
        have hi1 : (a : Int) + ((i + 1 : Nat) : Int) - 1 = ((a + i : Nat) : Int) := by omega
        rw [hi1]
        clear hi1
        have hpm : ((a + i : Nat) : Int) - 1 = (a : Int) + (i : Int) - 1 := by omega
        have HPm := hide hpm
        clear hpm
        have l1 : (a : Int) ≤ ((a + i : Nat) : Int) := by omega
        have l2 : ((a + i : Nat) : Int) < (xs.length : Int) := by omega
        have l3 : (0 : Int) ≤ ((a + i : Nat) : Int) := by omega
        have HM : Hid (IntKind.u64.wrap (IntKind.u64.wrap ((N : Int) * 128) + (x : Int) % 128) = (((N * 128 + x % 128) % 18446744073709551616 : Nat) : Int)) := by show _ = _; rw [IntKind.wrap_u64, IntKind.wrap_u64]; omega
        generalize (N * 128 + x % 128) % 18446744073709551616 = M at *
        generalize a + i = p at *
        go_wp2
        go_round
        case rel => exact ⟨i, M, by omega, by rw [HPm.out], by rw [HM.out], HN2⟩
        case measure => simp [intOf]; omega
      · obtain rfl : j = 0 := by omega
        rw [List.drop_zero] at HN
        clear HCell
        have hN64 : N < 18446744073709551616 := by rw [HN.out]; exact Nat.mod_lt _ (by omega)
        rw [← HN.out] at HFo
        have HSub := hide (HE.out.held.sub a (k + 1))
        have HTl : Hid (((xs.drop a).take (k + 1)).length = P + 1 - a) := by show _ = _; rw [List.length_take, HDl.out, HPn.out]; omega
        have hwP : IntKind.i64.wrap ((P : Int) + 1) = ((P + 1 : Nat) : Int) := by rw [IntKind.wrap_i64]; omega
        have hwP2 : (P : Int) + 1 = ((P + 1 : Nat) : Int) := by omega
        have hwP3 : IntKind.i64.wrap ((P + 1 : Nat) : Int) = ((P + 1 : Nat) : Int) := by rw [IntKind.wrap_i64]; omega
        have hca : ¬ c = a := by omega
        have h0 : (0 : Int) ≤ (a : Int) := by omega
        have h8 : ((P + 1 : Nat) : Int) ≤ (c : Int) := by omega
        have h9 : (a : Int) ≤ ((P + 1 : Nat) : Int) := by have := HPn.out; omega
        have h11 : a ≤ P + 1 := by have := HPn.out; omega
        have h12 : P + 1 ≤ c := by omega
        have HPa : Hid (P + 1 = a + (k + 1)) := by show _ = _; rw [HPn.out]; omega
        have hvs := vs_bounds N hN64
        have HVl : Hid ((varOf N (vs N - 1)).length = vs N) := by show _ = _; rw [varOf_length]; omega
        have HVs := hide (var_small N hN64)
        have HRv := hide (fun w => ref_var_any N hN64 w)
        unfold Vared at HRv
        have HJ1 : Hid (Bad k ((xs.drop a).getD k 0) → rNext 3 most xs a 0 = (no 0, a, 11)) := fun hb => rn_var_bad most xs a 11 (by omega) (by rw [HFd.out, if_pos hb])
        have HJ2 : Hid (¬ Bad k ((xs.drop a).getD k 0) → most < N → rNext 3 most xs a 0 = (no 0, a, 12)) := fun hb hmn => rn_var_bad most xs a 12 (by omega) (by
          rw [HN.out, Nat.mod_eq_of_lt (HFi.out hb)] at hmn
          rw [HFd.out, if_neg hb, if_pos hmn])
        have HJ3 : Hid (¬ Bad k ((xs.drop a).getD k 0) → ¬ most < N → rNext 3 most xs a 0 = (⟨N, 0, 0, k + 1, 0⟩, P + 1, 0)) := fun hb hmn => by
          have hfit := HFi.out hb
          have e : N = hv ((xs.drop a).take (k + 1)) := by rw [HN.out, Nat.mod_eq_of_lt hfit]
          rw [rn_var, HFd.out, if_neg hb, ← e, if_neg hmn]
          simp [HPa.out]
        clear HFd HFi HN
        generalize (xs.drop a).take (k + 1) = ys at *
        generalize varOf N (vs N - 1) = zs at *
        generalize vs N = s at *
        generalize P + 1 = P1 at *
        go_wp2
        go_region_held3 (fun w' => w'.cell? ⟨b, 0, none⟩ = some (.slice (some ⟨g, o, none⟩) xs.length c) ∧ w'.cell? ⟨b, 1, none⟩ = some (.int .i64 (a : Int))) (go_keep)
          (first
            | (go_at_call 42; refine (HRv.out _).mono ?_; rintro e w3 ⟨g3, k3, rfl, hown3, hb3⟩; have HE3 := hide ((HE.out.below (Below.refl _ _).drew).below hb3); have HO3 := hide (owns_bytes hown3 HVs.out); have HB3 : Hid (But b w w3) := HB.out.drew.trans (but_of hb3 b); have HSub3 := hide ((HSub.out.below (Below.refl _ _).drew).below hb3); clear hown3 hb3; obtain ⟨s0, s1, s2, sf⟩ := blk3 HE3.out.blk)
            | (go_at_call 27; refine (eq_dec _ _ _ s _ _ _ zs ys HVl.out HTl.out (by omega) (by omega) HO3.out HSub3.out).mono ?_; rintro e w4 ⟨rr, rfl, hrr, q4, rfl⟩; have HRR := hide hrr; have HE4 := hide (HE3.out.below (bad_drews w3 q4)); have HB4 : Hid (But b w (w3.drewN q4)) := HB3.out.trans (but_of (bad_drews w3 q4) b); generalize w3.drewN q4 = w4 at *; clear hrr; obtain ⟨s0, s1, s2, sf⟩ := blk3 HE4.out.blk))
        by_cases hbad : Bad k ((xs.drop a).getD k 0)
        · obtain rfl : rr = false := by
            cases rr
            · rfl
            · exact absurd hbad (HFo.out.1 (HRR.out.1 rfl))
          have HN1 := hide (HJ1.out hbad)
          have HE5 := hide (HE4.out.fault 11)
          clear HJ1 HJ2 HJ3 hbad HFo HRR
          go_wp2
          go_ret
          exact ⟨by rw [HN1.out]; rfl, by rw [HN1.out]; exact HE5.out, HB4.out.setCell (p := ⟨b, 2, none⟩) (Or.inl rfl) _⟩
        · obtain rfl : rr = true := HRR.out.2 (HFo.out.2 hbad)
          by_cases hmn : most < N
          · have HN1 := hide (HJ2.out hbad hmn)
            have HE5 := hide (HE4.out.fault 12)
            have l1 : (most : Int) < (N : Int) := by omega
            clear HJ1 HJ2 HJ3 hbad HFo HRR
            go_wp2
            go_ret
            exact ⟨by rw [HN1.out]; rfl, by rw [HN1.out]; exact HE5.out, HB4.out.setCell (p := ⟨b, 2, none⟩) (Or.inl rfl) _⟩
          · have HN1 := hide (HJ3.out hbad hmn)
            have HE5 := hide (HE4.out.place P1 (by omega))
            have l1 : ¬ (most : Int) < (N : Int) := by omega
            clear HJ1 HJ2 HJ3 hbad HFo HRR
            go_wp2
            go_ret
            exact ⟨by rw [HN1.out]; rfl, by rw [HN1.out]; exact HE5.out, HB4.out.setCell (p := ⟨b, 1, none⟩) (Or.inl rfl) _⟩

theorem evar_any (w : World) (b : Nat) (sp : Option Addr) (c : Nat) (xs : List Nat) (a f most : Nat) (hm : most < 18446744073709551616) (hr : Ey w b sp c xs a f) :
    Calls Tryd.prog 24 #[.pointer (some ⟨b, 0, none⟩), .int .u64 most] w fun e w' => EyeNum .u64 w w' b sp c xs (rNext 3 most xs a f) e := by
  by_cases hf : f ≠ 0
  · rw [rn_done _ _ _ _ _ hf]
    exact evar_done w b sp c xs a f most hf hr
  · obtain rfl : f = 0 := by omega
    exact evar_open w b sp c xs a most hm hr

end Go.Proofs.YtfjhbbekeibpkaaDoor.C
