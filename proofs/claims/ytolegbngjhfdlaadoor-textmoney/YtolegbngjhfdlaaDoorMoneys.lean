import Derived.Test.YtolegbngjhfdlaaDoorFormed
import Derived.Test.YtolegbngjhfdlaaDoorBegun2
import Derived.Test.YtolegbngjhfdlaaDoorSums
import Derived.BigQuiet
import Derived.Lib.QuietBelow
namespace Go.Proofs.YtolegbngjhfdlaaDoor
open Go.RowKit Go.Sort

theorem mny_any3 (w : World) (hT : Tabs w) (n : Int) (h0 : -9223372036854775808 ≤ n) (h1 : n ≤ 9223372036854775807) :
    Calls Tryd.prog 19 #[.int .i64 n] w fun e w' => e = .returned (.string (str (mny n))) ∧ Below w.heap.size w w' :=
  (money_any w hT n h0 h1).mono fun e w' ⟨⟨t, he, ht⟩, hb⟩ => ⟨by rw [he, str_of ht], hb⟩
theorem box_d0 (w : World) (v0 v1 : Value) (t : TypeId) : (w.alloc (.cells #[v0, v1] t)).cell? ⟨w.heap.size, 0, none⟩ = some v0 := by
  have h := World.alloc_heap_new w (.cells #[v0, v1] t)
  unfold World.cell?; simp only [h]; rfl
theorem box_d1 (w : World) (v0 v1 : Value) (t : TypeId) : (w.alloc (.cells #[v0, v1] t)).cell? ⟨w.heap.size, 1, none⟩ = some v1 := by
  have h := World.alloc_heap_new w (.cells #[v0, v1] t)
  unfold World.cell?; simp only [h]; rfl
theorem str_self5 (a : ByteArray) : (a.toList == a.toList) = true := (str_eq a a).2 rfl

theorem mny_small (n : Int) : ∀ x ∈ mny n, x < 256 := by
  intro x hx
  unfold mny at hx
  simp only [List.mem_append] at hx
  rcases hx with (hx | hx) | hx
  · split at hx
    · simp at hx; omega
    · simp at hx
  · rcases mrk_mem _ _ _ hx with h | h
    · omega
    · have := dn_dig _ x h; simp [isDig] at this; omega
  · simp at hx; omega
theorem nums_mny (n : Int) : nums (str (mny n)) = mny n := nums_str _ (mny_small n)
theorem mny_len (n : Int) (h0 : -9223372036854775808 ≤ n) (h1 : n ≤ 9223372036854775807) : (mny n).length ≤ 50 := by
  unfold mny
  have h2 := mrk_len (dn (n.natAbs / 100)) true
  have h3 := dn_len (n.natAbs / 100) (by omega)
  simp only [List.length_append]
  split <;> simp <;> omega

theorem neg_text (S : ByteArray) (u : Nat) (h : nums S = 45 :: mnu u) : (S.toList == ([] : List UInt8)) = false ∧ (∃ hp : 0 < S.size, (S[0]'hp).toNat = 45) ∧ nums (S.extract 1 S.size) = mnu u ∧ 1 ≤ S.size := by
  have hsz : S.size = (mnu u).length + 1 := by rw [← nums_len, h, List.length_cons]
  refine ⟨?_, ⟨by omega, ?_⟩, ?_, by omega⟩
  · rw [nums_eq, h]; simp
  · have := nums_at S 0 (by omega)
    rw [h] at this
    exact (Option.some.inj this).symm
  · rw [extract_nums, h, hsz]
    simp

set_option maxRecDepth 100000 in
set_option maxHeartbeats 8000000 in
theorem moneys_all (w : World) (hT : Tabs w) (sp : Option Addr) (l c : Nat) (ls : List ByteArray) (np : Option Addr) (m d : Nat) (zs : List Int) (hs : InS w sp l c ls) (hn : InN w np m d zs) :
    Calls Tryd.prog 8 #[.agg #[.slice sp l c, .slice np m d]] w fun e w' => e = .returned (.bool true) ∧ Below w.heap.size w w' := by
  have hB0 : Below w.heap.size w (w.alloc (.cells #[.slice sp l c, .slice np m d] 32)) := (Below.refl _ w).alloc (Nat.le_refl _) _
  have b0 := box_d0 w (.slice sp l c) (.slice np m d) 32
  have b1 := box_d1 w (.slice sp l c) (.slice np m d) 32
  have HT := hide hT
  have HN := hide hn.lie
  have HS := hide hs.lie
  have HNe := hide hn.each
  have HNl := hide hn.len
  have HSe := hide hs.each
  have HSl := hide hs.len
  have hm : m ≤ 140737488351232 := Nat.le_trans hn.cap hn.most
  have hl : l ≤ 140737488351232 := Nat.le_trans hs.cap hs.most
  have HB0 := hide hB0
  clear hT hs hn hB0
  go_enter Tryd.func8, Tryd.ntmps8
  go_wp2
  go_quiet (fail)
  have HB1 : Hid (Below w.heap.size w ((w.alloc (.cells #[.slice sp l c, .slice np m d] 32)).drewN nq)) := below_drewNv HB0.out nq
  clear b0 b1 HB0
  generalize (w.alloc (.cells #[.slice sp l c, .slice np m d] 32)).drewN nq = w0 at *
  have HBe := hide (begun_any w0 (HT.out.below HB1.out))
  go_wp2_with fail
  refine HBe.out.mono ?_
  rintro e w1 ⟨rfl, b1⟩
  have HB2 : Hid (Below w.heap.size w w1) := HB1.out.trans (b1.mono HB1.out.size)
  clear b1 HBe HB1
  go_wp2
  go_loopw [5] (fun i wr => ∃ (k : Nat), k ≤ m ∧ i = .int .i64 (k : Int) ∧ Hid (Below w.heap.size w wr)) (fun i _ => m - (intOf i).toNat)
  case atStart => exact ⟨0, Nat.zero_le _, rfl, HB2⟩
  case round =>
    clear HB2
    obtain ⟨k, hk, rfl, HB⟩ := hrel
    by_cases hlt : k < m
    · have hlt' : k < zs.length := by rw [HNl.out]; exact hlt
      have e1 : zs[k]? = some (zs[k]'hlt') := List.getElem?_eq_getElem _
      obtain ⟨hz1, hz2⟩ := HNe.out _ (List.getElem_mem hlt')
      have hml : zs.length = m := HNl.out
      obtain ⟨g, o, hp, hg, HPc⟩ : ∃ g o, np = some ⟨g, o, none⟩ ∧ g < w.heap.size ∧ Hid (∀ (j : Nat) v, zs[j]? = some v → ∀ W, Below w.heap.size w W → W.cell? ⟨g, o + j, none⟩ = some (.int .i64 v)) := by
        rcases HN.out with h | ⟨g, o, e, hg, hc⟩
        · rw [h] at hlt'; simp at hlt'
        · exact ⟨g, o, e, hg, fun j v hv W hW => by rw [hW.cell (p := ⟨g, o + j, none⟩) hg]; exact hc j _ hv⟩
      subst hp
      have HC : Hid (∀ W, Below w.heap.size w W → W.cell? ⟨g, o + k, none⟩ = some (.int .i64 (zs[k]'hlt'))) := fun W hW => HPc.out k _ e1 W hW
      clear e1
      generalize zs[k]'hlt' = z at *
      have HM := hide (mny_any3 wr (HT.out.below HB.out) z hz1 hz2)
      have HSn := hide (nums_mny z)
      have hSs : (str (mny z)).size ≤ 50 := by rw [← nums_len, nums_mny]; exact mny_len z hz1 hz2
      generalize str (mny z) = S at *
      have HA := hide (fun W => amt_any W S (by omega))
      rw [HSn.out] at HA
      have l1 : (k : Int) < (m : Int) := by omega
      have l2 : (0 : Int) ≤ (k : Int) := by omega
      have c1 := HC.out _ HB.out
      go_wp2_with fail
      refine HM.out.mono ?_
      rintro e w2 ⟨rfl, b2⟩
      have HB3 : Hid (Below w.heap.size w w2) := HB.out.trans (b2.mono HB.out.size)
      clear b2 HM c1
      go_wp2_with fail
      refine (HA.out w2).mono ?_
      rintro e w3 ⟨rfl, b3⟩
      have HB4 : Hid (Below w.heap.size w w3) := HB3.out.trans (b3.mono HB3.out.size)
      have c3 := HC.out _ HB4.out
      clear b3 HA HB HB3
      by_cases hneg : z < 0
      · obtain ⟨n1, ⟨n2, n3⟩, n4, n5⟩ := neg_text S z.natAbs (by rw [HSn.out, mny_neg z hneg])
        rw [mny_neg z hneg, amt_neg]
        have HSx : Hid (∀ n, z = -n → S.extract 1 S.size = str (mny n)) := fun n e => by
          rw [mny_pos n (by omega), show n.natAbs = z.natAbs by omega]
          exact str_of n4
        have HTs := hide (extract_size S 1 S.size)
        have HFm := hide (form_of _ _ n4)
        generalize hTT : S.extract 1 S.size = T at *
        have HFq : Hid (∀ d os, Calls Tryd.prog 27 #[.string T] (grow (redrawn w3 d) os) fun e w'' => e = .returned (.bool true) ∧ ∃ p : Regrown, w'' = grow (redrawn w3 p.d) p.os) := fun d os => Calls.regrown_of ((formed_any _ T _ HFm.out (by have := HTs.out; omega)).mono fun e w'' ⟨h1, h2⟩ => ⟨h1, by rw [h2]; exact Below.refl _ _⟩)
        have HNq : Hid (∀ z d os, Calls Tryd.prog 10 #[.int .i64 z] (grow (redrawn w3 d) os) fun e w'' => e = .returned (.int .i64 z) ∧ ∃ p : Regrown, w'' = grow (redrawn w3 p.d) p.os) := fun z d os => Calls.regrown_of ((num_any _ z).mono fun e w'' ⟨h1, h2⟩ => ⟨h1, by rw [h2]; exact Below.refl _ _⟩)
        have kz := cell_regrown c3
        have x1 : (1 : Int) ≤ (S.size : Int) := by omega
        have x2 : (0 : Int) < (S.size : Int) := by omega
        clear n4
        by_cases h62 : -4611686018427387904 < z
        · have y62 : (-4611686018427387904 : Int) < z := h62
          have HMn : Hid (∀ d os, Calls Tryd.prog 19 #[.int .i64 (-z)] (grow (redrawn w3 d) os) fun e w'' => e = .returned (.string T) ∧ ∃ p : Regrown, w'' = grow (redrawn w3 p.d) p.os) := fun d os => by
            rw [HSx.out (-z) (by omega)]
            exact Calls.regrown_of (mny_any3 _ (HT.out.below (HB4.out.trans ((below_regrown w3 d os).mono HB4.out.size))) (-z) (by omega) (by omega))
          have zTT := str_self5 T
          go_wp2
          refine wp_region_quiet_below (by kernel_rfl) (by kernel_rfl) ?_
          repeat (go_big_quiet_step (first | (go_at_call 10; exact HNq.out _ _ _) | (go_at_call 27; exact HFq.out _ _) | (go_at_call 19; exact HMn.out _ _)))
          refine wpQuiet_nil ?_
          intro _ hw'
          obtain ⟨⟨dq, osq⟩, hw''⟩ := hw'
          subst hw''
          have HB5 : Hid (Below w.heap.size w (grow (redrawn w3 dq) osq)) := HB4.out.trans ((below_regrown w3 dq osq).mono HB4.out.size)
          clear kz c3
          generalize grow (redrawn w3 dq) osq = w5 at *
          have c5 := HC.out _ HB5.out
          by_cases hk0 : k = 0
          · have y1 : decide ((0 : Int) < (k : Int)) = false := decide_eq_false (by omega)
            have y1b : decide (0 < k) = false := decide_eq_false (by omega)
            clear hk0
            go_wp2
            refine wp_region_quiet_below (by kernel_rfl) (by kernel_rfl) ?_
            repeat (go_big_quiet_step (fail))
            refine wpQuiet_nil ?_
            intro _ hw'
            obtain ⟨⟨dq, osq⟩, hw''⟩ := hw'
            subst hw''
            have HB6 : Hid (Below w.heap.size w (grow (redrawn w5 dq) osq)) := HB5.out.trans ((below_regrown w5 dq osq).mono HB5.out.size)
            go_wp2
            go_roundw
            case rel => exact ⟨k + 1, by omega, by go_num, HB6⟩
            case measure => simp [intOf]; omega
          · obtain ⟨j, rfl⟩ : ∃ j, k = j + 1 := ⟨k - 1, by omega⟩
            have hjl : j < zs.length := by omega
            have ej : zs[j]? = some (zs[j]'hjl) := List.getElem?_eq_getElem _
            obtain ⟨hq1, hq2⟩ := HNe.out _ (List.getElem_mem hjl)
            have kq := cell_regrown (HPc.out j _ ej _ HB5.out)
            have kz := cell_regrown (HC.out _ HB5.out)
            generalize zs[j]'hjl = q at *
            have j1 : (j : Int) < (m : Int) := by omega
            have j2 : (0 : Int) ≤ (j : Int) := by omega
            have y1 : 0 < j + 1 := by omega
            have y1c : (0 : Int) < (j : Int) + 1 := by omega
            clear ej hk0
            by_cases hq : z = q
            · have yq : (z != q) = false := by simp [hq]
              clear hq
              go_wp2
              refine wp_region_quiet_below (by kernel_rfl) (by kernel_rfl) ?_
              repeat (go_big_quiet_step (fail))
              refine wpQuiet_nil ?_
              intro _ hw'
              obtain ⟨⟨dq, osq⟩, hw''⟩ := hw'
              subst hw''
              have HB6 : Hid (Below w.heap.size w (grow (redrawn w5 dq) osq)) := HB5.out.trans ((below_regrown w5 dq osq).mono HB5.out.size)
              clear kq kz
              go_wp2
              go_roundw
              case rel => exact ⟨j + 1 + 1, by omega, by go_num, HB6⟩
              case measure => simp [intOf]; omega
            · have yq : (z != q) = true := by simp [hq]
              have HMq : Hid (∀ d os, Calls Tryd.prog 19 #[.int .i64 q] (grow (redrawn w5 d) os) fun e w'' => e = .returned (.string (str (mny q))) ∧ ∃ p : Regrown, w'' = grow (redrawn w5 p.d) p.os) := fun d os => Calls.regrown_of (mny_any3 _ (HT.out.below (HB5.out.trans ((below_regrown w5 d os).mono HB5.out.size))) q hq1 hq2)
              have ySQ : (S.toList == (str (mny q)).toList) = false := by
                rw [Bool.eq_false_iff]
                intro e
                have e2 := (str_eq _ _).1 e
                apply hq
                apply mny_inj
                rw [← HSn.out, e2]
                exact nums_mny q
              generalize str (mny q) = Q at *
              clear hq
              go_wp2
              refine wp_region_quiet_below (by kernel_rfl) (by kernel_rfl) ?_
              repeat (go_big_quiet_step (first | (go_at_call 19; exact HMq.out _ _)))
              refine wpQuiet_nil ?_
              intro _ hw'
              obtain ⟨⟨dq, osq⟩, hw''⟩ := hw'
              subst hw''
              have HB6 : Hid (Below w.heap.size w (grow (redrawn w5 dq) osq)) := HB5.out.trans ((below_regrown w5 dq osq).mono HB5.out.size)
              clear kq kz
              go_wp2
              go_roundw
              case rel => exact ⟨j + 1 + 1, by omega, by go_num, HB6⟩
              case measure => simp [intOf]; omega
        · have y62 : decide ((-4611686018427387904 : Int) < z) = false := decide_eq_false h62
          go_wp2
          refine wp_region_quiet_below (by kernel_rfl) (by kernel_rfl) ?_
          repeat (go_big_quiet_step (first | (go_at_call 10; exact HNq.out _ _ _) | (go_at_call 27; exact HFq.out _ _)))
          refine wpQuiet_nil ?_
          intro _ hw'
          obtain ⟨⟨dq, osq⟩, hw''⟩ := hw'
          subst hw''
          have HB5 : Hid (Below w.heap.size w (grow (redrawn w3 dq) osq)) := HB4.out.trans ((below_regrown w3 dq osq).mono HB4.out.size)
          clear kz c3
          generalize grow (redrawn w3 dq) osq = w5 at *
          have c5 := HC.out _ HB5.out
          by_cases hk0 : k = 0
          · have y1 : decide ((0 : Int) < (k : Int)) = false := decide_eq_false (by omega)
            have y1b : decide (0 < k) = false := decide_eq_false (by omega)
            clear hk0
            go_wp2
            refine wp_region_quiet_below (by kernel_rfl) (by kernel_rfl) ?_
            repeat (go_big_quiet_step (fail))
            refine wpQuiet_nil ?_
            intro _ hw'
            obtain ⟨⟨dq, osq⟩, hw''⟩ := hw'
            subst hw''
            have HB6 : Hid (Below w.heap.size w (grow (redrawn w5 dq) osq)) := HB5.out.trans ((below_regrown w5 dq osq).mono HB5.out.size)
            go_wp2
            go_roundw
            case rel => exact ⟨k + 1, by omega, by go_num, HB6⟩
            case measure => simp [intOf]; omega
          · obtain ⟨j, rfl⟩ : ∃ j, k = j + 1 := ⟨k - 1, by omega⟩
            have hjl : j < zs.length := by omega
            have ej : zs[j]? = some (zs[j]'hjl) := List.getElem?_eq_getElem _
            obtain ⟨hq1, hq2⟩ := HNe.out _ (List.getElem_mem hjl)
            have kq := cell_regrown (HPc.out j _ ej _ HB5.out)
            have kz := cell_regrown (HC.out _ HB5.out)
            generalize zs[j]'hjl = q at *
            have j1 : (j : Int) < (m : Int) := by omega
            have j2 : (0 : Int) ≤ (j : Int) := by omega
            have y1 : 0 < j + 1 := by omega
            have y1c : (0 : Int) < (j : Int) + 1 := by omega
            clear ej hk0
            by_cases hq : z = q
            · have yq : (z != q) = false := by simp [hq]
              clear hq
              go_wp2
              refine wp_region_quiet_below (by kernel_rfl) (by kernel_rfl) ?_
              repeat (go_big_quiet_step (fail))
              refine wpQuiet_nil ?_
              intro _ hw'
              obtain ⟨⟨dq, osq⟩, hw''⟩ := hw'
              subst hw''
              have HB6 : Hid (Below w.heap.size w (grow (redrawn w5 dq) osq)) := HB5.out.trans ((below_regrown w5 dq osq).mono HB5.out.size)
              clear kq kz
              go_wp2
              go_roundw
              case rel => exact ⟨j + 1 + 1, by omega, by go_num, HB6⟩
              case measure => simp [intOf]; omega
            · have yq : (z != q) = true := by simp [hq]
              have HMq : Hid (∀ d os, Calls Tryd.prog 19 #[.int .i64 q] (grow (redrawn w5 d) os) fun e w'' => e = .returned (.string (str (mny q))) ∧ ∃ p : Regrown, w'' = grow (redrawn w5 p.d) p.os) := fun d os => Calls.regrown_of (mny_any3 _ (HT.out.below (HB5.out.trans ((below_regrown w5 d os).mono HB5.out.size))) q hq1 hq2)
              have ySQ : (S.toList == (str (mny q)).toList) = false := by
                rw [Bool.eq_false_iff]
                intro e
                have e2 := (str_eq _ _).1 e
                apply hq
                apply mny_inj
                rw [← HSn.out, e2]
                exact nums_mny q
              generalize str (mny q) = Q at *
              clear hq
              go_wp2
              refine wp_region_quiet_below (by kernel_rfl) (by kernel_rfl) ?_
              repeat (go_big_quiet_step (first | (go_at_call 19; exact HMq.out _ _)))
              refine wpQuiet_nil ?_
              intro _ hw'
              obtain ⟨⟨dq, osq⟩, hw''⟩ := hw'
              subst hw''
              have HB6 : Hid (Below w.heap.size w (grow (redrawn w5 dq) osq)) := HB5.out.trans ((below_regrown w5 dq osq).mono HB5.out.size)
              clear kq kz
              go_wp2
              go_roundw
              case rel => exact ⟨j + 1 + 1, by omega, by go_num, HB6⟩
              case measure => simp [intOf]; omega
      · have yn : decide (z < 0) = false := decide_eq_false hneg
        obtain ⟨u, rfl⟩ : ∃ u : Nat, z = (u : Int) := ⟨z.toNat, by omega⟩
        rw [mny_pos _ hneg, show (u : Int).natAbs = u by omega] at HSn ⊢
        rw [amt_mnu]
        have HFm := hide (form_of S u HSn.out)
        have HFo : Hid (∀ W, Calls Tryd.prog 27 #[.string S] W fun e w' => e = .returned (.bool true) ∧ w' = W) := fun W => formed_any W S _ HFm.out (by omega)
        rw [← show mny (u : Int) = mnu u by rw [mny_pos _ hneg, show (u : Int).natAbs = u by omega]] at HSn
        by_cases hbig : u ≤ 1099511627776
        · rw [if_pos hbig]
          have yb : decide ((1099511627776 : Int) < (u : Int)) = false := decide_eq_false (by omega)
          have yu : ((u : Int) != (u : Int)) = false := by simp
          by_cases hk0 : k = 0
          · have y1 : decide ((0 : Int) < (k : Int)) = false := decide_eq_false (by omega)
            have y1b : decide (0 < k) = false := decide_eq_false (by omega)
            clear hk0
            go_wp2_with (first | (go_at_call 10; refine (num_any _ _).mono ?_; rintro e w9 ⟨rfl, h9⟩; obtain rfl := h9.symm; clear h9) | (go_at_call 27; refine (HFo.out _).mono ?_; rintro e w9 ⟨rfl, h9⟩; obtain rfl := h9.symm; clear h9))
            refine wp_region_quiet_below (by kernel_rfl) (by kernel_rfl) ?_
            repeat (go_big_quiet_step (fail))
            refine wpQuiet_nil ?_
            intro _ hw'
            obtain ⟨⟨dq, osq⟩, hw''⟩ := hw'
            subst hw''
            have HB6 : Hid (Below w.heap.size w (grow (redrawn w3 dq) osq)) := HB4.out.trans ((below_regrown w3 dq osq).mono HB4.out.size)
            go_wp2
            go_roundw
            case rel => exact ⟨k + 1, by omega, by go_num, HB6⟩
            case measure => simp [intOf]; omega
          · obtain ⟨j, rfl⟩ : ∃ j, k = j + 1 := ⟨k - 1, by omega⟩
            have hjl : j < zs.length := by omega
            have ej : zs[j]? = some (zs[j]'hjl) := List.getElem?_eq_getElem _
            obtain ⟨hq1, hq2⟩ := HNe.out _ (List.getElem_mem hjl)
            have kq := cell_regrown (HPc.out j _ ej _ HB4.out)
            have kz := cell_regrown (HC.out _ HB4.out)
            generalize zs[j]'hjl = q at *
            have j1 : (j : Int) < (m : Int) := by omega
            have j2 : (0 : Int) ≤ (j : Int) := by omega
            have y1 : 0 < j + 1 := by omega
            have y1c : (0 : Int) < (j : Int) + 1 := by omega
            clear ej hk0
            by_cases hq : (u : Int) = q
            · have yq : ((u : Int) != q) = false := by simp [hq]
              clear hq
              go_wp2_with (first | (go_at_call 10; refine (num_any _ _).mono ?_; rintro e w9 ⟨rfl, h9⟩; obtain rfl := h9.symm; clear h9) | (go_at_call 27; refine (HFo.out _).mono ?_; rintro e w9 ⟨rfl, h9⟩; obtain rfl := h9.symm; clear h9))
              refine wp_region_quiet_below (by kernel_rfl) (by kernel_rfl) ?_
              repeat (go_big_quiet_step (fail))
              refine wpQuiet_nil ?_
              intro _ hw'
              obtain ⟨⟨dq, osq⟩, hw''⟩ := hw'
              subst hw''
              have HB6 : Hid (Below w.heap.size w (grow (redrawn w3 dq) osq)) := HB4.out.trans ((below_regrown w3 dq osq).mono HB4.out.size)
              clear kq kz
              go_wp2
              go_roundw
              case rel => exact ⟨j + 1 + 1, by omega, by go_num, HB6⟩
              case measure => simp [intOf]; omega
            · have yq : ((u : Int) != q) = true := by simp [hq]
              have HMq : Hid (∀ d os, Calls Tryd.prog 19 #[.int .i64 q] (grow (redrawn w3 d) os) fun e w'' => e = .returned (.string (str (mny q))) ∧ ∃ p : Regrown, w'' = grow (redrawn w3 p.d) p.os) := fun d os => Calls.regrown_of (mny_any3 _ (HT.out.below (HB4.out.trans ((below_regrown w3 d os).mono HB4.out.size))) q hq1 hq2)
              have ySQ : (S.toList == (str (mny q)).toList) = false := by
                rw [Bool.eq_false_iff]
                intro e
                have e2 := (str_eq _ _).1 e
                apply hq
                apply mny_inj
                rw [← HSn.out, e2]
                exact nums_mny q
              generalize str (mny q) = Q at *
              clear hq
              go_wp2_with (first | (go_at_call 10; refine (num_any _ _).mono ?_; rintro e w9 ⟨rfl, h9⟩; obtain rfl := h9.symm; clear h9) | (go_at_call 27; refine (HFo.out _).mono ?_; rintro e w9 ⟨rfl, h9⟩; obtain rfl := h9.symm; clear h9))
              refine wp_region_quiet_below (by kernel_rfl) (by kernel_rfl) ?_
              repeat (go_big_quiet_step (first | (go_at_call 19; exact HMq.out _ _)))
              refine wpQuiet_nil ?_
              intro _ hw'
              obtain ⟨⟨dq, osq⟩, hw''⟩ := hw'
              subst hw''
              have HB6 : Hid (Below w.heap.size w (grow (redrawn w3 dq) osq)) := HB4.out.trans ((below_regrown w3 dq osq).mono HB4.out.size)
              clear kq kz
              go_wp2
              go_roundw
              case rel => exact ⟨j + 1 + 1, by omega, by go_num, HB6⟩
              case measure => simp [intOf]; omega
        · rw [if_neg hbig]
          have yb : (1099511627776 : Int) < (u : Int) := by omega
          by_cases hk0 : k = 0
          · have y1 : decide ((0 : Int) < (k : Int)) = false := decide_eq_false (by omega)
            have y1b : decide (0 < k) = false := decide_eq_false (by omega)
            clear hk0
            go_wp2_with (first | (go_at_call 10; refine (num_any _ _).mono ?_; rintro e w9 ⟨rfl, h9⟩; obtain rfl := h9.symm; clear h9) | (go_at_call 27; refine (HFo.out _).mono ?_; rintro e w9 ⟨rfl, h9⟩; obtain rfl := h9.symm; clear h9))
            refine wp_region_quiet_below (by kernel_rfl) (by kernel_rfl) ?_
            repeat (go_big_quiet_step (fail))
            refine wpQuiet_nil ?_
            intro _ hw'
            obtain ⟨⟨dq, osq⟩, hw''⟩ := hw'
            subst hw''
            have HB6 : Hid (Below w.heap.size w (grow (redrawn w3 dq) osq)) := HB4.out.trans ((below_regrown w3 dq osq).mono HB4.out.size)
            go_wp2
            go_roundw
            case rel => exact ⟨k + 1, by omega, by go_num, HB6⟩
            case measure => simp [intOf]; omega
          · obtain ⟨j, rfl⟩ : ∃ j, k = j + 1 := ⟨k - 1, by omega⟩
            have hjl : j < zs.length := by omega
            have ej : zs[j]? = some (zs[j]'hjl) := List.getElem?_eq_getElem _
            obtain ⟨hq1, hq2⟩ := HNe.out _ (List.getElem_mem hjl)
            have kq := cell_regrown (HPc.out j _ ej _ HB4.out)
            have kz := cell_regrown (HC.out _ HB4.out)
            generalize zs[j]'hjl = q at *
            have j1 : (j : Int) < (m : Int) := by omega
            have j2 : (0 : Int) ≤ (j : Int) := by omega
            have y1 : 0 < j + 1 := by omega
            have y1c : (0 : Int) < (j : Int) + 1 := by omega
            clear ej hk0
            by_cases hq : (u : Int) = q
            · have yq : ((u : Int) != q) = false := by simp [hq]
              clear hq
              go_wp2_with (first | (go_at_call 10; refine (num_any _ _).mono ?_; rintro e w9 ⟨rfl, h9⟩; obtain rfl := h9.symm; clear h9) | (go_at_call 27; refine (HFo.out _).mono ?_; rintro e w9 ⟨rfl, h9⟩; obtain rfl := h9.symm; clear h9))
              refine wp_region_quiet_below (by kernel_rfl) (by kernel_rfl) ?_
              repeat (go_big_quiet_step (fail))
              refine wpQuiet_nil ?_
              intro _ hw'
              obtain ⟨⟨dq, osq⟩, hw''⟩ := hw'
              subst hw''
              have HB6 : Hid (Below w.heap.size w (grow (redrawn w3 dq) osq)) := HB4.out.trans ((below_regrown w3 dq osq).mono HB4.out.size)
              clear kq kz
              go_wp2
              go_roundw
              case rel => exact ⟨j + 1 + 1, by omega, by go_num, HB6⟩
              case measure => simp [intOf]; omega
            · have yq : ((u : Int) != q) = true := by simp [hq]
              have HMq : Hid (∀ d os, Calls Tryd.prog 19 #[.int .i64 q] (grow (redrawn w3 d) os) fun e w'' => e = .returned (.string (str (mny q))) ∧ ∃ p : Regrown, w'' = grow (redrawn w3 p.d) p.os) := fun d os => Calls.regrown_of (mny_any3 _ (HT.out.below (HB4.out.trans ((below_regrown w3 d os).mono HB4.out.size))) q hq1 hq2)
              have ySQ : (S.toList == (str (mny q)).toList) = false := by
                rw [Bool.eq_false_iff]
                intro e
                have e2 := (str_eq _ _).1 e
                apply hq
                apply mny_inj
                rw [← HSn.out, e2]
                exact nums_mny q
              generalize str (mny q) = Q at *
              clear hq
              go_wp2_with (first | (go_at_call 10; refine (num_any _ _).mono ?_; rintro e w9 ⟨rfl, h9⟩; obtain rfl := h9.symm; clear h9) | (go_at_call 27; refine (HFo.out _).mono ?_; rintro e w9 ⟨rfl, h9⟩; obtain rfl := h9.symm; clear h9))
              refine wp_region_quiet_below (by kernel_rfl) (by kernel_rfl) ?_
              repeat (go_big_quiet_step (first | (go_at_call 19; exact HMq.out _ _)))
              refine wpQuiet_nil ?_
              intro _ hw'
              obtain ⟨⟨dq, osq⟩, hw''⟩ := hw'
              subst hw''
              have HB6 : Hid (Below w.heap.size w (grow (redrawn w3 dq) osq)) := HB4.out.trans ((below_regrown w3 dq osq).mono HB4.out.size)
              clear kq kz
              go_wp2
              go_roundw
              case rel => exact ⟨j + 1 + 1, by omega, by go_num, HB6⟩
              case measure => simp [intOf]; omega
    · have l1 : decide ((k : Int) < (m : Int)) = false := decide_eq_false (by omega)
      go_wp2
      clear l1
      go_loopw [9] (fun i wr => ∃ (k : Nat), k ≤ l ∧ i = .int .i64 (k : Int) ∧ Hid (Below w.heap.size w wr)) (fun i _ => l - (intOf i).toNat)
      case atStart => exact ⟨0, Nat.zero_le _, rfl, HB⟩
      case round =>
        clear HB hk hlt
        obtain ⟨i, hi, rfl, HB⟩ := hrel
        by_cases hil : i < l
        · have hil' : i < ls.length := by rw [HSl.out]; exact hil
          have e1 : ls[i]? = some (ls[i]'hil') := List.getElem?_eq_getElem _
          have hsz := HSe.out _ (List.getElem_mem hil')
          obtain ⟨g, o, hp, hc1⟩ : ∃ g o, sp = some ⟨g, o, none⟩ ∧ wr.cell? ⟨g, o + i, none⟩ = some (.string (ls[i]'hil')) := by
            rcases HS.out.below HB.out (Nat.le_refl _) with h | ⟨g, o, e, _, hc⟩
            · rw [h] at hil'; simp at hil'
            · exact ⟨g, o, e, hc i _ e1⟩
          subst hp
          clear e1
          generalize ls[i]'hil' = s at *
          have l1 : (i : Int) < (l : Int) := by omega
          have l2 : (0 : Int) ≤ (i : Int) := by omega
          have HA := hide (amt_any wr s (by omega))
          have HEr := hide (amt_err (nums s))
          obtain ⟨V, E, hVE⟩ : ∃ V E, amtL (nums s) = (V, E) := ⟨_, _, rfl⟩
          rw [hVE] at HA HEr
          simp only at HA HEr
          clear hVE
          go_wp2_with fail
          refine HA.out.mono ?_
          rintro e w3 ⟨rfl, b3⟩
          have HB3 : Hid (Below w.heap.size w w3) := HB.out.trans (b3.mono HB.out.size)
          clear b3 HA HB hc1
          rcases HEr.out with ⟨rfl, hV⟩ | ⟨rfl, hE⟩
          · have HM := hide (mny_any3 w3 (HT.out.below HB3.out) (V : Int) (by omega) (by omega))
            have HSn := hide (nums_mny (V : Int))
            have hSs : (str (mny (V : Int))).size ≤ 50 := by rw [← nums_len, nums_mny]; exact mny_len _ (by omega) (by omega)
            generalize str (mny (V : Int)) = S at *
            have HA2 := hide (fun W => amt_any W S (by omega))
            rw [HSn.out, mny_pos _ (by omega), show (V : Int).natAbs = V by omega, amt_mnu, if_pos hV] at HA2
            have y1 : ((V : Int) != (V : Int)) = false := by simp
            have y2 : decide ((V : Int) < 0) = false := decide_eq_false (by omega)
            have y3 : decide ((1099511627776 : Int) < (V : Int)) = false := decide_eq_false (by omega)
            go_wp2_with (first | (go_at_call 10; refine (num_any _ _).mono ?_; rintro e w9 ⟨rfl, h9⟩; obtain rfl := h9.symm; clear h9))
            refine HM.out.mono ?_
            rintro e w4 ⟨rfl, b4⟩
            have HB4 : Hid (Below w.heap.size w w4) := HB3.out.trans (b4.mono HB3.out.size)
            clear b4 HM
            go_wp2_with fail
            refine (HA2.out w4).mono ?_
            rintro e w5 ⟨rfl, b5⟩
            have HB5 : Hid (Below w.heap.size w w5) := HB4.out.trans (b5.mono HB4.out.size)
            clear b5 HA2
            go_wp2_with (first | (go_at_call 10; refine (num_any _ _).mono ?_; rintro e w9 ⟨rfl, h9⟩; obtain rfl := h9.symm; clear h9))
            go_roundw
            case rel => exact ⟨i + 1, by omega, by go_num, HB5⟩
            case measure => simp [intOf]; omega
          · rcases hE with rfl | rfl
            · go_wp2_with (first | (go_at_call 10; refine (num_any _ _).mono ?_; rintro e w9 ⟨rfl, h9⟩; obtain rfl := h9.symm; clear h9))
              go_roundw
              case rel => exact ⟨i + 1, by omega, by go_num, HB3⟩
              case measure => simp [intOf]; omega
            · go_wp2_with (first | (go_at_call 10; refine (num_any _ _).mono ?_; rintro e w9 ⟨rfl, h9⟩; obtain rfl := h9.symm; clear h9))
              go_roundw
              case rel => exact ⟨i + 1, by omega, by go_num, HB3⟩
              case measure => simp [intOf]; omega
        · have l1 : decide ((i : Int) < (l : Int)) = false := decide_eq_false (by omega)
          have HBe := hide (begun_any wr (HT.out.below HB.out))
          go_wp2_with fail
          refine HBe.out.mono ?_
          rintro e w2 ⟨rfl, b2⟩
          have HB2 : Hid (Below w.heap.size w w2) := HB.out.trans (b2.mono HB.out.size)
          clear b2 HBe HB
          go_wp2
          go_ret
          exact ⟨rfl, HB2.out⟩

end Go.Proofs.YtolegbngjhfdlaaDoor
