import Derived.Test.YtfdclebajninfaaGreatDoorJOpen
namespace Go.Proofs.YtfdclebajninfaaGreatDoor
open Go.RowKit

theorem ext_getD {xs ys : List Nat} (h : xs.length = ys.length) (he : ∀ j, j < xs.length → xs.getD j 0 = ys.getD j 0) : xs = ys := by
  apply List.ext_getElem h
  intro j h1 h2
  have := he j h1
  simpa [List.getD, h1, h2] using this

set_option maxRecDepth 100000 in
set_option maxHeartbeats 400000 in
/-- Eq tells whether two lists are alike. -/
theorem eq_dec (w : World) (sp sq : Option Addr) (n m c1 c2 : Nat) (xs ys : List Nat) (hl : xs.length = n) (hm : ys.length = m) (hn : n ≤ 140737488355328) (hn2 : m ≤ 140737488355328) (h1 : Bytes w sp xs) (h2 : Bytes w sq ys) :
    Calls Tryz.prog 10 #[.slice sp n c1, .slice sq m c2] w fun e w' => ∃ r, e = .returned (.bool r) ∧ (r = true ↔ xs = ys) ∧ ∃ q, w' = w.drewN q := by
  by_cases hnm : n = m
  · subst hnm
    by_cases h0 : n = 0
    · subst h0
      have hx : xs = [] := List.eq_nil_of_length_eq_zero hl
      have hy : ys = [] := List.eq_nil_of_length_eq_zero hm
      go_enter Tryz.func10, Tryz.ntmps10
      go_wp2
      refine wp_loop_rounds 1 ?_
      rw [rounds_succ]
      go_wp2
      go_ret
      exact ⟨true, rfl, by simp [hx, hy], 0, rfl⟩
    · obtain ⟨g, o, rfl, hg, hc⟩ : ∃ g o, sp = some ⟨g, o, none⟩ ∧ g < w.heap.size ∧ ∀ j, j < xs.length → w.cell? ⟨g, o + j, none⟩ = some (.int .u8 (xs.getD j 0)) := by
        rcases h1.lie with h | h
        · subst h; simp at hl; omega
        · exact h
      obtain ⟨g', o', rfl, hg', hc'⟩ : ∃ g o, sq = some ⟨g, o, none⟩ ∧ g < w.heap.size ∧ ∀ j, j < ys.length → w.cell? ⟨g, o + j, none⟩ = some (.int .u8 (ys.getD j 0)) := by
        rcases h2.lie with h | h
        · subst h; simp at hm; omega
        · exact h
      rw [hl] at hc
      rw [hm] at hc'
      have HC := hide hc
      have HC' := hide hc'
      have HL : Hid (xs.length = n ∧ ys.length = n) := ⟨hl, hm⟩
      clear hc hc' h1 h2 hl hm
      go_enter Tryz.func10, Tryz.ntmps10
      go_wp2
      go_loopw [5] (fun i wr => ∃ k q : Nat, k ≤ n ∧ i = .int .i64 k ∧ Hid (wr = w.drewN q) ∧ Hid (∀ j, j < k → xs.getD j 0 = ys.getD j 0)) (fun i _ => n - (intOf i).toNat)
      case atStart => exact ⟨0, 0, Nat.zero_le _, rfl, rfl, fun j hj => by omega⟩
      case round =>
        obtain ⟨k, q, hk, rfl, HW, HA⟩ := hrel
        by_cases hlt : k < n
        · have d1 : wr.cell? ⟨g, o + k, none⟩ = some (.int .u8 (xs.getD k 0)) := by rw [HW.out]; exact HC.out k hlt
          have d2 : wr.cell? ⟨g', o' + k, none⟩ = some (.int .u8 (ys.getD k 0)) := by rw [HW.out]; exact HC'.out k hlt
          have i1 : (0 : Int) ≤ (k : Int) := by omega
          have i2 : (k : Int) < (n : Int) := by omega
          have HE : Hid (xs = ys → xs.getD k 0 = ys.getD k 0) := fun e => by rw [e]
          have HA2 : Hid (xs.getD k 0 = ys.getD k 0 → ∀ j, j < k + 1 → xs.getD j 0 = ys.getD j 0) := fun h j hj => by
            by_cases e : j = k
            · subst e; exact h
            · exact HA.out j (by omega)
          generalize xs.getD k 0 = x at *
          generalize ys.getD k 0 = y at *
          by_cases hxy : x = y
          · subst hxy
            have HA3 := hide (HA2.out rfl)
            clear HA2 HE
            go_wp2
            go_quiet (fail)
            go_wp2
            go_roundw
            case rel => exact ⟨k + 1, q + nq, by omega, by go_num, by show _ = _; rw [HW.out, World.drewN_drewN], HA3⟩
            case measure => simp [intOf]; omega
          · have hb : ((x : Int) != (y : Int)) = true := by simp; omega
            have HX := hide hxy
            clear hxy
            go_wp2
            go_quiet (fail)
            go_wp2
            go_ret
            exact ⟨false, rfl, ⟨fun e => (by cases e), fun e => absurd (HE.out e) HX.out⟩, q + nq, by rw [HW.out, World.drewN_drewN]⟩
        · obtain rfl : k = n := by omega
          have HY : Hid (xs = ys) := ext_getD (by rw [HL.out.1, HL.out.2]) (fun j hj => HA.out j (by rw [HL.out.1] at hj; exact hj))
          go_wp2
          go_ret
          exact ⟨true, rfl, ⟨fun _ => HY.out, fun _ => rfl⟩, q, HW.out⟩
  · have hb : ((n : Int) != (m : Int)) = true := by simp; omega
    have HX : Hid (xs ≠ ys) := fun e => hnm (by rw [← hl, ← hm, e])
    clear h1 h2 hl hm hnm
    go_enter Tryz.func10, Tryz.ntmps10
    go_wp2
    go_ret
    exact ⟨false, rfl, ⟨fun e => (by cases e), fun e => absurd e HX.out⟩, 0, rfl⟩

theorem eq_val (w : World) (sp sq : Option Addr) (n m c1 c2 : Nat) (xs ys : List Nat) (hl : xs.length = n) (hm : ys.length = m) (hn : n ≤ 140737488355328) (hn2 : m ≤ 140737488355328) (h1 : Bytes w sp xs) (h2 : Bytes w sq ys) :
    Calls Tryz.prog 10 #[.slice sp n c1, .slice sq m c2] w fun e w' => e = .returned (.bool (decide (xs = ys))) ∧ ∃ q, w' = w.drewN q :=
  (eq_dec w sp sq n m c1 c2 xs ys hl hm hn hn2 h1 h2).mono fun e w' ⟨r, e1, e2, e3⟩ => ⟨by rw [e1]; congr 2; cases r <;> simp_all, e3⟩

set_option maxRecDepth 100000 in
set_option maxHeartbeats 400000 in
theorem eqLists_val (w : World) (p1 p2 : Option Addr) (k m c1 c2 : Nat) (ps qs : List (List Nat)) (hk : ps.length = k) (hm : qs.length = m) (hkl : k ≤ 1099511627776) (hml : m ≤ 1099511627776) (h1 : Pts w p1 ps) (h2 : Pts w p2 qs) :
    Calls Tryz.prog 38 #[.slice p1 k c1, .slice p2 m c2] w fun e w' => e = .returned (.bool (decide (ps = qs))) ∧ ∃ q, w' = w.drewN q := by
  by_cases hkm : k = m
  · subst hkm
    have HA := hide h1
    have HB := hide h2
    have HK := hide hk
    have HM := hide hm
    clear h1 h2 hk hm
    obtain ⟨R, hR⟩ : ∃ R, decide (ps = qs) = R := ⟨_, rfl⟩
    rw [hR]
    have HR := hide hR
    clear hR
    go_enter Tryz.func38, Tryz.ntmps38
    go_wp2
    go_loopw [5] (fun i wr => ∃ j q : Nat, j ≤ k ∧ i = .int .i64 j ∧ Hid (wr = w.drewN q) ∧ Hid (∀ i, i < j → ps[i]? = qs[i]?)) (fun i _ => k - (intOf i).toNat)
    case atStart => exact ⟨0, 0, Nat.zero_le _, rfl, rfl, hide (fun i hi => by omega)⟩
    case round =>
      obtain ⟨j, q, hj, rfl, HW, HS⟩ := hrel
      by_cases hlt : j < k
      · obtain ⟨p, hp⟩ : ∃ p, ps[j]? = some p := ⟨_, List.getElem?_eq_getElem (by rw [HK.out]; exact hlt)⟩
        obtain ⟨p', hp'⟩ : ∃ p', qs[j]? = some p' := ⟨_, List.getElem?_eq_getElem (by rw [HM.out]; exact hlt)⟩
        have hA : Pts wr p1 ps := by rw [HW.out]; exact HA.out.drewN q
        have hB : Pts wr p2 qs := by rw [HW.out]; exact HB.out.drewN q
        obtain ⟨g1, o1, a1, d1, rfl, l1, x1, b1⟩ := hA.at hp
        obtain ⟨g2, o2, a2, d2, rfl, l2, x2, b2⟩ := hB.at hp'
        have hsm := HA.out.small p (List.mem_of_getElem? hp)
        have hsm' := HB.out.small p' (List.mem_of_getElem? hp')
        have HQ0 := fun q => eq_val (wr.drewN q) a1 a2 p.length p'.length d1 d2 p p' rfl rfl (by omega) (by omega) (b1.drewN q) (b2.drewN q)
        have i1 : (0 : Int) ≤ (j : Int) := by omega
        have i2 : (j : Int) < (k : Int) := by omega
        by_cases hpp : p = p'
        · subst hpp
          have HS2 : Hid (∀ i, i < j + 1 → ps[i]? = qs[i]?) := fun i hi => by
            by_cases e : i = j
            · rw [e, hp, hp']
            · exact HS.out i (by omega)
          rw [show decide (p = p) = true by simp] at HQ0
          have HQ := hide HQ0
          clear hp hp' hA hB b1 b2 hsm hsm' HQ0 HS
          generalize p.length = pl at *
          go_wp2
          go_quiet (first | (go_at_call 10; exact Calls.quiet_of (HQ.out _)))
          go_wp2
          go_roundw
          case rel => exact ⟨j + 1, q + nq, by omega, by go_num, by show _ = _; rw [HW.out, World.drewN_drewN], HS2⟩
          case measure => simp [intOf]; omega
        · have HF : Hid (R = false) := by
            rw [← HR.out]
            show decide (ps = qs) = false
            simp
            intro e
            rw [e, hp'] at hp
            cases hp
            exact hpp rfl
          rw [show decide (p = p') = false by simpa using hpp] at HQ0
          have HQ := hide HQ0
          clear hp hp' hA hB b1 b2 hsm hsm' HQ0 HS hpp
          generalize p.length = pl at *
          generalize p'.length = pl' at *
          go_wp2
          go_quiet (first | (go_at_call 10; exact Calls.quiet_of (HQ.out _)))
          go_wp2
          go_ret
          exact ⟨by rw [HF.out]; rfl, q + nq, by rw [HW.out, World.drewN_drewN]⟩
      · obtain rfl : j = k := by omega
        have HF : Hid (R = true) := by
          rw [← HR.out]
          show decide (ps = qs) = true
          simp
          refine List.ext_getElem? fun i => ?_
          by_cases hi : i < j
          · exact HS.out i hi
          · rw [List.getElem?_eq_none (by rw [HK.out]; omega), List.getElem?_eq_none (by rw [HM.out]; omega)]
        go_wp2
        go_ret
        exact ⟨by rw [HF.out]; rfl, q, HW.out⟩
  · have hF : decide (ps = qs) = false := by
      simp
      intro e
      exact hkm (by rw [← hk, ← hm, e])
    rw [hF]
    have hkm' : ((k : Int) != (m : Int)) = true := by simp; omega
    clear h1 h2 hk hm hF hkm
    go_enter Tryz.func38, Tryz.ntmps38
    go_wp2
    go_ret
    exact ⟨rfl, 0, rfl⟩

set_option maxRecDepth 100000 in
set_option maxHeartbeats 400000 in
theorem trans_val (w : World) (p1 p2 : Option Addr) (k m c1 c2 : Nat) (ps qs : List (List (List Nat))) (hk : ps.length = k) (hm : qs.length = m) (hkl : k ≤ 1099511627776) (hml : m ≤ 1099511627776) (h1 : Trs w p1 ps) (h2 : Trs w p2 qs) :
    Calls Tryz.prog 13 #[.slice p1 k c1, .slice p2 m c2] w fun e w' => e = .returned (.bool (decide (ps = qs))) ∧ ∃ q, w' = w.drewN q := by
  by_cases hkm : k = m
  · subst hkm
    have HA := hide h1
    have HB := hide h2
    have HK := hide hk
    have HM := hide hm
    clear h1 h2 hk hm
    obtain ⟨R, hR⟩ : ∃ R, decide (ps = qs) = R := ⟨_, rfl⟩
    rw [hR]
    have HR := hide hR
    clear hR
    go_enter Tryz.func13, Tryz.ntmps13
    go_wp2
    go_loopw [5] (fun i wr => ∃ j q : Nat, j ≤ k ∧ i = .int .i64 j ∧ Hid (wr = w.drewN q) ∧ Hid (∀ i, i < j → ps[i]? = qs[i]?)) (fun i _ => k - (intOf i).toNat)
    case atStart => exact ⟨0, 0, Nat.zero_le _, rfl, rfl, hide (fun i hi => by omega)⟩
    case round =>
      obtain ⟨j, q, hj, rfl, HW, HS⟩ := hrel
      by_cases hlt : j < k
      · obtain ⟨p, hp⟩ : ∃ p, ps[j]? = some p := ⟨_, List.getElem?_eq_getElem (by rw [HK.out]; exact hlt)⟩
        obtain ⟨p', hp'⟩ : ∃ p', qs[j]? = some p' := ⟨_, List.getElem?_eq_getElem (by rw [HM.out]; exact hlt)⟩
        have hA : Trs wr p1 ps := by rw [HW.out]; exact HA.out.drewN q
        have hB : Trs wr p2 qs := by rw [HW.out]; exact HB.out.drewN q
        obtain ⟨g1, o1, a1, d1, rfl, l1, x1, b1⟩ := hA.at hp
        obtain ⟨g2, o2, a2, d2, rfl, l2, x2, b2⟩ := hB.at hp'
        have hsm := HA.out.few p (List.mem_of_getElem? hp)
        have hsm' := HB.out.few p' (List.mem_of_getElem? hp')
        have HQ0 := fun q => eqLists_val (wr.drewN q) a1 a2 p.length p'.length d1 d2 p p' rfl rfl (by omega) (by omega) (b1.drewN q) (b2.drewN q)
        have i1 : (0 : Int) ≤ (j : Int) := by omega
        have i2 : (j : Int) < (k : Int) := by omega
        by_cases hpp : p = p'
        · subst hpp
          have HS2 : Hid (∀ i, i < j + 1 → ps[i]? = qs[i]?) := fun i hi => by
            by_cases e : i = j
            · rw [e, hp, hp']
            · exact HS.out i (by omega)
          rw [show decide (p = p) = true by simp] at HQ0
          have HQ := hide HQ0
          clear hp hp' hA hB b1 b2 hsm hsm' HQ0 HS
          generalize p.length = pl at *
          go_wp2
          go_quiet (first | (go_at_call 38; exact Calls.quiet_of (HQ.out _)))
          go_wp2
          go_roundw
          case rel => exact ⟨j + 1, q + nq, by omega, by go_num, by show _ = _; rw [HW.out, World.drewN_drewN], HS2⟩
          case measure => simp [intOf]; omega
        · have HF : Hid (R = false) := by
            rw [← HR.out]
            show decide (ps = qs) = false
            simp
            intro e
            rw [e, hp'] at hp
            cases hp
            exact hpp rfl
          rw [show decide (p = p') = false by simpa using hpp] at HQ0
          have HQ := hide HQ0
          clear hp hp' hA hB b1 b2 hsm hsm' HQ0 HS hpp
          generalize p.length = pl at *
          generalize p'.length = pl' at *
          go_wp2
          go_quiet (first | (go_at_call 38; exact Calls.quiet_of (HQ.out _)))
          go_wp2
          go_ret
          exact ⟨by rw [HF.out]; rfl, q + nq, by rw [HW.out, World.drewN_drewN]⟩
      · obtain rfl : j = k := by omega
        have HF : Hid (R = true) := by
          rw [← HR.out]
          show decide (ps = qs) = true
          simp
          refine List.ext_getElem? fun i => ?_
          by_cases hi : i < j
          · exact HS.out i hi
          · rw [List.getElem?_eq_none (by rw [HK.out]; omega), List.getElem?_eq_none (by rw [HM.out]; omega)]
        go_wp2
        go_ret
        exact ⟨by rw [HF.out]; rfl, q, HW.out⟩
  · have hF : decide (ps = qs) = false := by
      simp
      intro e
      exact hkm (by rw [← hk, ← hm, e])
    rw [hF]
    have hkm' : ((k : Int) != (m : Int)) = true := by simp; omega
    clear h1 h2 hk hm hF hkm
    go_enter Tryz.func13, Tryz.ntmps13
    go_wp2
    go_ret
    exact ⟨rfl, 0, rfl⟩
end Go.Proofs.YtfdclebajninfaaGreatDoor
