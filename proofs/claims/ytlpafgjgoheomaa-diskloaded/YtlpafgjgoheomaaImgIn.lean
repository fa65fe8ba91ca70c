import Derived.Test.YtlpafgjgoheomaaLendI
namespace Go.Proofs.Ytlpafgjgoheomaa
open Go.RowKit Go.Maps

/-- An image that came in, or lies anywhere. -/
structure Imi (w : World) (sp : Option Addr) (img : Image) : Prop where
  small : ∀ p ∈ img, p.2.length ≤ 140737488351232 ∧ p.1.length ≤ 140737488355328
  lie : img = [] ∨ ∃ g o, sp = some ⟨g, o, none⟩ ∧ g < w.heap.size ∧ ∀ k p, img[k]? = some p → ∃ ap cp, w.cell? ⟨g, o + k * 2, none⟩ = some (.string ⟨p.1.toArray⟩) ∧ w.cell? ⟨g, o + k * 2 + 1, none⟩ = some (.slice ap p.2.length cp) ∧ Bytes w ap p.2
theorem Imi.below {w w' : World} {sp : Option Addr} {img : Image} (h : Imi w sp img) (hb : Below w.heap.size w w') : Imi w' sp img := by
  refine ⟨h.small, h.lie.imp id ?_⟩
  rintro ⟨g, o, e, hg, hc⟩
  refine ⟨g, o, e, Nat.lt_of_lt_of_le hg hb.size, fun k p hp => ?_⟩
  obtain ⟨ap, cp, c0, c1, c2⟩ := hc k p hp
  exact ⟨ap, cp, (hb.cell (p := ⟨g, o + k * 2, none⟩) hg).trans c0, (hb.cell (p := ⟨g, o + k * 2 + 1, none⟩) hg).trans c1, c2.below hb⟩
theorem Imi.at {w : World} {sp : Option Addr} {img : Image} (h : Imi w sp img) {k : Nat} {p : Nm × List Nat} (hp : img[k]? = some p) :
    ∃ g o ap cp, sp = some ⟨g, o, none⟩ ∧ g < w.heap.size ∧ w.cell? ⟨g, o + k * 2, none⟩ = some (.string ⟨p.1.toArray⟩) ∧ w.cell? ⟨g, o + k * 2 + 1, none⟩ = some (.slice ap p.2.length cp) ∧ Bytes w ap p.2 := by
  rcases h.lie with h0 | ⟨g, o, e, hg, hc⟩
  · subst h0; simp at hp
  · obtain ⟨ap, cp, c0, c1, c2⟩ := hc k p hp
    exact ⟨g, o, ap, cp, e, hg, c0, c1, c2⟩
theorem im_in {w : World} {K : Knd} {a : Option Addr} {n c : Nat} {img : Image} (h : Im w K (.slice a n c) img) (hn : ∀ p ∈ img, p.1.length ≤ 140737488355328) : Imi w a img := by
  refine ⟨fun p hp => ⟨by have := (h.small p hp).2; omega, hn p hp⟩, ?_⟩
  cases img with
  | nil => exact Or.inl rfl
  | cons q img =>
    obtain ⟨g, _, _, e, hg, _⟩ := h.at (k := 0) (p := q) rfl
    refine Or.inr ⟨g, 0, e, hg, fun k p hp => ?_⟩
    obtain ⟨g', ap, cp, e', _, c0, c1, c2, _⟩ := h.at hp
    rw [e] at e'
    cases e'
    exact ⟨ap, cp, by simpa using c0, by simpa using c1, c2⟩

set_option maxRecDepth 100000 in
set_option maxHeartbeats 2000000 in
theorem eqImage_in (w : World) (a1 a2 : Option Addr) (n c1 c2 : Nat) (img : Image) (hnl : img.length = n) (ha : Imi w a1 img) (hb : Imi w a2 img) (hn : n ≤ 1099511627776) :
    Calls Try.prog 45 #[.slice a1 n c1, .slice a2 n c2] w fun e w' => e = .returned (.bool true) ∧ ∃ q, w' = w.drewN q := by
  have HA := hide ha
  have HB := hide hb
  have HN := hide hnl
  clear ha hb hnl
  go_enter Try.func45, Try.ntmps45
  go_wp2
  go_loopw [5] (fun i wr => ∃ k q : Nat, k ≤ n ∧ i = .int .i64 k ∧ Hid (wr = w.drewN q)) (fun i _ => n - (intOf i).toNat)
  case atStart => exact ⟨0, 0, Nat.zero_le _, rfl, rfl⟩
  case round =>
    obtain ⟨k, q, hk, rfl, HW⟩ := hrel
    by_cases hlt : k < n
    · obtain ⟨p, hp⟩ : ∃ p, img[k]? = some p := ⟨_, List.getElem?_eq_getElem (by rw [HN.out]; exact hlt)⟩
      have hA : Imi wr a1 img := by rw [HW.out]; exact HA.out.below (below_drewN (Below.refl _ w) q)
      have hB : Imi wr a2 img := by rw [HW.out]; exact HB.out.below (below_drewN (Below.refl _ w) q)
      obtain ⟨g1, o1, p1, d1, rfl, l1, x1, y1, b1⟩ := hA.at hp
      obtain ⟨g2, o2, p2, d2, rfl, l2, x2, y2, b2⟩ := hB.at hp
      have hsm := HA.out.small p (List.mem_of_getElem? hp)
      have HQ := hide (fun q => eq_same (wr.drewN q) p1 p2 p.2.length d1 d2 p.2 rfl (by omega) ⟨b1.small, b1.lie⟩ ⟨b2.small, b2.lie⟩)
      have i1 : (0 : Int) ≤ (k : Int) := by omega
      have i2 : (k : Int) < (n : Int) := by omega
      clear hp hA hB b1 b2 hsm
      generalize hs1 : (⟨p.1.toArray⟩ : ByteArray) = s1 at *
      clear hs1
      generalize p.2.length = pl at *
      go_wp2
      go_quiet (first | (go_at_call 19; exact Calls.quiet_of (HQ.out _)))
      go_wp2
      go_roundw
      case rel => exact ⟨k + 1, q + nq, by omega, by go_num, by show _ = _; rw [HW.out, World.drewN_drewN]⟩
      case measure => simp [intOf]; omega
    · obtain rfl : k = n := by omega
      go_wp2
      go_ret
      exact ⟨rfl, q, HW.out⟩

set_option maxRecDepth 100000 in
set_option maxHeartbeats 400000 in
theorem image_in (w : World) (a1 a2 : Option Addr) (n c1 c2 : Nat) (img : Image) (hnl : img.length = n) (ha : Imi w a1 img) (hb : Imi w a2 img) (hn : n ≤ 1099511627776) :
    Calls Try.prog 20 #[.slice a1 n c1, .slice a2 n c2] w fun e w' => e = .returned (.bool true) ∧ ∃ q, w' = w.drewN q := by
  have HE := hide (eqImage_in w a1 a2 n c1 c2 img hnl ha hb hn)
  clear ha hb
  go_enter Try.func20, Try.ntmps20
  go_wp2_with fail
  refine HE.out.mono ?_
  rintro e w1 ⟨rfl, q, rfl⟩
  go_wp2
  go_ret
  exact ⟨rfl, q, rfl⟩

set_option maxRecDepth 100000 in
set_option maxHeartbeats 1000000 in
theorem isName_s (w : World) (s : ByteArray) : Calls Try.prog 9 #[.string s] w fun e w' => e = .returned (.bool (isNm s.data.toList)) ∧ w' = w := by
  have hsz : s.data.toList.length = s.size := rfl
  by_cases h0 : s.size < 1
  · have h0' : (s.size : Int) < 1 := by omega
    have hr : isNm s.data.toList = false := by unfold isNm; rw [hsz]; simp; omega
    rw [hr]
    clear hr hsz h0
    go_enter Try.func9, Try.ntmps9
    go_wp2
    go_ret
    exact ⟨rfl, rfl⟩
  by_cases h1 : 64 < s.size
  · have h0' : ¬ (s.size : Int) < 1 := by omega
    have h1' : (64 : Int) < (s.size : Int) := by omega
    have hr : isNm s.data.toList = false := by unfold isNm; rw [hsz]; simp; omega
    rw [hr]
    clear hr hsz h0 h1
    go_enter Try.func9, Try.ntmps9
    go_wp2
    go_ret
    exact ⟨rfl, rfl⟩
  have h0' : ¬ (s.size : Int) < 1 := by omega
  have h1' : ¬ (64 : Int) < (s.size : Int) := by omega
  have HR : Hid (isNm s.data.toList = s.data.toList.all fun c => fby c.toNat) := by
    show _ = _
    unfold isNm
    have a1 : decide (1 ≤ s.data.toList.length) = true := by rw [hsz]; simp; omega
    have a2 : decide (s.data.toList.length ≤ 64) = true := by rw [hsz]; simp; omega
    rw [a1, a2]; simp
  obtain ⟨n, hn⟩ : ∃ n, s.size = n := ⟨_, rfl⟩
  have HN := hide hn
  have hn64 : n ≤ 64 := by omega
  clear hsz h0 h1
  rw [HR.out]
  obtain ⟨R, hR⟩ : ∃ R, (s.data.toList.all fun c => fby c.toNat) = R := ⟨_, rfl⟩
  rw [hR]
  have HRr := hide hR
  clear hR
  rw [hn] at h0' h1'
  go_enter Try.func9, Try.ntmps9
  go_wp2
  clear hn
  go_loopw [3] (fun i wr => ∃ k : Nat, k ≤ n ∧ i = .int .i64 k ∧ Hid ((s.data.toList.take k).all (fun c => fby c.toNat) = true) ∧ wr = w) (fun i _ => n - (intOf i).toNat)
  case atStart => exact ⟨0, Nat.zero_le _, rfl, rfl, rfl⟩
  case round =>
    obtain ⟨k, hk, rfl, HA, rfl⟩ := hrel
    by_cases hlt : k < n
    · have hlt' : (k : Int) < (n : Int) := by omega
      have hszn : (s.size : Int) = (n : Int) := by rw [HN.out]
      have hks : k < s.size := by rw [HN.out]; exact hlt
      have hget := get_at s k hks
      have HG := hide hget
      have HS := hide (take_snoc' s.data.toList k _ hget)
      have hsz : (k : Int) < (s.size : Int) := by rw [HN.out]; exact hlt'
      have hnn : (0 : Int) ≤ (k : Int) := by omega
      have hc := (s[k]'hks).toNat_lt
      clear hget
      generalize hgc : (s[k]'hks) = c at *
      have HGood : Hid (fby c.toNat = true → (s.data.toList.take (k + 1)).all (fun c => fby c.toNat) = true) := fun hb => by rw [HS.out, List.all_append, HA.out]; simp [hb]
      have HBad : Hid (fby c.toNat = false → R = false) := fun hb => by
        rw [← HRr.out, List.all_eq_false]
        exact ⟨c, List.mem_of_getElem? HG.out, by simp [hb]⟩
      clear HA HS HG
      by_cases hA : 97 ≤ c.toNat
      · have a1 : (97 : Int) ≤ (c.toNat : Int) := by omega
        have a2 : (48 : Int) ≤ (c.toNat : Int) := by omega
        have a3 : ¬ (c.toNat : Int) ≤ 57 := by omega
        have e1 : ((c.toNat : Int) != 46) = true := by simp; omega
        have e2 : ((c.toNat : Int) != 45) = true := by simp; omega
        have e3 : ((c.toNat : Int) != 95) = true := by simp; omega
        by_cases hB : c.toNat ≤ 122
        · have b1 : (c.toNat : Int) ≤ 122 := by omega
          have HA2 := hide (HGood.out (by unfold fby; simp; omega))
          clear HGood HBad
          go_wp2
          go_roundw
          case rel => exact ⟨k + 1, by omega, by go_num, HA2, by first | rfl | trivial⟩
          case measure => simp [intOf]; omega
        · have b1 : ¬ (c.toNat : Int) ≤ 122 := by omega
          have HRes := hide (HBad.out (by unfold fby; simp; omega))
          clear HGood HBad
          go_wp2
          go_ret
          exact ⟨congrArg (fun b => Ending.returned (Value.bool b)) HRes.out.symm, rfl⟩
      · have a1 : ¬ (97 : Int) ≤ (c.toNat : Int) := by omega
        by_cases hB : 48 ≤ c.toNat
        · have a2 : (48 : Int) ≤ (c.toNat : Int) := by omega
          have e1 : ((c.toNat : Int) != 46) = true := by simp; omega
          have e2 : ((c.toNat : Int) != 45) = true := by simp; omega
          by_cases hC : c.toNat ≤ 57
          · have b1 : (c.toNat : Int) ≤ 57 := by omega
            have HA2 := hide (HGood.out (by unfold fby; simp; omega))
            clear HGood HBad
            go_wp2
            go_roundw
            case rel => exact ⟨k + 1, by omega, by go_num, HA2, by first | rfl | trivial⟩
            case measure => simp [intOf]; omega
          · have b1 : ¬ (c.toNat : Int) ≤ 57 := by omega
            by_cases hD : c.toNat = 95
            · have e3 : ((c.toNat : Int) != 95) = false := by simp; omega
              have HA2 := hide (HGood.out (by unfold fby; simp; omega))
              clear HGood HBad
              go_wp2
              go_roundw
              case rel => exact ⟨k + 1, by omega, by go_num, HA2, by first | rfl | trivial⟩
              case measure => simp [intOf]; omega
            · have e3 : ((c.toNat : Int) != 95) = true := by simp; omega
              have HRes := hide (HBad.out (by unfold fby; simp; omega))
              clear HGood HBad
              go_wp2
              go_ret
              exact ⟨congrArg (fun b => Ending.returned (Value.bool b)) HRes.out.symm, rfl⟩
        · have a2 : ¬ (48 : Int) ≤ (c.toNat : Int) := by omega
          have e3 : ((c.toNat : Int) != 95) = true := by simp; omega
          by_cases hC : c.toNat = 46
          · have e1 : ((c.toNat : Int) != 46) = false := by simp; omega
            have HA2 := hide (HGood.out (by unfold fby; simp; omega))
            clear HGood HBad
            go_wp2
            go_roundw
            case rel => exact ⟨k + 1, by omega, by go_num, HA2, by first | rfl | trivial⟩
            case measure => simp [intOf]; omega
          · have e1 : ((c.toNat : Int) != 46) = true := by simp; omega
            by_cases hD : c.toNat = 45
            · have e2 : ((c.toNat : Int) != 45) = false := by simp; omega
              have HA2 := hide (HGood.out (by unfold fby; simp; omega))
              clear HGood HBad
              go_wp2
              go_roundw
              case rel => exact ⟨k + 1, by omega, by go_num, HA2, by first | rfl | trivial⟩
              case measure => simp [intOf]; omega
            · have e2 : ((c.toNat : Int) != 45) = true := by simp; omega
              have HRes := hide (HBad.out (by unfold fby; simp; omega))
              clear HGood HBad
              go_wp2
              go_ret
              exact ⟨congrArg (fun b => Ending.returned (Value.bool b)) HRes.out.symm, rfl⟩
    · obtain rfl : k = n := by omega
      have HRes : Hid (R = true) := by
        show _ = _
        rw [← HRr.out]
        have := HA.out
        rwa [List.take_of_length_le (by show s.size ≤ k; rw [HN.out]; exact Nat.le_refl _)] at this
      have hszn : (s.size : Int) = (k : Int) := by rw [HN.out]
      go_wp2
      go_ret
      exact ⟨congrArg (fun b => Ending.returned (Value.bool b)) HRes.out.symm, rfl⟩
theorem isName_any (w : World) (x : Nm) : Calls Try.prog 9 #[.string ⟨x.toArray⟩] w fun e w' => e = .returned (.bool (isNm x)) ∧ w' = w := by
  have := isName_s w ⟨x.toArray⟩
  simpa using this

end Go.Proofs.Ytlpafgjgoheomaa
