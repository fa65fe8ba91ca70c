import Derived.Test.YtplbnnfncngchaaPcE
namespace Go.Proofs.Ytplbnnfncngchaa
open Go.RowKit

theorem Pb.below {w wr w' : World} {bx : Obj} (h : Pb w wr bx) (hb : Below wr.heap.size wr w') : Pb w w' bx :=
  ⟨(hb.block _ (by have := h.size; omega)).trans h.box, h.bel.trans (hb.mono h.bel.size), Nat.le_trans h.size hb.size⟩
theorem Pb.other {w wr w' : World} {bx : Obj} (h : Pb w wr bx) {c : Nat} (hc : w.heap.size + 1 < c) (ho : Onl c wr w') : Pb w w' bx :=
  ⟨(ho.block _ (by omega)).trans h.box, ho.below h.bel (by omega), by rw [ho.size]; exact h.size⟩
theorem Pd.tick {w wr w' : World} {m : Nat} {P : Pc} (h : Pd w wr m P) (hp : Pk w' (w.heap.size + 1) P.tick) : Pd w w' m P.tick := ⟨hp, h.2.1.tick, (Pc.tick_most P).trans h.2.2⟩
theorem Pd.kept {w wr w' : World} {m : Nat} {P : Pc} (h : Pd w wr m P) (hb : w'.heap[w.heap.size + 1]? = wr.heap[w.heap.size + 1]?) : Pd w w' m P := ⟨h.1.kept hb, h.2⟩
set_option maxRecDepth 100000 in
set_option maxHeartbeats 1000000 in
theorem anew_all (w : World) (cz : Int) (sp : Option Addr) (l c : Nat) (tz : Int) (xs : List Int) (hl : xs.length = l) (hb : l ≤ 140737488355328) (hx : Nums w sp xs) :
    Calls Try.prog 5 #[.agg #[.int .i64 cz, .slice sp l c, .int .i64 tz]] w fun e w' => e = .returned (.bool true) ∧ Below w.heap.size w w' := by
  have HI := hide (into_any (w.alloc (.cells #[.int .i64 cz, .slice sp l c, .int .i64 tz] 40)) cz 64 (by omega) (by omega))
  have hm1 := into_lt cz 64 (by omega)
  obtain ⟨m, hm⟩ : ∃ m, (cz % ((64 : Nat) : Int)).toNat = m := ⟨_, rfl⟩
  rw [hm] at hm1 HI
  have HNw := hide (New_any (w.alloc (.cells #[.int .i64 cz, .slice sp l c, .int .i64 tz] 40)) (1 + (m : Int)))
  clear hm
  have HX := hide hx
  have HL := hide hl
  clear hx hl
  have HIT := hide (fun w => into_any w tz 300 (by omega) (by omega))
  have hk5 := into_lt tz 300 (by omega)
  generalize (tz % ((300 : Nat) : Int)).toNat = k5 at *
  go_enter Try.func5, Try.ntmps5
  go_wp2_with (first
    | (go_at_call 7; refine HI.out.mono ?_; rintro e w2 ⟨rfl, h⟩; obtain rfl := h.symm; clear h)
    | (go_at_call 14; refine HNw.out.mono ?_; rintro e w2 (⟨_, rfl, hp, hbl, hsz⟩ | ⟨hno, _, _⟩); rotate_left; exact absurd (And.intro (by omega) (by omega)) hno))
  have HB := hide (Pb.start hbl hsz)
  have HD : Hid (Pd w w2 (1 + m) (.new (1 + m))) := by
    refine ⟨?_, Pc.new_ok (by omega) (by omega), rfl⟩
    rw [show (1 + (m : Int)).toNat = 1 + m by omega] at hp
    unfold World.alloc at hp
    rw [Array.size_push] at hp
    exact hp
  clear hp hbl hsz HNw HI
  go_loopw [6] (fun iv wr => ∃ (i : Nat) (P : Pc), i ≤ l ∧ i ≤ 30 ∧ iv = .int .i64 (i : Int) ∧ Hid (Pb w wr (.cells #[.int .i64 cz, .slice sp l c, .int .i64 tz] 40)) ∧ Hid (Pd w wr (1 + m) P)) (fun i _ => 30 - (intOf i).toNat)
  case atStart => exact ⟨0, _, by omega, by omega, rfl, HB, HD⟩
  case round =>
    obtain ⟨i, P, hi, hi3, rfl, HB1, HD1⟩ := hrel
    obtain ⟨x0, x1, x2⟩ := box3 HB1.out.box
    clear HB HD
    by_cases hlt : i < l ∧ i < 30
    · obtain ⟨hlt, hlt3⟩ := hlt
      obtain ⟨z, hz⟩ : ∃ z, xs[i]? = some z := ⟨_, List.getElem?_eq_getElem (by have := HL.out; omega)⟩
      obtain ⟨g, o, rfl, hc⟩ := HX.out.cell HB1.out.bel hz
      have HI := hide (into_any wr z 300 (by omega) (by omega))
      have hk := into_lt z 300 (by omega)
      generalize (z % ((300 : Nat) : Int)).toNat = k0 at *
      have i1 : (0 : Int) ≤ (i : Int) := by omega
      have i2 : (i : Int) < (l : Int) := by omega
      have i3 : (i : Int) < 30 := by omega
      clear hz
      go_wp2_with (first
        | (go_at_call 7; refine HI.out.mono ?_; rintro e w3 ⟨rfl, h⟩; obtain rfl := h.symm; clear h))
      clear x0 x1 x2 hc HI
      go_loopw [7] (fun kv wq => ∃ (k : Nat) (P : Pc), k ≤ 300 ∧ kv = .int .i64 (k : Int) ∧ Hid (Pb w wq (.cells #[.int .i64 cz, .slice (some ⟨g, o, none⟩) l c, .int .i64 tz] 40)) ∧ Hid (Pd w wq (1 + m) P)) (fun k _ => (intOf k).toNat)
      case atStart => exact ⟨k0, P, by omega, rfl, HB1, HD1⟩
      case round =>
        rename_i wq _
        obtain ⟨k, P2, hk3, rfl, HB2, HD2⟩ := hrel
        by_cases hk0 : 0 < k
        · have HT := hide (Tick_any _ _ P2 HD2.out.1 HD2.out.2.1)
          have k1 : (0 : Int) < (k : Int) := by omega
          go_wp2_with (first
            | (go_at_call 8; refine HT.out.mono ?_; rintro e w3 ⟨rfl, hp3, ho3⟩; have HB3 := hide (HB2.out.onl ho3); have HD3 := hide (HD2.out.tick hp3); clear hp3 ho3 HT))
          go_roundw
          case rel => exact ⟨k - 1, _, by omega, by go_num, HB3, HD3⟩
          case measure => simp [intOf]; omega
        · obtain rfl : k = 0 := by omega
          have HR := hide (Reset_any _ _ P2 HD2.out.1)
          go_wp2_with (first
            | (go_at_call 10; refine HR.out.mono ?_; rintro e w4 ⟨rfl, hp4, hl4⟩; have HB4 := hide (HB2.out.onl hl4); have HP4 := hide hp4; have HN4 := hide (New_any w4 (1 + (m : Int))); clear hp4 hl4)
            | (go_at_call 14; refine HN4.out.mono ?_; rintro e w5 (⟨_, rfl, hp, hbl, hsz⟩ | ⟨hno, _, _⟩); rotate_left; exact absurd (And.intro (by omega) (by omega)) hno; have HB5 := hide (HB4.out.below hbl); have HP5 := hide hp; have HL5 := hide hbl; have x5 := (box3 HB5.out.box).2.2; clear hp hbl hsz)
            | (go_at_call 7; refine (HIT.out _).mono ?_; rintro e w6 ⟨rfl, h⟩; obtain rfl := h.symm; clear h))
          have HD5 : Hid (Pd w w5 (1 + m) (.new (1 + m))) := by
            refine ⟨?_, Pc.new_ok (by omega) (by omega), rfl⟩
            have h := HP4.out
            rw [HD2.out.2.2] at h
            exact h.kept (HL5.out.block _ (by have := HB4.out.size; omega))
          have HQ5 : Hid (Pk w5 w4.heap.size (.new (1 + m))) := by
            have h := HP5.out
            rw [show (1 + (m : Int)).toNat = 1 + m by omega] at h
            exact h
          have hs4 := HB4.out.size
          generalize w4.heap.size = cb at *
          clear HP5 HL5 HN4 x5 HP4 HB4 HR HB2 HD2
          go_loopw [10] (fun kv wq => ∃ (k : Nat) (R : Pc), k ≤ 300 ∧ kv = .int .i64 ((k : Int) - 1) ∧ Hid (Pb w wq (.cells #[.int .i64 cz, .slice (some ⟨g, o, none⟩) l c, .int .i64 tz] 40)) ∧ Hid (Pd w wq (1 + m) R) ∧ Hid (Pk wq cb R)) (fun k _ => (intOf k + 1).toNat)
          case atStart => exact ⟨k5 + 1, _, by omega, by rw [show (((k5 + 1 : Nat) : Int) - 1) = (k5 : Int) by omega], HB5, HD5, HQ5⟩
          case round =>
            obtain ⟨k, R, hk3, rfl, HB6, HD6, HQ6⟩ := hrel
            by_cases hk0 : 0 < k
            · have HWp := hide (Wait_any _ _ R HD6.out.1)
              have HWq := hide (Wait_any _ _ R HQ6.out)
              have HTp := hide (Tick_any _ _ R HD6.out.1 HD6.out.2.1)
              have k1 : (0 : Int) ≤ (k : Int) - 1 := by omega
              go_wp2_with (first
                | (go_at_call 12; refine HWp.out.mono ?_; rintro e w7 ⟨rfl, h⟩; obtain rfl := h.symm; clear h HWp)
                | (go_at_call 12; refine HWq.out.mono ?_; rintro e w7 ⟨rfl, h⟩; obtain rfl := h.symm; clear h HWq)
                | (go_at_call 8; refine HTp.out.mono ?_; rintro e w7 ⟨rfl, hp7, ho7⟩; have HB7 := hide (HB6.out.onl ho7); have HD7 := hide (HD6.out.tick hp7); have hq7 := HQ6.out.kept (ho7.block cb (by omega)); have HTq := hide (Tick_any _ _ R hq7 HD6.out.2.1); clear hp7 ho7 hq7 HTp)
                | (go_at_call 8; refine HTq.out.mono ?_; rintro e w8 ⟨rfl, hp8, ho8⟩; have HB8 := hide (HB7.out.other (by omega) ho8); have HD8 := hide (HD7.out.kept (ho8.block _ (by omega))); have HQ8 := hide hp8; clear hp8 ho8 HTq))
              go_roundw
              case rel => exact ⟨k - 1, _, by omega, by go_num, HB8, HD8, HQ8⟩
              case measure => simp [intOf]; omega
            · obtain rfl : k = 0 := by omega
              go_wp2_with fail
              go_roundw
              case rel => exact ⟨i + 1, R, by omega, by omega, by go_num, HB6, HD6⟩
              case measure => simp [intOf]; omega
    · have HW := hide (Wait_any _ _ P HD1.out.1)
      have hle := HD1.out.2.1.l
      rw [HD1.out.2.2] at hle
      have ht : (decide ((i : Int) < (l : Int)) = false) ∨ (decide ((i : Int) < (l : Int)) = true ∧ decide ((i : Int) < 30) = false) := by
        by_cases h : i < l
        · exact Or.inr ⟨by simp; omega, by simp; omega⟩
        · exact Or.inl (by simp; omega)
      generalize P.left = L at *
      rcases ht with ht | ⟨ht, ht2⟩
      all_goals go_wp2_with (first
        | (go_at_call 12; refine HW.out.mono ?_; rintro e w7 ⟨rfl, h⟩; obtain rfl := h.symm; clear h HW))
      all_goals go_ret
      all_goals exact ⟨by simp; omega, HB1.out.bel⟩
end Go.Proofs.Ytplbnnfncngchaa
