import Derived.Test.YtolegbngjhfdlaaDoorRefBP
import Derived.Test.YtolegbngjhfdlaaDoorRefC
import Derived.BigQuiet
namespace Go.Proofs.YtolegbngjhfdlaaDoor
open Go.RowKit

set_option maxRecDepth 100000 in
set_option maxHeartbeats 4000000 in
theorem ramt_any (w : World) (s : ByteArray) (hs : s.size ≤ 140737488355328) :
    Calls Tryd.prog 16 #[.string s] w fun e w' => e = .returned (.tuple #[.int .i64 ((amtL (nums s)).1 : Nat), .int .i64 ((amtL (nums s)).2 : Nat)]) ∧ Below w.heap.size w w' := by
  obtain ⟨V, E, hVE⟩ : ∃ V E, amtL (nums s) = (V, E) := ⟨_, _, rfl⟩
  rw [hVE]
  simp only
  have HVE := hide hVE
  clear hVE
  go_enter Tryd.func16, Tryd.ntmps16
  go_wp2
  go_loopw [4, 5, 6] (fun a b c wr => ∃ (k : Nat), k ≤ s.size ∧ a = .int .i64 (s.size : Int) ∧ b = .int .i64 0 ∧ c = .int .i64 (k : Int) ∧ wr = w ∧ Hid (46 ∉ (nums s).take k)) (fun _ _ c _ => s.size - (intOf c).toNat)
  case atStart => exact ⟨0, Nat.zero_le _, rfl, rfl, rfl, rfl, hide (by simp)⟩
  case round =>
    obtain ⟨k, hk, rfl, rfl, rfl, rfl, HN⟩ := hrel
    by_cases hlt : k < s.size
    · have u1 : (k : Int) < (s.size : Int) := by omega
      have u2 : (0 : Int) ≤ (k : Int) := by omega
      obtain ⟨c, hc⟩ : ∃ c, (s[k]'hlt).toNat = c := ⟨_, rfl⟩
      by_cases h46 : c = 46
      · have y1 : ((c : Int) == 46) = true := by simp; omega
        have HP := hide (parted_dot s k hlt (by rw [hc, h46]) HN.out)
        rw [HVE.out] at HP
        by_cases h3 : k + 3 = s.size
        · have y3 : ((k : Int) + 3 != (s.size : Int)) = false := by simp; omega
          have y3c : ((k : Int) + 3 == (s.size : Int)) = true := by simp; omega
          obtain ⟨p1, hp1⟩ : ∃ p, p = k + 1 := ⟨_, rfl⟩
          obtain ⟨p2, hp2⟩ : ∃ p, p = k + 2 := ⟨_, rfl⟩
          have i1 : p1 < s.size := by omega
          have i2 : p2 < s.size := by omega
          have e1 : (k : Int) + 1 = (p1 : Int) := by omega
          have e2 : (k : Int) + 2 = (p2 : Int) := by omega
          have j1 : (p1 : Int) < (s.size : Int) := by omega
          have j2 : (p2 : Int) < (s.size : Int) := by omega
          have j3 : (0 : Int) ≤ (p1 : Int) := by omega
          have j4 : (0 : Int) ≤ (p2 : Int) := by omega
          obtain ⟨a, ha⟩ : ∃ a, (s[p1]'i1).toNat = a := ⟨_, rfl⟩
          obtain ⟨b, hb⟩ : ∃ b, (s[p2]'i2).toNat = b := ⟨_, rfl⟩
          have HT2 : Hid ((nums s).drop (k + 1) = [a, b]) := by subst hp1 hp2; exact two_drop s k h3 a b ha hb
          clear hp1 hp2
          rw [HT2.out] at HP
          have HDa := hide (rdigit_any wr a)
          have HDb := hide (rdigit_any wr b)
          by_cases hda : isDig a = true
          · rw [hda] at HDa
            by_cases hdb : isDig b = true
            · rw [hdb] at HDb
              have htd : twoD [a, b] = true := by simp [twoD, hda, hdb]
              have hda1 : 48 ≤ a ∧ a ≤ 57 := by simpa [isDig] using hda
              have hdb1 : 48 ≤ b ∧ b ≤ 57 := by simpa [isDig] using hdb
              obtain ⟨a1, a2⟩ := hda1
              obtain ⟨b1, b2⟩ := hdb1
              obtain ⟨hce, hc99⟩ := cents_ab a b a1 a2 b1 b2
              have H1 : Hid (headok ((nums s).take k) = false → (V, E) = (0, 21)) := fun h => by rw [HP.out]; exact amt_bad1 _ _ _ h
              have H2 : Hid (headok ((nums s).take k) = true → (V, E) = if 1099511627776 < 100 * capA (val (digs ((nums s).take k))) + cents [a, b] then (0, 22) else (100 * capA (val (digs ((nums s).take k))) + cents [a, b], 0)) := fun h => by rw [HP.out]; exact amt_end _ _ _ h (fun _ => htd) hc99
              generalize cents [a, b] = C at *
              have f1 : 10 * ((a : Int) - 48) + ((b : Int) - 48) = (C : Int) := by omega
              clear hda hdb htd h46 h3 HT2 HP hce
              go_wp2_with fail
              refine HDa.out.mono ?_
              rintro e w9 ⟨rfl, h2⟩
              obtain rfl := h2.symm
              clear h2
              go_wp2_with fail
              refine HDb.out.mono ?_
              rintro e w9 ⟨rfl, h2⟩
              obtain rfl := h2.symm
              clear h2
              go_wp2
              go_quiet (fail)
              have HBW : Hid (Below wr.heap.size wr (wr.drewN nq)) := below_drewNv (Below.refl _ _) nq
              generalize wr.drewN nq = W at *
              have hle : k ≤ s.size := by omega
              clear f1 y1 y3 y3c u1 j1 j2 j3 j4 e1 e2 ha hb hc
              go_wp2
              go_loopw [7, 8] (fun a b wq => ∃ (M : Bool) (kq : Nat), kq ≤ k ∧ a = .bool M ∧ b = .int .i64 (kq : Int) ∧ wq = W ∧ Hid (M = decide (39 ∈ (nums s).take kq))) (fun _ b _ => k - (intOf b).toNat)
              case atStart => exact ⟨false, 0, Nat.zero_le _, rfl, rfl, rfl, hide (by simp)⟩
              case round =>
                obtain ⟨M, k2, hk2, rfl, rfl, rfl, HM⟩ := hrel
                by_cases hlt2 : k2 < k
                · have v1 : (k2 : Int) < (k : Int) := by omega
                  have v2 : (0 : Int) ≤ (k2 : Int) := by omega
                  have v3 : (k2 : Int) < (s.size : Int) := by omega
                  have hks : k2 < s.size := by omega
                  obtain ⟨c, hc⟩ : ∃ c, (s[k2]'hks).toNat = c := ⟨_, rfl⟩
                  have HTM := hide (take_mem s k2 39 c hks hc)
                  cases M with
                  | true =>
                    have HM2 : Hid (true = decide (39 ∈ (nums s).take (k2 + 1))) := by
                      show _ = _
                      have := HM.out
                      rw [eq_comm, decide_eq_true_eq] at this
                      rw [eq_comm, decide_eq_true_eq]
                      exact HTM.out.2 (Or.inl this)
                    clear HTM hc
                    go_wp2
                    go_roundw
                    case rel => exact ⟨true, k2 + 1, by omega, rfl, by go_num, (by first | trivial | rfl), HM2⟩
                    case measure => simp [intOf]; omega
                  | false =>
                    have hnm : 39 ∉ (nums s).take k2 := by have := HM.out; rw [eq_comm, decide_eq_false_iff_not] at this; exact this
                    by_cases h39 : c = 39
                    · have y1 : ((c : Int) == 39) = true := by simp; omega
                      have HM2 : Hid (true = decide (39 ∈ (nums s).take (k2 + 1))) := by
                        show _ = _
                        rw [eq_comm, decide_eq_true_eq]
                        exact HTM.out.2 (Or.inr h39.symm)
                      clear HTM hnm h39
                      go_wp2
                      go_roundw
                      case rel => exact ⟨true, k2 + 1, by omega, rfl, by go_num, (by first | trivial | rfl), HM2⟩
                      case measure => simp [intOf]; omega
                    · have y1 : ((c : Int) == 39) = false := by simp; omega
                      have HM2 : Hid (false = decide (39 ∈ (nums s).take (k2 + 1))) := by
                        show _ = _
                        rw [eq_comm, decide_eq_false_iff_not]
                        intro h
                        rcases HTM.out.1 h with h | h
                        · exact hnm h
                        · exact h39 h.symm
                      clear HTM hnm h39
                      go_wp2
                      go_roundw
                      case rel => exact ⟨false, k2 + 1, by omega, rfl, by go_num, (by first | trivial | rfl), HM2⟩
                      case measure => simp [intOf]; omega
                · have v1 : decide ((k2 : Int) < (k : Int)) = false := decide_eq_false (by omega)
                  have v1b : decide (k2 < k) = false := decide_eq_false (by omega)
                  obtain rfl : k = k2 := by omega
                  by_cases he0 : 0 < k
                  · have w1 : ((k : Int) == 0) = false := beq_eq_false_iff_ne.2 (by omega)
                    have hs0 : 0 < s.size := by omega
                    have w0 : (0 : Int) < (s.size : Int) := by omega
                    obtain ⟨c0, hc0⟩ : ∃ c0, (s[0]'hs0).toNat = c0 := ⟨_, rfl⟩
                    have HHd := hide (take_head s k he0 hs0)
                    rw [hc0] at HHd
                    have hlen : ((nums s).take k).length = k := by rw [List.length_take, nums_len]; omega
                    have HLn := hide hlen
                    clear hlen
                    have HDg := hide (rdigit_any wr c0)
                    by_cases hd : isDig c0 = true
                    · rw [hd] at HDg
                      by_cases hz : c0 = 48 ∧ 1 < k
                      · have x1 : ((c0 : Int) == 48) = true := by simp; omega
                        have x2 : (1 : Int) < (k : Int) := by omega
                        have HR := hide (H1.out (headok_bad _ (Or.inr ⟨c0, HHd.out, Or.inr ⟨hz.1, by rw [HLn.out]; exact hz.2⟩⟩)))
                        clear hz hd
                        go_wp2_with fail
                        refine HDg.out.mono ?_
                        rintro e w9 ⟨rfl, h2⟩
                        obtain rfl := h2.symm
                        clear h2
                        go_wp2
                        go_ret2
                        exact ⟨ret_pair HR.out.symm, HBW.out⟩
                      · have HOk := hide (headok_of _ c0 HHd.out hd (by rw [HLn.out]; exact hz))
                        rw [← HM.out] at HOk
                        go_wp2_with fail
                        refine HDg.out.mono ?_
                        rintro e w9 ⟨rfl, h2⟩
                        obtain rfl := h2.symm
                        clear h2 hd
                        have hx : (((c0 : Int) == 48) = true ∧ decide ((1 : Int) < (k : Int)) = false ∧ decide (1 < k) = false) ∨ ((c0 : Int) == 48) = false := by
                          by_cases h48 : c0 = 48
                          · exact .inl ⟨by simp; omega, decide_eq_false (by omega), decide_eq_false (by omega)⟩
                          · exact .inr (by simp; omega)
                        clear hz
                        rcases hx with ⟨x1, x2, x3⟩ | x1
                        · go_wp2
                          clear x1 x2 x3
                          go_loopw [9, 10] (fun a b wr2 => ∃ (n kq : Nat), kq ≤ k ∧ n ≤ 1099511627776 ∧ a = .int .i64 (n : Int) ∧ b = .int .i64 (kq : Int) ∧ wr2 = wr ∧ Hid (AInv ((nums s).take k) M kq n)) (fun _ b _ => k - (intOf b).toNat)
                          case atStart => exact ⟨0, 0, Nat.zero_le _, by omega, rfl, rfl, rfl, AInv.start _ _⟩
                          case round =>
                            clear v1 v1b w1 HHd HDg
                            obtain ⟨n, k3, hk3, hn, rfl, rfl, rfl, HA⟩ := hrel
                            by_cases hlt3 : k3 < k
                            · have v1 : (k3 : Int) < (k : Int) := by omega
                              have v2 : (0 : Int) ≤ (k3 : Int) := by omega
                              have v3 : (k3 : Int) < (s.size : Int) := by omega
                              have v4 : (0 : Int) ≤ (k : Int) - (k3 : Int) := by omega
                              have hks : k3 < s.size := by omega
                              obtain ⟨c, hc⟩ : ∃ c, (s[k3]'hks).toNat = c := ⟨_, rfl⟩
                              have hcb : c < 256 := by rw [← hc]; exact (s[k3]'hks).toNat_lt
                              have HDg := hide (rdigit_any wr c)
                              have HFl := hide (HA.out.fail hle hlt3 c hc)
                              by_cases h4 : (k - k3) % 4 = 0
                              · have m4 : (((k : Int) - (k3 : Int)) % 4 == 0) = true := by simp; omega
                                cases M with
                                | true =>
                                  by_cases h39 : c = 39
                                  · have y1 : ((c : Int) == 39) = true := by simp; omega
                                    have HA2 := hide (HA.out.mark hle hlt3 (by rw [hc, h39]) rfl h4)
                                    have y2 : decide ((1099511627776 : Int) < (n : Int)) = false := decide_eq_false (by omega)
                                    clear h39 h4 HFl HDg
                                    go_wp2
                                    go_roundw
                                    case rel => exact ⟨n, k3 + 1, by omega, hn, rfl, by go_num, (by first | trivial | rfl), HA2⟩
                                    case measure => simp [intOf]; omega
                                  · have y1 : ((c : Int) == 39) = false := by simp; omega
                                    have HR := hide (H1.out (by rw [HOk.out]; exact HFl.out (by rw [if_pos ⟨rfl, h4⟩]; simpa using h39)))
                                    clear h39 h4 HFl HDg
                                    go_wp2
                                    go_ret2
                                    exact ⟨ret_pair HR.out.symm, HBW.out⟩
                                | false =>
                                  have hM4 : ¬ (false = true ∧ (k - k3) % 4 = 0) := by simp
                                  clear h4
                                  by_cases hd : isDig c = true
                                  · rw [hd] at HDg
                                    have hd1 : 48 ≤ c ∧ c ≤ 57 := by simpa [isDig] using hd
                                    obtain ⟨d1, d2⟩ := hd1
                                    have y1 : ((c : Int) == 39) = false := by simp; omega
                                    obtain ⟨s1, s2⟩ := HA.out.dig hle hlt3 c hc hM4 d1 d2
                                    have HS1 := hide s1
                                    have HS2 := hide s2
                                    clear s1 s2 hd hM4 HFl
                                    obtain ⟨m, hm⟩ : ∃ m, 10 * n + (c - 48) = m := ⟨_, rfl⟩
                                    rw [hm] at HS1 HS2
                                    have m1 : 10 * (n : Int) + ((c : Int) - 48) = (m : Int) := by omega
                                    have m2 : m ≤ 10995116277769 := by omega
                                    clear hm
                                    by_cases hg : 1099511627776 < m
                                    · have g1 : (1099511627776 : Int) < (m : Int) := by omega
                                      have HA2 := hide (HS1.out hg)
                                      clear hg
                                      go_wp2_with fail
                                      refine HDg.out.mono ?_
                                      rintro e w9 ⟨rfl, h2⟩
                                      obtain rfl := h2.symm
                                      clear h2
                                      go_wp2
                                      go_roundw
                                      case rel => exact ⟨1099511627776, k3 + 1, by omega, by omega, rfl, by go_num, (by first | trivial | rfl), HA2⟩
                                      case measure => simp [intOf]; omega
                                    · have g1 : decide ((1099511627776 : Int) < (m : Int)) = false := decide_eq_false (by omega)
                                      have HA2 := hide (HS2.out hg)
                                      have hm9 : m ≤ 1099511627776 := by omega
                                      clear hg
                                      go_wp2_with fail
                                      refine HDg.out.mono ?_
                                      rintro e w9 ⟨rfl, h2⟩
                                      obtain rfl := h2.symm
                                      clear h2
                                      go_wp2
                                      go_roundw
                                      case rel => exact ⟨m, k3 + 1, by omega, hm9, by go_num, by go_num, (by first | trivial | rfl), HA2⟩
                                      case measure => simp [intOf]; omega
                                  · have hd' : isDig c = false := by simpa using hd
                                    rw [hd'] at HDg
                                    have HR := hide (H1.out (by rw [HOk.out]; exact HFl.out (by rw [if_neg hM4]; exact hd')))
                                    clear hd hM4
                                    by_cases h39 : c = 39
                                    · have y1 : ((c : Int) == 39) = true := by simp; omega
                                      clear h39 hd'
                                      go_wp2
                                      go_ret2
                                      exact ⟨ret_pair HR.out.symm, HBW.out⟩
                                    · have y1 : ((c : Int) == 39) = false := by simp; omega
                                      clear h39 hd'
                                      go_wp2_with fail
                                      refine HDg.out.mono ?_
                                      rintro e w9 ⟨rfl, h2⟩
                                      obtain rfl := h2.symm
                                      clear h2
                                      go_wp2
                                      go_ret2
                                      exact ⟨ret_pair HR.out.symm, HBW.out⟩
                              · have m4 : (((k : Int) - (k3 : Int)) % 4 == 0) = false := by simp; omega
                                have hM4 : ¬ (M = true ∧ (k - k3) % 4 = 0) := fun h => h4 h.2
                                cases M with
                                | true =>
                                  clear h4
                                  by_cases hd : isDig c = true
                                  · rw [hd] at HDg
                                    have hd1 : 48 ≤ c ∧ c ≤ 57 := by simpa [isDig] using hd
                                    obtain ⟨d1, d2⟩ := hd1
                                    have y1 : ((c : Int) == 39) = false := by simp; omega
                                    obtain ⟨s1, s2⟩ := HA.out.dig hle hlt3 c hc hM4 d1 d2
                                    have HS1 := hide s1
                                    have HS2 := hide s2
                                    clear s1 s2 hd hM4 HFl
                                    obtain ⟨m, hm⟩ : ∃ m, 10 * n + (c - 48) = m := ⟨_, rfl⟩
                                    rw [hm] at HS1 HS2
                                    have m1 : 10 * (n : Int) + ((c : Int) - 48) = (m : Int) := by omega
                                    have m2 : m ≤ 10995116277769 := by omega
                                    clear hm
                                    by_cases hg : 1099511627776 < m
                                    · have g1 : (1099511627776 : Int) < (m : Int) := by omega
                                      have HA2 := hide (HS1.out hg)
                                      clear hg
                                      go_wp2_with fail
                                      refine HDg.out.mono ?_
                                      rintro e w9 ⟨rfl, h2⟩
                                      obtain rfl := h2.symm
                                      clear h2
                                      go_wp2
                                      go_roundw
                                      case rel => exact ⟨1099511627776, k3 + 1, by omega, by omega, rfl, by go_num, (by first | trivial | rfl), HA2⟩
                                      case measure => simp [intOf]; omega
                                    · have g1 : decide ((1099511627776 : Int) < (m : Int)) = false := decide_eq_false (by omega)
                                      have HA2 := hide (HS2.out hg)
                                      have hm9 : m ≤ 1099511627776 := by omega
                                      clear hg
                                      go_wp2_with fail
                                      refine HDg.out.mono ?_
                                      rintro e w9 ⟨rfl, h2⟩
                                      obtain rfl := h2.symm
                                      clear h2
                                      go_wp2
                                      go_roundw
                                      case rel => exact ⟨m, k3 + 1, by omega, hm9, by go_num, by go_num, (by first | trivial | rfl), HA2⟩
                                      case measure => simp [intOf]; omega
                                  · have hd' : isDig c = false := by simpa using hd
                                    rw [hd'] at HDg
                                    have HR := hide (H1.out (by rw [HOk.out]; exact HFl.out (by rw [if_neg hM4]; exact hd')))
                                    clear hd hM4
                                    by_cases h39 : c = 39
                                    · have y1 : ((c : Int) == 39) = true := by simp; omega
                                      clear h39 hd'
                                      go_wp2
                                      go_ret2
                                      exact ⟨ret_pair HR.out.symm, HBW.out⟩
                                    · have y1 : ((c : Int) == 39) = false := by simp; omega
                                      clear h39 hd'
                                      go_wp2_with fail
                                      refine HDg.out.mono ?_
                                      rintro e w9 ⟨rfl, h2⟩
                                      obtain rfl := h2.symm
                                      clear h2
                                      go_wp2
                                      go_ret2
                                      exact ⟨ret_pair HR.out.symm, HBW.out⟩
                                | false =>
                                  clear h4
                                  by_cases hd : isDig c = true
                                  · rw [hd] at HDg
                                    have hd1 : 48 ≤ c ∧ c ≤ 57 := by simpa [isDig] using hd
                                    obtain ⟨d1, d2⟩ := hd1
                                    have y1 : ((c : Int) == 39) = false := by simp; omega
                                    obtain ⟨s1, s2⟩ := HA.out.dig hle hlt3 c hc hM4 d1 d2
                                    have HS1 := hide s1
                                    have HS2 := hide s2
                                    clear s1 s2 hd hM4 HFl
                                    obtain ⟨m, hm⟩ : ∃ m, 10 * n + (c - 48) = m := ⟨_, rfl⟩
                                    rw [hm] at HS1 HS2
                                    have m1 : 10 * (n : Int) + ((c : Int) - 48) = (m : Int) := by omega
                                    have m2 : m ≤ 10995116277769 := by omega
                                    clear hm
                                    by_cases hg : 1099511627776 < m
                                    · have g1 : (1099511627776 : Int) < (m : Int) := by omega
                                      have HA2 := hide (HS1.out hg)
                                      clear hg
                                      go_wp2_with fail
                                      refine HDg.out.mono ?_
                                      rintro e w9 ⟨rfl, h2⟩
                                      obtain rfl := h2.symm
                                      clear h2
                                      go_wp2
                                      go_roundw
                                      case rel => exact ⟨1099511627776, k3 + 1, by omega, by omega, rfl, by go_num, (by first | trivial | rfl), HA2⟩
                                      case measure => simp [intOf]; omega
                                    · have g1 : decide ((1099511627776 : Int) < (m : Int)) = false := decide_eq_false (by omega)
                                      have HA2 := hide (HS2.out hg)
                                      have hm9 : m ≤ 1099511627776 := by omega
                                      clear hg
                                      go_wp2_with fail
                                      refine HDg.out.mono ?_
                                      rintro e w9 ⟨rfl, h2⟩
                                      obtain rfl := h2.symm
                                      clear h2
                                      go_wp2
                                      go_roundw
                                      case rel => exact ⟨m, k3 + 1, by omega, hm9, by go_num, by go_num, (by first | trivial | rfl), HA2⟩
                                      case measure => simp [intOf]; omega
                                  · have hd' : isDig c = false := by simpa using hd
                                    rw [hd'] at HDg
                                    have HR := hide (H1.out (by rw [HOk.out]; exact HFl.out (by rw [if_neg hM4]; exact hd')))
                                    clear hd hM4
                                    by_cases h39 : c = 39
                                    · have y1 : ((c : Int) == 39) = true := by simp; omega
                                      clear h39 hd'
                                      go_wp2
                                      go_ret2
                                      exact ⟨ret_pair HR.out.symm, HBW.out⟩
                                    · have y1 : ((c : Int) == 39) = false := by simp; omega
                                      clear h39 hd'
                                      go_wp2_with fail
                                      refine HDg.out.mono ?_
                                      rintro e w9 ⟨rfl, h2⟩
                                      obtain rfl := h2.symm
                                      clear h2
                                      go_wp2
                                      go_ret2
                                      exact ⟨ret_pair HR.out.symm, HBW.out⟩
                            · have v1 : decide ((k3 : Int) < (k : Int)) = false := decide_eq_false (by omega)
                              have v1b : decide (k3 < k) = false := decide_eq_false (by omega)
                              obtain ⟨d1, d2⟩ := HA.out.done (by rw [HLn.out]; omega)
                              have hfin := H2.out (by rw [HOk.out]; exact d1)
                              rw [← d2] at hfin
                              have HFin := hide hfin
                              clear d1 d2 hfin
                              by_cases hg : 1099511627776 < 100 * n + C
                              · have g1 : (1099511627776 : Int) < 100 * (n : Int) + (C : Int) := by omega
                                have HR : Hid ((V, E) = (0, 22)) := by show _ = _; rw [HFin.out, if_pos hg]
                                clear hg
                                go_wp2
                                go_ret2
                                exact ⟨ret_pair HR.out.symm, HBW.out⟩
                              · have g1 : decide ((1099511627776 : Int) < 100 * (n : Int) + (C : Int)) = false := decide_eq_false (by omega)
                                have HR : Hid ((V, E) = (100 * n + C, 0)) := by show _ = _; rw [HFin.out, if_neg hg]
                                clear hg
                                go_wp2
                                go_ret2
                                exact ⟨by have h := HR.out; rw [Prod.mk.injEq] at h; exact ret_am (by omega) (by omega), HBW.out⟩
                        · go_wp2
                          clear x1
                          go_loopw [9, 10] (fun a b wr2 => ∃ (n kq : Nat), kq ≤ k ∧ n ≤ 1099511627776 ∧ a = .int .i64 (n : Int) ∧ b = .int .i64 (kq : Int) ∧ wr2 = wr ∧ Hid (AInv ((nums s).take k) M kq n)) (fun _ b _ => k - (intOf b).toNat)
                          case atStart => exact ⟨0, 0, Nat.zero_le _, by omega, rfl, rfl, rfl, AInv.start _ _⟩
                          case round =>
                            clear v1 v1b w1 HHd HDg
                            obtain ⟨n, k3, hk3, hn, rfl, rfl, rfl, HA⟩ := hrel
                            by_cases hlt3 : k3 < k
                            · have v1 : (k3 : Int) < (k : Int) := by omega
                              have v2 : (0 : Int) ≤ (k3 : Int) := by omega
                              have v3 : (k3 : Int) < (s.size : Int) := by omega
                              have v4 : (0 : Int) ≤ (k : Int) - (k3 : Int) := by omega
                              have hks : k3 < s.size := by omega
                              obtain ⟨c, hc⟩ : ∃ c, (s[k3]'hks).toNat = c := ⟨_, rfl⟩
                              have hcb : c < 256 := by rw [← hc]; exact (s[k3]'hks).toNat_lt
                              have HDg := hide (rdigit_any wr c)
                              have HFl := hide (HA.out.fail hle hlt3 c hc)
                              by_cases h4 : (k - k3) % 4 = 0
                              · have m4 : (((k : Int) - (k3 : Int)) % 4 == 0) = true := by simp; omega
                                cases M with
                                | true =>
                                  by_cases h39 : c = 39
                                  · have y1 : ((c : Int) == 39) = true := by simp; omega
                                    have HA2 := hide (HA.out.mark hle hlt3 (by rw [hc, h39]) rfl h4)
                                    have y2 : decide ((1099511627776 : Int) < (n : Int)) = false := decide_eq_false (by omega)
                                    clear h39 h4 HFl HDg
                                    go_wp2
                                    go_roundw
                                    case rel => exact ⟨n, k3 + 1, by omega, hn, rfl, by go_num, (by first | trivial | rfl), HA2⟩
                                    case measure => simp [intOf]; omega
                                  · have y1 : ((c : Int) == 39) = false := by simp; omega
                                    have HR := hide (H1.out (by rw [HOk.out]; exact HFl.out (by rw [if_pos ⟨rfl, h4⟩]; simpa using h39)))
                                    clear h39 h4 HFl HDg
                                    go_wp2
                                    go_ret2
                                    exact ⟨ret_pair HR.out.symm, HBW.out⟩
                                | false =>
                                  have hM4 : ¬ (false = true ∧ (k - k3) % 4 = 0) := by simp
                                  clear h4
                                  by_cases hd : isDig c = true
                                  · rw [hd] at HDg
                                    have hd1 : 48 ≤ c ∧ c ≤ 57 := by simpa [isDig] using hd
                                    obtain ⟨d1, d2⟩ := hd1
                                    have y1 : ((c : Int) == 39) = false := by simp; omega
                                    obtain ⟨s1, s2⟩ := HA.out.dig hle hlt3 c hc hM4 d1 d2
                                    have HS1 := hide s1
                                    have HS2 := hide s2
                                    clear s1 s2 hd hM4 HFl
                                    obtain ⟨m, hm⟩ : ∃ m, 10 * n + (c - 48) = m := ⟨_, rfl⟩
                                    rw [hm] at HS1 HS2
                                    have m1 : 10 * (n : Int) + ((c : Int) - 48) = (m : Int) := by omega
                                    have m2 : m ≤ 10995116277769 := by omega
                                    clear hm
                                    by_cases hg : 1099511627776 < m
                                    · have g1 : (1099511627776 : Int) < (m : Int) := by omega
                                      have HA2 := hide (HS1.out hg)
                                      clear hg
                                      go_wp2_with fail
                                      refine HDg.out.mono ?_
                                      rintro e w9 ⟨rfl, h2⟩
                                      obtain rfl := h2.symm
                                      clear h2
                                      go_wp2
                                      go_roundw
                                      case rel => exact ⟨1099511627776, k3 + 1, by omega, by omega, rfl, by go_num, (by first | trivial | rfl), HA2⟩
                                      case measure => simp [intOf]; omega
                                    · have g1 : decide ((1099511627776 : Int) < (m : Int)) = false := decide_eq_false (by omega)
                                      have HA2 := hide (HS2.out hg)
                                      have hm9 : m ≤ 1099511627776 := by omega
                                      clear hg
                                      go_wp2_with fail
                                      refine HDg.out.mono ?_
                                      rintro e w9 ⟨rfl, h2⟩
                                      obtain rfl := h2.symm
                                      clear h2
                                      go_wp2
                                      go_roundw
                                      case rel => exact ⟨m, k3 + 1, by omega, hm9, by go_num, by go_num, (by first | trivial | rfl), HA2⟩
                                      case measure => simp [intOf]; omega
                                  · have hd' : isDig c = false := by simpa using hd
                                    rw [hd'] at HDg
                                    have HR := hide (H1.out (by rw [HOk.out]; exact HFl.out (by rw [if_neg hM4]; exact hd')))
                                    clear hd hM4
                                    by_cases h39 : c = 39
                                    · have y1 : ((c : Int) == 39) = true := by simp; omega
                                      clear h39 hd'
                                      go_wp2
                                      go_ret2
                                      exact ⟨ret_pair HR.out.symm, HBW.out⟩
                                    · have y1 : ((c : Int) == 39) = false := by simp; omega
                                      clear h39 hd'
                                      go_wp2_with fail
                                      refine HDg.out.mono ?_
                                      rintro e w9 ⟨rfl, h2⟩
                                      obtain rfl := h2.symm
                                      clear h2
                                      go_wp2
                                      go_ret2
                                      exact ⟨ret_pair HR.out.symm, HBW.out⟩
                              · have m4 : (((k : Int) - (k3 : Int)) % 4 == 0) = false := by simp; omega
                                have hM4 : ¬ (M = true ∧ (k - k3) % 4 = 0) := fun h => h4 h.2
                                cases M with
                                | true =>
                                  clear h4
                                  by_cases hd : isDig c = true
                                  · rw [hd] at HDg
                                    have hd1 : 48 ≤ c ∧ c ≤ 57 := by simpa [isDig] using hd
                                    obtain ⟨d1, d2⟩ := hd1
                                    have y1 : ((c : Int) == 39) = false := by simp; omega
                                    obtain ⟨s1, s2⟩ := HA.out.dig hle hlt3 c hc hM4 d1 d2
                                    have HS1 := hide s1
                                    have HS2 := hide s2
                                    clear s1 s2 hd hM4 HFl
                                    obtain ⟨m, hm⟩ : ∃ m, 10 * n + (c - 48) = m := ⟨_, rfl⟩
                                    rw [hm] at HS1 HS2
                                    have m1 : 10 * (n : Int) + ((c : Int) - 48) = (m : Int) := by omega
                                    have m2 : m ≤ 10995116277769 := by omega
                                    clear hm
                                    by_cases hg : 1099511627776 < m
                                    · have g1 : (1099511627776 : Int) < (m : Int) := by omega
                                      have HA2 := hide (HS1.out hg)
                                      clear hg
                                      go_wp2_with fail
                                      refine HDg.out.mono ?_
                                      rintro e w9 ⟨rfl, h2⟩
                                      obtain rfl := h2.symm
                                      clear h2
                                      go_wp2
                                      go_roundw
                                      case rel => exact ⟨1099511627776, k3 + 1, by omega, by omega, rfl, by go_num, (by first | trivial | rfl), HA2⟩
                                      case measure => simp [intOf]; omega
                                    · have g1 : decide ((1099511627776 : Int) < (m : Int)) = false := decide_eq_false (by omega)
                                      have HA2 := hide (HS2.out hg)
                                      have hm9 : m ≤ 1099511627776 := by omega
                                      clear hg
                                      go_wp2_with fail
                                      refine HDg.out.mono ?_
                                      rintro e w9 ⟨rfl, h2⟩
                                      obtain rfl := h2.symm
                                      clear h2
                                      go_wp2
                                      go_roundw
                                      case rel => exact ⟨m, k3 + 1, by omega, hm9, by go_num, by go_num, (by first | trivial | rfl), HA2⟩
                                      case measure => simp [intOf]; omega
                                  · have hd' : isDig c = false := by simpa using hd
                                    rw [hd'] at HDg
                                    have HR := hide (H1.out (by rw [HOk.out]; exact HFl.out (by rw [if_neg hM4]; exact hd')))
                                    clear hd hM4
                                    by_cases h39 : c = 39
                                    · have y1 : ((c : Int) == 39) = true := by simp; omega
                                      clear h39 hd'
                                      go_wp2
                                      go_ret2
                                      exact ⟨ret_pair HR.out.symm, HBW.out⟩
                                    · have y1 : ((c : Int) == 39) = false := by simp; omega
                                      clear h39 hd'
                                      go_wp2_with fail
                                      refine HDg.out.mono ?_
                                      rintro e w9 ⟨rfl, h2⟩
                                      obtain rfl := h2.symm
                                      clear h2
                                      go_wp2
                                      go_ret2
                                      exact ⟨ret_pair HR.out.symm, HBW.out⟩
                                | false =>
                                  clear h4
                                  by_cases hd : isDig c = true
                                  · rw [hd] at HDg
                                    have hd1 : 48 ≤ c ∧ c ≤ 57 := by simpa [isDig] using hd
                                    obtain ⟨d1, d2⟩ := hd1
                                    have y1 : ((c : Int) == 39) = false := by simp; omega
                                    obtain ⟨s1, s2⟩ := HA.out.dig hle hlt3 c hc hM4 d1 d2
                                    have HS1 := hide s1
                                    have HS2 := hide s2
                                    clear s1 s2 hd hM4 HFl
                                    obtain ⟨m, hm⟩ : ∃ m, 10 * n + (c - 48) = m := ⟨_, rfl⟩
                                    rw [hm] at HS1 HS2
                                    have m1 : 10 * (n : Int) + ((c : Int) - 48) = (m : Int) := by omega
                                    have m2 : m ≤ 10995116277769 := by omega
                                    clear hm
                                    by_cases hg : 1099511627776 < m
                                    · have g1 : (1099511627776 : Int) < (m : Int) := by omega
                                      have HA2 := hide (HS1.out hg)
                                      clear hg
                                      go_wp2_with fail
                                      refine HDg.out.mono ?_
                                      rintro e w9 ⟨rfl, h2⟩
                                      obtain rfl := h2.symm
                                      clear h2
                                      go_wp2
                                      go_roundw
                                      case rel => exact ⟨1099511627776, k3 + 1, by omega, by omega, rfl, by go_num, (by first | trivial | rfl), HA2⟩
                                      case measure => simp [intOf]; omega
                                    · have g1 : decide ((1099511627776 : Int) < (m : Int)) = false := decide_eq_false (by omega)
                                      have HA2 := hide (HS2.out hg)
                                      have hm9 : m ≤ 1099511627776 := by omega
                                      clear hg
                                      go_wp2_with fail
                                      refine HDg.out.mono ?_
                                      rintro e w9 ⟨rfl, h2⟩
                                      obtain rfl := h2.symm
                                      clear h2
                                      go_wp2
                                      go_roundw
                                      case rel => exact ⟨m, k3 + 1, by omega, hm9, by go_num, by go_num, (by first | trivial | rfl), HA2⟩
                                      case measure => simp [intOf]; omega
                                  · have hd' : isDig c = false := by simpa using hd
                                    rw [hd'] at HDg
                                    have HR := hide (H1.out (by rw [HOk.out]; exact HFl.out (by rw [if_neg hM4]; exact hd')))
                                    clear hd hM4
                                    by_cases h39 : c = 39
                                    · have y1 : ((c : Int) == 39) = true := by simp; omega
                                      clear h39 hd'
                                      go_wp2
                                      go_ret2
                                      exact ⟨ret_pair HR.out.symm, HBW.out⟩
                                    · have y1 : ((c : Int) == 39) = false := by simp; omega
                                      clear h39 hd'
                                      go_wp2_with fail
                                      refine HDg.out.mono ?_
                                      rintro e w9 ⟨rfl, h2⟩
                                      obtain rfl := h2.symm
                                      clear h2
                                      go_wp2
                                      go_ret2
                                      exact ⟨ret_pair HR.out.symm, HBW.out⟩
                            · have v1 : decide ((k3 : Int) < (k : Int)) = false := decide_eq_false (by omega)
                              have v1b : decide (k3 < k) = false := decide_eq_false (by omega)
                              obtain ⟨d1, d2⟩ := HA.out.done (by rw [HLn.out]; omega)
                              have hfin := H2.out (by rw [HOk.out]; exact d1)
                              rw [← d2] at hfin
                              have HFin := hide hfin
                              clear d1 d2 hfin
                              by_cases hg : 1099511627776 < 100 * n + C
                              · have g1 : (1099511627776 : Int) < 100 * (n : Int) + (C : Int) := by omega
                                have HR : Hid ((V, E) = (0, 22)) := by show _ = _; rw [HFin.out, if_pos hg]
                                clear hg
                                go_wp2
                                go_ret2
                                exact ⟨ret_pair HR.out.symm, HBW.out⟩
                              · have g1 : decide ((1099511627776 : Int) < 100 * (n : Int) + (C : Int)) = false := decide_eq_false (by omega)
                                have HR : Hid ((V, E) = (100 * n + C, 0)) := by show _ = _; rw [HFin.out, if_neg hg]
                                clear hg
                                go_wp2
                                go_ret2
                                exact ⟨by have h := HR.out; rw [Prod.mk.injEq] at h; exact ret_am (by omega) (by omega), HBW.out⟩
                    · have hd' : isDig c0 = false := by simpa using hd
                      rw [hd'] at HDg
                      have HR := hide (H1.out (headok_bad _ (Or.inr ⟨c0, HHd.out, Or.inl hd'⟩)))
                      clear hd hd'
                      go_wp2_with fail
                      refine HDg.out.mono ?_
                      rintro e w9 ⟨rfl, h2⟩
                      obtain rfl := h2.symm
                      clear h2
                      go_wp2
                      go_ret2
                      exact ⟨ret_pair HR.out.symm, HBW.out⟩
                  · have w1 : ((k : Int) == 0) = true := beq_iff_eq.2 (by omega)
                    have HR := hide (H1.out (headok_bad _ (Or.inl (by apply List.eq_nil_of_length_eq_zero; rw [List.length_take]; omega))))
                    go_wp2
                    go_ret2
                    exact ⟨ret_pair HR.out.symm, HBW.out⟩
            · have hdb' : isDig b = false := by simpa using hdb
              rw [hdb'] at HDb
              have HR : Hid ((V, E) = (0, 21)) := by show _ = _; rw [HP.out]; exact amt_bad2 _ _ (by simp [twoD, hdb'])
              clear hda hdb hdb' h46 h3
              go_wp2_with fail
              refine HDa.out.mono ?_
              rintro e w9 ⟨rfl, h2⟩
              obtain rfl := h2.symm
              clear h2
              go_wp2_with fail
              refine HDb.out.mono ?_
              rintro e w9 ⟨rfl, h2⟩
              obtain rfl := h2.symm
              clear h2
              go_wp2
              go_ret2
              exact ⟨ret_pair HR.out.symm, Below.refl _ _⟩
          · have hda' : isDig a = false := by simpa using hda
            rw [hda'] at HDa
            have HR : Hid ((V, E) = (0, 21)) := by show _ = _; rw [HP.out]; exact amt_bad2 _ _ (by simp [twoD, hda'])
            clear hda hda' h46 h3
            go_wp2_with fail
            refine HDa.out.mono ?_
            rintro e w9 ⟨rfl, h2⟩
            obtain rfl := h2.symm
            clear h2
            go_wp2
            go_ret2
            exact ⟨ret_pair HR.out.symm, Below.refl _ _⟩
        · have y3 : ((k : Int) + 3 != (s.size : Int)) = true := by simp; omega
          have y3c : ((k : Int) + 3 == (s.size : Int)) = false := by simp; omega
          have HR : Hid ((V, E) = (0, 21)) := by show _ = _; rw [HP.out]; exact amt_bad2 _ _ (two_no s k h3 hlt)
          clear h46 h3 HP
          go_wp2
          go_ret2
          exact ⟨ret_pair HR.out.symm, Below.refl _ _⟩
      · have y1 : ((c : Int) == 46) = false := by simp; omega
        have HN2 : Hid (46 ∉ (nums s).take (k + 1)) := fun h => by
          rcases (take_mem s k 46 c hlt hc).1 h with h | h
          · exact HN.out h
          · exact h46 h.symm
        clear h46
        go_wp2
        go_roundw
        case rel => exact ⟨k + 1, by omega, rfl, rfl, by go_num, (by first | trivial | rfl), HN2⟩
        case measure => simp [intOf]; omega
    · have u1 : decide ((k : Int) < (s.size : Int)) = false := decide_eq_false (by omega)
      have u1b : decide (k < s.size) = false := decide_eq_false (by omega)
      obtain rfl : k = s.size := by omega
      have HP := hide (parted_none s HN.out)
      rw [HVE.out] at HP
      have H1 : Hid (headok ((nums s).take s.size) = false → (V, E) = (0, 21)) := fun h => by rw [HP.out]; exact amt_bad1 _ _ _ h
      have H2 : Hid (headok ((nums s).take s.size) = true → (V, E) = if 1099511627776 < 100 * capA (val (digs ((nums s).take s.size))) + 0 then (0, 22) else (100 * capA (val (digs ((nums s).take s.size))) + 0, 0)) := fun h => by rw [HP.out]; exact amt_end _ _ _ h (fun h => by cases h) (by decide)
      have hle : s.size ≤ s.size := Nat.le_refl _
      have HBW : Hid (Below wr.heap.size wr wr) := Below.refl _ _
      clear HP
      go_wp2
      go_loopw [7, 8] (fun a b wq => ∃ (M : Bool) (kq : Nat), kq ≤ s.size ∧ a = .bool M ∧ b = .int .i64 (kq : Int) ∧ wq = wr ∧ Hid (M = decide (39 ∈ (nums s).take kq))) (fun _ b _ => s.size - (intOf b).toNat)
      case atStart => exact ⟨false, 0, Nat.zero_le _, rfl, rfl, rfl, hide (by simp)⟩
      case round =>
        obtain ⟨M, k2, hk2, rfl, rfl, rfl, HM⟩ := hrel
        by_cases hlt2 : k2 < s.size
        · have v1 : (k2 : Int) < (s.size : Int) := by omega
          have v2 : (0 : Int) ≤ (k2 : Int) := by omega
          have v3 : (k2 : Int) < (s.size : Int) := by omega
          have hks : k2 < s.size := by omega
          obtain ⟨c, hc⟩ : ∃ c, (s[k2]'hks).toNat = c := ⟨_, rfl⟩
          have HTM := hide (take_mem s k2 39 c hks hc)
          cases M with
          | true =>
            have HM2 : Hid (true = decide (39 ∈ (nums s).take (k2 + 1))) := by
              show _ = _
              have := HM.out
              rw [eq_comm, decide_eq_true_eq] at this
              rw [eq_comm, decide_eq_true_eq]
              exact HTM.out.2 (Or.inl this)
            clear HTM hc
            go_wp2
            go_roundw
            case rel => exact ⟨true, k2 + 1, by omega, rfl, by go_num, (by first | trivial | rfl), HM2⟩
            case measure => simp [intOf]; omega
          | false =>
            have hnm : 39 ∉ (nums s).take k2 := by have := HM.out; rw [eq_comm, decide_eq_false_iff_not] at this; exact this
            by_cases h39 : c = 39
            · have y1 : ((c : Int) == 39) = true := by simp; omega
              have HM2 : Hid (true = decide (39 ∈ (nums s).take (k2 + 1))) := by
                show _ = _
                rw [eq_comm, decide_eq_true_eq]
                exact HTM.out.2 (Or.inr h39.symm)
              clear HTM hnm h39
              go_wp2
              go_roundw
              case rel => exact ⟨true, k2 + 1, by omega, rfl, by go_num, (by first | trivial | rfl), HM2⟩
              case measure => simp [intOf]; omega
            · have y1 : ((c : Int) == 39) = false := by simp; omega
              have HM2 : Hid (false = decide (39 ∈ (nums s).take (k2 + 1))) := by
                show _ = _
                rw [eq_comm, decide_eq_false_iff_not]
                intro h
                rcases HTM.out.1 h with h | h
                · exact hnm h
                · exact h39 h.symm
              clear HTM hnm h39
              go_wp2
              go_roundw
              case rel => exact ⟨false, k2 + 1, by omega, rfl, by go_num, (by first | trivial | rfl), HM2⟩
              case measure => simp [intOf]; omega
        · have v1 : decide ((k2 : Int) < (s.size : Int)) = false := decide_eq_false (by omega)
          have v1b : decide (k2 < s.size) = false := decide_eq_false (by omega)
          obtain rfl : s.size = k2 := by omega
          by_cases he0 : 0 < s.size
          · have w1 : ((s.size : Int) == 0) = false := beq_eq_false_iff_ne.2 (by omega)
            have hs0 : 0 < s.size := by omega
            have w0 : (0 : Int) < (s.size : Int) := by omega
            obtain ⟨c0, hc0⟩ : ∃ c0, (s[0]'hs0).toNat = c0 := ⟨_, rfl⟩
            have HHd := hide (take_head s s.size he0 hs0)
            rw [hc0] at HHd
            have hlen : ((nums s).take s.size).length = s.size := by rw [List.length_take, nums_len]; omega
            have HLn := hide hlen
            clear hlen
            have HDg := hide (rdigit_any wr c0)
            by_cases hd : isDig c0 = true
            · rw [hd] at HDg
              by_cases hz : c0 = 48 ∧ 1 < s.size
              · have x1 : ((c0 : Int) == 48) = true := by simp; omega
                have x2 : (1 : Int) < (s.size : Int) := by omega
                have HR := hide (H1.out (headok_bad _ (Or.inr ⟨c0, HHd.out, Or.inr ⟨hz.1, by rw [HLn.out]; exact hz.2⟩⟩)))
                clear hz hd
                go_wp2_with fail
                refine HDg.out.mono ?_
                rintro e w9 ⟨rfl, h2⟩
                obtain rfl := h2.symm
                clear h2
                go_wp2
                go_ret2
                exact ⟨ret_pair HR.out.symm, HBW.out⟩
              · have HOk := hide (headok_of _ c0 HHd.out hd (by rw [HLn.out]; exact hz))
                rw [← HM.out] at HOk
                go_wp2_with fail
                refine HDg.out.mono ?_
                rintro e w9 ⟨rfl, h2⟩
                obtain rfl := h2.symm
                clear h2 hd
                have hx : (((c0 : Int) == 48) = true ∧ decide ((1 : Int) < (s.size : Int)) = false ∧ decide (1 < s.size) = false) ∨ ((c0 : Int) == 48) = false := by
                  by_cases h48 : c0 = 48
                  · exact .inl ⟨by simp; omega, decide_eq_false (by omega), decide_eq_false (by omega)⟩
                  · exact .inr (by simp; omega)
                clear hz
                rcases hx with ⟨x1, x2, x3⟩ | x1
                · go_wp2
                  clear x1 x2 x3
                  go_loopw [9, 10] (fun a b wr2 => ∃ (n kq : Nat), kq ≤ s.size ∧ n ≤ 1099511627776 ∧ a = .int .i64 (n : Int) ∧ b = .int .i64 (kq : Int) ∧ wr2 = wr ∧ Hid (AInv ((nums s).take s.size) M kq n)) (fun _ b _ => s.size - (intOf b).toNat)
                  case atStart => exact ⟨0, 0, Nat.zero_le _, by omega, rfl, rfl, rfl, AInv.start _ _⟩
                  case round =>
                    clear v1 v1b w1 HHd HDg
                    obtain ⟨n, k3, hk3, hn, rfl, rfl, rfl, HA⟩ := hrel
                    by_cases hlt3 : k3 < s.size
                    · have v1 : (k3 : Int) < (s.size : Int) := by omega
                      have v2 : (0 : Int) ≤ (k3 : Int) := by omega
                      have v3 : (k3 : Int) < (s.size : Int) := by omega
                      have v4 : (0 : Int) ≤ (s.size : Int) - (k3 : Int) := by omega
                      have hks : k3 < s.size := by omega
                      obtain ⟨c, hc⟩ : ∃ c, (s[k3]'hks).toNat = c := ⟨_, rfl⟩
                      have hcb : c < 256 := by rw [← hc]; exact (s[k3]'hks).toNat_lt
                      have HDg := hide (rdigit_any wr c)
                      have HFl := hide (HA.out.fail hle hlt3 c hc)
                      by_cases h4 : (s.size - k3) % 4 = 0
                      · have m4 : (((s.size : Int) - (k3 : Int)) % 4 == 0) = true := by simp; omega
                        cases M with
                        | true =>
                          by_cases h39 : c = 39
                          · have y1 : ((c : Int) == 39) = true := by simp; omega
                            have HA2 := hide (HA.out.mark hle hlt3 (by rw [hc, h39]) rfl h4)
                            have y2 : decide ((1099511627776 : Int) < (n : Int)) = false := decide_eq_false (by omega)
                            clear h39 h4 HFl HDg
                            go_wp2
                            go_roundw
                            case rel => exact ⟨n, k3 + 1, by omega, hn, rfl, by go_num, (by first | trivial | rfl), HA2⟩
                            case measure => simp [intOf]; omega
                          · have y1 : ((c : Int) == 39) = false := by simp; omega
                            have HR := hide (H1.out (by rw [HOk.out]; exact HFl.out (by rw [if_pos ⟨rfl, h4⟩]; simpa using h39)))
                            clear h39 h4 HFl HDg
                            go_wp2
                            go_ret2
                            exact ⟨ret_pair HR.out.symm, HBW.out⟩
                        | false =>
                          have hM4 : ¬ (false = true ∧ (s.size - k3) % 4 = 0) := by simp
                          clear h4
                          by_cases hd : isDig c = true
                          · rw [hd] at HDg
                            have hd1 : 48 ≤ c ∧ c ≤ 57 := by simpa [isDig] using hd
                            obtain ⟨d1, d2⟩ := hd1
                            have y1 : ((c : Int) == 39) = false := by simp; omega
                            obtain ⟨s1, s2⟩ := HA.out.dig hle hlt3 c hc hM4 d1 d2
                            have HS1 := hide s1
                            have HS2 := hide s2
                            clear s1 s2 hd hM4 HFl
                            obtain ⟨m, hm⟩ : ∃ m, 10 * n + (c - 48) = m := ⟨_, rfl⟩
                            rw [hm] at HS1 HS2
                            have m1 : 10 * (n : Int) + ((c : Int) - 48) = (m : Int) := by omega
                            have m2 : m ≤ 10995116277769 := by omega
                            clear hm
                            by_cases hg : 1099511627776 < m
                            · have g1 : (1099511627776 : Int) < (m : Int) := by omega
                              have HA2 := hide (HS1.out hg)
                              clear hg
                              go_wp2_with fail
                              refine HDg.out.mono ?_
                              rintro e w9 ⟨rfl, h2⟩
                              obtain rfl := h2.symm
                              clear h2
                              go_wp2
                              go_roundw
                              case rel => exact ⟨1099511627776, k3 + 1, by omega, by omega, rfl, by go_num, (by first | trivial | rfl), HA2⟩
                              case measure => simp [intOf]; omega
                            · have g1 : decide ((1099511627776 : Int) < (m : Int)) = false := decide_eq_false (by omega)
                              have HA2 := hide (HS2.out hg)
                              have hm9 : m ≤ 1099511627776 := by omega
                              clear hg
                              go_wp2_with fail
                              refine HDg.out.mono ?_
                              rintro e w9 ⟨rfl, h2⟩
                              obtain rfl := h2.symm
                              clear h2
                              go_wp2
                              go_roundw
                              case rel => exact ⟨m, k3 + 1, by omega, hm9, by go_num, by go_num, (by first | trivial | rfl), HA2⟩
                              case measure => simp [intOf]; omega
                          · have hd' : isDig c = false := by simpa using hd
                            rw [hd'] at HDg
                            have HR := hide (H1.out (by rw [HOk.out]; exact HFl.out (by rw [if_neg hM4]; exact hd')))
                            clear hd hM4
                            by_cases h39 : c = 39
                            · have y1 : ((c : Int) == 39) = true := by simp; omega
                              clear h39 hd'
                              go_wp2
                              go_ret2
                              exact ⟨ret_pair HR.out.symm, HBW.out⟩
                            · have y1 : ((c : Int) == 39) = false := by simp; omega
                              clear h39 hd'
                              go_wp2_with fail
                              refine HDg.out.mono ?_
                              rintro e w9 ⟨rfl, h2⟩
                              obtain rfl := h2.symm
                              clear h2
                              go_wp2
                              go_ret2
                              exact ⟨ret_pair HR.out.symm, HBW.out⟩
                      · have m4 : (((s.size : Int) - (k3 : Int)) % 4 == 0) = false := by simp; omega
                        have hM4 : ¬ (M = true ∧ (s.size - k3) % 4 = 0) := fun h => h4 h.2
                        cases M with
                        | true =>
                          clear h4
                          by_cases hd : isDig c = true
                          · rw [hd] at HDg
                            have hd1 : 48 ≤ c ∧ c ≤ 57 := by simpa [isDig] using hd
                            obtain ⟨d1, d2⟩ := hd1
                            have y1 : ((c : Int) == 39) = false := by simp; omega
                            obtain ⟨s1, s2⟩ := HA.out.dig hle hlt3 c hc hM4 d1 d2
                            have HS1 := hide s1
                            have HS2 := hide s2
                            clear s1 s2 hd hM4 HFl
                            obtain ⟨m, hm⟩ : ∃ m, 10 * n + (c - 48) = m := ⟨_, rfl⟩
                            rw [hm] at HS1 HS2
                            have m1 : 10 * (n : Int) + ((c : Int) - 48) = (m : Int) := by omega
                            have m2 : m ≤ 10995116277769 := by omega
                            clear hm
                            by_cases hg : 1099511627776 < m
                            · have g1 : (1099511627776 : Int) < (m : Int) := by omega
                              have HA2 := hide (HS1.out hg)
                              clear hg
                              go_wp2_with fail
                              refine HDg.out.mono ?_
                              rintro e w9 ⟨rfl, h2⟩
                              obtain rfl := h2.symm
                              clear h2
                              go_wp2
                              go_roundw
                              case rel => exact ⟨1099511627776, k3 + 1, by omega, by omega, rfl, by go_num, (by first | trivial | rfl), HA2⟩
                              case measure => simp [intOf]; omega
                            · have g1 : decide ((1099511627776 : Int) < (m : Int)) = false := decide_eq_false (by omega)
                              have HA2 := hide (HS2.out hg)
                              have hm9 : m ≤ 1099511627776 := by omega
                              clear hg
                              go_wp2_with fail
                              refine HDg.out.mono ?_
                              rintro e w9 ⟨rfl, h2⟩
                              obtain rfl := h2.symm
                              clear h2
                              go_wp2
                              go_roundw
                              case rel => exact ⟨m, k3 + 1, by omega, hm9, by go_num, by go_num, (by first | trivial | rfl), HA2⟩
                              case measure => simp [intOf]; omega
                          · have hd' : isDig c = false := by simpa using hd
                            rw [hd'] at HDg
                            have HR := hide (H1.out (by rw [HOk.out]; exact HFl.out (by rw [if_neg hM4]; exact hd')))
                            clear hd hM4
                            by_cases h39 : c = 39
                            · have y1 : ((c : Int) == 39) = true := by simp; omega
                              clear h39 hd'
                              go_wp2
                              go_ret2
                              exact ⟨ret_pair HR.out.symm, HBW.out⟩
                            · have y1 : ((c : Int) == 39) = false := by simp; omega
                              clear h39 hd'
                              go_wp2_with fail
                              refine HDg.out.mono ?_
                              rintro e w9 ⟨rfl, h2⟩
                              obtain rfl := h2.symm
                              clear h2
                              go_wp2
                              go_ret2
                              exact ⟨ret_pair HR.out.symm, HBW.out⟩
                        | false =>
                          clear h4
                          by_cases hd : isDig c = true
                          · rw [hd] at HDg
                            have hd1 : 48 ≤ c ∧ c ≤ 57 := by simpa [isDig] using hd
                            obtain ⟨d1, d2⟩ := hd1
                            have y1 : ((c : Int) == 39) = false := by simp; omega
                            obtain ⟨s1, s2⟩ := HA.out.dig hle hlt3 c hc hM4 d1 d2
                            have HS1 := hide s1
                            have HS2 := hide s2
                            clear s1 s2 hd hM4 HFl
                            obtain ⟨m, hm⟩ : ∃ m, 10 * n + (c - 48) = m := ⟨_, rfl⟩
                            rw [hm] at HS1 HS2
                            have m1 : 10 * (n : Int) + ((c : Int) - 48) = (m : Int) := by omega
                            have m2 : m ≤ 10995116277769 := by omega
                            clear hm
                            by_cases hg : 1099511627776 < m
                            · have g1 : (1099511627776 : Int) < (m : Int) := by omega
                              have HA2 := hide (HS1.out hg)
                              clear hg
                              go_wp2_with fail
                              refine HDg.out.mono ?_
                              rintro e w9 ⟨rfl, h2⟩
                              obtain rfl := h2.symm
                              clear h2
                              go_wp2
                              go_roundw
                              case rel => exact ⟨1099511627776, k3 + 1, by omega, by omega, rfl, by go_num, (by first | trivial | rfl), HA2⟩
                              case measure => simp [intOf]; omega
                            · have g1 : decide ((1099511627776 : Int) < (m : Int)) = false := decide_eq_false (by omega)
                              have HA2 := hide (HS2.out hg)
                              have hm9 : m ≤ 1099511627776 := by omega
                              clear hg
                              go_wp2_with fail
                              refine HDg.out.mono ?_
                              rintro e w9 ⟨rfl, h2⟩
                              obtain rfl := h2.symm
                              clear h2
                              go_wp2
                              go_roundw
                              case rel => exact ⟨m, k3 + 1, by omega, hm9, by go_num, by go_num, (by first | trivial | rfl), HA2⟩
                              case measure => simp [intOf]; omega
                          · have hd' : isDig c = false := by simpa using hd
                            rw [hd'] at HDg
                            have HR := hide (H1.out (by rw [HOk.out]; exact HFl.out (by rw [if_neg hM4]; exact hd')))
                            clear hd hM4
                            by_cases h39 : c = 39
                            · have y1 : ((c : Int) == 39) = true := by simp; omega
                              clear h39 hd'
                              go_wp2
                              go_ret2
                              exact ⟨ret_pair HR.out.symm, HBW.out⟩
                            · have y1 : ((c : Int) == 39) = false := by simp; omega
                              clear h39 hd'
                              go_wp2_with fail
                              refine HDg.out.mono ?_
                              rintro e w9 ⟨rfl, h2⟩
                              obtain rfl := h2.symm
                              clear h2
                              go_wp2
                              go_ret2
                              exact ⟨ret_pair HR.out.symm, HBW.out⟩
                    · have v1 : decide ((k3 : Int) < (s.size : Int)) = false := decide_eq_false (by omega)
                      have v1b : decide (k3 < s.size) = false := decide_eq_false (by omega)
                      obtain ⟨d1, d2⟩ := HA.out.done (by rw [HLn.out]; omega)
                      have hfin := H2.out (by rw [HOk.out]; exact d1)
                      rw [← d2] at hfin
                      have HFin := hide hfin
                      clear d1 d2 hfin
                      by_cases hg : 1099511627776 < 100 * n + 0
                      · have g1 : (1099511627776 : Int) < 100 * (n : Int) := by omega
                        have HR : Hid ((V, E) = (0, 22)) := by show _ = _; rw [HFin.out, if_pos hg]
                        clear hg
                        go_wp2
                        go_ret2
                        exact ⟨ret_pair HR.out.symm, HBW.out⟩
                      · have g1 : decide ((1099511627776 : Int) < 100 * (n : Int)) = false := decide_eq_false (by omega)
                        have HR : Hid ((V, E) = (100 * n + 0, 0)) := by show _ = _; rw [HFin.out, if_neg hg]
                        clear hg
                        go_wp2
                        go_ret2
                        exact ⟨by have h := HR.out; rw [Prod.mk.injEq] at h; exact ret_am (by omega) (by omega), HBW.out⟩
                · go_wp2
                  clear x1
                  go_loopw [9, 10] (fun a b wr2 => ∃ (n kq : Nat), kq ≤ s.size ∧ n ≤ 1099511627776 ∧ a = .int .i64 (n : Int) ∧ b = .int .i64 (kq : Int) ∧ wr2 = wr ∧ Hid (AInv ((nums s).take s.size) M kq n)) (fun _ b _ => s.size - (intOf b).toNat)
                  case atStart => exact ⟨0, 0, Nat.zero_le _, by omega, rfl, rfl, rfl, AInv.start _ _⟩
                  case round =>
                    clear v1 v1b w1 HHd HDg
                    obtain ⟨n, k3, hk3, hn, rfl, rfl, rfl, HA⟩ := hrel
                    by_cases hlt3 : k3 < s.size
                    · have v1 : (k3 : Int) < (s.size : Int) := by omega
                      have v2 : (0 : Int) ≤ (k3 : Int) := by omega
                      have v3 : (k3 : Int) < (s.size : Int) := by omega
                      have v4 : (0 : Int) ≤ (s.size : Int) - (k3 : Int) := by omega
                      have hks : k3 < s.size := by omega
                      obtain ⟨c, hc⟩ : ∃ c, (s[k3]'hks).toNat = c := ⟨_, rfl⟩
                      have hcb : c < 256 := by rw [← hc]; exact (s[k3]'hks).toNat_lt
                      have HDg := hide (rdigit_any wr c)
                      have HFl := hide (HA.out.fail hle hlt3 c hc)
                      by_cases h4 : (s.size - k3) % 4 = 0
                      · have m4 : (((s.size : Int) - (k3 : Int)) % 4 == 0) = true := by simp; omega
                        cases M with
                        | true =>
                          by_cases h39 : c = 39
                          · have y1 : ((c : Int) == 39) = true := by simp; omega
                            have HA2 := hide (HA.out.mark hle hlt3 (by rw [hc, h39]) rfl h4)
                            have y2 : decide ((1099511627776 : Int) < (n : Int)) = false := decide_eq_false (by omega)
                            clear h39 h4 HFl HDg
                            go_wp2
                            go_roundw
                            case rel => exact ⟨n, k3 + 1, by omega, hn, rfl, by go_num, (by first | trivial | rfl), HA2⟩
                            case measure => simp [intOf]; omega
                          · have y1 : ((c : Int) == 39) = false := by simp; omega
                            have HR := hide (H1.out (by rw [HOk.out]; exact HFl.out (by rw [if_pos ⟨rfl, h4⟩]; simpa using h39)))
                            clear h39 h4 HFl HDg
                            go_wp2
                            go_ret2
                            exact ⟨ret_pair HR.out.symm, HBW.out⟩
                        | false =>
                          have hM4 : ¬ (false = true ∧ (s.size - k3) % 4 = 0) := by simp
                          clear h4
                          by_cases hd : isDig c = true
                          · rw [hd] at HDg
                            have hd1 : 48 ≤ c ∧ c ≤ 57 := by simpa [isDig] using hd
                            obtain ⟨d1, d2⟩ := hd1
                            have y1 : ((c : Int) == 39) = false := by simp; omega
                            obtain ⟨s1, s2⟩ := HA.out.dig hle hlt3 c hc hM4 d1 d2
                            have HS1 := hide s1
                            have HS2 := hide s2
                            clear s1 s2 hd hM4 HFl
                            obtain ⟨m, hm⟩ : ∃ m, 10 * n + (c - 48) = m := ⟨_, rfl⟩
                            rw [hm] at HS1 HS2
                            have m1 : 10 * (n : Int) + ((c : Int) - 48) = (m : Int) := by omega
                            have m2 : m ≤ 10995116277769 := by omega
                            clear hm
                            by_cases hg : 1099511627776 < m
                            · have g1 : (1099511627776 : Int) < (m : Int) := by omega
                              have HA2 := hide (HS1.out hg)
                              clear hg
                              go_wp2_with fail
                              refine HDg.out.mono ?_
                              rintro e w9 ⟨rfl, h2⟩
                              obtain rfl := h2.symm
                              clear h2
                              go_wp2
                              go_roundw
                              case rel => exact ⟨1099511627776, k3 + 1, by omega, by omega, rfl, by go_num, (by first | trivial | rfl), HA2⟩
                              case measure => simp [intOf]; omega
                            · have g1 : decide ((1099511627776 : Int) < (m : Int)) = false := decide_eq_false (by omega)
                              have HA2 := hide (HS2.out hg)
                              have hm9 : m ≤ 1099511627776 := by omega
                              clear hg
                              go_wp2_with fail
                              refine HDg.out.mono ?_
                              rintro e w9 ⟨rfl, h2⟩
                              obtain rfl := h2.symm
                              clear h2
                              go_wp2
                              go_roundw
                              case rel => exact ⟨m, k3 + 1, by omega, hm9, by go_num, by go_num, (by first | trivial | rfl), HA2⟩
                              case measure => simp [intOf]; omega
                          · have hd' : isDig c = false := by simpa using hd
                            rw [hd'] at HDg
                            have HR := hide (H1.out (by rw [HOk.out]; exact HFl.out (by rw [if_neg hM4]; exact hd')))
                            clear hd hM4
                            by_cases h39 : c = 39
                            · have y1 : ((c : Int) == 39) = true := by simp; omega
                              clear h39 hd'
                              go_wp2
                              go_ret2
                              exact ⟨ret_pair HR.out.symm, HBW.out⟩
                            · have y1 : ((c : Int) == 39) = false := by simp; omega
                              clear h39 hd'
                              go_wp2_with fail
                              refine HDg.out.mono ?_
                              rintro e w9 ⟨rfl, h2⟩
                              obtain rfl := h2.symm
                              clear h2
                              go_wp2
                              go_ret2
                              exact ⟨ret_pair HR.out.symm, HBW.out⟩
                      · have m4 : (((s.size : Int) - (k3 : Int)) % 4 == 0) = false := by simp; omega
                        have hM4 : ¬ (M = true ∧ (s.size - k3) % 4 = 0) := fun h => h4 h.2
                        cases M with
                        | true =>
                          clear h4
                          by_cases hd : isDig c = true
                          · rw [hd] at HDg
                            have hd1 : 48 ≤ c ∧ c ≤ 57 := by simpa [isDig] using hd
                            obtain ⟨d1, d2⟩ := hd1
                            have y1 : ((c : Int) == 39) = false := by simp; omega
                            obtain ⟨s1, s2⟩ := HA.out.dig hle hlt3 c hc hM4 d1 d2
                            have HS1 := hide s1
                            have HS2 := hide s2
                            clear s1 s2 hd hM4 HFl
                            obtain ⟨m, hm⟩ : ∃ m, 10 * n + (c - 48) = m := ⟨_, rfl⟩
                            rw [hm] at HS1 HS2
                            have m1 : 10 * (n : Int) + ((c : Int) - 48) = (m : Int) := by omega
                            have m2 : m ≤ 10995116277769 := by omega
                            clear hm
                            by_cases hg : 1099511627776 < m
                            · have g1 : (1099511627776 : Int) < (m : Int) := by omega
                              have HA2 := hide (HS1.out hg)
                              clear hg
                              go_wp2_with fail
                              refine HDg.out.mono ?_
                              rintro e w9 ⟨rfl, h2⟩
                              obtain rfl := h2.symm
                              clear h2
                              go_wp2
                              go_roundw
                              case rel => exact ⟨1099511627776, k3 + 1, by omega, by omega, rfl, by go_num, (by first | trivial | rfl), HA2⟩
                              case measure => simp [intOf]; omega
                            · have g1 : decide ((1099511627776 : Int) < (m : Int)) = false := decide_eq_false (by omega)
                              have HA2 := hide (HS2.out hg)
                              have hm9 : m ≤ 1099511627776 := by omega
                              clear hg
                              go_wp2_with fail
                              refine HDg.out.mono ?_
                              rintro e w9 ⟨rfl, h2⟩
                              obtain rfl := h2.symm
                              clear h2
                              go_wp2
                              go_roundw
                              case rel => exact ⟨m, k3 + 1, by omega, hm9, by go_num, by go_num, (by first | trivial | rfl), HA2⟩
                              case measure => simp [intOf]; omega
                          · have hd' : isDig c = false := by simpa using hd
                            rw [hd'] at HDg
                            have HR := hide (H1.out (by rw [HOk.out]; exact HFl.out (by rw [if_neg hM4]; exact hd')))
                            clear hd hM4
                            by_cases h39 : c = 39
                            · have y1 : ((c : Int) == 39) = true := by simp; omega
                              clear h39 hd'
                              go_wp2
                              go_ret2
                              exact ⟨ret_pair HR.out.symm, HBW.out⟩
                            · have y1 : ((c : Int) == 39) = false := by simp; omega
                              clear h39 hd'
                              go_wp2_with fail
                              refine HDg.out.mono ?_
                              rintro e w9 ⟨rfl, h2⟩
                              obtain rfl := h2.symm
                              clear h2
                              go_wp2
                              go_ret2
                              exact ⟨ret_pair HR.out.symm, HBW.out⟩
                        | false =>
                          clear h4
                          by_cases hd : isDig c = true
                          · rw [hd] at HDg
                            have hd1 : 48 ≤ c ∧ c ≤ 57 := by simpa [isDig] using hd
                            obtain ⟨d1, d2⟩ := hd1
                            have y1 : ((c : Int) == 39) = false := by simp; omega
                            obtain ⟨s1, s2⟩ := HA.out.dig hle hlt3 c hc hM4 d1 d2
                            have HS1 := hide s1
                            have HS2 := hide s2
                            clear s1 s2 hd hM4 HFl
                            obtain ⟨m, hm⟩ : ∃ m, 10 * n + (c - 48) = m := ⟨_, rfl⟩
                            rw [hm] at HS1 HS2
                            have m1 : 10 * (n : Int) + ((c : Int) - 48) = (m : Int) := by omega
                            have m2 : m ≤ 10995116277769 := by omega
                            clear hm
                            by_cases hg : 1099511627776 < m
                            · have g1 : (1099511627776 : Int) < (m : Int) := by omega
                              have HA2 := hide (HS1.out hg)
                              clear hg
                              go_wp2_with fail
                              refine HDg.out.mono ?_
                              rintro e w9 ⟨rfl, h2⟩
                              obtain rfl := h2.symm
                              clear h2
                              go_wp2
                              go_roundw
                              case rel => exact ⟨1099511627776, k3 + 1, by omega, by omega, rfl, by go_num, (by first | trivial | rfl), HA2⟩
                              case measure => simp [intOf]; omega
                            · have g1 : decide ((1099511627776 : Int) < (m : Int)) = false := decide_eq_false (by omega)
                              have HA2 := hide (HS2.out hg)
                              have hm9 : m ≤ 1099511627776 := by omega
                              clear hg
                              go_wp2_with fail
                              refine HDg.out.mono ?_
                              rintro e w9 ⟨rfl, h2⟩
                              obtain rfl := h2.symm
                              clear h2
                              go_wp2
                              go_roundw
                              case rel => exact ⟨m, k3 + 1, by omega, hm9, by go_num, by go_num, (by first | trivial | rfl), HA2⟩
                              case measure => simp [intOf]; omega
                          · have hd' : isDig c = false := by simpa using hd
                            rw [hd'] at HDg
                            have HR := hide (H1.out (by rw [HOk.out]; exact HFl.out (by rw [if_neg hM4]; exact hd')))
                            clear hd hM4
                            by_cases h39 : c = 39
                            · have y1 : ((c : Int) == 39) = true := by simp; omega
                              clear h39 hd'
                              go_wp2
                              go_ret2
                              exact ⟨ret_pair HR.out.symm, HBW.out⟩
                            · have y1 : ((c : Int) == 39) = false := by simp; omega
                              clear h39 hd'
                              go_wp2_with fail
                              refine HDg.out.mono ?_
                              rintro e w9 ⟨rfl, h2⟩
                              obtain rfl := h2.symm
                              clear h2
                              go_wp2
                              go_ret2
                              exact ⟨ret_pair HR.out.symm, HBW.out⟩
                    · have v1 : decide ((k3 : Int) < (s.size : Int)) = false := decide_eq_false (by omega)
                      have v1b : decide (k3 < s.size) = false := decide_eq_false (by omega)
                      obtain ⟨d1, d2⟩ := HA.out.done (by rw [HLn.out]; omega)
                      have hfin := H2.out (by rw [HOk.out]; exact d1)
                      rw [← d2] at hfin
                      have HFin := hide hfin
                      clear d1 d2 hfin
                      by_cases hg : 1099511627776 < 100 * n + 0
                      · have g1 : (1099511627776 : Int) < 100 * (n : Int) := by omega
                        have HR : Hid ((V, E) = (0, 22)) := by show _ = _; rw [HFin.out, if_pos hg]
                        clear hg
                        go_wp2
                        go_ret2
                        exact ⟨ret_pair HR.out.symm, HBW.out⟩
                      · have g1 : decide ((1099511627776 : Int) < 100 * (n : Int)) = false := decide_eq_false (by omega)
                        have HR : Hid ((V, E) = (100 * n + 0, 0)) := by show _ = _; rw [HFin.out, if_neg hg]
                        clear hg
                        go_wp2
                        go_ret2
                        exact ⟨by have h := HR.out; rw [Prod.mk.injEq] at h; exact ret_am (by omega) (by omega), HBW.out⟩
            · have hd' : isDig c0 = false := by simpa using hd
              rw [hd'] at HDg
              have HR := hide (H1.out (headok_bad _ (Or.inr ⟨c0, HHd.out, Or.inl hd'⟩)))
              clear hd hd'
              go_wp2_with fail
              refine HDg.out.mono ?_
              rintro e w9 ⟨rfl, h2⟩
              obtain rfl := h2.symm
              clear h2
              go_wp2
              go_ret2
              exact ⟨ret_pair HR.out.symm, HBW.out⟩
          · have w1 : ((s.size : Int) == 0) = true := beq_iff_eq.2 (by omega)
            have HR := hide (H1.out (headok_bad _ (Or.inl (by apply List.eq_nil_of_length_eq_zero; rw [List.length_take]; omega))))
            go_wp2
            go_ret2
            exact ⟨ret_pair HR.out.symm, HBW.out⟩

end Go.Proofs.YtolegbngjhfdlaaDoor
