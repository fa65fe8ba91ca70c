import Derived.Test.YtfjhbbekeibpkaaDoorCEye
namespace Go.Proofs.YtfjhbbekeibpkaaDoor.C
open Go.RowKit

theorem fix_raw (k : Int) (s : Nat) (hk : width k = s) (h3 : k ≠ 3) (h4 : k ≠ 4) (h5 : k ≠ 5) (xs : List Nat) (a f : Nat) :
    (rNext k 0 xs a f).1.num = be (got xs a (rNext 5 s xs a f)) ∧ (rNext k 0 xs a f).2 = (rNext 5 s xs a f).2 ∧ (got xs a (rNext 5 s xs a f)).length ≤ s := by
  by_cases hf : f ≠ 0
  · rw [rn_done _ _ _ _ _ hf, rn_done _ _ _ _ _ hf]
    simp [got, no, be]
  · obtain rfl : f = 0 := by omega
    have hl : (xs.drop a).length = xs.length - a := List.length_drop
    have e1 : pFind k 0 (xs.drop a) = pFixed s (xs.drop a) := by simp [pFind, h3, h4, h5, hk]
    have e2 : pFind 5 s (xs.drop a) = pRaw s (xs.drop a) := by simp [pFind]
    by_cases hs : xs.length - a < s
    · simp [rNext, e1, e2, pFixed, pRaw, hs, no, got, be]
    · simp [rNext, e1, e2, pFixed, pRaw, hs, got]
      omega

set_option maxRecDepth 100000 in
set_option maxHeartbeats 1000000 in
theorem efixed_any (w : World) (b : Nat) (sp : Option Addr) (c : Nat) (xs : List Nat) (a f : Nat) (k : Int) (s : Nat) (hk : width k = s) (h3 : k ≠ 3) (h4 : k ≠ 4) (h5 : k ≠ 5) (hs8 : s ≤ 8) (hr : Ey w b sp c xs a f) :
    Calls Tryd.prog 39 #[.pointer (some ⟨b, 0, none⟩), .int .i64 s] w fun e w' => EyeNum .u64 w w' b sp c xs (rNext k 0 xs a f) e := by
  obtain ⟨f1, f2, f3⟩ := fix_raw k s hk h3 h4 h5 xs a f
  have HF1 := hide f1
  have HF2 := hide f2
  have HC := hide (eraw_nat w b sp c xs a f s (by omega) hr)
  clear hr f1 f2
  unfold EyeNum
  rw [HF2.out]
  generalize got xs a (rNext 5 s xs a f) = ys at *
  generalize rNext 5 s xs a f = x at *
  generalize rNext k 0 xs a f = z at *
  go_enter Tryd.func39, Tryd.ntmps39
  go_wp2_with fail
  refine HC.out.mono ?_
  rintro e w1 ⟨s1, k1, rfl, hby, _, hey, hbut⟩
  have HY := hide hby
  have HE := hide hey
  have HB := hide hbut
  clear hby hey hbut HC
  go_wp2
  go_loop [6, 7] (fun n i => ∃ (j N : Nat), j ≤ ys.length ∧ i = .int .i64 j ∧ n = .int .u64 (N : Int) ∧ Hid (N = be (ys.take j))) (fun _ i => ys.length - (intOf i).toNat)
  case atStart => exact ⟨0, 0, Nat.zero_le _, rfl, rfl, by simp [Hid, be]⟩
  case round =>
    obtain ⟨j, N, hj, rfl, rfl, HN⟩ := hrel
    by_cases hlt : j < ys.length
    · obtain ⟨g, o, rfl, hg, hc⟩ : ∃ g o, s1 = some ⟨g, o, none⟩ ∧ g < w1.heap.size ∧ ∀ j, j < ys.length → w1.cell? ⟨g, o + j, none⟩ = some (.int .u8 (ys.getD j 0)) := by
        rcases HY.out.lie with h | h
        · subst h; simp at hlt
        · exact h
      have hcx := hc j hlt
      have hx : ys.getD j 0 < 256 := getD_small HY.out.small j
      have hN : N < 72057594037927936 := by rw [HN.out]; exact be_take_lt ys HY.out.small j (by omega)
      have HN2 : Hid (N * 256 + ys.getD j 0 = be (ys.take (j + 1))) := by show _ = _; rw [take_snoc ys j hlt, be_snoc, HN.out]
      clear hc
      generalize ys.getD j 0 = y at *
      have l1 : (j : Int) < (ys.length : Int) := by omega
      have l2 : (0 : Int) ≤ (j : Int) := by omega
      have l3 : (N : Int) * 256 + (y : Int) = ((N * 256 + y : Nat) : Int) := by omega
      have hN3 : N * 256 + y < 18446744073709551616 := by omega
      generalize N * 256 + y = M at *
      go_wp2
      go_round
      case rel => exact ⟨j + 1, M, by omega, by go_num, rfl, HN2⟩
      case measure => simp [intOf]; omega
    · have HZ : Hid (N = z.1.num) := by show _ = _; rw [HN.out, HF1.out, List.take_of_length_le (by omega)]
      go_wp2
      go_ret
      exact ⟨by rw [← HZ.out]; rfl, HE.out, HB.out⟩

end Go.Proofs.YtfjhbbekeibpkaaDoor.C
