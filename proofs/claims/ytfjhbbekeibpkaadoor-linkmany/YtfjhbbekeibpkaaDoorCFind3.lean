import Derived.Test.YtfjhbbekeibpkaaDoorCFind2
namespace Go.Proofs.YtfjhbbekeibpkaaDoor.C
open Go.RowKit

theorem bytes_any (w : World) (sp : Option Addr) (len cap most : Nat) (xs : List Nat) (hl : xs.length = len) (hB : Bytes w sp xs) (hcap : len ≤ cap) (hc : cap ≤ 140737488355328) (hm : most < 18446744073709551616) :
    Calls Tryd.prog 76 #[.slice sp len cap, .int .u64 most] w fun e w' => Found w w' xs (pBytes most xs) e := by
  by_cases hbad : (pVar most xs 0 0).fault ≠ 0
  · exact bytes_bad w sp len cap most xs hl hB hcap hc hbad
  have hok : (pVar most xs 0 0).fault = 0 := by omega
  obtain ⟨h0, hsz, hnum, hlen0⟩ := pv_size most xs 0 0 hok
  rcases hB.lie with h' | ⟨g, o, rfl, hg, hcc⟩
  · subst h'; simp at hsz; omega
  have HV : ∀ w', Bytes w' (some ⟨g, o, none⟩) xs → Calls Tryd.prog 75 #[.slice (some ⟨g, o, none⟩) len cap, .int .u64 most] w' fun e w'' => Found w' w'' xs (pVar most xs 0 0) e := fun w' h => var_any w' _ len cap most xs hl h (by omega)
  have P1 := pb_short most xs hok
  have P2 := pb_ok most xs hok
  generalize pVar most xs 0 0 = it at *
  obtain ⟨num, off, ilen, size, fault⟩ := it
  simp only at hok h0 hsz hnum hlen0 P1 P2
  subst hok hlen0
  rw [hl] at P1 P2
  by_cases he : size = cap
  · obtain rfl : len = cap := by omega
    subst he
    by_cases hn : 0 < num
    · refine (bytes_edge_bad w g o size most num off xs hB hc (by omega) hn HV).mono ?_
      rintro e w' ⟨rfl, hb⟩
      rw [P1 (by omega)]
      exact found_no _ _ _ 10 hb
    · obtain rfl : num = 0 := by omega
      refine (bytes_edge_ok w g o size most off xs hB hc HV).mono ?_
      rintro e w' ⟨rfl, hb⟩
      rw [P2 (by omega)]
      exact ⟨some ⟨g, o, none⟩, 0, by simp, by simpa using bytes_none _ _, by simp, by omega, hb⟩
  · refine (bytes_go w g o len cap most num size off xs hB hcap hc (by omega) (by omega) he HV).mono ?_
    rintro e w' ⟨rfl, hb⟩
    by_cases hraw : len - size < num
    · rw [if_pos hraw, P1 hraw]
      exact found_no _ _ _ 10 hb
    · rw [if_neg hraw, P2 hraw]
      exact ⟨some ⟨g, o + size, none⟩, cap - size, by simp, by simpa using ((hB.below hb).drop size).take num, by simp; omega, by omega, hb⟩

set_option maxRecDepth 100000 in
set_option maxHeartbeats 400000 in
theorem width_any (w : World) (k : Int) : Calls Tryd.prog 73 #[.int .i64 k] w fun e w' => e = .returned (.int .i64 (width k : Nat)) ∧ w' = w := by
  by_cases h0 : (k == 0) = true
  · have : width k = 1 := by simp at h0; simp [width, h0]
    rw [this]
    go_enter Tryd.func73, Tryd.ntmps73
    go_wp2
    go_ret
    exact ⟨rfl, rfl⟩
  · simp only [Bool.not_eq_true] at h0
    by_cases h1 : (k == 1) = true
    · have : width k = 4 := by simp at h1; simp [width, h1]
      rw [this]
      go_enter Tryd.func73, Tryd.ntmps73
      go_wp2
      go_ret
      exact ⟨rfl, rfl⟩
    · simp only [Bool.not_eq_true] at h1
      have : width k = 8 := by simp at h0 h1; simp [width, h0, h1]
      rw [this]
      go_enter Tryd.func73, Tryd.ntmps73
      go_wp2
      go_ret
      exact ⟨rfl, rfl⟩
theorem width_le (k : Int) : width k ≤ 8 := by unfold width; split <;> (try split) <;> omega
theorem width_pos (k : Int) : 0 < width k := by unfold width; split <;> (try split) <;> omega

end Go.Proofs.YtfjhbbekeibpkaaDoor.C
