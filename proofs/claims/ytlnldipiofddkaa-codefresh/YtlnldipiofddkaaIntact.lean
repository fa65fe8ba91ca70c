import Derived.Test.YtlnldipiofddkaaLent
namespace Go.Proofs.Ytlnldipiofddkaa
open Go.RowKit

/-- The bytes as a string. -/
def str (xs : List Nat) : ByteArray := strOfNums (xs.map fun (x : Nat) => (x : Int))

theorem conv_str {w : World} {sp : Option Addr} {xs : List Nat} {m : Nat} (h : Bytes w sp xs) (hm : xs.length = m) (c : Nat) :
    (convert 22 9 (.slice sp m c)).run Try.prog w = .ok (.string (str xs)) w := by
  subst hm
  have hz : ∀ a : Option Addr, (convert 22 9 (.slice a 0 c)).run Try.prog w = .ok (.string (str [])) w := fun a => by
    rw [run_convert_bytes_string w 22 9 5 a 0 c Try.underlying22 Try.underlying5 Try.underlying9]
    cases a with
    | none => simp [Conv.bytesToString]; rfl
    | some a =>
      rw [run_bytesToString w a 0 c [] (by simpa using run_loadCells_list (P := Try.prog) w a [] (by simp))]
      rfl
  rcases h.lie with h0 | ⟨g, o, rfl, hg, hc⟩
  · subst h0; exact hz sp
  · refine run_convert_bytes_arg w 22 5 Try.underlying22 Try.underlying5 g o _ c _ (by simp) (fun i hi => ?_) 9 Try.underlying9
    rw [hc i hi]
    simp [List.getD, hi]

theorem Own.front {B : Nat} {w : World} {g cap : Nat} {xs ys : List Nat} (h : Own B w g cap (xs ++ ys)) : Bytes w (some ⟨g, 0, none⟩) xs := by
  have := h.bytes.take xs.length
  rwa [List.take_left' rfl] at this
theorem Own.behind {B : Nat} {w : World} {g cap : Nat} {xs ys : List Nat} (h : Own B w g cap (xs ++ ys)) (k : Nat) (hk : k < ys.length) : w.cell? ⟨g, xs.length + k, none⟩ = some (.int .u8 (ys.getD k 0 : Nat)) := by
  have := (h.cell (xs.length + k) (by simp; omega)).1
  rw [this]
  simp [List.getD, List.getElem?_append_right]

theorem cell_draws (w : World) (n : Nat) (a : Addr) : (w.drewN n).cell? a = w.cell? a := rfl

set_option maxRecDepth 100000 in
set_option maxHeartbeats 400000 in
theorem intact_any (w : World) (B g c m : Nat) (sp : Option Addr) (cb : Nat) (xs : List Nat) (hm : xs.length = m) (ho : Own B w g c (xs ++ marks)) (hx : Bytes w sp xs) (hlen : m ≤ 140737488351232) :
    Calls Try.prog 19 #[.slice (some ⟨g, 0, none⟩) m c, .slice sp m cb] w fun e w' => e = .returned (.bool true) ∧ ∃ q, w' = w.drewN q := by
  have hv1 := conv_str ho.front hm c
  have hv2 := conv_str hx hm cb
  have hc70 : m + 70 ≤ c := by have := ho.cap; rw [List.length_append, marks_len, hm] at this; exact this
  have HC : Hid (∀ k, k < 70 → w.cell? ⟨g, m + k, none⟩ = some (.int .u8 ((165 - k : Nat) : Int))) := fun k hk => by
    have := ho.behind k (by rw [marks_len]; exact hk)
    rw [marks_at k hk, hm] at this
    exact this
  clear ho hx hm
  generalize str xs = S at *
  have hc1 : (m : Int) + 70 ≤ (c : Int) := by omega
  go_enter Try.func19, Try.ntmps19
  go_wp2
  clear hv1 hv2
  go_loopw [6] (fun i wr => ∃ (k q : Nat), k ≤ 70 ∧ i = .int .i64 k ∧ Hid (wr = w.drewN q)) (fun i _ => 70 - (intOf i).toNat)
  case atStart => exact ⟨0, 0, Nat.zero_le _, rfl, rfl⟩
  case round =>
    obtain ⟨k, q, hk, rfl, HW⟩ := hrel
    by_cases hlt : k < 70
    · have hcx : wr.cell? ⟨g, m + k, none⟩ = some (.int .u8 ((165 - k : Nat) : Int)) := by rw [HW.out]; exact HC.out k hlt
      have HK := hide (fun w => markAt_any w k hlt)
      have hx : 165 - k < 256 := by omega
      generalize 165 - k = x at *
      have l1 : (k : Int) < 70 := by omega
      have hwr : IntKind.i64.wrap ((m : Int) + (k : Int)) = ((m + k : Nat) : Int) := by rw [IntKind.wrap_i64]; omega
      have l3 : m + k < m + 70 := by omega
      generalize m + k = p at *
      have l4 : (p : Int) < (m : Int) + 70 := by omega
      have l5 : (0 : Int) ≤ (p : Int) := by omega
      go_wp2
      go_quiet (first | (go_at_call 52; exact Calls.quiet_of_same (HK.out _)))
      go_wp2
      go_roundw
      case rel => exact ⟨k + 1, q + nq, by omega, by go_num, by show _ = _; rw [HW.out, World.drewN_drewN]⟩
      case measure => simp [intOf]; omega
    · obtain rfl : k = 70 := by omega
      go_wp2
      go_ret
      exact ⟨rfl, q, HW.out⟩

end Go.Proofs.Ytlnldipiofddkaa
