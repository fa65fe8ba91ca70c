import Derived.Test.YtajadmkacnfbgaaGreatNdV
namespace Go.Proofs.YtajadmkacnfbgaaGreat
open Go.RowKit

theorem cel_prefix {w : World} {p : Option Addr} {xs ys : List Lin} (h : Cel w p 2 ((xs ++ ys).map linc)) : Cel w p 2 (xs.map linc) := by
  rcases h with h | ⟨b, o, e, hb, hc⟩
  · left
    rw [List.map_append, List.append_eq_nil_iff] at h
    exact h.1
  · refine Or.inr ⟨b, o, e, hb, fun i r hr => hc i r ?_⟩
    rw [List.map_append, List.getElem?_append_left]
    · exact hr
    · rcases Nat.lt_or_ge i (xs.map linc).length with h' | h'
      · exact h'
      · rw [List.getElem?_eq_none h'] at hr; cases hr

set_option maxRecDepth 100000 in
set_option maxHeartbeats 1000000 in
theorem backLines_any (w : World) (sp : Option Addr) (m cap g c : Nat) (xs : List Lin) (hm : xs.length = m) (hx : Cel w sp 2 (xs.map linc)) (hlen : m ≤ 1073741824) (B : Nat) (hr : w.ownsRow B 48 2 (.slice (some ⟨g, 0, none⟩) (m + 9) c) (m + 9) (lcells (xs ++ lmarks))) :
    Calls Tryz.prog 8 #[.slice (some ⟨g, 0, none⟩) m c, .slice sp m cap] w fun e w' => e = .returned (.bool true) ∧ Below w.heap.size w w' := by
  have hcl := lcel_row hr
  have HEq := hide (eqLines_any w (some ⟨g, 0, none⟩) sp m m c cap xs xs hm hm (by omega) (cel_prefix hcl) hx true (by simp))
  have HCl := hide hcl
  have hcap := (owns_le2 hr).1
  have HM := hide hm
  obtain ⟨M, hMi, hMn⟩ : ∃ M : Nat, (m : Int) + 9 = (M : Int) ∧ M = m + 9 := ⟨m + 9, by omega, rfl⟩
  have hM1 : M ≤ c := by omega
  have hM2 : m ≤ M := by omega
  have HMn := hide hMn
  clear hx hr hcl hm hMn
  go_enter Tryz.func8, Tryz.ntmps8
  go_wp2_with (go_at_call 19; refine HEq.out.mono ?_; rintro e w1 ⟨rfl, hb1⟩; have HB1 := hide hb1; clear hb1)
  go_loopw [6] (fun i wr => ∃ k : Nat, k ≤ 9 ∧ i = .int .i64 ((m + k : Nat) : Int) ∧ Hid (Below w.heap.size w wr)) (fun i _ => m + 9 - (intOf i).toNat)
  case atStart => exact ⟨0, by omega, by simp, HB1⟩
  case round =>
    obtain ⟨k, hk, rfl, HB⟩ := hrel
    by_cases hlt : k < 9
    · have hlt' : ((m + k : Nat) : Int) < (M : Int) := by have := HMn.out; omega
      have i0 : (0 : Int) ≤ ((m + k : Nat) : Int) := by omega
      obtain ⟨b, o, e, hbl, hc⟩ := HCl.out.get (i := m + k) (r := linc lmk) (by
        rw [List.getElem?_map, List.getElem?_append_right (by rw [HM.out]; omega), HM.out, Nat.add_sub_cancel_left]
        unfold lmarks
        rw [List.getElem?_replicate_of_lt hlt]
        rfl)
      cases e
      have a0 : wr.cell? ⟨g, 0 + (m + k) * 2 + 0, none⟩ = some (.int .i64 777) := (HB.out.cell (p := ⟨g, 0 + (m + k) * 2 + 0, none⟩) hbl).trans (hc 0 _ rfl)
      have a1 : wr.cell? ⟨g, 0 + (m + k) * 2 + 1, none⟩ = some (.int .i64 7) := (HB.out.cell (p := ⟨g, 0 + (m + k) * 2 + 1, none⟩) hbl).trans (hc 1 _ rfl)
      rw [Nat.zero_add, Nat.add_zero] at a0
      rw [Nat.zero_add] at a1
      clear hc
      obtain ⟨q, hq⟩ : ∃ q, m + k = q := ⟨_, rfl⟩
      have HQ := hide hq
      have hq2 : q + 1 ≤ 1073741900 := by omega
      rw [hq] at hlt' i0 a0 a1 ⊢
      clear hq
      go_wp2
      go_roundw
      case rel => exact ⟨k + 1, by omega, by have := HQ.out; rw [← this]; go_num, HB⟩
      case measure => have := HQ.out; simp [intOf]; omega
    · have e1 : ¬ ((m + k : Nat) : Int) < (M : Int) := by have := HMn.out; omega
      go_wp2
      go_ret
      exact ⟨rfl, HB.out⟩
end Go.Proofs.YtajadmkacnfbgaaGreat
