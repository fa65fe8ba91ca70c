import Derived.Test.YtolegbngjhfdlaaDoorRefF
import Derived.BigQuiet
import Derived.Test.YtolegbngjhfdlaaDoorBegun2
import Derived.Lib.QuietBelow
namespace Go.Proofs.YtolegbngjhfdlaaDoor
open Go.RowKit Go.Sort

theorem str_self3 (a : ByteArray) : (a.toList == a.toList) = true := (str_eq a a).2 rfl

set_option maxRecDepth 100000 in
set_option maxHeartbeats 4000000 in
theorem names_all (w : World) (hT : Tabs w) (sp : Option Addr) (l c : Nat) (ls : List ByteArray) (h1 : ls.length = l) (hl : l ≤ 140737488351232) (hS : Strs w sp ls) (hz : ∀ s ∈ ls, s.size ≤ 140737488351232) :
    Calls Tryd.prog 3 #[.slice sp l c] w fun e w' => e = .returned (.bool true) ∧ Below w.heap.size w w' := by
  have HT := hide hT
  have HS := hide hS
  have HZ := hide hz
  have HL := hide h1
  have HBe := hide (begun_any w hT)
  clear hT hS hz h1
  go_enter Tryd.func3, Tryd.ntmps3
  go_wp2_with fail
  refine HBe.out.mono ?_
  rintro e w1 ⟨rfl, b1⟩
  have HB1 := hide b1
  clear b1 HBe
  go_wp2
  go_loopw [3] (fun i wr => ∃ (k : Nat), k ≤ l ∧ i = .int .i64 (k : Int) ∧ Hid (Below w.heap.size w wr)) (fun i _ => l - (intOf i).toNat)
  case atStart => exact ⟨0, Nat.zero_le _, rfl, HB1⟩
  case round =>
    clear HB1
    obtain ⟨k, hk, rfl, HB⟩ := hrel
    by_cases hlt : k < l
    · have hlt' : k < ls.length := by rw [HL.out]; exact hlt
      have e1 : ls[k]? = some (ls[k]'hlt') := List.getElem?_eq_getElem _
      obtain ⟨g, o, hp, hc1⟩ : ∃ g o, sp = some ⟨g, o, none⟩ ∧ wr.cell? ⟨g, o + k, none⟩ = some (.string (ls[k]'hlt')) := by
        rcases HS.out.below HB.out (Nat.le_refl _) with h | ⟨g, o, e, _, hc⟩
        · rw [h] at hlt'; simp at hlt'
        · exact ⟨g, o, e, hc k _ e1⟩
      subst hp
      have hsz := HZ.out _ (List.getElem_mem hlt')
      clear e1
      generalize ls[k]'hlt' = s at *
      have hsz2 : s.size ≤ 140737488355328 := by omega
      have HTq : Hid (∀ d os, Tabs (grow (redrawn wr d) os)) := fun d os => HT.out.below (HB.out.trans ((below_regrown wr d os).mono HB.out.size))
      have HCk : Hid (∀ d os, Calls Tryd.prog 11 #[.string s] (grow (redrawn wr d) os) fun e w'' => e = .returned (.int .i64 (chkR s : Nat)) ∧ ∃ p : Regrown, w'' = grow (redrawn wr p.d) p.os) := fun d os => Calls.regrown_of (check_any _ (HTq.out d os) s hsz2)
      have HRc : Hid (∀ d os, Calls Tryd.prog 12 #[.string s] (grow (redrawn wr d) os) fun e w'' => e = .returned (.int .i64 (chkR s : Nat)) ∧ ∃ p : Regrown, w'' = grow (redrawn wr p.d) p.os) := fun d os => Calls.regrown_of ((rcheck_any _ s hsz2).mono fun e w'' ⟨h1, h2⟩ => ⟨h1, by rw [h2]; exact Below.refl _ _⟩)
      have HNq : Hid (∀ z d os, Calls Tryd.prog 10 #[.int .i64 z] (grow (redrawn wr d) os) fun e w'' => e = .returned (.int .i64 z) ∧ ∃ p : Regrown, w'' = grow (redrawn wr p.d) p.os) := fun z d os => Calls.regrown_of ((num_any _ z).mono fun e w'' ⟨h1, h2⟩ => ⟨h1, by rw [h2]; exact Below.refl _ _⟩)
      have HFq : Hid (∀ d os, Calls Tryd.prog 13 #[.string s] (grow (redrawn wr d) os) fun e w'' => e = .returned (.string (str (foldR (nums s)))) ∧ ∃ p : Regrown, w'' = grow (redrawn wr p.d) p.os) := fun d os => Calls.regrown_of (fold_str _ (HTq.out d os) s hsz2)
      have HRf : Hid (∀ d os, Calls Tryd.prog 14 #[.string s] (grow (redrawn wr d) os) fun e w'' => e = .returned (.string (str (foldR (nums s)))) ∧ ∃ p : Regrown, w'' = grow (redrawn wr p.d) p.os) := fun d os => Calls.regrown_of (rfold_str _ s hsz2)
      have kc := cell_regrown hc1
      have l1 : (k : Int) < (l : Int) := by omega
      have l2 : (0 : Int) ≤ (k : Int) := by omega
      generalize str (foldR (nums s)) = F at *
      generalize chkR s = C at *
      have zcc : ((C : Int) != (C : Int)) = false := by simp
      have zFF := str_self3 F
      go_wp2
      refine wp_region_quiet_below (by kernel_rfl) (by kernel_rfl) ?_
      repeat (go_big_quiet_step (first | (go_at_call 11; exact HCk.out _ _) | (go_at_call 10; exact HNq.out _ _ _) | (go_at_call 12; exact HRc.out _ _) | (go_at_call 13; exact HFq.out _ _) | (go_at_call 14; exact HRf.out _ _)))
      refine wpQuiet_nil ?_
      intro _ hw'
      obtain ⟨⟨dq, osq⟩, hw''⟩ := hw'
      subst hw''
      have HB4 : Hid (Below w.heap.size w (grow (redrawn wr dq) osq)) := HB.out.trans ((below_regrown wr dq osq).mono HB.out.size)
      clear kc hc1
      go_wp2
      go_roundw
      case rel => exact ⟨k + 1, by omega, by go_num, HB4⟩
      case measure => simp [intOf]; omega
    · have HBe := hide (begun_any wr (HT.out.below HB.out))
      have l1 : decide ((k : Int) < (l : Int)) = false := decide_eq_false (by omega)
      go_wp2_with fail
      refine HBe.out.mono ?_
      rintro e w2 ⟨rfl, b2⟩
      have HB2 : Hid (Below w.heap.size w w2) := HB.out.trans (b2.mono HB.out.size)
      clear b2 HBe HB
      go_wp2
      go_ret
      exact ⟨rfl, HB2.out⟩

end Go.Proofs.YtolegbngjhfdlaaDoor
