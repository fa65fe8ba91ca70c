import Derived.Test.YtgfegkcmoedgkaaRowI
import Derived.BigCall
namespace Go.Proofs.Ytgfegkcmoedgkaa
open Go.RowKit
theorem get_mark {zs : List Int} {m : Nat} (hm : zs.length = m) (k : Nat) (hk : k < m) : (zs ++ [4242, -4242])[k]? = zs[k]? := List.getElem?_append_left (by omega)
theorem below_dr (w : World) (n : Nat) : Below w.heap.size w (w.drewN n) := ⟨rfl, rfl, rfl, Nat.le_refl _, fun _ _ => rfl⟩
set_option maxRecDepth 20000 in
theorem intact_any (w : World) (B g c : Nat) (sp : Option Addr) (m d : Nat) (zs : List Int) (hO : OwnI B w g c (zs ++ [4242, -4242])) (h : InN w sp m d zs) :
    Calls Try.prog 21 #[.slice (some ⟨g, 0, none⟩) m c, .slice sp m d] w fun e w' => e = .returned (.bool true) ∧ Below w.heap.size w w' := by
  have HN := hide h
  have hm : m ≤ 17592186043904 := Nat.le_trans h.cap h.most
  have hc : m + 2 ≤ c := by have := hO.cap; rw [List.length_append, h.len] at this; exact this
  have hc1 : (m : Int) + 2 ≤ (c : Int) := by omega
  have HO := hide hO
  have z0 : ((m : Int) != (m : Int)) = false := by simp
  clear h hO
  go_enter Try.func21, Try.ntmps21
  go_wp2
  go_loopw [6] (fun i wr => ∃ k : Nat, k ≤ m ∧ i = .int .i64 (k : Int) ∧ Hid (Below w.heap.size w wr)) (fun i _ => m - (intOf i).toNat)
  case atStart => exact ⟨0, by omega, rfl, Below.refl _ _⟩
  case round =>
    obtain ⟨k, hk, rfl, HB⟩ := hrel
    by_cases hlt : k < m
    · have hlt' : k < zs.length := by rw [HN.out.len]; exact hlt
      obtain ⟨g1, o1, hp, c1⟩ := (HN.out.lie.below HB.out (Nat.le_refl _)).at hlt'
      have c2 : wr.cell? ⟨g, k, none⟩ = some (.int .i64 (zs[k]'hlt')) := (HO.out.up HB.out).cell (by rw [get_mark HN.out.len k hlt]; exact List.getElem?_eq_getElem hlt')
      subst hp
      generalize zs[k]'hlt' = z at *
      have z1 : (z != z) = false := by simp
      have l1 : (k : Int) < (m : Int) := by omega
      have l2 : (0 : Int) ≤ (k : Int) := by omega
      have l3 : (k : Int) < (m : Int) + 2 := by omega
      go_wp2
      go_quiet (fail)
      replace HB := hide (HB.out.trans ((below_dr wr nq).mono HB.out.size))
      clear c1 c2
      generalize wr.drewN nq = w2 at *
      go_wp2
      go_roundw
      case rel => exact ⟨k + 1, by omega, by go_num, HB⟩
      case measure => simp [intOf]; omega
    · obtain rfl : k = m := by omega
      have l1 : decide ((k : Int) < (k : Int)) = false := decide_eq_false (by omega)
      have c1 : wr.cell? ⟨g, k, none⟩ = some (.int .i64 4242) := (HO.out.up HB.out).cell (by rw [List.getElem?_append_right (by rw [HN.out.len]; omega), HN.out.len]; simp)
      have c2 : wr.cell? ⟨g, k + 1, none⟩ = some (.int .i64 (-4242)) := (HO.out.up HB.out).cell (by rw [List.getElem?_append_right (by rw [HN.out.len]; omega), HN.out.len]; simp)
      have l2 : (0 : Int) ≤ (k : Int) := by omega
      go_wp2
      go_ret
      exact ⟨rfl, HB.out⟩
end Go.Proofs.Ytgfegkcmoedgkaa
