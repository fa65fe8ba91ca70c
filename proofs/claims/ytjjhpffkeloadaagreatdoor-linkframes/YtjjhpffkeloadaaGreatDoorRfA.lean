import Derived.Test.YtjjhpffkeloadaaGreatDoorLkG
namespace Go.Proofs.YtjjhpffkeloadaaGreatDoor
open Go.RowKit

set_option maxRecDepth 100000 in
set_option maxHeartbeats 2000000 in
theorem rfit_go (w : World) (fr tt : Int) (mine yours seq ack n c : Nat) (sp : Option Addr) (r : Bool) (hr : r = decide ((0 ≤ fr ∧ fr ≤ 8) ∧ (0 ≤ tt ∧ tt ≤ 8) ∧ (1 ≤ mine ∧ mine ≤ 1099511627776) ∧ yours ≤ 1099511627776 ∧ seq ≤ 1099511627776 ∧ ack ≤ 1099511627776 ∧ n ≤ 2048 ∧ (seq = 0 → n = 0))) :
    Calls Tryz.prog 24 #[.agg #[.int .i64 fr, .int .i64 tt, .int .u64 (mine : Int), .int .u64 (yours : Int), .int .u64 (seq : Int), .int .u64 (ack : Int), .slice sp n c]] w fun e w' => e = .returned (.bool r) ∧ Below w.heap.size w w' := by
  by_cases c0 : fr < 0
  · have HR : Hid (r = false) := by show _ = _; rw [hr]; exact decide_eq_false (by omega)
    clear hr
    go_enter Tryz.func24, Tryz.ntmps24
    go_wp2
    go_ret
    exact ⟨by rw [HR.out]; try rfl, by first | exact Below.refl _ _ | exact (Below.refl _ _).alloc (Nat.le_refl _) _⟩
  by_cases c1 : 8 < fr
  · have HR : Hid (r = false) := by show _ = _; rw [hr]; exact decide_eq_false (by omega)
    clear hr
    go_enter Tryz.func24, Tryz.ntmps24
    go_wp2
    go_ret
    exact ⟨by rw [HR.out]; try rfl, by first | exact Below.refl _ _ | exact (Below.refl _ _).alloc (Nat.le_refl _) _⟩
  by_cases c2 : tt < 0
  · have HR : Hid (r = false) := by show _ = _; rw [hr]; exact decide_eq_false (by omega)
    clear hr
    go_enter Tryz.func24, Tryz.ntmps24
    go_wp2
    go_ret
    exact ⟨by rw [HR.out]; try rfl, by first | exact Below.refl _ _ | exact (Below.refl _ _).alloc (Nat.le_refl _) _⟩
  by_cases c3 : 8 < tt
  · have HR : Hid (r = false) := by show _ = _; rw [hr]; exact decide_eq_false (by omega)
    clear hr
    go_enter Tryz.func24, Tryz.ntmps24
    go_wp2
    go_ret
    exact ⟨by rw [HR.out]; try rfl, by first | exact Below.refl _ _ | exact (Below.refl _ _).alloc (Nat.le_refl _) _⟩
  by_cases c4 : (mine : Int) < 1
  · have HR : Hid (r = false) := by show _ = _; rw [hr]; exact decide_eq_false (by omega)
    clear hr
    go_enter Tryz.func24, Tryz.ntmps24
    go_wp2
    go_ret
    exact ⟨by rw [HR.out]; try rfl, by first | exact Below.refl _ _ | exact (Below.refl _ _).alloc (Nat.le_refl _) _⟩
  by_cases c5 : (1099511627776 : Int) < (mine : Int)
  · have HR : Hid (r = false) := by show _ = _; rw [hr]; exact decide_eq_false (by omega)
    clear hr
    go_enter Tryz.func24, Tryz.ntmps24
    go_wp2
    go_ret
    exact ⟨by rw [HR.out]; try rfl, by first | exact Below.refl _ _ | exact (Below.refl _ _).alloc (Nat.le_refl _) _⟩
  by_cases c6 : (1099511627776 : Int) < (yours : Int)
  · have HR : Hid (r = false) := by show _ = _; rw [hr]; exact decide_eq_false (by omega)
    clear hr
    go_enter Tryz.func24, Tryz.ntmps24
    go_wp2
    go_ret
    exact ⟨by rw [HR.out]; try rfl, by first | exact Below.refl _ _ | exact (Below.refl _ _).alloc (Nat.le_refl _) _⟩
  by_cases c7 : (1099511627776 : Int) < (seq : Int)
  · have HR : Hid (r = false) := by show _ = _; rw [hr]; exact decide_eq_false (by omega)
    clear hr
    go_enter Tryz.func24, Tryz.ntmps24
    go_wp2
    go_ret
    exact ⟨by rw [HR.out]; try rfl, by first | exact Below.refl _ _ | exact (Below.refl _ _).alloc (Nat.le_refl _) _⟩
  by_cases c8 : (1099511627776 : Int) < (ack : Int)
  · have HR : Hid (r = false) := by show _ = _; rw [hr]; exact decide_eq_false (by omega)
    clear hr
    go_enter Tryz.func24, Tryz.ntmps24
    go_wp2
    go_ret
    exact ⟨by rw [HR.out]; try rfl, by first | exact Below.refl _ _ | exact (Below.refl _ _).alloc (Nat.le_refl _) _⟩
  have i0 : (0 : Int) ≤ (seq : Int) := by omega
  by_cases d1 : (n : Int) ≤ 2048
  · by_cases d2 : (0 : Int) < (seq : Int)
    · have HR : Hid (r = true) := by show _ = _; rw [hr]; exact decide_eq_true (by omega)
      clear hr
      go_enter Tryz.func24, Tryz.ntmps24
      go_wp2
      go_ret
      exact ⟨by rw [HR.out]; try rfl, by first | exact Below.refl _ _ | exact (Below.refl _ _).alloc (Nat.le_refl _) _⟩
    · by_cases d3 : n = 0
      · have HR : Hid (r = true) := by show _ = _; rw [hr]; exact decide_eq_true (by omega)
        subst d3
        clear hr d1
        go_enter Tryz.func24, Tryz.ntmps24
        go_wp2
        go_ret
        exact ⟨by rw [HR.out]; try rfl, by first | exact Below.refl _ _ | exact (Below.refl _ _).alloc (Nat.le_refl _) _⟩
      · have HR : Hid (r = false) := by show _ = _; rw [hr]; exact decide_eq_false (by omega)
        have hz : ((n : Int) == 0) = false := by simpa using d3
        clear hr d3
        go_enter Tryz.func24, Tryz.ntmps24
        go_wp2
        go_ret
        exact ⟨by rw [HR.out]; try rfl, by first | exact Below.refl _ _ | exact (Below.refl _ _).alloc (Nat.le_refl _) _⟩
  · have HR : Hid (r = false) := by show _ = _; rw [hr]; exact decide_eq_false (by omega)
    clear hr
    go_enter Tryz.func24, Tryz.ntmps24
    go_wp2
    go_ret
    exact ⟨by rw [HR.out]; try rfl, by first | exact Below.refl _ _ | exact (Below.refl _ _).alloc (Nat.le_refl _) _⟩
theorem rfit_any (w : World) (f : Fr) (sp : Option Addr) (c : Nat) : Calls Tryz.prog 24 #[frV f sp c] w fun e w' => e = .returned (.bool (decide f.fit)) ∧ Below w.heap.size w w' :=
  rfit_go w f.fr f.tt f.mine f.yours f.seq f.ack f.body.length c sp (decide f.fit) (decide_eq_decide.2 (by unfold Fr.fit; exact Iff.rfl))
end Go.Proofs.YtjjhpffkeloadaaGreatDoor
