import Derived.Test.YtbcpoejpbhpcbaaDoorCPure
import Derived.Test.YtbcpoejpbhpcbaaDoorCFind2
import Derived.WalkKit
import Derived.WalkSpells
import Derived.WalkLawsBesides
import Derived.Deep.OwnRows
import Derived.Laws.BitsAllLaws
namespace Go.Proofs.YtbcpoejpbhpcbaaDoor.C
open Go.RowKit

def tab : List Nat := [0, 498536548, 997073096, 651767980, 1994146192, 1802195444, 1303535960, 1342533948, 3988292384, 4027552580, 3604390888, 3412177804, 2607071920, 2262029012, 2685067896, 3183342108]

/-- Four bits fall out. -/
def four (r : Nat) : Nat := (r / 16) ^^^ tab.getD (r % 16) 0
def eat (r c : Nat) : Nat := four (four (r ^^^ c))
def reg (xs : List Nat) : Nat := xs.foldl eat 4294967295
def sumOf (xs : List Nat) : Nat := 4294967295 ^^^ reg xs

theorem reg_snoc (xs : List Nat) (x : Nat) : reg (xs ++ [x]) = eat (reg xs) x := by simp [reg]

theorem tab_lt : ∀ i, i < 16 → tab.getD i 0 < 4294967296 := by decide

theorem xor_lt {a b : Nat} (ha : a < 4294967296) (hb : b < 4294967296) : a ^^^ b < 4294967296 := Nat.xor_lt_two_pow (n := 32) ha hb
theorem four_lt {r : Nat} (h : r < 4294967296) : four r < 4294967296 := xor_lt (by omega) (tab_lt _ (by omega))
theorem eat_lt {r c : Nat} (h : r < 4294967296) (hc : c < 256) : eat r c < 4294967296 := four_lt (four_lt (xor_lt h (by omega)))

/-- The table lies in the first variable. -/
def Tab (w : World) : Prop := ∀ j, j < 16 → w.cell? ⟨0, j, none⟩ = some (.int .u32 (tab.getD j 0 : Nat))

theorem reg_lt (xs : List Nat) (h : ∀ x ∈ xs, x < 256) : reg xs < 4294967296 := by
  unfold reg
  have : ∀ (l : List Nat) (r : Nat), (∀ x ∈ l, x < 256) → r < 4294967296 → l.foldl eat r < 4294967296 := by
    intro l
    induction l with
    | nil => intro r _ hr; exact hr
    | cons a l ih => intro r hl hr; exact ih _ (fun x hx => hl x (List.mem_cons_of_mem _ hx)) (eat_lt hr (hl a (List.mem_cons_self ..)))
  exact this xs _ h (by omega)

/-- What the walk asks of four bits that fall out. -/
theorem four_walk (w : World) (hT : Tab w) (M : Nat) (hM : M < 4294967296) : ∃ J T : Nat, bits .and .u32 (M : Int) 15 = (J : Int) ∧ J < 16 ∧ w.cell? ⟨0, J, none⟩ = some (.int .u32 (T : Int)) ∧ bits .xor .u32 ((M : Int) / 16) (T : Int) = ((four M : Nat) : Int) := by
  refine ⟨M % 16, tab.getD (M % 16) 0, ?_, by omega, hT _ (by omega), ?_⟩
  · have := u32_and_nat M 15 hM (by omega)
    rw [show ((15 : Nat) : Int) = 15 from rfl] at this
    rw [this]
    have := Nat.and_two_pow_sub_one_eq_mod M 4
    simp at this
    rw [this]
  · have e : (M : Int) / 16 = ((M / 16 : Nat) : Int) := by omega
    rw [e, u32_xor_nat _ _ (by omega) (tab_lt _ (by omega))]
    rfl

theorem Tab.pos {w : World} (h : Tab w) : 0 < w.heap.size := cell_block (h 0 (by omega))
theorem Tab.below {w w' : World} {B : Nat} (h : Tab w) (hb : Below B w w') (hB : 0 < B) : Tab w' := fun j hj => by rw [hb.cell (p := ⟨0, j, none⟩) hB]; exact h j hj

set_option maxRecDepth 100000 in
set_option maxHeartbeats 400000 in
theorem sum_there (w : World) (g o len cap : Nat) (xs : List Nat) (hX : ∀ x ∈ xs, x < 256) (hl : xs.length = len) (hc : ∀ j, j < xs.length → w.cell? ⟨g, o + j, none⟩ = some (.int .u8 (xs.getD j 0))) (hlen : len ≤ 140737488355328) (hT : Tab w) :
    Calls Tryd.prog 36 #[.slice (some ⟨g, o, none⟩) len cap] w fun e w' => e = .returned (.int .u32 (sumOf xs : Nat)) ∧ w' = w := by
  have HX : Hid (∀ x ∈ xs, x < 256) := hX
  have HL : Hid (xs.length = len) := hl
  have HC : Hid (∀ j, j < len → w.cell? ⟨g, o + j, none⟩ = some (.int .u8 (xs.getD j 0))) := fun j hj => hc j (by omega)
  have HT : Hid (Tab w) := hT
  clear hX hl hc hT
  go_enter Tryd.func36, Tryd.ntmps36
  go_wp2
  go_loop [3, 8] (fun n i => ∃ (k N : Nat), k ≤ len ∧ i = .int .i64 k ∧ n = .int .u32 (N : Int) ∧ Hid (N = reg (xs.take k)) ∧ N < 4294967296) (fun _ i => len - (intOf i).toNat)
  case atStart => exact ⟨0, 4294967295, Nat.zero_le _, rfl, rfl, rfl, by omega⟩
  case round =>
    obtain ⟨k, N, hk, rfl, rfl, HN, hN⟩ := hrel
    by_cases hlt : k < len
    · have hcx := HC.out k (by omega)
      have hx : xs.getD k 0 < 256 := getD_small HX.out k
      have HR : Hid (eat N (xs.getD k 0) = reg (xs.take (k + 1))) := by
        show _ = _
        rw [take_snoc xs k (by rw [HL.out]; exact hlt), reg_snoc, HN.out]
      generalize xs.getD k 0 = x at *
      have hA := u32_xor_nat N x hN (by omega)
      have hM : N ^^^ x < 4294967296 := xor_lt hN (by omega)
      unfold eat at HR
      generalize N ^^^ x = M at *
      obtain ⟨J, T, j1, j2, j3, j4⟩ := four_walk w HT.out M hM
      have hM2 : four M < 4294967296 := four_lt hM
      generalize four M = M2 at *
      obtain ⟨J2, T2, k1, k2, k3, k4⟩ := four_walk w HT.out M2 hM2
      have hM3 : four M2 < 4294967296 := four_lt hM2
      generalize four M2 = M3 at *
      go_wp2
      go_round
      case rel => exact ⟨k + 1, M3, by omega, by go_num, rfl, HR, hM3⟩
      case measure => simp [intOf]; omega
    · obtain rfl : k = len := by omega
      have HS : Hid (4294967295 ^^^ N = sumOf xs) := by show _ = _; rw [HN.out, List.take_of_length_le (by rw [HL.out]; omega)]; rfl
      go_wp2
      go_ret
      refine ⟨?_, rfl⟩
      have e : bits .xor .u32 IntKind.u32.max (N : Int) = ((4294967295 ^^^ N : Nat) : Int) := u32_xor_nat 4294967295 N (by omega) hN
      rw [HS.out] at e
      simp only [e]
      rfl

set_option maxRecDepth 100000 in
theorem sum_none (w : World) (sp : Option Addr) (cap : Nat) :
    Calls Tryd.prog 36 #[.slice sp 0 cap] w fun e w' => e = .returned (.int .u32 0) ∧ w' = w := by
  go_enter Tryd.func36, Tryd.ntmps36
  go_wp2
  refine wp_loop_rounds 1 ?_
  rw [rounds_succ]
  go_wp2
  go_ret
  exact ⟨rfl, rfl⟩

theorem sum_any (w : World) (sp : Option Addr) (len cap : Nat) (xs : List Nat) (hl : xs.length = len) (hB : Bytes w sp xs) (hlen : len ≤ 140737488355328) (hT : Tab w) :
    Calls Tryd.prog 36 #[.slice sp len cap] w fun e w' => e = .returned (.int .u32 (sumOf xs : Nat)) ∧ w' = w := by
  rcases hB.lie with h' | ⟨g, o, rfl, hg, hc⟩
  · subst h'; simp at hl; subst hl
    exact sum_none w sp cap
  · exact sum_there w g o len cap xs hB.small hl hc hlen hT

end Go.Proofs.YtbcpoejpbhpcbaaDoor.C
