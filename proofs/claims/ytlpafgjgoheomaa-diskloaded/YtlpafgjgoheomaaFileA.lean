import Derived.Test.YtlpafgjgoheomaaDP
import Derived.Lib.AppendZerosOnto
namespace Go.Proofs.Ytlpafgjgoheomaa
open Go.RowKit

theorem Try.infoU8 : (Try.prog.info? 5).map (fun i => (i.zero, i.size, i.bytes)) = some (some (.int .u8 0), 1, 1) := by kernel_rfl
theorem Try.infoUn : (Try.prog.info? 112).map (fun i => (i.zero, i.size, i.bytes)) = some (some (.int .i32 0), 1, 4) := by kernel_rfl

theorem vals_len (xs : List Nat) : (vals xs).length = xs.length := by simp [vals]
theorem vals_take (xs : List Nat) (n : Nat) : vals (xs.take n) = (vals xs).take n := by simp [vals, List.map_take]
theorem vals_app (xs ys : List Nat) : vals (xs ++ ys) = vals xs ++ vals ys := by simp [vals]
theorem vals_one (xs : List Nat) : ∀ u ∈ vals xs, u.oneCell' = true := fun u hu => by
  simp only [vals, List.mem_map] at hu
  obtain ⟨x, _, rfl⟩ := hu
  rfl
/-- Units as values. -/
def uvals (us : List Int) : List Value := us.map fun u => Value.int .i32 u
theorem uvals_len (us : List Int) : (uvals us).length = us.length := by simp [uvals]

/-- A row that is the call's own, cut shorter. -/
theorem owns_cut {w : World} {B : Nat} {e : TypeId} {a : Option Addr} {n c : Nat} {xs : List Value} (h : w.ownsRow B e 1 (.slice a n c) n xs) (m : Nat) (hm : m ≤ n) : w.ownsRow B e 1 (.slice a m c) m (xs.take m) := by
  have h1 := h.1
  refine ⟨by simp; omega, ?_⟩
  rcases h.2 with ⟨h2, h3⟩ | ⟨g, cap, cur, h2, h3, h4, h5, h6, h7, h8⟩
  · cases h2
    left
    have : m = 0 := by omega
    subst this
    exact ⟨rfl, rfl⟩
  · cases h2
    refine Or.inr ⟨g, c, cur, rfl, h3, h4, by omega, h6, h7, ?_⟩
    rw [← h8, List.take_take]
    congr 1; omega
theorem owns_form {w : World} {B : Nat} {e : TypeId} {v : Value} {s n : Nat} {xs : List Value} (h : w.ownsRow B e s v n xs) : ∃ a c, v = .slice a n c ∧ n ≤ c ∧ c ≤ maxLen := by
  rcases h.2 with ⟨h1, h2⟩ | ⟨g, cap, cur, h1, _, _, h3, h4, _⟩
  · exact ⟨none, 0, by rw [h1, h2], by omega, by unfold maxLen; omega⟩
  · exact ⟨_, cap, h1, h3, h4⟩
/-- Units that are read. -/
structure Us (w : World) (up : Option Addr) (us : List Int) : Prop where
  lie : us = [] ∨ ∃ g, up = some ⟨g, 0, none⟩ ∧ g < w.heap.size ∧ ∀ j, j < us.length → w.cell? ⟨g, j, none⟩ = some (.int .i32 (us.getD j 0))
theorem owns_us {w : World} {a : Option Addr} {n c : Nat} {us : List Int} (h : w.ownsRow 0 112 1 (.slice a n c) n (uvals us)) : Us w a us := by
  rcases h.2 with ⟨h2, h3⟩ | ⟨g, cap, cur, h2, h3, h4, h5, h6, h7, h8⟩
  · refine ⟨Or.inl ?_⟩
    have := h.1
    rw [uvals_len] at this
    exact List.eq_nil_of_length_eq_zero (by omega)
  · cases h2
    refine ⟨Or.inr ⟨g, rfl, lt_of_block h4, fun j hj => ?_⟩⟩
    simp only [World.cell?, h4]
    have hl := h.1
    rw [uvals_len] at hl
    have : (uvals us)[j]? = some (.int .i32 (us.getD j 0)) := by simp [uvals, List.getD, hj]
    rw [← h8, List.getElem?_take, if_pos (by omega)] at this
    simpa using this
theorem owns_us_take {w : World} {a : Option Addr} {n c m : Nat} {us : List Int} (h : w.ownsRow 0 112 1 (.slice a n c) n (uvals us)) (hm : m ≤ n) : Us w a (us.take m) := by
  have := owns_cut h m hm
  rw [show (uvals us).take m = uvals (us.take m) from by simp [uvals, List.map_take]] at this
  exact owns_us this
theorem owns_bytes {w : World} {B : Nat} {a : Option Addr} {n c : Nat} {xs : List Nat} (h : w.ownsRow B 5 1 (.slice a n c) n (vals xs)) (hs : ∀ x ∈ xs, x < 256) : Bytes w a xs := by
  refine ⟨hs, ?_⟩
  rcases h.2 with ⟨h2, h3⟩ | ⟨g, cap, cur, h2, h3, h4, h5, h6, h7, h8⟩
  · left
    have := h.1
    rw [vals_len] at this
    exact List.eq_nil_of_length_eq_zero (by omega)
  · cases h2
    refine Or.inr ⟨g, 0, rfl, lt_of_block h4, fun j hj => ?_⟩
    simp only [World.cell?, h4, Nat.zero_add]
    have hl := h.1
    rw [vals_len] at hl
    have : (vals xs)[j]? = some (.int .u8 (xs.getD j 0)) := by simp [vals, List.getD, hj]
    rw [← h8, List.getElem?_take, if_pos (by omega)] at this
    simpa using this

set_option maxRecDepth 100000 in
theorem length_neg (w : World) (n : Nat) (hn : n < 2147483648) :
    Calls Try.prog 72 #[.int .i32 (-1 - (n : Int))] w fun e w' => e = .returned (.tuple #[.int .i64 n, .bool true]) ∧ w' = w := by
  have h1 : (-1 - (-1 - (n : Int))) = (n : Int) := by omega
  have h2 : (-1 - (n : Int)) < 0 := by omega
  generalize (-1 - (n : Int)) = u at *
  go_enter Try.func72, Try.ntmps72
  go_wp2
  exact bodyPost_ret (v := .tuple #[.int .i64 n, .bool true]) (by simp [results, Try.results72, go_sem]) rfl ⟨rfl, rfl⟩

set_option maxRecDepth 100000 in
theorem length_pos (w : World) (n : Nat) (hn : n < 256) :
    Calls Try.prog 72 #[.int .i32 (n : Int)] w fun e w' => e = .returned (.tuple #[.int .i64 (-1 - (n : Int)), .bool false]) ∧ w' = w := by
  have h1 : ∀ x, -1 - (n : Int) = x → -256 ≤ x ∧ x ≤ -1 := fun x hx => by omega
  obtain ⟨x, hx⟩ : ∃ x, -1 - (n : Int) = x := ⟨_, rfl⟩
  have := h1 x hx
  go_enter Try.func72, Try.ntmps72
  go_wp2
  exact bodyPost_ret (v := .tuple #[.int .i64 (-1 - (n : Int)), .bool false]) (by simp [results, Try.results72, go_sem, hx]) rfl ⟨rfl, rfl⟩

set_option maxRecDepth 100000 in
theorem cutTo_any (w : World) (n : Nat) (hn : n < 2147483648) :
    Calls Try.prog 74 #[.int .i64 (n : Int)] w fun e w' => e = .returned (.int .i32 (-1 - (n : Int))) ∧ w' = w := by
  obtain ⟨x, hx⟩ : ∃ x, -1 - (n : Int) = x := ⟨_, rfl⟩
  have h1 : -2147483648 ≤ x ∧ x ≤ -1 := by omega
  go_enter Try.func74, Try.ntmps74
  go_wp2
  go_ret
  exact ⟨by simp [hx], rfl⟩

end Go.Proofs.Ytlpafgjgoheomaa
