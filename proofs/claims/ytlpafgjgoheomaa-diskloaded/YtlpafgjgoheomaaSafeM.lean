import Derived.Test.YtlpafgjgoheomaaSafeL
namespace Go.Proofs.Ytlpafgjgoheomaa
open Go.RowKit Go.Maps

theorem Try.infoIn : (Try.prog.info? 3).map (fun i => (i.zero, i.size, i.bytes)) = some (some (.int .i64 0), 1, 8) := by kernel_rfl

/-- j of n numbers are -1, the others 0. -/
def minus (n j : Nat) : List Value := List.replicate j (.int .i64 (-1)) ++ List.replicate (n - j) (.int .i64 0)
theorem minus_len {n j : Nat} (h : j ≤ n) : (minus n j).length = n := by unfold minus; simp; omega
theorem minus_at {n j : Nat} (h : j < n) : (minus n j)[j]? = some (.int .i64 0) := by
  unfold minus
  rw [List.getElem?_append_right (by simp)]
  simp only [List.length_replicate, Nat.sub_self]
  rw [List.getElem?_replicate, if_pos (by omega)]
theorem minus_set {n j : Nat} (h : j < n) : (minus n j).set j (.int .i64 (-1)) = minus n (j + 1) := by
  unfold minus
  rw [List.set_append_right _ _ (by simp)]
  simp only [List.length_replicate, Nat.sub_self]
  rw [show n - j = (n - (j + 1)) + 1 by omega, List.replicate_succ (n := n - (j + 1)), List.set_cons_zero, List.replicate_succ' (n := j), List.append_assoc]
  rfl
theorem made_minus (n : Nat) : madeCells #[Value.int .i64 0] n = (minus n 0).toArray := by
  apply Array.ext'
  rw [toList_madeCells_one]
  simp [minus]
theorem minus_cell {w : World} {g n j : Nat} (h : w.heap[g]? = some (.cells (minus n j).toArray 3 (0, 0))) (hj : j < n) : w.cell? ⟨g, j, none⟩ = some (.int .i64 0) := by
  simp [World.cell?, h, minus_at hj]
theorem minus_thaw {w : World} {g n j : Nat} (h : w.heap[g]? = some (.cells (minus n j).toArray 3 (0, 0))) (k : Nat) : w.frozen? ⟨g, k, none⟩ = false := frozen_of_row w g k _ _ h
theorem minus_next {w : World} {g n j : Nat} (h : w.heap[g]? = some (.cells (minus n j).toArray 3 (0, 0))) (hj : j < n) : (w.setCell ⟨g, j, none⟩ (.int .i64 (-1))).heap[g]? = some (.cells (minus n (j + 1)).toArray 3 (0, 0)) := by
  rw [block_set h, ← minus_set hj]
  congr 2
  apply Array.ext'
  simp
theorem minus_ins {w : World} {g n : Nat} (h : w.heap[g]? = some (.cells (minus n n).toArray 3 (0, 0))) : Ins w (some ⟨g, 0, none⟩) (List.replicate n (-1)) := by
  refine ⟨Or.inr ⟨g, 0, rfl, lt_of_block h, fun j hj => ?_⟩⟩
  simp only [List.length_replicate] at hj
  have e : (minus n n)[j]? = some (.int .i64 (-1)) := by unfold minus; simp [hj]
  simp [World.cell?, h, e, hj]

end Go.Proofs.Ytlpafgjgoheomaa
