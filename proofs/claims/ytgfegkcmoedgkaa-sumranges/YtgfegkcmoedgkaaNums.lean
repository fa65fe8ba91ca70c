import Derived.Test.YtgfegkcmoedgkaaWide
namespace Go.Proofs.Ytgfegkcmoedgkaa
open Go.RowKit

/-- Numbers that lie one behind the other. -/
def Nums (w : World) (p : Option Addr) (zs : List Int) : Prop := zs = [] ∨ ∃ g o, p = some ⟨g, o, none⟩ ∧ g < w.heap.size ∧ ∀ j z, zs[j]? = some z → w.cell? ⟨g, o + j, none⟩ = some (.int .i64 z)
theorem Nums.below {w w' : World} {p : Option Addr} {zs : List Int} (h : Nums w p zs) {n : Nat} (hb : Below n w w') (hn : w.heap.size ≤ n) : Nums w' p zs := by
  rcases h with h | ⟨g, o, e, hg, hc⟩
  · exact Or.inl h
  · exact Or.inr ⟨g, o, e, Nat.lt_of_lt_of_le hg hb.size, fun j s hs => by rw [hb.cell (p := ⟨g, o + j, none⟩) (by simp only; omega)]; exact hc j s hs⟩
theorem Nums.at {w : World} {p : Option Addr} {zs : List Int} (h : Nums w p zs) {k : Nat} (hk : k < zs.length) : ∃ g o, p = some ⟨g, o, none⟩ ∧ w.cell? ⟨g, o + k, none⟩ = some (.int .i64 (zs[k]'hk)) := by
  rcases h with h | ⟨g, o, e, hg, hc⟩
  · subst h; simp at hk
  · exact ⟨g, o, e, hc k _ (List.getElem?_eq_getElem hk)⟩
/-- Numbers that came in. -/
structure InN (w : World) (np : Option Addr) (m d : Nat) (zs : List Int) : Prop where
  len : zs.length = m
  cap : m ≤ d
  most : d ≤ 17592186043904
  lie : Nums w np zs
  each : ∀ z ∈ zs, I64 z
theorem InN.up {w w' : World} {np : Option Addr} {m d : Nat} {zs : List Int} (h : InN w np m d zs) (hb : Below w.heap.size w w') : InN w' np m d zs := ⟨h.len, h.cap, h.most, h.lie.below hb (Nat.le_refl _), h.each⟩

/-- Numbers that can be read. -/
structure Lst (w : World) (np : Option Addr) (m : Nat) (zs : List Int) : Prop where
  len : zs.length = m
  most : m ≤ 17592186044416
  lie : Nums w np zs
  each : ∀ z ∈ zs, I64 z
theorem InN.lst {w : World} {np : Option Addr} {m d : Nat} {zs : List Int} (h : InN w np m d zs) : Lst w np m zs := ⟨h.len, by have := h.cap; have := h.most; omega, h.lie, h.each⟩
theorem Lst.up {w w' : World} {np : Option Addr} {m : Nat} {zs : List Int} (h : Lst w np m zs) (hb : Below w.heap.size w w') : Lst w' np m zs := ⟨h.len, h.most, h.lie.below hb (Nat.le_refl _), h.each⟩
theorem Lst.nil (w : World) : Lst w none 0 [] := ⟨rfl, by omega, Or.inl rfl, by simp⟩
theorem sum_take {zs : List Int} {k : Nat} (hk : k < zs.length) : (zs.take (k + 1)).sum = (zs.take k).sum + zs[k]'hk := by
  rw [List.take_succ_eq_append_getElem hk, List.sum_append]; simp
theorem sum_bound {zs : List Int} (h : ∀ z ∈ zs, I64 z) : -(9223372036854775808 * (zs.length : Int)) ≤ zs.sum ∧ zs.sum ≤ 9223372036854775808 * (zs.length : Int) := by
  induction zs with
  | nil => simp
  | cons z zs ih =>
    have h1 := ih (fun y hy => h y (List.mem_cons_of_mem _ hy))
    obtain ⟨h2, h3⟩ := h z (List.mem_cons_self)
    simp only [List.sum_cons, List.length_cons]
    omega
theorem i128_sum {zs : List Int} (h : ∀ z ∈ zs, I64 z) (hl : zs.length ≤ 140737488355328) : I128 zs.sum := by
  have := sum_bound h
  unfold I128; omega
theorem mem_take {zs : List Int} (h : ∀ z ∈ zs, I64 z) (k : Nat) : ∀ z ∈ zs.take k, I64 z := fun z hz => h z (List.mem_of_mem_take hz)

/-- The place where a sum is kept. -/
structure Acc (w0 w : World) (x : Int) : Prop where
  hi : w.cell? ⟨w0.heap.size, 0, none⟩ = some (.int .u64 (hiw x))
  lo : w.cell? ⟨w0.heap.size, 1, none⟩ = some (.int .u64 (low x))
  f0 : w.frozen? ⟨w0.heap.size, 0, none⟩ = false
  f1 : w.frozen? ⟨w0.heap.size, 1, none⟩ = false
  below : Below w0.heap.size w0 w
theorem Acc.lt {w0 w : World} {x : Int} (h : Acc w0 w x) : w0.heap.size < w.heap.size := block_lt_of_cell h.hi
theorem Acc.up {w0 w w' : World} {x : Int} (h : Acc w0 w x) (hb : Below w.heap.size w w') : Acc w0 w' x :=
  ⟨by rw [hb.cell (p := ⟨w0.heap.size, 0, none⟩) h.lt]; exact h.hi, by rw [hb.cell (p := ⟨w0.heap.size, 1, none⟩) h.lt]; exact h.lo,
    by rw [hb.frozen (p := ⟨w0.heap.size, 0, none⟩) h.lt]; exact h.f0, by rw [hb.frozen (p := ⟨w0.heap.size, 1, none⟩) h.lt]; exact h.f1,
    below_up h.below (Nat.le_of_lt h.lt) hb⟩
theorem Acc.set {w0 w : World} {x : Int} (h : Acc w0 w x) (y : Int) : Acc w0 ((w.setCell ⟨w0.heap.size, 0, none⟩ (.int .u64 (hiw y))).setCell ⟨w0.heap.size, 1, none⟩ (.int .u64 (low y))) y := by
  have h1 := h.hi
  have h2 := h.lo
  have h3 := h.f0
  have h4 := h.f1
  refine ⟨?_, ?_, ?_, ?_, (h.below.setCell (p := ⟨w0.heap.size, 0, none⟩) (Nat.le_refl _) _).setCell (p := ⟨w0.heap.size, 1, none⟩) (Nat.le_refl _) _⟩
  · simp [go_sem, h1]
  · simp [go_sem, h2]
  · simp [go_sem, h3]
  · simp [go_sem, h4]
theorem Acc.new (w : World) (t : TypeId) : Acc w (w.alloc (.cells #[.int .u64 0, .int .u64 0] t)) 0 :=
  ⟨by simp [go_sem]; rfl, by simp [go_sem]; rfl, by simp [go_sem], by simp [go_sem], below_al _ _⟩
end Go.Proofs.Ytgfegkcmoedgkaa
