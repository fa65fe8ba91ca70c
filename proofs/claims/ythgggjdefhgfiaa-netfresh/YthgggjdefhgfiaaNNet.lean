import Derived.Test.YthgggjdefhgfiaaKin
import Derived.Lib.ConvBytes
namespace Go.Proofs.Ythgggjdefhgfiaa
open Go.RowKit

/-- A message: to whom, its bytes. -/
structure Ms where
  to : Int
  b : ByteArray
def msc (m : Ms) : List Value := [.int .i64 m.to, .string m.b]
def msv (l : List Ms) : List Value := l.flatMap msc
theorem msv_len : ∀ l : List Ms, (msv l).length = l.length * 2
  | [] => rfl
  | m :: l => by show (msc m ++ msv l).length = _; rw [List.length_append, msv_len l, List.length_cons]; simp [msc]; omega
theorem msv_app (l k : List Ms) : msv (l ++ k) = msv l ++ msv k := by simp [msv]
theorem msv_snoc (l : List Ms) (m : Ms) : msv (l ++ [m]) = msv l ++ msc m := by simp [msv]
theorem msv_drop : ∀ (l : List Ms) (k : Nat), msv (l.drop k) = (msv l).drop (k * 2)
  | l, 0 => by simp
  | [], k + 1 => by simp [msv]
  | m :: l, k + 1 => by
    show msv (l.drop k) = (msc m ++ msv l).drop _
    rw [msv_drop l k, List.drop_append, List.drop_of_length_le (l := msc m) (by show 2 ≤ (k + 1) * 2; omega), List.nil_append]
    congr 1; show k * 2 = (k + 1) * 2 - 2; omega
theorem msv_take : ∀ (l : List Ms) (k : Nat), msv (l.take k) = (msv l).take (k * 2)
  | l, 0 => by simp [msv]
  | [], k + 1 => by simp [msv]
  | m :: l, k + 1 => by
    show msc m ++ msv (l.take k) = (msc m ++ msv l).take _
    rw [msv_take l k, List.take_append, List.take_of_length_le (l := msc m) (by show 2 ≤ (k + 1) * 2; omega)]
    congr 2; show k * 2 = (k + 1) * 2 - 2; omega
theorem msv_at {l : List Ms} {k : Nat} {m : Ms} (h : l[k]? = some m) : (msv l)[k * 2]? = some (.int .i64 m.to) ∧ (msv l)[k * 2 + 1]? = some (.string m.b) := by
  have e : (msv l).drop (k * 2) = msc m ++ msv (l.drop (k + 1)) := by
    rw [← msv_drop, List.drop_eq_getElem?_toList_append, h]
    rfl
  have h0 : ∀ j, (msv l)[k * 2 + j]? = ((msv l).drop (k * 2))[j]? := fun j => by rw [List.getElem?_drop]
  exact ⟨by rw [show k * 2 = k * 2 + 0 from rfl, h0, e]; rfl, by rw [h0, e]; rfl⟩
theorem msv_one (l : List Ms) : ∀ u ∈ msv l, u.oneCell' = true := by
  intro u hu
  simp only [msv, List.mem_flatMap] at hu
  obtain ⟨m, _, hm⟩ := hu
  simp only [msc, List.mem_cons, List.not_mem_nil, or_false] at hm
  rcases hm with e | e <;> (subst e; rfl)

/-- A net. -/
structure Nt where
  room : Nat
  row : List Ms
  lost : Nat
def Nt.has (N : Nt) (i : Int) : Bool := decide (0 ≤ i) && decide (i < (N.row.length : Int))
def Nt.adds (N : Nt) : Bool := decide (N.row.length < N.room)
def Nt.add (N : Nt) (m : Ms) : Nt := if N.row.length < N.room then { N with row := N.row ++ [m] } else N
def Nt.send (N : Nt) (m : Ms) : Nt := if N.row.length < N.room then { N with row := N.row ++ [m] } else { N with lost := N.lost + 1 }
def Nt.drop (N : Nt) (i : Nat) : Nt := { N with row := N.row.take i ++ N.row.drop (i + 1) }

def ncells (N : Nt) (rv : Value) : Array Value := #[.int .i64 (N.room : Int), rv, .int .u64 (N.lost : Int)]
structure Nw (w : World) (K : Knd) (o nb : Nat) (rv : Value) (N : Nt) : Prop where
  blk : w.heap[nb]? = some (.cells (ncells N rv) 83 (0, 0))
  kn : K nb = (o, 1)
  row : Rk w K (o, 2) 101 2 rv N.row.length (msv N.row)
def Nk (w : World) (K : Knd) (o nb : Nat) (N : Nt) : Prop := ∃ rv, Nw w K o nb rv N
theorem Nk.lt {w : World} {K : Knd} {o nb : Nat} {N : Nt} (h : Nk w K o nb N) : nb < w.heap.size := by
  obtain ⟨rv, hm⟩ := h
  exact lt_of_block hm.blk
theorem Nk.kept {p : Nat × Nat → Prop} {K K' : Knd} {w w' : World} {o nb : Nat} {N : Nt} (h : Nk w K o nb N) (hk : Kp p K K' w w') (hp : ∀ k, ¬ p (o, k)) : Nk w' K' o nb N := by
  obtain ⟨rv, hm⟩ := h
  have hl := lt_of_block hm.blk
  exact ⟨rv, (hk.block nb hl (by rw [hm.kn]; exact hp _)).trans hm.blk, (hk.same nb hl).trans hm.kn, hm.row.kept hk (hp _)⟩
theorem blk3 {w : World} {b : Nat} {x0 x1 x2 : Value} {t : TypeId} (h : w.heap[b]? = some (.cells #[x0, x1, x2] t (0, 0))) :
    w.cell? ⟨b, 0, none⟩ = some x0 ∧ w.cell? ⟨b, 1, none⟩ = some x1 ∧ w.cell? ⟨b, 2, none⟩ = some x2 ∧ (∀ o, w.frozen? ⟨b, o, none⟩ = false) :=
  ⟨by simp [World.cell?, h], by simp [World.cell?, h], by simp [World.cell?, h], fun o => by simp [World.frozen?, h]⟩

set_option maxRecDepth 100000 in
set_option maxHeartbeats 400000 in
theorem has_any (w : World) (K : Knd) (o nb : Nat) (N : Nt) (h : Nk w K o nb N) (i : Int) :
    Calls Try.prog 44 #[.pointer (some ⟨nb, 0, none⟩), .int .i64 i] w fun e w' => e = .returned (.bool (N.has i)) ∧ w' = w := by
  obtain ⟨rv, hm⟩ := h
  have hb := hm.blk
  unfold ncells at hb
  obtain ⟨a, c, hrv, _, _⟩ := hm.row.form
  subst hrv
  obtain ⟨q0, q1, q2, qf⟩ := blk3 hb
  clear hm hb
  unfold Nt.has
  generalize N.row.length = L at *
  by_cases h1 : 0 ≤ i
  · by_cases h2 : i < (L : Int)
    · go_enter Try.func44, Try.ntmps44
      go_wp2
      go_ret
      exact ⟨by simp [h1, h2], rfl⟩
    · go_enter Try.func44, Try.ntmps44
      go_wp2
      go_ret
      exact ⟨by simp [h2], rfl⟩
  · go_enter Try.func44, Try.ntmps44
    go_wp2
    go_ret
    exact ⟨by simp; omega, rfl⟩

set_option maxRecDepth 100000 in
theorem nlen_any (w : World) (K : Knd) (o nb : Nat) (N : Nt) (h : Nk w K o nb N) :
    Calls Try.prog 36 #[.pointer (some ⟨nb, 0, none⟩)] w fun e w' => e = .returned (.int .i64 (N.row.length : Int)) ∧ w' = w := by
  obtain ⟨rv, hm⟩ := h
  have hb := hm.blk
  unfold ncells at hb
  obtain ⟨a, c, hrv, _, _⟩ := hm.row.form
  subst hrv
  obtain ⟨q0, q1, q2, qf⟩ := blk3 hb
  clear hm hb
  go_enter Try.func36, Try.ntmps36
  go_wp2
  go_ret
  exact ⟨rfl, rfl⟩

set_option maxRecDepth 100000 in
theorem lost_any (w : World) (K : Knd) (o nb : Nat) (N : Nt) (h : Nk w K o nb N) :
    Calls Try.prog 37 #[.pointer (some ⟨nb, 0, none⟩)] w fun e w' => e = .returned (.int .u64 (N.lost : Int)) ∧ w' = w := by
  obtain ⟨rv, hm⟩ := h
  have hb := hm.blk
  unfold ncells at hb
  obtain ⟨q0, q1, q2, qf⟩ := blk3 hb
  clear hm hb
  go_enter Try.func37, Try.ntmps37
  go_wp2
  go_ret
  exact ⟨rfl, rfl⟩

def newR (z : Int) : Bool := decide (1 ≤ z) && decide (z ≤ 8192)
/-- A new net, or none. -/
def NewPost (K : Knd) (o : Nat) (w : World) (z : Int) (e : Ending) (w' : World) : Prop :=
  Below w.heap.size w w' ∧ ((newR z = true ∧ e = .returned (.tuple #[.pointer (some ⟨w.heap.size, 0, none⟩), .int .i64 0]) ∧ Nk w' (ext K w.heap.size (o, 1)) o w.heap.size ⟨z.toNat, [], 0⟩) ∨ (newR z = false ∧ e = .returned (.tuple #[.pointer none, .int .i64 60]) ∧ w' = w))
set_option maxRecDepth 100000 in
set_option maxHeartbeats 400000 in
theorem New_any (w : World) (K : Knd) (o : Nat) (z : Int) : Calls Try.prog 20 #[.int .i64 z] w (NewPost K o w z) := by
  by_cases h1 : z < 1
  · have h1n : newR z = false := by unfold newR; simp; omega
    have HN := hide h1n
    clear h1n
    go_enter Try.func20, Try.ntmps20
    go_wp2
    go_ret2
    exact ⟨Below.refl _ _, Or.inr ⟨HN.out, rfl, rfl⟩⟩
  · by_cases h2 : 8192 < z
    · have h1n : newR z = false := by unfold newR; simp; omega
      have HN := hide h1n
      clear h1n
      go_enter Try.func20, Try.ntmps20
      go_wp2
      go_ret2
      exact ⟨Below.refl _ _, Or.inr ⟨HN.out, rfl, rfl⟩⟩
    · have h1n : newR z = true := by unfold newR; simp; omega
      have HN := hide h1n
      clear h1n
      go_enter Try.func20, Try.ntmps20
      go_wp2
      go_ret2
      refine ⟨(Below.refl _ _).alloc (Nat.le_refl _) _, Or.inl ⟨HN.out, rfl, _, ?_, ext_new K _ (Nat.le_refl _), rk_nil _ _ _ _ _⟩⟩
      rw [heap_alloc_new]
      unfold ncells
      rw [show ((z.toNat : Nat) : Int) = z by omega]
      rfl

end Go.Proofs.Ythgggjdefhgfiaa
