import Derived.Test.YtlpafgjgoheomaaNames
import Derived.Shelf.AbstractIn
namespace Go.Proofs.Ytlpafgjgoheomaa
open Go.RowKit Go.Maps Go.Sort Go.Shelf Go.WideMaps
open Go.Proofs (encStr)

/-- Names as values. -/
def strs (l : List Nm) : List Value := l.map fun x => Value.string ⟨x.toArray⟩

theorem before_le {a b : Nm} (h : bytesBefore a b = true) : a ≤ b := by
  induction a generalizing b with
  | nil => exact List.nil_le b
  | cons x a ih =>
    cases b with
    | nil => simp [bytesBefore] at h
    | cons y b =>
      simp only [bytesBefore, Bool.or_eq_true, decide_eq_true_eq, Bool.and_eq_true, beq_iff_eq] at h
      rcases h with h | ⟨rfl, h⟩
      · exact List.le_of_lt (List.Lex.rel h)
      · exact List.cons_le_cons_iff.2 (Or.inr ⟨rfl, ih h⟩)
theorem sorted_names {l : List (Nm × Nat)} (h : Srt l) {ss : List Nm} (hp : ss.Perm (l.map (·.1))) : ss.mergeSort (fun x y => decide (x ≤ y)) = l.map (·.1) := by
  have h1 : ss.mergeSort leB = (l.map (·.1)).mergeSort leB := mergeSort_of_perm hp
  show ss.mergeSort leB = _
  rw [h1]
  apply List.mergeSort_of_pairwise
  exact List.pairwise_map.2 (List.Pairwise.imp (fun {_ _} hb => by simpa [leB] using before_le hb) h)

set_option maxRecDepth 100000 in
set_option maxHeartbeats 1000000 in
theorem sorted_any (w : World) (v : Value) (l : List (Nm × Nat)) (h : Mp w v l) (hs : Srt l) (hl : l.length ≤ 1099511627776) :
    Calls Try.prog 42 #[v] w fun e w' => ∃ a c, e = .returned (.slice a l.length c) ∧ w'.ownsRow w.heap.size 9 1 (.slice a l.length c) l.length (strs (l.map (·.1))) ∧ Below w.heap.size w w' := by
  rcases h with ⟨rfl, rfl⟩ | ⟨b, rfl, ho⟩
  · refine (callsIn_wide (n := 6)).1 ?_
    have hfK : Fence.wide.fn 59 := trivial
    have hfS : Fence.wide.fn 58 := trivial
    refine callsIn_of_wp Try.func42 rfl trivial ?_ rfl
    simp only [Try.ntmps42, List.size_toArray, List.length_cons, List.length_nil, Nat.reduceAdd, Nat.reduceSub, Array.replicate_succ, Array.replicate_zero, List.push_toArray, List.append_toArray, List.nil_append, List.cons_append]
    gi_wp2_with (first
      | (gi_at_call 59; refine (Try.maps_Keys_59 _ _).mono ?_; rintro e w' ⟨rfl, rfl⟩)
      | (gi_at_call 58; refine (Try.slices_Sorted_keys_nil_58_59 w).mono ?_; rintro e w' ⟨v, ss, rfl, hS, hrow, hnil, hb⟩))
    go_ret
    subst hS
    refine ⟨none, 0, by rw [hnil.2 rfl]; rfl, ⟨rfl, Or.inl ⟨rfl, rfl⟩⟩, ((Below.refl _ w).alloc (Nat.le_refl _) _).trans (hb.mono (by simp))⟩
  · have hmax : Maps.size (toD l) ≤ maxLen := by rw [toD_size]; unfold maxLen; omega
    have hbytes : Maps.size (toD l) * 16 ≤ 140737488355328 := by rw [toD_size]; omega
    refine (callsIn_wide (n := 6)).1 ?_
    have hfK : Fence.wide.fn 59 := trivial
    have hfS : Fence.wide.fn 58 := trivial
    refine callsIn_of_wp Try.func42 rfl trivial ?_ rfl
    simp only [Try.ntmps42, List.size_toArray, List.length_cons, List.length_nil, Nat.reduceAdd, Nat.reduceSub, Array.replicate_succ, Array.replicate_zero, List.push_toArray, List.append_toArray, List.nil_append, List.cons_append]
    gi_wp2_with (first
      | (gi_at_call 59; refine (Try.maps_Keys_59 _ _).mono ?_; rintro e w' ⟨rfl, rfl⟩)
      | (gi_at_call 58; refine (Try.slices_Sorted_keys_58_59 b l.length (toD l) fel w ho hmax hbytes).mono ?_; rintro e w' ⟨v, ss, rfl, hS, hrow, hnil, hb⟩))
    go_ret
    rw [toD_keys] at hS
    have hlen : ss.length = l.length := by rw [hS.length_eq]; simp
    rw [sorted_names hs hS, hlen] at hrow
    obtain ⟨a, c, rfl, _, _⟩ := owns_form hrow
    refine ⟨a, c, rfl, ?_, ((Below.refl _ w).alloc (Nat.le_refl _) _).trans (hb.mono (by simp))⟩
    exact ownsRow_base_a hrow (by simp)

set_option maxRecDepth 100000 in
theorem clone_any (w : World) (v : Value) (l : List (Nm × Nat)) (h : Mp w v l) :
    Calls Try.prog 46 #[v] w fun e w' => ∃ o, e = .returned (.map o) ∧ Mp w' (.map o) l ∧ Below w.heap.size w w' ∧ ∀ b, o = some b → w.heap.size ≤ b := by
  rcases h with ⟨rfl, rfl⟩ | ⟨b, rfl, ho⟩
  · exact (AnyW.maps_Clone_nil Try.clone w).mono fun e w' ⟨he, hw⟩ => ⟨none, he, Or.inl ⟨rfl, rfl⟩, by rw [hw]; exact Below.refl _ _, fun b hb => by cases hb⟩
  · exact (AnyW.maps_Clone_owns Try.clone 9 fel b l.length (toD l) w ho).mono fun e w' ⟨he, h1, _, h3⟩ => ⟨_, he, Or.inr ⟨_, rfl, h1⟩, h3, fun b hb => by cases hb; exact Nat.le_refl _⟩

theorem Mp.look {w : World} {v : Value} {l : List (Nm × Nat)} (h : Mp w v l) (x : Nm) (hx : x.length ≤ maxLen) :
    (Instr.lookup 79 v (.string ⟨x.toArray⟩) false).run Try.prog w = .ok (.pointer ((lookN l x).map fun b => ⟨b, 0, none⟩)) w := by
  rcases h with ⟨rfl, rfl⟩ | ⟨b, rfl, ho⟩
  · have := Maps.look_nil (P := Try.prog) (w := w) false kS Try.underlying79 (zF w) (key_of x hx)
    simpa [lookN] using this
  · obtain ⟨v, ps, hr, hR⟩ := ho.lookup kS Try.underlying79 (zF w) (zd := .lit (.int .i64 (-1))) (zp := []) rfl (key_of x hx)
    rw [toD_at] at hR
    rw [hr]
    refine congrArg (fun v => Result.ok v w) ?_
    rcases fel_inv hR with ⟨c, rfl, hc⟩ | ⟨rfl, hc⟩
    · cases hl : lookN l x with
      | none => rw [hl] at hc; simp at hc
      | some d => rw [hl] at hc; simp at hc; rw [← Int.ofNat_inj.1 hc]; rfl
    · cases hl : lookN l x with
      | none => rfl
      | some d => rw [hl] at hc; simp at hc
theorem Mp.len {w : World} {v : Value} {l : List (Nm × Nat)} (h : Mp w v l) (ty : TypeId) : (Builtin.len_ #[79] ty #[v]).run Try.prog w = .ok (.int .i64 l.length) w := by
  rcases h with ⟨rfl, rfl⟩ | ⟨b, rfl, ho⟩
  · exact Maps.len_nil (P := Try.prog) (w := w) Try.underlying79 ty
  · have := ho.len Try.underlying79 ty
    rw [toD_size] at this
    exact this

end Go.Proofs.Ytlpafgjgoheomaa
