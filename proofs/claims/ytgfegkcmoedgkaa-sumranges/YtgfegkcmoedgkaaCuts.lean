import Derived.Test.YtgfegkcmoedgkaaRng
namespace Go.Proofs.Ytgfegkcmoedgkaa
open Go.RowKit
open Go.Sort (grow)
theorem still {P : Program} {f : FuncId} {args : Array Value} {w : World} {v : Value} (h : Calls P f args w fun e w' => e = .returned v ∧ w' = w) : Calls P f args w fun e w' => e = .returned v ∧ Below w.heap.size w w' :=
  h.mono fun _ _ ⟨h1, h2⟩ => ⟨h1, by rw [h2]; exact Below.refl _ _⟩
theorem cuts_all (a b : Int) (ha : I64 a) (hb : I64 b) (w : World) :
    Calls Try.prog 5 #[.agg #[.int .i64 a, .int .i64 b]] w fun e w' => e = .returned (.bool true) ∧ Below w.heap.size w w' := by
  have hB := hid_al (hid_0 w) (Obj.cells #[Value.int .i64 a, Value.int .i64 b] 23)
  have k0 : (w.alloc (Obj.cells #[Value.int .i64 a, Value.int .i64 b] 23)).cell? ⟨w.heap.size, 0, none⟩ = some (.int .i64 a) := by simp [go_sem]
  have k1 : (w.alloc (Obj.cells #[Value.int .i64 a, Value.int .i64 b] 23)).cell? ⟨w.heap.size, 1, none⟩ = some (.int .i64 b) := by simp [go_sem]
  go_enter Try.func5, Try.ntmps5
  go_wp2
  generalize w.alloc (Obj.cells #[Value.int .i64 a, Value.int .i64 b] 23) = w1 at *
  have q0 := cell_regrown k0
  have q1 := cell_regrown k1
  have H1 : Hid (∀ d os, Calls Try.prog 22 #[.int .i64 a] (grow (redrawn w1 d) os) fun e w'' => e = .returned (.int .u64 (amt a)) ∧ ∃ p : Regrown, w'' = grow (redrawn w1 p.d) p.os) := fun d os => Calls.regrown_of (still (amount_any a ha _))
  have H2 : Hid (∀ d os, Calls Try.prog 23 #[.int .i64 a] (grow (redrawn w1 d) os) fun e w'' => e = .returned (.int .u64 (amt a)) ∧ ∃ p : Regrown, w'' = grow (redrawn w1 p.d) p.os) := fun d os => Calls.regrown_of (still (ramount_any a ha _))
  have H3 : Hid (∀ d os, Calls Try.prog 24 #[.int .i64 a, .int .i64 b] (grow (redrawn w1 d) os) fun e w'' => e = .returned (.int .i64 (cutR a b)) ∧ ∃ p : Regrown, w'' = grow (redrawn w1 p.d) p.os) := fun d os => Calls.regrown_of (still (cut_any a b ha hb _))
  have H4 : Hid (∀ d os, Calls Try.prog 25 #[.int .i64 a, .int .i64 b] (grow (redrawn w1 d) os) fun e w'' => e = .returned (.int .i64 (cutR a b)) ∧ ∃ p : Regrown, w'' = grow (redrawn w1 p.d) p.os) := fun d os => Calls.regrown_of (still (rcut_any a b ha hb _))
  generalize amt a = m at *
  generalize cutR a b = c at *
  have z1 : (m == m) = true := by simp
  have z2 : (c == c) = true := by simp
  refine wp_region_quiet_below (by kernel_rfl) (by kernel_rfl) ?_
  repeat (go_big_quiet_step (first | (go_at_call 22; exact H1.out _ _) | (go_at_call 23; exact H2.out _ _) | (go_at_call 24; exact H3.out _ _) | (go_at_call 25; exact H4.out _ _)))
  refine wpQuiet_nil ?_
  intro _ hw'
  obtain ⟨⟨dq, osq⟩, hw''⟩ := hw'
  subst hw''
  replace hB := hid_up hB (below_regrown w1 dq osq)
  generalize grow (redrawn w1 dq) osq = w2 at *
  go_wp2
  go_ret
  exact ⟨rfl, hB.out.2⟩
end Go.Proofs.Ytgfegkcmoedgkaa
