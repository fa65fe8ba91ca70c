import Derived.Test.YtgfegkcmoedgkaaRefr
import Derived.Test.YtgfegkcmoedgkaaCuts
namespace Go.Proofs.Ytgfegkcmoedgkaa
open Go.RowKit
open Go.Sort (grow)
set_option maxRecDepth 20000 in
set_option maxHeartbeats 1000000 in
theorem asked_any (lo hi wh a ch y : Int) (hlo : I64 lo) (hhi : I64 hi) (ha : I64 a) (hch : I64 ch) (hl : lo ≤ hi) (g : Nat) (w : World) (hg : Rg w g lo hi) :
    Calls Try.prog 28 #[.pointer (some ⟨g, 0, none⟩), .int .i64 lo, .int .i64 hi, .agg #[.int .i64 wh, .int .i64 a, .int .i64 ch, .int .i64 y]] w fun e w' => e = .returned (.bool true) ∧ Below w.heap.size w w' := by
  have hB := hid_al (hid_0 w) (Obj.cells #[.int .i64 wh, .int .i64 a, .int .i64 ch, .int .i64 y] 52)
  have HR := hide (hg.up (below_al w (Obj.cells #[.int .i64 wh, .int .i64 a, .int .i64 ch, .int .i64 y] 52)))
  have HC : Hid (∀ w', Below (w.alloc (Obj.cells #[.int .i64 wh, .int .i64 a, .int .i64 ch, .int .i64 y] 52)).heap.size (w.alloc (Obj.cells #[.int .i64 wh, .int .i64 a, .int .i64 ch, .int .i64 y] 52)) w' → w'.cell? ⟨w.heap.size, 1, none⟩ = some (.int .i64 a) ∧ w'.cell? ⟨w.heap.size, 2, none⟩ = some (.int .i64 ch) ∧ w'.cell? ⟨w.heap.size, 3, none⟩ = some (.int .i64 y)) := fun w' h => by
    refine ⟨?_, ?_, ?_⟩
    · rw [h.cell (by simp)]; simp [go_sem]
    · rw [h.cell (by simp)]; simp [go_sem]
    · rw [h.cell (by simp)]; simp [go_sem]
  clear hg
  have HM := hide (fun w1 h1 => move_any lo hi a ch ha hch g w1 h1)
  have HMr := hide (fun w1 => rmove_any lo hi a ch ha hch w1)
  generalize movV lo hi a ch = V at *
  generalize movB lo hi a ch = O at *
  go_enter Try.func28, Try.ntmps28
  go_wp2_with fail
  generalize w.alloc (Obj.cells _ 52) = w1 at *
  refine (HM.out _ HR.out).mono ?_
  rintro e w2 ⟨rfl, g2⟩
  replace hB := hid_up hB g2
  replace HR := hide (HR.out.up g2)
  obtain ⟨c1, c2, c3⟩ := HC.out w2 g2
  clear g2
  go_wp2_with (first | (go_at_call 36; refine (HMr.out _).mono ?_; rintro e w3 ⟨rfl, h⟩; obtain rfl := h.symm; clear h))
  have q1 := cell_regrown c1
  have q3 := cell_regrown c3
  have HRq : Hid (∀ d os, Rg (grow (redrawn w2 d) os) g lo hi) := fun d os => HR.out.up (below_regrown w2 d os)
  have H1 : Hid (∀ d os, Calls Try.prog 13 #[.int .i64 V, .bool O, .int .i64 V, .bool O] (grow (redrawn w2 d) os) fun e w'' => e = .returned (.bool true) ∧ ∃ p : Regrown, w'' = grow (redrawn w2 p.d) p.os) := fun d os => Calls.regrown_of (still (same_self _ V O))
  have H2 : Hid (∀ d os, Calls Try.prog 29 #[.pointer (some ⟨g, 0, none⟩), .int .i64 a] (grow (redrawn w2 d) os) fun e w'' => e = .returned (.bool (hasR lo hi a)) ∧ ∃ p : Regrown, w'' = grow (redrawn w2 p.d) p.os) := fun d os => Calls.regrown_of (still (has_any lo hi a g _ (HRq.out d os)))
  have H3 : Hid (∀ d os, Calls Try.prog 37 #[.int .i64 lo, .int .i64 hi, .int .i64 a] (grow (redrawn w2 d) os) fun e w'' => e = .returned (.bool (hasR lo hi a)) ∧ ∃ p : Regrown, w'' = grow (redrawn w2 p.d) p.os) := fun d os => Calls.regrown_of (still (rhas_any lo hi a _))
  have H4 : Hid (∀ d os, Calls Try.prog 38 #[.pointer (some ⟨g, 0, none⟩), .int .i64 a] (grow (redrawn w2 d) os) fun e w'' => e = .returned (.int .i64 (nearR lo hi a)) ∧ ∃ p : Regrown, w'' = grow (redrawn w2 p.d) p.os) := fun d os => Calls.regrown_of (near_any lo hi a g _ (HRq.out d os) hl)
  have H5 : Hid (∀ d os, Calls Try.prog 39 #[.int .i64 lo, .int .i64 hi, .int .i64 a] (grow (redrawn w2 d) os) fun e w'' => e = .returned (.int .i64 (nearR lo hi a)) ∧ ∃ p : Regrown, w'' = grow (redrawn w2 p.d) p.os) := fun d os => Calls.regrown_of (still (rnear_any lo hi a _))
  have H6 : Hid (∀ d os, Calls Try.prog 40 #[.pointer (some ⟨g, 0, none⟩), .int .i64 a, .int .i64 y] (grow (redrawn w2 d) os) fun e w'' => e = .returned (.int .u64 (slackR lo hi a y)) ∧ ∃ p : Regrown, w'' = grow (redrawn w2 p.d) p.os) := fun d os => Calls.regrown_of (still (slack_any lo hi a y ha hlo hhi g _ (HRq.out d os)))
  have H7 : Hid (∀ d os, Calls Try.prog 41 #[.int .i64 lo, .int .i64 hi, .int .i64 a, .int .i64 y] (grow (redrawn w2 d) os) fun e w'' => e = .returned (.int .u64 (slackR lo hi a y)) ∧ ∃ p : Regrown, w'' = grow (redrawn w2 p.d) p.os) := fun d os => Calls.regrown_of (still (rslack_any lo hi a y ha hlo hhi _))
  generalize hasR lo hi a = hs at *
  generalize nearR lo hi a = nr at *
  generalize slackR lo hi a y = sl at *
  have z1 : (hs == hs) = true := by simp
  have z2 : (nr == nr) = true := by simp
  have z3 : (sl == sl) = true := by simp
  clear c1 c2 c3 HC HR HM HMr
  refine wp_region_quiet_below (by kernel_rfl) (by kernel_rfl) ?_
  repeat (go_big_quiet_step (first | (go_at_call 13; exact H1.out _ _) | (go_at_call 29; exact H2.out _ _) | (go_at_call 37; exact H3.out _ _) | (go_at_call 38; exact H4.out _ _) | (go_at_call 39; exact H5.out _ _) | (go_at_call 40; exact H6.out _ _) | (go_at_call 41; exact H7.out _ _)))
  refine wpQuiet_nil ?_
  intro _ hw'
  obtain ⟨⟨dq, osq⟩, hw''⟩ := hw'
  subst hw''
  replace hB := hid_up hB (below_regrown w2 dq osq)
  generalize grow (redrawn w2 dq) osq = w4 at *
  go_wp2
  go_ret
  exact ⟨rfl, hB.out.2⟩
end Go.Proofs.Ytgfegkcmoedgkaa
