import Derived.Test.YtfcakfedlcajaaaTrC
import Derived.Test.YtfcakfedlcajaaaTwP
namespace Go.Proofs.Ytfcakfedlcajaaa
open Go.RowKit
open Fl

theorem find_ceil : Extern.find Try.f39 = some (Extern.MathFloor.toIntegral "math.archCeil" .up) := by kernel_rfl
/-- The ceiling's word. -/
def cw (x : Nat) : Nat := db.nearest (ng x) (clN x) 0
/-- Of what is a number the entry tells the ceiling. -/
theorem up_is (x : Nat) : ∃ f : Bool → Nat → Sem Value, Extern.MathFloor.toIntegral "math.archCeil" .up #[.float .f64 x] = (match FloatKind.f64.decode x with | .nan s t => f s t | d => pure (Value.float .f64 (FloatKind.f64.encode (d.integral .up)))) := ⟨_, rfl⟩
theorem arch_ceil (x : Nat) (h : Fnt x) (w : World) : (callFunc 39 #[.float .f64 x]).run Try.prog w = .ok (.value (.float .f64 (cw x))) w := by
  rw [run_callFunc_extern Try.func39 (by kernel_rfl) (by kernel_rfl) (by kernel_rfl) find_ceil]
  obtain ⟨m, p, e, -⟩ := read_fin3 h
  have e1 : FloatKind.f64.decode x = .number (ng x) m (-1074 + (p : Int)) := e
  have e2 : (Ieee.Datum.number (ng x) m (-1074 + (p : Int))).integral .up = .number (ng x) (clN x) 0 := by rw [← e]; exact up_read h
  obtain ⟨f, hf⟩ := up_is x
  rw [hf, e1]
  show Result.andThen (Sem.run Try.prog (pure (Value.float .f64 (FloatKind.f64.encode ((Ieee.Datum.number (ng x) m (-1074 + (p : Int))).integral .up))) : Sem Value) w) _ = _
  rw [e2]
  rfl

theorem cw_ok {x : Nat} (h : Fnt x) : Fnt (cw x) ∧ ng (cw x) = ng x ∧ V (rg (cw x)) = clN x * U ∧ (9223372036854775808 ≤ clN x ↔ 4890909195324358656 ≤ rg (cw x)) := by
  obtain ⟨r, r1, r2, r3⟩ := up_word h
  unfold cw
  rw [r3, ng_wd _ (by omega), rg_wd _ (by omega)]
  refine ⟨?_, rfl, r2, (up_top r2).symm⟩
  unfold Fnt; rw [rg_wd _ (by omega)]; exact r1

set_option maxRecDepth 100000 in
theorem Ceil_any (w : World) (x : Nat) (h : Fnt x) :
    Calls Try.prog 37 #[.float .f64 x] w fun e w' => e = .returned (.float .f64 (cw x)) ∧ w' = w := by
  have r1 := arch_ceil x h
  go_enter Try.func37, Try.ntmps37
  go_wp2
  go_ret
  exact ⟨rfl, rfl⟩

def lbV (c : Int) : Int := if 9223372036854775808 ≤ c then 9223372036854775807 else if c ≤ -9223372036854775808 then 0 else c - 1
def lbB (c : Int) : Bool := if 9223372036854775808 ≤ c then true else if c ≤ -9223372036854775808 then false else true

theorem cw_int {x : Nat} (h : Fnt x) (h1 : ¬ 9223372036854775808 ≤ cl x) (h2 : ¬ cl x ≤ -9223372036854775808) : floatToIntVal .f64 (cw x) .i64 = some (cl x) := by
  obtain ⟨f, n1, v1, -⟩ := cw_ok h
  have e : (FloatKind.f64.decode (cw x)).toInt .zero = some (cl x) := by
    have := zero_read f
    rw [n1, v1, Nat.mul_div_cancel _ U_pos] at this
    exact this
  unfold floatToIntVal
  rw [e]
  have b1 : IntKind.min .i64 ≤ cl x := by show -9223372036854775808 ≤ cl x; omega
  have b2 : cl x ≤ IntKind.max .i64 := by show cl x ≤ 9223372036854775807; omega
  simp only [b1, b2, and_self, if_true]

theorem nnT : Nn 4890909195324358656 := by unfold Nn rg; omega
theorem nnB : Nn 14114281232179134464 := by unfold Nn rg; omega
theorem keyT : key 4890909195324358656 = 4890909195324358656 := by rfl
theorem keyB : key 14114281232179134464 = -4890909195324358656 := by rfl

theorem cw_ge {x : Nat} (h : Fnt x) : (FloatKind.f64.format.order (cw x) 4890909195324358656 == some .gt || FloatKind.f64.format.order (cw x) 4890909195324358656 == some .eq) = decide (9223372036854775808 ≤ cl x) := by
  obtain ⟨f, n1, v1, t1⟩ := cw_ok h
  rw [ge_iff f.nn nnT, keyT]
  have e : key (cw x) = sg (ng x) (rg (cw x)) := by unfold key; rw [n1]; rfl
  rw [e]
  unfold cl
  apply decide_eq_decide.2
  cases ng x
  · show (4890909195324358656 : Int) ≤ ((rg (cw x) : Nat) : Int) ↔ (9223372036854775808 : Int) ≤ ((clN x : Nat) : Int)
    omega
  · show (4890909195324358656 : Int) ≤ -((rg (cw x) : Nat) : Int) ↔ (9223372036854775808 : Int) ≤ -((clN x : Nat) : Int)
    omega
theorem cw_le {x : Nat} (h : Fnt x) : (FloatKind.f64.format.order (cw x) 14114281232179134464 == some .lt || FloatKind.f64.format.order (cw x) 14114281232179134464 == some .eq) = decide (cl x ≤ -9223372036854775808) := by
  obtain ⟨f, n1, v1, t1⟩ := cw_ok h
  rw [le_iff f.nn nnB, keyB]
  have e : key (cw x) = sg (ng x) (rg (cw x)) := by unfold key; rw [n1]; rfl
  rw [e]
  unfold cl
  apply decide_eq_decide.2
  cases ng x
  · show ((rg (cw x) : Nat) : Int) ≤ (-4890909195324358656 : Int) ↔ ((clN x : Nat) : Int) ≤ (-9223372036854775808 : Int)
    omega
  · show -((rg (cw x) : Nat) : Int) ≤ (-4890909195324358656 : Int) ↔ -((clN x : Nat) : Int) ≤ (-9223372036854775808 : Int)
    omega

set_option maxRecDepth 100000 in
theorem lastBelow_any (w : World) (x : Nat) (h : Fnt x) :
    Calls Try.prog 26 #[.float .f64 x] w fun e w' => e = .returned (.tuple #[.int .i64 (lbV (cl x)), .bool (lbB (cl x))]) ∧ w' = w := by
  have HC := hide (fun w => Ceil_any w x h)
  have q1 := cw_ge h
  have q2 := cw_le h
  have q3 := cw_int h
  unfold lbV lbB
  generalize cl x = c at *
  by_cases h1 : 9223372036854775808 ≤ c
  · rw [decide_eq_true h1] at q1
    simp only [if_pos h1]
    clear q2 q3 h1
    go_enter Try.func26, Try.ntmps26
    go_wp2_with (first | (go_at_call 37; refine (HC.out _).mono ?_; rintro e w2 ⟨rfl, e⟩; obtain rfl := e.symm; clear e))
    go_ret2
    exact ⟨rfl, rfl⟩
  · rw [decide_eq_false h1] at q1
    simp only [if_neg h1]
    by_cases h2 : c ≤ -9223372036854775808
    · rw [decide_eq_true h2] at q2
      simp only [if_pos h2]
      clear q3 h1 h2
      go_enter Try.func26, Try.ntmps26
      go_wp2_with (first | (go_at_call 37; refine (HC.out _).mono ?_; rintro e w2 ⟨rfl, e⟩; obtain rfl := e.symm; clear e))
      go_ret2
      exact ⟨rfl, rfl⟩
    · rw [decide_eq_false h2] at q2
      simp only [if_neg h2]
      have q4 := q3 h1 h2
      have r1 : ∀ w, (convert 48 2 (.float .f64 (cw x))).run Try.prog w = .ok (.int .i64 c) w := fun w => run_convert_float_int w _ _ .f64 .i64 _ _ (by kernel_rfl) Try.underlying2 q4
      have b1 : c ≤ 9223372036854775807 := by omega
      have b2 : -9223372036854775807 ≤ c := by omega
      clear q3 q4 h1 h2
      go_enter Try.func26, Try.ntmps26
      go_wp2_with (first | (go_at_call 37; refine (HC.out _).mono ?_; rintro e w2 ⟨rfl, e⟩; obtain rfl := e.symm; clear e))
      go_ret2
      exact ⟨rfl, rfl⟩

/-- The advice: how many more reach c. -/
def adv (c h : Int) : Int := if c ≤ h then 0 else min (c - h) 1099511627776

set_option maxRecDepth 100000 in
theorem Advice_none (w : World) (b : Nat) (T : Td) (h : Int) (hk : Tk w b T) (hn : T.n = 0) :
    Calls Try.prog 9 #[.pointer (some ⟨b, 0, none⟩), .int .i64 h] w fun e w' => e = .returned (.int .i64 0) ∧ w' = w := by
  have c2 := hk.c2
  rw [hn] at c2
  clear hk hn
  go_enter Try.func9, Try.ntmps9
  go_wp2
  go_ret
  exact ⟨rfl, rfl⟩

theorem gap_u {d h : Int} (h1 : h ≤ d) (h2 : d - h ≤ 18446744073709551615) : IntKind.u64.wrap (IntKind.u64.wrap d - IntKind.u64.wrap h) = d - h := by
  rw [IntKind.wrap_u64, IntKind.wrap_u64, IntKind.wrap_u64]; omega

set_option maxRecDepth 100000 in
theorem Advice_any (w : World) (b : Nat) (T : Td) (h : Int) (hk : Tk w b T) (hn : T.n ≠ 0) (hf : Fnt T.av) (c1 : -9223372036854775808 ≤ cl T.av) (c2 : cl T.av ≤ 9223372036854775808) (h1 : -9223372036854775808 ≤ h) (h2 : h ≤ 9223372036854775807) :
    Calls Try.prog 9 #[.pointer (some ⟨b, 0, none⟩), .int .i64 h] w fun e w' => e = .returned (.int .i64 (adv (cl T.av) h)) ∧ w' = w := by
  have k1 := hk.c1
  have k2 := hk.c2
  have n0 : ((T.n : Int) == 0) = false := by simp; omega
  have HB := hide (fun w => lastBelow_any w T.av hf)
  generalize cl T.av = c at *
  generalize T.n = N at *
  clear hk hn
  unfold adv
  by_cases hc : c ≤ -9223372036854775808
  · have e1 : lbB c = false := by unfold lbB; rw [if_neg (by omega), if_pos hc]
    have e3 : Hid ((if c ≤ h then 0 else min (c - h) 1099511627776) = 0) := hide (by rw [if_pos (by omega)])
    rw [e3.out]
    rw [e1] at HB
    clear e1 hc c1 c2
    go_enter Try.func9, Try.ntmps9
    go_wp2_with (first | (go_at_call 26; refine (HB.out _).mono ?_; rintro e w2 ⟨rfl, e⟩; obtain rfl := e.symm; clear e))
    go_ret
    exact ⟨rfl, rfl⟩
  · have e1 : lbB c = true := by unfold lbB; rw [if_neg hc]; split <;> rfl
    have e2 : lbV c = c - 1 := by unfold lbV; rw [if_neg hc]; split <;> omega
    rw [e1, e2] at HB
    generalize hd : c - 1 = d at *
    have d1 : -9223372036854775808 ≤ d := by omega
    have d2 : d ≤ 9223372036854775807 := by omega
    by_cases hh : d < h
    · have e3 : Hid ((if c ≤ h then 0 else min (c - h) 1099511627776) = 0) := hide (by rw [if_pos (by omega)])
      rw [e3.out]
      clear e1 e2 hc c1 c2 hd
      go_enter Try.func9, Try.ntmps9
      go_wp2_with (first | (go_at_call 26; refine (HB.out _).mono ?_; rintro e w2 ⟨rfl, e⟩; obtain rfl := e.symm; clear e))
      go_ret
      exact ⟨rfl, rfl⟩
    · have e3 : Hid ((if c ≤ h then 0 else min (c - h) 1099511627776) = min (d - h + 1) 1099511627776) := hide (by rw [if_neg (by omega)]; congr 1; omega)
      rw [e3.out]
      have hg := hide (gap_u (show h ≤ d by omega) (by omega))
      clear e1 e2 hc c1 c2 hd
      go_enter Try.func9, Try.ntmps9
      go_wp2_with (first | (go_at_call 26; refine (HB.out _).mono ?_; rintro e w2 ⟨rfl, e⟩; obtain rfl := e.symm; clear e))
      · rename_i q
        rw [hg.out] at q
        go_ret
        exact ⟨by rw [show min (d - h + 1) 1099511627776 = 1099511627776 by omega]; rfl, rfl⟩
      · rename_i q
        rw [hg.out] at q
        rw [hg.out]
        rw [IntWalk.wrap64_in (d - h) (by omega), IntWalk.wrap64_in (d - h + 1) (by omega)]
        go_ret
        exact ⟨by rw [show min (d - h + 1) 1099511627776 = d - h + 1 by omega]; rfl, rfl⟩
end Go.Proofs.Ytfcakfedlcajaaa
