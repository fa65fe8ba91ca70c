import Derived.Test.YtajadmkacnfbgaaGreatNdK
import Derived.RangeFuncNested
import Derived.RangeFuncBound
import Derived.RangeFuncCalls
import Derived.RangeFuncLeaves
import Derived.Shelf.Abstract
import Derived.Shelf.RegionOpen
import Derived.OwnWalkIn
import Derived.TacticsInMore
import Derived.LoopNIn
import Derived.LoopIn
namespace Go.Proofs.YtajadmkacnfbgaaGreat
open Go.RowKit Go.Shelf
attribute [local go_sem] Oper.semAt_some

/-- The amount of a change, as sum.Amount tells it. -/
def amtU (n : Int) : Int := if n < 0 then -n else n

set_option maxRecDepth 100000 in
set_option maxHeartbeats 400000 in
theorem amount_any (n : Int) (hw : (Lit.int .i64 n).wf = true) (w : World) :
    Calls Tryz.prog 26 #[.int .i64 n] w fun e w' => e = .returned (.int .u64 (amtU n)) ∧ w' = w := by
  simp [Lit.wf, IntKind.min, IntKind.max, IntKind.signed, IntKind.bits] at hw
  by_cases h : n < 0
  · have HA : Hid (amtU n = -n) := by show amtU n = -n; simp [amtU, h]
    go_enter Tryz.func26, Tryz.ntmps26
    go_wp2
    go_ret
    refine ⟨?_, rfl⟩
    rw [HA.out]
    simp [IntKind.wrap, IntKind.bits, IntKind.signed]
    omega
  · have HA : Hid (amtU n = n) := by show amtU n = n; simp [amtU, h]
    go_enter Tryz.func26, Tryz.ntmps26
    go_wp2
    go_ret
    refine ⟨?_, rfl⟩
    rw [HA.out]
    rfl
theorem amt_conv (n : Int) (hw : (Lit.int .i64 n).wf = true) : IntKind.i64.wrap (amtU n) = amtOf n := by
  simp [Lit.wf, IntKind.min, IntKind.max, IntKind.signed, IntKind.bits] at hw
  unfold amtOf amtU wrap64
  split <;> (simp [IntKind.wrap, IntKind.bits, IntKind.signed]; omega)

/-- Lines that are read: n of them, in a block below n₀. -/
def Lins (n₀ : Nat) (W : World) (p : Option Addr) (xs : List Lin) : Prop :=
  xs = [] ∨ ∃ b o, p = some ⟨b, o, none⟩ ∧ b < n₀ ∧ ∀ (i : Nat) (x : Lin), xs[i]? = some x → W.cell? ⟨b, o + i * 2, none⟩ = some (.int .i64 x.c) ∧ W.cell? ⟨b, o + i * 2 + 1, none⟩ = some (.int .i64 x.n)
theorem Lins.below {n₀ : Nat} {A B : World} {p : Option Addr} {xs : List Lin} (h : Lins n₀ A p xs) (hb : Below n₀ A B) : Lins n₀ B p xs :=
  h.imp id fun ⟨b, o, e, hl, hc⟩ => ⟨b, o, e, hl, fun i x hx => ⟨(hb.cell (p := ⟨b, o + i * 2, none⟩) hl).trans (hc i x hx).1, (hb.cell (p := ⟨b, o + i * 2 + 1, none⟩) hl).trans (hc i x hx).2⟩⟩
def LinWf (x : Lin) : Prop := (Lit.int .i64 x.c).wf = true ∧ (Lit.int .i64 x.n).wf = true
theorem rsOf_get (xs : List Lin) (h : ∀ x ∈ xs, (Lit.int .i64 x.c).wf = true) : ∀ (i : Nat) (x : Lin), xs[i]? = some x → ∃ hx, (rsOf xs h)[i]? = some (rOf x hx) := by
  induction xs with
  | nil => intro i x hx; simp at hx
  | cons y xs ih =>
    intro i x hx
    cases i with
    | zero => simp at hx; subst hx; exact ⟨_, rfl⟩
    | succ i => exact ih (fun z hz => h z (List.mem_cons_of_mem _ hz)) i x (by simpa using hx)
theorem rsOf_len (xs : List Lin) (h : ∀ x ∈ xs, (Lit.int .i64 x.c).wf = true) : (rsOf xs h).length = xs.length := by
  have := congrArg List.length (rsOf_val xs h)
  simpa using this
def encR (r : R64) : Array Value := #[kv (keyT r.1), .int .i64 r.1.n]
end Go.Proofs.YtajadmkacnfbgaaGreat
