import Derived.Test.YtgfegkcmoedgkabWide
namespace Go.Proofs.Ytgfegkcmoedgkab
open Go.RowKit

theorem w64_in (n : Int) (h : -9223372036854775808 ≤ n ∧ n ≤ 9223372036854775807) : wrap64 n = n := by unfold wrap64; omega
theorem wrap_in {x : Int} (h : I64 x) : IntKind.i64.wrap x = x := by
  obtain ⟨h1, h2⟩ := h
  rw [IntKind.wrap_i64]; omega

end Go.Proofs.Ytgfegkcmoedgkab
