import Derived.Test.YthgggjdefhgfiaaHEnd
namespace Go.Proofs.Ythgggjdefhgfiaa
open Go.RowKit Go.Maps

/-- The region of number n in a code. -/
def findR (n : Nat) : Code → Option Code
  | .region i ops b => if i == n then some (.region i ops b) else none
  | .seq a b => (findR n a).orElse fun _ => findR n b
  | .cond _ a b => (findR n a).orElse fun _ => findR n b
  | .block _ b => findR n b
  | .loop b => findR n b
  | _ => none
theorem wrap_len {n : Nat} (h : n ≤ 8192) : IntKind.i64.wrap ((n : Int) - 1) = (n : Int) - 1 := by rw [IntKind.wrap_i64]; omega

end Go.Proofs.Ythgggjdefhgfiaa
