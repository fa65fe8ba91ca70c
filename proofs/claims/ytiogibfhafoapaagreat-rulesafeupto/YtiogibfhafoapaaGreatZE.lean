import Derived.RangeFuncBox
import Derived.RangeFuncWrites
import Derived.Test.YtiogibfhafoapaaGreatZD
set_option maxRecDepth 100000
set_option maxHeartbeats 8000000
set_option linter.unusedSimpArgs false
set_option linter.unusedVariables false
namespace Go.Proofs.YtiogibfhafoapaaGreat.Z
open Go.RowKit Go.Shelf
attribute [local go_sem] Oper.semAt_some
theorem set_grown (w:World) (B i:Nat) (v:Value):w.grownBy (w.setCell ⟨B,i,none⟩ v) (some B) :=
 ⟨rfl,rfl,rfl,by simp[World.setCell],fun k _ hne=>Ve w ⟨B,i,none⟩ k v (fun e=>hne (by rw[e]))⟩
theorem owns_set {w:World} {B n s k i:Nat} {t t':TypeId} {v u:Value} {xs:List Value} {C:Array Value} {fr:Nat × Nat} (h:w.ownsRow B t s v n xs) (hk:w.heap[k]?=some (.cells C t' fr)) (ht:t'≠t):(w.setCell ⟨k,i,none⟩ u).ownsRow B t s v n xs :=
 owns_grown h (set_grown w k i u) (fun g e e'=>owns_ne h hk ht (by rw[←e',e]))
theorem owns_low_set {w:World} {B n s k i:Nat} {t:TypeId} {v u:Value} {xs:List Value} (h:w.ownsRow B t s v n xs) (hk:k<B):(w.setCell ⟨k,i,none⟩ u).ownsRow B t s v n xs :=
 owns_grown h (set_grown w k i u) (fun g e e'=>by have:=owns_base h g e;cases e';omega)
end Go.Proofs.YtiogibfhafoapaaGreat.Z
