import Derived.Test.YtgfegkcmoedgkaaRowI
namespace Go.Proofs.Ytgfegkcmoedgkaa
open Go.RowKit
theorem own_nz {w : World} {B m c : Nat} {p : Option Addr} {zs : List Int} (h : w.ownsRow B 2 1 (.slice p (0 + m) c) (0 + m) (ins ([] ++ zs))) : w.ownsRow B 2 1 (.slice p m c) m (ins zs) := by simpa using h
set_option maxRecDepth 20000 in
theorem lend_any (w : World) (sp : Option Addr) (m d : Nat) (zs : List Int) (h : InN w sp m d zs) :
    Calls Try.prog 18 #[.slice sp m d] w fun e w' => ∃ g c', e = .returned (.slice (some ⟨g, 0, none⟩) m c') ∧ OwnI w.heap.size w' g c' (zs ++ [4242, -4242]) ∧ Below w.heap.size w w' := by
  have HN := hide h
  have hm : m ≤ 17592186043904 := Nat.le_trans h.cap h.most
  clear h
  go_enter Try.func18, Try.ntmps18
  go_wp2_with (at_builtin; first
    | (refine app_src rfl (.tmp 4) (.tmp 5) rfl w.heap.size 0 none 0 [] rfl (nil_owns _ _) sp m d zs rfl HN.out.len HN.out.lie (by omega) (Below.refl w.heap.size w) (Nat.le_refl _) ?_; intro p1 c1 w1 hown1 hb1; replace hown1 := hide (own_nz hown1); replace hb1 := hide hb1)
    | (refine app_src rfl (.tmp 7) (.tmp 8) rfl w.heap.size m p1 c1 zs rfl (hown1.out.alloc _) _ 2 2 [4242, -4242] rfl rfl (nums_two _ _ _ _) (by omega) (hb1.out.alloc hb1.out.size _) (hb1.out.alloc hb1.out.size _).size ?_; intro p2 c2 w2 hown2 hb2; obtain ⟨g, hp2, hO⟩ := own_of (by omega) hown2; subst hp2; have hc := owns_cap hown2; clear hown2; replace hO := hide hO; replace hb2 := hide hb2; have hc1 : (m : Int) ≤ (c2 : Int) := by omega))
  go_ret
  exact ⟨g, c2, rfl, hO.out, hb2.out⟩
end Go.Proofs.Ytgfegkcmoedgkaa
