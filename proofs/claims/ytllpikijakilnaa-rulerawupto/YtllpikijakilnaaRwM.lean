import Derived.Test.YtllpikijakilnaaRwL
import Derived.Test.YtllpikijakilnaaWkD
namespace Go.Proofs.Ytllpikijakilnaa
open Go.RowKit

set_option maxRecDepth 100000 in
set_option maxHeartbeats 1000000 in
theorem clone_gen (w : World) (p : Option Addr) (n c : Nat) (xs : List Lin) (hn : xs.length = n) (hnl : n ≤ 1099511627776) (hx : Cel w p 2 (xs.map linc)) :
    Calls Try.prog 62 #[.slice p n c] w fun e w' => ∃ v, e = .returned v ∧ w'.ownsRow w.heap.size 109 2 v n (lcells xs) ∧ Below w.heap.size w w' := by
  have q22 : ∀ (w : World) (a : Option Addr) (n c n' c' : Nat), (binOp .eql 36 (.slice a n c) (.slice none n' c')).run Try.prog w = .ok (.bool a.isNone) w := fun w a n c n' c' => Lib.run_eql_slice_nil w _ _ a n c n' c' Try.underlying36
  cases p with
  | none =>
    have hxs : xs = [] := by
      rcases hx with h | ⟨b, o, e, _⟩
      · simpa using h
      · cases e
    subst hxs
    have hn0 : n = 0 := hn.symm
    subst hn0
    clear hn hx
    go_enter Try.func62, Try.ntmps62
    go_wp2
    go_ret
    exact ⟨_, rfl, World.ownsRow_nil _ _ _ _, Below.refl _ _⟩
  | some a =>
    have HE : Hid ((w.alloc (.cells #[] 109)).ownsRow w.heap.size 109 2 (.slice (some ⟨w.heap.size, 0, none⟩) 0 0) 0 []) := ⟨rfl, Or.inr ⟨w.heap.size, 0, #[], rfl, Nat.le_refl _, heap_alloc_new _ _, Nat.le_refl _, by unfold maxLen; omega, rfl, rfl⟩⟩
    have HC := hide (hx.below ((Below.refl _ w).alloc (Nat.le_refl _) (.cells #[] 109)))
    have HN := hide hn
    clear hx hn
    go_enter Try.func62, Try.ntmps62
    go_wp2_with (at_builtin; refine wpList_append_lines rfl (.tmp 5) (.tmp 6) rfl w.heap.size _ 0 0 [] rfl HE.out _ n c xs rfl HN.out HC.out (by omega) (by simp) ?_; intro q c w2 hown2 hgrow2; have HO2 := hide hown2; have HB2 : Hid (Below w.heap.size w w2) := ((Below.refl _ w).alloc (Nat.le_refl _) _).grown hgrow2 (by simp) (fun k e => by cases e; exact Nat.le_refl _); clear hown2 hgrow2)
    go_ret
    have h := HO2.out
    rw [Nat.zero_add, List.nil_append] at h
    first | exact ⟨_, rfl, h, HB2.out⟩ | (rw [Nat.zero_add]; exact ⟨_, rfl, h, HB2.out⟩)
end Go.Proofs.Ytllpikijakilnaa
