import Derived.Test.YtlpafgjgoheomaaSafe
namespace Go.Proofs.Ytlpafgjgoheomaa
open Go.RowKit Go.Maps

set_option maxRecDepth 100000 in
set_option maxHeartbeats 1000000 in
theorem begins_any (w : World) (sp sq : Option Addr) (n m cb ca : Nat) (a t : List Nat) (hn : (a ++ t).length = n) (hm : a.length = m) (hcb : n ≤ cb) (_hmx : cb ≤ 9223372036854775807) (hb : n ≤ 140737488355328) (h1 : Bytes w sp (a ++ t)) (h2 : Bytes w sq a) :
    Calls Try.prog 28 #[.slice sp n cb, .slice sq m ca] w fun e w' => e = .returned (.bool true) ∧ ∃ q, w' = w.drewN q := by
  have hle : m ≤ n := by rw [← hn, ← hm]; simp
  have hle' : (m : Int) ≤ (n : Int) := by omega
  have hm0 : (0 : Int) ≤ (m : Int) := by omega
  have hmc : (m : Int) ≤ (cb : Int) := by omega
  have hp : Bytes w sp a := by
    have := bytes_take h1 a.length
    rwa [List.take_left'] at this
    rfl
  rcases Option.eq_none_or_eq_some sp with e | ⟨ad, e⟩
  · subst e
    have h0 : a ++ t = [] := by
      rcases h1.lie with h | ⟨_, _, h, _⟩
      · exact h
      · cases h
    have hn0 : n = 0 := by rw [← hn, h0]; rfl
    have hm00 : m = 0 := by omega
    subst hn0 hm00
    have HE := hide (eq_same w none sq 0 cb ca a hm (by omega) hp h2)
    clear hp h1 h2 hn hm h0
    go_enter Try.func28, Try.ntmps28
    go_wp2_with fail
    refine HE.out.mono ?_
    rintro e w1 ⟨rfl, q, rfl⟩
    go_wp2
    go_ret
    exact ⟨rfl, q, rfl⟩
  · subst e
    have HE := hide (eq_same w (some ad) sq m cb ca a hm (by omega) hp h2)
    clear hp h1 h2 hn hm
    go_enter Try.func28, Try.ntmps28
    go_wp2_with fail
    refine HE.out.mono ?_
    rintro e w1 ⟨rfl, q, rfl⟩
    go_wp2
    go_ret
    exact ⟨rfl, q, rfl⟩

end Go.Proofs.Ytlpafgjgoheomaa
