import Derived.Test.YtbcpoejpbhpcbaaDoorSeO
import Derived.Test.YtbcpoejpbhpcbaaDoorSeQ
import Derived.Test.YtbcpoejpbhpcbaaDoorSeR
import Derived.Test.YtbcpoejpbhpcbaaDoorSeH
import Derived.Test.YtbcpoejpbhpcbaaDoorSeT
namespace Go.Proofs.YtbcpoejpbhpcbaaDoor
open Go.RowKit

theorem Ps.bel {w wr : World} {pb W M k : Nat} (h : Ps w wr pb W M k) : Below w.heap.size w wr := by
  obtain ⟨K, l0, l1, b0, b1, sv, s0, s1, A, B, ra, rb, S, T, es, hp, hd, hpe⟩ := h
  exact hp.bel
theorem Ps.below {w wr w2 : World} {pb W M k : Nat} (h : Ps w wr pb W M k) (hb : Below wr.heap.size wr w2) : Ps w w2 pb W M k := by
  obtain ⟨K, l0, l1, b0, b1, sv, s0, s1, A, B, ra, rb, S, T, es, hp, hd, hpe⟩ := h
  exact ⟨_, _, _, _, _, _, _, _, _, _, _, _, _, _, _, hp.below hb (9, 9), hd, hpe⟩
/-- One step. -/
theorem step_any (w wr : World) (pb W M k : Nat) (h : Ps w wr pb W M k) (hk : k ≤ 19999) (kind on pick more : Int) (bp : Option Addr) (nb bc : Nat) (body : List Nat) (hnb : body.length = nb) (hby : Bytes w bp body) (hnl : nb ≤ 140737488351232) :
    Calls Tryd.prog 7 #[.pointer (some ⟨pb, 0, none⟩), .agg #[.int .i64 kind, .int .i64 on, .slice bp nb bc, .int .i64 pick, .int .i64 more]] wr fun e w' => e = .returned (.bool true) ∧ Ps w w' pb W M (k + 1) := by
  obtain ⟨K, l0, l1, b0, b1, sv, s0, s1, A, B, ra, rb, S, T, es, hp, hd, hpe⟩ := h
  by_cases k1 : kind = 1
  · subst k1
    rcases and1 on with ho | ho
    · exact step_send0 w wr K pb W M l0 l1 b0 b1 sv s0 s1 A B ra rb S T es k hp hd hpe hk on pick more bp nb bc ho body hnb hby hnl
    · exact step_send1 w wr K pb W M l0 l1 b0 b1 sv s0 s1 A B ra rb S T es k hp hd hpe hk on pick more bp nb bc ho body hnb hby hnl
  by_cases k2 : kind = 2
  · subst k2
    rcases and1 on with ho | ho
    · exact step_tick0 w wr K pb W M l0 l1 b0 b1 sv s0 s1 A B ra rb S T es k hp hd hpe hk on pick more bp nb bc ho
    · exact step_tick1 w wr K pb W M l0 l1 b0 b1 sv s0 s1 A B ra rb S T es k hp hd hpe hk on pick more bp nb bc ho
  by_cases k3 : kind = 3
  · subst k3
    exact step_hear3 w wr K pb W M l0 l1 b0 b1 sv s0 s1 A B ra rb S T es k hp hd hpe hk on pick more bp nb bc
  by_cases k4 : kind = 4
  · subst k4
    exact step_hear4 w wr K pb W M l0 l1 b0 b1 sv s0 s1 A B ra rb S T es k hp hd hpe hk on pick more bp nb bc
  by_cases k5 : kind = 5
  · subst k5
    rcases and1 on with ho | ho
    · exact step_life0 w wr K pb W M l0 l1 b0 b1 sv s0 s1 A B ra rb S T es k hp hd hpe hk on pick more bp nb bc ho
    · exact step_life1 w wr K pb W M l0 l1 b0 b1 sv s0 s1 A B ra rb S T es k hp hd hpe hk on pick more bp nb bc ho
  by_cases k6 : kind = 6
  · subst k6
    rcases and1 on with ho | ho
    · exact step_owe0 w wr K pb W M l0 l1 b0 b1 sv s0 s1 A B ra rb S T es k hp hd hpe hk on pick more bp nb bc ho
    · exact step_owe1 w wr K pb W M l0 l1 b0 b1 sv s0 s1 A B ra rb S T es k hp hd hpe hk on pick more bp nb bc ho
  exact step_other w wr K pb W M l0 l1 b0 b1 sv s0 s1 A B ra rb S T es k hp hd hpe hk kind on pick more bp nb bc k1 k2 k3 k4 k5 k6
end Go.Proofs.YtbcpoejpbhpcbaaDoor
