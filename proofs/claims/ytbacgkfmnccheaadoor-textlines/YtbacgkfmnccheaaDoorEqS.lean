import Derived.Test.YtbacgkfmnccheaaDoorNums
import Derived.Deep.OwnRows
namespace Go.Proofs.YtbacgkfmnccheaaDoor
open Go.RowKit

/-- Texts that lie one behind the other. -/
def Strs (w : World) (p : Option Addr) (ls : List ByteArray) : Prop := ls = [] ∨ ∃ g o, p = some ⟨g, o, none⟩ ∧ g < w.heap.size ∧ ∀ j s, ls[j]? = some s → w.cell? ⟨g, o + j, none⟩ = some (.string s)

theorem Strs.below {w w' : World} {p : Option Addr} {ls : List ByteArray} (h : Strs w p ls) {n : Nat} (hb : Below n w w') (hn : w.heap.size ≤ n) : Strs w' p ls := by
  rcases h with h | ⟨g, o, e, hg, hc⟩
  · exact Or.inl h
  · exact Or.inr ⟨g, o, e, Nat.lt_of_lt_of_le hg hb.size, fun j s hs => by rw [hb.cell (p := ⟨g, o + j, none⟩) (by simp only; omega)]; exact hc j s hs⟩

theorem Strs.of {w : World} {n : Nat} {v : Value} {ls : List ByteArray} (h : w.ownsRow n 9 1 v ls.length (ls.map Value.string)) : ∃ p c, v = .slice p ls.length c ∧ Strs w p ls ∧ ls.length ≤ c := by
  rcases h.2 with ⟨e1, e2⟩ | ⟨g, cap, cur, e1, _, hg, hle, hcap, hcz, hcur⟩
  · exact ⟨none, 0, by rw [e1, e2], Or.inl (List.eq_nil_of_length_eq_zero e2), by omega⟩
  · refine ⟨_, cap, e1, Or.inr ⟨g, 0, rfl, (Array.getElem?_eq_some_iff.1 hg).1, fun j s hs => ?_⟩, hle⟩
    have hj : j < ls.length := (List.getElem?_eq_some_iff.1 hs).1
    unfold World.cell?
    rw [hg]
    have : cur[j]? = some (.string s) := by
      have h1 : (cur.toList.take (ls.length * 1))[j]? = some (.string s) := by rw [hcur, List.getElem?_map, hs]; rfl
      rw [List.getElem?_take_of_lt (by omega)] at h1
      simpa using h1
    simpa using this

theorem str_eq (a b : ByteArray) : (a.toList == b.toList) = true ↔ a = b := by
  rw [beq_iff_eq, ByteArray.toList_eq, ByteArray.toList_eq]
  constructor
  · intro h
    cases a; cases b
    simp only [ByteArray.mk.injEq]
    exact Array.toList_inj.1 h
  · rintro rfl; rfl

set_option maxRecDepth 100000 in
set_option maxHeartbeats 1000000 in
theorem eqs_any (w : World) (p q : Option Addr) (c d : Nat) (la lb : List ByteArray) (ha : Strs w p la) (hb : Strs w q lb) (hl : la.length ≤ 140737488355328) :
    Calls Tryd.prog 8 #[.slice p la.length c, .slice q lb.length d] w fun e w' => (∃ R : Bool, (R = true ↔ la = lb) ∧ e = .returned (.bool R)) ∧ ∃ k, w' = w.drewN k := by
  by_cases hlen : la.length = lb.length
  · have z0 : ((la.length : Int) != (lb.length : Int)) = false := by simp; omega
    have HA := hide ha
    have HB := hide hb
    have HL := hide hlen
    rw [← hlen] at z0 ⊢
    clear ha hb hlen
    go_enter Tryd.func8, Tryd.ntmps8
    go_wp2
    go_loopw [5] (fun i wr => ∃ (k m : Nat), k ≤ la.length ∧ i = .int .i64 (k : Int) ∧ Hid (wr = w.drewN m) ∧ Hid (∀ j, j < k → la[j]? = lb[j]?)) (fun i _ => la.length - (intOf i).toNat)
    case atStart => exact ⟨0, 0, Nat.zero_le _, rfl, rfl, fun j hj => by omega⟩
    case round =>
      obtain ⟨k, m, hk, rfl, HW, HE⟩ := hrel
      by_cases hlt : k < la.length
      · have e1 : la[k]? = some (la[k]'hlt) := List.getElem?_eq_getElem _
        have hlt2 : k < lb.length := by rw [← HL.out]; exact hlt
        have e2 : lb[k]? = some (lb[k]'hlt2) := List.getElem?_eq_getElem _
        obtain ⟨g, o, hp, hc1⟩ : ∃ g o, p = some ⟨g, o, none⟩ ∧ wr.cell? ⟨g, o + k, none⟩ = some (.string (la[k]'hlt)) := by
          rcases HA.out with h | ⟨g, o, e, _, hc⟩
          · rw [h] at hlt; simp at hlt
          · exact ⟨g, o, e, by rw [HW.out]; exact hc k _ e1⟩
        obtain ⟨g2, o2, hq, hc2⟩ : ∃ g o, q = some ⟨g, o, none⟩ ∧ wr.cell? ⟨g, o + k, none⟩ = some (.string (lb[k]'hlt2)) := by
          rcases HB.out with h | ⟨g, o, e, _, hc⟩
          · rw [h] at hlt2; simp at hlt2
          · exact ⟨g, o, e, by rw [HW.out]; exact hc k _ e2⟩
        subst hp hq
        have HE1 := hide e1
        have HE2 := hide e2
        clear e1 e2
        generalize la[k]'hlt = sa at *
        generalize lb[k]'hlt2 = sb at *
        have l1 : (k : Int) < (la.length : Int) := by omega
        have l2 : (0 : Int) ≤ (k : Int) := by omega
        by_cases hs : sa = sb
        · have zs : (sa.toList == sb.toList) = true := (str_eq _ _).2 hs
          have HS := hide hs
          clear hs
          go_wp2
          go_quiet (fail)
          go_wp2
          go_roundw
          case rel => exact ⟨k + 1, m + nq, by omega, by go_num, by show _ = _; rw [HW.out, World.drewN_drewN], fun j hj => by
            by_cases e : j = k
            · subst e; rw [HE1.out, HE2.out, HS.out]
            · exact HE.out j (by omega)⟩
          case measure => simp [intOf]; omega
        · have zs : (sa.toList == sb.toList) = false := by
            rw [Bool.eq_false_iff]; exact fun h => hs ((str_eq _ _).1 h)
          have HN : Hid (la ≠ lb) := fun h => hs (by
            have h1 := HE1.out
            rw [h, HE2.out] at h1
            exact (Option.some.inj h1).symm)
          clear hs
          go_wp2
          go_quiet (fail)
          go_wp2
          go_ret
          exact ⟨⟨false, by simp [HN.out], rfl⟩, m + nq, by rw [HW.out, World.drewN_drewN]⟩
      · have hkl : k = la.length := by omega
        have HN : Hid (la = lb) := by
          show _ = _
          apply List.ext_getElem?
          intro j
          by_cases hj : j < la.length
          · exact HE.out j (by omega)
          · rw [List.getElem?_eq_none (by omega), List.getElem?_eq_none (by have := HL.out; omega)]
        have l1 : decide ((k : Int) < (la.length : Int)) = false := decide_eq_false (by omega)
        clear hkl
        go_wp2
        go_ret
        exact ⟨⟨true, by simp [HN.out], rfl⟩, m, HW.out⟩
  · have z0 : ((la.length : Int) != (lb.length : Int)) = true := by simp; omega
    have HN : Hid (la ≠ lb) := fun h => hlen (by rw [h])
    clear ha hb hlen
    go_enter Tryd.func8, Tryd.ntmps8
    go_wp2
    go_ret
    exact ⟨⟨false, by simp [HN.out], rfl⟩, 0, rfl⟩

end Go.Proofs.YtbacgkfmnccheaaDoor
