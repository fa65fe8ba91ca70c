import Derived.Test.YtfjhbbekeibpkaaDoorMqE
import Derived.Test.YtfjhbbekeibpkaaDoorLqC
import Derived.Test.YtfjhbbekeibpkaaDoorRfD
namespace Go.Proofs.YtfjhbbekeibpkaaDoor
open Go.RowKit

/-! Many links -/
def mnL (j : Nat) : Lk := ⟨0, 1, j + 1, 3, 7 + j, [(1, str [j, 120])], 1, 0, 0, false, 0, 1, some 4, false, false⟩
def mnF (j : Nat) : Fr := ⟨0, 1, j + 1, 7 + j, 1, 0, [j, 120]⟩
def mnH (j : Nat) : Lk := ⟨0, 1, j + 1, 3, 7 + j, [], 0, 0, 0, false, 0, 1, some 4, false, false⟩
theorem mn_hear (j : Nat) : hearW (Lk.new 0 1 (j + 1) 3 4) (7 + j) (j + 1) = mnH j := by
  have h : (Lk.new 0 1 (j + 1) 3 4).known < 7 + j := by show 0 < 7 + j; omega
  unfold hearW hear1
  rw [if_pos h]
  simp [lreset, lanew, Lk.new, mnH]
  omega
theorem mn_send (j : Nat) : sendN (mnH j) (str [j, 120]) = mnL j := by
  simp [sendN, sendL, mnH, mnL, lreset]
theorem mn_small {j : Nat} (h : j < 256) : ∀ x ∈ [j, 120], x < 256 := by
  intro x hx
  simp at hx
  omega
theorem mn_fit {j : Nat} (h : j < 256) : (mnF j).fit := by
  unfold Fr.fit mnF
  simp
  omega
theorem mn_mid {j : Nat} (h : j < 256) : midO (mnL j) = [encB (mnF j)] := by
  have hb : bodO (mnL j) = [encB (mnF j)] := by
    have hi : inWin (mnL j) = [(1, str [j, 120])] := by
      unfold inWin
      rw [if_neg (by show ¬ 7 + j = 0; omega)]
      rfl
    have hf : lfr (mnL j) 1 (str [j, 120]) = mnF j := by
      unfold lfr mnL mnF
      simp only
      rw [nums_str (mn_small h)]
    unfold bodO outs
    rw [hi]
    have hg : goN (tmL (mnL j)) (mnL j).gone (1, str [j, 120]) = true := by
      unfold goN
      show (_ || decide (0 < 1)) = true
      simp
    rw [List.filter_cons_of_pos hg, List.filter_nil, List.map_cons, List.map_nil, hf]
  unfold midO
  rw [hb]
  simp
theorem mn_pok (j : Nat) : (mnL j).Pok := ⟨by simp [mnL], by simp [mnL], fun m h => by simp [mnL] at h; omega⟩
theorem mn_enc {j : Nat} (h : j < 256) : decB (encB (mnF j)) = some (mnF j) := by
  unfold encB
  rw [if_pos (mn_fit h)]
  exact dec_bytes (mn_fit h) (mn_small h)

def ptrs (bs : List Nat) : List Value := bs.map fun b => .pointer (some ⟨b, 0, none⟩)
theorem Tryd.infoPl : (Tryd.prog.info? 24).map (fun i => (i.zero, i.size, i.bytes)) = some (some (.pointer none), 1, 8) := by kernel_rfl
structure Mny (w0 w : World) (lv : Value) (bs : List Nat) (i : Nat) : Prop where
  bel : Below w0.heap.size w0 w
  own : w.ownsRow w0.heap.size 24 1 lv bs.length (ptrs bs)
  lk : ∀ j b, i ≤ j → bs[j]? = some b → ∃ rv, Lw w b (mnL j) rv ∧ w0.heap.size ≤ b
theorem Mny.below {w0 w wd : World} {lv : Value} {bs : List Nat} {i : Nat} (h : Mny w0 w lv bs i) (hb : Below w.heap.size w wd) : Mny w0 wd lv bs i :=
  ⟨h.bel.trans (hb.mono h.bel.size), C.owns_below h.own hb, fun j b hj he => by obtain ⟨rv, h1, h2⟩ := h.lk j b hj he; exact ⟨rv, h1.below hb, h2⟩⟩
theorem own_ne {w : World} {B n s k : Nat} {t t' : TypeId} {v : Value} {xs : List Value} {D : Array Value} {fr : Nat × Nat} (h : w.ownsRow B t s v n xs) (hk : w.heap[k]? = some (.cells D t' fr)) (ht : t' ≠ t) : some k ≠ v.ownBlock := by
  intro e
  rcases h.2 with ⟨h1, _⟩ | ⟨g, cap, cur, h1, _, hg, _⟩
  · rw [h1] at e; simp [Value.ownBlock] at e
  · rw [h1] at e; simp [Value.ownBlock] at e; subst e
    rw [hg] at hk; simp at hk; exact ht hk.2.1.symm
theorem Lw.grown {w w' : World} {b : Nat} {L : Lk} {rv lv : Value} {B n : Nat} {xs : List Value} (h : Lw w b L rv) (ho : w.ownsRow B 24 1 lv n xs) (hg : w.grownBy w' lv.ownBlock) : Lw w' b L rv := by
  refine ⟨h.lb.kept (hg.block b (C.lt_of_block h.lb) (own_ne ho h.lb (by decide))), h.row.same (fun g hgo => hg.block g (h.row.lt g hgo).2 ?_)⟩
  rcases h.row.2 with ⟨h1, _⟩ | ⟨g', o, cap, cur, h1, _, hg', _⟩
  · rw [h1] at hgo; simp [Value.ownBlock] at hgo
  · rw [h1] at hgo; simp [Value.ownBlock] at hgo; subst hgo
    exact own_ne ho hg' (by decide)
/-- One more link. -/
theorem Mny.push {w0 w w' : World} {lv lv' : Value} {bs : List Nat} {b : Nat} {rv : Value} (h : Mny w0 w lv bs 0) (hl : Lw w b (mnL bs.length) rv) (hb : w0.heap.size ≤ b) (hg : w.grownBy w' lv.ownBlock)
    (ho : w'.ownsRow w0.heap.size 24 1 lv' (bs.length + 1) (ptrs bs ++ [.pointer (some ⟨b, 0, none⟩)])) : Mny w0 w' lv' (bs ++ [b]) 0 := by
  refine ⟨h.bel.grown hg h.bel.size (fun k e => ?_), ?_, fun j c _ hj => ?_⟩
  · rcases h.own.2 with ⟨h1, _⟩ | ⟨g, cap, cur, h1, h2, _⟩
    · rw [h1] at e; simp [Value.ownBlock] at e
    · rw [h1] at e; simp [Value.ownBlock] at e; omega
  · rw [List.length_append]
    have e : ptrs (bs ++ [b]) = ptrs bs ++ [.pointer (some ⟨b, 0, none⟩)] := by simp [ptrs]
    rw [e]
    exact ho
  · by_cases hlt : j < bs.length
    · rw [List.getElem?_append_left hlt] at hj
      obtain ⟨rv', h1, h2⟩ := h.lk j c (Nat.zero_le _) hj
      exact ⟨rv', h1.grown h.own hg, h2⟩
    · have hj2 : j = bs.length := by
        have := (List.getElem?_eq_some_iff.1 hj).1
        simp at this
        omega
      subst hj2
      rw [List.getElem?_append_right (Nat.le_refl _)] at hj
      simp at hj
      subst hj
      exact ⟨rv, hl.grown h.own hg, hb⟩
theorem Lw.life_eq {w : World} {b : Nat} {L M : Lk} {rv sv : Value} (h : Lw w b L rv) (k : Lw w b M sv) : L.life = M.life := by
  have h1 : lkC L rv = lkC M sv := by
    have e := h.lb.symm.trans k.lb
    simpa using e
  have h2 := congrArg (fun a : Array Value => a[2]?) h1
  simp [lkC] at h2
  omega
/-- One link ticks. -/
theorem Mny.tick {w0 w w' : World} {lv : Value} {bs : List Nat} {i b : Nat} (h : Mny w0 w lv bs i) (hb : bs[i]? = some b) (hk : C.But b w w') : Mny w0 w' lv bs (i + 1) := by
  obtain ⟨rv, h1, h2⟩ := h.lk i b (Nat.le_refl _) hb
  refine ⟨hk.below h.bel h2 h.bel.size, ?_, fun j c hj hc => ?_⟩
  · refine ⟨h.own.1, h.own.2.imp id ?_⟩
    rintro ⟨g, cap, cur, e1, e2, hg, r⟩
    refine ⟨g, cap, cur, e1, e2, (hk.block g (C.lt_of_block hg) (fun e => ?_)).trans hg, r⟩
    subst e
    have := h1.lb
    unfold Lb at this
    rw [hg] at this
    simp at this
  · obtain ⟨sv, h3, h4⟩ := h.lk j c (by omega) hc
    have hne : c ≠ b := fun e => by
      subst e
      have := h1.life_eq h3
      simp [mnL] at this
      omega
    refine ⟨sv, ⟨h3.lb.kept (hk.block c (C.lt_of_block h3.lb) hne), h3.row.same (fun g hg => hk.block g (h3.row.lt g hg).2 (fun e => ?_))⟩, h4⟩
    exact h3.row.ne h1.lb (by decide) (by rw [hg, e])
end Go.Proofs.YtfjhbbekeibpkaaDoor
