import Derived.Test.YtbcpoejpbhpcbaaDoorSeO
import Derived.Test.YtbcpoejpbhpcbaaDoorSeQ
import Derived.Test.YtbcpoejpbhpcbaaDoorSeR
import Derived.Test.YtbcpoejpbhpcbaaDoorSeH
import Derived.Test.YtbcpoejpbhpcbaaDoorSeT
namespace Go.Proofs.YtbcpoejpbhpcbaaDoor
open Go.RowKit

theorem Ps.bel {w wr : World} {pb W M k : Nat} (h : Ps w wr pb W M k) : Below w.heap.size w wr := by
  obtain ⟨K, l0, l1, b0, b1, sv, s0, s1, A, B, ra, rb, S, T, es, hp, hd⟩ := h
  exact hp.bel
theorem Ps.below {w wr w2 : World} {pb W M k : Nat} (h : Ps w wr pb W M k) (hb : Below wr.heap.size wr w2) : Ps w w2 pb W M k := by
  obtain ⟨K, l0, l1, b0, b1, sv, s0, s1, A, B, ra, rb, S, T, es, hp, hd⟩ := h
  exact ⟨_, _, _, _, _, _, _, _, _, _, _, _, _, _, _, hp.below hb (9, 9), hd⟩
/-- One step. -/
theorem step_any (w wr : World) (pb W M k : Nat) (h : Ps w wr pb W M k) (hk : k ≤ 19999) (kind on pick more : Int) (bp : Option Addr) (nb bc : Nat) (body : List Nat) (hnb : body.length = nb) (hby : Bytes w bp body) (hnl : nb ≤ 140737488351232) :
    Calls Tryd.prog 7 #[.pointer (some ⟨pb, 0, none⟩), .agg #[.int .i64 kind, .int .i64 on, .slice bp nb bc, .int .i64 pick, .int .i64 more]] wr fun e w' => e = .returned (.bool true) ∧ Ps w w' pb W M (k + 1) := by
  obtain ⟨K, l0, l1, b0, b1, sv, s0, s1, A, B, ra, rb, S, T, es, hp, hd⟩ := h
  by_cases k1 : kind = 1
  · subst k1
    rcases and1 on with ho | ho
    · exact step_send0 w wr K pb W M l0 l1 b0 b1 sv s0 s1 A B ra rb S T es k hp hd hk on pick more bp nb bc ho body hnb hby hnl
    · exact step_send1 w wr K pb W M l0 l1 b0 b1 sv s0 s1 A B ra rb S T es k hp hd hk on pick more bp nb bc ho body hnb hby hnl
  by_cases k2 : kind = 2
  · subst k2
    rcases and1 on with ho | ho
    · exact step_tick0 w wr K pb W M l0 l1 b0 b1 sv s0 s1 A B ra rb S T es k hp hd hk on pick more bp nb bc ho
    · exact step_tick1 w wr K pb W M l0 l1 b0 b1 sv s0 s1 A B ra rb S T es k hp hd hk on pick more bp nb bc ho
  by_cases k3 : kind = 3
  · subst k3
    exact step_hear3 w wr K pb W M l0 l1 b0 b1 sv s0 s1 A B ra rb S T es k hp hd hk on pick more bp nb bc
  by_cases k4 : kind = 4
  · subst k4
    exact step_hear4 w wr K pb W M l0 l1 b0 b1 sv s0 s1 A B ra rb S T es k hp hd hk on pick more bp nb bc
  by_cases k5 : kind = 5
  · subst k5
    rcases and1 on with ho | ho
    · exact step_life0 w wr K pb W M l0 l1 b0 b1 sv s0 s1 A B ra rb S T es k hp hd hk on pick more bp nb bc ho
    · exact step_life1 w wr K pb W M l0 l1 b0 b1 sv s0 s1 A B ra rb S T es k hp hd hk on pick more bp nb bc ho
  by_cases k6 : kind = 6
  · subst k6
    rcases and1 on with ho | ho
    · exact step_owe0 w wr K pb W M l0 l1 b0 b1 sv s0 s1 A B ra rb S T es k hp hd hk on pick more bp nb bc ho
    · exact step_owe1 w wr K pb W M l0 l1 b0 b1 sv s0 s1 A B ra rb S T es k hp hd hk on pick more bp nb bc ho
  exact step_other w wr K pb W M l0 l1 b0 b1 sv s0 s1 A B ra rb S T es k hp hd hk kind on pick more bp nb bc k1 k2 k3 k4 k5 k6
set_option maxRecDepth 100000 in
set_option maxHeartbeats 4000000 in
theorem sessions_all (w : World) (hT : C.Tab w) (win cap : Int) (sp : Option Addr) (l c : Nat) (rs : List Stp) (hrs : rs.length = l) (hR : Stps w sp rs) :
    Calls Tryd.prog 3 #[.agg #[.int .i64 win, .int .i64 cap, .slice sp l c]] w fun e w' => e = .returned (.bool true) ∧ Below w.heap.size w w' := by
  obtain ⟨w1, hw1⟩ : ∃ w1, w.alloc (.cells #[.int .i64 win, .int .i64 cap, .slice sp l c] 24) = w1 := ⟨_, rfl⟩
  have hb1 : Below w.heap.size w w1 := by rw [← hw1]; exact (Below.refl _ _).alloc (Nat.le_refl _) _
  have hk1 : w1.heap[w.heap.size]? = some (.cells #[.int .i64 win, .int .i64 cap, .slice sp l c] 24 (0, 0)) := by rw [← hw1]; exact heap_alloc_new _ _
  have HT1 := hide (hT.below hb1 hT.pos)
  have HBx : Hid (∀ w', Below w1.heap.size w1 w' → w'.cell? ⟨w.heap.size, 0, none⟩ = some (.int .i64 win) ∧ w'.cell? ⟨w.heap.size, 1, none⟩ = some (.int .i64 cap) ∧ w'.cell? ⟨w.heap.size, 2, none⟩ = some (.slice sp l c)) := fun w' hb => by
    have h := (hb.block _ (C.lt_of_block hk1)).trans hk1
    simp [World.cell?, h]
  have HBg : Hid (∀ w', Below w1.heap.size w1 w' → Calls Tryd.prog 6 #[] w' fun e w'' => e = .returned (.bool true) ∧ Below w'.heap.size w' w'') := fun w' hb => begun_any w' (HT1.out.below hb HT1.out.pos)
  have HP := hide (paired_pm w1 win cap HT1.out)
  have HR := hide (hR.below hb1)
  have HRs := hide hrs
  have HB1 := hide hb1
  have HW := hide hw1
  obtain ⟨x0, x1, x2⟩ := HBx.out w1 (Below.refl _ _)
  clear hw1 hb1 hk1 hT hR hrs
  go_enter Tryd.func3, Tryd.ntmps3
  go_upto_region 1 with (fail)
  rw [HW.out]
  go_wp2_with fail
  refine HP.out.mono ?_
  rintro e w2 ⟨pb, b0, b1, W, M, K, rfl, hpm, hpd⟩
  have HPs : Hid (Ps w1 w2 pb W M 0) := ⟨_, _, _, _, _, _, _, _, _, _, _, _, _, _, _, hpm, hpd⟩
  clear hpm hpd HP x0 x1 x2
  go_wp2_with fail
  refine (HBg.out w2 HPs.out.bel).mono ?_
  rintro e w3 ⟨rfl, hb3⟩
  have HP3 := hide (HPs.out.below hb3)
  clear hb3 HPs
  go_wp2
  go_loopw [4] (fun iv w' => ∃ (i : Nat), i ≤ l ∧ i ≤ 800 ∧ iv = .int .i64 (i : Int) ∧ Hid (Ps w1 w' pb W M i)) (fun iv _ => 800 - (intOf iv).toNat)
  case atStart => exact ⟨0, Nat.zero_le _, by omega, rfl, HP3⟩
  case round =>
  clear HP3
  obtain ⟨i, hi, hi8, rfl, HQ⟩ := hrel
  rename World => wr
  obtain ⟨-, -, x2⟩ := HBx.out wr HQ.out.bel
  by_cases hlt : i < l
  · have i1 : (i : Int) < (l : Int) := by omega
    have i2 : (0 : Int) ≤ (i : Int) := by omega
    by_cases h8 : i < 800
    · have i3 : (i : Int) < 800 := by omega
      obtain ⟨r, hr⟩ : ∃ r, rs[i]? = some r := ⟨_, List.getElem?_eq_getElem (by rw [HRs.out]; exact hlt)⟩
      obtain ⟨kind, on, bp, bc, body, pick, more⟩ := r
      obtain ⟨g, o, hop, hg, hcl, hok⟩ := HR.out i _ hr
      subst hop
      obtain ⟨nb, hnb⟩ : ∃ nb, body.length = nb := ⟨_, rfl⟩
      have hce : ∀ (j : Nat) (v : Value), ([.int .i64 kind, .int .i64 on, .slice bp nb bc, .int .i64 pick, .int .i64 more] : List Value)[j]? = some v → wr.cell? ⟨g, o + i * 5 + j, none⟩ = some v := fun j v hv => (HQ.out.bel.cell (p := ⟨g, o + i * 5 + j, none⟩) hg).trans (hcl j v (by rw [← hnb] at hv; exact hv))
      have y0 : wr.cell? ⟨g, o + i * 5, none⟩ = some (.int .i64 kind) := hce 0 _ rfl
      have y1 : wr.cell? ⟨g, o + i * 5 + 1, none⟩ = some (.int .i64 on) := hce 1 _ rfl
      have y2 : wr.cell? ⟨g, o + i * 5 + 2, none⟩ = some (.slice bp nb bc) := hce 2 _ rfl
      have y3 : wr.cell? ⟨g, o + i * 5 + 3, none⟩ = some (.int .i64 pick) := hce 3 _ rfl
      have y4 : wr.cell? ⟨g, o + i * 5 + 4, none⟩ = some (.int .i64 more) := hce 4 _ rfl
      have HSt := hide (step_any w1 wr pb W M i HQ.out (by omega) kind on pick more bp nb bc body hnb hok.by_ (by have := hok.len; simp only at this; omega))
      clear hce hr hg hcl hok hnb
      go_wp2_with fail
      refine HSt.out.mono ?_
      rintro e w4 ⟨rfl, hps⟩
      have HE := hide hps
      clear hps HSt HQ x2 y0 y1 y2 y3 y4
      go_wp2
      first
        | exact ⟨⟨i + 1, by omega, by omega, by go_num, HE⟩, by simp [intOf]; omega⟩
        | (go_roundw
           case rel => exact ⟨i + 1, by omega, by omega, by go_num, HE⟩
           case measure => simp [intOf]; omega)
    · have i3 : ¬ (i : Int) < 800 := by omega
      go_wp2_with fail
      refine (HBg.out wr HQ.out.bel).mono ?_
      rintro e w4 ⟨rfl, hb4⟩
      have HE := hide (HB1.out.trans ((HQ.out.bel.trans (hb4.mono HQ.out.bel.size)).mono HB1.out.size))
      clear hb4
      go_wp2
      go_ret
      exact ⟨rfl, HE.out⟩
  · have i1 : ¬ (i : Int) < (l : Int) := by omega
    go_wp2_with fail
    refine (HBg.out wr HQ.out.bel).mono ?_
    rintro e w4 ⟨rfl, hb4⟩
    have HE := hide (HB1.out.trans ((HQ.out.bel.trans (hb4.mono HQ.out.bel.size)).mono HB1.out.size))
    clear hb4
    go_wp2
    go_ret
    exact ⟨rfl, HE.out⟩
end Go.Proofs.YtbcpoejpbhpcbaaDoor
