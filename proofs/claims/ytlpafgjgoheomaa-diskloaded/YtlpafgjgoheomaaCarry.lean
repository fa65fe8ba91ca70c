import Derived.Test.YtlpafgjgoheomaaFileA
namespace Go.Proofs.Ytlpafgjgoheomaa
open Go.RowKit

/-- Where a row lies behind a call. -/
def Lies (w : World) (v v' : Value) : Prop := v'.ownBlock = v.ownBlock ∨ ∃ g, v'.ownBlock = some g ∧ w.heap.size ≤ g

theorem own_len (a : Option Addr) (l m c d : Nat) : (Value.slice a l c).ownBlock = (Value.slice a m d).ownBlock := by cases a <;> rfl
theorem Lies.len {w : World} {v : Value} {a : Option Addr} {l c : Nat} (h : Lies w v (.slice a l c)) (m : Nat) : Lies w v (.slice a m c) := by
  unfold Lies at *
  rw [own_len a m l c c]
  exact h

theorem Us.grown {w w' : World} {up : Option Addr} {us : List Int} {r : Option Nat} (h : Us w up us) (hg : w.grownBy w' r) (hr : ∀ g o, up = some ⟨g, o, none⟩ → some g ≠ r) : Us w' up us := by
  refine ⟨h.lie.imp id ?_⟩
  rintro ⟨g, e, hlt, hc⟩
  exact ⟨g, e, Nat.lt_of_lt_of_le hlt hg.size, fun j hj => by rw [World.cell?_of_block (hg.block g hlt (hr g 0 e))]; exact hc j hj⟩

set_option maxRecDepth 100000 in
set_option maxHeartbeats 1000000 in
theorem carry_any (w : World) (v : Value) (n : Nat) (xs : List Nat) (up : Option Addr) (m c : Nat) (us : List Int) (hm : us.length = m) (hs : ∀ x ∈ xs, x < 256)
    (ho : w.ownsRow 0 5 1 v n (vals xs)) (hu : Us w up us) (hok : okU xs us) (hfar : ∀ g o, up = some ⟨g, o, none⟩ → some g ≠ v.ownBlock) (hn : n + m ≤ 1099511627776) :
    Calls Try.prog 60 #[v, .slice up m c] w fun e w' => ∃ v', e = .returned v' ∧ w'.ownsRow 0 5 1 v' (carryL xs us).length (vals (carryL xs us)) ∧ w.grownBy w' v.ownBlock ∧ Lies w v v' := by
  obtain ⟨i0, hi, hz0, hz1, hz2⟩ := info_parts Try.infoU8
  have hnl : n = xs.length := by have := ho.1; rw [vals_len] at this; omega
  subst hnl
  obtain ⟨a0, c0, hv0, hc0, hc1⟩ := owns_form ho
  subst hv0
  have HO := hide ho
  have HU := hide hu
  have HOK := hide hok
  have HF := hide hfar
  have HS := hide hs
  have HM := hide hm
  have hml : m ≤ 1099511627776 := by omega
  have HN := hide hn
  clear ho hu hok hfar hs hc0 hc1 hn
  go_enter Try.func60, Try.ntmps60
  go_wp2
  go_loopw [0, 11] (fun b i wr => ∃ (k : Nat) (a : Option Addr) (l c : Nat) (ys : List Nat), k ≤ m ∧ i = .int .i64 k ∧ b = .slice a l c ∧ Hid (ys = carryL xs (us.take k)) ∧ Hid (wr.ownsRow 0 5 1 (.slice a l c) l (vals ys)) ∧ Hid (w.grownBy wr (Value.slice a0 xs.length c0).ownBlock) ∧ Hid (Lies w (.slice a0 xs.length c0) (.slice a l c))) (fun _ i _ => m - (intOf i).toNat)
  case atStart => exact ⟨0, a0, xs.length, c0, xs, Nat.zero_le _, rfl, rfl, rfl, HO, ⟨rfl, rfl, rfl, Nat.le_refl _, fun _ _ _ => rfl⟩, Or.inl rfl⟩
  case round =>
    obtain ⟨k, a, l, cc, ys, hk, rfl, rfl, HY, HR, HG, HL⟩ := hrel
    have hyl : ys.length = l := by have := HR.out.1; rw [vals_len] at this; omega
    obtain ⟨_, _, e1, hlc, hcm⟩ := owns_form HR.out
    cases e1
    by_cases hlt : k < m
    · have hlt' : (k : Int) < (m : Int) := by omega
      have hget : us[k]? = some (us.getD k 0) := by rw [List.getD, List.getElem?_eq_getElem (by omega)]; rfl
      have hyb : ys.length ≤ 1099511627776 - 1 := by
        have e1 := carry_len xs (us.take k)
        have e2 : (us.take k).length = k := by rw [List.length_take]; have := HM.out; omega
        have := HN.out
        have e3 := HY.out
        rw [← e3] at e1
        omega
      have HUr := hide (HU.out.grown HG.out HF.out)
      obtain ⟨g, e, hg, hc⟩ : ∃ g, up = some ⟨g, 0, none⟩ ∧ g < wr.heap.size ∧ ∀ j, j < us.length → wr.cell? ⟨g, j, none⟩ = some (.int .i32 (us.getD j 0)) := by
        rcases HUr.out.lie with h | h
        · have := HM.out; rw [h] at this; simp at this; omega
        · exact h
      subst e
      have hcell := hc k (by have := HM.out; omega)
      have HStep : Hid (carryL xs (us.take (k + 1)) = stepU ys (us.getD k 0)) := by
        show _ = _
        rw [take_snoc' us k _ hget, carry_snoc, ← HY.out]
      have hu1 := HOK.out k _ hget
      rw [← HY.out] at hu1
      have HU1 := hide hu1
      clear hu1 hc hget
      generalize us.getD k 0 = u at *
      by_cases hneg : u < 0
      · obtain ⟨q, hq⟩ : ∃ q : Nat, u = -1 - (q : Int) := ⟨(-1 - u).toNat, by omega⟩
        subst hq
        have hq1 := HU1.out.1 hneg
        have hq2 : q ≤ l := by have := hq1.1; omega
        have hq3 : q < 2147483648 := by have := hq1.2; omega
        have HT : Hid (stepU ys (-1 - (q : Int)) = ys.take q) := by
          show _ = _
          unfold stepU
          rw [if_pos hneg]
          congr 1; omega
        clear hq1
        have HLen := hide (fun w => length_neg w q hq3)
        generalize (-1 - (q : Int)) = u at *
        go_wp2_with fail
        refine (HLen.out _).mono ?_
        rintro e w2 ⟨rfl, rfl⟩
        have hqc : (q : Int) ≤ (cc : Int) := by omega
        go_wp2
        go_roundw
        case rel => exact ⟨k + 1, a, q, cc, ys.take q, by omega, by go_num, rfl, by show _ = _; rw [HStep.out, HT.out], by show World.ownsRow _ _ _ _ _ _ _; rw [vals_take]; exact owns_cut HR.out q hq2, HG, HL.out.len q⟩
        case measure => simp [intOf]; omega
      · obtain ⟨x, hx⟩ : ∃ x : Nat, u = (x : Int) := ⟨u.toNat, by omega⟩
        subst hx
        have hx2 : x < 256 := by have := HU1.out.2; omega
        have HT : Hid (stepU ys (x : Int) = ys ++ [x]) := by
          show _ = _
          unfold stepU
          rw [if_neg hneg]
          simp
        have HLen := hide (fun w => length_pos w x hx2)
        obtain ⟨z, hz⟩ : ∃ z, -1 - (x : Int) = z := ⟨_, rfl⟩
        rw [hz] at HLen
        clear hz
        go_wp2_with fail
        refine (HLen.out _).mono ?_
        rintro e w2 ⟨rfl, rfl⟩
        go_wp2_with (at_builtin; refine wpList_append_lies _ rfl (.tmp 24) (.tmp 27) 87 rfl 0 5 i0 (.int .u8 0) 1 1 Try.underlying87 hi hz0 hz1 hz2 rfl (by omega) (.slice a l cc) l (vals ys) rfl (HR.out.alloc _) ⟨w2.heap.size, 0, none⟩ 1 1 [.int .u8 (x : Int)] rfl rfl (World.news_of_block (heap_alloc_new w2 (.cells #[.int .u8 (x : Int)] 5))) (by simp [Value.oneCell']) (by omega) (by unfold maxLen; omega) (by omega) (by omega) _ rfl ?_; intro g' cap' w4 hown4 hgrow4 hat4 hltg)
        have HO4 : Hid (w4.ownsRow 0 5 1 (.slice (some ⟨g', 0, none⟩) (l + 1) cap') (l + 1) (vals (ys ++ [x]))) := by
          show World.ownsRow _ _ _ _ _ _ _
          rw [vals_app]; exact hown4
        have HG4 : Hid (w.grownBy w4 (Value.slice a0 xs.length c0).ownBlock) := by
          refine (HG.out.andThen (World.grownBy_alloc w2 (.cells #[.int .u8 (x : Int)] 5) none) (fun j hj => by cases hj)).andThen hgrow4 (fun j hj => ?_)
          rcases HL.out with h | ⟨g2, h, h2⟩
          · right; rw [← h]; exact hj
          · left; rw [h] at hj; cases hj; exact h2
        have HL4 : Hid (Lies w (.slice a0 xs.length c0) (.slice (some ⟨g', 0, none⟩) (l + 1) cap')) := by
          show Lies _ _ _
          rcases hat4 with h | h
          · rcases HL.out with h1 | ⟨g2, h1, h2⟩
            · left; rw [← h1, h]; rfl
            · right; rw [h1] at h; cases h; exact ⟨_, rfl, h2⟩
          · right
            refine ⟨g', rfl, ?_⟩
            have := HG.out.size
            simp at h; omega
        clear hown4 hgrow4 hat4
        go_wp2
        go_roundw
        case rel => exact ⟨k + 1, _, l + 1, cap', ys ++ [x], by omega, by go_num, rfl, by show _ = _; rw [HStep.out, HT.out], HO4, HG4, HL4⟩
        case measure => simp [intOf]; omega
    · obtain rfl : k = m := by omega
      have HYe : Hid (ys = carryL xs us) := by
        show _ = _
        rw [HY.out, List.take_of_length_le (by have := HM.out; omega)]
      go_wp2
      go_ret
      have e := HYe.out
      subst e
      exact ⟨_, rfl, by rw [hyl]; exact HR.out, HG.out, HL.out⟩

end Go.Proofs.Ytlpafgjgoheomaa
