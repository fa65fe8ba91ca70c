import Derived.Test.YtolegbngjhfdlaaDoorFoldQ
import Derived.Test.YtolegbngjhfdlaaDoorBegun2
namespace Go.Proofs.YtolegbngjhfdlaaDoor
open Go.RowKit

theorem str_self (a : ByteArray) : (a.toList == a.toList) = true := (str_eq a a).2 rfl

/-- What lies there when the letters ahead of j are capital. -/
structure UpInv (l : List Nat) (j : Nat) (f : List Nat) : Prop where
  len : f.length = l.length
  at_ : ∀ i, i < l.length → f.getD i 0 = if i < j then ub (l.getD i 0) else l.getD i 0
theorem UpInv.start (l : List Nat) : UpInv l 0 l := ⟨rfl, fun i _ => by simp⟩
theorem UpInv.set {l f : List Nat} {j : Nat} (h : UpInv l j f) (_hj : j < l.length) (x : Nat) (hx : x = ub (l.getD j 0)) : UpInv l (j + 1) (f.set j x) :=
  ⟨by simp [h.len], fun i hi => by
    rw [set_at _ _ _ _ (by rw [h.len]; exact hi)]
    by_cases e : j = i
    · subst e; rw [if_pos rfl, if_pos (by omega), hx]
    · rw [if_neg e, h.at_ i hi]
      by_cases e2 : i < j
      · rw [if_pos e2, if_pos (by omega)]
      · rw [if_neg e2, if_neg (by omega)]⟩
theorem UpInv.same {l f : List Nat} {j : Nat} (h : UpInv l j f) (hx : l.getD j 0 = ub (l.getD j 0)) : UpInv l (j + 1) f :=
  ⟨h.len, fun i hi => by
    rw [h.at_ i hi]
    by_cases e : j = i
    · subst e; rw [if_neg (by omega), if_pos (by omega)]; exact hx
    · by_cases e2 : i < j
      · rw [if_pos e2, if_pos (by omega)]
      · rw [if_neg e2, if_neg (by omega)]⟩
theorem UpInv.done {l f : List Nat} {j : Nat} (h : UpInv l j f) (hj : l.length ≤ j) : f = l.map ub := by
  apply getD_ext
  · rw [h.len, List.length_map]
  · intro i hi
    rw [h.len] at hi
    rw [h.at_ i hi, if_pos (by omega)]
    simp [List.getD, List.getElem?_eq_getElem hi]
theorem UpInv.cur {l f : List Nat} {j : Nat} (h : UpInv l j f) (hj : j < l.length) : f.getD j 0 = l.getD j 0 := by rw [h.at_ j hj, if_neg (by omega)]

set_option maxRecDepth 100000 in
set_option maxHeartbeats 4000000 in
theorem folds_all (w : World) (hT : Tabs w) (sp : Option Addr) (l c : Nat) (ls : List ByteArray) (h1 : ls.length = l) (hl : l ≤ 140737488351232) (hS : Strs w sp ls) (hz : ∀ s ∈ ls, s.size ≤ 140737488351232) :
    Calls Tryd.prog 7 #[.slice sp l c] w fun e w' => e = .returned (.bool true) ∧ Below w.heap.size w w' := by
  have HT := hide hT
  have HS := hide hS
  have HZ := hide hz
  have HL := hide h1
  have HBe := hide (begun_any w hT)
  clear hT hS hz h1
  go_enter Tryd.func7, Tryd.ntmps7
  go_wp2_with fail
  refine HBe.out.mono ?_
  rintro e w1 ⟨rfl, b1⟩
  have HB1 := hide b1
  clear b1 HBe
  go_wp2
  go_loopw [3] (fun i wr => ∃ (k : Nat), k ≤ l ∧ i = .int .i64 (k : Int) ∧ Hid (Below w.heap.size w wr)) (fun i _ => l - (intOf i).toNat)
  case atStart => exact ⟨0, Nat.zero_le _, rfl, HB1⟩
  case round =>
    clear HB1
    obtain ⟨k, hk, rfl, HB⟩ := hrel
    by_cases hlt : k < l
    · have hlt' : k < ls.length := by rw [HL.out]; exact hlt
      have e1 : ls[k]? = some (ls[k]'hlt') := List.getElem?_eq_getElem _
      obtain ⟨g, o, hp, hc1⟩ : ∃ g o, sp = some ⟨g, o, none⟩ ∧ wr.cell? ⟨g, o + k, none⟩ = some (.string (ls[k]'hlt')) := by
        rcases HS.out.below HB.out (Nat.le_refl _) with h | ⟨g, o, e, _, hc⟩
        · rw [h] at hlt'; simp at hlt'
        · exact ⟨g, o, e, hc k _ e1⟩
      subst hp
      have hsz := HZ.out _ (List.getElem_mem hlt')
      clear e1
      generalize ls[k]'hlt' = s at *
      have hsz2 : s.size ≤ 140737488355328 := by omega
      have HF := hide (fold_str wr (HT.out.below HB.out) s hsz2)
      obtain ⟨F, hF⟩ : ∃ F, str (foldR (nums s)) = F := ⟨_, rfl⟩
      have HFn : Hid (nums F = foldR (nums s)) := by show _ = _; rw [← hF]; exact nums_fold s
      have hFs : F.size = s.size := by rw [← hF]; exact fold_size s
      rw [hF] at HF
      clear hF
      have l1 : (k : Int) < (l : Int) := by omega
      have l2 : (0 : Int) ≤ (k : Int) := by omega
      have zsz : ((F.size : Int) != (s.size : Int)) = false := by simp; omega
      go_wp2_with fail
      refine HF.out.mono ?_
      rintro e w2 ⟨rfl, b2⟩
      have HB2 : Hid (Below w.heap.size w w2) := HB.out.trans (b2.mono HB.out.size)
      have HF2 := hide (fold_str w2 (HT.out.below HB2.out) F (by omega))
      rw [HFn.out, fold_idem, ← str_of HFn.out] at HF2
      have zFF := str_self F
      clear b2 HF HB hc1
      go_wp2_with fail
      refine HF2.out.mono ?_
      rintro e w3 ⟨rfl, b3⟩
      have HB3 : Hid (Below w.heap.size w w3) := HB2.out.trans (b3.mono HB2.out.size)
      have HC := hide (check_any w3 (HT.out.below HB3.out) F (by omega))
      rw [chk_fold s F HFn.out] at HC
      clear b3 HF2 HB2
      go_wp2_with fail
      refine HC.out.mono ?_
      rintro e w4 ⟨rfl, b4⟩
      have HB4 : Hid (Below w.heap.size w w4) := HB3.out.trans (b4.mono HB3.out.size)
      have HC2 := hide (check_any w4 (HT.out.below HB4.out) s hsz2)
      have zcc : ((chkR s : Int) != (chkR s : Int)) = false := by simp
      clear b4 HC HB3
      generalize chkR s = C at *
      go_wp2_with fail
      refine HC2.out.mono ?_
      rintro e w5 ⟨rfl, b5⟩
      have HB5 : Hid (Below w.heap.size w w5) := HB4.out.trans (b5.mono HB4.out.size)
      clear b5 HC2 HB4
      obtain ⟨W6, cp, hcv, hrow, hb6, hsz6, hcp⟩ := bytes_of w5 s
      have HR6 := hide hrow
      have HB6 : Hid (Below w5.heap.size w5 W6) := hb6
      have hS6 := hide hsz6
      clear hrow hb6 hsz6
      go_wp2
      clear hcv zsz zFF zcc
      go_loopw [7] (fun i wr2 => ∃ (j : Nat) (f : List Nat), j ≤ s.size ∧ i = .int .i64 (j : Int) ∧ Hid (RowB wr2 w5.heap.size f) ∧ Hid (UpInv (nums s) j f) ∧ Hid (Below w5.heap.size w5 wr2) ∧ Hid (w5.heap.size < wr2.heap.size)) (fun i _ => s.size - (intOf i).toNat)
      case atStart => exact ⟨0, nums s, Nat.zero_le _, rfl, HR6, UpInv.start _, HB6, by show _ < _; have := hS6.out; omega⟩
      case round =>
        clear HR6 HB6
        obtain ⟨j, f, hj, rfl, HR, HU, HBj, HLt⟩ := hrel
        by_cases hjl : j < s.size
        · have hjn : j < (nums s).length := by rw [nums_len]; exact hjl
          have hjf : j < f.length := by rw [HU.out.len]; exact hjn
          obtain ⟨cj, fj⟩ := HR.out j hjf
          rw [HU.out.cur hjn] at cj
          have hx256 : (nums s).getD j 0 < 256 := by rw [List.getD, List.getElem?_eq_getElem hjn]; exact nums_lt s _ (List.getElem_mem hjn)
          obtain ⟨x, hx⟩ : ∃ x, (nums s).getD j 0 = x := ⟨_, rfl⟩
          rw [hx] at cj hx256
          have HX := hide hx
          clear hx
          have m1 : (j : Int) < (s.size : Int) := by omega
          have m2 : (0 : Int) ≤ (j : Int) := by omega
          by_cases hlo : 97 ≤ x
          · have z1 : (97 : Int) ≤ (x : Int) := by omega
            by_cases hhi : x ≤ 122
            · have z2 : (x : Int) ≤ 122 := by omega
              have HU2 : Hid (UpInv (nums s) (j + 1) (f.set j (x - 32))) := HU.out.set hjn _ (by rw [HX.out, ub, if_pos ⟨hlo, hhi⟩])
              have HR2 : Hid (RowB (wr.setCell ⟨w5.heap.size, j, none⟩ (.int .u8 ((x : Int) - 32))) w5.heap.size (f.set j (x - 32))) := by
                have := HR.out.one j (x - 32) hjf
                rw [show ((x - 32 : Nat) : Int) = (x : Int) - 32 by omega] at this
                exact this
              have HB2 : Hid (Below w5.heap.size w5 (wr.setCell ⟨w5.heap.size, j, none⟩ (.int .u8 ((x : Int) - 32)))) := HBj.out.setCell (p := ⟨w5.heap.size, j, none⟩) (Nat.le_refl _) _
              have HLt2 : Hid (w5.heap.size < (wr.setCell ⟨w5.heap.size, j, none⟩ (.int .u8 ((x : Int) - 32))).heap.size) := by
                show w5.heap.size < (wr.heap.modify _ _).size
                rw [Array.size_modify]; exact HLt.out
              clear HR HU HBj HLt
              go_wp2
              go_roundw
              case rel => exact ⟨j + 1, f.set j (x - 32), by omega, by go_num, HR2, HU2, HB2, HLt2⟩
              case measure => simp [intOf]; omega
            · have z2 : decide ((x : Int) ≤ 122) = false := decide_eq_false (by omega)
              have HU2 : Hid (UpInv (nums s) (j + 1) f) := HU.out.same (by rw [HX.out, ub, if_neg (by omega)])
              go_wp2
              go_roundw
              case rel => exact ⟨j + 1, f, by omega, by go_num, HR, HU2, HBj, HLt⟩
              case measure => simp [intOf]; omega
          · have z1 : decide ((97 : Int) ≤ (x : Int)) = false := decide_eq_false (by omega)
            have HU2 : Hid (UpInv (nums s) (j + 1) f) := HU.out.same (by rw [HX.out, ub, if_neg (by omega)])
            go_wp2
            go_roundw
            case rel => exact ⟨j + 1, f, by omega, by go_num, HR, HU2, HBj, HLt⟩
            case measure => simp [intOf]; omega
        · have hfd := HU.out.done (by rw [nums_len]; omega)
          have hub : ∀ x ∈ (nums s).map ub, x < 256 := by
            intro x hx
            obtain ⟨y, hy, rfl⟩ := List.mem_map.1 hx
            have := nums_lt s y hy
            unfold ub; split <;> omega
          rw [hfd] at HR
          obtain ⟨t, hcv, htn⟩ := bytes_back wr w5.heap.size cp _ HR.out hub s.size (by rw [List.length_map, nums_len])
          have hts : t.size = s.size := by rw [← nums_len, htn, List.length_map, nums_len]
          have HBw : Hid (Below w.heap.size w wr) := HB5.out.trans (HBj.out.mono HB5.out.size)
          have HF3 := hide (fold_str wr (HT.out.below HBw.out) t (by omega))
          rw [htn, fold_ub, ← str_of HFn.out] at HF3
          have zFF := str_self F
          have m1 : decide ((j : Int) < (s.size : Int)) = false := decide_eq_false (by omega)
          clear hfd hub htn HU HR
          go_wp2_with fail
          refine HF3.out.mono ?_
          rintro e w7 ⟨rfl, b7⟩
          have HB7 : Hid (Below w.heap.size w w7) := HBw.out.trans (b7.mono HBw.out.size)
          clear b7 HF3 HBw
          go_wp2
          go_roundw
          case rel => exact ⟨k + 1, by omega, by go_num, HB7⟩
          case measure => simp [intOf]; omega
    · have HBe := hide (begun_any wr (HT.out.below HB.out))
      have l1 : decide ((k : Int) < (l : Int)) = false := decide_eq_false (by omega)
      go_wp2_with fail
      refine HBe.out.mono ?_
      rintro e w2 ⟨rfl, b2⟩
      have HB2 : Hid (Below w.heap.size w w2) := HB.out.trans (b2.mono HB.out.size)
      clear b2 HBe HB
      go_wp2
      go_ret
      exact ⟨rfl, HB2.out⟩

end Go.Proofs.YtolegbngjhfdlaaDoor
