import Derived.Test.YtgfegkcmoedgkaaTotal
import Derived.Test.YtgfegkcmoedgkaaLend
import Derived.Test.YtgfegkcmoedgkaaIntact
import Derived.Test.YtgfegkcmoedgkaaRng
import Derived.Test.YtgfegkcmoedgkaaListsO
namespace Go.Proofs.Ytgfegkcmoedgkaa
open Go.RowKit
theorem own_lst {B : Nat} {w : World} {g c m : Nat} {ys : List Int} (h : OwnI B w g c ys) (hl : m ≤ ys.length) (hc : m ≤ 17592186044416) (hy : ∀ z ∈ ys, I64 z) : Lst w (some ⟨g, 0, none⟩) m (ys.take m) :=
  ⟨by simp; omega, hc, by
    rcases h.nums with h0 | ⟨g', o, e, hg, hcc⟩
    · exact Or.inl (by rw [h0]; simp)
    · exact Or.inr ⟨g', o, e, hg, fun j z hj => hcc j z (by
        have hjm : j < m := by have := (List.getElem?_eq_some_iff.1 hj).1; simp at this; omega
        rw [List.getElem?_take_of_lt hjm] at hj; exact hj)⟩, mem_take hy m⟩
theorem i64_not {z : Int} (h : I64 z) : I64 (-1 - z) := by obtain ⟨h1, h2⟩ := h; unfold I64; omega
/-- What the loop keeps of the list that is written over. -/
structure Flip (w0 w : World) (g c m : Nat) : Prop where
  below : Below w0.heap.size w0 w
  row : ∃ ys, ys.length = m + 2 ∧ (∀ z ∈ ys, I64 z) ∧ OwnI w0.heap.size w g c ys
theorem Flip.at {w0 w : World} {g c m : Nat} (h : Flip w0 w g c m) {k : Nat} (hk : k < m) : ∃ z, I64 z ∧ w.cell? ⟨g, k, none⟩ = some (.int .i64 z) ∧ w.frozen? ⟨g, k, none⟩ = false ∧ Flip w0 (w.setCell ⟨g, k, none⟩ (.int .i64 (-1 - z))) g c m := by
  obtain ⟨ys, h1, h2, h3⟩ := h.row
  have hlt : k < ys.length := by omega
  refine ⟨ys[k]'hlt, h2 _ (List.getElem_mem hlt), h3.cell (List.getElem?_eq_getElem hlt), h3.frozen k, h.below.setCell (p := ⟨g, k, none⟩) h3.base _, ys.set k (-1 - ys[k]'hlt), by simpa using h1, ?_, h3.set k _⟩
  intro z hz
  rcases List.mem_or_eq_of_mem_set hz with h' | h'
  · exact h2 z h'
  · rw [h']; exact i64_not (h2 _ (List.getElem_mem hlt))
theorem Flip.lst {w0 w : World} {g c m : Nat} (h : Flip w0 w g c m) (hm : m ≤ 17592186044416) : ∃ zs, Lst w (some ⟨g, 0, none⟩) m zs := by
  obtain ⟨ys, h1, h2, h3⟩ := h.row
  exact ⟨_, own_lst h3 (by omega) hm h2⟩

set_option maxRecDepth 20000 in
theorem total_all (w : World) (sp : Option Addr) (l c : Nat) (ls : List NL) (h : InL w sp l c ls) :
    Calls Try.prog 4 #[.agg #[.slice sp l c]] w fun e w' => e = .returned (.bool true) ∧ Below w.heap.size w w' := by
  have HL := hide h
  have hl : l ≤ 140737488351232 := Nat.le_trans h.cap h.most
  have HB0 := hide (below_al w (.cells #[.slice sp l c] 31))
  have HC0 : Hid ((w.alloc (.cells #[.slice sp l c] 31)).cell? ⟨w.heap.size, 0, none⟩ = some (.slice sp l c)) := by show _ = _; simp [go_sem]
  have HSz : Hid (w.heap.size < (w.alloc (.cells #[.slice sp l c] 31)).heap.size) := by show _ < _; simp
  clear h
  have HE := hide same_self
  go_enter Try.func4, Try.ntmps4
  go_wp2
  generalize w.alloc (.cells #[.slice sp l c] 31) = w1 at *
  go_loopw [3] (fun i wr => ∃ k : Nat, k ≤ l ∧ i = .int .i64 (k : Int) ∧ Hid (Below w1.heap.size w1 wr)) (fun i _ => l - (intOf i).toNat)
  case atStart => exact ⟨0, by omega, rfl, Below.refl _ _⟩
  case round =>
    obtain ⟨k, hk, rfl, HB⟩ := hrel
    have HC : Hid (∀ w2, Below wr.heap.size wr w2 → w2.cell? ⟨w.heap.size, 0, none⟩ = some (.slice sp l c)) := fun w2 h2 => by
      rw [(HB.out.trans (h2.mono HB.out.size)).cell (p := ⟨w.heap.size, 0, none⟩) HSz.out]; exact HC0.out
    have c0 := HC.out wr (Below.refl _ _)
    by_cases hlt : k < l
    · have hlt' : k < ls.length := by rw [HL.out.len]; exact hlt
      have HLr := hide ((HL.out.up HB0.out).up HB.out)
      obtain ⟨g1, o1, hp, c1⟩ := HLr.out.at hlt'
      have HN := hide (HLr.out.each _ (List.getElem_mem hlt'))
      have HK : Hid (∀ w2, Below wr.heap.size wr w2 → w2.cell? ⟨g1, o1 + k, none⟩ = some (.slice (ls[k]'hlt').np (ls[k]'hlt').m (ls[k]'hlt').d)) := fun w2 h2 => by
        rw [h2.cell (p := ⟨g1, o1 + k, none⟩) (block_lt_of_cell c1)]; exact c1
      subst hp
      generalize ls[k]'hlt' = x at *
      obtain ⟨np, m, d, zs⟩ := x
      simp only at HN HK c1
      have hm : m ≤ 17592186043904 := Nat.le_trans HN.out.cap HN.out.most
      have l1 : (k : Int) < (l : Int) := by omega
      have l2 : (0 : Int) ≤ (k : Int) := by omega
      have HLe := hide (lend_any wr np m d zs HN.out)
      go_wp2_with fail
      refine HLe.out.mono ?_
      rintro e w2 ⟨g, c', rfl, hO, hb2⟩
      have HO := hide hO
      have HB2 := hide hb2
      clear hO hb2 HLe c0 c1
      have c0 := HC.out w2 HB2.out
      have c1 := HK.out w2 HB2.out
      have HT1 := hide (total_any w2 (some ⟨g, 0, none⟩) m c' ((zs ++ [4242, -4242]).take m) (own_lst HO.out (by simp; have := HN.out.len; omega) (by omega) (by
        intro z hz
        rcases List.mem_append.1 hz with h | h
        · exact HN.out.each z h
        · simp at h; rcases h with rfl | rfl <;> (unfold I64; omega))))
      rw [List.take_left' HN.out.len] at HT1
      go_wp2_with fail
      refine HT1.out.mono ?_
      rintro e w3 ⟨rfl, hb3⟩
      have HB3 := hide (HB2.out.trans (hb3.mono HB2.out.size))
      replace HO := hide (HO.out.up hb3)
      clear hb3 HT1 c0 c1 HB2
      have c0 := HC.out w3 HB3.out
      have c1 := HK.out w3 HB3.out
      have HT2 := hide (rtotal_any w3 np m d zs (HN.out.up HB3.out).lst)
      have HI := hide (intact_any w3 wr.heap.size g c' np m d zs HO.out (HN.out.up HB3.out))
      generalize fitv zs.sum = V1 at *
      generalize fits zs.sum = O1 at *
      go_wp2_with (first
        | (go_at_call 20; refine HT2.out.mono ?_; rintro e w4 ⟨rfl, h⟩; obtain rfl := h.symm; clear h)
        | (go_at_call 13; refine (HE.out _ _ _).mono ?_; rintro e w4 ⟨rfl, h⟩; obtain rfl := h.symm; clear h)
        | (go_at_call 21; refine HI.out.mono ?_; rintro e w4 ⟨rfl, hb4⟩))
      have HF4 : Hid (Flip wr w4 g c' m) := ⟨HB3.out.trans (hb4.mono HB3.out.size), zs ++ [4242, -4242], by simp [HN.out.len], by
        intro z hz
        rcases List.mem_append.1 hz with h | h
        · exact HN.out.each z h
        · simp at h; rcases h with rfl | rfl <;> (unfold I64; omega), HO.out.up hb4⟩
      clear hb4 HO HI HT2 HB3 c0 c1
      go_loopw [9] (fun i wi => ∃ q : Nat, q ≤ m ∧ i = .int .i64 (q : Int) ∧ Hid (Flip wr wi g c' m)) (fun i _ => m - (intOf i).toNat)
      case atStart => exact ⟨0, by omega, rfl, HF4⟩
      case round =>
        clear HF4
        obtain ⟨q, hq, rfl, HF⟩ := hrel
        by_cases hqm : q < m
        · obtain ⟨z, hz, cz, fz, hF⟩ := HF.out.at hqm
          have HF2 := hide hF
          have ez : IntKind.i64.wrap (-1 - z) = -1 - z := wrap_in (i64_not hz)
          have l3 : (q : Int) < (m : Int) := by omega
          have l4 : (0 : Int) ≤ (q : Int) := by omega
          obtain ⟨z1, z2⟩ := hz
          clear hF HF
          go_wp2
          clear cz fz
          generalize World.setCell _ ⟨g, q, none⟩ (.int .i64 (-1 - z)) = w6 at *
          go_roundw
          case rel => exact ⟨q + 1, by omega, by go_num, HF2⟩
          case measure => simp [intOf]; omega
        · have l3 : decide ((q : Int) < (m : Int)) = false := decide_eq_false (by omega)
          obtain ⟨zs', hls⟩ := HF.out.lst (by omega)
          have HLs := hide hls
          clear hls
          have HT3 := hide (total_any _ _ _ c' _ HLs.out)
          have HBq := hide HF.out.below
          clear HF
          go_wp2_with (first
            | (go_at_call 19; refine HT3.out.mono ?_; rintro e w7 ⟨rfl, g7⟩; have HT4 := hide (rtotal_any w7 _ _ c' _ (HLs.out.up g7)); replace HBq := hide (HBq.out.trans (g7.mono HBq.out.size)); clear g7)
            | (go_at_call 20; refine HT4.out.mono ?_; rintro e w8 ⟨rfl, h⟩; obtain rfl := h.symm; clear h)
            | (go_at_call 13; refine (HE.out _ _ _).mono ?_; rintro e w8 ⟨rfl, h⟩; obtain rfl := h.symm; clear h))
          go_roundw
          case rel => exact ⟨k + 1, by omega, by go_num, HB.out.trans (HBq.out.mono HB.out.size)⟩
          case measure => simp [intOf]; omega
    · have l1 : decide ((k : Int) < (l : Int)) = false := decide_eq_false (by omega)
      have HT : Hid (∀ w, Calls Try.prog 19 #[.slice none 0 0] w fun e w' => e = .returned (.tuple #[.int .i64 0, .bool true]) ∧ Below w.heap.size w w') := fun w => total_any w none 0 0 [] (Lst.nil w)
      go_wp2_with (first
        | (go_at_call 19; refine (HT.out _).mono ?_; rintro e w7 ⟨rfl, g7⟩; replace HB := hide (HB.out.trans (g7.mono HB.out.size)); clear g7))
      go_ret
      exact ⟨rfl, HB0.out.trans (HB.out.mono (Nat.le_of_lt HSz.out))⟩
end Go.Proofs.Ytgfegkcmoedgkaa
