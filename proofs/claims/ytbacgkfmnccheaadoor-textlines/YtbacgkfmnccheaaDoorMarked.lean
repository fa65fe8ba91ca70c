import Derived.Test.YtbacgkfmnccheaaDoorTabs
namespace Go.Proofs.YtbacgkfmnccheaaDoor
open Go.RowKit

/-- Digits in groups: what stands behind the place at which one has come. -/
def mrk (first : Bool) : List Nat → List Nat
  | [] => []
  | c :: r => (if first = false ∧ (r.length + 1) % 3 = 0 then [39] else []) ++ c :: mrk false r

theorem nums_mk' (l : List UInt8) : nums ⟨l.toArray⟩ = l.map fun b => b.toNat := by simp [nums]

theorem one_cell (c : Nat) (hc : c < 128) : Lib.runeCells (c : Int) = Lib.byteCells [UInt8.ofNat c] := by
  have h := Lib.byteCells_encodeRune (c : Int)
  rw [← h]
  congr 1
  rw [Lib.encodeRune, Lib.encodeRuneZ_one (by omega) (by omega)]
  rfl

set_option maxHeartbeats 2000000 in
set_option maxRecDepth 100000 in
theorem marked_any (w : World) (s : ByteArray) (hs : s.size ≤ 1000) (hdig : ∀ x ∈ nums s, isDig x = true) :
    Calls Tryd.prog 27 #[.string s] w fun e w' => (∃ t, e = .returned (.string t) ∧ nums t = mrk true (nums s)) ∧ Below w.heap.size w w' := by
  have HDg := hide hdig
  clear hdig
  go_enter Tryd.func27, Tryd.ntmps27
  go_wp2
  go_loopw [] (fun wr => ∃ (pos : Nat) (acc : List UInt8), Lib.IsBuilderF 66 5 w.heap.size w.heap.size (Lib.byteCells acc) wr ∧ wr.heap[w.heap.size + 1]? = some (.stringIter s pos) ∧ Below w.heap.size w wr ∧ Hid ((acc.map fun b => b.toNat) ++ mrk (pos == 0) ((nums s).drop pos) = mrk true (nums s)) ∧ acc.length ≤ 2 * pos ∧ pos ≤ s.size) (fun wr => s.size - wr.iterPos (w.heap.size + 1))
  case atStart =>
    refine ⟨0, [], (Lib.IsBuilderF.of (Lib.fresh_isBuilder 66 5 w)).alloc _, ?_, ((Below.refl _ w).alloc (Nat.le_refl _) _).alloc (by simp) _, by show _ = _; simp, by simp, Nat.zero_le _⟩
    have := World.iter_heap (w.alloc (.cells #[.pointer none, .slice none 0 0] 66)) s 0
    simpa using this
  case round =>
    obtain ⟨pos, acc, hI, hit, hbw, HA, hal, hpos⟩ := hrel
    have hsz : w.heap.size + 1 < wr.heap.size := (Array.getElem?_eq_some_iff.1 hit).1
    by_cases hp : pos < s.size
    · have HAt := hide (nums_at s pos hp)
      have HD := hide (nums_drop s pos hp)
      have hx := HDg.out _ (List.mem_of_getElem? HAt.out)
      have hx1 : 48 ≤ (s[pos]'hp).toNat := by simp [isDig] at hx; omega
      have hx2 : (s[pos]'hp).toNat ≤ 57 := by simp [isDig] at hx; omega
      have hnx : ∀ ty, (Instr.next (.pointer (some ⟨w.heap.size + 1, 0, none⟩)) true ty).run Tryd.prog wr = _ := fun ty => Lib.run_next_ascii_at wr (w.heap.size + 1) s pos ty hit hp (by omega)
      clear HAt hx
      generalize (s[pos]'hp).toNat = x at *
      have hI2 := hide (hI.iterAt hit (pos + 1))
      have hit2 := hide (Lib.iterAt_heap wr (w.heap.size + 1) s pos (pos + 1) hit)
      have hbw2 := hide (Lib.below_iterAt hbw (k := w.heap.size + 1) (by omega) s (pos + 1))
      have hsz2 : Hid (w.heap.size ≤ (wr.iterAt (w.heap.size + 1) s (pos + 1)).heap.size) := by show _ ≤ _; rw [Lib.iterAt_size]; omega
      have hpit : Hid (wr.iterPos (w.heap.size + 1) = pos) := by show _ = _; simp only [World.iterPos, hit]
      have hne := one_cell x (by omega)
      clear hI hbw hit
      generalize hW : wr.iterAt (w.heap.size + 1) s (pos + 1) = W at *
      clear hW
      have h01 : (0 : Int) ≤ (s.size : Int) - (pos : Int) := by omega
      by_cases hm : 0 < pos ∧ (s.size - pos) % 3 = 0
      · have m1 : (0 : Int) < (pos : Int) := by omega
        have m2 : (((s.size : Int) - (pos : Int)) % 3 == 0) = true := by simp; omega
        have hm0 : (pos == 0) = false := by simp; omega
        have hx256 : x % 256 = x := by omega
        have HMM := hide hm
        clear hm
        go_wp2_with fail
        refine (Tryd.Builder_WriteByte_k w.heap.size w.heap.size _ 39 _ hI2.out (by rw [Lib.byteCells_length]; omega) hsz2.out).mono ?_
        rintro e W1 ⟨rfl, g1, b1, k1⟩
        have h1 : Hid (Lib.IsBuilderF 66 5 w.heap.size w.heap.size (Lib.byteCells (acc ++ [39])) W1) := by show Lib.IsBuilderF _ _ _ _ _ _; rw [Lib.byteCells_append]; exact Or.inr g1
        have hit1 := hide (k1.iter hit2.out (by omega))
        have hb1 := hide (hbw2.out.trans b1)
        have hs1 : Hid (w.heap.size ≤ W1.heap.size) := hb1.out.size
        clear g1 b1 k1 hI2 hit2 hbw2 hsz2
        go_wp2_with fail
        refine (Tryd.Builder_WriteRune_k w.heap.size w.heap.size _ (x : Int) (by omega) (by omega) _ h1.out (by rw [Lib.byteCells_length]; simp; omega) hs1.out).mono ?_
        rintro e W2 ⟨rfl, h2, b2, k2⟩
        have hI3 : Hid (Lib.IsBuilderF 66 5 w.heap.size w.heap.size (Lib.byteCells (acc ++ [39] ++ [UInt8.ofNat x])) W2) := by show Lib.IsBuilderF _ _ _ _ _ _; rw [Lib.byteCells_append, ← hne]; exact Or.inr h2
        have hit3 := hide (k2.iter hit1.out (by omega))
        have hbw3 := hide (hb1.out.trans b2)
        clear h2 b2 k2
        go_wp2
        go_roundw
        case rel =>
          refine ⟨pos + 1, acc ++ [39] ++ [UInt8.ofNat x], hI3.out, hit3.out, hbw3.out, ?_, by simp; omega, by omega⟩
          show _ = _
          rw [← HA.out, HD.out, mrk, show (pos + 1 == 0) = false from rfl, hm0, List.length_drop, nums_len, show s.size - (pos + 1) + 1 = s.size - pos by omega]
          simp [hx256, HMM.out.2]
        case measure =>
          simp only [World.iterPos, hit3.out]
          have := hpit.out
          simp only [World.iterPos] at this
          omega
      · have hx256 : x % 256 = x := by omega
        have HMM := hide hm
        have HC : Hid ((if (pos == 0) = false ∧ (s.size - pos) % 3 = 0 then [39] else []) = ([] : List Nat)) := by
          show _ = _
          rw [if_neg]
          intro h
          apply hm
          simp at h
          omega
        clear hm
        by_cases h0 : pos = 0
        · have z0 : decide ((0 : Int) < (pos : Int)) = false := decide_eq_false (by omega)
          have z1 : decide (0 < pos) = false := decide_eq_false (by omega)
          have z2 : ¬ 0 < pos := by omega
          clear h0
          go_wp2_with fail
          refine (Tryd.Builder_WriteRune_k w.heap.size w.heap.size _ (x : Int) (by omega) (by omega) _ hI2.out (by rw [Lib.byteCells_length]; omega) hsz2.out).mono ?_
          rintro e W2 ⟨rfl, h2, b2, k2⟩
          have hI3 : Hid (Lib.IsBuilderF 66 5 w.heap.size w.heap.size (Lib.byteCells (acc ++ [UInt8.ofNat x])) W2) := by show Lib.IsBuilderF _ _ _ _ _ _; rw [Lib.byteCells_append, ← hne]; exact Or.inr h2
          have hit3 := hide (k2.iter hit2.out (by omega))
          have hbw3 := hide (hbw2.out.trans b2)
          clear h2 b2 k2
          go_wp2
          go_roundw
          case rel =>
            refine ⟨pos + 1, acc ++ [UInt8.ofNat x], hI3.out, hit3.out, hbw3.out, ?_, by simp; omega, by omega⟩
            show _ = _
            rw [← HA.out, HD.out, mrk, show (pos + 1 == 0) = false from rfl, List.length_drop, nums_len, show s.size - (pos + 1) + 1 = s.size - pos by omega, HC.out]
            simp [hx256]
          case measure =>
            simp only [World.iterPos, hit3.out]
            have := hpit.out
            simp only [World.iterPos] at this
            omega
        · have z0 : (0 : Int) < (pos : Int) := by omega
          have z1 : (((s.size : Int) - (pos : Int)) % 3 == 0) = false := by have := HMM.out; simp; omega
          have z2 : ¬ ((s.size : Int) - (pos : Int)) % 3 = 0 := by have := HMM.out; omega
          clear h0
          go_wp2_with fail
          refine (Tryd.Builder_WriteRune_k w.heap.size w.heap.size _ (x : Int) (by omega) (by omega) _ hI2.out (by rw [Lib.byteCells_length]; omega) hsz2.out).mono ?_
          rintro e W2 ⟨rfl, h2, b2, k2⟩
          have hI3 : Hid (Lib.IsBuilderF 66 5 w.heap.size w.heap.size (Lib.byteCells (acc ++ [UInt8.ofNat x])) W2) := by show Lib.IsBuilderF _ _ _ _ _ _; rw [Lib.byteCells_append, ← hne]; exact Or.inr h2
          have hit3 := hide (k2.iter hit2.out (by omega))
          have hbw3 := hide (hbw2.out.trans b2)
          clear h2 b2 k2
          go_wp2
          go_roundw
          case rel =>
            refine ⟨pos + 1, acc ++ [UInt8.ofNat x], hI3.out, hit3.out, hbw3.out, ?_, by simp; omega, by omega⟩
            show _ = _
            rw [← HA.out, HD.out, mrk, show (pos + 1 == 0) = false from rfl, List.length_drop, nums_len, show s.size - (pos + 1) + 1 = s.size - pos by omega, HC.out]
            simp [hx256]
          case measure =>
            simp only [World.iterPos, hit3.out]
            have := hpit.out
            simp only [World.iterPos] at this
            omega
    · have hnx : ∀ ty, (Instr.next (.pointer (some ⟨w.heap.size + 1, 0, none⟩)) true ty).run Tryd.prog wr = _ := fun ty => Lib.run_next_end_at wr (w.heap.size + 1) s pos ty hit hp
      have hI2 := hide hI
      have hbw2 := hide hbw
      have HZ : Hid ((acc.map fun b => b.toNat) = mrk true (nums s)) := by show _ = _; rw [← HA.out, nums_end s pos hp]; simp [mrk]
      clear hI hbw hit HA
      go_wp2_with fail
      refine (Tryd.Builder_String_any_k w.heap.size w.heap.size acc _ hI2.out (by omega)).mono ?_
      rintro e W1 ⟨rfl, _, b1, _⟩
      have hb1 := hide (hbw2.out.trans b1)
      clear b1
      go_wp2
      go_ret
      exact ⟨⟨_, rfl, by rw [nums_mk']; exact HZ.out⟩, hb1.out⟩

end Go.Proofs.YtbacgkfmnccheaaDoor
