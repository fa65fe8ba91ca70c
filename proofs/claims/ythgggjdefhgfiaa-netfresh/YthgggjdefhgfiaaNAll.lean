import Derived.Test.YthgggjdefhgfiaaNStage
namespace Go.Proofs.Ythgggjdefhgfiaa
open Go.RowKit Go.Maps

/-- What the two Looks tell is the same. -/
theorem has_cases {N : Nt} {i : Int} : N.has i = true ∨ N.has i = false := by cases N.has i <;> simp
set_option maxRecDepth 100000 in
set_option maxHeartbeats 4000000 in
theorem all_any (w : World) (K : Knd) (sb bb M : Nat) (x : Nat → Option Sl) (mark : Bm) (h : Sg w K sb bb M x mark) (k : Nat) (hk : k < 2) :
    Calls Try.prog 9 #[.pointer (some ⟨sb, 0, none⟩), .int .i64 (k : Int)] w fun e w' => e = .returned (.bool true) ∧ Below w.heap.size w w' := by
  have HH := hide h
  have k0 : (0 : Int) ≤ (k : Int) := by omega
  have k1 : (k : Int) < 2 := by omega
  obtain ⟨c0, c1, c2, c3, cf⟩ := h.cells hk
  clear h
  cases hx : x k with
  | none =>
    rw [hx] at c0 c1
    unfold ptrN at c0
    unfold ptrF at c1
    simp only [Option.map_none] at c0 c1
    clear hx
    go_enter Try.func9, Try.ntmps9
    go_wp2
    go_ret
    exact ⟨rfl, Below.refl _ _⟩
  | some s =>
    obtain ⟨nb, fb, N⟩ := s
    have HX := hide hx
    rw [hx] at c0 c1
    unfold ptrN at c0
    unfold ptrF at c1
    simp only [Option.map_some] at c0 c1
    have ho := HH.out.ok k _ hk hx
    have HO := hide ho
    obtain ⟨n, hn⟩ : ∃ n, N.row.length = n := ⟨_, rfl⟩
    have HN := hide hn
    have hn8 : n ≤ 8192 := by have h1 := ho.le; have h2 := ho.room; simp only at h1 h2; omega
    have hsl := lt_of_block HH.out.blk
    clear hx ho hn
    go_enter Try.func9, Try.ntmps9
    go_wp2
    go_loopw [6] (fun i wr => ∃ (j : Nat), j ≤ n + 2 ∧ i = .int .i64 ((j : Int) - 1) ∧ Hid (Below w.heap.size w wr)) (fun i _ => n + 2 - (intOf i + 1).toNat)
    case atStart => exact ⟨0, Nat.zero_le _, rfl, hide (Below.refl _ _)⟩
    case round =>
      obtain ⟨j, hj, rfl, HB⟩ := hrel
      have HS := hide (HH.out.below HB.out)
      have HK1 := hide (kp_below HB.out (fun _ => False) K (0, 0))
      have HNk := hide (HO.out.net.kept HK1.out (fun _ h => h))
      have HFk := hide (HO.out.doc.kept HK1.out (fun _ h => h))
      simp only at HNk HFk
      have HLe := hide (flen_any wr _ _ _ _ HFk.out)
      rw [HN.out] at HLe
      have e0 : wr.cell? ⟨sb, k, none⟩ = _ := (HB.out.cell (p := ⟨sb, k, none⟩) hsl).trans c0
      go_wp2_with fail
      refine HLe.out.mono ?_
      rintro e w9 ⟨rfl, h9⟩
      have h9 := h9.symm
      subst h9
      by_cases hlt : j < n + 2
      · have hlt' : (j : Int) - 1 ≤ (n : Int) := by omega
        obtain ⟨i, hi⟩ : ∃ i, (j : Int) - 1 = i := ⟨_, rfl⟩
        have HI := hide hi
        have hi1 : -1 ≤ i := by omega
        have hi2 : i ≤ (n : Int) := by omega
        rw [hi]
        have HLk := hide (Look_any wr _ _ _ _ HNk.out i)
        clear hi hlt'
        go_wp2_with fail
        refine HLk.out.mono ?_
        rintro e w2 ⟨hb2, h2⟩
        have HB2 := hide hb2
        have HFk2 := hide (HFk.out.kept (kp_below hb2 (fun _ => False) _ (0, 0)) (fun _ h => h))
        have key : ∃ (to : Int) (p : Option Addr) (l c : Nat) (b : Bool) (xs : List Nat), e = .returned (.tuple #[.agg #[.int .i64 to, .slice p l c], .bool b]) ∧ Bytes w2 p xs ∧ xs.length = l ∧ l ≤ 4096 ∧ b = N.has i ∧ (b = true → ∃ m, N.row[i.toNat]? = some m ∧ m.to = to ∧ nums m.b = xs) ∧ (b = false → to = 0 ∧ l = 0 ∧ xs = []) := by
          rcases h2 with ⟨hf, m, g, c, hm, rfl, _, ht⟩ | ⟨hf, rfl⟩
          · exact ⟨m.to, _, m.b.size, c, true, nums m.b, rfl, ht.bytes, nums_len _, HO.out.small m (List.mem_of_getElem? hm), hf.symm, fun _ => ⟨m, hm, rfl, rfl⟩, fun h => (by cases h)⟩
          · exact ⟨0, none, 0, 0, false, [], rfl, ⟨by simp, Or.inl rfl⟩, rfl, by omega, hf.symm, fun h => (by cases h), fun _ => ⟨rfl, rfl, rfl⟩⟩
        clear h2 hb2
        obtain ⟨to, p, l, c, b, xs, rfl, hy, hl, hl4, hb, ht, hf⟩ := key
        have HY := hide hy
        have HLx := hide hl
        have HBh := hide hb
        have HTt := hide ht
        have HFf := hide hf
        clear hy hl hb ht hf
        have hb3 : Below w2.heap.size w2 (w2.alloc (.cells #[.int .i64 to, .slice p l c] 75)) := (Below.refl _ _).alloc (Nat.le_refl _) _
        have hx3 : (w2.alloc (.cells #[.int .i64 to, .slice p l c] 75)).heap[w2.heap.size]? = some (.cells #[.int .i64 to, .slice p l c] 75 (0, 0)) := heap_alloc_new _ _
        have HB3 := hide hb3
        have HX3 := hide hx3
        have HFL := hide (FLook_any (w2.alloc (.cells #[.int .i64 to, .slice p l c] 75)) _ _ _ _ (HFk2.out.kept (kp_below hb3 (fun _ => False) _ (0, 0)) (fun _ h => h)) i (fun m hm => Nat.le_trans (HO.out.small m hm) (by omega)))
        clear hb3 hx3
        go_wp2_with fail
        refine HFL.out.mono ?_
        rintro e w4 ⟨hb4, h4⟩
        have HB4 := hide hb4
        have key : ∃ (p' : Option Addr) (c' : Nat), e = .returned (.tuple #[.agg #[.int .i64 to, .slice p' l c'], .bool b]) ∧ Bytes w4 p' xs := by
          rcases h4 with ⟨hf, m, a, c', hm, rfl, hc⟩ | ⟨hf, rfl⟩
          · have hbt : b = true := by rw [HBh.out]; exact hf
            obtain ⟨m', e1, e2, e3⟩ := HTt.out hbt
            rw [hm] at e1
            cases e1
            have e4 : m.b.size = l := by rw [← HLx.out, ← e3, nums_len]
            refine ⟨a, c', by rw [e2, e4, hbt], ?_⟩
            rw [← e3]; exact hc.by_
          · have hbt : b = false := by rw [HBh.out]; exact hf
            obtain ⟨e1, e2, e3⟩ := HFf.out hbt
            exact ⟨none, 0, by rw [e1, e2, hbt], by rw [e3]; exact ⟨by simp, Or.inl rfl⟩⟩
        clear h4 hb4
        obtain ⟨p', c', rfl, hy4⟩ := key
        have hx4 : w4.heap[w2.heap.size]? = _ := (HB4.out.block w2.heap.size (by simp)).trans HX3.out
        have hb5 : Below w4.heap.size w4 (w4.alloc (.cells #[.int .i64 to, .slice p' l c'] 75)) := (Below.refl _ _).alloc (Nat.le_refl _) _
        have hx5 : (w4.alloc (.cells #[.int .i64 to, .slice p' l c'] 75)).heap[w2.heap.size]? = _ := (hb5.block _ (lt_of_block hx4)).trans hx4
        have hx6 : (w4.alloc (.cells #[.int .i64 to, .slice p' l c'] 75)).heap[w4.heap.size]? = some (.cells #[.int .i64 to, .slice p' l c'] 75 (0, 0)) := heap_alloc_new _ _
        have s4 := HB4.out.size
        simp only [World.size_alloc] at s4
        have hbA : Below wr.heap.size wr (w4.alloc (.cells #[.int .i64 to, .slice p' l c'] 75)) := by
          have s2 := HB2.out.size
          exact (((HB2.out.trans (HB3.out.mono s2)).trans (HB4.out.mono (by simp; omega))).alloc (by omega) _)
        have hyA : Bytes (w4.alloc (.cells #[.int .i64 to, .slice p' l c'] 75)) p xs := (((HY.out.below HB3.out).below HB4.out).below hb5)
        have HSm := hide (same_any _ to p p' l c c' xs HLx.out (by omega) hyA (hy4.below hb5))
        have HBA := hide hbA
        obtain ⟨x0, x1⟩ := blk2 hx5
        obtain ⟨y0, y1⟩ := blk2 hx6
        have l5 := lt_of_block hx5
        have l6 := lt_of_block hx6
        clear hy4 hx4 hb5 hx5 hx6 hbA hyA s4
        cases b
        all_goals
          go_wp2_with fail
          refine HSm.out.mono ?_
          rintro e w7 ⟨rfl, hb7⟩
          have HB7 := hide ((HB.out.trans (HBA.out.mono HB.out.size)).trans (hb7.mono (by have := HB.out.size; have := HBA.out.size; omega)))
          clear hb7
          go_wp2
          go_roundw
          case rel => exact ⟨j + 1, by omega, by rw [← HI.out]; congr 1; omega, HB7⟩
          case measure => have := HI.out; simp [intOf]; omega
      · obtain rfl : j = n + 2 := by omega
        have HLe2 := hide (nlen_any wr _ _ _ _ HNk.out)
        rw [HN.out] at HLe2
        have HLo := hide (lost_any wr _ _ _ _ HNk.out)
        have HFLo := hide (flost_any wr _ _ _ _ HFk.out)
        have hgt : ¬ (((n + 2 : Nat) : Int) - 1 ≤ (n : Int)) := by omega
        go_wp2_with fail
        refine HLe2.out.mono ?_
        rintro e w9 ⟨rfl, h9⟩
        have h9 := h9.symm
        subst h9
        go_wp2_with fail
        refine HLe.out.mono ?_
        rintro e w9 ⟨rfl, h9⟩
        have h9 := h9.symm
        subst h9
        go_wp2_with fail
        refine HLo.out.mono ?_
        rintro e w9 ⟨rfl, h9⟩
        have h9 := h9.symm
        subst h9
        go_wp2_with fail
        refine HFLo.out.mono ?_
        rintro e w9 ⟨rfl, h9⟩
        have h9 := h9.symm
        subst h9
        go_wp2
        go_ret
        exact ⟨rfl, HB.out⟩

end Go.Proofs.Ythgggjdefhgfiaa
