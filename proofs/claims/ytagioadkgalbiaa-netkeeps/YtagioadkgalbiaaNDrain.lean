import Derived.Test.YtagioadkgalbiaaNInts
namespace Go.Proofs.Ytagioadkgalbiaa
open Go.RowKit Go.Maps

/-- The message of number i. -/
def msOf (i : Nat) : Ms := ⟨((i % 7 : Nat) : Int), str (tagB i)⟩
theorem has_zero {N : Nt} {m : Ms} {l : List Ms} (h : N.row = m :: l) : N.has 0 = true := by unfold Nt.has; rw [h]; simp
theorem dropped_zero {N : Nt} {m : Ms} {l : List Ms} (h : N.row = m :: l) : N.dropped 0 = { N with row := l } := by
  unfold Nt.dropped; rw [if_pos (has_zero h)]; unfold Nt.drop; rw [h]; rfl
theorem tag_size (i : Nat) : (str (tagB i)).size = 2 := str_size (tagB_small i)
theorem tag_nums (i : Nat) : nums (str (tagB i)) = tagB i := nums_str (tagB_small i)

set_option maxRecDepth 100000 in
set_option maxHeartbeats 4000000 in
theorem drains_any (w : World) (K : Knd) (nb : Nat) (N : Nt) (h : Nk w K 1 nb N) (a : Option Addr) (n c : Nat) (row : List Nat) (hr : Rk w K (2, 0) 3 1 (.slice a n c) n (ints row)) (hN : N.row = row.map msOf) (hl : row.length ≤ 300) (hs : ∀ x ∈ row, x < 65536) :
    Calls Try.prog 16 #[.pointer (some ⟨nb, 0, none⟩), .slice a n c] w fun e w' => e = .returned (.bool true) ∧ ∃ K', Kp (PNet 1) K K' w w' := by
  have hln : row.length = n := by have := hr.own.1; rw [ints_len] at this; omega
  have HR := hide hr
  have HN := hide h
  have HE := hide hN
  have HS := hide hs
  have hn3 : n ≤ 300 := by omega
  have HLn := hide hln
  clear h hr hN hs hl hln
  go_enter Try.func16, Try.ntmps16
  go_wp2
  go_loopw [5] (fun i wr => ∃ (k : Nat) (K' : Knd) (N' : Nt), k ≤ n ∧ i = .int .i64 k ∧ Hid (Nk wr K' 1 nb N') ∧ Hid (N'.row = (row.drop k).map msOf) ∧ Hid (Kp (PNet 1) K K' w wr)) (fun i _ => n - (intOf i).toNat)
  case atStart => exact ⟨0, K, N, Nat.zero_le _, rfl, HN, hide (by rw [HE.out]; rfl), hide (Kp.refl _ _ _)⟩
  case round =>
    obtain ⟨k, K1, N1, hk, rfl, HN1, HE1, HK1⟩ := hrel
    have HR1 := hide (HR.out.kept HK1.out (by rintro (e | e) <;> cases e))
    by_cases hlt : k < n
    · obtain ⟨x, hx⟩ : ∃ x, row[k]? = some x := ⟨_, List.getElem?_eq_getElem (by have := HLn.out; omega)⟩
      have hdr : row.drop k = x :: row.drop (k + 1) := by rw [List.drop_eq_getElem?_toList_append, hx]; rfl
      have hN1 : N1.row = msOf x :: (row.drop (k + 1)).map msOf := by rw [HE1.out, hdr]; rfl
      have hx65 := HS.out x (List.mem_of_getElem? hx)
      have HT := hide (Take_any wr K1 (0, 0) 1 nb (by decide) N1 HN1.out (by rw [HE1.out]; simp [HLn.out]; omega) 0)
      have HHz := hide (has_zero hN1)
      have HDz := hide (dropped_zero hN1)
      have HM0 : Hid (N1.row[(0 : Int).toNat]? = some (msOf x)) := by show _ = _; rw [hN1]; rfl
      obtain ⟨g, ha, c1, c2, c3, c4, c5, _⟩ := irow_cells HR1.out.own hx
      subst ha
      have HKg : Hid (K1 g = (2, 0)) := HR1.out.kind g rfl
      obtain ⟨r7, hr7⟩ : ∃ r7, x % 7 = r7 := ⟨_, rfl⟩
      have hm1 : (x : Int).tmod 7 = (r7 : Int) := by rw [Int.tmod_eq_emod_of_nonneg (by omega)]; omega
      have hm2 : (x : Int) % 7 = (r7 : Int) := by omega
      have HMs : Hid (msOf x = ⟨(r7 : Int), str (tagB x)⟩) := by show _ = _; unfold msOf; rw [hr7]
      clear hx hN1 hdr hr7
      have i1 : (0 : Int) ≤ (k : Int) := by omega
      have i2 : (k : Int) < (n : Int) := by omega
      go_wp2_with fail
      refine HT.out.mono ?_
      rintro e w2 ⟨hn2, hk2, ⟨_, m, gb, cb, hm, rfl, hg, ht⟩ | ⟨hf, _⟩⟩
      rotate_left
      · rw [HHz.out] at hf; cases hf
      obtain rfl : m = msOf x := by rw [HM0.out] at hm; exact (Option.some.inj hm).symm
      rw [HMs.out] at ht ⊢
      simp only at ht ⊢
      rw [tag_size] at ⊢
      have hby := ht.bytes
      rw [tag_nums] at hby
      rw [HDz.out] at hn2
      have hgc : w2.cell? ⟨g, k, none⟩ = some (.int .i64 (x : Int)) := by
        have hbk := hk2.block g c5 (by rw [HKg.out]; rintro (e | e) <;> cases e)
        have : w2.cell? ⟨g, k, none⟩ = wr.cell? ⟨g, k, none⟩ := by simp only [World.cell?, hbk]
        rw [this]; exact c4
      have hg2 : g < w2.heap.size := Nat.lt_of_lt_of_le c5 hk2.size
      have HN2 := hide hn2
      have HK2 := hide (HK1.out.trans hk2)
      have hb3 : Below w2.heap.size w2 (w2.alloc (.cells #[.int .i64 (r7 : Int), .slice (some ⟨gb, 0, none⟩) 2 cb] 46)) := (Below.refl _ _).alloc (Nat.le_refl _) _
      have HB3 := hide hb3
      have HY3 := hide (hby.below hb3)
      have hgc3 := (hb3.cell (p := ⟨g, k, none⟩) hg2).trans hgc
      have hx3 : (w2.alloc (.cells #[.int .i64 (r7 : Int), .slice (some ⟨gb, 0, none⟩) 2 cb] 46)).heap[w2.heap.size]? = _ := heap_alloc_new _ _
      clear hn2 hk2 hm ht hby c4 hgc hb3 HT
      go_wp2_with fail
      obtain ⟨x0, x1⟩ := blk2 hx3
      have l3 := lt_of_block hx3
      generalize w2.alloc (.cells #[.int .i64 (r7 : Int), .slice (some ⟨gb, 0, none⟩) 2 cb] 46) = w3 at *
      have hg3 : g < w3.heap.size := by omega
      have HW3 := hide (which_any w3.drew (r7 : Int) gb cb x hx65 ⟨HY3.out.small, HY3.out.lie⟩)
      obtain ⟨tb, htb⟩ : ∃ tb, w2.heap.size = tb := ⟨_, rfl⟩
      rw [htb] at x0 x1 l3 ⊢
      go_region_held3 (fun w' => w'.cell? ⟨tb, 0, none⟩ = some (.int .i64 (r7 : Int)) ∧ w'.cell? ⟨tb, 1, none⟩ = some (.slice (some ⟨gb, 0, none⟩) 2 cb) ∧ w'.cell? ⟨g, k, none⟩ = some (.int .i64 (x : Int))) (go_keep) (first | (go_at_call 12; refine HW3.out.mono ?_; rintro e w4 ⟨rfl, hb4⟩; have HB4 := hide hb4; have z0 : w4.cell? ⟨tb, 0, none⟩ = _ := (hb4.cell (p := ⟨tb, 0, none⟩) l3).trans x0; have z1 : w4.cell? ⟨tb, 1, none⟩ = _ := (hb4.cell (p := ⟨tb, 1, none⟩) l3).trans x1; have z2 : w4.cell? ⟨g, k, none⟩ = _ := (hb4.cell (p := ⟨g, k, none⟩) hg3).trans hgc3; clear hb4) | fail)
      all_goals go_wp2
      go_roundw
      case rel =>
        have hb34 : Below w2.heap.size w2 w4 := (show Below w2.heap.size w2 w3.drew from HB3.out.drew).trans (HB4.out.mono HB3.out.size)
        have kp := kp_below hb34 (fun _ => False) (ext K1 wr.heap.size (0, 0)) (0, 0)
        exact ⟨k + 1, _, _, by omega, by go_num, hide (HN2.out.kept kp (fun _ h => h)), hide rfl, hide (HK2.out.trans (kp.mono (fun _ h => h.elim)))⟩
      case measure => simp [intOf]; omega
    · obtain rfl : k = n := by omega
      have hN1 : N1.row = [] := by rw [HE1.out, List.drop_of_length_le (by have := HLn.out; omega)]; rfl
      have HF : Hid (N1.has 0 = false) := by show _ = _; unfold Nt.has; rw [hN1]; simp
      have HLk := hide (Look_any wr K1 1 nb N1 HN1.out 0)
      have HLz : Hid (N1.row.length = 0) := by show _ = _; rw [hN1]; rfl
      clear hN1
      go_wp2_with fail
      refine HLk.out.mono ?_
      rintro e w2 ⟨hb2, ⟨hf, _⟩ | ⟨hf, rfl⟩⟩
      · rw [HF.out] at hf; cases hf
      have hb3 : Below wr.heap.size wr (w2.alloc (.cells #[.int .i64 0, .slice none 0 0] 46)) := hb2.alloc hb2.size _
      have kp := kp_below hb3 (fun _ => False) K1 (0, 0)
      have HK3 := hide (HK1.out.trans (kp.mono (q := PNet 1) (fun _ h => h.elim)))
      have HLe := hide (nlen_any _ _ _ _ _ (HN1.out.kept kp (fun _ h => h)))
      rw [HLz.out] at HLe
      clear hb2 hb3 kp hf
      go_wp2_with fail
      refine HLe.out.mono ?_
      rintro e w4 ⟨rfl, h9⟩
      have h9 := h9.symm
      subst h9
      go_wp2
      go_ret
      exact ⟨rfl, _, HK3.out⟩

end Go.Proofs.Ytagioadkgalbiaa
