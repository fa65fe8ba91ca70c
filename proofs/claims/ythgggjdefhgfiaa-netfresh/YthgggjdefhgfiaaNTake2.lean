import Derived.Test.YthgggjdefhgfiaaNTake
namespace Go.Proofs.Ythgggjdefhgfiaa
open Go.RowKit

set_option maxRecDepth 100000 in
set_option maxHeartbeats 1000000 in
theorem Take_any (w : World) (K : Knd) (kk : Nat × Nat) (o nb : Nat) (hkk : kk.1 ≠ o) (N : Nt) (h : Nk w K o nb N) (hL : N.row.length ≤ 8192) (i : Int) :
    Calls Try.prog 22 #[.pointer (some ⟨nb, 0, none⟩), .int .i64 i] w (TkPost K kk o nb w N i) := by
  have hw1 : Nk (w.alloc (.cells #[.int .i64 0, .slice none 0 0] 75)) (ext K w.heap.size kk) o nb N := h.kept (kp_below ((Below.refl _ _).alloc (Nat.le_refl _) _) (fun _ => False) _ _) (fun _ h => h)
  have hr1 : (w.alloc (.cells #[.int .i64 0, .slice none 0 0] 75)).heap[w.heap.size]? = some (.cells #[.int .i64 0, .slice none 0 0] 75 (0, 0)) := heap_alloc_new _ _
  have hb1 : Below w.heap.size w (w.alloc (.cells #[.int .i64 0, .slice none 0 0] 75)) := (Below.refl _ _).alloc (Nat.le_refl _) _
  have HL := hide (Look_any _ _ _ _ _ hw1 i)
  have HB1 := hide hb1
  have HR1 := hide hr1
  have HN := hide h
  have hnl := h.lt
  have HKK : Hid (¬ PNet o kk) := by rintro (e | e) <;> (subst e; exact hkk rfl)
  have HKq : Hid (∀ k, ¬ (o, k) = kk) := by intro k e; subst e; exact hkk rfl
  have HLn := hide hL
  clear hw1 hr1 hb1 h hL hkk
  by_cases hx : N.has i = true
  · have HX := hide hx
    go_enter Try.func22, Try.ntmps22
    go_wp2_with (go_at_call 16; refine HL.out.mono ?_; rintro e w2 ⟨hb2, ⟨_, m, g, c, hm, rfl, hg, ht⟩ | ⟨hf, _⟩⟩; rotate_left; (rw [HX.out] at hf; cases hf); have HM := hide hm; have HT := hide ht; have HB2 := hide hb2; clear hm ht hb2)
    simp only [World.size_alloc] at hg
    have hs2 : w.heap.size + 1 ≤ w2.heap.size := by have := HB2.out.size; simp at this; exact this
    have hr2 : w2.heap[w.heap.size]? = _ := (HB2.out.block w.heap.size (by simp)).trans HR1.out
    have hr3 : (w2.alloc (.cells #[.int .i64 m.to, .slice (some ⟨g, 0, none⟩) m.b.size c] 75)).heap[w.heap.size]? = _ := (Below.heap_alloc _ _ _ (by omega)).trans hr2
    have hx3 : (w2.alloc (.cells #[.int .i64 m.to, .slice (some ⟨g, 0, none⟩) m.b.size c] 75)).heap[w2.heap.size]? = some (.cells #[.int .i64 m.to, .slice (some ⟨g, 0, none⟩) m.b.size c] 75 (0, 0)) := heap_alloc_new _ _
    have ht3 : Told (w2.alloc (.cells #[.int .i64 m.to, .slice (some ⟨g, 0, none⟩) m.b.size c] 75)) g c m.b := HT.out.same (Below.heap_alloc _ _ _ HT.out.lt)
    have hb3 : Below w.heap.size w (w2.alloc (.cells #[.int .i64 m.to, .slice (some ⟨g, 0, none⟩) m.b.size c] 75)) := (HB1.out.trans (HB2.out.mono (by simp))).alloc (by omega) _
    generalize w2.alloc (.cells #[.int .i64 m.to, .slice (some ⟨g, 0, none⟩) m.b.size c] 75) = w3 at *
    obtain ⟨tb, htb⟩ : ∃ tb, w2.heap.size = tb := ⟨_, rfl⟩
    rw [htb] at hx3 hs2 ⊢
    have HT3 := hide ht3
    have hK := kp_below hb3 (fun _ => False) K kk
    have hn3 := HN.out.kept hK (fun _ h => h)
    have HD := hide (Drop_any w3.drew (ext K w.heap.size kk) o nb N (hn3.kept (p := fun _ => False) (Kp.refl _ _ _).drew (fun _ h => h)) HLn.out i)
    rw [hx] at HD
    have HK3 := hide hK
    have HR3 := hide hr3
    have HX3 := hide hx3
    obtain ⟨y0, y1⟩ := blk2 hr3
    have yf : ∀ j, w3.frozen? ⟨w.heap.size, j, none⟩ = false := fun j => by simp [World.frozen?, hr3]
    obtain ⟨x0, x1⟩ := blk2 hx3
    have l1 := lt_of_block hr3
    have l2 := lt_of_block hx3
    have n1 : ¬ tb = w.heap.size := by omega
    have n2 : ¬ w.heap.size = tb := by omega
    clear hr2 hr3 hx3 ht3 hK hn3 hb3 htb hx
    go_region_law (first | (go_simp; go_at_call 31; refine HD.out.mono ?_; rintro e w5 ⟨rfl, hn5, hk5⟩; have HN5 := hide hn5; have HK5 := hide hk5; have hr5 : w5.heap[w.heap.size]? = _ := (hk5.block w.heap.size l1 (by rw [ext_new K kk (Nat.le_refl _)]; exact HKK.out)).trans HR3.out; have hx5 : w5.heap[tb]? = _ := (hk5.block tb l2 (by rw [ext_new K kk (by omega)]; exact HKK.out)).trans HX3.out; have HR5 := hide hr5; obtain ⟨u0, u1⟩ := blk2 hr5; have uf : ∀ j, w5.frozen? ⟨w.heap.size, j, none⟩ = false := (fun j => by simp [World.frozen?, hr5]); obtain ⟨v0, v1⟩ := blk2 hx5; have l3 := lt_of_block hr5; have l4 := lt_of_block hx5; clear hn5 hk5 hr5 hx5))
    all_goals go_wp2
    all_goals
      have kp5 : Kp (PNet o) K (ext K w.heap.size kk) w w5 := (HK3.out.mono (fun _ h => h.elim)).drew.trans HK5.out
      have kpE : ∀ x y, Kp (PNet o) K (ext K w.heap.size kk) w ((w5.setCell ⟨w.heap.size, 0, none⟩ x).setCell ⟨w.heap.size, 1, none⟩ y) := fun x y => (kp5.setCell (Or.inl (Nat.le_refl _)) _ _).setCell (Or.inl (Nat.le_refl _)) _ _
      have nkE : ∀ x y, Nk ((w5.setCell ⟨w.heap.size, 0, none⟩ x).setCell ⟨w.heap.size, 1, none⟩ y) (ext K w.heap.size kk) o nb (N.dropped i) := fun x y => HN5.out.kept (p := fun k => k = kk) (((Kp.refl _ _ _).setCell (Or.inr (ext_new K kk (Nat.le_refl _))) _ _).setCell (Or.inr (ext_new K kk (Nat.le_refl _))) _ _) HKq.out
      have htE : ∀ x y, Told ((w5.setCell ⟨w.heap.size, 0, none⟩ x).setCell ⟨w.heap.size, 1, none⟩ y) g c m.b := fun x y => (HT3.out.same (w' := w5) (HK5.out.block g HT3.out.lt (by rw [ext_new K kk (by omega)]; exact HKK.out))).same ((Below.heap_setCell _ _ _ _ (by show g ≠ w.heap.size; omega)).trans (Below.heap_setCell _ _ _ _ (by show g ≠ w.heap.size; omega)))
      exact bodyPost_ret (res_ct rfl _ _ _ _ _ _ _ rfl (store2 HR5.out) Try.underlying75 Try.sizeFl) rfl ⟨nkE _ _, kpE _ _, Or.inl ⟨HX.out, m, g, c, HM.out, rfl, by omega, htE _ _⟩⟩
  · have hxf : N.has i = false := by simpa using hx
    have HX := hide hxf
    have HE : Hid (N.dropped i = N) := by show _ = _; unfold Nt.dropped; rw [if_neg hx]
    clear hx hxf
    go_enter Try.func22, Try.ntmps22
    go_wp2_with (go_at_call 16; refine HL.out.mono ?_; rintro e w2 ⟨hb2, ⟨hf, _⟩ | ⟨hf, rfl⟩⟩; (rw [HX.out] at hf; cases hf); have HB2 := hide hb2; clear hb2 hf)
    have hs2 : w.heap.size + 1 ≤ w2.heap.size := by have := HB2.out.size; simp at this; exact this
    have hr2 : w2.heap[w.heap.size]? = _ := (HB2.out.block w.heap.size (by simp)).trans HR1.out
    have hr3 : (w2.alloc (.cells #[.int .i64 0, .slice none 0 0] 75)).heap[w.heap.size]? = _ := (Below.heap_alloc _ _ _ (by omega)).trans hr2
    have hx3 : (w2.alloc (.cells #[.int .i64 0, .slice none 0 0] 75)).heap[w2.heap.size]? = some (.cells #[.int .i64 0, .slice none 0 0] 75 (0, 0)) := heap_alloc_new _ _
    have hb3 : Below w.heap.size w (w2.alloc (.cells #[.int .i64 0, .slice none 0 0] 75)) := (HB1.out.trans (HB2.out.mono (by simp))).alloc (by omega) _
    generalize w2.alloc (.cells #[.int .i64 0, .slice none 0 0] 75) = w3 at *
    obtain ⟨tb, htb⟩ : ∃ tb, w2.heap.size = tb := ⟨_, rfl⟩
    rw [htb] at hx3 hs2 ⊢
    have hK := kp_below hb3 (fun _ => False) K kk
    have HN3 := hide (HN.out.kept hK (fun _ h => h))
    have HK3 := hide hK
    have HR3 := hide hr3
    obtain ⟨y0, y1⟩ := blk2 hr3
    have yf : ∀ j, w3.frozen? ⟨w.heap.size, j, none⟩ = false := fun j => by simp [World.frozen?, hr3]
    obtain ⟨x0, x1⟩ := blk2 hx3
    have l1 := lt_of_block hr3
    have l2 := lt_of_block hx3
    have n1 : ¬ tb = w.heap.size := by omega
    have n2 : ¬ w.heap.size = tb := by omega
    clear hr2 hr3 hx3 hK hb3 htb
    go_region
    all_goals go_wp2
    all_goals
      have kpE : ∀ x y, Kp (PNet o) K (ext K w.heap.size kk) w ((w3.drew.setCell ⟨w.heap.size, 0, none⟩ x).setCell ⟨w.heap.size, 1, none⟩ y) := fun x y => (((HK3.out.mono (fun _ h => h.elim)).drew).setCell (Or.inl (Nat.le_refl _)) _ _).setCell (Or.inl (Nat.le_refl _)) _ _
      have nkE : ∀ x y, Nk ((w3.drew.setCell ⟨w.heap.size, 0, none⟩ x).setCell ⟨w.heap.size, 1, none⟩ y) (ext K w.heap.size kk) o nb (N.dropped i) := fun x y => by
        rw [HE.out]
        exact HN3.out.kept (p := fun k => k = kk) ((((Kp.refl _ _ _).drew).setCell (Or.inr (ext_new K kk (Nat.le_refl _))) _ _).setCell (Or.inr (ext_new K kk (Nat.le_refl _))) _ _) HKq.out
      exact bodyPost_ret (res_ct rfl _ _ _ _ _ _ _ rfl (store2 HR3.out) Try.underlying75 Try.sizeFl) rfl ⟨nkE _ _, kpE _ _, Or.inr ⟨HX.out, rfl⟩⟩
end Go.Proofs.Ythgggjdefhgfiaa
