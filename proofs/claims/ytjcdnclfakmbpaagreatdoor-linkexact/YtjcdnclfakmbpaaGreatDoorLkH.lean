import Derived.Laws.EntriesVeiled
import Derived.Test.YtjcdnclfakmbpaaGreatDoorRfA
namespace Go.Proofs.YtjcdnclfakmbpaaGreatDoor
open Go.RowKit
theorem pblk3 {w : World} {b : Nat} {x0 x1 x2 : Value} {t : TypeId} (h : w.heap[b]? = some (.cells #[x0, x1, x2] t (0, 0))) :
    w.cell? ⟨b, 0, none⟩ = some x0 ∧ w.cell? ⟨b, 1, none⟩ = some x1 ∧ w.cell? ⟨b, 2, none⟩ = some x2 ∧ (∀ o, w.frozen? ⟨b, o, none⟩ = false) :=
  ⟨by simp [World.cell?, h], by simp [World.cell?, h], by simp [World.cell?, h], fun o => by simp [World.frozen?, h]⟩
set_option maxRecDepth 100000 in
set_option maxHeartbeats 1000000 in
theorem preset0 (w : World) (b : Nat) (x0 x1 x2 : Value) (h : w.heap[b]? = some (.cells #[x0, x1, x2] 104 (0, 0))) :
    Calls Tryz.prog 52 #[.pointer (some ⟨b, 0, none⟩)] w fun e w' => e = .returned (.tuple #[]) ∧ w'.heap[b]? = some (.cells #[.int .i64 0, .int .i64 1, x2] 104 (0, 0)) ∧ Onl b w w' := by
  obtain ⟨c0, c1, -, cf⟩ := pblk3 h
  have H := hide h
  clear h
  go_enter Tryz.func52, Tryz.ntmps52
  go_wp2
  go_end0
  exact ⟨rfl, C.block_set (C.block_set H.out (i := 0) (.int .i64 0)) (i := 1) (.int .i64 1), ((Onl.refl b w).set 0 _).set 1 _⟩
def PnPost (w : World) (z : Int) (e : Ending) (w' : World) : Prop :=
    (∃ m : Nat, z = (m : Int) ∧ 1 ≤ m ∧ m ≤ 64 ∧ e = .returned (.tuple #[.pointer (some ⟨w.heap.size, 0, none⟩), .int .i64 0]) ∧ w'.heap[w.heap.size]? = some (.cells #[.int .i64 0, .int .i64 1, bhV (some m)] 104 (0, 0)) ∧ Below w.heap.size w w' ∧ w'.heap.size = w.heap.size + 1) ∨ (¬ (1 ≤ z ∧ z ≤ 64) ∧ e = .returned (.tuple #[.pointer none, .int .i64 70]) ∧ w' = w)
set_option maxRecDepth 100000 in
set_option maxHeartbeats 1000000 in
theorem pnew_any (w : World) (z : Int) : Calls Tryz.prog 34 #[.int .i64 z] w (PnPost w z) := by
  by_cases h1 : z < 1
  · have HN : Hid (¬ (1 ≤ z ∧ z ≤ 64)) := by show ¬ _; omega
    go_enter Tryz.func34, Tryz.ntmps34
    go_wp2
    go_ret2
    exact Or.inr ⟨HN.out, rfl, rfl⟩
  · by_cases h2 : 64 < z
    · have HN : Hid (¬ (1 ≤ z ∧ z ≤ 64)) := by show ¬ _; omega
      go_enter Tryz.func34, Tryz.ntmps34
      go_wp2
      go_ret2
      exact Or.inr ⟨HN.out, rfl, rfl⟩
    · obtain ⟨m, rfl⟩ := Int.eq_ofNat_of_zero_le (show 0 ≤ z by omega)
      have HM : Hid (1 ≤ m ∧ m ≤ 64) := by show _ ∧ _; omega
      obtain ⟨w1, hw1⟩ : ∃ w1, w.alloc (.cells #[.int .i64 0, .int .i64 0, bhV (some m)] 104) = w1 := ⟨_, rfl⟩
      have hk : w1.heap[w.heap.size]? = some (.cells #[.int .i64 0, .int .i64 0, bhV (some m)] 104 (0, 0)) := by rw [← hw1]; exact heap_alloc_new _ _
      have HB : Hid (Below w.heap.size w w1) := by show Below _ _ _; rw [← hw1]; exact (Below.refl _ _).alloc (Nat.le_refl _) _
      have HZ : Hid (w1.heap.size = w.heap.size + 1) := by show _ = _; rw [← hw1]; simp
      have HR := hide (preset0 w1 w.heap.size _ _ _ hk)
      have HW := hide hw1
      clear hk hw1
      unfold bhV at HW
      go_enter Tryz.func34, Tryz.ntmps34
      go_upto_region 4 with (fail)
      rw [HW.out]
      go_wp2_with fail
      refine HR.out.mono ?_
      rintro e w2 ⟨rfl, hk2, ho2⟩
      have HK := hide hk2
      have HO := hide ho2
      clear hk2 ho2
      go_wp2
      go_ret2
      exact Or.inl ⟨m, rfl, HM.out.1, HM.out.2, rfl, HK.out, HO.out.below HB.out (Nat.le_refl _), by rw [HO.out.size]; exact HZ.out⟩
def Lk.new (me other : Int) (life : Nat) (window most : Int) : Lk :=
  { me := me, other := other, life := life, window := max window 0, known := 0, row := [], numbered := 0, gone := 0, handed := 0, ack := false, left := 0, gap := if 1 ≤ most ∧ most ≤ 64 then 1 else 0, lim := if 1 ≤ most ∧ most ≤ 64 then some most.toNat else none, asked := false, paced := true }
set_option maxRecDepth 100000 in
set_option maxHeartbeats 2000000 in
theorem new_any (w : World) (me other : Int) (life : Nat) (window most : Int) :
    Calls Tryz.prog 13 #[.int .i64 me, .int .i64 other, .int .u64 (life : Int), .int .i64 window, .int .i64 most] w fun e w' => e = .returned (.pointer (some ⟨w.heap.size, 0, none⟩)) ∧ Lb w' w.heap.size (Lk.new me other life window most) (.slice none 0 0) ∧ Below w.heap.size w w' := by
  have HL : Hid (∀ m : Nat, most = (m : Int) → 1 ≤ m → m ≤ 64 → lkC (Lk.new me other life window most) (.slice none 0 0) = #[.int .i64 me, .int .i64 other, .int .u64 (life : Int), .int .i64 (max window 0), .int .u64 0, .slice none 0 0, .int .u64 0, .int .u64 0, .int .u64 0, .bool false, .int .i64 0, .int .i64 1, bhV (some m), .bool false, .bool true]) := by
    intro m e h1 h2
    subst e
    unfold Lk.new lkC
    rw [if_pos (by omega), if_pos (by omega)]
    simp
  have HL0 : Hid (¬ (1 ≤ most ∧ most ≤ 64) → lkC (Lk.new me other life window most) (.slice none 0 0) = #[.int .i64 me, .int .i64 other, .int .u64 (life : Int), .int .i64 (max window 0), .int .u64 0, .slice none 0 0, .int .u64 0, .int .u64 0, .int .u64 0, .bool false, .int .i64 0, .int .i64 0, Value.nilFunc, .bool false, .bool true]) := by
    intro h
    unfold Lk.new lkC
    rw [if_neg h, if_neg h]
    simp [bhV]
  unfold Lb
  generalize lkC (Lk.new me other life window most) (.slice none 0 0) = CS at *
  generalize hwin : max window 0 = win at *
  have hwin2 : max 0 window = win := by omega
  obtain ⟨w1, hw1⟩ : ∃ w1, w.alloc (.cells #[.int .i64 me, .int .i64 other, .int .u64 (life : Int), .int .i64 win, .int .u64 0, .slice none 0 0, .int .u64 0, .int .u64 0, .int .u64 0, .bool false, .int .i64 0, .int .i64 0, Value.nilFunc, .bool false, .bool true] 106) = w1 := ⟨_, rfl⟩
  have hk : w1.heap[w.heap.size]? = some (.cells #[.int .i64 me, .int .i64 other, .int .u64 (life : Int), .int .i64 win, .int .u64 0, .slice none 0 0, .int .u64 0, .int .u64 0, .int .u64 0, .bool false, .int .i64 0, .int .i64 0, Value.nilFunc, .bool false, .bool true] 106 (0, 0)) := by rw [← hw1]; exact heap_alloc_new _ _
  have HB : Hid (Below w.heap.size w w1) := by show Below _ _ _; rw [← hw1]; exact (Below.refl _ _).alloc (Nat.le_refl _) _
  have HZ : Hid (w1.heap.size = w.heap.size + 1) := by show _ = _; rw [← hw1]; simp
  have HP := hide (pnew_any w1 most)
  have HK := hide hk
  have HW := hide hw1
  clear hk hw1
  go_enter Tryz.func13, Tryz.ntmps13
  go_upto_region 2 with (fail)
  rw [HW.out]
  go_wp2_with fail
  refine HP.out.mono ?_
  rintro e w2 (⟨m, hm, m1, m2, rfl, hk2, hb2, hs2⟩ | ⟨hno, rfl, rfl⟩)
  · have HK2 := hide ((hb2.block _ (by rw [HZ.out]; exact Nat.lt_succ_self _)).trans HK.out)
    have HLm := hide (HL.out m hm m1 m2)
    obtain ⟨c0, c1, c2, c3, c4, c5, c6, c7, c8, c9, c10, c11, c12, c13, c14, cf⟩ := blk15 HK2.out
    obtain ⟨p0, p1, p2, -⟩ := pblk3 hk2
    have HB2 := hide (HB.out.trans (hb2.mono HB.out.size))
    clear hk2 hb2 hs2 hm
    unfold bhV at p2
    go_wp2
    go_ret
    refine ⟨rfl, ?_, ((HB2.out.setCell (Nat.le_refl _) _).setCell (Nat.le_refl _) _).setCell (Nat.le_refl _) _⟩
    rw [HLm.out]
    exact C.block_set (C.block_set (C.block_set HK2.out (i := 10) (.int .i64 0)) (i := 11) (.int .i64 1)) (i := 12) (bhV (some m))
  · have HLn := hide (HL0.out hno)
    go_wp2
    go_ret
    exact ⟨rfl, by rw [HLn.out]; exact HK.out, HB.out⟩
set_option maxRecDepth 100000 in
theorem known_any (w : World) (b : Nat) (L : Lk) (rv : Value) (h : Lb w b L rv) :
    Calls Tryz.prog 14 #[.pointer (some ⟨b, 0, none⟩)] w fun e w' => e = .returned (.bool (decide (0 < L.known))) ∧ w' = w := by
  obtain ⟨-, -, -, -, c4, -⟩ := blk15 h
  clear h
  have HD : Hid (decide (0 < L.known) = decide ((0 : Int) < (L.known : Int))) := decide_eq_decide.2 (by omega)
  rw [HD.out]
  go_enter Tryz.func14, Tryz.ntmps14
  go_wp2
  go_ret
  exact ⟨by simp, rfl⟩
set_option maxRecDepth 100000 in
theorem rlen_any (w : World) (b : Nat) (L : Lk) (a : Option Addr) (n c : Nat) (h : Lb w b L (.slice a n c)) :
    Calls Tryz.prog 35 #[.pointer (some ⟨b, 5, none⟩)] w fun e w' => e = .returned (.int .i64 (n : Int)) ∧ w' = w := by
  obtain ⟨-, -, -, -, -, c5, -⟩ := blk15 h
  clear h
  go_enter Tryz.func35, Tryz.ntmps35
  go_wp2
  go_ret
  exact ⟨rfl, rfl⟩
set_option maxRecDepth 100000 in
theorem len_any (w : World) (b : Nat) (L : Lk) (a : Option Addr) (n c : Nat) (h : Lb w b L (.slice a n c)) :
    Calls Tryz.prog 15 #[.pointer (some ⟨b, 0, none⟩)] w fun e w' => e = .returned (.int .i64 (n : Int)) ∧ w' = w := by
  have HR := hide (rlen_any w b L a n c h)
  clear h
  go_enter Tryz.func15, Tryz.ntmps15
  go_wp2_with fail
  refine HR.out.mono ?_
  rintro e w1 ⟨rfl, rfl⟩
  go_wp2
  go_ret
  exact ⟨rfl, rfl⟩
end Go.Proofs.YtjcdnclfakmbpaaGreatDoor
