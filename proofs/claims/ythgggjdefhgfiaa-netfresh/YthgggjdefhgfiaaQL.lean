import Derived.Test.YthgggjdefhgfiaaQP
namespace Go.Proofs.Ythgggjdefhgfiaa.Q
open Go.RowKit

theorem Bk.draws {w : World} {N b : Nat} {L M : Value} {A turn done used : Nat} {ks : List Kl} (h : Bk w N b L M A turn done used ks) (q : Nat) : Bk (w.drewN q) N b L M A turn done used ks :=
  ⟨h.blk, owns_draws q h.ls, owns_draws q h.ms, fun k hk => owns_draws q (h.rows k hk), h.num, h.most, h.one⟩

set_option maxRecDepth 100000 in
set_option maxHeartbeats 400000 in
theorem bk_holds (w : World) (N b : Nat) (L M : Value) (A turn done used : Nat) (ks : List Kl) (h : Bk w N b L M A turn done used ks) :
    Calls Try.prog 39 #[.pointer (some ⟨b, 0, none⟩)] w fun e w' => e = .returned (.bool true) ∧ ∃ q, w' = w.drewN q := by
  have HK := hide h
  clear h
  go_enter Try.func39, Try.ntmps39
  go_wp2_with fail
  refine (bk_plain w N b L M A turn done used ks HK.out).mono ?_
  rintro e w1 ⟨rfl, q, rfl⟩
  have HB : Hid ((w.drewN q).heap[b]? = some (.cells (bkCells L M A turn done used) 50 (0, 0))) := HK.out.blk
  generalize hw : w.drewN q = w1 at *
  have HW := hide hw
  clear hw
  go_wp2_with fail
  refine (bk_kept w1 b L M A turn done used HB.out).mono ?_
  rintro e w2 ⟨rfl, rfl⟩
  go_wp2_with fail
  refine (bk_told _ b L M A turn done used HB.out).mono ?_
  rintro e w2 ⟨rfl, rfl⟩
  go_wp2_with fail
  refine (bk_held _ b L M A turn done used HB.out).mono ?_
  rintro e w2 ⟨rfl, rfl⟩
  go_wp2_with fail
  refine (bk_sent _ b L M A turn done used HB.out).mono ?_
  rintro e w2 ⟨rfl, rfl⟩
  go_wp2
  go_ret
  exact ⟨rfl, q, HW.out.symm⟩

set_option maxRecDepth 100000 in
set_option maxHeartbeats 400000 in
theorem bk_tight (w : World) (b : Nat) (L M : Value) (A turn done used n : Nat) (hu : used ≤ 16777216) (hn : n ≤ 1000000000000000) (h : w.heap[b]? = some (.cells (bkCells L M A turn done used) 50 (0, 0))) :
    Calls Try.prog 76 #[.pointer (some ⟨b, 0, none⟩), .int .i64 n] w fun e w' => (16777216 < used + n ∧ e = .returned (.bool true) ∧ w' = w) ∨ (¬ 16777216 < used + n ∧ e = .returned (.bool false) ∧ w' = w.setCell ⟨b, 56, none⟩ (.int .i64 ((used + n : Nat) : Int))) := by
  have c := bk_cell h 56 (.int .i64 (used : Int)) rfl
  have cf := bk_thaw h
  clear h
  have hs : (used : Int) + (n : Int) = ((used + n : Nat) : Int) := by omega
  have hs2 : used + n ≤ 2000000000000000 := by omega
  generalize used + n = s at *
  by_cases hb : 16777216 < s
  · have l1 : (16777216 : Int) < (s : Int) := by omega
    go_enter Try.func76, Try.ntmps76
    go_wp2
    go_ret
    show _ ∨ _
    exact Or.inl ⟨hb, rfl, rfl⟩
  · have l1 : ¬ (16777216 : Int) < (s : Int) := by omega
    go_enter Try.func76, Try.ntmps76
    go_wp2
    go_ret
    exact ⟨rfl, rfl⟩

end Go.Proofs.Ythgggjdefhgfiaa.Q
