import Derived.Test.YtajadmkacnfbgaaGreatRbP
namespace Go.Proofs.YtajadmkacnfbgaaGreat.RB
open Go.RowKit Go.Proofs.YtajadmkacnfbgaaGreat

theorem Bk.below {w w' : World} {N b : Nat} {L M : Value} {A turn done used : Nat} {ks : List Kl} (h : Bk w N b L M A turn done used ks) (hb : Below w.heap.size w w') : Bk w' N b L M A turn done used ks :=
  ⟨(hb.block b (lt_of_block h.blk)).trans h.blk, owns_kept' h.ls (fun g e => hb.block g (owns_lt h.ls g e)), owns_kept' h.ms (fun g e => hb.block g (owns_lt h.ms g e)), fun k hk => owns_kept' (h.rows k hk) (fun g e => hb.block g (owns_lt (h.rows k hk) g e)), h.num, h.most, h.one⟩

set_option maxRecDepth 100000 in
set_option maxHeartbeats 400000 in
theorem bk_holds (w : World) (N b : Nat) (L M : Value) (A turn done used : Nat) (ks : List Kl) (h : Bk w N b L M A turn done used ks) :
    Calls Tryz.prog 22 #[.pointer (some ⟨b, 0, none⟩)] w fun e w' => e = .returned (.bool true) ∧ Below w.heap.size w w' := by
  have HK := hide h
  clear h
  go_enter Tryz.func22, Tryz.ntmps22
  go_wp2_with fail
  refine (bk_plain w b L M A turn done used HK.out.blk).mono ?_
  rintro e w2 ⟨rfl, rfl⟩
  go_wp2_with fail
  refine (bk_kept _ b L M A turn done used HK.out.blk).mono ?_
  rintro e w2 ⟨rfl, rfl⟩
  go_wp2_with fail
  refine (bk_told _ N b L M A turn done used ks HK.out).mono ?_
  rintro e w3 ⟨rfl, hb⟩
  have HB := hide hb
  have HK3 := hide (HK.out.below hb)
  clear hb
  go_wp2_with fail
  refine (bk_held _ b L M A turn done used HK3.out.blk).mono ?_
  rintro e w4 ⟨rfl, rfl⟩
  go_wp2_with fail
  refine (bk_sent _ b L M A turn done used HK3.out.blk).mono ?_
  rintro e w4 ⟨rfl, rfl⟩
  go_wp2
  go_ret
  exact ⟨rfl, HB.out⟩

set_option maxRecDepth 100000 in
set_option maxHeartbeats 400000 in
theorem bk_tight (w : World) (b : Nat) (L M : Value) (A turn done used n : Nat) (hu : used ≤ 16777216) (hn : n ≤ 1000000000000000) (h : w.heap[b]? = some (.cells (bkCells L M A turn done used) 45 (0, 0))) :
    Calls Tryz.prog 21 #[.pointer (some ⟨b, 0, none⟩), .int .i64 n] w fun e w' => (16777216 < used + n ∧ e = .returned (.bool true) ∧ w' = w) ∨ (¬ 16777216 < used + n ∧ e = .returned (.bool false) ∧ w' = w.setCell ⟨b, 56, none⟩ (.int .i64 ((used + n : Nat) : Int))) := by
  have c := bk_cell h 56 (.int .i64 (used : Int)) rfl
  have cf := bk_thaw h
  clear h
  have hs : (used : Int) + (n : Int) = ((used + n : Nat) : Int) := by omega
  have hs2 : used + n ≤ 2000000000000000 := by omega
  generalize used + n = s at *
  by_cases hb : 16777216 < s
  · have l1 : (16777216 : Int) < (s : Int) := by omega
    go_enter Tryz.func21, Tryz.ntmps21
    go_wp2
    go_ret
    show _ ∨ _
    exact Or.inl ⟨hb, rfl, rfl⟩
  · have l1 : ¬ (16777216 : Int) < (s : Int) := by omega
    go_enter Tryz.func21, Tryz.ntmps21
    go_wp2
    go_ret
    exact ⟨rfl, rfl⟩

end Go.Proofs.YtajadmkacnfbgaaGreat.RB
