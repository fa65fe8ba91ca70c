import Derived.Test.YtajadmkacnfbgaaGreatRbH
namespace Go.Proofs.YtajadmkacnfbgaaGreat.RB
open Go.RowKit Go.Proofs.YtajadmkacnfbgaaGreat

theorem Bk.doneTo {w : World} {N b : Nat} {L M : Value} {A turn done used : Nat} {ks : List Kl} (h : Bk w N b L M A turn done used ks) (t : Nat) : Bk (w.setCell ⟨b, 55, none⟩ (.int .i64 (t : Int))) N b L M A turn t used ks := by
  have hs : ∀ j, j ≠ b → (w.setCell ⟨b, 55, none⟩ (.int .i64 (t : Int))).heap[j]? = w.heap[j]? := fun j hj => Below.heap_setCell _ _ _ _ hj
  have hr : ∀ {B0 n s0 : Nat} {ty : TypeId} {v : Value} {xs : List Value}, w.ownsRow B0 ty s0 v n xs → 45 ≠ ty → ∀ g, v.ownBlock = some g → (w.setCell ⟨b, 55, none⟩ (.int .i64 (t : Int))).heap[g]? = w.heap[g]? := fun hv ht g e => hs g (fun e' => owns_ne hv h.blk ht (by rw [e, e']))
  exact ⟨by rw [block_set h.blk]; rfl, owns_kept' h.ls (hr h.ls (by decide)), owns_kept' h.ms (hr h.ms (by decide)), fun x hx => owns_kept' (h.rows x hx) (hr (h.rows x hx) (by decide)), h.num, h.most, h.one⟩

set_option maxRecDepth 100000 in
set_option maxHeartbeats 2000000 in
theorem bk_grow (w : World) (N b : Nat) (L0 M0 : Value) (A turn done used : Nat) (ks : List Kl) (h : Bk w N b L0 M0 A turn done used ks) (hN : N ≤ w.heap.size) (hA : A ≤ ks.length) (hks : ks.length ≤ 1000000) (hl : ∀ j x, A ≤ j → ks[j]? = some x → x.l ≤ 99999999000) :
    Calls Tryz.prog 23 #[.pointer (some ⟨b, 0, none⟩)] w fun e w' => e = .returned (.tuple #[]) ∧ ∃ L M ks2, Gr w L0 M0 ks w' N b L M ks2.length turn turn used ks2 ∧ ks2.length ≤ ks.length + 32 * (ks.length - A) := by
  have HC := hide (bk_growRights w N b L0 M0 A turn done used ks h hN hA hks hl)
  have HB0 := hide h.blk
  clear h hl
  go_enter Tryz.func23, Tryz.ntmps23
  go_wp2_with fail
  refine (bk_growBytes _ b L0 M0 A turn done used HB0.out).mono ?_
  rintro e w2 ⟨rfl, hw2⟩
  rw [hw2]
  clear hw2 w2
  go_wp2_with fail
  refine (bk_growRows _ b L0 M0 A turn done used HB0.out).mono ?_
  rintro e w2 ⟨rfl, hw2⟩
  rw [hw2]
  clear hw2 w2
  go_wp2_with fail
  refine (bk_growTexts _ b L0 M0 A turn done used HB0.out).mono ?_
  rintro e w2 ⟨rfl, hw2⟩
  rw [hw2]
  clear hw2 w2
  go_wp2_with fail
  refine (bk_growInts _ b L0 M0 A turn done used HB0.out).mono ?_
  rintro e w2 ⟨rfl, hw2⟩
  rw [hw2]
  clear hw2 w2
  go_wp2_with fail
  refine (bk_growWords _ b L0 M0 A turn done used HB0.out).mono ?_
  rintro e w2 ⟨rfl, hw2⟩
  rw [hw2]
  clear hw2 w2
  go_wp2_with fail
  refine (bk_growBools _ b L0 M0 A turn done used HB0.out).mono ?_
  rintro e w2 ⟨rfl, hw2⟩
  rw [hw2]
  clear hw2 w2
  go_wp2_with fail
  refine (bk_growLines _ b L0 M0 A turn done used HB0.out).mono ?_
  rintro e w2 ⟨rfl, hw2⟩
  rw [hw2]
  clear hw2 w2
  go_wp2_with fail
  refine (bk_growGuards _ b L0 M0 A turn done used HB0.out).mono ?_
  rintro e w2 ⟨rfl, hw2⟩
  rw [hw2]
  clear hw2 w2
  go_wp2_with fail
  refine (bk_growSets _ b L0 M0 A turn done used HB0.out).mono ?_
  rintro e w2 ⟨rfl, hw2⟩
  rw [hw2]
  clear hw2 w2
  go_wp2_with fail
  refine HC.out.mono ?_
  rintro e w1 ⟨rfl, L, M, ks2, hg, hc⟩
  have HG := hide hg
  have HCn := hide hc
  clear hg hc HC
  go_wp2_with fail
  refine (bk_growPrices _ b L M ks2.length turn done used HG.out.bk.blk).mono ?_
  rintro e w2 ⟨rfl, rfl⟩
  go_wp2_with fail
  refine (bk_growHelds _ b L M ks2.length turn done used HG.out.bk.blk).mono ?_
  rintro e w2 ⟨rfl, rfl⟩
  go_wp2_with fail
  refine (bk_growPools _ b L M ks2.length turn done used HG.out.bk.blk).mono ?_
  rintro e w2 ⟨rfl, rfl⟩
  go_wp2_with fail
  refine (bk_growActs _ b L M ks2.length turn done used HG.out.bk.blk).mono ?_
  rintro e w2 ⟨rfl, rfl⟩
  go_wp2_with fail
  refine (bk_growEntries _ b L M ks2.length turn done used HG.out.bk.blk).mono ?_
  rintro e w2 ⟨rfl, rfl⟩
  go_wp2_with fail
  refine (bk_growFlights _ b L M ks2.length turn done used HG.out.bk.blk).mono ?_
  rintro e w2 ⟨rfl, rfl⟩
  go_wp2_with fail
  refine (bk_growFiles _ b L M ks2.length turn done used HG.out.bk.blk).mono ?_
  rintro e w2 ⟨rfl, rfl⟩
  go_wp2_with fail
  refine (bk_growItems _ b L M ks2.length turn done used HG.out.bk.blk).mono ?_
  rintro e w2 ⟨rfl, rfl⟩
  have c54 := bk_cell HG.out.bk.blk 54 (.int .i64 (turn : Int)) rfl
  have c55 := bk_cell HG.out.bk.blk 55 (.int .i64 (done : Int)) rfl
  have cf := bk_thaw HG.out.bk.blk
  have HG2 : Hid (Gr w L0 M0 ks (w2.setCell ⟨b, 55, none⟩ (.int .i64 (turn : Int))) N b L M ks2.length turn turn used ks2) := ⟨HG.out.bk.doneTo turn, HG.out.pre, HG.out.len, HG.out.own, HG.out.lo, HG.out.mo, HG.out.kept.trans (kept_but ((But.refl b w2).setCell (p := ⟨b, 55, none⟩) (Or.inl rfl) _)) (fun i e => Or.inl (Or.inl e))⟩
  go_wp2
  go_end0
  exact ⟨rfl, L, M, ks2, HG2.out, HCn.out⟩

theorem Gr.draws {w wr : World} {L0 M0 L M : Value} {ks ks2 : List Kl} {N b A turn done used : Nat} (h : Gr w L0 M0 ks wr N b L M A turn done used ks2) (q : Nat) : Gr w L0 M0 ks (wr.drewN q) N b L M A turn done used ks2 := h.below (bad_drews wr q)
theorem Bk.draws {w : World} {N b : Nat} {L M : Value} {A turn done used : Nat} {ks : List Kl} (h : Bk w N b L M A turn done used ks) (q : Nat) : Bk (w.drewN q) N b L M A turn done used ks := h.below (bad_drews w q)

set_option maxRecDepth 100000 in
set_option maxHeartbeats 1000000 in
theorem bk_look (w : World) (N b : Nat) (L0 M0 : Value) (A turn done used : Nat) (ks : List Kl) (h : Bk w N b L0 M0 A turn done used ks) (hN : N ≤ w.heap.size) (hA : A ≤ ks.length) (hks : ks.length ≤ 1000000) (hl : ∀ j x, A ≤ j → ks[j]? = some x → x.l ≤ 99999999000) :
    Calls Tryz.prog 10 #[.pointer (some ⟨b, 0, none⟩)] w fun e w' => e = .returned (.bool true) ∧ ∃ L M ks2 A2 done2, Gr w L0 M0 ks w' N b L M A2 turn done2 used ks2 ∧ ks2.length ≤ ks.length + 32 * (ks.length - A) ∧ ((A2 = ks2.length ∧ done2 = turn) ∨ (A2 = A ∧ ks2 = ks ∧ done = turn ∧ done2 = done)) := by
  have HK := hide h
  have HLs := hide hl
  have HG0 : Hid (Gr w L0 M0 ks w N b L0 M0 A turn done used ks) := ⟨h, fun _ _ => rfl, Nat.le_refl _, fun x hx g e => Or.inl ⟨x, hx, e⟩, Or.inl rfl, Or.inl rfl, Kept.refl _ _⟩
  clear h hl
  go_enter Tryz.func10, Tryz.ntmps10
  go_wp2_with fail
  refine (bk_holds w N b L0 M0 A turn done used ks HK.out).mono ?_
  rintro e w1 ⟨rfl, hb1⟩
  have HK1 := hide (HK.out.below hb1)
  have HG1 := hide (HG0.out.below hb1)
  have HKe : Hid (Kept (fun _ => False) w w1) := kept_below hb1
  have HN1 : Hid (N ≤ w1.heap.size) := Nat.le_trans hN hb1.size
  have HSz : Hid (w.heap.size ≤ w1.heap.size) := hb1.size
  clear hb1
  clear HK HG0
  have c54 := bk_cell HK1.out.blk 54 (.int .i64 (turn : Int)) rfl
  have c55 := bk_cell HK1.out.blk 55 (.int .i64 (done : Int)) rfl
  by_cases hd : done = turn
  · have hb : ((done : Int) == (turn : Int)) = true := by simp; omega
    have HD := hide hd
    clear hd
    go_wp2
    go_quiet (fail)
    go_wp2
    go_ret
    exact ⟨rfl, L0, M0, ks, A, done, HG1.out.draws nq, by omega, Or.inr ⟨rfl, rfl, HD.out, rfl⟩⟩
  · have hb : ((done : Int) == (turn : Int)) = false := by simp; omega
    clear hd
    go_wp2
    go_quiet (fail)
    have HK2 := hide (HK1.out.draws nq)
    have HKe2 : Hid (Kept (fun _ => False) w (w1.drewN nq)) := HKe.out.trans (kept_below (S := fun _ => False) (bad_drews w1 nq)) (fun _ e => e.elim)
    have HN2 : Hid (N ≤ (w1.drewN nq).heap.size) := HN1.out
    have HSz2 : Hid (w.heap.size ≤ (w1.drewN nq).heap.size) := HSz.out
    generalize w1.drewN nq = w2 at *
    clear c54 c55 HK1 HG1
    go_wp2_with fail
    refine (bk_grow w2 N b L0 M0 A turn done used ks HK2.out HN2.out hA hks HLs.out).mono ?_
    rintro e w3 ⟨rfl, L, M, ks2, hg, hc⟩
    have HG3 : Hid (Gr w L0 M0 ks w3 N b L M ks2.length turn turn used ks2) := ⟨hg.bk, hg.pre, hg.len, fun x hx g e => (hg.own x hx g e).imp id (fun h => Nat.le_trans HSz2.out h), hg.lo.imp id (fun ⟨g, e, h⟩ => ⟨g, e, Nat.le_trans HSz2.out h⟩), hg.mo.imp id (fun ⟨g, e, h⟩ => ⟨g, e, Nat.le_trans HSz2.out h⟩), ⟨hg.kept.os.trans HKe2.out.os, hg.kept.tape.trans HKe2.out.tape, hg.kept.output.trans HKe2.out.output, Nat.le_trans HKe2.out.size hg.kept.size, fun k hk hn => (hg.kept.block k (Nat.lt_of_lt_of_le hk HSz2.out) hn).trans (HKe2.out.block k hk (fun e => e))⟩⟩
    have HCn := hide hc
    clear hg hc
    go_wp2_with fail
    refine (bk_holds w3 N b L M ks2.length turn turn used ks2 HG3.out.bk).mono ?_
    rintro e w4 ⟨rfl, hb4⟩
    have HG4 := hide (HG3.out.below hb4)
    clear hb4
    go_wp2
    go_ret
    exact ⟨rfl, L, M, ks2, ks2.length, turn, HG4.out, HCn.out, Or.inl ⟨rfl, rfl⟩⟩

end Go.Proofs.YtajadmkacnfbgaaGreat.RB
