import Derived.Test.YtecbidaljchmoaaRpN
namespace Go.Proofs.Ytecbidaljchmoaa
open Go.RowKit

set_option maxRecDepth 100000 in
set_option maxHeartbeats 1000000 in
theorem own_any (w : World) (x : Eda) (A : Array Value) (hA : x.arr = A) (till : Int) (t : Bool) (ht : ownB till x = t) :
    Calls Try.prog 31 #[.agg A, .int .i64 till] w fun e w' => e = .returned (.bool t) ∧ Below w.heap.size w w' := by
  have a1 : A[1]? = some (.int .i64 x.ac.till) := by rw [← hA]; rfl
  have a3 : A[3]? = some (.int .i64 x.ac.kind) := by rw [← hA]; rfl
  unfold ownB at ht
  obtain ⟨tl, htl⟩ : ∃ tl, x.ac.till = tl := ⟨_, rfl⟩
  obtain ⟨kd, hkd⟩ : ∃ kd, x.ac.kind = kd := ⟨_, rfl⟩
  rw [htl] at a1 ht
  rw [hkd] at a3 ht
  clear htl hkd hA
  by_cases hk : kd = 0
  · subst hk
    obtain rfl : false = t := by simpa using ht
    clear ht
    go_enter Try.func31, Try.ntmps31
    go_wp2
    go_ret
    exact ⟨rfl, (Below.refl _ w).alloc (Nat.le_refl _) _⟩
  · have hk1 : (kd != 0) = true := by simp [hk]
    by_cases hl : tl = till
    · subst hl
      obtain rfl : true = t := by simpa [hk] using ht
      clear ht
      go_enter Try.func31, Try.ntmps31
      go_wp2
      go_ret
      exact ⟨rfl, (Below.refl _ w).alloc (Nat.le_refl _) _⟩
    · obtain rfl : false = t := by simpa [hk, hl] using ht
      have hl2 : (tl == till) = false := by simp [hl]
      clear ht
      go_enter Try.func31, Try.ntmps31
      go_wp2
      go_ret
      exact ⟨rfl, (Below.refl _ w).alloc (Nat.le_refl _) _⟩

/-- Between two rounds of the document's Of. -/
def Os (w wr : World) (l : Value) (its : List Itm) (ds : List Itd) (k : Nat) : Prop := Its w.heap.size wr l its ∧ its.map Itm.d = ds ∧ its.length ≤ k ∧ Below w.heap.size w wr

set_option maxRecDepth 100000 in
set_option maxHeartbeats 8000000 in
theorem rof_any (w : World) (s : Sli Eda) (b : Sli Acd) (till : Int) (hs : Ents w s) (hb : Acts w b) :
    Calls Try.prog 15 #[.slice s.p s.n s.c, .slice b.p b.n b.c, .int .i64 till] w fun e w' => ∃ v its, e = .returned v ∧ Its w.heap.size w' v its ∧ its.map Itm.d = ofP s.xs b.xs till ∧ its.length ≤ s.n + b.n ∧ Below w.heap.size w w' := by
  obtain ⟨p, n, c, xs⟩ := s
  obtain ⟨bp, bn, bc, bs⟩ := b
  have hlen : xs.length = n := hs.row.len
  have hmost : n ≤ 4194304 := hs.row.most
  have HC := hide hs.row.cel
  have HE := hide hs.each
  have hlen2 : bs.length = bn := hb.row.len
  have hmost2 : bn ≤ 4194304 := hb.row.most
  have HC2 := hide hb.row.cel
  clear hs hb
  simp only at HC HE HC2 ⊢
  go_enter Try.func15, Try.ntmps15
  go_wp2
  go_loopw [7, 8] (fun l i wr => ∃ (k : Nat) (its : List Itm), k ≤ n ∧ i = .int .i64 k ∧ Hid (Os w wr l its (((xs.take k).filter (wrB till)).map itE) k)) (fun _ i _ => n - (intOf i).toNat)
  case atStart => exact ⟨0, [], Nat.zero_le _, rfl, its_nil _ _, rfl, Nat.le_refl _, Below.refl _ _⟩
  case round =>
    obtain ⟨k, its, hk, rfl, HI⟩ := hrel
    obtain ⟨la, lc, rfl, hlc⟩ := slice_form HI.out.1.row
    by_cases hlt : k < n
    · obtain ⟨x, hx⟩ : ∃ x, xs[k]? = some x := ⟨_, List.getElem?_eq_getElem (by omega)⟩
      have hlt' : (k : Int) < (n : Int) := by omega
      obtain ⟨b, o, e, hb, hcl⟩ := HC.out.get (i := k) (r := x.list) (by simp [hx])
      subst e
      have hbw : Below w.heap.size w wr := HI.out.2.2.2
      have f : ∀ i v, x.list[i]? = some v → wr.cell? ⟨b, o + k * 22 + i, none⟩ = some v := fun i v hv => (hbw.cell (p := ⟨b, o + k * 22 + i, none⟩) hb).trans (hcl i v hv)
      obtain ⟨A, hA⟩ : ∃ A, x.arr = A := ⟨_, rfl⟩
      have HZ : Hid (A.size = 22) := by show _ = _; rw [← hA]; rfl
      have HO : Hid (A.all (·.oneCell') = true) := by show _ = _; rw [← hA]; exact x.ones
      have HL1 : Hid ((Instr.loadAt 82 (.pointer (some ⟨b, o + k * 22, none⟩))).run Try.prog wr = .ok (.agg A) wr) := by
        show _ = _
        rw [← hA]
        exact run_loadAt_mid (P := Try.prog) wr b (o + k * 22) 82 x.list _ f Try.underlying82 rfl Try.sizeE
      have hblk : (wr.alloc (.cells A 82)).heap[wr.heap.size]? = some (.cells A 82 (0, 0)) := heap_alloc_new _ _
      have HL2 := hide (loadAt_row (P := Try.prog) (ty := 82) hblk Try.underlying82 rfl (by rw [HZ.out]; exact Try.sizeE))
      have HBa : Hid (Below wr.heap.size wr (wr.alloc (.cells A 82))) := (Below.refl _ wr).alloc (Nat.le_refl _) _
      have a3 : A[3]? = some (.int .i64 x.ac.kind) := by rw [← hA]; rfl
      have HX := hide hx
      obtain ⟨kd, hkd⟩ : ∃ kd, x.ac.kind = kd := ⟨_, rfl⟩
      rw [hkd] at a3
      have HKD := hide hkd
      obtain ⟨t, ht⟩ : ∃ t, ownB till x = t := ⟨_, rfl⟩
      have HOw := hide (own_any (wr.alloc (.cells A 82)) x A hA till t ht)
      have HT := hide ht
      have HA := hide hA
      have HOk := hide (HE.out x (List.mem_of_getElem? hx))
      clear hcl f hx hA hkd ht hbw hblk
      by_cases hw : t = true ∧ kd = 1
      · obtain ⟨rfl, rfl⟩ := hw
        have HF : Hid ((xs.take (k + 1)).filter (wrB till) = (xs.take k).filter (wrB till) ++ [x]) := by
          show _ = _
          rw [take_snoc HX.out, List.filter_append]
          simp [wrB, HKD.out, HT.out]
        have HCe := hide (fun (w' : World) (h : Below w.heap.size w w') => copyEntry_any w' x (HOk.out.below h) A HA.out)
        have a2 : A[2]? = some (.int .u64 x.ac.num) := by rw [← HA.out]; rfl
        have a4 : A[4]? = some (.bool x.ac.sure) := by rw [← HA.out]; rfl
        have a16 : A[16]? = some (.int .i64 x.oc) := by rw [← HA.out]; rfl
        go_wp2_with (
            first
            | ((with_reducible show wpList _ _ _ (⟨_, .load 82 (.tmp 21), _, _, _, _⟩ :: _) _ _); refine lp_load b (o + k * 22) A rfl HL1.out ?_)
            | ((with_reducible show wpList _ _ _ (⟨_, .load 82 (.tmp 9), _, _, _, _⟩ :: _) _ _); refine lp_load wr.heap.size 0 A rfl (by first | exact HL2.out | exact HL3.out) ?_)
            | ((with_reducible show wpList _ _ _ (⟨_, .store 82 (.tmp 9) _, _, _, _, _⟩ :: _) _ _); refine lp_store (t := 82) (x := .tmp 9) (some ⟨wr.heap.size, 0, none⟩) (.agg A) rfl rfl (run_storeAt_new wr _ _ A (by rw [HZ.out]; exact Try.sizeE) (by rw [HZ.out]; rfl) HO.out) ?_)
            | ((with_reducible show wpList _ _ _ (⟨_, .store 82 (.tmp 10) _, _, _, _, _⟩ :: _) _ _); refine lp_store (t := 82) (x := .tmp 10) (some ⟨w3.heap.size, 0, none⟩) (.agg C) rfl rfl (run_storeAt_new w3 _ _ C (by rw [HCs.out]; exact Try.sizeE) (by rw [HCs.out]; rfl) HCo.out) ?_; obtain ⟨w4, hw4⟩ : ∃ w4, w3.alloc (.cells C 82) = w4 := ⟨_, rfl⟩; rw [hw4]; have hb4 : Below w3.heap.size w3 w4 := (by rw [← hw4]; exact (Below.refl _ w3).alloc (Nat.le_refl _) _); have hw4b : w4.heap[w3.heap.size]? = some (.cells C 82 (0, 0)) := (by rw [← hw4]; exact heap_alloc_new _ _); have hblk4 : w4.heap[wr.heap.size]? = some (.cells A 82 (0, 0)) := (hb4.block _ (Nat.lt_of_lt_of_le (ac_lt HBk2.out) HB3.out.size)).trans ((HB3.out.block _ (ac_lt HBk2.out)).trans HBk2.out); have e2 : w4.cell? ⟨wr.heap.size, 2, none⟩ = some (.int .u64 x.ac.num) := (by rw [cell_of_row _ _ _ _ _ _ hblk4, a2]); have e4 : w4.cell? ⟨wr.heap.size, 4, none⟩ = some (.bool x.ac.sure) := (by rw [cell_of_row _ _ _ _ _ _ hblk4, a4]); have e16 : w4.cell? ⟨wr.heap.size, 16, none⟩ = some (.int .i64 x.oc) := (by rw [cell_of_row _ _ _ _ _ _ hblk4, a16]); have m17 : w4.cell? ⟨w3.heap.size, 17, none⟩ = some (.slice y.made.p y.made.n y.made.c) := (by rw [cell_of_row _ _ _ _ _ _ hw4b, ← HCe2.out]; rfl); have m18 : w4.cell? ⟨w3.heap.size, 18, none⟩ = some (.slice y.sets.p y.sets.n y.sets.c) := (by rw [cell_of_row _ _ _ _ _ _ hw4b, ← HCe2.out]; rfl); have HB4 := hide hb4; clear hw4 hb4 hw4b hblk4)
            | (go_at_call 31; refine HOw.out.mono ?_; rintro e w2 ⟨rfl, hb2⟩; have HB2 : Hid (Below wr.heap.size wr w2) := HBa.out.trans (hb2.mono (by simp)); have HBk2 : Hid (w2.heap[wr.heap.size]? = some (.cells A 82 (0, 0))) := (hb2.block _ (by simp)).trans (heap_alloc_new _ _); have c3 : w2.cell? ⟨wr.heap.size, 3, none⟩ = some (.int .i64 1) := (by rw [cell_of_row _ _ _ _ _ _ HBk2.out, a3]); have HL3 := hide (loadAt_row (P := Try.prog) (ty := 82) HBk2.out Try.underlying82 rfl (by rw [HZ.out]; exact Try.sizeE)); clear hb2)
            | (go_at_call 32; refine (HCe.out _ (HI.out.2.2.2.trans (HB2.out.mono HI.out.2.2.2.size))).mono ?_; rintro e w3 ⟨y, rfl, hyd, hyo, hb3⟩; obtain ⟨C, hC⟩ : ∃ C, y.arr = C := ⟨_, rfl⟩; rw [hC]; have HCs : Hid (C.size = 22) := (by show _ = _; rw [← hC]; rfl); have HCo : Hid (C.all (·.oneCell') = true) := (by show _ = _; rw [← hC]; exact y.ones); have HCe2 := hide hC; have HYd := hide hyd; have HYo := hide hyo; have HB3 := hide hb3; clear hC hyd hyo hb3)
            | (at_builtin; refine lp_append (.slice la its.length lc) (.slice (some ⟨w4.heap.size, 0, none⟩) 1 1) rfl rfl ?_; have hb14 : Below wr.heap.size wr w4 := (HB2.out.trans (HB3.out.mono HB2.out.size)).trans (HB4.out.mono (Nat.le_trans HB2.out.size HB3.out.size)); obtain ⟨v', w5, hr, h1, h2⟩ := its_append ⟨x.ac.num, x.ac.sure, x.oc, y.made, y.sets⟩ 62 HI.out.1 (by have := HI.out.2.2.1; omega) HI.out.2.2.2.size hb14 (owns_le (owns_keep HYo.out.made.1 HB4.out) HB2.out.size) (owns_le (owns_keep HYo.out.sets.1 HB4.out) HB2.out.size); refine ⟨v', w5, hr, ?_⟩; have HI5 := hide (And.intro h1 (HI.out.2.2.2.grown h2 HI.out.2.2.2.size (fun g e => owns_base HI.out.1.row g e))); clear hr h1 h2 hb14))
        go_roundw
        case rel =>
          refine ⟨k + 1, its ++ [⟨x.ac.num, x.ac.sure, x.oc, y.made, y.sets⟩], by omega, by go_num, HI5.out.1, ?_, by rw [List.length_append]; have := HI.out.2.2.1; simp; omega, HI5.out.2⟩
          rw [HF.out, List.map_append, List.map_append, HI.out.2.1]
          have h1 : y.made.xs = x.made.xs := congrArg EnP.made HYd.out
          have h2 : y.sets.xs = x.sets.xs := congrArg EnP.sets HYd.out
          simp [Itm.d, itE, h1, h2]
        case measure => simp [intOf]; omega
      · have HF : Hid ((xs.take (k + 1)).filter (wrB till) = (xs.take k).filter (wrB till)) := by
          show _ = _
          rw [take_snoc HX.out, List.filter_append]
          have : wrB till x = false := by
            unfold wrB
            rw [HT.out, HKD.out]
            cases t <;> simp_all
          simp [this]
        cases t with
        | false =>
          go_wp2_with (
            first
            | ((with_reducible show wpList _ _ _ (⟨_, .load 82 (.tmp 21), _, _, _, _⟩ :: _) _ _); refine lp_load b (o + k * 22) A rfl HL1.out ?_)
            | ((with_reducible show wpList _ _ _ (⟨_, .load 82 (.tmp 9), _, _, _, _⟩ :: _) _ _); refine lp_load wr.heap.size 0 A rfl HL2.out ?_)
            | ((with_reducible show wpList _ _ _ (⟨_, .store 82 (.tmp 9) _, _, _, _, _⟩ :: _) _ _); refine lp_store (t := 82) (x := .tmp 9) (some ⟨wr.heap.size, 0, none⟩) (.agg A) rfl rfl (run_storeAt_new wr _ _ A (by rw [HZ.out]; exact Try.sizeE) (by rw [HZ.out]; rfl) HO.out) ?_)
            | (go_at_call 31; refine HOw.out.mono ?_; rintro e w2 ⟨rfl, hb2⟩; have HB2 : Hid (Below wr.heap.size wr w2) := HBa.out.trans (hb2.mono (by simp)); clear hb2))
          go_roundw
          case rel => exact ⟨k + 1, its, by omega, by go_num, HI.out.1.below HB2.out, by rw [HF.out]; exact HI.out.2.1, by have := HI.out.2.2.1; omega, HI.out.2.2.2.trans (HB2.out.mono HI.out.2.2.2.size)⟩
          case measure => simp [intOf]; omega
        | true =>
          have hk2 : ¬ kd = 1 := fun h => hw ⟨rfl, h⟩
          have hk3 : (kd == 1) = false := by simp [hk2]
          clear hw
          go_wp2_with (
            first
            | ((with_reducible show wpList _ _ _ (⟨_, .load 82 (.tmp 21), _, _, _, _⟩ :: _) _ _); refine lp_load b (o + k * 22) A rfl HL1.out ?_)
            | ((with_reducible show wpList _ _ _ (⟨_, .load 82 (.tmp 9), _, _, _, _⟩ :: _) _ _); refine lp_load wr.heap.size 0 A rfl HL2.out ?_)
            | ((with_reducible show wpList _ _ _ (⟨_, .store 82 (.tmp 9) _, _, _, _, _⟩ :: _) _ _); refine lp_store (t := 82) (x := .tmp 9) (some ⟨wr.heap.size, 0, none⟩) (.agg A) rfl rfl (run_storeAt_new wr _ _ A (by rw [HZ.out]; exact Try.sizeE) (by rw [HZ.out]; rfl) HO.out) ?_)
            | (go_at_call 31; refine HOw.out.mono ?_; rintro e w2 ⟨rfl, hb2⟩; have HB2 : Hid (Below wr.heap.size wr w2) := HBa.out.trans (hb2.mono (by simp)); have c3 : w2.cell? ⟨wr.heap.size, 3, none⟩ = some (.int .i64 kd) := (hb2.cell (p := ⟨wr.heap.size, 3, none⟩) (by simp)).trans (by rw [cell_of_row _ _ _ _ _ _ (heap_alloc_new wr (.cells A 82)), a3]); clear hb2))
          go_roundw
          case rel => exact ⟨k + 1, its, by omega, by go_num, HI.out.1.below HB2.out, by rw [HF.out]; exact HI.out.2.1, by have := HI.out.2.2.1; omega, HI.out.2.2.2.trans (HB2.out.mono HI.out.2.2.2.size)⟩
          case measure => simp [intOf]; omega
    · obtain rfl : k = n := by omega
      have HI0 : Hid (Os w wr (.slice la its.length lc) its (((xs.filter (wrB till)).map itE) ++ ((bs.take 0).filter (waB till)).map itA) (k + 0)) := by
        have h := HI.out
        rw [List.take_of_length_le (by omega)] at h
        exact ⟨h.1, by simpa using h.2.1, h.2.2.1, h.2.2.2⟩
      clear HI
      go_wp2
      go_loopw [7, 11] (fun l i wr => ∃ (q : Nat) (its : List Itm), q ≤ bn ∧ i = .int .i64 q ∧ Hid (Os w wr l its (((xs.filter (wrB till)).map itE) ++ ((bs.take q).filter (waB till)).map itA) (k + q))) (fun _ i _ => bn - (intOf i).toNat)
      case atStart => exact ⟨0, its, Nat.zero_le _, rfl, HI0⟩
      case round =>
        clear HI0
        obtain ⟨q, js, hq, rfl, HI⟩ := hrel
        obtain ⟨la, lc, rfl, hlc⟩ := slice_form HI.out.1.row
        by_cases hlt : q < bn
        · obtain ⟨x, hx⟩ : ∃ x, bs[q]? = some x := ⟨_, List.getElem?_eq_getElem (by omega)⟩
          have hlt' : (q : Int) < (bn : Int) := by omega
          obtain ⟨b, o, e, hb, hcl⟩ := HC2.out.get (i := q) (r := x.list) (by simp [hx])
          subst e
          have f : ∀ i v, x.list[i]? = some v → wr.cell? ⟨b, o + q * 15 + i, none⟩ = some v := fun i v hv => (HI.out.2.2.2.cell (p := ⟨b, o + q * 15 + i, none⟩) hb).trans (hcl i v hv)
          obtain ⟨A, hA⟩ : ∃ A, x.arr = A := ⟨_, rfl⟩
          have HZ : Hid (A.size = 15) := by show _ = _; rw [← hA]; rfl
          have HO : Hid (A.all (·.oneCell') = true) := by show _ = _; rw [← hA]; exact x.ones
          have HL1 : Hid ((Instr.loadAt 80 (.pointer (some ⟨b, o + q * 15, none⟩))).run Try.prog wr = .ok (.agg A) wr) := by
            show _ = _
            rw [← hA]
            exact run_loadAt_mid (P := Try.prog) wr b (o + q * 15) 80 x.list _ f Try.underlying80 rfl Try.sizeA
          have a0 : A[0]? = some (.int .i64 x.till) := by rw [← hA]; rfl
          have a1 : A[1]? = some (.int .u64 x.num) := by rw [← hA]; rfl
          have a2 : A[2]? = some (.int .i64 x.kind) := by rw [← hA]; rfl
          have a3 : A[3]? = some (.bool x.sure) := by rw [← hA]; rfl
          have HX := hide hx
          obtain ⟨tl, htl⟩ : ∃ tl, x.till = tl := ⟨_, rfl⟩
          obtain ⟨kd, hkd⟩ : ∃ kd, x.kind = kd := ⟨_, rfl⟩
          rw [htl] at a0
          rw [hkd] at a2
          have HTL := hide htl
          have HKD := hide hkd
          clear hcl f hx hA htl hkd
          have HBa : Hid (Below wr.heap.size wr (wr.alloc (.cells A 80))) := (Below.refl _ wr).alloc (Nat.le_refl _) _
          by_cases hk1 : kd = 1
          · subst hk1
            by_cases hkt : tl = till
            · subst hkt
              have HF : Hid ((bs.take (q + 1)).filter (waB tl) = (bs.take q).filter (waB tl) ++ [x]) := by
                show _ = _
                rw [take_snoc HX.out, List.filter_append]
                simp [waB, HKD.out, HTL.out]
              go_wp2_with (
                first
                | ((with_reducible show wpList _ _ _ (⟨_, .load 80 (.tmp 59), _, _, _, _⟩ :: _) _ _); refine lp_load b (o + q * 15) A rfl HL1.out ?_)
                | ((with_reducible show wpList _ _ _ (⟨_, .store 80 (.tmp 12) _, _, _, _, _⟩ :: _) _ _); refine lp_store (t := 80) (x := .tmp 12) (some ⟨wr.heap.size, 0, none⟩) (.agg A) rfl rfl (run_storeAt_new wr _ _ A (by rw [HZ.out]; exact Try.sizeA) (by rw [HZ.out]; rfl) HO.out) ?_; obtain ⟨w2, hw2⟩ : ∃ w2, wr.alloc (.cells A 80) = w2 := ⟨_, rfl⟩; rw [hw2]; have HB2 : Hid (Below wr.heap.size wr w2) := (by rw [← hw2]; exact HBa.out); have hbk : w2.heap[wr.heap.size]? = some (.cells A 80 (0, 0)) := (by rw [← hw2]; exact heap_alloc_new _ _); have q0 : w2.cell? ⟨wr.heap.size, 0, none⟩ = some (.int .i64 tl) := (by rw [cell_of_row _ _ _ _ _ _ hbk, a0]); have q1 : w2.cell? ⟨wr.heap.size, 1, none⟩ = some (.int .u64 x.num) := (by rw [cell_of_row _ _ _ _ _ _ hbk, a1]); have q2 : w2.cell? ⟨wr.heap.size, 2, none⟩ = some (.int .i64 1) := (by rw [cell_of_row _ _ _ _ _ _ hbk, a2]); have q3 : w2.cell? ⟨wr.heap.size, 3, none⟩ = some (.bool x.sure) := (by rw [cell_of_row _ _ _ _ _ _ hbk, a3]); clear hw2 hbk)
                | (at_builtin; refine lp_append (.slice la js.length lc) (.slice (some ⟨w2.heap.size, 0, none⟩) 1 1) rfl rfl ?_; obtain ⟨v', w4, hr, h1, h2⟩ := its_append (itmA x) 62 HI.out.1 (by have := HI.out.2.2.1; omega) HI.out.2.2.2.size HB2.out (World.ownsRow_nil _ _ _ _) (World.ownsRow_nil _ _ _ _); refine ⟨v', w4, hr, ?_⟩; have HI4 := hide (And.intro h1 (HI.out.2.2.2.grown h2 HI.out.2.2.2.size (fun g e => owns_base HI.out.1.row g e))); clear hr h1 h2))
              go_roundw
              case rel => exact ⟨q + 1, js ++ [itmA x], by omega, by go_num, HI4.out.1, by rw [HF.out, List.map_append, List.map_append, HI.out.2.1, List.append_assoc]; rfl, by rw [List.length_append]; have := HI.out.2.2.1; simp; omega, HI4.out.2⟩
              case measure => simp [intOf]; omega
            · have HF : Hid ((bs.take (q + 1)).filter (waB till) = (bs.take q).filter (waB till)) := by
                show _ = _
                rw [take_snoc HX.out, List.filter_append]
                simp [waB, HTL.out, hkt]
              have hkt2 : (tl == till) = false := by simp [hkt]
              go_wp2_with (first | ((with_reducible show wpList _ _ _ (⟨_, .load 80 (.tmp 59), _, _, _, _⟩ :: _) _ _); refine lp_load b (o + q * 15) A rfl HL1.out ?_) | ((with_reducible show wpList _ _ _ (⟨_, .store 80 (.tmp 12) _, _, _, _, _⟩ :: _) _ _); refine lp_store (t := 80) (x := .tmp 12) (some ⟨wr.heap.size, 0, none⟩) (.agg A) rfl rfl (run_storeAt_new wr _ _ A (by rw [HZ.out]; exact Try.sizeA) (by rw [HZ.out]; rfl) HO.out) ?_))
              go_roundw
              case rel => exact ⟨q + 1, js, by omega, by go_num, HI.out.1.below HBa.out, by rw [HF.out]; exact HI.out.2.1, by have := HI.out.2.2.1; omega, HI.out.2.2.2.alloc HI.out.2.2.2.size _⟩
              case measure => simp [intOf]; omega
          · have HF : Hid ((bs.take (q + 1)).filter (waB till) = (bs.take q).filter (waB till)) := by
              show _ = _
              rw [take_snoc HX.out, List.filter_append]
              simp [waB, HKD.out, hk1]
            have hk2 : (kd == 1) = false := by simp [hk1]
            go_wp2_with (first | ((with_reducible show wpList _ _ _ (⟨_, .load 80 (.tmp 59), _, _, _, _⟩ :: _) _ _); refine lp_load b (o + q * 15) A rfl HL1.out ?_) | ((with_reducible show wpList _ _ _ (⟨_, .store 80 (.tmp 12) _, _, _, _, _⟩ :: _) _ _); refine lp_store (t := 80) (x := .tmp 12) (some ⟨wr.heap.size, 0, none⟩) (.agg A) rfl rfl (run_storeAt_new wr _ _ A (by rw [HZ.out]; exact Try.sizeA) (by rw [HZ.out]; rfl) HO.out) ?_))
            go_roundw
            case rel => exact ⟨q + 1, js, by omega, by go_num, HI.out.1.below HBa.out, by rw [HF.out]; exact HI.out.2.1, by have := HI.out.2.2.1; omega, HI.out.2.2.2.alloc HI.out.2.2.2.size _⟩
            case measure => simp [intOf]; omega
        · obtain rfl : q = bn := by omega
          go_wp2
          go_ret
          refine ⟨_, js, rfl, HI.out.1, ?_, HI.out.2.2.1, HI.out.2.2.2⟩
          rw [HI.out.2.1, List.take_of_length_le (by omega)]
          rfl
end Go.Proofs.Ytecbidaljchmoaa
