import Derived.Test.YtecbidaljchmoaaRpG
namespace Go.Proofs.Ytecbidaljchmoaa
open Go.RowKit Go.Shelf
attribute [local go_sem] Oper.semAt_some

def noDefer (ops : Array Oper) : Bool := ops.all fun o => match o.op with | .defer _ => false | _ => true
theorem noDefer_spec {ops : Array Oper} (h : noDefer ops = true) : ∀ (i : Nat) (o : Oper), ops[i]? = some o → ∀ c, o.op ≠ .defer c := fun i o hi c e => by
  obtain ⟨hlt, rfl⟩ := Array.getElem?_eq_some_iff.1 hi
  have := Array.all_eq_true.1 h i hlt
  rw [e] at this
  cases this
set_option maxRecDepth 100000 in
set_option maxHeartbeats 4000000 in
theorem committed_any (w : World) (s : Sli Eda) (till : Int) (hs : Ents w s) :
    Calls Try.prog 27 #[.slice s.p s.n s.c, .int .i64 till] w fun e w' => ∃ v its, e = .returned v ∧ Its w.heap.size w' v its ∧ its.map Itm.d = (s.xs.filter (wrB till)).map itE ∧ its.length ≤ s.n ∧ Below w.heap.size w w' := by
  have HS := hide hs
  clear hs
  have hmx : Try.prog.follows .mixedOrders = true := by kernel_rfl
  refine (callsIn_wide (n := 9)).1 ?_
  have h9 : 1 ≤ 9 := by omega
  refine callsIn_of_wp_marks Try.func27 rfl trivial ?_ rfl
  simp only [Try.ntmps27, List.size_toArray, List.length_cons, List.length_nil, Nat.reduceAdd, Nat.reduceSub, Array.replicate_succ, Array.replicate_zero, List.push_toArray, List.append_toArray, List.nil_append, List.cons_append]
  gi_wp2_with (refine ⟨trivial, ?_⟩; gi_at_call 33; refine (ofTill_in 8 s.p s.n s.c till _).mono ?_; rintro e w' ⟨rfl, rfl⟩)
  have bO := ((Boxed.new w 62 (.slice none 0 0)).alloc (.cells #[.slice s.p s.n s.c] 26)).alloc (.cells #[.int .i64 till] 3)
  have bS := (Boxed.new (w.alloc (.cells #[.slice none 0 0] 62)) 26 (.slice s.p s.n s.c)).alloc (.cells #[.int .i64 till] 3)
  have bT := Boxed.new ((w.alloc (.cells #[.slice none 0 0] 62)).alloc (.cells #[.slice s.p s.n s.c] 26)) 3 (.int .i64 till)
  simp only [World.size_alloc] at bO bS bT
  have hB0 : Below w.heap.size w (((w.alloc (.cells #[.slice none 0 0] 62)).alloc (.cells #[.slice s.p s.n s.c] 26)).alloc (.cells #[.int .i64 till] 3)) := (((Below.refl _ w).alloc (Nat.le_refl _) _).alloc (by simp) _).alloc (by simp; omega) _
  refine wpIn_rangeFunc_ownH rfl h9 (gf := 44) (lb := #[.pointer (some ⟨w.heap.size + 1, 0, none⟩), .pointer (some ⟨w.heap.size + 1 + 1, 0, none⟩)]) rfl trivial (enters_of Try.func44 (by kernel_rfl) rfl)
    (ofTill_stops 8 (by omega) (w.heap.size + 1) (w.heap.size + 1 + 1) s till w _ HS.out hB0 bS bT) KB.trans (KB.put (by simp; omega) (by simp)) (Below.refl _ _) (fun _ => rfl)
    (Cm w s.n) (fun _ _ _ => False) (cm_own w s.n _ (by simp; omega)) (fun _ _ _ _ _ hs _ _ => hs)
    ⟨_, [], bO, its_nil _ _, rfl, Nat.le_refl _, Nat.zero_le _, hB0, by simp⟩
    (fun x a' W => ∃ Bx, w.heap.size + 3 ≤ Bx ∧ W.heap[Bx]? = some (.cells x.1.arr 82 (0, 0)) ∧ a' = { tmps := #[.slice s.p s.n s.c, .int .i64 till, undef, undef, .slice none 0 0, .pointer (some ⟨w.heap.size, 0, none⟩), .pointer (some ⟨Bx, 0, none⟩), undef, .slice s.p s.n s.c, .int .i64 till, .func (.func 44) #[] #[.pointer (some ⟨w.heap.size + 1, 0, none⟩), .pointer (some ⟨w.heap.size + 1 + 1, 0, none⟩)], .agg x.1.arr, undef, undef, undef, undef, undef, undef, undef, undef, undef, undef, undef, undef, undef, undef, undef, undef, undef, undef, undef, undef, undef, undef, undef], defers := [] })
    (fun x a' s A C row hs hg hr => by obtain ⟨Bx, h0, h1, h2⟩ := hs; exact ⟨Bx, h0, cells_far h1 hg (fun r e => (hr r e).2), h2⟩) ?assign ?body ?done ?stop
  case assign =>
    rintro l pre x W K hI hK
    obtain ⟨A, hA⟩ : ∃ A, x.1.arr = A := ⟨_, rfl⟩
    have HZ : Hid (A.size = 22) := by show _ = _; rw [← hA]; rfl
    have HO : Hid (A.all (·.oneCell') = true) := by show _ = _; rw [← hA]; exact x.1.ones
    have HI := hide hI
    have HK := hide hK
    have HA := hide hA
    simp only [encE, hA]
    clear hI hK hA
    gi_wp2_with (((with_reducible show wpListIn _ _ _ _ _ (⟨_, .store 82 (.tmp 6) _, _, _, _, _⟩ :: _) _ _); refine li_store (t := 82) (x := .tmp 6) (some ⟨W.heap.size, 0, none⟩) (.agg A) rfl rfl (run_storeAt_new W _ _ A (by rw [HZ.out]; exact Try.sizeE) (by rw [HZ.out]; rfl) HO.out) ?_))
    obtain ⟨v, its, h1, h2, h3, h4, h5, h6, h7⟩ := HI.out
    refine HK.out _ _ ((KeepsOthers.alloc _ _).from _) ⟨(Below.refl _ W).alloc h6.size _, Below.heap_alloc _ _ _ (by omega)⟩ ((cm_own w s.n _ (Nat.le_refl _)).alloc _ HI.out) ⟨W.heap.size, h7, by rw [HA.out]; exact heap_alloc_new _ _, ?_⟩
    rw [HA.out]
  case body =>
    rintro l pre x a' W hl ⟨r, hr⟩ ⟨v, its, hv, hI, h3, h4, h5, h6, h7⟩ ⟨Bx, hBx, hbx, rfl⟩ hlt
    obtain ⟨A, hA⟩ : ∃ A, x.1.arr = A := ⟨_, rfl⟩
    rw [hA] at hbx
    simp only [hA]
    have a3 : A[3]? = some (.int .i64 x.1.ac.kind) := by rw [← hA]; rfl
    have hc3 : W.cell? ⟨Bx, 3, none⟩ = some (.int .i64 x.1.ac.kind) := by rw [cell_of_row _ _ _ _ _ _ hbx, a3]
    obtain ⟨kd, hkd⟩ : ∃ kd, x.1.ac.kind = kd := ⟨_, rfl⟩
    rw [hkd] at hc3
    have HKD := hide hkd
    have HA := hide hA
    have HI := hide hI
    have H3 := hide h3
    have H6 := hide h6
    have HX := hide hbx
    have HV := hide hv
    clear hkd hA hI h3 h6 hbx a3 hv
    by_cases hk1 : kd = 1
    · subst hk1
      obtain ⟨B, hB⟩ : ∃ B, x.1.ac.arr = B := ⟨_, rfl⟩
      have HIt := hide (fun w' => itemOf_any w' x.1.ac B hB)
      have HL : Hid ((Instr.loadAt 80 (.pointer (some ⟨Bx, 1, none⟩))).run Try.prog W = .ok (.agg B) W) := by
        show _ = _
        rw [← hB]
        refine run_loadAt_mid (P := Try.prog) W Bx 1 80 x.1.ac.list _ (fun j v hv => ?_) Try.underlying80 rfl Try.sizeA
        rw [cell_of_row _ _ _ _ _ _ HX.out, ← HA.out]
        exact act_in x.1 j v hv
      clear hB
      gi_wp2_with (
        first
        | ((with_reducible show wpListIn _ _ _ _ _ (⟨_, .load 80 (.tmp 16), _, _, _, _⟩ :: _) _ _); refine li_load Bx 1 B rfl HL.out ?_)
        | (refine ⟨trivial, ?_⟩; gi_at_call 39; refine (CallsIn.inRound l ((callsIn_wide (n := _)).2 (HIt.out _))).mono ?_; rintro e w1 ⟨rfl, hb1⟩; have HB1 := hide hb1; clear hb1))
      obtain ⟨w2, hw2⟩ : ∃ w2, w1.alloc (.cells #[.int .u64 x.1.ac.num, .bool x.1.ac.sure, .int .i64 0, .slice none 0 0, .slice none 0 0] 86) = w2 := ⟨_, rfl⟩
      have hBi : w2.heap[w1.heap.size]? = some (.cells #[.int .u64 x.1.ac.num, .bool x.1.ac.sure, .int .i64 0, .slice none 0 0, .slice none 0 0] 86 (0, 0)) := by rw [← hw2]; exact heap_alloc_new _ _
      have hB2 : Below W.heap.size W w2 := by rw [← hw2]; exact HB1.out.alloc HB1.out.size _
      have HW2 := hide hw2
      clear hw2
      rw [HW2.out]
      obtain ⟨Bi, hBie⟩ : ∃ Bi, w1.heap.size = Bi := ⟨_, rfl⟩
      rw [hBie] at hBi ⊢
      have HBi := hide hBi
      have HB2 := hide hB2
      have hx2 : w2.heap[Bx]? = some (.cells A 82 (0, 0)) := (hB2.block Bx (ac_lt HX.out)).trans HX.out
      have a16 : A[16]? = some (.int .i64 x.1.oc) := by rw [← HA.out]; rfl
      have a17 : A[17]? = some (.slice x.1.made.p x.1.made.n x.1.made.c) := by rw [← HA.out]; rfl
      have a18 : A[18]? = some (.slice x.1.sets.p x.1.sets.n x.1.sets.c) := by rw [← HA.out]; rfl
      have c16 : w2.cell? ⟨Bx, 16, none⟩ = some (.int .i64 x.1.oc) := by rw [cell_of_row _ _ _ _ _ _ hx2, a16]
      have c17 : w2.cell? ⟨Bx, 17, none⟩ = some (.slice x.1.made.p x.1.made.n x.1.made.c) := by rw [cell_of_row _ _ _ _ _ _ hx2, a17]
      have c18 : w2.cell? ⟨Bx, 18, none⟩ = some (.slice x.1.sets.p x.1.sets.n x.1.sets.c) := by rw [cell_of_row _ _ _ _ _ _ hx2, a18]
      have HX2 := hide hx2
      have HMd := hide (fun (w' : World) (h : Below w.heap.size w w') => copyLines_any w' x.1.made (x.2.made.below h))
      have HSt := hide (fun (w' : World) (h : Below w.heap.size w w') => copySets_any w' x.1.sets (x.2.sets.below h))
      have HBw : Hid (Below w.heap.size w w2) := H6.out.trans (hB2.mono H6.out.size)
      have HBd : Hid (Below w.heap.size w w2.drew) := HBw.out.drew
      clear hBi hB2 hx2 a16 a17 a18 hc3
      refine region_round (fun w' => w'.cell? ⟨Bx, 16, none⟩ = some (.int .i64 x.1.oc) ∧ w'.cell? ⟨Bx, 17, none⟩ = some (.slice x.1.made.p x.1.made.n x.1.made.c) ∧ w'.cell? ⟨Bx, 18, none⟩ = some (.slice x.1.sets.p x.1.sets.n x.1.sets.c)) hmx (noDefer_spec (by kernel_rfl)) ?_
      have hS : (fun w' : World => w'.cell? ⟨Bx, 16, none⟩ = some (.int .i64 x.1.oc) ∧ w'.cell? ⟨Bx, 17, none⟩ = some (.slice x.1.made.p x.1.made.n x.1.made.c) ∧ w'.cell? ⟨Bx, 18, none⟩ = some (.slice x.1.sets.p x.1.sets.n x.1.sets.c)) w2.drew := ⟨c16, c17, c18⟩
      show wpAnyH Try.prog .any _ _ _ 14 (Array.replicate 14 false) _ _
      refine wpAnyH_take (i := 0) (v := .pointer (some ⟨Bx, 16, none⟩)) rfl (by kernel_rfl) (by kernel_rfl) (by kernel_rfl) (fun _ _ _ h => h) (Or.inl ⟨by rfl, ?_⟩) hS ?_
      · intro w' hSw
        try dsimp only at hSw
        go_simp
      simp only [Act.put, List.setIfInBounds_toArray]
      refine wpAnyH_take (i := 1) (v := .int .i64 x.1.oc) rfl (by kernel_rfl) (by kernel_rfl) (by kernel_rfl) (fun _ _ _ h => h) (Or.inl ⟨by rfl, ?_⟩) hS ?_
      · intro w' hSw
        try dsimp only at hSw
        go_simp
      simp only [Act.put]
      refine wpAnyH_take (i := 2) (v := .pointer (some ⟨Bx, 17, none⟩)) rfl (by kernel_rfl) (by kernel_rfl) (by kernel_rfl) (fun _ _ _ h => h) (Or.inl ⟨by rfl, ?_⟩) hS ?_
      · intro w' hSw
        try dsimp only at hSw
        go_simp
      simp only [Act.put]
      refine wpAnyH_take (i := 3) (v := .slice x.1.made.p x.1.made.n x.1.made.c) rfl (by kernel_rfl) (by kernel_rfl) (by kernel_rfl) (fun _ _ _ h => h) (Or.inl ⟨by rfl, ?_⟩) hS ?_
      · intro w' hSw
        try dsimp only at hSw
        go_simp
      simp only [Act.put]
      refine wpAnyH_take (i := 5) (v := .pointer (some ⟨Bx, 18, none⟩)) rfl (by kernel_rfl) (by kernel_rfl) (by kernel_rfl) (fun _ _ _ h => h) (Or.inl ⟨by rfl, ?_⟩) hS ?_
      · intro w' hSw
        try dsimp only at hSw
        go_simp
      simp only [Act.put]
      refine wpAnyH_take (i := 6) (v := .slice x.1.sets.p x.1.sets.n x.1.sets.c) rfl (by kernel_rfl) (by kernel_rfl) (by kernel_rfl) (fun _ _ _ h => h) (Or.inl ⟨by rfl, ?_⟩) hS ?_
      · intro w' hSw
        try dsimp only at hSw
        go_simp
      simp only [Act.put]
      refine wpAnyH_take (i := 8) (v := .pointer (some ⟨Bi, 2, none⟩)) rfl (by kernel_rfl) (by kernel_rfl) (by kernel_rfl) (fun _ _ _ h => h) (Or.inl ⟨by rfl, ?_⟩) hS ?_
      · intro w' hSw
        try dsimp only at hSw
        go_simp
      simp only [Act.put]
      refine wpAnyH_ready (rs := [4]) (by kernel_rfl) (by simp) ?_
      refine AllReadyH.cons rfl (fun K hK => ?_) AllReadyH.nil
      go_simp
      refine (HMd.out _ HBd.out).mono ?_
      rintro e w3 ⟨t1, rfl, ht1, hn1, ho1, hb3⟩
      have HO1 := hide ho1
      have HT1 := hide ht1
      have HB3 : Hid (Below w2.heap.size w2 w3) := ⟨hb3.os, hb3.tape, hb3.output, hb3.size, hb3.block⟩
      have HBw3 : Hid (Below w.heap.size w w3) := HBw.out.trans (HB3.out.mono HBw.out.size)
      have hS3 : (fun w' : World => w'.cell? ⟨Bx, 16, none⟩ = some (.int .i64 x.1.oc) ∧ w'.cell? ⟨Bx, 17, none⟩ = some (.slice x.1.made.p x.1.made.n x.1.made.c) ∧ w'.cell? ⟨Bx, 18, none⟩ = some (.slice x.1.sets.p x.1.sets.n x.1.sets.c)) w3 :=
        ⟨(HB3.out.cell (p := ⟨Bx, 16, none⟩) (ac_lt HX2.out)).trans c16, (HB3.out.cell (p := ⟨Bx, 17, none⟩) (ac_lt HX2.out)).trans c17, (HB3.out.cell (p := ⟨Bx, 18, none⟩) (ac_lt HX2.out)).trans c18⟩
      refine hK.out _ _ hS3 (fun _ => ?_)
      clear hK K ho1 ht1 hb3 hS hn1
      refine wpAnyH_ready (rs := [7]) (by kernel_rfl) (by simp) ?_
      refine AllReadyH.cons rfl (fun K hK => ?_) AllReadyH.nil
      go_simp
      refine (HSt.out _ HBw3.out).mono ?_
      rintro e w4 ⟨t2, rfl, ht2, hn2, ho2, hb4⟩
      have HO2 := hide ho2
      have HT2 := hide ht2
      have HB4 := hide hb4
      have hBi4 : w4.heap[Bi]? = some (.cells #[.int .u64 x.1.ac.num, .bool x.1.ac.sure, .int .i64 0, .slice none 0 0, .slice none 0 0] 86 (0, 0)) := (HB4.out.block Bi (Nat.lt_of_lt_of_le (ac_lt HBi.out) HB3.out.size)).trans ((HB3.out.block Bi (ac_lt HBi.out)).trans HBi.out)
      have hS4 : (fun w' : World => w'.cell? ⟨Bx, 16, none⟩ = some (.int .i64 x.1.oc) ∧ w'.cell? ⟨Bx, 17, none⟩ = some (.slice x.1.made.p x.1.made.n x.1.made.c) ∧ w'.cell? ⟨Bx, 18, none⟩ = some (.slice x.1.sets.p x.1.sets.n x.1.sets.c)) w4 :=
        ⟨(HB4.out.cell (p := ⟨Bx, 16, none⟩) (Nat.lt_of_lt_of_le (ac_lt HX2.out) HB3.out.size)).trans hS3.1, (HB4.out.cell (p := ⟨Bx, 17, none⟩) (Nat.lt_of_lt_of_le (ac_lt HX2.out) HB3.out.size)).trans hS3.2.1, (HB4.out.cell (p := ⟨Bx, 18, none⟩) (Nat.lt_of_lt_of_le (ac_lt HX2.out) HB3.out.size)).trans hS3.2.2⟩
      refine hK.out _ _ hS4 (fun _ => ?_)
      clear hK K ho2 ht2 hb4 hS3 hn2
      have hBi4' := hBi4
      have g2 : w4.cell? ⟨Bi, 2, none⟩ = some (.int .i64 0) := by simp [World.cell?, hBi4]
      have k2 : w4.frozen? ⟨Bi, 2, none⟩ = false := by simp [World.frozen?, hBi4]
      have hne : Bx ≠ Bi := fun e => by have h1 := HX2.out; have h2 := HBi.out; rw [e, h2] at h1; simp at h1
      have HNe := hide hne
      have HBi4 := hide hBi4
      clear hBi4 hBi4' hne
      refine wpAnyH_ready (rs := [9]) (by kernel_rfl) (by simp) ?_
      refine AllReadyH.cons rfl (fun K hK => ?_) AllReadyH.nil
      go_simp
      obtain ⟨w5, hw5⟩ : ∃ w5, w4.setCell ⟨Bi, 2, none⟩ (.int .i64 x.1.oc) = w5 := ⟨_, rfl⟩
      rw [hw5]
      have hBi5 : w5.heap[Bi]? = some (.cells #[.int .u64 x.1.ac.num, .bool x.1.ac.sure, .int .i64 x.1.oc, .slice none 0 0, .slice none 0 0] 86 (0, 0)) := by rw [← hw5]; exact heap_setCell_same w4 Bi 2 _ _ _ HBi4.out
      have hS5 : (fun w' : World => w'.cell? ⟨Bx, 16, none⟩ = some (.int .i64 x.1.oc) ∧ w'.cell? ⟨Bx, 17, none⟩ = some (.slice x.1.made.p x.1.made.n x.1.made.c) ∧ w'.cell? ⟨Bx, 18, none⟩ = some (.slice x.1.sets.p x.1.sets.n x.1.sets.c)) w5 := by
        have hb : w5.heap[Bx]? = w4.heap[Bx]? := by rw [← hw5]; exact heap_setCell_other w4 _ Bx _ HNe.out
        have hc : ∀ i, w5.cell? ⟨Bx, i, none⟩ = w4.cell? ⟨Bx, i, none⟩ := fun i => World.cell?_of_block hb
        exact ⟨(hc 16).trans hS4.1, (hc 17).trans hS4.2.1, (hc 18).trans hS4.2.2⟩
      refine hK.out _ _ hS5 (fun _ => ?_)
      have HW5 := hide hw5
      have g3 : w5.cell? ⟨Bi, 3, none⟩ = some (.slice none 0 0) := by simp [World.cell?, hBi5]
      have k3 : w5.frozen? ⟨Bi, 3, none⟩ = false := by simp [World.frozen?, hBi5]
      have HBi5 := hide hBi5
      clear hK K g2 k2 hS4 hw5 hBi5
      refine wpAnyH_take (i := 10) (v := .pointer (some ⟨Bi, 3, none⟩)) rfl (by kernel_rfl) (by kernel_rfl) (by kernel_rfl) (fun _ _ _ h => h) (Or.inl ⟨by rfl, ?_⟩) hS5 ?_
      · intro w' hSw
        try dsimp only at hSw
        go_simp
      simp only [Act.put]
      refine wpAnyH_ready (rs := [11]) (by kernel_rfl) (by simp) ?_
      refine AllReadyH.cons rfl (fun K hK => ?_) AllReadyH.nil
      go_simp
      obtain ⟨w6, hw6⟩ : ∃ w6, w5.setCell ⟨Bi, 3, none⟩ (.slice t1.p t1.n t1.c) = w6 := ⟨_, rfl⟩
      rw [hw6]
      have hBi6 : w6.heap[Bi]? = some (.cells #[.int .u64 x.1.ac.num, .bool x.1.ac.sure, .int .i64 x.1.oc, .slice t1.p t1.n t1.c, .slice none 0 0] 86 (0, 0)) := by rw [← hw6]; exact heap_setCell_same w5 Bi 3 _ _ _ HBi5.out
      have hS6 : (fun w' : World => w'.cell? ⟨Bx, 16, none⟩ = some (.int .i64 x.1.oc) ∧ w'.cell? ⟨Bx, 17, none⟩ = some (.slice x.1.made.p x.1.made.n x.1.made.c) ∧ w'.cell? ⟨Bx, 18, none⟩ = some (.slice x.1.sets.p x.1.sets.n x.1.sets.c)) w6 := by
        have hb : w6.heap[Bx]? = w5.heap[Bx]? := by rw [← hw6]; exact heap_setCell_other w5 _ Bx _ HNe.out
        have hc : ∀ i, w6.cell? ⟨Bx, i, none⟩ = w5.cell? ⟨Bx, i, none⟩ := fun i => World.cell?_of_block hb
        exact ⟨(hc 16).trans hS5.1, (hc 17).trans hS5.2.1, (hc 18).trans hS5.2.2⟩
      refine hK.out _ _ hS6 (fun _ => ?_)
      have HW6 := hide hw6
      have g4 : w6.cell? ⟨Bi, 4, none⟩ = some (.slice none 0 0) := by simp [World.cell?, hBi6]
      have k4 : w6.frozen? ⟨Bi, 4, none⟩ = false := by simp [World.frozen?, hBi6]
      have HBi6 := hide hBi6
      clear hK K g3 k3 hS5 hw6 hBi6
      refine wpAnyH_take (i := 12) (v := .pointer (some ⟨Bi, 4, none⟩)) rfl (by kernel_rfl) (by kernel_rfl) (by kernel_rfl) (fun _ _ _ h => h) (Or.inl ⟨by rfl, ?_⟩) hS6 ?_
      · intro w' hSw
        try dsimp only at hSw
        go_simp
      simp only [Act.put]
      refine wpAnyH_ready (rs := [13]) (by kernel_rfl) (by simp) ?_
      refine AllReadyH.cons rfl (fun K hK => ?_) AllReadyH.nil
      go_simp
      obtain ⟨w7, hw7⟩ : ∃ w7, w6.setCell ⟨Bi, 4, none⟩ (.slice t2.p t2.n t2.c) = w7 := ⟨_, rfl⟩
      rw [hw7]
      have hBi7 : w7.heap[Bi]? = some (.cells #[.int .u64 x.1.ac.num, .bool x.1.ac.sure, .int .i64 x.1.oc, .slice t1.p t1.n t1.c, .slice t2.p t2.n t2.c] 86 (0, 0)) := by rw [← hw7]; exact heap_setCell_same w6 Bi 4 _ _ _ HBi6.out
      have hS7 : (fun w' : World => w'.cell? ⟨Bx, 16, none⟩ = some (.int .i64 x.1.oc) ∧ w'.cell? ⟨Bx, 17, none⟩ = some (.slice x.1.made.p x.1.made.n x.1.made.c) ∧ w'.cell? ⟨Bx, 18, none⟩ = some (.slice x.1.sets.p x.1.sets.n x.1.sets.c)) w7 := by
        have hb : w7.heap[Bx]? = w6.heap[Bx]? := by rw [← hw7]; exact heap_setCell_other w6 _ Bx _ HNe.out
        have hc : ∀ i, w7.cell? ⟨Bx, i, none⟩ = w6.cell? ⟨Bx, i, none⟩ := fun i => World.cell?_of_block hb
        exact ⟨(hc 16).trans hS6.1, (hc 17).trans hS6.2.1, (hc 18).trans hS6.2.2⟩
      refine hK.out _ _ hS7 (fun _ => ?_)
      have HW7 := hide hw7
      have HBi7 := hide hBi7
      clear hK K g4 k4 hS6 hS7 hw7 hBi7
      refine wpAnyH_done (by kernel_rfl) ?_ _
      dsimp only [NQ]
      have hB7 : Below W.heap.size W w7 := by
        have hlt : W.heap.size ≤ Bi := by rw [← hBie]; exact HB1.out.size
        have h4 : Below W.heap.size W w4 := (HB2.out.trans (HB3.out.mono HB2.out.size)).trans (HB4.out.mono (Nat.le_trans HB2.out.size HB3.out.size))
        rw [← HW7.out, ← HW6.out, ← HW5.out]
        exact ((h4.setCell (p := ⟨Bi, 2, none⟩) hlt _).setCell (p := ⟨Bi, 3, none⟩) hlt _).setCell (p := ⟨Bi, 4, none⟩) hlt _
      have hO1 : w7.ownsRow W.heap.size 84 2 (.slice t1.p t1.n t1.c) t1.n (flat linc t1.xs) := by
        have h4 := owns_keep (owns_le HO1.out (Nat.le_trans HB2.out.size (Nat.le_refl _))) HB4.out
        rw [← HW7.out, ← HW6.out, ← HW5.out]
        exact owns_set (owns_set (owns_set h4 HBi4.out (by decide)) (by rw [HW5.out]; exact HBi5.out) (by decide)) (by rw [HW5.out, HW6.out]; exact HBi6.out) (by decide)
      have hO2 : w7.ownsRow W.heap.size 111 3 (.slice t2.p t2.n t2.c) t2.n (flat tric t2.xs) := by
        have h4 := owns_le HO2.out (Nat.le_trans HB2.out.size HB3.out.size)
        rw [← HW7.out, ← HW6.out, ← HW5.out]
        exact owns_set (owns_set (owns_set h4 HBi4.out (by decide)) (by rw [HW5.out]; exact HBi5.out) (by decide)) (by rw [HW5.out, HW6.out]; exact HBi6.out) (by decide)
      obtain ⟨va, vc, rfl, hvc⟩ := slice_form HI.out.row
      have hcb : w7.cell? ⟨w.heap.size, 0, none⟩ = some (.slice va its.length vc) := (hB7.cell (p := ⟨w.heap.size, 0, none⟩) HV.out.lt).trans HV.out.cell
      have m0 : w7.cell? ⟨Bi, 0, none⟩ = some (.int .u64 x.1.ac.num) := by simp [World.cell?, HBi7.out]
      have m1 : w7.cell? ⟨Bi, 1, none⟩ = some (.bool x.1.ac.sure) := by simp [World.cell?, HBi7.out]
      have m2 : w7.cell? ⟨Bi, 2, none⟩ = some (.int .i64 x.1.oc) := by simp [World.cell?, HBi7.out]
      have m3 : w7.cell? ⟨Bi, 3, none⟩ = some (.slice t1.p t1.n t1.c) := by simp [World.cell?, HBi7.out]
      have m4 : w7.cell? ⟨Bi, 4, none⟩ = some (.slice t2.p t2.n t2.c) := by simp [World.cell?, HBi7.out]
      have HAp := hide (its_append ⟨x.1.ac.num, x.1.ac.sure, x.1.oc, t1, t2⟩ 62 HI.out (by have := HS.out.row.most; omega) h7 hB7 hO1 hO2)
      have HB7 := hide hB7
      clear hB7 hO1 hO2 c16 c17 c18
      gi_wp2_with (gi_at_builtin; refine li_append (.slice va its.length vc) (.slice (some ⟨w7.heap.size, 0, none⟩) 1 1) rfl rfl ?_; obtain ⟨v', w8, hr, h1, h2⟩ := HAp.out; refine ⟨v', w8, hr, ?_⟩; have hbx8 : Boxed w8 w.heap.size 62 (.slice va its.length vc) := (h2.block _ HV.out.lt (owns_ne HI.out.row HV.out (by decide))).trans HV.out; obtain ⟨va', vc', rfl, _⟩ := slice_form h1.row; have hc8 := hbx8.cell; have hf8 := hbx8.frozen; have HBx8 := hide hbx8; have HI8 := hide h1; have HG8 := hide h2; clear hr h1 h2 hbx8)
      have hown : ∀ g, (Value.slice va its.length vc).ownBlock = some g → w.heap.size + 3 ≤ g := fun g e => owns_base HI.out.row g e
      have hb8 : Below w.heap.size W w8 := (Below.refl _ W).grown HG8.out H6.out.size (fun k e => by have := hown k e; omega)
      refine ⟨((KeepsOthers.of_grownBy HG8.out (fun j o ej hj => ?_)).trans (KeepsOthers.setCell _ _ _)).from _, ⟨hb8.setCell (p := ⟨w.heap.size, 0, none⟩) (Nat.le_refl _) _, ?_⟩, .slice va' (its.length + 1) vc', its ++ [⟨x.1.ac.num, x.1.ac.sure, x.1.oc, t1, t2⟩], HBx8.out.set _, ?_, ?_, by simp only [List.length_append, List.length_cons, List.length_nil]; omega, by simp only [List.length_append, List.length_cons, List.length_nil]; omega, (H6.out.trans hb8).setCell (p := ⟨w.heap.size, 0, none⟩) (Nat.le_refl _) _, ?_⟩
      · rcases HI.out.row.2 with ⟨e1, _⟩ | ⟨g, cap, cur, e1, _, hgb, _⟩
        · rw [e1] at ej; simp [Value.ownBlock] at ej
        · rw [e1] at ej
          obtain rfl : g = j := by simpa [Value.ownBlock] using ej
          rw [hgb] at hj; cases hj; rfl
      · rw [heap_setCell_other _ _ _ _ (by show w.heap.size + 1 + 1 ≠ w.heap.size; omega)]
        exact HG8.out.block _ (by omega) (fun e => by have := hown _ e.symm; omega)
      · have h8 := HI8.out
        rw [List.length_append] at h8
        exact Its.set (k := w.heap.size) h8 (by omega)
      · rw [List.map_append, H3.out, List.filter_append, List.map_append]
        congr 1
        simp [HKD.out, Itm.d, itE, HT1.out, HT2.out]
      · have := HG8.out.size
        simp [World.setCell]
        omega
    · have hk2 : (kd == 1) = false := by simp [hk1]
      gi_wp2
      refine ⟨KeepsFrom.refl _ _, ⟨Below.refl _ _, rfl⟩, v, its, HV.out, HI.out, ?_, by rw [List.length_append]; omega, by rw [List.length_append]; simp; omega, H6.out, h7⟩
      rw [H3.out, List.filter_append]
      simp [HKD.out, hk1]
  case done =>
    rintro D ys W hD hys ⟨v, its, hv, hI, h3, h4, h5, h6, h7⟩ hK
    have hc := hv.cell
    gi_wp2
    refine ⟨by simp, .inl ⟨_, _, rfl, run_takeDeferred hK, ?_⟩⟩
    have hg := grownBy_putObj' W D (.deferred none)
    have hfar : ∀ r, some D = some r → ∃ o : Obj, W.heap[r]? = some o ∧ o.isCells = false := fun r e => by cases e; exact ⟨_, hK, rfl⟩
    refine ⟨_, results_tmp rfl _ _ _, v, its, rfl, (hI.far hg hfar).le (by omega), ?_, by omega, h6.trans (belowK_b (w := w) (Nat.le_refl _) W D _ _ (by simp at hD; omega) hK rfl rfl)⟩
    rw [h3, hys]
    have e1 := edsOf_filter s.xs HS.out.each (wrB till)
    have e2 : ((edsOf s.xs HS.out.each).filter (fun x => ownB till x.1)).filter (fun x => decide (x.1.ac.kind = 1)) = (edsOf s.xs HS.out.each).filter (fun x => wrB till x.1) := by
      rw [List.filter_filter]
      congr 1
      funext x
      unfold wrB
      rw [Bool.and_comm]
    rw [e2, ← e1, List.map_map]
    rfl
  case stop =>
    rintro D c pre W _ _ h _
    exact h.elim
end Go.Proofs.Ytecbidaljchmoaa
namespace Go.Proofs.Ytecbidaljchmoaa
open Go.RowKit

theorem ItsOk.join {B : Nat} {w1 w2 : World} {is js : List Itm} (h1 : ItsOk B w1 is) (h2 : ItsOk w1.heap.size w2 js) (hb : Below w1.heap.size w1 w2) (hB : B ≤ w1.heap.size) : ItsOk B w2 (is ++ js) := by
  have h1' := h1.below hb
  refine ⟨fun x hx => ?_, fun x hx => ?_, List.pairwise_append.2 ⟨h1.risem, h2.risem, fun x hx y hy => ?_⟩, List.pairwise_append.2 ⟨h1.rises, h2.rises, fun x hx y hy => ?_⟩⟩
  · rcases List.mem_append.1 hx with h | h
    · exact h1'.made x h
    · exact owns_le (h2.made x h) hB
  · rcases List.mem_append.1 hx with h | h
    · exact h1'.sets x h
    · exact owns_le (h2.sets x h) hB
  · exact fun g h e1 e2 => Nat.lt_of_lt_of_le (rk_lt (h1.made x hx) e1) (owns_base (h2.made y hy) h e2)
  · exact fun g h e1 e2 => Nat.lt_of_lt_of_le (rk_lt (h1.sets x hx) e1) (owns_base (h2.sets y hy) h e2)

set_option maxRecDepth 100000 in
set_option maxHeartbeats 4000000 in
theorem joined_any (w : World) (B g : Nat) (a1 a2 : Option Addr) (c1 c2 : Nat) (is js : List Itm) (hg : w.heap[g]? = some (.cells #[.slice a1 is.length c1, .slice a2 js.length c2] 62 (0, 0))) (hl : is.length + js.length ≤ 1099511627)
    (h1 : w.ownsRow B 86 5 (.slice a1 is.length c1) is.length (flat itc is)) (h2 : w.ownsRow B 86 5 (.slice a2 js.length c2) js.length (flat itc js)) (hI : ItsOk B w (is ++ js)) (hB : B ≤ w.heap.size) :
    Calls Try.prog 26 #[.slice (some ⟨g, 0, none⟩) 2 2] w fun e w' => ∃ v, e = .returned v ∧ Its B w' v (is ++ js) ∧ Below w.heap.size w w' := by
  have HC1 := hide (cel_row (f := itc) elt_item.len h1 rfl)
  have HC2 := hide (cel_row (f := itc) elt_item.len h2 rfl)
  have HI := hide hI
  have HG := hide hg
  clear h1 h2 hI hg
  go_enter Try.func26, Try.ntmps26
  go_wp2
  go_loopw [3, 8] (fun l i wr => (i = .int .i64 0 ∧ l = .slice none 0 0 ∧ wr = w) ∨ (i = .int .i64 1 ∧ Hid (wr.ownsRow w.heap.size 86 5 l is.length (flat itc is) ∧ Below w.heap.size w wr)) ∨ (i = .int .i64 2 ∧ Hid (wr.ownsRow w.heap.size 86 5 l (is ++ js).length (flat itc (is ++ js)) ∧ Below w.heap.size w wr))) (fun _ i _ => 2 - (intOf i).toNat)
  case atStart => exact Or.inl ⟨rfl, rfl, rfl⟩
  case round =>
    rcases hrel with ⟨rfl, rfl, rfl⟩ | ⟨rfl, HR⟩ | ⟨rfl, HR⟩
    · have c0 : wr.cell? ⟨g, 0, none⟩ = some (.slice a1 is.length c1) := by simp [World.cell?, HG.out]
      obtain ⟨v', w4, hr, ho, hgr, _⟩ := elt_item.run_append wr 62 wr.heap.size 0 (.slice none 0 0) [] (World.ownsRow_nil _ _ _ _) a1 is.length c1 is rfl HC1.out (by omega) (Nat.le_refl _)
      have HR := hide hr
      have HO := hide ho
      have HGr := hide hgr
      clear hr ho hgr
      go_wp2_with (at_builtin; refine lp_append (.slice none 0 0) (.slice a1 is.length c1) rfl rfl ⟨v', w4, HR.out, ?_⟩)
      go_roundw
      case rel => exact Or.inr (Or.inl ⟨rfl, by simpa using HO.out, (Below.refl _ wr).grown HGr.out (Nat.le_refl _) (fun k e => by cases e)⟩)
      case measure => simp [intOf]
    · have hlt := ac_lt HG.out
      have c0 : wr.cell? ⟨g, 1, none⟩ = some (.slice a2 js.length c2) := (HR.out.2.cell (p := ⟨g, 1, none⟩) hlt).trans (by simp [World.cell?, HG.out])
      obtain ⟨la, lc, rfl, _⟩ := slice_form HR.out.1
      obtain ⟨v', w4, hr, ho, hgr, _⟩ := elt_item.run_append wr 62 w.heap.size is.length (.slice la is.length lc) (flat itc is) HR.out.1 a2 js.length c2 js rfl (HC2.out.below HR.out.2) (by omega) HR.out.2.size
      have HR2 := hide hr
      have HO : Hid (w4.ownsRow w.heap.size 86 5 v' (is ++ js).length (flat itc (is ++ js)) ∧ Below w.heap.size w w4) := ⟨by rw [List.length_append, flat_app]; exact ho, HR.out.2.grown hgr HR.out.2.size (fun k e => owns_base HR.out.1 k e)⟩
      clear hr ho hgr
      go_wp2_with (at_builtin; refine lp_append (.slice la is.length lc) (.slice a2 js.length c2) rfl rfl ⟨v', w4, HR2.out, ?_⟩)
      go_roundw
      case rel => exact Or.inr (Or.inr ⟨rfl, HO⟩)
      case measure => simp [intOf]
    · go_wp2
      go_ret
      exact ⟨_, rfl, ⟨owns_le HR.out.1 hB, HI.out.below HR.out.2⟩, HR.out.2⟩

set_option maxRecDepth 100000 in
set_option maxHeartbeats 4000000 in
theorem of_any (w : World) (s : Sli Eda) (b : Sli Acd) (till : Int) (hs : Ents w s) (hb : Acts w b) :
    Calls Try.prog 12 #[.slice s.p s.n s.c, .slice b.p b.n b.c, .int .i64 till] w fun e w' => ∃ v its, e = .returned v ∧ Its w.heap.size w' v its ∧ its.map Itm.d = ofP s.xs b.xs till ∧ its.length ≤ s.n + b.n ∧ Below w.heap.size w w' := by
  have HS := hide (committed_any w s till hs)
  have HW := hide (fun (w' : World) (h : Below w.heap.size w w') => waiting_any w' b till (hb.below h))
  have hm1 := hs.row.most
  have hm2 := hb.row.most
  clear hs hb
  go_enter Try.func12, Try.ntmps12
  go_wp2_with (
    first
    | (go_at_call 27; refine HS.out.mono ?_; rintro e w1 ⟨v1, is, rfl, h1, hd1, hl1, hb1⟩; obtain ⟨a1, c1, rfl, _⟩ := slice_form h1.row; have H1 := hide h1; have HD1 := hide hd1; have HB1 := hide hb1; clear h1 hd1 hb1)
    | (go_at_call 28; refine (HW.out _ HB1.out).mono ?_; rintro e w2 ⟨v2, js, rfl, h2, hd2, hl2, hb2⟩; obtain ⟨a2, c2, rfl, _⟩ := slice_form h2.row; have H2 := hide h2; have HD2 := hide hd2; have HB2 := hide hb2; clear h2 hd2 hb2)
    | (go_at_call 26; refine (joined_any _ w.heap.size w2.heap.size a1 a2 c1 c2 is js (heap_alloc_new _ _) (by omega) (owns_keep (owns_keep H1.out.row HB2.out) ((Below.refl _ w2).alloc (Nat.le_refl _) _)) (owns_keep (owns_le H2.out.row HB1.out.size) ((Below.refl _ w2).alloc (Nat.le_refl _) _)) ((H1.out.each.join H2.out.each HB2.out HB1.out.size).below ((Below.refl _ w2).alloc (Nat.le_refl _) _)) (by have := HB1.out.size; have := HB2.out.size; simp; omega)).mono ?_; rintro e w3 ⟨v3, rfl, h3, hb3⟩; have H3 := hide h3; have HB3 := hide hb3; clear h3 hb3))
  go_ret
  refine ⟨_, is ++ js, rfl, H3.out, ?_, by rw [List.length_append]; omega, ?_⟩
  · rw [List.map_append, HD1.out, HD2.out]
    rfl
  · have h2 : Below w.heap.size w w2 := HB1.out.trans (HB2.out.mono HB1.out.size)
    have h3 := h2.alloc h2.size (.cells #[.slice a1 is.length c1, .slice a2 js.length c2] 62)
    exact h3.trans (HB3.out.mono h3.size)
end Go.Proofs.Ytecbidaljchmoaa
