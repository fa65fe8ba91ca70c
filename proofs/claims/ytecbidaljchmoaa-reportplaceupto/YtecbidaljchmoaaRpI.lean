import Derived.Test.YtecbidaljchmoaaRpE
import Derived.Test.YtecbidaljchmoaaRpG
namespace Go.Proofs.Ytecbidaljchmoaa
open Go.RowKit Go.Shelf
attribute [local go_sem] Oper.semAt_some

def cnt (es : List Eda) (k : Int) : Nat := es.countP (fun e => decide (e.oc = k))
theorem cnt_snoc (es : List Eda) (e : Eda) (k : Int) : cnt (es ++ [e]) k = cnt es k + (if e.oc = k then 1 else 0) := by
  unfold cnt
  rw [List.countP_append]
  by_cases h : e.oc = k <;> simp [h]
theorem cnt_le (es : List Eda) (k : Int) : cnt es k ≤ es.length := List.countP_le_length
def cntV (es : List Eda) : Array Value := #[.int .i64 (cnt es 0), .int .i64 (cnt es 1), .int .i64 (cnt es 2), .int .i64 (cnt es 3), .int .i64 (cnt es 4), .int .i64 (cnt es 5)]
theorem cntV_same (es : List Eda) (e : Eda) (h : ¬ (0 ≤ e.oc ∧ e.oc < 6)) : cntV (es ++ [e]) = cntV es := by
  have hk : ∀ k : Int, 0 ≤ k → k < 6 → cnt (es ++ [e]) k = cnt es k := fun k h0 h1 => by
    rw [cnt_snoc, if_neg (by omega)]; rfl
  unfold cntV
  rw [hk 0 (by omega) (by omega), hk 1 (by omega) (by omega), hk 2 (by omega) (by omega), hk 3 (by omega) (by omega), hk 4 (by omega) (by omega), hk 5 (by omega) (by omega)]
/-- What Count holds between two rounds. -/
def Ct (w : World) (N : Nat) (pre : List (EdO w)) (W : World) : Prop :=
  W.heap[w.heap.size]? = some (.cells #[.int .i64 0, .int .i64 0, .int .i64 0, .int .i64 0, .int .i64 0, .int .i64 0] 66 (0, 0)) ∧ W.heap[w.heap.size + 1]? = some (.cells (cntV (pre.map (·.1))) 66 (0, 0)) ∧ pre.length ≤ N ∧ Below w.heap.size w W ∧ w.heap.size + 4 ≤ W.heap.size
theorem ct_own (w : World) (N B : Nat) (hB : w.heap.size ≤ B) : OwnFrom B (Ct w N) := fun s A C row hs hg hr => by
  obtain ⟨h1, h2, h3, h4, h5⟩ := hs
  have hr' : ∀ r, row = some r → ∃ o : Obj, A.heap[r]? = some o ∧ o.isCells = false := fun r e => (hr r e).2
  exact ⟨cells_far h1 hg hr', cells_far h2 hg hr', h3, h4.grown hg h4.size (fun k e => Nat.le_trans hB (hr k e).1), Nat.le_trans h5 hg.size⟩

set_option maxRecDepth 100000 in
set_option maxHeartbeats 4000000 in
theorem count_any (w : World) (s : Sli Eda) (till : Int) (hs : Ents w s) :
    Calls Try.prog 16 #[.slice s.p s.n s.c, .int .i64 till] w fun e w' => e = .returned (.agg (cntV (s.xs.filter (ownB till)))) ∧ Below w.heap.size w w' := by
  have hmost : s.n ≤ 67108864 := Nat.le_trans hs.row.most (by omega)
  have HS := hide hs
  clear hs
  have hmx : Try.prog.follows .mixedOrders = true := by kernel_rfl
  refine (callsIn_wide (n := 9)).1 ?_
  have h9 : 1 ≤ 9 := by omega
  refine callsIn_of_wp_marks Try.func16 rfl trivial ?_ rfl
  simp only [Try.ntmps16, List.size_toArray, List.length_cons, List.length_nil, Nat.reduceAdd, Nat.reduceSub, Array.replicate_succ, Array.replicate_zero, List.push_toArray, List.append_toArray, List.nil_append, List.cons_append]
  gi_wp2_with (refine ⟨trivial, ?_⟩; gi_at_call 33; refine (ofTill_in 8 s.p s.n s.c till _).mono ?_; rintro e w' ⟨rfl, rfl⟩)
  obtain ⟨Z, hZ⟩ : ∃ Z : Array Value, #[.int .i64 0, .int .i64 0, .int .i64 0, .int .i64 0, .int .i64 0, .int .i64 0] = Z := ⟨_, rfl⟩
  have bS := (heap_alloc_new ((w.alloc (.cells Z 66)).alloc (.cells Z 66)) (.cells #[.slice s.p s.n s.c] 26))
  obtain ⟨W0, hW0⟩ : ∃ W0, (((w.alloc (.cells #[.int .i64 0, .int .i64 0, .int .i64 0, .int .i64 0, .int .i64 0, .int .i64 0] 66)).alloc (.cells #[.int .i64 0, .int .i64 0, .int .i64 0, .int .i64 0, .int .i64 0, .int .i64 0] 66)).alloc (.cells #[.slice s.p s.n s.c] 26)).alloc (.cells #[.int .i64 till] 3) = W0 := ⟨_, rfl⟩
  have hB0 : Below w.heap.size w W0 := by rw [← hW0]; exact ((((Below.refl _ w).alloc (Nat.le_refl _) _).alloc (by simp) _).alloc (by simp; omega) _).alloc (by simp; omega) _
  have hsz : W0.heap.size = w.heap.size + 1 + 1 + 1 + 1 := by rw [← hW0]; simp
  have b0 : W0.heap[w.heap.size]? = some (.cells #[.int .i64 0, .int .i64 0, .int .i64 0, .int .i64 0, .int .i64 0, .int .i64 0] 66 (0, 0)) := by
    rw [← hW0, Below.heap_alloc _ _ _ (by simp only [World.size_alloc]; omega), Below.heap_alloc _ _ _ (by simp only [World.size_alloc]; omega), Below.heap_alloc _ _ _ (by simp)]; exact heap_alloc_new _ _
  have b1 : W0.heap[w.heap.size + 1]? = some (.cells #[.int .i64 0, .int .i64 0, .int .i64 0, .int .i64 0, .int .i64 0, .int .i64 0] 66 (0, 0)) := by
    rw [← hW0, Below.heap_alloc _ _ _ (by simp only [World.size_alloc]; omega), Below.heap_alloc _ _ _ (by simp)]
    exact heap_alloc2_new w _ _
  have b2 : W0.heap[w.heap.size + 1 + 1]? = some (.cells #[.slice s.p s.n s.c] 26 (0, 0)) := by
    rw [← hW0, Below.heap_alloc _ _ _ (by simp)]
    have := heap_alloc_new ((w.alloc (.cells #[.int .i64 0, .int .i64 0, .int .i64 0, .int .i64 0, .int .i64 0, .int .i64 0] 66)).alloc (.cells #[.int .i64 0, .int .i64 0, .int .i64 0, .int .i64 0, .int .i64 0, .int .i64 0] 66)) (.cells #[.slice s.p s.n s.c] 26)
    simp only [World.size_alloc] at this
    exact this
  have b3 : W0.heap[w.heap.size + 1 + 1 + 1]? = some (.cells #[.int .i64 till] 3 (0, 0)) := by
    have := heap_alloc_new (((w.alloc (.cells #[.int .i64 0, .int .i64 0, .int .i64 0, .int .i64 0, .int .i64 0, .int .i64 0] 66)).alloc (.cells #[.int .i64 0, .int .i64 0, .int .i64 0, .int .i64 0, .int .i64 0, .int .i64 0] 66)).alloc (.cells #[.slice s.p s.n s.c] 26)) (.cells #[.int .i64 till] 3)
    simp only [World.size_alloc] at this
    rw [← hW0]
    exact this
  clear bS hZ Z
  rw [hW0]
  clear hW0
  refine wpIn_rangeFunc_ownH rfl h9 (gf := 44) (lb := #[.pointer (some ⟨w.heap.size + 1 + 1, 0, none⟩), .pointer (some ⟨w.heap.size + 1 + 1 + 1, 0, none⟩)]) rfl trivial (enters_of Try.func44 (by kernel_rfl) rfl)
    (ofTill_stops 8 (by omega) (w.heap.size + 1 + 1) (w.heap.size + 1 + 1 + 1) s till w _ HS.out hB0 b2 b3) KB.trans (KB.put (by rw [hsz]; omega) (by rw [hsz]; omega)) (Below.refl _ _) (fun _ => rfl)
    (Ct w s.n) (fun _ _ _ => False) (ct_own w s.n _ (by rw [hsz]; omega)) (fun _ _ _ _ _ hs _ _ => hs)
    ⟨b0, b1, Nat.zero_le _, hB0, by omega⟩
    (fun x a' W => ∃ Bx, w.heap.size + 4 ≤ Bx ∧ W.heap[Bx]? = some (.cells x.1.arr 82 (0, 0)) ∧ a' = { tmps := #[.slice s.p s.n s.c, .int .i64 till, undef, undef, .pointer (some ⟨w.heap.size, 0, none⟩), .pointer (some ⟨w.heap.size + 1, 0, none⟩), .pointer (some ⟨Bx, 0, none⟩), .slice s.p s.n s.c, .int .i64 till, .func (.func 44) #[] #[.pointer (some ⟨w.heap.size + 1 + 1, 0, none⟩), .pointer (some ⟨w.heap.size + 1 + 1 + 1, 0, none⟩)], .agg x.1.arr, undef, undef, undef, undef, undef, undef, undef, undef, undef, undef, undef, undef, undef, undef, undef], defers := [] })
    (fun x a' s A C row hs hg hr => by obtain ⟨Bx, h0, h1, h2⟩ := hs; exact ⟨Bx, h0, cells_far h1 hg (fun r e => (hr r e).2), h2⟩) ?assign ?body ?done ?stop
  case assign =>
    rintro l pre x W K hI hK
    obtain ⟨A, hA⟩ : ∃ A, x.1.arr = A := ⟨_, rfl⟩
    have HZ : Hid (A.size = 22) := by show _ = _; rw [← hA]; rfl
    have HO : Hid (A.all (·.oneCell') = true) := by show _ = _; rw [← hA]; exact x.1.ones
    have HI := hide hI
    have HK := hide hK
    have HA := hide hA
    simp only [encE, hA]
    clear hI hK hA
    gi_wp2_with (((with_reducible show wpListIn _ _ _ _ _ (⟨_, .store 82 (.tmp 6) _, _, _, _, _⟩ :: _) _ _); refine li_store (t := 82) (x := .tmp 6) (some ⟨W.heap.size, 0, none⟩) (.agg A) rfl rfl (run_storeAt_new W _ _ A (by rw [HZ.out]; exact Try.sizeE) (by rw [HZ.out]; rfl) HO.out) ?_))
    obtain ⟨h1, h2, h3, h4, h5⟩ := HI.out
    refine HK.out _ _ ((KeepsOthers.alloc _ _).from _) ⟨(Below.refl _ W).alloc h4.size _, Below.heap_alloc _ _ _ (by omega)⟩ ((ct_own w s.n _ (Nat.le_refl _)).alloc _ HI.out) ⟨W.heap.size, h5, by rw [HA.out]; exact heap_alloc_new _ _, ?_⟩
    rw [HA.out]
    rfl
  case body =>
    rintro l pre x a' W hl ⟨r, hr⟩ ⟨h1, h2, h3, h4, h5⟩ ⟨Bx, hBx, hbx, rfl⟩ hlt
    obtain ⟨A, hA⟩ : ∃ A, x.1.arr = A := ⟨_, rfl⟩
    rw [hA] at hbx
    simp only [hA]
    have a16 : A[16]? = some (.int .i64 x.1.oc) := by rw [← hA]; rfl
    have hc16 : W.cell? ⟨Bx, 16, none⟩ = some (.int .i64 x.1.oc) := by rw [cell_of_row _ _ _ _ _ _ hbx, a16]
    obtain ⟨oc, hoc⟩ : ∃ oc, x.1.oc = oc := ⟨_, rfl⟩
    rw [hoc] at hc16
    have HOC := hide hoc
    have HI := hide (And.intro h1 (And.intro h2 (And.intro h3 (And.intro h4 h5))))
    have hcl : ∀ k : Int, cnt (pre.map (·.1)) k ≤ 67108864 := fun k => by have := cnt_le (pre.map (·.1)) k; rw [List.length_map] at this; omega
    have hsn : (pre ++ [x]).map (·.1) = pre.map (·.1) ++ [x.1] := by simp
    have HSn := hide hsn
    clear hoc hA hbx a16 hsn
    by_cases hin : 0 ≤ oc ∧ oc < 6
    · obtain ⟨q0, q1⟩ := hin
      have hcases : oc = 0 ∨ oc = 1 ∨ oc = 2 ∨ oc = 3 ∨ oc = 4 ∨ oc = 5 := by omega
      obtain ⟨n0, hn0⟩ : ∃ n, cnt (pre.map (·.1)) 0 = n := ⟨_, rfl⟩
      obtain ⟨n1, hn1⟩ : ∃ n, cnt (pre.map (·.1)) 1 = n := ⟨_, rfl⟩
      obtain ⟨n2, hn2⟩ : ∃ n, cnt (pre.map (·.1)) 2 = n := ⟨_, rfl⟩
      obtain ⟨n3, hn3⟩ : ∃ n, cnt (pre.map (·.1)) 3 = n := ⟨_, rfl⟩
      obtain ⟨n4, hn4⟩ : ∃ n, cnt (pre.map (·.1)) 4 = n := ⟨_, rfl⟩
      obtain ⟨n5, hn5⟩ : ∃ n, cnt (pre.map (·.1)) 5 = n := ⟨_, rfl⟩
      have l0 := hcl 0
      have l1 := hcl 1
      have l2 := hcl 2
      have l3 := hcl 3
      have l4 := hcl 4
      have l5 := hcl 5
      unfold cntV at h2
      rw [hn0, hn1, hn2, hn3, hn4, hn5] at h2
      rw [hn0] at l0
      rw [hn1] at l1
      rw [hn2] at l2
      rw [hn3] at l3
      rw [hn4] at l4
      rw [hn5] at l5
      have HN := hide (And.intro hn0 (And.intro hn1 (And.intro hn2 (And.intro hn3 (And.intro hn4 hn5)))))
      have H2 := hide h2
      clear hcl hn0 hn1 hn2 hn3 hn4 hn5 h1 h2
      rcases hcases with rfl | rfl | rfl | rfl | rfl | rfl
      · have d : W.cell? ⟨w.heap.size + 1, 0, none⟩ = some (.int .i64 n0) := by simp [World.cell?, H2.out]
        have f : W.frozen? ⟨w.heap.size + 1, 0, none⟩ = false := by simp [World.frozen?, H2.out]
        have hb : Below w.heap.size W (W.setCell ⟨w.heap.size + 1, 0, none⟩ (.int .i64 (((n0 : Nat) : Int) + 1))) := (Below.refl _ W).setCell (p := ⟨w.heap.size + 1, 0, none⟩) (Nat.le_succ _) _
        have HE : Hid (KeepsFrom (w.heap.size + 1 + 1 + 1 + 1) W (W.setCell ⟨w.heap.size + 1, 0, none⟩ (.int .i64 (((n0 : Nat) : Int) + 1))) ∧ KB w.heap.size (w.heap.size + 1 + 1 + 1) W (W.setCell ⟨w.heap.size + 1, 0, none⟩ (.int .i64 (((n0 : Nat) : Int) + 1))) ∧ Ct w s.n (pre ++ [x]) (W.setCell ⟨w.heap.size + 1, 0, none⟩ (.int .i64 (((n0 : Nat) : Int) + 1)))) := by
          refine ⟨(KeepsOthers.setCell _ _ _).from _, ⟨hb, heap_setCell_other _ _ _ _ (by show w.heap.size + 1 + 1 + 1 ≠ w.heap.size + 1; omega)⟩, ?_, ?_, by rw [List.length_append]; simp; omega, HI.out.2.2.2.1.trans hb, by simp [World.setCell]; exact HI.out.2.2.2.2⟩
          · rw [heap_setCell_other _ _ _ _ (by show w.heap.size ≠ w.heap.size + 1; omega)]; exact HI.out.1
          · rw [heap_setCell_same W (w.heap.size + 1) 0 _ _ _ H2.out, HSn.out]
            obtain ⟨m0, m1, m2, m3, m4, m5⟩ := HN.out
            have hcn : ∀ k : Int, cnt (pre.map (·.1) ++ [x.1]) k = cnt (pre.map (·.1)) k + (if (0 : Int) = k then 1 else 0) := fun k => by rw [cnt_snoc, HOC.out]
            unfold cntV
            rw [hcn, hcn, hcn, hcn, hcn, hcn, m0, m1, m2, m3, m4, m5]
            simp
        gi_wp2
        exact HE.out
      · have d : W.cell? ⟨w.heap.size + 1, 1, none⟩ = some (.int .i64 n1) := by simp [World.cell?, H2.out]
        have f : W.frozen? ⟨w.heap.size + 1, 1, none⟩ = false := by simp [World.frozen?, H2.out]
        have hb : Below w.heap.size W (W.setCell ⟨w.heap.size + 1, 1, none⟩ (.int .i64 (((n1 : Nat) : Int) + 1))) := (Below.refl _ W).setCell (p := ⟨w.heap.size + 1, 1, none⟩) (Nat.le_succ _) _
        have HE : Hid (KeepsFrom (w.heap.size + 1 + 1 + 1 + 1) W (W.setCell ⟨w.heap.size + 1, 1, none⟩ (.int .i64 (((n1 : Nat) : Int) + 1))) ∧ KB w.heap.size (w.heap.size + 1 + 1 + 1) W (W.setCell ⟨w.heap.size + 1, 1, none⟩ (.int .i64 (((n1 : Nat) : Int) + 1))) ∧ Ct w s.n (pre ++ [x]) (W.setCell ⟨w.heap.size + 1, 1, none⟩ (.int .i64 (((n1 : Nat) : Int) + 1)))) := by
          refine ⟨(KeepsOthers.setCell _ _ _).from _, ⟨hb, heap_setCell_other _ _ _ _ (by show w.heap.size + 1 + 1 + 1 ≠ w.heap.size + 1; omega)⟩, ?_, ?_, by rw [List.length_append]; simp; omega, HI.out.2.2.2.1.trans hb, by simp [World.setCell]; exact HI.out.2.2.2.2⟩
          · rw [heap_setCell_other _ _ _ _ (by show w.heap.size ≠ w.heap.size + 1; omega)]; exact HI.out.1
          · rw [heap_setCell_same W (w.heap.size + 1) 1 _ _ _ H2.out, HSn.out]
            obtain ⟨m0, m1, m2, m3, m4, m5⟩ := HN.out
            have hcn : ∀ k : Int, cnt (pre.map (·.1) ++ [x.1]) k = cnt (pre.map (·.1)) k + (if (1 : Int) = k then 1 else 0) := fun k => by rw [cnt_snoc, HOC.out]
            unfold cntV
            rw [hcn, hcn, hcn, hcn, hcn, hcn, m0, m1, m2, m3, m4, m5]
            simp
        gi_wp2
        exact HE.out
      · have d : W.cell? ⟨w.heap.size + 1, 2, none⟩ = some (.int .i64 n2) := by simp [World.cell?, H2.out]
        have f : W.frozen? ⟨w.heap.size + 1, 2, none⟩ = false := by simp [World.frozen?, H2.out]
        have hb : Below w.heap.size W (W.setCell ⟨w.heap.size + 1, 2, none⟩ (.int .i64 (((n2 : Nat) : Int) + 1))) := (Below.refl _ W).setCell (p := ⟨w.heap.size + 1, 2, none⟩) (Nat.le_succ _) _
        have HE : Hid (KeepsFrom (w.heap.size + 1 + 1 + 1 + 1) W (W.setCell ⟨w.heap.size + 1, 2, none⟩ (.int .i64 (((n2 : Nat) : Int) + 1))) ∧ KB w.heap.size (w.heap.size + 1 + 1 + 1) W (W.setCell ⟨w.heap.size + 1, 2, none⟩ (.int .i64 (((n2 : Nat) : Int) + 1))) ∧ Ct w s.n (pre ++ [x]) (W.setCell ⟨w.heap.size + 1, 2, none⟩ (.int .i64 (((n2 : Nat) : Int) + 1)))) := by
          refine ⟨(KeepsOthers.setCell _ _ _).from _, ⟨hb, heap_setCell_other _ _ _ _ (by show w.heap.size + 1 + 1 + 1 ≠ w.heap.size + 1; omega)⟩, ?_, ?_, by rw [List.length_append]; simp; omega, HI.out.2.2.2.1.trans hb, by simp [World.setCell]; exact HI.out.2.2.2.2⟩
          · rw [heap_setCell_other _ _ _ _ (by show w.heap.size ≠ w.heap.size + 1; omega)]; exact HI.out.1
          · rw [heap_setCell_same W (w.heap.size + 1) 2 _ _ _ H2.out, HSn.out]
            obtain ⟨m0, m1, m2, m3, m4, m5⟩ := HN.out
            have hcn : ∀ k : Int, cnt (pre.map (·.1) ++ [x.1]) k = cnt (pre.map (·.1)) k + (if (2 : Int) = k then 1 else 0) := fun k => by rw [cnt_snoc, HOC.out]
            unfold cntV
            rw [hcn, hcn, hcn, hcn, hcn, hcn, m0, m1, m2, m3, m4, m5]
            simp
        gi_wp2
        exact HE.out
      · have d : W.cell? ⟨w.heap.size + 1, 3, none⟩ = some (.int .i64 n3) := by simp [World.cell?, H2.out]
        have f : W.frozen? ⟨w.heap.size + 1, 3, none⟩ = false := by simp [World.frozen?, H2.out]
        have hb : Below w.heap.size W (W.setCell ⟨w.heap.size + 1, 3, none⟩ (.int .i64 (((n3 : Nat) : Int) + 1))) := (Below.refl _ W).setCell (p := ⟨w.heap.size + 1, 3, none⟩) (Nat.le_succ _) _
        have HE : Hid (KeepsFrom (w.heap.size + 1 + 1 + 1 + 1) W (W.setCell ⟨w.heap.size + 1, 3, none⟩ (.int .i64 (((n3 : Nat) : Int) + 1))) ∧ KB w.heap.size (w.heap.size + 1 + 1 + 1) W (W.setCell ⟨w.heap.size + 1, 3, none⟩ (.int .i64 (((n3 : Nat) : Int) + 1))) ∧ Ct w s.n (pre ++ [x]) (W.setCell ⟨w.heap.size + 1, 3, none⟩ (.int .i64 (((n3 : Nat) : Int) + 1)))) := by
          refine ⟨(KeepsOthers.setCell _ _ _).from _, ⟨hb, heap_setCell_other _ _ _ _ (by show w.heap.size + 1 + 1 + 1 ≠ w.heap.size + 1; omega)⟩, ?_, ?_, by rw [List.length_append]; simp; omega, HI.out.2.2.2.1.trans hb, by simp [World.setCell]; exact HI.out.2.2.2.2⟩
          · rw [heap_setCell_other _ _ _ _ (by show w.heap.size ≠ w.heap.size + 1; omega)]; exact HI.out.1
          · rw [heap_setCell_same W (w.heap.size + 1) 3 _ _ _ H2.out, HSn.out]
            obtain ⟨m0, m1, m2, m3, m4, m5⟩ := HN.out
            have hcn : ∀ k : Int, cnt (pre.map (·.1) ++ [x.1]) k = cnt (pre.map (·.1)) k + (if (3 : Int) = k then 1 else 0) := fun k => by rw [cnt_snoc, HOC.out]
            unfold cntV
            rw [hcn, hcn, hcn, hcn, hcn, hcn, m0, m1, m2, m3, m4, m5]
            simp
        gi_wp2
        exact HE.out
      · have d : W.cell? ⟨w.heap.size + 1, 4, none⟩ = some (.int .i64 n4) := by simp [World.cell?, H2.out]
        have f : W.frozen? ⟨w.heap.size + 1, 4, none⟩ = false := by simp [World.frozen?, H2.out]
        have hb : Below w.heap.size W (W.setCell ⟨w.heap.size + 1, 4, none⟩ (.int .i64 (((n4 : Nat) : Int) + 1))) := (Below.refl _ W).setCell (p := ⟨w.heap.size + 1, 4, none⟩) (Nat.le_succ _) _
        have HE : Hid (KeepsFrom (w.heap.size + 1 + 1 + 1 + 1) W (W.setCell ⟨w.heap.size + 1, 4, none⟩ (.int .i64 (((n4 : Nat) : Int) + 1))) ∧ KB w.heap.size (w.heap.size + 1 + 1 + 1) W (W.setCell ⟨w.heap.size + 1, 4, none⟩ (.int .i64 (((n4 : Nat) : Int) + 1))) ∧ Ct w s.n (pre ++ [x]) (W.setCell ⟨w.heap.size + 1, 4, none⟩ (.int .i64 (((n4 : Nat) : Int) + 1)))) := by
          refine ⟨(KeepsOthers.setCell _ _ _).from _, ⟨hb, heap_setCell_other _ _ _ _ (by show w.heap.size + 1 + 1 + 1 ≠ w.heap.size + 1; omega)⟩, ?_, ?_, by rw [List.length_append]; simp; omega, HI.out.2.2.2.1.trans hb, by simp [World.setCell]; exact HI.out.2.2.2.2⟩
          · rw [heap_setCell_other _ _ _ _ (by show w.heap.size ≠ w.heap.size + 1; omega)]; exact HI.out.1
          · rw [heap_setCell_same W (w.heap.size + 1) 4 _ _ _ H2.out, HSn.out]
            obtain ⟨m0, m1, m2, m3, m4, m5⟩ := HN.out
            have hcn : ∀ k : Int, cnt (pre.map (·.1) ++ [x.1]) k = cnt (pre.map (·.1)) k + (if (4 : Int) = k then 1 else 0) := fun k => by rw [cnt_snoc, HOC.out]
            unfold cntV
            rw [hcn, hcn, hcn, hcn, hcn, hcn, m0, m1, m2, m3, m4, m5]
            simp
        gi_wp2
        exact HE.out
      · have d : W.cell? ⟨w.heap.size + 1, 5, none⟩ = some (.int .i64 n5) := by simp [World.cell?, H2.out]
        have f : W.frozen? ⟨w.heap.size + 1, 5, none⟩ = false := by simp [World.frozen?, H2.out]
        have hb : Below w.heap.size W (W.setCell ⟨w.heap.size + 1, 5, none⟩ (.int .i64 (((n5 : Nat) : Int) + 1))) := (Below.refl _ W).setCell (p := ⟨w.heap.size + 1, 5, none⟩) (Nat.le_succ _) _
        have HE : Hid (KeepsFrom (w.heap.size + 1 + 1 + 1 + 1) W (W.setCell ⟨w.heap.size + 1, 5, none⟩ (.int .i64 (((n5 : Nat) : Int) + 1))) ∧ KB w.heap.size (w.heap.size + 1 + 1 + 1) W (W.setCell ⟨w.heap.size + 1, 5, none⟩ (.int .i64 (((n5 : Nat) : Int) + 1))) ∧ Ct w s.n (pre ++ [x]) (W.setCell ⟨w.heap.size + 1, 5, none⟩ (.int .i64 (((n5 : Nat) : Int) + 1)))) := by
          refine ⟨(KeepsOthers.setCell _ _ _).from _, ⟨hb, heap_setCell_other _ _ _ _ (by show w.heap.size + 1 + 1 + 1 ≠ w.heap.size + 1; omega)⟩, ?_, ?_, by rw [List.length_append]; simp; omega, HI.out.2.2.2.1.trans hb, by simp [World.setCell]; exact HI.out.2.2.2.2⟩
          · rw [heap_setCell_other _ _ _ _ (by show w.heap.size ≠ w.heap.size + 1; omega)]; exact HI.out.1
          · rw [heap_setCell_same W (w.heap.size + 1) 5 _ _ _ H2.out, HSn.out]
            obtain ⟨m0, m1, m2, m3, m4, m5⟩ := HN.out
            have hcn : ∀ k : Int, cnt (pre.map (·.1) ++ [x.1]) k = cnt (pre.map (·.1)) k + (if (5 : Int) = k then 1 else 0) := fun k => by rw [cnt_snoc, HOC.out]
            unfold cntV
            rw [hcn, hcn, hcn, hcn, hcn, hcn, m0, m1, m2, m3, m4, m5]
            simp
        gi_wp2
        exact HE.out
    · have hcv : cntV ((pre ++ [x]).map (·.1)) = cntV (pre.map (·.1)) := by rw [HSn.out]; exact cntV_same _ _ (by rw [HOC.out]; exact hin)
      have HE : Hid (Ct w s.n (pre ++ [x]) W) := ⟨HI.out.1, by rw [hcv]; exact HI.out.2.1, by rw [List.length_append]; simp; omega, HI.out.2.2.2.1, HI.out.2.2.2.2⟩
      clear hcv h1 h2 hcl
      by_cases q0 : 0 ≤ oc
      · have q1 : ¬ oc < 6 := fun h => hin ⟨q0, h⟩
        clear hin
        gi_wp2
        exact ⟨KeepsFrom.refl _ _, ⟨Below.refl _ _, rfl⟩, HE.out⟩
      · clear hin
        gi_wp2
        exact ⟨KeepsFrom.refl _ _, ⟨Below.refl _ _, rfl⟩, HE.out⟩
  case done =>
    rintro D ys W hD hys ⟨h1, h2, h3, h4, h5⟩ hK
    have hlp : ys.length ≤ 67108864 := by omega
    obtain ⟨C, hC⟩ : ∃ C, cntV (ys.map (·.1)) = C := ⟨_, rfl⟩
    have hCs : C.size = 6 := by rw [← hC]; rfl
    have hC1 : C.all (·.oneCell') = true := by rw [← hC]; simp [cntV, Value.oneCell']
    rw [hC] at h2
    have HL := hide (loadAt_row (P := Try.prog) (ty := 66) h2 Try.underlying66 rfl (by rw [hCs]; kernel_rfl))
    have HSt := hide (storeAt_row (P := Try.prog) (c' := C) h1 (by rw [hCs]; kernel_rfl) (by rw [hCs]; rfl) hC1)
    have HR : Hid (Below w.heap.size w (W.setRow w.heap.size C)) := below_setRow h4 (Nat.le_refl _) C
    have HK := hide (show (W.setRow w.heap.size C).heap[D]? = some (.deferred (some [])) from (setRow_other W w.heap.size D C (by omega)).trans hK)
    have HB := hide (setRow_heap W w.heap.size _ C _ _ h1)
    have HY : Hid (cntV (s.xs.filter (ownB till)) = C) := by
      show _ = _
      rw [← hC, hys, edsOf_filter s.xs HS.out.each (ownB till)]
    clear h1 h2 h3 h4 hK hC hys
    gi_wp2_with (
      first
      | ((with_reducible show wpListIn _ _ _ _ _ (⟨_, .load 66 (.tmp 5), _, _, _, _⟩ :: _) _ _); refine li_load (w.heap.size + 1) 0 C rfl HL.out ?_)
      | ((with_reducible show wpListIn _ _ _ _ _ (⟨_, .store 66 (.tmp 4) _, _, _, _, _⟩ :: _) _ _); refine li_store (t := 66) (x := .tmp 4) (some ⟨w.heap.size, 0, none⟩) (.agg C) rfl rfl HSt.out ?_))
    refine ⟨by simp, .inl ⟨_, _, rfl, run_takeDeferred HK.out, ?_⟩⟩
    have hfar : ∀ r, some D = some r → ∃ o : Obj, (W.setRow w.heap.size C).heap[r]? = some o ∧ o.isCells = false := fun r e => by cases e; exact ⟨_, HK.out, rfl⟩
    have hB2 := cells_far HB.out (grownBy_putObj' (W.setRow w.heap.size C) D (.deferred none)) hfar
    refine ⟨_, results_cell_row rfl _ _ w.heap.size 66 C (0, 0) _ rfl hB2 Try.underlying66 rfl (by rw [hCs]; kernel_rfl), ?_, HR.out.trans (belowK_b (w := w) (Nat.le_refl _) _ D _ _ (by omega) HK.out rfl rfl)⟩
    rw [HY.out]
  case stop =>
    rintro D c pre W _ _ h _
    exact h.elim
end Go.Proofs.Ytecbidaljchmoaa
