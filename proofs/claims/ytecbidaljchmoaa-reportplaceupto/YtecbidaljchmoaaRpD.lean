import Derived.Test.YtecbidaljchmoaaRpC
namespace Go.Proofs.Ytecbidaljchmoaa
open Go.RowKit

/-- Items of one's own: the row, and each item's lists, each in a block of its own. -/
structure ItsOk (B : Nat) (w : World) (its : List Itm) : Prop where
  made : ∀ x ∈ its, w.ownsRow B 84 2 (.slice x.made.p x.made.n x.made.c) x.made.n (flat linc x.made.xs)
  sets : ∀ x ∈ its, w.ownsRow B 111 3 (.slice x.sets.p x.sets.n x.sets.c) x.sets.n (flat tric x.sets.xs)
  risem : its.Pairwise (fun x y => ∀ g h, (Value.slice x.made.p x.made.n x.made.c).ownBlock = some g → (Value.slice y.made.p y.made.n y.made.c).ownBlock = some h → g < h)
  rises : its.Pairwise (fun x y => ∀ g h, (Value.slice x.sets.p x.sets.n x.sets.c).ownBlock = some g → (Value.slice y.sets.p y.sets.n y.sets.c).ownBlock = some h → g < h)
theorem itsOk_nil (B : Nat) (w : World) : ItsOk B w [] := ⟨fun x h => (by simp at h), fun x h => (by simp at h), .nil, .nil⟩
theorem owns_ne {w : World} {B n k s : Nat} {t t' : TypeId} {v : Value} {xs : List Value} {C : Array Value} {fr : Nat × Nat} (h : w.ownsRow B t s v n xs) (hk : w.heap[k]? = some (.cells C t' fr)) (ht : t' ≠ t) : some k ≠ v.ownBlock := by
  rcases h.2 with ⟨rfl, _⟩ | ⟨g, cap, cur, rfl, _, hgb, _⟩
  · simp [Value.ownBlock]
  · intro e'
    obtain rfl : k = g := by simpa [Value.ownBlock] using e'
    rw [hk] at hgb
    simp at hgb
    exact ht hgb.2.1
theorem owns_two {w : World} {B B' n n' s s' : Nat} {t t' : TypeId} {v v' : Value} {xs xs' : List Value} (h : w.ownsRow B t s v n xs) (h' : w.ownsRow B' t' s' v' n' xs') (ht : t ≠ t') : v.ownBlock = none ∨ v.ownBlock ≠ v'.ownBlock := by
  rcases h.2 with ⟨rfl, _⟩ | ⟨g, cap, cur, rfl, _, hgb, _⟩
  · left; rfl
  · right
    intro e
    exact (owns_ne h' hgb ht) e
theorem owns_keep {w w' : World} {B n s : Nat} {t : TypeId} {v : Value} {xs : List Value} (h : w.ownsRow B t s v n xs) (hb : Below w.heap.size w w') : w'.ownsRow B t s v n xs := owns_same h (fun g hg => hb.block g (rk_lt h hg))
theorem owns_le {w : World} {base base' : Nat} {e : TypeId} {size : Nat} {v : Value} {n : Nat} {xs : List Value} (h : w.ownsRow base e size v n xs) (hb : base' ≤ base) : w.ownsRow base' e size v n xs :=
  ⟨h.1, h.2.imp id fun ⟨g, cap, cur, h1, h2, r⟩ => ⟨g, cap, cur, h1, Nat.le_trans hb h2, r⟩⟩
theorem owns_base {w : World} {B n s : Nat} {t : TypeId} {v : Value} {xs : List Value} (h : w.ownsRow B t s v n xs) : ∀ g, v.ownBlock = some g → B ≤ g := fun g hg => by
  rcases h.2 with ⟨rfl, _⟩ | ⟨g', cap, cur, rfl, hb, _⟩
  · simp [Value.ownBlock] at hg
  · obtain rfl : g' = g := by simpa [Value.ownBlock] using hg
    exact hb
theorem owns_grown {w w' : World} {B n s : Nat} {t : TypeId} {v : Value} {xs : List Value} {r : Option Nat} (h : w.ownsRow B t s v n xs) (hg : w.grownBy w' r) (hr : ∀ g, v.ownBlock = some g → some g ≠ r) : w'.ownsRow B t s v n xs :=
  owns_same h (fun g e => hg.block g (rk_lt h e) (hr g e))
theorem ItsOk.grown {B B' : Nat} {w w' : World} {its : List Itm} {v : Value} {s n : Nat} {t : TypeId} {ys : List Value} (h : ItsOk B w its) (hown : w.ownsRow B' t s v n ys) (h1 : t ≠ 84) (h2 : t ≠ 111) (hg : w.grownBy w' v.ownBlock) : ItsOk B w' its :=
  ⟨fun x hx => owns_grown (h.made x hx) hg (fun g e => fun e' => by
      rcases owns_two hown (h.made x hx) h1 with e1 | e1
      · rw [e1] at e'; cases e'
      · exact e1 (by rw [← e', e])),
    fun x hx => owns_grown (h.sets x hx) hg (fun g e => fun e' => by
      rcases owns_two hown (h.sets x hx) h2 with e1 | e1
      · rw [e1] at e'; cases e'
      · exact e1 (by rw [← e', e])), h.risem, h.rises⟩
theorem ItsOk.below {B : Nat} {w w' : World} {its : List Itm} (h : ItsOk B w its) (hb : Below w.heap.size w w') : ItsOk B w' its :=
  ⟨fun x hx => owns_keep (h.made x hx) hb, fun x hx => owns_keep (h.sets x hx) hb, h.risem, h.rises⟩
theorem ItsOk.le {B B' : Nat} {w : World} {its : List Itm} (h : ItsOk B w its) (hb : B' ≤ B) : ItsOk B' w its :=
  ⟨fun x hx => owns_le (h.made x hx) hb, fun x hx => owns_le (h.sets x hx) hb, h.risem, h.rises⟩
/-- An item more: its lists are new. -/
theorem ItsOk.snoc {B : Nat} {w w' : World} {its : List Itm} {x : Itm} (h : ItsOk B w its) (hb : Below w.heap.size w w') (hB : B ≤ w.heap.size)
    (hm : w'.ownsRow w.heap.size 84 2 (.slice x.made.p x.made.n x.made.c) x.made.n (flat linc x.made.xs)) (hs : w'.ownsRow w.heap.size 111 3 (.slice x.sets.p x.sets.n x.sets.c) x.sets.n (flat tric x.sets.xs)) : ItsOk B w' (its ++ [x]) := by
  have h' := h.below hb
  refine ⟨fun y hy => ?_, fun y hy => ?_, List.pairwise_append.2 ⟨h.risem, by simp, fun y hy z hz => ?_⟩, List.pairwise_append.2 ⟨h.rises, by simp, fun y hy z hz => ?_⟩⟩
  · rcases List.mem_append.1 hy with h1 | h1
    · exact h'.made y h1
    · simp at h1; subst h1; exact owns_le hm hB
  · rcases List.mem_append.1 hy with h1 | h1
    · exact h'.sets y h1
    · simp at h1; subst h1; exact owns_le hs hB
  · simp at hz
    subst hz
    intro g g' e1 e2
    exact Nat.lt_of_lt_of_le (rk_lt (h.made y hy) e1) (owns_base hm g' e2)
  · simp at hz
    subst hz
    intro g g' e1 e2
    exact Nat.lt_of_lt_of_le (rk_lt (h.sets y hy) e1) (owns_base hs g' e2)
/-- Items in memory, as one's own. -/
structure Its (B : Nat) (w : World) (v : Value) (its : List Itm) : Prop where
  row : w.ownsRow B 86 5 v its.length (flat itc its)
  each : ItsOk B w its
theorem Its.below {B : Nat} {w w' : World} {v : Value} {its : List Itm} (h : Its B w v its) (hb : Below w.heap.size w w') : Its B w' v its := ⟨owns_keep h.row hb, h.each.below hb⟩
theorem Its.le {B B' : Nat} {w : World} {v : Value} {its : List Itm} (h : Its B w v its) (hb : B' ≤ B) : Its B' w v its := ⟨owns_le h.row hb, h.each.le hb⟩
theorem its_nil (B : Nat) (w : World) : Its B w (.slice none 0 0) [] := ⟨World.ownsRow_nil _ _ _ _, itsOk_nil B w⟩
theorem five_new (w : World) (c0 c1 c2 c3 c4 : Value) (t : TypeId) : Cel (w.alloc (.cells #[c0, c1, c2, c3, c4] t)) (some ⟨w.heap.size, 0, none⟩) 5 [[c0, c1, c2, c3, c4]] := by
  refine Or.inr ⟨_, 0, rfl, by simp, fun i r hr j v hv => ?_⟩
  match i, hr with
  | 0, hr =>
    simp at hr
    subst hr
    rw [cell_of_row _ _ _ _ _ _ (heap_alloc_new w (.cells #[c0, c1, c2, c3, c4] t))]
    simpa using hv
  | i + 1, hr => simp at hr
/-- 'append(v, y)': an item more, its cells in the block that was made last. -/
theorem its_append {B : Nat} {wr w2 : World} {v : Value} {its : List Itm} (y : Itm) (ty : TypeId) (hI : Its B wr v its) (hl : its.length ≤ 1073741824) (hB : B ≤ wr.heap.size) (hb2 : Below wr.heap.size wr w2)
    (hm : w2.ownsRow wr.heap.size 84 2 (.slice y.made.p y.made.n y.made.c) y.made.n (flat linc y.made.xs)) (hs : w2.ownsRow wr.heap.size 111 3 (.slice y.sets.p y.sets.n y.sets.c) y.sets.n (flat tric y.sets.xs)) :
    ∃ v' w4, (Builtin.append_ #[62, 62] ty #[v, .slice (some ⟨w2.heap.size, 0, none⟩) 1 1]).run Try.prog (w2.alloc (.cells #[.int .u64 y.num, .bool y.sure, .int .i64 y.oc, .slice y.made.p y.made.n y.made.c, .slice y.sets.p y.sets.n y.sets.c] 86)) = .ok v' w4 ∧
      Its B w4 v' (its ++ [y]) ∧ wr.grownBy w4 v.ownBlock := by
  obtain ⟨w3, hw3⟩ : ∃ w3, w2.alloc (.cells #[.int .u64 y.num, .bool y.sure, .int .i64 y.oc, .slice y.made.p y.made.n y.made.c, .slice y.sets.p y.sets.n y.sets.c] 86) = w3 := ⟨_, rfl⟩
  have hb3 : Below wr.heap.size wr w3 := by rw [← hw3]; exact hb2.alloc hb2.size _
  have hn3 : Below w2.heap.size w2 w3 := by rw [← hw3]; exact (Below.refl _ w2).alloc (Nat.le_refl _) _
  have hcel : Cel w3 (some ⟨w2.heap.size, 0, none⟩) 5 ([y].map itc) := by rw [← hw3]; exact five_new w2 _ _ _ _ _ _
  rw [hw3]
  have hro := owns_keep hI.row hb3
  have hsz : B ≤ w3.heap.size := Nat.le_trans hB hb3.size
  obtain ⟨v', w4, hr, ho, hg, _⟩ := elt_item.run_append w3 ty B its.length v (flat itc its) hro (some ⟨w2.heap.size, 0, none⟩) 1 1 [y] rfl hcel (by omega) hsz
  have hit : ItsOk B w3 (its ++ [y]) := hI.each.snoc hb3 hB (owns_keep hm hn3) (owns_keep hs hn3)
  have ho' : w4.ownsRow B 86 5 v' (its ++ [y]).length (flat itc (its ++ [y])) := by
    rw [List.length_append, flat_app]; exact ho
  refine ⟨v', w4, hr, ⟨ho', hit.grown hro (by decide) (by decide) hg⟩, ?_⟩
  exact ⟨hg.os.trans hb3.os, hg.tape.trans hb3.tape, hg.output.trans hb3.output, Nat.le_trans hb3.size hg.size, fun k hk hne => (hg.block k (Nat.lt_of_lt_of_le hk hb3.size) hne).trans (hb3.block k hk)⟩
def itmA (a : Acd) : Itm := ⟨a.num, a.sure, 0, ⟨none, 0, 0, []⟩, ⟨none, 0, 0, []⟩⟩
theorem itmA_d (a : Acd) : (itmA a).d = itA a := rfl
theorem Try.sizeA : (Try.prog.info? 80).map (·.size) = some 15 := by kernel_rfl

set_option maxRecDepth 100000 in
set_option maxHeartbeats 4000000 in
theorem waiting_any (w : World) (s : Sli Acd) (till : Int) (hs : Acts w s) :
    Calls Try.prog 28 #[.slice s.p s.n s.c, .int .i64 till] w fun e w' => ∃ v its, e = .returned v ∧ Its w.heap.size w' v its ∧ its.map Itm.d = (s.xs.filter (waB till)).map itA ∧ its.length ≤ s.n ∧ Below w.heap.size w w' := by
  obtain ⟨p, n, c, xs⟩ := s
  have hlen : xs.length = n := hs.row.len
  have hmost : n ≤ 4194304 := hs.row.most
  have HC := hide hs.row.cel
  clear hs
  simp only at HC ⊢
  go_enter Try.func28, Try.ntmps28
  go_wp2
  go_loopw [5, 10] (fun l i wr => ∃ (k : Nat) (its : List Itm), k ≤ n ∧ i = .int .i64 k ∧ Hid (Its w.heap.size wr l its ∧ its.map Itm.d = ((xs.take k).filter (waB till)).map itA ∧ its.length ≤ k ∧ Below w.heap.size w wr)) (fun _ i _ => n - (intOf i).toNat)
  case atStart => exact ⟨0, [], Nat.zero_le _, rfl, its_nil _ _, rfl, Nat.le_refl _, Below.refl _ _⟩
  case round =>
    obtain ⟨k, its, hk, rfl, HI⟩ := hrel
    obtain ⟨la, lc, rfl, hlc⟩ := slice_form HI.out.1.row
    by_cases hlt : k < n
    · obtain ⟨x, hx⟩ : ∃ x, xs[k]? = some x := ⟨_, List.getElem?_eq_getElem (by omega)⟩
      have hlt' : (k : Int) < (n : Int) := by omega
      obtain ⟨b, o, e, hb, hcl⟩ := HC.out.get (i := k) (r := x.list) (by simp [hx])
      subst e
      have f : ∀ i v, x.list[i]? = some v → wr.cell? ⟨b, o + k * 15 + i, none⟩ = some v := fun i v hv => (HI.out.2.2.2.cell (p := ⟨b, o + k * 15 + i, none⟩) hb).trans (hcl i v hv)
      obtain ⟨A, hA⟩ : ∃ A, x.arr = A := ⟨_, rfl⟩
      have HZ : Hid (A.size = 15) := by show _ = _; rw [← hA]; rfl
      have HO : Hid (A.all (·.oneCell') = true) := by show _ = _; rw [← hA]; exact x.ones
      have HL1 : Hid ((Instr.loadAt 80 (.pointer (some ⟨b, o + k * 15, none⟩))).run Try.prog wr = .ok (.agg A) wr) := by
        show _ = _
        rw [← hA]
        exact run_loadAt_mid (P := Try.prog) wr b (o + k * 15) 80 x.list _ f Try.underlying80 rfl Try.sizeA
      have HL2 : Hid ((Instr.loadAt 80 (.pointer (some ⟨wr.heap.size, 0, none⟩))).run Try.prog (wr.alloc (.cells A 80)) = .ok (.agg A) (wr.alloc (.cells A 80))) := by
        have h := run_loadAt_mid (P := Try.prog) (wr.alloc (.cells A 80)) wr.heap.size 0 80 A.toList _ (fun j v hv => by rw [cell_of_row _ _ _ _ _ _ (heap_alloc_new wr (.cells A 80)), Nat.zero_add]; simpa using hv) Try.underlying80 rfl (by rw [Array.length_toList, HZ.out]; exact Try.sizeA)
        rw [Array.toArray_toList] at h
        exact h
      have a0 : A[0]? = some (.int .i64 x.till) := by rw [← hA]; rfl
      have a2 : A[2]? = some (.int .i64 x.kind) := by rw [← hA]; rfl
      have HX := hide hx
      have HA := hide hA
      obtain ⟨tl, htl⟩ : ∃ tl, x.till = tl := ⟨_, rfl⟩
      obtain ⟨kd, hkd⟩ : ∃ kd, x.kind = kd := ⟨_, rfl⟩
      rw [htl] at a0
      rw [hkd] at a2
      have HTL := hide htl
      have HKD := hide hkd
      clear hcl f hx hA htl hkd
      have HBa : Hid (Below wr.heap.size wr (wr.alloc (.cells A 80))) := (Below.refl _ wr).alloc (Nat.le_refl _) _
      by_cases hk1 : kd = 1
      · subst hk1
        by_cases hkt : tl = till
        · subst hkt
          have HF : Hid ((xs.take (k + 1)).filter (waB tl) = (xs.take k).filter (waB tl) ++ [x]) := by
            show _ = _
            rw [take_snoc HX.out, List.filter_append]
            simp [waB, HKD.out, HTL.out]
          have HIt := hide (fun w' => itemOf_any w' x A HA.out)
          go_wp2_with (
            first
            | ((with_reducible show wpList _ _ _ (⟨_, .load 80 (.tmp 12), _, _, _, _⟩ :: _) _ _); refine lp_load b (o + k * 15) A rfl HL1.out ?_)
            | ((with_reducible show wpList _ _ _ (⟨_, .load 80 (.tmp 7), _, _, _, _⟩ :: _) _ _); refine lp_load wr.heap.size 0 A rfl HL2.out ?_)
            | ((with_reducible show wpList _ _ _ (⟨_, .store 80 (.tmp 7) _, _, _, _, _⟩ :: _) _ _); refine lp_store (t := 80) (x := .tmp 7) (some ⟨wr.heap.size, 0, none⟩) (.agg A) rfl rfl (run_storeAt_new wr _ _ A (by rw [HZ.out]; exact Try.sizeA) (by rw [HZ.out]; rfl) HO.out) ?_)
            | (go_at_call 39; refine (HIt.out _).mono ?_; rintro e w2 ⟨rfl, hb2⟩; have HB2 : Hid (Below wr.heap.size wr w2) := HBa.out.trans (hb2.mono (by simp)); clear hb2)
            | (at_builtin; refine lp_append (.slice la its.length lc) (.slice (some ⟨w2.heap.size, 0, none⟩) 1 1) rfl rfl ?_; obtain ⟨v', w4, hr, h1, h2⟩ := its_append (itmA x) 62 HI.out.1 (by have := HI.out.2.2.1; omega) HI.out.2.2.2.size HB2.out (World.ownsRow_nil _ _ _ _) (World.ownsRow_nil _ _ _ _); refine ⟨v', w4, hr, ?_⟩; have HI4 := hide (And.intro h1 (HI.out.2.2.2.grown h2 HI.out.2.2.2.size (fun g e => owns_base HI.out.1.row g e))); clear hr h1 h2))
          go_roundw
          case rel => exact ⟨k + 1, its ++ [itmA x], by omega, by go_num, HI4.out.1, by rw [HF.out, List.map_append, List.map_append, HI.out.2.1]; rfl, by rw [List.length_append]; have := HI.out.2.2.1; simp; omega, HI4.out.2⟩
          case measure => simp [intOf]; omega
        · have HF : Hid ((xs.take (k + 1)).filter (waB till) = (xs.take k).filter (waB till)) := by
            show _ = _
            rw [take_snoc HX.out, List.filter_append]
            simp [waB, HTL.out, hkt]
          go_wp2_with (first | ((with_reducible show wpList _ _ _ (⟨_, .load 80 (.tmp 12), _, _, _, _⟩ :: _) _ _); refine lp_load b (o + k * 15) A rfl HL1.out ?_) | ((with_reducible show wpList _ _ _ (⟨_, .store 80 (.tmp 7) _, _, _, _, _⟩ :: _) _ _); refine lp_store (t := 80) (x := .tmp 7) (some ⟨wr.heap.size, 0, none⟩) (.agg A) rfl rfl (run_storeAt_new wr _ _ A (by rw [HZ.out]; exact Try.sizeA) (by rw [HZ.out]; rfl) HO.out) ?_))
          go_roundw
          case rel => exact ⟨k + 1, its, by omega, by go_num, HI.out.1.below HBa.out, by rw [HF.out]; exact HI.out.2.1, by have := HI.out.2.2.1; omega, HI.out.2.2.2.alloc HI.out.2.2.2.size _⟩
          case measure => simp [intOf]; omega
      · have HF : Hid ((xs.take (k + 1)).filter (waB till) = (xs.take k).filter (waB till)) := by
          show _ = _
          rw [take_snoc HX.out, List.filter_append]
          simp [waB, HKD.out, hk1]
        have hk2 : (kd == 1) = false := by simp [hk1]
        go_wp2_with (first | ((with_reducible show wpList _ _ _ (⟨_, .load 80 (.tmp 12), _, _, _, _⟩ :: _) _ _); refine lp_load b (o + k * 15) A rfl HL1.out ?_) | ((with_reducible show wpList _ _ _ (⟨_, .store 80 (.tmp 7) _, _, _, _, _⟩ :: _) _ _); refine lp_store (t := 80) (x := .tmp 7) (some ⟨wr.heap.size, 0, none⟩) (.agg A) rfl rfl (run_storeAt_new wr _ _ A (by rw [HZ.out]; exact Try.sizeA) (by rw [HZ.out]; rfl) HO.out) ?_))
        go_roundw
        case rel => exact ⟨k + 1, its, by omega, by go_num, HI.out.1.below HBa.out, by rw [HF.out]; exact HI.out.2.1, by have := HI.out.2.2.1; omega, HI.out.2.2.2.alloc HI.out.2.2.2.size _⟩
        case measure => simp [intOf]; omega
    · obtain rfl : k = n := by omega
      go_wp2
      go_ret
      exact ⟨_, its, rfl, HI.out.1, by rw [HI.out.2.1, List.take_of_length_le (by omega)], HI.out.2.2.1, HI.out.2.2.2⟩
end Go.Proofs.Ytecbidaljchmoaa
