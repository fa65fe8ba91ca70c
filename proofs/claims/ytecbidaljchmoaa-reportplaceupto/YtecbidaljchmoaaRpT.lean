import Derived.Test.YtecbidaljchmoaaRpS
import Derived.Test.YtecbidaljchmoaaRpO
import Derived.Test.YtecbidaljchmoaaRpL
namespace Go.Proofs.Ytecbidaljchmoaa
open Go.RowKit

theorem layT_len (l : List Lin) (x : Lin) : (layT l x).length ≤ l.length + 1 := by
  induction l with
  | nil => simp [layT]
  | cons y l ih =>
    unfold layT
    split
    · simp
    · split
      · simp
      · simp; omega
theorem movT_len (xs : List Lin) : (movT xs).length ≤ xs.length := by
  suffices h : ∀ l : List Lin, (xs.foldl layT l).length ≤ l.length + xs.length from by simpa [movT] using h []
  induction xs with
  | nil => intro l; simp
  | cons x xs ih =>
    intro l
    have := ih (layT l x)
    have := layT_len l x
    simp only [List.foldl_cons, List.length_cons]
    omega
theorem lp_loadw {P : Program} {ops : Array Oper} {rest : List Oper} {a : Act} {w : World} {Q : Exit → Act → World → Prop} {dst : Option Tmp} {t ty : TypeId} {x : Operand} {pos : String} {after : Array Edge} {gd : Option (Nat × Bool)} (b o : Nat) (A : Array Value)
    (hw : Region.wanted ⟨dst, .load t x, ty, pos, after, gd⟩ (yielded ops a.tmps) = true) (hx : a.eval x = .pointer (some ⟨b, o, none⟩)) (hr : (Instr.loadAt t (.pointer (some ⟨b, o, none⟩))).run P w = .ok (.agg A) w) (h : wpList P ops Q rest (a.put dst (.agg A)) w) :
    wpList P ops Q (⟨dst, .load t x, ty, pos, after, gd⟩ :: rest) a w := by
  refine wpList_step fun K hK => ?_
  rw [if_pos hw]
  unfold Oper.wp
  simp [execOp, hx, hr, Result.andThen]
  exact hK _ _ h
/-- The lines of a till's entries. -/
def linesT (till : Int) (es : List Eda) : List Lin := linesP (es.filter (ownB till))
theorem linesP_le (es : List Eda) (p : Eda → Bool) : (linesP (es.filter p)).length ≤ (linesP es).length := by
  induction es with
  | nil => simp [linesP]
  | cons e es ih =>
    have h1 : linesP (e :: es) = e.made.xs ++ linesP es := rfl
    rw [List.filter_cons, h1, List.length_append]
    split
    · have h2 : linesP (e :: es.filter p) = e.made.xs ++ linesP (es.filter p) := rfl
      rw [h2, List.length_append]
      omega
    · omega
theorem linesP_app (es fs : List Eda) : linesP (es ++ fs) = linesP es ++ linesP fs := by simp [linesP]
theorem linesP_pre (es : List Eda) (k : Nat) : (linesP (es.take k)).length ≤ (linesP es).length := by
  conv => rhs; rw [← List.take_append_drop k es, linesP_app, List.length_append]
  omega
/-- Between two lines of the document's Moved. -/
def Mv (w : World) (L : List Lin) (l : Value) (W : World) : Prop := W.ownsRow w.heap.size 84 2 l (movT L).length (flat linc (movT L)) ∧ Below w.heap.size w W

set_option maxRecDepth 100000 in
set_option maxHeartbeats 8000000 in
theorem rmoved_any (w : World) (s : Sli Eda) (till : Int) (hs : Ents w s) (htot : (linesP s.xs).length ≤ 4194304) :
    Calls Try.prog 23 #[.slice s.p s.n s.c, .int .i64 till] w fun e w' => ∃ v, e = .returned v ∧ w'.ownsRow w.heap.size 84 2 v (movT (linesT till s.xs)).length (flat linc (movT (linesT till s.xs))) ∧ Below w.heap.size w w' := by
  obtain ⟨p, n, cp, xs⟩ := s
  have hlen : xs.length = n := hs.row.len
  have hmost : n ≤ 4194304 := hs.row.most
  have HC := hide hs.row.cel
  have HE := hide hs.each
  clear hs
  simp only at HC HE htot ⊢
  have HTot := hide htot
  clear htot
  go_enter Try.func23, Try.ntmps23
  go_wp2
  go_loopw [5, 6] (fun l i wr => ∃ k : Nat, k ≤ n ∧ i = .int .i64 k ∧ Hid (Mv w (linesT till (xs.take k)) l wr)) (fun _ i _ => n - (intOf i).toNat)
  case atStart => exact ⟨0, Nat.zero_le _, rfl, World.ownsRow_nil _ _ _ _, Below.refl _ _⟩
  case round =>
    obtain ⟨k, hk, rfl, HI⟩ := hrel
    by_cases hlt : k < n
    · obtain ⟨x, hx⟩ : ∃ x, xs[k]? = some x := ⟨_, List.getElem?_eq_getElem (by omega)⟩
      have hlt' : (k : Int) < (n : Int) := by omega
      obtain ⟨b, o, e, hb, hcl⟩ := HC.out.get (i := k) (r := x.list) (by simp [hx])
      subst e
      have hbw : Below w.heap.size w wr := HI.out.2
      have f : ∀ i v, x.list[i]? = some v → wr.cell? ⟨b, o + k * 22 + i, none⟩ = some v := fun i v hv => (hbw.cell (p := ⟨b, o + k * 22 + i, none⟩) hb).trans (hcl i v hv)
      obtain ⟨A, hA⟩ : ∃ A, x.arr = A := ⟨_, rfl⟩
      have HZ : Hid (A.size = 22) := by show _ = _; rw [← hA]; rfl
      have HO : Hid (A.all (·.oneCell') = true) := by show _ = _; rw [← hA]; exact x.ones
      have HL1 : Hid ((Instr.loadAt 82 (.pointer (some ⟨b, o + k * 22, none⟩))).run Try.prog wr = .ok (.agg A) wr) := by
        show _ = _
        rw [← hA]
        exact run_loadAt_mid (P := Try.prog) wr b (o + k * 22) 82 x.list _ f Try.underlying82 rfl Try.sizeE
      have hok := (HE.out x (List.mem_of_getElem? hx)).made
      obtain ⟨t, ht⟩ : ∃ t, ownB till x = t := ⟨_, rfl⟩
      have HOw := hide (fun w' => own_any w' x A hA till t ht)
      have HF : Hid (linesT till (xs.take (k + 1)) = linesT till (xs.take k) ++ (if t then x.made.xs else [])) := by
        show _ = _
        unfold linesT
        rw [take_snoc hx, List.filter_append, linesP_app]
        cases t <;> simp [ht, linesP]
      have HTk : Hid ((linesT till (xs.take (k + 1))).length ≤ 4194304) := Nat.le_trans (linesP_le _ _) (Nat.le_trans (linesP_pre _ _) HTot.out)
      have a17 : A[17]? = some (.slice x.made.p x.made.n x.made.c) := by rw [← hA]; rfl
      obtain ⟨mp, m, mc, ys, hsl⟩ : ∃ p m c ys, x.made = ⟨p, m, c, ys⟩ := ⟨_, _, _, _, rfl⟩
      rw [hsl] at a17 hok HF
      simp only at a17 HF
      have hyl : ys.length = m := hok.len
      have hym : m ≤ 4194304 := hok.most
      have HCy := hide hok.cel
      simp only at HCy
      obtain ⟨L, hL⟩ : ∃ L, linesT till (xs.take k) = L := ⟨_, rfl⟩
      rw [hL] at HI HF
      rw [HF.out] at HTk
      obtain ⟨w2, hw2⟩ : ∃ w2, wr.alloc (.cells A 82) = w2 := ⟨_, rfl⟩
      have HBk : Hid (w2.heap[wr.heap.size]? = some (.cells A 82 (0, 0))) := by show _ = _; rw [← hw2]; exact heap_alloc_new _ _
      have HB2 : Hid (Below wr.heap.size wr w2) := by show Below _ _ _; rw [← hw2]; exact (Below.refl _ wr).alloc (Nat.le_refl _) _
      have HM2 : Hid (Mv w L (u5) w2) := ⟨owns_keep HI.out.1 HB2.out, HI.out.2.trans (HB2.out.mono HI.out.2.size)⟩
      have HW2 := hide hw2
      obtain ⟨la, lc, rfl, _⟩ := slice_form HI.out.1
      obtain ⟨nl, hnl⟩ : ∃ nl, (movT L).length = nl := ⟨_, rfl⟩
      rw [hnl] at HI HM2 ⊢
      clear hnl
      have HI0 : Hid (Mv w (L ++ ys.take 0) (.slice la nl lc) w2 ∧ w2.heap[wr.heap.size]? = some (.cells A 82 (0, 0))) := ⟨by simpa using HM2.out, HBk.out⟩
      clear hcl hx hok hsl hL f hA ht hbw hw2
      go_wp2_with (
        first
        | ((with_reducible show wpList _ _ _ (⟨_, .load 82 (.tmp 17), _, _, _, _⟩ :: _) _ _); refine lp_load b (o + k * 22) A rfl HL1.out ?_)
        | ((with_reducible show wpList _ _ _ (⟨_, .store 82 (.tmp 7) _, _, _, _, _⟩ :: _) _ _); refine lp_store (t := 82) (x := .tmp 7) (some ⟨wr.heap.size, 0, none⟩) (.agg A) rfl rfl (run_storeAt_new wr _ _ A (by rw [HZ.out]; exact Try.sizeE) (by rw [HZ.out]; rfl) HO.out) ?_; rw [HW2.out]))
      obtain ⟨Be, hBe⟩ : ∃ Be, wr.heap.size = Be := ⟨_, rfl⟩
      rw [hBe] at HI0 ⊢
      clear hBe
      go_loopw [5, 8] (fun l i wq => ∃ q : Nat, q ≤ m ∧ i = .int .i64 q ∧ (t = false → q = 0) ∧ Hid (Mv w (L ++ ys.take q) l wq ∧ wq.heap[Be]? = some (.cells A 82 (0, 0)))) (fun _ i _ => m - (intOf i).toNat)
      case atStart => exact ⟨0, Nat.zero_le _, rfl, fun _ => rfl, HI0⟩
      case round =>
        clear HI0
        obtain ⟨q, hq, rfl, hq0, HQ⟩ := hrel
        obtain ⟨la, lc, rfl, _⟩ := slice_form HQ.out.1.1
        obtain ⟨nl, hnl⟩ : ∃ nl, (movT (L ++ ys.take q)).length = nl := ⟨_, rfl⟩
        rw [hnl] at HQ ⊢
        have HNl := hide hnl
        clear hnl
        have c17 : wr.cell? ⟨Be, 17, none⟩ = some (.slice mp m mc) := by rw [cell_of_row _ _ _ _ _ _ HQ.out.2, a17]
        by_cases hqm : q < m
        · have hqm' : (q : Int) < (m : Int) := by omega
          have HL2 := hide (loadAt_row (P := Try.prog) (ty := 82) HQ.out.2 Try.underlying82 rfl (by rw [HZ.out]; exact Try.sizeE))
          cases t with
          | false =>
            have hq1 := hq0 rfl
            subst hq1
            have HN : ∀ W, Below wr.heap.size wr W → Mv w (linesT till (xs.take (k + 1))) (.slice la nl lc) W := fun W hW => by
              rw [HF.out]
              have h := HQ.out.1
              simp only [List.take_zero, List.append_nil] at h
              simp only [Bool.false_eq_true, if_false, List.append_nil]
              exact ⟨owns_keep h.1 hW, h.2.trans (hW.mono h.2.size)⟩
            have HNh := hide HN
            clear HN hq0
            go_wp2_with (
              first
              | ((with_reducible show wpList _ _ _ (⟨_, .load 82 (.tmp 7), _, _, _, _⟩ :: _) _ _); refine lp_loadw Be 0 A rfl rfl HL2.out ?_)
              | (go_at_call 31; refine (HOw.out _).mono ?_; rintro e w3 ⟨rfl, hb3⟩; have HB3 := hide hb3; clear hb3))
            go_roundw
            case rel => exact ⟨k + 1, by omega, by go_num, HNh.out _ HB3.out⟩
            case measure => simp [intOf]; omega
          | true =>
            obtain ⟨y, hy⟩ : ∃ y, ys[q]? = some y := ⟨_, List.getElem?_eq_getElem (by omega)⟩
            obtain ⟨b2, o2, e, hb2, hcl2⟩ := HCy.out.get (i := q) (r := linc y) (by simp [hy])
            subst e
            have HTq : Hid (L ++ ys.take (q + 1) = (L ++ ys.take q) ++ [y]) := by show _ = _; rw [take_snoc hy, List.append_assoc]
            obtain ⟨M, hM⟩ : ∃ M, L ++ ys.take q = M := ⟨_, rfl⟩
            have hMl : M.length ≤ 4194304 := by
              have h1 := HTk.out
              simp only [if_true, List.length_append] at h1
              rw [← hM, List.length_append, List.length_take]
              omega
            have hml := movT_len M
            rw [hM] at HQ HTq HNl
            obtain ⟨yc, yn⟩ := y
            have g0 := hcl2 0 _ rfl
            have g1 := hcl2 1 _ rfl
            rw [Nat.add_zero] at g0
            simp only at g0 g1
            have HG := hide (And.intro g0 g1)
            clear hcl2 hy hM g0 g1
            go_wp2_with (
              first
              | ((with_reducible show wpList _ _ _ (⟨_, .load 82 (.tmp 7), _, _, _, _⟩ :: _) _ _); refine lp_loadw Be 0 A rfl rfl HL2.out ?_)
              | (go_at_call 31; refine (HOw.out _).mono ?_; rintro e w3 ⟨rfl, hb3⟩; have HM3 : Hid (Mv w M (.slice la nl lc) w3) := ⟨owns_keep HQ.out.1.1 hb3, HQ.out.1.2.trans (hb3.mono HQ.out.1.2.size)⟩; have HK3 : Hid (w3.heap[Be]? = some (.cells A 82 (0, 0))) := (hb3.block _ (ac_lt HQ.out.2)).trans HQ.out.2; have c17' : w3.cell? ⟨Be, 17, none⟩ = some (.slice (some ⟨b2, o2, none⟩) m mc) := (by rw [cell_of_row _ _ _ _ _ _ HK3.out, a17]); have c0 : w3.cell? ⟨b2, o2 + q * 2, none⟩ = some (.int .i64 yc) := (HM3.out.2.cell (p := ⟨b2, o2 + q * 2, none⟩) hb2).trans HG.out.1; have c1 : w3.cell? ⟨b2, o2 + q * 2 + 1, none⟩ = some (.int .i64 yn) := (HM3.out.2.cell (p := ⟨b2, o2 + q * 2 + 1, none⟩) hb2).trans HG.out.2; clear hb3)
              | (go_at_call 38; refine (lay_any w3 w.heap.size la nl lc (movT M) ⟨yc, yn⟩ (by have h := HM3.out.1; rw [HNl.out] at h; exact h) HNl.out (by have := HNl.out; omega) HM3.out.2.size).mono ?_; rintro e w4 ⟨v, rfl, ho, hg⟩; have HR : Hid (Mv w (L ++ ys.take (q + 1)) v w4 ∧ w4.heap[Be]? = some (.cells A 82 (0, 0))) := (by show Mv _ _ _ _ ∧ _; rw [HTq.out]; exact ⟨⟨by rw [movT_snoc]; exact ho, HM3.out.2.grown hg HM3.out.2.size (fun g e => owns_base HM3.out.1 g e)⟩, (hg.block _ (ac_lt HK3.out) (owns_ne HM3.out.1 HK3.out (by decide))).trans HK3.out⟩); clear ho hg))
            go_roundw
            case rel => exact ⟨q + 1, by omega, by go_num, fun h => (by cases h), HR⟩
            case measure => simp [intOf]; omega
        · obtain rfl : q = m := by omega
          have HN : Hid (Mv w (linesT till (xs.take (k + 1))) (.slice la nl lc) wr) := by
            show Mv _ _ _ _
            rw [HF.out]
            cases t with
            | false =>
              have hq1 := hq0 rfl
              subst hq1
              have h := HQ.out.1
              simp only [List.take_zero, List.append_nil] at h
              simpa using h
            | true =>
              have h := HQ.out.1
              rw [List.take_of_length_le (by omega)] at h
              simpa using h
          go_wp2
          go_roundw
          case rel => exact ⟨k + 1, by omega, by go_num, HN⟩
          case measure => simp [intOf]; omega
    · obtain rfl : k = n := by omega
      have h := HI.out
      rw [List.take_of_length_le (by omega)] at h
      have HE2 := hide h
      clear h
      go_wp2
      go_ret
      exact ⟨_, rfl, HE2.out.1, HE2.out.2⟩
end Go.Proofs.Ytecbidaljchmoaa
