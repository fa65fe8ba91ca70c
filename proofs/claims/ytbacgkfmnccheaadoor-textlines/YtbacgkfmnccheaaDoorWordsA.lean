import Derived.Test.YtbacgkfmnccheaaDoorWordsR
namespace Go.Proofs.YtbacgkfmnccheaaDoor
open Go.RowKit Go.Shelf

attribute [local go_sem] Oper.semAt_some

/-- What the caller of the iterator holds between two rounds: the list in its box, the results' cells. -/
structure Iw (w : World) (B4 : Nat) (ls : List ByteArray) (A : World) : Prop where
  row : ∃ v, Boxed A B4 22 v ∧ A.ownsRow w.heap.size 9 1 v ls.length (ls.map Value.string)
  r2 : Boxed A w.heap.size 22 (.slice none 0 0)
  r3 : Boxed A (w.heap.size + 1) 25 (.int .i64 0)
  below : Below w.heap.size w A
  len : ls.length ≤ 32
/-- .. and where a round has left. -/
structure Iq (w : World) (A : World) : Prop where
  r2 : Boxed A w.heap.size 22 (.slice none 0 0)
  r3 : Boxed A (w.heap.size + 1) 25 (.int .i64 23)
  below : Below w.heap.size w A

theorem boxed_step {A B : World} {n b : Nat} {t : TypeId} {v : Value} (h : Boxed A b t v) (hf : Fx n A B) (h1 : t ≠ 66) (h2 : t ≠ 5) : Boxed B b t v := hf.keep _ _ h ⟨_, _, _, rfl, h1, h2⟩

theorem Iw.step {w : World} {B4 n1 : Nat} {ls : List ByteArray} {A B : World} (h : Iw w B4 ls A) (hf : Fx n1 A B) (hn : w.heap.size ≤ n1) : Iw w B4 ls B := by
  obtain ⟨⟨v, b1, o1⟩, b2, b3, b4, b5⟩ := h
  refine ⟨⟨v, boxed_step b1 hf (by decide) (by decide), ⟨o1.1, ?_⟩⟩, boxed_step b2 hf (by decide) (by decide), boxed_step b3 hf (by decide) (by decide), b4.trans (hf.below.mono hn), b5⟩
  rcases o1.2 with h | ⟨g, cap, cur, q1, q2, q3, q4⟩
  · exact Or.inl h
  · exact Or.inr ⟨g, cap, cur, q1, q2, hf.keep _ _ q3 ⟨_, _, _, rfl, by decide, by decide⟩, q4⟩
theorem Iq.step {w : World} {n1 : Nat} {A B : World} (h : Iq w A) (hf : Fx n1 A B) (hn : w.heap.size ≤ n1) : Iq w B :=
  ⟨boxed_step h.r2 hf (by decide) (by decide), boxed_step h.r3 hf (by decide) (by decide), h.below.trans (hf.below.mono hn)⟩

theorem Kr.setCell {A : World} {b j : Nat} {c : Array Value} {t : TypeId} {fz : Nat × Nat} (h : A.heap[b]? = some (.cells c t fz)) (h1 : t ≠ 66) (h2 : t ≠ 5) (v : Value) : Kr A (A.setCell ⟨b, j, none⟩ v) :=
  ⟨by show A.heap.size ≤ (A.heap.modify _ _).size; rw [Array.size_modify]; exact Nat.le_refl _, fun i o hi hm => by
    rw [Below.heap_setCell _ _ _ i]
    · exact hi
    · rintro rfl
      rw [h] at hi
      cases hi
      exact absurd ⟨_, _, _, rfl, h1, h2⟩ hm⟩
theorem Kr.trans {A B C : World} (h : Kr A B) (k : Kr B C) : Kr A C := ⟨Nat.le_trans h.size k.size, fun i o hi ho => k.keep i o (h.keep i o hi ho) ho⟩
theorem Kr.appended {W w1 : World} {n0 B : Nat} {v v' u : Value} {k : Nat} {xs : List Value} {tmp : Obj} (hrow : W.ownsRow n0 9 1 v k xs) (hg : (W.alloc tmp).grownBy w1 v.ownBlock) (hv1 : Boxed w1 B 22 u) : Kr W (w1.setCell ⟨B, 0, none⟩ v') := by
  refine Kr.trans ⟨?_, ?_⟩ (Kr.setCell hv1 (by decide) (by decide) v')
  · have := hg.size; simp at this; omega
  · intro i o hi hm
    have hlt := (Array.getElem?_eq_some_iff.1 hi).1
    rw [hg.block i (by simp; omega)]
    · exact (Below.heap_alloc W tmp i hlt).trans hi
    · intro e
      rcases hrow.2 with ⟨rfl, _⟩ | ⟨g, cap, cur, rfl, _, hgb, _⟩
      · simp [Value.ownBlock] at e
      · obtain rfl : i = g := by simpa [Value.ownBlock] using e
        rw [hgb] at hi
        cases hi
        exact hm ⟨_, _, _, rfl, by decide, by decide⟩

/-- What Words tells. -/
def Told (w : World) (line : ByteArray) (e : Ending) (w' : World) : Prop :=
  (wordsR line = none ∧ e = .returned (.tuple #[.slice none 0 0, .int .i64 23])) ∨
  (∃ (v : Value) (ls : List ByteArray), wordsR line = some (ls.map nums) ∧ e = .returned (.tuple #[v, .int .i64 0]) ∧ w'.ownsRow w.heap.size 9 1 v ls.length (ls.map Value.string))

set_option maxRecDepth 100000 in
set_option maxHeartbeats 4000000 in
theorem words_wide (w : World) (hT : Tabs w) (line : ByteArray) (hs : line.size ≤ 140737488355328) :
    CallsIn Fence.wide 5 Tryd.prog 5 #[.string line] w fun e w' => Told w line e w' ∧ Below w.heap.size w w' := by
  obtain ⟨i0, hi, hz0, hz1, hz2⟩ := info_parts Tryd.infoS
  obtain ⟨w0, hw0⟩ : ∃ w0, (w.alloc (.cells #[.slice none 0 0] 22)).alloc (.cells #[.int .i64 0] 25) = w0 := ⟨_, rfl⟩
  have hB0 : Below w.heap.size w w0 := by rw [← hw0]; exact ((Below.refl _ w).alloc (Nat.le_refl _) _).alloc (by simp) _
  have hR2 : Boxed w0 w.heap.size 22 (.slice none 0 0) := by rw [← hw0]; exact (Boxed.new w _ _).alloc _
  have hR3 : Boxed w0 (w.heap.size + 1) 25 (.int .i64 0) := by
    rw [← hw0]
    have := Boxed.new (w.alloc (.cells #[.slice none 0 0] 22)) 25 (.int .i64 0)
    rw [World.size_alloc] at this
    exact this
  have hsz0 : w0.heap.size = w.heap.size + 2 := by rw [← hw0]; simp
  have HV : Hid (Calls Tryd.prog 16 #[.string line] w0 fun e w' => e = .returned (.bool (good line)) ∧ Below w0.heap.size w0 w') := Any.utf8_ValidString Tryd.lays196 line w0 (by omega) (hT.below hB0).utf
  have HW0 := hide hw0
  clear hT hw0
  refine callsIn_of_wp_marks Tryd.func5 rfl trivial ?_ rfl
  simp only [Tryd.ntmps5, List.size_toArray, List.length_cons, List.length_nil, Nat.reduceAdd, Nat.reduceSub, Array.replicate_succ, Array.replicate_zero, List.push_toArray, List.append_toArray, List.nil_append, List.cons_append]
  by_cases h1 : line.size ≤ 1024
  · have z1 : decide ((1024 : Int) < (line.size : Int)) = false := decide_eq_false (by omega)
    by_cases h2 : good line = true
    · rw [h2] at HV
      have HR : Hid (wordsR line = if (tot line).1.length ≤ 32 ∧ (tot line).2 = 0 then some (tot line).1 else none) := by show _ = _; simp [wordsR, h1, h2]
      have HG := hide h2
      clear h2
      gi_wp2_with fail
      rw [HW0.out]
      refine ⟨trivial, (callsIn_wide.2 HV.out).mono ?_⟩
      rintro e w1 ⟨rfl, hb⟩
      have hb1 : Below w.heap.size w w1 := hB0.trans (hb.mono hB0.size)
      have HR2 : Hid (Boxed w1 w.heap.size 22 (.slice none 0 0)) := (hb.block _ (by omega)).trans hR2
      have HR3 : Hid (Boxed w1 (w.heap.size + 1) 25 (.int .i64 0)) := (hb.block _ (by omega)).trans hR3
      have HB1 := hide hb1
      have HS1 : Hid (w.heap.size + 2 ≤ w1.heap.size) := by show _ ≤ _; rw [← hsz0]; exact hb.size
      clear hb hb1 HV HW0 hB0 hR2 hR3 hsz0
      gi_wp2_with (refine ⟨trivial, ?_⟩; gi_at_call 17; refine (words_in _ line _).mono ?_; rintro e w9 ⟨rfl, h9⟩; obtain rfl := h9.symm; clear h9)
      have hS3 : ((w1.alloc (.cells #[.slice none 0 0] 22)).alloc (.cells #[.string line] 9)).heap.size = w1.heap.size + 2 := by simp
      have hI0 : Iw w w1.heap.size [] ((w1.alloc (.cells #[.slice none 0 0] 22)).alloc (.cells #[.string line] 9)) :=
        ⟨⟨.slice none 0 0, (Boxed.new w1 _ _).alloc _, World.ownsRow_nil _ _ _ _⟩, (HR2.out.alloc _).alloc _, (HR3.out.alloc _).alloc _, (HB1.out.alloc HB1.out.size _).alloc (by have := HB1.out.size; simp; omega) _, by simp⟩
      have hLn : Boxed ((w1.alloc (.cells #[.slice none 0 0] 22)).alloc (.cells #[.string line] 9)) (w1.heap.size + 1) 9 (.string line) := by
        have := Boxed.new (w1.alloc (.cells #[.slice none 0 0] 22)) 9 (.string line)
        rw [World.size_alloc] at this
        exact this
      clear HR2 HR3
      generalize (w1.alloc (.cells #[.slice none 0 0] 22)).alloc (.cells #[.string line] 9) = W3 at *
      have hle3 : w.heap.size ≤ W3.heap.size := hI0.below.size
      have hS1 := HS1.out
      refine range_words (w1.heap.size + 1) line rfl hLn.cell (by omega) h1 HG.out rfl (Iw w w1.heap.size) (Iq w) (fun ls A B h hf => h.step hf hle3) (fun A B h hf => h.step hf hle3) hI0
        (fun x z => { tmps := #[.string line, undef, .pointer (some ⟨w.heap.size, 0, none⟩), .pointer (some ⟨w.heap.size + 1, 0, none⟩), .pointer (some ⟨w1.heap.size, 0, none⟩), .string x, .int .i64 z, .string line, .int .i64 (line.size : Int), .bool false, .bool false, .string line, .bool true, .bool false, .bool false, .string line, .func (.func 31) #[] #[.pointer (some ⟨w1.heap.size + 1, 0, none⟩)], .string x, .int .i64 z, undef, undef, undef, undef, undef, undef, undef, undef, undef, undef, undef, undef], defers := [] }) ?assign ?body ?bodyf ?done ?stop
      case assign =>
        intro l x z W K hK
        gi_wp2
        exact hK
      case body =>
        rintro l ls x W ⟨⟨v, hv, hrow⟩, b2, b3, hB, hlen⟩
        have hc := hv.cell
        obtain ⟨p, c, rfl⟩ : ∃ p c, v = .slice p ls.length c := by
          rcases hrow.2 with ⟨e1, e2⟩ | ⟨g, cap, cur, e1, _⟩
          · exact ⟨none, 0, by rw [e1, e2]⟩
          · exact ⟨_, cap, e1⟩
        by_cases h32 : ls.length = 32
        · have z32 : ((ls.length : Int) == 32) = true := by simp; omega
          have k2 := b2.cell; have f2 := b2.frozen; have k3 := b3.cell; have f3 := b3.frozen
          have HQ : Hid (Kr W ((W.setCell ⟨w.heap.size, 0, none⟩ (.slice none 0 0)).setCell ⟨w.heap.size + 1, 0, none⟩ (.int .i64 23)) ∧ ls.length = 32 ∧ Iq w ((W.setCell ⟨w.heap.size, 0, none⟩ (.slice none 0 0)).setCell ⟨w.heap.size + 1, 0, none⟩ (.int .i64 23))) := by
            have g3 : Boxed (W.setCell ⟨w.heap.size, 0, none⟩ (.slice none 0 0)) (w.heap.size + 1) 25 (.int .i64 0) := (Below.heap_setCell _ _ _ _ (by simp)).trans b3
            refine ⟨(Kr.setCell b2 (by decide) (by decide) _).trans (Kr.setCell g3 (by decide) (by decide) _), h32, ⟨(Below.heap_setCell _ _ _ _ (by simp)).trans (b2.set _), g3.set _, (hB.setCell (p := ⟨w.heap.size, 0, none⟩) (Nat.le_refl _) _).setCell (p := ⟨w.heap.size + 1, 0, none⟩) (by simp) _⟩⟩
          clear h32 hv hrow b2 b3
          gi_wp2
          exact HQ.out
        · have z32 : ((ls.length : Int) == 32) = false := by simp; omega
          have hl32 : ls.length < 32 := by omega
          have HB := hide hB
          have HRow := hide hrow
          have HBx := hide hv
          have HB2 := hide b2
          have HB3 := hide b3
          clear h32 hrow hv b2 b3 hB
          gi_wp2_with (gi_at_builtin; refine wpListIn_append_own _ rfl _ _ 22 rfl w.heap.size 9 i0 (.string ⟨#[]⟩) 1 16 Tryd.underlying22 hi hz0 hz1 hz2 rfl (by decide) _ _ _ rfl (HRow.out.alloc _) ⟨W.heap.size, 0, none⟩ 1 1 [.string x] rfl rfl (cell_one_new _ _ _) (by simp [Value.oneCell']) (by unfold maxLen; omega) (by omega) (by have := HB.out.size; simp; omega) ?_; intro v' w5 hown' hgrow _; obtain ⟨g', cap', rfl⟩ := ownsRow_succ hown'; obtain ⟨hv1, hv2, hr2, _, hb2⟩ := HBx.out.appended (by decide) HRow.out HB.out.size (by omega) hown' hgrow; have hc1 := hv1.cell; have hf1 := hv1.frozen; have HKr := hide (Kr.appended (v' := .slice (some ⟨g', 0, none⟩) (ls.length + 1) cap') HRow.out hgrow hv1); have HV2 := hide hv2; have HR2' := hide hr2; have HBB := hide hb2; have HN2 : Hid (Boxed w5 w.heap.size 22 (.slice none 0 0) ∧ Boxed w5 (w.heap.size + 1) 25 (.int .i64 0)) := ⟨(HB2.out.alloc _).kept hgrow (HB2.out.not_row (by decide) HRow.out), (HB3.out.alloc _).kept hgrow (HB3.out.not_row (by decide) HRow.out)⟩; clear hv1 hv2 hr2 hb2 hown' hgrow)
          refine ⟨HKr.out, hl32, ⟨⟨_, HV2.out, by simpa using HR2'.out⟩, ?_, ?_, HB.out.trans HBB.out, by simp; omega⟩⟩
          · exact (Below.heap_setCell _ _ _ _ (by simp; omega)).trans HN2.out.1
          · exact (Below.heap_setCell _ _ _ _ (by simp; omega)).trans HN2.out.2
      case bodyf =>
        rintro l ls W ⟨_, b2, b3, hB, hlen⟩
        have k2 := b2.cell; have f2 := b2.frozen; have k3 := b3.cell; have f3 := b3.frozen
        have HQ : Hid (Kr W ((W.setCell ⟨w.heap.size, 0, none⟩ (.slice none 0 0)).setCell ⟨w.heap.size + 1, 0, none⟩ (.int .i64 23)) ∧ Iq w ((W.setCell ⟨w.heap.size, 0, none⟩ (.slice none 0 0)).setCell ⟨w.heap.size + 1, 0, none⟩ (.int .i64 23))) := by
          have g3 : Boxed (W.setCell ⟨w.heap.size, 0, none⟩ (.slice none 0 0)) (w.heap.size + 1) 25 (.int .i64 0) := (Below.heap_setCell _ _ _ _ (by simp)).trans b3
          refine ⟨(Kr.setCell b2 (by decide) (by decide) _).trans (Kr.setCell g3 (by decide) (by decide) _), ⟨(Below.heap_setCell _ _ _ _ (by simp)).trans (b2.set _), g3.set _, (hB.setCell (p := ⟨w.heap.size, 0, none⟩) (Nat.le_refl _) _).setCell (p := ⟨w.heap.size + 1, 0, none⟩) (by simp) _⟩⟩
        clear b2 b3
        gi_wp2
        exact HQ.out
      case done =>
        rintro D ls W hD s1 s2 s3 ⟨⟨v, hv, hrow⟩, b2, b3, hB, hlen⟩ hK
        obtain ⟨p, c, rfl⟩ : ∃ p c, v = .slice p ls.length c := by
          rcases hrow.2 with ⟨e1, e2⟩ | ⟨g, cap, cur, e1, _⟩
          · exact ⟨none, 0, by rw [e1, e2]⟩
          · exact ⟨_, cap, e1⟩
        have hc := hv.cell
        have k2 := b2.cell; have f2 := b2.frozen; have k3 := b3.cell; have f3 := b3.frozen
        have g2 : Boxed (W.setCell ⟨w.heap.size, 0, none⟩ (.slice p ls.length c)) w.heap.size 22 (.slice p ls.length c) := b2.set _
        have g3 : Boxed (W.setCell ⟨w.heap.size, 0, none⟩ (.slice p ls.length c)) (w.heap.size + 1) 25 (.int .i64 0) := (Below.heap_setCell _ _ _ _ (by simp)).trans b3
        have HG2 : Hid (Boxed ((W.setCell ⟨w.heap.size, 0, none⟩ (.slice p ls.length c)).setCell ⟨w.heap.size + 1, 0, none⟩ (.int .i64 0)) w.heap.size 22 (.slice p ls.length c)) := (Below.heap_setCell _ _ _ _ (by simp)).trans g2
        have HG3 : Hid (Boxed ((W.setCell ⟨w.heap.size, 0, none⟩ (.slice p ls.length c)).setCell ⟨w.heap.size + 1, 0, none⟩ (.int .i64 0)) (w.heap.size + 1) 25 (.int .i64 0)) := g3.set _
        have hne2 : D ≠ w.heap.size := by omega
        have hne3 : D ≠ w.heap.size + 1 := by omega
        have HK2 : Hid (((W.setCell ⟨w.heap.size, 0, none⟩ (.slice p ls.length c)).setCell ⟨w.heap.size + 1, 0, none⟩ (.int .i64 0)).heap[D]? = some (.deferred (some []))) := by
          show _ = _
          rw [Below.heap_setCell _ _ _ _ hne3, Below.heap_setCell _ _ _ _ hne2]; exact hK
        have HO : Hid (((W.setCell ⟨w.heap.size, 0, none⟩ (.slice p ls.length c)).setCell ⟨w.heap.size + 1, 0, none⟩ (.int .i64 0)).ownsRow w.heap.size 9 1 (.slice p ls.length c) ls.length (ls.map Value.string)) := by
          have o1 := hrow.kept (grownBy_setCell' W w.heap.size (.slice p ls.length c)) (.inr (b2.not_row (by decide) hrow).symm)
          exact o1.kept (grownBy_setCell' _ (w.heap.size + 1) (.int .i64 0)) (.inr (g3.not_row (by decide) o1).symm)
        have HBl : Hid (Below w.heap.size w ((W.setCell ⟨w.heap.size, 0, none⟩ (.slice p ls.length c)).setCell ⟨w.heap.size + 1, 0, none⟩ (.int .i64 0))) := (hB.setCell (p := ⟨w.heap.size, 0, none⟩) (Nat.le_refl _) _).setCell (p := ⟨w.heap.size + 1, 0, none⟩) (by simp) _
        have HTd : Hid (wordsR line = some (ls.map nums)) := by
          show _ = _
          rw [HR.out, if_pos ⟨by rw [← s1, List.length_map]; exact s3, s2⟩, s1]
        clear hv hrow b2 b3 hB g2 g3 hK s1 s2 hI0 hLn HR
        gi_wp2
        refine ⟨by simp, .inl ⟨_, _, rfl, run_takeDeferred HK2.out, ?_⟩⟩
        refine ⟨_, results_words _ _ ⟨w.heap.size, 0, none⟩ ⟨w.heap.size + 1, 0, none⟩ p ls.length c 0 rfl rfl ?_ ?_, ?_, ?_⟩
        · exact (HG2.out.kept (grownBy_putObj' _ D _) (by simp; omega)).cell
        · exact (HG3.out.kept (grownBy_putObj' _ D _) (by simp; omega)).cell
        · exact Or.inr ⟨_, ls, HTd.out, rfl, ownsRow_putObj HO.out _ HK2.out rfl⟩
        · exact HBl.out.trans (belowK_b (w := w) (Nat.le_refl _) _ D _ _ (by omega) HK2.out rfl rfl)
      case stop =>
        rintro D W hD hbad ⟨b2, b3, hB⟩ hK
        have HTd : Hid (wordsR line = none) := by
          show _ = _
          rw [HR.out, if_neg (by omega)]
        have HG2 := hide b2
        have HG3 := hide b3
        have HK2 := hide hK
        have HBl := hide hB
        clear b2 b3 hB hK hI0 hLn HR hbad
        gi_wp2
        refine ⟨by simp, .inl ⟨_, _, rfl, run_takeDeferred HK2.out, ?_⟩⟩
        refine ⟨_, results_words _ _ ⟨w.heap.size, 0, none⟩ ⟨w.heap.size + 1, 0, none⟩ none 0 0 23 rfl rfl ?_ ?_, ?_, ?_⟩
        · exact (HG2.out.kept (grownBy_putObj' _ D _) (by simp; omega)).cell
        · exact (HG3.out.kept (grownBy_putObj' _ D _) (by simp; omega)).cell
        · exact Or.inl ⟨HTd.out, rfl⟩
        · exact HBl.out.trans (belowK_b (w := w) (Nat.le_refl _) _ D _ _ (by omega) HK2.out rfl rfl)
    · have h2' : good line = false := by simpa using h2
      rw [h2'] at HV
      have HTd : Hid (wordsR line = none) := by show _ = _; simp [wordsR, h2']
      clear h2 h2'
      gi_wp2_with fail
      rw [HW0.out]
      refine ⟨trivial, (callsIn_wide.2 HV.out).mono ?_⟩
      rintro e w1 ⟨rfl, hb⟩
      have b2 : Boxed w1 w.heap.size 22 (.slice none 0 0) := (hb.block _ (by omega)).trans hR2
      have b3 : Boxed w1 (w.heap.size + 1) 25 (.int .i64 0) := (hb.block _ (by omega)).trans hR3
      have hB := hB0.trans (hb.mono hB0.size)
      clear hb HV HW0 hB0 hR2 hR3
      have k2 := b2.cell; have f2 := b2.frozen; have k3 := b3.cell; have f3 := b3.frozen
      have g3 : Boxed (w1.setCell ⟨w.heap.size, 0, none⟩ (.slice none 0 0)) (w.heap.size + 1) 25 (.int .i64 0) := (Below.heap_setCell _ _ _ _ (by simp)).trans b3
      have HG2 : Hid (Boxed ((w1.setCell ⟨w.heap.size, 0, none⟩ (.slice none 0 0)).setCell ⟨w.heap.size + 1, 0, none⟩ (.int .i64 23)) w.heap.size 22 (.slice none 0 0)) := (Below.heap_setCell _ _ _ _ (by simp)).trans (b2.set _)
      have HG3 : Hid (Boxed ((w1.setCell ⟨w.heap.size, 0, none⟩ (.slice none 0 0)).setCell ⟨w.heap.size + 1, 0, none⟩ (.int .i64 23)) (w.heap.size + 1) 25 (.int .i64 23)) := g3.set _
      have HBl : Hid (Below w.heap.size w ((w1.setCell ⟨w.heap.size, 0, none⟩ (.slice none 0 0)).setCell ⟨w.heap.size + 1, 0, none⟩ (.int .i64 23))) := (hB.setCell (p := ⟨w.heap.size, 0, none⟩) (Nat.le_refl _) _).setCell (p := ⟨w.heap.size + 1, 0, none⟩) (by simp) _
      clear b2 b3 hB g3
      gi_wp2
      refine ⟨_, results_words _ _ ⟨w.heap.size, 0, none⟩ ⟨w.heap.size + 1, 0, none⟩ none 0 0 23 rfl rfl HG2.out.cell HG3.out.cell, Or.inl ⟨HTd.out, rfl⟩, HBl.out⟩
  · have z1 : (1024 : Int) < (line.size : Int) := by omega
    have HTd : Hid (wordsR line = none) := by show _ = _; rw [wordsR, if_neg (by omega)]
    clear HV hB0 hR2 hR3 HW0 hsz0
    gi_wp2
    refine ⟨trivial, ?_⟩
    gi_wp2
    have q3 := Boxed.new (w.alloc (.cells #[.slice none 0 0] 22)) 25 (.int .i64 23)
    rw [World.size_alloc] at q3
    exact ⟨_, results_words _ _ ⟨w.heap.size, 0, none⟩ ⟨w.heap.size + 1, 0, none⟩ none 0 0 23 rfl rfl ((Boxed.new w _ _).alloc _).cell q3.cell, Or.inl ⟨HTd.out, rfl⟩, ((Below.refl _ w).alloc (Nat.le_refl _) _).alloc (by simp) _⟩

theorem words_any (w : World) (hT : Tabs w) (line : ByteArray) (hs : line.size ≤ 140737488355328) :
    Calls Tryd.prog 5 #[.string line] w fun e w' => Told w line e w' ∧ Below w.heap.size w w' := callsIn_wide.1 (words_wide w hT line hs)

end Go.Proofs.YtbacgkfmnccheaaDoor
