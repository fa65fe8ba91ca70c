import Derived.Test.YtfcakfedlcajaaaTwS
import Derived.Test.YtfcakfedlcajaaaTrF
import Derived.Deep.AppendLies
namespace Go.Proofs.Ytfcakfedlcajaaa
open Go.RowKit Go.Sort
open Fl

/-- One block has turned, others are new. -/
structure Chg (b : Nat) (w w' : World) : Prop where
  os : w'.os = w.os
  tape : w'.tape = w.tape
  output : w'.output = w.output
  size : w.heap.size ≤ w'.heap.size
  block : ∀ c, c < w.heap.size → c ≠ b → w'.heap[c]? = w.heap[c]?
theorem Chg.of {b : Nat} {w w' : World} (h : Below w.heap.size w w') : Chg b w w' := ⟨h.os, h.tape, h.output, h.size, fun c hc _ => h.block c hc⟩
theorem Chg.trans {b : Nat} {w w1 w2 : World} (h : Chg b w w1) (k : Chg b w1 w2) : Chg b w w2 :=
  ⟨k.os.trans h.os, k.tape.trans h.tape, k.output.trans h.output, Nat.le_trans h.size k.size, fun c hc hn => (k.block c (Nat.lt_of_lt_of_le hc h.size) hn).trans (h.block c hc hn)⟩
theorem Chg.set {b : Nat} {w w1 : World} (h : Chg b w w1) (i : Nat) (v : Value) : Chg b w (w1.setCell ⟨b, i, none⟩ v) :=
  ⟨h.os, h.tape, h.output, by simpa [World.setCell] using h.size, fun c hc hn => by rw [Below.heap_setCell _ _ _ _ (by simpa using hn)]; exact h.block c hc hn⟩
theorem Chg.below {b : Nat} {W w w' : World} (h : Chg b w w') (hb : Below W.heap.size W w) (hl : W.heap.size ≤ b) : Below W.heap.size W w' :=
  ⟨h.os.trans hb.os, h.tape.trans hb.tape, h.output.trans hb.output, Nat.le_trans hb.size h.size, fun c hc => (h.block c (Nat.lt_of_lt_of_le hc hb.size) (by omega)).trans (hb.block c hc)⟩

/-- The document's trend in memory. -/
def rcells (T : Td) : Array Value := #[.int .u64 (T.wt : Int), .int .u64 (T.av : Int), .int .i64 (T.n : Int)]
def Rk (w : World) (b : Nat) (T : Td) : Prop := w.heap[b]? = some (.cells (rcells T) 62 (0, 0))
theorem Rk.c0 {w : World} {b : Nat} {T : Td} (h : Rk w b T) : w.cell? ⟨b, 0, none⟩ = some (.int .u64 (T.wt : Int)) := by simp [World.cell?, Rk] at h ⊢; rw [h]; rfl
theorem Rk.c1 {w : World} {b : Nat} {T : Td} (h : Rk w b T) : w.cell? ⟨b, 1, none⟩ = some (.int .u64 (T.av : Int)) := by simp [World.cell?, Rk] at h ⊢; rw [h]; rfl
theorem Rk.c2 {w : World} {b : Nat} {T : Td} (h : Rk w b T) : w.cell? ⟨b, 2, none⟩ = some (.int .i64 (T.n : Int)) := by simp [World.cell?, Rk] at h ⊢; rw [h]; rfl
theorem Rk.lt {w : World} {b : Nat} {T : Td} (h : Rk w b T) : b < w.heap.size := (Array.getElem?_eq_some_iff.1 h).1
theorem Rk.kept {w w' : World} {b : Nat} {T : Td} (h : Rk w b T) (hb : w'.heap[b]? = w.heap[b]?) : Rk w' b T := Eq.trans hb h
theorem Rk.below {w w' : World} {b : Nat} {T : Td} (h : Rk w b T) (hb : Below w.heap.size w w') : Rk w' b T := h.kept (hb.block b h.lt)
theorem Rk.set {w : World} {b : Nat} {T : Td} (h : Rk w b T) (i : Nat) (v : Value) (Q : Td) (he : (rcells T).setIfInBounds i v = rcells Q) : Rk (w.setCell ⟨b, i, none⟩ v) b Q := by
  unfold Rk at h ⊢
  rw [heap_setCell_same _ _ _ _ _ _ h, he]
theorem Rk.thaw {w : World} {b : Nat} {T : Td} (h : Rk w b T) (j : Nat) : w.frozen? ⟨b, j, none⟩ = false := by
  unfold Rk at h; simp [World.frozen?, h]
theorem Tk.lt {w : World} {b : Nat} {T : Td} (h : Tk w b T) : b < w.heap.size := (Array.getElem?_eq_some_iff.1 h).1

structure Td.Ok2 (T : Td) : Prop where
  ok : T.Ok
  w : rg T.wt ≤ 4607182418800017408
  a : rg T.av ≤ 4890909195324358656
  z : NZ T.av
theorem Fits.ok2 {b : Nat} (h : Fits b) (hw : Wf b) : (Td.mk b 0 0).Ok2 := by
  refine ⟨h.ok hw, ?_, by show 0 % 9223372036854775808 ≤ _; omega, fun _ => (by show ng 0 = false; decide)⟩
  obtain ⟨_, h2, h3⟩ := h
  show rg b ≤ _
  unfold key at h2 h3
  cases hn : ng b <;> rw [hn] at h2 h3 <;> simp at h2 h3 <;> omega

/-- The steps of a note. -/
structure Steps (T : Td) (y : Nat) : Prop where
  wy : Wf y
  ny : Wf (negW T.av)
  d : Wf (addN y (negW T.av))
  fd : Fnt (addN y (negW T.av))
  ed : pE (addN y (negW T.av)) + pE T.wt ≤ 700
  m : Wf (mulW (addN y (negW T.av)) T.wt)
  fm : Fnt (mulW (addN y (negW T.av)) T.wt)
  em : pE (mulW (addN y (negW T.av)) T.wt) ≤ 700
  b : Wf (addN T.av (mulW (addN y (negW T.av)) T.wt))
  zb : NZ (addN T.av (mulW (addN y (negW T.av)) T.wt))
  fy : Fnt y
  ey : pE y ≤ 700
  fn : Fnt (negW T.av)
  en : pE (negW T.av) ≤ 700
  ea : pE T.av ≤ 700
  zy : NZ y
  ty : rg y ≤ 4890909195324358656
theorem Td.Ok2.steps {T : Td} (h : T.Ok2) {x : Int} (h1 : -9223372036854775808 ≤ x) (h2 : x ≤ 9223372036854775807) : Steps T (floatOfInt .f64 x) := by
  obtain ⟨fy, wy⟩ := ofInt_fin h1 (by omega : x ≤ 9223372036854775808)
  obtain ⟨ty, zy⟩ := ofInt_top h1 (by omega : x ≤ 9223372036854775808)
  obtain ⟨e1, e2, e3⟩ := neg_parts (x := T.av)
  have ka : rg T.av < 1087 * 4503599627370496 := Nat.lt_of_le_of_lt h.a (by decide)
  have kn : rg (negW T.av) < 1087 * 4503599627370496 := by rw [e1]; exact ka
  have ky : rg (floatOfInt .f64 x) < 1087 * 4503599627370496 := Nat.lt_of_le_of_lt ty (by decide)
  obtain ⟨d1, d2⟩ := add_small wy e3 ky kn (by decide) (by decide)
  obtain ⟨m1, m2, m3⟩ := mul_small d2 h.w (by decide) (by decide)
  have ka2 : rg T.av < 1093 * 4503599627370496 := Nat.lt_trans ka (by decide)
  obtain ⟨b1, b2⟩ := add_small h.ok.a2 m1 ka2 m2 (by decide) (by decide)
  have fm := fin_small m2 (by decide)
  have p1 := pE_le d2 (by decide)
  have p2 := pE_le m2 (by decide)
  have p3 := pE_le ky (by decide)
  have p4 := pE_le kn (by decide)
  have p5 := pE_le ka (by decide)
  exact ⟨wy, e3, d1, fin_small d2 (by decide), by omega, m1, fm, by omega, b1, add_nz h.ok.a1 fm h.z, fy, by omega, fin_small kn (by decide), by omega, by omega, zy, ty⟩

theorem moved_eq {T : Td} {y : Nat} (h : T.Ok2) (s : Steps T y) : movedN T.av y T.wt = heldR (addN T.av (mulW (addN y (negW T.av)) T.wt)) T.av y := by
  unfold movedN
  have e1 : dN T.av y = addN y (negW T.av) := by unfold dN addN; rw [sub_add h.ok.a1 s.fy]
  have e2 : mN (addN y (negW T.av)) T.wt = mulW (addN y (negW T.av)) T.wt := by
    unfold mN
    rw [mul_eq s.fd h.ok.w1 s.ed]; rfl
  rw [e1, e2]
  exact (heldR_eq s.b h.ok.a2 s.wy s.zb h.z s.zy).symm

theorem held_top {b a y : Nat} (ha : rg a ≤ 4890909195324358656) (hy : rg y ≤ 4890909195324358656) : rg (held b a y) ≤ 4890909195324358656 := by
  have k := held_key b a y
  have e1 : ∀ z, rg z ≤ 4890909195324358656 ↔ (-4890909195324358656 ≤ key z ∧ key z ≤ 4890909195324358656) := by
    intro z; unfold key; cases ng z <;> simp <;> omega
  rw [e1] at ha hy ⊢
  by_cases c : key a ≤ key y
  · have := k.1 c; omega
  · have := k.2 (by omega); omega
theorem Td.Ok2.note {T : Td} (h : T.Ok2) {x : Int} (h1 : -9223372036854775808 ≤ x) (h2 : x ≤ 9223372036854775807) : (T.note x).Ok2 := by
  have s := h.steps h1 h2
  refine ⟨h.ok.note h1 h2, h.w, ?_, ?_⟩
  · show rg (if T.n = 0 then _ else _) ≤ _
    split
    · exact s.ty
    · exact held_top h.a s.ty
  · show NZ (if T.n = 0 then _ else _)
    split
    · exact s.zy
    · unfold movedN held
      have e1 : dN T.av (floatOfInt .f64 x) = addN (floatOfInt .f64 x) (negW T.av) := by unfold dN addN; rw [sub_add h.ok.a1 s.fy]
      have e2 : mN (addN (floatOfInt .f64 x) (negW T.av)) T.wt = mulW (addN (floatOfInt .f64 x) (negW T.av)) T.wt := by
        unfold mN
        rw [mul_eq s.fd h.ok.w1 s.ed]; rfl
      rw [e1, e2]
      exact fmin_both (fmax_both s.zb (fmin_both h.z s.zy)) (fmax_both h.z s.zy)

def RNewPost (w : World) (b : Nat) (e : Ending) (w' : World) : Prop :=
    ((0 < b ∧ b ≤ 4607182418800017408) ∧ e = .returned (.tuple #[.pointer (some ⟨w.heap.size, 0, none⟩), .int .i64 0]) ∧ Rk w' w.heap.size ⟨b, 0, 0⟩ ∧ Below w.heap.size w w' ∧ w'.heap.size = w.heap.size + 1) ∨ (¬ (0 < b ∧ b ≤ 4607182418800017408) ∧ e = .returned (.tuple #[.pointer none, .int .i64 180]) ∧ w' = w)
set_option maxRecDepth 100000 in
theorem RNew_any (w : World) (b : Nat) : Calls Try.prog 18 #[.int .u64 (b : Int)] w (RNewPost w b) := by
  by_cases h1 : 0 < b
  · have g1 : decide ((0 : Int) < (b : Int)) = true := decide_eq_true (by omega)
    by_cases h2 : b ≤ 4607182418800017408
    · have g2 : decide ((b : Int) ≤ 4607182418800017408) = true := decide_eq_true (by omega)
      have HN := hide (And.intro h1 h2)
      go_enter Try.func18, Try.ntmps18
      go_wp2
      go_ret2
      exact Or.inl ⟨HN.out, rfl, heap_alloc_new _ _, (Below.refl _ _).alloc (Nat.le_refl _) _, by unfold World.alloc; exact Array.size_push _⟩
    · have g2 : decide ((b : Int) ≤ 4607182418800017408) = false := decide_eq_false (by omega)
      have g3 : ¬ ((b : Int) ≤ 4607182418800017408) := by omega
      have HN : Hid (¬ (0 < b ∧ b ≤ 4607182418800017408)) := hide (fun h => h2 h.2)
      go_enter Try.func18, Try.ntmps18
      go_wp2
      go_ret2
      exact Or.inr ⟨HN.out, rfl, rfl⟩
  · obtain rfl : b = 0 := by omega
    have HN : Hid (¬ (0 < 0 ∧ 0 ≤ 4607182418800017408)) := hide (fun h => absurd h.1 (by omega))
    go_enter Try.func18, Try.ntmps18
    go_wp2
    go_ret2
    exact Or.inr ⟨HN.out, rfl, rfl⟩

theorem ext_of_below {w w' : World} {b : Nat} {T : Td} (h : Rk w b T) (hb : Below w.heap.size w w') : Rk w' b T := h.below hb

set_option maxRecDepth 100000 in
set_option maxHeartbeats 1000000 in
theorem RNote_any (w : World) (b : Nat) (T : Td) (x : Int) (h : Rk w b T) (ho : T.Ok2) (h1 : -9223372036854775808 ≤ x) (h2 : x ≤ 9223372036854775807) (hn : T.n < 4611686018427387904) :
    Calls Try.prog 8 #[.pointer (some ⟨b, 0, none⟩), .int .i64 x] w fun e w' => e = .returned (.tuple #[]) ∧ Rk w' b (T.note x) ∧ Chg b w w' := by
  have HO := hide (Of_any w x h1 h2)
  have st := ho.steps h1 h2
  have HR := hide h
  by_cases hz : T.n = 0
  · have e2 : Hid (T.note x = ⟨T.wt, floatOfInt .f64 x, 1⟩) := hide (by unfold Td.note; rw [if_pos hz, hz])
    have HZ := hide hz
    clear h ho st hz
    generalize floatOfInt .f64 x = y at *
    go_enter Try.func8, Try.ntmps8
    go_wp2_with (first
      | (go_at_call 21; refine HO.out.mono ?_; rintro r w1 ⟨rfl, hb⟩; have HR1 := hide (HR.out.below hb); have HC1 := hide (Chg.of (b := b) hb); have c1 := HR1.out.c1; have c2 := HR1.out.c2; rw [HZ.out] at c2; have t1 := HR1.out.thaw 1; have t2 := HR1.out.thaw 2; clear hb))
    refine bodyPost_ret (results_none rfl _ _ _) rfl ?_
    refine ⟨rfl, ?_, (HC1.out.set 2 _).set 1 _⟩
    rw [e2.out]
    exact (HR1.out.set 2 (.int .i64 1) ⟨T.wt, T.av, 1⟩ rfl).set 1 (.int .u64 (y : Int)) ⟨T.wt, y, 1⟩ rfl
  · have e2 : Hid (T.note x = ⟨T.wt, heldR (addN T.av (mulW (addN (floatOfInt .f64 x) (negW T.av)) T.wt)) T.av (floatOfInt .f64 x), T.n + 1⟩) := hide (by unfold Td.note; rw [if_neg hz, moved_eq ho st])
    generalize floatOfInt .f64 x = y at *
    have HNg := hide (fun w => Neg_any w T.av ho.ok.a2)
    have HA1 := hide (fun w => Add_any w y (negW T.av) st.wy st.ny st.fy st.fn st.ey st.en)
    have HMl := hide (fun w => Mul_any w (addN y (negW T.av)) T.wt st.d ho.ok.w3 st.ed)
    have HA2 := hide (fun w => Add_any w T.av (mulW (addN y (negW T.av)) T.wt) ho.ok.a2 st.m ho.ok.a1 st.fm st.ea st.em)
    have HL1 := hide (fun w => Less_any w y T.av st.wy ho.ok.a2)
    have HL2 := hide (fun w => Less_any w (addN T.av (mulW (addN y (negW T.av)) T.wt)) T.av st.b ho.ok.a2)
    have HL3 := hide (fun w => Less_any w (addN T.av (mulW (addN y (negW T.av)) T.wt)) y st.b st.wy)
    have HL4 := hide (fun w => Less_any w y (addN T.av (mulW (addN y (negW T.av)) T.wt)) st.wy st.b)
    have HL5 := hide (fun w => Less_any w T.av (addN T.av (mulW (addN y (negW T.av)) T.wt)) ho.ok.a2 st.b)
    have HL6 := hide (fun w => Less_any w T.av y ho.ok.a2 st.wy)
    have HLs : Hid (∀ (w : World) (p q : Nat), Wf p → Wf q → Calls Try.prog 25 #[.int .u64 (p : Int), .int .u64 (q : Int)] w fun r w' => r = .returned (.bool (decide (key p < key q))) ∧ w' = w) := hide (fun w p q hp hq => Less_any w p q hp hq)
    have HWf := hide (And.intro st.wy (And.intro ho.ok.a2 st.b))
    have hn1 : ((T.n : Int) + 1 == 1) = false := beq_eq_false_iff_ne.2 (by omega)
    have HNn := hide (show T.n = T.n from rfl)
    clear st ho hz h
    generalize addN T.av (mulW (addN y (negW T.av)) T.wt) = B at *
    generalize mulW (addN y (negW T.av)) T.wt = M at *
    generalize addN y (negW T.av) = D at *
    generalize negW T.av = G at *
    unfold heldR at e2
    simp only [] at e2
    go_enter Try.func8, Try.ntmps8
    go_upto_region 5 with (first
      | (go_at_call 21; refine HO.out.mono ?_; rintro r w1 ⟨rfl, hb⟩; have HR1 := hide (HR.out.below hb); have HC1 := hide (Chg.of (b := b) hb); have c0 := HR1.out.c0; have c1 := HR1.out.c1; have c2 := HR1.out.c2; have t1 := HR1.out.thaw 1; have t2 := HR1.out.thaw 2; clear hb))
    have HR2 := hide (HR1.out.set 2 (.int .i64 ((T.n : Int) + 1)) ⟨T.wt, T.av, T.n + 1⟩ rfl)
    have HC2 := hide (HC1.out.set 2 (.int .i64 ((T.n : Int) + 1)))
    clear HR1 HC1 c0 c1 c2 t1 t2 HO
    generalize (w1.setCell ⟨b, 2, none⟩ (.int .i64 ((T.n : Int) + 1))) = w2 at *
    have k0 := cell_regrown HR2.out.c0
    have K1 : Hid (∀ d os, Calls Try.prog 24 #[.int .u64 ((T.av : Nat) : Int)] (grow (redrawn w2 d) os) fun e w'' => e = .returned (.int .u64 ((G : Nat) : Int)) ∧ ∃ p : Regrown, w'' = grow (redrawn w2 p.d) p.os) := hide (fun d os => Calls.regrown_of ((HNg.out _).mono (fun _ _ ⟨a, b⟩ => ⟨a, by rw [b]; exact Below.refl _ _⟩)))
    have K2 : Hid (∀ d os, Calls Try.prog 22 #[.int .u64 ((y : Nat) : Int), .int .u64 ((G : Nat) : Int)] (grow (redrawn w2 d) os) fun e w'' => e = .returned (.int .u64 ((D : Nat) : Int)) ∧ ∃ p : Regrown, w'' = grow (redrawn w2 p.d) p.os) := hide (fun d os => Calls.regrown_of (HA1.out _))
    have K3 : Hid (∀ d os, Calls Try.prog 23 #[.int .u64 ((D : Nat) : Int), .int .u64 ((T.wt : Nat) : Int)] (grow (redrawn w2 d) os) fun e w'' => e = .returned (.int .u64 ((M : Nat) : Int)) ∧ ∃ p : Regrown, w'' = grow (redrawn w2 p.d) p.os) := hide (fun d os => Calls.regrown_of (HMl.out _))
    have K4 : Hid (∀ d os, Calls Try.prog 22 #[.int .u64 ((T.av : Nat) : Int), .int .u64 ((M : Nat) : Int)] (grow (redrawn w2 d) os) fun e w'' => e = .returned (.int .u64 ((B : Nat) : Int)) ∧ ∃ p : Regrown, w'' = grow (redrawn w2 p.d) p.os) := hide (fun d os => Calls.regrown_of (HA2.out _))
    clear HNg HA1 HMl HA2
    refine wp_region_quiet_below (by kernel_rfl) (by kernel_rfl) ?_
    go_big_quiet_step (first | fail)
    go_big_quiet_step (first | fail)
    go_big_quiet_step (first | fail)
    go_big_quiet_step (first | (go_at_call 24; exact K1.out _ _))
    go_big_quiet_step (first | (go_at_call 22; exact K2.out _ _))
    go_big_quiet_step (first | fail)
    go_big_quiet_step (first | fail)
    go_big_quiet_step (first | fail)
    go_big_quiet_step (first | fail)
    go_big_quiet_step (first | (go_at_call 23; exact K3.out _ _))
    go_big_quiet_step (first | (go_at_call 22; exact K4.out _ _))
    go_big_quiet_step (first | fail)
    refine wpQuiet_nil ?_
    intro _ hw'
    obtain ⟨⟨dq, osq⟩, hw''⟩ := hw'
    have HR3 : Hid (Rk (grow (redrawn w2 dq) osq) b ⟨T.wt, T.av, T.n + 1⟩) := hide (HR2.out.below (below_regrown _ _ _))
    have HC3 : Hid (Chg b w (grow (redrawn w2 dq) osq)) := hide (HC2.out.trans (Chg.of (below_regrown _ _ _)))
    have hw4 := hw''
    clear hw4
    subst hw''
    generalize (grow (redrawn w2 dq) osq) = w3 at *
    clear K1 K2 K3 K4 k0 HR2 HC2
    have c1 := HR3.out.c1
    have t1 := HR3.out.thaw 1
    by_cases s1 : key y < key T.av
    · rw [decide_eq_true s1] at HL1
      simp only [if_pos s1] at e2
      by_cases s2 : key B < key y
      · rw [decide_eq_true s2] at HL3
        have s3 : ¬ key T.av < key y := by omega
        rw [decide_eq_false s3] at HL6
        simp only [if_pos s2, if_neg s3] at e2
        clear s1 s2 s3
        go_wp2_with (first | fail)
        refine (HL1.out _).mono ?_
        rintro r w4 ⟨rfl, h4⟩
        obtain rfl := h4.symm
        clear h4
        go_wp2_with (first | fail)
        refine (HL3.out _).mono ?_
        rintro r w5 ⟨rfl, h5⟩
        obtain rfl := h5.symm
        clear h5
        go_wp2_with (first | fail)
        refine (HL6.out _).mono ?_
        rintro r w6 ⟨rfl, h6⟩
        obtain rfl := h6.symm
        clear h6
        go_wp2
        go_end0
        refine ⟨rfl, ?_, HC3.out.set 1 _⟩
        rw [e2.out]
        exact HR3.out.set 1 (.int .u64 ((y : Nat) : Int)) ⟨T.wt, y, T.n + 1⟩ rfl
      · rw [decide_eq_false s2] at HL3
        simp only [if_neg s2] at e2
        by_cases s3 : key T.av < key B
        · rw [decide_eq_true s3] at HL5
          simp only [if_pos s3] at e2
          clear s1 s2 s3
          go_wp2_with (first | fail)
          refine (HL1.out _).mono ?_
          rintro r w4 ⟨rfl, h4⟩
          obtain rfl := h4.symm
          clear h4
          go_wp2_with (first | fail)
          refine (HL3.out _).mono ?_
          rintro r w5 ⟨rfl, h5⟩
          obtain rfl := h5.symm
          clear h5
          go_wp2_with (first | fail)
          refine (HL5.out _).mono ?_
          rintro r w6 ⟨rfl, h6⟩
          obtain rfl := h6.symm
          clear h6
          go_wp2
          go_end0
          refine ⟨rfl, ?_, HC3.out.set 1 _⟩
          rw [e2.out]
          exact HR3.out.set 1 (.int .u64 ((T.av : Nat) : Int)) ⟨T.wt, T.av, T.n + 1⟩ rfl
        · rw [decide_eq_false s3] at HL5
          simp only [if_neg s3] at e2
          clear s1 s2 s3
          go_wp2_with (first | fail)
          refine (HL1.out _).mono ?_
          rintro r w4 ⟨rfl, h4⟩
          obtain rfl := h4.symm
          clear h4
          go_wp2_with (first | fail)
          refine (HL3.out _).mono ?_
          rintro r w5 ⟨rfl, h5⟩
          obtain rfl := h5.symm
          clear h5
          go_wp2_with (first | fail)
          refine (HL5.out _).mono ?_
          rintro r w6 ⟨rfl, h6⟩
          obtain rfl := h6.symm
          clear h6
          go_wp2
          go_end0
          refine ⟨rfl, ?_, HC3.out.set 1 _⟩
          rw [e2.out]
          exact HR3.out.set 1 (.int .u64 ((B : Nat) : Int)) ⟨T.wt, B, T.n + 1⟩ rfl
    · rw [decide_eq_false s1] at HL1
      simp only [if_neg s1] at e2
      by_cases s2 : key B < key T.av
      · rw [decide_eq_true s2] at HL2
        have s3 : ¬ key y < key T.av := s1
        simp only [if_pos s2, if_neg s3] at e2
        clear s1 s2 s3
        go_wp2_with (first | fail)
        refine (HL1.out _).mono ?_
        rintro r w4 ⟨rfl, h4⟩
        obtain rfl := h4.symm
        clear h4
        go_wp2_with (first | fail)
        refine (HL2.out _).mono ?_
        rintro r w5 ⟨rfl, h5⟩
        obtain rfl := h5.symm
        clear h5
        go_wp2_with (first | fail)
        refine (HL1.out _).mono ?_
        rintro r w6 ⟨rfl, h6⟩
        obtain rfl := h6.symm
        clear h6
        go_wp2
        go_end0
        refine ⟨rfl, ?_, HC3.out.set 1 _⟩
        rw [e2.out]
        exact HR3.out.set 1 (.int .u64 ((T.av : Nat) : Int)) ⟨T.wt, T.av, T.n + 1⟩ rfl
      · rw [decide_eq_false s2] at HL2
        simp only [if_neg s2] at e2
        by_cases s3 : key y < key B
        · rw [decide_eq_true s3] at HL4
          simp only [if_pos s3] at e2
          clear s1 s2 s3
          go_wp2_with (first | fail)
          refine (HL1.out _).mono ?_
          rintro r w4 ⟨rfl, h4⟩
          obtain rfl := h4.symm
          clear h4
          go_wp2_with (first | fail)
          refine (HL2.out _).mono ?_
          rintro r w5 ⟨rfl, h5⟩
          obtain rfl := h5.symm
          clear h5
          go_wp2_with (first | fail)
          refine (HL4.out _).mono ?_
          rintro r w6 ⟨rfl, h6⟩
          obtain rfl := h6.symm
          clear h6
          go_wp2
          go_end0
          refine ⟨rfl, ?_, HC3.out.set 1 _⟩
          rw [e2.out]
          exact HR3.out.set 1 (.int .u64 ((y : Nat) : Int)) ⟨T.wt, y, T.n + 1⟩ rfl
        · rw [decide_eq_false s3] at HL4
          simp only [if_neg s3] at e2
          clear s1 s2 s3
          go_wp2_with (first | fail)
          refine (HL1.out _).mono ?_
          rintro r w4 ⟨rfl, h4⟩
          obtain rfl := h4.symm
          clear h4
          go_wp2_with (first | fail)
          refine (HL2.out _).mono ?_
          rintro r w5 ⟨rfl, h5⟩
          obtain rfl := h5.symm
          clear h5
          go_wp2_with (first | fail)
          refine (HL4.out _).mono ?_
          rintro r w6 ⟨rfl, h6⟩
          obtain rfl := h6.symm
          clear h6
          go_wp2
          go_end0
          refine ⟨rfl, ?_, HC3.out.set 1 _⟩
          rw [e2.out]
          exact HR3.out.set 1 (.int .u64 ((B : Nat) : Int)) ⟨T.wt, B, T.n + 1⟩ rfl
end Go.Proofs.Ytfcakfedlcajaaa
namespace Go.Proofs.Ytfcakfedlcajaaa
open Go.RowKit Go.Sort
open Fl
namespace Fl

theorem cl_high {x : Nat} {e : Nat} (h : pE x = (e : Int)) : clN x = pM x * 2 ^ e := by
  have hv : V (rg x) = pM x * 2 ^ e * U := by
    obtain ⟨k, hk⟩ : ∃ k, k = 1074 := ⟨_, rfl⟩
    rw [V_parts, h, Nat.mul_assoc, ← U_is hk, ← Nat.pow_add]
    congr 2; omega
  unfold clN
  rw [hv, Nat.mul_div_cancel _ U_pos, Nat.mul_mod_left]
  simp
theorem cl_low {x s : Nat} (h : pE x = -(s : Int)) (hs : 1 ≤ s) : clN x = pM x / 2 ^ s + (!ng x && pM x % 2 ^ s != 0).toNat := by
  have hg := pE_ge x
  obtain ⟨p, hp⟩ : ∃ p, s + p = 1074 := ⟨1074 - s, by omega⟩
  have hv : V (rg x) = pM x * 2 ^ p := by rw [V_parts, h]; congr 2; omega
  have hP : 0 < 2 ^ p := Nat.two_pow_pos _
  unfold clN
  rw [hv, ← U_pow hp, Nat.mul_div_mul_right _ _ hP, Nat.mul_mod_mul_right]
  have e : (pM x % 2 ^ s * 2 ^ p != 0) = (pM x % 2 ^ s != 0) := by
    by_cases c : pM x % 2 ^ s = 0
    · rw [c, Nat.zero_mul]
    · have : ¬ pM x % 2 ^ s * 2 ^ p = 0 := fun h => by
        rcases Nat.mul_eq_zero.1 h with h | h
        · exact c h
        · omega
      rw [bne_iff_ne.2 c, bne_iff_ne.2 this]
  rw [e]
theorem cl_le {x : Nat} (h : rg x ≤ 4890909195324358656) : clN x ≤ 9223372036854775808 := by
  have hv : V (rg x) ≤ 9223372036854775808 * U := by rw [← V_top]; exact V_le h
  unfold clN
  by_cases c : V (rg x) % U = 0
  · rw [c]
    have : V (rg x) / U ≤ 9223372036854775808 := Nat.div_le_of_le_mul (by rw [Nat.mul_comm]; exact hv)
    have h2 : (!ng x && (0 != 0)) = false := by simp
    rw [h2]; exact this
  · have hlt : V (rg x) < 9223372036854775808 * U := by
      apply Nat.lt_of_le_of_ne hv
      intro e; rw [e, Nat.mul_mod_left] at c; exact c rfl
    have : V (rg x) / U < 9223372036854775808 := by rw [Nat.div_lt_iff_lt_mul U_pos]; exact hlt
    have := toNat_le (!ng x && V (rg x) % U != 0)
    omega
end Fl

set_option maxRecDepth 100000 in
theorem RCeil_any (w : World) (x : Nat) (h : Wf x) (hr : rg x ≤ 4890909195324358656) :
    Calls Try.prog 27 #[.int .u64 (x : Int)] w fun r w' => r = .returned (.tuple #[.bool (ng x), .int .u64 ((clN x : Nat) : Int)]) ∧ w' = w := by
  have HP := hide (fun w => parts_any w x h)
  unfold ptv at HP
  have hm := pM_lt x
  have hg := pE_ge x
  have he : pE x ≤ 11 := pE_le (x := x) (k := 1087) (Nat.lt_of_le_of_lt hr (by decide)) (by decide)
  have hcl := cl_le hr
  by_cases c1 : 0 ≤ pE x
  · obtain ⟨e, hee⟩ : ∃ e : Nat, pE x = (e : Int) := ⟨(pE x).toNat, by omega⟩
    have hc := cl_high hee
    rw [hc] at hcl ⊢
    have q : Hid (IntKind.u64.wrap (((pM x : Nat) : Int) * 2 ^ e) = ((pM x * 2 ^ e : Nat) : Int)) := by
      show _ = _
      rw [pow_int, ← Int.natCast_mul, wrap_nat, Nat.mod_eq_of_lt (by omega)]
    rw [hee] at HP
    have he2 : e ≤ 11 := by omega
    clear hc hcl hg he c1 hee h hr
    generalize pM x = m at *
    go_enter Try.func27, Try.ntmps27
    go_wp2_with (first | (go_at_call 31; refine (HP.out _).mono ?_; rintro r w1 ⟨rfl, h⟩; obtain rfl := h.symm; clear h))
    go_ret2
    exact ⟨by rw [← q.out]; rfl, rfl⟩
  · obtain ⟨s, hs⟩ : ∃ s : Nat, pE x = -(s : Int) := ⟨(-pE x).toNat, by omega⟩
    have s1 : 1 ≤ s := by omega
    have s2 : s ≤ 1074 := by omega
    have hc := cl_low hs s1
    rw [hs] at HP
    have hn0 : ¬ (0 : Int) ≤ -(s : Int) := by omega
    by_cases c2 : 64 ≤ s
    · have hbig : pM x < 2 ^ s := Nat.lt_of_lt_of_le hm (Nat.le_trans (by decide : 9007199254740992 ≤ 2 ^ 64) (Nat.pow_le_pow_right (by omega) c2))
      rw [Nat.div_eq_of_lt hbig, Nat.mod_eq_of_lt hbig, Nat.zero_add] at hc
      have c2' : (64 : Int) ≤ (s : Int) := by omega
      by_cases c3 : pM x = 0
      · rw [c3] at hc HP
        have hc0 : clN x = 0 := by rw [hc]; cases ng x <;> rfl
        rw [hc0]
        clear hc hc0 hcl hg he c1 hs h hr hbig c3 hm
        generalize ng x = n at *
        cases n
        all_goals (go_enter Try.func27, Try.ntmps27; go_wp2_with (first | (go_at_call 31; refine (HP.out _).mono ?_; rintro r w1 ⟨rfl, h⟩; obtain rfl := h.symm; clear h)); go_ret2; exact ⟨rfl, rfl⟩)
      · have c3' : (((pM x : Nat) : Int) == 0) = false := beq_eq_false_iff_ne.2 (by omega)
        have hc1 : clN x = (!ng x).toNat := by rw [hc, bne_iff_ne.2 c3, Bool.and_true]
        rw [hc1]
        clear hc hc1 hcl hg he c1 hs h hr hbig c3 hm
        generalize pM x = m at *
        generalize ng x = n at *
        cases n
        all_goals (go_enter Try.func27, Try.ntmps27; go_wp2_with (first | (go_at_call 31; refine (HP.out _).mono ?_; rintro r w1 ⟨rfl, h⟩; obtain rfl := h.symm; clear h)); go_ret2; exact ⟨rfl, rfl⟩)
    · have c2' : (s : Int) < 64 := by omega
      have hdm := Nat.div_add_mod (pM x) (2 ^ s)
      have hle : pM x / 2 ^ s ≤ pM x := Nat.div_le_self _ _
      have q1 : ((pM x : Nat) : Int) / 2 ^ s = ((pM x / 2 ^ s : Nat) : Int) := by rw [pow_int]; exact (Int.natCast_ediv _ _).symm
      have q2 : (IntKind.u64.wrap (((pM x / 2 ^ s : Nat) : Int) * 2 ^ s) == ((pM x : Nat) : Int)) = decide (pM x % 2 ^ s = 0) := by
        have e1 : IntKind.u64.wrap (((pM x / 2 ^ s : Nat) : Int) * 2 ^ s) = ((pM x / 2 ^ s * 2 ^ s : Nat) : Int) := by
          rw [pow_int, ← Int.natCast_mul, wrap_nat, Nat.mod_eq_of_lt (by rw [Nat.mul_comm]; omega)]
        rw [e1, Nat.mul_comm]
        by_cases c : pM x % 2 ^ s = 0
        · rw [decide_eq_true c]; exact beq_iff_eq.2 (by omega)
        · rw [decide_eq_false c]; exact beq_eq_false_iff_ne.2 (by omega)
      by_cases c3 : pM x = 0
      · rw [c3, Nat.zero_div, Nat.zero_mod] at hc
        have hc0 : clN x = 0 := by rw [hc]; cases ng x <;> rfl
        rw [c3, Nat.zero_div] at q1
        rw [c3, Nat.zero_div, Nat.zero_mod] at q2
        rw [c3] at HP
        rw [hc0]
        clear hc hc0 hcl hg he c1 hs h hr c3 hm hdm hle
        generalize ng x = n at *
        cases n
        all_goals (go_enter Try.func27, Try.ntmps27; go_wp2_with (first | (go_at_call 31; refine (HP.out _).mono ?_; rintro r w1 ⟨rfl, h⟩; obtain rfl := h.symm; clear h)); go_ret2; exact ⟨rfl, rfl⟩)
      · have c3' : (((pM x : Nat) : Int) == 0) = false := beq_eq_false_iff_ne.2 (by omega)
        rw [hc]
        by_cases c4 : pM x % 2 ^ s = 0
        · rw [decide_eq_true c4] at q2
          have e0 : pM x / 2 ^ s + (!ng x && pM x % 2 ^ s != 0).toNat = pM x / 2 ^ s := by rw [c4]; simp
          rw [e0]
          clear hc hcl hg he c1 hs h hr c3 hm hdm e0 c4
          generalize pM x / 2 ^ s = q at *
          generalize pM x = m at *
          generalize ng x = n at *
          cases n
          all_goals (go_enter Try.func27, Try.ntmps27; go_wp2_with (first | (go_at_call 31; refine (HP.out _).mono ?_; rintro r w1 ⟨rfl, h⟩; obtain rfl := h.symm; clear h)); go_ret2; exact ⟨rfl, rfl⟩)
        · rw [decide_eq_false c4] at q2
          have e0 : pM x / 2 ^ s + (!ng x && pM x % 2 ^ s != 0).toNat = pM x / 2 ^ s + (!ng x).toNat := by rw [bne_iff_ne.2 c4, Bool.and_true]
          rw [e0]
          clear hc hcl hg he c1 hs h hr c3 hdm e0 c4
          generalize pM x / 2 ^ s = q at *
          generalize pM x = m at *
          generalize ng x = n at *
          cases n
          all_goals (go_enter Try.func27, Try.ntmps27; go_wp2_with (first | (go_at_call 31; refine (HP.out _).mono ?_; rintro r w1 ⟨rfl, h⟩; obtain rfl := h.symm; clear h)); go_ret2; exact ⟨rfl, rfl⟩)
end Go.Proofs.Ytfcakfedlcajaaa
namespace Go.Proofs.Ytfcakfedlcajaaa
open Go.RowKit Go.Sort
open Fl

set_option maxRecDepth 100000 in
theorem RAdvice_none (w : World) (b : Nat) (T : Td) (h : Int) (hk : Rk w b T) (hn : T.n = 0) :
    Calls Try.prog 10 #[.pointer (some ⟨b, 0, none⟩), .int .i64 h] w fun e w' => e = .returned (.int .i64 0) ∧ w' = w := by
  have c2 := hk.c2
  rw [hn] at c2
  clear hk hn
  go_enter Try.func10, Try.ntmps10
  go_wp2
  go_ret
  exact ⟨rfl, rfl⟩

set_option maxRecDepth 100000 in
set_option maxHeartbeats 1000000 in
theorem RAdvice_any (w : World) (b : Nat) (T : Td) (h : Int) (hk : Rk w b T) (hn : T.n ≠ 0) (ho : T.Ok2) (h1 : -9223372036854775808 ≤ h) (h2 : h ≤ 9223372036854775807) :
    Calls Try.prog 10 #[.pointer (some ⟨b, 0, none⟩), .int .i64 h] w fun e w' => e = .returned (.int .i64 (adv (cl T.av) h)) ∧ w' = w := by
  have k1 := hk.c1
  have k2 := hk.c2
  have n0 : ((T.n : Int) == 0) = false := beq_eq_false_iff_ne.2 (by omega)
  have HC := hide (RCeil_any w T.av ho.ok.a2 ho.a)
  have HA := hide (Amount_any w h h1 h2)
  have hc := cl_le ho.a
  show Calls Try.prog 10 #[.pointer (some ⟨b, 0, none⟩), .int .i64 h] w fun e w' => e = .returned (.int .i64 (adv (sg (ng T.av) (clN T.av)) h)) ∧ w' = w
  obtain ⟨g, hg⟩ : ∃ g, h.natAbs = g := ⟨_, rfl⟩
  rw [hg] at HA
  generalize clN T.av = c at *
  generalize T.n = N at *
  generalize T.av = A at *
  clear hk hn ho
  unfold adv
  cases hng : ng A
  · rw [hng] at HC
    show Calls Try.prog 10 #[.pointer (some ⟨b, 0, none⟩), .int .i64 h] w fun e w' => e = .returned (.int .i64 (if (c : Int) ≤ h then 0 else min ((c : Int) - h) 1099511627776)) ∧ w' = w
    by_cases c1 : 0 ≤ h
    · obtain rfl : h = (g : Int) := by omega
      by_cases c2 : c ≤ g
      · have e : Hid ((if (c : Int) ≤ (g : Int) then (0 : Int) else min ((c : Int) - (g : Int)) 1099511627776) = 0) := hide (by rw [if_pos (by omega)])
        rw [e.out]
        have c2' : (c : Int) ≤ (g : Int) := by omega
        clear e hg hng
        go_enter Try.func10, Try.ntmps10
        go_wp2_with (first | (go_at_call 27; refine HC.out.mono ?_; rintro r w1 ⟨rfl, e⟩; obtain rfl := e.symm; clear e) | (go_at_call 28; refine HA.out.mono ?_; rintro r w1 ⟨rfl, e⟩; obtain rfl := e.symm; clear e))
        go_ret
        exact ⟨rfl, rfl⟩
      · have e : Hid ((if (c : Int) ≤ (g : Int) then (0 : Int) else min ((c : Int) - (g : Int)) 1099511627776) = min ((c : Int) - (g : Int)) 1099511627776) := hide (by rw [if_neg (by omega)])
        rw [e.out]
        have c2' : ¬ (c : Int) ≤ (g : Int) := by omega
        clear e hg hng
        by_cases c3 : 1099511627776 < c - g
        · have c3' : (1099511627776 : Int) < (c : Int) - (g : Int) := by omega
          go_enter Try.func10, Try.ntmps10
          go_wp2_with (first | (go_at_call 27; refine HC.out.mono ?_; rintro r w1 ⟨rfl, e⟩; obtain rfl := e.symm; clear e) | (go_at_call 28; refine HA.out.mono ?_; rintro r w1 ⟨rfl, e⟩; obtain rfl := e.symm; clear e))
          go_ret
          exact ⟨by rw [show min ((c : Int) - (g : Int)) 1099511627776 = 1099511627776 by omega]; rfl, rfl⟩
        · have c3' : ¬ (1099511627776 : Int) < (c : Int) - (g : Int) := by omega
          go_enter Try.func10, Try.ntmps10
          go_wp2_with (first | (go_at_call 27; refine HC.out.mono ?_; rintro r w1 ⟨rfl, e⟩; obtain rfl := e.symm; clear e) | (go_at_call 28; refine HA.out.mono ?_; rintro r w1 ⟨rfl, e⟩; obtain rfl := e.symm; clear e))
          go_ret
          exact ⟨by rw [show min ((c : Int) - (g : Int)) 1099511627776 = (c : Int) - (g : Int) by omega]; rfl, rfl⟩
    · have hh : h = -(g : Int) := by omega
      have e : Hid ((if (c : Int) ≤ h then (0 : Int) else min ((c : Int) - h) 1099511627776) = min ((c : Int) + (g : Int)) 1099511627776) := hide (by rw [if_neg (by omega), show (c : Int) - h = (c : Int) + (g : Int) by omega])
      rw [e.out]
      have hgb : g ≤ 9223372036854775808 := by omega
      have hg0 : 0 < g := by omega
      clear e hg hng
      by_cases c3 : c + g = 18446744073709551616
      · have q : IntKind.u64.wrap ((c : Int) + (g : Int)) = 0 := by rw [IntKind.wrap_u64]; omega
        have hc0 : (0 : Int) < (c : Int) := by omega
        have c4 : min ((c : Int) + (g : Int)) 1099511627776 = 1099511627776 := by omega
        have C4 := hide c4
        clear c3 c4 hh
        go_enter Try.func10, Try.ntmps10
        go_wp2_with (first | (go_at_call 27; refine HC.out.mono ?_; rintro r w1 ⟨rfl, e⟩; obtain rfl := e.symm; clear e) | (go_at_call 28; refine HA.out.mono ?_; rintro r w1 ⟨rfl, e⟩; obtain rfl := e.symm; clear e))
        go_ret
        exact ⟨by rw [C4.out]; rfl, rfl⟩
      · have q : IntKind.u64.wrap ((c : Int) + (g : Int)) = (c : Int) + (g : Int) := by rw [IntKind.wrap_u64]; omega
        have q2 : ¬ (c : Int) + (g : Int) < (c : Int) := by omega
        by_cases c4 : 1099511627776 < c + g
        · have c4' : (1099511627776 : Int) < (c : Int) + (g : Int) := by omega
          have C4 := hide (show min ((c : Int) + (g : Int)) 1099511627776 = 1099511627776 by omega)
          clear c3 hh
          go_enter Try.func10, Try.ntmps10
          go_wp2_with (first | (go_at_call 27; refine HC.out.mono ?_; rintro r w1 ⟨rfl, e⟩; obtain rfl := e.symm; clear e) | (go_at_call 28; refine HA.out.mono ?_; rintro r w1 ⟨rfl, e⟩; obtain rfl := e.symm; clear e))
          go_ret
          exact ⟨by rw [C4.out]; rfl, rfl⟩
        · have c4' : ¬ (1099511627776 : Int) < (c : Int) + (g : Int) := by omega
          have C4 := hide (show min ((c : Int) + (g : Int)) 1099511627776 = (c : Int) + (g : Int) by omega)
          clear c3 hh
          go_enter Try.func10, Try.ntmps10
          go_wp2_with (first | (go_at_call 27; refine HC.out.mono ?_; rintro r w1 ⟨rfl, e⟩; obtain rfl := e.symm; clear e) | (go_at_call 28; refine HA.out.mono ?_; rintro r w1 ⟨rfl, e⟩; obtain rfl := e.symm; clear e))
          go_ret
          exact ⟨by rw [C4.out]; rfl, rfl⟩
  · rw [hng] at HC
    show Calls Try.prog 10 #[.pointer (some ⟨b, 0, none⟩), .int .i64 h] w fun e w' => e = .returned (.int .i64 (if -(c : Int) ≤ h then 0 else min (-(c : Int) - h) 1099511627776)) ∧ w' = w
    by_cases c1 : 0 ≤ h
    · have e : Hid ((if -(c : Int) ≤ h then (0 : Int) else min (-(c : Int) - h) 1099511627776) = 0) := hide (by rw [if_pos (by omega)])
      rw [e.out]
      clear e hg hng
      go_enter Try.func10, Try.ntmps10
      go_wp2_with (first | (go_at_call 27; refine HC.out.mono ?_; rintro r w1 ⟨rfl, e⟩; obtain rfl := e.symm; clear e) | (go_at_call 28; refine HA.out.mono ?_; rintro r w1 ⟨rfl, e⟩; obtain rfl := e.symm; clear e))
      go_ret
      exact ⟨rfl, rfl⟩
    · by_cases c2 : g ≤ c
      · have e : Hid ((if -(c : Int) ≤ h then (0 : Int) else min (-(c : Int) - h) 1099511627776) = 0) := hide (by rw [if_pos (by omega)])
        rw [e.out]
        have c2' : (g : Int) ≤ (c : Int) := by omega
        clear e hg hng
        go_enter Try.func10, Try.ntmps10
        go_wp2_with (first | (go_at_call 27; refine HC.out.mono ?_; rintro r w1 ⟨rfl, e⟩; obtain rfl := e.symm; clear e) | (go_at_call 28; refine HA.out.mono ?_; rintro r w1 ⟨rfl, e⟩; obtain rfl := e.symm; clear e))
        go_ret
        exact ⟨rfl, rfl⟩
      · have e : Hid ((if -(c : Int) ≤ h then (0 : Int) else min (-(c : Int) - h) 1099511627776) = min ((g : Int) - (c : Int)) 1099511627776) := hide (by rw [if_neg (by omega), show -(c : Int) - h = (g : Int) - (c : Int) by omega])
        rw [e.out]
        have c2' : ¬ (g : Int) ≤ (c : Int) := by omega
        have hgb : g ≤ 9223372036854775808 := by omega
        clear e hg hng
        by_cases c3 : 1099511627776 < g - c
        · have c3' : (1099511627776 : Int) < (g : Int) - (c : Int) := by omega
          have C4 := hide (show min ((g : Int) - (c : Int)) 1099511627776 = 1099511627776 by omega)
          go_enter Try.func10, Try.ntmps10
          go_wp2_with (first | (go_at_call 27; refine HC.out.mono ?_; rintro r w1 ⟨rfl, e⟩; obtain rfl := e.symm; clear e) | (go_at_call 28; refine HA.out.mono ?_; rintro r w1 ⟨rfl, e⟩; obtain rfl := e.symm; clear e))
          go_ret
          exact ⟨by rw [C4.out]; rfl, rfl⟩
        · have c3' : ¬ (1099511627776 : Int) < (g : Int) - (c : Int) := by omega
          have C4 := hide (show min ((g : Int) - (c : Int)) 1099511627776 = (g : Int) - (c : Int) by omega)
          go_enter Try.func10, Try.ntmps10
          go_wp2_with (first | (go_at_call 27; refine HC.out.mono ?_; rintro r w1 ⟨rfl, e⟩; obtain rfl := e.symm; clear e) | (go_at_call 28; refine HA.out.mono ?_; rintro r w1 ⟨rfl, e⟩; obtain rfl := e.symm; clear e))
          go_ret
          exact ⟨by rw [C4.out]; rfl, rfl⟩
end Go.Proofs.Ytfcakfedlcajaaa
namespace Go.Proofs.Ytfcakfedlcajaaa
open Go.RowKit Go.Sort
open Fl

theorem owns_at {w : World} {e : TypeId} {s n : Nat} {v : Value} {xs : List Value} {B : Nat} (h : w.ownsRow B e s v n xs) {g : Nat} (hg : v.ownBlock = some g) : g < w.heap.size ∧ B ≤ g := by
  rcases h.2 with ⟨h1, _⟩ | ⟨g', cap, cur, h1, hb, hg', _⟩
  · rw [h1] at hg; simp [Value.ownBlock] at hg
  · rw [h1] at hg; simp [Value.ownBlock] at hg; subst hg; exact ⟨(Array.getElem?_eq_some_iff.1 hg').1, hb⟩
theorem owns_same {w w' : World} {e : TypeId} {s n : Nat} {v : Value} {xs : List Value} {B : Nat} (h : w.ownsRow B e s v n xs) (hs : ∀ g, v.ownBlock = some g → w'.heap[g]? = w.heap[g]?) : w'.ownsRow B e s v n xs := by
  refine ⟨h.1, h.2.imp id ?_⟩
  rintro ⟨g, cap, cur, h1, h2, h3, r⟩
  exact ⟨g, cap, cur, h1, h2, (hs g (by rw [h1]; rfl)).trans h3, r⟩
theorem owns_form {w : World} {B : Nat} {e : TypeId} {v : Value} {s n : Nat} {xs : List Value} (h : w.ownsRow B e s v n xs) : ∃ a c, v = .slice a n c ∧ n ≤ c := by
  rcases h.2 with ⟨h1, h2⟩ | ⟨g', cap, cur, h1, _, _, h4, _⟩
  · exact ⟨none, 0, by rw [h1, h2], by omega⟩
  · exact ⟨_, cap, h1, h4⟩

/-- A trend and the document's. -/
structure Tw where
  bt : Nat
  br : Nat
  T : Td
def pt (b : Nat) : Value := .pointer (some ⟨b, 0, none⟩)
def twC (l : List Tw) : List Value := l.flatMap fun p => [pt p.bt, pt p.br]
theorem twC_len (l : List Tw) : (twC l).length = l.length * 2 := by
  induction l with
  | nil => rfl
  | cons p l ih => simp only [twC, List.flatMap_cons, List.length_append, List.length_cons, List.length_nil] at ih ⊢; omega
theorem twC_app (l : List Tw) (p : Tw) : twC (l ++ [p]) = twC l ++ [pt p.bt, pt p.br] := by simp [twC]
theorem twC_at : ∀ (l : List Tw) (j : Nat) (p : Tw), l[j]? = some p → (twC l)[j * 2]? = some (pt p.bt) ∧ (twC l)[j * 2 + 1]? = some (pt p.br)
  | [], j, p, h => by simp at h
  | q :: l, 0, p, h => by
    simp at h; subst h
    exact ⟨rfl, rfl⟩
  | q :: l, j + 1, p, h => by
    have := twC_at l j p (by simpa using h)
    have e1 : (j + 1) * 2 = j * 2 + 1 + 1 := by omega
    rw [e1]
    exact ⟨this.1, this.2⟩

structure Ex (W w : World) (v : Value) (l : List Tw) : Prop where
  row : w.ownsRow W.heap.size 32 2 v l.length (twC l)
  bel : Below W.heap.size W w
  tk : ∀ (j : Nat) (p : Tw), l[j]? = some p → Tk w p.bt p.T
  rk : ∀ (j : Nat) (p : Tw), l[j]? = some p → Rk w p.br p.T
  ok : ∀ (j : Nat) (p : Tw), l[j]? = some p → p.T.Ok2
  up : ∀ (j : Nat) (p : Tw), l[j]? = some p → W.heap.size ≤ p.bt ∧ W.heap.size ≤ p.br
  far : ∀ (i j : Nat) (p q : Tw), l[i]? = some p → l[j]? = some q → (p.bt = q.bt → i = j) ∧ (p.br = q.br → i = j) ∧ p.bt ≠ q.br
  off : ∀ g, v.ownBlock = some g → ∀ (j : Nat) (p : Tw), l[j]? = some p → p.bt ≠ g ∧ p.br ≠ g

theorem Ex.grow {W w w' : World} {v : Value} {l : List Tw} (h : Ex W w v l) (hb : Below w.heap.size w w') : Ex W w' v l :=
  ⟨owns_same h.row (fun g hg => hb.block g (owns_at h.row hg).1), below_go h.bel hb, fun j p hj => (h.tk j p hj).kept (hb.block _ (h.tk j p hj).lt), fun j p hj => (h.rk j p hj).below hb, h.ok, h.up, h.far, h.off⟩

theorem Ex.nil {W w : World} (hb : Below W.heap.size W w) : Ex W w (.slice none 0 0) [] :=
  ⟨⟨rfl, Or.inl ⟨rfl, rfl⟩⟩, hb, fun j p h => by simp at h, fun j p h => by simp at h, fun j p h => by simp at h, fun j p h => by simp at h, fun i j p q h => by simp at h, fun g _ j p h => by simp at h⟩

theorem idx_app {l : List Tw} {p q : Tw} {j : Nat} (h : (l ++ [p])[j]? = some q) : (l[j]? = some q) ∨ (j = l.length ∧ q = p) := by
  by_cases c : j < l.length
  · left; rw [List.getElem?_append_left c] at h; exact h
  · rw [List.getElem?_append_right (by omega)] at h
    by_cases d : j - l.length = 0
    · rw [d] at h; simp at h; exact Or.inr ⟨by omega, h.symm⟩
    · obtain ⟨k, hk⟩ : ∃ k, j - l.length = k + 1 := ⟨j - l.length - 1, by omega⟩
      rw [hk] at h; simp at h

/-- One more. -/
theorem Ex.more {W w w' : World} {v v' : Value} {l : List Tw} {p : Tw} {g : Nat} (h : Ex W w v l) (hr : w'.ownsRow W.heap.size 32 2 v' (l.length + 1) (twC l ++ [pt p.bt, pt p.br])) (hg : w.grownBy w' v.ownBlock) (hv : v'.ownBlock = some g) (hat : v.ownBlock = some g ∨ w.heap.size ≤ g)
    (h1 : Tk w p.bt p.T) (h2 : Rk w p.br p.T) (ho : p.T.Ok2) (u1 : W.heap.size ≤ p.bt) (hn : ∀ (j : Nat) (q : Tw), l[j]? = some q → q.bt < p.bt ∧ q.br < p.bt) (hlt : p.bt < p.br) (hof : ∀ g, v.ownBlock = some g → g < p.bt) : Ex W w' v' (l ++ [p]) := by
  have ne : ∀ (j : Nat) (q : Tw), (l ++ [p])[j]? = some q → (some q.bt ≠ v.ownBlock ∧ some q.br ≠ v.ownBlock) ∧ Tk w q.bt q.T ∧ Rk w q.br q.T := fun j q hq => by
    rcases idx_app hq with hq | ⟨_, rfl⟩
    · exact ⟨⟨fun e => (h.off _ e.symm j q hq).1 rfl, fun e => (h.off _ e.symm j q hq).2 rfl⟩, h.tk j q hq, h.rk j q hq⟩
    · exact ⟨⟨fun e => by have := hof _ e.symm; omega, fun e => by have := hof _ e.symm; omega⟩, h1, h2⟩
  refine ⟨?_, ?_, ?_, ?_, ?_, ?_, ?_, ?_⟩
  · rw [List.length_append, twC_app]; exact hr
  · exact ⟨hg.os.trans h.bel.os, hg.tape.trans h.bel.tape, hg.output.trans h.bel.output, Nat.le_trans h.bel.size hg.size, fun c hc => (hg.block c (Nat.lt_of_lt_of_le hc h.bel.size) (fun e => by have := (owns_at h.row e.symm).2; omega)).trans (h.bel.block c hc)⟩
  · intro j q hq
    obtain ⟨⟨n1, _⟩, k1, _⟩ := ne j q hq
    exact k1.kept (hg.block _ k1.lt n1)
  · intro j q hq
    obtain ⟨⟨_, n2⟩, _, k2⟩ := ne j q hq
    exact k2.kept (hg.block _ k2.lt n2)
  · intro j q hq
    rcases idx_app hq with hq | ⟨_, rfl⟩
    · exact h.ok j q hq
    · exact ho
  · intro j q hq
    rcases idx_app hq with hq | ⟨_, rfl⟩
    · exact h.up j q hq
    · exact ⟨u1, by omega⟩
  · intro i j a b ha hb
    rcases idx_app ha with ha1 | ⟨ei, rfl⟩
    · rcases idx_app hb with hb1 | ⟨ej, rfl⟩
      · exact h.far i j a b ha1 hb1
      · have := hn i a ha1
        exact ⟨fun e => by omega, fun e => by omega, by omega⟩
    · rcases idx_app hb with hb1 | ⟨ej, rfl⟩
      · have := hn j b hb1
        exact ⟨fun e => by omega, fun e => by omega, by omega⟩
      · exact ⟨fun _ => by omega, fun _ => by omega, by omega⟩
  · intro g' hg' j q hq
    rw [hv] at hg'
    cases hg'
    obtain ⟨⟨n1, n2⟩, k1, k2⟩ := ne j q hq
    rcases hat with e | e
    · exact ⟨fun c => n1 (by rw [c]; exact e.symm), fun c => n2 (by rw [c]; exact e.symm)⟩
    · have := k1.lt
      have := k2.lt
      exact ⟨by omega, by omega⟩

theorem twC_set : ∀ (l : List Tw) (j : Nat) (p : Tw) (T : Td), l[j]? = some p → twC (l.set j ⟨p.bt, p.br, T⟩) = twC l
  | [], j, p, T, h => by simp at h
  | q :: l, 0, p, T, h => by simp at h; subst h; rfl
  | q :: l, j + 1, p, T, h => by
    have := twC_set l j p T (by simpa using h)
    simp only [List.set_cons_succ, twC, List.flatMap_cons] at this ⊢
    rw [this]
theorem idx_set {l : List Tw} {j i : Nat} {p q : Tw} (h : (l.set j p)[i]? = some q) : (i = j ∧ q = p) ∨ (i ≠ j ∧ l[i]? = some q) := by
  by_cases c : i = j
  · subst c
    left
    rw [List.getElem?_set] at h
    split at h
    · split at h
      · cases h; exact ⟨rfl, rfl⟩
      · cases h
    · rename_i d; exact absurd rfl d
  · right
    rw [List.getElem?_set_ne (by omega)] at h
    exact ⟨c, h⟩

/-- A note was taken by both. -/
theorem Ex.noted {W w w1 w2 : World} {v : Value} {l : List Tw} {j : Nat} {p : Tw} {T' : Td} (h : Ex W w v l) (hj : l[j]? = some p) (o1 : Onl p.bt w w1) (k1 : Tk w1 p.bt T') (c2 : Chg p.br w1 w2) (k2 : Rk w2 p.br T') (ho : T'.Ok2) : Ex W w2 v (l.set j ⟨p.bt, p.br, T'⟩) := by
  have keep : ∀ c, c < w.heap.size → c ≠ p.bt → c ≠ p.br → w2.heap[c]? = w.heap[c]? := fun c hc n1 n2 => (c2.block c (by rw [o1.size]; exact hc) n2).trans (o1.block c n1)
  have up := h.up j p hj
  have f0 := h.far j j p p hj hj
  refine ⟨?_, ?_, ?_, ?_, ?_, ?_, ?_, ?_⟩
  · rw [List.length_set, twC_set l j p T' hj]
    exact owns_same h.row (fun g hg => keep g (owns_at h.row hg).1 (fun e => (h.off g hg j p hj).1 e.symm) (fun e => (h.off g hg j p hj).2 e.symm))
  · exact c2.below (o1.below h.bel up.1) up.2
  · intro i q hq
    rcases idx_set hq with ⟨rfl, rfl⟩ | ⟨n, hq⟩
    · exact k1.kept (c2.block _ k1.lt f0.2.2)
    · have f1 := h.far i j q p hq hj
      exact (h.tk i q hq).kept (keep _ (h.tk i q hq).lt (fun e => n (f1.1 e)) f1.2.2)
  · intro i q hq
    rcases idx_set hq with ⟨rfl, rfl⟩ | ⟨n, hq⟩
    · exact k2
    · have f1 := h.far i j q p hq hj
      have f2 := h.far j i p q hj hq
      exact (h.rk i q hq).kept (keep _ (h.rk i q hq).lt (fun e => f2.2.2 e.symm) (fun e => n (f1.2.1 e)))
  · intro i q hq
    rcases idx_set hq with ⟨rfl, rfl⟩ | ⟨n, hq⟩
    · exact ho
    · exact h.ok i q hq
  · intro i q hq
    rcases idx_set hq with ⟨rfl, rfl⟩ | ⟨n, hq⟩
    · exact up
    · exact h.up i q hq
  · intro i k a b ha hb
    rcases idx_set ha with ⟨ei, rfl⟩ | ⟨n, ha1⟩ <;> rcases idx_set hb with ⟨ej, rfl⟩ | ⟨m, hb1⟩
    · subst ei; subst ej; exact f0
    · subst ei
      have t := h.far i k p b hj hb1
      exact t
    · subst ej
      have t := h.far i k a p ha1 hj
      exact t
    · exact h.far _ _ _ _ ha1 hb1
  · intro g hg i q hq
    rcases idx_set hq with ⟨rfl, rfl⟩ | ⟨n, hq⟩
    · exact h.off g hg i p hj
    · exact h.off g hg i q hq

theorem find_bits : Extern.find Try.f19 = some Extern.MathFloatBits.float64bits := by kernel_rfl
theorem to_bits (n : Nat) (w : World) : (callFunc 19 #[.float .f64 n]).run Try.prog w = .ok (.value (.int .u64 (n : Int))) w := by
  rw [run_callFunc_extern Try.func19 (by kernel_rfl) (by kernel_rfl) (by kernel_rfl) find_bits]
  rfl

set_option maxRecDepth 100000 in
theorem same_any (w : World) (bt br : Nat) (T : Td) (h1 : Tk w bt T) (h2 : Rk w br T) (ha : Fnt T.av) :
    Calls Try.prog 11 #[.agg #[.pointer (some ⟨bt, 0, none⟩), .pointer (some ⟨br, 0, none⟩)]] w fun r w' => r = .returned (.bool true) ∧ Below w.heap.size w w' := by
  have qe : (FloatKind.f64.format.order T.av T.av == some .eq) = true := by rw [eq_iff ha.nn ha.nn]; simp
  have hb1 : Below w.heap.size w (w.alloc (.cells #[.pointer (some ⟨bt, 0, none⟩), .pointer (some ⟨br, 0, none⟩)] 32)) := (Below.refl _ _).alloc (Nat.le_refl _) _
  have HT := hide (h1.kept (hb1.block _ h1.lt))
  have HR := hide (h2.below hb1)
  have HX : Hid ((w.alloc (.cells #[.pointer (some ⟨bt, 0, none⟩), .pointer (some ⟨br, 0, none⟩)] 32)).heap[w.heap.size]? = some (.cells #[.pointer (some ⟨bt, 0, none⟩), .pointer (some ⟨br, 0, none⟩)] 32 (0, 0))) := hide (heap_alloc_new _ _)
  have HB := hide hb1
  clear hb1 h1 h2
  go_enter Try.func11, Try.ntmps11
  go_upto_region 1 with (first | fail)
  generalize (w.alloc (.cells #[.pointer (some ⟨bt, 0, none⟩), .pointer (some ⟨br, 0, none⟩)] 32)) = w1 at *
  obtain ⟨k1, k2⟩ := cells2 HX.out
  have k1 := cell_regrown k1
  have k2 := cell_regrown k2
  have k3 := cell_regrown HR.out.c1
  have k4 := cell_regrown HR.out.c2
  have K1 : Hid (∀ d os, Calls Try.prog 16 #[.pointer (some ⟨bt, 0, none⟩)] (grow (redrawn w1 d) os) fun e w'' => e = .returned (.float .f64 T.av) ∧ ∃ p : Regrown, w'' = grow (redrawn w1 p.d) p.os) := hide (fun d os => Calls.regrown_of ((Average_any _ bt T (HT.out.kept ((below_regrown w1 d os).block _ HT.out.lt))).mono (fun _ _ ⟨a, b⟩ => ⟨a, by rw [b]; exact Below.refl _ _⟩)))
  have K2 : Hid (∀ d os, Calls Try.prog 15 #[.pointer (some ⟨bt, 0, none⟩)] (grow (redrawn w1 d) os) fun e w'' => e = .returned (.int .i64 (T.n : Int)) ∧ ∃ p : Regrown, w'' = grow (redrawn w1 p.d) p.os) := hide (fun d os => Calls.regrown_of ((Count_any _ bt T (HT.out.kept ((below_regrown w1 d os).block _ HT.out.lt))).mono (fun _ _ ⟨a, b⟩ => ⟨a, by rw [b]; exact Below.refl _ _⟩)))
  have r1 := from_bits
  generalize T.av = A at *
  generalize T.n = N at *
  refine wp_region_quiet_below (by kernel_rfl) (by kernel_rfl) ?_
  repeat (go_big_quiet_step (first | (go_at_call 16; exact K1.out _ _) | (go_at_call 15; exact K2.out _ _)))
  refine wpQuiet_nil ?_
  intro _ hw'
  obtain ⟨⟨dq, osq⟩, hw''⟩ := hw'
  subst hw''
  go_wp2
  go_ret
  exact ⟨by simp, below_go HB.out (below_regrown _ _ _)⟩
end Go.Proofs.Ytfcakfedlcajaaa
