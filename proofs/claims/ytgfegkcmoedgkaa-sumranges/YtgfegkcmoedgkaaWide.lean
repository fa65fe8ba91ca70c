import Derived.Test.YtgfegkcmoedgkaaBits
import Derived.WalkKit
import Derived.Below
import Derived.BigQuiet
import Derived.Lib.QuietBelow
namespace Go.Proofs.Ytgfegkcmoedgkaa
open Go.RowKit
open Go.Sort (grow)

theorem below_up {B : Nat} {a b c : World} (h : Below B a b) (hB : B ≤ b.heap.size) (h2 : Below b.heap.size b c) : Below B a c := h.trans (h2.mono hB)
theorem below_al (w : World) (o : Obj) : Below w.heap.size w (w.alloc o) := (Below.refl _ _).alloc (Nat.le_refl _) o
theorem below_al2 (w : World) (o p : Obj) : Below w.heap.size w ((w.alloc o).alloc p) := (below_al w o).alloc (by simp) p
theorem below_al3 (w : World) (o p q : Obj) : Below w.heap.size w (((w.alloc o).alloc p).alloc q) := (below_al2 w o p).alloc (by simp; omega) q

/-- A number of 128 bits. -/
def wd (x : Int) : Value := .agg #[.int .u64 (hiw x), .int .u64 (low x)]

theorem widen_hi {a : Int} (ha : I64 a) : IntKind.u64.wrap (a / 9223372036854775808) = hiw a := by
  obtain ⟨h1, h2⟩ := ha
  rw [IntKind.wrap_u64]; unfold hiw; omega
theorem widen_lo (a : Int) : IntKind.u64.wrap a = low a := by
  rw [IntKind.wrap_u64]; unfold low; omega
theorem sgn_wrap (a : Int) : IntKind.i64.wrap a = sgn a := by
  rw [IntKind.wrap_i64]; unfold sgn; omega

theorem widen_any (a : Int) (ha : I64 a) (w : World) :
    Calls Try.prog 30 #[.int .i64 a] w fun e w' => e = .returned (wd a) ∧ Below w.heap.size w w' := by
  have e1 := widen_hi ha
  have e2 := widen_lo a
  go_enter Try.func30, Try.ntmps30
  go_wp2
  simp [bodyPost, results, Try.results30, go_sem]
  exact ⟨rfl, below_al _ _⟩
theorem plus_any (x y : Int) (w : World) :
    Calls Try.prog 31 #[wd x, wd y] w fun e w' => e = .returned (wd (x + y)) ∧ Below w.heap.size w w' := by
  obtain ⟨a1, a2⟩ := hiw_word x; obtain ⟨b1, b2⟩ := low_word x; obtain ⟨c1, c2⟩ := hiw_word y; obtain ⟨d1, d2⟩ := low_word y
  have e1 := low_add x y
  have e2 := hiw_add x y
  unfold wd
  generalize hiw x = xh at *
  generalize low x = xl at *
  generalize hiw y = yh at *
  generalize low y = yl at *
  have k0 : 0 ≤ (xl + yl) / 18446744073709551616 := by omega
  have k1 : (xl + yl) / 18446744073709551616 ≤ 1 := by omega
  go_enter Try.func31, Try.ntmps31
  go_wp2_with (first | simp only [add64_0 xl yl b1 d1] | simp only [add64 xh yh _ a1 c1 k0 k1])
  simp [bodyPost, results, Try.results31, go_sem]
  exact below_al3 _ _ _ _
theorem minus_any (x y : Int) (w : World) :
    Calls Try.prog 33 #[wd x, wd y] w fun e w' => e = .returned (wd (x - y)) ∧ Below w.heap.size w w' := by
  obtain ⟨a1, a2⟩ := hiw_word x; obtain ⟨b1, b2⟩ := low_word x; obtain ⟨c1, c2⟩ := hiw_word y; obtain ⟨d1, d2⟩ := low_word y
  have e1 := low_sub x y
  have e2 := hiw_sub x y
  have k0 := bor_0 (low x) (low y)
  have k1 := bor_1 (low x) (low y)
  unfold wd
  generalize hiw x = xh at *
  generalize low x = xl at *
  generalize hiw y = yh at *
  generalize low y = yl at *
  go_enter Try.func33, Try.ntmps33
  go_wp2_with (first | simp only [sub64_0 xl yl b1 d1 d2] | simp only [sub64 xh yh _ a1 c1 c2 k0 k1])
  simp [bodyPost, results, Try.results33, go_sem]
  exact below_al3 _ _ _ _
theorem hide {p : Prop} (h : p) : Hid p := h
theorem hid_up {B : Nat} {a b c : World} (h : Hid (B ≤ a.heap.size ∧ Below B a b)) (h2 : Below b.heap.size b c) : Hid (B ≤ a.heap.size ∧ Below B a c) := ⟨h.out.1, below_up h.out.2 (Nat.le_trans h.out.1 h.out.2.size) h2⟩
theorem hid_0 (w : World) : Hid (w.heap.size ≤ w.heap.size ∧ Below w.heap.size w w) := ⟨Nat.le_refl _, Below.refl _ _⟩
theorem hid_al {B : Nat} {a b : World} (h : Hid (B ≤ a.heap.size ∧ Below B a b)) (o : Obj) : Hid (B ≤ a.heap.size ∧ Below B a (b.alloc o)) := hid_up h (below_al _ _)

theorem low_sgn (x : Int) : low (sgn (low x)) = low x := by unfold low sgn; omega
theorem narrow_any (x : Int) (hx : I128 x) (w : World) :
    Calls Try.prog 32 #[wd x] w fun e w' => e = .returned (.tuple #[.int .i64 (fitv x), .bool (fits x)]) ∧ Below w.heap.size w w' := by
  have HW : Hid (∀ w, Calls Try.prog 30 #[.int .i64 (sgn (low x))] w fun e w' => e = .returned (wd (sgn (low x))) ∧ Below w.heap.size w w') := fun w => widen_any _ (sgn_i64 _) w
  have e0 := sgn_wrap (low x)
  have HN := hide (narrow_iff hx)
  have HL := hide (low_sgn x)
  have hF : Hid (fits x = false → fitv x = 0) := fun h => fitv_not h
  have hT : Hid (fits x = true → sgn (low x) = x ∧ fitv x = x) := fun h => ⟨narrow_yes ((fits_iff x).1 h), fitv_fits h⟩
  have HK : Hid (fits x = true ↔ (hiw (sgn (low x)) = hiw x)) := ⟨fun h => by rw [(hT.out h).1], fun h => (fits_iff x).2 (HN.out.1 ⟨h, HL.out⟩)⟩
  unfold wd at *
  rw [HL.out] at HW
  generalize sgn (low x) = s at *
  generalize hiw s = hs at *
  generalize hiw x = hh at *
  generalize low x = l at *
  have hC : ∃ r ok, Hid (r = fitv x ∧ ok = fits x) ∧ ((r = s ∧ ok = true ∧ hs = hh) ∨ (r = 0 ∧ ok = false ∧ (hs == hh) = false)) := by
    by_cases hf : fits x = true
    · exact ⟨_, _, ⟨rfl, rfl⟩, Or.inl ⟨by rw [(hT.out hf).2, (hT.out hf).1], hf, HK.out.1 hf⟩⟩
    · have hf' : fits x = false := by simpa using hf
      exact ⟨_, _, ⟨rfl, rfl⟩, Or.inr ⟨hF.out hf', hf', by simpa using fun h => hf (HK.out.2 h)⟩⟩
  obtain ⟨r, ok, hE, hC⟩ := hC
  rw [← hE.out.1, ← hE.out.2]
  clear hE hF hT HK HN HL hx
  have hB := hid_al (hid_0 w) (Obj.cells #[Value.int IntKind.u64 hh, Value.int IntKind.u64 l] 60)
  have k0 : (w.alloc (Obj.cells #[Value.int IntKind.u64 hh, Value.int IntKind.u64 l] 60)).cell? ⟨w.heap.size, 0, none⟩ = some (.int .u64 hh) := by simp [go_sem]
  have k1 : (w.alloc (Obj.cells #[Value.int IntKind.u64 hh, Value.int IntKind.u64 l] 60)).cell? ⟨w.heap.size, 1, none⟩ = some (.int .u64 l) := by simp [go_sem]
  rcases hC with ⟨rfl, rfl, rfl⟩ | ⟨rfl, rfl, f3⟩
  · go_enter Try.func32, Try.ntmps32
    go_wp2
    generalize w.alloc (Obj.cells #[Value.int IntKind.u64 hs, Value.int IntKind.u64 l] 60) = w1 at *
    have q0 := cell_regrown k0
    have q1 := cell_regrown k1
    have HW2 : Hid (∀ d os, Calls Try.prog 30 #[.int .i64 r] (grow (redrawn w1 d) os) fun e w'' => e = .returned (.agg #[.int .u64 hs, .int .u64 l]) ∧ ∃ p : Regrown, w'' = grow (redrawn w1 p.d) p.os) := fun d os => Calls.regrown_of (HW.out _)
    refine wp_region_quiet_below (by kernel_rfl) (by kernel_rfl) ?_
    repeat (go_big_quiet_step (first | (go_at_call 30; exact HW2.out _ _)))
    refine wpQuiet_nil ?_
    intro _ hw'
    obtain ⟨⟨dq, osq⟩, hw''⟩ := hw'
    subst hw''
    replace hB := hid_up hB (below_regrown w1 dq osq)
    generalize grow (redrawn w1 dq) osq = w2 at *
    go_wp2
    go_ret2
    exact ⟨rfl, hB.out.2⟩
  · go_enter Try.func32, Try.ntmps32
    go_wp2
    generalize w.alloc (Obj.cells #[Value.int IntKind.u64 hh, Value.int IntKind.u64 l] 60) = w1 at *
    have q0 := cell_regrown k0
    have q1 := cell_regrown k1
    have HW2 : Hid (∀ d os, Calls Try.prog 30 #[.int .i64 s] (grow (redrawn w1 d) os) fun e w'' => e = .returned (.agg #[.int .u64 hs, .int .u64 l]) ∧ ∃ p : Regrown, w'' = grow (redrawn w1 p.d) p.os) := fun d os => Calls.regrown_of (HW.out _)
    refine wp_region_quiet_below (by kernel_rfl) (by kernel_rfl) ?_
    repeat (go_big_quiet_step (first | (go_at_call 30; exact HW2.out _ _)))
    refine wpQuiet_nil ?_
    intro _ hw'
    obtain ⟨⟨dq, osq⟩, hw''⟩ := hw'
    subst hw''
    replace hB := hid_up hB (below_regrown w1 dq osq)
    generalize grow (redrawn w1 dq) osq = w2 at *
    go_wp2
    go_ret2
    exact ⟨rfl, hB.out.2⟩
theorem add_any (a b : Int) (ha : I64 a) (hb : I64 b) (w : World) :
    Calls Try.prog 9 #[.int .i64 a, .int .i64 b] w fun e w' => e = .returned (.tuple #[.int .i64 (fitv (a + b)), .bool (fits (a + b))]) ∧ Below w.heap.size w w' := by
  have hB := hid_0 w
  have hI := hide (i128_add ha hb)
  have HW := hide widen_any
  go_enter Try.func9, Try.ntmps9
  go_wp2_with (first
    | (go_at_call 30; refine (HW.out _ (by assumption) _).mono ?_; rintro e w1 ⟨rfl, g⟩; replace hB := hid_up hB g; clear g)
    | (go_at_call 31; refine (plus_any a b _).mono ?_; rintro e w1 ⟨rfl, g⟩; replace hB := hid_up hB g)
    | (go_at_call 32; refine (narrow_any (a + b) hI.out _).mono ?_; rintro e w1 ⟨rfl, g⟩; replace hB := hid_up hB g))
  go_ret2
  exact ⟨rfl, hB.out.2⟩
theorem sub_any (a b : Int) (ha : I64 a) (hb : I64 b) (w : World) :
    Calls Try.prog 11 #[.int .i64 a, .int .i64 b] w fun e w' => e = .returned (.tuple #[.int .i64 (fitv (a - b)), .bool (fits (a - b))]) ∧ Below w.heap.size w w' := by
  have hB := hid_0 w
  have hI := hide (i128_sub ha hb)
  have HW := hide widen_any
  go_enter Try.func11, Try.ntmps11
  go_wp2_with (first
    | (go_at_call 30; refine (HW.out _ (by assumption) _).mono ?_; rintro e w1 ⟨rfl, g⟩; replace hB := hid_up hB g; clear g)
    | (go_at_call 33; refine (minus_any a b _).mono ?_; rintro e w1 ⟨rfl, g⟩; replace hB := hid_up hB g)
    | (go_at_call 32; refine (narrow_any (a - b) hI.out _).mono ?_; rintro e w1 ⟨rfl, g⟩; replace hB := hid_up hB g))
  go_ret2
  exact ⟨rfl, hB.out.2⟩
theorem i64_0 : I64 0 := by unfold I64; omega
theorem neg_any (a : Int) (ha : I64 a) (w : World) :
    Calls Try.prog 14 #[.int .i64 a] w fun e w' => e = .returned (.tuple #[.int .i64 (fitv (-a)), .bool (fits (-a))]) ∧ Below w.heap.size w w' := by
  have HS := hide (fun w => sub_any 0 a i64_0 ha w)
  rw [Int.zero_sub] at HS
  have hB := hid_0 w
  go_enter Try.func14, Try.ntmps14
  go_wp2_with (first
    | (go_at_call 11; refine (HS.out _).mono ?_; rintro e w1 ⟨rfl, g⟩; replace hB := hid_up hB g))
  go_ret2
  exact ⟨rfl, hB.out.2⟩
theorem amount_any (a : Int) (ha : I64 a) (w : World) :
    Calls Try.prog 22 #[.int .i64 a] w fun e w' => e = .returned (.int .u64 (amt a)) ∧ w' = w := by
  by_cases h : a < 0
  · have h' : decide (a < 0) = true := by simpa using h
    have e1 : IntKind.u64.wrap a = a + 18446744073709551616 := by rw [IntKind.wrap_u64]; have := ha.1; have := ha.2; omega
    have e2 : IntKind.u64.wrap (-(a + 18446744073709551616)) = amt a := by rw [IntKind.wrap_u64]; unfold amt; rw [if_pos h]; have := ha.1; have := ha.2; omega
    go_enter Try.func22, Try.ntmps22
    go_wp2
    go_ret
    exact ⟨rfl, rfl⟩
  · have h' : decide (a < 0) = false := by simpa using h
    have e1 : IntKind.u64.wrap a = amt a := by rw [IntKind.wrap_u64]; unfold amt; rw [if_neg h]; have := ha.1; have := ha.2; omega
    clear h
    go_enter Try.func22, Try.ntmps22
    go_wp2
    go_ret
    exact ⟨rfl, rfl⟩
end Go.Proofs.Ytgfegkcmoedgkaa
