import Derived.Test.YtfcakfedlcajaaaProg
import Derived.Test.YtfcakfedlcajaaaTrA
import Derived.WalkKit
import Derived.WalkSpells
import Derived.WalkLawsBesides
import Derived.Laws.Externs
import Derived.Deep.OwnRows
import Derived.Maps.RangeWalk
import Derived.Deep.AppendLies
import Derived.Deep.RegionHeld3
import Derived.Deep.DrawnRows
import Derived.Deep.QuietTactic
import Derived.BigQuiet
import Derived.OwnWalk
import Derived.Laws.OwnMore
import Derived.Deep.CutRange
namespace Go.Proofs.Ytfcakfedlcajaaa
open Go.RowKit
open Fl

theorem hide {p : Prop} (h : p) : Hid p := h

/-- One block has turned. -/
structure Onl (b : Nat) (w w' : World) : Prop where
  os : w'.os = w.os
  tape : w'.tape = w.tape
  output : w'.output = w.output
  size : w'.heap.size = w.heap.size
  block : ∀ c, c ≠ b → w'.heap[c]? = w.heap[c]?
theorem Onl.refl (b : Nat) (w : World) : Onl b w w := ⟨rfl, rfl, rfl, rfl, fun _ _ => rfl⟩
theorem Onl.trans {b : Nat} {w w1 w2 : World} (h : Onl b w w1) (k : Onl b w1 w2) : Onl b w w2 :=
  ⟨k.os.trans h.os, k.tape.trans h.tape, k.output.trans h.output, k.size.trans h.size, fun c hc => (k.block c hc).trans (h.block c hc)⟩
theorem Onl.set {b : Nat} {w w1 : World} (h : Onl b w w1) (i : Nat) (v : Value) : Onl b w (w1.setCell ⟨b, i, none⟩ v) :=
  ⟨h.os, h.tape, h.output, by simpa [World.setCell] using h.size, fun c hc => by rw [Below.heap_setCell _ _ _ _ (by simpa using hc)]; exact h.block c hc⟩
theorem Onl.drew {b : Nat} {w w1 : World} (h : Onl b w w1) : Onl b w w1.drew := ⟨h.os, h.tape, h.output, h.size, h.block⟩
theorem Onl.below {b : Nat} {W w w' : World} (h : Onl b w w') (hb : Below W.heap.size W w) (hl : W.heap.size ≤ b) : Below W.heap.size W w' :=
  ⟨h.os.trans hb.os, h.tape.trans hb.tape, h.output.trans hb.output, by rw [h.size]; exact hb.size, fun c hc => (h.block c (by omega)).trans (hb.block c hc)⟩

theorem heap_set_same (w : World) (b i : Nat) (v : Value) (c : Array Value) (t : TypeId) (h : w.heap[b]? = some (.cells c t (0, 0))) : (w.setCell ⟨b, i, none⟩ v).heap[b]? = some (.cells (c.setIfInBounds i v) t (0, 0)) := heap_setCell_same _ _ _ _ _ _ h

/-- A trend, as data. -/
structure Td where
  wt : Nat
  av : Nat
  n : Nat
structure Td.Ok (T : Td) : Prop where
  w1 : Fnt T.wt
  w2 : 0 < rg T.wt
  w3 : Wf T.wt
  a1 : Fnt T.av
  a2 : Wf T.av
def tcells (T : Td) : Array Value := #[.float .f64 T.wt, .float .f64 T.av, .int .i64 (T.n : Int)]
/-- A trend in memory. -/
def Tk (w : World) (b : Nat) (T : Td) : Prop := w.heap[b]? = some (.cells (tcells T) 64 (0, 0))
theorem Tk.c0 {w : World} {b : Nat} {T : Td} (h : Tk w b T) : w.cell? ⟨b, 0, none⟩ = some (.float .f64 T.wt) := by simp [World.cell?, Tk] at h ⊢; rw [h]; rfl
theorem Tk.c1 {w : World} {b : Nat} {T : Td} (h : Tk w b T) : w.cell? ⟨b, 1, none⟩ = some (.float .f64 T.av) := by simp [World.cell?, Tk] at h ⊢; rw [h]; rfl
theorem Tk.c2 {w : World} {b : Nat} {T : Td} (h : Tk w b T) : w.cell? ⟨b, 2, none⟩ = some (.int .i64 (T.n : Int)) := by simp [World.cell?, Tk] at h ⊢; rw [h]; rfl
theorem Tk.kept {w w' : World} {b : Nat} {T : Td} (h : Tk w b T) (hb : w'.heap[b]? = w.heap[b]?) : Tk w' b T := Eq.trans hb h
theorem Tk.set {w : World} {b : Nat} {T : Td} (h : Tk w b T) (i : Nat) (v : Value) (Q : Td) (he : (tcells T).setIfInBounds i v = tcells Q) : Tk (w.setCell ⟨b, i, none⟩ v) b Q := by
  unfold Tk at h ⊢
  rw [heap_setCell_same _ _ _ _ _ _ h, he]
theorem Tk.thaw {w : World} {b : Nat} {T : Td} (h : Tk w b T) (j : Nat) : w.frozen? ⟨b, j, none⟩ = false := by
  unfold Tk at h; simp [World.frozen?, h]

set_option maxRecDepth 100000 in
theorem Average_any (w : World) (b : Nat) (T : Td) (h : Tk w b T) :
    Calls Try.prog 16 #[.pointer (some ⟨b, 0, none⟩)] w fun e w' => e = .returned (.float .f64 T.av) ∧ w' = w := by
  have c0 := h.c1
  go_enter Try.func16, Try.ntmps16
  go_wp2
  go_ret
  exact ⟨rfl, rfl⟩
set_option maxRecDepth 100000 in
theorem Count_any (w : World) (b : Nat) (T : Td) (h : Tk w b T) :
    Calls Try.prog 15 #[.pointer (some ⟨b, 0, none⟩)] w fun e w' => e = .returned (.int .i64 (T.n : Int)) ∧ w' = w := by
  have c0 := h.c2
  go_enter Try.func15, Try.ntmps15
  go_wp2
  go_ret
  exact ⟨rfl, rfl⟩
set_option maxRecDepth 100000 in
theorem num_any (w : World) (n : Int) :
    Calls Try.prog 14 #[.int .i64 n] w fun e w' => e = .returned (.int .i64 n) ∧ w' = w := by
  go_enter Try.func14, Try.ntmps14
  go_wp2
  go_ret
  exact ⟨rfl, rfl⟩

/-- The three steps. -/
def dN (a y : Nat) : Nat := (db.sub y a).getD 0
def mN (d k : Nat) : Nat := (db.mul d k).getD 0
def bN (a m : Nat) : Nat := (db.add a m).getD 0
def movedN (a y k : Nat) : Nat := held (bN a (mN (dN a y) k)) a y

theorem dN_ok {a y : Nat} (ha : Fnt a) (hy : Fnt y) : db.sub y a = some (dN a y) ∧ Nn (dN a y) ∧ Wf (dN a y) := by
  obtain ⟨r, e, h1, h2⟩ := sub_nn hy ha
  unfold dN; rw [e]; exact ⟨rfl, h1, h2⟩
theorem mN_ok {d k : Nat} (hd : Nn d) (hk : Fnt k) (h0 : 0 < rg k) : db.mul d k = some (mN d k) ∧ Nn (mN d k) ∧ Wf (mN d k) := by
  obtain ⟨r, e, h1, h2⟩ := mul_nn hd hk h0
  unfold mN; rw [e]; exact ⟨rfl, h1, h2⟩
theorem bN_ok {a m : Nat} (ha : Fnt a) (hm : Nn m) : db.add a m = some (bN a m) ∧ Nn (bN a m) ∧ Wf (bN a m) := by
  obtain ⟨r, e, h1, h2⟩ := add_nn ha hm
  unfold bN; rw [e]; exact ⟨rfl, h1, h2⟩

set_option maxRecDepth 100000 in
theorem moved_any (w : World) (a y k : Nat) (ha : Fnt a) (hy : Fnt y) (hk : Fnt k) (h0 : 0 < rg k) :
    Calls Try.prog 20 #[.float .f64 a, .float .f64 y, .float .f64 k] w fun e w' => e = .returned (.float .f64 (movedN a y k)) ∧ w' = w := by
  obtain ⟨d1, d2, -⟩ := dN_ok ha hy
  obtain ⟨m1, m2, -⟩ := mN_ok d2 hk h0
  obtain ⟨b1, b2, -⟩ := bN_ok ha m2
  have r1 : ∀ (t : TypeId) w, (binOp .sub t (.float .f64 y) (.float .f64 a)).run Try.prog w = .ok (.float .f64 (dN a y)) w := fun t w => run_float_arith w .sub t .f64 y a _ d1
  have r2 : ∀ (t : TypeId) w, (binOp .mul t (.float .f64 (dN a y)) (.float .f64 k)).run Try.prog w = .ok (.float .f64 (mN (dN a y) k)) w := fun t w => run_float_arith w .mul t .f64 _ _ _ m1
  have r3 : ∀ (t : TypeId) w, (binOp .add t (.float .f64 a) (.float .f64 (mN (dN a y) k))).run Try.prog w = .ok (.float .f64 (bN a (mN (dN a y) k))) w := fun t w => run_float_arith w .add t .f64 _ _ _ b1
  have q1 : ∀ ts (t : TypeId) w, (Builtin.min_ ts t #[.float .f64 a, .float .f64 y]).run Try.prog w = .ok (.float .f64 (fmin a y)) w := fun ts t w => run_min w ts t ha.nn hy.nn
  have q2 : ∀ ts (t : TypeId) w, (Builtin.max_ ts t #[.float .f64 a, .float .f64 y]).run Try.prog w = .ok (.float .f64 (fmax a y)) w := fun ts t w => run_max w ts t ha.nn hy.nn
  have q3 : ∀ ts (t : TypeId) w, (Builtin.max_ ts t #[.float .f64 (bN a (mN (dN a y) k)), .float .f64 (fmin a y)]).run Try.prog w = .ok (.float .f64 (fmax (bN a (mN (dN a y) k)) (fmin a y))) w := fun ts t w => run_max w ts t b2 (fmin_both ha.nn hy.nn)
  have q4 : ∀ ts (t : TypeId) w, (Builtin.min_ ts t #[.float .f64 (fmax (bN a (mN (dN a y) k)) (fmin a y)), .float .f64 (fmax a y)]).run Try.prog w = .ok (.float .f64 (held (bN a (mN (dN a y) k)) a y)) w := fun ts t w => run_min w ts t (fmax_both b2 (fmin_both ha.nn hy.nn)) (fmax_both ha.nn hy.nn)
  show Calls Try.prog 20 #[.float .f64 a, .float .f64 y, .float .f64 k] w fun e w' => e = .returned (.float .f64 (held (bN a (mN (dN a y) k)) a y)) ∧ w' = w
  generalize held (bN a (mN (dN a y) k)) a y = R at *
  generalize (fmax (bN a (mN (dN a y) k)) (fmin a y)) = R2 at *
  generalize fmin a y = R3 at *
  generalize fmax a y = R4 at *
  generalize bN a (mN (dN a y) k) = B at *
  generalize mN (dN a y) k = M at *
  generalize dN a y = D at *
  clear d1 d2 m1 m2 b1 b2 ha hy hk h0
  go_enter Try.func20, Try.ntmps20
  go_wp2
  go_ret
  exact ⟨rfl, rfl⟩

/-- What a note makes of a trend. -/
def Td.note (T : Td) (x : Int) : Td := ⟨T.wt, if T.n = 0 then floatOfInt .f64 x else movedN T.av (floatOfInt .f64 x) T.wt, T.n + 1⟩
theorem Td.Ok.note {T : Td} (h : T.Ok) {x : Int} (h1 : -9223372036854775808 ≤ x) (h2 : x ≤ 9223372036854775807) : (T.note x).Ok := by
  obtain ⟨f1, f2⟩ := ofInt_fin h1 (by omega : x ≤ 9223372036854775808)
  refine ⟨h.w1, h.w2, h.w3, ?_, ?_⟩
  · show Fnt (if T.n = 0 then _ else _)
    split
    · exact f1
    · exact held_fin h.a1 f1
  · show Wf (if T.n = 0 then _ else _)
    split
    · exact f2
    · exact held_wf (bN_ok h.a1 (mN_ok (dN_ok h.a1 f1).2.1 h.w1 h.w2).2.1).2.2 h.a2 f2

theorem store_float (w : World) (a : Addr) (n : Nat) (m : Mode) : (store a (.float .f64 n) m).run Try.prog w = stored Try.prog w a (.float .f64 n) m := run_store _ w a _ m rfl

set_option maxRecDepth 100000 in
theorem Note_any (w : World) (b : Nat) (T : Td) (x : Int) (h : Tk w b T) (ho : T.Ok) (h1 : -9223372036854775808 ≤ x) (h2 : x ≤ 9223372036854775807) (hn : T.n < 4611686018427387904) :
    Calls Try.prog 7 #[.pointer (some ⟨b, 0, none⟩), .int .i64 x] w fun e w' => e = .returned (.tuple #[]) ∧ Tk w' b (T.note x) ∧ Onl b w w' := by
  obtain ⟨f1, f2⟩ := ofInt_fin h1 (by omega : x ≤ 9223372036854775808)
  have sf := store_float
  have c0 := h.c0
  have c1 := h.c1
  have c2 := h.c2
  have t1 := h.thaw 1
  have t2 := h.thaw 2
  by_cases hz : T.n = 0
  · have e2 : Hid (T.note x = ⟨T.wt, floatOfInt .f64 x, 1⟩) := hide (by unfold Td.note; rw [if_pos hz, hz])
    have c2' : w.cell? ⟨b, 2, none⟩ = some (.int .i64 0) := by rw [c2, hz]; rfl
    have H := hide h
    have HZ := hide hz
    clear h ho c2 hz f1 f2
    go_enter Try.func7, Try.ntmps7
    go_wp2
    go_end0
    refine ⟨rfl, ?_, ((Onl.refl b w).set 1 _).set 2 _⟩
    rw [e2.out]
    exact (H.out.set 1 (.float .f64 (floatOfInt .f64 x)) ⟨T.wt, floatOfInt .f64 x, T.n⟩ rfl).set 2 (.int .i64 1) ⟨T.wt, floatOfInt .f64 x, 1⟩ rfl
  · have e2 : Hid (T.note x = ⟨T.wt, movedN T.av (floatOfInt .f64 x) T.wt, T.n + 1⟩) := hide (by unfold Td.note; rw [if_neg hz])
    have HM := hide (fun w => moved_any w T.av (floatOfInt .f64 x) T.wt ho.a1 f1 ho.w1 ho.w2)
    have H := hide h
    have hz' : ((T.n : Int) == 0) = false := by simp; omega
    generalize hN : T.n = N at *
    have HN := hide hN
    have t1' : w.drew.frozen? ⟨b, 1, none⟩ = false := t1
    have c1' : w.drew.cell? ⟨b, 1, none⟩ = some (.float .f64 T.av) := c1
    clear h ho f1 f2 hN
    go_enter Try.func7, Try.ntmps7
    go_wp2_with fail
    go_region_with (go_at_call 20; refine (HM.out _).mono ?_; rintro e w2 ⟨rfl, rfl⟩)
    all_goals (go_wp2; go_end0; refine ⟨rfl, ?_, (((Onl.refl b w).set 1 _).set 2 _).drew⟩; rw [e2.out]; exact (H.out.set 1 (.float .f64 (movedN T.av (floatOfInt .f64 x) T.wt)) ⟨T.wt, movedN T.av (floatOfInt .f64 x) T.wt, T.n⟩ rfl).set 2 _ ⟨T.wt, movedN T.av (floatOfInt .f64 x) T.wt, N + 1⟩ rfl)

/-- What a weight comes to. -/
def Wv (A B : Int) (raw : Bool) (z : Nat) (b : Nat) : Prop := Wf b ∧ if raw then b = z else (match db.div (floatOfInt .f64 A) (floatOfInt .f64 B) with | some r => b = r | none => ¬ Nn b)

theorem find_from : Extern.find Try.f29 = some Extern.MathFloatBits.float64frombits := by kernel_rfl
theorem from_bits (n : Nat) (w : World) : (callFunc 29 #[.int .u64 (n : Int)]).run Try.prog w = .ok (.value (.float .f64 n)) w := by
  rw [run_callFunc_extern Try.func29 (by kernel_rfl) (by kernel_rfl) (by kernel_rfl) find_from]
  rfl

theorem nan_cut (x y t : Nat) : ¬ Nn ((Question.nanBits .f64 x y).cut t) ∧ Wf ((Question.nanBits .f64 x y).cut t) := by
  have e : (Question.nanBits .f64 x y).cut t = (t % 2) * 2 ^ 63 + 0x7ff0000000000000 + 1 + (t / 2) % (2 ^ 52 - 1) := rfl
  rw [e]
  have h1 : t % 2 < 2 := Nat.mod_lt _ (by omega)
  have h2 : t / 2 % (2 ^ 52 - 1) < 2 ^ 52 - 1 := Nat.mod_lt _ (by omega)
  generalize t % 2 = p at h1 ⊢
  generalize t / 2 % (2 ^ 52 - 1) = q at h2 ⊢
  unfold Nn Wf rg
  rcases (show p = 0 ∨ p = 1 by omega) with rfl | rfl <;> constructor <;> omega

theorem run_quo_none (w : World) (t : TypeId) (x y : Nat) (h : db.div x y = none) : (binOp .quo t (.float .f64 x) (.float .f64 y)).run Try.prog w = .ok (.float .f64 ((Question.nanBits .f64 x y).cut (w.tape w.drawn (Question.nanBits .f64 x y)))) w.drew := by
  have h' : FloatKind.f64.format.div x y = none := h
  simp [binOp, Op.floatArith, h', Question.forced]

set_option maxRecDepth 100000 in
theorem value_any (w : World) (A B : Int) (raw : Bool) (z : Nat) (hz : Wf z) :
    Calls Try.prog 13 #[.agg #[.int .i64 A, .int .i64 B, .bool raw, .int .u64 (z : Int)]] w fun e w' => (∃ b, e = .returned (.float .f64 b) ∧ Wv A B raw z b) ∧ Below w.heap.size w w' ∧ w'.heap.size = w.heap.size + 1 := by
  cases raw
  · cases hd : db.div (floatOfInt .f64 A) (floatOfInt .f64 B) with
    | none =>
      have r1 : ∀ (t : TypeId) w, (binOp .quo t (.float .f64 (floatOfInt .f64 A)) (.float .f64 (floatOfInt .f64 B))).run Try.prog w = _ := fun t w => run_quo_none w t _ _ hd
      have HD := hide hd
      clear hd
      go_enter Try.func13, Try.ntmps13
      go_wp2
      go_ret
      have hd := HD.out
      refine ⟨⟨_, rfl, (nan_cut _ _ _).2, ?_⟩, ?_, ?_⟩
      · simp only [Bool.false_eq_true, if_false, hd]
        exact (nan_cut _ _ _).1
      · exact ((Below.refl _ _).alloc (Nat.le_refl _) _).drew
      · unfold World.alloc World.drew; exact Array.size_push _
    | some r =>
      have r1 : ∀ (t : TypeId) w, (binOp .quo t (.float .f64 (floatOfInt .f64 A)) (.float .f64 (floatOfInt .f64 B))).run Try.prog w = .ok (.float .f64 r) w := fun t w => run_float_arith w .quo t .f64 _ _ _ hd
      have HD := hide hd
      clear hd
      go_enter Try.func13, Try.ntmps13
      go_wp2
      go_ret
      have hd := HD.out
      refine ⟨⟨_, rfl, db.div_lt hd, ?_⟩, ?_, ?_⟩
      · simp only [Bool.false_eq_true, if_false, hd]
      · exact (Below.refl _ _).alloc (Nat.le_refl _) _
      · unfold World.alloc; exact Array.size_push _
  · have r1 := from_bits
    go_enter Try.func13, Try.ntmps13
    go_wp2
    go_ret
    refine ⟨⟨_, rfl, hz, ?_⟩, ?_, ?_⟩
    · simp only [if_true]
    · exact (Below.refl _ _).alloc (Nat.le_refl _) _
    · unfold World.alloc; exact Array.size_push _
end Go.Proofs.Ytfcakfedlcajaaa
namespace Go.Proofs.Ytfcakfedlcajaaa
open Go.RowKit
open Fl

theorem order_nan {x y : Nat} (h : ¬ Nn x) : db.order x y = none := by
  have e0 : ¬ x % 9223372036854775808 ≤ 9218868437227405312 := h
  have e : db.read x = .nan (ng x) (rg x - 9218868437227405312) := by
    show (if x % 9223372036854775808 < 4503599627370496 then _ else if x % 9223372036854775808 < 9218868437227405312 then _ else if x % 9223372036854775808 = 9218868437227405312 then _ else Ieee.Datum.nan (x / 9223372036854775808 % 2 == 1) (x % 9223372036854775808 - 9218868437227405312)) = _
    rw [if_neg (by omega), if_neg (by omega), if_neg (by omega)]; rfl
  unfold Ieee.Format.order
  rw [e]
  cases db.read y <;> rfl

def Fits (b : Nat) : Prop := Nn b ∧ 0 < key b ∧ key b ≤ 4607182418800017408
theorem Fits.ok {b : Nat} (h : Fits b) (hw : Wf b) : (Td.mk b 0 0).Ok := by
  obtain ⟨_, h2, h3⟩ := h
  have e : key b = if ng b then -(rg b : Int) else (rg b : Int) := rfl
  have : rg b ≤ 4607182418800017408 ∧ 0 < rg b := by
    cases hn : ng b <;> rw [hn] at e <;> simp at e <;> omega
  exact ⟨by show rg b < _; omega, this.2, hw, by show 0 % 9223372036854775808 < _; omega, by show 0 < _; omega⟩
theorem key0 : key 0 = 0 := by rfl
theorem key1 : key 4607182418800017408 = 4607182418800017408 := by rfl
theorem nn0 : Nn 0 := by unfold Nn rg; omega
theorem nn1 : Nn 4607182418800017408 := by unfold Nn rg; omega

/-- What the comparisons say. -/
theorem lt_iff {x y : Nat} (hx : Nn x) (hy : Nn y) : (FloatKind.f64.format.order x y == some .lt) = decide (key x < key y) := by
  have := order_nn hx hy
  rw [this]
  rcases cmp_cases (key x) (key y) with ⟨h, e⟩ | ⟨h, e⟩ | ⟨h, e⟩ <;> rw [e]
  · rw [decide_eq_true h]; rfl
  · rw [decide_eq_false (by omega)]; rfl
  · rw [decide_eq_false (by omega)]; rfl
theorem gt_iff {x y : Nat} (hx : Nn x) (hy : Nn y) : (FloatKind.f64.format.order x y == some .gt) = decide (key y < key x) := by
  have := order_nn hx hy
  rw [this]
  rcases cmp_cases (key x) (key y) with ⟨h, e⟩ | ⟨h, e⟩ | ⟨h, e⟩ <;> rw [e]
  · rw [decide_eq_false (by omega)]; rfl
  · rw [decide_eq_false (by omega)]; rfl
  · rw [decide_eq_true h]; rfl
theorem eq_iff {x y : Nat} (hx : Nn x) (hy : Nn y) : (FloatKind.f64.format.order x y == some .eq) = decide (key x = key y) := by
  have := order_nn hx hy
  rw [this]
  rcases cmp_cases (key x) (key y) with ⟨h, e⟩ | ⟨h, e⟩ | ⟨h, e⟩ <;> rw [e]
  · rw [decide_eq_false (by omega)]; rfl
  · rw [decide_eq_true h]; rfl
  · rw [decide_eq_false (by omega)]; rfl
theorem ne_iff {x y : Nat} (hx : Nn x) (hy : Nn y) : (FloatKind.f64.format.order x y != some .eq) = !decide (key x = key y) := by
  rw [← eq_iff hx hy]; rfl
theorem le_iff {x y : Nat} (hx : Nn x) (hy : Nn y) : (FloatKind.f64.format.order x y == some .lt || FloatKind.f64.format.order x y == some .eq) = decide (key x ≤ key y) := by
  rw [lt_iff hx hy, eq_iff hx hy, ← Bool.decide_or]; congr 1; simp; omega
theorem ge_iff {x y : Nat} (hx : Nn x) (hy : Nn y) : (FloatKind.f64.format.order x y == some .gt || FloatKind.f64.format.order x y == some .eq) = decide (key y ≤ key x) := by
  rw [gt_iff hx hy, eq_iff hx hy, ← Bool.decide_or]; congr 1; simp; omega

def NewPost (w : World) (b : Nat) (e : Ending) (w' : World) : Prop :=
    (Fits b ∧ e = .returned (.tuple #[.pointer (some ⟨w.heap.size, 0, none⟩), .int .i64 0]) ∧ Tk w' w.heap.size ⟨b, 0, 0⟩ ∧ Below w.heap.size w w' ∧ w'.heap.size = w.heap.size + 1) ∨ (¬ Fits b ∧ e = .returned (.tuple #[.pointer none, .int .i64 180]) ∧ w' = w)
set_option maxRecDepth 100000 in
theorem New_any (w : World) (b : Nat) : Calls Try.prog 12 #[.float .f64 b] w (NewPost w b) := by
  have hc : (Fits b ∧ (FloatKind.f64.format.order b 0 == some .gt) = true ∧ (FloatKind.f64.format.order b 4607182418800017408 == some .lt || FloatKind.f64.format.order b 4607182418800017408 == some .eq) = true) ∨ (¬ Fits b ∧ (FloatKind.f64.format.order b 0 == some .gt) = false) ∨ (¬ Fits b ∧ (FloatKind.f64.format.order b 0 == some .gt) = true ∧ (FloatKind.f64.format.order b 4607182418800017408 == some .lt || FloatKind.f64.format.order b 4607182418800017408 == some .eq) = false) := by
    by_cases hn : Nn b
    · rw [gt_iff hn nn0, le_iff hn nn1, key0, key1]
      by_cases h1 : 0 < key b
      · by_cases h2 : key b ≤ 4607182418800017408
        · exact Or.inl ⟨⟨hn, h1, h2⟩, decide_eq_true h1, decide_eq_true h2⟩
        · exact Or.inr (Or.inr ⟨fun h => h2 h.2.2, decide_eq_true h1, decide_eq_false h2⟩)
      · exact Or.inr (Or.inl ⟨fun h => h1 h.2.1, decide_eq_false h1⟩)
    · refine Or.inr (Or.inl ⟨fun h => hn h.1, ?_⟩)
      have := order_nan (y := 0) hn
      rw [this]; rfl
  rcases hc with ⟨hf, h1, h2⟩ | ⟨hf, h1⟩ | ⟨hf, h1, h2⟩
  · have HF := hide hf
    clear hf
    go_enter Try.func12, Try.ntmps12
    go_wp2
    go_ret2
    exact Or.inl ⟨HF.out, rfl, heap_alloc_new _ _, (Below.refl _ _).alloc (Nat.le_refl _) _, by unfold World.alloc; exact Array.size_push _⟩
  · have HF := hide hf
    clear hf
    go_enter Try.func12, Try.ntmps12
    go_wp2
    go_ret2
    exact Or.inr ⟨HF.out, rfl, rfl⟩
  · have HF := hide hf
    clear hf
    go_enter Try.func12, Try.ntmps12
    go_wp2
    go_ret2
    exact Or.inr ⟨HF.out, rfl, rfl⟩

/-- Numbers that came in. -/
structure Nums (w : World) (sp : Option Addr) (xs : List Int) : Prop where
  rng : ∀ z ∈ xs, -9223372036854775808 ≤ z ∧ z ≤ 9223372036854775807
  lie : xs = [] ∨ ∃ g o, sp = some ⟨g, o, none⟩ ∧ g < w.heap.size ∧ ∀ j z, xs[j]? = some z → w.cell? ⟨g, o + j, none⟩ = some (.int .i64 z)
theorem Nums.cell {w wr : World} {sp : Option Addr} {xs : List Int} (h : Nums w sp xs) (hb : Below w.heap.size w wr) {k : Nat} {z : Int} (hz : xs[k]? = some z) : ∃ g o, sp = some ⟨g, o, none⟩ ∧ wr.cell? ⟨g, o + k, none⟩ = some (.int .i64 z) := by
  rcases h.lie with e | ⟨g, o, e, hg, hc⟩
  · rw [e] at hz; cases hz
  · exact ⟨g, o, e, (hb.cell (p := ⟨g, o + k, none⟩) hg).trans (hc k z hz)⟩
theorem Nums.fin {w : World} {sp : Option Addr} {xs : List Int} (h : Nums w sp xs) {k : Nat} {z : Int} (hz : xs[k]? = some z) : Fnt (floatOfInt .f64 z) ∧ Wf (floatOfInt .f64 z) := by
  have := h.rng z (List.mem_of_getElem? hz)
  exact ofInt_fin this.1 (by omega)

/-- a lies among the floats of the first n numbers. -/
def Among (xs : List Int) (n : Nat) (a : Nat) : Prop := (∃ i z, i < n ∧ xs[i]? = some z ∧ key (floatOfInt .f64 z) ≤ key a) ∧ ∃ i z, i < n ∧ xs[i]? = some z ∧ key a ≤ key (floatOfInt .f64 z)

structure Hl (xs : List Int) (i lo hi : Nat) : Prop where
  flo : Fnt lo
  fhi : Fnt hi
  llo : ∀ j z, j < i → xs[j]? = some z → key lo ≤ key (floatOfInt .f64 z)
  lhi : ∀ j z, j < i → xs[j]? = some z → key (floatOfInt .f64 z) ≤ key hi

set_option maxRecDepth 100000 in
set_option maxHeartbeats 1000000 in
theorem hull_any (w0 w : World) (sp : Option Addr) (n c a : Nat) (xs : List Int) (hx : Nums w0 sp xs) (hb : Below w0.heap.size w0 w) (h0 : 0 < n) (hn : n ≤ xs.length) (hm : n ≤ 140737488355328) (hA : Among xs n a) (ha : Fnt a) :
    Calls Try.prog 17 #[.slice sp n c, .float .f64 a] w fun e w' => e = .returned (.bool true) ∧ w' = w := by
  obtain ⟨z0, hz0⟩ : ∃ z, xs[0]? = some z := ⟨_, List.getElem?_eq_getElem (by omega)⟩
  obtain ⟨g, o, rfl, hc0⟩ := hx.cell hb hz0
  have f0 := (hx.fin hz0).1
  have HS : Hid (Hl xs 0 (floatOfInt .f64 z0) (floatOfInt .f64 z0)) := hide ⟨f0, f0, fun _ _ h => absurd h (by omega), fun _ _ h => absurd h (by omega)⟩
  have HX := hide hx
  have HB := hide hb
  have HA := hide hA
  have n1 : (0 : Int) < (n : Int) := by omega
  rw [Nat.add_zero] at hc0
  clear hx hb hA hz0 f0
  go_enter Try.func17, Try.ntmps17
  go_wp2
  go_loop [5, 6, 7] (fun lv hv iv => ∃ (i lo hi : Nat), lv = .float .f64 lo ∧ hv = .float .f64 hi ∧ iv = .int .i64 (i : Int) ∧ i ≤ n ∧ Hid (Hl xs i lo hi)) (fun _ _ i => n - (intOf i).toNat)
  case atStart => exact ⟨0, _, _, rfl, rfl, rfl, by omega, HS⟩
  case round =>
    obtain ⟨i, lo, hi, rfl, rfl, rfl, hi1, HL⟩ := hrel
    by_cases hlt : i < n
    · obtain ⟨z, hz⟩ : ∃ z, xs[i]? = some z := ⟨_, List.getElem?_eq_getElem (by omega)⟩
      have hcc := HX.out.cell HB.out hz
      obtain ⟨g', o', he, hc⟩ := hcc
      obtain ⟨rfl, rfl⟩ : g = g' ∧ o = o' := by simpa using he
      clear he
      have fz := (HX.out.fin hz).1
      have i1 : (0 : Int) ≤ (i : Int) := by omega
      have i2 : (i : Int) < (n : Int) := by omega
      have L := HL.out
      have HN : Hid (Hl xs (i + 1) (if key (floatOfInt .f64 z) < key lo then floatOfInt .f64 z else lo) (if key hi < key (floatOfInt .f64 z) then floatOfInt .f64 z else hi)) := by
        refine hide ⟨by split; exact fz; exact L.flo, by split; exact fz; exact L.fhi, fun j x hj hx => ?_, fun j x hj hx => ?_⟩
        · by_cases e : j = i
          · subst e; rw [hz] at hx; cases hx; split <;> omega
          · have := L.llo j x (by omega) hx; split <;> omega
        · by_cases e : j = i
          · subst e; rw [hz] at hx; cases hx; split <;> omega
          · have := L.lhi j x (by omega) hx; split <;> omega
      have q1 := lt_iff fz.nn L.flo.nn
      have q2 := gt_iff fz.nn L.fhi.nn
      clear L fz hz hc0
      by_cases k1 : key (floatOfInt .f64 z) < key lo
      · rw [decide_eq_true k1] at q1
        by_cases k2 : key hi < key (floatOfInt .f64 z)
        · rw [decide_eq_true k2] at q2
          have HN' : Hid (Hl xs (i + 1) (floatOfInt .f64 z) (floatOfInt .f64 z)) := by have := HN.out; rw [if_pos k1, if_pos k2] at this; exact this
          clear k1 k2 HN
          go_wp2
          go_round
          case rel => exact ⟨i + 1, _, _, rfl, rfl, by go_num, by omega, HN'⟩
          case measure => simp [intOf]; omega
        · rw [decide_eq_false k2] at q2
          have HN' : Hid (Hl xs (i + 1) (floatOfInt .f64 z) hi) := by have := HN.out; rw [if_pos k1, if_neg k2] at this; exact this
          clear k1 k2 HN
          go_wp2
          go_round
          case rel => exact ⟨i + 1, _, _, rfl, rfl, by go_num, by omega, HN'⟩
          case measure => simp [intOf]; omega
      · rw [decide_eq_false k1] at q1
        by_cases k2 : key hi < key (floatOfInt .f64 z)
        · rw [decide_eq_true k2] at q2
          have HN' : Hid (Hl xs (i + 1) lo (floatOfInt .f64 z)) := by have := HN.out; rw [if_neg k1, if_pos k2] at this; exact this
          clear k1 k2 HN
          go_wp2
          go_round
          case rel => exact ⟨i + 1, _, _, rfl, rfl, by go_num, by omega, HN'⟩
          case measure => simp [intOf]; omega
        · rw [decide_eq_false k2] at q2
          have HN' : Hid (Hl xs (i + 1) lo hi) := by have := HN.out; rw [if_neg k1, if_neg k2] at this; exact this
          clear k1 k2 HN
          go_wp2
          go_round
          case rel => exact ⟨i + 1, _, _, rfl, rfl, by go_num, by omega, HN'⟩
          case measure => simp [intOf]; omega
    · obtain rfl : i = n := by omega
      have L := HL.out
      obtain ⟨⟨i1, z1, j1, x1, y1⟩, ⟨i2, z2, j2, x2, y2⟩⟩ := HA.out
      have k1 : key lo ≤ key a := Int.le_trans (L.llo _ _ j1 x1) y1
      have k2 : key a ≤ key hi := Int.le_trans y2 (L.lhi _ _ j2 x2)
      have q1 := le_iff L.flo.nn ha.nn
      have q2 := le_iff ha.nn L.fhi.nn
      rw [decide_eq_true k1] at q1
      rw [decide_eq_true k2] at q2
      clear L x1 x2 y1 y2 k1 k2 hc0
      go_wp2
      go_ret
      exact ⟨rfl, rfl⟩
end Go.Proofs.Ytfcakfedlcajaaa
