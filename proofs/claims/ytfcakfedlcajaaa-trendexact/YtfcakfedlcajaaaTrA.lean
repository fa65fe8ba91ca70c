import Derived.Laws.FloatArith
import Derived.Laws.Small
namespace Go.Proofs.Ytfcakfedlcajaaa
namespace Fl

abbrev db : Ieee.Format := FloatKind.f64.format

/-- A word's sign, its rung, its place among all words. -/
def ng (x : Nat) : Bool := x / 9223372036854775808 % 2 == 1
def rg (x : Nat) : Nat := x % 9223372036854775808
def key (x : Nat) : Int := if ng x then -(rg x : Int) else (rg x : Int)
def wd (s : Bool) (r : Nat) : Nat := if s then 9223372036854775808 + r else r
/-- What a rung is worth, in least units. -/
def V (r : Nat) : Nat := if r < 4503599627370496 then r else (4503599627370496 + r % 4503599627370496) * 2 ^ (r / 4503599627370496 - 1)

def Nn (x : Nat) : Prop := rg x ≤ 9218868437227405312
def Fnt (x : Nat) : Prop := rg x < 9218868437227405312

theorem Fnt.nn {x : Nat} (h : Fnt x) : Nn x := Nat.le_of_lt h

theorem ng_wd (s : Bool) {r : Nat} (h : r < 9223372036854775808) : ng (wd s r) = s := by
  cases s
  · have : ¬ (r / 9223372036854775808 % 2 = 1) := by omega
    simp [ng, wd, this]
  · have : (9223372036854775808 + r) / 9223372036854775808 % 2 = 1 := by omega
    show ((9223372036854775808 + r) / 9223372036854775808 % 2 == 1) = true
    rw [this]; rfl

theorem rg_wd (s : Bool) {r : Nat} (h : r < 9223372036854775808) : rg (wd s r) = r := by
  cases s <;> simp only [rg, wd] <;> simp <;> omega

theorem key_wd (s : Bool) {r : Nat} (h : r < 9223372036854775808) : key (wd s r) = if s then -(r : Int) else (r : Int) := by
  unfold key; rw [ng_wd s h, rg_wd s h]

theorem wd_of {x : Nat} (h : x < 18446744073709551616) : x = wd (ng x) (rg x) := by
  unfold wd ng rg
  by_cases hc : x / 9223372036854775808 % 2 = 1
  · simp [hc]; omega
  · simp [hc]; omega

theorem word_wd (s : Bool) (r : Nat) : db.word s r = wd s r := by cases s <;> rfl

theorem V_step (r : Nat) : V r < V (r + 1) := by
  unfold V
  by_cases h1 : r + 1 < 4503599627370496
  · rw [if_pos (by omega), if_pos h1]; omega
  · by_cases h2 : r < 4503599627370496
    · have : r + 1 = 4503599627370496 := by omega
      rw [if_pos h2, if_neg h1, this]; simp; omega
    · rw [if_neg h2, if_neg h1]
      by_cases h3 : r % 4503599627370496 + 1 < 4503599627370496
      · have e1 : (r + 1) / 4503599627370496 = r / 4503599627370496 := by omega
        have e2 : (r + 1) % 4503599627370496 = r % 4503599627370496 + 1 := by omega
        rw [e1, e2]
        exact Nat.mul_lt_mul_of_pos_right (by omega) (Nat.two_pow_pos _)
      · have e1 : (r + 1) / 4503599627370496 - 1 = (r / 4503599627370496 - 1) + 1 := by omega
        have e2 : (r + 1) % 4503599627370496 = 0 := by omega
        rw [e1, e2, Nat.pow_succ]
        have hp : 0 < 2 ^ (r / 4503599627370496 - 1) := Nat.two_pow_pos _
        generalize 2 ^ (r / 4503599627370496 - 1) = P at hp ⊢
        have : (4503599627370496 + r % 4503599627370496) * P < 9007199254740992 * P := Nat.mul_lt_mul_of_pos_right (by omega) hp
        have e3 : (4503599627370496 + 0) * (P * 2) = 9007199254740992 * P := by
          rw [Nat.add_zero, Nat.mul_comm P 2, ← Nat.mul_assoc]
        omega

theorem V_lt {r s : Nat} (h : r < s) : V r < V s := by
  induction s with
  | zero => omega
  | succ s ih =>
    by_cases e : r = s
    · subst e; exact V_step r
    · exact Nat.lt_trans (ih (by omega)) (V_step s)

theorem V_zero : V 0 = 0 := by simp [V]

theorem V_le {r s : Nat} (h : r ≤ s) : V r ≤ V s := by
  by_cases e : r = s
  · subst e; exact Nat.le_refl _
  · exact Nat.le_of_lt (V_lt (by omega))

theorem V_pos {r : Nat} (h : 0 < r) : 0 < V r := by have := V_lt h; rw [V_zero] at this; exact this

theorem V_inj {r s : Nat} (h : V r = V s) : r = s := by
  by_cases h1 : r < s
  · have := V_lt h1; omega
  · by_cases h2 : s < r
    · have := V_lt h2; omega
    · omega

theorem read_fin {x : Nat} (h : Fnt x) : ∃ m p : Nat, db.read x = .number (ng x) m (-1074 + (p : Int)) ∧ m * 2 ^ p = V (rg x) := by
  by_cases h1 : rg x < 4503599627370496
  · refine ⟨rg x, 0, ?_, ?_⟩
    · have e : (x % 9223372036854775808 < 4503599627370496) := h1
      show (if x % 9223372036854775808 < 4503599627370496 then Ieee.Datum.number (x / 9223372036854775808 % 2 == 1) (x % 9223372036854775808) (-1074) else _) = _
      rw [if_pos e]; rfl
    · simp [V, h1]
  · refine ⟨4503599627370496 + rg x % 4503599627370496, rg x / 4503599627370496 - 1, ?_, ?_⟩
    · have e : ¬ (x % 9223372036854775808 < 4503599627370496) := h1
      have e2 : (x % 9223372036854775808 < 9218868437227405312) := h
      show (if x % 9223372036854775808 < 4503599627370496 then _ else if x % 9223372036854775808 < 9218868437227405312 then Ieee.Datum.number (x / 9223372036854775808 % 2 == 1) (4503599627370496 + x % 9223372036854775808 % 4503599627370496) (-1074 + ((x % 9223372036854775808 / 4503599627370496 - 1 : Nat) : Int)) else _) = _
      rw [if_neg e, if_pos e2]; rfl
    · simp [V, h1]

theorem read_inf {x : Nat} (h : rg x = 9218868437227405312) : db.read x = .infinity (ng x) := by
  have e0 : x % 9223372036854775808 = 9218868437227405312 := h
  show (if x % 9223372036854775808 < 4503599627370496 then _ else if x % 9223372036854775808 < 9218868437227405312 then _ else if x % 9223372036854775808 = 9218868437227405312 then Ieee.Datum.infinity (x / 9223372036854775808 % 2 == 1) else _) = _
  rw [if_neg (by omega), if_neg (by omega), if_pos e0]; rfl

theorem shl (m u : Nat) : m <<< u = m * 2 ^ u := Nat.shiftLeft_eq m u

def sg (s : Bool) (n : Nat) : Int := if s then -(n : Int) else (n : Int)

theorem signed_sg (s : Bool) (m u : Nat) : Ieee.signed s m u = sg s (m * 2 ^ u) := by
  unfold Ieee.signed sg; rw [shl]

theorem sg_mul (s : Bool) (n k : Nat) : sg s (n * k) = sg s n * (k : Int) := by
  cases s <;> simp [sg, Int.neg_mul]

theorem cmp_of_lt {a b : Int} (h : a < b) : compare a b = .lt := by simp [compare, compareOfLessAndEq, h]
theorem cmp_of_gt {a b : Int} (h : b < a) : compare a b = .gt := by
  have h1 : ¬ a < b := by omega
  have h2 : ¬ a = b := by omega
  simp [compare, compareOfLessAndEq, h1, h2]
theorem cmp_of_eq {a b : Int} (h : a = b) : compare a b = .eq := by subst h; simp [compare, compareOfLessAndEq]

theorem cmp_same {a b c d : Int} (h1 : a < b ↔ c < d) (h2 : b < a ↔ d < c) : compare a b = compare c d := by
  by_cases x : a < b
  · rw [cmp_of_lt x, cmp_of_lt (h1.1 x)]
  · by_cases y : b < a
    · rw [cmp_of_gt y, cmp_of_gt (h2.1 y)]
    · have z : ¬ c < d := fun h => x (h1.2 h)
      have z2 : ¬ d < c := fun h => y (h2.2 h)
      rw [cmp_of_eq (show a = b by omega), cmp_of_eq (show c = d by omega)]

theorem cmp_scale {a b : Int} {k : Nat} (hk : 0 < k) : compare (a * (k : Int)) (b * (k : Int)) = compare a b := by
  have hk' : (0 : Int) < k := by omega
  refine cmp_same ⟨fun h => Int.lt_of_mul_lt_mul_right h (Int.le_of_lt hk'), fun h => Int.mul_lt_mul_of_pos_right h hk'⟩ ⟨fun h => Int.lt_of_mul_lt_mul_right h (Int.le_of_lt hk'), fun h => Int.mul_lt_mul_of_pos_right h hk'⟩

theorem cmp_V (s t : Bool) (a b : Nat) : compare (sg s (V a)) (sg t (V b)) = compare (sg s a) (sg t b) := by
  have h1 : V a < V b ↔ a < b := ⟨fun h => by
    apply Nat.lt_of_not_le; intro c; have := V_le c; omega, V_lt⟩
  have h2 : V b < V a ↔ b < a := ⟨fun h => by
    apply Nat.lt_of_not_le; intro c; have := V_le c; omega, V_lt⟩
  have p1 : V a = 0 ↔ a = 0 := ⟨fun h => by
    apply Nat.eq_zero_of_not_pos; intro c; have := V_pos c; omega, fun h => by rw [h, V_zero]⟩
  have p2 : V b = 0 ↔ b = 0 := ⟨fun h => by
    apply Nat.eq_zero_of_not_pos; intro c; have := V_pos c; omega, fun h => by rw [h, V_zero]⟩
  generalize V a = A at *
  generalize V b = B at *
  cases s <;> cases t <;> simp only [sg] <;> refine cmp_same ?_ ?_ <;> simp <;> omega

theorem order_fin {x y : Nat} (hx : Fnt x) (hy : Fnt y) : db.order x y = some (compare (key x) (key y)) := by
  obtain ⟨m, p, ex, vx⟩ := read_fin hx
  obtain ⟨n, q, ey, vy⟩ := read_fin hy
  unfold Ieee.Format.order
  rw [ex, ey]
  show some (compare (Ieee.signed _ m _) (Ieee.signed _ n _)) = _
  rw [signed_sg, signed_sg]
  have e1 : (-1074 + (p : Int) - min (-1074 + (p : Int)) (-1074 + (q : Int))).toNat = p - min p q := by omega
  have e2 : (-1074 + (q : Int) - min (-1074 + (p : Int)) (-1074 + (q : Int))).toNat = q - min p q := by omega
  rw [e1, e2]
  have k : 0 < 2 ^ min p q := Nat.two_pow_pos _
  rw [← cmp_scale k, ← sg_mul, ← sg_mul, Nat.mul_assoc, Nat.mul_assoc, ← Nat.pow_add, ← Nat.pow_add,
    Nat.sub_add_cancel (Nat.min_le_left _ _), Nat.sub_add_cancel (Nat.min_le_right _ _), vx, vy, cmp_V]
  rfl

theorem order_nn {x y : Nat} (hx : Nn x) (hy : Nn y) : db.order x y = some (compare (key x) (key y)) := by
  by_cases fx : Fnt x
  · by_cases fy : Fnt y
    · exact order_fin fx fy
    · have iy : rg y = 9218868437227405312 := by unfold Fnt Nn at *; omega
      obtain ⟨m, p, ex, vx⟩ := read_fin fx
      unfold Ieee.Format.order
      rw [ex, read_inf iy]
      show some (if ng y then Ordering.gt else Ordering.lt) = _
      unfold Fnt at fx
      unfold key
      rw [iy]
      generalize rg x = N at *
      cases ng y <;> cases ng x <;> (first | exact congrArg some (cmp_of_lt (show (_ : Int) < _ by simp only [if_true, if_false, Bool.false_eq_true]; omega)).symm | exact congrArg some (cmp_of_gt (show (_ : Int) < _ by simp only [if_true, if_false, Bool.false_eq_true]; omega)).symm)
  · have ix : rg x = 9218868437227405312 := by unfold Fnt Nn at *; omega
    by_cases fy : Fnt y
    · obtain ⟨m, p, ey, vy⟩ := read_fin fy
      unfold Ieee.Format.order
      rw [ey, read_inf ix]
      show some (if ng x then Ordering.lt else Ordering.gt) = _
      unfold Fnt at fy
      unfold key
      rw [ix]
      generalize rg y = N at *
      cases ng y <;> cases ng x <;> (first | exact congrArg some (cmp_of_lt (show (_ : Int) < _ by simp only [if_true, if_false, Bool.false_eq_true]; omega)).symm | exact congrArg some (cmp_of_gt (show (_ : Int) < _ by simp only [if_true, if_false, Bool.false_eq_true]; omega)).symm)
    · have iy : rg y = 9218868437227405312 := by unfold Fnt Nn at *; omega
      unfold Ieee.Format.order
      rw [read_inf ix, read_inf iy]
      unfold key
      rw [ix, iy]
      cases ng y <;> cases ng x <;> rfl

theorem nearest_nn (s : Bool) (mag : Nat) (place : Int) : ∃ r, r ≤ 9218868437227405312 ∧ db.nearest s mag place = wd s r := by
  unfold Ieee.Format.nearest
  by_cases h : mag = 0
  · rw [if_pos h]; exact ⟨0, by omega, word_wd s 0⟩
  · rw [if_neg h]
    refine ⟨_, ?_, word_wd s _⟩
    exact Nat.min_le_right _ _

theorem nn_wd {s : Bool} {r : Nat} (h : r ≤ 9218868437227405312) : Nn (wd s r) ∧ wd s r < 18446744073709551616 := by
  refine ⟨?_, ?_⟩
  · unfold Nn; rw [rg_wd s (by omega)]; exact h
  · cases s <;> simp [wd] <;> omega

theorem write_nn (s : Bool) (m : Nat) (p : Int) : Nn (db.write (.number s m p)) ∧ db.write (.number s m p) < 18446744073709551616 := by
  obtain ⟨r, hr, e⟩ := nearest_nn s m p
  show Nn (db.nearest s m p) ∧ _
  rw [show db.write (.number s m p) = db.nearest s m p from rfl, e]
  exact nn_wd hr

theorem write_inf (s : Bool) : Nn (db.write (.infinity s)) ∧ db.write (.infinity s) < 18446744073709551616 := by
  rw [show db.write (.infinity s) = wd s 9218868437227405312 from word_wd s _]
  exact nn_wd (by omega)

theorem sub_nn {x y : Nat} (hx : Fnt x) (hy : Fnt y) : ∃ r, db.sub x y = some r ∧ Nn r ∧ r < 18446744073709551616 := by
  obtain ⟨m, p, ex, -⟩ := read_fin hx
  obtain ⟨n, q, ey, -⟩ := read_fin hy
  unfold Ieee.Format.sub
  rw [ex, ey]
  exact ⟨_, rfl, write_nn _ _ _⟩

theorem add_nn {x y : Nat} (hx : Fnt x) (hy : Nn y) : ∃ r, db.add x y = some r ∧ Nn r ∧ r < 18446744073709551616 := by
  obtain ⟨m, p, ex, -⟩ := read_fin hx
  unfold Ieee.Format.add
  by_cases fy : Fnt y
  · obtain ⟨n, q, ey, -⟩ := read_fin fy
    rw [ex, ey]
    exact ⟨_, rfl, write_nn _ _ _⟩
  · have iy : rg y = 9218868437227405312 := by unfold Fnt Nn at *; omega
    rw [ex, read_inf iy]
    exact ⟨_, rfl, write_inf _⟩

theorem mul_nn {x y : Nat} (hx : Nn x) (hy : Fnt y) (h0 : 0 < rg y) : ∃ r, db.mul x y = some r ∧ Nn r ∧ r < 18446744073709551616 := by
  obtain ⟨n, q, ey, vy⟩ := read_fin hy
  unfold Ieee.Format.mul
  by_cases fx : Fnt x
  · obtain ⟨m, p, ex, -⟩ := read_fin fx
    rw [ex, ey]
    exact ⟨_, rfl, write_nn _ _ _⟩
  · have ix : rg x = 9218868437227405312 := by unfold Fnt Nn at *; omega
    rw [ey, read_inf ix]
    have hn : ¬ n = 0 := by
      intro e; subst e; have := V_pos h0; omega
    show ∃ r, Option.map db.write (if n = 0 then none else some (.infinity _)) = some r ∧ _
    rw [if_neg hn]
    exact ⟨_, rfl, write_inf _⟩

/-- min and max of two words that are numbers. -/
def fmin (x y : Nat) : Nat := match compare (key x) (key y) with | .lt => x | .gt => y | .eq => if ng x then x else y
def fmax (x y : Nat) : Nat := match compare (key x) (key y) with | .lt => y | .gt => x | .eq => if ng x then y else x

theorem decode_neg {x : Nat} (h : Nn x) : (FloatKind.f64.decode x).neg = ng x := by
  show (db.read x).neg = ng x
  by_cases fx : Fnt x
  · obtain ⟨m, p, ex, -⟩ := read_fin fx
    rw [ex]; rfl
  · have ix : rg x = 9218868437227405312 := by unfold Fnt Nn at *; omega
    rw [read_inf ix]; rfl

section
variable {P : Program} (w : World)
theorem run_min (ts : Array TypeId) (t : TypeId) {x y : Nat} (hx : Nn x) (hy : Nn y) : (Builtin.min_ ts t #[.float .f64 x, .float .f64 y]).run P w = .ok (.float .f64 (fmin x y)) w := by
  have e : FloatKind.f64.format.order x y = some (compare (key x) (key y)) := order_nn hx hy
  simp only [Builtin.min_, List.foldlM, Builtin.min2, e, decode_neg hx, fmin]
  cases compare (key x) (key y) <;> simp
theorem run_max (ts : Array TypeId) (t : TypeId) {x y : Nat} (hx : Nn x) (hy : Nn y) : (Builtin.max_ ts t #[.float .f64 x, .float .f64 y]).run P w = .ok (.float .f64 (fmax x y)) w := by
  have e : FloatKind.f64.format.order x y = some (compare (key x) (key y)) := order_nn hx hy
  simp only [Builtin.max_, List.foldlM, Builtin.max2, e, decode_neg hx, fmax]
  cases compare (key x) (key y) <;> simp
end

theorem cmp_cases (a b : Int) : (a < b ∧ compare a b = .lt) ∨ (a = b ∧ compare a b = .eq) ∨ (b < a ∧ compare a b = .gt) := by
  by_cases x : a < b
  · exact .inl ⟨x, cmp_of_lt x⟩
  · by_cases y : b < a
    · exact .inr (.inr ⟨y, cmp_of_gt y⟩)
    · exact .inr (.inl ⟨by omega, cmp_of_eq (by omega)⟩)

theorem fmin_one (x y : Nat) : (fmin x y = x ∧ key x ≤ key y) ∨ (fmin x y = y ∧ key y ≤ key x) := by
  unfold fmin
  rcases cmp_cases (key x) (key y) with ⟨h, e⟩ | ⟨h, e⟩ | ⟨h, e⟩ <;> rw [e] <;> simp only []
  · exact .inl ⟨trivial, by omega⟩
  · cases ng x
    · exact .inr ⟨rfl, by omega⟩
    · exact .inl ⟨rfl, by omega⟩
  · exact .inr ⟨trivial, by omega⟩
theorem fmax_one (x y : Nat) : (fmax x y = x ∧ key y ≤ key x) ∨ (fmax x y = y ∧ key x ≤ key y) := by
  unfold fmax
  rcases cmp_cases (key x) (key y) with ⟨h, e⟩ | ⟨h, e⟩ | ⟨h, e⟩ <;> rw [e] <;> simp only []
  · exact .inr ⟨trivial, by omega⟩
  · cases ng x
    · exact .inl ⟨rfl, by omega⟩
    · exact .inr ⟨rfl, by omega⟩
  · exact .inl ⟨trivial, by omega⟩

theorem fmin_self (y : Nat) : fmin y y = y := by rcases fmin_one y y with h | h <;> exact h.1
theorem fmax_self (y : Nat) : fmax y y = y := by rcases fmax_one y y with h | h <;> exact h.1

/-- Held between two that are one: it is that one. -/
theorem held_self (b y : Nat) : fmin (fmax b y) y = y := by
  unfold fmax
  rcases cmp_cases (key b) (key y) with ⟨h, e⟩ | ⟨h, e⟩ | ⟨h, e⟩ <;> rw [e] <;> simp only []
  · exact fmin_self y
  · cases hn : ng b
    · unfold fmin; simp [e, hn]
    · exact fmin_self y
  · unfold fmin; simp [e]

/-- A number held between two others. -/
def held (b a y : Nat) : Nat := fmin (fmax b (fmin a y)) (fmax a y)

def Wf (x : Nat) : Prop := x < 18446744073709551616

theorem fin_key {x : Nat} : Fnt x ↔ (-9218868437227405312 < key x ∧ key x < 9218868437227405312) := by
  unfold Fnt key; cases ng x <;> simp <;> omega

theorem fmin_both {Q : Nat → Prop} {x y : Nat} (hx : Q x) (hy : Q y) : Q (fmin x y) := by
  rcases fmin_one x y with h | h <;> rw [h.1] <;> assumption
theorem fmax_both {Q : Nat → Prop} {x y : Nat} (hx : Q x) (hy : Q y) : Q (fmax x y) := by
  rcases fmax_one x y with h | h <;> rw [h.1] <;> assumption

theorem held_key (b a y : Nat) : (key a ≤ key y → key a ≤ key (held b a y) ∧ key (held b a y) ≤ key y) ∧ (key y ≤ key a → key y ≤ key (held b a y) ∧ key (held b a y) ≤ key a) := by
  unfold held
  have h1 := fmin_one a y
  have h2 := fmax_one a y
  have h3 := fmax_one b (fmin a y)
  have h4 := fmin_one (fmax b (fmin a y)) (fmax a y)
  generalize fmin (fmax b (fmin a y)) (fmax a y) = r at *
  generalize fmax b (fmin a y) = s at *
  generalize fmax a y = u at *
  generalize fmin a y = v at *
  rcases h1 with ⟨e1, k1⟩ | ⟨e1, k1⟩ <;> rcases h2 with ⟨e2, k2⟩ | ⟨e2, k2⟩ <;> rcases h3 with ⟨e3, k3⟩ | ⟨e3, k3⟩ <;> rcases h4 with ⟨e4, k4⟩ | ⟨e4, k4⟩ <;> (subst e3; subst e1; subst e2; subst e4; constructor <;> intro h <;> constructor <;> omega)

theorem held_fin {b a y : Nat} (ha : Fnt a) (hy : Fnt y) : Fnt (held b a y) := by
  have h := held_key b a y
  rw [fin_key] at ha hy ⊢
  by_cases c : key a ≤ key y
  · have := h.1 c; omega
  · have := h.2 (by omega); omega

theorem held_wf {b a y : Nat} (hb : Wf b) (ha : Wf a) (hy : Wf y) : Wf (held b a y) :=
  fmin_both (fmax_both hb (fmin_both ha hy)) (fmax_both ha hy)

theorem log2_lt {n k : Nat} (h : n < 2 ^ k) (h0 : n ≠ 0) : n.log2 < k := (Nat.log2_lt h0).2 h

/-- A whole number's float is finite. -/
theorem ofInt_fin {n : Int} (h1 : -9223372036854775808 ≤ n) (h2 : n ≤ 9223372036854775808) : Fnt (floatOfInt .f64 n) ∧ Wf (floatOfInt .f64 n) := by
  refine ⟨?_, (write_nn _ _ _).2⟩
  show Fnt (db.nearest _ n.natAbs 0)
  unfold Ieee.Format.nearest
  by_cases h : n.natAbs = 0
  · rw [if_pos h, word_wd]; unfold Fnt; rw [rg_wd _ (by omega)]; omega
  · rw [if_neg h]
    have hm : n.natAbs < 2 ^ 64 := by omega
    have hl : n.natAbs.log2 < 64 := log2_lt hm h
    have hlt : n.natAbs < 2 ^ (n.natAbs.log2 + 1) := Nat.lt_log2_self
    generalize n.natAbs = N at *
    simp only []
    rw [word_wd]
    have e0 : max ((0 : Int) + (N.log2 : Int) - (db.fractionBits : Int)) db.leastPlace = (N.log2 : Int) - 52 := by
      rw [show (db.fractionBits : Int) = 52 from rfl, show db.leastPlace = -1074 from rfl]; omega
    rw [e0]
    have hk : Ieee.Toward.even.cut (decide (n < 0)) (N <<< (0 - ((N.log2 : Int) - 52)).toNat) ((N.log2 : Int) - 52 - 0).toNat ≤ 9007199254740992 := by
      rw [shl]
      by_cases c : N.log2 ≤ 52
      · have d1 : (0 - ((N.log2 : Int) - 52)).toNat = 52 - N.log2 := by omega
        have d2 : ((N.log2 : Int) - 52 - 0).toNat = 0 := by omega
        rw [d1, d2]
        unfold Ieee.Toward.cut
        simp only [Nat.zero_min, Nat.shiftLeft_zero, Nat.div_one, Nat.mod_one]
        have : N * 2 ^ (52 - N.log2) < 2 ^ (N.log2 + 1) * 2 ^ (52 - N.log2) := Nat.mul_lt_mul_of_pos_right hlt (Nat.two_pow_pos _)
        rw [← Nat.pow_add, show N.log2 + 1 + (52 - N.log2) = 53 by omega] at this
        simp
        omega
      · have d1 : (0 - ((N.log2 : Int) - 52)).toNat = 0 := by omega
        have d2 : ((N.log2 : Int) - 52 - 0).toNat = N.log2 - 52 := by omega
        rw [d1, d2]
        unfold Ieee.Toward.cut
        simp only [Nat.pow_zero, Nat.mul_one]
        rw [shl, Nat.one_mul, Nat.min_eq_left (by omega)]
        have : N / 2 ^ (N.log2 - 52) < 2 ^ 53 := by
          rw [Nat.div_lt_iff_lt_mul (Nat.two_pow_pos _), ← Nat.pow_add, show 53 + (N.log2 - 52) = N.log2 + 1 by omega]
          exact hlt
        have hb : ∀ b : Bool, b.toNat ≤ 1 := by intro b; cases b <;> decide
        have := hb (decide (2 ^ (N.log2 - 52) < 2 * (N % 2 ^ (N.log2 - 52))) || (2 ^ (N.log2 - 52) == 2 * (N % 2 ^ (N.log2 - 52)) && N / 2 ^ (N.log2 - 52) % 2 == 1))
        omega
    generalize Ieee.Toward.even.cut (decide (n < 0)) (N <<< (0 - ((N.log2 : Int) - 52)).toNat) ((N.log2 : Int) - 52 - 0).toNat = K at *
    have hr : min (((N.log2 : Int) - 52 - db.leastPlace).toNat * db.binade + K) db.infRung < 9218868437227405312 := by
      rw [show db.binade = 4503599627370496 from rfl, show db.leastPlace = -1074 from rfl]
      have : ((N.log2 : Int) - 52 - (-1074)).toNat ≤ 1086 := by omega
      have := Nat.mul_le_mul_right 4503599627370496 this
      omega
    unfold Fnt
    rw [rg_wd _ (by omega)]
    exact hr

end Fl
end Go.Proofs.Ytfcakfedlcajaaa
