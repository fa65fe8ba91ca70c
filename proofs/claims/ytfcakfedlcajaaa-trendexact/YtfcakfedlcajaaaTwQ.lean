import Derived.Test.YtfcakfedlcajaaaTwP
namespace Go.Proofs.Ytfcakfedlcajaaa
namespace Fl

/-- The document's rounding, as plain numbers. -/
def lastR (W : Nat) (e : Int) : Int := max (e + (sz W : Int) - 53) (-1074)
def incR (W s : Nat) (more : Bool) : Bool := decide (2 ^ (s - 1) < W % 2 ^ s) || (W % 2 ^ s == 2 ^ (s - 1) && (more || W / 2 ^ s % 2 == 1))
def mR (W : Nat) (e : Int) (more : Bool) : Nat := if lastR W e ≤ e then W * 2 ^ (e - lastR W e).toNat else W / 2 ^ (lastR W e - e).toNat + (incR W (lastR W e - e).toNat more).toNat
def rR (W : Nat) (e : Int) (more : Bool) : Nat := if W = 0 then 0 else (lastR W e + 1074).toNat * 4503599627370496 + mR W e more

theorem sz_pos {W : Nat} (h : W ≠ 0) : sz W = W.log2 + 1 := by unfold sz; rw [if_neg h]
theorem lt_sz (W : Nat) : W < 2 ^ sz W := by
  by_cases h : W = 0
  · rw [h]; exact Nat.two_pow_pos _
  · rw [sz_pos h]; exact Nat.lt_log2_self
theorem sz_low {W : Nat} (h : W ≠ 0) : 2 ^ (sz W - 1) ≤ W := by
  rw [sz_pos h]; exact log2_self_le' h

/-- How great the kept digits are ahead of the last step. -/
theorem kept_lt (W : Nat) (e : Int) : (lastR W e ≤ e → W * 2 ^ (e - lastR W e).toNat < 9007199254740992) ∧ (¬ lastR W e ≤ e → W / 2 ^ (lastR W e - e).toNat < 9007199254740992) := by
  have hl : e + (sz W : Int) - 53 ≤ lastR W e := Int.le_max_left ..
  have h1 := lt_sz W
  constructor
  · intro h
    have : W * 2 ^ (e - lastR W e).toNat < 2 ^ sz W * 2 ^ (e - lastR W e).toNat := Nat.mul_lt_mul_of_pos_right h1 (Nat.two_pow_pos _)
    rw [← Nat.pow_add] at this
    have h2 : 2 ^ (sz W + (e - lastR W e).toNat) ≤ 2 ^ 53 := Nat.pow_le_pow_right (by omega) (by omega)
    omega
  · intro h
    rw [Nat.div_lt_iff_lt_mul (Nat.two_pow_pos _)]
    have h2 : 2 ^ sz W ≤ 2 ^ (53 + (lastR W e - e).toNat) := Nat.pow_le_pow_right (by omega) (by omega)
    rw [Nat.pow_add] at h2
    omega
theorem mR_le (W : Nat) (e : Int) (more : Bool) : mR W e more ≤ 9007199254740992 := by
  unfold mR
  have h := kept_lt W e
  have hb := toNat_le (incR W (lastR W e - e).toNat more)
  by_cases c : lastR W e ≤ e
  · rw [if_pos c]; have := h.1 c; omega
  · rw [if_neg c]; have := h.2 c; omega
theorem mR_ge {W : Nat} (e : Int) (more : Bool) (h0 : W ≠ 0) (h : -1074 < lastR W e) : 4503599627370496 ≤ mR W e more := by
  have hl : lastR W e = e + (sz W : Int) - 53 := by unfold lastR at h ⊢; omega
  have h1 := sz_low h0
  have hp : 1 ≤ sz W := by rw [sz_pos h0]; omega
  unfold mR
  by_cases c : lastR W e ≤ e
  · rw [if_pos c]
    have : 2 ^ (sz W - 1) * 2 ^ (e - lastR W e).toNat ≤ W * 2 ^ (e - lastR W e).toNat := Nat.mul_le_mul_right _ h1
    rw [← Nat.pow_add, show sz W - 1 + (e - lastR W e).toNat = 52 by omega] at this
    omega
  · rw [if_neg c]
    have : 2 ^ 52 ≤ W / 2 ^ (lastR W e - e).toNat := by
      rw [Nat.le_div_iff_mul_le (Nat.two_pow_pos _), ← Nat.pow_add, show 52 + (lastR W e - e).toNat = sz W - 1 by omega]
      exact h1
    omega
theorem mR_zero (e : Int) (more : Bool) : mR 0 e more = 0 := by
  unfold mR
  split
  · rw [Nat.zero_mul]
  · have : incR 0 (lastR 0 e - e).toNat more = false := by
      unfold incR
      have hp := Nat.two_pow_pos ((lastR 0 e - e).toNat - 1)
      rw [Nat.zero_mod, decide_eq_false (by omega), Bool.false_or]
      have : (0 == 2 ^ ((lastR 0 e - e).toNat - 1)) = false := beq_eq_false_iff_ne.2 (by omega)
      rw [this]; rfl
    rw [this, Nat.zero_div]; rfl

theorem rR_lt {W : Nat} {e : Int} {more : Bool} (hW : sz W ≤ 128) (he : e ≤ 700) : rR W e more < 9218868437227405312 := by
  unfold rR
  split
  · omega
  · have h := mR_le W e more
    have : (lastR W e + 1074).toNat ≤ 1849 := by unfold lastR; omega
    have := Nat.mul_le_mul_right 4503599627370496 this
    omega

/-- Nothing more: it is the format's own rounding. -/
theorem nearest_rR (s : Bool) {W : Nat} (h0 : W ≠ 0) (e : Int) (hb : rR W e false < 9218868437227405312) : db.nearest s W e = wd s (rR W e false) := by
  have hl : lastP W e = lastR W e := by unfold lastP lastR; rw [sz_pos h0]; omega
  have hrR : rR W e false = (lastR W e + 1074).toNat * 4503599627370496 + mR W e false := by unfold rR; rw [if_neg h0]
  rw [hrR] at hb ⊢
  by_cases c : lastR W e ≤ e
  · rw [nearest_form s h0 e (e - lastR W e).toNat 0 (by rw [hl]; omega), hl]
    have hm : mR W e false = rneD (W * 2 ^ (e - lastR W e).toNat) (2 ^ 0) := by
      unfold mR; rw [if_pos c, Nat.pow_zero]
      have := rneD_exact (W * 2 ^ (e - lastR W e).toNat) 1 (by omega)
      rw [Nat.mul_one] at this; rw [this]
    rw [← hm, Nat.min_eq_left (Nat.le_of_lt hb)]
  · rw [nearest_form s h0 e 0 (lastR W e - e).toNat (by rw [hl]; omega), hl]
    have hm : mR W e false = rneD (W * 2 ^ 0) (2 ^ (lastR W e - e).toNat) := by
      unfold mR
      rw [if_neg c, Nat.pow_zero, Nat.mul_one]
      obtain ⟨k, hk⟩ : ∃ k, (lastR W e - e).toNat = k + 1 := ⟨(lastR W e - e).toNat - 1, by omega⟩
      rw [hk]
      unfold rneD incR
      rw [Nat.add_sub_cancel, Nat.pow_succ]
      have e1 : decide (2 ^ k < W % (2 ^ k * 2)) = decide (2 ^ k * 2 < 2 * (W % (2 ^ k * 2))) := decide_eq_decide.2 (by omega)
      have e2 : (W % (2 ^ k * 2) == 2 ^ k) = (2 ^ k * 2 == 2 * (W % (2 ^ k * 2))) := by
        by_cases q : W % (2 ^ k * 2) = 2 ^ k
        · rw [q, Nat.mul_comm (2 ^ k) 2, beq_self_eq_true, beq_self_eq_true]
        · have q2 : ¬ 2 ^ k * 2 = 2 * (W % (2 ^ k * 2)) := by omega
          rw [beq_eq_false_iff_ne.2 q, beq_eq_false_iff_ne.2 q2]
      rw [e1, e2, Bool.false_or]
    rw [← hm, Nat.min_eq_left (Nat.le_of_lt hb)]

/-- A little more: the rounding of the whole. -/
theorem nearest_more (s : Bool) {W k p : Nat} (e : Int) (hW : 2 ^ 54 ≤ W) (hp : 0 < p) (hk : p < 2 ^ k) (hb : rR W e true < 9218868437227405312) : db.nearest s (W * 2 ^ k + p) (e - k) = wd s (rR W e true) := by
  have h0 : W ≠ 0 := by omega
  have h1 : W * 2 ^ k + p ≠ 0 := by omega
  have hlog : (W * 2 ^ k + p).log2 = W.log2 + k := by
    refine log2_iff ?_ ?_
    · rw [Nat.pow_add]
      have := Nat.mul_le_mul_right (2 ^ k) (log2_self_le' h0); omega
    · have : (W + 1) * 2 ^ k ≤ 2 ^ (W.log2 + 1) * 2 ^ k := Nat.mul_le_mul_right _ Nat.lt_log2_self
      rw [← Nat.pow_add, Nat.add_mul, Nat.one_mul] at this
      rw [show W.log2 + k + 1 = W.log2 + 1 + k by omega]; omega
  have h54 : 54 ≤ W.log2 := (Nat.le_log2 h0).2 hW
  have hl : lastP (W * 2 ^ k + p) (e - k) = lastR W e := by unfold lastP lastR; rw [sz_pos h0, hlog]; omega
  have hrR : rR W e true = (lastR W e + 1074).toNat * 4503599627370496 + mR W e true := by unfold rR; rw [if_neg h0]
  rw [hrR] at hb ⊢
  have hle : e + 2 ≤ lastR W e := by unfold lastR; rw [sz_pos h0]; omega
  obtain ⟨j, hj⟩ : ∃ j, (lastR W e - e).toNat = j + 1 := ⟨(lastR W e - e).toNat - 1, by omega⟩
  rw [nearest_form s h1 (e - k) 0 (j + 1 + k) (by rw [hl]; omega), hl]
  have hm : mR W e true = rneD ((W * 2 ^ k + p) * 2 ^ 0) (2 ^ (j + 1 + k)) := by
    unfold mR
    rw [if_neg (by omega), hj, Nat.pow_zero, Nat.mul_one]
    unfold rneD incR
    rw [Nat.add_sub_cancel]
    have hq : (W * 2 ^ k + p) / 2 ^ (j + 1 + k) = W / 2 ^ (j + 1) := by
      rw [show j + 1 + k = k + (j + 1) by omega, Nat.pow_add, ← Nat.div_div_eq_div_mul]
      congr 1
      rw [Nat.mul_comm, Nat.mul_add_div (Nat.two_pow_pos _), Nat.div_eq_of_lt hk, Nat.add_zero]
    have hr : (W * 2 ^ k + p) % 2 ^ (j + 1 + k) = (W % 2 ^ (j + 1)) * 2 ^ k + p := by
      have hW2 := Nat.div_add_mod W (2 ^ (j + 1))
      have hlt : (W % 2 ^ (j + 1)) * 2 ^ k + p < 2 ^ (j + 1 + k) := by
        have : (W % 2 ^ (j + 1) + 1) * 2 ^ k ≤ 2 ^ (j + 1) * 2 ^ k := Nat.mul_le_mul_right _ (Nat.mod_lt _ (Nat.two_pow_pos _))
        rw [← Nat.pow_add, Nat.add_mul, Nat.one_mul] at this; omega
      have e3 : W * 2 ^ k + p = ((W % 2 ^ (j + 1)) * 2 ^ k + p) + 2 ^ (j + 1 + k) * (W / 2 ^ (j + 1)) := by
        rw [Nat.pow_add 2 (j + 1) k]
        generalize 2 ^ (j + 1) = J at *
        generalize 2 ^ k = K at *
        generalize W / J = a at *
        generalize W % J = b at *
        rw [← hW2, Nat.add_mul, show J * K * a = J * a * K by rw [Nat.mul_assoc, Nat.mul_comm K a, ← Nat.mul_assoc]]
        omega
      rw [e3, Nat.add_mul_mod_self_left, Nat.mod_eq_of_lt hlt]
    rw [hq, hr, show j + 1 + k = k + j + 1 by omega, Nat.pow_succ (n := 2) (m := k + j), Nat.pow_add 2 k j]
    have hb2 : W % 2 ^ (j + 1) < 2 ^ (j + 1) := Nat.mod_lt _ (Nat.two_pow_pos _)
    generalize W % 2 ^ (j + 1) = b at *
    generalize W / 2 ^ (j + 1) = a at *
    generalize 2 ^ j = J at *
    have hK : 0 < 2 ^ k := Nat.two_pow_pos _
    generalize 2 ^ k = K at *
    have hne : (K * J * 2 == 2 * (b * K + p)) = false := by
      refine beq_eq_false_iff_ne.2 fun h => ?_
      by_cases c2 : b < J
      · have : (b + 1) * K ≤ J * K := Nat.mul_le_mul_right _ c2
        rw [Nat.add_mul, Nat.one_mul, Nat.mul_comm J K] at this; omega
      · have : J * K ≤ b * K := Nat.mul_le_mul_right _ (by omega)
        rw [Nat.mul_comm J K] at this; omega
    have hlt : decide (K * J * 2 < 2 * (b * K + p)) = decide (J ≤ b) := by
      refine decide_eq_decide.2 ⟨fun h => ?_, fun h => ?_⟩
      · apply Nat.le_of_not_lt
        intro c2
        have : (b + 1) * K ≤ J * K := Nat.mul_le_mul_right _ c2
        rw [Nat.add_mul, Nat.one_mul, Nat.mul_comm J K] at this; omega
      · have : J * K ≤ b * K := Nat.mul_le_mul_right _ h
        rw [Nat.mul_comm J K] at this; omega
    rw [hne, hlt, Bool.false_and, Bool.or_false, Bool.true_or, Bool.and_true]
    congr 2
    by_cases c1 : J < b
    · rw [decide_eq_true c1, decide_eq_true (Nat.le_of_lt c1)]; rfl
    · by_cases c2 : b = J
      · subst c2; simp
      · rw [decide_eq_false c1, decide_eq_false (by omega), beq_eq_false_iff_ne.2 c2]; rfl
  rw [← hm, Nat.min_eq_left (Nat.le_of_lt hb)]
end Fl
end Go.Proofs.Ytfcakfedlcajaaa
namespace Go.Proofs.Ytfcakfedlcajaaa
namespace Fl

def pM (x : Nat) : Nat := if rg x < 4503599627370496 then rg x else 4503599627370496 + rg x % 4503599627370496
def pE (x : Nat) : Int := if rg x < 4503599627370496 then -1074 else (rg x / 4503599627370496 : Nat) - 1075

theorem pM_lt (x : Nat) : pM x < 9007199254740992 := by unfold pM; split <;> omega
theorem pE_ge (x : Nat) : -1074 ≤ pE x := by unfold pE; split <;> omega
theorem pM_ge {x : Nat} (h : -1074 < pE x) : 4503599627370496 ≤ pM x := by
  unfold pE at h; unfold pM; split at h
  · omega
  · rename_i c; rw [if_neg c]; omega
theorem pM_zero {x : Nat} (h : pM x = 0) : rg x = 0 := by unfold pM at h; split at h <;> omega
theorem V_parts (x : Nat) : V (rg x) = pM x * 2 ^ (pE x + 1074).toNat := by
  unfold V pM pE
  by_cases c : rg x < 4503599627370496
  · simp [c]
  · simp only [if_neg c]
    congr 2; omega
theorem read_parts {x : Nat} (h : Fnt x) : db.read x = .number (ng x) (pM x) (pE x) := by
  unfold pM pE
  by_cases h1 : rg x < 4503599627370496
  · have e : (x % 9223372036854775808 < 4503599627370496) := h1
    simp only [if_pos h1]
    show (if x % 9223372036854775808 < 4503599627370496 then Ieee.Datum.number (x / 9223372036854775808 % 2 == 1) (x % 9223372036854775808) (-1074) else _) = _
    rw [if_pos e]; rfl
  · have e : ¬ (x % 9223372036854775808 < 4503599627370496) := h1
    have e2 : (x % 9223372036854775808 < 9218868437227405312) := h
    simp only [if_neg h1]
    show (if x % 9223372036854775808 < 4503599627370496 then _ else if x % 9223372036854775808 < 9218868437227405312 then Ieee.Datum.number (x / 9223372036854775808 % 2 == 1) (4503599627370496 + x % 9223372036854775808 % 4503599627370496) (-1074 + ((x % 9223372036854775808 / 4503599627370496 - 1 : Nat) : Int)) else _) = _
    rw [if_neg e, if_pos e2]
    show Ieee.Datum.number _ _ (-1074 + ((rg x / 4503599627370496 - 1 : Nat) : Int)) = Ieee.Datum.number _ _ (((rg x / 4503599627370496 : Nat) : Int) - 1075)
    congr 1; omega

theorem wf_wd {x : Nat} (h : Wf x) : wd (ng x) (rg x) = x := (wd_of h).symm

theorem nearest_scale (s : Bool) {m : Nat} (h : m ≠ 0) (p : Int) (j : Nat) : db.nearest s (m * 2 ^ j) (p - j) = db.nearest s m p := by
  have hl : lastP (m * 2 ^ j) (p - j) = lastP m p := by unfold lastP; rw [log2_mul h j]; omega
  have hp : 0 < m * 2 ^ j := Nat.mul_pos (Nat.pos_of_ne_zero h) (Nat.two_pow_pos _)
  by_cases c : 0 ≤ (p - j) - lastP m p
  · rw [nearest_form s (by omega) (p - j) ((p - j) - lastP m p).toNat 0 (by rw [hl]; omega), hl,
      nearest_form s h p (j + ((p - j) - lastP m p).toNat) 0 (by omega), Nat.pow_add, ← Nat.mul_assoc]
  · rw [nearest_form s (by omega) (p - j) 0 (-((p - j) - lastP m p)).toNat (by rw [hl]; omega), hl,
      nearest_form s h p j (-((p - j) - lastP m p)).toNat (by omega), Nat.pow_zero, Nat.mul_one]

/-- A whole number's float, as the document has it. -/
theorem of_eq {n : Int} (h1 : -9223372036854775808 ≤ n) (h2 : n ≤ 9223372036854775808) : wd (decide (n < 0)) (rR n.natAbs 0 false) = floatOfInt .f64 n := by
  show _ = db.nearest (decide (n < 0)) n.natAbs 0
  by_cases h0 : n.natAbs = 0
  · unfold Ieee.Format.nearest
    rw [if_pos h0, word_wd, h0]; rfl
  · rw [nearest_rR _ h0 0 (rR_lt (by have := sz_le (W := n.natAbs) (k := 64) (by omega); omega) (by omega))]

theorem mul_bits {a b : Nat} (ha : a < 2 ^ 53) (hb : b < 2 ^ 53) : a * b < 2 ^ 106 := by
  have : a * b < 2 ^ 53 * 2 ^ 53 := Nat.mul_lt_mul'' ha hb
  rw [← Nat.pow_add] at this; exact this

theorem mul_eq {a b : Nat} (ha : Fnt a) (hb : Fnt b) (he : pE a + pE b ≤ 700) : db.mul a b = some (wd (ng a != ng b) (rR (pM a * pM b) (pE a + pE b) false)) := by
  unfold Ieee.Format.mul
  rw [read_parts ha, read_parts hb]
  show some (db.nearest (ng a ^^ ng b) (pM a * pM b) (pE a + pE b)) = _
  have hx : (ng a ^^ ng b) = (ng a != ng b) := by cases ng a <;> cases ng b <;> rfl
  rw [hx]
  by_cases h0 : pM a * pM b = 0
  · unfold Ieee.Format.nearest
    rw [if_pos h0, word_wd, h0]; rfl
  · have := mul_bits (pM_lt a) (pM_lt b)
    rw [nearest_rR _ h0 _ (rR_lt (by have := sz_le (k := 106) this; omega) he)]

/-- The sum of two words, the greater exponent first. -/
theorem sum_parts {a b : Nat} (ha : Fnt a) (hb : Fnt b) (k : Nat) (hk : pE a - pE b = (k : Int)) :
    db.add a b = some (db.nearest (if sg (ng a) (pM a * 2 ^ k) + sg (ng b) (pM b) = 0 then ng a && ng b else decide (sg (ng a) (pM a * 2 ^ k) + sg (ng b) (pM b) < 0)) (sg (ng a) (pM a * 2 ^ k) + sg (ng b) (pM b)).natAbs (pE b)) := by
  unfold Ieee.Format.add
  rw [read_parts ha, read_parts hb]
  have e1 : min (pE a) (pE b) = pE b := by omega
  show some (db.nearest (if Ieee.signed (ng a) (pM a) (pE a - min (pE a) (pE b)).toNat + Ieee.signed (ng b) (pM b) (pE b - min (pE a) (pE b)).toNat = 0 then ng a && ng b else decide (Ieee.signed (ng a) (pM a) (pE a - min (pE a) (pE b)).toNat + Ieee.signed (ng b) (pM b) (pE b - min (pE a) (pE b)).toNat < 0)) (Ieee.signed (ng a) (pM a) (pE a - min (pE a) (pE b)).toNat + Ieee.signed (ng b) (pM b) (pE b - min (pE a) (pE b)).toNat).natAbs (min (pE a) (pE b))) = _
  rw [e1, signed_sg, signed_sg, show (pE a - pE b).toNat = k by omega, show (pE b - pE b).toNat = 0 by omega, Nat.pow_zero, Nat.mul_one]

theorem add_comm' {a b : Nat} (ha : Fnt a) (hb : Fnt b) : db.add a b = db.add b a := by
  unfold Ieee.Format.add
  rw [read_parts ha, read_parts hb]
  show some (db.write (.number _ _ _)) = some (db.write (.number _ _ _))
  have e1 : min (pE a) (pE b) = min (pE b) (pE a) := by omega
  rw [e1, Int.add_comm, Bool.and_comm]

/-- What the document's sum tells, if both are not nought and the first has the greater exponent. -/
def addW (a b k : Nat) : Nat :=
  let x := pM a * 2 ^ 60
  let y0 := pM b * 2 ^ 60
  let more := decide (y0 % 2 ^ k ≠ 0)
  if ng a = ng b then wd (ng a) (rR (x + y0 / 2 ^ k) (pE a - 60) more)
  else if x = y0 / 2 ^ k ∧ more = false then 0
  else if x < y0 / 2 ^ k then wd (ng b) (rR (y0 / 2 ^ k - x) (pE a - 60) more)
  else wd (ng a) (rR (x - y0 / 2 ^ k - more.toNat) (pE a - 60) more)

theorem rest_zero {m k : Nat} (h : k ≤ 60) : m * 2 ^ 60 % 2 ^ k = 0 := by
  rw [show 60 = (60 - k) + k by omega, Nat.pow_add, ← Nat.mul_assoc, Nat.mul_mod_left]

theorem sg_same (s : Bool) (m n : Nat) : sg s m + sg s n = sg s (m + n) := by cases s <;> simp [sg] <;> omega
theorem sg_abs (s : Bool) (m : Nat) : (sg s m).natAbs = m := by cases s <;> simp [sg]
theorem sg_neg {s t : Bool} {m : Nat} (h : m ≠ 0) : (if sg s m = 0 then t else decide (sg s m < 0)) = s := by
  have : ¬ sg s m = 0 := by cases s <;> simp [sg] <;> omega
  rw [if_neg this]
  cases s <;> simp [sg] <;> omega

/-- Scaled: the sum of two amounts. -/
theorem scaled_sum (s : Bool) {m n x y r P k : Nat} {e eb : Int} (hP : P = 2 ^ k) (hx : m * 2 ^ 60 = x) (hy : n * 2 ^ 60 = P * y + r) (hr : r < P) (he : eb - 60 = e - (k : Int)) (h0 : m ≠ 0) (hbig : r ≠ 0 → 2 ^ 54 ≤ x + y) (hsz : sz (x + y) ≤ 128) (he7 : e ≤ 700) :
    db.nearest s (m * P + n) eb = wd s (rR (x + y) e (decide (r ≠ 0))) := by
  have hx0 : x ≠ 0 := by rw [← hx]; have := Nat.mul_pos (Nat.pos_of_ne_zero h0) (Nat.two_pow_pos 60); omega
  have hmP : m * P ≠ 0 := by have := Nat.mul_pos (Nat.pos_of_ne_zero h0) (show 0 < P by omega); omega
  have e1 : (m * P + n) * 2 ^ 60 = (x + y) * P + r := by
    rw [Nat.add_mul, hy, Nat.mul_assoc, Nat.mul_comm P, ← Nat.mul_assoc, hx, Nat.add_mul, Nat.mul_comm P y, Nat.add_assoc]
  rw [← nearest_scale s (by omega) eb 60, e1, show eb - ((60 : Nat) : Int) = e - (k : Int) by omega]
  by_cases hz : r = 0
  · rw [hz, Nat.add_zero, hP, nearest_scale s (by omega) e k, decide_eq_false (by simp), nearest_rR s (by omega) e (rR_lt hsz he7)]
  · rw [decide_eq_true hz]
    rw [hP] at hr ⊢
    exact nearest_more s e (hbig hz) (Nat.pos_of_ne_zero hz) hr (rR_lt hsz he7)

/-- Scaled: the difference, the first is greater. -/
theorem scaled_sub (s : Bool) {m n x y r P k : Nat} {e eb : Int} (hP : P = 2 ^ k) (hx : m * 2 ^ 60 = x) (hy : n * 2 ^ 60 = P * y + r) (hr : r < P) (he : eb - 60 = e - (k : Int)) (_hlt : n < m * P) (hbig : r ≠ 0 → 2 ^ 54 ≤ x - y - 1) (hyx : y < x) (hsz : sz x ≤ 128) (he7 : e ≤ 700) :
    db.nearest s (m * P - n) eb = wd s (rR (x - y - (decide (r ≠ 0)).toNat) e (decide (r ≠ 0))) := by
  have hm : ∀ d, d ≤ x → sz d ≤ 128 := fun d hd => (sz_iff d 128).1 (Nat.div_eq_of_lt (Nat.lt_of_le_of_lt hd ((Nat.div_eq_zero_iff_lt (Nat.two_pow_pos _)).1 ((sz_iff x 128).2 hsz))))
  have e0 : (m * P - n) * 2 ^ 60 = x * P - (P * y + r) := by
    rw [Nat.sub_mul, hy, Nat.mul_assoc, Nat.mul_comm P, ← Nat.mul_assoc, hx]
  obtain ⟨d, rfl⟩ : ∃ d, x = y + d + 1 := ⟨x - y - 1, by omega⟩
  have e2 : (y + d + 1) * P = P * y + d * P + P := by rw [Nat.add_mul, Nat.add_mul, Nat.one_mul, Nat.mul_comm y]
  rw [← nearest_scale s (by omega) eb 60, e0, e2, show eb - ((60 : Nat) : Int) = e - (k : Int) by omega]
  by_cases hz : r = 0
  · rw [hz, decide_eq_false (by simp), show P * y + d * P + P - (P * y + 0) = (d + 1) * P by rw [Nat.add_mul, Nat.one_mul]; omega, show y + d + 1 - y - Bool.toNat false = d + 1 by simp; omega, hP, nearest_scale s (by omega) e k, nearest_rR s (by omega) e (rR_lt (hm _ (by omega)) he7)]
  · rw [decide_eq_true hz, show P * y + d * P + P - (P * y + r) = d * P + (P - r) by omega, show y + d + 1 - y - Bool.toNat true = d by simp; omega]
    rw [hP] at hr ⊢
    exact nearest_more s e (by have := hbig hz; omega) (by omega) (by omega) (rR_lt (hm _ (by omega)) he7)

theorem add_main {a b k : Nat} (ha : Fnt a) (hb : Fnt b) (hk : pE a - pE b = (k : Int)) (h1 : pM a ≠ 0) (he : pE a ≤ 700) : db.add a b = some (addW a b k) := by
  rw [sum_parts ha hb k hk]
  congr 1
  have l1 := pM_lt a
  have l2 := pM_lt b
  have g1 : 0 < k → 4503599627370496 ≤ pM a := fun h => pM_ge (by have := pE_ge b; omega)
  have hP : 0 < 2 ^ k := Nat.two_pow_pos _
  have hrest : pM b * 2 ^ 60 % 2 ^ k ≠ 0 → 60 < k := fun h => by
    apply Nat.lt_of_not_le; intro c; exact h (rest_zero c)
  have hdm := (Nat.div_add_mod (pM b * 2 ^ 60) (2 ^ k)).symm
  have hml : pM b * 2 ^ 60 % 2 ^ k < 2 ^ k := Nat.mod_lt _ hP
  have hdl : pM b * 2 ^ 60 / 2 ^ k ≤ pM b * 2 ^ 60 := Nat.div_le_self _ _
  have hdr : 60 < k → pM b * 2 ^ 60 / 2 ^ k < 2 ^ 53 := fun h => by
    rw [Nat.div_lt_iff_lt_mul hP]
    have : 2 ^ 60 ≤ 2 ^ k := Nat.pow_le_pow_right (by omega) (by omega)
    exact Nat.lt_of_lt_of_le (Nat.mul_lt_mul_of_pos_right l2 (Nat.two_pow_pos 60)) (Nat.mul_le_mul_left _ this)
  have hX0 : 0 < k → 2 ^ 53 ≤ pM a * 2 ^ k := fun h => by
    have h3 : 2 ^ 1 ≤ 2 ^ k := Nat.pow_le_pow_right (by omega) h
    have h4 := Nat.mul_le_mul (g1 h) h3
    exact Nat.le_trans (by omega) h4
  have hk0 : pM a * 2 ^ k ≤ pM b → k = 0 := fun h => by
    apply Nat.eq_zero_of_not_pos; intro c; have := hX0 c; omega
  have hsb : pE b - 60 = (pE a - 60) - (k : Int) := by omega
  have hmP : 0 < pM a * 2 ^ k := Nat.mul_pos (Nat.pos_of_ne_zero h1) hP
  unfold addW
  simp only []
  obtain ⟨x, hx⟩ : ∃ x, pM a * 2 ^ 60 = x := ⟨_, rfl⟩
  obtain ⟨y, hy⟩ : ∃ y, pM b * 2 ^ 60 / 2 ^ k = y := ⟨_, rfl⟩
  obtain ⟨r, hr⟩ : ∃ r, pM b * 2 ^ 60 % 2 ^ k = r := ⟨_, rfl⟩
  rw [hy, hr] at hdm
  rw [hr] at hml hrest
  rw [hy] at hdl hdr
  rw [hx, hy, hr]
  have hxl : x < 2 ^ 113 := by omega
  have hyl : y < 2 ^ 113 := by omega
  have hx2 : r ≠ 0 → 2 ^ 112 ≤ x := fun h => by have := g1 (by have := hrest h; omega); omega
  have hy2 : r ≠ 0 → y < 2 ^ 53 := fun h => hdr (hrest h)
  by_cases hs : ng a = ng b
  · rw [if_pos hs, ← hs, sg_same, sg_neg (by omega), sg_abs]
    exact scaled_sum (ng a) rfl hx hdm hml hsb h1 (fun h => by have := hx2 h; omega) (by have := sz_le (show x + y < 2 ^ 114 by omega); omega) (by omega)
  · rw [if_neg hs]
    have hsg : sg (ng b) (pM b) = - sg (ng a) (pM b) := by
      cases h : ng a <;> cases h' : ng b <;> rw [h, h'] at hs <;> simp [sg] at hs ⊢
    by_cases c1 : pM a * 2 ^ k = pM b
    · have hk1 := hk0 (by omega)
      subst hk1
      have hz : sg (ng a) (pM a * 2 ^ 0) + sg (ng b) (pM b) = 0 := by rw [c1, hsg]; omega
      have hf : (ng a && ng b) = false := by cases h : ng a <;> cases h' : ng b <;> rw [h, h'] at hs <;> simp at hs ⊢
      have hxy : x = y ∧ r = 0 := by
        rw [Nat.pow_zero, Nat.mul_one] at c1
        rw [Nat.pow_zero, Nat.div_one] at hy
        rw [Nat.pow_zero, Nat.mod_one] at hr
        rw [← hx, ← hy, c1]; exact ⟨rfl, hr.symm⟩
      rw [hz, hf, if_pos rfl, if_pos ⟨hxy.1, by rw [hxy.2]; simp⟩]
      rfl
    · by_cases c2 : pM a * 2 ^ k < pM b
      · have hk1 := hk0 (by omega)
        subst hk1
        rw [Nat.pow_zero, Nat.mul_one] at c2 ⊢
        rw [Nat.pow_zero, Nat.div_one] at hy
        rw [Nat.pow_zero, Nat.mod_one] at hr
        have hxy : x < y := by rw [← hx, ← hy]; exact Nat.mul_lt_mul_of_pos_right c2 (Nat.two_pow_pos 60)
        have ht : sg (ng a) (pM a) + sg (ng b) (pM b) = sg (ng b) (pM b - pM a) := by
          cases h : ng a <;> cases h' : ng b <;> rw [h, h'] at hs <;> simp [sg] at hs ⊢ <;> omega
        rw [ht, sg_neg (by omega), sg_abs, if_neg (fun h => by omega), if_pos hxy, ← hr, decide_eq_false (by simp)]
        have := nearest_scale (ng b) (show pM b - pM a ≠ 0 by omega) (pE b) 60
        rw [← this, Nat.sub_mul, hx, hy, show pE b - ((60 : Nat) : Int) = pE a - 60 by omega]
        exact nearest_rR (ng b) (by omega) (pE a - 60) (rR_lt (by have := sz_le (show y - x < 2 ^ 113 by omega); omega) (by omega))
      · have c3 : pM b < pM a * 2 ^ k := by omega
        have hyx : y < x := by
          have h3 : pM b * 2 ^ 60 < pM a * 2 ^ k * 2 ^ 60 := Nat.mul_lt_mul_of_pos_right c3 (Nat.two_pow_pos 60)
          rw [hdm, Nat.mul_assoc, Nat.mul_comm (2 ^ k) (2 ^ 60), ← Nat.mul_assoc, hx, Nat.mul_comm x] at h3
          exact Nat.lt_of_mul_lt_mul_left (Nat.lt_of_le_of_lt (Nat.le_add_right _ r) h3)
        have ht : ∀ X, pM b < X → sg (ng a) X + sg (ng b) (pM b) = sg (ng a) (X - pM b) := fun X hX => by
          rw [hsg]
          cases h : ng a <;> simp only [sg, if_true, if_false, Bool.false_eq_true] <;> omega
        rw [ht _ c3, sg_neg (by omega), sg_abs, if_neg (fun h => by omega), if_neg (by omega)]
        exact scaled_sub (ng a) rfl hx hdm hml hsb c3 (fun h => by have := hx2 h; have := hy2 h; omega) hyx (by have := sz_le hxl; omega) (by omega)
theorem mul60 {m : Nat} (h : m < 9007199254740992) : m * 2 ^ 60 < 2 ^ 113 := by omega
theorem rest_k {n k : Nat} (h : n < 2 ^ 113) (h0 : n ≠ 0) (hz : n % 2 ^ k = 0) : k < 128 := by
  apply Nat.lt_of_not_le; intro c
  have h2 : 2 ^ 113 ≤ 2 ^ k := Nat.pow_le_pow_right (by omega) (by omega)
  rw [Nat.mod_eq_of_lt (Nat.lt_of_lt_of_le h h2)] at hz
  exact h0 hz
theorem rest_y {a b k : Nat} (hk : pE a - pE b = (k : Int)) (h : pM b * 2 ^ 60 % 2 ^ k ≠ 0) : pM b * 2 ^ 60 / 2 ^ k < pM a * 2 ^ 60 := by
  have hk60 : 60 < k := by apply Nat.lt_of_not_le; intro c; exact h (rest_zero c)
  have g1 := pM_ge (x := a) (by have := pE_ge b; omega)
  have h3 : pM b * 2 ^ 60 / 2 ^ k < 2 ^ 53 := by
    rw [Nat.div_lt_iff_lt_mul (Nat.two_pow_pos _)]
    have : 2 ^ 60 ≤ 2 ^ k := Nat.pow_le_pow_right (by omega) (by omega)
    exact Nat.lt_of_lt_of_le (Nat.mul_lt_mul_of_pos_right (pM_lt b) (Nat.two_pow_pos 60)) (Nat.mul_le_mul_left _ this)
  have h4 : 4503599627370496 * 2 ^ 60 ≤ pM a * 2 ^ 60 := Nat.mul_le_mul_right _ g1
  exact Nat.lt_of_lt_of_le (Nat.lt_trans h3 (by omega)) h4
/-- The sum's word. -/
def addN (a b : Nat) : Nat := (db.add a b).getD 0
theorem pE_zero {x : Nat} (h : pM x = 0) : pE x = -1074 := by unfold pE; rw [if_pos (by rw [pM_zero h]; omega)]
theorem add_right {a b : Nat} (ha : Fnt a) (hb : Fnt b) (hw : Wf a) (h1 : pM a ≠ 0) (h2 : pM b = 0) : db.add a b = some a := by
  have e2 := pE_zero h2
  have g := pE_ge a
  rw [sum_parts ha hb (pE a + 1074).toNat (by omega), h2, e2]
  have hz : sg (ng b) 0 = 0 := by cases ng b <;> rfl
  rw [hz, Int.add_zero, ← V_parts]
  have hV : V (rg a) ≠ 0 := by
    rw [V_parts]; have := Nat.mul_pos (Nat.pos_of_ne_zero h1) (Nat.two_pow_pos (pE a + 1074).toNat); omega
  rw [sg_neg hV, sg_abs, nearest_exact (ng a) hV (-1074) 0 0 (rg a) (by omega) ha rfl, wf_wd hw]
theorem add_left {a b : Nat} (ha : Fnt a) (hb : Fnt b) (hw : Wf b) (h1 : pM a = 0) (h2 : pM b ≠ 0) : db.add a b = some b := by
  rw [add_comm' ha hb]; exact add_right hb ha hw h2 h1
theorem add_zero {a b : Nat} (ha : Fnt a) (hb : Fnt b) (h1 : pM a = 0) (h2 : pM b = 0) : db.add a b = some (wd (ng a && ng b) 0) := by
  rw [sum_parts ha hb 0 (by rw [pE_zero h1, pE_zero h2]; rfl), h1, h2]
  have hz : ∀ s, sg s 0 = 0 := by intro s; cases s <;> rfl
  rw [Nat.zero_mul, hz, hz, if_pos (by rfl)]
  rfl
end Fl
end Go.Proofs.Ytfcakfedlcajaaa
