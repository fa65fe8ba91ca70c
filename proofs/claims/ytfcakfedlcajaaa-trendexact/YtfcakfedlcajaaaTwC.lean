import Derived.Test.YtfcakfedlcajaaaTwB
import Derived.Test.YtfcakfedlcajaaaTwQ
import Derived.Deep.DeepCutAuto
namespace Go.Proofs.Ytfcakfedlcajaaa
open Go.RowKit
open Fl

/-- A wide number that lies in a box. -/
def Bw (w : World) (b W : Nat) : Prop := w.heap[b]? = some (.cells #[.int .u64 ((hi W : Nat) : Int), .int .u64 ((lo W : Nat) : Int)] 77 (0, 0))
theorem Bw.lt {w : World} {b W : Nat} (h : Bw w b W) : b < w.heap.size := (Array.getElem?_eq_some_iff.1 h).1
theorem Bw.kept {w w' : World} {b W : Nat} (h : Bw w b W) (hb : Below w.heap.size w w') : Bw w' b W := (hb.block _ h.lt).trans h
theorem Bw.c0 {w : World} {b W : Nat} (h : Bw w b W) : w.cell? ⟨b, 0, none⟩ = some (.int .u64 ((hi W : Nat) : Int)) := (cells2 h).1
theorem Bw.c1 {w : World} {b W : Nat} (h : Bw w b W) : w.cell? ⟨b, 1, none⟩ = some (.int .u64 ((lo W : Nat) : Int)) := (cells2 h).2
theorem below_go {w w1 w2 : World} (h1 : Below w.heap.size w w1) (h2 : Below w1.heap.size w1 w2) : Below w.heap.size w w2 := h1.trans (h2.mono h1.size)

theorem below_undrew {n : Nat} {w u : World} (h : Below n w.drew u) : Below n w u := ⟨h.os, h.tape, h.output, h.size, h.block⟩
theorem Bw.below {w w' : World} {b W n : Nat} (h : Bw w b W) (hn : n = w.heap.size) (hb : Below n w w') : Bw w' b W := by subst hn; exact h.kept hb
theorem Bw.alloc {w : World} {b W : Nat} (h : Bw w b W) (o : Obj) : Bw (w.alloc o) b W := h.kept ((Below.refl _ _).alloc (Nat.le_refl _) _)
theorem below_alloc {w w1 : World} (h1 : Below w.heap.size w w1) (o : Obj) : Below w.heap.size w (w1.alloc o) := below_go h1 ((Below.refl _ _).alloc (Nat.le_refl _) _)
theorem bw_nil (w : World) : Bw (w.alloc (.cells #[.int .u64 0, .int .u64 0] 77)) w.heap.size 0 := heap_alloc_new _ _
theorem Bw.thaw {w : World} {b W : Nat} (h : Bw w b W) (i : Nat) : w.frozen? ⟨b, i, none⟩ = false := thaw2 h i
theorem Bw.set {w : World} {b W : Nat} (h : Bw w b W) (W' : Nat) : Bw ((w.setCell ⟨b, 0, none⟩ (.int .u64 ((hi W' : Nat) : Int))).setCell ⟨b, 1, none⟩ (.int .u64 ((lo W' : Nat) : Int))) b W' := store2 h
theorem Bw.other {w : World} {b W c : Nat} (h : Bw w b W) (hc : b ≠ c) (x y : Value) : Bw ((w.setCell ⟨c, 0, none⟩ x).setCell ⟨c, 1, none⟩ y) b W := by
  unfold Bw at h ⊢
  rw [Below.heap_setCell _ _ _ _ (by simpa using hc), Below.heap_setCell _ _ _ _ (by simpa using hc)]; exact h
theorem hi0 : hi 0 = 0 := rfl
theorem lo0 : lo 0 = 0 := rfl

theorem or_sign {x : Nat} (h : x < 9223372036854775808) : bits .or .u64 (x : Int) 9223372036854775808 = ((wd true x : Nat) : Int) := by
  have := bits_or_u64_nat x 9223372036854775808 (by omega) (by omega)
  rw [show ((9223372036854775808 : Nat) : Int) = 9223372036854775808 from rfl] at this
  rw [this, Nat.or_comm]
  have e := or_add (P := 9223372036854775808) 63 rfl h 1
  rw [Nat.mul_one] at e
  rw [e]; rfl
theorem or_exp {L M : Nat} (h1 : 4503599627370496 ≤ M) (h2 : M < 9007199254740992) (hL : L ≤ 2000) : bits .or .u64 (((L : Int) - 1074 + 1075) * 4503599627370496) ((M : Int) - 4503599627370496) = ((L * 4503599627370496 + M : Nat) : Int) := by
  have := bits_or_u64_nat (4503599627370496 * (L + 1)) (M - 4503599627370496) (by omega) (by omega)
  rw [show ((4503599627370496 * (L + 1) : Nat) : Int) = ((L : Int) - 1074 + 1075) * 4503599627370496 by omega, show ((M - 4503599627370496 : Nat) : Int) = (M : Int) - 4503599627370496 by omega] at this
  rw [this, or_add (P := 4503599627370496) 52 rfl (by omega) (L + 1), show 4503599627370496 * (L + 1) + (M - 4503599627370496) = L * 4503599627370496 + M by omega]
theorem or_exp2 {L : Nat} {e sh : Int} (h : e + sh = (L : Int) - 1074) (hL : L ≤ 2000) : bits .or .u64 ((e + (sh + 1) + 1075) * 4503599627370496) 0 = ((L * 4503599627370496 + 9007199254740992 : Nat) : Int) := by
  have := bits_or_u64_nat (4503599627370496 * (L + 2)) 0 (by omega) (by omega)
  rw [show ((4503599627370496 * (L + 2) : Nat) : Int) = (e + (sh + 1) + 1075) * 4503599627370496 by omega] at this
  refine Eq.trans this ?_
  rw [Nat.or_zero, show 4503599627370496 * (L + 2) = L * 4503599627370496 + 9007199254740992 by omega]

theorem field_low (x y : Int) (w : World) : Sem.run Try.prog (Instr.field 77 (.agg #[.int .u64 x, .int .u64 y]) 1) w = .ok (.int .u64 y) w := by kernel_rfl
theorem lo_small {W : Nat} (h : W < 18446744073709551616) : lo W = W := Nat.mod_eq_of_lt h
theorem mod_back (W n : Nat) : W - W / 2 ^ n * 2 ^ n = W % 2 ^ n := by
  have := Nat.div_add_mod W (2 ^ n)
  rw [Nat.mul_comm] at this; omega

set_option maxRecDepth 100000 in
set_option maxHeartbeats 1000000 in
theorem round_any (w : World) (neg : Bool) (W : Nat) (e : Int) (more : Bool) (hW : W < MM) (he1 : -3000 ≤ e) (he2 : e ≤ 700) :
    Calls Try.prog 30 #[.bool neg, wW W, .int .i64 e, .bool more] w fun r w' => r = .returned (.int .u64 ((wd neg (rR W e more) : Nat) : Int)) ∧ Below w.heap.size w w' := by
  have hsz : sz W ≤ 128 := sz_le (by unfold MM at hW; omega)
  have HZ := hide (size_any (w.alloc (.cells #[.int .u64 ((hi W : Nat) : Int), .int .u64 ((lo W : Nat) : Int)] 77)) W hW)
  have HL : Hid (lastR W e = max (e + (sz W : Int) - 53) (-1074)) := hide rfl
  have HR : Hid (∀ (w : World) (n : Nat), n ≤ 100000 → Calls Try.prog 33 #[wW W, .int .i64 (n : Int)] w fun e w' => e = .returned (wW (W / 2 ^ n)) ∧ Below w.heap.size w w') := hide (fun w n hn => shr_any w W n hW hn)
  have HSl : Hid (∀ (w : World) (n : Nat), n ≤ 100000 → Calls Try.prog 32 #[wW W, .int .i64 (n : Int)] w fun e w' => e = .returned (wW (W * 2 ^ n % MM)) ∧ Below w.heap.size w w') := hide (fun w n hn => shl_any w W n hW hn)
  unfold wW at HZ HR HSl ⊢
  generalize hz : sz W = Z at *
  have HZe := hide hz
  clear hz
  go_enter Try.func30, Try.ntmps30
  go_upto_if 20 with (first
    | (go_at_call 38; refine HZ.out.mono ?_; rintro r w2 ⟨rfl, hb⟩; have HB2 : Hid (Below w.heap.size w w2) := hide (below_go ((Below.refl _ _).alloc (Nat.le_refl _) _) hb); have HX2 : Hid (Bw w2 w.heap.size W) := hide (Bw.kept (heap_alloc_new _ _) hb); clear hb))
  go_cut [9] (fun v wx => ∃ sh : Int, v = .int .i64 sh ∧ Hid (sh = lastR W e - e) ∧ wx = w2)
  case first =>
    go_wp2
    all_goals go_meet
    all_goals exact ⟨_, rfl, hide (by rw [HL.out]; omega), rfl⟩
  case rest =>
    obtain ⟨sh, rfl, HSH, rfl⟩ := hcut
    have hs1 : -53 ≤ sh := by have := HSH.out; have := HL.out; omega
    have hs2 : sh ≤ 2000 := by have := HSH.out; have := HL.out; omega
    clear HL HZ
    go_upto_if 24 with fail
    go_cut [10] (fun v wx => v = .int .u64 ((mR W e more : Nat) : Int) ∧ Hid (Below w.heap.size w wx))
    case first =>
      have x0 := HX2.out.c0
      have x1 := HX2.out.c1
      by_cases c1 : sh ≤ 0
      · obtain ⟨n, hn⟩ : ∃ n : Nat, -sh = (n : Int) := ⟨(-sh).toNat, by omega⟩
        have hm : mR W e more = W * 2 ^ n := by
          have := HSH.out
          unfold mR; rw [if_pos (by omega), show (e - lastR W e).toNat = n by omega]
        have hlt : W * 2 ^ n < 9007199254740992 := by
          have := (kept_lt W e).1 (by have := HSH.out; omega)
          rw [show (e - lastR W e).toNat = n by have := HSH.out; omega] at this; exact this
        have e1 : lo (W * 2 ^ n % MM) = W * 2 ^ n := by
          rw [Nat.mod_eq_of_lt (by unfold MM; omega)]; unfold lo; exact Nat.mod_eq_of_lt (by omega)
        have HS1 := HSl.out wc n (by omega)
        rw [e1] at HS1
        have HS1 := hide HS1
        have HM := hide hm
        have fl := field_low
        clear hm hlt e1 HSl HR
        generalize W * 2 ^ n = M at *
        go_wp2_with (first
          | (go_at_call 32; refine HS1.out.mono ?_; rintro r w3 ⟨rfl, hb⟩; have HB3 := hide hb; clear hb))
        go_meet
        exact ⟨by rw [HM.out], hide (below_go HB2.out HB3.out)⟩
      · obtain ⟨n, rfl⟩ : ∃ n : Nat, sh = (n : Int) := ⟨sh.toNat, by omega⟩
        have hm : mR W e more = W / 2 ^ n + (incR W n more).toNat := by
          have := HSH.out
          unfold mR; rw [if_neg (by omega), show (lastR W e - e).toNat = n by omega]
        have hlt : W / 2 ^ n < 9007199254740992 := by
          have := (kept_lt W e).2 (by have := HSH.out; omega)
          rw [show (lastR W e - e).toNat = n by have := HSH.out; omega] at this; exact this
        have HM := hide hm
        have fl := field_low
        have HS1 := HR.out wc n (by omega)
        rw [lo_small (show W / 2 ^ n < 18446744073709551616 by omega)] at HS1
        have HS1 := hide HS1
        have n1 : (0 : Int) < (n : Int) := by omega
        have hle : W / 2 ^ n * 2 ^ n ≤ W := Nat.div_mul_le_self _ _
        have hWn : W / 2 ^ n < MM := Nat.lt_of_le_of_lt (Nat.div_le_self _ _) hW
        have HRw : Hid (∀ w : World, Calls Try.prog 33 #[.agg #[.int .u64 ((hi W : Nat) : Int), .int .u64 ((lo W : Nat) : Int)], .int .i64 (n : Int)] w fun e w' => e = .returned (.agg #[.int .u64 ((hi (W / 2 ^ n) : Nat) : Int), .int .u64 ((lo (W / 2 ^ n) : Nat) : Int)]) ∧ Below w.heap.size w w') := hide (fun w => shr_any w W n hW (by omega))
        have HSw : Hid (∀ w : World, Calls Try.prog 32 #[.agg #[.int .u64 ((hi (W / 2 ^ n) : Nat) : Int), .int .u64 ((lo (W / 2 ^ n) : Nat) : Int)], .int .i64 (n : Int)] w fun e w' => e = .returned (.agg #[.int .u64 ((hi (W / 2 ^ n * 2 ^ n) : Nat) : Int), .int .u64 ((lo (W / 2 ^ n * 2 ^ n) : Nat) : Int)]) ∧ Below w.heap.size w w') := hide (fun w => by
          have := shl_any w (W / 2 ^ n) n hWn (by omega)
          rw [Nat.mod_eq_of_lt (Nat.lt_of_le_of_lt hle hW)] at this
          exact this)
        have HUw : Hid (∀ w : World, Calls Try.prog 36 #[.agg #[.int .u64 ((hi W : Nat) : Int), .int .u64 ((lo W : Nat) : Int)], .agg #[.int .u64 ((hi (W / 2 ^ n * 2 ^ n) : Nat) : Int), .int .u64 ((lo (W / 2 ^ n * 2 ^ n) : Nat) : Int)]] w fun e w' => e = .returned (.agg #[.int .u64 ((hi (W % 2 ^ n) : Nat) : Int), .int .u64 ((lo (W % 2 ^ n) : Nat) : Int)]) ∧ Below w.heap.size w w') := hide (fun w => by
          have := sub_any w W (W / 2 ^ n * 2 ^ n) hW hle
          rw [mod_back] at this
          exact this)
        have h128 : 128 ≤ n → W % 2 ^ n = W := fun h => Nat.mod_eq_of_lt (Nat.lt_of_lt_of_le hW (show MM ≤ 2 ^ n by
          have : 2 ^ 128 ≤ 2 ^ n := Nat.pow_le_pow_right (by omega) h
          unfold MM; omega))
        have H128 := hide h128
        have HV4 : Hid (W % 2 ^ n ≤ W) := hide (Nat.mod_le _ _)
        have HM1 : Hid (mR W e more = W / 2 ^ n + (decide (2 ^ (n - 1) < W % 2 ^ n) || (W % 2 ^ n == 2 ^ (n - 1) && (more || W / 2 ^ n % 2 == 1))).toNat) := hide hm
        clear hm HSl HR hle hWn HM h128
        generalize W / 2 ^ n * 2 ^ n = V3 at *
        generalize W / 2 ^ n = V2 at *
        generalize W % 2 ^ n = V4 at *
        go_upto_region 8 with (first
          | (go_at_call 33; refine HS1.out.mono ?_; rintro r w3 ⟨rfl, hb⟩; have HB3 := hide (below_go HB2.out hb); have HX3 := hide (HX2.out.kept hb); clear hb))
        clear x0 x1
        have x0 := HX3.out.c0
        have x1 := HX3.out.c1
        go_cut [11] (fun v wx => ∃ f : Nat, v = .pointer (some ⟨f, 0, none⟩) ∧ Hid (Bw wx f V4) ∧ Hid (Bw wx w.heap.size W) ∧ Hid (Below w.heap.size w wx) ∧ Hid (w.heap.size < f))
        case first =>
          go_region_held3 (fun w' => w'.cell? ⟨w.heap.size, 0, none⟩ = some (.int .u64 ((hi W : Nat) : Int)) ∧ w'.cell? ⟨w.heap.size, 1, none⟩ = some (.int .u64 ((lo W : Nat) : Int))) (go_keep)
            (first
              | (go_at_call 36; refine (HUw.out _).mono ?_; rintro r u3 ⟨rfl, hb⟩; clear x0 x1; first | (have hq := (show Below (u2.alloc (.cells #[.int .u64 0, .int .u64 0] 77)).heap.size (u2.alloc (.cells #[.int .u64 0, .int .u64 0] 77)) u3 from hb); have HXu3 := hide ((HXu2.out.alloc (.cells #[.int .u64 0, .int .u64 0] 77)).below rfl hq); have HBu3 := hide (below_go (below_alloc HBu2.out (.cells #[.int .u64 0, .int .u64 0] 77)) hq); have HFu3 := hide ((bw_nil u2).below rfl hq); have ne1 : ¬ w.heap.size = u2.heap.size := (by have := HXu2.out.lt; omega); have ne2 : ¬ u2.heap.size = w.heap.size := (by omega); have z0 := HFu3.out.c0; rw [hi0] at z0; have z1 := HFu3.out.c1; rw [lo0] at z1; have zf := HFu3.out.thaw; obtain ⟨x0, x1⟩ := cells2 HXu3.out; clear hb hq) | (have hq := (show Below (u2).heap.size (u2) u3 from hb); have HXu3 := hide (HXu2.out.below rfl hq); have HBu3 := hide (below_go HBu2.out hq); have HFu3 := hide (HFu2.out.below rfl hq); have z0 := HFu3.out.c0; rw [hi0] at z0; have z1 := HFu3.out.c1; rw [lo0] at z1; have zf := HFu3.out.thaw; obtain ⟨x0, x1⟩ := cells2 HXu3.out; clear hb hq) | (have hq := (show Below (u2).heap.size (u2) u3 from hb); have HXu3 := hide (HXu2.out.below rfl hq); have HBu3 := hide (below_go HBu2.out hq); obtain ⟨x0, x1⟩ := cells2 HXu3.out; clear hb hq))
              | (go_at_call 32; refine (HSw.out _).mono ?_; rintro r u2 ⟨rfl, hb⟩; clear x0 x1; first | (have hq := (show Below (u1.alloc (.cells #[.int .u64 0, .int .u64 0] 77)).heap.size (u1.alloc (.cells #[.int .u64 0, .int .u64 0] 77)) u2 from hb); have HXu2 := hide ((HXu1.out.alloc (.cells #[.int .u64 0, .int .u64 0] 77)).below rfl hq); have HBu2 := hide (below_go (below_alloc HBu1.out (.cells #[.int .u64 0, .int .u64 0] 77)) hq); have HFu2 := hide ((bw_nil u1).below rfl hq); have ne1 : ¬ w.heap.size = u1.heap.size := (by have := HXu1.out.lt; omega); have ne2 : ¬ u1.heap.size = w.heap.size := (by omega); have z0 := HFu2.out.c0; rw [hi0] at z0; have z1 := HFu2.out.c1; rw [lo0] at z1; have zf := HFu2.out.thaw; obtain ⟨x0, x1⟩ := cells2 HXu2.out; clear hb hq) | (have hq := (show Below (u1).heap.size (u1) u2 from hb); have HXu2 := hide (HXu1.out.below rfl hq); have HBu2 := hide (below_go HBu1.out hq); have HFu2 := hide (HFu1.out.below rfl hq); have z0 := HFu2.out.c0; rw [hi0] at z0; have z1 := HFu2.out.c1; rw [lo0] at z1; have zf := HFu2.out.thaw; obtain ⟨x0, x1⟩ := cells2 HXu2.out; clear hb hq) | (have hq := (show Below (u1).heap.size (u1) u2 from hb); have HXu2 := hide (HXu1.out.below rfl hq); have HBu2 := hide (below_go HBu1.out hq); obtain ⟨x0, x1⟩ := cells2 HXu2.out; clear hb hq))
              | (go_at_call 33; refine (HRw.out _).mono ?_; rintro r u1 ⟨rfl, hb⟩; clear x0 x1; first | (have hq := below_undrew (w := w3.alloc (.cells #[.int .u64 0, .int .u64 0] 77)) hb; have HXu1 := hide ((HX3.out.alloc (.cells #[.int .u64 0, .int .u64 0] 77)).below rfl hq); have HBu1 := hide (below_go (below_alloc HB3.out (.cells #[.int .u64 0, .int .u64 0] 77)) hq); have HFu1 := hide ((bw_nil w3).below rfl hq); have ne1 : ¬ w.heap.size = w3.heap.size := (by have := HX3.out.lt; omega); have ne2 : ¬ w3.heap.size = w.heap.size := (by omega); have z0 := HFu1.out.c0; rw [hi0] at z0; have z1 := HFu1.out.c1; rw [lo0] at z1; have zf := HFu1.out.thaw; obtain ⟨x0, x1⟩ := cells2 HXu1.out; clear hb hq) | (have hq := below_undrew (w := w3) hb; have HXu1 := hide (HX3.out.below rfl hq); have HBu1 := hide (below_go HB3.out hq); obtain ⟨x0, x1⟩ := cells2 HXu1.out; clear hb hq))
              | fail)
          all_goals go_wp2
          all_goals go_meet
          · exact ⟨u3.heap.size, rfl, hide (heap_alloc_new _ _), hide (HXu3.out.alloc _), hide (below_alloc HBu3.out _), hide HXu3.out.lt⟩
          · have hl := HXu2.out.lt
            exact ⟨u2.heap.size, rfl, hide (HFu3.out.set V4), hide (HXu3.out.other ne1 _ _), hide (below_set2 HBu3.out (by omega) _ _), hide (by omega)⟩
          · have hl := HXu1.out.lt
            exact ⟨u1.heap.size, rfl, hide (HFu3.out.set V4), hide (HXu3.out.other ne1 _ _), hide (below_set2 HBu3.out (by omega) _ _), hide (by omega)⟩
          · have hl := HX3.out.lt
            exact ⟨w3.heap.size, rfl, hide (HFu3.out.set V4), hide (HXu3.out.other ne1 _ _), hide (below_set2 HBu3.out (by omega) _ _), hide (by omega)⟩
        case rest =>
          obtain ⟨f, rfl, HF4, HX4, HB4, Hwf⟩ := hcut
          clear HUw HSw HRw HS1 HX3 HB3 x0 x1
          go_upto_if 42 with fail
          go_cut [11] (fun v wx => v = .pointer (some ⟨f, 0, none⟩) ∧ Hid (Bw wx f V4) ∧ Hid (Below w.heap.size w wx))
          case first =>
            have x0 := HX4.out.c0
            have x1 := HX4.out.c1
            have z0 := HF4.out.c0
            have z1 := HF4.out.c1
            have zf := HF4.out.thaw
            by_cases h1 : 128 ≤ n
            · have h1' : (128 : Int) ≤ (n : Int) := by omega
              go_wp2
              go_meet
              have hV := H128.out h1
              exact ⟨rfl, hide (by rw [hV]; exact HF4.out.set W), hide (below_set2 HB4.out (by have := Hwf.out; omega) _ _)⟩
            · have h1' : ¬ (128 : Int) ≤ (n : Int) := by omega
              go_wp2
              go_meet
              exact ⟨rfl, HF4, HB4⟩
          case rest =>
            obtain ⟨rfl, HF5, HB5⟩ := hcut
            have HSh : Hid (∀ w : World, Calls Try.prog 32 #[.agg #[.int .u64 0, .int .u64 1], .int .i64 ((n : Int) - 1)] w fun e w' => e = .returned (.agg #[.int .u64 ((hi (2 ^ (n - 1) % MM) : Nat) : Int), .int .u64 ((lo (2 ^ (n - 1) % MM) : Nat) : Int)]) ∧ Below w.heap.size w w') := hide (fun w => by
              have := shl_any w 1 (n - 1) (by unfold MM; omega) (by omega)
              rw [Nat.one_mul, show ((n - 1 : Nat) : Int) = (n : Int) - 1 by omega] at this
              exact this)
            have HV5 : Hid (n ≤ 128 → 2 ^ (n - 1) % MM = 2 ^ (n - 1)) := hide (fun h => Nat.mod_eq_of_lt (by
              have : 2 ^ (n - 1) ≤ 2 ^ 127 := Nat.pow_le_pow_right (by omega) (by omega)
              unfold MM; omega))
            have HLs : Hid (∀ w : World, Calls Try.prog 35 #[.agg #[.int .u64 ((hi (2 ^ (n - 1) % MM) : Nat) : Int), .int .u64 ((lo (2 ^ (n - 1) % MM) : Nat) : Int)], .agg #[.int .u64 ((hi V4 : Nat) : Int), .int .u64 ((lo V4 : Nat) : Int)]] w fun e w' => e = .returned (.bool (decide (2 ^ (n - 1) % MM < V4))) ∧ Below w.heap.size w w') := hide (fun w => less_any w _ V4)
            have HN2 : Hid (128 < n → V4 < 2 ^ (n - 1)) := hide (fun h => by
              have : 2 ^ 128 ≤ 2 ^ (n - 1) := Nat.pow_le_pow_right (by omega) (by omega)
              have := HV4.out
              unfold MM at hW; omega)
            generalize 2 ^ (n - 1) % MM = V5 at *
            generalize 2 ^ (n - 1) = V6 at *
            clear HX4 HB4 HF4 Hwf H128
            by_cases h1 : 128 < n
            · have h1' : ¬ (n : Int) ≤ 128 := by omega
              have hi1 : mR W e more = V2 := by
                have := HN2.out h1
                rw [HM1.out, decide_eq_false (by omega), beq_eq_false_iff_ne.2 (by omega)]; rfl
              have HM2 := hide hi1
              clear hi1
              go_wp2_with (first
                | (go_at_call 32; refine (HSh.out _).mono ?_; rintro r w6 ⟨rfl, hb⟩; have HB6 := hide (below_go HB5.out hb); have HF6 := hide (HF5.out.kept hb); have hf6 := HF6.out.lt; have ne1 : ¬ f = w6.heap.size := (by omega); have ne2 : ¬ w6.heap.size = f := (by omega); obtain ⟨y0, y1⟩ := cells2 HF6.out; have HG7 : Hid (Bw (w6.alloc (.cells #[.int .u64 ((hi V5 : Nat) : Int), .int .u64 ((lo V5 : Nat) : Int)] 77)) w6.heap.size V5) := hide (heap_alloc_new _ _); have HF7 := hide (HF6.out.alloc (.cells #[.int .u64 ((hi V5 : Nat) : Int), .int .u64 ((lo V5 : Nat) : Int)] 77)); have HB7 := hide (below_alloc HB6.out (.cells #[.int .u64 ((hi V5 : Nat) : Int), .int .u64 ((lo V5 : Nat) : Int)] 77)); clear hb)
                | (go_at_call 35; refine (HLs.out _).mono ?_; rintro r w8 ⟨rfl, hb⟩; have HB8 := hide (below_go HB7.out hb); have HF8 := hide (HF7.out.kept hb); have HG8 := hide (HG7.out.kept hb); obtain ⟨p0, p1⟩ := cells2 HF8.out; obtain ⟨g0, g1⟩ := cells2 HG8.out; clear hb))
              go_meet
              exact ⟨by rw [HM2.out], HB7⟩
            have h1' : (n : Int) ≤ 128 := by omega
            obtain rfl := HV5.out (by omega)
            clear HV5 HN2
            by_cases h2 : V5 < V4
            · have hi1 : mR W e more = V2 + 1 := by rw [HM1.out, decide_eq_true h2]; rfl
              have HM2 := hide hi1
              rw [decide_eq_true h2] at HLs
              clear hi1
              go_wp2_with (first
                | (go_at_call 32; refine (HSh.out _).mono ?_; rintro r w6 ⟨rfl, hb⟩; have HB6 := hide (below_go HB5.out hb); have HF6 := hide (HF5.out.kept hb); have hf6 := HF6.out.lt; have ne1 : ¬ f = w6.heap.size := (by omega); have ne2 : ¬ w6.heap.size = f := (by omega); obtain ⟨y0, y1⟩ := cells2 HF6.out; have HG7 : Hid (Bw (w6.alloc (.cells #[.int .u64 ((hi V5 : Nat) : Int), .int .u64 ((lo V5 : Nat) : Int)] 77)) w6.heap.size V5) := hide (heap_alloc_new _ _); have HF7 := hide (HF6.out.alloc (.cells #[.int .u64 ((hi V5 : Nat) : Int), .int .u64 ((lo V5 : Nat) : Int)] 77)); have HB7 := hide (below_alloc HB6.out (.cells #[.int .u64 ((hi V5 : Nat) : Int), .int .u64 ((lo V5 : Nat) : Int)] 77)); clear hb)
                | (go_at_call 35; refine (HLs.out _).mono ?_; rintro r w8 ⟨rfl, hb⟩; have HB8 := hide (below_go HB7.out hb); have HF8 := hide (HF7.out.kept hb); have HG8 := hide (HG7.out.kept hb); obtain ⟨p0, p1⟩ := cells2 HF8.out; obtain ⟨g0, g1⟩ := cells2 HG8.out; clear hb))
              go_meet
              exact ⟨by rw [HM2.out]; rfl, HB8⟩
            rw [decide_eq_false h2] at HLs HM1
            by_cases h3 : V4 = V5
            · subst h3
              rw [beq_self_eq_true, Bool.false_or, Bool.true_and] at HM1
              cases more
              · by_cases h4 : V2 % 2 = 1
                · have h4' : (V2 : Int) % 2 = 1 := by omega
                  have HM2 : Hid (mR W e false = V2 + 1) := hide (by rw [HM1.out, h4]; rfl)
                  go_wp2_with (first
                    | (go_at_call 32; refine (HSh.out _).mono ?_; rintro r w6 ⟨rfl, hb⟩; have HB6 := hide (below_go HB5.out hb); have HF6 := hide (HF5.out.kept hb); have hf6 := HF6.out.lt; have ne1 : ¬ f = w6.heap.size := (by omega); have ne2 : ¬ w6.heap.size = f := (by omega); obtain ⟨y0, y1⟩ := cells2 HF6.out; have HG7 : Hid (Bw (w6.alloc (.cells #[.int .u64 ((hi V4 : Nat) : Int), .int .u64 ((lo V4 : Nat) : Int)] 77)) w6.heap.size V4) := hide (heap_alloc_new _ _); have HF7 := hide (HF6.out.alloc (.cells #[.int .u64 ((hi V4 : Nat) : Int), .int .u64 ((lo V4 : Nat) : Int)] 77)); have HB7 := hide (below_alloc HB6.out (.cells #[.int .u64 ((hi V4 : Nat) : Int), .int .u64 ((lo V4 : Nat) : Int)] 77)); clear hb)
                    | (go_at_call 35; refine (HLs.out _).mono ?_; rintro r w8 ⟨rfl, hb⟩; have HB8 := hide (below_go HB7.out hb); have HF8 := hide (HF7.out.kept hb); have HG8 := hide (HG7.out.kept hb); obtain ⟨p0, p1⟩ := cells2 HF8.out; obtain ⟨g0, g1⟩ := cells2 HG8.out; clear hb))
                  go_meet
                  exact ⟨by rw [HM2.out]; rfl, HB8⟩
                · have h4' : (V2 : Int) % 2 = 0 := by omega
                  have HM2 : Hid (mR W e false = V2) := hide (by rw [HM1.out, show V2 % 2 = 0 by omega]; rfl)
                  go_wp2_with (first
                    | (go_at_call 32; refine (HSh.out _).mono ?_; rintro r w6 ⟨rfl, hb⟩; have HB6 := hide (below_go HB5.out hb); have HF6 := hide (HF5.out.kept hb); have hf6 := HF6.out.lt; have ne1 : ¬ f = w6.heap.size := (by omega); have ne2 : ¬ w6.heap.size = f := (by omega); obtain ⟨y0, y1⟩ := cells2 HF6.out; have HG7 : Hid (Bw (w6.alloc (.cells #[.int .u64 ((hi V4 : Nat) : Int), .int .u64 ((lo V4 : Nat) : Int)] 77)) w6.heap.size V4) := hide (heap_alloc_new _ _); have HF7 := hide (HF6.out.alloc (.cells #[.int .u64 ((hi V4 : Nat) : Int), .int .u64 ((lo V4 : Nat) : Int)] 77)); have HB7 := hide (below_alloc HB6.out (.cells #[.int .u64 ((hi V4 : Nat) : Int), .int .u64 ((lo V4 : Nat) : Int)] 77)); clear hb)
                    | (go_at_call 35; refine (HLs.out _).mono ?_; rintro r w8 ⟨rfl, hb⟩; have HB8 := hide (below_go HB7.out hb); have HF8 := hide (HF7.out.kept hb); have HG8 := hide (HG7.out.kept hb); obtain ⟨p0, p1⟩ := cells2 HF8.out; obtain ⟨g0, g1⟩ := cells2 HG8.out; clear hb))
                  go_meet
                  exact ⟨by rw [HM2.out], HB8⟩
              · have HM2 : Hid (mR W e true = V2 + 1) := hide (by rw [HM1.out]; rfl)
                go_wp2_with (first
                  | (go_at_call 32; refine (HSh.out _).mono ?_; rintro r w6 ⟨rfl, hb⟩; have HB6 := hide (below_go HB5.out hb); have HF6 := hide (HF5.out.kept hb); have hf6 := HF6.out.lt; have ne1 : ¬ f = w6.heap.size := (by omega); have ne2 : ¬ w6.heap.size = f := (by omega); obtain ⟨y0, y1⟩ := cells2 HF6.out; have HG7 : Hid (Bw (w6.alloc (.cells #[.int .u64 ((hi V4 : Nat) : Int), .int .u64 ((lo V4 : Nat) : Int)] 77)) w6.heap.size V4) := hide (heap_alloc_new _ _); have HF7 := hide (HF6.out.alloc (.cells #[.int .u64 ((hi V4 : Nat) : Int), .int .u64 ((lo V4 : Nat) : Int)] 77)); have HB7 := hide (below_alloc HB6.out (.cells #[.int .u64 ((hi V4 : Nat) : Int), .int .u64 ((lo V4 : Nat) : Int)] 77)); clear hb)
                  | (go_at_call 35; refine (HLs.out _).mono ?_; rintro r w8 ⟨rfl, hb⟩; have HB8 := hide (below_go HB7.out hb); have HF8 := hide (HF7.out.kept hb); have HG8 := hide (HG7.out.kept hb); obtain ⟨p0, p1⟩ := cells2 HF8.out; obtain ⟨g0, g1⟩ := cells2 HG8.out; clear hb))
                go_meet
                exact ⟨by rw [HM2.out]; rfl, HB8⟩
            · have HM2 : Hid (mR W e more = V2) := hide (by rw [HM1.out, beq_eq_false_iff_ne.2 h3]; rfl)
              have HNE := hide h3
              have HEx := hide (@wide_ext V4 V5)
              clear h3
              go_wp2_with (first
                | (go_at_call 32; refine (HSh.out _).mono ?_; rintro r w6 ⟨rfl, hb⟩; have HB6 := hide (below_go HB5.out hb); have HF6 := hide (HF5.out.kept hb); have hf6 := HF6.out.lt; have ne1 : ¬ f = w6.heap.size := (by omega); have ne2 : ¬ w6.heap.size = f := (by omega); obtain ⟨y0, y1⟩ := cells2 HF6.out; have HG7 : Hid (Bw (w6.alloc (.cells #[.int .u64 ((hi V5 : Nat) : Int), .int .u64 ((lo V5 : Nat) : Int)] 77)) w6.heap.size V5) := hide (heap_alloc_new _ _); have HF7 := hide (HF6.out.alloc (.cells #[.int .u64 ((hi V5 : Nat) : Int), .int .u64 ((lo V5 : Nat) : Int)] 77)); have HB7 := hide (below_alloc HB6.out (.cells #[.int .u64 ((hi V5 : Nat) : Int), .int .u64 ((lo V5 : Nat) : Int)] 77)); clear hb)
                | (go_at_call 35; refine (HLs.out _).mono ?_; rintro r w8 ⟨rfl, hb⟩; have HB8 := hide (below_go HB7.out hb); have HF8 := hide (HF7.out.kept hb); have HG8 := hide (HG7.out.kept hb); obtain ⟨p0, p1⟩ := cells2 HF8.out; obtain ⟨g0, g1⟩ := cells2 HG8.out; clear hb))
              · exfalso; exact HNE.out (HEx.out (by omega) (by omega))
              · exfalso; exact HNE.out (HEx.out (by omega) (by omega))
              · exfalso; exact HNE.out (HEx.out (by omega) (by omega))
              · go_meet
                exact ⟨by rw [HM2.out], HB8⟩
              · go_meet
                exact ⟨by rw [HM2.out], HB8⟩
    case rest =>
      obtain ⟨rfl, HB9⟩ := hcut
      have hM := mR_le W e more
      have HG := hide (mR_ge (W := W) e more)
      have HZ0 := hide (mR_zero e more)
      have HrR : Hid (rR W e more = if W = 0 then 0 else (lastR W e + 1074).toNat * 4503599627370496 + mR W e more) := hide rfl
      obtain ⟨L, hL⟩ : ∃ L : Nat, lastR W e + 1074 = (L : Int) := ⟨(lastR W e + 1074).toNat, by have : -1074 ≤ lastR W e := Int.le_max_right ..; omega⟩
      have hL2 : L ≤ 2000 := by have := HSH.out; have hz := HZe.out; unfold lastR at hL; rw [hz] at hL; omega
      have hsh : e + sh = (L : Int) - 1074 := by have := HSH.out; omega
      have HL1 := hide hL
      clear HR HSl HX2 HB2 hL
      by_cases m1 : mR W e more < 4503599627370496
      · have hr : rR W e more = mR W e more := by
          rw [HrR.out]
          split
          · rename_i h0; subst h0; exact HZ0.out.symm
          · rename_i h0
            have hl : ¬ -1074 < lastR W e := fun h => by have := HG.out h0 h; omega
            have := HL1.out
            rw [show (lastR W e + 1074).toNat = 0 by omega, Nat.zero_mul, Nat.zero_add]
        have HrM := hide hr
        clear hr HrR HG HZ0
        generalize mR W e more = M at *
        have m1' : ¬ (4503599627370496 : Int) ≤ (M : Int) := by omega
        go_wp2
        · rw [or_sign (by omega)]
          go_ret
          exact ⟨by rw [HrM.out]; rfl, HB9.out⟩
        · go_ret
          exact ⟨by rw [HrM.out]; rfl, HB9.out⟩
      · have hrM : rR W e more = L * 4503599627370496 + mR W e more := by
          rw [HrR.out]
          split
          · rename_i h0; subst h0; have := HZ0.out; omega
          · rw [show (lastR W e + 1074).toNat = L by have := HL1.out; omega]
        have HrM := hide hrM
        clear hrM HrR HG HZ0
        generalize mR W e more = M at *
        have m1' : (4503599627370496 : Int) ≤ (M : Int) := by omega
        have m1 : 4503599627370496 ≤ M := by omega
        by_cases m2 : M < 9007199254740992
        · have m2' : ¬ (9007199254740992 : Int) ≤ (M : Int) := by omega
          go_wp2
          · rw [or_exp m1 m2 hL2, or_sign (by omega)]
            go_ret
            exact ⟨by rw [HrM.out]; rfl, HB9.out⟩
          · rw [or_exp m1 m2 hL2]
            go_ret
            exact ⟨by rw [HrM.out]; rfl, HB9.out⟩
        · obtain rfl : M = 9007199254740992 := by omega
          go_wp2
          · rename_i hn
            rw [or_exp2 hsh hL2, or_sign (by omega)]
            go_ret
            exact ⟨by rw [HrM.out, hn]; rfl, HB9.out⟩
          · rename_i hn
            rw [or_exp2 hsh hL2]
            go_ret
            exact ⟨by rw [HrM.out, hn]; rfl, HB9.out⟩
end Go.Proofs.Ytfcakfedlcajaaa
