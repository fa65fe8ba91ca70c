import Derived.Test.YtfcakfedlcajaaaTrC
import Derived.Test.YtfcakfedlcajaaaTwP
import Derived.Laws.Rows
import Derived.Laws.Bits64b
namespace Go.Proofs.Ytfcakfedlcajaaa
open Go.RowKit
open Fl

/-- A wide number as a value. -/
def wv (H L : Nat) : Value := .agg #[.int .u64 (H : Int), .int .u64 (L : Int)]
theorem Try.sizeWide : (Try.prog.info? 77).map (·.size) = some 2 := by kernel_rfl

theorem block_set {w : World} {b i : Nat} {c : Array Value} {t : TypeId} (h : w.heap[b]? = some (.cells c t (0, 0))) (v : Value) : (w.setCell ⟨b, i, none⟩ v).heap[b]? = some (.cells (c.setIfInBounds i v) t (0, 0)) := heap_setCell_same _ _ _ _ _ _ h
theorem store2 {w : World} {b : Nat} {x y x' y' : Value} {t : TypeId} (h : w.heap[b]? = some (.cells #[x, y] t (0, 0))) : ((w.setCell ⟨b, 0, none⟩ x').setCell ⟨b, 1, none⟩ y').heap[b]? = some (.cells #[x', y'] t (0, 0)) := by
  rw [block_set (block_set h x')]; rfl
theorem below_set2 {B b : Nat} {w0 w : World} (h : Below B w0 w) (hb : B ≤ b) (x y : Value) : Below B w0 ((w.setCell ⟨b, 0, none⟩ x).setCell ⟨b, 1, none⟩ y) := (h.setCell (p := ⟨b, 0, none⟩) hb x).setCell (p := ⟨b, 1, none⟩) hb y

theorem end_wide {fn : Func} {p : Tmp} (hr : fn.results = #[.cell p 77]) {tmps : Array Value} {w : World} {g : Nat} {x y : Value} {Q : Ending → World → Prop}
    (hp : tmps.getD p undef = .pointer (some ⟨g, 0, none⟩)) (hg : w.heap[g]? = some (.cells #[x, y] 77 (0, 0))) (h : Q (.returned (.agg #[x, y])) w) : bodyPost Try.prog fn Q .ret ⟨tmps, []⟩ w :=
  bodyPost_ret (results_cell_row hr _ _ g _ _ _ _ hp hg Try.underlying77 rfl Try.sizeWide) rfl h
theorem heap_two (w : World) (A B : Obj) : ((w.alloc A).alloc B).heap[w.heap.size + 1]? = some B := by
  have e : (w.alloc A).heap.size = w.heap.size + 1 := by unfold World.alloc; exact Array.size_push _
  rw [← e]; exact heap_alloc_new _ _
theorem heap_three (w : World) (A B C : Obj) : (((w.alloc A).alloc B).alloc C).heap[w.heap.size + 1 + 1]? = some C := by
  have e : (w.alloc A).heap.size = w.heap.size + 1 := by unfold World.alloc; exact Array.size_push _
  rw [← e]; exact heap_two _ _ _
theorem below_two (w : World) (A B : Obj) : Below w.heap.size w ((w.alloc A).alloc B) := ((Below.refl _ _).alloc (Nat.le_refl _) _).alloc (by unfold World.alloc; rw [Array.size_push]; omega) _
theorem below_three (w : World) (A B C : Obj) : Below w.heap.size w (((w.alloc A).alloc B).alloc C) := (below_two w A B).alloc (by unfold World.alloc; rw [Array.size_push, Array.size_push]; omega) _
/-- Wide numbers by halves. -/
def hi (W : Nat) : Nat := W / 18446744073709551616
def lo (W : Nat) : Nat := W % 18446744073709551616
def wW (W : Nat) : Value := .agg #[.int .u64 ((hi W : Nat) : Int), .int .u64 ((lo W : Nat) : Int)]
theorem hl_of {W H L : Nat} (h : H * 18446744073709551616 + L = W) (hL : L < 18446744073709551616) : hi W = H ∧ lo W = L := by
  unfold hi lo; omega
theorem wW_of {W H L : Nat} (h : H * 18446744073709551616 + L = W) (hL : L < 18446744073709551616) : wW W = .agg #[.int .u64 (H : Int), .int .u64 (L : Int)] := by
  obtain ⟨a, b⟩ := hl_of h hL; unfold wW; rw [a, b]
theorem hl_eq (W : Nat) : hi W * 18446744073709551616 + lo W = W := by unfold hi lo; omega
theorem lo_lt (W : Nat) : lo W < 18446744073709551616 := by unfold lo; omega
theorem hi_lt {W : Nat} (h : W < 18446744073709551616 * 18446744073709551616) : hi W < 18446744073709551616 := by unfold hi; omega
theorem add_c {HA LA HB LB : Nat} (a1 : LA < 18446744073709551616) (b1 : LB < 18446744073709551616) (c : (LA + LB) % 18446744073709551616 < LA) :
    (((HA + HB) % 18446744073709551616 + 1) % 18446744073709551616) * 18446744073709551616 + (LA + LB) % 18446744073709551616 = (HA * 18446744073709551616 + LA + (HB * 18446744073709551616 + LB)) % (18446744073709551616 * 18446744073709551616) := by
  have e1 : LA + LB = 18446744073709551616 + (LA + LB) % 18446744073709551616 := by omega
  have e2 : HA * 18446744073709551616 + LA + (HB * 18446744073709551616 + LB) = (LA + LB) % 18446744073709551616 + 18446744073709551616 * (HA + HB + 1) := by omega
  have e3 : (LA + LB) % 18446744073709551616 < 18446744073709551616 := Nat.mod_lt _ (by omega)
  rw [e2]
  generalize (LA + LB) % 18446744073709551616 = z at e3 ⊢
  clear e1 e2 c a1 b1
  generalize HA + HB = h
  rw [Nat.mod_mul, Nat.add_mul_mod_self_left, Nat.mod_eq_of_lt e3, Nat.add_mul_div_left _ _ (by omega), Nat.div_eq_of_lt e3]
  omega
theorem add_n {HA LA HB LB : Nat} (a1 : LA < 18446744073709551616) (b1 : LB < 18446744073709551616) (c : ¬ (LA + LB) % 18446744073709551616 < LA) :
    ((HA + HB) % 18446744073709551616) * 18446744073709551616 + (LA + LB) % 18446744073709551616 = (HA * 18446744073709551616 + LA + (HB * 18446744073709551616 + LB)) % (18446744073709551616 * 18446744073709551616) := by
  have e2 : HA * 18446744073709551616 + LA + (HB * 18446744073709551616 + LB) = (LA + LB) % 18446744073709551616 + 18446744073709551616 * (HA + HB) := by omega
  have e3 : (LA + LB) % 18446744073709551616 < 18446744073709551616 := Nat.mod_lt _ (by omega)
  rw [e2]
  generalize (LA + LB) % 18446744073709551616 = z at e3 ⊢
  clear e2 c a1 b1
  generalize HA + HB = h
  rw [Nat.mod_mul, Nat.add_mul_mod_self_left, Nat.mod_eq_of_lt e3, Nat.add_mul_div_left _ _ (by omega), Nat.div_eq_of_lt e3]
  omega
theorem sub_c {HA LA HB LB A B : Nat} (eA : HA * 18446744073709551616 + LA = A) (eB : HB * 18446744073709551616 + LB = B) (h : B ≤ A) (b1 : LB < 18446744073709551616) (c : LA < LB) : (HA - HB - 1) * 18446744073709551616 + (LA + 18446744073709551616 - LB) = A - B ∧ HB < HA := by omega
theorem sub_g {HA LA HB LB A B K : Nat} (eA : HA * K + LA = A) (eB : HB * K + LB = B) (h : HB ≤ HA) (c : ¬ LA < LB) : (HA - HB) * K + (LA - LB) = A - B := by
  have h2 : HB * K ≤ HA * K := Nat.mul_le_mul_right _ h
  rw [Nat.sub_mul]
  generalize HA * K = p at *
  generalize HB * K = q at *
  omega
theorem sub_n {HA LA HB LB A B : Nat} (eA : HA * 18446744073709551616 + LA = A) (eB : HB * 18446744073709551616 + LB = B) (h : HB ≤ HA) (c : ¬ LA < LB) : (HA - HB) * 18446744073709551616 + (LA - LB) = A - B := sub_g eA eB h c
theorem less_hl {HA LA HB LB A B : Nat} (eA : HA * 18446744073709551616 + LA = A) (eB : HB * 18446744073709551616 + LB = B) (a1 : LA < 18446744073709551616) (b1 : LB < 18446744073709551616) : A < B ↔ (HA < HB ∨ (HA = HB ∧ LA < LB)) := by omega
theorem wrap_nat (n : Nat) : IntKind.u64.wrap (n : Int) = ((n % 18446744073709551616 : Nat) : Int) := by
  rw [IntKind.wrap_u64]; omega
theorem pow_int (n : Nat) : (2 : Int) ^ n = ((2 ^ n : Nat) : Int) := by simp
def MM : Nat := 18446744073709551616 * 18446744073709551616

set_option maxRecDepth 100000 in
theorem shl_any (w : World) (W n : Nat) (hW : W < MM) (hn : n ≤ 100000) :
    Calls Try.prog 32 #[wW W, .int .i64 (n : Int)] w fun e w' => e = .returned (wW (W * 2 ^ n % MM)) ∧ Below w.heap.size w w' := by
  have hL := lo_lt W
  have hH := hi_lt hW
  have hWe := hl_eq W
  by_cases h1 : 128 ≤ n
  · have h1' : (128 : Int) ≤ (n : Int) := by omega
    have e : Hid (W * 2 ^ n % MM = 0) := by
      show _ = _
      rw [show n = (n - 128) + 128 by omega, Nat.pow_add, ← Nat.mul_assoc, show 2 ^ 128 = MM by unfold MM; omega, Nat.mul_mod_left]
    unfold wW
    generalize hi W = H at *
    generalize lo W = L at *
    rw [e.out]
    go_enter Try.func32, Try.ntmps32
    go_wp2
    exact end_wide rfl rfl (heap_two _ _ _) ⟨rfl, below_two _ _ _⟩
  · by_cases h2 : 64 ≤ n
    · have h2' : (64 : Int) ≤ (n : Int) := by omega
      have h1' : (n : Int) < 128 := by omega
      have e : Hid (wW (W * 2 ^ n % MM) = .agg #[.int .u64 ((lo W * 2 ^ (n - 64) % 18446744073709551616 : Nat) : Int), .int .u64 0]) := by
        refine hide (wW_of (L := 0) ?_ (by omega))
        have := shl_high (H := hi W) (L := lo W) (P := 2 ^ (n - 64)) (B := 18446744073709551616)
        rw [hWe, show 2 ^ (n - 64) * 18446744073709551616 = 2 ^ n by rw [show 18446744073709551616 = 2 ^ 64 by omega, ← Nat.pow_add, show n - 64 + 64 = n by omega]] at this
        exact this
      rw [e.out]
      unfold wW
      generalize hi W = H at *
      generalize lo W = L at *
      have e2 : Hid (IntKind.u64.wrap ((L : Int) * 2 ^ (n - 64)) = ((L * 2 ^ (n - 64) % 18446744073709551616 : Nat) : Int)) := by
        show _ = _
        rw [← wrap_nat, pow_int]; congr 1
      go_enter Try.func32, Try.ntmps32
      go_wp2
      exact end_wide rfl rfl (heap_two _ _ _) ⟨by rw [← e2.out], below_two _ _ _⟩
    · by_cases h3 : n = 0
      · subst h3
        have e : Hid (wW (W * 2 ^ 0 % MM) = wW W) := by
          show _ = _
          rw [Nat.pow_zero, Nat.mul_one, Nat.mod_eq_of_lt hW]
        rw [e.out]
        unfold wW
        generalize hi W = H at *
        generalize lo W = L at *
        go_enter Try.func32, Try.ntmps32
        go_wp2
        exact end_wide rfl rfl (heap_two _ _ _) ⟨rfl, below_two _ _ _⟩
      · have h2' : (n : Int) < 64 := by omega
        have h3' : ((n : Int) == 0) = false := by simp; omega
        have hPQ : 2 ^ n * 2 ^ (64 - n) = 18446744073709551616 := by rw [← Nat.pow_add, show n + (64 - n) = 64 by omega]
        have e := shl_mid (H := hi W) (L := lo W) (P := 2 ^ n) (Q := 2 ^ (64 - n)) n rfl hPQ (Nat.two_pow_pos _) (Nat.two_pow_pos _) hL
        rw [hWe] at e
        have e1 : Hid (wW (W * 2 ^ n % MM) = .agg #[.int .u64 (((hi W * 2 ^ n) % 18446744073709551616 ||| (lo W / 2 ^ (64 - n)) : Nat) : Int), .int .u64 ((lo W * 2 ^ n % 18446744073709551616 : Nat) : Int)]) := hide (wW_of e (Nat.mod_lt _ (by omega)))
        rw [e1.out]
        unfold wW
        clear e e1
        generalize hi W = H at *
        generalize lo W = L at *
        have e2 : Hid (IntKind.u64.wrap ((L : Int) * 2 ^ n) = ((L * 2 ^ n % 18446744073709551616 : Nat) : Int)) := by
          show _ = _
          rw [← wrap_nat, pow_int]; congr 1
        have e3 : Hid (bits .or .u64 (IntKind.u64.wrap ((H : Int) * 2 ^ n)) ((L : Int) / 2 ^ (64 - n)) = (((H * 2 ^ n) % 18446744073709551616 ||| (L / 2 ^ (64 - n)) : Nat) : Int)) := by
          show _ = _
          have a1 : IntKind.u64.wrap ((H : Int) * 2 ^ n) = ((H * 2 ^ n % 18446744073709551616 : Nat) : Int) := by
            rw [← wrap_nat, pow_int]; congr 1
          have a2 : (L : Int) / 2 ^ (64 - n) = ((L / 2 ^ (64 - n) : Nat) : Int) := by rw [pow_int]; exact (Int.natCast_ediv _ _).symm
          rw [a1, a2]
          exact bits_or_u64_nat _ _ (Nat.mod_lt _ (by omega)) (Nat.lt_of_le_of_lt (Nat.div_le_self _ _) hL)
        go_enter Try.func32, Try.ntmps32
        go_wp2
        exact end_wide rfl rfl (heap_two _ _ _) ⟨by rw [← e2.out, ← e3.out], below_two _ _ _⟩

set_option maxRecDepth 100000 in
theorem shr_any (w : World) (W n : Nat) (hW : W < MM) (hn : n ≤ 100000) :
    Calls Try.prog 33 #[wW W, .int .i64 (n : Int)] w fun e w' => e = .returned (wW (W / 2 ^ n)) ∧ Below w.heap.size w w' := by
  have hL := lo_lt W
  have hH := hi_lt hW
  have hWe := hl_eq W
  by_cases h1 : 128 ≤ n
  · have h1' : (128 : Int) ≤ (n : Int) := by omega
    have e : Hid (W / 2 ^ n = 0) := by
      show _ = _
      apply Nat.div_eq_of_lt
      have : 2 ^ 128 ≤ 2 ^ n := Nat.pow_le_pow_right (by omega) h1
      unfold MM at hW; omega
    unfold wW
    generalize hi W = H at *
    generalize lo W = L at *
    rw [e.out]
    go_enter Try.func33, Try.ntmps33
    go_wp2
    exact end_wide rfl rfl (heap_two _ _ _) ⟨rfl, below_two _ _ _⟩
  · by_cases h2 : 64 ≤ n
    · have h2' : (64 : Int) ≤ (n : Int) := by omega
      have h1' : (n : Int) < 128 := by omega
      have hd : hi W / 2 ^ (n - 64) < 18446744073709551616 := Nat.lt_of_le_of_lt (Nat.div_le_self _ _) hH
      have e : Hid (wW (W / 2 ^ n) = .agg #[.int .u64 0, .int .u64 ((hi W / 2 ^ (n - 64) : Nat) : Int)]) := by
        refine hide (wW_of (H := 0) ?_ hd)
        have := shr_high (H := hi W) (L := lo W) (P := 2 ^ (n - 64)) (B := 18446744073709551616) hL
        rw [hWe, show 2 ^ (n - 64) * 18446744073709551616 = 2 ^ n by rw [show 18446744073709551616 = 2 ^ 64 by omega, ← Nat.pow_add, show n - 64 + 64 = n by omega]] at this
        rw [Nat.zero_mul, Nat.zero_add]; exact this
      rw [e.out]
      unfold wW
      clear e hd
      generalize hi W = H at *
      generalize lo W = L at *
      have e2 : Hid ((H : Int) / 2 ^ (n - 64) = ((H / 2 ^ (n - 64) : Nat) : Int)) := by
        show _ = _
        rw [pow_int]; exact (Int.natCast_ediv _ _).symm
      go_enter Try.func33, Try.ntmps33
      go_wp2
      exact end_wide rfl rfl (heap_two _ _ _) ⟨by rw [← e2.out], below_two _ _ _⟩
    · by_cases h3 : n = 0
      · subst h3
        have e : Hid (wW (W / 2 ^ 0) = wW W) := by
          show _ = _
          rw [Nat.pow_zero, Nat.div_one]
        rw [e.out]
        unfold wW
        generalize hi W = H at *
        generalize lo W = L at *
        go_enter Try.func33, Try.ntmps33
        go_wp2
        exact end_wide rfl rfl (heap_two _ _ _) ⟨rfl, below_two _ _ _⟩
      · have h2' : (n : Int) < 64 := by omega
        have h3' : ((n : Int) == 0) = false := by simp; omega
        have hPQ : 2 ^ n * 2 ^ (64 - n) = 18446744073709551616 := by rw [← Nat.pow_add, show n + (64 - n) = 64 by omega]
        have e := shr_mid (H := hi W) (L := lo W) (P := 2 ^ n) (Q := 2 ^ (64 - n)) (64 - n) rfl hPQ (Nat.two_pow_pos _) hL
        rw [hWe] at e
        have ho : (lo W / 2 ^ n ||| (hi W * 2 ^ (64 - n)) % 18446744073709551616) < 18446744073709551616 := by
          have := Nat.or_lt_two_pow (x := lo W / 2 ^ n) (y := (hi W * 2 ^ (64 - n)) % 18446744073709551616) (n := 64) (Nat.lt_of_le_of_lt (Nat.div_le_self _ _) hL) (Nat.mod_lt _ (by omega))
          exact this
        have e1 : Hid (wW (W / 2 ^ n) = .agg #[.int .u64 ((hi W / 2 ^ n : Nat) : Int), .int .u64 ((lo W / 2 ^ n ||| (hi W * 2 ^ (64 - n)) % 18446744073709551616 : Nat) : Int)]) := hide (wW_of e ho)
        rw [e1.out]
        unfold wW
        clear e e1 ho
        generalize hi W = H at *
        generalize lo W = L at *
        have e2 : Hid ((H : Int) / 2 ^ n = ((H / 2 ^ n : Nat) : Int)) := by
          show _ = _
          rw [pow_int]; exact (Int.natCast_ediv _ _).symm
        have e3 : Hid (bits .or .u64 ((L : Int) / 2 ^ n) (IntKind.u64.wrap ((H : Int) * 2 ^ (64 - n))) = ((L / 2 ^ n ||| (H * 2 ^ (64 - n)) % 18446744073709551616 : Nat) : Int)) := by
          show _ = _
          have a1 : IntKind.u64.wrap ((H : Int) * 2 ^ (64 - n)) = ((H * 2 ^ (64 - n) % 18446744073709551616 : Nat) : Int) := by
            rw [← wrap_nat, pow_int]; congr 1
          have a2 : (L : Int) / 2 ^ n = ((L / 2 ^ n : Nat) : Int) := by rw [pow_int]; exact (Int.natCast_ediv _ _).symm
          rw [a1, a2]
          exact bits_or_u64_nat _ _ (Nat.lt_of_le_of_lt (Nat.div_le_self _ _) hL) (Nat.mod_lt _ (by omega))
        go_enter Try.func33, Try.ntmps33
        go_wp2
        exact end_wide rfl rfl (heap_two _ _ _) ⟨by rw [← e2.out, ← e3.out], below_two _ _ _⟩

set_option maxRecDepth 100000 in
theorem less_any (w : World) (A B : Nat) :
    Calls Try.prog 35 #[wW A, wW B] w fun e w' => e = .returned (.bool (decide (A < B))) ∧ Below w.heap.size w w' := by
  have a1 := lo_lt A
  have b1 := lo_lt B
  have eA := hl_eq A
  have eB := hl_eq B
  unfold wW
  generalize hi A = HA at *
  generalize lo A = LA at *
  generalize hi B = HB at *
  generalize lo B = LB at *
  by_cases h1 : HA < HB
  · have e : Hid (decide (A < B) = true) := hide (decide_eq_true ((less_hl eA eB a1 b1).2 (Or.inl h1)))
    rw [e.out]
    clear e eA eB
    go_enter Try.func35, Try.ntmps35
    go_wp2
    go_ret
    exact ⟨rfl, below_two _ _ _⟩
  · by_cases h2 : HA = HB
    · subst h2
      have e : Hid (decide (A < B) = decide (LA < LB)) := hide (decide_eq_decide.2 ⟨fun h => ((less_hl eA eB a1 b1).1 h).elim (fun k => absurd k h1) (·.2), fun h => (less_hl eA eB a1 b1).2 (Or.inr ⟨rfl, h⟩)⟩)
      rw [e.out]
      clear e eA eB
      go_enter Try.func35, Try.ntmps35
      go_wp2
      all_goals go_ret
      all_goals exact ⟨by first | rfl | simp | (simp; omega), below_two _ _ _⟩
    · have e : Hid (decide (A < B) = false) := hide (decide_eq_false (fun h => ((less_hl eA eB a1 b1).1 h).elim (fun k => h1 k) (fun k => h2 k.1)))
      have h2' : ((HA : Int) == (HB : Int)) = false := by simp; omega
      rw [e.out]
      clear e eA eB
      go_enter Try.func35, Try.ntmps35
      go_wp2
      all_goals go_ret
      all_goals exact ⟨rfl, below_two _ _ _⟩

set_option maxRecDepth 100000 in
theorem add_any (w : World) (A B : Nat) (hA : A < MM) (hB : B < MM) :
    Calls Try.prog 34 #[wW A, wW B] w fun e w' => e = .returned (wW ((A + B) % MM)) ∧ Below w.heap.size w w' := by
  have a1 := lo_lt A
  have b1 := lo_lt B
  have a2 := hi_lt hA
  have b2 := hi_lt hB
  have eA := hl_eq A
  have eB := hl_eq B
  generalize hW : (A + B) % MM = W
  unfold wW
  generalize hi A = HA at *
  generalize lo A = LA at *
  generalize hi B = HB at *
  generalize lo B = LB at *
  have q1 : IntKind.u64.wrap ((LA : Int) + (LB : Int)) = (((LA + LB) % 18446744073709551616 : Nat) : Int) := by clear eA eB; rw [IntKind.wrap_u64]; omega
  have q2 : IntKind.u64.wrap ((HA : Int) + (HB : Int)) = (((HA + HB) % 18446744073709551616 : Nat) : Int) := by clear eA eB; rw [IntKind.wrap_u64]; omega
  have q3 : IntKind.u64.wrap ((((HA + HB) % 18446744073709551616 : Nat) : Int) + 1) = ((((HA + HB) % 18446744073709551616 + 1) % 18446744073709551616 : Nat) : Int) := by clear eA eB; rw [IntKind.wrap_u64]; omega
  by_cases c : (LA + LB) % 18446744073709551616 < LA
  · have e : Hid (hi W = ((HA + HB) % 18446744073709551616 + 1) % 18446744073709551616 ∧ lo W = (LA + LB) % 18446744073709551616) := by
      refine hide (hl_of ?_ (Nat.mod_lt _ (by omega)))
      rw [← hW, ← eA, ← eB]; exact add_c a1 b1 c
    rw [e.out.1, e.out.2]
    clear e eA eB hW
    generalize ((HA + HB) % 18446744073709551616 + 1) % 18446744073709551616 = Y at *
    generalize (HA + HB) % 18446744073709551616 = X at *
    generalize (LA + LB) % 18446744073709551616 = Z at *
    go_enter Try.func34, Try.ntmps34
    go_wp2
    all_goals exact end_wide rfl rfl (heap_three _ _ _ _) ⟨rfl, below_three _ _ _ _⟩
  · have e : Hid (hi W = (HA + HB) % 18446744073709551616 ∧ lo W = (LA + LB) % 18446744073709551616) := by
      refine hide (hl_of ?_ (Nat.mod_lt _ (by omega)))
      rw [← hW, ← eA, ← eB]; exact add_n a1 b1 c
    rw [e.out.1, e.out.2]
    clear e eA eB hW q3
    generalize (HA + HB) % 18446744073709551616 = X at *
    generalize (LA + LB) % 18446744073709551616 = Z at *
    go_enter Try.func34, Try.ntmps34
    go_wp2
    all_goals exact end_wide rfl rfl (heap_three _ _ _ _) ⟨rfl, below_three _ _ _ _⟩

set_option maxRecDepth 100000 in
theorem sub_any (w : World) (A B : Nat) (hA : A < MM) (hB : B ≤ A) :
    Calls Try.prog 36 #[wW A, wW B] w fun e w' => e = .returned (wW (A - B)) ∧ Below w.heap.size w w' := by
  have a1 := lo_lt A
  have b1 := lo_lt B
  have a2 := hi_lt hA
  have b2 : hi B ≤ hi A := by unfold hi; exact Nat.div_le_div_right hB
  have eA := hl_eq A
  have eB := hl_eq B
  generalize hW : A - B = W
  unfold wW
  generalize hi A = HA at *
  generalize lo A = LA at *
  generalize hi B = HB at *
  generalize lo B = LB at *
  have q2 : IntKind.u64.wrap ((HA : Int) - (HB : Int)) = ((HA - HB : Nat) : Int) := by clear eA eB; rw [IntKind.wrap_u64]; omega
  by_cases c : LA < LB
  · have q1 : IntKind.u64.wrap ((LA : Int) - (LB : Int)) = ((LA + 18446744073709551616 - LB : Nat) : Int) := by clear eA eB; rw [IntKind.wrap_u64]; omega
    have hlt := (sub_c eA eB hB b1 c).2
    have q3 : IntKind.u64.wrap (((HA - HB : Nat) : Int) - 1) = ((HA - HB - 1 : Nat) : Int) := by clear eA eB; rw [IntKind.wrap_u64]; omega
    have e : Hid (hi W = HA - HB - 1 ∧ lo W = LA + 18446744073709551616 - LB) := hide (hl_of ((sub_c eA eB hB b1 c).1.trans hW) (by clear eA eB; omega))
    rw [e.out.1, e.out.2]
    clear e eA eB hW
    generalize HA - HB - 1 = Y at *
    generalize HA - HB = X at *
    generalize LA + 18446744073709551616 - LB = Z at *
    go_enter Try.func36, Try.ntmps36
    go_wp2
    all_goals exact end_wide rfl rfl (heap_three _ _ _ _) ⟨rfl, below_three _ _ _ _⟩
  · have q1 : IntKind.u64.wrap ((LA : Int) - (LB : Int)) = ((LA - LB : Nat) : Int) := by clear eA eB; rw [IntKind.wrap_u64]; omega
    have e : Hid (hi W = HA - HB ∧ lo W = LA - LB) := hide (hl_of ((sub_n eA eB b2 c).trans hW) (by clear eA eB; omega))
    rw [e.out.1, e.out.2]
    clear e eA eB hW
    generalize HA - HB = X at *
    generalize LA - LB = Z at *
    go_enter Try.func36, Try.ntmps36
    go_wp2
    all_goals exact end_wide rfl rfl (heap_three _ _ _ _) ⟨rfl, below_three _ _ _ _⟩
end Go.Proofs.Ytfcakfedlcajaaa
