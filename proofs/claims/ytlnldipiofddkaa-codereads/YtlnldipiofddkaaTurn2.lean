import Derived.Test.YtlnldipiofddkaaTurn
import Derived.Test.YtlnldipiofddkaaPlayed
import Derived.Test.YtlnldipiofddkaaForm
import Derived.Deep.RegionHeld3
import Derived.Deep.DrawnRows
namespace Go.Proofs.Ytlnldipiofddkaa
open Go.RowKit

attribute [local go_sem ↓] Go.wp_at_zero Go.wp_at_succ

set_option maxRecDepth 100000 in
set_option maxHeartbeats 400000 in
/-- Lists of bytes held against each other. -/
theorem eq_any (w : World) (sp sq : Option Addr) (n m c1 c2 : Nat) (xs ys : List Nat) (hl : xs.length = n) (hm : ys.length = m) (hn : n ≤ 140737488355328) (hn2 : m ≤ 140737488355328) (h1 : Bytes w sp xs) (h2 : Bytes w sq ys) :
    Calls Try.prog 13 #[.slice sp n c1, .slice sq m c2] w fun e w' => ∃ r, e = .returned (.bool r) ∧ (xs = ys → r = true) ∧ Below w.heap.size w w' := by
  by_cases hnm : n = m
  · subst hnm
    by_cases h0 : n = 0
    · subst h0
      go_enter Try.func13, Try.ntmps13
      go_wp2
      refine wp_loop_rounds 1 ?_
      rw [rounds_succ]
      go_wp2
      go_ret
      exact ⟨true, rfl, fun _ => rfl, Below.refl _ _⟩
    · obtain ⟨g, o, rfl, hg, hc⟩ : ∃ g o, sp = some ⟨g, o, none⟩ ∧ g < w.heap.size ∧ ∀ j, j < xs.length → w.cell? ⟨g, o + j, none⟩ = some (.int .u8 (xs.getD j 0)) := by
        rcases h1.lie with h | h
        · subst h; simp at hl; omega
        · exact h
      obtain ⟨g', o', rfl, hg', hc'⟩ : ∃ g o, sq = some ⟨g, o, none⟩ ∧ g < w.heap.size ∧ ∀ j, j < ys.length → w.cell? ⟨g, o + j, none⟩ = some (.int .u8 (ys.getD j 0)) := by
        rcases h2.lie with h | h
        · subst h; simp at hm; omega
        · exact h
      rw [hl] at hc
      rw [hm] at hc'
      have HC := hide hc
      have HC' := hide hc'
      clear hc hc' h1 h2 hl hm
      go_enter Try.func13, Try.ntmps13
      go_wp2
      go_loopw [5] (fun i wr => ∃ k : Nat, k ≤ n ∧ i = .int .i64 k ∧ Hid (Below w.heap.size w wr)) (fun i _ => n - (intOf i).toNat)
      case atStart => exact ⟨0, Nat.zero_le _, rfl, Below.refl _ _⟩
      case round =>
        obtain ⟨k, hk, rfl, HB⟩ := hrel
        by_cases hlt : k < n
        · have d1 := (HB.out.cell (p := ⟨g, o + k, none⟩) hg).trans (HC.out k hlt)
          have d2 := (HB.out.cell (p := ⟨g', o' + k, none⟩) hg').trans (HC'.out k hlt)
          have i1 : (0 : Int) ≤ (k : Int) := by omega
          have i2 : (k : Int) < (n : Int) := by omega
          have HE : Hid (xs = ys → xs.getD k 0 = ys.getD k 0) := fun e => by rw [e]
          generalize xs.getD k 0 = x at *
          generalize ys.getD k 0 = y at *
          by_cases hxy : x = y
          · subst hxy
            go_wp2
            go_quiet (fail)
            go_wp2
            go_roundw
            case rel => exact ⟨k + 1, by omega, by go_num, below_draws2 HB.out _⟩
            case measure => simp [intOf]; omega
          · have hb : ((x : Int) != (y : Int)) = true := by simp; omega
            have HX := hide hxy
            clear hxy
            go_wp2
            go_quiet (fail)
            go_wp2
            go_ret
            exact ⟨false, rfl, fun e => absurd (HE.out e) HX.out, below_draws2 HB.out _⟩
        · go_wp2
          go_ret
          exact ⟨true, rfl, fun _ => rfl, HB.out⟩
  · have hb : ((n : Int) != (m : Int)) = true := by simp; omega
    have HX : Hid (xs ≠ ys) := fun e => hnm (by rw [← hl, ← hm, e])
    clear h1 h2 hl hm hnm
    go_enter Try.func13, Try.ntmps13
    go_wp2
    go_ret
    exact ⟨false, rfl, fun e => absurd e HX.out, Below.refl _ _⟩

theorem bytes_past {w w1 : World} {b : Nat} {bp : Option Addr} {bs : List Nat} (h : Bytes w bp bs) (hb : But b w w1) (hg : ∀ g o, bp = some ⟨g, o, none⟩ → 0 < bs.length → g ≠ b) : Bytes w1 bp bs := by
  refine ⟨h.small, ?_⟩
  rcases h.lie with h0 | ⟨g, o, e, hgs, hc⟩
  · exact Or.inl h0
  · by_cases h0 : bs = []
    · exact Or.inl h0
    · exact Or.inr ⟨g, o, e, Nat.lt_of_lt_of_le hgs hb.size, fun j hj => by rw [World.cell?_of_block (hb.block g hgs (hg g o e (List.length_pos_iff.2 h0)))]; exact hc j hj⟩

theorem laid_pre {w w1 w' : World} {b : Nat} {v : Value} {ws new : List Nat} (h : Below w.heap.size w w1) (k : Laid w1 w' b v ws new) : Laid w w' b v ws new := by
  obtain ⟨v', h1, h2, h3⟩ := k
  refine ⟨v', h1, ?_, (wrote_of h).trans h3 (Or.inl rfl)⟩
  rcases h2 with e | ⟨g, e, hg⟩
  · exact Or.inl e
  · exact Or.inr ⟨g, e, Nat.le_trans h.size hg⟩

set_option maxRecDepth 100000 in
set_option maxHeartbeats 2000000 in
theorem lays_any (S : Nat → Prop) (w : World) (c : Nat) (v : Value) (ws : List Nat) (o : Op1) (hw : Wr w c v ws) (hn : o.Nums) (hb : BytesS S w o.bp o.bs) (hsep : ∀ g, S g → g ≠ c ∧ some g ≠ v.ownBlock) (hlen : ws.length + o.bl + 20 ≤ 140737488355328) :
    Calls Try.prog 35 #[.pointer (some ⟨c, 0, none⟩), .agg #[.int .i64 o.kind, .int .i64 o.which, .int .i64 o.m, .int .u64 (o.n : Int), .slice o.bp o.bl o.bc]] w fun e w' => e = .returned (.tuple #[]) ∧ Laid w w' c v ws (enc o) := by
  obtain ⟨kind, which, m, n, bp, bl, bc, bs⟩ := o
  have hbl : bs.length = bl := hn.len
  have hn64 : n < 18446744073709551616 := hn.n2
  simp only [enc]
  simp only at hb hlen
  have HA : Hid (Below w.heap.size w (w.alloc (.cells #[.int .i64 kind, .int .i64 which, .int .i64 m, .int .u64 (n : Int), .slice bp bl bc] 33))) := (Below.refl _ _).alloc (Nat.le_refl _) _
  have HW := hide (hw.below HA.out)
  have HY := hide (hb.bytes.below HA.out)
  have HSep : Hid (∀ g o, bp = some ⟨g, o, none⟩ → 0 < bl → g ≠ c ∧ some g ≠ v.ownBlock) := by
    intro g o e hp
    rcases hb.lie with h | ⟨g', o', e', hS, _⟩
    · subst h; simp at hbl; omega
    · rw [e'] at e; cases e; exact hsep g hS
  have HL := hide hbl
  clear hn hw hb hsep hbl
  by_cases k1 : (kind == 1) = true
  · have e := beq_iff_eq.1 k1; subst e
    have hmod : (n : Int) % 256 = ((n % 256 : Nat) : Int) := by omega
    have hN : n % 256 < 256 := by omega
    generalize n % 256 = N at *
    simp only [if_true]
    have HC := hide (wu8_any _ c v ws N HW.out (by omega) (by omega))
    go_enter Try.func35, Try.ntmps35
    go_wp2_with fail
    refine HC.out.mono ?_
    rintro e w1 ⟨rfl, hl1⟩
    have HL1 := hide (laid_pre HA.out hl1); clear hl1
    go_wp2
    go_end0
    exact ⟨rfl, HL1.out⟩
  simp only [Bool.not_eq_true] at k1
  by_cases k2 : (kind == 2) = true
  · have e := beq_iff_eq.1 k2; subst e
    have hmod : (n : Int) % 4294967296 = ((n % 4294967296 : Nat) : Int) := by omega
    have hN : n % 4294967296 < 4294967296 := by omega
    generalize n % 4294967296 = N at *
    simp only [show ¬ (2 : Int) = 1 by omega, if_false, if_true]
    have HC := hide (wu32_any _ c v ws N HW.out (by omega) (by omega))
    go_enter Try.func35, Try.ntmps35
    go_wp2_with fail
    refine HC.out.mono ?_
    rintro e w1 ⟨rfl, hl1⟩
    have HL1 := hide (laid_pre HA.out hl1); clear hl1
    go_wp2
    go_end0
    exact ⟨rfl, HL1.out⟩
  simp only [Bool.not_eq_true] at k2
  by_cases k3 : (kind == 3) = true
  · have e := beq_iff_eq.1 k3; subst e
    simp only [show ¬ (3 : Int) = 1 by omega, show ¬ (3 : Int) = 2 by omega, if_false, if_true]
    have HC := hide (wu64_any _ c v ws n HW.out hn64 (by omega))
    go_enter Try.func35, Try.ntmps35
    go_wp2_with fail
    refine HC.out.mono ?_
    rintro e w1 ⟨rfl, hl1⟩
    have HL1 := hide (laid_pre HA.out hl1); clear hl1
    go_wp2
    go_end0
    exact ⟨rfl, HL1.out⟩
  simp only [Bool.not_eq_true] at k3
  by_cases k4 : (kind == 4) = true
  · have e := beq_iff_eq.1 k4; subst e
    simp only [show ¬ (4 : Int) = 1 by omega, show ¬ (4 : Int) = 2 by omega, show ¬ (4 : Int) = 3 by omega, if_false, if_true]
    have HC := hide (var_lays _ c v ws n HW.out hn64 (by omega))
    go_enter Try.func35, Try.ntmps35
    go_wp2_with fail
    refine HC.out.mono ?_
    rintro e w1 ⟨rfl, hl1⟩
    have HL1 := hide (laid_pre HA.out hl1); clear hl1
    go_wp2
    go_end0
    exact ⟨rfl, HL1.out⟩
  simp only [Bool.not_eq_true] at k4
  by_cases k5 : (kind == 5) = true
  · have e := beq_iff_eq.1 k5; subst e
    simp only [show ¬ (5 : Int) = 1 by omega, show ¬ (5 : Int) = 2 by omega, show ¬ (5 : Int) = 3 by omega, show ¬ (5 : Int) = 4 by omega, if_false, if_true]
    rw [HL.out]
    have HC := hide (wbytes_any _ c v ws bp bl bc bs HW.out HL.out HY.out (by omega) HSep.out)
    go_enter Try.func35, Try.ntmps35
    go_wp2_with fail
    refine HC.out.mono ?_
    rintro e w1 ⟨rfl, hl1⟩
    have HL1 := hide (laid_pre HA.out hl1); clear hl1
    go_wp2
    go_end0
    exact ⟨rfl, HL1.out⟩
  simp only [Bool.not_eq_true] at k5
  by_cases k6 : (kind == 6) = true
  · have e := beq_iff_eq.1 k6; subst e
    simp only [show ¬ (6 : Int) = 1 by omega, show ¬ (6 : Int) = 2 by omega, show ¬ (6 : Int) = 3 by omega, show ¬ (6 : Int) = 4 by omega, show ¬ (6 : Int) = 5 by omega, if_false, if_true]
    have HC := hide (wraw_any _ c v ws bp bl bc bs HW.out HL.out HY.out (by omega))
    go_enter Try.func35, Try.ntmps35
    go_wp2_with fail
    refine HC.out.mono ?_
    rintro e w1 ⟨rfl, hl1⟩
    have HL1 := hide (laid_pre HA.out hl1); clear hl1
    go_wp2
    go_end0
    exact ⟨rfl, HL1.out⟩
  simp only [Bool.not_eq_true] at k6
  · have n1 : ¬ kind = 1 := by simpa using k1
    have n2 : ¬ kind = 2 := by simpa using k2
    have n3 : ¬ kind = 3 := by simpa using k3
    have n4 : ¬ kind = 4 := by simpa using k4
    have n5 : ¬ kind = 5 := by simpa using k5
    have n6 : ¬ kind = 6 := by simpa using k6
    simp only [if_neg n1, if_neg n2, if_neg n3, if_neg n4, if_neg n5, if_neg n6]
    clear n1 n2 n3 n4 n5 n6
    go_enter Try.func35, Try.ntmps35
    go_wp2
    go_end0
    exact ⟨rfl, laid_pre HA.out (laid_refl HW.out)⟩

/-- What reading a step back leaves. -/
def Backs (w w' : World) (b h : Nat) (xs : List Nat) (o : Op1) (a : Nat) (x : It × Nat × Nat) (e : Ending) : Prop :=
  ∃ r, e = .returned (.bool r) ∧ (Same o xs a x → r = true) ∧ Rd w' b h xs x.2.1 x.2.2 ∧ But b w w'

set_option maxRecDepth 100000 in
set_option maxHeartbeats 2000000 in
theorem back_any (w : World) (b h : Nat) (xs : List Nat) (a f : Nat) (o : Op1) (hr : Rd w b h xs a f) (hn : o.Nums) (hY : Bytes w o.bp o.bs) (hg : ∀ g o', o.bp = some ⟨g, o', none⟩ → 0 < o.bl → g ≠ b) :
    Calls Try.prog 37 #[.pointer (some ⟨b, 0, none⟩), .agg #[.int .i64 o.kind, .int .i64 o.which, .int .i64 o.m, .int .u64 (o.n : Int), .slice o.bp o.bl o.bc]] w fun e w' => Backs w w' b h xs o a (rBack o xs a f) e := by
  obtain ⟨kind, which, m, n, bp, bl, bc, bs⟩ := o
  have hbl : bs.length = bl := hn.len
  have hn64 : n < 18446744073709551616 := hn.n2
  have hbm : bl ≤ 140737488351232 := Nat.le_trans hn.cap hn.most
  simp only at hY hg
  have HA : Hid (Below w.heap.size w (w.alloc (.cells #[.int .i64 kind, .int .i64 which, .int .i64 m, .int .u64 (n : Int), .slice bp bl bc] 33))) := (Below.refl _ _).alloc (Nat.le_refl _) _
  have HAB := hide (but_of HA.out b)
  have HR := hide (hr.below HA.out)
  have HY0 := hide (hY.below HA.out)
  have HSm := hide hr.held.small
  have HG := hide hg
  have HL := hide hbl
  have hxl : xs.length ≤ 140737488355328 := hr.len
  have hne : w.heap.size ≠ b := by have := hr.lt; omega
  clear hn hr hY hg hbl
  by_cases k1 : (kind == 1) = true
  · have e := beq_iff_eq.1 k1; subst e
    have HX : Hid (rBack ⟨1, which, m, n, bp, bl, bc, bs⟩ xs a f = rNext 0 0 xs a f) := by show _ = _; simp [rBack]
    rw [HX.out]
    have HSame : Hid (Same ⟨1, which, m, n, bp, bl, bc, bs⟩ xs a (rNext 0 0 xs a f) → (rNext 0 0 xs a f).1.num = n % 256) := fun hs => by simpa [Same] using hs
    have HC := hide (fun W (hW : Rd W b h xs a f) => u8_any W b h xs a f hW)
    generalize rNext 0 0 xs a f = x at *
    have hmod : (n : Int) % 256 = ((n % 256 : Nat) : Int) := by omega
    have hmod2 : IntKind.u8.wrap (n : Int) = ((n % 256 : Nat) : Int) := by rw [IntKind.wrap_u8']; omega
    generalize n % 256 = N at *
    have HR' := hide (HR.out.below (Below.refl _ _).drew)
    by_cases hv : x.1.num = N
    · have hbv : ((x.1.num : Int) == (N : Int)) = true := by simp [hv]
      clear hv
      go_enter Try.func37, Try.ntmps37
      go_wp2
      go_region_held3 (fun w' => w'.cell? ⟨w.heap.size, 3, none⟩ = some (.int .u64 n)) (go_keep)
        (first | (go_at_call 36; refine (HC.out _ HR'.out).mono ?_; rintro e w1 ⟨rfl, hr1, hb1⟩; have HR1 := hide hr1; have HB1 := hide hb1; have r3 := (World.cell?_of_block (a := ⟨w.heap.size, 3, none⟩) (hb1.block w.heap.size (by simp) hne)); clear hr1 hb1))
      go_wp2
      go_ret
      exact ⟨_, rfl, fun _ => by simp, HR1.out, HAB.out.drew.trans HB1.out⟩
    · have hbv : ((x.1.num : Int) == (N : Int)) = false := by simp; omega
      have HV := hide hv
      clear hv
      go_enter Try.func37, Try.ntmps37
      go_wp2
      go_region_held3 (fun w' => w'.cell? ⟨w.heap.size, 3, none⟩ = some (.int .u64 n)) (go_keep)
        (first | (go_at_call 36; refine (HC.out _ HR'.out).mono ?_; rintro e w1 ⟨rfl, hr1, hb1⟩; have HR1 := hide hr1; have HB1 := hide hb1; have r3 := (World.cell?_of_block (a := ⟨w.heap.size, 3, none⟩) (hb1.block w.heap.size (by simp) hne)); clear hr1 hb1))
      go_wp2
      go_ret
      exact ⟨_, rfl, fun hs => absurd (HSame.out hs) HV.out, HR1.out, HAB.out.drew.trans HB1.out⟩
  simp only [Bool.not_eq_true] at k1
  by_cases k2 : (kind == 2) = true
  · have e := beq_iff_eq.1 k2; subst e
    have HX : Hid (rBack ⟨2, which, m, n, bp, bl, bc, bs⟩ xs a f = rNext 1 0 xs a f) := by show _ = _; simp [rBack]
    rw [HX.out]
    have HSame : Hid (Same ⟨2, which, m, n, bp, bl, bc, bs⟩ xs a (rNext 1 0 xs a f) → (rNext 1 0 xs a f).1.num = n % 4294967296) := fun hs => by simpa [Same] using hs
    have HC := hide (fun W (hW : Rd W b h xs a f) => u32_any W b h xs a f hW)
    generalize rNext 1 0 xs a f = x at *
    have hmod : (n : Int) % 4294967296 = ((n % 4294967296 : Nat) : Int) := by omega
    have hmod2 : IntKind.u32.wrap (n : Int) = ((n % 4294967296 : Nat) : Int) := by rw [IntKind.wrap_u32']; omega
    generalize n % 4294967296 = N at *
    have HR' := hide (HR.out.below (Below.refl _ _).drew)
    by_cases hv : x.1.num = N
    · have hbv : ((x.1.num : Int) == (N : Int)) = true := by simp [hv]
      clear hv
      go_enter Try.func37, Try.ntmps37
      go_wp2
      go_region_held3 (fun w' => w'.cell? ⟨w.heap.size, 3, none⟩ = some (.int .u64 n)) (go_keep)
        (first | (go_at_call 54; refine (HC.out _ HR'.out).mono ?_; rintro e w1 ⟨rfl, hr1, hb1⟩; have HR1 := hide hr1; have HB1 := hide hb1; have r3 := (World.cell?_of_block (a := ⟨w.heap.size, 3, none⟩) (hb1.block w.heap.size (by simp) hne)); clear hr1 hb1))
      go_wp2
      go_ret
      exact ⟨_, rfl, fun _ => by simp, HR1.out, HAB.out.drew.trans HB1.out⟩
    · have hbv : ((x.1.num : Int) == (N : Int)) = false := by simp; omega
      have HV := hide hv
      clear hv
      go_enter Try.func37, Try.ntmps37
      go_wp2
      go_region_held3 (fun w' => w'.cell? ⟨w.heap.size, 3, none⟩ = some (.int .u64 n)) (go_keep)
        (first | (go_at_call 54; refine (HC.out _ HR'.out).mono ?_; rintro e w1 ⟨rfl, hr1, hb1⟩; have HR1 := hide hr1; have HB1 := hide hb1; have r3 := (World.cell?_of_block (a := ⟨w.heap.size, 3, none⟩) (hb1.block w.heap.size (by simp) hne)); clear hr1 hb1))
      go_wp2
      go_ret
      exact ⟨_, rfl, fun hs => absurd (HSame.out hs) HV.out, HR1.out, HAB.out.drew.trans HB1.out⟩
  simp only [Bool.not_eq_true] at k2
  by_cases k3 : (kind == 3) = true
  · have e := beq_iff_eq.1 k3; subst e
    have HX : Hid (rBack ⟨3, which, m, n, bp, bl, bc, bs⟩ xs a f = rNext 2 0 xs a f) := by show _ = _; simp [rBack]
    rw [HX.out]
    have HSame : Hid (Same ⟨3, which, m, n, bp, bl, bc, bs⟩ xs a (rNext 2 0 xs a f) → (rNext 2 0 xs a f).1.num = n) := fun hs => by simpa [Same] using hs
    have HC := hide (fun W (hW : Rd W b h xs a f) => u64_any W b h xs a f hW)
    generalize rNext 2 0 xs a f = x at *
    have HR' := hide (HR.out.below (Below.refl _ _).drew)
    by_cases hv : x.1.num = n
    · have hbv : ((x.1.num : Int) == (n : Int)) = true := by simp [hv]
      clear hv
      go_enter Try.func37, Try.ntmps37
      go_wp2
      go_region_held3 (fun w' => w'.cell? ⟨w.heap.size, 3, none⟩ = some (.int .u64 n)) (go_keep)
        (first | (go_at_call 39; refine (HC.out _ HR'.out).mono ?_; rintro e w1 ⟨rfl, hr1, hb1⟩; have HR1 := hide hr1; have HB1 := hide hb1; have r3 := (World.cell?_of_block (a := ⟨w.heap.size, 3, none⟩) (hb1.block w.heap.size (by simp) hne)); clear hr1 hb1))
      go_wp2
      go_ret
      exact ⟨_, rfl, fun _ => by simp, HR1.out, HAB.out.drew.trans HB1.out⟩
    · have hbv : ((x.1.num : Int) == (n : Int)) = false := by simp; omega
      have HV := hide hv
      clear hv
      go_enter Try.func37, Try.ntmps37
      go_wp2
      go_region_held3 (fun w' => w'.cell? ⟨w.heap.size, 3, none⟩ = some (.int .u64 n)) (go_keep)
        (first | (go_at_call 39; refine (HC.out _ HR'.out).mono ?_; rintro e w1 ⟨rfl, hr1, hb1⟩; have HR1 := hide hr1; have HB1 := hide hb1; have r3 := (World.cell?_of_block (a := ⟨w.heap.size, 3, none⟩) (hb1.block w.heap.size (by simp) hne)); clear hr1 hb1))
      go_wp2
      go_ret
      exact ⟨_, rfl, fun hs => absurd (HSame.out hs) HV.out, HR1.out, HAB.out.drew.trans HB1.out⟩
  simp only [Bool.not_eq_true] at k3
  by_cases k4 : (kind == 4) = true
  · have e := beq_iff_eq.1 k4; subst e
    have HX : Hid (rBack ⟨4, which, m, n, bp, bl, bc, bs⟩ xs a f = rNext 3 n xs a f) := by show _ = _; simp [rBack]
    rw [HX.out]
    have HSame : Hid (Same ⟨4, which, m, n, bp, bl, bc, bs⟩ xs a (rNext 3 n xs a f) → (rNext 3 n xs a f).1.num = n) := fun hs => by simpa [Same] using hs
    have HC := hide (fun W (hW : Rd W b h xs a f) => var_read W b h xs a f n hn64 hW)
    generalize rNext 3 n xs a f = x at *
    have HR' := hide (HR.out.below (Below.refl _ _).drew)
    by_cases hv : x.1.num = n
    · have hbv : ((x.1.num : Int) == (n : Int)) = true := by simp [hv]
      clear hv
      go_enter Try.func37, Try.ntmps37
      go_wp2
      go_region_held3 (fun w' => w'.cell? ⟨w.heap.size, 3, none⟩ = some (.int .u64 n)) (go_keep)
        (first | (go_at_call 57; refine (HC.out _ HR'.out).mono ?_; rintro e w1 ⟨rfl, hr1, hb1⟩; have HR1 := hide hr1; have HB1 := hide hb1; have r3 := (World.cell?_of_block (a := ⟨w.heap.size, 3, none⟩) (hb1.block w.heap.size (by simp) hne)); clear hr1 hb1))
      go_wp2
      go_ret
      exact ⟨_, rfl, fun _ => by simp, HR1.out, HAB.out.drew.trans HB1.out⟩
    · have hbv : ((x.1.num : Int) == (n : Int)) = false := by simp; omega
      have HV := hide hv
      clear hv
      go_enter Try.func37, Try.ntmps37
      go_wp2
      go_region_held3 (fun w' => w'.cell? ⟨w.heap.size, 3, none⟩ = some (.int .u64 n)) (go_keep)
        (first | (go_at_call 57; refine (HC.out _ HR'.out).mono ?_; rintro e w1 ⟨rfl, hr1, hb1⟩; have HR1 := hide hr1; have HB1 := hide hb1; have r3 := (World.cell?_of_block (a := ⟨w.heap.size, 3, none⟩) (hb1.block w.heap.size (by simp) hne)); clear hr1 hb1))
      go_wp2
      go_ret
      exact ⟨_, rfl, fun hs => absurd (HSame.out hs) HV.out, HR1.out, HAB.out.drew.trans HB1.out⟩
  simp only [Bool.not_eq_true] at k4
  by_cases k5 : (kind == 5) = true
  · have e := beq_iff_eq.1 k5; subst e
    have HX : Hid (rBack ⟨5, which, m, n, bp, bl, bc, bs⟩ xs a f = rNext 4 bl xs a f) := by show _ = _; simp [rBack, HL.out]
    rw [HX.out]
    have HSame : Hid (Same ⟨5, which, m, n, bp, bl, bc, bs⟩ xs a (rNext 4 bl xs a f) → got xs a (rNext 4 bl xs a f) = bs) := fun hs => by simpa [Same] using hs
    have hgl : (got xs a (rNext 4 bl xs a f)).length ≤ 140737488355328 := by unfold got; rw [List.length_take, List.length_drop, List.length_drop]; omega
    have HC : Hid (∀ W, Rd W b h xs a f → Calls Try.prog 27 #[.pointer (some ⟨b, 0, none⟩), .int .i64 bl] W fun e w' => TookBytes W w' b h xs (got xs a (rNext 4 bl xs a f)) (rNext 4 bl xs a f).2.1 (rNext 4 bl xs a f).2.2 e) := fun W hW => by have := text_any W b h xs a f (bl : Int) (by omega) hW; rw [show rText (bl : Int) xs a f = rNext 4 bl xs a f by unfold rText; rw [show (max 0 (bl : Int)).toNat = bl by omega]] at this; exact this
    generalize got xs a (rNext 4 bl xs a f) = ys at *
    generalize rNext 4 bl xs a f = x at *
    have HR' := hide (HR.out.below (Below.refl _ _).drew)
    have HY' := hide (HY0.out.below (Below.refl _ _).drew)
    go_enter Try.func37, Try.ntmps37
    go_wp2
    go_region_held3 (fun w' => w'.cell? ⟨w.heap.size, 4, none⟩ = some (.slice bp bl bc)) (go_keep)
      (first | (go_at_call 27; refine (HC.out _ HR'.out).mono ?_; rintro e w1 ⟨sp, rfl, hmine, hsm, hr1, hb1⟩; have HR1 := hide hr1; have HB1 := hide hb1; have HY1 := hide (hmine.bytes hsm); have HY2 := hide (bytes_past HY'.out hb1 (fun g o' e hp => HG.out g o' e (by rw [← HL.out]; exact hp))); have r4 := (World.cell?_of_block (a := ⟨w.heap.size, 4, none⟩) (hb1.block w.heap.size (by simp) hne)); clear hr1 hb1 hmine hsm) | (go_at_call 13; refine (eq_any _ _ bp ys.length bl ys.length bc ys bs rfl HL.out hgl (by omega) HY1.out HY2.out).mono ?_; rintro e w2 ⟨r, rfl, hr2, hb2⟩; have HR2 := hide (HR1.out.below hb2); have HB2 := hide (but_of hb2 b); have HRr := hide hr2; have r5 := (World.cell?_of_block (a := ⟨w.heap.size, 4, none⟩) (hb2.block w.heap.size (by have := HB1.out.size; simp at this; omega))); clear hr2 hb2))
    go_wp2
    go_ret
    exact ⟨r, rfl, fun hs => HRr.out (HSame.out hs), HR2.out, HAB.out.drew.trans (HB1.out.trans HB2.out)⟩
  simp only [Bool.not_eq_true] at k5
  by_cases k6 : (kind == 6) = true
  · have e := beq_iff_eq.1 k6; subst e
    have HX : Hid (rBack ⟨6, which, m, n, bp, bl, bc, bs⟩ xs a f = rNext 5 bl xs a f) := by show _ = _; simp [rBack, HL.out]
    rw [HX.out]
    have HSame : Hid (Same ⟨6, which, m, n, bp, bl, bc, bs⟩ xs a (rNext 5 bl xs a f) → got xs a (rNext 5 bl xs a f) = bs) := fun hs => by simpa [Same] using hs
    have hgl : (got xs a (rNext 5 bl xs a f)).length ≤ 140737488355328 := by unfold got; rw [List.length_take, List.length_drop, List.length_drop]; omega
    have HC : Hid (∀ W, Rd W b h xs a f → Calls Try.prog 30 #[.pointer (some ⟨b, 0, none⟩), .int .i64 bl] W fun e w' => TookBytes W w' b h xs (got xs a (rNext 5 bl xs a f)) (rNext 5 bl xs a f).2.1 (rNext 5 bl xs a f).2.2 e) := fun W hW => raw_pos W b h xs a f bl (by omega) hW
    generalize got xs a (rNext 5 bl xs a f) = ys at *
    generalize rNext 5 bl xs a f = x at *
    have HR' := hide (HR.out.below (Below.refl _ _).drew)
    have HY' := hide (HY0.out.below (Below.refl _ _).drew)
    go_enter Try.func37, Try.ntmps37
    go_wp2
    go_region_held3 (fun w' => w'.cell? ⟨w.heap.size, 4, none⟩ = some (.slice bp bl bc)) (go_keep)
      (first | (go_at_call 30; refine (HC.out _ HR'.out).mono ?_; rintro e w1 ⟨sp, rfl, hmine, hsm, hr1, hb1⟩; have HR1 := hide hr1; have HB1 := hide hb1; have HY1 := hide (hmine.bytes hsm); have HY2 := hide (bytes_past HY'.out hb1 (fun g o' e hp => HG.out g o' e (by rw [← HL.out]; exact hp))); have r4 := (World.cell?_of_block (a := ⟨w.heap.size, 4, none⟩) (hb1.block w.heap.size (by simp) hne)); clear hr1 hb1 hmine hsm) | (go_at_call 13; refine (eq_any _ _ bp ys.length bl ys.length bc ys bs rfl HL.out hgl (by omega) HY1.out HY2.out).mono ?_; rintro e w2 ⟨r, rfl, hr2, hb2⟩; have HR2 := hide (HR1.out.below hb2); have HB2 := hide (but_of hb2 b); have HRr := hide hr2; have r5 := (World.cell?_of_block (a := ⟨w.heap.size, 4, none⟩) (hb2.block w.heap.size (by have := HB1.out.size; simp at this; omega))); clear hr2 hb2))
    go_wp2
    go_ret
    exact ⟨r, rfl, fun hs => HRr.out (HSame.out hs), HR2.out, HAB.out.drew.trans (HB1.out.trans HB2.out)⟩
  simp only [Bool.not_eq_true] at k6
  · have n1 : ¬ kind = 1 := by simpa using k1
    have n2 : ¬ kind = 2 := by simpa using k2
    have n3 : ¬ kind = 3 := by simpa using k3
    have n4 : ¬ kind = 4 := by simpa using k4
    have n5 : ¬ kind = 5 := by simpa using k5
    have n6 : ¬ kind = 6 := by simpa using k6
    have HX : Hid (rBack ⟨kind, which, m, n, bp, bl, bc, bs⟩ xs a f = (no 0, a, f)) := by show _ = _; simp [rBack, n1, n2, n3, n4, n5, n6]
    rw [HX.out]
    clear n1 n2 n3 n4 n5 n6
    go_enter Try.func37, Try.ntmps37
    go_wp2
    go_ret
    exact ⟨true, rfl, fun _ => rfl, HR.out, HAB.out⟩

end Go.Proofs.Ytlnldipiofddkaa
