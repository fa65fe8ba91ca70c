import Derived.Test.YtlnldipiofddkabEye5
namespace Go.Proofs.Ytlnldipiofddkab
open Go.RowKit

/-- A Reader and the document's beside it. -/
structure Duo (w : World) (b h b2 : Nat) (sp : Option Addr) (c : Nat) (xs : List Nat) (a f : Nat) : Prop where
  rd : Rd w b h xs a f
  ey : Ey w b2 sp c xs a f

theorem Duo.ne {w : World} {b h b2 : Nat} {sp : Option Addr} {c : Nat} {xs : List Nat} {a f : Nat} (d : Duo w b h b2 sp c xs a f) : b2 ≠ b := by
  rintro rfl
  have := d.rd.blk
  rw [d.ey.blk] at this
  simp at this
theorem Ey.past {w w' : World} {b b2 : Nat} {sp : Option Addr} {c : Nat} {xs : List Nat} {a f : Nat} {s : Option Addr} {n m : Nat} {x1 x3 : Int} {t : TypeId} (r : Ey w b2 sp c xs a f) (k : But b w w') (hne : b2 ≠ b) (hb : w.heap[b]? = some (.cells #[.slice s n m, .int .i64 x1, .int .i64 x3] t (0, 0))) : Ey w' b2 sp c xs a f :=
  ⟨(k.block b2 r.lt hne).trans r.blk, r.held.kept b (fun i hi hl => k.block i hl hi) k.size (fun _ _ _ => not_bytes' hb), r.form, r.len, r.cap, r.most, r.le⟩
theorem Rd.past {w w' : World} {b b2 h : Nat} {xs : List Nat} {a f : Nat} {s : Option Addr} {n m : Nat} {x1 x3 : Int} {t : TypeId} (r : Rd w b h xs a f) (k : But b2 w w') (hne : b ≠ b2) (hb : w.heap[b2]? = some (.cells #[.slice s n m, .int .i64 x1, .int .i64 x3] t (0, 0))) : Rd w' b h xs a f :=
  ⟨(k.block b r.lt hne).trans r.blk, r.held.kept b2 (fun i hi hl => k.block i hl hi) k.size (fun _ _ _ => not_bytes' hb), r.len, r.le⟩
theorem Duo.below {w w' : World} {b h b2 : Nat} {sp : Option Addr} {c : Nat} {xs : List Nat} {a f : Nat} (d : Duo w b h b2 sp c xs a f) (k : Below w.heap.size w w') : Duo w' b h b2 sp c xs a f := ⟨d.rd.below k, d.ey.below k⟩

/-- What a call of both leaves. -/
def Read2 (w w' : World) (b h b2 : Nat) (sp : Option Addr) (c : Nat) (xs : List Nat) (e : Ending) : Prop :=
  e = .returned (.bool true) ∧ ∃ a f, Duo w' b h b2 sp c xs a f ∧ Kept (fun k => k = b ∨ k = b2) w w'

/-- First the Reader, then the document's. -/
theorem both_kept {w W w1 w2 : World} {b b2 : Nat} (h0 : Below w.heap.size w W) (h1 : But b W w1) (h2 : But b2 w1 w2) : Kept (fun k => k = b ∨ k = b2) w w2 :=
  ((kept_below h0).trans (kept_but h1) (fun _ e => Or.inl (Or.inl e))).trans (kept_but h2) (fun _ e => Or.inl (Or.inr e))

set_option maxRecDepth 100000 in
set_option maxHeartbeats 1000000 in
theorem reads_u8 (w : World) (b h b2 : Nat) (sp : Option Addr) (c : Nat) (xs : List Nat) (a f : Nat) (kind which m : Int) (n : Nat) (bp : Option Addr) (bl bc : Nat) (hd : Duo w b h b2 sp c xs a f) (_hm : m ≤ 9223372036854775807) (_hn : n < 18446744073709551616)
    (k1 : (kind == 1) = true) :
    Calls Try.prog 25 #[.pointer (some ⟨b, 0, none⟩), .pointer (some ⟨b2, 0, none⟩), .agg #[.int .i64 kind, .int .i64 which, .int .i64 m, .int .u64 (n : Int), .slice bp bl bc]] w fun e w' => Read2 w w' b h b2 sp c xs e := by
  have hne := hd.ne
  have hlt := hd.rd.lt
  have hlt2 := hd.ey.lt
  have HA : Hid (Below w.heap.size w (w.alloc (.cells #[.int .i64 kind, .int .i64 which, .int .i64 m, .int .u64 (n : Int), .slice bp bl bc] 60))) := (Below.refl _ _).alloc (Nat.le_refl _) _
  have HD := hide (hd.below HA.out)
  clear hd
  have HC := hide (fun W hW => u8_any W b h xs a f hW)
  have HC2 := hide (fun W hW => eu8_any W b2 sp c xs a f hW)
  unfold TookNum at HC
  unfold EyeNum at HC2
  generalize rNext 0 0 xs a f = x at *
  go_enter Try.func25, Try.ntmps25
  go_wp2_with fail
  refine (HC.out _ HD.out.rd).mono ?_
  rintro e w1 ⟨rfl, hr1, hb1⟩
  have HR1 := hide hr1
  have HB1 := hide hb1
  have HE1 := hide (HD.out.ey.past hb1 hne HD.out.rd.blk)
  clear hr1 hb1 HC
  go_wp2_with fail
  refine (HC2.out _ HE1.out).mono ?_
  rintro e w2 ⟨rfl, he2, hb2⟩
  have HE2 := hide he2
  have HB2 := hide hb2
  have HR2 := hide (HR1.out.past hb2 (Ne.symm hne) HE1.out.blk)
  clear he2 hb2 HC2
  go_wp2
  go_ret
  exact ⟨by simp, x.2.1, x.2.2, ⟨HR2.out, HE2.out⟩, both_kept HA.out HB1.out HB2.out⟩

set_option maxRecDepth 100000 in
set_option maxHeartbeats 1000000 in
theorem reads_u32 (w : World) (b h b2 : Nat) (sp : Option Addr) (c : Nat) (xs : List Nat) (a f : Nat) (kind which m : Int) (n : Nat) (bp : Option Addr) (bl bc : Nat) (hd : Duo w b h b2 sp c xs a f) (_hm : m ≤ 9223372036854775807) (_hn : n < 18446744073709551616)
    (k1 : (kind == 1) = false) (k2 : (kind == 2) = true) :
    Calls Try.prog 25 #[.pointer (some ⟨b, 0, none⟩), .pointer (some ⟨b2, 0, none⟩), .agg #[.int .i64 kind, .int .i64 which, .int .i64 m, .int .u64 (n : Int), .slice bp bl bc]] w fun e w' => Read2 w w' b h b2 sp c xs e := by
  have hne := hd.ne
  have hlt := hd.rd.lt
  have hlt2 := hd.ey.lt
  have HA : Hid (Below w.heap.size w (w.alloc (.cells #[.int .i64 kind, .int .i64 which, .int .i64 m, .int .u64 (n : Int), .slice bp bl bc] 60))) := (Below.refl _ _).alloc (Nat.le_refl _) _
  have HD := hide (hd.below HA.out)
  clear hd
  have HC := hide (fun W hW => u32_any W b h xs a f hW)
  have HC2 := hide (fun W hW => eu32_any W b2 sp c xs a f hW)
  unfold TookNum at HC
  unfold EyeNum at HC2
  generalize rNext 1 0 xs a f = x at *
  go_enter Try.func25, Try.ntmps25
  go_wp2_with fail
  refine (HC.out _ HD.out.rd).mono ?_
  rintro e w1 ⟨rfl, hr1, hb1⟩
  have HR1 := hide hr1
  have HB1 := hide hb1
  have HE1 := hide (HD.out.ey.past hb1 hne HD.out.rd.blk)
  clear hr1 hb1 HC
  go_wp2_with fail
  refine (HC2.out _ HE1.out).mono ?_
  rintro e w2 ⟨rfl, he2, hb2⟩
  have HE2 := hide he2
  have HB2 := hide hb2
  have HR2 := hide (HR1.out.past hb2 (Ne.symm hne) HE1.out.blk)
  clear he2 hb2 HC2
  go_wp2
  go_ret
  exact ⟨by simp, x.2.1, x.2.2, ⟨HR2.out, HE2.out⟩, both_kept HA.out HB1.out HB2.out⟩

set_option maxRecDepth 100000 in
set_option maxHeartbeats 1000000 in
theorem reads_u64 (w : World) (b h b2 : Nat) (sp : Option Addr) (c : Nat) (xs : List Nat) (a f : Nat) (kind which m : Int) (n : Nat) (bp : Option Addr) (bl bc : Nat) (hd : Duo w b h b2 sp c xs a f) (_hm : m ≤ 9223372036854775807) (_hn : n < 18446744073709551616)
    (k1 : (kind == 1) = false) (k2 : (kind == 2) = false) (k3 : (kind == 3) = true) :
    Calls Try.prog 25 #[.pointer (some ⟨b, 0, none⟩), .pointer (some ⟨b2, 0, none⟩), .agg #[.int .i64 kind, .int .i64 which, .int .i64 m, .int .u64 (n : Int), .slice bp bl bc]] w fun e w' => Read2 w w' b h b2 sp c xs e := by
  have hne := hd.ne
  have hlt := hd.rd.lt
  have hlt2 := hd.ey.lt
  have HA : Hid (Below w.heap.size w (w.alloc (.cells #[.int .i64 kind, .int .i64 which, .int .i64 m, .int .u64 (n : Int), .slice bp bl bc] 60))) := (Below.refl _ _).alloc (Nat.le_refl _) _
  have HD := hide (hd.below HA.out)
  clear hd
  have HC := hide (fun W hW => u64_any W b h xs a f hW)
  have HC2 := hide (fun W hW => eu64_any W b2 sp c xs a f hW)
  unfold TookNum at HC
  unfold EyeNum at HC2
  generalize rNext 2 0 xs a f = x at *
  go_enter Try.func25, Try.ntmps25
  go_wp2_with fail
  refine (HC.out _ HD.out.rd).mono ?_
  rintro e w1 ⟨rfl, hr1, hb1⟩
  have HR1 := hide hr1
  have HB1 := hide hb1
  have HE1 := hide (HD.out.ey.past hb1 hne HD.out.rd.blk)
  clear hr1 hb1 HC
  go_wp2_with fail
  refine (HC2.out _ HE1.out).mono ?_
  rintro e w2 ⟨rfl, he2, hb2⟩
  have HE2 := hide he2
  have HB2 := hide hb2
  have HR2 := hide (HR1.out.past hb2 (Ne.symm hne) HE1.out.blk)
  clear he2 hb2 HC2
  go_wp2
  go_ret
  exact ⟨by simp, x.2.1, x.2.2, ⟨HR2.out, HE2.out⟩, both_kept HA.out HB1.out HB2.out⟩

set_option maxRecDepth 100000 in
set_option maxHeartbeats 1000000 in
theorem reads_var (w : World) (b h b2 : Nat) (sp : Option Addr) (c : Nat) (xs : List Nat) (a f : Nat) (kind which m : Int) (n : Nat) (bp : Option Addr) (bl bc : Nat) (hd : Duo w b h b2 sp c xs a f) (_hm : m ≤ 9223372036854775807) (hn : n < 18446744073709551616)
    (k1 : (kind == 1) = false) (k2 : (kind == 2) = false) (k3 : (kind == 3) = false) (k4 : (kind == 4) = true) :
    Calls Try.prog 25 #[.pointer (some ⟨b, 0, none⟩), .pointer (some ⟨b2, 0, none⟩), .agg #[.int .i64 kind, .int .i64 which, .int .i64 m, .int .u64 (n : Int), .slice bp bl bc]] w fun e w' => Read2 w w' b h b2 sp c xs e := by
  have hne := hd.ne
  have hlt := hd.rd.lt
  have hlt2 := hd.ey.lt
  have HA : Hid (Below w.heap.size w (w.alloc (.cells #[.int .i64 kind, .int .i64 which, .int .i64 m, .int .u64 (n : Int), .slice bp bl bc] 60))) := (Below.refl _ _).alloc (Nat.le_refl _) _
  have HD := hide (hd.below HA.out)
  clear hd
  have HC := hide (fun W hW => var_read W b h xs a f n hn hW)
  have HC2 := hide (fun W hW => evar_any W b2 sp c xs a f n hn hW)
  unfold TookNum at HC
  unfold EyeNum at HC2
  generalize rNext 3 n xs a f = x at *
  have HDd := hide (HD.out.below (Below.refl _ _).drew)
  have hwb : w.heap.size ≠ b := by omega
  have hwb2 : w.heap.size ≠ b2 := by omega
  go_enter Try.func25, Try.ntmps25
  go_wp2
  go_region_held3 (fun w' => w'.cell? ⟨w.heap.size, 3, none⟩ = some (.int .u64 n)) (go_keep)
    (first
      | (go_at_call 42; refine (HC.out _ HDd.out.rd).mono ?_; rintro e w1 ⟨rfl, hr1, hb1⟩; have HR1 := hide hr1; have HB1 := hide hb1; have HE1 := hide (HDd.out.ey.past hb1 hne HDd.out.rd.blk); have r3 := (World.cell?_of_block (a := ⟨w.heap.size, 3, none⟩) (hb1.block w.heap.size (by simp) hwb)); have HSz : Hid (w.heap.size < w1.heap.size) := Nat.lt_of_lt_of_le (by simp) hb1.size; clear hr1 hb1)
      | (go_at_call 43; refine (HC2.out _ HE1.out).mono ?_; rintro e w2 ⟨rfl, he2, hb2⟩; have HE2 := hide he2; have HB2 := hide hb2; have HR2 := hide (HR1.out.past hb2 (Ne.symm hne) HE1.out.blk); have r4 := (World.cell?_of_block (a := ⟨w.heap.size, 3, none⟩) (hb2.block w.heap.size HSz.out hwb2)); clear he2 hb2))
  go_wp2
  go_ret
  exact ⟨by simp, x.2.1, x.2.2, ⟨HR2.out, HE2.out⟩, both_kept HA.out.drew HB1.out HB2.out⟩

set_option maxRecDepth 100000 in
set_option maxHeartbeats 1000000 in
theorem reads_bytes (w : World) (b h b2 : Nat) (sp : Option Addr) (c : Nat) (xs : List Nat) (a f : Nat) (kind which m : Int) (n : Nat) (bp : Option Addr) (bl bc : Nat) (hd : Duo w b h b2 sp c xs a f) (hm : m ≤ 9223372036854775807) (_hn : n < 18446744073709551616)
    (k1 : (kind == 1) = false) (k2 : (kind == 2) = false) (k3 : (kind == 3) = false) (k4 : (kind == 4) = false) (k5 : (kind == 5) = true) :
    Calls Try.prog 25 #[.pointer (some ⟨b, 0, none⟩), .pointer (some ⟨b2, 0, none⟩), .agg #[.int .i64 kind, .int .i64 which, .int .i64 m, .int .u64 (n : Int), .slice bp bl bc]] w fun e w' => Read2 w w' b h b2 sp c xs e := by
  have hne := hd.ne
  have hlt := hd.rd.lt
  have hlt2 := hd.ey.lt
  have HA : Hid (Below w.heap.size w (w.alloc (.cells #[.int .i64 kind, .int .i64 which, .int .i64 m, .int .u64 (n : Int), .slice bp bl bc] 60))) := (Below.refl _ _).alloc (Nat.le_refl _) _
  have HD := hide (hd.below HA.out)
  clear hd
  have HC := hide (fun W (hW : Rd W b h xs a f) => text_any W b h xs a f m hm hW)
  have HC2 := hide (fun W (hW : Ey W b2 sp c xs a f) => etext_any W b2 sp c xs a f m hm hW)
  have HLn : Hid ((got xs a (rText m xs a f)).length ≤ 140737488355328) := by
    show _ ≤ _
    refine Nat.le_trans ?_ HD.out.rd.len
    unfold got
    simp only [List.length_take, List.length_drop]
    omega
  have HSm := hide (got_small HD.out.rd.held.small a (rText m xs a f))
  unfold TookBytes at HC
  unfold EyeBytes at HC2
  generalize got xs a (rText m xs a f) = ys at *
  generalize rText m xs a f = x at *
  have HDd := hide (HD.out.below (Below.refl _ _).drew)
  have hwb : w.heap.size ≠ b := by omega
  have hwb2 : w.heap.size ≠ b2 := by omega
  go_enter Try.func25, Try.ntmps25
  go_wp2
  go_region_held3 (fun w' => w'.cell? ⟨w.heap.size, 2, none⟩ = some (.int .i64 m)) (go_keep)
    (first
      | (go_at_call 44; refine (HC.out _ HDd.out.rd).mono ?_; rintro e w1 ⟨s1, rfl, hm1, _, hr1, hb1⟩; have HM1 := hide (hm1.bytes HSm.out); have HR1 := hide hr1; have HB1 := hide hb1; have HE1 := hide (HDd.out.ey.past hb1 hne HDd.out.rd.blk); have r3 := (World.cell?_of_block (a := ⟨w.heap.size, 2, none⟩) (hb1.block w.heap.size (by simp) hwb)); have HSz : Hid (w.heap.size < w1.heap.size) := Nat.lt_of_lt_of_le (by simp) hb1.size; clear hm1 hr1 hb1)
      | (go_at_call 45; refine (HC2.out _ HE1.out).mono ?_; rintro e w2 ⟨s2, k2, rfl, hy2, _, he2, hb2⟩; have HY2 := hide hy2; have HE2 := hide he2; have HB2 := hide hb2; have HM2 := hide (HM1.out.kept b2 (fun i hi hl => hb2.block i hl hi) hb2.size (fun _ _ _ => not_bytes' HE1.out.blk)); have HR2 := hide (HR1.out.past hb2 (Ne.symm hne) HE1.out.blk); have r4 := (World.cell?_of_block (a := ⟨w.heap.size, 2, none⟩) (hb2.block w.heap.size HSz.out hwb2)); have HSz2 : Hid (w.heap.size < w2.heap.size) := Nat.lt_of_lt_of_le HSz.out hb2.size; clear hy2 he2 hb2)
      | (go_at_call 14; refine (eq_true _ _ _ ys.length _ _ ys rfl HLn.out HM2.out HY2.out).mono ?_; rintro e w3 ⟨rfl, hb3⟩; have HB3 := hide hb3; have r5 := (World.cell?_of_block (a := ⟨w.heap.size, 2, none⟩) (hb3.block w.heap.size HSz2.out)); clear hb3))
  go_wp2
  go_ret
  exact ⟨rfl, x.2.1, x.2.2, (Duo.mk HR2.out HE2.out).below HB3.out, (both_kept HA.out.drew HB1.out HB2.out).trans (kept_below (S := fun _ => False) HB3.out) (fun _ h => h.elim)⟩

set_option maxRecDepth 100000 in
set_option maxHeartbeats 1000000 in
theorem reads_raw (w : World) (b h b2 : Nat) (sp : Option Addr) (c : Nat) (xs : List Nat) (a f : Nat) (kind which m : Int) (n : Nat) (bp : Option Addr) (bl bc : Nat) (hd : Duo w b h b2 sp c xs a f) (hm : m ≤ 9223372036854775807) (_hn : n < 18446744073709551616)
    (k1 : (kind == 1) = false) (k2 : (kind == 2) = false) (k3 : (kind == 3) = false) (k4 : (kind == 4) = false) (k5 : (kind == 5) = false) (k6 : (kind == 6) = true) :
    Calls Try.prog 25 #[.pointer (some ⟨b, 0, none⟩), .pointer (some ⟨b2, 0, none⟩), .agg #[.int .i64 kind, .int .i64 which, .int .i64 m, .int .u64 (n : Int), .slice bp bl bc]] w fun e w' => Read2 w w' b h b2 sp c xs e := by
  have hne := hd.ne
  have hlt := hd.rd.lt
  have hlt2 := hd.ey.lt
  have HA : Hid (Below w.heap.size w (w.alloc (.cells #[.int .i64 kind, .int .i64 which, .int .i64 m, .int .u64 (n : Int), .slice bp bl bc] 60))) := (Below.refl _ _).alloc (Nat.le_refl _) _
  have HD := hide (hd.below HA.out)
  clear hd
  have HC := hide (fun W (hW : Rd W b h xs a f) => raw_read W b h xs a f m hm hW)
  have HC2 := hide (fun W (hW : Ey W b2 sp c xs a f) => eraw_any W b2 sp c xs a f m hm hW)
  have HLn : Hid ((got xs a (rRaw m xs a f)).length ≤ 140737488355328) := by
    show _ ≤ _
    refine Nat.le_trans ?_ HD.out.rd.len
    unfold got
    simp only [List.length_take, List.length_drop]
    omega
  have HSm := hide (got_small HD.out.rd.held.small a (rRaw m xs a f))
  unfold TookBytes at HC
  unfold EyeBytes at HC2
  generalize got xs a (rRaw m xs a f) = ys at *
  generalize rRaw m xs a f = x at *
  have HDd := hide (HD.out.below (Below.refl _ _).drew)
  have hwb : w.heap.size ≠ b := by omega
  have hwb2 : w.heap.size ≠ b2 := by omega
  go_enter Try.func25, Try.ntmps25
  go_wp2
  go_region_held3 (fun w' => w'.cell? ⟨w.heap.size, 2, none⟩ = some (.int .i64 m)) (go_keep)
    (first
      | (go_at_call 15; refine (HC.out _ HDd.out.rd).mono ?_; rintro e w1 ⟨s1, rfl, hm1, _, hr1, hb1⟩; have HM1 := hide (hm1.bytes HSm.out); have HR1 := hide hr1; have HB1 := hide hb1; have HE1 := hide (HDd.out.ey.past hb1 hne HDd.out.rd.blk); have r3 := (World.cell?_of_block (a := ⟨w.heap.size, 2, none⟩) (hb1.block w.heap.size (by simp) hwb)); have HSz : Hid (w.heap.size < w1.heap.size) := Nat.lt_of_lt_of_le (by simp) hb1.size; clear hm1 hr1 hb1)
      | (go_at_call 46; refine (HC2.out _ HE1.out).mono ?_; rintro e w2 ⟨s2, k2, rfl, hy2, _, he2, hb2⟩; have HY2 := hide hy2; have HE2 := hide he2; have HB2 := hide hb2; have HM2 := hide (HM1.out.kept b2 (fun i hi hl => hb2.block i hl hi) hb2.size (fun _ _ _ => not_bytes' HE1.out.blk)); have HR2 := hide (HR1.out.past hb2 (Ne.symm hne) HE1.out.blk); have r4 := (World.cell?_of_block (a := ⟨w.heap.size, 2, none⟩) (hb2.block w.heap.size HSz.out hwb2)); have HSz2 : Hid (w.heap.size < w2.heap.size) := Nat.lt_of_lt_of_le HSz.out hb2.size; clear hy2 he2 hb2)
      | (go_at_call 14; refine (eq_true _ _ _ ys.length _ _ ys rfl HLn.out HM2.out HY2.out).mono ?_; rintro e w3 ⟨rfl, hb3⟩; have HB3 := hide hb3; have r5 := (World.cell?_of_block (a := ⟨w.heap.size, 2, none⟩) (hb3.block w.heap.size HSz2.out)); clear hb3))
  go_wp2
  go_ret
  exact ⟨rfl, x.2.1, x.2.2, (Duo.mk HR2.out HE2.out).below HB3.out, (both_kept HA.out.drew HB1.out HB2.out).trans (kept_below (S := fun _ => False) HB3.out) (fun _ h => h.elim)⟩

set_option maxRecDepth 100000 in
set_option maxHeartbeats 1000000 in
theorem reads_left (w : World) (b h b2 : Nat) (sp : Option Addr) (c : Nat) (xs : List Nat) (a f : Nat) (kind which m : Int) (n : Nat) (bp : Option Addr) (bl bc : Nat) (hd : Duo w b h b2 sp c xs a f) (_hm : m ≤ 9223372036854775807) (_hn : n < 18446744073709551616)
    (k1 : (kind == 1) = false) (k2 : (kind == 2) = false) (k3 : (kind == 3) = false) (k4 : (kind == 4) = false) (k5 : (kind == 5) = false) (k6 : (kind == 6) = false) (k7 : (kind == 7) = true) :
    Calls Try.prog 25 #[.pointer (some ⟨b, 0, none⟩), .pointer (some ⟨b2, 0, none⟩), .agg #[.int .i64 kind, .int .i64 which, .int .i64 m, .int .u64 (n : Int), .slice bp bl bc]] w fun e w' => Read2 w w' b h b2 sp c xs e := by
  have hne := hd.ne
  have hlt := hd.rd.lt
  have hlt2 := hd.ey.lt
  have HA : Hid (Below w.heap.size w (w.alloc (.cells #[.int .i64 kind, .int .i64 which, .int .i64 m, .int .u64 (n : Int), .slice bp bl bc] 60))) := (Below.refl _ _).alloc (Nat.le_refl _) _
  have HD := hide (hd.below HA.out)
  clear hd
  have HC := hide (fun W hW => left_any W b h xs a f hW)
  have HC2 := hide (fun W hW => eleft_any W b2 sp c xs a f hW)
  generalize xs.length - a = L at *
  go_enter Try.func25, Try.ntmps25
  go_wp2_with fail
  refine (HC.out _ HD.out.rd).mono ?_
  rintro e w1 ⟨rfl, rfl⟩
  have HD1 := hide (HD.out.below (Below.refl _ _).drew)
  go_wp2_with fail
  refine (HC2.out _ HD1.out.ey).mono ?_
  rintro e w2 ⟨rfl, rfl⟩
  go_wp2
  go_ret
  exact ⟨by simp, a, f, HD1.out.below (Below.refl _ _).drew, kept_below HA.out.drew.drew⟩

set_option maxRecDepth 100000 in
set_option maxHeartbeats 1000000 in
theorem reads_at (w : World) (b h b2 : Nat) (sp : Option Addr) (c : Nat) (xs : List Nat) (a f : Nat) (kind which m : Int) (n : Nat) (bp : Option Addr) (bl bc : Nat) (hd : Duo w b h b2 sp c xs a f) (_hm : m ≤ 9223372036854775807) (_hn : n < 18446744073709551616)
    (k1 : (kind == 1) = false) (k2 : (kind == 2) = false) (k3 : (kind == 3) = false) (k4 : (kind == 4) = false) (k5 : (kind == 5) = false) (k6 : (kind == 6) = false) (k7 : (kind == 7) = false) (k8 : (kind == 8) = true) :
    Calls Try.prog 25 #[.pointer (some ⟨b, 0, none⟩), .pointer (some ⟨b2, 0, none⟩), .agg #[.int .i64 kind, .int .i64 which, .int .i64 m, .int .u64 (n : Int), .slice bp bl bc]] w fun e w' => Read2 w w' b h b2 sp c xs e := by
  have hne := hd.ne
  have hlt := hd.rd.lt
  have hlt2 := hd.ey.lt
  have HA : Hid (Below w.heap.size w (w.alloc (.cells #[.int .i64 kind, .int .i64 which, .int .i64 m, .int .u64 (n : Int), .slice bp bl bc] 60))) := (Below.refl _ _).alloc (Nat.le_refl _) _
  have HD := hide (hd.below HA.out)
  clear hd
  obtain ⟨q0, q1, q2, qf⟩ := blk3 HD.out.ey.blk
  generalize hW : w.alloc (.cells #[.int .i64 kind, .int .i64 which, .int .i64 m, .int .u64 (n : Int), .slice bp bl bc] 60) = W at HD HA q0 q1 q2 qf
  obtain ⟨c0, c1, c2, c3, c4, cf⟩ : W.cell? ⟨w.heap.size, 0, none⟩ = some (.int .i64 kind) ∧ W.cell? ⟨w.heap.size, 1, none⟩ = some (.int .i64 which) ∧ W.cell? ⟨w.heap.size, 2, none⟩ = some (.int .i64 m) ∧ W.cell? ⟨w.heap.size, 3, none⟩ = some (.int .u64 (n : Int)) ∧ W.cell? ⟨w.heap.size, 4, none⟩ = some (.slice bp bl bc) ∧ (∀ o, W.frozen? ⟨w.heap.size, o, none⟩ = false) := by
    rw [← hW]
    exact blk5 (heap_alloc_new w (.cells #[.int .i64 kind, .int .i64 which, .int .i64 m, .int .u64 (n : Int), .slice bp bl bc] 60 (0, 0)))
  have HC := hide (fun q => at_any (W.drewN q) b h xs a f (HD.out.rd.below (bad_drews W q)))
  go_enter Try.func25, Try.ntmps25
  go_wp2
  go_quiet (first | (go_at_call 26; exact Calls.quiet_of_same (HC.out _)))
  go_wp2
  go_ret
  exact ⟨by simp, a, f, HD.out.below (bad_drews W nq), kept_below (below_draws2 HA.out nq)⟩

set_option maxRecDepth 100000 in
set_option maxHeartbeats 1000000 in
theorem reads_fault (w : World) (b h b2 : Nat) (sp : Option Addr) (c : Nat) (xs : List Nat) (a f : Nat) (kind which m : Int) (n : Nat) (bp : Option Addr) (bl bc : Nat) (hd : Duo w b h b2 sp c xs a f) (_hm : m ≤ 9223372036854775807) (_hn : n < 18446744073709551616)
    (k1 : (kind == 1) = false) (k2 : (kind == 2) = false) (k3 : (kind == 3) = false) (k4 : (kind == 4) = false) (k5 : (kind == 5) = false) (k6 : (kind == 6) = false) (k7 : (kind == 7) = false) (k8 : (kind == 8) = false) (k9 : (kind == 9) = true) :
    Calls Try.prog 25 #[.pointer (some ⟨b, 0, none⟩), .pointer (some ⟨b2, 0, none⟩), .agg #[.int .i64 kind, .int .i64 which, .int .i64 m, .int .u64 (n : Int), .slice bp bl bc]] w fun e w' => Read2 w w' b h b2 sp c xs e := by
  have hne := hd.ne
  have hlt := hd.rd.lt
  have hlt2 := hd.ey.lt
  have HA : Hid (Below w.heap.size w (w.alloc (.cells #[.int .i64 kind, .int .i64 which, .int .i64 m, .int .u64 (n : Int), .slice bp bl bc] 60))) := (Below.refl _ _).alloc (Nat.le_refl _) _
  have HD := hide (hd.below HA.out)
  clear hd
  obtain ⟨q0, q1, q2, qf⟩ := blk3 HD.out.ey.blk
  generalize hW : w.alloc (.cells #[.int .i64 kind, .int .i64 which, .int .i64 m, .int .u64 (n : Int), .slice bp bl bc] 60) = W at HD HA q0 q1 q2 qf
  obtain ⟨c0, c1, c2, c3, c4, cf⟩ : W.cell? ⟨w.heap.size, 0, none⟩ = some (.int .i64 kind) ∧ W.cell? ⟨w.heap.size, 1, none⟩ = some (.int .i64 which) ∧ W.cell? ⟨w.heap.size, 2, none⟩ = some (.int .i64 m) ∧ W.cell? ⟨w.heap.size, 3, none⟩ = some (.int .u64 (n : Int)) ∧ W.cell? ⟨w.heap.size, 4, none⟩ = some (.slice bp bl bc) ∧ (∀ o, W.frozen? ⟨w.heap.size, o, none⟩ = false) := by
    rw [← hW]
    exact blk5 (heap_alloc_new w (.cells #[.int .i64 kind, .int .i64 which, .int .i64 m, .int .u64 (n : Int), .slice bp bl bc] 60 (0, 0)))
  have HC := hide (fun q => fault_any (W.drewN q) b h xs a f (HD.out.rd.below (bad_drews W q)))
  have HC2 := hide (fun W => num_any W (f : Int))
  go_enter Try.func25, Try.ntmps25
  go_wp2
  go_quiet (first | (go_at_call 48; exact Calls.quiet_of_same (HC.out _)) | (go_at_call 27; exact Calls.quiet_of_same (HC2.out _)))
  go_wp2
  go_ret
  exact ⟨by simp, a, f, HD.out.below (bad_drews W nq), kept_below (below_draws2 HA.out nq)⟩

set_option maxRecDepth 100000 in
set_option maxHeartbeats 1000000 in
theorem reads_end (w : World) (b h b2 : Nat) (sp : Option Addr) (c : Nat) (xs : List Nat) (a f : Nat) (kind which m : Int) (n : Nat) (bp : Option Addr) (bl bc : Nat) (hd : Duo w b h b2 sp c xs a f) (_hm : m ≤ 9223372036854775807) (_hn : n < 18446744073709551616)
    (k1 : (kind == 1) = false) (k2 : (kind == 2) = false) (k3 : (kind == 3) = false) (k4 : (kind == 4) = false) (k5 : (kind == 5) = false) (k6 : (kind == 6) = false) (k7 : (kind == 7) = false) (k8 : (kind == 8) = false) (k9 : (kind == 9) = false) (k10 : (kind == 10) = true) :
    Calls Try.prog 25 #[.pointer (some ⟨b, 0, none⟩), .pointer (some ⟨b2, 0, none⟩), .agg #[.int .i64 kind, .int .i64 which, .int .i64 m, .int .u64 (n : Int), .slice bp bl bc]] w fun e w' => Read2 w w' b h b2 sp c xs e := by
  have hne := hd.ne
  have hlt := hd.rd.lt
  have hlt2 := hd.ey.lt
  have HA : Hid (Below w.heap.size w (w.alloc (.cells #[.int .i64 kind, .int .i64 which, .int .i64 m, .int .u64 (n : Int), .slice bp bl bc] 60))) := (Below.refl _ _).alloc (Nat.le_refl _) _
  have HD := hide (hd.below HA.out)
  clear hd
  have HC := hide (fun W hW => end_any W b h xs a f hW)
  have HC2 := hide (fun W hW => eend_any W b2 sp c xs a f hW)
  generalize pEnd xs.length a f = E at *
  go_enter Try.func25, Try.ntmps25
  go_wp2_with fail
  refine (HC.out _ HD.out.rd).mono ?_
  rintro e w1 ⟨rfl, hb1⟩
  have HD1 := hide (HD.out.below hb1)
  have HB1 : Hid (Below w.heap.size w w1) := HA.out.trans (hb1.mono HA.out.size)
  clear hb1
  go_wp2_with fail
  refine (num_any _ _).mono ?_
  rintro e w2 ⟨rfl, rfl⟩
  go_wp2_with fail
  refine (HC2.out _ HD1.out.ey).mono ?_
  rintro e w3 ⟨rfl, hb3⟩
  have HD3 := hide (HD1.out.below hb3)
  have HB3 : Hid (Below w.heap.size w w3) := HB1.out.trans (hb3.mono HB1.out.size)
  clear hb3
  go_wp2
  go_ret
  exact ⟨by simp, a, f, HD3.out, kept_below HB3.out⟩

set_option maxRecDepth 100000 in
set_option maxHeartbeats 1000000 in
theorem reads_none (w : World) (b h b2 : Nat) (sp : Option Addr) (c : Nat) (xs : List Nat) (a f : Nat) (kind which m : Int) (n : Nat) (bp : Option Addr) (bl bc : Nat) (hd : Duo w b h b2 sp c xs a f) (_hm : m ≤ 9223372036854775807) (_hn : n < 18446744073709551616)
    (k1 : (kind == 1) = false) (k2 : (kind == 2) = false) (k3 : (kind == 3) = false) (k4 : (kind == 4) = false) (k5 : (kind == 5) = false) (k6 : (kind == 6) = false) (k7 : (kind == 7) = false) (k8 : (kind == 8) = false) (k9 : (kind == 9) = false) (k10 : (kind == 10) = false) :
    Calls Try.prog 25 #[.pointer (some ⟨b, 0, none⟩), .pointer (some ⟨b2, 0, none⟩), .agg #[.int .i64 kind, .int .i64 which, .int .i64 m, .int .u64 (n : Int), .slice bp bl bc]] w fun e w' => Read2 w w' b h b2 sp c xs e := by
  have hne := hd.ne
  have hlt := hd.rd.lt
  have hlt2 := hd.ey.lt
  have HA : Hid (Below w.heap.size w (w.alloc (.cells #[.int .i64 kind, .int .i64 which, .int .i64 m, .int .u64 (n : Int), .slice bp bl bc] 60))) := (Below.refl _ _).alloc (Nat.le_refl _) _
  have HD := hide (hd.below HA.out)
  clear hd
  go_enter Try.func25, Try.ntmps25
  go_wp2
  go_ret
  exact ⟨rfl, a, f, HD.out, kept_below HA.out⟩

theorem reads_any (w : World) (b h b2 : Nat) (sp : Option Addr) (c : Nat) (xs : List Nat) (a f : Nat) (o : Op1) (hd : Duo w b h b2 sp c xs a f) (hm : o.m ≤ 9223372036854775807) (hn : o.n < 18446744073709551616) :
    Calls Try.prog 25 #[.pointer (some ⟨b, 0, none⟩), .pointer (some ⟨b2, 0, none⟩), .agg #[.int .i64 o.kind, .int .i64 o.which, .int .i64 o.m, .int .u64 (o.n : Int), .slice o.bp o.bl o.bc]] w fun e w' => Read2 w w' b h b2 sp c xs e := by
  obtain ⟨kind, which, m, n, bp, bl, bc, bs⟩ := o
  simp only at hm hn ⊢
  by_cases k1 : (kind == 1) = true
  · exact reads_u8 w b h b2 sp c xs a f kind which m n bp bl bc hd hm hn k1
  simp only [Bool.not_eq_true] at k1
  by_cases k2 : (kind == 2) = true
  · exact reads_u32 w b h b2 sp c xs a f kind which m n bp bl bc hd hm hn k1 k2
  simp only [Bool.not_eq_true] at k2
  by_cases k3 : (kind == 3) = true
  · exact reads_u64 w b h b2 sp c xs a f kind which m n bp bl bc hd hm hn k1 k2 k3
  simp only [Bool.not_eq_true] at k3
  by_cases k4 : (kind == 4) = true
  · exact reads_var w b h b2 sp c xs a f kind which m n bp bl bc hd hm hn k1 k2 k3 k4
  simp only [Bool.not_eq_true] at k4
  by_cases k5 : (kind == 5) = true
  · exact reads_bytes w b h b2 sp c xs a f kind which m n bp bl bc hd hm hn k1 k2 k3 k4 k5
  simp only [Bool.not_eq_true] at k5
  by_cases k6 : (kind == 6) = true
  · exact reads_raw w b h b2 sp c xs a f kind which m n bp bl bc hd hm hn k1 k2 k3 k4 k5 k6
  simp only [Bool.not_eq_true] at k6
  by_cases k7 : (kind == 7) = true
  · exact reads_left w b h b2 sp c xs a f kind which m n bp bl bc hd hm hn k1 k2 k3 k4 k5 k6 k7
  simp only [Bool.not_eq_true] at k7
  by_cases k8 : (kind == 8) = true
  · exact reads_at w b h b2 sp c xs a f kind which m n bp bl bc hd hm hn k1 k2 k3 k4 k5 k6 k7 k8
  simp only [Bool.not_eq_true] at k8
  by_cases k9 : (kind == 9) = true
  · exact reads_fault w b h b2 sp c xs a f kind which m n bp bl bc hd hm hn k1 k2 k3 k4 k5 k6 k7 k8 k9
  simp only [Bool.not_eq_true] at k9
  by_cases k10 : (kind == 10) = true
  · exact reads_end w b h b2 sp c xs a f kind which m n bp bl bc hd hm hn k1 k2 k3 k4 k5 k6 k7 k8 k9 k10
  simp only [Bool.not_eq_true] at k10
  exact reads_none w b h b2 sp c xs a f kind which m n bp bl bc hd hm hn k1 k2 k3 k4 k5 k6 k7 k8 k9 k10

end Go.Proofs.Ytlnldipiofddkab
